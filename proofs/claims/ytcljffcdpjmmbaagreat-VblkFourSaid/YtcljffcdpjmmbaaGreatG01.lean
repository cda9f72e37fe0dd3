import Derived.Laws.StructEq
import Derived.Laws.OwnMore
import Derived.Shelf.Small.Bits
import Derived.Shelf.Strconv.Itoa0
import Derived.Shelf.Sort.Plain
import Derived.Shelf.Slices.Equal
import Derived.Ground.Names2Prog
import Derived.Shelf.Slices.Clone
import Derived.Shelf.Slices.SearchI
import Derived.Shelf.Slices.Delete
import Derived.Shelf.Slices.Cells
import Derived.Shelf.Slices.In.SortNone
import Derived.Shelf.Slices.Empties
import Derived.Shelf.Slices.Empties2
import Derived.Ground.SlgnProg
import Derived.Shelf.SlicesE.Clone
import Derived.Test.YtcljffcdpjmmbaaGreatProg
import Derived.Shelf.SlSorted.IsSorted
import Derived.Ground.SlsoProg
import Derived.Shelf.SlGeneric
import Derived.Shelf.SlicesQ.IndexFunc
import Derived.Ground.SlgfProg
import Derived.Lib.SliceRun
import Derived.Deep.RegionLaw
import Derived.Laws.AppendOwnNone
import Derived.Deep.RegionHeld3
import Derived.Test.YtcljffcdpjmmbaaGreatG00
namespace Go.Proofs.YtcljffcdpjmmbaaGreat
open Go.RowKit Go.Lib
set_option maxHeartbeats 1000000 in
theorem availAt_out (a:Option Addr) (n c:Nat) (hn:n≤maxLen) (b z:Int) (k:Nat) (h:ringF n b z=70) (w:World) :
 Calls Tryz.prog 49 #[.agg #[.slice a n c],.int .i64 b,.int .i64 z,.int .u16 (k:Nat)] w fun e w'=>e=.returned (.tuple #[.int .i64 0,.int .i64 70])∧Below w.heap.size w w':=by
 have HB0:=Zh ((Below.refl w.heap.size w).alloc (Nat.le_refl _) (.cells #[.slice a n c] 24))
 have HN:=Zh hn
 have H:=Zh h
 clear hn h
 go_enter Tryz.func49,Tryz.ntmps49
 go_wp2_with fail
 refine (ringFault_any _ _ _ HN.out _ _ _ H.out _).mono ?_
 rintro e w1 ⟨rfl,hb⟩
 have HB1:=Zh (HB0.out.trans (hb.mono (by simp)))
 clear hb
 go_wp2
 go_ret2
 exact ⟨rfl,HB1.out⟩
set_option maxHeartbeats 1000000 in
theorem usedAt_out (a:Option Addr) (n c:Nat) (hn:n≤maxLen) (b z:Int) (k:Nat) (h:ringF n b z=70) (w:World) :
 Calls Tryz.prog 103 #[.agg #[.slice a n c],.int .i64 b,.int .i64 z,.int .u16 (k:Nat)] w fun e w'=>e=.returned (.tuple #[.agg #[.int .u32 0,.int .u32 0],.int .i64 70])∧Below w.heap.size w w':=by
 have HB0:=Zh (((Below.refl w.heap.size w).alloc (Nat.le_refl _) (.cells #[.slice a n c] 24)).alloc (by simp) (.cells #[.int .u32 0,.int .u32 0] 126))
 have HN:=Zh hn
 have H:=Zh h
 clear hn h
 go_enter Tryz.func103,Tryz.ntmps103
 go_wp2_with fail
 refine (ringFault_any _ _ _ HN.out _ _ _ H.out _).mono ?_
 rintro e w1 ⟨rfl,hb⟩
 have hr1:=row_keep (heap_alloc_new (w.alloc (.cells #[.slice a n c] 24)) (.cells #[.int .u32 0,.int .u32 0] 126)) hb
 have HR1:=Zh (show w1.heap[w.heap.size+1]? = some (.cells #[.int .u32 0,.int .u32 0] 126) by simpa using hr1)
 have HB1:=Zh (HB0.out.trans (hb.mono (by simp; omega)))
 obtain ⟨r0,g0⟩:=at_cell HR1.out 0 _ rfl
 obtain ⟨r1,g1⟩:=at_cell HR1.out 1 _ rfl
 clear hb hr1
 go_wp2
 refine bodyPost_ret (v:=.tuple #[.agg #[.int .u32 0,.int .u32 0],.int .i64 70]) (by simp [results,Tryz.results103,go_sem,r0,r1]) rfl ⟨rfl,?_⟩
 exact (HB1.out.setCell (by simp) _).setCell (by simp) _
theorem ringF_two {L:Nat} {b z:Int} (h:ringF L b z≠0):ringF L b z=70:=by
 rcases ring_cases L b z with ⟨_,h1⟩|⟨_,_,_,_,_,h1⟩
 · exact h1
 · exact absurd h1 h
theorem ring_in {L:Nat} {b z:Int} (h:ringF L b z=0):∃ B N:Nat,b=B∧z=N∧RingOk L B N:=by
 rcases ring_cases L b z with ⟨_,h1⟩|⟨B,N,h2,h3,h4,_⟩
 · omega
 · exact ⟨B,N,h2,h3,h4⟩
theorem availAt_any (v:Value) (l:List UInt8) (b z:Int) (k:Nat) (hk:k < 65536) (F:Int) (y:Nat) (hF:ringF l.length b z=F) (hy:availAtX l b z k=y) (hl:l.length≤maxLen) (w:World) (hv:IsArg w v l) :
 Calls Tryz.prog 49 #[.agg #[v],.int .i64 b,.int .i64 z,.int .u16 (k:Nat)] w fun e w'=>e=.returned (.tuple #[.int .i64 (y:Nat),.int .i64 F])∧Below w.heap.size w w':=by
 by_cases h0:F=0
 · subst h0
   obtain ⟨B,N,rfl,rfl,hok⟩:=ring_in hF
   rw [availAtX,if_pos hF,Int.toNat_natCast,Int.toNat_natCast] at hy
   exact availAt_in v l w hv B N k _ hok hk rfl y hy
 · have h7:=ringF_two (by rw [hF]; exact h0)
   obtain rfl:F=70:=by omega
   rw [availAtX,if_neg (by rw [h7]; decide)] at hy
   subst hy
   obtain ⟨a,c,rfl,_⟩:=hv.shape
   exact availAt_out a l.length c hl b z k h7 w
theorem usedAt_any (v:Value) (l:List UInt8) (b z:Int) (k:Nat) (hk:k < 65536) (F:Int) (x0 x1:Nat) (hF:ringF l.length b z=F) (h0:usedAtX l b z k 0=x0) (h1:usedAtX l b z k 4=x1) (hl:l.length≤maxLen) (w:World) (hv:IsArg w v l) :
 Calls Tryz.prog 103 #[.agg #[v],.int .i64 b,.int .i64 z,.int .u16 (k:Nat)] w fun e w'=>e=.returned (.tuple #[.agg #[.int .u32 (x0:Nat),.int .u32 (x1:Nat)],.int .i64 F])∧Below w.heap.size w w':=by
 by_cases hz:F=0
 · subst hz
   obtain ⟨B,N,rfl,rfl,hok⟩:=ring_in hF
   rw [usedAtX,if_pos hF,Int.toNat_natCast,Int.toNat_natCast] at h0 h1
   exact usedAt_in v l w hv B N k _ hok hk rfl x0 x1 h0 h1
 · have h7:=ringF_two (by rw [hF]; exact hz)
   obtain rfl:F=70:=by omega
   rw [usedAtX,if_neg (by rw [h7]; decide)] at h0 h1
   subst h0
   subst h1
   obtain ⟨a,c,rfl,_⟩:=hv.shape
   exact usedAt_out a l.length c hl b z k h7 w
set_option maxHeartbeats 1000000 in
theorem index_out_avail (a:Option Addr) (n c:Nat) (hn:n≤maxLen) (b z:Int) (h:ringF n b z=70) (w:World) :
 Calls Tryz.prog 81 #[.agg #[.slice a n c],.int .i64 b,.int .i64 z,.func (.func 82) #[] #[]] w fun e w'=>e=.returned (.tuple #[.int .u16 0,.int .i64 70])∧Below w.heap.size w w':=by
 have HB0:=Zh ((Below.refl w.heap.size w).alloc (Nat.le_refl _) (.cells #[.slice a n c] 24))
 have HN:=Zh hn
 have H:=Zh h
 clear hn h
 go_enter Tryz.func81,Tryz.ntmps81
 go_wp2_with fail
 refine (ringFault_any _ _ _ HN.out _ _ _ H.out _).mono ?_
 rintro e w1 ⟨rfl,hb⟩
 have HB1:=Zh (HB0.out.trans (hb.mono (by simp)))
 clear hb
 go_wp2
 go_ret2
 exact ⟨rfl,HB1.out⟩
structure RngAvailX where
 (b0 b1 b2 b3 b4 b5 b6 b7 b8 b9 b10:Bool)
 (s18 s19 s20 s21 s22 s23 s24 s25 s26 s8 s9:Value)
set_option maxHeartbeats 4000000 in
set_option maxRecDepth 100000 in
theorem index_in_avail (v:Value) (l:List UInt8) (w:World) (hv:IsArg w v l) (B N p:Nat) (hok:RingOk l.length B N) (hp:B+16 * N+2=p) (y:Nat) (hy:numAt l p 2=y) :
 Calls Tryz.prog 81 #[.agg #[v],.int .i64 (B:Nat),.int .i64 (N:Nat),.func (.func 82) #[] #[]] w fun e w'=>e=.returned (.tuple #[.int .u16 (y:Nat),.int .i64 0])∧Below w.heap.size w w':=by
 have hN:=hok.right.le
 have hsz:=sizeN_le N
 have hfit:=hok.fits
 have hL:=hok.few
 have HL:=Zh hL
 have HB8:=Zh (show B≤8192 by omega)
 have HN:=Zh hN
 have HMX:=Zh (show l.length≤maxLen by unfold maxLen; omega)
 have HF:=Zh (show ringF l.length (B:Int) (N:Int)=0 by rw [ringF,if_pos hok.ok])
 have HV:=Zh hv
 have hpl:p+2≤l.length:=by omega
 have HP:=Zh (show ∀ W,Calls Tryz.prog 82 #[.int .i64 (B:Nat),.int .i64 (N:Nat)] W fun e w'=>∃ a b,e=.returned (.agg #[.int .i64 (p:Nat),.func (.func 142) #[] #[.pointer (some ⟨a,0,none⟩),.pointer (some ⟨b,0,none⟩)]])∧RowAt w' a b (B+16 * N+4:Nat) 2∧Below W.heap.size W w' from fun W=>availPart_any B N p _ hp rfl (by omega) hN.2 W)
 have hy2:y < 65536:=by rw [←hy]; exact numAt_lt l p 2
 have hyw:IntKind.u16.wrap ((y:Nat):Int)=(y:Nat):=IntWalk.u16_in _ (by omega)
 have HB0:=Zh ((Below.refl w.heap.size w).alloc (Nat.le_refl _) (.cells #[v] 24))
 have HPL:=Zh hpl
 have HY:=Zh hy
 obtain ⟨va,vc,rfl,_⟩:=hv.shape
 clear hN hsz hfit hL hv hpl hok hy hp
 go_enter Tryz.func81,Tryz.ntmps81
 go_wp2_with fail
 refine (ringFault_any _ _ _ HMX.out _ _ _ HF.out _).mono ?_
 rintro e w1 ⟨rfl,hb⟩
 have hr0:=row_keep (heap_alloc_new w (.cells #[.slice va l.length vc] 24)) hb
 have HB1:=Zh (HB0.out.trans (hb.mono (by simp)))
 have HM:=Zh (show ∀ W,Below w1.heap.size w1 W→W.cell? ⟨w.heap.size,0,none⟩=some (.slice va l.length vc)∧W.frozen? ⟨w.heap.size,0,none⟩=false from fun W h=>one_cell (row_keep hr0 h))
 have HG:=Zh (show ∀ W,Below w1.heap.size w1 W→Calls Tryz.prog 84 #[.agg #[.slice va l.length vc],.int .i64 (p:Nat)] W fun e w'=>∃ a b,e=.returned (.func (.func 124) #[] #[.pointer (some ⟨a,0,none⟩),.pointer (some ⟨b,0,none⟩)])∧GetAt w' a b (.slice va l.length vc) p∧W.heap.size≤a∧W.heap.size≤b∧Below W.heap.size W w' from fun W h=>getter_any _ l p W (HV.out.below (HB1.out.trans (h.mono HB1.out.size))))
 have HN2:=Zh (show ∀ W,Below w1.heap.size w1 W→∀ ga gb,GetAt W ga gb (.slice va l.length vc) p→Calls Tryz.prog 124 #[.int .i64 2,.pointer (some ⟨ga,0,none⟩),.pointer (some ⟨gb,0,none⟩)] W fun e w'=>e=.returned (.int .u64 (y:Nat))∧Save1 W w' gb from fun W h ga gb hg=>(get_num ga gb _ l p 2 (p+2) rfl HL.out HPL.out (by decide) (by decide) W (HV.out.below (HB1.out.trans (h.mono HB1.out.size))) hg).mono fun e w' ⟨h1,_,h3⟩=>by rw [HY.out] at h1; exact ⟨h1,h3⟩)
 clear hb hr0
 go_wp2_with fail
 refine wp_region_rec (X:=RngAvailX) (by kernel_rfl) (by kernel_rfl) (fun x=>#[x.b0,x.b1,x.b2,x.b3,x.b4,x.b5,x.b6,x.b7,x.b8,x.b9,x.b10]) (fun x=>{ tmps:=#[.agg #[.slice va l.length vc],.int .i64 (B:Nat),.int .i64 (N:Nat),.func (.func 82) #[] #[],.pointer (some ⟨w.heap.size,0,none⟩),undef,undef,undef,x.s8,x.s9,.int .i64 0,.agg #[.slice va l.length vc],.int .i64 (B:Nat),.int .i64 (N:Nat),.int .i64 0,.int .i64 0,.bool false,undef,x.s18,x.s19,x.s20,x.s21,x.s22,x.s23,x.s24,x.s25,x.s26],defers:=[] }) (fun x W=>(x.b0→x.s18=.agg #[.slice va l.length vc])∧(x.b1→x.s19=.func (.func 82) #[] #[])∧(x.b2→x.s20=.int .i64 (B:Nat))∧(x.b3→x.s21=.int .i64 (N:Nat))∧(x.b5→x.s23=.int .i64 (p:Nat))∧(x.b7→x.s25=.int .u64 (y:Nat))∧(x.b8→x.s26=.int .u16 (y:Nat))∧(x.b9→x.s8=.int .u16 (y:Nat))∧(x.b10→x.s9=.int .i64 0)∧(x.b4→∃ a b,x.s22=.agg #[.int .i64 (p:Nat),.func (.func 142) #[] #[.pointer (some ⟨a,0,none⟩),.pointer (some ⟨b,0,none⟩)]])∧(x.b7=false→x.b6→∃ ga gb,x.s24=.func (.func 124) #[] #[.pointer (some ⟨ga,0,none⟩),.pointer (some ⟨gb,0,none⟩)]∧GetAt W ga gb (.slice va l.length vc) p∧w1.heap.size≤gb)∧(Below w1.heap.size w1 W)) ⟨false,false,false,false,false,false,false,false,false,false,false,undef,undef,undef,undef,undef,undef,undef,undef,undef,.int .u16 0,.int .i64 0⟩ rfl rfl ⟨Zf,Zf,Zf,Zf,Zf,Zf,Zf,Zf,Zf,Zf,(fun _ h=>by cases h),(Below.refl _ _).drew⟩ (fun _=>rfl) ?hstep ?hdone
 case hstep =>
  rintro ⟨b0,b1,b2,b3,b4,b5,b6,b7,b8,b9,b10,s18,s19,s20,s21,s22,s23,s24,s25,s26,s8,s9⟩ W hI i hi
  dsimp only at hI hi ⊢
  have HI:=Zh hI
  clear hI
  rw [Region.ready,List.mem_filter,List.mem_range] at hi
  obtain ⟨hlt,hp⟩:=hi
  have hi7:i=0∨i=1∨i=2∨i=3∨i=4∨i=5∨i=6∨i=7∨i=8∨i=9∨i=10:=by simp at hlt; omega
  clear hlt
  rcases hi7 with rfl|rfl|rfl|rfl|rfl|rfl|rfl|rfl|rfl|rfl|rfl
  all_goals simp [Region.binds] at hp
  · obtain rfl:b0=false:=by revert hp; cases b0 <;> simp
    clear hp; refine Zv 18 fun K' hK'=>?_
    have gW:=(Ze HI.out).2.2.2
    obtain ⟨hc1,hc2⟩:=HM.out W gW
    go_simp
    exact hK'.out _ _ ⟨.mk ..,rfl,rfl,(Upd (fun _=>rfl)) HI.out⟩
  · obtain rfl:b1=false:=by revert hp; cases b1 <;> simp
    clear hp; refine Zv 19 fun K' hK'=>?_
    go_simp
    exact hK'.out _ _ ⟨.mk ..,rfl,rfl,Nxt (Upd (fun _=>rfl)) HI.out⟩
  · obtain rfl:b2=false:=by revert hp; cases b2 <;> simp
    clear hp; refine Zv 20 fun K' hK'=>?_
    go_simp
    exact hK'.out _ _ ⟨.mk ..,rfl,rfl,Nxt (Nxt (Upd (fun _=>rfl))) HI.out⟩
  · obtain rfl:b3=false:=by revert hp; cases b3 <;> simp
    clear hp; refine Zv 21 fun K' hK'=>?_
    go_simp
    exact hK'.out _ _ ⟨.mk ..,rfl,rfl,Nxt (Nxt (Nxt (Upd (fun _=>rfl)))) HI.out⟩
  · have hn4:b4=false:=by revert hp; cases b4 <;> simp
    have e1:b1=true:=by revert hp; cases b1 <;> simp
    have e2:b2=true:=by revert hp; cases b2 <;> simp
    have e3:b3=true:=by revert hp; cases b3 <;> simp
    clear hp
    obtain rfl:=(HI.out.2.1) e1
    obtain rfl:=(HI.out.2.2.1) e2
    obtain rfl:=(HI.out.2.2.2.1) e3
    subst hn4
    refine Zv 22 fun K' hK'=>?_
    go_simp
    refine (HP.out W).mono ?_
    rintro e w2 ⟨a,b,rfl,hr,bn⟩
    obtain ⟨h0,h1,h2,h3,h5,h7,h8,h9,h10,gR,gG,gW⟩:=HI.out
    exact hK'.out _ _ ⟨.mk ..,rfl,rfl,h0,h1,h2,h3,h5,h7,h8,h9,h10,(fun _=>⟨a,b,rfl⟩),(fun e7 e6=>by obtain ⟨ga,gb,h1,h2,h3⟩:=gG e7 e6; exact ⟨ga,gb,h1,h2.below bn,h3⟩),(gW.trans (bn.mono gW.size))⟩
  · obtain ⟨rfl,e4⟩:b5=false∧b4=true:=by revert hp; cases b5 <;> cases b4 <;> simp
    clear hp; refine Zv 23 fun K' hK'=>?_
    have gR:=(Ze HI.out).2.1
    obtain ⟨a,b,rfl⟩:=gR e4
    have hfi:=field_index
    go_simp
    exact hK'.out _ _ ⟨.mk ..,rfl,rfl,Nx4 (Upd (fun _=>rfl)) HI.out⟩
  · obtain ⟨rfl,e0,e5⟩:b6=false∧b0=true∧b5=true:=by revert hp; cases b6 <;> cases b0 <;> cases b5 <;> simp
    clear hp
    obtain rfl:=(HI.out.1) e0
    obtain rfl:=((Zd HI.out).1) e5
    refine Zv 24 fun K' hK'=>?_
    have gW:=(Ze HI.out).2.2.2
    go_simp
    refine (HG.out W gW).mono ?_
    rintro e w2 ⟨ga,gb,rfl,hg,h1,hb,bn⟩
    obtain ⟨h0,h1,h2,h3,h5,h7,h8,h9,h10,gR,gG,gW⟩:=HI.out
    exact hK'.out _ _ ⟨.mk ..,rfl,rfl,h0,h1,h2,h3,h5,h7,h8,h9,h10,gR,(fun _ _=>⟨ga,gb,rfl,hg,Nat.le_trans gW.size hb⟩),(gW.trans (bn.mono gW.size))⟩
  · obtain ⟨rfl,e6⟩:b7=false∧b6=true:=by revert hp; cases b7 <;> cases b6 <;> simp
    clear hp; refine Zv 25 fun K' hK'=>?_
    have gG:=(Ze HI.out).2.2.1
    have gW:=(Ze HI.out).2.2.2
    obtain ⟨ga,gb,rfl,hg,hb⟩:=gG rfl e6
    go_simp
    refine (HN2.out W gW ga gb hg).mono ?_
    rintro e w2 ⟨rfl,hs⟩
    obtain ⟨h0,h1,h2,h3,h5,h7,h8,h9,h10,gR,gG,gW⟩:=HI.out
    exact hK'.out _ _ ⟨.mk ..,rfl,rfl,h0,h1,h2,h3,h5,(fun _=>rfl),h8,h9,h10,gR,Zf,(hs.below gW hb gW.size)⟩
  · obtain ⟨rfl,e7⟩:b8=false∧b7=true:=by revert hp; cases b8 <;> cases b7 <;> simp
    clear hp
    obtain rfl:=((Zd HI.out).2.1) e7
    refine Zv 26 fun K' hK'=>?_
    go_simp
    exact hK'.out _ _ ⟨.mk ..,rfl,rfl,Nxt (Nxt (Nx4 (Upd (fun _=>rfl)))) HI.out⟩
  · obtain ⟨rfl,e8⟩:b9=false∧b8=true:=by revert hp; cases b9 <;> cases b8 <;> simp
    clear hp
    obtain rfl:=((Zd HI.out).2.2.1) e8
    refine Zv 8 fun K' hK'=>?_
    go_simp
    exact hK'.out _ _ ⟨.mk ..,rfl,rfl,Nxt (Nxt (Nxt (Nx4 (Upd (fun _=>rfl))))) HI.out⟩
  · obtain rfl:b10=false:=by revert hp; cases b10 <;> simp
    clear hp; refine Zv 9 fun K' hK'=>?_
    go_simp
    exact hK'.out _ _ ⟨.mk ..,rfl,rfl,Nx4 (Nx4 (Upd (fun _=>rfl))) HI.out⟩
 case hdone =>
  rintro ⟨b0,b1,b2,b3,b4,b5,b6,b7,b8,b9,b10,s18,s19,s20,s21,s22,s23,s24,s25,s26,s8,s9⟩ W hI hall
  dsimp only at hI hall ⊢
  have HI:=Zh hI
  clear hI
  obtain rfl:b0=true:=hall 0 (by decide)
  obtain rfl:b1=true:=hall 1 (by decide)
  obtain rfl:b2=true:=hall 2 (by decide)
  obtain rfl:b3=true:=hall 3 (by decide)
  obtain rfl:b4=true:=hall 4 (by decide)
  obtain rfl:b5=true:=hall 5 (by decide)
  obtain rfl:b6=true:=hall 6 (by decide)
  obtain rfl:b7=true:=hall 7 (by decide)
  obtain rfl:b8=true:=hall 8 (by decide)
  obtain rfl:b9=true:=hall 9 (by decide)
  obtain rfl:b10=true:=hall 10 (by decide)
  obtain rfl:=((Zd HI.out).2.2.2.1) rfl
  obtain rfl:=((Ze HI.out).1) rfl
  have gW:=(Ze HI.out).2.2.2
  clear HI hall
  have HW:=Zh (HB1.out.trans (gW.mono HB1.out.size))
  clear gW
  go_wp2
  go_ret2
  exact ⟨rfl,HW.out⟩
theorem avail_any (v:Value) (l:List UInt8) (b z:Int) (F:Int) (y:Nat) (hF:ringF l.length b z=F) (hy:availX l b z=y) (hl:l.length≤maxLen) (w:World) (hv:IsArg w v l) :
 Calls Tryz.prog 48 #[.agg #[v],.int .i64 b,.int .i64 z] w fun e w'=>e=.returned (.tuple #[.int .u16 (y:Nat),.int .i64 F])∧Below w.heap.size w w':=by
 have HX:=Zh (show ∀ W,IsArg W v l→Calls Tryz.prog 81 #[.agg #[v],.int .i64 b,.int .i64 z,.func (.func 82) #[] #[]] W fun e w'=>e=.returned (.tuple #[.int .u16 (y:Nat),.int .i64 F])∧Below W.heap.size W w' from by
  intro W hW
  by_cases h0:F=0
  · subst h0
    obtain ⟨B,N,rfl,rfl,hok⟩:=ring_in hF
    rw [availX,if_pos hF,Int.toNat_natCast,Int.toNat_natCast] at hy
    exact index_in_avail v l W hW B N _ hok rfl y hy
  · have h7:=ringF_two (by rw [hF]; exact h0)
    obtain rfl:F=70:=by omega
    rw [availX,if_neg (by rw [h7]; decide)] at hy
    subst hy
    obtain ⟨a,c,rfl,_⟩:=hW.shape
    exact index_out_avail a l.length c hl b z h7 W)
 have HV:=Zh hv
 have HB0:=Zh ((Below.refl w.heap.size w).alloc (Nat.le_refl _) (.cells #[v] 24))
 obtain ⟨a,c,rfl,_⟩:=hv.shape
 clear hF hy hl hv
 go_enter Tryz.func48,Tryz.ntmps48
 go_wp2_with fail
 refine (HX.out _ (HV.out.below HB0.out)).mono ?_
 rintro e w1 ⟨rfl,hb⟩
 have HB1:=Zh (HB0.out.trans (hb.mono (by simp)))
 clear hb
 go_wp2
 go_ret2
 exact ⟨rfl,HB1.out⟩
set_option maxHeartbeats 1000000 in
theorem index_out_used (a:Option Addr) (n c:Nat) (hn:n≤maxLen) (b z:Int) (h:ringF n b z=70) (w:World) :
 Calls Tryz.prog 81 #[.agg #[.slice a n c],.int .i64 b,.int .i64 z,.func (.func 76) #[] #[]] w fun e w'=>e=.returned (.tuple #[.int .u16 0,.int .i64 70])∧Below w.heap.size w w':=by
 have HB0:=Zh ((Below.refl w.heap.size w).alloc (Nat.le_refl _) (.cells #[.slice a n c] 24))
 have HN:=Zh hn
 have H:=Zh h
 clear hn h
 go_enter Tryz.func81,Tryz.ntmps81
 go_wp2_with fail
 refine (ringFault_any _ _ _ HN.out _ _ _ H.out _).mono ?_
 rintro e w1 ⟨rfl,hb⟩
 have HB1:=Zh (HB0.out.trans (hb.mono (by simp)))
 clear hb
 go_wp2
 go_ret2
 exact ⟨rfl,HB1.out⟩
structure RngUsedX where
 (b0 b1 b2 b3 b4 b5 b6 b7 b8 b9 b10:Bool)
 (s18 s19 s20 s21 s22 s23 s24 s25 s26 s8 s9:Value)
set_option maxHeartbeats 4000000 in
set_option maxRecDepth 100000 in
theorem index_in_used (v:Value) (l:List UInt8) (w:World) (hv:IsArg w v l) (B N p:Nat) (hok:RingOk l.length B N) (hp:B+secN N+2=p) (y:Nat) (hy:numAt l p 2=y) :
 Calls Tryz.prog 81 #[.agg #[v],.int .i64 (B:Nat),.int .i64 (N:Nat),.func (.func 76) #[] #[]] w fun e w'=>e=.returned (.tuple #[.int .u16 (y:Nat),.int .i64 0])∧Below w.heap.size w w':=by
 have hN:=hok.right.le
 have hsz:=sizeN_le N
 have hfit:=hok.fits
 have hL:=hok.few
 have HL:=Zh hL
 have HB8:=Zh (show B≤8192 by omega)
 have HN:=Zh hN
 have HMX:=Zh (show l.length≤maxLen by unfold maxLen; omega)
 have HF:=Zh (show ringF l.length (B:Int) (N:Int)=0 by rw [ringF,if_pos hok.ok])
 have HV:=Zh hv
 have hpl:p+2≤l.length:=by omega
 have HP:=Zh (show ∀ W,Calls Tryz.prog 76 #[.int .i64 (B:Nat),.int .i64 (N:Nat)] W fun e w'=>∃ a b,e=.returned (.agg #[.int .i64 (p:Nat),.func (.func 142) #[] #[.pointer (some ⟨a,0,none⟩),.pointer (some ⟨b,0,none⟩)]])∧RowAt w' a b (B+secN N+4:Nat) 8∧Below W.heap.size W w' from fun W=>usedPart_any B N p _ hp rfl (by omega) hN.2 W)
 have hy2:y < 65536:=by rw [←hy]; exact numAt_lt l p 2
 have hyw:IntKind.u16.wrap ((y:Nat):Int)=(y:Nat):=IntWalk.u16_in _ (by omega)
 have HB0:=Zh ((Below.refl w.heap.size w).alloc (Nat.le_refl _) (.cells #[v] 24))
 have HPL:=Zh hpl
 have HY:=Zh hy
 obtain ⟨va,vc,rfl,_⟩:=hv.shape
 clear hN hsz hfit hL hv hpl hok hy hp
 go_enter Tryz.func81,Tryz.ntmps81
 go_wp2_with fail
 refine (ringFault_any _ _ _ HMX.out _ _ _ HF.out _).mono ?_
 rintro e w1 ⟨rfl,hb⟩
 have hr0:=row_keep (heap_alloc_new w (.cells #[.slice va l.length vc] 24)) hb
 have HB1:=Zh (HB0.out.trans (hb.mono (by simp)))
 have HM:=Zh (show ∀ W,Below w1.heap.size w1 W→W.cell? ⟨w.heap.size,0,none⟩=some (.slice va l.length vc)∧W.frozen? ⟨w.heap.size,0,none⟩=false from fun W h=>one_cell (row_keep hr0 h))
 have HG:=Zh (show ∀ W,Below w1.heap.size w1 W→Calls Tryz.prog 84 #[.agg #[.slice va l.length vc],.int .i64 (p:Nat)] W fun e w'=>∃ a b,e=.returned (.func (.func 124) #[] #[.pointer (some ⟨a,0,none⟩),.pointer (some ⟨b,0,none⟩)])∧GetAt w' a b (.slice va l.length vc) p∧W.heap.size≤a∧W.heap.size≤b∧Below W.heap.size W w' from fun W h=>getter_any _ l p W (HV.out.below (HB1.out.trans (h.mono HB1.out.size))))
 have HN2:=Zh (show ∀ W,Below w1.heap.size w1 W→∀ ga gb,GetAt W ga gb (.slice va l.length vc) p→Calls Tryz.prog 124 #[.int .i64 2,.pointer (some ⟨ga,0,none⟩),.pointer (some ⟨gb,0,none⟩)] W fun e w'=>e=.returned (.int .u64 (y:Nat))∧Save1 W w' gb from fun W h ga gb hg=>(get_num ga gb _ l p 2 (p+2) rfl HL.out HPL.out (by decide) (by decide) W (HV.out.below (HB1.out.trans (h.mono HB1.out.size))) hg).mono fun e w' ⟨h1,_,h3⟩=>by rw [HY.out] at h1; exact ⟨h1,h3⟩)
 clear hb hr0
 go_wp2_with fail
 refine wp_region_rec (X:=RngUsedX) (by kernel_rfl) (by kernel_rfl) (fun x=>#[x.b0,x.b1,x.b2,x.b3,x.b4,x.b5,x.b6,x.b7,x.b8,x.b9,x.b10]) (fun x=>{ tmps:=#[.agg #[.slice va l.length vc],.int .i64 (B:Nat),.int .i64 (N:Nat),.func (.func 76) #[] #[],.pointer (some ⟨w.heap.size,0,none⟩),undef,undef,undef,x.s8,x.s9,.int .i64 0,.agg #[.slice va l.length vc],.int .i64 (B:Nat),.int .i64 (N:Nat),.int .i64 0,.int .i64 0,.bool false,undef,x.s18,x.s19,x.s20,x.s21,x.s22,x.s23,x.s24,x.s25,x.s26],defers:=[] }) (fun x W=>(x.b0→x.s18=.agg #[.slice va l.length vc])∧(x.b1→x.s19=.func (.func 76) #[] #[])∧(x.b2→x.s20=.int .i64 (B:Nat))∧(x.b3→x.s21=.int .i64 (N:Nat))∧(x.b5→x.s23=.int .i64 (p:Nat))∧(x.b7→x.s25=.int .u64 (y:Nat))∧(x.b8→x.s26=.int .u16 (y:Nat))∧(x.b9→x.s8=.int .u16 (y:Nat))∧(x.b10→x.s9=.int .i64 0)∧(x.b4→∃ a b,x.s22=.agg #[.int .i64 (p:Nat),.func (.func 142) #[] #[.pointer (some ⟨a,0,none⟩),.pointer (some ⟨b,0,none⟩)]])∧(x.b7=false→x.b6→∃ ga gb,x.s24=.func (.func 124) #[] #[.pointer (some ⟨ga,0,none⟩),.pointer (some ⟨gb,0,none⟩)]∧GetAt W ga gb (.slice va l.length vc) p∧w1.heap.size≤gb)∧(Below w1.heap.size w1 W)) ⟨false,false,false,false,false,false,false,false,false,false,false,undef,undef,undef,undef,undef,undef,undef,undef,undef,.int .u16 0,.int .i64 0⟩ rfl rfl ⟨Zf,Zf,Zf,Zf,Zf,Zf,Zf,Zf,Zf,Zf,(fun _ h=>by cases h),(Below.refl _ _).drew⟩ (fun _=>rfl) ?hstep ?hdone
 case hstep =>
  rintro ⟨b0,b1,b2,b3,b4,b5,b6,b7,b8,b9,b10,s18,s19,s20,s21,s22,s23,s24,s25,s26,s8,s9⟩ W hI i hi
  dsimp only at hI hi ⊢
  have HI:=Zh hI
  clear hI
  rw [Region.ready,List.mem_filter,List.mem_range] at hi
  obtain ⟨hlt,hp⟩:=hi
  have hi7:i=0∨i=1∨i=2∨i=3∨i=4∨i=5∨i=6∨i=7∨i=8∨i=9∨i=10:=by simp at hlt; omega
  clear hlt
  rcases hi7 with rfl|rfl|rfl|rfl|rfl|rfl|rfl|rfl|rfl|rfl|rfl
  all_goals simp [Region.binds] at hp
  · obtain rfl:b0=false:=by revert hp; cases b0 <;> simp
    clear hp; refine Zv 18 fun K' hK'=>?_
    have gW:=(Ze HI.out).2.2.2
    obtain ⟨hc1,hc2⟩:=HM.out W gW
    go_simp
    exact hK'.out _ _ ⟨.mk ..,rfl,rfl,(Upd (fun _=>rfl)) HI.out⟩
  · obtain rfl:b1=false:=by revert hp; cases b1 <;> simp
    clear hp; refine Zv 19 fun K' hK'=>?_
    go_simp
    exact hK'.out _ _ ⟨.mk ..,rfl,rfl,Nxt (Upd (fun _=>rfl)) HI.out⟩
  · obtain rfl:b2=false:=by revert hp; cases b2 <;> simp
    clear hp; refine Zv 20 fun K' hK'=>?_
    go_simp
    exact hK'.out _ _ ⟨.mk ..,rfl,rfl,Nxt (Nxt (Upd (fun _=>rfl))) HI.out⟩
  · obtain rfl:b3=false:=by revert hp; cases b3 <;> simp
    clear hp; refine Zv 21 fun K' hK'=>?_
    go_simp
    exact hK'.out _ _ ⟨.mk ..,rfl,rfl,Nxt (Nxt (Nxt (Upd (fun _=>rfl)))) HI.out⟩
  · have hn4:b4=false:=by revert hp; cases b4 <;> simp
    have e1:b1=true:=by revert hp; cases b1 <;> simp
    have e2:b2=true:=by revert hp; cases b2 <;> simp
    have e3:b3=true:=by revert hp; cases b3 <;> simp
    clear hp
    obtain rfl:=(HI.out.2.1) e1
    obtain rfl:=(HI.out.2.2.1) e2
    obtain rfl:=(HI.out.2.2.2.1) e3
    subst hn4
    refine Zv 22 fun K' hK'=>?_
    go_simp
    refine (HP.out W).mono ?_
    rintro e w2 ⟨a,b,rfl,hr,bn⟩
    obtain ⟨h0,h1,h2,h3,h5,h7,h8,h9,h10,gR,gG,gW⟩:=HI.out
    exact hK'.out _ _ ⟨.mk ..,rfl,rfl,h0,h1,h2,h3,h5,h7,h8,h9,h10,(fun _=>⟨a,b,rfl⟩),(fun e7 e6=>by obtain ⟨ga,gb,h1,h2,h3⟩:=gG e7 e6; exact ⟨ga,gb,h1,h2.below bn,h3⟩),(gW.trans (bn.mono gW.size))⟩
  · obtain ⟨rfl,e4⟩:b5=false∧b4=true:=by revert hp; cases b5 <;> cases b4 <;> simp
    clear hp; refine Zv 23 fun K' hK'=>?_
    have gR:=(Ze HI.out).2.1
    obtain ⟨a,b,rfl⟩:=gR e4
    have hfi:=field_index
    go_simp
    exact hK'.out _ _ ⟨.mk ..,rfl,rfl,Nx4 (Upd (fun _=>rfl)) HI.out⟩
  · obtain ⟨rfl,e0,e5⟩:b6=false∧b0=true∧b5=true:=by revert hp; cases b6 <;> cases b0 <;> cases b5 <;> simp
    clear hp
    obtain rfl:=(HI.out.1) e0
    obtain rfl:=((Zd HI.out).1) e5
    refine Zv 24 fun K' hK'=>?_
    have gW:=(Ze HI.out).2.2.2
    go_simp
    refine (HG.out W gW).mono ?_
    rintro e w2 ⟨ga,gb,rfl,hg,h1,hb,bn⟩
    obtain ⟨h0,h1,h2,h3,h5,h7,h8,h9,h10,gR,gG,gW⟩:=HI.out
    exact hK'.out _ _ ⟨.mk ..,rfl,rfl,h0,h1,h2,h3,h5,h7,h8,h9,h10,gR,(fun _ _=>⟨ga,gb,rfl,hg,Nat.le_trans gW.size hb⟩),(gW.trans (bn.mono gW.size))⟩
  · obtain ⟨rfl,e6⟩:b7=false∧b6=true:=by revert hp; cases b7 <;> cases b6 <;> simp
    clear hp; refine Zv 25 fun K' hK'=>?_
    have gG:=(Ze HI.out).2.2.1
    have gW:=(Ze HI.out).2.2.2
    obtain ⟨ga,gb,rfl,hg,hb⟩:=gG rfl e6
    go_simp
    refine (HN2.out W gW ga gb hg).mono ?_
    rintro e w2 ⟨rfl,hs⟩
    obtain ⟨h0,h1,h2,h3,h5,h7,h8,h9,h10,gR,gG,gW⟩:=HI.out
    exact hK'.out _ _ ⟨.mk ..,rfl,rfl,h0,h1,h2,h3,h5,(fun _=>rfl),h8,h9,h10,gR,Zf,(hs.below gW hb gW.size)⟩
  · obtain ⟨rfl,e7⟩:b8=false∧b7=true:=by revert hp; cases b8 <;> cases b7 <;> simp
    clear hp
    obtain rfl:=((Zd HI.out).2.1) e7
    refine Zv 26 fun K' hK'=>?_
    go_simp
    exact hK'.out _ _ ⟨.mk ..,rfl,rfl,Nxt (Nxt (Nx4 (Upd (fun _=>rfl)))) HI.out⟩
  · obtain ⟨rfl,e8⟩:b9=false∧b8=true:=by revert hp; cases b9 <;> cases b8 <;> simp
    clear hp
    obtain rfl:=((Zd HI.out).2.2.1) e8
    refine Zv 8 fun K' hK'=>?_
    go_simp
    exact hK'.out _ _ ⟨.mk ..,rfl,rfl,Nxt (Nxt (Nxt (Nx4 (Upd (fun _=>rfl))))) HI.out⟩
  · obtain rfl:b10=false:=by revert hp; cases b10 <;> simp
    clear hp; refine Zv 9 fun K' hK'=>?_
    go_simp
    exact hK'.out _ _ ⟨.mk ..,rfl,rfl,Nx4 (Nx4 (Upd (fun _=>rfl))) HI.out⟩
 case hdone =>
  rintro ⟨b0,b1,b2,b3,b4,b5,b6,b7,b8,b9,b10,s18,s19,s20,s21,s22,s23,s24,s25,s26,s8,s9⟩ W hI hall
  dsimp only at hI hall ⊢
  have HI:=Zh hI
  clear hI
  obtain rfl:b0=true:=hall 0 (by decide)
  obtain rfl:b1=true:=hall 1 (by decide)
  obtain rfl:b2=true:=hall 2 (by decide)
  obtain rfl:b3=true:=hall 3 (by decide)
  obtain rfl:b4=true:=hall 4 (by decide)
  obtain rfl:b5=true:=hall 5 (by decide)
  obtain rfl:b6=true:=hall 6 (by decide)
  obtain rfl:b7=true:=hall 7 (by decide)
  obtain rfl:b8=true:=hall 8 (by decide)
  obtain rfl:b9=true:=hall 9 (by decide)
  obtain rfl:b10=true:=hall 10 (by decide)
  obtain rfl:=((Zd HI.out).2.2.2.1) rfl
  obtain rfl:=((Ze HI.out).1) rfl
  have gW:=(Ze HI.out).2.2.2
  clear HI hall
  have HW:=Zh (HB1.out.trans (gW.mono HB1.out.size))
  clear gW
  go_wp2
  go_ret2
  exact ⟨rfl,HW.out⟩
theorem used_any (v:Value) (l:List UInt8) (b z:Int) (F:Int) (y:Nat) (hF:ringF l.length b z=F) (hy:usedX l b z=y) (hl:l.length≤maxLen) (w:World) (hv:IsArg w v l) :
 Calls Tryz.prog 102 #[.agg #[v],.int .i64 b,.int .i64 z] w fun e w'=>e=.returned (.tuple #[.int .u16 (y:Nat),.int .i64 F])∧Below w.heap.size w w':=by
 have HX:=Zh (show ∀ W,IsArg W v l→Calls Tryz.prog 81 #[.agg #[v],.int .i64 b,.int .i64 z,.func (.func 76) #[] #[]] W fun e w'=>e=.returned (.tuple #[.int .u16 (y:Nat),.int .i64 F])∧Below W.heap.size W w' from by
  intro W hW
  by_cases h0:F=0
  · subst h0
    obtain ⟨B,N,rfl,rfl,hok⟩:=ring_in hF
    rw [usedX,if_pos hF,Int.toNat_natCast,Int.toNat_natCast] at hy
    exact index_in_used v l W hW B N _ hok rfl y hy
  · have h7:=ringF_two (by rw [hF]; exact h0)
    obtain rfl:F=70:=by omega
    rw [usedX,if_neg (by rw [h7]; decide)] at hy
    subst hy
    obtain ⟨a,c,rfl,_⟩:=hW.shape
    exact index_out_used a l.length c hl b z h7 W)
 have HV:=Zh hv
 have HB0:=Zh ((Below.refl w.heap.size w).alloc (Nat.le_refl _) (.cells #[v] 24))
 obtain ⟨a,c,rfl,_⟩:=hv.shape
 clear hF hy hl hv
 go_enter Tryz.func102,Tryz.ntmps102
 go_wp2_with fail
 refine (HX.out _ (HV.out.below HB0.out)).mono ?_
 rintro e w1 ⟨rfl,hb⟩
 have HB1:=Zh (HB0.out.trans (hb.mono (by simp)))
 clear hb
 go_wp2
 go_ret2
 exact ⟨rfl,HB1.out⟩
structure WSt (w:World) (ga gb gm:Nat) (v:Value) (l:List UInt8) (p:Nat) (ra:Option Addr) (rc:Nat) (G:List UInt8) (W:World):Prop where
 out:Below w.heap.size w W
 lob:w.heap.size≤gb
 lom:w.heap.size≤gm
 mem:W.heap[gm]? = some (.cells #[.slice ra l.length rc] 24 (0,0))
 put:PutAt W ga gb gm p
 giv:Given W w.heap.size v l (.slice ra l.length rc) G
 len:G.length=l.length
theorem WSt.below {w W W1:World} {ga gb gm p:Nat} {v:Value} {l G:List UInt8} {ra:Option Addr} {rc:Nat} (h:WSt w ga gb gm v l p ra rc G W) (hb:Below W.heap.size W W1):WSt w ga gb gm v l p ra rc G W1 where
 out:=h.out.trans (hb.mono h.out.size)
 lob:=h.lob
 lom:=h.lom
 mem:=row_keep h.mem hb
 put:=h.put.below hb
 giv:=h.giv.below hb
 len:=h.len
theorem WSt.call {w W W1:World} {ga gb gm p q:Nat} {v:Value} {l G H:List UInt8} {ra ra':Option Addr} {rc rc':Nat} (h:WSt w ga gb gm v l p ra rc G W) (hm:W1.heap[gm]? = some (.cells #[.slice ra' G.length rc'] 24 (0,0))) (hp:PutAt W1 ga gb gm q) (hg:Given W1 W.heap.size (.slice ra l.length rc) G (.slice ra' G.length rc') H) (hs:Save2 W W1 gm gb) (hH:H.length=G.length):WSt w ga gb gm v l q ra' rc' H W1:=by
 rw [h.len] at hm hg
 exact { out:=hs.below h.out h.lom h.lob h.out.size,lob:=h.lob,lom:=h.lom,mem:=hm,put:=hp,giv:=h.giv.step hg h.out.size (fun k=>hs.given h.mem h.put.2 tneMU tneIU k),len:=hH.trans h.len }
theorem WSt.other {w W:World} {ga gb gc gd gm p q:Nat} {v:Value} {l G:List UInt8} {ra:Option Addr} {rc:Nat} (h:WSt w ga gb gm v l p ra rc G W) (hp:PutAt W gc gd gm q) (hb:w.heap.size≤gd):WSt w gc gd gm v l q ra rc G W :=
 { h with put:=hp,lob:=hb }
theorem put_step {w0 W:World} {ga gb gm p:Nat} {v:Value} {l G:List UInt8} {ra:Option Addr} {rc:Nat} (hv:IsArg w0 v l) (h:WSt w0 ga gb gm v l p ra rc G W) (k q y:Nat) (hq:p+k=q) (hL:l.length≤8192) (hp:p+k≤l.length) (h1:1≤k) (h8:k≤8) :
 Calls Tryz.prog 140 #[.int .i64 (k:Nat),.int .u64 (y:Nat),.pointer (some ⟨ga,0,none⟩),.pointer (some ⟨gb,0,none⟩)] W fun e w'=>e=.returned (.tuple #[])∧∃ ra' rc',WSt w0 ga gb gm v l q ra' rc' (putAt G p k y) w'∧Save2 W w' gm gb:=by
 have hr:IsArg W (.slice ra l.length rc) G:=h.giv.arg hv h.out
 refine (put_num ga gb gm _ G p k q y hq (by rw [h.len]; exact hL) (by rw [h.len]; exact hp) h1 h8 W hr h.mem h.put).mono ?_
 rintro e w' ⟨rfl,ra',rc',hm,hp',hg,hs⟩
 exact ⟨rfl,ra',rc',h.call hm hp' hg hs (putAt_length y (by rw [h.len]; exact hp)),hs⟩
set_option maxHeartbeats 1000000 in
theorem offer1_any {w0 W:World} {ga gb gm gh p:Nat} {v:Value} {l G:List UInt8} {ra:Option Addr} {rc:Nat} (hv:IsArg w0 v l) (h:WSt w0 ga gb gm v l p ra rc G W) (z:Int) (y:Nat) (hy:(z % 65536).toNat=y) (hh:W.heap[gh]? = some (.cells #[.int .i64 z] 3 (0,0))) (hL:l.length≤8192) (hp:p+2≤l.length) :
 Calls Tryz.prog 122 #[.func (.func 140) #[] #[.pointer (some ⟨ga,0,none⟩),.pointer (some ⟨gb,0,none⟩)],.pointer (some ⟨gh,0,none⟩)] W fun e w'=>e=.returned (.tuple #[])∧∃ ra' rc',WSt w0 ga gb gm v l (p+2) ra' rc' (putAt G p 2 y) w'∧Save2 W w' gm gb:=by
 have HS:=Zh (put_step hv h 2 (p+2) y rfl hL hp (by decide) (by decide))
 obtain ⟨c1,f1⟩:=one_cell hh
 have hw:IntKind.u16.wrap z=(y:Nat):=by simp [IntKind.wrap,IntKind.bits,IntKind.signed]; omega
 have hw2:IntKind.u64.wrap ((y:Nat):Int)=(y:Nat):=IntWalk.u64_in _ (by omega)
 clear hv h hy hh hL hp f1
 go_enter Tryz.func122,Tryz.ntmps122
 go_wp2_with fail
 refine (HS.out).mono ?_
 rintro e w1 ⟨rfl,ra',rc',h1,h2⟩
 have H1:=Zh h1
 have H2:=Zh h2
 clear h1 h2
 go_wp2
 exact bodyPost_end (v:=.tuple #[]) (by simp [results,Tryz.results122]) rfl ⟨rfl,ra',rc',H1.out,H2.out⟩
theorem Save2.trans_given {w w1 w2:World} {g b:Nat} (h:Save2 w w1 g b) (h2:Save2 w1 w2 g b):w.heap.size≤w2.heap.size∧∀ (k:Nat) (o:Obj),w.heap[k]? = some o→k≠g→k≠b→w2.heap[k]? = some o :=
 ⟨Nat.le_trans h.size h2.size,fun _ _ hk hg hb=>h2.row (h.row hk hg hb) hg hb⟩
def Kept2 (w w':World) (g b:Nat):Prop:=∀ (k:Nat) (o:Obj),w.heap[k]? = some o→k≠g→k≠b→w'.heap[k]? = some o
theorem Save2.kept {w w1:World} {g b:Nat} (h:Save2 w w1 g b):Kept2 w w1 g b:=fun _ _ hk hg hb=>h.row hk hg hb
set_option maxHeartbeats 1000000 in
theorem return1_any {w0 W:World} {ga gb gm gh p:Nat} {v:Value} {l G:List UInt8} {ra:Option Addr} {rc:Nat} (hv:IsArg w0 v l) (h:WSt w0 ga gb gm v l p ra rc G W) (y0 y1:Nat) (hy0:y0 < 4294967296) (hy1:y1 < 4294967296) (hh:W.heap[gh]? = some (.cells #[.int .u32 (y0:Nat),.int .u32 (y1:Nat)] 126)) (hL:l.length≤8192) (hp:p+8≤l.length) :
 Calls Tryz.prog 100 #[.func (.func 140) #[] #[.pointer (some ⟨ga,0,none⟩),.pointer (some ⟨gb,0,none⟩)],.pointer (some ⟨gh,0,none⟩)] W fun e w'=>e=.returned (.tuple #[])∧∃ ra' rc',WSt w0 ga gb gm v l (p+8) ra' rc' (putAt (putAt G p 4 y0) (p+4) 4 y1) w'∧Kept2 W w' gm gb:=by
 have HS:=Zh (put_step hv h 4 (p+4) y0 rfl hL (by omega) (by decide) (by decide))
 have HS2:=Zh (fun (W':World) (ra':Option Addr) (rc':Nat) (G':List UInt8) (h':WSt w0 ga gb gm v l (p+4) ra' rc' G' W')=>put_step hv h' 4 (p+8) y1 (by omega) hL (by omega) (by decide) (by decide))
 obtain ⟨c0,c1,f0,f1⟩:=cells_two hh
 have hw0:IntKind.u64.wrap ((y0:Nat):Int)=(y0:Nat):=IntWalk.u64_in _ (by omega)
 have hw1:IntKind.u64.wrap ((y1:Nat):Int)=(y1:Nat):=IntWalk.u64_in _ (by omega)
 have HM:=Zh h.mem
 have HP:=Zh h.put
 have HH:=Zh hh
 clear hv h hy0 hy1 hh hL hp f0 f1
 go_enter Tryz.func100,Tryz.ntmps100
 go_wp2_with fail
 refine (HS.out).mono ?_
 rintro e w1 ⟨rfl,ra',rc',h1,h2⟩
 have H1:=Zh h1
 have H2:=Zh h2
 have hr:=h2.row HH.out (blocks_ne HM.out HH.out tneUM) (blocks_ne HP.out.2 HH.out tneUI)
 obtain ⟨d0,d1,_,_⟩:=cells_two hr
 clear h1 h2 c0 c1 hr
 go_wp2_with fail
 refine (HS2.out _ _ _ _ H1.out).mono ?_
 rintro e w2 ⟨rfl,ra'',rc'',h1,h2⟩
 have H3:=Zh h1
 have H4:=Zh (show Kept2 W w2 gm gb from (H2.out.trans_given h2).2)
 clear h1 h2 d0 d1
 go_wp2
 exact bodyPost_end (v:=.tuple #[]) (by simp [results,Tryz.results100]) rfl ⟨rfl,ra'',rc'',H3.out,H4.out⟩
theorem three_new (w:World) (u:Value) (cs:Array Value) (v:Value) (s t q:TypeId):(((w.alloc (.cells #[u] s)).alloc (.cells cs t)).alloc (.cells #[v] q)).heap[w.heap.size]? = some (.cells #[u] s (0,0))∧(((w.alloc (.cells #[u] s)).alloc (.cells cs t)).alloc (.cells #[v] q)).heap[w.heap.size+1]? = some (.cells cs t (0,0))∧(((w.alloc (.cells #[u] s)).alloc (.cells cs t)).alloc (.cells #[v] q)).heap[w.heap.size+2]? = some (.cells #[v] q (0,0))∧Below w.heap.size w (((w.alloc (.cells #[u] s)).alloc (.cells cs t)).alloc (.cells #[v] q)):=by
 refine ⟨row_keep (row_keep (heap_alloc_new w _) ((Below.refl _ _).alloc (Nat.le_refl _) (.cells cs t))) ((Below.refl _ _).alloc (Nat.le_refl _) _),row_keep (by simpa using heap_alloc_new (w.alloc (.cells #[u] s)) (.cells cs t)) ((Below.refl _ _).alloc (Nat.le_refl _) _),by simpa using heap_alloc_new ((w.alloc (.cells #[u] s)).alloc (.cells cs t)) (.cells #[v] q),(((Below.refl _ _).alloc (Nat.le_refl _) _).alloc (by simp) _).alloc (by simp; omega) _⟩
set_option maxHeartbeats 4000000 in
set_option maxRecDepth 100000 in
theorem laid_offer (v:Value) (l:List UInt8) (w:World) (hv:IsArg w v l) (hL:l.length≤8192) (ix s a b N at_ j p gh:Nat) (hr:RowAt w a b (s:Nat) 2) (hN:1≤N∧N≤16) (hi:at_ < 65536) (hj:at_ % N=j) (hp:s+2 * j=p) (hpl:p+2≤l.length) (hix:ix+2≤l.length) (z:Int) (y:Nat) (hy:(z % 65536).toNat=y) (hh:w.heap[gh]? = some (.cells #[.int .i64 z] 3 (0,0))) :
 Calls Tryz.prog 99 #[.agg #[v],.agg #[.int .i64 (ix:Nat),.func (.func 142) #[] #[.pointer (some ⟨a,0,none⟩),.pointer (some ⟨b,0,none⟩)]],.int .i64 (N:Nat),.int .u16 (at_:Nat),.func (.func 122) #[] #[.pointer (some ⟨gh,0,none⟩)]] w fun e w'=>∃ ra rc,e=.returned (.agg #[.slice ra l.length rc])∧Given w' w.heap.size v l (.slice ra l.length rc) (putAt (putAt l p 2 y) ix 2 (at_+1))∧Below w.heap.size w w':=by
 obtain ⟨k1,hk1⟩:∃ k,k=(at_+1) % 65536:=⟨_,rfl⟩
 have hw16:IntKind.u16.wrap (((at_:Nat):Int)+1)=(k1:Nat):=by simp [IntKind.wrap,IntKind.bits,IntKind.signed]; omega
 have hw64:IntKind.u64.wrap ((k1:Nat):Int)=(k1:Nat):=IntWalk.u64_in _ (by omega)
 have hlast:∀ G,putAt G ix 2 (at_+1)=putAt G ix 2 k1:=fun G=>putAt_mod G ix 2 (by rw [hk1]; omega)
 rw [hlast]
 have HV:=Zh hv
 have HL:=Zh hL
 have HN:=Zh hN
 have HI:=Zh hi
 have HJ:=Zh hj
 have HQ:=Zh (show ((j:Nat):Int) * 2=((2 * j:Nat):Int) by omega)
 have HT:=Zh (show ((s:Nat):Int)+((2 * j:Nat):Int)=(p:Nat) by omega)
 have HQ1:=Zh (show -9223372036854775808≤((2 * j:Nat):Int)∧((2 * j:Nat):Int)≤9223372036854775807 by omega)
 have HT1:=Zh (show -9223372036854775808≤((p:Nat):Int)∧((p:Nat):Int)≤9223372036854775807 by omega)
 have HPL:=Zh hpl
 have HIX:=Zh hix
 have HY:=Zh hy
 have hgh:=(Array.getElem?_eq_some_iff.1 hh).1
 have HGH:=Zh hgh
 obtain ⟨va,vc,rfl,_⟩:=hv.shape
 obtain ⟨t1,t2,t3,t4⟩:=three_new w (.slice va l.length vc) #[.int .i64 (ix:Nat),.func (.func 142) #[] #[.pointer (some ⟨a,0,none⟩),.pointer (some ⟨b,0,none⟩)]] (.slice none 0 0) 24 148 24
 have HB:=Zh t4
 have HM:=Zh t1
 have HP:=Zh t2
 have HR:=Zh t3
 have HRA:=Zh (hr.below t4)
 have HH:=Zh (row_keep hh t4)
 obtain ⟨c0,c1,g0,g1⟩:=cells_two t2
 clear hv hL hN hi hj hp hpl hix hr hh t1 t2 t3 t4 hy hk1 hlast g0 g1 hgh
 go_enter Tryz.func99,Tryz.ntmps99
 go_wp2_with fail
 refine (place_any _ (s:Nat) 2 _ _ a b N at_ j HJ.out HN.out HI.out HQ.out HT.out HQ1.out HT1.out _ HRA.out).mono ?_
 rintro e w1 ⟨rfl,hb⟩
 replace HM:=Zk HM hb
 replace HP:=Zk HP hb
 replace HR:=Zk HR hb
 replace HH:=Zk HH hb
 replace HB:=Zb HB hb
 clear hb c0 c1
 go_wp2_with fail
 refine (putter_any w.heap.size p _).mono ?_
 rintro e w2 ⟨ga,gb,rfl,hpa,hga,hgb,hb⟩
 replace HM:=Zk HM hb
 replace HP:=Zk HP hb
 replace HR:=Zk HR hb
 replace HH:=Zk HH hb
 have hgb2:w.heap.size≤gb:=Nat.le_trans HB.out.size hgb
 replace HB:=Zb HB hb
 have HW:=Zh (show WSt w ga gb w.heap.size (.slice va l.length vc) l p va vc l w2 from { out:=HB.out,lob:=hgb2,lom:=Nat.le_refl _,mem:=HM.out,put:=hpa,giv:=.inl ⟨rfl,rfl⟩,len:=rfl })
 clear hpa hga hgb hb hgb2
 go_wp2_with fail
 refine (offer1_any HV.out HW.out z y HY.out (HH.out) HL.out HPL.out).mono ?_
 rintro e w3 ⟨rfl,ra,rc,h1,h2⟩
 have h3:Kept2 w2 w3 w.heap.size gb:=h2.kept
 replace HP:=Zh (h3 _ _ HP.out (by omega) (blocks_ne HW.out.put.2 HP.out tne))
 replace HR:=Zh (h3 _ _ HR.out (by omega) (blocks_ne HW.out.put.2 HR.out tneMI))
 replace HW:=Zh h1
 obtain ⟨c0,c1,g0,g1⟩:=cells_two HP.out
 clear h1 h2 h3 g0 g1
 go_wp2_with fail
 refine (putter_any w.heap.size ix _).mono ?_
 rintro e w4 ⟨gc,gd,rfl,hpa,hgc,hgd,hb⟩
 have hgd2:w.heap.size≤gd:=Nat.le_trans HW.out.out.size hgd
 replace HW:=Zh ((HW.out.below hb).other hpa hgd2)
 replace HR:=Zk HR hb
 clear c0 c1 hpa hgc hgd hb hgd2
 go_wp2_with fail
 refine (put_step HV.out HW.out 2 (ix+2) k1 rfl HL.out HIX.out (by decide) (by decide)).mono ?_
 rintro e w5 ⟨rfl,ra2,rc2,h1,h2⟩
 replace HR:=Zh (h2.row HR.out (by omega) (blocks_ne HW.out.put.2 HR.out tneMI))
 replace HW:=Zh h1
 obtain ⟨c0,g0⟩:=one_cell HW.out.mem
 obtain ⟨r0,f0⟩:=one_cell HR.out
 clear h1 h2 g0
 go_wp2
 refine bodyPost_ret (v:=.agg #[.slice ra2 l.length rc2]) (by simp [results,Tryz.results99,go_sem,r0]) rfl ⟨ra2,rc2,rfl,HW.out.giv.far HR.out tneMU _,HW.out.out.setCell (by simp; omega) _⟩
set_option maxHeartbeats 4000000 in
set_option maxRecDepth 100000 in
theorem laid_return (v:Value) (l:List UInt8) (w:World) (hv:IsArg w v l) (hL:l.length≤8192) (ix s a b N at_ j p gh:Nat) (hr:RowAt w a b (s:Nat) 8) (hN:1≤N∧N≤16) (hi:at_ < 65536) (hj:at_ % N=j) (hp:s+8 * j=p) (hpl:p+8≤l.length) (hix:ix+2≤l.length) (y0 y1:Nat) (hy0:y0 < 4294967296) (hy1:y1 < 4294967296) (hh:w.heap[gh]? = some (.cells #[.int .u32 (y0:Nat),.int .u32 (y1:Nat)] 126)) :
 Calls Tryz.prog 99 #[.agg #[v],.agg #[.int .i64 (ix:Nat),.func (.func 142) #[] #[.pointer (some ⟨a,0,none⟩),.pointer (some ⟨b,0,none⟩)]],.int .i64 (N:Nat),.int .u16 (at_:Nat),.func (.func 100) #[] #[.pointer (some ⟨gh,0,none⟩)]] w fun e w'=>∃ ra rc,e=.returned (.agg #[.slice ra l.length rc])∧Given w' w.heap.size v l (.slice ra l.length rc) (putAt (putAt (putAt l p 4 y0) (p+4) 4 y1) ix 2 (at_+1))∧Below w.heap.size w w':=by
 obtain ⟨k1,hk1⟩:∃ k,k=(at_+1) % 65536:=⟨_,rfl⟩
 have hw16:IntKind.u16.wrap (((at_:Nat):Int)+1)=(k1:Nat):=by simp [IntKind.wrap,IntKind.bits,IntKind.signed]; omega
 have hw64:IntKind.u64.wrap ((k1:Nat):Int)=(k1:Nat):=IntWalk.u64_in _ (by omega)
 have hlast:∀ G,putAt G ix 2 (at_+1)=putAt G ix 2 k1:=fun G=>putAt_mod G ix 2 (by rw [hk1]; omega)
 rw [hlast]
 have HV:=Zh hv
 have HL:=Zh hL
 have HN:=Zh hN
 have HI:=Zh hi
 have HJ:=Zh hj
 have HQ:=Zh (show ((j:Nat):Int) * 8=((8 * j:Nat):Int) by omega)
 have HT:=Zh (show ((s:Nat):Int)+((8 * j:Nat):Int)=(p:Nat) by omega)
 have HQ1:=Zh (show -9223372036854775808≤((8 * j:Nat):Int)∧((8 * j:Nat):Int)≤9223372036854775807 by omega)
 have HT1:=Zh (show -9223372036854775808≤((p:Nat):Int)∧((p:Nat):Int)≤9223372036854775807 by omega)
 have HPL:=Zh hpl
 have HIX:=Zh hix
 have HY0:=Zh hy0
 have HY1:=Zh hy1
 have hgh:=(Array.getElem?_eq_some_iff.1 hh).1
 have HGH:=Zh hgh
 obtain ⟨va,vc,rfl,_⟩:=hv.shape
 obtain ⟨t1,t2,t3,t4⟩:=three_new w (.slice va l.length vc) #[.int .i64 (ix:Nat),.func (.func 142) #[] #[.pointer (some ⟨a,0,none⟩),.pointer (some ⟨b,0,none⟩)]] (.slice none 0 0) 24 148 24
 have HB:=Zh t4
 have HM:=Zh t1
 have HP:=Zh t2
 have HR:=Zh t3
 have HRA:=Zh (hr.below t4)
 have HH:=Zh (row_keep hh t4)
 obtain ⟨c0,c1,g0,g1⟩:=cells_two t2
 clear hv hL hN hi hj hp hpl hix hr hh t1 t2 t3 t4 hy0 hy1 hk1 hlast g0 g1 hgh
 go_enter Tryz.func99,Tryz.ntmps99
 go_wp2_with fail
 refine (place_any _ (s:Nat) 8 _ _ a b N at_ j HJ.out HN.out HI.out HQ.out HT.out HQ1.out HT1.out _ HRA.out).mono ?_
 rintro e w1 ⟨rfl,hb⟩
 replace HM:=Zk HM hb
 replace HP:=Zk HP hb
 replace HR:=Zk HR hb
 replace HH:=Zk HH hb
 replace HB:=Zb HB hb
 clear hb c0 c1
 go_wp2_with fail
 refine (putter_any w.heap.size p _).mono ?_
 rintro e w2 ⟨ga,gb,rfl,hpa,hga,hgb,hb⟩
 replace HM:=Zk HM hb
 replace HP:=Zk HP hb
 replace HR:=Zk HR hb
 replace HH:=Zk HH hb
 have hgb2:w.heap.size≤gb:=Nat.le_trans HB.out.size hgb
 replace HB:=Zb HB hb
 have HW:=Zh (show WSt w ga gb w.heap.size (.slice va l.length vc) l p va vc l w2 from { out:=HB.out,lob:=hgb2,lom:=Nat.le_refl _,mem:=HM.out,put:=hpa,giv:=.inl ⟨rfl,rfl⟩,len:=rfl })
 clear hpa hga hgb hb hgb2
 go_wp2_with fail
 refine (return1_any HV.out HW.out y0 y1 HY0.out HY1.out (HH.out) HL.out HPL.out).mono ?_
 rintro e w3 ⟨rfl,ra,rc,h1,h2⟩
 have h3:Kept2 w2 w3 w.heap.size gb:=h2
 replace HP:=Zh (h3 _ _ HP.out (by omega) (blocks_ne HW.out.put.2 HP.out tne))
 replace HR:=Zh (h3 _ _ HR.out (by omega) (blocks_ne HW.out.put.2 HR.out tneMI))
 replace HW:=Zh h1
 obtain ⟨c0,c1,g0,g1⟩:=cells_two HP.out
 clear h1 h2 h3 g0 g1
 go_wp2_with fail
 refine (putter_any w.heap.size ix _).mono ?_
 rintro e w4 ⟨gc,gd,rfl,hpa,hgc,hgd,hb⟩
 have hgd2:w.heap.size≤gd:=Nat.le_trans HW.out.out.size hgd
 replace HW:=Zh ((HW.out.below hb).other hpa hgd2)
 replace HR:=Zk HR hb
 clear c0 c1 hpa hgc hgd hb hgd2
 go_wp2_with fail
 refine (put_step HV.out HW.out 2 (ix+2) k1 rfl HL.out HIX.out (by decide) (by decide)).mono ?_
 rintro e w5 ⟨rfl,ra2,rc2,h1,h2⟩
 replace HR:=Zh (h2.row HR.out (by omega) (blocks_ne HW.out.put.2 HR.out tneMI))
 replace HW:=Zh h1
 obtain ⟨c0,g0⟩:=one_cell HW.out.mem
 obtain ⟨r0,f0⟩:=one_cell HR.out
 clear h1 h2 g0
 go_wp2
 refine bodyPost_ret (v:=.agg #[.slice ra2 l.length rc2]) (by simp [results,Tryz.results99,go_sem,r0]) rfl ⟨ra2,rc2,rfl,HW.out.giv.far HR.out tneMU _,HW.out.out.setCell (by simp; omega) _⟩
theorem desc_eql (a b c d a' b' c' d':Nat) (r:Bool) (hr:decide (a=a'∧b=b'∧c=c'∧d=d')=r) (W:World):(binOp .eql 159 (.agg #[.int .u64 (a:Nat),.int .u32 (b:Nat),.int .u16 (c:Nat),.int .u16 (d:Nat)]) (.agg #[.int .u64 (a':Nat),.int .u32 (b':Nat),.int .u16 (c':Nat),.int .u16 (d':Nat)])).run Tryz.prog W=.ok (.bool (r)) W:=by
 subst hr
 rw [run_eql_struct,run_equalIn_agg _ _ _ _ _ (by kernel_rfl) (by kernel_rfl)]
 simp [go_sem,Op.eqFields,Program.fieldsOf,Tryz.underlying159]
 have ea:((a:Nat):Int)=((a':Nat):Int)↔a=a':=by omega
 have eb:((b:Nat):Int)=((b':Nat):Int)↔b=b':=by omega
 have ec:((c:Nat):Int)=((c':Nat):Int)↔c=c':=by omega
 have ed:((d:Nat):Int)=((d':Nat):Int)↔d=d':=by omega
 by_cases h1:a=a' <;> by_cases h2:b=b' <;> by_cases h3:c=c' <;> by_cases h4:d=d' <;> simp [ea,eb,ec,ed,h1,h2,h3,h4]
def Wrote (w:World) (v:Value) (l G:List UInt8) (F:Int) (e:Ending) (w':World):Prop:=∃ ra rc,e=.returned (.tuple #[.agg #[.slice ra l.length rc],.int .i64 F])∧Given w' w.heap.size v l (.slice ra l.length rc) G∧Below w.heap.size w w'
theorem three_box (w:World) (u:Value) (a n f x:Nat):(((w.alloc (.cells #[u] 24)).alloc (.cells #[.int .u64 (a:Nat),.int .u32 (n:Nat),.int .u16 (f:Nat),.int .u16 (x:Nat)] 159)).alloc (.cells #[.slice none 0 0] 24)).heap[w.heap.size]? = some (.cells #[u] 24 (0,0))∧(((w.alloc (.cells #[u] 24)).alloc (.cells #[.int .u64 (a:Nat),.int .u32 (n:Nat),.int .u16 (f:Nat),.int .u16 (x:Nat)] 159)).alloc (.cells #[.slice none 0 0] 24)).heap[w.heap.size+1]? = some (.cells #[.int .u64 (a:Nat),.int .u32 (n:Nat),.int .u16 (f:Nat),.int .u16 (x:Nat)] 159)∧(((w.alloc (.cells #[u] 24)).alloc (.cells #[.int .u64 (a:Nat),.int .u32 (n:Nat),.int .u16 (f:Nat),.int .u16 (x:Nat)] 159)).alloc (.cells #[.slice none 0 0] 24)).heap[w.heap.size+2]? = some (.cells #[.slice none 0 0] 24)∧Below w.heap.size w (((w.alloc (.cells #[u] 24)).alloc (.cells #[.int .u64 (a:Nat),.int .u32 (n:Nat),.int .u16 (f:Nat),.int .u16 (x:Nat)] 159)).alloc (.cells #[.slice none 0 0] 24)):=three_new w u _ _ _ _ _
set_option maxHeartbeats 4000000 in
set_option maxRecDepth 100000 in
theorem setDesc_same (v:Value) (l:List UInt8) (b z i:Int) (a n f x:Nat) (F:Int) (x0 x1 x2 x3:Nat) (hF:descF l.length b z i=F) (h0:descX l b z i 0 8=x0) (h1:descX l b z i 8 4=x1) (h2:descX l b z i 12 2=x2) (h3:descX l b z i 14 2=x3) (hc:F≠0∨(F=0∧decide (x0=a∧x1=n∧x2=f∧x3=x)=true)) (hl:l.length≤140737488355328) (w:World) (hv:IsArg w v l) :
 Calls Tryz.prog 121 #[.agg #[v],.int .i64 b,.int .i64 z,.int .i64 i,.agg #[.int .u64 (a:Nat),.int .u32 (n:Nat),.int .u16 (f:Nat),.int .u16 (x:Nat)]] w (Wrote w v l l F):=by
 have HV:=Zh hv
 have HL:=Zh hl
 have HMX:=Zh (show l.length≤maxLen by unfold maxLen; omega)
 have HF:=Zh hF
 have H0:=Zh h0
 have H1:=Zh h1
 have H2:=Zh h2
 have H3:=Zh h3
 obtain ⟨va,vc,rfl,_⟩:=hv.shape
 obtain ⟨t1,t2,t3,t4⟩:=three_box w (.slice va l.length vc) a n f x
 have HB:=Zh t4
 have HM:=Zh t1
 have HD:=Zh t2
 have HR:=Zh t3
 obtain ⟨k,hk⟩:∃ k,k=w.heap.size+1:=⟨_,rfl⟩
 clear hv hl hF h0 h1 h2 h3 t1 t2 t3 t4 hk
 go_enter Tryz.func121,Tryz.ntmps121
 go_wp2_with fail
 refine (desc_any _ l b z i F x0 x1 x2 x3 HF.out H0.out H1.out H2.out H3.out HMX.out _ (HV.out.below HB.out)).mono ?_
 rintro e w1 ⟨rfl,hb⟩
 have hbx:Below w1.heap.size w1 (w1.alloc (.cells #[.int .u64 (x0:Nat),.int .u32 (x1:Nat),.int .u16 (x2:Nat),.int .u16 (x3:Nat)] 159)):=(Below.refl _ _).alloc (Nat.le_refl _) _
 replace HM:=Zh (row_keep (row_keep HM.out hb) hbx)
 replace HD:=Zh (row_keep (row_keep HD.out hb) hbx)
 replace HR:=Zh (row_keep (row_keep HR.out hb) hbx)
 replace HB:=Zh ((HB.out.trans (hb.mono HB.out.size)).trans (hbx.mono (HB.out.trans (hb.mono HB.out.size)).size))
 have ht:=heap_alloc_new w1 (.cells #[.int .u64 (x0:Nat),.int .u32 (x1:Nat),.int .u16 (x2:Nat),.int .u16 (x3:Nat)] 159)
 obtain ⟨c0,_⟩:=one_cell HM.out
 obtain ⟨d0,_⟩:=at_cell HD.out 0 _ rfl
 obtain ⟨d1,_⟩:=at_cell HD.out 1 _ rfl
 obtain ⟨d2,_⟩:=at_cell HD.out 2 _ rfl
 obtain ⟨d3,_⟩:=at_cell HD.out 3 _ rfl
 obtain ⟨e0,_⟩:=at_cell ht 0 _ rfl
 obtain ⟨e1,_⟩:=at_cell ht 1 _ rfl
 obtain ⟨e2,_⟩:=at_cell ht 2 _ rfl
 obtain ⟨e3,_⟩:=at_cell ht 3 _ rfl
 have hlt:w.heap.size < w1.heap.size:=by have h:=(Array.getElem?_eq_some_iff.1 (row_keep (w:=w1) (row_keep (w:=w1) (show w1.heap[w.heap.size]? = some _ from row_keep (three_box w (.slice va l.length vc) a n f x).1 hb) (Below.refl _ _)) (Below.refl _ _))).1; exact h
 clear hb hbx ht
 rcases hc with hc|⟨rfl,hc⟩
 · have hn0:(F != 0)=true:=by rw [bne_iff_ne]; exact hc
   clear hc
   go_wp2_with fail
   refine (ringSame_any _ l _ (HV.out.below HB.out) HL.out).mono ?_
   rintro e w2 ⟨r,rfl,hr,hb⟩
   have HR2:=Zh (row_keep HR.out hb)
   have HB2:=Zh (HB.out.trans (hb.mono HB.out.size))
   have HO:=Zh (ownsRow_base (base':=w.heap.size) hr HB.out.size)
   obtain ⟨ra,rc,rfl,_⟩:=(isArg_of_owns hr).shape
   obtain ⟨r0,f0⟩:=one_cell HR2.out
   clear hb hr c0 d0 d1 d2 d3 e0 e1 e2 e3
   go_wp2
   refine bodyPost_ret (v:=.tuple #[.agg #[.slice ra l.length rc],.int .i64 F]) (by simp [results,Tryz.results121,go_sem,r0]) rfl ⟨ra,rc,rfl,.inr (owns_far HO.out HR2.out tneMU _),HB2.out.setCell (by simp; omega) _⟩
 · have hq:=desc_eql x0 x1 x2 x3 a n f x true hc
   clear hc
   go_wp2_with fail
   refine (ringSame_any _ l _ (HV.out.below HB.out) HL.out).mono ?_
   rintro e w2 ⟨r,rfl,hr,hb⟩
   have HR2:=Zh (row_keep HR.out hb)
   have HB2:=Zh (HB.out.trans (hb.mono HB.out.size))
   have HO:=Zh (ownsRow_base (base':=w.heap.size) hr HB.out.size)
   obtain ⟨ra,rc,rfl,_⟩:=(isArg_of_owns hr).shape
   obtain ⟨r0,f0⟩:=one_cell HR2.out
   clear hb hr c0 d0 d1 d2 d3 e0 e1 e2 e3
   go_wp2
   refine bodyPost_ret (v:=.tuple #[.agg #[.slice ra l.length rc],.int .i64 0]) (by simp [results,Tryz.results121,go_sem,r0]) rfl ⟨ra,rc,rfl,.inr (owns_far HO.out HR2.out tneMU _),HB2.out.setCell (by simp; omega) _⟩
set_option maxHeartbeats 4000000 in
set_option maxRecDepth 100000 in
theorem setDesc_in (v:Value) (l:List UInt8) (B N I p:Nat) (hok:RingOk l.length B N) (hI:I < N) (hp:B+16 * I=p) (a n f x:Nat) (hn:n < 4294967296) (hf:f < 65536) (hx:x < 65536) (x0 x1 x2 x3:Nat) (hF:descF l.length (B:Nat) (N:Nat) (I:Nat)=0) (h0:descX l (B:Nat) (N:Nat) (I:Nat) 0 8=x0) (h1:descX l (B:Nat) (N:Nat) (I:Nat) 8 4=x1) (h2:descX l (B:Nat) (N:Nat) (I:Nat) 12 2=x2) (h3:descX l (B:Nat) (N:Nat) (I:Nat) 14 2=x3) (hc:decide (x0=a∧x1=n∧x2=f∧x3=x)=false) (w:World) (hv:IsArg w v l) :
 Calls Tryz.prog 121 #[.agg #[v],.int .i64 (B:Nat),.int .i64 (N:Nat),.int .i64 (I:Nat),.agg #[.int .u64 (a:Nat),.int .u32 (n:Nat),.int .u16 (f:Nat),.int .u16 (x:Nat)]] w (Wrote w v l (setD l p a n f x) 0):=by
 have hN:=hok.right.le
 have hsz:=sizeN_le N
 have hfit:=hok.fits
 have hl:=hok.few
 have hpl:p+16≤l.length:=by omega
 have HV:=Zh hv
 have HL:=Zh hl
 have HMX:=Zh (show l.length≤maxLen by unfold maxLen; omega)
 have HF:=Zh hF
 have HQ:=Zh (show ((I:Nat):Int) * 16=((16 * I:Nat):Int) by omega)
 have HT:=Zh (show ((B:Nat):Int)+((16 * I:Nat):Int)=(p:Nat) by omega)
 have HQ1:=Zh (show -9223372036854775808≤((16 * I:Nat):Int)∧((16 * I:Nat):Int)≤9223372036854775807 by omega)
 have HT1:=Zh (show -9223372036854775808≤((p:Nat):Int)∧((p:Nat):Int)≤9223372036854775807 by omega)
 have HPL:=Zh hpl
 have hq:=desc_eql x0 x1 x2 x3 a n f x false hc
 have k1:IntKind.u64.wrap ((n:Nat):Int)=(n:Nat):=IntWalk.u64_in _ (by omega)
 have k2:IntKind.u64.wrap ((f:Nat):Int)=(f:Nat):=IntWalk.u64_in _ (by omega)
 have k3:IntKind.u64.wrap ((x:Nat):Int)=(x:Nat):=IntWalk.u64_in _ (by omega)
 have H0:=Zh h0
 have H1:=Zh h1
 have H2:=Zh h2
 have H3:=Zh h3
 obtain ⟨va,vc,rfl,_⟩:=hv.shape
 obtain ⟨t1,t2,t3,t4⟩:=three_box w (.slice va l.length vc) a n f x
 have HB:=Zh t4
 have HM:=Zh t1
 have HD:=Zh t2
 have HR:=Zh t3
 obtain ⟨k,hk⟩:∃ k,k=w.heap.size+1:=⟨_,rfl⟩
 clear hok hI hp hpl hsz hN hfit hn hf hx hc hv hl hF h0 h1 h2 h3 t1 t2 t3 t4 hk
 go_enter Tryz.func121,Tryz.ntmps121
 go_wp2_with fail
 refine (desc_any _ l (B:Nat) (N:Nat) (I:Nat) 0 x0 x1 x2 x3 HF.out H0.out H1.out H2.out H3.out HMX.out _ (HV.out.below HB.out)).mono ?_
 rintro e w1 ⟨rfl,hb⟩
 have hbx:Below w1.heap.size w1 (w1.alloc (.cells #[.int .u64 (x0:Nat),.int .u32 (x1:Nat),.int .u16 (x2:Nat),.int .u16 (x3:Nat)] 159)):=(Below.refl _ _).alloc (Nat.le_refl _) _
 replace HM:=Zh (row_keep (row_keep HM.out hb) hbx)
 replace HD:=Zh (row_keep (row_keep HD.out hb) hbx)
 replace HR:=Zh (row_keep (row_keep HR.out hb) hbx)
 replace HB:=Zh ((HB.out.trans (hb.mono HB.out.size)).trans (hbx.mono (HB.out.trans (hb.mono HB.out.size)).size))
 have ht:=heap_alloc_new w1 (.cells #[.int .u64 (x0:Nat),.int .u32 (x1:Nat),.int .u16 (x2:Nat),.int .u16 (x3:Nat)] 159)
 obtain ⟨c0,_⟩:=one_cell HM.out
 obtain ⟨d0,_⟩:=at_cell HD.out 0 _ rfl
 obtain ⟨d1,_⟩:=at_cell HD.out 1 _ rfl
 obtain ⟨d2,_⟩:=at_cell HD.out 2 _ rfl
 obtain ⟨d3,_⟩:=at_cell HD.out 3 _ rfl
 obtain ⟨e0,_⟩:=at_cell ht 0 _ rfl
 obtain ⟨e1,_⟩:=at_cell ht 1 _ rfl
 obtain ⟨e2,_⟩:=at_cell ht 2 _ rfl
 obtain ⟨e3,_⟩:=at_cell ht 3 _ rfl
 have hlt:w.heap.size < w1.heap.size:=by have h:=(Array.getElem?_eq_some_iff.1 (row_keep (w:=w1) (row_keep (w:=w1) (show w1.heap[w.heap.size]? = some _ from row_keep (three_box w (.slice va l.length vc) a n f x).1 hb) (Below.refl _ _)) (Below.refl _ _))).1; exact h
 clear hb hbx ht
 go_wp2_with fail
 refine (descs_any _ _).mono ?_
 rintro e w2 ⟨ra,rb,rfl,hr,hb⟩
 replace HM:=Zk HM hb
 replace HD:=Zk HD hb
 replace HR:=Zk HR hb
 replace HB:=Zb HB hb
 have HRA:=Zh hr
 clear hr hb hq c0 d0 d1 d2 d3 e0 e1 e2 e3
 go_wp2_with fail
 refine (row1_any ra rb _ 16 _ _ _ HQ.out HT.out HQ1.out HT1.out _ HRA.out).mono ?_
 rintro e w3 ⟨rfl,rfl⟩
 go_wp2_with fail
 refine (putter_any w.heap.size p _).mono ?_
 rintro e w4 ⟨ga,gb,rfl,hpa,hga,hgb,hb⟩
 have hgb2:w.heap.size≤gb:=Nat.le_trans HB.out.size hgb
 replace HM:=Zk HM hb
 replace HD:=Zk HD hb
 replace HR:=Zk HR hb
 replace HB:=Zb HB hb
 have HW:=Zh (show WSt w ga gb w.heap.size (.slice va l.length vc) l p va vc l w4 from { out:=HB.out,lob:=hgb2,lom:=Nat.le_refl _,mem:=HM.out,put:=hpa,giv:=.inl ⟨rfl,rfl⟩,len:=rfl })
 clear hpa hga hgb hb hgb2
 obtain ⟨d0,_⟩:=at_cell HD.out 0 _ rfl
 go_wp2_with fail
 refine (put_step HV.out HW.out 8 (p+8) a (by omega) HL.out (by have:=HPL.out; omega) (by decide) (by decide)).mono ?_
 rintro e w5 ⟨rfl,sa0,sc0,h1,h2⟩
 replace HD:=Zh (h2.row HD.out (by omega) (blocks_ne HW.out.put.2 HD.out tneDI))
 replace HR:=Zh (h2.row HR.out (by omega) (blocks_ne HW.out.put.2 HR.out tneMI))
 replace HW:=Zh h1
 clear h1 h2 d0
 obtain ⟨d1,_⟩:=at_cell HD.out 1 _ rfl
 go_wp2_with fail
 refine (put_step HV.out HW.out 4 (p+12) n (by omega) HL.out (by have:=HPL.out; omega) (by decide) (by decide)).mono ?_
 rintro e w6 ⟨rfl,sa1,sc1,h1,h2⟩
 replace HD:=Zh (h2.row HD.out (by omega) (blocks_ne HW.out.put.2 HD.out tneDI))
 replace HR:=Zh (h2.row HR.out (by omega) (blocks_ne HW.out.put.2 HR.out tneMI))
 replace HW:=Zh h1
 clear h1 h2 d1
 obtain ⟨d2,_⟩:=at_cell HD.out 2 _ rfl
 go_wp2_with fail
 refine (put_step HV.out HW.out 2 (p+14) f (by omega) HL.out (by have:=HPL.out; omega) (by decide) (by decide)).mono ?_
 rintro e w7 ⟨rfl,sa2,sc2,h1,h2⟩
 replace HD:=Zh (h2.row HD.out (by omega) (blocks_ne HW.out.put.2 HD.out tneDI))
 replace HR:=Zh (h2.row HR.out (by omega) (blocks_ne HW.out.put.2 HR.out tneMI))
 replace HW:=Zh h1
 clear h1 h2 d2
 obtain ⟨d3,_⟩:=at_cell HD.out 3 _ rfl
 go_wp2_with fail
 refine (put_step HV.out HW.out 2 (p+16) x (by omega) HL.out (by have:=HPL.out; omega) (by decide) (by decide)).mono ?_
 rintro e w8 ⟨rfl,sa3,sc3,h1,h2⟩
 replace HD:=Zh (h2.row HD.out (by omega) (blocks_ne HW.out.put.2 HD.out tneDI))
 replace HR:=Zh (h2.row HR.out (by omega) (blocks_ne HW.out.put.2 HR.out tneMI))
 replace HW:=Zh h1
 clear h1 h2 d3
 obtain ⟨c0,_⟩:=one_cell HW.out.mem
 obtain ⟨r0,f0⟩:=one_cell HR.out
 go_wp2
 refine bodyPost_ret (v:=.tuple #[.agg #[.slice sa3 l.length sc3],.int .i64 0]) (by simp [results,Tryz.results121,go_sem,r0]) rfl ⟨sa3,sc3,rfl,HW.out.giv.far HR.out tneMU _,HW.out.out.setCell (by simp; omega) _⟩
theorem setD_self (l:List UInt8) (p:Nat) (h:p+16≤l.length):setD l p (numAt l p 8) (numAt l (p+8) 4) (numAt l (p+12) 2) (numAt l (p+14) 2)=l:=by
 unfold setD
 rw [putAt_self (by omega),putAt_self (by omega),putAt_self (by omega),putAt_self (by omega)]
theorem setDesc_any (v:Value) (l:List UInt8) (b z i:Int) (a n f x:Nat) (hn:n < 4294967296) (hf:f < 65536) (hx:x < 65536) (F:Int) (G:List UInt8) (hF:descF l.length b z i=F) (hG:setX l b z i a n f x=G) (hl:l.length≤140737488355328) (w:World) (hv:IsArg w v l) :
 Calls Tryz.prog 121 #[.agg #[v],.int .i64 b,.int .i64 z,.int .i64 i,.agg #[.int .u64 (a:Nat),.int .u32 (n:Nat),.int .u16 (f:Nat),.int .u16 (x:Nat)]] w (Wrote w v l G F):=by
 by_cases hz:F=0
 · subst hz
   have hF2:=hF
   rcases desc_cases l.length b z i with ⟨_,h⟩|⟨_,_,h⟩|⟨B,N,I,rfl,rfl,rfl,hI,hok,h⟩
   · omega
   · omega
   · rw [setX,if_pos h,Int.toNat_natCast,Int.toNat_natCast] at hG
     have hpl:B+16 * I+16≤l.length:=by
      have h1:=hok.fits
      have h2:=sizeN_le N
      omega
     cases hc:decide (descX l (B:Nat) (N:Nat) (I:Nat) 0 8=a∧descX l (B:Nat) (N:Nat) (I:Nat) 8 4=n∧descX l (B:Nat) (N:Nat) (I:Nat) 12 2=f∧descX l (B:Nat) (N:Nat) (I:Nat) 14 2=x) with
     | true =>
       have h4:=of_decide_eq_true hc
       have h5:∀ o k,descX l (B:Nat) (N:Nat) (I:Nat) o k=numAt l (B+16 * I+o) k:=fun o k=>by rw [descX,if_pos h,Int.toNat_natCast,Int.toNat_natCast]
       rw [h5,h5,h5,h5] at h4
       have h6:l=G:=by
        rw [←hG,←h4.1,←h4.2.1,←h4.2.2.1,←h4.2.2.2]
        exact (setD_self l (B+16 * I) hpl).symm
       have h7:=setDesc_same v l (B:Nat) (N:Nat) (I:Nat) a n f x 0 _ _ _ _ hF2 rfl rfl rfl rfl (.inr ⟨rfl,hc⟩) hl w hv
       rw [←h6]
       exact h7
     | false =>
       have h7:=setDesc_in v l B N I _ hok hI rfl a n f x hn hf hx _ _ _ _ hF2 rfl rfl rfl rfl hc w hv
       rw [hG] at h7
       exact h7
 · rw [setX,if_neg (by rw [hF]; exact hz)] at hG
   subst hG
   exact setDesc_same v l b z i a n f x F _ _ _ _ hF rfl rfl rfl rfl (.inl hz) hl w hv
set_option maxHeartbeats 1000000 in
theorem offer_out (v:Value) (l:List UInt8) (b z0:Int) (k:Nat) (z:Int) (h:ringF l.length b z0=70) (hl:l.length≤140737488355328) (w:World) (hv:IsArg w v l) :
 Calls Tryz.prog 80 #[.agg #[v],.int .i64 b,.int .i64 z0,.int .u16 (k:Nat),.int .i64 z] w (Wrote w v l l 70):=by
 have HV:=Zh hv
 have HL:=Zh hl
 have HMX:=Zh (show l.length≤maxLen by unfold maxLen; omega)
 have HF:=Zh h
 obtain ⟨va,vc,rfl,_⟩:=hv.shape
 obtain ⟨t1,t2,t3,t4⟩:=three_new w (.slice va l.length vc) #[.int .i64 z] (.slice none 0 0) 24 3 24
 have HB:=Zh t4
 have HM:=Zh t1
 have HH:=Zh t2
 have HR:=Zh t3
 clear hv hl h t1 t2 t3 t4
 go_enter Tryz.func80,Tryz.ntmps80
 go_wp2_with fail
 refine (ringFault_any _ _ _ HMX.out _ _ _ HF.out _).mono ?_
 rintro e w1 ⟨rfl,hb⟩
 replace HM:=Zk HM hb
 replace HH:=Zk HH hb
 replace HR:=Zk HR hb
 replace HB:=Zb HB hb
 clear hb
 obtain ⟨c0,_⟩:=one_cell HM.out
 go_wp2_with fail
 refine (ringSame_any _ l _ (HV.out.below HB.out) HL.out).mono ?_
 rintro e w2 ⟨r,rfl,hr,hb⟩
 have HR2:=Zh (row_keep HR.out hb)
 have HB2:=Zh (HB.out.trans (hb.mono HB.out.size))
 have HO:=Zh (ownsRow_base (base':=w.heap.size) hr HB.out.size)
 obtain ⟨ra,rc,rfl,_⟩:=(isArg_of_owns hr).shape
 obtain ⟨r0,f0⟩:=one_cell HR2.out
 clear hb hr c0
 go_wp2
 refine bodyPost_ret (v:=.tuple #[.agg #[.slice ra l.length rc],.int .i64 70]) (by simp [results,Tryz.results80,go_sem,r0]) rfl ⟨ra,rc,rfl,.inr (owns_far HO.out HR2.out tneMU _),HB2.out.setCell (by simp; omega) _⟩
structure RngOfferX where
 (b0 b1 b2 b3 b4 b5 b6 b7 b8 b9:Bool)
 (s22 s23 s24 s25 s26 s27 s28 s29 s11:Value)
set_option maxHeartbeats 4000000 in
set_option maxRecDepth 100000 in
theorem offer_in (v:Value) (l:List UInt8) (w:World) (hv:IsArg w v l) (B N at_:Nat) (hok:RingOk l.length B N) (hi:at_ < 65536) (z:Int) (y:Nat) (hy:(z % 65536).toNat=y) :
 Calls Tryz.prog 80 #[.agg #[v],.int .i64 (B:Nat),.int .i64 (N:Nat),.int .u16 (at_:Nat),.int .i64 z] w (Wrote w v l (offerD l B N at_ y) 0):=by
 obtain ⟨ix,hix⟩:∃ p,p=B+16 * N+2:=⟨_,rfl⟩
 obtain ⟨sq,hsq⟩:∃ p,p=B+16 * N+4:=⟨_,rfl⟩
 obtain ⟨p,hp⟩:∃ p,B+16 * N+4+2 * (at_ % N)=p:=⟨_,rfl⟩
 obtain ⟨H,hH⟩:∃ H,H=offerD l B N at_ y:=⟨_,rfl⟩
 rw [←hH]
 have hN:=hok.right.le
 have hsz:=sizeN_le N
 have hfit:=hok.fits
 have hL:=hok.few
 have HL:=Zh hL
 have HB8:=Zh (show B≤8192 by omega)
 have HN:=Zh hN
 have HMX:=Zh (show l.length≤maxLen by unfold maxLen; omega)
 have HF:=Zh (show ringF l.length (B:Int) (N:Int)=0 by rw [ringF,if_pos hok.ok])
 have HV:=Zh hv
 obtain ⟨j,hj⟩:∃ j,at_ % N=j:=⟨_,rfl⟩
 have hjn:j < N:=by rw [←hj]; exact Nat.mod_lt _ (by omega)
 rw [hj] at hp
 have HJ:=Zh hj
 have HI:=Zh hi
 have HQ:=Zh (show ((j:Nat):Int) * 2=((2 * j:Nat):Int) by omega)
 have HT:=Zh (show ((B+16 * N+4:Nat):Int)+((2 * j:Nat):Int)=(p:Nat) by omega)
 have HQ1:=Zh (show -9223372036854775808≤((2 * j:Nat):Int)∧((2 * j:Nat):Int)≤9223372036854775807 by omega)
 have HT1:=Zh (show -9223372036854775808≤((p:Nat):Int)∧((p:Nat):Int)≤9223372036854775807 by omega)
 have hpl:p+2≤l.length:=by omega
 have HPL:=Zh hpl
 have hixl:ix+2≤l.length:=by omega
 have hpe:sq+2 * j=p:=by omega
 have HP:=Zh (show ∀ W,Calls Tryz.prog 82 #[.int .i64 (B:Nat),.int .i64 (N:Nat)] W fun e w'=>∃ a b,e=.returned (.agg #[.int .i64 (ix:Nat),.func (.func 142) #[] #[.pointer (some ⟨a,0,none⟩),.pointer (some ⟨b,0,none⟩)]])∧RowAt w' a b (sq:Nat) 2∧Below W.heap.size W w' from fun W=>availPart_any B N ix sq hix.symm hsq.symm (by omega) hN.2 W)
 obtain ⟨va,vc,rfl,_⟩:=hv.shape
 obtain ⟨t1,t2,t3,t4⟩:=three_new w (.slice va l.length vc) #[.int .i64 z] (.slice none 0 0) 24 3 24
 have HB:=Zh t4
 have HM:=Zh t1
 have HH:=Zh t2
 have HR:=Zh t3
 have hHH:H=putAt (putAt l p 2 y) ix 2 (at_+1):=by rw [hH,offerD,hj,hix,←hp]
 have HLA:=Zh (show ∀ W,Below w.heap.size w W→W.heap[w.heap.size+1]? = some (.cells #[.int .i64 z] 3 (0,0))→∀ a b,RowAt W a b (sq:Nat) 2→Calls Tryz.prog 99 #[.agg #[.slice va l.length vc],.agg #[.int .i64 (ix:Nat),.func (.func 142) #[] #[.pointer (some ⟨a,0,none⟩),.pointer (some ⟨b,0,none⟩)]],.int .i64 (N:Nat),.int .u16 (at_:Nat),.func (.func 122) #[] #[.pointer (some ⟨w.heap.size+1,0,none⟩)]] W fun e w'=>∃ ra rc,e=.returned (.agg #[.slice ra l.length rc])∧Given w' w.heap.size (.slice va l.length vc) l (.slice ra l.length rc) H∧Below W.heap.size W w' from
  fun W hb hh a b hr=>(laid_offer _ l W (hv.below hb) hL ix sq a b N at_ j p (w.heap.size+1) hr hN hi hj hpe hpl hixl z y hy hh).mono fun e w' ⟨ra,rc,h1,h2,h3⟩=>⟨ra,rc,h1,by rw [hHH]; exact h2.base hb.size,h3⟩)
 clear hN hsz hfit hL hv hj hi hpl hok hp hjn hix hsq hixl hpe hH hHH t1 t2 t3 t4 hy
 go_enter Tryz.func80,Tryz.ntmps80
 go_wp2_with fail
 refine (ringFault_any _ _ _ HMX.out _ _ _ HF.out _).mono ?_
 rintro e w1 ⟨rfl,hb⟩
 replace HM:=Zk HM hb
 replace HH:=Zk HH hb
 replace HR:=Zk HR hb
 replace HB:=Zb HB hb
 clear hb
 have HMW:=Zh (show ∀ W,Below w1.heap.size w1 W→W.heap[w.heap.size]? = some (.cells #[.slice va l.length vc] 24 (0,0)) from fun W h=>row_keep HM.out h)
 have HRW:=Zh (show ∀ W,Below w1.heap.size w1 W→W.heap[w.heap.size+1+1]? = some (.cells #[.slice none 0 0] 24) from fun W h=>row_keep HR.out h)
 have HLD:=Zh (show ∀ W,Below w1.heap.size w1 W→∀ a b,RowAt W a b (sq:Nat) 2→Calls Tryz.prog 99 #[.agg #[.slice va l.length vc],.agg #[.int .i64 (ix:Nat),.func (.func 142) #[] #[.pointer (some ⟨a,0,none⟩),.pointer (some ⟨b,0,none⟩)]],.int .i64 (N:Nat),.int .u16 (at_:Nat),.func (.func 122) #[] #[.pointer (some ⟨w.heap.size+1,0,none⟩)]] W fun e w'=>∃ ra rc,e=.returned (.agg #[.slice ra l.length rc])∧Given w' w.heap.size (.slice va l.length vc) l (.slice ra l.length rc) H∧Below W.heap.size W w' from fun W h=>HLA.out W (HB.out.trans (h.mono HB.out.size)) (row_keep HH.out h))
 clear HLA
 go_wp2_with fail
 refine wp_region_rec (X:=RngOfferX) (by kernel_rfl) (by kernel_rfl) (fun x=>#[x.b0,x.b1,x.b2,x.b3,x.b4,x.b5,x.b6,x.b7,x.b8,x.b9]) (fun x=>{ tmps:=#[.agg #[.slice va l.length vc],.int .i64 (B:Nat),.int .i64 (N:Nat),.int .u16 (at_:Nat),.int .i64 z,.pointer (some ⟨w.heap.size,0,none⟩),undef,undef,undef,.pointer (some ⟨w.heap.size+1,0,none⟩),.pointer (some ⟨w.heap.size+1+1,0,none⟩),x.s11,.int .i64 0,.agg #[.slice va l.length vc],.int .i64 (B:Nat),.int .i64 (N:Nat),.int .i64 0,.int .i64 0,.bool false,undef,undef,undef,x.s22,x.s23,x.s24,x.s25,x.s26,x.s27,x.s28,x.s29],defers:=[] }) (fun x W=>(x.b0→x.s22=.agg #[.slice va l.length vc])∧(x.b1→x.s23=.int .i64 (B:Nat))∧(x.b2→x.s24=.int .i64 (N:Nat))∧(x.b4→x.s26=.int .i64 (N:Nat))∧(x.b5→x.s27=.int .u16 (at_:Nat))∧(x.b6→x.s28=.func (.func 122) #[] #[.pointer (some ⟨w.heap.size+1,0,none⟩)])∧(x.b9→x.s11=.int .i64 0)∧(x.b8→x.b0∧x.b3∧x.b7)∧(x.b7=false→x.b3→∃ a b,x.s25=.agg #[.int .i64 (ix:Nat),.func (.func 142) #[] #[.pointer (some ⟨a,0,none⟩),.pointer (some ⟨b,0,none⟩)]]∧RowAt W a b (sq:Nat) 2)∧(x.b7→∃ ra rc,x.s29=.agg #[.slice ra l.length rc]∧Given W w.heap.size (.slice va l.length vc) l (.slice ra l.length rc) H)∧(x.b8→∃ ra rc,W.heap[w.heap.size+1+1]? = some (.cells #[.slice ra l.length rc] 24 (0,0))∧Given W w.heap.size (.slice va l.length vc) l (.slice ra l.length rc) H)∧(x.b8=false→Below w1.heap.size w1 W)∧(Below w.heap.size w W)∧(x.b7→x.b3)) ⟨false,false,false,false,false,false,false,false,false,false,undef,undef,undef,undef,undef,undef,undef,undef,.int .i64 0⟩ rfl rfl ⟨Zf,Zf,Zf,Zf,Zf,Zf,Zf,Zf,(fun _ h=>by cases h),Zf,Zf,(fun _=>(Below.refl _ _).drew),HB.out.drew,Zf⟩ (fun _=>rfl) ?hstep ?hdone
 case hstep =>
  rintro ⟨b0,b1,b2,b3,b4,b5,b6,b7,b8,b9,s22,s23,s24,s25,s26,s27,s28,s29,s11⟩ W hI i hi
  dsimp only at hI hi ⊢
  have HI:=Zh hI
  clear hI
  rw [Region.ready,List.mem_filter,List.mem_range] at hi
  obtain ⟨hlt,hp⟩:=hi
  have hi7:i=0∨i=1∨i=2∨i=3∨i=4∨i=5∨i=6∨i=7∨i=8∨i=9:=by simp at hlt; omega
  clear hlt
  rcases hi7 with rfl|rfl|rfl|rfl|rfl|rfl|rfl|rfl|rfl|rfl
  all_goals simp [Region.binds] at hp
  · obtain rfl:b0=false:=by revert hp; cases b0 <;> simp
    clear hp; refine Zv 22 fun K' hK'=>?_
    have gE:=(Zd HI.out).2.2.2.1
    have gW:=(Ze HI.out).2.2.2.1
    have hb8:b8=false:=by cases b8 with|false=>rfl|true=>exact absurd (gE rfl).1 (by decide)
    subst hb8
    obtain ⟨hc1,hc2⟩:=one_cell (HMW.out W (gW rfl))
    go_simp
    exact hK'.out _ _ ⟨.mk ..,rfl,rfl,Nxt (Nxt (Nxt (Nx4 (Upd Zf)))) ((Upd (fun _=>rfl)) HI.out)⟩
  · obtain rfl:b1=false:=by revert hp; cases b1 <;> simp
    clear hp; refine Zv 23 fun K' hK'=>?_
    go_simp
    exact hK'.out _ _ ⟨.mk ..,rfl,rfl,Nxt (Upd (fun _=>rfl)) HI.out⟩
  · obtain rfl:b2=false:=by revert hp; cases b2 <;> simp
    clear hp; refine Zv 24 fun K' hK'=>?_
    go_simp
    exact hK'.out _ _ ⟨.mk ..,rfl,rfl,Nxt (Nxt (Upd (fun _=>rfl))) HI.out⟩
  · obtain ⟨rfl,e1,e2⟩:b3=false∧b1=true∧b2=true:=by revert hp; cases b3 <;> cases b1 <;> cases b2 <;> simp
    clear hp
    obtain rfl:=(HI.out.2.1) e1
    obtain rfl:=(HI.out.2.2.1) e2
    refine Zv 25 fun K' hK'=>?_
    have gE:=(Zd HI.out).2.2.2.1
    have gC:=(Zd (Ze HI.out)).2
    have hb8:b8=false:=by cases b8 with|false=>rfl|true=>exact absurd (gE rfl).2.1 (by decide)
    subst hb8
    have hb7:b7=false:=by cases b7 with|false=>rfl|true=>exact absurd (gC rfl) (by decide)
    subst hb7
    go_simp
    refine (HP.out W).mono ?_
    rintro e w2 ⟨a,b,rfl,hr,bn⟩
    obtain ⟨h0,h1,h2,h4,h5,h6,h9,gE,gR,gL,gB,gW,gO,gC⟩:=HI.out
    exact hK'.out _ _ ⟨.mk ..,rfl,rfl,h0,h1,h2,h4,h5,h6,h9,Zf,(fun _ _=>⟨a,b,rfl,hr⟩),Zf,Zf,(fun e=>(gW e).trans (bn.mono (gW e).size)),(gO.trans (bn.mono gO.size)),(fun _=>rfl)⟩
  · obtain rfl:b4=false:=by revert hp; cases b4 <;> simp
    clear hp; refine Zv 26 fun K' hK'=>?_
    go_simp
    exact hK'.out _ _ ⟨.mk ..,rfl,rfl,Nxt (Nxt (Nxt (Upd (fun _=>rfl)))) HI.out⟩
  · obtain rfl:b5=false:=by revert hp; cases b5 <;> simp
    clear hp; refine Zv 27 fun K' hK'=>?_
    go_simp
    exact hK'.out _ _ ⟨.mk ..,rfl,rfl,Nx4 (Upd (fun _=>rfl)) HI.out⟩
  · obtain rfl:b6=false:=by revert hp; cases b6 <;> simp
    clear hp; refine Zv 28 fun K' hK'=>?_
    go_simp
    exact hK'.out _ _ ⟨.mk ..,rfl,rfl,Nxt (Nx4 (Upd (fun _=>rfl))) HI.out⟩
  · have hn7:b7=false:=by revert hp; cases b7 <;> simp
    have e0:b0=true:=by revert hp; cases b0 <;> simp
    have e3:b3=true:=by revert hp; cases b3 <;> simp
    have e4:b4=true:=by revert hp; cases b4 <;> simp
    have e5:b5=true:=by revert hp; cases b5 <;> simp
    have e6:b6=true:=by revert hp; cases b6 <;> simp
    clear hp
    obtain rfl:=(HI.out.1) e0
    obtain rfl:=(HI.out.2.2.2.1) e4
    obtain rfl:=((Zd HI.out).1) e5
    obtain rfl:=((Zd HI.out).2.1) e6
    subst hn7
    refine Zv 29 fun K' hK'=>?_
    have gE:=(Zd HI.out).2.2.2.1
    have gR:=(Ze HI.out).1
    have gW:=(Ze HI.out).2.2.2.1
    have hb8:b8=false:=by cases b8 with|false=>rfl|true=>exact absurd (gE rfl).2.2 (by decide)
    subst hb8
    obtain ⟨a,b,rfl,hr⟩:=gR rfl e3
    go_simp
    refine (HLD.out W (gW rfl) a b hr).mono ?_
    rintro e w2 ⟨ra,rc,rfl,hg,bn⟩
    obtain ⟨h0,h1,h2,h4,h5,h6,h9,gE,gR,gL,gB,gW,gO,gC⟩:=HI.out
    exact hK'.out _ _ ⟨.mk ..,rfl,rfl,h0,h1,h2,h4,h5,h6,h9,Zf,Zf,(fun _=>⟨ra,rc,rfl,hg⟩),Zf,(fun e=>(gW e).trans (bn.mono (gW e).size)),(gO.trans (bn.mono gO.size)),(fun _=>e3)⟩
  · have hn8:b8=false:=by revert hp; cases b8 <;> simp
    have e0:b0=true:=by revert hp; cases b0 <;> simp
    have e1:b1=true:=by revert hp; cases b1 <;> simp
    have e2:b2=true:=by revert hp; cases b2 <;> simp
    have e3:b3=true:=by revert hp; cases b3 <;> simp
    have e4:b4=true:=by revert hp; cases b4 <;> simp
    have e5:b5=true:=by revert hp; cases b5 <;> simp
    have e6:b6=true:=by revert hp; cases b6 <;> simp
    have e7:b7=true:=by revert hp; cases b7 <;> simp
    clear hp
    subst hn8
    refine inv_op (o:=⟨none,_,_,_,_,_⟩) rfl (fun K' hK'=>?_)
    have gL:=(Ze HI.out).2.1
    have gW:=(Ze HI.out).2.2.2.1
    obtain ⟨ra,rc,rfl,hg⟩:=gL e7
    obtain ⟨hc1,hc2⟩:=one_cell (HRW.out W (gW rfl))
    have hrow:=HRW.out W (gW rfl)
    go_simp
    obtain ⟨h0,h1,h2,h4,h5,h6,h9,gE,gR,gL,gB,gW,gO,gC⟩:=HI.out
    exact hK'.out _ _ ⟨.mk ..,rfl,rfl,h0,h1,h2,h4,h5,h6,h9,(fun _=>⟨e0,e3,e7⟩),(fun e7b _=>by rw [e7] at e7b; cases e7b),(fun _=>⟨ra,rc,rfl,hg.far hrow tneMU _⟩),(fun _=>⟨ra,rc,one_set hrow _,hg.far hrow tneMU _⟩),Zf,(gO.setCell (by simp; omega) _),gC⟩
  · obtain rfl:b9=false:=by revert hp; cases b9 <;> simp
    clear hp; refine Zv 11 fun K' hK'=>?_
    go_simp
    exact hK'.out _ _ ⟨.mk ..,rfl,rfl,Nxt (Nxt (Nx4 (Upd (fun _=>rfl)))) HI.out⟩
 case hdone =>
  rintro ⟨b0,b1,b2,b3,b4,b5,b6,b7,b8,b9,s22,s23,s24,s25,s26,s27,s28,s29,s11⟩ W hI hall
  dsimp only at hI hall ⊢
  have HI:=Zh hI
  clear hI
  obtain rfl:b0=true:=hall 0 (by decide)
  obtain rfl:b1=true:=hall 1 (by decide)
  obtain rfl:b2=true:=hall 2 (by decide)
  obtain rfl:b3=true:=hall 3 (by decide)
  obtain rfl:b4=true:=hall 4 (by decide)
  obtain rfl:b5=true:=hall 5 (by decide)
  obtain rfl:b6=true:=hall 6 (by decide)
  obtain rfl:b7=true:=hall 7 (by decide)
  obtain rfl:b8=true:=hall 8 (by decide)
  obtain rfl:b9=true:=hall 9 (by decide)
  obtain rfl:=((Zd HI.out).2.2.1) rfl
  have gB:=(Ze HI.out).2.2.1
  have gO:=(Zd (Ze HI.out)).1
  clear HI hall
  obtain ⟨ra,rc,hrow,hg⟩:=gB rfl
  obtain ⟨r0,f0⟩:=one_cell hrow
  have HG:=Zh hg
  have HO:=Zh gO
  clear hrow hg gB gO f0
  go_wp2
  refine bodyPost_ret (v:=.tuple #[.agg #[.slice ra l.length rc],.int .i64 0]) (by simp [results,Tryz.results80,go_sem,r0]) rfl ⟨ra,rc,rfl,HG.out,HO.out⟩
theorem offer_any (v:Value) (l:List UInt8) (b z0:Int) (k:Nat) (hk:k < 65536) (z:Int) (F:Int) (G:List UInt8) (hF:ringF l.length b z0=F) (hG:offerX l b z0 k z=G) (hl:l.length≤140737488355328) (w:World) (hv:IsArg w v l) :
 Calls Tryz.prog 80 #[.agg #[v],.int .i64 b,.int .i64 z0,.int .u16 (k:Nat),.int .i64 z] w (Wrote w v l G F):=by
 by_cases h0:F=0
 · subst h0
   obtain ⟨B,N,rfl,rfl,hok⟩:=ring_in hF
   rw [offerX,if_pos hF,Int.toNat_natCast,Int.toNat_natCast] at hG
   rw [←hG]
   exact offer_in v l w hv B N k hok hk z _ rfl
 · have h7:=ringF_two (by rw [hF]; exact h0)
   obtain rfl:F=70:=by omega
   rw [offerX,if_neg (by rw [h7]; decide)] at hG
   subst hG
   exact offer_out v l b z0 k z h7 hl w hv
set_option maxHeartbeats 1000000 in
theorem return_out (v:Value) (l:List UInt8) (b z0:Int) (k:Nat) (y0 y1:Nat) (h:ringF l.length b z0=70) (hl:l.length≤140737488355328) (w:World) (hv:IsArg w v l) :
 Calls Tryz.prog 60 #[.agg #[v],.int .i64 b,.int .i64 z0,.int .u16 (k:Nat),.agg #[.int .u32 (y0:Nat),.int .u32 (y1:Nat)]] w (Wrote w v l l 70):=by
 have HV:=Zh hv
 have HL:=Zh hl
 have HMX:=Zh (show l.length≤maxLen by unfold maxLen; omega)
 have HF:=Zh h
 obtain ⟨va,vc,rfl,_⟩:=hv.shape
 obtain ⟨t1,t2,t3,t4⟩:=three_new w (.slice va l.length vc) #[.int .u32 (y0:Nat),.int .u32 (y1:Nat)] (.slice none 0 0) 24 126 24
 have HB:=Zh t4
 have HM:=Zh t1
 have HH:=Zh t2
 have HR:=Zh t3
 clear hv hl h t1 t2 t3 t4
 go_enter Tryz.func60,Tryz.ntmps60
 go_wp2_with fail
 refine (ringFault_any _ _ _ HMX.out _ _ _ HF.out _).mono ?_
 rintro e w1 ⟨rfl,hb⟩
 replace HM:=Zk HM hb
 replace HH:=Zk HH hb
 replace HR:=Zk HR hb
 replace HB:=Zb HB hb
 clear hb
 obtain ⟨c0,_⟩:=one_cell HM.out
 go_wp2_with fail
 refine (ringSame_any _ l _ (HV.out.below HB.out) HL.out).mono ?_
 rintro e w2 ⟨r,rfl,hr,hb⟩
 have HR2:=Zh (row_keep HR.out hb)
 have HB2:=Zh (HB.out.trans (hb.mono HB.out.size))
 have HO:=Zh (ownsRow_base (base':=w.heap.size) hr HB.out.size)
 obtain ⟨ra,rc,rfl,_⟩:=(isArg_of_owns hr).shape
 obtain ⟨r0,f0⟩:=one_cell HR2.out
 clear hb hr c0
 go_wp2
 refine bodyPost_ret (v:=.tuple #[.agg #[.slice ra l.length rc],.int .i64 70]) (by simp [results,Tryz.results60,go_sem,r0]) rfl ⟨ra,rc,rfl,.inr (owns_far HO.out HR2.out tneMU _),HB2.out.setCell (by simp; omega) _⟩
structure RngReturnX where
 (b0 b1 b2 b3 b4 b5 b6 b7 b8 b9:Bool)
 (s22 s23 s24 s25 s26 s27 s28 s29 s11:Value)
set_option maxHeartbeats 4000000 in
set_option maxRecDepth 100000 in
theorem return_in (v:Value) (l:List UInt8) (w:World) (hv:IsArg w v l) (B N at_:Nat) (hok:RingOk l.length B N) (hi:at_ < 65536) (y0 y1:Nat) (hy0:y0 < 4294967296) (hy1:y1 < 4294967296) :
 Calls Tryz.prog 60 #[.agg #[v],.int .i64 (B:Nat),.int .i64 (N:Nat),.int .u16 (at_:Nat),.agg #[.int .u32 (y0:Nat),.int .u32 (y1:Nat)]] w (Wrote w v l (returnD l B N at_ y0 y1) 0):=by
 obtain ⟨ix,hix⟩:∃ p,p=B+secN N+2:=⟨_,rfl⟩
 obtain ⟨sq,hsq⟩:∃ p,p=B+secN N+4:=⟨_,rfl⟩
 obtain ⟨p,hp⟩:∃ p,B+secN N+4+8 * (at_ % N)=p:=⟨_,rfl⟩
 obtain ⟨H,hH⟩:∃ H,H=returnD l B N at_ y0 y1:=⟨_,rfl⟩
 rw [←hH]
 have hN:=hok.right.le
 have hsz:=sizeN_le N
 have hfit:=hok.fits
 have hL:=hok.few
 have HL:=Zh hL
 have HB8:=Zh (show B≤8192 by omega)
 have HN:=Zh hN
 have HMX:=Zh (show l.length≤maxLen by unfold maxLen; omega)
 have HF:=Zh (show ringF l.length (B:Int) (N:Int)=0 by rw [ringF,if_pos hok.ok])
 have HV:=Zh hv
 obtain ⟨j,hj⟩:∃ j,at_ % N=j:=⟨_,rfl⟩
 have hjn:j < N:=by rw [←hj]; exact Nat.mod_lt _ (by omega)
 rw [hj] at hp
 have HJ:=Zh hj
 have HI:=Zh hi
 have HQ:=Zh (show ((j:Nat):Int) * 8=((8 * j:Nat):Int) by omega)
 have HT:=Zh (show ((B+secN N+4:Nat):Int)+((8 * j:Nat):Int)=(p:Nat) by omega)
 have HQ1:=Zh (show -9223372036854775808≤((8 * j:Nat):Int)∧((8 * j:Nat):Int)≤9223372036854775807 by omega)
 have HT1:=Zh (show -9223372036854775808≤((p:Nat):Int)∧((p:Nat):Int)≤9223372036854775807 by omega)
 have hpl:p+8≤l.length:=by omega
 have HPL:=Zh hpl
 have hixl:ix+2≤l.length:=by omega
 have hpe:sq+8 * j=p:=by omega
 have HP:=Zh (show ∀ W,Calls Tryz.prog 76 #[.int .i64 (B:Nat),.int .i64 (N:Nat)] W fun e w'=>∃ a b,e=.returned (.agg #[.int .i64 (ix:Nat),.func (.func 142) #[] #[.pointer (some ⟨a,0,none⟩),.pointer (some ⟨b,0,none⟩)]])∧RowAt w' a b (sq:Nat) 8∧Below W.heap.size W w' from fun W=>usedPart_any B N ix sq hix.symm hsq.symm (by omega) hN.2 W)
 obtain ⟨va,vc,rfl,_⟩:=hv.shape
 obtain ⟨t1,t2,t3,t4⟩:=three_new w (.slice va l.length vc) #[.int .u32 (y0:Nat),.int .u32 (y1:Nat)] (.slice none 0 0) 24 126 24
 have HB:=Zh t4
 have HM:=Zh t1
 have HH:=Zh t2
 have HR:=Zh t3
 have hHH:H=putAt (putAt (putAt l p 4 y0) (p+4) 4 y1) ix 2 (at_+1):=by rw [hH,returnD,hj,hix,←hp]
 have HLA:=Zh (show ∀ W,Below w.heap.size w W→W.heap[w.heap.size+1]? = some (.cells #[.int .u32 (y0:Nat),.int .u32 (y1:Nat)] 126)→∀ a b,RowAt W a b (sq:Nat) 8→Calls Tryz.prog 99 #[.agg #[.slice va l.length vc],.agg #[.int .i64 (ix:Nat),.func (.func 142) #[] #[.pointer (some ⟨a,0,none⟩),.pointer (some ⟨b,0,none⟩)]],.int .i64 (N:Nat),.int .u16 (at_:Nat),.func (.func 100) #[] #[.pointer (some ⟨w.heap.size+1,0,none⟩)]] W fun e w'=>∃ ra rc,e=.returned (.agg #[.slice ra l.length rc])∧Given w' w.heap.size (.slice va l.length vc) l (.slice ra l.length rc) H∧Below W.heap.size W w' from
  fun W hb hh a b hr=>(laid_return _ l W (hv.below hb) hL ix sq a b N at_ j p (w.heap.size+1) hr hN hi hj hpe hpl hixl y0 y1 hy0 hy1 hh).mono fun e w' ⟨ra,rc,h1,h2,h3⟩=>⟨ra,rc,h1,by rw [hHH]; exact h2.base hb.size,h3⟩)
 clear hN hsz hfit hL hv hj hi hpl hok hp hjn hix hsq hixl hpe hH hHH t1 t2 t3 t4 hy0 hy1
 go_enter Tryz.func60,Tryz.ntmps60
 go_wp2_with fail
 refine (ringFault_any _ _ _ HMX.out _ _ _ HF.out _).mono ?_
 rintro e w1 ⟨rfl,hb⟩
 replace HM:=Zk HM hb
 replace HH:=Zk HH hb
 replace HR:=Zk HR hb
 replace HB:=Zb HB hb
 clear hb
 have HMW:=Zh (show ∀ W,Below w1.heap.size w1 W→W.heap[w.heap.size]? = some (.cells #[.slice va l.length vc] 24 (0,0)) from fun W h=>row_keep HM.out h)
 have HRW:=Zh (show ∀ W,Below w1.heap.size w1 W→W.heap[w.heap.size+1+1]? = some (.cells #[.slice none 0 0] 24) from fun W h=>row_keep HR.out h)
 have HLD:=Zh (show ∀ W,Below w1.heap.size w1 W→∀ a b,RowAt W a b (sq:Nat) 8→Calls Tryz.prog 99 #[.agg #[.slice va l.length vc],.agg #[.int .i64 (ix:Nat),.func (.func 142) #[] #[.pointer (some ⟨a,0,none⟩),.pointer (some ⟨b,0,none⟩)]],.int .i64 (N:Nat),.int .u16 (at_:Nat),.func (.func 100) #[] #[.pointer (some ⟨w.heap.size+1,0,none⟩)]] W fun e w'=>∃ ra rc,e=.returned (.agg #[.slice ra l.length rc])∧Given w' w.heap.size (.slice va l.length vc) l (.slice ra l.length rc) H∧Below W.heap.size W w' from fun W h=>HLA.out W (HB.out.trans (h.mono HB.out.size)) (row_keep HH.out h))
 clear HLA
 go_wp2_with fail
 refine wp_region_rec (X:=RngReturnX) (by kernel_rfl) (by kernel_rfl) (fun x=>#[x.b0,x.b1,x.b2,x.b3,x.b4,x.b5,x.b6,x.b7,x.b8,x.b9]) (fun x=>{ tmps:=#[.agg #[.slice va l.length vc],.int .i64 (B:Nat),.int .i64 (N:Nat),.int .u16 (at_:Nat),.agg #[.int .u32 (y0:Nat),.int .u32 (y1:Nat)],.pointer (some ⟨w.heap.size,0,none⟩),undef,undef,undef,.pointer (some ⟨w.heap.size+1,0,none⟩),.pointer (some ⟨w.heap.size+1+1,0,none⟩),x.s11,.int .i64 0,.agg #[.slice va l.length vc],.int .i64 (B:Nat),.int .i64 (N:Nat),.int .i64 0,.int .i64 0,.bool false,undef,undef,undef,x.s22,x.s23,x.s24,x.s25,x.s26,x.s27,x.s28,x.s29],defers:=[] }) (fun x W=>(x.b0→x.s22=.agg #[.slice va l.length vc])∧(x.b1→x.s23=.int .i64 (B:Nat))∧(x.b2→x.s24=.int .i64 (N:Nat))∧(x.b4→x.s26=.int .i64 (N:Nat))∧(x.b5→x.s27=.int .u16 (at_:Nat))∧(x.b6→x.s28=.func (.func 100) #[] #[.pointer (some ⟨w.heap.size+1,0,none⟩)])∧(x.b9→x.s11=.int .i64 0)∧(x.b8→x.b0∧x.b3∧x.b7)∧(x.b7=false→x.b3→∃ a b,x.s25=.agg #[.int .i64 (ix:Nat),.func (.func 142) #[] #[.pointer (some ⟨a,0,none⟩),.pointer (some ⟨b,0,none⟩)]]∧RowAt W a b (sq:Nat) 8)∧(x.b7→∃ ra rc,x.s29=.agg #[.slice ra l.length rc]∧Given W w.heap.size (.slice va l.length vc) l (.slice ra l.length rc) H)∧(x.b8→∃ ra rc,W.heap[w.heap.size+1+1]? = some (.cells #[.slice ra l.length rc] 24 (0,0))∧Given W w.heap.size (.slice va l.length vc) l (.slice ra l.length rc) H)∧(x.b8=false→Below w1.heap.size w1 W)∧(Below w.heap.size w W)∧(x.b7→x.b3)) ⟨false,false,false,false,false,false,false,false,false,false,undef,undef,undef,undef,undef,undef,undef,undef,.int .i64 0⟩ rfl rfl ⟨Zf,Zf,Zf,Zf,Zf,Zf,Zf,Zf,(fun _ h=>by cases h),Zf,Zf,(fun _=>(Below.refl _ _).drew),HB.out.drew,Zf⟩ (fun _=>rfl) ?hstep ?hdone
 case hstep =>
  rintro ⟨b0,b1,b2,b3,b4,b5,b6,b7,b8,b9,s22,s23,s24,s25,s26,s27,s28,s29,s11⟩ W hI i hi
  dsimp only at hI hi ⊢
  have HI:=Zh hI
  clear hI
  rw [Region.ready,List.mem_filter,List.mem_range] at hi
  obtain ⟨hlt,hp⟩:=hi
  have hi7:i=0∨i=1∨i=2∨i=3∨i=4∨i=5∨i=6∨i=7∨i=8∨i=9:=by simp at hlt; omega
  clear hlt
  rcases hi7 with rfl|rfl|rfl|rfl|rfl|rfl|rfl|rfl|rfl|rfl
  all_goals simp [Region.binds] at hp
  · obtain rfl:b0=false:=by revert hp; cases b0 <;> simp
    clear hp; refine Zv 22 fun K' hK'=>?_
    have gE:=(Zd HI.out).2.2.2.1
    have gW:=(Ze HI.out).2.2.2.1
    have hb8:b8=false:=by cases b8 with|false=>rfl|true=>exact absurd (gE rfl).1 (by decide)
    subst hb8
    obtain ⟨hc1,hc2⟩:=one_cell (HMW.out W (gW rfl))
    go_simp
    exact hK'.out _ _ ⟨.mk ..,rfl,rfl,Nxt (Nxt (Nxt (Nx4 (Upd Zf)))) ((Upd (fun _=>rfl)) HI.out)⟩
  · obtain rfl:b1=false:=by revert hp; cases b1 <;> simp
    clear hp; refine Zv 23 fun K' hK'=>?_
    go_simp
    exact hK'.out _ _ ⟨.mk ..,rfl,rfl,Nxt (Upd (fun _=>rfl)) HI.out⟩
  · obtain rfl:b2=false:=by revert hp; cases b2 <;> simp
    clear hp; refine Zv 24 fun K' hK'=>?_
    go_simp
    exact hK'.out _ _ ⟨.mk ..,rfl,rfl,Nxt (Nxt (Upd (fun _=>rfl))) HI.out⟩
  · obtain ⟨rfl,e1,e2⟩:b3=false∧b1=true∧b2=true:=by revert hp; cases b3 <;> cases b1 <;> cases b2 <;> simp
    clear hp
    obtain rfl:=(HI.out.2.1) e1
    obtain rfl:=(HI.out.2.2.1) e2
    refine Zv 25 fun K' hK'=>?_
    have gE:=(Zd HI.out).2.2.2.1
    have gC:=(Zd (Ze HI.out)).2
    have hb8:b8=false:=by cases b8 with|false=>rfl|true=>exact absurd (gE rfl).2.1 (by decide)
    subst hb8
    have hb7:b7=false:=by cases b7 with|false=>rfl|true=>exact absurd (gC rfl) (by decide)
    subst hb7
    go_simp
    refine (HP.out W).mono ?_
    rintro e w2 ⟨a,b,rfl,hr,bn⟩
    obtain ⟨h0,h1,h2,h4,h5,h6,h9,gE,gR,gL,gB,gW,gO,gC⟩:=HI.out
    exact hK'.out _ _ ⟨.mk ..,rfl,rfl,h0,h1,h2,h4,h5,h6,h9,Zf,(fun _ _=>⟨a,b,rfl,hr⟩),Zf,Zf,(fun e=>(gW e).trans (bn.mono (gW e).size)),(gO.trans (bn.mono gO.size)),(fun _=>rfl)⟩
  · obtain rfl:b4=false:=by revert hp; cases b4 <;> simp
    clear hp; refine Zv 26 fun K' hK'=>?_
    go_simp
    exact hK'.out _ _ ⟨.mk ..,rfl,rfl,Nxt (Nxt (Nxt (Upd (fun _=>rfl)))) HI.out⟩
  · obtain rfl:b5=false:=by revert hp; cases b5 <;> simp
    clear hp; refine Zv 27 fun K' hK'=>?_
    go_simp
    exact hK'.out _ _ ⟨.mk ..,rfl,rfl,Nx4 (Upd (fun _=>rfl)) HI.out⟩
  · obtain rfl:b6=false:=by revert hp; cases b6 <;> simp
    clear hp; refine Zv 28 fun K' hK'=>?_
    go_simp
    exact hK'.out _ _ ⟨.mk ..,rfl,rfl,Nxt (Nx4 (Upd (fun _=>rfl))) HI.out⟩
  · have hn7:b7=false:=by revert hp; cases b7 <;> simp
    have e0:b0=true:=by revert hp; cases b0 <;> simp
    have e3:b3=true:=by revert hp; cases b3 <;> simp
    have e4:b4=true:=by revert hp; cases b4 <;> simp
    have e5:b5=true:=by revert hp; cases b5 <;> simp
    have e6:b6=true:=by revert hp; cases b6 <;> simp
    clear hp
    obtain rfl:=(HI.out.1) e0
    obtain rfl:=(HI.out.2.2.2.1) e4
    obtain rfl:=((Zd HI.out).1) e5
    obtain rfl:=((Zd HI.out).2.1) e6
    subst hn7
    refine Zv 29 fun K' hK'=>?_
    have gE:=(Zd HI.out).2.2.2.1
    have gR:=(Ze HI.out).1
    have gW:=(Ze HI.out).2.2.2.1
    have hb8:b8=false:=by cases b8 with|false=>rfl|true=>exact absurd (gE rfl).2.2 (by decide)
    subst hb8
    obtain ⟨a,b,rfl,hr⟩:=gR rfl e3
    go_simp
    refine (HLD.out W (gW rfl) a b hr).mono ?_
    rintro e w2 ⟨ra,rc,rfl,hg,bn⟩
    obtain ⟨h0,h1,h2,h4,h5,h6,h9,gE,gR,gL,gB,gW,gO,gC⟩:=HI.out
    exact hK'.out _ _ ⟨.mk ..,rfl,rfl,h0,h1,h2,h4,h5,h6,h9,Zf,Zf,(fun _=>⟨ra,rc,rfl,hg⟩),Zf,(fun e=>(gW e).trans (bn.mono (gW e).size)),(gO.trans (bn.mono gO.size)),(fun _=>e3)⟩
  · have hn8:b8=false:=by revert hp; cases b8 <;> simp
    have e0:b0=true:=by revert hp; cases b0 <;> simp
    have e1:b1=true:=by revert hp; cases b1 <;> simp
    have e2:b2=true:=by revert hp; cases b2 <;> simp
    have e3:b3=true:=by revert hp; cases b3 <;> simp
    have e4:b4=true:=by revert hp; cases b4 <;> simp
    have e5:b5=true:=by revert hp; cases b5 <;> simp
    have e6:b6=true:=by revert hp; cases b6 <;> simp
    have e7:b7=true:=by revert hp; cases b7 <;> simp
    clear hp
    subst hn8
    refine inv_op (o:=⟨none,_,_,_,_,_⟩) rfl (fun K' hK'=>?_)
    have gL:=(Ze HI.out).2.1
    have gW:=(Ze HI.out).2.2.2.1
    obtain ⟨ra,rc,rfl,hg⟩:=gL e7
    obtain ⟨hc1,hc2⟩:=one_cell (HRW.out W (gW rfl))
    have hrow:=HRW.out W (gW rfl)
    go_simp
    obtain ⟨h0,h1,h2,h4,h5,h6,h9,gE,gR,gL,gB,gW,gO,gC⟩:=HI.out
    exact hK'.out _ _ ⟨.mk ..,rfl,rfl,h0,h1,h2,h4,h5,h6,h9,(fun _=>⟨e0,e3,e7⟩),(fun e7b _=>by rw [e7] at e7b; cases e7b),(fun _=>⟨ra,rc,rfl,hg.far hrow tneMU _⟩),(fun _=>⟨ra,rc,one_set hrow _,hg.far hrow tneMU _⟩),Zf,(gO.setCell (by simp; omega) _),gC⟩
  · obtain rfl:b9=false:=by revert hp; cases b9 <;> simp
    clear hp; refine Zv 11 fun K' hK'=>?_
    go_simp
    exact hK'.out _ _ ⟨.mk ..,rfl,rfl,Nxt (Nxt (Nx4 (Upd (fun _=>rfl)))) HI.out⟩
 case hdone =>
  rintro ⟨b0,b1,b2,b3,b4,b5,b6,b7,b8,b9,s22,s23,s24,s25,s26,s27,s28,s29,s11⟩ W hI hall
  dsimp only at hI hall ⊢
  have HI:=Zh hI
  clear hI
  obtain rfl:b0=true:=hall 0 (by decide)
  obtain rfl:b1=true:=hall 1 (by decide)
  obtain rfl:b2=true:=hall 2 (by decide)
  obtain rfl:b3=true:=hall 3 (by decide)
  obtain rfl:b4=true:=hall 4 (by decide)
  obtain rfl:b5=true:=hall 5 (by decide)
  obtain rfl:b6=true:=hall 6 (by decide)
  obtain rfl:b7=true:=hall 7 (by decide)
  obtain rfl:b8=true:=hall 8 (by decide)
  obtain rfl:b9=true:=hall 9 (by decide)
  obtain rfl:=((Zd HI.out).2.2.1) rfl
  have gB:=(Ze HI.out).2.2.1
  have gO:=(Zd (Ze HI.out)).1
  clear HI hall
  obtain ⟨ra,rc,hrow,hg⟩:=gB rfl
  obtain ⟨r0,f0⟩:=one_cell hrow
  have HG:=Zh hg
  have HO:=Zh gO
  clear hrow hg gB gO f0
  go_wp2
  refine bodyPost_ret (v:=.tuple #[.agg #[.slice ra l.length rc],.int .i64 0]) (by simp [results,Tryz.results60,go_sem,r0]) rfl ⟨ra,rc,rfl,HG.out,HO.out⟩
theorem return_any (v:Value) (l:List UInt8) (b z0:Int) (k:Nat) (hk:k < 65536) (y0 y1:Nat) (hy0:y0 < 4294967296) (hy1:y1 < 4294967296) (F:Int) (G:List UInt8) (hF:ringF l.length b z0=F) (hG:returnX l b z0 k y0 y1=G) (hl:l.length≤140737488355328) (w:World) (hv:IsArg w v l) :
 Calls Tryz.prog 60 #[.agg #[v],.int .i64 b,.int .i64 z0,.int .u16 (k:Nat),.agg #[.int .u32 (y0:Nat),.int .u32 (y1:Nat)]] w (Wrote w v l G F):=by
 by_cases h0:F=0
 · subst h0
   obtain ⟨B,N,rfl,rfl,hok⟩:=ring_in hF
   rw [returnX,if_pos hF,Int.toNat_natCast,Int.toNat_natCast] at hG
   rw [←hG]
   exact return_in v l w hv B N k hok hk y0 y1 hy0 hy1
 · have h7:=ringF_two (by rw [hF]; exact h0)
   obtain rfl:F=70:=by omega
   rw [returnX,if_neg (by rw [h7]; decide)] at hG
   subst hG
   exact return_out v l b z0 k y0 y1 h7 hl w hv
theorem infoI:(Tryz.prog.info? 3).map (fun i=>(i.zero,i.size,i.bytes))=some (some (.int .i64 0),1,8):=by kernel_rfl
theorem infoCh:(Tryz.prog.info? 97).map (fun i=>(i.zero,i.size,i.bytes))=some (some (.agg #[.int .i64 0,.slice none 0 0,.int .i64 0]),3,40):=by kernel_rfl
def OwnI (B:Nat) (W:World) (v:Value) (l:List Int):Prop:=W.ownsRow B 3 1 v l.length (l.map (Value.int .i64))
theorem OwnI.below {B:Nat} {w w':World} {v:Value} {l:List Int} (h:OwnI B w v l) (hb:Below w.heap.size w w'):OwnI B w' v l:=ownsRow_below h hb
theorem OwnI.base {B B':Nat} {w:World} {v:Value} {l:List Int} (h:OwnI B w v l) (hb:B'≤B):OwnI B' w v l:=ownsRow_base h hb
theorem owns_stay {w:World} {B g:Nat} {e:TypeId} {s:Nat} {v:Value} {n:Nat} {xs:List Value} {cs:Array Value} {t:TypeId} {fr:Nat × Nat} (h:w.ownsRow B e s v n xs) (hg:w.heap[g]? = some (.cells cs t fr)) (hne:(t:Nat)≠e) (j:Nat) (u:Value):(w.setCell ⟨g,j,none⟩ u).ownsRow B e s v n xs :=
 owns_keep h fun k cur _ hc=>by
  rw [Below.heap_setCell _ _ _ _ (fun e'=>by
   subst e'
   rw [hg] at hc
   injection hc with hc
   injection hc with _ hc _
   exact hne hc)]
  exact hc
theorem OwnI.stay {B g:Nat} {w:World} {v:Value} {l:List Int} {cs:Array Value} {t:TypeId} {fr:Nat × Nat} (h:OwnI B w v l) (hg:w.heap[g]? = some (.cells cs t fr)) (hne:(t:Nat)≠3) (j:Nat) (u:Value):OwnI B (w.setCell ⟨g,j,none⟩ u) v l:=owns_stay h hg hne j u
theorem owns_slice {w:World} {B:Nat} {e:TypeId} {s:Nat} {v:Value} {n:Nat} {xs:List Value} (h:w.ownsRow B e s v n xs):∃ a c,v=.slice a n c∧n≤c∧c≤maxLen:=by
 rcases h.2 with ⟨rfl,rfl⟩|⟨g,cap,cur,rfl,_,_,h1,h2,_⟩
 · exact ⟨none,0,rfl,Nat.le_refl _,by decide⟩
 · exact ⟨_,cap,rfl,h1,h2⟩
theorem OwnI.shape {B:Nat} {w:World} {v:Value} {l:List Int} (h:OwnI B w v l):∃ a c,v=.slice a l.length c∧l.length≤c∧c≤maxLen:=owns_slice h
theorem OwnI.lie {B:Nat} {w:World} {a:Option Addr} {n c:Nat} {l:List Int} (h:OwnI B w (.slice a n c) l) (h0:l≠[]):∃ g cur,a=some ⟨g,0,none⟩∧B≤g∧g < w.heap.size∧w.heap[g]? = some (.cells cur 3 (0,0))∧n=l.length∧n≤c∧c≤maxLen:=by
 rcases h.2 with ⟨_,h1⟩|⟨g,cap,cur,hv,hb,hh,h1,h2,_⟩
 · exact absurd (List.length_eq_zero_iff.1 h1) h0
 · cases hv
   exact ⟨g,cur,rfl,hb,(Array.getElem?_eq_some_iff.1 hh).1,hh,rfl,h1,h2⟩
theorem OwnI.at {B:Nat} {w:World} {g n c:Nat} {l:List Int} (h:OwnI B w (.slice (some ⟨g,0,none⟩) n c) l) (k:Nat) (hk:k < l.length):w.cell? ⟨g,k,none⟩=some (.int .i64 (l.getD k 0)):=by
 have h0:w.ownsRow B 3 1 (.slice (some ⟨g,0,none⟩) n c) l.length (l.map (Value.int .i64)):=h
 have hn:n=l.length:=by obtain ⟨a,c',hv,_⟩:=h.shape; cases hv; rfl
 subst hn
 rw [World.ownsRow.cellAt h0 k (by omega)]
 simp [List.getD_eq_getElem?_getD,hk]
def chCells:List QCh→List Value→List Value
 | c::r,d::s=>.int .i64 c.head::d::.int .i64 c.room::chCells r s
 | [],_=>[]
 | _::_,[]=>[]
theorem chCells_length {L:List QCh} {D:List Value} (h:D.length=L.length):(chCells L D).length=L.length * 3:=by
 induction L generalizing D with
 | nil=>cases D <;> rfl
 | cons c r ih =>
   cases D with
   | nil=>simp at h
   | cons d s =>
     have:=ih (D:=s) (by simpa using h)
     simp only [chCells,List.length_cons]
     omega
theorem chCells_append {L M:List QCh} {D E:List Value} (h:D.length=L.length):chCells (L++M) (D++E)=chCells L D++chCells M E:=by
 induction L generalizing D with
 | nil =>
   have:D=[]:=List.length_eq_zero_iff.1 (by simpa using h)
   subst this
   rfl
 | cons c r ih =>
   cases D with
   | nil=>simp at h
   | cons d s =>
     have:=ih (D:=s) (by simpa using h)
     simp only [chCells,List.cons_append,this]
theorem chCells_at {L:List QCh} {D:List Value} (i:Nat) (c:QCh) (d:Value) (hc:L[i]? = some c) (hd:D[i]? = some d) :
 (chCells L D)[i * 3]? = some (.int .i64 c.head)∧(chCells L D)[i * 3+1]? = some d∧(chCells L D)[i * 3+2]? = some (.int .i64 c.room):=by
 induction L generalizing D i with
 | nil=>simp at hc
 | cons c0 r ih =>
   cases D with
   | nil=>simp at hd
   | cons d0 s =>
     cases i with
     | zero =>
       simp at hc hd
       subst hc
       subst hd
       exact ⟨rfl,rfl,rfl⟩
     | succ i =>
       have h:=ih (D:=s) i (by simpa using hc) (by simpa using hd)
       have e:chCells (c0::r) (d0::s)=.int .i64 c0.head::d0::.int .i64 c0.room::chCells r s:=rfl
       rw [e,show (i+1) * 3=i * 3+1+1+1 by omega]
       exact h
theorem chCells_set {L:List QCh} {D:List Value} (h:D.length=L.length) (i:Nat) (d:Value):(chCells L D).set (i * 3+1) d=chCells L (D.set i d):=by
 induction L generalizing D i with
 | nil=>cases D <;> rfl
 | cons c r ih =>
   cases D with
   | nil=>simp at h
   | cons d0 s =>
     have e:∀ s:List Value,∀ d0,chCells (c::r) (d0::s)=.int .i64 c.head::d0::.int .i64 c.room::chCells r s:=fun _ _=>rfl
     cases i with
     | zero=>rfl
     | succ i =>
       rw [List.set_cons_succ,e,e,show (i+1) * 3+1=(i * 3+1)+1+1+1 by omega,←ih (D:=s) (by simpa using h) i]
       rfl
theorem chCells_one {L:List QCh} {D:List Value} (h:∀ d∈D,d.oneCell'=true):∀ u∈chCells L D,u.oneCell'=true:=by
 induction L generalizing D with
 | nil=>intro u hu; cases D <;> cases hu
 | cons c r ih =>
   cases D with
   | nil=>intro u hu; cases hu
   | cons d s =>
     intro u hu
     have e:chCells (c::r) (d::s)=.int .i64 c.head::d::.int .i64 c.room::chCells r s:=rfl
     rw [e] at hu
     rcases List.mem_cons.1 hu with rfl|hu
     · rfl
     rcases List.mem_cons.1 hu with rfl|hu
     · exact h _ (by simp)
     rcases List.mem_cons.1 hu with rfl|hu
     · rfl
     exact ih (fun d hd=>h d (List.mem_cons_of_mem _ hd)) u hu
structure OwnC (B:Nat) (W:World) (v:Value) (L:List QCh) (D:List Value):Prop where
 len:D.length=L.length
 row:W.ownsRow B 97 3 v L.length (chCells L D)
 ds:∀ (i:Nat) (d:Value) (c:QCh),D[i]? = some d→L[i]? = some c→OwnI B W d c.ds
theorem OwnC.below {B:Nat} {w w':World} {v:Value} {L:List QCh} {D:List Value} (h:OwnC B w v L D) (hb:Below w.heap.size w w'):OwnC B w' v L D:=⟨h.len,ownsRow_below h.row hb,fun i d c hd hc=>(h.ds i d c hd hc).below hb⟩
theorem OwnC.base {B B':Nat} {w:World} {v:Value} {L:List QCh} {D:List Value} (h:OwnC B w v L D) (hb:B'≤B):OwnC B' w v L D:=⟨h.len,ownsRow_base h.row hb,fun i d c hd hc=>(h.ds i d c hd hc).base hb⟩
theorem OwnC.stay {B g:Nat} {w:World} {v:Value} {L:List QCh} {D:List Value} {cs:Array Value} {t:TypeId} {fr:Nat × Nat} (h:OwnC B w v L D) (hg:w.heap[g]? = some (.cells cs t fr)) (h1:(t:Nat)≠3) (h2:(t:Nat)≠97) (j:Nat) (u:Value):OwnC B (w.setCell ⟨g,j,none⟩ u) v L D :=
 ⟨h.len,owns_stay h.row hg h2 j u,fun i d c hd hc=>(h.ds i d c hd hc).stay hg h1 j u⟩
theorem OwnC.shape {B:Nat} {w:World} {v:Value} {L:List QCh} {D:List Value} (h:OwnC B w v L D):∃ a c,v=.slice a L.length c∧L.length≤c∧c≤maxLen:=owns_slice h.row
theorem OwnC.lie {B:Nat} {w:World} {a:Option Addr} {n c:Nat} {L:List QCh} {D:List Value} (h:OwnC B w (.slice a n c) L D) (h0:0 < L.length):∃ g cur,a=some ⟨g,0,none⟩∧B≤g∧g < w.heap.size∧w.heap[g]? = some (.cells cur 97 (0,0))∧n=L.length∧n≤c∧c≤maxLen:=by
 rcases h.row.2 with ⟨_,h1⟩|⟨g,cap,cur,hv,hb,hh,h1,h2,_⟩
 · omega
 · cases hv
   exact ⟨g,cur,rfl,hb,(Array.getElem?_eq_some_iff.1 hh).1,hh,rfl,h1,h2⟩
theorem OwnC.at {B:Nat} {w:World} {g n c:Nat} {L:List QCh} {D:List Value} (h:OwnC B w (.slice (some ⟨g,0,none⟩) n c) L D) (i:Nat) (hi:i < L.length) :
 ∃ (x:QCh) (d:Value),L[i]? = some x∧D[i]? = some d∧w.cell? ⟨g,i * 3,none⟩=some (.int .i64 x.head)∧w.cell? ⟨g,i * 3+1,none⟩=some d∧w.cell? ⟨g,i * 3+2,none⟩=some (.int .i64 x.room)∧OwnI B w d x.ds:=by
 have hn:n=L.length:=by obtain ⟨a,c',hv,_⟩:=h.shape; cases hv; rfl
 subst hn
 have hx:L[i]? = some L[i]:=List.getElem?_eq_getElem hi
 have hd:D[i]? = some (D[i]'(by rw [h.len]; exact hi)):=List.getElem?_eq_getElem _
 obtain ⟨e1,e2,e3⟩:=chCells_at i _ _ hx hd
 exact ⟨_,_,hx,hd,(World.ownsRow.cellAt h.row _ (by omega)).trans e1,(World.ownsRow.cellAt h.row _ (by omega)).trans e2,(World.ownsRow.cellAt h.row _ (by omega)).trans e3,h.ds i _ _ hd hx⟩
structure IsQ (B:Nat) (W:World) (F C:Value) (q:QQ) (D:List Value):Prop where
 free:OwnI B W F q.free
 chains:OwnC B W C q.chains D
 apart:∀ (i:Nat) (d:Value) (p:Nat),D[i]? = some d→d.ownBlock=some p→F.ownBlock≠some p
theorem IsQ.below {B:Nat} {w w':World} {F C:Value} {q:QQ} {D:List Value} (h:IsQ B w F C q D) (hb:Below w.heap.size w w'):IsQ B w' F C q D:=⟨h.free.below hb,h.chains.below hb,h.apart⟩
theorem IsQ.base {B B':Nat} {w:World} {F C:Value} {q:QQ} {D:List Value} (h:IsQ B w F C q D) (hb:B'≤B):IsQ B' w F C q D:=⟨h.free.base hb,h.chains.base hb,h.apart⟩
theorem IsQ.stay {B g:Nat} {w:World} {F C:Value} {q:QQ} {D:List Value} {cs:Array Value} {t:TypeId} {fr:Nat × Nat} (h:IsQ B w F C q D) (hg:w.heap[g]? = some (.cells cs t fr)) (h1:(t:Nat)≠3) (h2:(t:Nat)≠97) (j:Nat) (u:Value):IsQ B (w.setCell ⟨g,j,none⟩ u) F C q D :=
 ⟨h.free.stay hg h1 j u,h.chains.stay hg h1 h2 j u,h.apart⟩
theorem IsQ.shape {B:Nat} {w:World} {F C:Value} {q:QQ} {D:List Value} (h:IsQ B w F C q D):∃ a n c a' n' c',F=.slice a n c∧C=.slice a' n' c'∧n=q.free.length∧n'=q.chains.length∧n≤c∧c≤maxLen∧n'≤c'∧c'≤maxLen:=by
 obtain ⟨a,c,h1,h2,h3⟩:=h.free.shape
 obtain ⟨a',c',h4,h5,h6⟩:=h.chains.shape
 exact ⟨a,_,c,a',_,c',h1,h4,rfl,rfl,h2,h3,h5,h6⟩
theorem IsQ.as {B:Nat} {w:World} {F C:Value} {q q':QQ} {D:List Value} (h:IsQ B w F C q D) (h1:q'.free=q.free) (h2:q'.chains=q.chains):IsQ B w F C q' D:=by
 refine ⟨?_,?_,h.apart⟩
 · rw [h1]; exact h.free
 · rw [h2]; exact h.chains
theorem row_put {X:World} {g:Nat} {cs:Array Value} {t:TypeId} {fr:Nat × Nat} (h:X.heap[g]? = some (.cells cs t fr)) (i:Nat) (v:Value):(X.setCell ⟨g,i,none⟩ v).heap[g]? = some (.cells (cs.setIfInBounds i v) t fr):=by simp [World.setCell,Array.getElem?_modify,h]
theorem row_new {w:World} {g:Nat} {o:Obj} (h:w.heap[g]? = some o) (o':Obj):(w.alloc o').heap[g]? = some o:=row_keep h ((Below.refl _ _).alloc (Nat.le_refl _) o')
structure Turn (w w':World) (g:Nat):Prop where
 below:∀ B,B≤g→B≤w.heap.size→Below B w w'
 row:∀ (k:Nat) (o:Obj),w.heap[k]? = some o→k≠g→w'.heap[k]? = some o
theorem Turn.of_below {w w':World} (h:Below w.heap.size w w') (g:Nat):Turn w w' g:=⟨fun _ _ h2=>h.mono h2,fun _ _ hk _=>row_keep hk h⟩
theorem Turn.owns {w w':World} {g B n s:Nat} {e:TypeId} {v:Value} {xs:List Value} (h:Turn w w' g) (ho:w.ownsRow B e s v n xs) (hne:v.ownBlock≠some g):w'.ownsRow B e s v n xs :=
 owns_keep ho fun k _ hk hc=>h.row k _ hc (fun e=>hne (by rw [←e]; exact hk))
structure Spare (w w':World) (B:Nat) (T:Nat→Bool):Prop where
 below:Below B w w'
 row:∀ (k:Nat) (cs:Array Value) (t:TypeId) (fr:Nat × Nat),w.heap[k]? = some (.cells cs t fr)→T t=false→w'.heap[k]? = some (.cells cs t fr)
theorem Spare.of_below {w w':World} {B:Nat} (h:Below w.heap.size w w') (hB:B≤w.heap.size) (T:Nat→Bool):Spare w w' B T:=⟨h.mono hB,fun _ _ _ _ hk _=>row_keep hk h⟩
theorem Spare.trans {w w1 w':World} {B:Nat} {T:Nat→Bool} (h:Spare w w1 B T) (h':Spare w1 w' B T):Spare w w' B T:=⟨h.below.trans h'.below,fun k cs t fr hk ht=>h'.row k cs t fr (h.row k cs t fr hk ht) ht⟩
theorem Spare.set {w:World} {B g:Nat} {T:Nat→Bool} {cs:Array Value} {t:TypeId} {fr:Nat × Nat} (hg:w.heap[g]? = some (.cells cs t fr)) (ht:T t=true) (hB:B≤g) (i:Nat) (u:Value):Spare w (w.setCell ⟨g,i,none⟩ u) B T :=
 ⟨(Below.refl _ _).setCell hB _,fun k ds s fs hk hs=>one_other hk _ _ (fun e=>by
  have e:g=k:=e
  subst e
  rw [hg] at hk
  injection hk with hk
  injection hk with _ hk _
  subst hk
  rw [ht] at hs
  cases hs)⟩
theorem Spare.turn {w w':World} {B g:Nat} {T:Nat→Bool} {cs:Array Value} {t:TypeId} {fr:Nat × Nat} (h:Turn w w' g) (hg:w.heap[g]? = some (.cells cs t fr)) (ht:T t=true) (hB:B≤g):Spare w w' B T :=
 ⟨h.below B hB (Nat.le_of_lt (Nat.lt_of_le_of_lt hB (Array.getElem?_eq_some_iff.1 hg).1)),fun k ds s fs hk hs=>h.row k _ hk (fun e=>by
  subst e
  rw [hg] at hk
  injection hk with hk
  injection hk with _ hk _
  subst hk
  rw [ht] at hs
  cases hs)⟩
theorem Spare.mono {w w':World} {B B':Nat} {T T':Nat→Bool} (h:Spare w w' B T) (hB:B'≤B) (hT:∀ t,T' t=false→T t=false):Spare w w' B' T':=⟨h.below.mono hB,fun k cs t fr hk ht=>h.row k cs t fr hk (hT t ht)⟩
theorem Spare.size {w w':World} {B:Nat} {T:Nat→Bool} (h:Spare w w' B T):w.heap.size≤w'.heap.size:=h.below.size
def dirtyW (t:Nat):Bool:=t == 133
def dirtyQ (t:Nat):Bool:=t == 133 || (t == 3 || t == 97)
theorem Spare.owns {w w':World} {B B2 n s:Nat} {T:Nat→Bool} {e:TypeId} {v:Value} {xs:List Value} (h:Spare w w' B T) (ho:w.ownsRow B2 e s v n xs) (hT:T e=false):w'.ownsRow B2 e s v n xs :=
 owns_keep ho fun k _ _ hc=>h.row k _ e _ hc hT
end Go.Proofs.YtcljffcdpjmmbaaGreat
namespace Go.Proofs
open Go.Shelf
def Tryz.lays189_ren:Go.Shelf.Ren:=⟨fun|189=>37|125=>70|257=>69|128=>116|129=>117|294=>108|295=>109|296=>110|297=>111|298=>112|299=>113|216=>107|300=>114|301=>115|328=>133|329=>134|330=>135|331=>136|332=>137|215=>132|343=>141|n=>n,fun|28=>25|3=>3|46=>142|0=>0|51=>124|53=>81|4=>4|183=>183|182=>182|131=>187|5=>5|9=>9|218=>204|222=>208|228=>212|229=>213|n=>n,fun|n=>n⟩
theorem Tryz.lays189:Go.Proofs.Lays.n189 Tryz.prog Tryz.lays189_ren:={
 mixed:=by kernel_rfl
 f125:=Tryz.func70.trans (congrArg some (by kernel_rfl))
 f128:=Tryz.func116.trans (congrArg some (by kernel_rfl))
 f129:=Tryz.func117.trans (congrArg some (by kernel_rfl))
 f189:=Tryz.func37.trans (congrArg some (by kernel_rfl))
 f215:=Tryz.func132.trans (congrArg some (by kernel_rfl))
 f216:=Tryz.func107.trans (congrArg some (by kernel_rfl))
 f257:=Tryz.func69.trans (congrArg some (by kernel_rfl))
 f294:=Tryz.func108.trans (congrArg some (by kernel_rfl))
 f295:=Tryz.func109.trans (congrArg some (by kernel_rfl))
 f296:=Tryz.func110.trans (congrArg some (by kernel_rfl))
 f297:=Tryz.func111.trans (congrArg some (by kernel_rfl))
 f298:=Tryz.func112.trans (congrArg some (by kernel_rfl))
 f299:=Tryz.func113.trans (congrArg some (by kernel_rfl))
 f300:=Tryz.func114.trans (congrArg some (by kernel_rfl))
 f301:=Tryz.func115.trans (congrArg some (by kernel_rfl))
 f328:=Tryz.func133.trans (congrArg some (by kernel_rfl))
 f329:=Tryz.func134.trans (congrArg some (by kernel_rfl))
 f330:=Tryz.func135.trans (congrArg some (by kernel_rfl))
 f331:=Tryz.func136.trans (congrArg some (by kernel_rfl))
 f332:=Tryz.func137.trans (congrArg some (by kernel_rfl))
 f343:=Tryz.func141.trans (congrArg some (by kernel_rfl))
 t0:=Tryz.underlying0
 a0:=Tryz.isAgg0
 z0:=Tryz.sizeOf0
 v0:=Tryz.zeroValue0
 t3:=Tryz.underlying3
 a3:=Tryz.isAgg3
 z3:=Tryz.sizeOf3
 v3:=Tryz.zeroValue3
 t4:=Tryz.underlying4
 a4:=Tryz.isAgg4
 z4:=Tryz.sizeOf4
 v4:=Tryz.zeroValue4
 t5:=Tryz.underlying5
 a5:=Tryz.isAgg5
 z5:=Tryz.sizeOf5
 v5:=Tryz.zeroValue5
 t9:=Tryz.underlying9
 a9:=Tryz.isAgg9
 z9:=Tryz.sizeOf9
 v9:=Tryz.zeroValue9
 t28:=Tryz.underlying25
 a28:=Tryz.isAgg25
 z28:=Tryz.sizeOf25
 v28:=Tryz.zeroValue25
 t46:=Tryz.underlying142
 a46:=Tryz.isAgg142
 z46:=Tryz.sizeOf142
 v46:=Tryz.zeroValue142
 t51:=Tryz.underlying124
 a51:=Tryz.isAgg124
 z51:=Tryz.sizeOf124
 v51:=Tryz.zeroValue124
 t53:=Tryz.underlying81
 a53:=Tryz.isAgg81
 z53:=Tryz.sizeOf81
 v53:=Tryz.zeroValue81
 t131:=Tryz.underlying187
 a131:=Tryz.isAgg187
 z131:=Tryz.sizeOf187
 v131:=Tryz.zeroValue187
 t182:=Tryz.underlying182
 a182:=Tryz.isAgg182
 z182:=Tryz.sizeOf182
 v182:=Tryz.zeroValue182
 t183:=Tryz.underlying183
 a183:=Tryz.isAgg183
 z183:=Tryz.sizeOf183
 v183:=Tryz.zeroValue183
 t218:=Tryz.underlying204
 a218:=Tryz.isAgg204
 z218:=Tryz.sizeOf204
 v218:=Tryz.zeroValue204
 t222:=Tryz.underlying208
 a222:=Tryz.isAgg208
 z222:=Tryz.sizeOf208
 v222:=Tryz.zeroValue208
 t228:=Tryz.underlying212
 a228:=Tryz.isAgg212
 z228:=Tryz.sizeOf212
 v228:=Tryz.zeroValue212
 t229:=Tryz.underlying213
 a229:=Tryz.isAgg213
 z229:=Tryz.sizeOf213
 v229:=Tryz.zeroValue213 }
open Go.Sort Go.RowKit in
theorem Tryz.slices_Sort_int (blk off cap:Nat) (zs:List Int) (w:World) (hH:Holds (Value.int .i64) w blk off zs.toArray) (hblk:blk < w.heap.size) (hsz:zs.length < 4611686018427387904) :
 Calls Tryz.prog 37 #[.slice (some ⟨blk,off,none⟩) zs.length cap] w fun e w' =>
  e=.returned (.tuple #[])∧∃ n os,w'=grow (putRow (Value.int .i64) (Sort.ahead w n) blk off (zs.mergeSort fun x y=>decide (x≤y)).toArray) os:=Any.slices_Sort_int Tryz.lays189 blk off cap zs w hH hblk hsz
def Tryz.lays111_ren:Go.Shelf.Ren:=⟨fun|111=>38|n=>n,fun|28=>25|3=>3|4=>4|0=>0|n=>n,fun|n=>n⟩
theorem Tryz.lays111:Go.Proofs.Lays.n111 Tryz.prog Tryz.lays111_ren:={
 mixed:=by kernel_rfl
 f111:=Tryz.func38.trans (congrArg some (by kernel_rfl))
 t0:=Tryz.underlying0
 a0:=Tryz.isAgg0
 z0:=Tryz.sizeOf0
 v0:=Tryz.zeroValue0
 t3:=Tryz.underlying3
 a3:=Tryz.isAgg3
 z3:=Tryz.sizeOf3
 v3:=Tryz.zeroValue3
 t4:=Tryz.underlying4
 a4:=Tryz.isAgg4
 z4:=Tryz.sizeOf4
 v4:=Tryz.zeroValue4
 t28:=Tryz.underlying25
 a28:=Tryz.isAgg25
 z28:=Tryz.sizeOf25
 v28:=Tryz.zeroValue25 }
open Go.RowKit Go.Lib in
theorem Tryz.slices_Equal_int (b1 o1 n c b2 o2 m d:Nat) (xs ys:List Int) (w:World) (hx:n≤xs.length) (hy:m≤ys.length) (hbig:n≤9223372036854775807) (hbig2:m≤9223372036854775807) (hc1:∀ j,j < xs.length→w.cell? ⟨b1,o1+j,none⟩=some (.int .i64 (xs.getD j 0))) (hc2:∀ j,j < ys.length→w.cell? ⟨b2,o2+j,none⟩=some (.int .i64 (ys.getD j 0))) :
 Calls Tryz.prog 38 #[.slice (some ⟨b1,o1,none⟩) n c,.slice (some ⟨b2,o2,none⟩) m d] w fun e w'=>e=.returned (.bool (xs.take n == ys.take m))∧∃ q,w'=w.drewN q:=Any.slices_Equal_int Tryz.lays111 b1 o1 n c b2 o2 m d xs ys w hx hy hbig hbig2 hc1 hc2
open Go.RowKit Go.Lib in
theorem Tryz.slices_Equal_int_empty (a1 a2:Option Addr) (c m d:Nat) (w:World) (hbig2:m≤9223372036854775807) :
 Calls Tryz.prog 38 #[.slice a1 0 c,.slice a2 m d] w fun e w'=>e=.returned (.bool (decide (m=0)))∧w'=w:=Any.slices_Equal_int_empty Tryz.lays111 a1 a2 c m d w hbig2
def Tryz.laysNm215_ren:Go.Shelf.Ren:=⟨fun|15=>61|n=>n,fun|22=>25|3=>3|4=>4|n=>n,fun|n=>n⟩
theorem Tryz.laysNm215:Go.Proofs.Lays2.n15 Tryz.prog Tryz.laysNm215_ren:={
 mixed:=by kernel_rfl
 f15:=Tryz.func61.trans (congrArg some (by kernel_rfl))
 t3:=Tryz.underlying3
 a3:=Tryz.isAgg3
 z3:=Tryz.sizeOf3
 v3:=Tryz.zeroValue3
 t4:=Tryz.underlying4
 a4:=Tryz.isAgg4
 z4:=Tryz.sizeOf4
 v4:=Tryz.zeroValue4
 t22:=Tryz.underlying25
 a22:=Tryz.isAgg25
 z22:=Tryz.sizeOf25
 v22:=Tryz.zeroValue25
 i3:=by kernel_rfl }
open Go.RowKit Go.Lib in
theorem Tryz.slices_Clone_int (b off n c:Nat) (zs:List Int) (w:World) (hz:n≤zs.length) (hbig:n * 8≤140737488355328) (hc:∀ j,j < zs.length→w.cell? ⟨b,off+j,none⟩=some (.int .i64 (zs.getD j 0))) :
 Calls Tryz.prog 61 #[.slice (some ⟨b,off,none⟩) n c] w fun e w'=>∃ v',e=.returned v'∧w'.ownsRow w.heap.size 3 1 v' n ((zs.take n).map (Value.int .i64))∧v'≠.slice none 0 0∧Below w.heap.size w w':=Any.slices_Clone_int Tryz.laysNm215 b off n c zs w hz hbig hc
open Go.RowKit Go.Lib in
theorem Tryz.slices_Clone_int_nil (n c:Nat) (w:World) :
 Calls Tryz.prog 61 #[.slice none n c] w fun e w'=>e=.returned (.slice none 0 0)∧w'=w:=Any.slices_Clone_int_nil Tryz.laysNm215 n c w
open Go.RowKit Go.Lib in
def Tryz.laysNm231_ren:Go.Shelf.Ren:=⟨fun|31=>107|37=>132|n=>n,fun|3=>3|4=>4|n=>n,fun|n=>n⟩
open Go.RowKit Go.Lib in
def Tryz.laysNm223_ren:Go.Shelf.Ren:=⟨fun|23=>120|n=>n,fun|22=>25|3=>3|4=>4|0=>0|n=>n,fun|n=>n⟩
theorem Tryz.laysNm223:Go.Proofs.Lays2.n23 Tryz.prog Tryz.laysNm223_ren:={
 mixed:=by kernel_rfl
 f23:=Tryz.func120.trans (congrArg some (by kernel_rfl))
 t0:=Tryz.underlying0
 a0:=Tryz.isAgg0
 z0:=Tryz.sizeOf0
 v0:=Tryz.zeroValue0
 t3:=Tryz.underlying3
 a3:=Tryz.isAgg3
 z3:=Tryz.sizeOf3
 v3:=Tryz.zeroValue3
 t4:=Tryz.underlying4
 a4:=Tryz.isAgg4
 z4:=Tryz.sizeOf4
 v4:=Tryz.zeroValue4
 t22:=Tryz.underlying25
 a22:=Tryz.isAgg25
 z22:=Tryz.sizeOf25
 v22:=Tryz.zeroValue25
 i3:=by kernel_rfl }
open Go.RowKit Go.Lib Go.Sort in
theorem Tryz.slices_Delete_int (blk off cap i j:Nat) (zs:List Int) (w:World) (hH:Holds (Value.int .i64) w blk off zs.toArray) (hcap:zs.length≤cap) (hm:cap≤9223372036854775807) (hij:i≤j) (hj:j≤zs.length) :
 Calls Tryz.prog 120 #[.slice (some ⟨blk,off,none⟩) zs.length cap,.int .i64 i,.int .i64 j] w fun e w'=>e=.returned (.slice (some ⟨blk,off,none⟩) (zs.length - (j - i)) cap)∧∃ q,w'=putRow (Value.int .i64) (Sort.ahead w q) blk off (zs.take i++zs.drop j++List.replicate (j - i) 0).toArray:=Any.slices_Delete_int Tryz.laysNm223 blk off cap i j zs w hH hcap hm hij hj
def Tryz.laysIsSorted_ren:Go.Shelf.Ren:=⟨fun|10=>67|18=>107|24=>132|n=>n,fun|22=>25|24=>3|4=>4|3=>3|0=>0|n=>n,fun|n=>n⟩
theorem Tryz.laysIsSorted:Go.Proofs.SlLaysO.n10 Tryz.prog Tryz.laysIsSorted_ren:={
 mixed:=by kernel_rfl
 f10:=⟨Tryz.f67.name,by decide,Tryz.func67.trans (congrArg some (by kernel_rfl))⟩
 f18:=⟨Tryz.f107.name,by decide,Tryz.func107.trans (congrArg some (by kernel_rfl))⟩
 f24:=⟨Tryz.f132.name,by decide,Tryz.func132.trans (congrArg some (by kernel_rfl))⟩
 t0:=Tryz.underlying0
 a0:=Tryz.isAgg0
 z0:=Tryz.sizeOf0
 v0:=Tryz.zeroValue0
 t3:=Tryz.underlying3
 a3:=Tryz.isAgg3
 z3:=Tryz.sizeOf3
 v3:=Tryz.zeroValue3
 t4:=Tryz.underlying4
 a4:=Tryz.isAgg4
 z4:=Tryz.sizeOf4
 v4:=Tryz.zeroValue4
 t22:=Tryz.underlying25
 a22:=Tryz.isAgg25
 z22:=Tryz.sizeOf25
 v22:=Tryz.zeroValue25
 t24:=Tryz.underlying3
 a24:=Tryz.isAgg3
 z24:=Tryz.sizeOf3
 v24:=Tryz.zeroValue3 }
def Tryz.laysCloneC_ren:Go.Shelf.Ren:=⟨fun|41=>62|n=>n,fun|22=>27|23=>97|4=>4|n=>n,fun|n=>n⟩
theorem Tryz.laysCloneC:Go.Proofs.SlLaysE0.n41 Tryz.prog Tryz.laysCloneC_ren:={
 mixed:=by kernel_rfl
 f41:=⟨Tryz.f62.name,by decide,Tryz.func62.trans (congrArg some (by kernel_rfl))⟩
 t4:=Tryz.underlying4
 a4:=Tryz.isAgg4
 z4:=Tryz.sizeOf4
 v4:=Tryz.zeroValue4
 t22:=Tryz.underlying27
 a22:=Tryz.isAgg27
 z22:=Tryz.sizeOf27
 v22:=Tryz.zeroValue27 }
def Tryz.laysFindC_ren:Go.Shelf.Ren:=⟨fun|6=>104|n=>n,fun|22=>27|23=>97|25=>139|3=>3|0=>0|4=>4|n=>n,fun|n=>n⟩
theorem Tryz.laysFindC:Go.Proofs.SlLaysH0.n6 Tryz.prog Tryz.laysFindC_ren:={
 mixed:=by kernel_rfl
 f6:=⟨Tryz.f104.name,by decide,Tryz.func104.trans (congrArg some (by kernel_rfl))⟩
 t0:=Tryz.underlying0
 a0:=Tryz.isAgg0
 z0:=Tryz.sizeOf0
 v0:=Tryz.zeroValue0
 t3:=Tryz.underlying3
 a3:=Tryz.isAgg3
 z3:=Tryz.sizeOf3
 v3:=Tryz.zeroValue3
 t4:=Tryz.underlying4
 a4:=Tryz.isAgg4
 z4:=Tryz.sizeOf4
 v4:=Tryz.zeroValue4
 t22:=Tryz.underlying27
 a22:=Tryz.isAgg27
 z22:=Tryz.sizeOf27
 v22:=Tryz.zeroValue27
 t25:=Tryz.underlying139
 a25:=Tryz.isAgg139
 z25:=Tryz.sizeOf139
 v25:=Tryz.zeroValue139 }
def Tryz.laysCloneS_ren:Go.Shelf.Ren:=⟨fun|41=>51|n=>n,fun|22=>38|23=>22|4=>4|n=>n,fun|n=>n⟩
theorem Tryz.laysCloneS:Go.Proofs.SlLaysE0.n41 Tryz.prog Tryz.laysCloneS_ren:={
 mixed:=by kernel_rfl
 f41:=⟨Tryz.f51.name,by decide,Tryz.func51.trans (congrArg some (by kernel_rfl))⟩
 t4:=Tryz.underlying4
 a4:=Tryz.isAgg4
 z4:=Tryz.sizeOf4
 v4:=Tryz.zeroValue4
 t22:=Tryz.underlying38
 a22:=Tryz.isAgg38
 z22:=Tryz.sizeOf38
 v22:=Tryz.zeroValue38 }
def Tryz.laysCloneW_ren:Go.Shelf.Ren:=⟨fun|41=>52|n=>n,fun|22=>39|23=>94|4=>4|n=>n,fun|n=>n⟩
theorem Tryz.laysCloneW:Go.Proofs.SlLaysE0.n41 Tryz.prog Tryz.laysCloneW_ren:={
 mixed:=by kernel_rfl
 f41:=⟨Tryz.f52.name,by decide,Tryz.func52.trans (congrArg some (by kernel_rfl))⟩
 t4:=Tryz.underlying4
 a4:=Tryz.isAgg4
 z4:=Tryz.sizeOf4
 v4:=Tryz.zeroValue4
 t22:=Tryz.underlying39
 a22:=Tryz.isAgg39
 z22:=Tryz.sizeOf39
 v22:=Tryz.zeroValue39 }
def Tryz.laysFindR_ren:Go.Shelf.Ren:=⟨fun|6=>31|n=>n,fun|22=>88|23=>31|25=>89|3=>3|0=>0|4=>4|n=>n,fun|n=>n⟩
theorem Tryz.laysFindR:Go.Proofs.SlLaysH0.n6 Tryz.prog Tryz.laysFindR_ren:={
 mixed:=by kernel_rfl
 f6:=⟨Tryz.f31.name,by decide,Tryz.func31.trans (congrArg some (by kernel_rfl))⟩
 t0:=Tryz.underlying0
 a0:=Tryz.isAgg0
 z0:=Tryz.sizeOf0
 v0:=Tryz.zeroValue0
 t3:=Tryz.underlying3
 a3:=Tryz.isAgg3
 z3:=Tryz.sizeOf3
 v3:=Tryz.zeroValue3
 t4:=Tryz.underlying4
 a4:=Tryz.isAgg4
 z4:=Tryz.sizeOf4
 v4:=Tryz.zeroValue4
 t22:=Tryz.underlying88
 a22:=Tryz.isAgg88
 z22:=Tryz.sizeOf88
 v22:=Tryz.zeroValue88
 t25:=Tryz.underlying89
 a25:=Tryz.isAgg89
 z25:=Tryz.sizeOf89
 v25:=Tryz.zeroValue89 }
end Go.Proofs
namespace Go.Proofs.YtcljffcdpjmmbaaGreat
open Go.RowKit Go.Lib
theorem cloneI_any {B:Nat} (v:Value) (l:List Int) (w:World) (hv:OwnI B w v l) (hl:l.length≤1000) :
 Calls Tryz.prog 61 #[v] w fun e w'=>∃ r,e=.returned r∧OwnI w.heap.size w' r l∧Below w.heap.size w w':=by
 obtain ⟨a,c,rfl,h1,h2⟩:=hv.shape
 cases a with
 | none =>
   have hl0:l=[]:=by
    rcases hv.2 with ⟨_,h0⟩|⟨g,cap,cur,hx,_⟩
    · exact List.length_eq_zero_iff.1 h0
    · cases hx
   subst hl0
   refine (Tryz.slices_Clone_int_nil _ _ _).mono ?_
   rintro e w' ⟨rfl,rfl⟩
   exact ⟨_,rfl,World.ownsRow_nil _ _ _ _,Below.refl _ _⟩
 | some a =>
   obtain ⟨g,rfl⟩:∃ g,a=⟨g,0,none⟩:=by
    rcases hv.2 with ⟨hx,_⟩|⟨g,cap,cur,hx,_⟩
    · cases hx
    · cases hx; exact ⟨g,rfl⟩
   refine (Tryz.slices_Clone_int g 0 l.length c l w (Nat.le_refl _) (by omega) (fun j hj=>by rw [Nat.zero_add]; exact hv.at j hj)).mono ?_
   rintro e w' ⟨r,rfl,hr,_,hb⟩
   rw [List.take_length] at hr
   exact ⟨r,rfl,hr,hb⟩
theorem cloneI_front {B:Nat} (g n c:Nat) (l:List Int) (k:Nat) (w:World) (hv:OwnI B w (.slice (some ⟨g,0,none⟩) n c) l) (hk:k≤l.length) (hl:l.length≤1000) :
 Calls Tryz.prog 61 #[.slice (some ⟨g,0,none⟩) k c] w fun e w'=>∃ r,e=.returned r∧OwnI w.heap.size w' r (l.take k)∧Below w.heap.size w w':=by
 refine (Tryz.slices_Clone_int g 0 k c l w hk (by omega) (fun j hj=>by rw [Nat.zero_add]; exact hv.at j hj)).mono ?_
 rintro e w' ⟨r,rfl,hr,_,hb⟩
 refine ⟨r,rfl,?_,hb⟩
 unfold OwnI
 rw [List.length_take,Nat.min_eq_left hk]
 exact hr
theorem isSorted_any {B:Nat} (v:Value) (l:List Int) (w:World) (hv:OwnI B w v l) (hl:l.length≤1000) (hs:l.Pairwise (·≤·)) :
 Calls Tryz.prog 67 #[v] w fun e w'=>e=.returned (.bool true)∧Below w.heap.size w w':=by
 obtain ⟨a,c,rfl,h1,h2⟩:=hv.shape
 by_cases h0:l=[]
 · subst h0
   refine (AnyO.slices_IsSorted_int_none Tryz.laysIsSorted a c w).mono ?_
   rintro e w' ⟨rfl,rfl⟩
   exact ⟨rfl,Below.refl _ _⟩
 · obtain ⟨g,cur,rfl,_⟩:=hv.lie h0
   have hat:∀ i,i < l.length→(l.toArray)[i]! = l.getD i 0:=fun i hi=>by simp [List.getD_eq_getElem?_getD,hi]
   have h:=AnyO.slices_IsSorted_int Tryz.laysIsSorted g 0 c l.toArray w (fun i hi=>by
    have hi:i < l.length:=by simpa using hi
    rw [Nat.zero_add,hv.at i hi,hat i hi]) (by simp; omega)
   have hd:Lib.downOK (fun x y=>decide (x < y)) l.toArray (l.toArray.size - 1)=true:=by
    rw [Lib.downOK_iff]
    intro i hi
    have hi:i+1 < l.length:=by simp at hi; omega
    rw [hat _ hi,hat _ (by omega),decide_eq_false_iff_not]
    have:=List.pairwise_iff_getElem.1 hs i (i+1) (by omega) hi (by omega)
    simp [List.getD_eq_getElem?_getD,hi,show i < l.length by omega]
    omega
   rw [hd] at h
   refine h.mono ?_
   rintro e w' ⟨rfl,q,rfl⟩
   exact ⟨rfl,below_drewN (Below.refl _ _) q⟩
theorem equalI_any {B1 B2:Nat} (u v:Value) (l:List Int) (w:World) (hu:OwnI B1 w u l) (hv:OwnI B2 w v l) (hl:l.length≤1000) :
 Calls Tryz.prog 38 #[u,v] w fun e w'=>e=.returned (.bool true)∧Below w.heap.size w w':=by
 obtain ⟨a,c,rfl,h1,h2⟩:=hu.shape
 obtain ⟨a',c',rfl,h3,h4⟩:=hv.shape
 have hm:maxLen≤9223372036854775807:=by decide
 by_cases h0:l=[]
 · subst h0
   refine (Tryz.slices_Equal_int_empty a a' c 0 c' w (by omega)).mono ?_
   rintro e w' ⟨rfl,rfl⟩
   exact ⟨rfl,Below.refl _ _⟩
 · obtain ⟨g,cur,rfl,_⟩:=hu.lie h0
   obtain ⟨g',cur',rfl,_⟩:=hv.lie h0
   refine (Tryz.slices_Equal_int g 0 l.length c g' 0 l.length c' l l w (Nat.le_refl _) (Nat.le_refl _) (by omega) (by omega) (fun j hj=>by rw [Nat.zero_add]; exact hu.at j hj) (fun j hj=>by rw [Nat.zero_add]; exact hv.at j hj)).mono ?_
   rintro e w' ⟨rfl,q,rfl⟩
   exact ⟨by simp,below_drewN (Below.refl _ _) q⟩
theorem putRow_heap (enc:Int→Value) {w:World} {g off:Nat} {d:Array Int} {cur:Array Value} {t:TypeId} {fr:Nat × Nat} (h:w.heap[g]? = some (.cells cur t fr)):(Sort.putRow enc w g off d).heap[g]? = some (.cells (Sort.putCells enc off d cur) t fr):=by
 unfold Sort.putRow Sort.mapBlock
 simp only [Array.getElem?_modify,if_true,h,Option.map_some]
 rfl
theorem putRow_other (enc:Int→Value) {w:World} {g off k:Nat} {d:Array Int} (hk:k≠g):(Sort.putRow enc w g off d).heap[k]? = w.heap[k]? := by
 unfold Sort.putRow Sort.mapBlock
 simp only [Array.getElem?_modify,if_neg (fun e:g=k=>hk e.symm)]
theorem putRow_turn (enc:Int→Value) (w:World) (g off q:Nat) (d:Array Int):Turn w (Sort.putRow enc (Sort.ahead w q) g off d) g :=
 ⟨fun B hB _=>⟨rfl,rfl,rfl,by simp [Sort.putRow,Sort.mapBlock],fun k hk=>putRow_other enc (w:=Sort.ahead w q) (show k≠g by omega)⟩,fun k o hk hne=>by
  rw [putRow_other enc hne]
  exact hk⟩
theorem owns_putRow {B:Nat} {w:World} {g n c q:Nat} {l d:List Int} (h:OwnI B w (.slice (some ⟨g,0,none⟩) n c) l) (hd:d.length=l.length) (m:Nat) (hm:m≤d.length) :
 OwnI B (Sort.putRow (Value.int .i64) (Sort.ahead w q) g 0 d.toArray) (.slice (some ⟨g,0,none⟩) m c) (d.take m):=by
 rcases h.2 with ⟨hv,_⟩|⟨g',cap,cur,hv,hb,hh,h1,h2,h3,h4⟩
 · cases hv
 · cases hv
   refine ⟨by simp,.inr ⟨g,c,_,by rw [List.length_take,Nat.min_eq_left hm],hb,putRow_heap _ (w:=Sort.ahead w q) hh,by rw [List.length_take]; omega,h2,?_,?_⟩⟩
   · simp only [Sort.putCells,Array.size_mapIdx]
     exact h3
   · apply List.ext_getElem?
     intro i
     rw [List.length_take,Nat.min_eq_left hm,Nat.mul_one]
     by_cases hi:i < m
     · have hc:i < cur.size:=by omega
       rw [List.getElem?_take,if_pos hi,Array.getElem?_toList]
       simp only [Sort.putCells,Array.getElem?_mapIdx,Array.getElem?_eq_getElem hc,Option.map_some]
       have hid:i < d.length:=by omega
       simp [hi,hid]
     · rw [List.getElem?_take,if_neg hi]
       rw [List.getElem?_eq_none (by simp; omega)]
theorem ownI_holds {B:Nat} {w:World} {g n c:Nat} {l:List Int} (h:OwnI B w (.slice (some ⟨g,0,none⟩) n c) l):Sort.Holds (Value.int .i64) w g 0 l.toArray:=fun j hj=>by
 have hj:j < l.length:=by simpa using hj
 have hn:n=l.length:=by obtain ⟨a,c',hv,_⟩:=h.shape; cases hv; rfl
 subst hn
 have h0:w.ownsRow B 3 1 (.slice (some ⟨g,0,none⟩) l.length c) l.length (l.map (Value.int .i64)):=h
 refine ⟨?_,by rw [Nat.zero_add]; exact World.ownsRow.frozenAt h0 j⟩
 rw [Nat.zero_add,h.at j hj]
 simp [List.getD_eq_getElem?_getD,hj]
theorem turn_grow {w w':World} {g:Nat} (h:Turn w w' g) (os:Array Obj):Turn w (Sort.grow w' os) g :=
 ⟨fun B h1 h2=>(h.below B h1 h2).trans ⟨rfl,rfl,rfl,by simp [Sort.grow],fun k hk=>Sort.heap_grow_old w' os (Nat.lt_of_lt_of_le (Nat.lt_of_lt_of_le hk h2) (h.below B h1 h2).size)⟩,fun k o hk hne=>by
  have h1:=h.row k o hk hne
  rw [Sort.heap_grow_old w' os (Array.getElem?_eq_some_iff.1 h1).1]
  exact h1⟩
theorem owns_grow {B:Nat} {w:World} {e:TypeId} {s:Nat} {v:Value} {n:Nat} {xs:List Value} (h:w.ownsRow B e s v n xs) (os:Array Obj):(Sort.grow w os).ownsRow B e s v n xs :=
 owns_keep h fun k _ _ hc=>by rw [Sort.heap_grow_old w os (Array.getElem?_eq_some_iff.1 hc).1]; exact hc
theorem sort_any {B:Nat} (g n c:Nat) (l:List Int) (w:World) (hv:OwnI B w (.slice (some ⟨g,0,none⟩) n c) l) (hl:l.length≤1000) :
 Calls Tryz.prog 37 #[.slice (some ⟨g,0,none⟩) n c] w fun e w'=>e=.returned (.tuple #[])∧OwnI B w' (.slice (some ⟨g,0,none⟩) n c) (l.mergeSort fun x y=>decide (x≤y))∧Turn w w' g:=by
 have hn:n=l.length:=by obtain ⟨a,c',hv,_⟩:=hv.shape; cases hv; rfl
 subst hn
 have hg:g < w.heap.size:=(hv.lt g rfl).2
 refine (Tryz.slices_Sort_int g 0 c l w (ownI_holds hv) hg (by omega)).mono ?_
 rintro e w' ⟨rfl,q,os,rfl⟩
 refine ⟨rfl,?_,turn_grow (putRow_turn _ _ _ _ _ _) os⟩
 have hs:(l.mergeSort fun x y=>decide (x≤y)).length=l.length:=List.length_mergeSort l
 have h1:=owns_putRow (q:=q) (d:=l.mergeSort fun x y=>decide (x≤y)) hv hs l.length (by omega)
 rw [List.take_of_length_le (by omega)] at h1
 exact owns_grow h1 os
theorem deleteI_front {B:Nat} (g n c k:Nat) (l:List Int) (w:World) (hv:OwnI B w (.slice (some ⟨g,0,none⟩) n c) l) (hk:k≤l.length) :
 Calls Tryz.prog 120 #[.slice (some ⟨g,0,none⟩) n c,.int .i64 0,.int .i64 (k:Nat)] w fun e w'=>∃ m,e=.returned (.slice (some ⟨g,0,none⟩) m c)∧OwnI B w' (.slice (some ⟨g,0,none⟩) m c) (l.drop k)∧Turn w w' g:=by
 obtain ⟨a,c',hs,h1,h2⟩:=hv.shape
 cases hs
 have hm:maxLen≤9223372036854775807:=by decide
 refine (Tryz.slices_Delete_int g 0 c 0 k l w (ownI_holds hv) h1 (by omega) (Nat.zero_le _) hk).mono ?_
 rintro e w' ⟨rfl,q,rfl⟩
 refine ⟨_,rfl,?_,putRow_turn _ _ _ _ _ _⟩
 have h3:=owns_putRow (q:=q) (d:=l.take 0++l.drop k++List.replicate (k - 0) 0) hv (by simp; omega) (l.length - (k - 0)) (by simp)
 have e1:(l.take 0++l.drop k++List.replicate (k - 0) 0).take (l.length - (k - 0))=l.drop k:=by
  rw [List.take_zero,List.nil_append,Nat.sub_zero,List.take_append_of_le_length (by simp),List.take_of_length_le (by simp)]
 rw [e1] at h3
 exact h3
theorem cloneC_any {B:Nat} (v:Value) (L:List QCh) (D:List Value) (w:World) (hv:OwnC B w v L D) (hl:L.length≤1000) :
 Calls Tryz.prog 62 #[v] w fun e w'=>∃ r,e=.returned r∧w'.ownsRow w.heap.size 97 3 r L.length (chCells L D)∧Below w.heap.size w w':=by
 obtain ⟨a,c,rfl,h1,h2⟩:=hv.shape
 have hone:∀ d∈D,d.oneCell'=true:=by
  intro d hd
  obtain ⟨i,hi,hd⟩:=List.mem_iff_getElem.1 hd
  have hd2:D[i]? = some d:=by rw [List.getElem?_eq_getElem hi,hd]
  obtain ⟨a,c,rfl,_⟩:=(hv.ds i d _ hd2 (List.getElem?_eq_getElem (by rw [←hv.len]; exact hi))).shape
  rfl
 cases a with
 | none =>
   have hl0:L=[]:=by
    rcases hv.row.2 with ⟨_,h0⟩|⟨g,cap,cur,hx,_⟩
    · exact List.length_eq_zero_iff.1 h0
    · cases hx
   subst hl0
   refine (AnyE.slices_Clone_nil Tryz.laysCloneC _ _ w).mono ?_
   rintro e w' ⟨rfl,rfl⟩
   exact ⟨_,rfl,World.ownsRow_nil _ _ _ _,Below.refl _ _⟩
 | some a =>
   obtain ⟨g,rfl⟩:∃ g,a=⟨g,0,none⟩:=by
    rcases hv.row.2 with ⟨hx,_⟩|⟨g,cap,cur,hx,_⟩
    · cases hx
    · cases hx; exact ⟨g,rfl⟩
   obtain ⟨i0,hi,hz0,hz1,hz2⟩:=info_parts infoCh
   refine (AnyE.slices_Clone Tryz.laysCloneC i0 _ 3 40 hi hz0 hz1 hz2 rfl (by decide) (fun w=>by kernel_rfl) g 0 L.length c (chCells L D) w (chCells_length hv.len) (by omega) (by omega) (fun j u hu=>?_) (chCells_one hone)).mono ?_
   · have:=World.ownsRow.cells hv.row (g:=g) rfl j u hu
     rwa [Addr.add_lit] at this
   · rintro e w' ⟨r,rfl,hr,_,hb⟩
     exact ⟨r,rfl,hr,hb⟩
theorem owns_setCells {B g n c s:Nat} {e:TypeId}:∀ (vs:List Value) (o:Nat) (w:World) (xs:List Value),w.ownsRow B e s (.slice (some ⟨g,0,none⟩) n c) n xs→o+vs.length≤xs.length →
 (w.setCells g o vs).ownsRow B e s (.slice (some ⟨g,0,none⟩) n c) n (xs.take o++vs++xs.drop (o+vs.length))∧Turn w (w.setCells g o vs) g
 | [],o,w,xs,h,ho=>by
   refine ⟨?_,Turn.of_below (Below.refl _ _) g⟩
   show w.ownsRow B e s _ n _
   simpa using h
 | v::vs,o,w,xs,h,ho=>by
   have ho2:o+1+vs.length≤(xs.set o v).length:=by simp at ho ⊢; omega
   obtain ⟨h1,h2⟩:=owns_setCells vs (o+1) (w.setCell ⟨g,o,none⟩ v) (xs.set o v) (h.stored o v).1 ho2
   have hlt:o < xs.length:=by simp at ho; omega
   have hg:g < w.heap.size:=(h.lt g rfl).2
   refine ⟨?_,⟨fun B' hB hB2=>((Below.refl _ _).setCell hB v).trans (h2.below B' hB (by simpa [World.setCell] using hB2)),fun k ob hk hne=>h2.row k ob (one_other hk _ _ (fun e=>hne e.symm)) hne⟩⟩
   have e1:(xs.set o v).take (o+1)++vs++(xs.set o v).drop (o+1+vs.length)=xs.take o++v::vs++xs.drop (o+(v::vs).length):=by
    have e2:(xs.set o v).take (o+1)=xs.take o++[v]:=by
     apply List.ext_getElem?
     intro k
     by_cases hk:k < o
     · rw [List.getElem?_take,if_pos (by omega),List.getElem?_set_ne (by omega),List.getElem?_append_left (by simp; omega),List.getElem?_take,if_pos hk]
     · by_cases hk2:k=o
       · subst hk2
         rw [List.getElem?_take,if_pos (by omega),List.getElem?_set_self hlt,List.getElem?_append_right (by simp; omega)]
         simp [Nat.min_eq_left (Nat.le_of_lt hlt)]
       · rw [List.getElem?_take,if_neg (by omega),List.getElem?_eq_none (by simp; omega)]
    rw [e2,List.drop_set_of_lt (by omega),List.length_cons,show o+1+vs.length=o+(vs.length+1) by omega]
    simp
   rw [e1] at h1
   exact h1
theorem owns_shrink {w:World} {B g n c s m:Nat} {e:TypeId} {xs:List Value} (h:w.ownsRow B e s (.slice (some ⟨g,0,none⟩) n c) n xs) (hm:m≤n):w.ownsRow B e s (.slice (some ⟨g,0,none⟩) m c) m (xs.take (m * s)):=by
 have hl:=h.1
 have hms:m * s≤n * s:=Nat.mul_le_mul_right s hm
 rcases h.2 with ⟨hv,_⟩|⟨g',cap,cur,hv,hb,hh,h1,h2,h3,h4⟩
 · cases hv
 · cases hv
   refine ⟨by simp; omega,.inr ⟨g,c,cur,rfl,hb,hh,by omega,h2,h3,?_⟩⟩
   rw [←h4,List.take_take,Nat.min_eq_left hms]
theorem chCells_erase {L:List QCh} {D:List Value} (h:D.length=L.length) (i:Nat) (hi:i < L.length):(chCells L D).take (i * 3)++(chCells L D).drop ((i+1) * 3)=chCells (L.eraseIdx i) (D.eraseIdx i):=by
 induction L generalizing D i with
 | nil=>simp at hi
 | cons c r ih =>
   cases D with
   | nil=>simp at h
   | cons d s =>
     have e:chCells (c::r) (d::s)=.int .i64 c.head::d::.int .i64 c.room::chCells r s:=rfl
     cases i with
     | zero=>rw [e]; rfl
     | succ i =>
       have h1:=ih (D:=s) (by simpa using h) i (by simpa using hi)
       have e2:chCells ((c::r).eraseIdx (i+1)) ((d::s).eraseIdx (i+1))=.int .i64 c.head::d::.int .i64 c.room::chCells (r.eraseIdx i) (s.eraseIdx i):=rfl
       rw [e,e2,show (i+1) * 3=i * 3+1+1+1 by omega,show (i+1+1) * 3=(i+1) * 3+1+1+1 by omega,←h1]
       rfl
def zeroCh:List Value:=[.int .i64 0,.slice none 0 0,.int .i64 0]
theorem run_clear_chain (w:World) (ty:TypeId) (g o c:Nat) (hc:∀ j,j < 3→(w.cell? ⟨g,o+j,none⟩).isSome=true) (hf:∀ j,j < 3→w.frozen? ⟨g,o+j,none⟩=false) :
 (Builtin.clear_ #[27] ty #[.slice (some ⟨g,o,none⟩) 1 c]).run Tryz.prog w=.ok (.tuple #[]) (w.setCells g o zeroCh):=by
 have hv:∀ w,(zeroValue 97).run Tryz.prog w=.ok (.agg #[.int .i64 0,.slice none 0 0,.int .i64 0]) w:=fun w=>by kernel_rfl
 have hst:=run_storeCells_cells (P:=Tryz.prog) g o zeroCh 0 w (by simpa [zeroCh] using hc) (by simpa [zeroCh] using hf) (by intro v hv'; simp [zeroCh] at hv'; rcases hv' with rfl|rfl|rfl <;> rfl)
 simp only [Nat.add_zero] at hst
 have hz:(Builtin.zeroCells (Value.agg #[.int .i64 0,.slice none 0 0,.int .i64 0]).cells 1).toList=zeroCh:=by kernel_rfl
 simp [Builtin.clear_,run_underlying Tryz.underlying27,hv,hz,hst]
set_option maxHeartbeats 4000000 in
set_option maxRecDepth 1000000 in
theorem deleteC_run (g n c i:Nat) (xs:List Value) (B:Nat) (w:World) (hx:w.ownsRow B 97 3 (.slice (some ⟨g,0,none⟩) n c) n xs) (hi:i < n) (h1:∀ u∈xs,u.oneCell'=true) (hl:n≤1000) :
 Calls Tryz.prog 106 #[.slice (some ⟨g,0,none⟩) n c,.int .i64 (i:Nat),.int .i64 ((i+1:Nat):Nat)] w fun e w'=>e=.returned (.slice (some ⟨g,0,none⟩) (n - 1) c)∧w'.ownsRow B 97 3 (.slice (some ⟨g,0,none⟩) (n - 1) c) (n - 1) (xs.take (i * 3)++xs.drop ((i+1) * 3))∧Turn w w' g:=by
 have hsh:n≤c∧c≤maxLen:=by
  obtain ⟨a,c',hs,h2,h3⟩:=owns_slice hx
  cases hs
  exact ⟨h2,h3⟩
 obtain ⟨hnc,hcm⟩:=hsh
 unfold maxLen at hcm
 have hxl:xs.length=n * 3:=hx.1
 obtain ⟨i0,hi0,hz0,hz1,hz2⟩:=info_parts infoCh
 obtain ⟨j,hj⟩:∃ j,j=i+1:=⟨_,rfl⟩
 rw [←hj]
 obtain ⟨news,hnews⟩:∃ news,news=xs.drop (j * 3):=⟨_,rfl⟩
 have hlen:news.length=(n - j) * 3:=by rw [hnews,List.length_drop,hxl]; omega
 have hat:∀ k u,xs[k]? = some u→w.cell? ⟨g,k,none⟩=some u:=fun k u hu=>by
  have hk:=(List.getElem?_eq_some_iff.1 hu).1
  rw [World.ownsRow.cellAt hx k (by omega)]; exact hu
 obtain ⟨A,hA,hsrc⟩:∃ A:Addr,(if c=j then some (⟨g,0,none⟩:Addr) else some ⟨g,j * 3,none⟩)=some A∧Hid (∀ t u,news[t]? = some u→w.drew.cell? (A.add t)=some u):=by
  by_cases h:c=j
  · refine ⟨⟨g,0,none⟩,by simp [h],fun t u hu=>?_⟩
    have h0:news.length=0:=by rw [hlen]; omega
    rw [List.length_eq_zero_iff.1 h0] at hu
    simp at hu
  · refine ⟨⟨g,j * 3,none⟩,by simp [h],fun t u hu=>?_⟩
    rw [hnews,List.getElem?_drop] at hu
    rw [Addr.add_lit]
    exact hat _ _ hu
 have s2:Hid (∀ u∈news,u.oneCell'=true):=by
  intro u hu
  rw [hnews] at hu
  exact h1 u (List.mem_of_mem_drop hu)
 have s3:Hid (∀ t,t < news.length→(w.drew.cell? ⟨g,0+i * 3+t,none⟩).isSome=true∧w.drew.frozen? ⟨g,0+i * 3+t,none⟩=false):=by
  intro t ht
  rw [hlen] at ht
  refine ⟨?_,?_⟩
  · show (w.cell? _).isSome=true
    rw [World.ownsRow.cellAt hx _ (by omega),List.getElem?_eq_getElem (by omega)]
    rfl
  · exact World.ownsRow.frozenAt hx _
 obtain ⟨W1,hW1⟩:∃ W1,W1=w.drew.setCells g (0+i * 3) news:=⟨_,rfl⟩
 have hx':w.drew.ownsRow B 97 3 (.slice (some ⟨g,0,none⟩) n c) n xs:=hx
 obtain ⟨hx1,ht1⟩:=owns_setCells news (0+i * 3) w.drew xs hx' (by omega)
 rw [←hW1] at hx1 ht1
 obtain ⟨m,hm⟩:∃ m,m=i+(n - j):=⟨_,rfl⟩
 have hmn:m+1=n:=by omega
 have hcl:∀ ty cc,(Builtin.clear_ #[27] ty #[.slice (some ⟨g,m * 3,none⟩) 1 cc]).run Tryz.prog W1=.ok (.tuple #[]) (W1.setCells g (m * 3) zeroCh):=fun ty cc=>run_clear_chain W1 ty g (m * 3) cc
  (fun t ht=>by rw [World.ownsRow.cellAt hx1 _ (by omega),List.getElem?_eq_getElem (by simp; omega)]; rfl) (fun t _=>World.ownsRow.frozenAt hx1 _)
 obtain ⟨W2,hW2⟩:∃ W2,W2=W1.setCells g (m * 3) zeroCh:=⟨_,rfl⟩
 have hz3:zeroCh.length=3:=rfl
 obtain ⟨hx2,ht2⟩:=owns_setCells zeroCh (m * 3) W1 _ hx1 (by simp; omega)
 rw [←hW2] at hx2 ht2
 have hx3:=owns_shrink hx2 (m:=n - 1) (by omega)
 have hfin:(((xs.take (0+i * 3)++news++xs.drop (0+i * 3+news.length)).take (m * 3)++zeroCh++(xs.take (0+i * 3)++news++xs.drop (0+i * 3+news.length)).drop (m * 3+zeroCh.length)).take ((n - 1) * 3))=xs.take (i * 3)++xs.drop ((i+1) * 3):=by
  have e1:(xs.take (0+i * 3)++news).length=m * 3:=by rw [List.length_append,List.length_take,hlen]; omega
  rw [List.take_append_of_le_length (Nat.le_of_eq e1.symm),List.take_of_length_le (Nat.le_of_eq e1),List.append_assoc,List.take_append_of_le_length (by omega),List.take_of_length_le (by omega),Nat.zero_add,hnews,hj]
 rw [hfin] at hx3
 have HT:=Zh (show Turn w W2 g from ⟨fun B' hB hB2=>((Below.refl _ _).drew.trans (ht1.below B' hB hB2)).trans (ht2.below B' hB (Nat.le_trans hB2 (ht1.below B' hB hB2).size)),fun k o hk hne=>ht2.row k o (ht1.row k o hk hne) hne⟩)
 have HX3:=Zh hx3
 have HW1:=Zh hW1
 have HW2:=Zh hW2
 have HL:=Zh hlen
 have hcl2:∀ ty cc,(Builtin.clear_ #[27] ty #[.slice (some ⟨g,(i+(n - j)) * 3,none⟩) (n - (i+(n - j))) cc]).run Tryz.prog W1=.ok (.tuple #[]) W2:=fun ty cc=>by rw [←hm,show n - m=1 by omega,hcl,←hW2]
 have hij:((i:Nat):Int)≠(j:Nat):=by omega
 have hic:i≤c:=by omega
 have hjc:j≤c:=by omega
 have hjn:j≤n:=by omega
 have hlej:i≤j:=by omega
 have HJ:=Zh hj
 have HM:=Zh hm
 clear hx hx' hx1 hx2 hx3 ht1 ht2 hat hnews hW1 hW2 hcl hfin h1 hlen hxl hj hm hz3 hij
 have hne:i≠j:=by have:=HJ.out; omega
 have hb0:(((i:Nat):Int) == ((j:Nat):Int))=false:=by rw [beq_eq_false_iff_ne]; omega
 have hb1:(i == j)=false:=by rw [beq_eq_false_iff_ne]; exact hne
 go_enter Tryz.func106,Tryz.ntmps106
 go_wp2_with fail
 go_region_law (refine step_append_room rfl (.tmp 22) (.tmp 25) 27 rfl 97 i0 3 Tryz.underlying27 hi0 hz1 g 0 i c (by simp [Act.eval,Act.put]) A (n - j) (c - j) news (by simp [Act.eval,Act.put]) HL.out hsrc.out s2.out (by omega) s3.out ?_; rw [←HW1.out])
 go_wp2
 go_ret
 exact ⟨by rw [show n - 1=i+(n - j) by have:=HJ.out; omega]; rfl,by rw [HJ.out]; exact HX3.out,HT.out⟩
theorem deleteC_any {B:Nat} (g n c i:Nat) (L:List QCh) (D:List Value) (w:World) (hv:OwnC B w (.slice (some ⟨g,0,none⟩) n c) L D) (hi:i < L.length) (hl:L.length≤1000) :
 Calls Tryz.prog 106 #[.slice (some ⟨g,0,none⟩) n c,.int .i64 (i:Nat),.int .i64 ((i+1:Nat):Nat)] w fun e w'=>∃ m,e=.returned (.slice (some ⟨g,0,none⟩) m c)∧w'.ownsRow B 97 3 (.slice (some ⟨g,0,none⟩) m c) (L.eraseIdx i).length (chCells (L.eraseIdx i) (D.eraseIdx i))∧Turn w w' g:=by
 obtain ⟨a,c',hs,h2,h3⟩:=hv.shape
 cases hs
 have hone:∀ d∈D,d.oneCell'=true:=by
  intro d hd
  obtain ⟨i,hi,hd⟩:=List.mem_iff_getElem.1 hd
  have hd2:D[i]? = some d:=by rw [List.getElem?_eq_getElem hi,hd]
  obtain ⟨a,c,rfl,_⟩:=(hv.ds i d _ hd2 (List.getElem?_eq_getElem (by rw [←hv.len]; exact hi))).shape
  rfl
 refine (deleteC_run g L.length c i (chCells L D) B w hv.row hi (chCells_one hone) hl).mono ?_
 rintro e w' ⟨rfl,hr,ht⟩
 rw [chCells_erase hv.len i hi] at hr
 refine ⟨_,rfl,?_,ht⟩
 rw [List.length_eraseIdx_of_lt hi]
 exact hr
def usedW (a n:Nat) (x:QCh × (Option Addr × Nat × Nat)):Bool:=decide (((a:Nat):Int)=IntKind.u64.wrap x.1.head) && decide (((n:Nat):Int)≤IntKind.u64.wrap x.1.room)
def encCh (x:QCh × (Option Addr × Nat × Nat)):List Value:=[.int .i64 x.1.head,.slice x.2.1 x.2.2.1 x.2.2.2,.int .i64 x.1.room]
set_option maxHeartbeats 1000000 in
theorem find1_any (a n gb:Nat) (ha:a < 4294967296) (hn:n < 4294967296) (w:World) (hb:w.heap[gb]? = some (.cells #[.int .u32 (a:Nat),.int .u32 (n:Nat)] 126 (0,0))) :
 PredBelow Tryz.prog 105 #[.pointer (some ⟨gb,0,none⟩)] (fun x=>.agg (encCh x).toArray) (usedW a n) w:=fun W x hW=>by
 obtain ⟨x,p,q,r⟩:=x
 obtain ⟨hd,ds,rm⟩:=x
 have hbW:=row_keep hb hW
 have hbA:=row_new hbW (.cells #[.int .i64 hd,.slice p q r,.int .i64 rm] 97)
 obtain ⟨c0,z0⟩:=at_cell hbA 0 _ rfl
 obtain ⟨c1,z1⟩:=at_cell hbA 1 _ rfl
 have HW:=Zh (hW.alloc hW.size (.cells #[.int .i64 hd,.slice p q r,.int .i64 rm] 97))
 obtain ⟨y,hy⟩:∃ y,IntKind.u64.wrap hd=y:=⟨_,rfl⟩
 obtain ⟨z,hz⟩:∃ y,IntKind.u64.wrap rm=y:=⟨_,rfl⟩
 have hwa:IntKind.u64.wrap ((a:Nat):Int)=(a:Nat):=IntWalk.u64_in _ (by omega)
 have hwn:IntKind.u64.wrap ((n:Nat):Int)=(n:Nat):=IntWalk.u64_in _ (by omega)
 show Calls _ _ #[.agg #[.int .i64 hd,.slice p q r,.int .i64 rm],.pointer (some ⟨gb,0,none⟩)] W _
 have hu:usedW a n (⟨hd,ds,rm⟩,p,q,r)=(decide (((a:Nat):Int)=y) && decide (((n:Nat):Int)≤z)):=by simp [usedW,hy,hz]
 rw [hu]
 have HB:=Zh hb
 clear hb hbW hbA z0 z1 hW hu ha hn
 by_cases h1:((a:Nat):Int)=y
 · have e1:(((a:Nat):Int) == y)=true:=by rw [beq_iff_eq]; exact h1
   by_cases h2:((n:Nat):Int)≤z
   · have e2:decide (((n:Nat):Int)≤z)=true:=decide_eq_true h2
     rw [decide_eq_true h1,e2]
     have H1:=Zh h1
     have H2:=Zh h2
     clear h1 h2
     go_enter Tryz.func105,Tryz.ntmps105
     go_wp2
     go_ret
     exact ⟨rfl,HW.out⟩
   · have e2:decide (((n:Nat):Int)≤z)=false:=decide_eq_false h2
     rw [decide_eq_true h1,e2]
     have H1:=Zh h1
     clear h1 h2
     go_enter Tryz.func105,Tryz.ntmps105
     go_wp2
     go_ret
     exact ⟨rfl,HW.out⟩
 · have e1:(((a:Nat):Int) == y)=false:=by rw [beq_eq_false_iff_ne]; exact h1
   rw [decide_eq_false h1]
   clear h1
   go_enter Tryz.func105,Tryz.ntmps105
   go_wp2
   go_ret
   exact ⟨rfl,HW.out⟩
instance:Inhabited QCh:=⟨⟨0,[],0⟩⟩
def sliceOf:Value→Option Addr × Nat × Nat
 | .slice a n c=>(a,n,c)
 | _=>(none,0,0)
theorem findC_any {B:Nat} (C:Value) (L:List QCh) (D:List Value) (a n gb:Nat) (ha:a < 4294967296) (hn:n < 4294967296) (w:World) (hv:OwnC B w C L D) (hl:L.length≤1000) (hb:w.heap[gb]? = some (.cells #[.int .u32 (a:Nat),.int .u32 (n:Nat)] 126 (0,0)))
 (hg:∀ c∈L,0≤c.head∧c.head≤1000∧0≤c.room∧c.room≤2147483647) :
 Calls Tryz.prog 104 #[C,.func (.func 105) #[] #[.pointer (some ⟨gb,0,none⟩)]] w fun e w'=>∃ z,e=.returned (.int .i64 z)∧((z = -1∧∀ c∈L,isUsed a n c=false)∨∃ i c,z=(i:Nat)∧L[i]? = some c∧isUsed a n c=true)∧Below w.heap.size w w':=by
 obtain ⟨ad,c,rfl,h1,h2⟩:=hv.shape
 by_cases h0:0 < L.length
 · obtain ⟨g,cur,rfl,_,hlt,hh,_,_⟩:=hv.lie h0
   obtain ⟨Z,hZ⟩:∃ Z,Z=L.zip (D.map sliceOf):=⟨_,rfl⟩
   have hZl:Z.length=L.length:=by rw [hZ]; simp [hv.len]
   have hat:∀ (j:Nat) (hj:j < Z.length),∃ x d,L[j]? = some x∧D[j]? = some d∧Z[j]=(x,sliceOf d)∧(∃ p q r,d=.slice p q r)∧w.cell? ⟨g,j * 3,none⟩=some (.int .i64 x.head)∧w.cell? ⟨g,j * 3+1,none⟩=some d∧w.cell? ⟨g,j * 3+2,none⟩=some (.int .i64 x.room):=by
    intro j hj
    obtain ⟨x,d,e1,e2,e3,e4,e5,e6⟩:=hv.at j (by omega)
    obtain ⟨p,r,e7,_⟩:=e6.shape
    refine ⟨x,d,e1,e2,?_,⟨p,_,r,e7⟩,e3,e4,e5⟩
    have e8:Z[j]? = some (x,sliceOf d):=by rw [hZ,List.getElem?_zip_eq_some]; exact ⟨e1,by rw [List.getElem?_map,e2]; rfl⟩
    rw [List.getElem?_eq_getElem hj] at e8
    exact Option.some.inj e8
   have hget:∀ (j:Nat) (hj:j < Z.length),Z[j]! = Z[j]:=fun j hj=>getElem!_pos Z j hj
   have h:=AnyQ.slices_IndexFunc (α:=QCh × (Option Addr × Nat × Nat)) Tryz.laysFindC 3 (fun w=>by kernel_rfl) (fun w=>by kernel_rfl) encCh (fun _=>rfl) (usedW a n) 105 #[.pointer (some ⟨gb,0,none⟩)] (enters_of Tryz.func105 (by kernel_rfl) rfl) g 0 L.length c Z w
    (find1_any a n gb ha hn w hb) (by omega) (by omega) hlt (fun j hj i v hi=>by
     obtain ⟨x,d,e1,e2,e3,⟨p,q,r,rfl⟩,e4,e5,e6⟩:=hat j hj
     rw [hget j hj,e3] at hi
     rw [Nat.zero_add]
     match i,hi with
     | 0,hi=>simp [encCh] at hi; rw [←hi]; exact e4
     | 1,hi=>simp [encCh,sliceOf] at hi; rw [←hi]; exact e5
     | 2,hi=>simp [encCh] at hi; rw [←hi]; exact e6
     | i+3,hi=>simp [encCh] at hi)
   have hus:∀ (j:Nat) (hj:j < Z.length) (x:QCh),L[j]? = some x→usedW a n Z[j]=isUsed a n x:=by
    intro j hj x hx
    obtain ⟨x',d,e1,e2,e3,_⟩:=hat j hj
    rw [←Option.some.inj (e1.symm.trans hx)]
    have hx2:=hg x' (List.mem_of_getElem? e1)
    have w1:IntKind.u64.wrap x'.head=x'.head:=IntWalk.u64_in _ (by omega)
    have w2:IntKind.u64.wrap x'.room=x'.room:=IntWalk.u64_in _ (by omega)
    rw [e3]
    simp only [usedW,isUsed,w1,w2,←Bool.decide_and]
   refine h.mono ?_
   rintro e w' ⟨rfl,hbw⟩
   refine ⟨_,rfl,?_,hbw⟩
   rcases hf:Z.findIdx? (usedW a n) with _|i
   · refine .inl ⟨Lib.idxBy_miss _ Z L.length _ (fun j hj=>?_),fun x hx=>?_⟩
     · rw [hget j (by omega)]
       exact Bool.eq_false_iff.2 (fun e=>by
        rw [List.findIdx?_eq_none_iff] at hf
        have:=hf _ (List.getElem_mem (show j < Z.length by omega))
        rw [this] at e
        cases e)
     · obtain ⟨j,hj,hx⟩:=List.mem_iff_getElem.1 hx
       rw [List.findIdx?_eq_none_iff] at hf
       have:=hf _ (List.getElem_mem (show j < Z.length by omega))
       rw [hus j (by omega) x (by rw [List.getElem?_eq_getElem hj,hx])] at this
       exact this
   · rw [List.findIdx?_eq_some_iff_getElem] at hf
     obtain ⟨hi,h3,h4⟩:=hf
     obtain ⟨x,d,e1,_⟩:=hat i hi
     refine .inr ⟨i,x,Lib.idxBy_hit _ Z L.length i _ (by omega) (by omega) (by rw [hget i hi]; exact h3) (fun j hj=>?_),e1,by rw [←hus i hi x e1]; exact h3⟩
     rw [hget j (by omega)]
     exact Bool.eq_false_iff.2 (h4 j hj)
 · have hl0:L=[]:=List.length_eq_zero_iff.1 (by omega)
   subst hl0
   go_enter Tryz.func104,Tryz.ntmps104
   go_wp2
   refine wp_loop_rounds 1 ?_
   rw [rounds_succ]
   go_wp2
   go_ret
   exact ⟨_,rfl,.inl ⟨rfl,fun c hc=>by cases hc⟩,Below.refl _ _⟩
def chkB (S:List (List UInt8)) (C:List (Int × List UInt8)):Bool :=
 decide (S.length≤256) && decide (C.length≤512) && S.all (fun l=>decide (l.length=256)) && C.all (fun x=>decide (0≤x.1∧x.1 < (S.length:Int)∧x.2.length=256))
theorem chk_true {S:List (List UInt8)} {C:List (Int × List UInt8)}:chkB S C=true↔S.length≤256∧C.length≤512∧(∀ l∈S,l.length=256)∧∀ x∈C,0≤x.1∧x.1 < (S.length:Int)∧x.2.length=256:=by
 simp only [chkB,Bool.and_eq_true,decide_eq_true_eq,List.all_eq_true,and_assoc]
theorem chk_false {S:List (List UInt8)} {C:List (Int × List UInt8)} (h:¬ (S.length≤256∧C.length≤512∧(∀ l∈S,l.length=256)∧∀ x∈C,0≤x.1∧x.1 < (S.length:Int)∧x.2.length=256)):chkB S C=false:=by
 rw [←Bool.not_eq_true,chk_true]
 exact h
def dFault (S:List (List UInt8)) (C:List (Int × List UInt8)) (a:Int):Int:=if chkB S C=true then (if 0≤a∧a < (S.length:Int) then 0 else 50) else 3
theorem dFault_cases (S:List (List UInt8)) (C:List (Int × List UInt8)) (a:Int) :
 (dFault S C a=3∧chkB S C=false)∨(dFault S C a=50∧chkB S C=true∧¬ (0≤a∧a < (S.length:Int)))∨(dFault S C a=0∧chkB S C=true∧0≤a∧a < (S.length:Int)):=by
 unfold dFault
 split
 · split
   · exact .inr (.inr ⟨rfl,by assumption,by omega⟩)
   · exact .inr (.inl ⟨rfl,by assumption,by assumption⟩)
 · exact .inl ⟨rfl,by rw [←Bool.not_eq_true]; assumption⟩
def wFault (S:List (List UInt8)) (C:List (Int × List UInt8)) (a:Int) (n:Nat):Int:=if dFault S C a=0 then (if n=256 then (if C.length=512 then 4 else 0) else 2) else dFault S C a
def tFault (S:List (List UInt8)) (C:List (Int × List UInt8)) (a p:Int):Int:=if dFault S C a=0 then (if 0≤p∧p < 256 then 0 else 2) else dFault S C a
theorem wFault_zero {S:List (List UInt8)} {C:List (Int × List UInt8)} {a:Int} {n:Nat} (h:wFault S C a n=0):chkB S C=true∧0≤a∧a < (S.length:Int)∧n=256∧C.length < 512:=by
 unfold wFault at h
 rcases dFault_cases S C a with ⟨h0,_⟩|⟨h0,_⟩|⟨h0,h1,h2⟩
 · rw [h0] at h; simp at h
 · rw [h0] at h; simp at h
 · rw [h0,if_pos rfl] at h
   have h3:=(chk_true.1 h1).2.1
   by_cases h4:n=256
   · rw [if_pos h4] at h
     by_cases h5:C.length=512
     · rw [if_pos h5] at h; omega
     · exact ⟨h1,h2.1,h2.2,h4,by omega⟩
   · rw [if_neg h4] at h; omega
def after (S:List (List UInt8)) (C:List (Int × List UInt8)) (T:Nat→Bool):Nat→List (List UInt8)
 | 0=>S
 | k+1=>if T k=true then (after S C T k).set (C.getD k (0,[])).1.toNat (C.getD k (0,[])).2 else after S C T k
theorem after_length (S:List (List UInt8)) (C:List (Int × List UInt8)) (T:Nat→Bool) (k:Nat):(after S C T k).length=S.length:=by
 induction k with
 | zero=>rfl
 | succ k ih =>
   unfold after
   split
   · rw [List.length_set,ih]
   · exact ih
theorem after_prefix (S:List (List UInt8)) (C D:List (Int × List UInt8)) (T:Nat→Bool) (k:Nat) (hk:k≤C.length):after S (C++D) T k=after S C T k:=by
 induction k with
 | zero=>rfl
 | succ k ih =>
   unfold after
   rw [ih (by omega)]
   have h1:(C++D).getD k (0,[])=C.getD k (0,[]):=by
    simp only [List.getD_eq_getElem?_getD]
    rw [List.getElem?_append_left (by omega)]
   rw [h1]
def settledOf (S:List (List UInt8)) (C:List (Int × List UInt8)) (T:Nat→Bool):List (List UInt8):=after S C T C.length
def every:Nat→Bool:=fun _=>true
def keptT (l:List Bool):Nat→Bool:=fun k=>l.getD k false
def readOf (S:List (List UInt8)) (C:List (Int × List UInt8)) (a:Int):List UInt8:=if dFault S C a=0 then (settledOf S C every).getD a.toNat [] else []
def flushOf (S:List (List UInt8)) (C:List (Int × List UInt8)) (T:Nat→Bool):List (List UInt8):=if chkB S C=true then settledOf S C T else S
def cacheOf (S:List (List UInt8)) (C:List (Int × List UInt8)):List (Int × List UInt8):=if chkB S C=true then [] else C
def formOf (S:List (List UInt8)) (C:List (Int × List UInt8)):Int:=if chkB S C=true then 0 else 3
def writeOf (S:List (List UInt8)) (C:List (Int × List UInt8)) (a:Int) (l:List UInt8):List (Int × List UInt8):=if wFault S C a l.length=0 then C++[(a,l)] else C
def tamperOf (S:List (List UInt8)) (C:List (Int × List UInt8)) (a p:Int) (y:UInt8):List (List UInt8):=if tFault S C a p=0 then S.set a.toNat ((S.getD a.toNat []).set p.toNat (((S.getD a.toNat []).getD p.toNat 0) ^^^ y)) else S
def newOf (n:Int):List (List UInt8):=if 0≤n∧n≤256 then List.replicate n.toNat (List.replicate 256 0) else []
def newFault (n:Int):Int:=if 0≤n∧n≤256 then 0 else 2
theorem IsArg.shape3 {w:World} {v:Value} {l:List UInt8} (h:IsArg w v l):∃ a n c,v=.slice a n c∧n=l.length:=by
 obtain ⟨a,c,rfl⟩:=h.1.shape
 exact ⟨a,_,c,rfl,rfl⟩
def Held (w:World) (v:Value) (n:Nat) (cs:List Value):Prop :=
 (v=.slice none 0 0∧n=0∧cs=[])∨∃ ad c,v=.slice (some ad) n c∧n≤c∧c≤maxLen∧∀ j u,cs[j]? = some u→w.cell? (ad.add j)=some u
theorem Held.below {w w':World} {v:Value} {n:Nat} {cs:List Value} (h:Held w v n cs) (hb:Below w.heap.size w w'):Held w' v n cs:=by
 rcases h with h|⟨ad,c,h1,h2,h3,h4⟩
 · exact .inl h
 · exact .inr ⟨ad,c,h1,h2,h3,fun j u hu=>by
    have h5:=h4 j u hu
    rw [hb.cell (World.block_lt_of_cell? w _ h5)]; exact h5⟩
theorem Held.shape {w:World} {v:Value} {n:Nat} {cs:List Value} (h:Held w v n cs):∃ a c,v=.slice a n c∧n≤maxLen:=by
 rcases h with ⟨rfl,rfl,_⟩|⟨ad,c,rfl,h2,h3,_⟩
 · exact ⟨none,0,rfl,Nat.zero_le _⟩
 · exact ⟨some ad,c,rfl,Nat.le_trans h2 h3⟩
theorem Held.lit {w:World} {a:Option Addr} {n c:Nat} {cs:List Value} (h:Held w (.slice a n c) n cs) (h0:0 < cs.length) :
 ∃ b off,a=some ⟨b,off,none⟩∧b < w.heap.size∧∀ j u,cs[j]? = some u→w.cell? ⟨b,off+j,none⟩=some u:=by
 rcases h with ⟨_,_,rfl⟩|⟨ad,c',h1,_,_,h4⟩
 · simp at h0
 · cases h1
   have h5:=h4 0 _ (List.getElem?_eq_getElem h0)
   have hlt:=World.block_lt_of_cell? w _ h5
   rw [Addr.add_zero'] at h5 hlt
   obtain ⟨b,off,spot⟩:=ad
   obtain rfl:spot=none:=by
    cases spot with
    | none=>rfl
    | some x =>
      exfalso
      unfold World.cell? at h5
      split at h5
      · simp at h5
      · cases h5
   refine ⟨b,off,rfl,hlt,fun j u hu=>?_⟩
   have h6:=h4 j u hu
   rwa [Addr.add_lit] at h6
theorem held_of_owns {w:World} {base:Nat} {t:TypeId} {size:Nat} {v:Value} {n:Nat} {cs:List Value} (h:w.ownsRow base t size v n cs):Held w v n cs:=by
 rcases h.2 with ⟨rfl,h0⟩|⟨g,cap,cur,rfl,_,hh,hnc,hcm,_,_⟩
 · refine .inl ⟨rfl,h0,?_⟩
   have:=h.1
   rw [h0] at this
   exact List.length_eq_zero_iff.1 (by omega)
 · exact .inr ⟨⟨g,0,none⟩,cap,rfl,hnc,hcm,fun j u hu=>World.ownsRow.cells h rfl j u hu⟩
def Sects (w:World) (v:Value) (S:List (List UInt8)):Prop :=
 ∃ Vs:List Value,Vs.length=S.length∧Held w v S.length Vs∧∀ (i:Nat) (V:Value) (l:List UInt8),Vs[i]? = some V→S[i]? = some l→IsArg w V l
theorem Sects.below {w w':World} {v:Value} {S:List (List UInt8)} (h:Sects w v S) (hb:Below w.heap.size w w'):Sects w' v S:=by
 obtain ⟨Vs,h1,h2,h3⟩:=h
 exact ⟨Vs,h1,h2.below hb,fun i V l hV hl=>(h3 i V l hV hl).below hb⟩
theorem Sects.shape {w:World} {v:Value} {S:List (List UInt8)} (h:Sects w v S):∃ a c,v=.slice a S.length c∧S.length≤maxLen:=by
 obtain ⟨Vs,_,h2,_⟩:=h
 exact h2.shape
theorem Sects.at {w:World} {a:Option Addr} {n c:Nat} {S:List (List UInt8)} (h:Sects w (.slice a n c) S) (k:Nat) (hk:k < S.length) :
 ∃ b off V,a=some ⟨b,off,none⟩∧w.cell? ⟨b,off+k,none⟩=some V∧IsArg w V (S.getD k []):=by
 obtain ⟨Vs,h1,h2,h3⟩:=h
 obtain ⟨a',c',hs,_⟩:=h2.shape
 cases hs
 obtain ⟨b,off,h4,_,h5⟩:=h2.lit (by omega)
 have hV:Vs[k]? = some (Vs[k]'(by omega)):=List.getElem?_eq_getElem _
 refine ⟨b,off,_,h4,h5 k _ hV,?_⟩
 have hl:S[k]? = some (S.getD k []):=by simp [List.getD_eq_getElem?_getD,hk]
 exact h3 k _ _ hV hl
theorem rows_nil (w:World):Sects w (.slice none 0 0) []:=⟨[],rfl,.inl ⟨rfl,rfl,rfl⟩,fun i V l h=>by simp at h⟩
def wcells (X:List (Int × Value)):List Value:=X.flatMap fun x=>[.int .i64 x.1,x.2]
theorem wcells_length (X:List (Int × Value)):(wcells X).length=X.length * 2:=by
 induction X with
 | nil=>rfl
 | cons x r ih=>simp only [wcells,List.flatMap_cons,List.length_append,List.length_cons,List.length_nil] at ih ⊢; omega
theorem wcells_append (X Y:List (Int × Value)):wcells (X++Y)=wcells X++wcells Y:=by simp [wcells]
theorem wcells_at (X:List (Int × Value)) (k:Nat) (x:Int × Value) (h:X[k]? = some x):(wcells X)[k * 2]? = some (.int .i64 x.1)∧(wcells X)[k * 2+1]? = some x.2:=by
 induction X generalizing k with
 | nil=>simp at h
 | cons y r ih =>
   cases k with
   | zero=>simp at h; subst h; exact ⟨rfl,rfl⟩
   | succ k =>
     have h1:=ih k (by simpa using h)
     have h2:wcells (y::r)=.int .i64 y.1::y.2::wcells r:=rfl
     rw [h2,show (k+1) * 2=k * 2+1+1 by omega]
     exact h1
theorem wcells_set (X:List (Int × Value)) (k:Nat) (z:Int) (V:Value):((wcells X).set (k * 2) (.int .i64 z)).set (k * 2+1) V=wcells (X.set k (z,V)):=by
 induction X generalizing k with
 | nil=>rfl
 | cons y r ih =>
   have h2:∀ (y:Int × Value) (r:List (Int × Value)),wcells (y::r)=.int .i64 y.1::y.2::wcells r:=fun _ _=>rfl
   cases k with
   | zero=>rfl
   | succ k =>
     rw [List.set_cons_succ,h2,h2,show (k+1) * 2=k * 2+1+1 by omega,←ih k]
     rfl
def Writes (w:World) (v:Value) (C:List (Int × List UInt8)):Prop :=
 ∃ X:List (Int × Value),X.length=C.length∧Held w v C.length (wcells X)∧∀ (i:Nat) (x:Int × Value) (y:Int × List UInt8),X[i]? = some x→C[i]? = some y→x.1=y.1∧IsArg w x.2 y.2
theorem Writes.below {w w':World} {v:Value} {C:List (Int × List UInt8)} (h:Writes w v C) (hb:Below w.heap.size w w'):Writes w' v C:=by
 obtain ⟨X,h1,h2,h3⟩:=h
 exact ⟨X,h1,h2.below hb,fun i x y hx hy=>⟨(h3 i x y hx hy).1,(h3 i x y hx hy).2.below hb⟩⟩
theorem Writes.shape {w:World} {v:Value} {C:List (Int × List UInt8)} (h:Writes w v C):∃ a c,v=.slice a C.length c∧C.length≤maxLen:=by
 obtain ⟨X,_,h2,_⟩:=h
 exact h2.shape
theorem Writes.at {w:World} {a:Option Addr} {n c:Nat} {C:List (Int × List UInt8)} (h:Writes w (.slice a n c) C) (k:Nat) (hk:k < C.length) :
 ∃ b off V,a=some ⟨b,off,none⟩∧w.cell? ⟨b,off+k * 2,none⟩=some (.int .i64 (C.getD k (0,[])).1)∧w.cell? ⟨b,off+k * 2+1,none⟩=some V∧IsArg w V (C.getD k (0,[])).2:=by
 obtain ⟨X,h1,h2,h3⟩:=h
 obtain ⟨a',c',hs,_⟩:=h2.shape
 cases hs
 obtain ⟨b,off,h4,_,h5⟩:=h2.lit (by rw [wcells_length]; omega)
 have hX:X[k]? = some (X[k]'(by omega)):=List.getElem?_eq_getElem _
 obtain ⟨e1,e2⟩:=wcells_at X k _ hX
 have hy:C[k]? = some (C.getD k (0,[])):=by simp [List.getD_eq_getElem?_getD,hk]
 obtain ⟨e3,e4⟩:=h3 k _ _ hX hy
 refine ⟨b,off,_,h4,?_,h5 _ _ e2,e4⟩
 rw [←e3]
 exact h5 _ _ e1
theorem writes_nil (w:World):Writes w (.slice none 0 0) []:=⟨[],rfl,.inl ⟨rfl,rfl,rfl⟩,fun i V l h=>by simp at h⟩
def IsDisk (w:World) (s c:Value) (S:List (List UInt8)) (C:List (Int × List UInt8)):Prop:=Sects w s S∧Writes w c C
theorem IsDisk.below {w w':World} {s c:Value} {S:List (List UInt8)} {C:List (Int × List UInt8)} (h:IsDisk w s c S C) (hb:Below w.heap.size w w'):IsDisk w' s c S C:=⟨h.1.below hb,h.2.below hb⟩
def FewD (S:List (List UInt8)) (C:List (Int × List UInt8)):Prop:=S.length≤100000∧C.length≤100000∧(∀ l∈S,l.length≤100000)∧∀ x∈C,x.2.length≤100000
theorem getD_mem {α:Type} (l:List α) (k:Nat) (d:α) (h:k < l.length):l.getD k d∈l:=by
 rw [List.getD_eq_getElem?_getD,List.getElem?_eq_getElem h]
 exact List.getElem_mem _
def IsFlags (w:World) (v:Value) (l:List Bool):Prop:=Held w v l.length (l.map .bool)
theorem IsFlags.below {w w':World} {v:Value} {l:List Bool} (h:IsFlags w v l) (hb:Below w.heap.size w w'):IsFlags w' v l:=Held.below h hb
theorem IsFlags.at {w:World} {a:Option Addr} {n c:Nat} {l:List Bool} (h:IsFlags w (.slice a n c) l) (k:Nat) (hk:k < l.length) :
 ∃ b off,a=some ⟨b,off,none⟩∧w.cell? ⟨b,off+k,none⟩=some (.bool (l.getD k false)):=by
 have h0:=h
 unfold IsFlags at h0
 obtain ⟨a',c',hs,_⟩:=h0.shape
 cases hs
 obtain ⟨b,off,h4,_,h5⟩:=h0.lit (by simp; omega)
 exact ⟨b,off,h4,h5 k _ (by simp [List.getD_eq_getElem?_getD,hk])⟩
theorem flags_nil (w:World):IsFlags w (.slice none 0 0) []:=.inl ⟨rfl,rfl,rfl⟩
def IsInts (w:World) (v:Value) (l:List Int):Prop:=Held w v l.length (l.map (Value.int .i64))∧∀ z∈l,-9223372036854775808≤z∧z≤9223372036854775807
theorem IsInts.below {w w':World} {v:Value} {l:List Int} (h:IsInts w v l) (hb:Below w.heap.size w w'):IsInts w' v l:=⟨Held.below h.1 hb,h.2⟩
theorem IsInts.at {w:World} {a:Option Addr} {n c:Nat} {l:List Int} (h:IsInts w (.slice a n c) l) (k:Nat) (hk:k < l.length) :
 ∃ b off,a=some ⟨b,off,none⟩∧w.cell? ⟨b,off+k,none⟩=some (.int .i64 (l.getD k 0)):=by
 have h0:=h.1
 obtain ⟨a',c',hs,_⟩:=h0.shape
 cases hs
 obtain ⟨b,off,h4,_,h5⟩:=h0.lit (by simp; omega)
 exact ⟨b,off,h4,h5 k _ (by simp [List.getD_eq_getElem?_getD,hk])⟩
theorem box2 {w w':World} {u v:Value} {t:TypeId} {fr:Nat × Nat} (h:Below (w.alloc (.cells #[u,v] t fr)).heap.size (w.alloc (.cells #[u,v] t fr)) w'):w'.cell? ⟨w.heap.size,0,none⟩=some u∧w'.cell? ⟨w.heap.size,1,none⟩=some v:=by
 have h1:=heap_alloc_new w (.cells #[u,v] t fr)
 constructor
 all_goals
  rw [h.cell (by simp)]
  unfold World.cell?
  rw [h1]
  rfl
theorem box2_new (w:World) (u v:Value) (t:TypeId) (fr:Nat × Nat):(w.alloc (.cells #[u,v] t fr)).cell? ⟨w.heap.size,0,none⟩=some u∧(w.alloc (.cells #[u,v] t fr)).cell? ⟨w.heap.size,1,none⟩=some v:=box2 (Below.refl _ _)
theorem dskKept {w w':World} {a:Addr} {v:Value} (h:w.cell? a=some v) (hb:Below w.heap.size w w'):w'.cell? a=some v:=by
 rw [hb.cell (World.block_lt_of_cell? _ _ h)]; exact h
theorem kept_drew {w w':World} {a:Addr} {v:Value} (h:w.cell? a=some v) (hb:Below w.drew.heap.size w.drew w'):w'.cell? a=some v:=dskKept (w:=w.drew) h hb
theorem far_cell {w:World} {g i:Nat} (a:Addr) (x:Value) (hne:g≠a.block):(w.setCell a x).cell? ⟨g,i,none⟩=w.cell? ⟨g,i,none⟩:=by
 unfold World.cell?
 rw [Below.heap_setCell w a x g hne]
theorem far2 {w:World} {g q i j:Nat} {x y u v:Value} (hne:g≠q) (h:w.cell? ⟨g,0,none⟩=some u∧w.cell? ⟨g,1,none⟩=some v) :
 ((w.setCell ⟨q,i,none⟩ x).setCell ⟨q,j,none⟩ y).cell? ⟨g,0,none⟩=some u∧((w.setCell ⟨q,i,none⟩ x).setCell ⟨q,j,none⟩ y).cell? ⟨g,1,none⟩=some v:=by
 rw [far_cell _ _ hne,far_cell _ _ hne,far_cell _ _ hne,far_cell _ _ hne]
 exact h
theorem kept2 {w w':World} {g:Nat} {u v:Value} (h:w.cell? ⟨g,0,none⟩=some u∧w.cell? ⟨g,1,none⟩=some v) (hb:Below w.heap.size w w'):w'.cell? ⟨g,0,none⟩=some u∧w'.cell? ⟨g,1,none⟩=some v:=⟨dskKept h.1 hb,dskKept h.2 hb⟩
theorem wpList_append_held {P:Program} (w:World) {ops:Array Oper} {rest:List Oper} {o:Oper} {a:Act} {Q:Exit→Act→World→Prop} (hgd:o.guard=none) (s x:Operand) (t:TypeId)
 (ho:o.op=.call { callee:=.builtin .append,args:=#[s,x],argTypes:=#[t,t] })
 (base:Nat) (e:TypeId) (i:TypeInfo) (z:Value) (size bytes:Nat) (ht:P.underlying t=some (.slice e)) (hi:P.info? e=some i) (hz:i.zero=some z)
 (hsize:i.size=size) (hby:i.bytes=bytes) (hzs:z.cells.size=size) (hsz:0 < size)
 (v:Value) (n:Nat) (xs:List Value) (hs:a.eval s=v) (hown:w.ownsRow base e size v n xs)
 (V:Value) (m:Nat) (news:List Value) (hx:a.eval x=V) (hV:Held w V m news) (hl:news.length=m * size) (h1:∀ u∈news,u.oneCell'=true)
 (h63:n+m≤maxLen) (hbytes:(n+m) * bytes≤140737488355328) (hbase:base≤w.heap.size)
 (h:∀ v' w',w'.ownsRow base e size v' (n+m) (xs++news)→w.grownBy w' v.ownBlock→wpList P ops Q rest (a.put o.dst v') w'):wpList P ops Q (o::rest) a w:=by
 rcases hV with ⟨rfl,rfl,rfl⟩|⟨ad,c,rfl,_,_,hnews⟩
 · refine wpList_append_own_none hgd s x t ho base e i size ht hi v n xs hs hown hx ?_
   exact h v w (by simpa using hown) (World.grownBy.refl w _)
 · exact wpList_append_own w hgd s x t ho base e i z size bytes ht hi hz hsize hby hzs hsz v n xs hs hown ad m c news hx hl hnews h1 h63 hbytes hbase (fun v' w' h2 h3 _=>h v' w' h2 h3)
theorem isCount_in (z:Int) (h0:0≤z) (h1:z≤2147483647) (w:World):Calls Tryz.prog 59 #[.int .i64 z] w fun e w'=>e=.returned (.bool true)∧w'=w:=by
 go_enter Tryz.func59,Tryz.ntmps59
 go_wp2
 go_ret
 exact ⟨rfl,rfl⟩
set_option maxHeartbeats 1000000 in
theorem upTo_any (N:Nat) (hN:N≤1000) (w:World):Calls Tryz.prog 43 #[.int .i64 (N:Nat)] w fun e w'=>∃ r,e=.returned r∧OwnI w.heap.size w' r (upN N)∧Below w.heap.size w w':=by
 obtain ⟨i0,hi,hz0,hz1,hz2⟩:=info_parts infoI
 go_enter Tryz.func43,Tryz.ntmps43
 go_wp2_with (refine wpList_make_full _ rfl _ _ 25 rfl w.heap.size 3 i0 (.int .i64 0) 1 Tryz.underlying25 hi hz0 hz1 .i64 .i64 _ _ N rfl rfl rfl rfl ?b2 ?b3 ?b4 ?_)
 case b2=>rw [hz2]; omega
 case b3=>unfold maxLen; omega
 case b4=>exact Nat.le_refl _
 intro w1 hown hgrow
 obtain ⟨g,hg⟩:∃ g,g=w.heap.size:=⟨_,rfl⟩
 rw [←hg] at hown ⊢
 have HG:=Zh hg
 have HB1:=Zh ((Below.refl w.heap.size w).grown hgrow (Nat.le_refl _) (fun k hk=>by cases hk))
 rw [toList_madeCells_one] at hown
 have HO:=Zh hown
 clear hown hgrow hg
 go_wp2
 go_loopw [9] (fun i wr=>∃ k:Nat,k≤N∧i=.int .i64 k∧(∃ xs,wr.ownsRow g 3 1 (.slice (some ⟨g,0,none⟩) N N) N xs∧∀ j:Nat,j < k→xs[j]? = some (.int .i64 (j:Nat)))∧Below w.heap.size w wr) (fun i _=>N - (intOf i).toNat)
 case atStart=>exact ⟨0,Nat.zero_le _,rfl,⟨_,HO.out,fun j hj=>by omega⟩,HB1.out⟩
 case round =>
  obtain ⟨k,hk,rfl,⟨xs,hxs,hpart⟩,hbw⟩:=hrel
  have HXS:=Zh hxs
  have HP:=Zh hpart
  have HBW:=Zh hbw
  have hxl:xs.length=N:=by have:=hxs.1; omega
  have HXL:=Zh hxl
  clear hxs hpart hbw
  by_cases hlt:k < N
  · obtain ⟨u,hu⟩:∃ u,xs[k]? = some u:=⟨xs[k]'(by omega),List.getElem?_eq_getElem _⟩
    have hcg:wr.cell? ⟨g,k,none⟩=some u:=by rw [HXS.out.cellAt k (by omega)]; exact hu
    have hfg:wr.frozen? ⟨g,k,none⟩=false:=HXS.out.frozenAt k
    clear hu hxl
    go_wp2
    go_roundw
    case rel =>
     refine ⟨k+1,by omega,by go_num,⟨_,(HXS.out.stored k _).1,fun j hj=>?_⟩,HBW.out.setCell (by show w.heap.size≤g; rw [HG.out]; exact Nat.le_refl _) _⟩
     by_cases he:j=k
     · rw [he,List.getElem?_set_self (by rw [HXL.out]; exact hlt)]
     · rw [List.getElem?_set_ne (fun e=>he e.symm)]
       exact HP.out j (by omega)
    case measure=>simp [intOf]; omega
  · obtain rfl:k=N:=by omega
    have HX:xs=(upN k).map (Value.int .i64):=by
     apply List.ext_getElem?
     intro j
     by_cases hj:j < k
     · rw [HP.out j hj]; simp [upN,hj]
     · rw [List.getElem?_eq_none (by rw [HXL.out]; omega),List.getElem?_eq_none (by simp [upN]; omega)]
    have HR:=Zh (show OwnI w.heap.size wr (.slice (some ⟨g,0,none⟩) k k) (upN k) by
     have h:=HXS.out
     rw [HX,HG.out] at h
     unfold OwnI
     rw [upN_length,HG.out]
     exact h)
    clear hxl HX
    go_wp2
    go_ret
    exact ⟨_,rfl,HR.out,HBW.out⟩
theorem box3_new (w:World) (a b c:Value) (t:TypeId):(w.alloc (.cells #[a,b,c] t)).cell? ⟨w.heap.size,0,none⟩=some a∧(w.alloc (.cells #[a,b,c] t)).cell? ⟨w.heap.size,1,none⟩=some b∧(w.alloc (.cells #[a,b,c] t)).cell? ⟨w.heap.size,2,none⟩=some c:=by
 have h:=heap_alloc_new w (.cells #[a,b,c] t)
 exact ⟨(at_cell h 0 _ rfl).1,(at_cell h 1 _ rfl).1,(at_cell h 2 _ rfl).1⟩
set_option maxHeartbeats 2000000 in
theorem chainChecks_in {B:Nat} (d:Value) (c:QCh) (w:World) (hd:OwnI B w d c.ds) (h1:c.ds≠[]) (h2:c.head=c.ds.getD 0 0) (h3:0≤c.room) (h4:c.room≤2147483647) :
 Calls Tryz.prog 68 #[.agg #[.int .i64 c.head,d,.int .i64 c.room]] w fun e w'=>e=.returned (.bool true)∧Below w.heap.size w w':=by
 obtain ⟨a,cap,rfl,h5,h6⟩:=hd.shape
 obtain ⟨g,cur,rfl,_,hlt,_,_⟩:=hd.lie h1
 obtain ⟨hd0,ds,rm⟩:=c
 simp only at hd h1 h2 h3 h4 h5 ⊢
 obtain ⟨n,hn⟩:∃ n,n=ds.length:=⟨_,rfl⟩
 have h0:0 < n:=by rw [hn]; exact List.length_pos_iff.2 h1
 have hB:=(Below.refl w.heap.size w).alloc (Nat.le_refl _) (.cells #[.int .i64 hd0,.slice (some ⟨g,0,none⟩) n cap,.int .i64 rm] 97)
 obtain ⟨b0,b1,b2⟩:=box3_new w (.int .i64 hd0) (.slice (some ⟨g,0,none⟩) n cap) (.int .i64 rm) 97
 have hc0:(w.alloc (.cells #[.int .i64 hd0,.slice (some ⟨g,0,none⟩) n cap,.int .i64 rm] 97)).cell? ⟨g,0,none⟩=some (.int .i64 hd0):=by
  have h7:=hd.at 0 (by omega)
  rw [←h2] at h7
  exact (hB.cell (p:=⟨g,0,none⟩) hlt).trans h7
 have hb0:decide (0 < n)=true:=decide_eq_true h0
 have hb1:decide ((0:Int) < (n:Nat))=true:=decide_eq_true (by omega)
 have hb2:(hd0 == hd0)=true:=by simp
 have HC:=Zh (show ∀ W,Calls Tryz.prog 59 #[.int .i64 rm] W fun e w'=>e=.returned (.bool true)∧w'=W from fun W=>isCount_in rm h3 h4 W)
 have HB:=Zh hB
 have HH:=Zh h2
 rw [←hn] at h5 ⊢
 unfold maxLen at h6
 clear hd h1 h2 h3 h4 hn hlt hB
 go_enter Tryz.func68,Tryz.ntmps68
 go_wp2_with fail
 go_quiet ((go_at_call 59; refine Calls.quiet_of_same (HC.out _)))
 go_wp2
 go_ret
 exact ⟨rfl,below_drewN HB.out _⟩
set_option maxHeartbeats 1000000 in
theorem lies_in (a:Option Addr) (L c at_ n:Nat) (hL:L≤8192) (h1:1≤n) (h2:at_+n≤L) (w:World) :
 Calls Tryz.prog 87 #[.agg #[.slice a L c],.int .u64 (at_:Nat),.int .u64 (n:Nat)] w fun e w'=>e=.returned (.bool true)∧Below w.heap.size w w':=by
 obtain ⟨d,hd⟩:∃ d,L=at_+d:=⟨L - at_,by omega⟩
 have HB:=Zh ((Below.refl w.heap.size w).alloc (Nat.le_refl _) (.cells #[.slice a L c] 24))
 have hw1:IntKind.u64.wrap ((L:Nat):Int)=(L:Nat):=IntWalk.u64_in _ (by omega)
 have hw2:((L:Nat):Int) - (at_:Nat)=(d:Nat):=by omega
 have hw3:IntKind.u64.wrap ((d:Nat):Int)=(d:Nat):=IntWalk.u64_in _ (by omega)
 have e1:decide ((1:Int)≤(n:Nat))=true:=decide_eq_true (by omega)
 have e2:decide (((at_:Nat):Int)≤(L:Nat))=true:=decide_eq_true (by omega)
 have e3:decide (((n:Nat):Int)≤(d:Nat))=true:=decide_eq_true (by omega)
 have f1:1≤n:=h1
 have f2:at_≤L:=by omega
 have f3:n≤d:=by omega
 have HD:=Zh hd
 clear h2 hd
 go_enter Tryz.func87,Tryz.ntmps87
 go_wp2
 go_ret
 exact ⟨rfl,HB.out⟩
theorem bits_two:bits BinOp.and IntKind.u16 ((0:Nat):Int) 2=0∧bits BinOp.and IntKind.u16 ((1:Nat):Int) 2=0∧bits BinOp.and IntKind.u16 ((2:Nat):Int) 2=2∧bits BinOp.and IntKind.u16 ((3:Nat):Int) 2=2:=⟨by kernel_rfl,by kernel_rfl,by kernel_rfl,by kernel_rfl⟩
theorem bits_one:bits BinOp.and IntKind.u16 ((0:Nat):Int) 1=0∧bits BinOp.and IntKind.u16 ((1:Nat):Int) 1=1∧bits BinOp.and IntKind.u16 ((2:Nat):Int) 1=0∧bits BinOp.and IntKind.u16 ((3:Nat):Int) 1=1:=⟨by kernel_rfl,by kernel_rfl,by kernel_rfl,by kernel_rfl⟩
set_option maxHeartbeats 1000000 in
theorem partOf_in (a n f x:Nat) (b:Bool) (y:Int) (ha:a < 9223372036854775808) (hn:n < 4294967296) (hy:bits BinOp.and IntKind.u16 ((f:Nat):Int) 2=y) (hf:(b=false∧y=0)∨(b=true∧y=2)) (w:World) :
 Calls Tryz.prog 88 #[.agg #[.int .u64 (a:Nat),.int .u32 (n:Nat),.int .u16 (f:Nat),.int .u16 (x:Nat)]] w fun e w'=>e=.returned (.agg #[.int .i64 (a:Nat),.int .i64 (n:Nat),.bool b])∧Below w.heap.size w w':=by
 have hw1:IntKind.i64.wrap ((a:Nat):Int)=(a:Nat):=IntWalk.i64_in _ (by omega)
 have hw2:IntKind.i64.wrap ((n:Nat):Int)=(n:Nat):=IntWalk.i64_in _ (by omega)
 rcases hf with ⟨rfl,rfl⟩|⟨rfl,rfl⟩
 all_goals
  go_enter Tryz.func88,Tryz.ntmps88
  go_wp2
  refine bodyPost_ret (v:=.agg #[.int .i64 (a:Nat),.int .i64 (n:Nat),.bool _]) (by simp [results,Tryz.results88,go_sem]) rfl ⟨rfl,?_⟩
  exact ((Below.refl w.heap.size w).alloc (Nat.le_refl _) _).alloc (by simp) _
abbrev put6 (X:World) (r:Nat) (a b c d e f:Value):World:=(((((X.setCell ⟨r,0,none⟩ a).setCell ⟨r,1,none⟩ b).setCell ⟨r,2,none⟩ c).setCell ⟨r,3,none⟩ d).setCell ⟨r,4,none⟩ e).setCell ⟨r,5,none⟩ f
theorem six_row {X:World} {r:Nat} {a' b' c' d' e' f':Value} {t:TypeId} {fr:Nat × Nat} (h:X.heap[r]? = some (.cells #[a',b',c',d',e',f'] t fr)) (a b c d e f:Value):(put6 X r a b c d e f).heap[r]? = some (.cells #[a,b,c,d,e,f] t fr) :=
 row_put (row_put (row_put (row_put (row_put (row_put h 0 a) 1 b) 2 c) 3 d) 4 e) 5 f
theorem six_below {B:Nat} {w X:World} {r:Nat} (h:Below B w X) (hr:B≤r) (a b c d e f:Value):Below B w (put6 X r a b c d e f) :=
 (((((h.setCell (p:=⟨r,0,none⟩) hr a).setCell (p:=⟨r,1,none⟩) hr b).setCell (p:=⟨r,2,none⟩) hr c).setCell (p:=⟨r,3,none⟩) hr d).setCell (p:=⟨r,4,none⟩) hr e).setCell (p:=⟨r,5,none⟩) hr f
theorem six_q {B r:Nat} {X:World} {F C:Value} {q:QQ} {D:List Value} {cs:Array Value} {t:TypeId} {fr:Nat × Nat} (h:IsQ B X F C q D) (hg:X.heap[r]? = some (.cells cs t fr)) (h1:(t:Nat)≠3) (h2:(t:Nat)≠97) (a b c d e f:Value):IsQ B (put6 X r a b c d e f) F C q D :=
 (((((h.stay hg h1 h2 0 a).stay (row_put hg 0 a) h1 h2 1 b).stay (row_put (row_put hg 0 a) 1 b) h1 h2 2 c).stay (row_put (row_put (row_put hg 0 a) 1 b) 2 c) h1 h2 3 d).stay (row_put (row_put (row_put (row_put hg 0 a) 1 b) 2 c) 3 d) h1 h2 4 e).stay (row_put (row_put (row_put (row_put (row_put hg 0 a) 1 b) 2 c) 3 d) 4 e) h1 h2 5 f
theorem six_owns {B r:Nat} {X:World} {ty:TypeId} {s n:Nat} {v:Value} {xs:List Value} {cs:Array Value} {t:TypeId} {fr:Nat × Nat} (h:X.ownsRow B ty s v n xs) (hg:X.heap[r]? = some (.cells cs t fr)) (h1:(t:Nat)≠ty) (a b c d e f:Value):(put6 X r a b c d e f).ownsRow B ty s v n xs :=
 owns_stay (owns_stay (owns_stay (owns_stay (owns_stay (owns_stay h hg h1 0 a) (row_put hg 0 a) h1 1 b) (row_put (row_put hg 0 a) 1 b) h1 2 c) (row_put (row_put (row_put hg 0 a) 1 b) 2 c) h1 3 d) (row_put (row_put (row_put (row_put hg 0 a) 1 b) 2 c) 3 d) h1 4 e) (row_put (row_put (row_put (row_put (row_put hg 0 a) 1 b) 2 c) 3 d) 4 e) h1 5 f
theorem cells_six {X:World} {r:Nat} {a b c d e f:Value} {t:TypeId} (h:X.heap[r]? = some (.cells #[a,b,c,d,e,f] t (0,0))) :
 (X.cell? ⟨r,0,none⟩=some a∧X.cell? ⟨r,1,none⟩=some b∧X.cell? ⟨r,2,none⟩=some c∧X.cell? ⟨r,3,none⟩=some d∧X.cell? ⟨r,4,none⟩=some e∧X.cell? ⟨r,5,none⟩=some f) ∧
 (X.frozen? ⟨r,0,none⟩=false∧X.frozen? ⟨r,1,none⟩=false∧X.frozen? ⟨r,2,none⟩=false∧X.frozen? ⟨r,3,none⟩=false∧X.frozen? ⟨r,4,none⟩=false∧X.frozen? ⟨r,5,none⟩=false) :=
 ⟨⟨(at_cell h 0 _ rfl).1,(at_cell h 1 _ rfl).1,(at_cell h 2 _ rfl).1,(at_cell h 3 _ rfl).1,(at_cell h 4 _ rfl).1,(at_cell h 5 _ rfl).1⟩,⟨(at_cell h 0 _ rfl).2,(at_cell h 1 _ rfl).2,(at_cell h 2 _ rfl).2,(at_cell h 3 _ rfl).2,(at_cell h 4 _ rfl).2,(at_cell h 5 _ rfl).2⟩⟩
theorem cells_three {X:World} {r:Nat} {a b c:Value} {t:TypeId} (h:X.heap[r]? = some (.cells #[a,b,c] t (0,0))) :
 (X.cell? ⟨r,0,none⟩=some a∧X.cell? ⟨r,1,none⟩=some b∧X.cell? ⟨r,2,none⟩=some c)∧(X.frozen? ⟨r,0,none⟩=false∧X.frozen? ⟨r,1,none⟩=false∧X.frozen? ⟨r,2,none⟩=false) :=
 ⟨⟨(at_cell h 0 _ rfl).1,(at_cell h 1 _ rfl).1,(at_cell h 2 _ rfl).1⟩,⟨(at_cell h 0 _ rfl).2,(at_cell h 1 _ rfl).2,(at_cell h 2 _ rfl).2⟩⟩
theorem tqI:(29:Nat)≠3:=by decide
theorem tqC:(29:Nat)≠97:=by decide
theorem tCI:(97:Nat)≠3:=by decide
structure Half (M:Nat) (W:World) (L:List QCh) (D:List Value) (k:Nat) (E:List Value):Prop where
 len:E.length=L.length
 own:∀ (i:Nat) (d:Value) (c:QCh),i < k→E[i]? = some d→L[i]? = some c→OwnI M W d c.ds
 rest:∀ i,k≤i→E[i]? = D[i]?
theorem Half.put {M:Nat} {wr w2:World} {L:List QCh} {D E:List Value} {k g n cap B:Nat} {r:Value} {xs:List Value} (h:Half M wr L D k E) (hb:Below wr.heap.size wr w2) (hx:w2.ownsRow B 97 3 (.slice (some ⟨g,0,none⟩) n cap) n xs) (hM:M≤wr.heap.size) {c:QCh} (hc:L[k]? = some c) (hr:OwnI wr.heap.size w2 r c.ds) (j:Nat):Half M (w2.setCell ⟨g,j,none⟩ r) L D (k+1) (E.set k r):=by
 obtain ⟨cur,fr,hrow⟩:∃ cur fr,w2.heap[g]? = some (.cells cur 97 fr):=by
  rcases hx.2 with ⟨h1,_⟩|⟨g',cap',cur,h1,_,hh,_⟩
  · cases h1
  · cases h1
    exact ⟨cur,_,hh⟩
 have hk:k < E.length:=by rw [h.len]; exact (List.getElem?_eq_some_iff.1 hc).1
 refine ⟨by rw [List.length_set]; exact h.len,fun i d c' hi hd hc'=>?_,fun i hi=>?_⟩
 · by_cases he:i=k
   · subst he
     rw [List.getElem?_set_self hk] at hd
     cases hd
     rw [hc] at hc'
     cases hc'
     exact (hr.base hM).stay hrow tCI j r
   · rw [List.getElem?_set_ne (fun e=>he e.symm)] at hd
     exact ((h.own i d c' (by omega) hd hc').below hb).stay hrow tCI j r
 · rw [List.getElem?_set_ne (by omega)]
   exact h.rest i (by omega)
theorem held_two {w w':World} {a b:Addr} {u v:Value} (h:w.cell? a=some u∧w.cell? b=some v) (hb:Below w.heap.size w w'):w'.cell? a=some u∧w'.cell? b=some v:=⟨kept h.1 hb,kept h.2 hb⟩
theorem held_far {w:World} {g i j a b:Nat} {x u v:Value} (ha:a≠g) (hb:b≠g) (h:w.cell? ⟨a,i,none⟩=some u∧w.cell? ⟨b,j,none⟩=some v) (k:Nat):(w.setCell ⟨g,k,none⟩ x).cell? ⟨a,i,none⟩=some u∧(w.setCell ⟨g,k,none⟩ x).cell? ⟨b,j,none⟩=some v:=by
 refine ⟨?_,?_⟩
 · unfold World.cell?; rw [Below.heap_setCell _ _ _ _ ha]; exact h.1
 · unfold World.cell?; rw [Below.heap_setCell _ _ _ _ hb]; exact h.2
set_option maxHeartbeats 4000000 in
set_option maxRecDepth 100000 in
theorem copied_any (q:QQ) (N:Nat) (F C:Value) (D:List Value) (w:World) (hq:IsQ 0 w F C q D) (hg:GoodQ q N) :
 Calls Tryz.prog 101 #[.agg #[.int .i64 q.base,.int .i64 q.size,F,.int .u16 (q.avail:Nat),.int .u16 (q.last:Nat),C]] w fun e w'=>∃ F' C' E,e=.returned (.agg #[.int .i64 q.base,.int .i64 q.size,F',.int .u16 (q.avail:Nat),.int .u16 (q.last:Nat),C'])∧IsQ w.heap.size w' F' C' q E∧Below w.heap.size w w':=by
 obtain ⟨few1,few2,few3,few4,few5⟩:=hg.few
 have HQ:=Zh hq
 obtain ⟨fa,fn,fc,ca,cn,cc,rfl,rfl,hfn,hcn,_,_,_,_⟩:=hq.shape
 obtain ⟨b,z,fr,av,la,ch⟩:=q
 simp only at *
 have HG:=Zh (show ∀ c∈ch,c.ds.length≤16 from fun c hc=>Nat.le_trans (few5 c hc) few3)
 have HFN:=Zh hfn
 have HCN:=Zh hcn
 have hcn16:cn≤16:=by omega
 obtain ⟨t0,t1⟩:(((w.alloc (.cells #[.int .i64 b,.int .i64 z,(.slice fa fn fc),.int .u16 (av:Nat),.int .u16 (la:Nat),(.slice ca cn cc)] 29)).alloc (.cells #[.int .i64 0,.int .i64 0,.slice none 0 0,.int .u16 0,.int .u16 0,.slice none 0 0] 29)).heap[w.heap.size]? = some (.cells #[.int .i64 b,.int .i64 z,(.slice fa fn fc),.int .u16 (av:Nat),.int .u16 (la:Nat),(.slice ca cn cc)] 29 (0,0)))∧(((w.alloc (.cells #[.int .i64 b,.int .i64 z,(.slice fa fn fc),.int .u16 (av:Nat),.int .u16 (la:Nat),(.slice ca cn cc)] 29)).alloc (.cells #[.int .i64 0,.int .i64 0,.slice none 0 0,.int .u16 0,.int .u16 0,.slice none 0 0] 29)).heap[w.heap.size+1]? = some (.cells #[.int .i64 0,.int .i64 0,.slice none 0 0,.int .u16 0,.int .u16 0,.slice none 0 0] 29 (0,0))) :=
  ⟨row_new (heap_alloc_new w _) _,by simpa using heap_alloc_new (w.alloc (.cells #[.int .i64 b,.int .i64 z,(.slice fa fn fc),.int .u16 (av:Nat),.int .u16 (la:Nat),(.slice ca cn cc)] 29)) (.cells #[.int .i64 0,.int .i64 0,.slice none 0 0,.int .u16 0,.int .u16 0,.slice none 0 0] 29)⟩
 have HB0:=Zh (((Below.refl w.heap.size w).alloc (Nat.le_refl _) (.cells #[.int .i64 b,.int .i64 z,(.slice fa fn fc),.int .u16 (av:Nat),.int .u16 (la:Nat),(.slice ca cn cc)] 29)).alloc (by simp) (.cells #[.int .i64 0,.int .i64 0,.slice none 0 0,.int .u16 0,.int .u16 0,.slice none 0 0] 29))
 have HP:=Zh t0
 have HR:=Zh t1
 have hs0:((w.alloc (.cells #[.int .i64 b,.int .i64 z,(.slice fa fn fc),.int .u16 (av:Nat),.int .u16 (la:Nat),(.slice ca cn cc)] 29)).alloc (.cells #[.int .i64 0,.int .i64 0,.slice none 0 0,.int .u16 0,.int .u16 0,.slice none 0 0] 29)).heap.size=w.heap.size+2:=by simp
 have HS0:=Zh hs0
 have HFL:=Zh (show fr.length≤1000 by omega)
 have HCL:=Zh (show ch.length≤1000 by omega)
 clear hq hg few1 few2 few3 few4 few5 t0 t1 hs0 hfn hcn
 go_enter Tryz.func101,Tryz.ntmps101
 go_wp2_with fail
 refine (cloneI_any _ _ _ (HQ.out.free.below HB0.out) HFL.out).mono ?_
 rintro e w1 ⟨F',rfl,hF,hb⟩
 replace HP:=Zk HP hb
 replace HR:=Zk HR hb
 replace HB0:=Zb HB0 hb
 have HF:=Zh (hF.base (B':=w.heap.size) (by rw [HS0.out]; omega))
 have HFB:=Zh (show ∀ p,F'.ownBlock=some p→p < w1.heap.size from fun p hp=>(hF.lt p hp).2)
 obtain ⟨fa',fc',rfl,hfs,hfm⟩:=hF.shape
 have hlt1:w.heap.size < w1.heap.size:=by have:=hb.size; rw [HS0.out] at this; omega
 have hlt2:w.heap.size+1 < w1.heap.size:=by have:=hb.size; rw [HS0.out] at this; omega
 obtain ⟨c2,z2⟩:=at_cell HP.out 2 _ rfl
 have HP2:=Zh (row_put HP.out 2 (.slice fa' fr.length fc'))
 have HR2:=Zh (one_other HR.out ⟨w.heap.size,2,none⟩ (.slice fa' fr.length fc') (by simp))
 have HF2:=Zh (HF.out.stay HP.out tqI 2 (.slice fa' fr.length fc'))
 have HB2:=Zh (HB0.out.setCell (p:=⟨w.heap.size,2,none⟩) (Nat.le_refl _) (.slice fa' fr.length fc'))
 have HSS:=Zh (show (w1.setCell ⟨w.heap.size,2,none⟩ (.slice fa' fr.length fc')).heap.size=w1.heap.size from set_size _ _ _)
 obtain ⟨c5,z5⟩:=at_cell HP2.out 5 _ rfl
 clear hb hF hfs hfm HP HR HF HB0
 go_wp2_with fail
 refine (cloneC_any _ _ D _ (HQ.out.chains.below HB2.out) HCL.out).mono ?_
 rintro e w2 ⟨C',rfl,hC,hb⟩
 replace HP2:=Zk HP2 hb
 replace HR2:=Zk HR2 hb
 replace HF2:=Zh (HF2.out.below hb)
 replace HB2:=Zb HB2 hb
 obtain ⟨ca',cc',rfl,hcs,hcm⟩:=owns_slice hC
 rw [←HCN.out] at hC hcs ⊢
 have hs2:w1.heap.size≤w2.heap.size:=by have:=hb.size; rw [HSS.out] at this; exact this
 have HM:=Zh hs2
 have hltA:w.heap.size < w2.heap.size:=by omega
 have hltB:w.heap.size+1 < w2.heap.size:=by omega
 have HCB:=Zh (show ∀ p,(Value.slice ca' cn cc').ownBlock=some p→w1.heap.size≤p∧p < w2.heap.size from fun p hp=>by
  have h:=hC.lt p hp
  rw [HSS.out] at h
  exact h)
 have HCO:=Zh (ownsRow_base (base':=w.heap.size) hC (by rw [HSS.out]; omega))
 clear c2 z2 c5 z5
 obtain ⟨c5,z5⟩:=at_cell HP2.out 5 _ rfl
 have HP3:=Zh (row_put HP2.out 5 (.slice ca' cn cc'))
 have HR3:=Zh (one_other HR2.out ⟨w.heap.size,5,none⟩ (.slice ca' cn cc') (by simp))
 have HF3:=Zh (HF2.out.stay HP2.out tqI 5 (.slice ca' cn cc'))
 have HC3:=Zh (owns_stay HCO.out HP2.out tqC 5 (.slice ca' cn cc'))
 have HB3:=Zh (HB2.out.setCell (p:=⟨w.heap.size,5,none⟩) (Nat.le_refl _) (.slice ca' cn cc'))
 obtain ⟨X3,hX3⟩:∃ X,X=w2.setCell ⟨w.heap.size,5,none⟩ (.slice ca' cn cc'):=⟨_,rfl⟩
 have hs3:X3.heap.size=w2.heap.size:=by rw [hX3]; exact set_size _ _ _
 rw [←hX3] at HP3 HR3 HF3 HC3 HB3
 have HX3:=Zh hX3
 have HS3:=Zh hs3
 clear hb hC hcs hcm HP2 HR2 HF2 HB2 HCO hs3 hX3
 go_wp2_with fail
 rw [←HX3.out]
 have HD0:=Zh (show Half w1.heap.size X3 ch D 0 D from ⟨HQ.out.chains.len,fun i d c hi=>by omega,fun i _=>rfl⟩)
 obtain ⟨d5,y5⟩:=at_cell HP3.out 5 _ rfl
 go_wp2
 clear d5 y5
 go_loopw [16] (fun i wr=>∃ k:Nat,k≤cn∧i=.int .i64 k∧(∃ E,wr.ownsRow w.heap.size 97 3 (.slice ca' cn cc') cn (chCells ch E)∧Half w1.heap.size wr ch D k E)∧OwnI w.heap.size wr (.slice fa' fr.length fc') fr∧wr.heap[w.heap.size]? = some (.cells #[.int .i64 b,.int .i64 z,(.slice fa' fr.length fc'),.int .u16 (av:Nat),.int .u16 (la:Nat),(.slice ca' cn cc')] 29 (0,0))∧wr.heap[w.heap.size+1]? = some (.cells #[.int .i64 0,.int .i64 0,.slice none 0 0,.int .u16 0,.int .u16 0,.slice none 0 0] 29 (0,0))∧w2.heap.size≤wr.heap.size∧Below w.heap.size w wr) (fun i _=>cn - (intOf i).toNat)
 case atStart=>exact ⟨0,Nat.zero_le _,rfl,⟨_,HC3.out,HD0.out⟩,HF3.out,HP3.out,HR3.out,by rw [HS3.out]; exact Nat.le_refl _,HB3.out⟩
 case round =>
  obtain ⟨k,hk,rfl,⟨E,hE,hH⟩,hF,hP,hR,hsz,hbw⟩:=hrel
  have HE:=Zh hE
  have HH:=Zh hH
  have HFw:=Zh hF
  have HPw:=Zh hP
  have HRw:=Zh hR
  have HBw:=Zh hbw
  clear hE hH hF hP hR hbw
  by_cases hlt:k < cn
  · obtain ⟨g,cap,cur,hv,hgb,hh,hnc,hcm2⟩:=owns_shape HE.out (by omega)
    cases hv
    obtain ⟨c,hc⟩:∃ c,ch[k]? = some c:=⟨ch[k]'(by rw [←HCN.out]; exact hlt),List.getElem?_eq_getElem _⟩
    obtain ⟨d,hd⟩:∃ d,E[k]? = some d:=⟨E[k]'(by rw [HH.out.len,←HCN.out]; exact hlt),List.getElem?_eq_getElem _⟩
    obtain ⟨e1,e2,e3⟩:=chCells_at k c d hc hd
    have hdD:D[k]? = some d:=by rw [←HH.out.rest k (Nat.le_refl _)]; exact hd
    have hdo:=(HQ.out.chains.below HBw.out).ds k d c hdD hc
    obtain ⟨da,dc,rfl,hds,hdm⟩:=hdo.shape
    obtain ⟨ch0,cds,crm⟩:=c
    simp only at e1 e2 e3 hdo hds
    have HDO:=Zh hdo
    have HDL:=Zh (show cds.length≤1000 by
     have:=HG.out _ (List.mem_of_getElem? hc)
     simp only at this
     omega)
    have HCK:=Zh hc
    have hg0:wr.cell? ⟨g,k * 3,none⟩=some (.int .i64 ch0):=by rw [HE.out.cellAt (k * 3) (by omega)]; exact e1
    have hg1:wr.cell? ⟨g,k * 3+1,none⟩=some (.slice da cds.length dc):=by rw [HE.out.cellAt (k * 3+1) (by omega)]; exact e2
    have hg2:wr.cell? ⟨g,k * 3+2,none⟩=some (.int .i64 crm):=by rw [HE.out.cellAt (k * 3+2) (by omega)]; exact e3
    have HBX:=Zh ((Below.refl wr.heap.size wr).alloc (Nat.le_refl _) (.cells #[.int .i64 ch0,.slice da cds.length dc,.int .i64 crm] 97))
    have HBC:=Zh (heap_alloc_new wr (.cells #[.int .i64 ch0,.slice da cds.length dc,.int .i64 crm] 97))
    obtain ⟨b5,_⟩:=at_cell (row_keep HPw.out HBX.out) 5 _ rfl
    obtain ⟨b1,_⟩:=at_cell HBC.out 1 _ rfl
    have hgk:=kept hg1 HBX.out
    have hlen:0≤(k:Int)∧(k:Int) < (cn:Int):=by omega
    obtain ⟨hl0,hl1⟩:=hlen
    have hgw:g < wr.heap.size:=(HE.out.lt g rfl).2
    have hne1:w.heap.size≠g:=fun e=>by
     have:=HPw.out
     rw [e,hh] at this
     injection this with this
     injection this with _ this _
     exact absurd this (by decide)
    have hne2:wr.heap.size≠g:=by omega
    have hne3:g≠w.heap.size+1:=fun e=>by
     have:=HRw.out
     rw [←e,hh] at this
     injection this with this
     injection this with _ this _
     exact absurd this (by decide)
    clear hh hd hdD hdo hds hdm e1 e2 e3 hc
    go_wp2_with fail
    go_region_held3 (fun w'=>w'.cell? ⟨w.heap.size,5,none⟩=some (.slice (some ⟨g,0,none⟩) cn cc')∧w'.cell? ⟨wr.heap.size,1,none⟩=some (.slice da cds.length dc)) (first|(with_reducible exact held_two (by assumption) hb)|(with_reducible exact held_far hne1 hne2 (by assumption) _)|go_keep) (first
     | (go_at_call 61; refine (cloneI_any _ _ _ (HDO.out.below (by first|exact HBX.out|exact HBX.out.drew)) HDL.out).mono ?_; rintro e w4 ⟨r,rfl,hr,hb⟩; obtain ⟨ra,rc,rfl,hrn,_⟩:=hr.shape; clear hrn; have HR4:=Zh hr; clear hr; have hw1:=kept (w:=(wr.alloc (.cells #[.int .i64 ch0,.slice da cds.length dc,.int .i64 crm] 97)).drew) hgk hb; have hw3:=(ownsRow_below HE.out (HBX.out.drew.trans (hb.mono HBX.out.drew.size))).frozenAt (k * 3+1)))
    have HB4:=Zh (HBX.out.drew.trans (hb.mono HBX.out.drew.size))
    have HE4:=Zh (ownsRow_below HE.out HB4.out)
    have HS4:=Zh HB4.out.size
    have HR5:=Zh (HR4.out.base HBX.out.drew.size)
    obtain ⟨_,_,cur4,hv4,_,hh4,_⟩:=owns_shape HE4.out (by omega)
    cases hv4
    have HH4:=Zh hh4
    clear hw1 hw3 hb hgk hg0 hg1 hg2 b5 b1 HR4 hh4
    go_wp2
    go_roundw
    case rel =>
     refine ⟨k+1,by omega,by go_num,⟨E.set k (.slice ra cds.length rc),?_,HH.out.put HB4.out HE4.out (by have:=HM.out; omega) HCK.out HR5.out _⟩,(HFw.out.below HB4.out).stay HH4.out tCI _ _,one_other (row_keep HPw.out HB4.out) _ _ (fun e=>hne1 e.symm),one_other (row_keep HRw.out HB4.out) _ _ hne3,?_,?_⟩
     · rw [←chCells_set HH.out.len]
       exact (HE4.out.stored (k * 3+1) _).1
     · rw [set_size]
       have:=HS4.out
       omega
     · exact (HBw.out.trans (HB4.out.mono HBw.out.size)).setCell (p:=⟨g,k * 3+1,none⟩) hgb _
    case measure=>simp [intOf]; omega
  · obtain rfl:k=cn:=by omega
    obtain ⟨⟨l0,l1,l2,l3,l4,l5⟩,_⟩:=cells_six HPw.out
    obtain ⟨⟨r0,r1,r2,r3,r4,r5⟩,z0,z1,z2,z3,z4,z5⟩:=cells_six HRw.out
    have hltr:w.heap.size+1 < wr.heap.size:=by omega
    have HQE:=Zh (show IsQ w.heap.size wr (.slice fa' fr.length fc') (.slice ca' k cc') ⟨b,z,fr,av,la,ch⟩ E from
     ⟨HFw.out,⟨HH.out.len,by have h:=HE.out; rw [HCN.out] at h ⊢; exact h,fun i d c hd hc=>(HH.out.own i d c (by rw [HCN.out]; exact (List.getElem?_eq_some_iff.1 hc).1) hd hc).base (by have:=hlt1; omega)⟩,fun i d p hd hp hF=>by
      have hi:i < ch.length:=by rw [←HH.out.len]; exact (List.getElem?_eq_some_iff.1 hd).1
      have h1:=(HH.out.own i d _ (by rw [HCN.out]; exact hi) hd (List.getElem?_eq_getElem hi)).lt p hp
      have h2:=HFB.out p hF
      omega⟩)
    clear HE HH
    go_wp2
    refine bodyPost_ret (v:=.agg #[.int .i64 b,.int .i64 z,(.slice fa' fr.length fc'),.int .u16 (av:Nat),.int .u16 (la:Nat),(.slice ca' k cc')]) (by simp [results,Tryz.results101,go_sem,r0,r1,r2,r3,r4,r5]) rfl ⟨_,_,E,rfl,?_,?_⟩
    · exact six_q HQE.out HRw.out tqI tqC _ _ _ _ _ _
    · exact six_below HBw.out (by omega) _ _ _ _ _ _
theorem flat_take {L:List QCh} {k:Nat} {c:QCh} (h:L[k]? = some c):flat (L.take (k+1))=flat (L.take k)++c.ds:=by
 obtain ⟨hk,hc⟩:=List.getElem?_eq_some_iff.1 h
 rw [List.take_succ_eq_append_getElem hk,flat_append,hc]
 simp [flat]
theorem ints_one (l:List Int):∀ u∈l.map (Value.int .i64),u.oneCell'=true:=by
 intro u hu
 obtain ⟨z,_,rfl⟩:=List.mem_map.1 hu
 rfl
set_option maxHeartbeats 4000000 in
set_option maxRecDepth 100000 in
theorem queCheck_any (q:QQ) (N:Nat) (F C:Value) (D:List Value) (w:World) (hq:IsQ 0 w F C q D) (hg:GoodQ q N) :
 Calls Tryz.prog 36 #[.agg #[.int .i64 q.base,.int .i64 q.size,F,.int .u16 (q.avail:Nat),.int .u16 (q.last:Nat),C]] w fun e w'=>e=.returned (.bool true)∧Below w.heap.size w w':=by
 obtain ⟨few1,few2,few3,few4,few5⟩:=hg.few
 have HQ:=Zh hq
 have HG:=Zh hg
 obtain ⟨fa,fn,fc,ca,cn,cc,rfl,rfl,hfn,hcn,_,_,hcn2,hcm⟩:=hq.shape
 obtain ⟨b,z,fr,av,la,ch⟩:=q
 have hzN:=hg.size
 have hb0:=hg.base
 simp only at *
 subst hzN
 obtain ⟨i0,hi,hz0,hz1,hz2⟩:=info_parts infoI
 have hsz:=sizeN_le N
 obtain ⟨sz,hs⟩:∃ s:Nat,s=sizeN N:=⟨_,rfl⟩
 have HSZ:=Zh (show sizeZ (N:Nat)=(sz:Nat) by rw [sizeZ_of hg.right,hs])
 have hd:(((sz:Nat):Int) == 0)=false:=by rw [beq_eq_false_iff_ne]; omega
 have hd0:(sz == 0)=false:=by rw [beq_eq_false_iff_ne]; omega
 have hd1:decide (b < 0)=false:=decide_eq_false (by omega)
 have HFN:=Zh hfn
 have HCN:=Zh hcn
 have hcn16:cn≤16:=by omega
 have HB0:=Zh ((Below.refl w.heap.size w).alloc (Nat.le_refl _) (.cells #[.int .i64 b,.int .i64 (N:Nat),(.slice fa fn fc),.int .u16 (av:Nat),.int .u16 (la:Nat),(.slice ca cn cc)] 29))
 have HP:=Zh (heap_alloc_new w (.cells #[.int .i64 b,.int .i64 (N:Nat),(.slice fa fn fc),.int .u16 (av:Nat),.int .u16 (la:Nat),(.slice ca cn cc)] 29))
 have HFL:=Zh (show fr.length≤1000 by omega)
 have HN16:=Zh few3
 have HS0:=Zh (show (w.alloc (.cells #[.int .i64 b,.int .i64 (N:Nat),(.slice fa fn fc),.int .u16 (av:Nat),.int .u16 (la:Nat),(.slice ca cn cc)] 29)).heap.size=w.heap.size+1 by simp)
 clear hq hg few1 few2 few3 few4 few5 hfn hcn hs hsz hb0
 go_enter Tryz.func36,Tryz.ntmps36
 go_wp2_with fail
 refine (size_any _ _ HSZ.out _).mono ?_
 rintro e w1 ⟨rfl,hb⟩
 replace HP:=Zk HP hb
 replace HB0:=Zb HB0 hb
 have HS1:=Zh (show w.heap.size+1≤w1.heap.size by have:=hb.size; rw [HS0.out] at this; exact this)
 obtain ⟨⟨l0,l1,l2,l3,l4,l5⟩,_⟩:=cells_six HP.out
 clear hb
 go_wp2_with fail
 refine (isSorted_any _ _ _ (HQ.out.free.below HB0.out) HFL.out HG.out.sorted).mono ?_
 rintro e w2 ⟨rfl,hb⟩
 replace HP:=Zk HP hb
 replace HB0:=Zb HB0 hb
 replace HS1:=Zh (Nat.le_trans HS1.out hb.size)
 clear hb l0 l1 l2 l3 l4 l5 hd hd0 hd1
 obtain ⟨⟨l0,l1,l2,l3,l4,l5⟩,_⟩:=cells_six HP.out
 go_wp2_with fail
 refine (cloneI_any _ _ _ (HQ.out.free.below HB0.out) HFL.out).mono ?_
 rintro e w3 ⟨r,rfl,hr,hb⟩
 replace HP:=Zk HP hb
 replace HB0:=Zb HB0 hb
 have HR:=Zh (hr.base HS1.out)
 replace HS1:=Zh (Nat.le_trans HS1.out hb.size)
 clear hb hr l0 l1 l2 l3 l4 l5
 obtain ⟨⟨l0,l1,l2,l3,l4,l5⟩,_⟩:=cells_six HP.out
 obtain ⟨ra,rc,rfl,p1,p2⟩:=HR.out.shape
 clear p1 p2
 go_wp2
 clear l0 l1 l2 l3 l4 l5
 go_loopw [3,27] (fun v i wr=>∃ (k:Nat) (va:Option Addr) (vn vc:Nat),k≤cn∧i=.int .i64 k∧v=.slice va vn vc∧OwnI (w.heap.size+1) wr (.slice va vn vc) (fr++flat (ch.take k))∧wr.heap[w.heap.size]? = some (.cells #[.int .i64 b,.int .i64 (N:Nat),(.slice fa fn fc),.int .u16 (av:Nat),.int .u16 (la:Nat),(.slice ca cn cc)] 29 (0,0))∧w.heap.size+1≤wr.heap.size∧Below w.heap.size w wr) (fun _ i _=>cn - (intOf i).toNat)
 case atStart=>exact ⟨0,_,_,_,Nat.zero_le _,rfl,rfl,by simpa [flat] using HR.out,HP.out,HS1.out,HB0.out⟩
 case round =>
  obtain ⟨k,va,vn,vc,hk,rfl,rfl,hO,hP,hsz,hbw⟩:=hrel
  have HO:=Zh hO
  have HPw:=Zh hP
  have HBw:=Zh hbw
  have HSz:=Zh hsz
  clear hO hP hbw hsz
  by_cases hlt:k < cn
  · obtain ⟨g,cur,rfl,p1,p2,hh,p3,p4,p5⟩:=(HQ.out.chains.below HBw.out).lie (by rw [←HCN.out]; exact Nat.lt_of_le_of_lt (Nat.zero_le _) hlt)
    clear p1 p2 p3 p4 p5
    obtain ⟨c,d,hc,hdd,g0,g1,g2,hdo⟩:=(HQ.out.chains.below HBw.out).at k (by rw [←HCN.out]; exact hlt)
    obtain ⟨da,dc,rfl,hds,hdm⟩:=hdo.shape
    obtain ⟨k1,k2,k3,k4⟩:=HG.out.chain c (List.mem_of_getElem? hc)
    have HK1:=Zh k1
    have HK2:=Zh k2
    have HK3:=Zh k3
    have HK4:=Zh k4
    have HDO:=Zh hdo
    have HCK:=Zh hc
    have HDL:=Zh (show c.ds.length≤16 from Nat.le_trans (HG.out.few.2.2.2.2 c (List.mem_of_getElem? hc)) HN16.out)
    obtain ⟨ch0,cds,crm⟩:=c
    simp only at *
    have HBX:=Zh ((Below.refl wr.heap.size wr).alloc (Nat.le_refl _) (.cells #[.int .i64 ch0,.slice da cds.length dc,.int .i64 crm] 97))
    have HBC:=Zh (heap_alloc_new wr (.cells #[.int .i64 ch0,.slice da cds.length dc,.int .i64 crm] 97))
    obtain ⟨⟨b0,b1,b2⟩,_⟩:=cells_three HBC.out
    have hlen:0≤(k:Int)∧(k:Int) < (cn:Int):=by omega
    obtain ⟨hl0,hl1⟩:=hlen
    clear hh hdd hdo hds hdm hc k1 k2 k3 k4
    go_wp2_with fail
    refine (chainChecks_in _ ⟨ch0,cds,crm⟩ _ (HDO.out.below HBX.out) HK1.out HK2.out HK3.out HK4.out).mono ?_
    rintro e w4 ⟨rfl,hb⟩
    have HB4:=Zh (HBX.out.trans (hb.mono HBX.out.size))
    have HD4:=Zh (held_of_owns (HDO.out.below HB4.out))
    have HO4:=Zh (HO.out.below HB4.out)
    have HC4:=Zh (row_keep HBC.out hb)
    have HTT:=Zh (show (fr++flat (ch.take k)).length≤1000∧w.heap.size+1≤w4.heap.size by
     refine ⟨?_,Nat.le_trans HSz.out HB4.out.size⟩
     have h1:=HG.out.sum
     simp only at h1
     have h2:(flat (ch.take k)).length≤(flat ch).length:=by
      have h3:flat ch=flat (ch.take k)++flat (ch.drop k):=by rw [←flat_append,List.take_append_drop]
      rw [h3,List.length_append]; omega
     have h4:=HN16.out
     rw [List.length_append]
     omega)
    clear hb b0 b1 b2 g0 g1 g2
    obtain ⟨⟨b0,b1,b2⟩,_⟩:=cells_three HC4.out
    go_wp2_with (at_builtin; refine wpList_append_held _ rfl _ _ 25 rfl (w.heap.size+1) 3 i0 (.int .i64 0) 1 8 Tryz.underlying25 hi hz0 hz1 hz2 rfl (by decide) _ _ _ rfl HO4.out _ _ _ rfl HD4.out (by simp) (ints_one _) (by have:=HTT.out.1; have:=HDL.out; unfold maxLen; omega) (by have:=HTT.out.1; have:=HDL.out; omega) HTT.out.2 ?_; intro v' w5 hown5 hgrow5; obtain ⟨n5,hn5⟩:∃ n,n=(fr++flat (ch.take k)).length+cds.length:=⟨_,rfl⟩; rw [←hn5] at hown5; have HN5:=Zh hn5; clear hn5; obtain ⟨va5,vc5,rfl,q1,q2⟩:=owns_slice hown5; clear q1 q2)
    go_roundw
    case rel =>
     have hb5:Below (w.heap.size+1) w4 w5:=(Below.refl _ _).grown hgrow5 HTT.out.2 (fun j hj=>(HO4.out.lt j hj).1)
     refine ⟨k+1,_,_,_,by omega,by go_num,rfl,?_,?_,Nat.le_trans HTT.out.2 hgrow5.size,HBw.out.trans ((HB4.out.mono HBw.out.size).trans (hb5.mono (by omega)))⟩
     · rw [flat_take HCK.out,←List.append_assoc]
       unfold OwnI
       rw [List.map_append,List.length_append,←HN5.out]
       exact hown5
     · exact (hb5.block _ (by omega)).trans (row_keep HPw.out HB4.out)
    case measure=>simp [intOf]; omega
  · obtain rfl:k=cn:=by omega
    have HO2:=Zh (show OwnI (w.heap.size+1) wr (.slice va vn vc) (fr++flat ch) by
     have h:=HO.out
     rw [List.take_of_length_le (by rw [←HCN.out]; exact Nat.le_refl _)] at h
     exact h)
    have hne:fr++flat ch≠[]:=by
     intro e0
     have h1:=HG.out.sum
     have h2:=HG.out.few.2.2.2.1
     have h3:(fr++flat ch).length=0:=by rw [e0]; rfl
     rw [List.length_append] at h3
     simp only at h1
     omega
    have hll:(fr++flat ch).length≤1000:=by
     have h1:=HG.out.sum
     have h4:=HN16.out
     simp only at h1
     rw [List.length_append]
     omega
    obtain ⟨g,cur,rfl,hgb,hgl,hgr,p3,p4,p5⟩:=HO2.out.lie hne
    have HLL:=Zh hll
    have HGB:=Zh hgb
    have HSE:=Zh (sort_eq HG.out.perm (upN_sorted N))
    clear hne hll hgb hgl hgr HO p3 p4 p5
    go_wp2_with fail
    refine (sort_any _ _ _ _ _ HO2.out HLL.out).mono ?_
    rintro e w4 ⟨rfl,hO4,hT⟩
    have hO4:=(show (fr++flat ch).mergeSort (fun x y=>decide (x≤y))=upN N from HSE.out) ▸ hO4
    have HO4:=Zh hO4
    have hB4:=hT.below (w.heap.size+1) HGB.out HSz.out
    have HB4:=Zh (HBw.out.trans (hB4.mono (by omega)))
    have HP4:=Zh ((hB4.block w.heap.size (by omega)).trans HPw.out)
    obtain ⟨⟨l0,l1,l2,l3,l4,l5⟩,_⟩:=cells_six HP4.out
    clear hO4 hT hB4
    go_wp2_with fail
    refine (upTo_any N (by have:=HN16.out; omega) _).mono ?_
    rintro e w5 ⟨r5,rfl,hr5,hb5⟩
    have HR5:=Zh hr5
    have HB5:=Zh (HB4.out.trans (hb5.mono HB4.out.size))
    have HO5:=Zh (HO4.out.below hb5)
    clear hr5 hb5 l0 l1 l2 l3 l4 l5
    go_wp2_with fail
    refine (equalI_any _ _ _ _ HO5.out HR5.out (by rw [upN_length]; have:=HN16.out; omega)).mono ?_
    rintro e w6 ⟨rfl,hb6⟩
    have HB6:=Zh (HB5.out.trans (hb6.mono HB5.out.size))
    clear hb6
    go_wp2
    go_ret
    exact ⟨rfl,HB6.out⟩
theorem tmU:(24:Nat)≠5:=by decide
theorem run_zerosK (k:Nat) (hk:k≤8192) (W:World):(Instr.makeSlice 22 (.int .i64 (k:Nat)) (.int .i64 (k:Nat))).run Tryz.prog W=.ok (.slice (some ⟨W.heap.size,0,none⟩) k k) (W.alloc (.cells (madeCells #[.int .u8 0] k) 5)):=by
 have h:=run_make_row' (P:=Tryz.prog) 22 5 (.int .u8 0) 1 Tryz.underlying22 info8 rfl .i64 .i64 k (by omega) (by omega) W
 exact h
def OwnB (B:Nat) (W:World) (v:Value) (l:List UInt8):Prop:=W.ownsRow B 5 1 v l.length (byteCells l)
theorem zerosK_own (w:World) (k:Nat) (hk:k≤8192):OwnB 0 (w.alloc (.cells (madeCells #[.int .u8 0] k) 5)) (.slice (some ⟨w.heap.size,0,none⟩) k k) (List.replicate k 0):=by
 have h:=World.ownsRow_lit (base:=0) (e:=5) (size:=1) w (madeCells #[.int .u8 0] k) k (Nat.zero_le _) (by unfold maxLen; omega) (by simp [madeCells])
 have h1:(madeCells #[.int .u8 0] k).toList=byteCells (List.replicate k 0):=by rw [made_zeros,zeros_bytes]
 rw [h1] at h
 unfold OwnB
 rw [List.length_replicate]
 exact h
theorem OwnB.below {B:Nat} {w w':World} {v:Value} {l:List UInt8} (h:OwnB B w v l) (hb:Below w.heap.size w w'):OwnB B w' v l:=ownsRow_below h hb
theorem OwnB.base {B B':Nat} {w:World} {v:Value} {l:List UInt8} (h:OwnB B w v l) (hb:B'≤B):OwnB B' w v l:=ownsRow_base h hb
theorem OwnB.arg {B:Nat} {w:World} {v:Value} {l:List UInt8} (h:OwnB B w v l):IsArg w v l:=isArg_of_owns h
theorem OwnB.stay {B g:Nat} {w:World} {v:Value} {l:List UInt8} {cs:Array Value} {t:TypeId} {fr:Nat × Nat} (h:OwnB B w v l) (hg:w.heap[g]? = some (.cells cs t fr)) (hne:(t:Nat)≠5) (j:Nat) (u:Value):OwnB B (w.setCell ⟨g,j,none⟩ u) v l:=owns_stay h hg hne j u
theorem OwnB.shape {B:Nat} {w:World} {v:Value} {l:List UInt8} (h:OwnB B w v l):∃ a c,v=.slice a l.length c∧l.length≤c∧c≤maxLen:=owns_slice h
def zeroM (l:List UInt8) (B N:Nat):List UInt8:=l.take B++List.replicate (sizeN N) 0++l.drop (B+sizeN N)
theorem zeroM_put {l:List UInt8} {B N:Nat} (h:RingOk l.length B N):faultOf l.length (B:Nat) ((List.replicate (sizeN N) (0:UInt8)).length:Nat)=0∧putOf l (B:Nat) (List.replicate (sizeN N) 0)=zeroM l B N:=by
 have h1:=h.fits
 have h2:=h.few
 have e:faultOf l.length (B:Nat) ((List.replicate (sizeN N) (0:UInt8)).length:Nat)=0:=by
  rw [List.length_replicate]
  exact fault_of h2 (by omega) (by omega) (by omega) (by omega)
 refine ⟨e,?_⟩
 rw [putOf_some e,zeroM,Int.toNat_natCast,List.length_replicate]
theorem zeroM_length {l:List UInt8} {B N:Nat} (h:RingOk l.length B N):(zeroM l B N).length=l.length:=by
 have h1:=h.fits
 simp [zeroM]
 omega
theorem three_boxes (w:World) (cs ds es:Array Value) (s t q:TypeId):(((w.alloc (.cells cs s)).alloc (.cells ds t)).alloc (.cells es q)).heap[w.heap.size]? = some (.cells cs s (0,0))∧(((w.alloc (.cells cs s)).alloc (.cells ds t)).alloc (.cells es q)).heap[w.heap.size+1]? = some (.cells ds t (0,0))∧(((w.alloc (.cells cs s)).alloc (.cells ds t)).alloc (.cells es q)).heap[w.heap.size+2]? = some (.cells es q (0,0))∧Below w.heap.size w (((w.alloc (.cells cs s)).alloc (.cells ds t)).alloc (.cells es q)):=by
 refine ⟨row_new (row_new (heap_alloc_new w _) _) _,row_new (by simpa using heap_alloc_new (w.alloc (.cells cs s)) (.cells ds t)) _,by simpa using heap_alloc_new ((w.alloc (.cells cs s)).alloc (.cells ds t)) (.cells es q),(((Below.refl _ _).alloc (Nat.le_refl _) _).alloc (by simp) _).alloc (by simp; omega) _⟩
structure QueNewA where
 (b0 b1 b2 b3 b4 b5 b6 b7 b8 b9:Bool)
 (s18 s19 s20 s21 s22 s23 s17 s24 s25:Value)
structure QueNewB where
 (b0 b1 b2 b3 b4 b5 b6 b7 b8:Bool)
 (s26 s27 s28 s29 s30 s31 s8:Value)
set_option maxHeartbeats 4000000 in
set_option maxRecDepth 100000 in
theorem queNew_any (v:Value) (l:List UInt8) (B N:Nat) (w:World) (hv:OwnB 0 w v l) (hok:RingOk l.length B N) :
 Calls Tryz.prog 16 #[.agg #[v],.int .i64 (B:Nat),.int .i64 (N:Nat)] w fun e w'=>∃ ra rc F C,e=.returned (.tuple #[.agg #[.slice ra l.length rc],.agg #[.int .i64 (B:Nat),.int .i64 (N:Nat),F,.int .u16 (0:Nat),.int .u16 (0:Nat),C],.int .i64 0])∧OwnB w.heap.size w' (.slice ra l.length rc) (zeroM l B N)∧IsQ w.heap.size w' F C (newQ B N) []∧Below w.heap.size w w':=by
 have hl:=zeroM_length hok
 obtain ⟨z1,z2⟩:=zeroM_put hok
 obtain ⟨l2,hl2⟩:∃ l2,l2=zeroM l B N:=⟨_,rfl⟩
 rw [←hl2] at hl z2 ⊢
 obtain ⟨va,vc,rfl,hv1,hv2⟩:=hv.shape
 obtain ⟨L,hL⟩:∃ L,L=l.length:=⟨_,rfl⟩
 have hszle:=sizeN_le N
 have hN:=hok.right.le
 obtain ⟨sz,hsz⟩:∃ s,s=sizeN N:=⟨_,rfl⟩
 have HSB:=Zh (show sz≤8192 by omega)
 have HSI:=Zh (show ∀ W,Calls Tryz.prog 42 #[.int .i64 (N:Nat)] W fun e w'=>e=.returned (.int .i64 (sz:Nat))∧Below W.heap.size W w' from fun W=>size_any _ _ (by rw [sizeZ_of hok.right,hsz]) W)
 have HUP:=Zh (show ∀ W,Calls Tryz.prog 43 #[.int .i64 (N:Nat)] W fun e w'=>∃ r,e=.returned r∧OwnI W.heap.size w' r (upN N)∧Below W.heap.size W w' from fun W=>upTo_any N (by omega) W)
 rw [←hL] at hv hl ⊢
 rw [←hsz] at z1 z2
 have HPU:=Zh (show ∀ W,Below w.heap.size w W→OwnB 0 W (.slice va L vc) l→∀ u,OwnB 0 W u (List.replicate sz 0)→Calls Tryz.prog 41 #[.agg #[.slice va L vc],.int .i64 (B:Nat),u] W fun e w'=>∃ ra rc,e=.returned (.tuple #[.agg #[.slice ra L rc],.int .i64 0])∧OwnB w.heap.size w' (.slice ra L rc) l2∧Below W.heap.size W w' from fun W hb ho u hu =>
  (put_any _ l u (List.replicate sz 0) W ho.arg hu.arg (B:Nat) (by have:=hok.few; omega) (by rw [List.length_replicate]; have:=HSB.out; omega)).mono fun e w' ⟨r,h1,h2,h3⟩=>by
   rw [z1] at h1
   rw [z2] at h2
   obtain ⟨a,c,h4,h5,h6⟩:=owns_slice h2
   rw [hl] at h4
   subst h4
   exact ⟨a,c,h1,ownsRow_base h2 hb.size,h3⟩)
 obtain ⟨t0,t1,t2,t3⟩:=three_boxes w #[.slice va L vc] #[.slice none 0 0] #[.int .i64 0,.int .i64 0,.slice none 0 0,.int .u16 0,.int .u16 0,.slice none 0 0] 24 24 29
 have HM:=Zh t0
 have HA:=Zh t1
 have HQ:=Zh t2
 have HB:=Zh t3
 have HO:=Zh (hv.below t3)
 have HMX:=Zh (show L≤maxLen by omega)
 have HCK:=Zh (show okR L (B:Nat) (N:Nat)=true by rw [hL]; exact hok.ok)
 have HL2:=Zh hl
 clear hv hv1 hv2 hok hl z1 z2 hl2 hL hszle hN hsz t0 t1 t2 t3
 go_enter Tryz.func16,Tryz.ntmps16
 go_wp2_with fail
 refine (ringCheck_any _ _ _ HMX.out _ _ _ HCK.out _).mono ?_
 rintro e w1 ⟨rfl,hb⟩
 replace HM:=Zk HM hb
 replace HA:=Zk HA hb
 replace HQ:=Zk HQ hb
 replace HO:=Zh (HO.out.below hb)
 replace HB:=Zb HB hb
 clear hb
 go_wp2_with fail
 refine wp_region_rec (X:=QueNewA) (by kernel_rfl) (by kernel_rfl) (fun x=>#[x.b0,x.b1,x.b2,x.b3,x.b4,x.b5,x.b6,x.b7,x.b8,x.b9]) (fun x=>{ tmps:=#[.agg #[.slice va L vc],.int .i64 (B:Nat),.int .i64 (N:Nat),.pointer (some ⟨w.heap.size,0,none⟩),undef,undef,.pointer (some ⟨w.heap.size+1,0,none⟩),.pointer (some ⟨w.heap.size+1+1,0,none⟩),.int .i64 0,.agg #[.slice va L vc],.int .i64 (B:Nat),.int .i64 (N:Nat),.bool true,.bool false,undef,undef,undef,x.s17,x.s18,x.s19,x.s20,x.s21,x.s22,x.s23,x.s24,x.s25,undef,undef,undef,undef,undef,undef],defers:=[] }) (fun x W=>(x.b0→x.s18=.agg #[.slice va L vc])∧(x.b1→x.s19=.int .i64 (B:Nat))∧(x.b2→x.s20=.int .i64 (N:Nat))∧(x.b3→x.s21=.int .i64 (sz:Nat))∧(x.b6→x.s17=x.s23)∧(x.b8→x.s25=.int .i64 0)∧(x.b9→x.b0∧x.b3∧x.b4∧x.b5)∧(x.b6→x.b3∧x.b4∧x.b5)∧(x.b4→x.b3)∧(x.b5→x.b3∧x.b4)∧(x.b7→x.b3∧x.b4∧x.b5)∧(x.b9=false→W.heap[w.heap.size]? = some (.cells #[.slice va L vc] 24 (0,0)))∧(W.heap[w.heap.size+1]? = some (.cells #[.slice none 0 0] 24 (0,0)))∧(W.heap[w.heap.size+1+1]? = some (.cells #[.int .i64 0,.int .i64 0,.slice none 0 0,.int .u16 0,.int .u16 0,.slice none 0 0] 29 (0,0)))∧(Below w.heap.size w W)∧(OwnB 0 W (.slice va L vc) l)∧(x.b4→∃ gz,x.s22=.slice (some ⟨gz,0,none⟩) sz sz∧OwnB 0 W (.slice (some ⟨gz,0,none⟩) sz sz) (List.replicate sz 0))∧(x.b5→∃ ra rc,x.s23=.tuple #[.agg #[.slice ra L rc],.int .i64 0]∧OwnB w.heap.size W (.slice ra L rc) l2)∧(x.b7→∃ ra rc,x.s24=.agg #[.slice ra L rc]∧OwnB w.heap.size W (.slice ra L rc) l2)∧(x.b9→∃ ra rc,W.heap[w.heap.size]? = some (.cells #[.slice ra L rc] 24 (0,0))∧OwnB w.heap.size W (.slice ra L rc) l2)) ⟨false,false,false,false,false,false,false,false,false,false,undef,undef,undef,undef,undef,undef,undef,undef,undef⟩ rfl rfl ⟨Zf,Zf,Zf,Zf,Zf,Zf,Zf,Zf,Zf,Zf,Zf,(fun _=>HM.out),HA.out,HQ.out,HB.out.drew,HO.out,Zf,Zf,Zf,Zf⟩ (fun _=>rfl) ?hstep ?hdone
 case hstep =>
  rintro ⟨b0,b1,b2,b3,b4,b5,b6,b7,b8,b9,s18,s19,s20,s21,s22,s23,s17,s24,s25⟩ W hI i hi
  dsimp only at hI hi ⊢
  have HI:=Zh hI
  clear hI
  rw [Region.ready,List.mem_filter,List.mem_range] at hi
  obtain ⟨hlt,hp⟩:=hi
  have hi7:i=0∨i=1∨i=2∨i=3∨i=4∨i=5∨i=6∨i=7∨i=8∨i=9:=by simp at hlt; omega
  clear hlt
  rcases hi7 with rfl|rfl|rfl|rfl|rfl|rfl|rfl|rfl|rfl|rfl
  all_goals simp [Region.binds] at hp
  · obtain rfl:b0=false:=by revert hp; cases b0 <;> simp
    clear hp; refine Zv 18 fun K' hK'=>?_
    have gi9:=(Zd HI.out).2.2.1
    have rM0:=(Ze HI.out).2.2.2.1
    obtain rfl:b9=false:=Zz fun e=>(gi9 e).1
    obtain ⟨hc0,_⟩:=at_cell (rM0 rfl) 0 _ rfl
    go_simp
    obtain ⟨h0,h1,h2,h3,h6,h8,gi9,gi6,gi4,gi5,gi7,rM0,rA,rQ,gB,gO,gZ,gP,gX,gS⟩:=HI.out
    exact hK'.out _ _ ⟨.mk ..,rfl,rfl,(fun _=>rfl),h1,h2,h3,h6,h8,Zf,gi6,gi4,gi5,gi7,rM0,rA,rQ,gB,gO,gZ,gP,gX,Zf⟩
  · obtain rfl:b1=false:=by revert hp; cases b1 <;> simp
    clear hp; refine Zv 19 fun K' hK'=>?_
    go_simp
    exact hK'.out _ _ ⟨.mk ..,rfl,rfl,Nxt (Upd (fun _=>rfl)) HI.out⟩
  · obtain rfl:b2=false:=by revert hp; cases b2 <;> simp
    clear hp; refine Zv 20 fun K' hK'=>?_
    go_simp
    exact hK'.out _ _ ⟨.mk ..,rfl,rfl,Nxt (Nxt (Upd (fun _=>rfl))) HI.out⟩
  · obtain ⟨rfl,e2⟩:b3=false∧b2=true:=by revert hp; cases b3 <;> cases b2 <;> simp
    clear hp
    obtain rfl:=(HI.out.2.2.1) e2
    refine Zv 21 fun K' hK'=>?_
    have gi9:=(Zd HI.out).2.2.1
    have gi6:=(Zd HI.out).2.2.2.1
    have gi4:=(Ze HI.out).1
    have gi5:=(Ze HI.out).2.1
    have gi7:=(Ze HI.out).2.2.1
    obtain rfl:b9=false:=Zz fun e=>(gi9 e).2.1
    obtain rfl:b6=false:=Zz fun e=>(gi6 e).1
    obtain rfl:b4=false:=Zz fun e=>(gi4 e)
    obtain rfl:b5=false:=Zz fun e=>(gi5 e).1
    obtain rfl:b7=false:=Zz fun e=>(gi7 e).1
    go_simp
    refine (HSI.out W).mono ?_
    rintro e w2 ⟨rfl,bn⟩
    obtain ⟨h0,h1,h2,h3,h6,h8,gi9,gi6,gi4,gi5,gi7,rM0,rA,rQ,gB,gO,gZ,gP,gX,gS⟩:=HI.out
    exact hK'.out _ _ ⟨.mk ..,rfl,rfl,h0,h1,h2,(fun _=>rfl),h6,h8,Zf,Zf,Zf,Zf,Zf,(fun e=>row_keep (rM0 e) bn),(row_keep rA bn),(row_keep rQ bn),(gB.trans (bn.mono gB.size)),(gO.below bn),Zf,Zf,Zf,Zf⟩
  · obtain ⟨rfl,e3⟩:b4=false∧b3=true:=by revert hp; cases b4 <;> cases b3 <;> simp
    clear hp
    obtain rfl:=(HI.out.2.2.2.1) e3
    refine Zv 22 fun K' hK'=>?_
    have gi9:=(Zd HI.out).2.2.1
    have gi6:=(Zd HI.out).2.2.2.1
    have gi5:=(Ze HI.out).2.1
    have gi7:=(Ze HI.out).2.2.1
    obtain rfl:b9=false:=Zz fun e=>(gi9 e).2.2.1
    obtain rfl:b6=false:=Zz fun e=>(gi6 e).2.1
    obtain rfl:b5=false:=Zz fun e=>(gi5 e).2
    obtain rfl:b7=false:=Zz fun e=>(gi7 e).2.1
    have hmk:=run_zerosK sz HSB.out
    have hzz:=zerosK_own W sz HSB.out
    have bn:Below W.heap.size W (W.alloc (.cells (madeCells #[.int .u8 0] sz) 5)):=(Below.refl _ _).alloc (Nat.le_refl _) _
    go_simp
    obtain ⟨h0,h1,h2,h3,h6,h8,gi9,gi6,gi4,gi5,gi7,rM0,rA,rQ,gB,gO,gZ,gP,gX,gS⟩:=HI.out
    exact hK'.out _ _ ⟨.mk ..,rfl,rfl,h0,h1,h2,h3,h6,h8,Zf,Zf,(fun _=>e3),Zf,Zf,(fun e=>row_keep (rM0 e) bn),(row_keep rA bn),(row_keep rQ bn),(gB.trans (bn.mono gB.size)),(gO.below bn),(fun _=>⟨_,rfl,hzz⟩),Zf,Zf,Zf⟩
  · have hn5:b5=false:=by revert hp; cases b5 <;> simp
    have e0:b0=true:=by revert hp; cases b0 <;> simp
    have e1:b1=true:=by revert hp; cases b1 <;> simp
    have e4:b4=true:=by revert hp; cases b4 <;> simp
    have e3:b3=true:=by revert hp; cases b3 <;> simp
    clear hp
    obtain rfl:=(HI.out.1) e0
    obtain rfl:=(HI.out.2.1) e1
    subst hn5
    refine Zv 23 fun K' hK'=>?_
    have gi9:=(Zd HI.out).2.2.1
    have gi6:=(Zd HI.out).2.2.2.1
    have gi7:=(Ze HI.out).2.2.1
    have gB:=(Zd (Ze HI.out)).2.2.1
    have gO:=(Zd (Ze HI.out)).2.2.2.1
    have gZ:=(Zg HI.out).1
    obtain rfl:b9=false:=Zz fun e=>(gi9 e).2.2.2
    obtain rfl:b6=false:=Zz fun e=>(gi6 e).2.2
    obtain rfl:b7=false:=Zz fun e=>(gi7 e).2.2
    obtain ⟨gz,rfl,hz⟩:=gZ e4
    go_simp
    refine (HPU.out W gB gO _ hz).mono ?_
    rintro e w2 ⟨ra,rc,rfl,hr,bn⟩
    obtain ⟨h0,h1,h2,h3,h6,h8,gi9,gi6,gi4,gi5,gi7,rM0,rA,rQ,gB,gO,gZ,gP,gX,gS⟩:=HI.out
    exact hK'.out _ _ ⟨.mk ..,rfl,rfl,h0,h1,h2,h3,(fun e=>by cases ((gi6 e).2.2)),h8,Zf,Zf,gi4,(fun _=>⟨e3,e4⟩),Zf,(fun e=>row_keep (rM0 e) bn),(row_keep rA bn),(row_keep rQ bn),(gB.trans (bn.mono gB.size)),(gO.below bn),(fun _=>⟨gz,rfl,hz.below bn⟩),(fun _=>⟨ra,rc,rfl,hr⟩),Zf,Zf⟩
  · obtain ⟨rfl,e5⟩:b6=false∧b5=true:=by revert hp; cases b6 <;> cases b5 <;> simp
    clear hp; refine Zv 17 fun K' hK'=>?_
    go_simp
    obtain ⟨h0,h1,h2,h3,h6,h8,gi9,gi6,gi4,gi5,gi7,rM0,rA,rQ,gB,gO,gZ,gP,gX,gS⟩:=HI.out
    exact hK'.out _ _ ⟨.mk ..,rfl,rfl,h0,h1,h2,h3,(fun _=>rfl),h8,gi9,(fun _=>⟨(gi5 e5).1,(gi5 e5).2,e5⟩),gi4,gi5,gi7,rM0,rA,rQ,gB,gO,gZ,gP,gX,gS⟩
  · obtain ⟨rfl,e6⟩:b7=false∧b6=true:=by revert hp; cases b7 <;> cases b6 <;> simp
    clear hp
    obtain rfl:=((Zd HI.out).1) e6
    refine Zv 24 fun K' hK'=>?_
    have gi6:=(Zd HI.out).2.2.2.1
    have gP:=(Zg HI.out).2.1
    obtain ⟨ra,rc,rfl,hp⟩:=gP ((gi6 e6).2.2)
    go_simp
    obtain ⟨h0,h1,h2,h3,h6,h8,gi9,gi6,gi4,gi5,gi7,rM0,rA,rQ,gB,gO,gZ,gP,gX,gS⟩:=HI.out
    exact hK'.out _ _ ⟨.mk ..,rfl,rfl,h0,h1,h2,h3,h6,h8,gi9,gi6,gi4,gi5,(fun _=>⟨(gi6 e6).1,(gi6 e6).2.1,(gi6 e6).2.2⟩),rM0,rA,rQ,gB,gO,gZ,(fun _=>⟨ra,rc,rfl,hp⟩),(fun _=>⟨ra,rc,rfl,hp⟩),gS⟩
  · obtain ⟨rfl,e6⟩:b8=false∧b6=true:=by revert hp; cases b8 <;> cases b6 <;> simp
    clear hp
    obtain rfl:=((Zd HI.out).1) e6
    refine Zv 25 fun K' hK'=>?_
    have gi6:=(Zd HI.out).2.2.2.1
    have gP:=(Zg HI.out).2.1
    obtain ⟨ra,rc,rfl,hp⟩:=gP ((gi6 e6).2.2)
    go_simp
    exact hK'.out _ _ ⟨.mk ..,rfl,rfl,Nxt (Nx16 (Upd (fun _=>⟨ra,rc,rfl,hp⟩))) (Nxt (Nx4 (Upd (fun _=>rfl))) HI.out)⟩
  · have hn9:b9=false:=by revert hp; cases b9 <;> simp
    have e7:b7=true:=by revert hp; cases b7 <;> simp
    have e5:b5=true:=by revert hp; cases b5 <;> simp
    have e0:b0=true:=by revert hp; cases b0 <;> simp
    have e3:b3=true:=by revert hp; cases b3 <;> simp
    have e4:b4=true:=by revert hp; cases b4 <;> simp
    clear hp
    subst hn9
    refine inv_op (o:=⟨none,_,_,_,_,_⟩) rfl (fun K' hK'=>?_)
    have rM0:=(Ze HI.out).2.2.2.1
    have gX:=(Zg HI.out).2.2.1
    obtain ⟨ra,rc,rfl,hx⟩:=gX e7
    obtain ⟨hc0,hz0⟩:=at_cell (rM0 rfl) 0 _ rfl
    have hlt:=(Array.getElem?_eq_some_iff.1 (rM0 rfl)).1
    go_simp
    obtain ⟨h0,h1,h2,h3,h6,h8,gi9,gi6,gi4,gi5,gi7,rM0,rA,rQ,gB,gO,gZ,gP,gX,gS⟩:=HI.out
    exact hK'.out _ _ ⟨.mk ..,rfl,rfl,h0,h1,h2,h3,h6,h8,(fun _=>⟨e0,e3,e4,e5⟩),gi6,gi4,gi5,gi7,Zf,(Zp1 rA (by show w.heap.size≠w.heap.size+1; omega)),(Zp1 rQ (Zn rQ (rM0 rfl))),(Zu1 gB (Nat.le_refl _)),(gO.stay (rM0 rfl) tmU _ _),(fun e=>by obtain ⟨y0,h1,h2⟩:=gZ e; exact ⟨y0,h1,(h2.stay (rM0 rfl) (by decide) _ _)⟩),(fun e=>by obtain ⟨y0,y1,h1,h2⟩:=gP e; exact ⟨y0,y1,h1,(h2.stay (rM0 rfl) (by decide) _ _)⟩),(fun _=>⟨ra,rc,rfl,hx.stay (rM0 rfl) tmU _ _⟩),(fun _=>⟨ra,rc,row_put (rM0 rfl) 0 (.slice ra L rc),hx.stay (rM0 rfl) tmU _ _⟩)⟩
 case hdone =>
  rintro ⟨b0,b1,b2,b3,b4,b5,b6,b7,b8,b9,s18,s19,s20,s21,s22,s23,s17,s24,s25⟩ W hI hall
  dsimp only at hI hall ⊢
  have HI:=Zh hI
  clear hI
  obtain rfl:b0=true:=hall 0 (by decide)
  obtain rfl:b1=true:=hall 1 (by decide)
  obtain rfl:b2=true:=hall 2 (by decide)
  obtain rfl:b3=true:=hall 3 (by decide)
  obtain rfl:b4=true:=hall 4 (by decide)
  obtain rfl:b5=true:=hall 5 (by decide)
  obtain rfl:b6=true:=hall 6 (by decide)
  obtain rfl:b7=true:=hall 7 (by decide)
  obtain rfl:b8=true:=hall 8 (by decide)
  obtain rfl:b9=true:=hall 9 (by decide)
  obtain rfl:=((Zd HI.out).2.1) rfl
  have rA:=(Zd (Ze HI.out)).1
  have rQ:=(Zd (Ze HI.out)).2.1
  have gB:=(Zd (Ze HI.out)).2.2.1
  have gS:=(Zg HI.out).2.2.2
  clear HI hall
  obtain ⟨ra,rc,hrow,hown⟩:=gS rfl
  have HM2:=Zh hrow
  have HO2:=Zh hown
  have HA2:=Zh rA
  have HQ2:=Zh rQ
  have HB2:=Zh gB
  clear hrow hown rA rQ gB gS HSI HPU HM HA HQ HB HO
  obtain ⟨w2,hw2⟩:∃ x,x=W:=⟨_,rfl⟩
  subst hw2
  go_wp2_with fail
  refine wp_region_rec (X:=QueNewB) (by kernel_rfl) (by kernel_rfl) (fun x=>#[x.b0,x.b1,x.b2,x.b3,x.b4,x.b5,x.b6,x.b7,x.b8]) (fun x=>{ tmps:=#[.agg #[.slice va L vc],.int .i64 (B:Nat),.int .i64 (N:Nat),.pointer (some ⟨w.heap.size,0,none⟩),undef,undef,.pointer (some ⟨w.heap.size+1,0,none⟩),.pointer (some ⟨w.heap.size+1+1,0,none⟩),x.s8,.agg #[.slice va L vc],.int .i64 (B:Nat),.int .i64 (N:Nat),.bool true,.bool false,undef,undef,undef,s17,s18,s19,s20,s21,s22,s23,s24,.int .i64 0,x.s26,x.s27,x.s28,x.s29,x.s30,x.s31],defers:=[] }) (fun x W=>(x.b0→x.s26=.agg #[.slice ra L rc])∧(x.b1→x.s27=.int .i64 (B:Nat))∧(x.b2→x.s28=.int .i64 (N:Nat))∧(x.b3→x.s29=.int .i64 (N:Nat))∧(x.b8→x.s8=.int .i64 0)∧(x.b6→x.b4)∧(x.b7→x.b4∧x.b6)∧(x.b5→x.b4)∧(W.heap[w.heap.size]? = some (.cells #[.slice ra L rc] 24 (0,0)))∧(x.b6=false→W.heap[w.heap.size+1]? = some (.cells #[.slice none 0 0] 24 (0,0)))∧(x.b6→W.heap[w.heap.size+1]? = some (.cells #[.slice ra L rc] 24 (0,0)))∧(x.b7=false→W.heap[w.heap.size+1+1]? = some (.cells #[.int .i64 0,.int .i64 0,.slice none 0 0,.int .u16 0,.int .u16 0,.slice none 0 0] 29 (0,0)))∧(Below w.heap.size w W)∧(OwnB w.heap.size W (.slice ra L rc) l2)∧(x.b4→∃ fa fc,x.s30=.slice fa (upN N).length fc∧OwnI w.heap.size W (.slice fa (upN N).length fc) (upN N))∧(x.b5→∃ fa fc,x.s31=.agg #[.int .i64 (B:Nat),.int .i64 (N:Nat),.slice fa (upN N).length fc,.int .u16 0,.int .u16 0,.slice none 0 0]∧OwnI w.heap.size W (.slice fa (upN N).length fc) (upN N))∧(x.b7→∃ fa fc,W.heap[w.heap.size+1+1]? = some (.cells #[.int .i64 (B:Nat),.int .i64 (N:Nat),.slice fa (upN N).length fc,.int .u16 0,.int .u16 0,.slice none 0 0] 29 (0,0))∧OwnI w.heap.size W (.slice fa (upN N).length fc) (upN N))) ⟨false,false,false,false,false,false,false,false,false,undef,undef,undef,undef,undef,undef,.int .i64 0⟩ rfl rfl ⟨Zf,Zf,Zf,Zf,Zf,Zf,Zf,Zf,HM2.out,(fun _=>HA2.out),Zf,(fun _=>HQ2.out),HB2.out.drew,HO2.out,Zf,Zf,Zf⟩ (fun _=>rfl) ?hstep ?hdone
  case hstep =>
   rintro ⟨b0,b1,b2,b3,b4,b5,b6,b7,b8,s26,s27,s28,s29,s30,s31,s8⟩ W hI i hi
   dsimp only at hI hi ⊢
   have HI:=Zh hI
   clear hI
   rw [Region.ready,List.mem_filter,List.mem_range] at hi
   obtain ⟨hlt,hp⟩:=hi
   have hi7:i=0∨i=1∨i=2∨i=3∨i=4∨i=5∨i=6∨i=7∨i=8:=by simp at hlt; omega
   clear hlt
   rcases hi7 with rfl|rfl|rfl|rfl|rfl|rfl|rfl|rfl|rfl
   all_goals simp [Region.binds] at hp
   · obtain rfl:b0=false:=by revert hp; cases b0 <;> simp
     clear hp; refine Zv 26 fun K' hK'=>?_
     have rM:=(Ze HI.out).1
     obtain ⟨hc0,_⟩:=at_cell rM 0 _ rfl
     go_simp
     exact hK'.out _ _ ⟨.mk ..,rfl,rfl,(Upd (fun _=>rfl)) HI.out⟩
   · obtain rfl:b1=false:=by revert hp; cases b1 <;> simp
     clear hp; refine Zv 27 fun K' hK'=>?_
     go_simp
     exact hK'.out _ _ ⟨.mk ..,rfl,rfl,Nxt (Upd (fun _=>rfl)) HI.out⟩
   · obtain rfl:b2=false:=by revert hp; cases b2 <;> simp
     clear hp; refine Zv 28 fun K' hK'=>?_
     go_simp
     exact hK'.out _ _ ⟨.mk ..,rfl,rfl,Nxt (Nxt (Upd (fun _=>rfl))) HI.out⟩
   · obtain rfl:b3=false:=by revert hp; cases b3 <;> simp
     clear hp; refine Zv 29 fun K' hK'=>?_
     go_simp
     exact hK'.out _ _ ⟨.mk ..,rfl,rfl,Nxt (Nxt (Nxt (Upd (fun _=>rfl)))) HI.out⟩
   · obtain ⟨rfl,e3⟩:b4=false∧b3=true:=by revert hp; cases b4 <;> cases b3 <;> simp
     clear hp
     obtain rfl:=(HI.out.2.2.2.1) e3
     refine Zv 30 fun K' hK'=>?_
     have gi6:=(Zd HI.out).2.1
     have gi7:=(Zd HI.out).2.2.1
     have gi5:=(Zd HI.out).2.2.2.1
     obtain rfl:b6=false:=Zz fun e=>(gi6 e)
     obtain rfl:b7=false:=Zz fun e=>(gi7 e).1
     obtain rfl:b5=false:=Zz fun e=>(gi5 e)
     go_simp
     refine (HUP.out W).mono ?_
     rintro e w3 ⟨fr,rfl,hr,bn⟩
     obtain ⟨fa,fc,rfl,hl1,hl2⟩:=hr.shape
     obtain ⟨h0,h1,h2,h3,h8,gi6,gi7,gi5,rM,rA0,rA1,rQ0,gB,gO,gU,gV,gS⟩:=HI.out
     exact hK'.out _ _ ⟨.mk ..,rfl,rfl,h0,h1,h2,h3,h8,Zf,Zf,Zf,(row_keep rM bn),(fun e=>row_keep (rA0 e) bn),Zf,(fun e=>row_keep (rQ0 e) bn),(gB.trans (bn.mono gB.size)),(gO.below bn),(fun _=>⟨fa,fc,rfl,hr.base gB.size⟩),Zf,Zf⟩
   · have hn5:b5=false:=by revert hp; cases b5 <;> simp
     have e1:b1=true:=by revert hp; cases b1 <;> simp
     have e2:b2=true:=by revert hp; cases b2 <;> simp
     have e4:b4=true:=by revert hp; cases b4 <;> simp
     clear hp
     obtain rfl:=(HI.out.2.1) e1
     obtain rfl:=(HI.out.2.2.1) e2
     subst hn5
     refine Zv 31 fun K' hK'=>?_
     have gU:=(Zd (Ze HI.out)).2.2.1
     obtain ⟨fa,fc,rfl,hp⟩:=gU e4
     go_simp
     obtain ⟨h0,h1,h2,h3,h8,gi6,gi7,gi5,rM,rA0,rA1,rQ0,gB,gO,gU,gV,gS⟩:=HI.out
     exact hK'.out _ _ ⟨.mk ..,rfl,rfl,h0,h1,h2,h3,h8,gi6,gi7,(fun _=>e4),rM,rA0,rA1,rQ0,gB,gO,(fun _=>⟨fa,fc,rfl,hp⟩),(fun _=>⟨fa,fc,rfl,hp⟩),gS⟩
   · obtain ⟨rfl,e0,e4⟩:b6=false∧b0=true∧b4=true:=by revert hp; cases b6 <;> cases b0 <;> cases b4 <;> simp
     clear hp
     obtain rfl:=(HI.out.1) e0
     refine inv_op (o:=⟨none,_,_,_,_,_⟩) rfl (fun K' hK'=>?_)
     have gi7:=(Zd HI.out).2.2.1
     have rA0:=(Ze HI.out).2.1
     obtain rfl:b7=false:=Zz fun e=>(gi7 e).2
     obtain ⟨hc0,hz0⟩:=at_cell (rA0 rfl) 0 _ rfl
     have hlt:=(Array.getElem?_eq_some_iff.1 (rA0 rfl)).1
     go_simp
     obtain ⟨h0,h1,h2,h3,h8,gi6,gi7,gi5,rM,rA0,rA1,rQ0,gB,gO,gU,gV,gS⟩:=HI.out
     exact hK'.out _ _ ⟨.mk ..,rfl,rfl,h0,h1,h2,h3,h8,(fun _=>e4),Zf,gi5,(Zp1 rM (by show w.heap.size+1≠w.heap.size; omega)),Zf,(fun _=>(Zr (rA0 rfl))),(fun e=>(Zp1 (rQ0 e) (Zn (rQ0 e) (rA0 rfl)))),(Zu1 gB (by show w.heap.size≤w.heap.size+1; omega)),(gO.stay (rA0 rfl) (by decide) _ _),(fun e=>by obtain ⟨y0,y1,h1,h2⟩:=gU e; exact ⟨y0,y1,h1,(h2.stay (rA0 rfl) (by decide) _ _)⟩),(fun e=>by obtain ⟨y0,y1,h1,h2⟩:=gV e; exact ⟨y0,y1,h1,(h2.stay (rA0 rfl) (by decide) _ _)⟩),Zf⟩
   · have hn7:b7=false:=by revert hp; cases b7 <;> simp
     have e5:b5=true:=by revert hp; cases b5 <;> simp
     have e6:b6=true:=by revert hp; cases b6 <;> simp
     have e4:b4=true:=by revert hp; cases b4 <;> simp
     clear hp
     subst hn7
     refine inv_op (o:=⟨none,_,_,_,_,_⟩) rfl (fun K' hK'=>?_)
     have rQ0:=(Ze HI.out).2.2.2.1
     have gV:=(Zd (Ze HI.out)).2.2.2.1
     obtain ⟨fa,fc,rfl,hp⟩:=gV e5
     obtain ⟨hc0,hz0⟩:=at_cell (rQ0 rfl) 0 _ rfl
     obtain ⟨hc1,hz1⟩:=at_cell (rQ0 rfl) 1 _ rfl
     obtain ⟨hc2,hz2⟩:=at_cell (rQ0 rfl) 2 _ rfl
     obtain ⟨hc3,hz3⟩:=at_cell (rQ0 rfl) 3 _ rfl
     obtain ⟨hc4,hz4⟩:=at_cell (rQ0 rfl) 4 _ rfl
     obtain ⟨hc5,hz5⟩:=at_cell (rQ0 rfl) 5 _ rfl
     have hlt:=(Array.getElem?_eq_some_iff.1 (rQ0 rfl)).1
     go_simp
     obtain ⟨h0,h1,h2,h3,h8,gi6,gi7,gi5,rM,rA0,rA1,rQ0,gB,gO,gU,gV,gS⟩:=HI.out
     exact hK'.out _ _ ⟨.mk ..,rfl,rfl,h0,h1,h2,h3,h8,gi6,(fun _=>⟨e4,e6⟩),gi5,(Zp6 rM (Zn rM (rQ0 rfl))),(fun e=>(Zp6 (rA0 e) (Zn (rA0 e) (rQ0 rfl)))),(fun e=>(Zp6 (rA1 e) (Zn (rA1 e) (rQ0 rfl)))),Zf,(Zu6 gB (by show w.heap.size≤w.heap.size+1+1; omega)),((((((gO.stay (rQ0 rfl) (by decide) _ _).stay (Zr (rQ0 rfl)) (by decide) _ _).stay (Zr (Zr (rQ0 rfl))) (by decide) _ _).stay (Zr (Zr (Zr (rQ0 rfl)))) (by decide) _ _).stay (Zr (Zr (Zr (Zr (rQ0 rfl))))) (by decide) _ _).stay (Zr (Zr (Zr (Zr (Zr (rQ0 rfl)))))) (by decide) _ _),(fun e=>by obtain ⟨y0,y1,h1,h2⟩:=gU e; exact ⟨y0,y1,h1,((((((h2.stay (rQ0 rfl) (by decide) _ _).stay (Zr (rQ0 rfl)) (by decide) _ _).stay (Zr (Zr (rQ0 rfl))) (by decide) _ _).stay (Zr (Zr (Zr (rQ0 rfl)))) (by decide) _ _).stay (Zr (Zr (Zr (Zr (rQ0 rfl))))) (by decide) _ _).stay (Zr (Zr (Zr (Zr (Zr (rQ0 rfl)))))) (by decide) _ _)⟩),(fun _=>⟨fa,fc,rfl,six_owns hp (rQ0 rfl) tqI _ _ _ _ _ _⟩),(fun _=>⟨fa,fc,six_row (rQ0 rfl) _ _ _ _ _ _,six_owns hp (rQ0 rfl) tqI _ _ _ _ _ _⟩)⟩
   · obtain ⟨rfl,e7⟩:b8=false∧b7=true:=by revert hp; cases b8 <;> cases b7 <;> simp
     clear hp; refine Zv 8 fun K' hK'=>?_
     go_simp
     exact hK'.out _ _ ⟨.mk ..,rfl,rfl,Nx4 (Upd (fun _=>rfl)) HI.out⟩
  case hdone =>
   rintro ⟨b0,b1,b2,b3,b4,b5,b6,b7,b8,s26,s27,s28,s29,s30,s31,s8⟩ W hI hall
   dsimp only at hI hall ⊢
   have HI:=Zh hI
   clear hI
   obtain rfl:b0=true:=hall 0 (by decide)
   obtain rfl:b1=true:=hall 1 (by decide)
   obtain rfl:b2=true:=hall 2 (by decide)
   obtain rfl:b3=true:=hall 3 (by decide)
   obtain rfl:b4=true:=hall 4 (by decide)
   obtain rfl:b5=true:=hall 5 (by decide)
   obtain rfl:b6=true:=hall 6 (by decide)
   obtain rfl:b7=true:=hall 7 (by decide)
   obtain rfl:b8=true:=hall 8 (by decide)
   obtain rfl:=((Zd HI.out).1) rfl
   have rA1:=(Ze HI.out).2.2.1
   have gB:=(Zd (Ze HI.out)).1
   have gO:=(Zd (Ze HI.out)).2.1
   have gS:=(Zg HI.out)
   clear HI hall
   obtain ⟨fa,fc,hrow,hfree⟩:=gS rfl
   have hA:=rA1 rfl
   obtain ⟨⟨r0,r1,r2,r3,r4,r5⟩,_⟩:=cells_six hrow
   obtain ⟨a0,a1⟩:=one_cell hA
   have HF:=Zh hfree
   have HB3:=Zh gB
   have HO3:=Zh gO
   clear rA1 hrow hA gS gB gO hfree a1
   go_wp2
   refine bodyPost_ret (v:=.tuple #[.agg #[.slice ra L rc],.agg #[.int .i64 (B:Nat),.int .i64 (N:Nat),(.slice fa (upN N).length fc),.int .u16 (0:Nat),.int .u16 (0:Nat),(.slice none 0 0)],.int .i64 0]) (by simp [results,Tryz.results16,go_sem,r0,r1,r2,r3,r4,r5,a0]) rfl ⟨ra,rc,_,_,rfl,HO3.out,⟨HF.out,⟨rfl,World.ownsRow_nil _ _ _ _,fun i d c hd=>by simp at hd⟩,fun i d p hd=>by simp at hd⟩,HB3.out⟩
end Go.Proofs.YtcljffcdpjmmbaaGreat
