import Derived.Deep.MidRow
import Derived.Deep.WholeRow
import Derived.Shelf.Slices.In.SortNone
import Derived.Test.YtcljffcdpjmmbaaGreatG02
namespace Go.Proofs.YtcljffcdpjmmbaaGreat
open Go.RowKit Go.Lib
theorem find_any (B g:Nat) (q:QQ) (N:Nat) (F C M:Value) (D:List Value) (l:List UInt8) (x0 x1:Nat) (h0:x0 < 4294967296) (h1:x1 < 4294967296) (w:World) (hw:WorkB B w g q F C M D l) (hg:GoodQ q N) :
 Calls Tryz.prog 65 #[.pointer (some ⟨g,0,none⟩),.agg #[.int .u32 (x0:Nat),.int .u32 (x1:Nat)]] w fun e w'=>∃ z,e=.returned (.int .i64 z)∧((z = -1∧∀ c∈q.chains,isUsed x0 x1 c=false)∨∃ i c,z=(i:Nat)∧q.chains[i]? = some c∧isUsed x0 x1 c=true)∧Below w.heap.size w w':=by
 obtain ⟨few1,few2,few3,few4,few5⟩:=hg.few
 have hcs:∀ c∈q.chains,0≤c.head∧c.head≤1000∧0≤c.room∧c.room≤2147483647:=fun c hc=>by
  have h2:=hg.headIn hc
  have h3:=hg.chain c hc
  exact ⟨h2.1,by omega,h3.2.2⟩
 have HCS:=Zh hcs
 have HCL:=Zh (show q.chains.length≤1000 by omega)
 have hbx:Below w.heap.size w (w.alloc (.cells #[.int .u32 (x0:Nat),.int .u32 (x1:Nat)] 126)):=(Below.refl _ _).alloc (Nat.le_refl _) _
 have HBX:=Zh hbx
 have HW:=Zh (hw.below hbx)
 have HR:=Zh (heap_alloc_new w (.cells #[.int .u32 (x0:Nat),.int .u32 (x1:Nat)] 126))
 have H0:=Zh h0
 have H1:=Zh h1
 obtain ⟨⟨l0,l1,l2,l3,l4,l5,l6⟩,z0,z1,z2,z3,z4,z5,z6⟩:=cells_seven HW.out.row
 clear hw hg hcs few1 few2 few3 few4 few5 hbx h0 h1 z0 z1 z2 z3 z4 z5 z6
 go_enter Tryz.func65,Tryz.ntmps65
 go_wp2_with fail
 refine (findC_any C q.chains D x0 x1 w.heap.size H0.out H1.out _ HW.out.isq.chains HCL.out HR.out HCS.out).mono ?_
 rintro e w1 ⟨z,rfl,hz,hb⟩
 have HZ:=Zh hz
 have HB:=Zh (HBX.out.trans (hb.mono HBX.out.size))
 clear hz hb l0 l1 l2 l3 l4 l5 l6
 go_wp2
 go_ret
 exact ⟨z,rfl,HZ.out,HB.out⟩
theorem ints_news {B:Nat} {w:World} {g n c:Nat} {l:List Int} (h:OwnI B w (.slice (some ⟨g,0,none⟩) n c) l):∀ j u,(l.map (Value.int .i64))[j]? = some u→w.cell? ((⟨g,0,none⟩:Addr).add j)=some u:=by
 intro j u hu
 rw [Addr.add_lit,Nat.zero_add]
 rw [List.getElem?_map] at hu
 cases e:l[j]? with
 | none=>rw [e] at hu; cases hu
 | some y =>
   rw [e] at hu
   injection hu with hu
   have hj:j < l.length:=(List.getElem?_eq_some_iff.1 e).1
   rw [h.at j hj,List.getD_eq_getElem?_getD,e,←hu]
   rfl
structure QueRelA where
 (b0 b1 b2 b3 b4 b5 b6 b7 b8 b9 b10 b11 b12 b13 b14 b15 b16 b17 b18 b19:Bool)
 (s4 s5 s6 s7 s8 s9 s10 s11 s12 s13 s14 s15 s16 s17 s18 s19 s20 s21 s22:Value)
set_option maxHeartbeats 4000000 in
set_option maxRecDepth 100000 in
theorem release_any (B g i:Nat) (q:QQ) (N:Nat) (F C M:Value) (D:List Value) (l:List UInt8) (c:QCh) (w:World) (hw:WorkB B w g q F C M D l) (hg:GoodQ q N) (hc:q.chains[i]? = some c) (hB:B≤w.heap.size) :
 Calls Tryz.prog 66 #[.pointer (some ⟨g,0,none⟩),.int .i64 (i:Nat)] w fun e w'=>∃ F2 C2 D2,e=.returned (.tuple #[])∧WorkB B w' g (relQ q i) F2 C2 M D2 l∧Spare w w' B dirtyQ:=by
 obtain ⟨few1,few2,few3,few4,few5⟩:=hg.few
 have hzN:=hg.size
 have hch:=hg.chain c (List.mem_of_getElem? hc)
 have hds:=few5 c (List.mem_of_getElem? hc)
 have hrel:relQ q i={ q with free:=(q.free++c.ds).mergeSort fun x y=>decide (x≤y),chains:=q.chains.eraseIdx i }:=by unfold relQ relF; rw [hc]; rfl
 rw [hrel]
 obtain ⟨fa,fn,fc,ca,cn,cc,rfl,rfl,hfn,hcn,k1,k2,k3,k4⟩:=hw.isq.shape
 obtain ⟨b,z,fr,av,la,ch⟩:=q
 obtain ⟨hd,ds,rm⟩:=c
 simp only at *
 subst hzN
 obtain ⟨va,vc,rfl,hv1,hv2⟩:=hw.mem.shape
 obtain ⟨L,hL⟩:∃ L,L=l.length:=⟨_,rfl⟩
 rw [←hL] at hw ⊢
 have hi:i < ch.length:=(List.getElem?_eq_some_iff.1 hc).1
 obtain ⟨gc,ccur,rfl,p1,p2,hcrow,p3,p4,p5⟩:=hw.isq.chains.lie (by show 0 < ch.length; omega)
 obtain ⟨x,d,e1,e2,e3,e4,e5,e6⟩:=hw.isq.chains.at i hi
 obtain rfl:x=⟨hd,ds,rm⟩:=by rw [hc] at e1; injection e1 with e1; exact e1.symm
 simp only at e3 e4 e5 e6
 obtain ⟨da,dc,rfl,y1,y2⟩:=e6.shape
 obtain ⟨m,hm⟩:∃ m,ds.length=m:=⟨_,rfl⟩
 rw [hm] at e2 e4 e6 y1 hds
 obtain ⟨gd,dcur,rfl,o1,o2,hdrow,o3,o4,o5⟩:=e6.lie hch.1
 have HW:=Zh hw
 have HD1:=Zh e4
 have HOD:=Zh e6
 have HM:=Zh (show (ds.map (Value.int .i64)).length=m * 1 by rw [List.length_map,hm,Nat.mul_one])
 have HMM:=Zh hm
 have HNE:=Zh hch.1
 have HCL:=Zh (show fr.length+m≤1000 by omega)
 have HCC:=Zh (show ch.length≤1000 by omega)
 have HBB:=Zh hB
 have HI:=Zh hi
 have HCR:=Zh hcrow
 have HCN:=Zh hcn
 have hin:i < cn:=by omega
 have hi16:i < 16:=by omega
 have hcn16:cn≤16:=by omega
 obtain ⟨ic,hic,hcz0,hcz1,hcz2⟩:=info_parts infoI
 clear hw hg hc hB few1 few2 few3 few4 few5 hch hds hrel hfn hcn k1 k2 k3 k4 hv1 hv2 hL hi p1 p2 hcrow p3 p4 p5 e1 e2 e3 e4 e5 e6 y1 y2 hm o1 o2 hdrow o3 o4 o5
 go_enter Tryz.func66,Tryz.ntmps66
 go_wp2_with fail
 refine wp_region_rec (X:=QueRelA) (by kernel_rfl) (by kernel_rfl) (fun x=>#[x.b0,x.b1,x.b2,x.b3,x.b4,x.b5,x.b6,x.b7,x.b8,x.b9,x.b10,x.b11,x.b12,x.b13,x.b14,x.b15,x.b16,x.b17,x.b18,x.b19]) (fun x=>{ tmps:=List.toArray ((.pointer (some ⟨g,0,none⟩))::(.int .i64 (i:Nat))::undef::undef::x.s4::x.s5::x.s6::x.s7::x.s8::x.s9::x.s10::x.s11::x.s12::x.s13::x.s14::x.s15::x.s16::x.s17::x.s18::x.s19::x.s20::x.s21::x.s22::undef::undef::undef::undef::undef::undef::undef::undef::undef::undef::undef::undef::undef::undef::undef::undef::undef::undef::undef::[]),defers:=[] }) (fun x W=>(x.b0→x.s4=.pointer (some ⟨g,0,none⟩))∧(x.b1→x.s5=.pointer (some ⟨g,0,none⟩))∧(x.b2→x.s6=.pointer (some ⟨g,0,none⟩))∧(x.b3→x.s7=.pointer (some ⟨g,0,none⟩))∧(x.b4→x.s8=.pointer (some ⟨g,2,none⟩))∧(x.b5→x.s9=.slice fa fn fc)∧(x.b6→x.s10=.pointer (some ⟨g,0,none⟩))∧(x.b7→x.s11=.pointer (some ⟨g,0,none⟩))∧(x.b8→x.s12=.pointer (some ⟨g,0,none⟩))∧(x.b9→x.s13=.pointer (some ⟨g,5,none⟩))∧(x.b10→x.s14=.slice (some ⟨gc,0,none⟩) cn cc)∧(x.b11→x.s15=.int .i64 (i:Nat))∧(x.b12→x.s16=.pointer (some ⟨gc,i * 3,none⟩))∧(x.b13→x.s17=.pointer (some ⟨gc,i * 3+1,none⟩))∧(x.b14→x.s18=.slice (some ⟨gd,0,none⟩) m dc)∧(x.b16→x.s20=.pointer (some ⟨g,0,none⟩))∧(x.b17→x.s21=.pointer (some ⟨g,0,none⟩))∧(x.b18→x.s22=.pointer (some ⟨g,2,none⟩))∧(x.b15→x.b5∧x.b10∧x.b14)∧(x.b19→x.b15)∧(x.b14→x.b10)∧(x.b13→x.b10)∧(x.b12→x.b10)∧(x.b15=false→Below w.heap.size w W)∧(x.b19=false→x.b15→∃ fa2 fc2 Wp,x.s19=.slice fa2 (fr.length+m) fc2∧Below w.heap.size w Wp∧Grew B Wp W (.slice fa fn fc) (.slice fa2 (fr.length+m) fc2) 3 1 (fr.length+m) (fr.map (Value.int .i64)++ds.map (Value.int .i64)))∧(x.b19→∃ fa2 fc2 Wp w6,W=w6.setCell ⟨g,2,none⟩ (.slice fa2 (fr.length+m) fc2)∧Below w.heap.size w Wp∧Grew B Wp w6 (.slice fa fn fc) (.slice fa2 (fr.length+m) fc2) 3 1 (fr.length+m) (fr.map (Value.int .i64)++ds.map (Value.int .i64)))) ⟨false,false,false,false,false,false,false,false,false,false,false,false,false,false,false,false,false,false,false,false,undef,undef,undef,undef,undef,undef,undef,undef,undef,undef,undef,undef,undef,undef,undef,undef,undef,undef,undef⟩ rfl rfl ⟨Zf,Zf,Zf,Zf,Zf,Zf,Zf,Zf,Zf,Zf,Zf,Zf,Zf,Zf,Zf,Zf,Zf,Zf,Zf,Zf,Zf,Zf,Zf,(fun _=>(Below.refl _ _).drew),(fun _ h=>by cases h),Zf⟩ (fun _=>rfl) ?hstep ?hdone
 case hstep =>
  rintro ⟨b0,b1,b2,b3,b4,b5,b6,b7,b8,b9,b10,b11,b12,b13,b14,b15,b16,b17,b18,b19,s4,s5,s6,s7,s8,s9,s10,s11,s12,s13,s14,s15,s16,s17,s18,s19,s20,s21,s22⟩ W hI i hi
  dsimp only at hI hi ⊢
  have HI:=Zh hI
  clear hI
  rw [Region.ready,List.mem_filter,List.mem_range] at hi
  obtain ⟨hlt,hp⟩:=hi
  have hi7:i=0∨i=1∨i=2∨i=3∨i=4∨i=5∨i=6∨i=7∨i=8∨i=9∨i=10∨i=11∨i=12∨i=13∨i=14∨i=15∨i=16∨i=17∨i=18∨i=19:=by simp at hlt; omega
  clear hlt
  rcases hi7 with rfl|rfl|rfl|rfl|rfl|rfl|rfl|rfl|rfl|rfl|rfl|rfl|rfl|rfl|rfl|rfl|rfl|rfl|rfl|rfl
  all_goals simp [Region.binds] at hp
  · obtain rfl:b0=false:=by revert hp; cases b0 <;> simp
    clear hp; refine Zv 4 fun K' hK'=>?_
    go_simp
    exact hK'.out _ _ ⟨.mk ..,rfl,rfl,(Upd (fun _=>rfl)) HI.out⟩
  · obtain rfl:b1=false:=by revert hp; cases b1 <;> simp
    clear hp; refine Zv 5 fun K' hK'=>?_
    go_simp
    exact hK'.out _ _ ⟨.mk ..,rfl,rfl,Nxt (Upd (fun _=>rfl)) HI.out⟩
  · obtain ⟨rfl,e1⟩:b2=false∧b1=true:=by revert hp; cases b2 <;> cases b1 <;> simp
    clear hp
    obtain rfl:=(HI.out.2.1) e1
    refine Zv 6 fun K' hK'=>?_
    go_simp
    exact hK'.out _ _ ⟨.mk ..,rfl,rfl,Nxt (Nxt (Upd (fun _=>rfl))) HI.out⟩
  · obtain ⟨rfl,e2⟩:b3=false∧b2=true:=by revert hp; cases b3 <;> cases b2 <;> simp
    clear hp
    obtain rfl:=(HI.out.2.2.1) e2
    refine Zv 7 fun K' hK'=>?_
    go_simp
    exact hK'.out _ _ ⟨.mk ..,rfl,rfl,Nxt (Nxt (Nxt (Upd (fun _=>rfl)))) HI.out⟩
  · obtain ⟨rfl,e3⟩:b4=false∧b3=true:=by revert hp; cases b4 <;> cases b3 <;> simp
    clear hp
    obtain rfl:=(HI.out.2.2.2.1) e3
    refine Zv 8 fun K' hK'=>?_
    go_simp
    exact hK'.out _ _ ⟨.mk ..,rfl,rfl,Nx4 (Upd (fun _=>rfl)) HI.out⟩
  · obtain ⟨rfl,e4⟩:b5=false∧b4=true:=by revert hp; cases b5 <;> cases b4 <;> simp
    clear hp
    obtain rfl:=((Zd HI.out).1) e4
    refine Zv 9 fun K' hK'=>?_
    have gi15:=(Zg HI.out).2.2.1
    have gB:=(Zd (Zg HI.out)).2.2.2.1
    obtain rfl:b15=false:=Zz fun e=>(gi15 e).1
    have hc2:=(at_cell (row_keep HW.out.row (gB rfl)) 2 _ rfl).1
    go_simp
    exact hK'.out _ _ ⟨.mk ..,rfl,rfl,Nxt (Nxt (Nx16 (Upd Zf))) (Nxt (Nx4 (Upd (fun _=>rfl))) HI.out)⟩
  · obtain rfl:b6=false:=by revert hp; cases b6 <;> simp
    clear hp; refine Zv 10 fun K' hK'=>?_
    go_simp
    exact hK'.out _ _ ⟨.mk ..,rfl,rfl,Nxt (Nxt (Nx4 (Upd (fun _=>rfl)))) HI.out⟩
  · obtain ⟨rfl,e6⟩:b7=false∧b6=true:=by revert hp; cases b7 <;> cases b6 <;> simp
    clear hp
    obtain rfl:=((Zd HI.out).2.2.1) e6
    refine Zv 11 fun K' hK'=>?_
    go_simp
    exact hK'.out _ _ ⟨.mk ..,rfl,rfl,Nxt (Nxt (Nxt (Nx4 (Upd (fun _=>rfl))))) HI.out⟩
  · obtain ⟨rfl,e7⟩:b8=false∧b7=true:=by revert hp; cases b8 <;> cases b7 <;> simp
    clear hp
    obtain rfl:=((Zd HI.out).2.2.2.1) e7
    refine Zv 12 fun K' hK'=>?_
    go_simp
    exact hK'.out _ _ ⟨.mk ..,rfl,rfl,Nx4 (Nx4 (Upd (fun _=>rfl))) HI.out⟩
  · obtain ⟨rfl,e8⟩:b9=false∧b8=true:=by revert hp; cases b9 <;> cases b8 <;> simp
    clear hp
    obtain rfl:=((Ze HI.out).1) e8
    refine Zv 13 fun K' hK'=>?_
    go_simp
    exact hK'.out _ _ ⟨.mk ..,rfl,rfl,Nxt (Nx4 (Nx4 (Upd (fun _=>rfl)))) HI.out⟩
  · obtain ⟨rfl,e9⟩:b10=false∧b9=true:=by revert hp; cases b10 <;> cases b9 <;> simp
    clear hp
    obtain rfl:=((Ze HI.out).2.1) e9
    refine Zv 14 fun K' hK'=>?_
    have gi15:=(Zg HI.out).2.2.1
    have gi14:=(Zd (Zg HI.out)).1
    have gi13:=(Zd (Zg HI.out)).2.1
    have gi12:=(Zd (Zg HI.out)).2.2.1
    have gB:=(Zd (Zg HI.out)).2.2.2.1
    obtain rfl:b15=false:=Zz fun e=>(gi15 e).2.1
    obtain rfl:b14=false:=Zz fun e=>(gi14 e)
    obtain rfl:b13=false:=Zz fun e=>(gi13 e)
    obtain rfl:b12=false:=Zz fun e=>(gi12 e)
    have hc5:=(at_cell (row_keep HW.out.row (gB rfl)) 5 _ rfl).1
    go_simp
    obtain ⟨h0,h1,h2,h3,h4,h5,h6,h7,h8,h9,h10,h11,h12,h13,h14,h16,h17,h18,gi15,gi19,gi14,gi13,gi12,gB,gC,gF⟩:=HI.out
    exact hK'.out _ _ ⟨.mk ..,rfl,rfl,h0,h1,h2,h3,h4,h5,h6,h7,h8,h9,(fun _=>rfl),h11,h12,h13,h14,h16,h17,h18,Zf,gi19,Zf,Zf,Zf,gB,gC,gF⟩
  · obtain rfl:b11=false:=by revert hp; cases b11 <;> simp
    clear hp; refine Zv 15 fun K' hK'=>?_
    go_simp
    exact hK'.out _ _ ⟨.mk ..,rfl,rfl,Nxt (Nxt (Nxt (Nx4 (Nx4 (Upd (fun _=>rfl)))))) HI.out⟩
  · obtain ⟨rfl,e10,e11⟩:b12=false∧b10=true∧b11=true:=by revert hp; cases b12 <;> cases b10 <;> cases b11 <;> simp
    clear hp
    obtain rfl:=((Ze HI.out).2.2.1) e10
    obtain rfl:=((Ze HI.out).2.2.2.1) e11
    refine Zv 16 fun K' hK'=>?_
    go_simp
    exact hK'.out _ _ ⟨.mk ..,rfl,rfl,Nxt (Nxt (Nx4 (Nx16 (Upd (fun _=>e10))))) (Nx4 (Nx4 (Nx4 (Upd (fun _=>rfl)))) HI.out)⟩
  · obtain ⟨rfl,e12⟩:b13=false∧b12=true:=by revert hp; cases b13 <;> cases b12 <;> simp
    clear hp
    obtain rfl:=((Zd (Ze HI.out)).1) e12
    refine Zv 17 fun K' hK'=>?_
    go_simp
    obtain ⟨h0,h1,h2,h3,h4,h5,h6,h7,h8,h9,h10,h11,h12,h13,h14,h16,h17,h18,gi15,gi19,gi14,gi13,gi12,gB,gC,gF⟩:=HI.out
    exact hK'.out _ _ ⟨.mk ..,rfl,rfl,h0,h1,h2,h3,h4,h5,h6,h7,h8,h9,h10,h11,h12,(fun _=>rfl),h14,h16,h17,h18,gi15,gi19,gi14,(fun _=>(gi12 e12)),gi12,gB,gC,gF⟩
  · obtain ⟨rfl,e13⟩:b14=false∧b13=true:=by revert hp; cases b14 <;> cases b13 <;> simp
    clear hp
    obtain rfl:=((Zd (Ze HI.out)).2.1) e13
    refine Zv 18 fun K' hK'=>?_
    have gi15:=(Zg HI.out).2.2.1
    have gB:=(Zd (Zg HI.out)).2.2.2.1
    obtain rfl:b15=false:=Zz fun e=>(gi15 e).2.2
    have hc1:=HD1.out
    rw [←Below.cell (gB rfl) (World.block_lt_of_cell? w _ HD1.out)] at hc1
    go_simp
    obtain ⟨h0,h1,h2,h3,h4,h5,h6,h7,h8,h9,h10,h11,h12,h13,h14,h16,h17,h18,gi15,gi19,gi14,gi13,gi12,gB,gC,gF⟩:=HI.out
    exact hK'.out _ _ ⟨.mk ..,rfl,rfl,h0,h1,h2,h3,h4,h5,h6,h7,h8,h9,h10,h11,h12,h13,(fun _=>rfl),h16,h17,h18,Zf,gi19,(fun _=>(gi13 e13)),gi13,gi12,gB,gC,gF⟩
  · obtain ⟨rfl,e5,e14⟩:b15=false∧b5=true∧b14=true:=by revert hp; cases b15 <;> cases b5 <;> cases b14 <;> simp
    clear hp
    obtain rfl:=((Zd HI.out).2.1) e5
    obtain rfl:=((Zd (Ze HI.out)).2.2.1) e14
    refine Zv 19 fun K' hK'=>?_
    have gi19:=(Zg HI.out).2.2.2.1
    have gB:=(Zd (Zg HI.out)).2.2.2.1
    obtain rfl:b19=false:=Zz fun e=>(gi19 e)
    have hgb:=gB rfl
    refine step_append_grew W rfl (.tmp 9) (.tmp 18) 25 rfl B 3 ic (.int .i64 0) 1 8 Tryz.underlying25 hic hcz0 hcz1 hcz2 rfl (by decide) (by decide) _ _ _ rfl (HW.out.isq.free.below hgb) ⟨gd,0,none⟩ m dc (ds.map (Value.int .i64)) rfl HM.out (ints_news (HOD.out.below hgb)) (ints_one ds) HCL.out (Nat.le_trans HBB.out hgb.size) ?_
    intro F2 w2 hgr
    obtain ⟨fa2,fc2,rfl,hq1,hq2⟩:=owns_slice hgr.own
    clear hq1 hq2
    obtain ⟨h0,h1,h2,h3,h4,h5,h6,h7,h8,h9,h10,h11,h12,h13,h14,h16,h17,h18,gi15,gi19,gi14,gi13,gi12,gB,gC,gF⟩:=HI.out
    exact hK'.out _ _ ⟨.mk ..,rfl,rfl,h0,h1,h2,h3,h4,h5,h6,h7,h8,h9,h10,h11,h12,h13,h14,h16,h17,h18,(fun _=>⟨e5,(gi14 e14),e14⟩),Zf,gi14,gi13,gi12,Zf,(fun _ _=>⟨fa2,fc2,W,rfl,hgb,hgr⟩),Zf⟩
  · obtain ⟨rfl,e0⟩:b16=false∧b0=true:=by revert hp; cases b16 <;> cases b0 <;> simp
    clear hp
    obtain rfl:=(HI.out.1) e0
    refine Zv 20 fun K' hK'=>?_
    go_simp
    exact hK'.out _ _ ⟨.mk ..,rfl,rfl,Nxt (Nxt (Nxt (Nx4 (Nx4 (Nx4 (Upd (fun _=>rfl))))))) HI.out⟩
  · obtain ⟨rfl,e16⟩:b17=false∧b16=true:=by revert hp; cases b17 <;> cases b16 <;> simp
    clear hp
    obtain rfl:=((Zd (Ze HI.out)).2.2.2.1) e16
    refine Zv 21 fun K' hK'=>?_
    go_simp
    exact hK'.out _ _ ⟨.mk ..,rfl,rfl,Nx16 (Upd (fun _=>rfl)) HI.out⟩
  · obtain ⟨rfl,e17⟩:b18=false∧b17=true:=by revert hp; cases b18 <;> cases b17 <;> simp
    clear hp
    obtain rfl:=((Zg HI.out).1) e17
    refine Zv 22 fun K' hK'=>?_
    go_simp
    exact hK'.out _ _ ⟨.mk ..,rfl,rfl,Nxt (Nx16 (Upd (fun _=>rfl))) HI.out⟩
  · obtain ⟨rfl,e15,e18⟩:b19=false∧b15=true∧b18=true:=by revert hp; cases b19 <;> cases b15 <;> cases b18 <;> simp
    clear hp
    obtain rfl:=((Zg HI.out).2.1) e18
    refine inv_op (o:=⟨none,_,_,_,_,_⟩) rfl (fun K' hK'=>?_)
    have gC:=(Ze (Zg HI.out)).1
    obtain ⟨fa2,fc2,Wp,rfl,hbp,hgr⟩:=gC rfl e15
    obtain ⟨⟨hc0,hc1,hc2,hc3,hc4,hc5,hc6⟩,hz0,hz1,hz2,hz3,hz4,hz5,hz6⟩:=cells_seven (hgr.other (HW.out.isq.free.below hbp) (row_keep HW.out.row hbp) twI)
    have hlx:=(Array.getElem?_eq_some_iff.1 (hgr.other (HW.out.isq.free.below hbp) (row_keep HW.out.row hbp) twI)).1
    go_simp
    obtain ⟨h0,h1,h2,h3,h4,h5,h6,h7,h8,h9,h10,h11,h12,h13,h14,h16,h17,h18,gi15,gi19,gi14,gi13,gi12,gB,gC,gF⟩:=HI.out
    exact hK'.out _ _ ⟨.mk ..,rfl,rfl,h0,h1,h2,h3,h4,h5,h6,h7,h8,h9,h10,h11,h12,h13,h14,h16,h17,h18,gi15,(fun _=>e15),gi14,gi13,gi12,(fun e=>absurd (e15.symm.trans e) (by decide)),Zf,(fun _=>⟨fa2,fc2,Wp,W,rfl,hbp,hgr⟩)⟩
 case hdone =>
  rintro ⟨b0,b1,b2,b3,b4,b5,b6,b7,b8,b9,b10,b11,b12,b13,b14,b15,b16,b17,b18,b19,s4,s5,s6,s7,s8,s9,s10,s11,s12,s13,s14,s15,s16,s17,s18,s19,s20,s21,s22⟩ W hI hall
  dsimp only at hI hall ⊢
  have HI:=Zh hI
  clear hI
  obtain rfl:b0=true:=hall 0 (by decide)
  obtain rfl:b1=true:=hall 1 (by decide)
  obtain rfl:b2=true:=hall 2 (by decide)
  obtain rfl:b3=true:=hall 3 (by decide)
  obtain rfl:b4=true:=hall 4 (by decide)
  obtain rfl:b5=true:=hall 5 (by decide)
  obtain rfl:b6=true:=hall 6 (by decide)
  obtain rfl:b7=true:=hall 7 (by decide)
  obtain rfl:b8=true:=hall 8 (by decide)
  obtain rfl:b9=true:=hall 9 (by decide)
  obtain rfl:b10=true:=hall 10 (by decide)
  obtain rfl:b11=true:=hall 11 (by decide)
  obtain rfl:b12=true:=hall 12 (by decide)
  obtain rfl:b13=true:=hall 13 (by decide)
  obtain rfl:b14=true:=hall 14 (by decide)
  obtain rfl:b15=true:=hall 15 (by decide)
  obtain rfl:b16=true:=hall 16 (by decide)
  obtain rfl:b17=true:=hall 17 (by decide)
  obtain rfl:b18=true:=hall 18 (by decide)
  obtain rfl:b19=true:=hall 19 (by decide)
  have gF:=(Ze (Zg HI.out)).2
  clear HI hall
  obtain ⟨fa2,fc2,Wp,w6,rfl,hbp,hgr⟩:=gF rfl
  have hwp:=HW.out.below hbp
  have hw6:=hgr.other hwp.isq.free hwp.row twI
  have hg6:Grew B Wp w6 (.slice fa fn fc) (.slice fa2 (fr.length+m) fc2) 3 1 (fr++ds).length ((fr++ds).map (Value.int .i64)):=by
   rw [List.map_append,List.length_append,HMM.out]
   exact hgr
  have HW7:=Zh (WorkB.growF (free:=fr++ds) hwp hg6)
  have HS7:=Zh (((Spare.of_below hbp HBB.out _).trans (Spare.grew (T:=dirtyQ) hgr hwp.isq.free rfl)).trans (Spare.set (i:=2) (u:=.slice fa2 (fr.length+m) fc2) hw6 rfl HW.out.lo))
  clear gF hw6 hg6 hgr hwp hbp
  obtain ⟨w7,hw7⟩:∃ x,x=w6.setCell ⟨g,2,none⟩ (.slice fa2 (fr.length+m) fc2):=⟨_,rfl⟩
  rw [←hw7] at HW7 HS7 ⊢
  clear hw7
  obtain ⟨gf,fcur,hfa,q1,q2,hfrow,q3,q4,q5⟩:=HW7.out.isq.free.lie (by have:=HNE.out; simp only; intro h; exact this (List.append_eq_nil_iff.1 h).2)
  subst hfa
  have HF7:=Zh hfrow
  have HQ7:=Zh q1
  obtain ⟨⟨l0,l1,l2,l3,l4,l5,l6⟩,z0,z1,z2,z3,z4,z5,z6⟩:=cells_seven HW7.out.row
  clear q1 q2 hfrow q3 q4 q5 z0 z1 z2 z3 z4 z5 z6
  go_wp2_with fail
  refine (sort_any gf _ fc2 (fr++ds) _ HW7.out.isq.free (by rw [List.length_append,HMM.out]; exact HCL.out)).mono ?_
  rintro e w8 ⟨rfl,ho,ht⟩
  have HW8:=Zh (HW7.out.sortF ht HF7.out ho)
  have HS8:=Zh (HS7.out.trans (Spare.turn ht HF7.out rfl HQ7.out))
  clear ho ht HW7 HS7 HF7 HQ7 l0 l1 l2 l3 l4 l5 l6
  obtain ⟨⟨l0,l1,l2,l3,l4,l5,l6⟩,z0,z1,z2,z3,z4,z5,z6⟩:=cells_seven HW8.out.row
  have hlg:=(Array.getElem?_eq_some_iff.1 HW8.out.row).1
  obtain ⟨gc',ccur2,hga,q1,q2,hcrow2,q3,q4,q5⟩:=HW8.out.isq.chains.lie (by have:=HI.out; show 0 < ch.length; omega)
  obtain rfl:gc=gc':=by injection hga with hga; injection hga with hga _
  have HC8:=Zh hcrow2
  have HQ8:=Zh q1
  clear hga q1 q2 hcrow2 q3 q4 q5 z0 z1 z2 z3 z4 z5 z6
  go_wp2_with fail
  refine (deleteC_any gc cn cc i ch D _ HW8.out.isq.chains HI.out HCC.out).mono ?_
  rintro e w9 ⟨m9,rfl,ho,ht⟩
  have hr9:=ht.wk HW8.out HC8.out tChW
  have HW9:=Zh (HW8.out.pop ht HC8.out ho)
  have HS9:=Zh ((HS8.out.trans (Spare.turn ht HC8.out rfl HQ8.out)).trans (Spare.set (i:=5) (u:=.slice (some ⟨gc,0,none⟩) m9 cc) hr9 rfl HW8.out.lo))
  clear l0 l1 l2 l3 l4 l5 l6 hlg
  obtain ⟨⟨l0,l1,l2,l3,l4,l5,l6⟩,z0,z1,z2,z3,z4,z5,z6⟩:=cells_seven hr9
  have hlg:=(Array.getElem?_eq_some_iff.1 hr9).1
  clear hr9 ho ht
  go_wp2
  refine bodyPost_end (v:=.tuple #[]) (by simp [results,Tryz.results66]) rfl ⟨_,_,_,rfl,HW9.out,HS9.out⟩
def PollSpec (l:List UInt8) (B N:Nat) (q q2:QQ) (x y E:Int):Prop :=
 (aheadQ l B N q=0∧q2=q∧x=0∧y=0∧E=7)∨(q.chains.length < aheadQ l B N q∧q2={ q with last:=usedI l B N }∧x=0∧y=0∧E=80) ∨
 (0 < aheadQ l B N q∧aheadQ l B N q≤q.chains.length∧(∀ c∈q.chains,isUsed (usedE l B N q.last 0) (usedE l B N q.last 4) c=false)∧q2={ q with last:=(q.last+1) % 65536 }∧x=0∧y=0∧E=80) ∨
 (0 < aheadQ l B N q∧aheadQ l B N q≤q.chains.length∧∃ i c,q.chains[i]? = some c∧isUsed (usedE l B N q.last 0) (usedE l B N q.last 4) c=true∧q2=relQ { q with last:=(q.last+1) % 65536 } i∧x=(usedE l B N q.last 0:Nat)∧y=(usedE l B N q.last 4:Nat)∧E=0)
theorem usedE_lt (l:List UInt8) (B N k o:Nat):usedE l B N k o < 4294967296:=numAt_lt _ _ 4
structure QuePollA where
 (b0 b1 b2 b3 b4 b5 b6 b7 b8 b9 b10 b11 b12 b13:Bool)
 (s49 s50 s51 s52 s53 s54 s55 s56 s57 s58 s5 s6 s7:Value)
set_option maxHeartbeats 4000000 in
set_option maxRecDepth 100000 in
theorem poll_none (q:QQ) (N bq t x0 x1:Nat) (E:Int) (F C v:Value) (D:List Value) (l:List UInt8) (w:World) (hv:OwnB 0 w v l) (hq:IsQ 0 w F C q D) (hg:GoodQ q N) (hbq:q.base=(bq:Nat)) (hok:RingOk l.length bq N) (hs:SeenSpec l bq N q t x0 x1 E)  (he:E=7∨E=80) :
 Calls Tryz.prog 30 #[.agg #[v],.agg #[.int .i64 q.base,.int .i64 q.size,F,.int .u16 (q.avail:Nat),.int .u16 (q.last:Nat),C]] w fun e w'=>∃ F2 C2 D2,e=.returned (.tuple #[.agg #[.int .i64 q.base,.int .i64 q.size,F2,.int .u16 (q.avail:Nat),.int .u16 (t:Nat),C2],.int .i64 0,.int .i64 0,.int .i64 E])∧IsQ 0 w' F2 C2 { q with last:=t } D2∧Below w.heap.size w w':=by
 obtain ⟨few1,few2,few3,few4,few5⟩:=hg.few
 obtain ⟨fa,fn,fc,ca,cn,cc,rfl,rfl,hfn,hcn,k1,k2,k3,k4⟩:=hq.shape
 have hzN:=hg.size
 obtain ⟨b,z,fr,av,la,ch⟩:=q
 simp only at *
 subst hbq
 subst hzN
 obtain ⟨va,vc,rfl,hv1,hv2⟩:=hv.shape
 obtain ⟨L,hL⟩:∃ L,L=l.length:=⟨_,rfl⟩
 rw [←hL] at hv hok hv1 ⊢
 obtain ⟨t0,t1,t2,t4⟩:=three_boxes w #[.slice va L vc] #[.int .i64 (bq:Nat),.int .i64 (N:Nat),.slice fa fn fc,.int .u16 (av:Nat),.int .u16 (la:Nat),.slice ca cn cc] #[.int .i64 0,.int .i64 0,.slice none 0 0,.int .u16 0,.int .u16 0,.slice none 0 0] 24 29 29
 have HR:=Zh t2
 have HB:=Zh t4
 have HQ:=Zh (hq.below t4)
 have HO:=Zh (hv.below t4)
 have HG:=Zh hg
 have HOK:=Zh hok
 have HLL:=Zh hL.symm
 have HSS:=Zh hs
 have HBS:=Zh (show (((w.alloc (.cells #[.slice va L vc] 24)).alloc (.cells #[.int .i64 (bq:Nat),.int .i64 (N:Nat),.slice fa fn fc,.int .u16 (av:Nat),.int .u16 (la:Nat),.slice ca cn cc] 29)).alloc (.cells #[.int .i64 0,.int .i64 0,.slice none 0 0,.int .u16 0,.int .u16 0,.slice none 0 0] 29)).heap.size=w.heap.size+3 by simp)
 clear hq hg hv hok hs hfn hcn k1 k2 k3 k4 hv1 hv2 hL t0 t1 t2 t4 few1 few2 few3 few4 few5
 go_enter Tryz.func30,Tryz.ntmps30
 go_wp2_with fail
 refine (begin_any ⟨(bq:Nat),(N:Nat),fr,av,la,ch⟩ N _ _ _ D l _ HO.out HQ.out HG.out (by rw [HLL.out]; exact HOK.out.ok)).mono ?_
 rintro e w1 ⟨g,F2,C2,E2,rfl,hw,hb⟩
 obtain ⟨f2,n2,k2,c2,m2,j2,rfl,rfl,q1,q2,q3,q4,q5,q6⟩:=hw.isq.shape
 clear q1 q2 q3 q4 q5 q6
 have HR1:=Zh (row_keep HR.out hb)
 have HB1:=Zh (HB.out.trans (hb.mono HB.out.size))
 rw [HBS.out] at hw
 have HW1:=Zh hw
 have HS1:=Zh (show w.heap.size+3≤w1.heap.size by have:=hb.size; rw [HBS.out] at this; exact this)
 clear hw hb HR HB HQ HO
 go_wp2_with fail
 refine (seeUsed_any (w.heap.size+3) g N bq t x0 x1 ⟨(bq:Nat),(N:Nat),fr,av,la,ch⟩ _ _ _ _ l (E) _ HW1.out HG.out rfl (by rw [HLL.out]; exact HOK.out) HSS.out HS1.out).mono ?_
 rintro e w2 ⟨rfl,hw,hs⟩
 have HR2:=Zh (hs.row _ _ _ _ HR1.out rfl)
 have HB2:=Zh (HB1.out.trans (hs.below.mono (by omega)))
 have HW2:=Zh hw
 have HS2:=Zh (Nat.le_trans HS1.out hs.size)
 clear hw hs HR1 HB1 HW1 HS1
 obtain ⟨UB,hUB⟩:∃ o:Obj,o=(.cells #[.int .u32 (x0:Nat),.int .u32 (x1:Nat)] 126):=⟨_,rfl⟩
 have hal:Below w2.heap.size w2 (w2.alloc UB):=(Below.refl _ _).alloc (Nat.le_refl _) _
 have HU3:=Zh (show (w2.alloc UB).heap[w2.heap.size]? = some (.cells #[.int .u32 (x0:Nat),.int .u32 (x1:Nat)] 126 (0,0)) from by rw [hUB]; exact heap_alloc_new w2 _)
 have HR3:=Zh (row_keep HR2.out hal)
 have HB3:=Zh (HB2.out.trans (hal.mono HB2.out.size))
 have HW3:=Zh (HW2.out.below hal)
 have HS3:=Zh (Nat.le_trans HS2.out hal.size)
 rw [hUB] at HU3 HR3 HB3 HW3 HS3
 clear hal hUB UB
 rcases he with rfl|rfl
 all_goals
  obtain ⟨⟨l0,l1,l2,l3,l4,l5,l6⟩,_⟩:=cells_seven HW3.out.row
  obtain ⟨⟨r0,r1,r2,r3,r4,r5⟩,y0,y1,y2,y3,y4,y5⟩:=cells_six HR3.out
  have hlr:=(Array.getElem?_eq_some_iff.1 HR3.out).1
  go_wp2
  refine bodyPost_ret (v:=.tuple #[.agg #[.int .i64 (bq:Nat),.int .i64 (N:Nat),.slice f2 n2 k2,.int .u16 (av:Nat),.int .u16 (t:Nat),.slice c2 m2 j2],.int .i64 0,.int .i64 0,.int .i64 (_)]) (by simp [results,Tryz.results30,go_sem,r0,r1,r2,r3,r4,r5]) rfl ⟨_,_,_,rfl,six_q (HW3.out.isq.base (Nat.zero_le _)) HR3.out tqI tqC _ _ _ _ _ _,six_below HB3.out (by omega) _ _ _ _ _ _⟩
set_option maxHeartbeats 4000000 in
set_option maxRecDepth 100000 in
theorem poll_used (q:QQ) (N bq t x0 x1:Nat) (E:Int) (F C v:Value) (D:List Value) (l:List UInt8) (w:World) (hv:OwnB 0 w v l) (hq:IsQ 0 w F C q D) (hg:GoodQ q N) (hbq:q.base=(bq:Nat)) (hok:RingOk l.length bq N) (hs:SeenSpec l bq N q t x0 x1 E) (he:E=0) (hn0:x0 < 4294967296) (hn1:x1 < 4294967296) (ht:t < 65536) :
 Calls Tryz.prog 30 #[.agg #[v],.agg #[.int .i64 q.base,.int .i64 q.size,F,.int .u16 (q.avail:Nat),.int .u16 (q.last:Nat),C]] w fun e w'=>(∃ F2 C2 D2,e=.returned (.tuple #[.agg #[.int .i64 q.base,.int .i64 q.size,F2,.int .u16 (q.avail:Nat),.int .u16 (t:Nat),C2],.int .i64 0,.int .i64 0,.int .i64 80])∧(∀ c∈q.chains,isUsed x0 x1 c=false)∧IsQ 0 w' F2 C2 { q with last:=t } D2∧Below w.heap.size w w')∨(∃ i c F2 C2 D2,e=.returned (.tuple #[.agg #[.int .i64 q.base,.int .i64 q.size,F2,.int .u16 (q.avail:Nat),.int .u16 (t:Nat),C2],.int .i64 (x0:Nat),.int .i64 (x1:Nat),.int .i64 0])∧q.chains[i]? = some c∧isUsed x0 x1 c=true∧IsQ 0 w' F2 C2 (relQ { q with last:=t } i) D2∧Below w.heap.size w w'):=by
 subst he
 have H0:=Zh hn0
 have H1:=Zh hn1
 have HG2:=Zh (hg.seen ht)
 clear ht
 have hx0:IntKind.i64.wrap ((x0:Nat):Int)=(x0:Nat):=IntWalk.i64_in _ (by omega)
 have hx1:IntKind.i64.wrap ((x1:Nat):Int)=(x1:Nat):=IntWalk.i64_in _ (by omega)
 obtain ⟨few1,few2,few3,few4,few5⟩:=hg.few
 obtain ⟨fa,fn,fc,ca,cn,cc,rfl,rfl,hfn,hcn,k1,k2,k3,k4⟩:=hq.shape
 have hzN:=hg.size
 obtain ⟨b,z,fr,av,la,ch⟩:=q
 simp only at *
 subst hbq
 subst hzN
 obtain ⟨va,vc,rfl,hv1,hv2⟩:=hv.shape
 obtain ⟨L,hL⟩:∃ L,L=l.length:=⟨_,rfl⟩
 rw [←hL] at hv hok hv1 ⊢
 obtain ⟨t0,t1,t2,t4⟩:=three_boxes w #[.slice va L vc] #[.int .i64 (bq:Nat),.int .i64 (N:Nat),.slice fa fn fc,.int .u16 (av:Nat),.int .u16 (la:Nat),.slice ca cn cc] #[.int .i64 0,.int .i64 0,.slice none 0 0,.int .u16 0,.int .u16 0,.slice none 0 0] 24 29 29
 have HR:=Zh t2
 have HB:=Zh t4
 have HQ:=Zh (hq.below t4)
 have HO:=Zh (hv.below t4)
 have HG:=Zh hg
 have HOK:=Zh hok
 have HLL:=Zh hL.symm
 have HSS:=Zh hs
 have HBS:=Zh (show (((w.alloc (.cells #[.slice va L vc] 24)).alloc (.cells #[.int .i64 (bq:Nat),.int .i64 (N:Nat),.slice fa fn fc,.int .u16 (av:Nat),.int .u16 (la:Nat),.slice ca cn cc] 29)).alloc (.cells #[.int .i64 0,.int .i64 0,.slice none 0 0,.int .u16 0,.int .u16 0,.slice none 0 0] 29)).heap.size=w.heap.size+3 by simp)
 clear hq hg hv hok hs hfn hcn k1 k2 k3 k4 hv1 hv2 hL t0 t1 t2 t4 few1 few2 few3 few4 few5
 go_enter Tryz.func30,Tryz.ntmps30
 go_wp2_with fail
 refine (begin_any ⟨(bq:Nat),(N:Nat),fr,av,la,ch⟩ N _ _ _ D l _ HO.out HQ.out HG.out (by rw [HLL.out]; exact HOK.out.ok)).mono ?_
 rintro e w1 ⟨g,F2,C2,E2,rfl,hw,hb⟩
 obtain ⟨f2,n2,k2,c2,m2,j2,rfl,rfl,q1,q2,q3,q4,q5,q6⟩:=hw.isq.shape
 clear q1 q2 q3 q4 q5 q6
 have HR1:=Zh (row_keep HR.out hb)
 have HB1:=Zh (HB.out.trans (hb.mono HB.out.size))
 rw [HBS.out] at hw
 have HW1:=Zh hw
 have HS1:=Zh (show w.heap.size+3≤w1.heap.size by have:=hb.size; rw [HBS.out] at this; exact this)
 clear hw hb HR HB HQ HO
 go_wp2_with fail
 refine (seeUsed_any (w.heap.size+3) g N bq t x0 x1 ⟨(bq:Nat),(N:Nat),fr,av,la,ch⟩ _ _ _ _ l (0) _ HW1.out HG.out rfl (by rw [HLL.out]; exact HOK.out) HSS.out HS1.out).mono ?_
 rintro e w2 ⟨rfl,hw,hs⟩
 have HR2:=Zh (hs.row _ _ _ _ HR1.out rfl)
 have HB2:=Zh (HB1.out.trans (hs.below.mono (by omega)))
 have HW2:=Zh hw
 have HS2:=Zh (Nat.le_trans HS1.out hs.size)
 clear hw hs HR1 HB1 HW1 HS1
 obtain ⟨UB,hUB⟩:∃ o:Obj,o=(.cells #[.int .u32 (x0:Nat),.int .u32 (x1:Nat)] 126):=⟨_,rfl⟩
 have hal:Below w2.heap.size w2 (w2.alloc UB):=(Below.refl _ _).alloc (Nat.le_refl _) _
 have HU3:=Zh (show (w2.alloc UB).heap[w2.heap.size]? = some (.cells #[.int .u32 (x0:Nat),.int .u32 (x1:Nat)] 126 (0,0)) from by rw [hUB]; exact heap_alloc_new w2 _)
 have HR3:=Zh (row_keep HR2.out hal)
 have HB3:=Zh (HB2.out.trans (hal.mono HB2.out.size))
 have HW3:=Zh (HW2.out.below hal)
 have HS3:=Zh (Nat.le_trans HS2.out hal.size)
 rw [hUB] at HU3 HR3 HB3 HW3 HS3
 clear hal hUB UB
 obtain ⟨u0,u1,_⟩:=cells_two HU3.out
 go_wp2_with fail
 refine (find_any (w.heap.size+3) g _ N _ _ _ _ l x0 x1 H0.out H1.out _ HW3.out HG2.out).mono ?_
 rintro e w4 ⟨zz,rfl,hz,hb⟩
 have HR4:=Zh (row_keep HR3.out hb)
 have HU4:=Zh (row_keep HU3.out hb)
 have HB4:=Zh (HB3.out.trans (hb.mono HB3.out.size))
 have HW4:=Zh (HW3.out.below hb)
 have HS4:=Zh (Nat.le_trans HS3.out hb.size)
 clear hb u0 u1 HR3 HU3 HB3 HW3 HS3
 rcases hz with ⟨rfl,hz⟩|⟨i,c,rfl,hc,hz⟩
 · have HZ:=Zh hz
   clear hz
   obtain ⟨⟨l0,l1,l2,l3,l4,l5,l6⟩,_⟩:=cells_seven HW4.out.row
   obtain ⟨⟨r0,r1,r2,r3,r4,r5⟩,y0,y1,y2,y3,y4,y5⟩:=cells_six HR4.out
   have hlr:=(Array.getElem?_eq_some_iff.1 HR4.out).1
   go_wp2
   refine bodyPost_ret (v:=.tuple #[.agg #[.int .i64 (bq:Nat),.int .i64 (N:Nat),.slice f2 n2 k2,.int .u16 (av:Nat),.int .u16 (t:Nat),.slice c2 m2 j2],.int .i64 0,.int .i64 0,.int .i64 (80)]) (by simp [results,Tryz.results30,go_sem,r0,r1,r2,r3,r4,r5]) rfl (.inl ⟨_,_,_,rfl,HZ.out,six_q (HW4.out.isq.base (Nat.zero_le _)) HR4.out tqI tqC _ _ _ _ _ _,six_below HB4.out (by omega) _ _ _ _ _ _⟩)
 · have hneg:decide (((i:Nat):Int) < 0)=false:=decide_eq_false (by omega)
   have HC:=Zh hc
   have HZ:=Zh hz
   clear hc hz
   go_wp2_with fail
   refine (release_any (w.heap.size+3) g i _ N _ _ _ _ l c _ HW4.out HG2.out HC.out HS4.out).mono ?_
   rintro e w5 ⟨F5,C5,E5,rfl,hw,hs⟩
   obtain ⟨qq,hqq⟩:∃ x,x=relQ ⟨(bq:Nat),(N:Nat),fr,av,t,ch⟩ i:=⟨_,rfl⟩
   have hrow:=hw.row
   rw [←hqq] at hw
   obtain ⟨f5,n5,k5,c5,m5,j5,rfl,rfl,q1,q2,q3,q4,q5,q6⟩:=hw.isq.shape
   clear q1 q2 q3 q4 q5 q6
   have hqb:qq.base=(bq:Nat)∧qq.size=(N:Nat)∧qq.avail=av∧qq.last=t:=by rw [hqq]; exact ⟨rfl,rfl,rfl,rfl⟩
   have HR5:=Zh (hs.row _ _ _ _ HR4.out rfl)
   have HU5:=Zh (hs.row _ _ _ _ HU4.out rfl)
   have HB5:=Zh (HB4.out.trans (hs.below.mono (by omega)))
   have HI5:=Zh hw.isq
   have HRW:=Zh hrow
   have HQQ:=Zh hqq
   clear hw hs hrow hqq hqb HR4 HU4 HB4 HW4 HS4
   go_wp2_with fail
   refine wp_region_rec (X:=QuePollA) (by kernel_rfl) (by kernel_rfl) (fun x=>#[x.b0,x.b1,x.b2,x.b3,x.b4,x.b5,x.b6,x.b7,x.b8,x.b9,x.b10,x.b11,x.b12,x.b13]) (fun x=>{ tmps:=List.toArray ((.agg #[.slice va L vc])::(.agg #[.int .i64 (bq:Nat),.int .i64 (N:Nat),.slice fa fn fc,.int .u16 (av:Nat),.int .u16 (la:Nat),.slice ca cn cc])::(.pointer (some ⟨w.heap.size,0,none⟩))::(.pointer (some ⟨w.heap.size+1,0,none⟩))::(.pointer (some ⟨w.heap.size+1+1,0,none⟩))::x.s5::x.s6::x.s7::(.pointer (some ⟨g,0,none⟩))::(.int .i64 0)::(.pointer (some ⟨w2.heap.size,0,none⟩))::(.int .i64 (i:Nat))::(.tuple #[.pointer (some ⟨g,0,none⟩),.int .i64 0])::(.agg #[.slice va L vc])::(.agg #[.int .i64 (bq:Nat),.int .i64 (N:Nat),.slice fa fn fc,.int .u16 (av:Nat),.int .u16 (la:Nat),.slice ca cn cc])::(.tuple #[.pointer (some ⟨g,0,none⟩),.int .i64 0])::(.pointer (some ⟨g,0,none⟩))::(.int .i64 0)::(.int .i64 0)::(.bool false)::undef::undef::undef::undef::undef::(.tuple #[.agg #[.int .u32 (x0:Nat),.int .u32 (x1:Nat)],.int .i64 0])::(.pointer (some ⟨g,0,none⟩))::(.tuple #[.agg #[.int .u32 (x0:Nat),.int .u32 (x1:Nat)],.int .i64 0])::(.agg #[.int .u32 (x0:Nat),.int .u32 (x1:Nat)])::(.int .i64 0)::(.int .i64 0)::(.bool false)::undef::undef::undef::undef::undef::(.pointer (some ⟨g,0,none⟩))::(.agg #[.int .u32 (x0:Nat),.int .u32 (x1:Nat)])::(.int .i64 (i:Nat))::(.int .i64 (i:Nat))::(.bool false)::undef::undef::undef::undef::(.pointer (some ⟨g,0,none⟩))::(.int .i64 (i:Nat))::(.tuple #[])::x.s49::x.s50::x.s51::x.s52::x.s53::x.s54::x.s55::x.s56::x.s57::x.s58::[]),defers:=[] }) (fun x W=>(x.b0→x.s49=.pointer (some ⟨g,0,none⟩))∧(x.b1→x.s50=.pointer (some ⟨g,0,none⟩))∧(x.b2→x.s51=.pointer (some ⟨g,0,none⟩))∧(x.b3→x.s52=.agg #[.int .i64 (bq:Nat),.int .i64 (N:Nat),.slice f5 n5 k5,.int .u16 (av:Nat),.int .u16 (t:Nat),.slice c5 m5 j5])∧(x.b4→x.s53=.pointer (some ⟨w2.heap.size,0,none⟩))∧(x.b5→x.s54=.int .u32 (x0:Nat))∧(x.b6→x.s55=.int .i64 (x0:Nat))∧(x.b7→x.s56=.pointer (some ⟨w2.heap.size,1,none⟩))∧(x.b8→x.s57=.int .u32 (x1:Nat))∧(x.b9→x.s58=.int .i64 (x1:Nat))∧(x.b11→x.s5=.int .i64 (x0:Nat))∧(x.b12→x.s6=.int .i64 (x1:Nat))∧(x.b13→x.s7=.int .i64 0)∧(W.heap[g]? = some (.cells #[.int .i64 (bq:Nat),.int .i64 (N:Nat),.slice f5 n5 k5,.int .u16 (av:Nat),.int .u16 (t:Nat),.slice c5 m5 j5,.slice va L vc] 133 (0,0)))∧(W.heap[w2.heap.size]? = some (.cells #[.int .u32 (x0:Nat),.int .u32 (x1:Nat)] 126 (0,0)))∧(x.b10=false→W.heap[w.heap.size+1+1]? = some (.cells #[.int .i64 0,.int .i64 0,.slice none 0 0,.int .u16 0,.int .u16 0,.slice none 0 0] 29 (0,0)))∧(x.b10→W.heap[w.heap.size+1+1]? = some (.cells #[.int .i64 (bq:Nat),.int .i64 (N:Nat),.slice f5 n5 k5,.int .u16 (av:Nat),.int .u16 (t:Nat),.slice c5 m5 j5] 29 (0,0)))∧(Below w.heap.size w W)∧(IsQ 0 W (.slice f5 n5 k5) (.slice c5 m5 j5) qq E5)) ⟨false,false,false,false,false,false,false,false,false,false,false,false,false,false,undef,undef,undef,undef,undef,undef,undef,undef,undef,undef,.int .i64 0,.int .i64 0,.int .i64 0⟩ rfl rfl ⟨Zf,Zf,Zf,Zf,Zf,Zf,Zf,Zf,Zf,Zf,Zf,Zf,Zf,HRW.out,HU5.out,(fun _=>HR5.out),Zf,HB5.out.drew,(HI5.out.base (Nat.zero_le _)).drew⟩ (fun _=>rfl) ?hstep ?hdone
   case hstep =>
    rintro ⟨b0,b1,b2,b3,b4,b5,b6,b7,b8,b9,b10,b11,b12,b13,s49,s50,s51,s52,s53,s54,s55,s56,s57,s58,s5,s6,s7⟩ W hI i hi
    dsimp only at hI hi ⊢
    have HI:=Zh hI
    clear hI
    rw [Region.ready,List.mem_filter,List.mem_range] at hi
    obtain ⟨hlt,hp⟩:=hi
    have hi7:i=0∨i=1∨i=2∨i=3∨i=4∨i=5∨i=6∨i=7∨i=8∨i=9∨i=10∨i=11∨i=12∨i=13:=by simp at hlt; omega
    clear hlt
    rcases hi7 with rfl|rfl|rfl|rfl|rfl|rfl|rfl|rfl|rfl|rfl|rfl|rfl|rfl|rfl
    all_goals simp [Region.binds] at hp
    · obtain rfl:b0=false:=by revert hp; cases b0 <;> simp
      clear hp; refine Zv 49 fun K' hK'=>?_
      go_simp
      exact hK'.out _ _ ⟨.mk ..,rfl,rfl,(Upd (fun _=>rfl)) HI.out⟩
    · obtain ⟨rfl,e0⟩:b1=false∧b0=true:=by revert hp; cases b1 <;> cases b0 <;> simp
      clear hp
      obtain rfl:=(HI.out.1) e0
      refine Zv 50 fun K' hK'=>?_
      go_simp
      exact hK'.out _ _ ⟨.mk ..,rfl,rfl,Nxt (Upd (fun _=>rfl)) HI.out⟩
    · obtain ⟨rfl,e1⟩:b2=false∧b1=true:=by revert hp; cases b2 <;> cases b1 <;> simp
      clear hp
      obtain rfl:=(HI.out.2.1) e1
      refine Zv 51 fun K' hK'=>?_
      go_simp
      exact hK'.out _ _ ⟨.mk ..,rfl,rfl,Nxt (Nxt (Upd (fun _=>rfl))) HI.out⟩
    · obtain ⟨rfl,e2⟩:b3=false∧b2=true:=by revert hp; cases b3 <;> cases b2 <;> simp
      clear hp
      obtain rfl:=(HI.out.2.2.1) e2
      refine Zv 52 fun K' hK'=>?_
      have rW:=(Zd (Ze HI.out)).2.1
      obtain ⟨hc0,_⟩:=at_cell rW 0 _ rfl
      obtain ⟨hc1,_⟩:=at_cell rW 1 _ rfl
      obtain ⟨hc2,_⟩:=at_cell rW 2 _ rfl
      obtain ⟨hc3,_⟩:=at_cell rW 3 _ rfl
      obtain ⟨hc4,_⟩:=at_cell rW 4 _ rfl
      obtain ⟨hc5,_⟩:=at_cell rW 5 _ rfl
      go_simp
      exact hK'.out _ _ ⟨.mk ..,rfl,rfl,Nxt (Nxt (Nxt (Upd (fun _=>rfl)))) HI.out⟩
    · obtain rfl:b4=false:=by revert hp; cases b4 <;> simp
      clear hp; refine Zv 53 fun K' hK'=>?_
      go_simp
      exact hK'.out _ _ ⟨.mk ..,rfl,rfl,Nx4 (Upd (fun _=>rfl)) HI.out⟩
    · obtain ⟨rfl,e4⟩:b5=false∧b4=true:=by revert hp; cases b5 <;> cases b4 <;> simp
      clear hp
      obtain rfl:=((Zd HI.out).1) e4
      refine Zv 54 fun K' hK'=>?_
      have rU:=(Zd (Ze HI.out)).2.2.1
      obtain ⟨hc0,_⟩:=at_cell rU 0 _ rfl
      go_simp
      exact hK'.out _ _ ⟨.mk ..,rfl,rfl,Nxt (Nx4 (Upd (fun _=>rfl))) HI.out⟩
    · obtain ⟨rfl,e5⟩:b6=false∧b5=true:=by revert hp; cases b6 <;> cases b5 <;> simp
      clear hp
      obtain rfl:=((Zd HI.out).2.1) e5
      refine Zv 55 fun K' hK'=>?_
      go_simp
      exact hK'.out _ _ ⟨.mk ..,rfl,rfl,Nxt (Nxt (Nx4 (Upd (fun _=>rfl)))) HI.out⟩
    · obtain rfl:b7=false:=by revert hp; cases b7 <;> simp
      clear hp; refine Zv 56 fun K' hK'=>?_
      go_simp
      exact hK'.out _ _ ⟨.mk ..,rfl,rfl,Nxt (Nxt (Nxt (Nx4 (Upd (fun _=>rfl))))) HI.out⟩
    · obtain ⟨rfl,e7⟩:b8=false∧b7=true:=by revert hp; cases b8 <;> cases b7 <;> simp
      clear hp
      obtain rfl:=((Zd HI.out).2.2.2.1) e7
      refine Zv 57 fun K' hK'=>?_
      have rU:=(Zd (Ze HI.out)).2.2.1
      obtain ⟨hc1,_⟩:=at_cell rU 1 _ rfl
      go_simp
      exact hK'.out _ _ ⟨.mk ..,rfl,rfl,Nx4 (Nx4 (Upd (fun _=>rfl))) HI.out⟩
    · obtain ⟨rfl,e8⟩:b9=false∧b8=true:=by revert hp; cases b9 <;> cases b8 <;> simp
      clear hp
      obtain rfl:=((Ze HI.out).1) e8
      refine Zv 58 fun K' hK'=>?_
      go_simp
      exact hK'.out _ _ ⟨.mk ..,rfl,rfl,Nxt (Nx4 (Nx4 (Upd (fun _=>rfl)))) HI.out⟩
    · obtain ⟨rfl,e3⟩:b10=false∧b3=true:=by revert hp; cases b10 <;> cases b3 <;> simp
      clear hp
      obtain rfl:=(HI.out.2.2.2.1) e3
      refine inv_op (o:=⟨none,_,_,_,_,_⟩) rfl (fun K' hK'=>?_)
      have rQ0:=(Zd (Ze HI.out)).2.2.2.1
      obtain ⟨hc0,hz0⟩:=at_cell (rQ0 rfl) 0 _ rfl
      obtain ⟨hc1,hz1⟩:=at_cell (rQ0 rfl) 1 _ rfl
      obtain ⟨hc2,hz2⟩:=at_cell (rQ0 rfl) 2 _ rfl
      obtain ⟨hc3,hz3⟩:=at_cell (rQ0 rfl) 3 _ rfl
      obtain ⟨hc4,hz4⟩:=at_cell (rQ0 rfl) 4 _ rfl
      obtain ⟨hc5,hz5⟩:=at_cell (rQ0 rfl) 5 _ rfl
      have hlt:=(Array.getElem?_eq_some_iff.1 (rQ0 rfl)).1
      go_simp
      obtain ⟨h0,h1,h2,h3,h4,h5,h6,h7,h8,h9,h11,h12,h13,rW,rU,rQ0,rQ1,gB,gI⟩:=HI.out
      exact hK'.out _ _ ⟨.mk ..,rfl,rfl,h0,h1,h2,h3,h4,h5,h6,h7,h8,h9,h11,h12,h13,(Zp6 rW (Zn rW (rQ0 rfl))),(Zp6 rU (Zn rU (rQ0 rfl))),Zf,(fun _=>(Zr (Zr (Zr (Zr (Zr (Zr (rQ0 rfl)))))))),(Zu6 gB (by show w.heap.size≤w.heap.size+1+1; omega)),((((((gI.stay (rQ0 rfl) tqI tqC _ _).stay (Zr (rQ0 rfl)) tqI tqC _ _).stay (Zr (Zr (rQ0 rfl))) tqI tqC _ _).stay (Zr (Zr (Zr (rQ0 rfl)))) tqI tqC _ _).stay (Zr (Zr (Zr (Zr (rQ0 rfl))))) tqI tqC _ _).stay (Zr (Zr (Zr (Zr (Zr (rQ0 rfl)))))) tqI tqC _ _)⟩
    · obtain ⟨rfl,e6,e10⟩:b11=false∧b6=true∧b10=true:=by revert hp; cases b11 <;> cases b6 <;> cases b10 <;> simp
      clear hp
      obtain rfl:=((Zd HI.out).2.2.1) e6
      refine Zv 5 fun K' hK'=>?_
      go_simp
      exact hK'.out _ _ ⟨.mk ..,rfl,rfl,Nxt (Nxt (Nx4 (Nx4 (Upd (fun _=>rfl))))) HI.out⟩
    · obtain ⟨rfl,e9,e11⟩:b12=false∧b9=true∧b11=true:=by revert hp; cases b12 <;> cases b9 <;> cases b11 <;> simp
      clear hp
      obtain rfl:=((Ze HI.out).2.1) e9
      refine Zv 6 fun K' hK'=>?_
      go_simp
      exact hK'.out _ _ ⟨.mk ..,rfl,rfl,Nxt (Nxt (Nxt (Nx4 (Nx4 (Upd (fun _=>rfl)))))) HI.out⟩
    · obtain ⟨rfl,e12⟩:b13=false∧b12=true:=by revert hp; cases b13 <;> cases b12 <;> simp
      clear hp; refine Zv 7 fun K' hK'=>?_
      go_simp
      exact hK'.out _ _ ⟨.mk ..,rfl,rfl,Nx4 (Nx4 (Nx4 (Upd (fun _=>rfl)))) HI.out⟩
   case hdone =>
    rintro ⟨b0,b1,b2,b3,b4,b5,b6,b7,b8,b9,b10,b11,b12,b13,s49,s50,s51,s52,s53,s54,s55,s56,s57,s58,s5,s6,s7⟩ W hI hall
    dsimp only at hI hall ⊢
    have HI:=Zh hI
    clear hI
    obtain rfl:b0=true:=hall 0 (by decide)
    obtain rfl:b1=true:=hall 1 (by decide)
    obtain rfl:b2=true:=hall 2 (by decide)
    obtain rfl:b3=true:=hall 3 (by decide)
    obtain rfl:b4=true:=hall 4 (by decide)
    obtain rfl:b5=true:=hall 5 (by decide)
    obtain rfl:b6=true:=hall 6 (by decide)
    obtain rfl:b7=true:=hall 7 (by decide)
    obtain rfl:b8=true:=hall 8 (by decide)
    obtain rfl:b9=true:=hall 9 (by decide)
    obtain rfl:b10=true:=hall 10 (by decide)
    obtain rfl:b11=true:=hall 11 (by decide)
    obtain rfl:b12=true:=hall 12 (by decide)
    obtain rfl:b13=true:=hall 13 (by decide)
    obtain rfl:=((Ze HI.out).2.2.1) rfl
    obtain rfl:=((Ze HI.out).2.2.2.1) rfl
    obtain rfl:=((Zd (Ze HI.out)).1) rfl
    have rQ1:=(Zg HI.out).1
    have gB:=(Zg HI.out).2.1
    have gI:=(Zg HI.out).2.2
    clear HI hall
    obtain ⟨⟨r0,r1,r2,r3,r4,r5⟩,_⟩:=cells_six (rQ1 rfl)
    have HB6:=Zh gB
    have HI6:=Zh gI
    clear rQ1 gB gI
    go_wp2
    refine bodyPost_ret (v:=.tuple #[.agg #[.int .i64 (bq:Nat),.int .i64 (N:Nat),.slice f5 n5 k5,.int .u16 (av:Nat),.int .u16 (t:Nat),.slice c5 m5 j5],.int .i64 (x0:Nat),.int .i64 (x1:Nat),.int .i64 0]) (by simp [results,Tryz.results30,go_sem,r0,r1,r2,r3,r4,r5]) rfl (.inr ⟨i,c,_,_,_,rfl,HC.out,HZ.out,by rw [←HQQ.out]; exact HI6.out,HB6.out⟩)
theorem poll_any (q:QQ) (N bq:Nat) (F C v:Value) (D:List Value) (l:List UInt8) (w:World) (hv:OwnB 0 w v l) (hq:IsQ 0 w F C q D) (hg:GoodQ q N) (hbq:q.base=(bq:Nat)) (hok:RingOk l.length bq N) :
 Calls Tryz.prog 30 #[.agg #[v],.agg #[.int .i64 q.base,.int .i64 q.size,F,.int .u16 (q.avail:Nat),.int .u16 (q.last:Nat),C]] w fun e w'=>∃ q2 x y E F2 C2 D2,e=.returned (.tuple #[.agg #[.int .i64 q2.base,.int .i64 q2.size,F2,.int .u16 (q2.avail:Nat),.int .u16 (q2.last:Nat),C2],.int .i64 x,.int .i64 y,.int .i64 E])∧PollSpec l bq N q q2 x y E∧IsQ 0 w' F2 C2 q2 D2∧Below w.heap.size w w':=by
 by_cases h0:aheadQ l bq N q=0
 · refine (poll_none q N bq q.last 0 0 7 F C v D l w hv hq hg hbq hok (.inl ⟨h0,rfl,rfl,rfl,rfl⟩) (.inl rfl)).mono ?_
   rintro e w' ⟨F2,C2,D2,rfl,h1,h2⟩
   exact ⟨q,0,0,7,F2,C2,D2,rfl,.inl ⟨h0,rfl,rfl,rfl,rfl⟩,h1,h2⟩
 by_cases h1:q.chains.length < aheadQ l bq N q
 · refine (poll_none q N bq (usedI l bq N) 0 0 80 F C v D l w hv hq hg hbq hok (.inr (.inl ⟨h1,rfl,rfl,rfl,rfl⟩)) (.inr rfl)).mono ?_
   rintro e w' ⟨F2,C2,D2,rfl,h2,h3⟩
   exact ⟨_,0,0,80,F2,C2,D2,rfl,.inr (.inl ⟨h1,rfl,rfl,rfl,rfl⟩),h2,h3⟩
 have h2:0 < aheadQ l bq N q:=by omega
 have h3:aheadQ l bq N q≤q.chains.length:=by omega
 refine (poll_used q N bq ((q.last+1) % 65536) _ _ 0 F C v D l w hv hq hg hbq hok (.inr (.inr ⟨h2,h3,rfl,rfl,rfl,rfl⟩)) rfl (usedE_lt _ _ _ _ _) (usedE_lt _ _ _ _ _) (Nat.mod_lt _ (by decide))).mono ?_
 rintro e w' (⟨F2,C2,D2,rfl,h4,h5,h6⟩|⟨i,c,F2,C2,D2,rfl,h4,h5,h6,h7⟩)
 · exact ⟨_,0,0,80,F2,C2,D2,rfl,.inr (.inr (.inl ⟨h2,h3,h4,rfl,rfl,rfl,rfl⟩)),h5,h6⟩
 · exact ⟨_,_,_,0,F2,C2,D2,rfl,.inr (.inr (.inr ⟨h2,h3,i,c,h4,h5,rfl,rfl,rfl,rfl⟩)),h6,h7⟩
def DescIs (l:List UInt8) (p a n f x:Nat):Prop:=numAt l p 8=a∧numAt l (p+8) 4=n∧numAt l (p+12) 2=f∧numAt l (p+14) 2=x
def Chained (l:List UInt8) (B:Nat) (ds:List Int) (bs:List QB):Prop :=
 ∀ k,k < bs.length→DescIs l (B+16 * (ds.getD k 0).toNat) (bs.getD k (0,0,false)).1.toNat (bs.getD k (0,0,false)).2.1.toNat (flagOf (bs.getD k (0,0,false)).2.2 (moreAt bs k)) (nextOf ds bs k)
theorem getD_in {ds:List Int} {N k:Nat} (hd:∀ d∈ds,0≤d∧d < (N:Int)) (hk:k < ds.length):0≤ds.getD k 0∧ds.getD k 0 < (N:Int):=by
 have h3:ds.getD k 0=ds[k]:=by simp [List.getD_eq_getElem?_getD,hk]
 rw [h3]
 exact hd _ (List.getElem_mem hk)
theorem nextOf_lt {ds:List Int} {bs:List QB} {N:Nat} (hd:∀ d∈ds,0≤d∧d < (N:Int)) (hl:ds.length=bs.length) (hN:N≤16) (k:Nat):nextOf ds bs k < 65536:=by
 unfold nextOf
 by_cases h:k+1 < bs.length
 · rw [if_pos h]
   have h1:=getD_in hd (show k+1 < ds.length by omega)
   omega
 · rw [if_neg h]; decide
theorem flagOf_lt (t m:Bool):flagOf t m < 65536:=by cases t <;> cases m <;> decide
theorem layK_chained {l:List UInt8} {B N:Nat} {ds:List Int} {bs:List QB} (hok:RingOk l.length B N) (hd:∀ d∈ds,0≤d∧d < (N:Int)) (hn:ds.Nodup) (hl:ds.length=bs.length) (hb:∀ x∈bs,InB l.length x) :
 ∀ m,m≤bs.length→∀ k,k < m→DescIs (layK l B ds bs m) (B+16 * (ds.getD k 0).toNat) (bs.getD k (0,0,false)).1.toNat (bs.getD k (0,0,false)).2.1.toNat (flagOf (bs.getD k (0,0,false)).2.2 (moreAt bs k)) (nextOf ds bs k)
 | 0,_,k,hk=>absurd hk (Nat.not_lt_zero _)
 | m+1,hm,k,hk=>by
   have hlen:=layK_length (bs:=bs) hok hd m (by omega)
   have hlie:=hok.lie
   have hm1:=getD_in hd (show m < ds.length by omega)
   have hp:B+16 * (ds.getD m 0).toNat+16≤(layK l B ds bs m).length:=by rw [hlen]; omega
   rw [layK]
   by_cases e:k=m
   · subst e
     have hmem:bs.getD k (0,0,false)∈bs:=by
      rw [List.getD_eq_getElem?_getD,List.getElem?_eq_getElem (show k < bs.length by omega)]
      exact List.getElem_mem _
     obtain ⟨i1,i2,i3⟩:=hb _ hmem
     have hf:=hok.few
     exact setD_there _ _ _ _ hp (by omega) (by omega) (flagOf_lt _ _) (nextOf_lt hd hl hlie.2.1 k)
   · have hk1:=getD_in hd (show k < ds.length by omega)
     have hne:ds.getD k 0≠ds.getD m 0:=by
      intro e2
      have h3:ds.getD k 0=ds[k]'(by omega):=by simp [List.getD_eq_getElem?_getD,show k < ds.length by omega]
      have h4:ds.getD m 0=ds[m]'(by omega):=by simp [List.getD_eq_getElem?_getD,show m < ds.length by omega]
      rw [h3,h4] at e2
      exact e ((List.getElem_inj hn).1 e2)
     obtain ⟨g1,g2,g3,g4⟩:=layK_chained hok hd hn hl hb m (by omega) k (by omega)
     refine ⟨?_,?_,?_,?_⟩
     · rw [setD_other _ _ _ _ hp (by omega)]; exact g1
     · rw [setD_other _ _ _ _ hp (by omega)]; exact g2
     · rw [setD_other _ _ _ _ hp (by omega)]; exact g3
     · rw [setD_other _ _ _ _ hp (by omega)]; exact g4
theorem GoodQ.nodup {q:QQ} {N:Nat} (h:GoodQ q N):q.free.Nodup:=by
 have h1:(upN N).Nodup:=(List.pairwise_map.2 ((List.pairwise_lt_range (n:=N)).imp (fun h=>by omega)):(upN N).Pairwise (· < ·)).imp (fun h=>Int.ne_of_lt h)
 exact (List.nodup_append.1 (h.perm.nodup_iff.2 h1)).1
theorem addM_chained {l:List UInt8} {B N:Nat} {q:QQ} {bs:List QB} (hok:RingOk l.length B N) (hg:GoodQ q N) (hn:bs.length≤q.free.length) (hb:∀ x∈bs,InB l.length x):Chained (addM l B N q bs) B (q.free.take bs.length) bs:=by
 intro k hk
 have hd:∀ d∈q.free.take bs.length,0≤d∧d < (N:Int):=fun d hd=>hg.freeIn (List.mem_of_mem_take hd)
 have hl:(q.free.take bs.length).length=bs.length:=by rw [List.length_take]; omega
 obtain ⟨g1,g2,g3,g4⟩:=layK_chained hok hd (List.Sublist.nodup (List.take_sublist _ _) hg.nodup) hl hb bs.length (Nat.le_refl _) k hk
 have h1:=layK_length (bs:=bs) hok hd bs.length (by omega)
 have h2:=getD_in hd (show k < (q.free.take bs.length).length by omega)
 have hok2:RingOk (layK l B (q.free.take bs.length) bs bs.length).length B N:=by rw [h1]; exact hok
 have hlie:=hok.lie
 unfold addM
 refine ⟨?_,?_,?_,?_⟩
 · rw [offerD_other _ _ hok2 (by omega)]; exact g1
 · rw [offerD_other _ _ hok2 (by omega)]; exact g2
 · rw [offerD_other _ _ hok2 (by omega)]; exact g3
 · rw [offerD_other _ _ hok2 (by omega)]; exact g4
theorem cells_four {X:World} {r:Nat} {a b c d:Value} {t:TypeId} (h:X.heap[r]? = some (.cells #[a,b,c,d] t (0,0))) :
 (X.cell? ⟨r,0,none⟩=some a∧X.cell? ⟨r,1,none⟩=some b∧X.cell? ⟨r,2,none⟩=some c∧X.cell? ⟨r,3,none⟩=some d)∧X.frozen? ⟨r,0,none⟩=false∧X.frozen? ⟨r,1,none⟩=false∧X.frozen? ⟨r,2,none⟩=false∧X.frozen? ⟨r,3,none⟩=false :=
 ⟨⟨(at_cell h 0 _ rfl).1,(at_cell h 1 _ rfl).1,(at_cell h 2 _ rfl).1,(at_cell h 3 _ rfl).1⟩,(at_cell h 0 _ rfl).2,(at_cell h 1 _ rfl).2,(at_cell h 2 _ rfl).2,(at_cell h 3 _ rfl).2⟩
theorem infoBf:(Tryz.prog.info? 80).map (fun i=>(i.zero,i.size,i.bytes))=some (some (.agg #[.int .i64 0,.int .i64 0,.bool false]),3,24):=by kernel_rfl
theorem buf_one (a n:Int) (b:Bool):∀ u∈[Value.int .i64 a,.int .i64 n,.bool b],u.oneCell'=true:=by
 intro u hu
 simp at hu
 rcases hu with rfl|rfl|rfl <;> rfl
theorem flag_bits (t m:Bool):bits BinOp.and IntKind.u16 ((flagOf t m:Nat):Int) 1=(if m then 1 else 0)∧bits BinOp.and IntKind.u16 ((flagOf t m:Nat):Int) 2=(if t then 2 else 0):=by
 obtain ⟨a0,a1,a2,a3⟩:=bits_one
 obtain ⟨c0,c1,c2,c3⟩:=bits_two
 cases t <;> cases m
 · exact ⟨a0,c0⟩
 · exact ⟨a1,c1⟩
 · exact ⟨a2,c2⟩
 · exact ⟨a3,c3⟩
theorem grown_other {w w':World} {B m s:Nat} {v:Value} {e t:TypeId} {ys:List Value} {k:Nat} {cur:Array Value} {f:Nat × Nat} (h:w.grownBy w' v.ownBlock) (hv:w.ownsRow B e s v m ys) (hk:w.heap[k]? = some (.cells cur t f)) (ht:(t:Nat)≠e):w'.heap[k]? = some (.cells cur t f) :=
 (h.block k (Array.getElem?_eq_some_iff.1 hk).1 (fun e'=>by
  have e':=e'.symm
  rcases hv.2 with ⟨rfl,_⟩|⟨g,cap,c2,rfl,_,hh,_⟩
  · cases e'
  · have e':g=k:=by simpa [Value.ownBlock] using e'
    subst e'
    rw [hk] at hh
    injection hh with hh
    injection hh with _ hh _
    exact ht hh)).trans hk
theorem own_more {w:World} {B n k:Nat} {v:Value} {bs:List QB} {x:QB} (h:w.ownsRow B 80 3 v n (bufCells (bs.take k)++[.int .i64 x.1,.int .i64 x.2.1,.bool x.2.2])) (hn:n=(bs.take k).length+1) (hx:bs[k]? = some x):OwnBf B w v (bs.take (k+1)):=by
 have h1:bs.take (k+1)=bs.take k++[x]:=by rw [List.take_add_one,hx]; rfl
 unfold OwnBf
 rw [h1,bufCells_append,List.length_append,List.length_singleton,←hn]
 exact h
def lenOf:Value→Nat
 | .slice _ n _=>n
 | _=>0
set_option maxHeartbeats 4000000 in
set_option maxRecDepth 100000 in
theorem follow_any (N bq:Nat) (v:Value) (l:List UInt8) (ds:List Int) (bs:List QB) (hd:Int) (w:World) (hv:OwnB 0 w v l) (hok:RingOk l.length bq N) (hch:Chained l bq ds bs) (hds:∀ d∈ds,0≤d∧d < (N:Int)) (hl:ds.length=bs.length) (h1:1≤bs.length) (h2:bs.length≤N) (h3:∀ x∈bs,InB l.length x) (hhd:hd=ds.getD 0 0) :
 Calls Tryz.prog 50 #[.agg #[v],.int .i64 (bq:Nat),.int .i64 (N:Nat),.int .i64 hd] w fun e w'=>∃ r,e=.returned (.tuple #[r,.int .i64 0])∧OwnBf 0 w' r bs∧Below w.heap.size w w':=by
 have HHD:=Zh hhd
 clear hhd
 obtain ⟨ib,hib,hbz0,hbz1,hbz2⟩:=info_parts infoBf
 obtain ⟨ma,mc,rfl,hv1,hv2⟩:=hv.shape
 obtain ⟨L,hL⟩:∃ L,L=l.length:=⟨_,rfl⟩
 rw [←hL] at hv hok h3 hv1 ⊢
 have hN16:N≤16:=hok.right.le.2
 have hb:Below w.heap.size w (w.alloc (.cells #[.slice ma L mc] 24)):=(Below.refl _ _).alloc (Nat.le_refl _) _
 have HB0:=Zh hb
 have HV:=Zh (hv.below hb)
 have HBX:=Zh (heap_alloc_new w (.cells #[.slice ma L mc] 24))
 have HOK:=Zh hok
 have HCH:=Zh hch
 have HDS:=Zh hds
 have HL:=Zh hl
 have HLL:=Zh hL.symm
 have HF:=Zh (show 1≤bs.length∧bs.length≤N from ⟨h1,h2⟩)
 have HIN:=Zh h3
 have HBS:=Zh (show (w.alloc (.cells #[.slice ma L mc] 24)).heap.size=w.heap.size+1 by simp)
 clear hv hok hch hds hl h1 h2 h3 hv1 hv2 hL hb
 go_enter Tryz.func50,Tryz.ntmps50
 go_wp2
 go_step3
 go_wp2
 go_step3
 go_wp2
 go_loopw [10,11] (fun v i wr=>∃ (k:Nat) (va:Option Addr) (vc:Nat),k < bs.length∧v=.slice va k vc∧i=.int .i64 (ds.getD k 0)∧OwnBf (w.heap.size+1) wr (.slice va k vc) (bs.take k)∧Below (w.alloc (.cells #[.slice ma L mc] 24)).heap.size (w.alloc (.cells #[.slice ma L mc] 24)) wr) (fun v _ _=>N - lenOf v)
 case atStart=>exact ⟨0,none,0,HF.out.1,rfl,by rw [HHD.out],World.ownsRow_nil _ _ _ _,Below.refl _ _⟩
 case round =>
  obtain ⟨k,va,vc,hk,rfl,rfl,hO,hbw⟩:=hrel
  have hkd:k < ds.length:=by rw [HL.out]; exact hk
  have hg:=getD_in HDS.out hkd
  obtain ⟨dk,hdk⟩:=Int.eq_ofNat_of_zero_le hg.1
  have HDK:=Zh hdk
  rw [hdk] at hg ⊢
  have hdN:dk < N:=by omega
  have hx:bs[k]? = some bs[k]:=List.getElem?_eq_getElem hk
  obtain ⟨px0,py0,pt,hb3⟩:∃ a c t,bs[k]=(a,c,t):=⟨_,_,_,rfl⟩
  rw [hb3] at hx
  have hin:=HIN.out _ (List.mem_of_getElem? hx)
  obtain ⟨i1,i2,i3⟩:=hin
  simp only at i1 i2 i3
  obtain ⟨px,rfl⟩:=Int.eq_ofNat_of_zero_le i1
  obtain ⟨py,rfl⟩:=Int.eq_ofNat_of_zero_le (show 0≤py0 by omega)
  obtain ⟨d0,d1,d2,d3⟩:=HCH.out k hk
  rw [hdk] at d0 d1 d2 d3
  rw [show bs.getD k (0,0,false)=((px:Int),(py:Int),pt) by rw [List.getD_eq_getElem?_getD,hx]; rfl] at d0 d1 d2
  simp only [Int.toNat_natCast] at d0 d1 d2 d3
  obtain ⟨fb1,fb2⟩:=flag_bits pt (moreAt bs k)
  obtain ⟨fl,hfl⟩:∃ x,flagOf pt (moreAt bs k)=x:=⟨_,rfl⟩
  rw [hfl] at d2 fb1 fb2
  have hok2:RingOk l.length bq N:=by rw [HLL.out]; exact HOK.out
  have HX0:=Zh ((descX_ok hok2 hdN 0 8).trans d0)
  have HX1:=Zh ((descX_ok hok2 hdN 8 4).trans d1)
  have HX2:=Zh ((descX_ok hok2 hdN 12 2).trans d2)
  have HX3:=Zh ((descX_ok hok2 hdN 14 2).trans d3)
  have HXF:=Zh (descF_ok hok2 hdN)
  have hlie:=hok2.lie
  have hlm:=Zh (show l.length≤maxLen by unfold maxLen; omega)
  have hL8:L≤8192:=by rw [←HLL.out]; exact hlie.2.2.2.2
  have hkN:k < N:=by have:=HF.out.2; omega
  have HO:=Zh hO
  have HBw:=Zh hbw
  have HK:=Zh hk
  have HX:=Zh hx
  have HIP:=Zh (show 1≤py∧px+py≤L by omega)
  have HP9:=Zh (show px < 9223372036854775808∧py < 4294967296 by omega)
  have HFB:=Zh (show (pt=false∧(if pt then (2:Int) else 0)=0)∨(pt=true∧(if pt then (2:Int) else 0)=2) by cases pt <;> simp)
  have HFB2:=Zh fb2
  obtain ⟨l0,y0⟩:=one_cell (row_keep HBX.out hbw)
  have hpyw:IntKind.u64.wrap ((py:Nat):Int)=(py:Nat):=IntWalk.u64_in _ (by omega)
  clear hO hbw hg hx hb3 i1 i2 i3 d0 d1 d2 d3 hkd hdk hok2 hlie fb2 hfl
  go_wp2_with fail
  refine (desc_any _ l bq N dk 0 px py fl (nextOf ds bs k) HXF.out HX0.out HX1.out HX2.out HX3.out hlm.out _ (HV.out.below HBw.out).arg).mono ?_
  rintro e w1 ⟨rfl,hb⟩
  obtain ⟨nx,hnx⟩:∃ x,nextOf ds bs k=x:=⟨_,rfl⟩
  rw [hnx]
  have HNX:=Zh hnx
  have hnxw:IntKind.i64.wrap ((nx:Nat):Int)=(nx:Nat):=IntWalk.i64_in _ (by have:=nextOf_lt HDS.out HL.out hN16 k; omega)
  have HB1:=Zh (HBw.out.trans (hb.mono HBw.out.size))
  have HO1:=Zh (HO.out.below hb)
  obtain ⟨DB,hDB⟩:∃ o:Obj,o=(.cells #[.int .u64 (px:Nat),.int .u32 (py:Nat),.int .u16 (fl:Nat),.int .u16 (nx:Nat)] 159):=⟨_,rfl⟩
  have hal:Below w1.heap.size w1 (w1.alloc DB):=(Below.refl _ _).alloc (Nat.le_refl _) _
  have HB2:=Zh (HB1.out.trans (hal.mono HB1.out.size))
  have HO2:=Zh (HO1.out.below hal)
  have HD2:=Zh (show (w1.alloc DB).heap[w1.heap.size]? = some (.cells #[.int .u64 (px:Nat),.int .u32 (py:Nat),.int .u16 (fl:Nat),.int .u16 (nx:Nat)] 159 (0,0)) from by rw [hDB]; exact heap_alloc_new w1 _)
  rw [hDB] at HB2 HO2 HD2
  clear hb hnx hal hDB DB HO HBw HB1 HO1 l0 y0 hlm HXF HX0 HX1 HX2 HX3
  obtain ⟨l0,y0⟩:=one_cell (row_keep HBX.out HB2.out)
  obtain ⟨⟨e0,e1,e2,e3⟩,_⟩:=cells_four HD2.out
  go_wp2_with fail
  refine (lies_in ma L mc px py hL8 HIP.out.1 HIP.out.2 _).mono ?_
  rintro e w3 ⟨rfl,hb⟩
  have HB3:=Zh (HB2.out.trans (hb.mono HB2.out.size))
  have HO3:=Zh (HO2.out.below hb)
  have HD3:=Zh (row_keep HD2.out hb)
  clear hb HB2 HO2 HD2 l0 y0 e0 e1 e2 e3
  obtain ⟨⟨e0,e1,e2,e3⟩,_⟩:=cells_four HD3.out
  have hmore:moreAt bs k=decide (k+1 < bs.length):=rfl
  by_cases hm:k+1 < bs.length
  · rw [hmore,decide_eq_true hm] at fb1
    simp only [if_true] at fb1
    have HM:=Zh hm
    clear hm hmore
    go_wp2_with fail
    refine (partOf_in px py fl nx pt _ HP9.out.1 HP9.out.2 HFB2.out HFB.out _).mono ?_
    rintro e w4 ⟨rfl,hb⟩
    have HB4:=Zh (HB3.out.trans (hb.mono HB3.out.size))
    have HD4:=Zh (row_keep HD3.out hb)
    have h4o:=HO3.out.below hb
    have hbb:Below w4.heap.size w4 (w4.alloc (.cells #[.int .i64 (px:Nat),.int .i64 (py:Nat),.bool pt] 80)):=(Below.refl _ _).alloc (Nat.le_refl _) _
    obtain ⟨⟨a0,a1,a2⟩,_⟩:=cells_three (heap_alloc_new w4 (.cells #[.int .i64 (px:Nat),.int .i64 (py:Nat),.bool pt] 80))
    have h4s:w.heap.size+1≤w4.heap.size:=by have:=HB4.out.size; rw [HBS.out] at this; exact this
    have h4k:(bs.take k).length=k:=by rw [List.length_take]; have:=HK.out; omega
    have HO6:=Zh (show OwnBf (w.heap.size+1) (w4.alloc (.cells #[.int .i64 (px:Nat),.int .i64 (py:Nat),.bool pt] 80)) (.slice va k vc) (bs.take k)∧(w4.alloc (.cells #[.int .i64 (px:Nat),.int .i64 (py:Nat),.bool pt] 80)).heap[w1.heap.size]? = some (.cells #[.int .u64 (px:Nat),.int .u32 (py:Nat),.int .u16 (fl:Nat),.int .u16 (nx:Nat)] 159 (0,0))∧(w4.alloc (.cells #[.int .i64 (px:Nat),.int .i64 (py:Nat),.bool pt] 80)).cell? ⟨w4.heap.size,0,none⟩=some (.int .i64 (px:Nat))∧(w4.alloc (.cells #[.int .i64 (px:Nat),.int .i64 (py:Nat),.bool pt] 80)).cell? ⟨w4.heap.size,1,none⟩=some (.int .i64 (py:Nat))∧(w4.alloc (.cells #[.int .i64 (px:Nat),.int .i64 (py:Nat),.bool pt] 80)).cell? ⟨w4.heap.size,2,none⟩=some (.bool pt)∧(bs.take k).length+1≤1000∧w.heap.size+1≤(w4.alloc (.cells #[.int .i64 (px:Nat),.int .i64 (py:Nat),.bool pt] 80)).heap.size from ⟨h4o.below hbb,row_keep HD4.out hbb,a0,a1,a2,by omega,Nat.le_trans h4s hbb.size⟩)
    have HB6:=Zh (HB4.out.trans (hbb.mono HB4.out.size))
    clear hb HB3 HO3 HD3 h4o hbb a0 a1 a2 h4s h4k e0 e1 e2 e3
    obtain ⟨⟨e0,e1,e2,e3⟩,_⟩:=cells_four HD4.out
    go_wp2_with (at_builtin; refine wpList_append_own _ rfl _ _ 68 rfl (w.heap.size+1) 80 ib (.agg #[.int .i64 0,.int .i64 0,.bool false]) 3 24 Tryz.underlying68 hib hbz0 hbz1 hbz2 rfl (by decide) _ _ _ rfl HO6.out.1 ⟨w4.heap.size,0,none⟩ 1 1 [.int .i64 (px:Nat),.int .i64 (py:Nat),.bool pt] rfl rfl (three_news HO6.out.2.2.1 HO6.out.2.2.2.1 HO6.out.2.2.2.2.1) (buf_one _ _ _) (by have:=HO6.out.2.2.2.2.2.1; unfold maxLen; omega) (by have:=HO6.out.2.2.2.2.2.1; omega) HO6.out.2.2.2.2.2.2 ?_; intro v' w6 hown6 hgrow6 _; obtain ⟨k6,hk6⟩:∃ n,n=(bs.take k).length+1:=⟨_,rfl⟩; rw [←hk6] at hown6; have HK6:=Zh hk6; clear hk6; obtain ⟨va6,vc6,rfl,q1,q2⟩:=owns_slice hown6; clear q1 q2; obtain ⟨⟨f0,f1,f2,f3⟩,_⟩:=cells_four (grown_other hgrow6 HO6.out.1 HO6.out.2.1 (by decide)))
    go_roundw
    case rel =>
     have hk6:k6=k+1:=by rw [HK6.out,List.length_take]; omega
     have ho:=own_more (x:=((px:Int),(py:Int),pt)) hown6 HK6.out HX.out
     rw [hk6] at ho ⊢
     refine ⟨k+1,va6,vc6,HM.out,rfl,?_,ho,?_⟩
     · have h1:=getD_in HDS.out (show k+1 < ds.length by rw [HL.out]; exact HM.out)
       have h2:=HNX.out
       unfold nextOf at h2
       rw [if_pos HM.out] at h2
       rw [←h2,Int.toNat_of_nonneg h1.1]
     · exact HB6.out.trans ((Below.refl _ _).grown hgrow6 (by rw [HBS.out]; exact HO6.out.2.2.2.2.2.2) (fun j hj=>by rw [HBS.out]; exact (HO6.out.1.lt j hj).1))
    case measure =>
     have hk6:k6=k+1:=by rw [HK6.out,List.length_take]; omega
     simp [lenOf]
     omega
  · rw [hmore,decide_eq_false hm] at fb1
    simp only [Bool.false_eq_true,if_false] at fb1
    have HM:=Zh hm
    clear hm hmore
    go_wp2_with fail
    refine (partOf_in px py fl nx pt _ HP9.out.1 HP9.out.2 HFB2.out HFB.out _).mono ?_
    rintro e w4 ⟨rfl,hb⟩
    have HB4:=Zh (HB3.out.trans (hb.mono HB3.out.size))
    have HD4:=Zh (row_keep HD3.out hb)
    have h4o:=HO3.out.below hb
    have hbb:Below w4.heap.size w4 (w4.alloc (.cells #[.int .i64 (px:Nat),.int .i64 (py:Nat),.bool pt] 80)):=(Below.refl _ _).alloc (Nat.le_refl _) _
    obtain ⟨⟨a0,a1,a2⟩,_⟩:=cells_three (heap_alloc_new w4 (.cells #[.int .i64 (px:Nat),.int .i64 (py:Nat),.bool pt] 80))
    have h4s:w.heap.size+1≤w4.heap.size:=by have:=HB4.out.size; rw [HBS.out] at this; exact this
    have h4k:(bs.take k).length=k:=by rw [List.length_take]; have:=HK.out; omega
    have HO6:=Zh (show OwnBf (w.heap.size+1) (w4.alloc (.cells #[.int .i64 (px:Nat),.int .i64 (py:Nat),.bool pt] 80)) (.slice va k vc) (bs.take k)∧(w4.alloc (.cells #[.int .i64 (px:Nat),.int .i64 (py:Nat),.bool pt] 80)).heap[w1.heap.size]? = some (.cells #[.int .u64 (px:Nat),.int .u32 (py:Nat),.int .u16 (fl:Nat),.int .u16 (nx:Nat)] 159 (0,0))∧(w4.alloc (.cells #[.int .i64 (px:Nat),.int .i64 (py:Nat),.bool pt] 80)).cell? ⟨w4.heap.size,0,none⟩=some (.int .i64 (px:Nat))∧(w4.alloc (.cells #[.int .i64 (px:Nat),.int .i64 (py:Nat),.bool pt] 80)).cell? ⟨w4.heap.size,1,none⟩=some (.int .i64 (py:Nat))∧(w4.alloc (.cells #[.int .i64 (px:Nat),.int .i64 (py:Nat),.bool pt] 80)).cell? ⟨w4.heap.size,2,none⟩=some (.bool pt)∧(bs.take k).length+1≤1000∧w.heap.size+1≤(w4.alloc (.cells #[.int .i64 (px:Nat),.int .i64 (py:Nat),.bool pt] 80)).heap.size from ⟨h4o.below hbb,row_keep HD4.out hbb,a0,a1,a2,by omega,Nat.le_trans h4s hbb.size⟩)
    have HB6:=Zh (HB4.out.trans (hbb.mono HB4.out.size))
    clear hb HB3 HO3 HD3 h4o hbb a0 a1 a2 h4s h4k e0 e1 e2 e3
    obtain ⟨⟨e0,e1,e2,e3⟩,_⟩:=cells_four HD4.out
    go_wp2_with (at_builtin; refine wpList_append_own _ rfl _ _ 68 rfl (w.heap.size+1) 80 ib (.agg #[.int .i64 0,.int .i64 0,.bool false]) 3 24 Tryz.underlying68 hib hbz0 hbz1 hbz2 rfl (by decide) _ _ _ rfl HO6.out.1 ⟨w4.heap.size,0,none⟩ 1 1 [.int .i64 (px:Nat),.int .i64 (py:Nat),.bool pt] rfl rfl (three_news HO6.out.2.2.1 HO6.out.2.2.2.1 HO6.out.2.2.2.2.1) (buf_one _ _ _) (by have:=HO6.out.2.2.2.2.2.1; unfold maxLen; omega) (by have:=HO6.out.2.2.2.2.2.1; omega) HO6.out.2.2.2.2.2.2 ?_; intro v' w6 hown6 hgrow6 _; obtain ⟨k6,hk6⟩:∃ n,n=(bs.take k).length+1:=⟨_,rfl⟩; rw [←hk6] at hown6; have HK6:=Zh hk6; clear hk6; obtain ⟨va6,vc6,rfl,q1,q2⟩:=owns_slice hown6; clear q1 q2; obtain ⟨⟨f0,f1,f2,f3⟩,_⟩:=cells_four (grown_other hgrow6 HO6.out.1 HO6.out.2.1 (by decide)))
    rw [Exit.noGoto_ret]
    refine bodyPost_ret (v:=.tuple #[.slice va6 k6 vc6,.int .i64 0]) (by simp [results,Tryz.results50,go_sem]) rfl ⟨_,rfl,?_,?_⟩
    · have ho:=own_more (x:=((px:Int),(py:Int),pt)) hown6 HK6.out HX.out
      rw [List.take_of_length_le (by have:=HM.out; omega)] at ho
      exact ho.base (Nat.zero_le _)
    · exact HB0.out.trans ((HB6.out.trans ((Below.refl _ _).grown hgrow6 (by rw [HBS.out]; exact HO6.out.2.2.2.2.2.2) (fun j hj=>by rw [HBS.out]; exact (HO6.out.1.lt j hj).1))).mono (by rw [HBS.out]; omega))
set_option maxHeartbeats 4000000 in
set_option maxRecDepth 100000 in
theorem next_ok (N bq se us idx hd:Nat) (v:Value) (l:List UInt8) (ds:List Int) (bs:List QB) (w:World) (hv:OwnB 0 w v l) (hok:RingOk l.length bq N) (hch:Chained l bq ds bs) (hds:∀ d∈ds,0≤d∧d < (N:Int)) (hl:ds.length=bs.length) (h1:1≤bs.length) (h2:bs.length≤N) (h3:∀ x∈bs,InB l.length x) (hhd:(hd:Int)=ds.getD 0 0)
 (hse:se < 65536) (hix:numAt l (bq+16 * N+2) 2=idx) (hne:idx≠se) (hat:numAt l (bq+16 * N+4+2 * (se % N)) 2=hd) :
 Calls Tryz.prog 23 #[.agg #[v],.agg #[.int .i64 (bq:Nat),.int .i64 (N:Nat),.int .u16 (se:Nat),.int .u16 (us:Nat)]] w fun e w'=>∃ r,e=.returned (.tuple #[.agg #[.int .i64 (bq:Nat),.int .i64 (N:Nat),.int .u16 (((se+1) % 65536):Nat),.int .u16 (us:Nat)],.int .i64 (hd:Nat),r,.int .i64 0])∧OwnBf 0 w' r bs∧Below w.heap.size w w':=by
 obtain ⟨ma,mc,rfl,hv1,hv2⟩:=hv.shape
 obtain ⟨L,hL⟩:∃ L,L=l.length:=⟨_,rfl⟩
 rw [←hL] at hv hv1 ⊢
 obtain ⟨t0,t1,t2,t4⟩:=three_boxes w #[.slice ma L mc] #[.int .i64 (bq:Nat),.int .i64 (N:Nat),.int .u16 (se:Nat),.int .u16 (us:Nat)] #[.int .i64 0,.int .i64 0,.int .u16 0,.int .u16 0] 24 45 45
 have HM:=Zh t0
 have HS:=Zh t1
 have HR:=Zh t2
 have HB:=Zh t4
 have HV:=Zh (hv.below t4)
 have HOK:=Zh hok
 have HLM:=Zh (show l.length≤maxLen by have:=hok.few; unfold maxLen; omega)
 have HAV:=Zh ((availX_ok hok).trans hix)
 have HAT:=Zh ((availAtX_ok hok se).trans hat)
 have HRF:=Zh (ringF_ok hok)
 have HSE:=Zh hse
 have HFO:=Zh (show ∀ W,OwnB 0 W (.slice ma L mc) l→Calls Tryz.prog 50 #[.agg #[.slice ma L mc],.int .i64 (bq:Nat),.int .i64 (N:Nat),.int .i64 (hd:Nat)] W fun e w'=>∃ r,e=.returned (.tuple #[r,.int .i64 0])∧OwnBf 0 w' r bs∧Below W.heap.size W w' from fun W hW=>follow_any N bq _ l ds bs _ W hW hok hch hds hl h1 h2 h3 hhd)
 obtain ⟨t,ht⟩:∃ t,(se+1) % 65536=t:=⟨_,rfl⟩
 rw [ht]
 have hw16:IntKind.u16.wrap (((se:Nat):Int)+1)=(t:Nat):=by simp [IntKind.wrap,IntKind.bits,IntKind.signed]; omega
 have hn0:(((idx:Nat):Int) == ((se:Nat):Int))=false:=by rw [beq_eq_false_iff_ne]; omega
 have hn1:(idx == se)=false:=by rw [beq_eq_false_iff_ne]; exact hne
 clear hv hok hch hds hl h1 h2 h3 hhd hse hix hne hat hv1 hv2 hL t0 t1 t2 t4 ht
 obtain ⟨m0,_⟩:=one_cell HM.out
 obtain ⟨⟨s0,s1,s2,s3⟩,y0,y1,y2,y3⟩:=cells_four HS.out
 go_enter Tryz.func23,Tryz.ntmps23
 go_wp2_with fail
 refine (avail_any _ l bq N 0 idx HRF.out HAV.out HLM.out _ HV.out.arg).mono ?_
 rintro e w1 ⟨rfl,hb⟩
 have HM1:=Zh (row_keep HM.out hb)
 have HS1:=Zh (row_keep HS.out hb)
 have HR1:=Zh (row_keep HR.out hb)
 have HB1:=Zh (HB.out.trans (hb.mono HB.out.size))
 have HV1:=Zh (HV.out.below hb)
 clear hb m0 s0 s1 s2 s3 y0 y1 y2 y3 HM HS HR HB HV
 obtain ⟨m0,_⟩:=one_cell HM1.out
 obtain ⟨⟨s0,s1,s2,s3⟩,y0,y1,y2,y3⟩:=cells_four HS1.out
 go_wp2_with fail
 refine (availAt_any _ l bq N se HSE.out 0 hd HRF.out HAT.out HLM.out _ HV1.out.arg).mono ?_
 rintro e w2 ⟨rfl,hb⟩
 have hS2:=row_keep HS1.out hb
 have hlt:=(Array.getElem?_eq_some_iff.1 hS2).1
 have HB2:=Zh ((HB1.out.trans (hb.mono HB1.out.size)).setCell (p:=⟨w.heap.size+1,2,none⟩) (by show w.heap.size≤w.heap.size+1; omega) (.int .u16 (t:Nat)))
 have HM2:=Zh (one_other (row_keep HM1.out hb) ⟨w.heap.size+1,2,none⟩ (.int .u16 (t:Nat)) (show w.heap.size+1≠w.heap.size by omega))
 have HR2:=Zh (one_other (row_keep HR1.out hb) ⟨w.heap.size+1,2,none⟩ (.int .u16 (t:Nat)) (show w.heap.size+1≠w.heap.size+2 by omega))
 have HS2:=Zh (row_put hS2 2 (.int .u16 (t:Nat)))
 have HV2:=Zh ((HV1.out.below hb).stay hS2 (by decide) 2 (.int .u16 (t:Nat)))
 clear m0 s0 s1 s2 s3 y0 y1 y2 y3 HM1 HS1 HR1 HB1 HV1
 obtain ⟨m0,_⟩:=one_cell (row_keep (one_other HM2.out ⟨w.heap.size+1,2,none⟩ (.int .u16 (t:Nat)) (show w.heap.size+1≠w.heap.size by omega)) (Below.refl _ _).drew)
 clear m0
 obtain ⟨m0,_⟩:=one_cell HM2.out
 obtain ⟨⟨s0,s1,s2,s3⟩,y0,y1,y2,y3⟩:=cells_four hS2
 clear hb hS2
 go_wp2_with fail
 refine (HFO.out _ HV2.out).mono ?_
 rintro e w3 ⟨r,rfl,hr,hb⟩
 have HB3:=Zh (HB2.out.trans (hb.mono HB2.out.size))
 have HS3:=Zh (row_keep HS2.out hb)
 have hR3:=row_keep HR2.out hb
 have HRR:=Zh hr
 have HR3:=Zh hR3
 obtain ⟨ra,rc,rfl,q1,q2⟩:=hr.shape
 clear m0 s0 s1 s2 s3 y0 y1 y2 y3 hlt hb hr q1 q2 HM2 HS2 HR2 HB2 HV2
 obtain ⟨⟨s0,s1,s2,s3⟩,_⟩:=cells_four HS3.out
 obtain ⟨⟨r0,r1,r2,r3⟩,y0,y1,y2,y3⟩:=cells_four hR3
 have hlr:=(Array.getElem?_eq_some_iff.1 hR3).1
 clear hR3
 go_wp2
 refine bodyPost_ret (v:=.tuple #[.agg #[.int .i64 (bq:Nat),.int .i64 (N:Nat),.int .u16 (t:Nat),.int .u16 (us:Nat)],.int .i64 (hd:Nat),.slice ra bs.length rc,.int .i64 0]) (by simp [results,Tryz.results23,go_sem,r0,r1,r2,r3]) rfl ⟨_,rfl,?_,?_⟩
 · exact (((HRR.out.stay HR3.out (by decide) 0 _).stay (row_put HR3.out 0 _) (by decide) 1 _).stay (row_put (row_put HR3.out 0 _) 1 _) (by decide) 2 _).stay (row_put (row_put (row_put HR3.out 0 _) 1 _) 2 _) (by decide) 3 _
 · exact (((HB3.out.setCell (p:=⟨w.heap.size+1+1,0,none⟩) (by show w.heap.size≤w.heap.size+1+1; omega) _).setCell (p:=⟨w.heap.size+1+1,1,none⟩) (by show w.heap.size≤w.heap.size+1+1; omega) _).setCell (p:=⟨w.heap.size+1+1,2,none⟩) (by show w.heap.size≤w.heap.size+1+1; omega) _).setCell (p:=⟨w.heap.size+1+1,3,none⟩) (by show w.heap.size≤w.heap.size+1+1; omega) _
structure QueGiveA where
 (b0 b1 b2 b3 b4:Bool)
 (s48 s49 s10:Value)
set_option maxHeartbeats 4000000 in
set_option maxRecDepth 100000 in
theorem give_ok (N bq se us hd n:Nat) (v:Value) (l:List UInt8) (w:World) (hv:OwnB 0 w v l) (hok:RingOk l.length bq N) (hus:us < 65536) (hh:hd≤2147483647) (hn:n≤2147483647) :
 Calls Tryz.prog 28 #[.agg #[v],.agg #[.int .i64 (bq:Nat),.int .i64 (N:Nat),.int .u16 (se:Nat),.int .u16 (us:Nat)],.int .i64 (hd:Nat),.int .i64 (n:Nat)] w fun e w'=>∃ ra rc,e=.returned (.tuple #[.agg #[.slice ra l.length rc],.agg #[.int .i64 (bq:Nat),.int .i64 (N:Nat),.int .u16 (se:Nat),.int .u16 (((us+1) % 65536):Nat)],.int .i64 0])∧OwnB 0 w' (.slice ra l.length rc) (returnD l bq N us hd n)∧Below w.heap.size w w':=by
 obtain ⟨ma,mc,rfl,hv1,hv2⟩:=hv.shape
 obtain ⟨L,hL⟩:∃ L,L=l.length:=⟨_,rfl⟩
 have hl2:=returnD_length us hd n hok
 obtain ⟨l2,hll2⟩:∃ x,returnD l bq N us hd n=x:=⟨_,rfl⟩
 rw [hll2] at hl2 ⊢
 rw [←hL] at hv hv1 hl2 ⊢
 obtain ⟨t0,t1,t2,t3,t4⟩:=four_boxes w #[.slice ma L mc] #[.int .i64 (bq:Nat),.int .i64 (N:Nat),.int .u16 (se:Nat),.int .u16 (us:Nat)] #[.slice none 0 0] #[.int .i64 0,.int .i64 0,.int .u16 0,.int .u16 0] 24 45 24 45
 have HM:=Zh t0
 have HS:=Zh t1
 have HA:=Zh t2
 have HR:=Zh t3
 have HB:=Zh t4
 have HV:=Zh (hv.below t4)
 have HLM:=Zh (show l.length≤140737488355328 by have:=hok.few; omega)
 have HRX:=Zh ((returnX_ok hok us hd n).trans hll2)
 have HRF:=Zh (ringF_ok hok)
 have HUS:=Zh hus
 have HHN:=Zh (show hd≤2147483647∧n≤2147483647 from ⟨hh,hn⟩)
 have HLL:=Zh hL.symm
 obtain ⟨t,ht⟩:∃ t,(us+1) % 65536=t:=⟨_,rfl⟩
 rw [ht]
 have hw16:IntKind.u16.wrap (((us:Nat):Int)+1)=(t:Nat):=by simp [IntKind.wrap,IntKind.bits,IntKind.signed]; omega
 have hwh:IntKind.u32.wrap ((hd:Nat):Int)=(hd:Nat):=by simp [IntKind.wrap,IntKind.bits,IntKind.signed]; omega
 have hwn:IntKind.u32.wrap ((n:Nat):Int)=(n:Nat):=by simp [IntKind.wrap,IntKind.bits,IntKind.signed]; omega
 clear hv hok hus hh hn hv1 hv2 hL hl2 hll2 t0 t1 t2 t3 t4 ht
 obtain ⟨m0,mz⟩:=one_cell HM.out
 obtain ⟨⟨s0,s1,s2,s3⟩,y0,y1,y2,y3⟩:=cells_four HS.out
 go_enter Tryz.func28,Tryz.ntmps28
 go_wp2_with fail
 refine (isCount_in _ (by omega) (by have:=HHN.out; omega) _).mono ?_
 rintro e w1 ⟨rfl,rfl⟩
 go_wp2_with fail
 refine (isCount_in _ (by omega) (by have:=HHN.out; omega) _).mono ?_
 rintro e w1 ⟨rfl,rfl⟩
 go_wp2_with fail
 refine (return_any _ l bq N us HUS.out hd n (by have:=HHN.out; omega) (by have:=HHN.out; omega) 0 l2 HRF.out HRX.out HLM.out _ HV.out.arg).mono ?_
 rintro e w1 ⟨ra,rc,rfl,hgv,hb⟩
 have hm:=hgv.ownB HV.out hb
 rw [HLL.out] at hm ⊢
 have hM1:=row_keep HM.out hb
 have hS1:=row_keep HS.out hb
 have hlt:=(Array.getElem?_eq_some_iff.1 hM1).1
 have hs1:=one_other hS1 ⟨w.heap.size,0,none⟩ (.slice ra L rc) (show w.heap.size≠w.heap.size+1 by omega)
 have hls:=(Array.getElem?_eq_some_iff.1 hs1).1
 have HM3:=Zh (one_other (row_put hM1 0 (.slice ra L rc)) ⟨w.heap.size+1,3,none⟩ (.int .u16 (t:Nat)) (show w.heap.size+1≠w.heap.size by omega))
 have HS3:=Zh (row_put hs1 3 (.int .u16 (t:Nat)))
 have HA3:=Zh (one_other (one_other (row_keep HA.out hb) ⟨w.heap.size,0,none⟩ (.slice ra L rc) (show w.heap.size≠w.heap.size+2 by omega)) ⟨w.heap.size+1,3,none⟩ (.int .u16 (t:Nat)) (show w.heap.size+1≠w.heap.size+2 by omega))
 have HR3:=Zh (one_other (one_other (row_keep HR.out hb) ⟨w.heap.size,0,none⟩ (.slice ra L rc) (show w.heap.size≠w.heap.size+3 by omega)) ⟨w.heap.size+1,3,none⟩ (.int .u16 (t:Nat)) (show w.heap.size+1≠w.heap.size+3 by omega))
 have HB3:=Zh (((HB.out.trans (hb.mono HB.out.size)).setCell (p:=⟨w.heap.size,0,none⟩) (Nat.le_refl _) (.slice ra L rc)).setCell (p:=⟨w.heap.size+1,3,none⟩) (by show w.heap.size≤w.heap.size+1; omega) (.int .u16 (t:Nat)))
 have HV3:=Zh ((hm.stay hM1 (by decide) 0 (.slice ra L rc)).stay hs1 (by decide) 3 (.int .u16 (t:Nat)))
 clear m0 mz s0 s1 s2 s3 y0 y1 y2 y3 hgv hm hb HA HR HB HV HM HS
 obtain ⟨m0,mz⟩:=one_cell hM1
 obtain ⟨⟨s0,s1,s2,s3⟩,y0,y1,y2,y3⟩:=cells_four hS1
 obtain ⟨⟨p0,p1,p2,p3⟩,o0,o1,o2,o3⟩:=cells_four hs1
 clear hM1 hS1 hs1
 go_wp2_with fail
 obtain ⟨w3,hw3⟩:∃ x,x=(w1.setCell ⟨w.heap.size,0,none⟩ (.slice ra L rc)).setCell ⟨w.heap.size+1,3,none⟩ (.int .u16 (t:Nat)):=⟨_,rfl⟩
 rw [←hw3] at HM3 HS3 HA3 HR3 HB3 HV3 ⊢
 clear hw3 m0 mz s0 s1 s2 s3 y0 y1 y2 y3 p0 p1 p2 p3 o0 o1 o2 o3 hlt hls
 refine wp_region_rec (X:=QueGiveA) (by kernel_rfl) (by kernel_rfl) (fun x=>#[x.b0,x.b1,x.b2,x.b3,x.b4]) (fun x=>{ tmps:=List.toArray ((.agg #[.slice ma L mc])::(.agg #[.int .i64 (bq:Nat),.int .i64 (N:Nat),.int .u16 (se:Nat),.int .u16 (us:Nat)])::(.int .i64 (hd:Nat))::(.int .i64 (n:Nat))::(.pointer (some ⟨w.heap.size,0,none⟩))::(.pointer (some ⟨w.heap.size+1,0,none⟩))::undef::undef::(.pointer (some ⟨w.heap.size+1+1,0,none⟩))::(.pointer (some ⟨w.heap.size+1+1+1,0,none⟩))::x.s10::(.int .i64 0)::(.int .i64 (hd:Nat))::(.bool true)::(.bool false)::(.bool false)::(.int .i64 (n:Nat))::(.bool true)::(.bool false)::(.bool false)::undef::undef::undef::(.tuple #[.agg #[.slice ra L rc],.int .i64 0])::(.agg #[.slice ma L mc])::(.pointer (some ⟨w.heap.size+1,0,none⟩))::(.int .i64 (bq:Nat))::(.pointer (some ⟨w.heap.size+1,1,none⟩))::(.int .i64 (N:Nat))::(.pointer (some ⟨w.heap.size+1,3,none⟩))::(.int .u16 (us:Nat))::(.int .i64 (hd:Nat))::(.int .u32 (hd:Nat))::(.int .i64 (n:Nat))::(.int .u32 (n:Nat))::(.agg #[.int .u32 (hd:Nat),.int .u32 (n:Nat)])::(.tuple #[.agg #[.slice ra L rc],.int .i64 0])::(.agg #[.slice ra L rc])::(.int .i64 0)::(.int .i64 0)::(.bool false)::undef::undef::undef::(.pointer (some ⟨w.heap.size+1,3,none⟩))::(.int .u16 (us:Nat))::(.int .u16 (t:Nat))::(.pointer (some ⟨w.heap.size+1,3,none⟩))::x.s48::x.s49::[]),defers:=[] }) (fun x W=>(x.b0→x.s48=.agg #[.slice ra L rc])∧(x.b1→x.s49=.agg #[.int .i64 (bq:Nat),.int .i64 (N:Nat),.int .u16 (se:Nat),.int .u16 (t:Nat)])∧(x.b4→x.s10=.int .i64 0)∧(x.b3→x.b2)∧(W.heap[w.heap.size]? = some (.cells #[.slice ra L rc] 24 (0,0)))∧(W.heap[w.heap.size+1]? = some (.cells #[.int .i64 (bq:Nat),.int .i64 (N:Nat),.int .u16 (se:Nat),.int .u16 (t:Nat)] 45 (0,0)))∧(x.b2=false→W.heap[w.heap.size+1+1]? = some (.cells #[.slice none 0 0] 24 (0,0)))∧(x.b2→W.heap[w.heap.size+1+1]? = some (.cells #[.slice ra L rc] 24 (0,0)))∧(x.b3=false→W.heap[w.heap.size+1+1+1]? = some (.cells #[.int .i64 0,.int .i64 0,.int .u16 0,.int .u16 0] 45 (0,0)))∧(x.b3→W.heap[w.heap.size+1+1+1]? = some (.cells #[.int .i64 (bq:Nat),.int .i64 (N:Nat),.int .u16 (se:Nat),.int .u16 (t:Nat)] 45 (0,0)))∧(Below w.heap.size w W)∧(OwnB 0 W (.slice ra L rc) l2)) ⟨false,false,false,false,false,undef,undef,.int .i64 0⟩ rfl rfl ⟨Zf,Zf,Zf,Zf,HM3.out,HS3.out,(fun _=>HA3.out),Zf,(fun _=>HR3.out),Zf,HB3.out.drew,HV3.out.drew⟩ (fun _=>rfl) ?hstep ?hdone
 case hstep =>
  rintro ⟨b0,b1,b2,b3,b4,s48,s49,s10⟩ W hI i hi
  dsimp only at hI hi ⊢
  have HI:=Zh hI
  clear hI
  rw [Region.ready,List.mem_filter,List.mem_range] at hi
  obtain ⟨hlt,hp⟩:=hi
  have hi7:i=0∨i=1∨i=2∨i=3∨i=4:=by simp at hlt; omega
  clear hlt
  rcases hi7 with rfl|rfl|rfl|rfl|rfl
  all_goals simp [Region.binds] at hp
  · obtain rfl:b0=false:=by revert hp; cases b0 <;> simp
    clear hp; refine Zv 48 fun K' hK'=>?_
    have rM:=(Zd HI.out).1
    obtain ⟨hc0,_⟩:=at_cell rM 0 _ rfl
    go_simp
    exact hK'.out _ _ ⟨.mk ..,rfl,rfl,(Upd (fun _=>rfl)) HI.out⟩
  · obtain rfl:b1=false:=by revert hp; cases b1 <;> simp
    clear hp; refine Zv 49 fun K' hK'=>?_
    have rS:=(Zd HI.out).2.1
    obtain ⟨hc0,_⟩:=at_cell rS 0 _ rfl
    obtain ⟨hc1,_⟩:=at_cell rS 1 _ rfl
    obtain ⟨hc2,_⟩:=at_cell rS 2 _ rfl
    obtain ⟨hc3,_⟩:=at_cell rS 3 _ rfl
    go_simp
    exact hK'.out _ _ ⟨.mk ..,rfl,rfl,Nxt (Upd (fun _=>rfl)) HI.out⟩
  · obtain ⟨rfl,e0⟩:b2=false∧b0=true:=by revert hp; cases b2 <;> cases b0 <;> simp
    clear hp
    obtain rfl:=(HI.out.1) e0
    refine inv_op (o:=⟨none,_,_,_,_,_⟩) rfl (fun K' hK'=>?_)
    have gi3:=HI.out.2.2.2.1
    have rA0:=(Zd HI.out).2.2.1
    obtain rfl:b3=false:=Zz fun e=>(gi3 e)
    obtain ⟨hc0,hz0⟩:=at_cell (rA0 rfl) 0 _ rfl
    have hlt:=(Array.getElem?_eq_some_iff.1 (rA0 rfl)).1
    go_simp
    obtain ⟨h0,h1,h4,gi3,rM,rS,rA0,rA1,rQ0,rQ1,gB,gV⟩:=HI.out
    exact hK'.out _ _ ⟨.mk ..,rfl,rfl,h0,h1,h4,Zf,(Zp1 rM (by show w.heap.size+1+1≠w.heap.size; omega)),(Zp1 rS (Zn rS (rA0 rfl))),Zf,(fun _=>(Zr (rA0 rfl))),(fun e=>(Zp1 (rQ0 e) (Zn (rQ0 e) (rA0 rfl)))),Zf,(Zu1 gB (by show w.heap.size≤w.heap.size+1+1; omega)),(gV.stay (rA0 rfl) (by decide) _ _)⟩
  · obtain ⟨rfl,e1,e2⟩:b3=false∧b1=true∧b2=true:=by revert hp; cases b3 <;> cases b1 <;> cases b2 <;> simp
    clear hp
    obtain rfl:=(HI.out.2.1) e1
    refine inv_op (o:=⟨none,_,_,_,_,_⟩) rfl (fun K' hK'=>?_)
    have rQ0:=(Ze HI.out).1
    obtain ⟨hc0,hz0⟩:=at_cell (rQ0 rfl) 0 _ rfl
    obtain ⟨hc1,hz1⟩:=at_cell (rQ0 rfl) 1 _ rfl
    obtain ⟨hc2,hz2⟩:=at_cell (rQ0 rfl) 2 _ rfl
    obtain ⟨hc3,hz3⟩:=at_cell (rQ0 rfl) 3 _ rfl
    have hlt:=(Array.getElem?_eq_some_iff.1 (rQ0 rfl)).1
    go_simp
    obtain ⟨h0,h1,h4,gi3,rM,rS,rA0,rA1,rQ0,rQ1,gB,gV⟩:=HI.out
    exact hK'.out _ _ ⟨.mk ..,rfl,rfl,h0,h1,h4,(fun _=>e2),(Zp4 rM (Zn rM (rQ0 rfl))),(Zp4 rS (by show w.heap.size+1+1+1≠w.heap.size+1; omega)),(fun e=>(Zp4 (rA0 e) (Zn (rA0 e) (rQ0 rfl)))),(fun e=>(Zp4 (rA1 e) (Zn (rA1 e) (rQ0 rfl)))),Zf,(fun _=>(Zr (Zr (Zr (Zr (rQ0 rfl)))))),(Zu4 gB (by show w.heap.size≤w.heap.size+1+1+1; omega)),((((gV.stay (rQ0 rfl) (by decide) _ _).stay (Zr (rQ0 rfl)) (by decide) _ _).stay (Zr (Zr (rQ0 rfl))) (by decide) _ _).stay (Zr (Zr (Zr (rQ0 rfl)))) (by decide) _ _)⟩
  · obtain ⟨rfl,e3⟩:b4=false∧b3=true:=by revert hp; cases b4 <;> cases b3 <;> simp
    clear hp; refine Zv 10 fun K' hK'=>?_
    go_simp
    exact hK'.out _ _ ⟨.mk ..,rfl,rfl,Nxt (Nxt (Upd (fun _=>rfl))) HI.out⟩
 case hdone =>
  rintro ⟨b0,b1,b2,b3,b4,s48,s49,s10⟩ W hI hall
  dsimp only at hI hall ⊢
  have HI:=Zh hI
  clear hI
  obtain rfl:b0=true:=hall 0 (by decide)
  obtain rfl:b1=true:=hall 1 (by decide)
  obtain rfl:b2=true:=hall 2 (by decide)
  obtain rfl:b3=true:=hall 3 (by decide)
  obtain rfl:b4=true:=hall 4 (by decide)
  obtain rfl:=(HI.out.2.2.1) rfl
  have rA1:=(Zd HI.out).2.2.2.1
  have rQ1:=(Ze HI.out).2.1
  have gB:=(Ze HI.out).2.2.1
  have gV:=(Ze HI.out).2.2.2
  clear HI hall
  obtain ⟨r6,_⟩:=one_cell (rA1 rfl)
  obtain ⟨⟨r0,r1,r2,r3⟩,_⟩:=cells_four (rQ1 rfl)
  have HB6:=Zh gB
  have HV6:=Zh gV
  clear rA1 rQ1 gB gV
  go_wp2
  refine bodyPost_ret (v:=.tuple #[.agg #[.slice ra L rc],.agg #[.int .i64 (bq:Nat),.int .i64 (N:Nat),.int .u16 (se:Nat),.int .u16 (t:Nat)],.int .i64 0]) (by simp [results,Tryz.results28,go_sem,r0,r1,r2,r3,r6]) rfl ⟨_,_,rfl,HV6.out,HB6.out⟩
theorem good_empty {q:QQ} {N:Nat} (h:GoodQ q N) (hc:q.chains=[]):q.free=upN N:=by
 have h1:=h.perm
 rw [hc] at h1
 have h2:q.free.Perm (upN N):=by simpa [flat] using h1
 exact List.Perm.eq_of_pairwise (le:=(·≤·)) (fun a b _ _ h1 h2=>by omega) h.sorted (upN_sorted N) h2
theorem poll_is_one {l:List UInt8} {B N:Nat} {q q2:QQ} {x y E:Int} {c:QCh} {a n:Nat} (h:PollSpec l B N q q2 x y E) (hc:q.chains=[c]) (hu:usedI l B N=(q.last+1) % 65536) (hla:q.last < 65536) (ha:usedE l B N q.last 0=a) (hn:usedE l B N q.last 4=n) (hi:isUsed a n c=true) :
 q2=relQ { q with last:=(q.last+1) % 65536 } 0∧x=(a:Nat)∧y=(n:Nat)∧E=0:=by
 have hah:aheadQ l B N q=1:=by unfold aheadQ; rw [hu]; omega
 rcases h with ⟨e,_⟩|⟨e,_⟩|⟨_,_,e,_⟩|⟨_,_,i,d,e1,e2,e3,e4,e5,e6⟩
 · omega
 · rw [hc,hah] at e; simp at e
 · have:=e c (by rw [hc]; simp)
   rw [ha,hn,hi] at this
   cases this
 · rw [hc] at e1
   have hi0:i=0:=by
    have h1:=(List.getElem?_eq_some_iff.1 e1).1
    simp at h1
    exact h1
   subst hi0
   exact ⟨e3,by rw [e4,ha],by rw [e5,hn],e6⟩
theorem poll_is_none {l:List UInt8} {B N:Nat} {q q2:QQ} {x y E:Int} (h:PollSpec l B N q q2 x y E) (ha:aheadQ l B N q=0):q2=q∧x=0∧y=0∧E=7:=by
 rcases h with ⟨_,h⟩|⟨e,_⟩|⟨e,_⟩|⟨e,_⟩
 · exact h
 · omega
 · omega
 · omega
theorem new_this (v:Value) (l:List UInt8) (B N:Nat) (w:World) (hv:OwnB 0 w v l) (hok:RingOk l.length B N) (b z:Int) (n:Nat) (e1:((B:Nat):Int)=b) (e2:((N:Nat):Int)=z) (e3:l.length=n) :
 Calls Tryz.prog 16 #[.agg #[v],.int .i64 b,.int .i64 z] w fun e w'=>∃ ra rc F C,e=.returned (.tuple #[.agg #[.slice ra n rc],.agg #[.int .i64 b,.int .i64 z,F,.int .u16 0,.int .u16 0,C],.int .i64 0])∧OwnB 0 w' (.slice ra n rc) (zeroM l B N)∧IsQ 0 w' F C (newQ B N) []∧Below w.heap.size w w':=by
 subst e1
 subst e2
 subst e3
 refine (queNew_any v l B N w hv hok).mono ?_
 rintro e w' ⟨ra,rc,F,C,rfl,h1,h2,h3⟩
 exact ⟨ra,rc,F,C,rfl,ownsRow_base h1 (Nat.zero_le _),h2.base (Nat.zero_le _),h3⟩
theorem check_this (q:QQ) (N:Nat) (F C:Value) (D:List Value) (w:World) (hq:IsQ 0 w F C q D) (hg:GoodQ q N) (b z A La:Int) (e1:q.base=b) (e2:q.size=z) (e3:((q.avail:Nat):Int)=A) (e4:((q.last:Nat):Int)=La) :
 Calls Tryz.prog 36 #[.agg #[.int .i64 b,.int .i64 z,F,.int .u16 A,.int .u16 La,C]] w fun e w'=>e=.returned (.bool true)∧Below w.heap.size w w':=by
 subst e1
 subst e2
 subst e3
 subst e4
 exact queCheck_any q N F C D w hq hg
theorem add_this (q:QQ) (N bq:Nat) (F C v bv:Value) (D:List Value) (l:List UInt8) (bs:List QB) (w:World) (hv:OwnB 0 w v l) (hq:IsQ 0 w F C q D) (hbf:OwnBf 0 w bv bs) (hg:GoodQ q N) (hbq:q.base=(bq:Nat)) (hok:RingOk l.length bq N) (h1:1≤bs.length) (h2:bs.length≤q.free.length) (h4:bs.length≤N) (h3:∀ x∈bs,InB l.length x) (b z A La A2 H:Int) (n:Nat) (e1:q.base=b) (e2:q.size=z) (e3:((q.avail:Nat):Int)=A) (e4:((q.last:Nat):Int)=La) (e5:(((q.avail+1) % 65536:Nat):Int)=A2) (e6:q.free.getD 0 0=H) (e7:l.length=n) :
 Calls Tryz.prog 47 #[.agg #[v],.agg #[.int .i64 b,.int .i64 z,F,.int .u16 A,.int .u16 La,C],bv] w fun e w'=>∃ ra rc F2 C2 D2,e=.returned (.tuple #[.agg #[.slice ra n rc],.agg #[.int .i64 b,.int .i64 z,F2,.int .u16 A2,.int .u16 La,C2],.int .i64 H,.int .i64 0])∧OwnB 0 w' (.slice ra n rc) (addM l bq N q bs)∧IsQ 0 w' F2 C2 (addQ q bs) D2∧Below w.heap.size w w':=by
 subst e1
 subst e2
 subst e3
 subst e4
 subst e5
 subst e6
 subst e7
 exact add_ok q N bq F C v bv D l bs w hv hq hbf hg hbq hok h1 h2 h4 h3
theorem next_this (N bq se us idx hd:Nat) (v:Value) (l:List UInt8) (ds:List Int) (bs:List QB) (w:World) (hv:OwnB 0 w v l) (hok:RingOk l.length bq N) (hch:Chained l bq ds bs) (hds:∀ d∈ds,0≤d∧d < (N:Int)) (hl:ds.length=bs.length) (h1:1≤bs.length) (h2:bs.length≤N) (h3:∀ x∈bs,InB l.length x) (hhd:(hd:Int)=ds.getD 0 0) (hse:se < 65536) (hix:numAt l (bq+16 * N+2) 2=idx) (hne:idx≠se) (hat:numAt l (bq+16 * N+4+2 * (se % N)) 2=hd) (b z SE US S2 HD:Int) (m:Nat) (e1:((bq:Nat):Int)=b) (e2:((N:Nat):Int)=z) (e3:((se:Nat):Int)=SE) (e4:((us:Nat):Int)=US) (e5:(((se+1) % 65536:Nat):Int)=S2) (e6:((hd:Nat):Int)=HD) (e7:bs.length=m) :
 Calls Tryz.prog 23 #[.agg #[v],.agg #[.int .i64 b,.int .i64 z,.int .u16 SE,.int .u16 US]] w fun e w'=>∃ ra rc,e=.returned (.tuple #[.agg #[.int .i64 b,.int .i64 z,.int .u16 S2,.int .u16 US],.int .i64 HD,.slice ra m rc,.int .i64 0])∧OwnBf 0 w' (.slice ra m rc) bs∧Below w.heap.size w w':=by
 subst e1
 subst e2
 subst e3
 subst e4
 subst e5
 subst e6
 subst e7
 refine (next_ok N bq se us idx hd v l ds bs w hv hok hch hds hl h1 h2 h3 hhd hse hix hne hat).mono ?_
 rintro e w' ⟨r,rfl,h5,h6⟩
 obtain ⟨ra,rc,rfl,_,_⟩:=h5.shape
 exact ⟨ra,rc,rfl,h5,h6⟩
theorem give_this (N bq se us hd n:Nat) (v:Value) (l:List UInt8) (w:World) (hv:OwnB 0 w v l) (hok:RingOk l.length bq N) (hus:us < 65536) (hh:hd≤2147483647) (hn:n≤2147483647) (b z SE US U2 HD NN:Int) (m:Nat) (e1:((bq:Nat):Int)=b) (e2:((N:Nat):Int)=z) (e3:((se:Nat):Int)=SE) (e4:((us:Nat):Int)=US) (e5:(((us+1) % 65536:Nat):Int)=U2) (e6:((hd:Nat):Int)=HD) (e7:((n:Nat):Int)=NN) (e8:l.length=m) :
 Calls Tryz.prog 28 #[.agg #[v],.agg #[.int .i64 b,.int .i64 z,.int .u16 SE,.int .u16 US],.int .i64 HD,.int .i64 NN] w fun e w'=>∃ ra rc,e=.returned (.tuple #[.agg #[.slice ra m rc],.agg #[.int .i64 b,.int .i64 z,.int .u16 SE,.int .u16 U2],.int .i64 0])∧OwnB 0 w' (.slice ra m rc) (returnD l bq N us hd n)∧Below w.heap.size w w':=by
 subst e1
 subst e2
 subst e3
 subst e4
 subst e5
 subst e6
 subst e7
 subst e8
 exact give_ok N bq se us hd n v l w hv hok hus hh hn
theorem poll_this (q:QQ) (N bq:Nat) (F C v:Value) (D:List Value) (l:List UInt8) (w:World) (hv:OwnB 0 w v l) (hq:IsQ 0 w F C q D) (hg:GoodQ q N) (hbq:q.base=(bq:Nat)) (hok:RingOk l.length bq N) (q3:QQ) (x3 y3 E3:Int) (hp:∀ q2 x y E,PollSpec l bq N q q2 x y E→q2=q3∧x=x3∧y=y3∧E=E3) (b z A La A3 L3:Int) (e1:q.base=b) (e2:q.size=z) (e3:((q.avail:Nat):Int)=A) (e4:((q.last:Nat):Int)=La) (e5:((q3.avail:Nat):Int)=A3) (e6:((q3.last:Nat):Int)=L3) (c1:q3.base=q.base) (c2:q3.size=q.size) :
 Calls Tryz.prog 30 #[.agg #[v],.agg #[.int .i64 b,.int .i64 z,F,.int .u16 A,.int .u16 La,C]] w fun e w'=>∃ F2 C2 D2,e=.returned (.tuple #[.agg #[.int .i64 b,.int .i64 z,F2,.int .u16 A3,.int .u16 L3,C2],.int .i64 x3,.int .i64 y3,.int .i64 E3])∧IsQ 0 w' F2 C2 q3 D2∧Below w.heap.size w w':=by
 subst e1
 subst e2
 subst e3
 subst e4
 subst e5
 subst e6
 refine (poll_any q N bq F C v D l w hv hq hg hbq hok).mono ?_
 rintro e w' ⟨q2,x,y,E,F2,C2,D2,rfl,h1,h2,h3⟩
 obtain ⟨rfl,rfl,rfl,rfl⟩:=hp _ _ _ _ h1
 exact ⟨F2,C2,D2,by rw [c1,c2],h2,h3⟩
structure Req where
 busy:Bool
 head:Int
 flush:Bool
 sec:Int
def zReq:Req:=⟨false,0,false,0⟩
def busyHeads:List Req→List Int
 | []=>[]
 | r::s=>if r.busy then r.head::busyHeads s else busyHeads s
structure GoodB (q:QQ) (r0 r1 r2 r3:Req):Prop where
 good:GoodQ q 16
 base:q.base=0
 free:∀ r∈[r0,r1,r2,r3],r.busy=false→r=zReq
 same:busyHeads [r0,r1,r2,r3]=q.chains.map (·.head)
def upd (i k:Nat) (r s:Req):Req:=if i=k then r else s
theorem ok1700 {l:List UInt8} (h:l.length=1700):RingOk l.length 0 16:=⟨by omega,.inr (.inr (.inr (.inr rfl))),by rw [h]; decide⟩
def rowPut (l:List UInt8) (p:Nat) (d:List UInt8):List UInt8:=l.take p++d++l.drop (p+d.length)
theorem rowPut_length {l d:List UInt8} {p:Nat} (h:p+d.length≤l.length):(rowPut l p d).length=l.length:=by
 simp [rowPut]
 omega
theorem rowPut_get {l d:List UInt8} {p:Nat} (h:p+d.length≤l.length) (i:Nat):(rowPut l p d)[i]? = if i < p then l[i]? else if i < p+d.length then d[i - p]? else l[i]? := by
 have h1:(l.take p).length=p:=by simp; omega
 have h2:(l.take p++d).length=p+d.length:=by simp; omega
 unfold rowPut
 by_cases c1:i < p
 · rw [if_pos c1,List.getElem?_append_left (by omega),List.getElem?_append_left (by omega),List.getElem?_take,if_pos c1]
 · rw [if_neg c1]
   by_cases c2:i < p+d.length
   · rw [if_pos c2,List.getElem?_append_left (by omega),List.getElem?_append_right (by omega),h1]
   · rw [if_neg c2,List.getElem?_append_right (by omega),h2,List.getElem?_drop,show p+d.length+(i - (p+d.length))=i by omega]
theorem rowPut_other {l d:List UInt8} {p:Nat} (h:p+d.length≤l.length) {q j:Nat} (hd:q+j≤p∨p+d.length≤q):((rowPut l p d).drop q).take j=(l.drop q).take j:=by
 apply List.ext_getElem?
 intro i
 rw [List.getElem?_take,List.getElem?_take]
 by_cases hi:i < j
 · rw [if_pos hi,if_pos hi,List.getElem?_drop,List.getElem?_drop,rowPut_get h]
   rcases hd with hd|hd
   · rw [if_pos (by omega)]
   · rw [if_neg (by omega),if_neg (by omega)]
 · rw [if_neg hi,if_neg hi]
theorem rowPut_same {l d:List UInt8} {p:Nat} (h:p+d.length≤l.length):((rowPut l p d).drop p).take d.length=d:=by
 have h1:(l.take p).length=p:=by simp; omega
 unfold rowPut
 rw [List.append_assoc,List.drop_append_of_le_length (by omega),List.drop_eq_nil_of_le (by omega),List.nil_append,List.take_append_of_le_length (Nat.le_refl _),List.take_of_length_le (Nat.le_refl _)]
def layN (l:List UInt8) (p kind s:Nat):List UInt8:=putAt (putAt (putAt l p 8 kind) (p+8) 8 s) (p+272) 1 255
def layW (l:List UInt8) (p s:Nat) (d:List UInt8):List UInt8:=layN (rowPut l (p+16) d) p 1 s
theorem layN_length {l:List UInt8} {p:Nat} (kind s:Nat) (h:p+273≤l.length):(layN l p kind s).length=l.length:=by
 have h1:=putAt_length (l:=l) (p:=p) (k:=8) kind (by omega)
 have h2:=putAt_length (l:=putAt l p 8 kind) (p:=p+8) (k:=8) s (by omega)
 rw [layN,putAt_length _ (by omega),h2,h1]
theorem layN_other {l:List UInt8} {p:Nat} (kind s:Nat) (h:p+273≤l.length) {q j:Nat} (hd:q+j≤p∨(p+16≤q∧(q+j≤p+272∨p+273≤q))):((layN l p kind s).drop q).take j=(l.drop q).take j:=by
 have h1:=putAt_length (l:=l) (p:=p) (k:=8) kind (by omega)
 have h2:=putAt_length (l:=putAt l p 8 kind) (p:=p+8) (k:=8) s (by omega)
 rw [layN,part_other _ (by omega) (by omega),part_other _ (by omega) (by omega),part_other _ (by omega) (by omega)]
theorem layN_kind {l:List UInt8} {p:Nat} (kind s:Nat) (h:p+273≤l.length):((layN l p kind s).drop p).take 8=leB kind 8∧((layN l p kind s).drop (p+8)).take 8=leB s 8∧((layN l p kind s).drop (p+272)).take 1=[255]:=by
 have h1:=putAt_length (l:=l) (p:=p) (k:=8) kind (by omega)
 have h2:=putAt_length (l:=putAt l p 8 kind) (p:=p+8) (k:=8) s (by omega)
 refine ⟨?_,?_,?_⟩
 · rw [layN,part_other _ (by omega) (by omega),part_other _ (by omega) (by omega),part_same _ (by omega)]
 · rw [layN,part_other _ (by omega) (by omega),part_same _ (by omega)]
 · rw [layN,part_same _ (by omega)]; rfl
theorem layW_length {l d:List UInt8} {p:Nat} (s:Nat) (h:p+273≤l.length) (hd:d.length=256):(layW l p s d).length=l.length:=by
 have h1:=rowPut_length (l:=l) (d:=d) (p:=p+16) (by omega)
 rw [layW,layN_length _ _ (by omega),h1]
structure Said (l:List UInt8) (p s:Nat) (d:List UInt8):Prop where
 kind:numAt l p 4=1
 sec:numAt l (p+8) 8=s
 data:(l.drop (p+16)).take 256=d
theorem layW_said {l d:List UInt8} {p s:Nat} (h:p+273≤l.length) (hd:d.length=256) (hs:s < 256):Said (layW l p s d) p s d:=by
 have h1:=rowPut_length (l:=l) (d:=d) (p:=p+16) (by omega)
 obtain ⟨k1,k2,_⟩:=layN_kind (l:=rowPut l (p+16) d) (p:=p) 1 s (by omega)
 refine ⟨?_,?_,?_⟩
 · have e:((layW l p s d).drop p).take 4=(((layW l p s d).drop p).take 8).take 4:=by rw [List.take_take]; rfl
   rw [numAt,e,layW,k1]
   rfl
 · rw [numAt,layW,k2,leN_leBk]
   exact Nat.mod_eq_of_lt (by omega)
 · rw [layW,layN_other _ _ (by omega) (by omega),←hd,rowPut_same (by omega)]
theorem Said.keep {l l2 d:List UInt8} {p s:Nat} (h:Said l p s d) (he:∀ q j,p≤q→q+j≤p+272→(l2.drop q).take j=(l.drop q).take j):Said l2 p s d :=
 ⟨by rw [numAt,he p 4 (by omega) (by omega)]; exact h.kind,by rw [numAt,he (p+8) 8 (by omega) (by omega)]; exact h.sec,by rw [he (p+16) 256 (by omega) (by omega)]; exact h.data⟩
theorem part_of_drop {l l2:List UInt8} {m q j:Nat} (h:l2.drop m=l.drop m) (hq:m≤q):(l2.drop q).take j=(l.drop q).take j:=by
 have e:∀ k:List UInt8,k.drop q=(k.drop m).drop (q - m):=fun k=>by rw [List.drop_drop]; congr 1; omega
 rw [e,e,h]
theorem layK_drop {l:List UInt8} {ds:List Int} {bs:List QB} (hl:l.length=1700) (hd:∀ d∈ds,0≤d∧d < ((16:Nat):Int)):∀ k,k≤ds.length→(layK l 0 ds bs k).drop 424=l.drop 424
 | 0,_=>rfl
 | k+1,hk=>by
   have h1:=layK_length (bs:=bs) (ok1700 hl) hd k (by omega)
   have h2:=getD_in hd (show k < ds.length by omega)
   rw [layK,setD_drop _ _ _ _ (by omega) (by omega)]
   exact layK_drop hl hd k (by omega)
theorem addM_drop {l:List UInt8} {q:QQ} {bs:List QB} (hl:l.length=1700) (hg:GoodQ q 16) (hn:bs.length≤q.free.length):(addM l 0 16 q bs).drop 424=l.drop 424:=by
 have hd:∀ d∈q.free.take bs.length,0≤d∧d < ((16:Nat):Int):=fun d hd=>hg.freeIn (List.mem_of_mem_take hd)
 have h1:=layK_length (bs:=bs) (ok1700 hl) hd bs.length (by rw [List.length_take]; omega)
 rw [addM,offerD_drop _ _ (ok1700 (h1.trans hl)) (by decide),layK_drop hl hd _ (by rw [List.length_take]; omega)]
theorem addM_len {l:List UInt8} {q:QQ} {bs:List QB} (hl:l.length=1700) (hg:GoodQ q 16) (hn:bs.length≤q.free.length):(addM l 0 16 q bs).length=1700:=(addM_length (ok1700 hl) hg hn).trans hl
theorem returnD_len {l:List UInt8} (k a n:Nat) (hl:l.length=1700):(returnD l 0 16 k a n).length=1700:=(returnD_length k a n (ok1700 hl)).trans hl
theorem returnD_far {l:List UInt8} (k a n:Nat) (hl:l.length=1700):(returnD l 0 16 k a n).drop 424=l.drop 424:=returnD_drop k a n (ok1700 hl) (by decide)
def bsW (p:Nat):List QB:=[((p:Int),16,false),((p:Int)+16,256,false),((p:Int)+272,1,true)]
def bsF (p:Nat):List QB:=[((p:Int),16,false),((p:Int)+272,1,true)]
theorem bsW_in {p:Nat} (h:p+273≤1700):∀ x∈bsW p,InB 1700 x:=by
 intro x hx
 simp [bsW] at hx
 rcases hx with rfl|rfl|rfl <;> refine ⟨?_,?_,?_⟩ <;> simp only <;> omega
theorem bsF_in {p:Nat} (h:p+273≤1700):∀ x∈bsF p,InB 1700 x:=by
 intro x hx
 simp [bsF] at hx
 rcases hx with rfl|rfl <;> refine ⟨?_,?_,?_⟩ <;> simp only <;> omega
theorem bsW_room (p:Nat):roomOf (bsW p)=1:=by simp [roomOf,bsW]
theorem bsF_room (p:Nat):roomOf (bsF p)=1:=by simp [roomOf,bsF]
structure Ready (l:List UInt8) (se hd:Nat) (ds:List Int) (bs:List QB):Prop where
 len:l.length=1700
 ch:Chained l 0 ds bs
 dsin:∀ d∈ds,0≤d∧d < ((16:Nat):Int)
 dl:ds.length=bs.length
 head:(hd:Int)=ds.getD 0 0
 at_:numAt l (0+16 * 16+4+2 * (se % 16)) 2=hd
theorem Ready.keep {l l2:List UInt8} {se hd:Nat} {ds:List Int} {bs:List QB} (h:Ready l se hd ds bs) (hl:l2.length=1700) (he:∀ k o j,k < ds.length→o+j≤16→numAt l2 (0+16 * (ds.getD k 0).toNat+o) j=numAt l (0+16 * (ds.getD k 0).toNat+o) j) (ha:numAt l2 (0+16 * 16+4+2 * (se % 16)) 2=numAt l (0+16 * 16+4+2 * (se % 16)) 2):Ready l2 se hd ds bs where
 len:=hl
 ch:=fun k hk=>by
  have hk2:k < ds.length:=by rw [h.dl]; exact hk
  obtain ⟨g1,g2,g3,g4⟩:=h.ch k hk
  refine ⟨?_,?_,?_,?_⟩
  · exact (he k 0 8 hk2 (by omega)).trans g1
  · exact (he k 8 4 hk2 (by omega)).trans g2
  · exact (he k 12 2 hk2 (by omega)).trans g3
  · exact (he k 14 2 hk2 (by omega)).trans g4
 dsin:=h.dsin
 dl:=h.dl
 head:=h.head
 at_:=ha.trans h.at_
theorem Ready.low {l l2:List UInt8} {se hd:Nat} {ds:List Int} {bs:List QB} (h:Ready l se hd ds bs) (hl:l2.length=1700) (he:∀ q j,q+j≤292→numAt l2 q j=numAt l q j):Ready l2 se hd ds bs :=
 h.keep hl (fun k o j hk ho=>he _ _ (by have:=getD_in h.dsin hk; omega)) (he _ _ (by have:se % 16 < 16:=Nat.mod_lt _ (by decide); omega))
theorem ready_add {l:List UInt8} {q:QQ} {bs:List QB} (hl:l.length=1700) (hg:GoodQ q 16) (hi:∀ x∈bs,InB 1700 x) (h1:1≤bs.length) (h2:bs.length≤q.free.length):Ready (addM l 0 16 q bs) q.avail (q.free.getD 0 0).toNat (q.free.take bs.length) bs∧numAt (addM l 0 16 q bs) (0+16 * 16+2) 2=(q.avail+1) % 65536∧(((q.free.getD 0 0).toNat:Nat):Int)=q.free.getD 0 0:=by
 have hok:=ok1700 hl
 have hds:∀ d∈q.free.take bs.length,0≤d∧d < ((16:Nat):Int):=fun d hd=>hg.freeIn (List.mem_of_mem_take hd)
 have hdl:(q.free.take bs.length).length=bs.length:=by rw [List.length_take]; omega
 have hll:(layK l 0 (q.free.take bs.length) bs bs.length).length=1700:=by rw [layK_length hok hds bs.length (by omega),hl]
 have hd0:=getD_in hds (show 0 < (q.free.take bs.length).length by omega)
 have e0:(q.free.take bs.length).getD 0 0=q.free.getD 0 0:=by
  rw [List.getD_eq_getElem?_getD,List.getD_eq_getElem?_getD,List.getElem?_take,if_pos (by omega)]
 rw [e0] at hd0
 have ht:((q.free.getD 0 0).toNat:Int)=q.free.getD 0 0:=Int.toNat_of_nonneg hd0.1
 refine ⟨⟨addM_len hl hg h2,addM_chained hok hg h2 (by rw [hl]; exact hi),hds,hdl,ht.trans e0.symm,?_⟩,?_,ht⟩
 · rw [addM,offerD_entry q.avail q.avail _ rfl (by omega) (ok1700 hll)]
 · rw [addM,offerD_index _ _ (ok1700 hll)]
theorem layK_other {l:List UInt8} {ds:List Int} {bs:List QB} (hl:l.length=1700) (hd:∀ d∈ds,0≤d∧d < ((16:Nat):Int)) {q j:Nat} (hq:∀ k,k < ds.length→q+j≤16 * (ds.getD k 0).toNat∨16 * (ds.getD k 0).toNat+16≤q):∀ k,k≤ds.length→numAt (layK l 0 ds bs k) q j=numAt l q j
 | 0,_=>rfl
 | k+1,hk=>by
   have h1:=layK_length (bs:=bs) (ok1700 hl) hd k (by omega)
   have h2:=getD_in hd (show k < ds.length by omega)
   have h3:=hq k (by omega)
   rw [layK,setD_other _ _ _ _ (by omega) (by omega)]
   exact layK_other hl hd hq k (by omega)
theorem Ready.add {l:List UInt8} {q:QQ} {bs bs2:List QB} {se hd:Nat} {ds:List Int} (h:Ready l se hd ds bs) (hg:GoodQ q 16) (h2:bs2.length≤q.free.length) (hne:∀ k m,k < ds.length→m < bs2.length→ds.getD k 0≠q.free.getD m 0) (hse:se % 16≠q.avail % 16):Ready (addM l 0 16 q bs2) se hd ds bs:=by
 have hok:=ok1700 h.len
 have hds:∀ d∈q.free.take bs2.length,0≤d∧d < ((16:Nat):Int):=fun d hd=>hg.freeIn (List.mem_of_mem_take hd)
 have hdl:(q.free.take bs2.length).length=bs2.length:=by rw [List.length_take]; omega
 have hll:(layK l 0 (q.free.take bs2.length) bs2 bs2.length).length=1700:=by rw [layK_length hok hds bs2.length (by omega),h.len]
 have hm:∀ m,m < bs2.length→(q.free.take bs2.length).getD m 0=q.free.getD m 0:=fun m hm=>by
  rw [List.getD_eq_getElem?_getD,List.getD_eq_getElem?_getD,List.getElem?_take,if_pos hm]
 refine h.keep (addM_len h.len hg h2) (fun k o j hk ho=>?_) ?_
 · have h3:=getD_in h.dsin hk
   rw [addM,offerD_other _ _ (ok1700 hll) (by omega),layK_other h.len hds (fun m hm2=>?_) _ (by omega)]
   rw [hdl] at hm2
   have h4:=getD_in hds (show m < (q.free.take bs2.length).length by omega)
   have h5:=hne k m hk hm2
   rw [←hm m hm2] at h5
   omega
 · have h6:se % 16 < 16:=Nat.mod_lt _ (by decide)
   have h7:q.avail % 16 < 16:=Nat.mod_lt _ (by decide)
   have e1:=putAt_length (l:=layK l 0 (q.free.take bs2.length) bs2 bs2.length) (p:=0+16 * 16+4+2 * (q.avail % 16)) (k:=2) (q.free.getD 0 0).toNat (by omega)
   rw [addM,offerD,numAt_other _ (by omega) (by omega),numAt_other _ (by omega) (by omega),layK_other h.len hds (fun m hm2=>?_) _ (by omega)]
   have h4:=getD_in hds hm2
   omega
theorem poll_is_first {l:List UInt8} {q q2:QQ} {x y E:Int} {c:QCh} {L:List QCh} {a n:Nat} (h:PollSpec l 0 16 q q2 x y E) (hc:q.chains=c::L) (h0:0 < aheadQ l 0 16 q) (h1:aheadQ l 0 16 q≤q.chains.length) (ha:usedE l 0 16 q.last 0=a) (hn:usedE l 0 16 q.last 4=n) (hi:isUsed a n c=true) (hne:∀ d∈L,d.head≠c.head) :
 q2=relQ { q with last:=(q.last+1) % 65536 } 0∧x=(a:Nat)∧y=(n:Nat)∧E=0:=by
 rcases h with ⟨e,_⟩|⟨e,_⟩|⟨_,_,e,_⟩|⟨_,_,i,d,e1,e2,e3,e4,e5,e6⟩
 · omega
 · omega
 · have:=e c (by rw [hc]; simp)
   rw [ha,hn,hi] at this
   cases this
 · rw [ha,hn] at e2
   rw [hc] at e1
   have hi0:i=0:=by
    cases i with
    | zero=>rfl
    | succ i =>
      exfalso
      rw [List.getElem?_cons_succ] at e1
      have h2:=hne d (List.mem_of_getElem? e1)
      have h3:=of_decide_eq_true hi
      have h4:=of_decide_eq_true e2
      exact h2 (by omega)
   subst hi0
   exact ⟨e3,by rw [e4,ha],by rw [e5,hn],e6⟩
def setAll (X:World) (g:Nat):Nat→List Value→World
 | _,[]=>X
 | i,v::r=>setAll (X.setCell ⟨g,i,none⟩ v) g (i+1) r
set_option maxHeartbeats 1000000 in
theorem blkSame_any (v:Value) (l:List UInt8) (w:World) (hv0:OwnB 0 w v l) (hl:l.length=1700) :
 Calls Tryz.prog 17 #[.agg #[v]] w fun e w'=>∃ ra rc,e=.returned (.agg #[.slice ra 1700 rc])∧OwnB 0 w' (.slice ra 1700 rc) l∧Below w.heap.size w w':=by
 have hv:=hv0.arg
 have HV:=Zh hv
 have HB:=Zh (((Below.refl w.heap.size w).alloc (Nat.le_refl _) (.cells #[v] 24)).alloc (by simp) (.cells #[.slice none 0 0] 24))
 obtain ⟨a,c,rfl,_⟩:=hv.shape
 have HL:=Zh hl
 have hl9:l.length≤140737488355328:=by omega
 have HL9:=Zh hl9
 clear hv hv0 hl hl9
 go_enter Tryz.func17,Tryz.ntmps17
 go_wp2_with fail
 refine (clone_any _ _ _ (HV.out.below HB.out) HL9.out).mono ?_
 rintro e w1 ⟨r,rfl,hr,hb⟩
 have HB1:=Zh (HB.out.trans (hb.mono (by simp; omega)))
 have HR:=Zh hr
 obtain ⟨_,hold,hfz,hlt⟩:=second_box hb
 obtain ⟨ra,rc,rfl,_⟩:=(isArg_of_owns hr).shape
 clear hr hb
 go_wp2
 refine bodyPost_ret (v:=.agg #[.slice ra l.length rc]) (by simp [results,Tryz.results17,go_sem,hold]) rfl ⟨ra,rc,by rw [HL.out],?_,?_⟩
 · have h:=ownsRow_base (base':=0) (ownsRow_set HR.out ⟨w.heap.size+1,0,none⟩ (.slice ra l.length rc) (by simp)) (Nat.zero_le _)
   rw [←HL.out]
   exact h
 · exact HB1.out.setCell (by simp) _
set_option maxHeartbeats 2000000 in
theorem isRequest_in (v:Value) (bs:List QB) (n k:Nat) (x y:Int) (xb:Bool) (w:World) (hbf:OwnBf 0 w v bs) (hn:bs.length=n) (hk:n=k+1) (hk16:k < 16) (h0:bs[0]? = some (x,16,xb)) (h1:bs[k]? = some (y,1,true)) :
 Calls Tryz.prog 24 #[v] w fun e w'=>e=.returned (.bool true)∧Below w.heap.size w w':=by
 obtain ⟨a,c,rfl,q1,q2⟩:=hbf.shape
 obtain ⟨g,rfl,hg⟩:=hbf.lie (by omega)
 obtain ⟨a0,z0,t0,e0,f0,f1,f2⟩:=hbf.at 0 (by omega)
 rw [h0] at e0
 cases e0
 obtain ⟨a1,z1,t1,e1,g0,g1,g2⟩:=hbf.at k (by omega)
 rw [h1] at e1
 cases e1
 have hb:=(Below.refl w.heap.size w).alloc (Nat.le_refl _) (.cells #[.int .i64 y,.int .i64 1,.bool true] 80)
 have hrow:=heap_alloc_new w (.cells #[.int .i64 y,.int .i64 1,.bool true] 80)
 obtain ⟨⟨b0,b1,b2⟩,_⟩:=cells_three hrow
 have d1:(w.alloc (.cells #[.int .i64 y,.int .i64 1,.bool true] 80)).cell? ⟨g,1,none⟩=some (.int .i64 16):=kept f1 hb
 have HB:=Zh hb
 rw [hn] at q1 ⊢
 have hi:((n:Nat):Int) - 1=(k:Nat):=by omega
 have hlt:0≤(k:Int)∧(k:Int) < (n:Int):=by omega
 obtain ⟨hl0,hl1⟩:=hlt
 have hp:(0:Int) < (n:Int):=by omega
 have hn16:n≤16:=by omega
 clear hbf h0 h1 hb hrow f0 f1 f2 hk
 go_enter Tryz.func24,Tryz.ntmps24
 go_wp2
 go_ret
 exact ⟨rfl,HB.out⟩
theorem blkPut_this (v u:Value) (l m:List UInt8) (p:Nat) (x:Int) (w:World) (hv:OwnB 0 w v l) (hu:IsArg w u m) (hl:l.length=1700) (hx:((p:Nat):Int)=x) (hp:p+m.length≤1700) :
 Calls Tryz.prog 41 #[.agg #[v],.int .i64 x,u] w fun e w'=>∃ ra rc,e=.returned (.tuple #[.agg #[.slice ra 1700 rc],.int .i64 0])∧OwnB 0 w' (.slice ra 1700 rc) (rowPut l p m)∧Below w.heap.size w w':=by
 subst hx
 have hf:faultOf l.length (p:Nat) (m.length:Nat)=0:=fault_of (by omega) (by omega) (by omega) (by omega) (by omega)
 have hg:putOf l (p:Nat) m=rowPut l p m:=by rw [putOf_some hf,rowPut,Int.toNat_natCast]
 have hn:(rowPut l p m).length=1700:=(rowPut_length (by omega)).trans hl
 refine (put_any v l u m w hv.arg hu _ (by omega) (by omega)).mono ?_
 rintro e w' ⟨r,rfl,hr,hb⟩
 rw [hf]
 have hr2:OwnB w.heap.size w' r (rowPut l p m):=by rw [←hg]; exact hr
 obtain ⟨ra,rc,he,_,_⟩:=hr2.shape
 rw [hn] at he
 subst he
 exact ⟨ra,rc,rfl,hr2.base (Nat.zero_le _),hb⟩
theorem blkPutNum_this (v:Value) (l:List UInt8) (p k n:Nat) (x y:Int) (w:World) (hv:OwnB 0 w v l) (hl:l.length=1700) (hx:((p:Nat):Int)=x) (hy:((k:Nat):Int)=y) (hk:1≤k∧k≤8) (hp:p+k≤1700) :
 Calls Tryz.prog 27 #[.agg #[v],.int .i64 x,.int .i64 y,.int .u64 (n:Nat)] w fun e w'=>∃ ra rc,e=.returned (.tuple #[.agg #[.slice ra 1700 rc],.int .i64 0])∧OwnB 0 w' (.slice ra 1700 rc) (putAt l p k n)∧Below w.heap.size w w':=by
 subst hx
 subst hy
 have hf:faultOf l.length (p:Nat) (k:Nat)=0:=fault_of (by omega) (by omega) (by omega) (by omega) (by omega)
 have hs:sizeFaultOf l.length (k:Nat)=0:=by rcases size_cases l.length (k:Nat) with h|h|h <;> omega
 have hg:putNumOf l (p:Nat) (k:Nat) n=putAt l p k n:=by
  rw [putNumOf,if_pos hs,Int.toNat_natCast,putOf_some (by rw [leB_length]; exact hf),putAt,Int.toNat_natCast,leB_length]
 have hn:(putAt l p k n).length=1700:=(putAt_length n (by omega)).trans hl
 refine (putNum_any v l w hv.arg (p:Nat) (k:Nat) n (by omega)).mono ?_
 rintro e w' ⟨r,rfl,hr,hb⟩
 have hr2:=hr.ownB hv hb
 rw [hg] at hr2
 rw [numFaultOf,if_pos hs,hf]
 obtain ⟨ra,rc,he,_,_⟩:=hr2.shape
 rw [hn] at he
 subst he
 exact ⟨ra,rc,rfl,hr2,hb⟩
theorem blkNum_this (v:Value) (l:List UInt8) (p k n:Nat) (x y:Int) (w:World) (hv:OwnB 0 w v l) (hl:l.length=1700) (hx:((p:Nat):Int)=x) (hy:((k:Nat):Int)=y) (hk:1≤k∧k≤8) (hp:p+k≤1700) (hn:numAt l p k=n) :
 Calls Tryz.prog 53 #[.agg #[v],.int .i64 x,.int .i64 y] w fun e w'=>e=.returned (.tuple #[.int .u64 (n:Nat),.int .i64 0])∧Below w.heap.size w w':=by
 subst hx
 subst hy
 subst hn
 have hf:faultOf l.length (p:Nat) (k:Nat)=0:=fault_of (by omega) (by omega) (by omega) (by omega) (by omega)
 have hs:sizeFaultOf l.length (k:Nat)=0:=by rcases size_cases l.length (k:Nat) with h|h|h <;> omega
 have h:=num_any v l w hv.arg (p:Nat) (k:Nat) (by rw [hl]; decide)
 rw [numOf_in (by omega) (by omega) hk.1 hk.2,numFaultOf,if_pos hs,hf] at h
 exact h
set_option maxHeartbeats 2000000 in
theorem went_any (v:Value) (l:List UInt8) (p st n:Nat) (r:Int) (w:World) (hv:OwnB 0 w v l) (hl:l.length=1700) (hp:p+273≤1700) (hst:numAt l (p+272) 1=st) (hn:n < 4294967296) (hr:(if st=0∧n=1 then (0:Int) else 90)=r) :
 Calls Tryz.prog 33 #[.agg #[v],.int .i64 (p:Nat),.int .i64 (n:Nat)] w fun e w'=>e=.returned (.int .i64 r)∧Below w.heap.size w w':=by
 obtain ⟨a,c,rfl,q1,q2⟩:=hv.shape
 rw [hl] at hv ⊢
 have hb:=(Below.refl w.heap.size w).alloc (Nat.le_refl _) (.cells #[.slice a 1700 c] 24)
 have HB:=Zh hb
 have HV:=Zh (hv.below hb)
 have HL:=Zh hl
 have HS:=Zh hst
 clear hv hb q1 q2 hst hl
 by_cases h0:st=0
 · subst h0
   by_cases h1:n=1
   · subst h1
     rw [if_pos ⟨rfl,rfl⟩] at hr
     subst hr
     go_enter Tryz.func33,Tryz.ntmps33
     go_wp2_with fail
     refine (blkNum_this _ l (p+272) 1 0 _ _ _ HV.out HL.out (by omega) rfl (by decide) (by omega) HS.out).mono ?_
     rintro e w1 ⟨rfl,hb⟩
     have HB1:=Zh (HB.out.trans (hb.mono HB.out.size))
     clear hb
     go_wp2
     go_ret
     exact ⟨rfl,HB1.out⟩
   · rw [if_neg (fun h=>h1 h.2)] at hr
     subst hr
     have e1:(((n:Nat):Int) == 1)=false:=by rw [beq_eq_false_iff_ne]; omega
     have e2:(((n:Nat):Int) != 1)=true:=by rw [bne_iff_ne]; omega
     have e3:(n == 1)=false:=by rw [beq_eq_false_iff_ne]; exact h1
     have e4:(n != 1)=true:=by rw [bne_iff_ne]; exact h1
     go_enter Tryz.func33,Tryz.ntmps33
     go_wp2_with fail
     refine (blkNum_this _ l (p+272) 1 0 _ _ _ HV.out HL.out (by omega) rfl (by decide) (by omega) HS.out).mono ?_
     rintro e w1 ⟨rfl,hb⟩
     have HB1:=Zh (HB.out.trans (hb.mono HB.out.size))
     clear hb
     go_wp2
     go_ret
     exact ⟨rfl,HB1.out⟩
 · rw [if_neg (fun h=>h0 h.1)] at hr
   subst hr
   have e1:(((st:Nat):Int) == 0)=false:=by rw [beq_eq_false_iff_ne]; omega
   have e2:(((st:Nat):Int) != 0)=true:=by rw [bne_iff_ne]; omega
   have e3:(st == 0)=false:=by rw [beq_eq_false_iff_ne]; exact h0
   have e4:(st != 0)=true:=by rw [bne_iff_ne]; exact h0
   go_enter Tryz.func33,Tryz.ntmps33
   go_wp2_with fail
   refine (blkNum_this _ l (p+272) 1 st _ _ _ HV.out HL.out (by omega) rfl (by decide) (by omega) HS.out).mono ?_
   rintro e w1 ⟨rfl,hb⟩
   have HB1:=Zh (HB.out.trans (hb.mono HB.out.size))
   clear hb
   go_wp2
   go_ret
   exact ⟨rfl,HB1.out⟩
instance:Inhabited Req:=⟨zReq⟩
def encRq (r:Req):List Value:=[.bool r.busy,.int .i64 r.head,.bool r.flush,.int .i64 r.sec]
set_option maxHeartbeats 1000000 in
theorem isFree_any (w:World):PredBelow Tryz.prog 46 #[] (fun r=>.agg (encRq r).toArray) (fun r => !r.busy) w:=fun W r hW=>by
 obtain ⟨b,h,f,s⟩:=r
 have hbA:=heap_alloc_new W (.cells #[.bool b,.int .i64 h,.bool f,.int .i64 s] 31)
 obtain ⟨⟨c0,c1,c2,c3⟩,_⟩:=cells_four hbA
 have HW:=Zh (hW.alloc hW.size (.cells #[.bool b,.int .i64 h,.bool f,.int .i64 s] 31))
 show Calls _ _ #[.agg #[.bool b,.int .i64 h,.bool f,.int .i64 s]] W _
 clear hW hbA
 go_enter Tryz.func46,Tryz.ntmps46
 go_wp2
 go_ret
 exact ⟨rfl,HW.out⟩
set_option maxHeartbeats 1000000 in
theorem done1_any (x:Int) (gb:Nat) (w:World) (hb:w.heap[gb]? = some (.cells #[.int .i64 x] 3 (0,0))) :
 PredBelow Tryz.prog 32 #[.pointer (some ⟨gb,0,none⟩)] (fun r=>.agg (encRq r).toArray) (fun r=>r.busy && decide (r.head=x)) w:=fun W r hW=>by
 obtain ⟨b,h,f,s⟩:=r
 have hbW:=row_keep hb hW
 have hbx:=row_new hbW (.cells #[.bool b,.int .i64 h,.bool f,.int .i64 s] 31)
 obtain ⟨x0,_⟩:=one_cell hbx
 have hbA:=heap_alloc_new W (.cells #[.bool b,.int .i64 h,.bool f,.int .i64 s] 31)
 obtain ⟨⟨c0,c1,c2,c3⟩,_⟩:=cells_four hbA
 have HW:=Zh (hW.alloc hW.size (.cells #[.bool b,.int .i64 h,.bool f,.int .i64 s] 31))
 show Calls _ _ #[.agg #[.bool b,.int .i64 h,.bool f,.int .i64 s],.pointer (some ⟨gb,0,none⟩)] W _
 show Calls _ _ _ _ (fun e w'=>e=.returned (.bool (b && decide (h=x)))∧_)
 clear hW hbA hb hbW hbx
 cases b with
 | true =>
   by_cases h1:h=x
   · subst h1
     have e1:(h == h)=true:=by simp
     rw [decide_eq_true rfl]
     go_enter Tryz.func32,Tryz.ntmps32
     go_wp2
     go_ret
     exact ⟨rfl,HW.out⟩
   · have e1:(h == x)=false:=by rw [beq_eq_false_iff_ne]; exact h1
     rw [decide_eq_false h1]
     clear h1
     go_enter Tryz.func32,Tryz.ntmps32
     go_wp2
     go_ret
     exact ⟨rfl,HW.out⟩
 | false =>
   go_enter Tryz.func32,Tryz.ntmps32
   go_wp2
   go_ret
   exact ⟨rfl,HW.out⟩
def firstOf (t:Req→Bool) (r0 r1 r2 r3:Req):Int:=if t r0 then 0 else if t r1 then 1 else if t r2 then 2 else if t r3 then 3 else -1
theorem findR_any (t:Req→Bool) (F:Nat) (lb:Array Value) (eg:∀ args w,(callFunc F args).run Tryz.prog w=.ok (.enter F args) w) (g:Nat) (c0 c1 c2 c3 c4 c5 c6:Value) (r0 r1 r2 r3:Req) (w:World) (hrow:w.heap[g]? = some (.cells #[c0,c1,c2,c3,c4,c5,c6,.bool r0.busy,.int .i64 r0.head,.bool r0.flush,.int .i64 r0.sec,.bool r1.busy,.int .i64 r1.head,.bool r1.flush,.int .i64 r1.sec,.bool r2.busy,.int .i64 r2.head,.bool r2.flush,.int .i64 r2.sec,.bool r3.busy,.int .i64 r3.head,.bool r3.flush,.int .i64 r3.sec] 34 (0,0)))
 (hp:PredBelow Tryz.prog F lb (fun r=>.agg (encRq r).toArray) t w) :
 Calls Tryz.prog 31 #[.slice (some ⟨g,7,none⟩) 4 4,.func (.func F) #[] lb] w fun e w'=>e=.returned (.int .i64 (firstOf t r0 r1 r2 r3))∧Below w.heap.size w w':=by
 have hk:∀ (o:Nat) (r:Req),(#[c0,c1,c2,c3,c4,c5,c6,.bool r0.busy,.int .i64 r0.head,.bool r0.flush,.int .i64 r0.sec,.bool r1.busy,.int .i64 r1.head,.bool r1.flush,.int .i64 r1.sec,.bool r2.busy,.int .i64 r2.head,.bool r2.flush,.int .i64 r2.sec,.bool r3.busy,.int .i64 r3.head,.bool r3.flush,.int .i64 r3.sec]:Array Value)[o]? = some (.bool r.busy)→(#[c0,c1,c2,c3,c4,c5,c6,.bool r0.busy,.int .i64 r0.head,.bool r0.flush,.int .i64 r0.sec,.bool r1.busy,.int .i64 r1.head,.bool r1.flush,.int .i64 r1.sec,.bool r2.busy,.int .i64 r2.head,.bool r2.flush,.int .i64 r2.sec,.bool r3.busy,.int .i64 r3.head,.bool r3.flush,.int .i64 r3.sec]:Array Value)[o+1]? = some (.int .i64 r.head)→(#[c0,c1,c2,c3,c4,c5,c6,.bool r0.busy,.int .i64 r0.head,.bool r0.flush,.int .i64 r0.sec,.bool r1.busy,.int .i64 r1.head,.bool r1.flush,.int .i64 r1.sec,.bool r2.busy,.int .i64 r2.head,.bool r2.flush,.int .i64 r2.sec,.bool r3.busy,.int .i64 r3.head,.bool r3.flush,.int .i64 r3.sec]:Array Value)[o+2]? = some (.bool r.flush)→(#[c0,c1,c2,c3,c4,c5,c6,.bool r0.busy,.int .i64 r0.head,.bool r0.flush,.int .i64 r0.sec,.bool r1.busy,.int .i64 r1.head,.bool r1.flush,.int .i64 r1.sec,.bool r2.busy,.int .i64 r2.head,.bool r2.flush,.int .i64 r2.sec,.bool r3.busy,.int .i64 r3.head,.bool r3.flush,.int .i64 r3.sec]:Array Value)[o+3]? = some (.int .i64 r.sec)→∀ i v,(encRq r)[i]? = some v→w.cell? ⟨g,o+i,none⟩=some v:=by
  intro o r a0 a1 a2 a3 i v hi
  match i,hi with
  | 0,hi=>rw [←Option.some.inj (show some (Value.bool r.busy)=some v from hi)]; exact (at_cell hrow _ _ a0).1
  | 1,hi=>rw [←Option.some.inj (show some (Value.int .i64 r.head)=some v from hi)]; exact (at_cell hrow _ _ a1).1
  | 2,hi=>rw [←Option.some.inj (show some (Value.bool r.flush)=some v from hi)]; exact (at_cell hrow _ _ a2).1
  | 3,hi=>rw [←Option.some.inj (show some (Value.int .i64 r.sec)=some v from hi)]; exact (at_cell hrow _ _ a3).1
  | i+4,hi=>simp [encRq] at hi
 have h:=AnyQ.slices_IndexFunc (α:=Req) Tryz.laysFindR 4 (fun w=>by kernel_rfl) (fun w=>by kernel_rfl) encRq (fun _=>rfl) t F lb eg g 7 4 4 [r0,r1,r2,r3] w hp (by simp) (by decide) (Array.getElem?_eq_some_iff.1 hrow).1 (fun j hj i v hi=>by
  match j,hj,hi with
  | 0,_,hi=>exact hk 7 r0 rfl rfl rfl rfl i v hi
  | 1,_,hi=>exact hk 11 r1 rfl rfl rfl rfl i v hi
  | 2,_,hi=>exact hk 15 r2 rfl rfl rfl rfl i v hi
  | 3,_,hi=>exact hk 19 r3 rfl rfl rfl rfl i v hi
  | j+4,hj,_=>exact absurd (show j+4 < 4 from hj) (by omega))
 refine h.mono ?_
 rintro e w' ⟨rfl,hb⟩
 refine ⟨?_,hb⟩
 have h2:Lib.idxBy (fun _ y=>t y) ([r0,r1,r2,r3].take 4) default=firstOf t r0 r1 r2 r3:=by
  cases h0:t r0 <;> cases h1:t r1 <;> cases h2:t r2 <;> cases h3:t r3 <;> simp [Lib.idxBy,Lib.idxByFrom,firstOf,h0,h1,h2,h3]
 rw [h2]
theorem findFree_any (g:Nat) (c0 c1 c2 c3 c4 c5 c6:Value) (r0 r1 r2 r3:Req) (z:Int) (w:World) (hrow:w.heap[g]? = some (.cells #[c0,c1,c2,c3,c4,c5,c6,.bool r0.busy,.int .i64 r0.head,.bool r0.flush,.int .i64 r0.sec,.bool r1.busy,.int .i64 r1.head,.bool r1.flush,.int .i64 r1.sec,.bool r2.busy,.int .i64 r2.head,.bool r2.flush,.int .i64 r2.sec,.bool r3.busy,.int .i64 r3.head,.bool r3.flush,.int .i64 r3.sec] 34 (0,0))) (hz:firstOf (fun r => !r.busy) r0 r1 r2 r3=z) :
 Calls Tryz.prog 31 #[.slice (some ⟨g,7,none⟩) 4 4,.func (.func 46) #[] #[]] w fun e w'=>e=.returned (.int .i64 z)∧Below w.heap.size w w':=by
 subst hz
 exact findR_any _ _ #[] (enters_of Tryz.func46 (by kernel_rfl) rfl) g c0 c1 c2 c3 c4 c5 c6 r0 r1 r2 r3 w hrow (isFree_any w)
theorem findDone_any (g gb:Nat) (x:Int) (c0 c1 c2 c3 c4 c5 c6:Value) (r0 r1 r2 r3:Req) (z:Int) (w:World) (hrow:w.heap[g]? = some (.cells #[c0,c1,c2,c3,c4,c5,c6,.bool r0.busy,.int .i64 r0.head,.bool r0.flush,.int .i64 r0.sec,.bool r1.busy,.int .i64 r1.head,.bool r1.flush,.int .i64 r1.sec,.bool r2.busy,.int .i64 r2.head,.bool r2.flush,.int .i64 r2.sec,.bool r3.busy,.int .i64 r3.head,.bool r3.flush,.int .i64 r3.sec] 34 (0,0))) (hb:w.heap[gb]? = some (.cells #[.int .i64 x] 3 (0,0))) (hz:firstOf (fun r=>r.busy && decide (r.head=x)) r0 r1 r2 r3=z) :
 Calls Tryz.prog 31 #[.slice (some ⟨g,7,none⟩) 4 4,.func (.func 32) #[] #[.pointer (some ⟨gb,0,none⟩)]] w fun e w'=>e=.returned (.int .i64 z)∧Below w.heap.size w w':=by
 subst hz
 exact findR_any _ _ #[.pointer (some ⟨gb,0,none⟩)] (enters_of Tryz.func32 (by kernel_rfl) rfl) g c0 c1 c2 c3 c4 c5 c6 r0 r1 r2 r3 w hrow (done1_any x gb w hb)
def bk (F C:Value) (A La:Int) (r0 r1 r2 r3:Req):Array Value:=#[.int .i64 0,.int .i64 16,F,.int .u16 A,.int .u16 La,C,.int .i64 500,.bool r0.busy,.int .i64 r0.head,.bool r0.flush,.int .i64 r0.sec,.bool r1.busy,.int .i64 r1.head,.bool r1.flush,.int .i64 r1.sec,.bool r2.busy,.int .i64 r2.head,.bool r2.flush,.int .i64 r2.sec,.bool r3.busy,.int .i64 r3.head,.bool r3.flush,.int .i64 r3.sec]
abbrev bk0:Array Value:=#[.int .i64 0,.int .i64 0,.slice none 0 0,.int .u16 0,.int .u16 0,.slice none 0 0,.int .i64 0,.bool false,.int .i64 0,.bool false,.int .i64 0,.bool false,.int .i64 0,.bool false,.int .i64 0,.bool false,.int .i64 0,.bool false,.int .i64 0,.bool false,.int .i64 0,.bool false,.int .i64 0]
theorem infoBlk:(Tryz.prog.info? 34).map (·.size)=some 23:=by kernel_rfl
theorem bk_one {F C:Value} {A La:Int} {r0 r1 r2 r3:Req} (hF:F.oneCell'=true) (hC:C.oneCell'=true):(bk F C A La r0 r1 r2 r3).all (·.oneCell')=true:=by
 simp [bk,Value.oneCell']
 exact ⟨hF,hC⟩
theorem wp_blk_load {w:World} {o:Oper} {a:Act} {K:Act→World→Prop} {Q:Exit→Act→World→Prop} (x:Operand) (ho:o.op=.load 34 x) (g:Nat) (hx:a.eval x=.pointer (some ⟨g,0,none⟩)) (cs:Array Value) (hg:w.heap[g]? = some (.cells cs 34 (0,0))) (hs:cs.size=23) (h:K (a.put o.dst (.agg cs)) w):Oper.wp Tryz.prog o a w K Q:=by
 unfold Oper.wp execOp
 simp only [ho,hx,Instr.loadAt,Instr.sureAddr,Sem.run_bind,Sem.run_pure,Result.andThen_ok,run_loadVar_row w g 34 34 cs (0,0) _ hg Tryz.underlying34 rfl (by rw [hs]; exact infoBlk)]
 exact h
section
variable {w:World} {ops:Array Oper} {rest:List Oper} {o:Oper} {a:Act} {K:Act→World→Prop} {Q:Exit→Act→World→Prop} {E:Prop}
theorem blk_load (hgd:o.guard=none) (x:Operand) (ho:o.op=.load 34 x) (g:Nat) (hx:a.eval x=.pointer (some ⟨g,0,none⟩)) (cs:Array Value) (hg:w.heap[g]? = some (.cells cs 34 (0,0))) (hs:cs.size=23) (h:wpList Tryz.prog ops Q rest (a.put o.dst (.agg cs)) w):wpList Tryz.prog ops Q (o::rest) a w :=
 wpList_plain hgd fun _ hK=>wp_blk_load x ho g hx cs hg hs (hK _ _ h)
theorem blk_store (hgd:o.guard=none) (x y:Operand) (ho:o.op=.store 34 x y) (g:Nat) (cs:Array Value) (hx:a.eval x=.pointer (some ⟨g,0,none⟩)) (hy:a.eval y=.agg cs) (old:Array Value) (hg:w.heap[g]? = some (.cells old 34 (0,0))) (hs:cs.size=23) (ho2:old.size=23) (h1:cs.all (·.oneCell')=true) (h:wpList Tryz.prog ops Q rest (a.put o.dst undef) (w.setRow g cs)):wpList Tryz.prog ops Q (o::rest) a w :=
 wpList_store_row hgd 34 x y ho g cs hx hy 34 old hg (by rw [hs]; exact infoBlk) (by rw [ho2,hs]) h1 h
theorem blk_store_new (hgd:o.guard=none) (x y:Operand) (ho:o.op=.store 34 x y) (w0:World) (g:Nat) (hz:w0.heap.size=g) (cs:Array Value) (hx:a.eval x=.pointer (some ⟨g,0,none⟩)) (hy:a.eval y=.agg cs) (old:Array Value) (hw:w=w0.alloc (.cells old 34)) (hs:cs.size=23) (ho2:old.size=23) (h1:cs.all (·.oneCell')=true) (h:wpList Tryz.prog ops Q rest (a.put o.dst undef) (w0.alloc (.cells cs 34))):wpList Tryz.prog ops Q (o::rest) a w:=by
 subst hw
 subst hz
 refine blk_store hgd x y ho w0.heap.size cs hx hy old (heap_alloc_new w0 _) hs ho2 h1 ?_
 rw [World.setRow_alloc_new]
 exact h
theorem step_blk_load (hgd:o.guard=none) (x:Operand) (ho:o.op=.load 34 x) (g:Nat) (hx:a.eval x=.pointer (some ⟨g,0,none⟩)) (cs:Array Value) (hg:w.heap[g]? = some (.cells cs 34 (0,0))) (hs:cs.size=23) (h:K (a.put o.dst (.agg cs)) w):if Region.wanted o (yielded ops a.tmps)=true then Oper.wp Tryz.prog o a w K Q else E:=by
 rw [if_pos (by simp [Region.wanted,hgd])]
 exact wp_blk_load x ho g hx cs hg hs h
theorem step_blk_store (hgd:o.guard=none) (x y:Operand) (ho:o.op=.store 34 x y) (g:Nat) (cs:Array Value) (hx:a.eval x=.pointer (some ⟨g,0,none⟩)) (hy:a.eval y=.agg cs) (old:Array Value) (hg:w.heap[g]? = some (.cells old 34 (0,0))) (hs:cs.size=23) (ho2:old.size=23) (h1:cs.all (·.oneCell')=true) (h:K (a.put o.dst undef) (w.setRow g cs)):if Region.wanted o (yielded ops a.tmps)=true then Oper.wp Tryz.prog o a w K Q else E:=by
 rw [if_pos (by simp [Region.wanted,hgd])]
 exact wp_store_row 34 x y ho g cs hx hy 34 old hg (by rw [hs]; exact infoBlk) (by rw [ho2,hs]) h1 h
end
theorem blk_loads {W:World} {g:Nat} {cs:Array Value} (h:W.heap[g]? = some (.cells cs 34 (0,0))) (hs:cs.size=23):(loadVar 34 ⟨g,0,none⟩).run Tryz.prog W=.ok (.agg cs) W :=
 run_loadVar_row W g 34 34 cs (0,0) _ h Tryz.underlying34 rfl (by rw [hs]; exact infoBlk)
theorem bk_cells {X:World} {g:Nat} {F C:Value} {A La:Int} {r0 r1 r2 r3:Req} {t:TypeId} (h:X.heap[g]? = some (.cells (bk F C A La r0 r1 r2 r3) t (0,0))) :
 (X.cell? ⟨g,0,none⟩=some (.int .i64 0)∧X.cell? ⟨g,1,none⟩=some (.int .i64 16)∧X.cell? ⟨g,2,none⟩=some F∧X.cell? ⟨g,3,none⟩=some (.int .u16 A)∧X.cell? ⟨g,4,none⟩=some (.int .u16 La)∧X.cell? ⟨g,5,none⟩=some C∧X.cell? ⟨g,6,none⟩=some (.int .i64 500))∧X.frozen? ⟨g,0,none⟩=false∧X.frozen? ⟨g,1,none⟩=false∧X.frozen? ⟨g,2,none⟩=false∧X.frozen? ⟨g,3,none⟩=false∧X.frozen? ⟨g,4,none⟩=false∧X.frozen? ⟨g,5,none⟩=false :=
 ⟨⟨(at_cell h 0 _ rfl).1,(at_cell h 1 _ rfl).1,(at_cell h 2 _ rfl).1,(at_cell h 3 _ rfl).1,(at_cell h 4 _ rfl).1,(at_cell h 5 _ rfl).1,(at_cell h 6 _ rfl).1⟩,(at_cell h 0 _ rfl).2,(at_cell h 1 _ rfl).2,(at_cell h 2 _ rfl).2,(at_cell h 3 _ rfl).2,(at_cell h 4 _ rfl).2,(at_cell h 5 _ rfl).2⟩
def slotL (r0 r1 r2 r3:Req):List Value:=[.bool r0.busy,.int .i64 r0.head,.bool r0.flush,.int .i64 r0.sec,.bool r1.busy,.int .i64 r1.head,.bool r1.flush,.int .i64 r1.sec,.bool r2.busy,.int .i64 r2.head,.bool r2.flush,.int .i64 r2.sec,.bool r3.busy,.int .i64 r3.head,.bool r3.flush,.int .i64 r3.sec]
theorem bk_slots {X:World} {g:Nat} {F C:Value} {A La:Int} {r0 r1 r2 r3:Req} {t:TypeId} (h:X.heap[g]? = some (.cells (bk F C A La r0 r1 r2 r3) t (0,0))):X.rangeAt g 7 (slotL r0 r1 r2 r3):=fun j v hj=>by
 rw [cell_of_row X g (7+j) _ t (0,0) h]
 match j,hj with
 | 0,hj=>exact hj
 | 1,hj=>exact hj
 | 2,hj=>exact hj
 | 3,hj=>exact hj
 | 4,hj=>exact hj
 | 5,hj=>exact hj
 | 6,hj=>exact hj
 | 7,hj=>exact hj
 | 8,hj=>exact hj
 | 9,hj=>exact hj
 | 10,hj=>exact hj
 | 11,hj=>exact hj
 | 12,hj=>exact hj
 | 13,hj=>exact hj
 | 14,hj=>exact hj
 | 15,hj=>exact hj
 | j+16,hj=>simp [slotL] at hj
theorem infoMem:(Tryz.prog.info? 24).map (·.size)=some 1:=by kernel_rfl
theorem mem_loads {W:World} {g:Nat} {v:Value} (h:W.heap[g]? = some (.cells #[v] 24 (0,0))):(loadVar 24 ⟨g,0,none⟩).run Tryz.prog W=.ok (.agg #[v]) W :=
 run_loadVar_row W g 24 24 #[v] (0,0) _ h Tryz.underlying24 rfl infoMem
theorem results_b {fn:Func} {p:Tmp} (h:fn.results=#[.cell p 34]) {tmps:Array Value} {W:World} {g:Nat} {cs:Array Value} (hp:tmps.getD p undef=.pointer (some ⟨g,0,none⟩)) (hb:W.heap[g]? = some (.cells cs 34 (0,0))) (hs:cs.size=23):(results fn tmps).run Tryz.prog W=.ok (.agg cs) W:=by
 have hp':tmps[p]?.getD undef=.pointer (some ⟨g,0,none⟩):=by simpa using hp
 simp [results,h,hp',asAddr,blk_loads hb hs]
theorem results_mbt {fn:Func} {p q u:Tmp} (h:fn.results=#[.cell p 24,.cell q 34,.tmp u]) {tmps:Array Value} {W:World} {g k:Nat} {v:Value} {cs:Array Value} (hp:tmps.getD p undef=.pointer (some ⟨k,0,none⟩)) (hq:tmps.getD q undef=.pointer (some ⟨g,0,none⟩)) (hm:W.heap[k]? = some (.cells #[v] 24 (0,0))) (hb:W.heap[g]? = some (.cells cs 34 (0,0))) (hs:cs.size=23):(results fn tmps).run Tryz.prog W=.ok (.tuple #[.agg #[v],.agg cs,tmps.getD u undef]) W:=by
 have hp':tmps[p]?.getD undef=.pointer (some ⟨k,0,none⟩):=by simpa using hp
 have hq':tmps[q]?.getD undef=.pointer (some ⟨g,0,none⟩):=by simpa using hq
 simp [results,h,hp',hq',asAddr,blk_loads hb hs,mem_loads hm]
theorem results_mbtt {fn:Func} {p q u v:Tmp} (h:fn.results=#[.cell p 24,.cell q 34,.tmp u,.tmp v]) {tmps:Array Value} {W:World} {g k:Nat} {x:Value} {cs:Array Value} (hp:tmps.getD p undef=.pointer (some ⟨k,0,none⟩)) (hq:tmps.getD q undef=.pointer (some ⟨g,0,none⟩)) (hm:W.heap[k]? = some (.cells #[x] 24 (0,0))) (hb:W.heap[g]? = some (.cells cs 34 (0,0))) (hs:cs.size=23):(results fn tmps).run Tryz.prog W=.ok (.tuple #[.agg #[x],.agg cs,tmps.getD u undef,tmps.getD v undef]) W:=by
 have hp':tmps[p]?.getD undef=.pointer (some ⟨k,0,none⟩):=by simpa using hp
 have hq':tmps[q]?.getD undef=.pointer (some ⟨g,0,none⟩):=by simpa using hq
 simp [results,h,hp',hq',asAddr,blk_loads hb hs,mem_loads hm]
theorem results_bttt {fn:Func} {p u v x:Tmp} (h:fn.results=#[.cell p 34,.tmp u,.tmp v,.tmp x]) {tmps:Array Value} {W:World} {g:Nat} {cs:Array Value} (hp:tmps.getD p undef=.pointer (some ⟨g,0,none⟩)) (hb:W.heap[g]? = some (.cells cs 34 (0,0))) (hs:cs.size=23):(results fn tmps).run Tryz.prog W=.ok (.tuple #[.agg cs,tmps.getD u undef,tmps.getD v undef,tmps.getD x undef]) W:=by
 have hp':tmps[p]?.getD undef=.pointer (some ⟨g,0,none⟩):=by simpa using hp
 simp [results,h,hp',asAddr,blk_loads hb hs]
theorem row_other {W:World} {g k:Nat} {o:Obj} (h:W.heap[k]? = some o) (cs:Array Value) (hne:g≠k):(W.setRow g cs).heap[k]? = some o:=by rw [setRow_other W g k cs (fun e=>hne e.symm)]; exact h
theorem row_self {W:World} {g:Nat} {old:Array Value} {t:TypeId} {fr:Nat × Nat} (h:W.heap[g]? = some (.cells old t fr)) (cs:Array Value):(W.setRow g cs).heap[g]? = some (.cells cs t fr):=setRow_heap W g old cs t fr h
theorem owns_row {W:World} {B g n s:Nat} {e t:TypeId} {v:Value} {xs:List Value} {old:Array Value} {fr:Nat × Nat} (ho:W.ownsRow B e s v n xs) (h:W.heap[g]? = some (.cells old t fr)) (hne:(t:Nat)≠e) (cs:Array Value):(W.setRow g cs).ownsRow B e s v n xs :=
 owns_keep ho fun k cur _ hc=>row_other hc cs (fun e'=>by
  subst e'
  rw [h] at hc
  injection hc with hc
  injection hc with _ hc _
  exact hne hc)
theorem below_row {w W:World} {B g:Nat} (h:Below B w W) (hg:B≤g) (cs:Array Value):Below B w (W.setRow g cs) :=
 ⟨h.os,h.tape,h.output,by rw [setRow_size]; exact h.size,fun k hk=>(setRow_other W g k cs (by omega)).trans (h.block k hk)⟩
theorem q_row {W:World} {B g:Nat} {F C:Value} {q:QQ} {D:List Value} {old:Array Value} {fr:Nat × Nat} (hq:IsQ B W F C q D) (h:W.heap[g]? = some (.cells old 34 fr)) (cs:Array Value):IsQ B (W.setRow g cs) F C q D :=
 ⟨owns_row hq.free h (by decide) cs,⟨hq.chains.len,owns_row hq.chains.row h (by decide) cs,fun i d c hd hc=>owns_row (hq.chains.ds i d c hd hc) h (by decide) cs⟩,hq.apart⟩
theorem IsQ.row {W:World} {B g:Nat} {F C:Value} {q:QQ} {D:List Value} {old:Array Value} {fr:Nat × Nat} (hq:IsQ B W F C q D) (h:W.heap[g]? = some (.cells old 34 fr)) (cs:Array Value):IsQ B (W.setRow g cs) F C q D:=q_row hq h cs
theorem OwnB.row {W:World} {B g:Nat} {v:Value} {l:List UInt8} {old:Array Value} {fr:Nat × Nat} (hq:OwnB B W v l) (h:W.heap[g]? = some (.cells old 34 fr)) (cs:Array Value):OwnB B (W.setRow g cs) v l:=owns_row hq h (by decide) cs
theorem OwnBf.row {W:World} {B g:Nat} {v:Value} {l:List QB} {old:Array Value} {fr:Nat × Nat} (hq:OwnBf B W v l) (h:W.heap[g]? = some (.cells old 34 fr)) (cs:Array Value):OwnBf B (W.setRow g cs) v l:=owns_row hq h (by decide) cs
def MemAt (W:World) (g:Nat) (l:List UInt8):Prop:=∃ a c,W.heap[g]? = some (.cells #[.slice a 1700 c] 24 (0,0))∧OwnB 0 W (.slice a 1700 c) l
def BlkAt (W:World) (g:Nat) (q:QQ) (A La:Int) (r0 r1 r2 r3:Req):Prop:=∃ F C D,W.heap[g]? = some (.cells (bk F C A La r0 r1 r2 r3) 34 (0,0))∧IsQ 0 W F C q D
section
variable {W W':World} {g k:Nat} {l:List UInt8} {q:QQ} {A La:Int} {r0 r1 r2 r3:Req} {cs:Array Value} {t:TypeId}
theorem MemAt.below (h:MemAt W g l) (hb:Below W.heap.size W W'):MemAt W' g l:=by
 obtain ⟨a,c,h1,h2⟩:=h
 exact ⟨a,c,row_keep h1 hb,h2.below hb⟩
theorem MemAt.stay (h:MemAt W g l) (hg:W.heap[k]? = some (.cells cs t (0,0))) (ht:(t:Nat)≠5) (hne:k≠g) (j:Nat) (u:Value):MemAt (W.setCell ⟨k,j,none⟩ u) g l:=by
 obtain ⟨a,c,h1,h2⟩:=h
 exact ⟨a,c,one_other h1 _ _ hne,h2.stay hg ht j u⟩
theorem MemAt.row (h:MemAt W g l) {old:Array Value} (hg:W.heap[k]? = some (.cells old 34 (0,0))) (cs:Array Value):MemAt (W.setRow k cs) g l:=by
 obtain ⟨a,c,h1,h2⟩:=h
 exact ⟨a,c,row_other h1 cs (blocks_ne h1 hg (by decide)),h2.row hg cs⟩
theorem BlkAt.below (h:BlkAt W g q A La r0 r1 r2 r3) (hb:Below W.heap.size W W'):BlkAt W' g q A La r0 r1 r2 r3:=by
 obtain ⟨F,C,D,h1,h2⟩:=h
 exact ⟨F,C,D,row_keep h1 hb,h2.below hb⟩
theorem BlkAt.stay (h:BlkAt W g q A La r0 r1 r2 r3) (hg:W.heap[k]? = some (.cells cs t (0,0))) (ht:(t:Nat)≠3) (ht2:(t:Nat)≠97) (hne:k≠g) (j:Nat) (u:Value):BlkAt (W.setCell ⟨k,j,none⟩ u) g q A La r0 r1 r2 r3:=by
 obtain ⟨F,C,D,h1,h2⟩:=h
 exact ⟨F,C,D,one_other h1 _ _ hne,h2.stay hg ht ht2 j u⟩
theorem BlkAt.row (h:BlkAt W g q A La r0 r1 r2 r3) {old:Array Value} (hg:W.heap[k]? = some (.cells old 34 (0,0))) (hne:k≠g) (cs:Array Value):BlkAt (W.setRow k cs) g q A La r0 r1 r2 r3:=by
 obtain ⟨F,C,D,h1,h2⟩:=h
 exact ⟨F,C,D,row_other h1 cs hne,h2.row hg cs⟩
end
theorem tbI:(34:Nat)≠3:=by decide
theorem tbC:(34:Nat)≠97:=by decide
set_option maxHeartbeats 4000000 in
set_option maxRecDepth 100000 in
theorem blkCopied_any (q:QQ) (r0 r1 r2 r3:Req) (N:Nat) (F C:Value) (D:List Value) (w:World) (hq:IsQ 0 w F C q D) (hg:GoodQ q N) :
 Calls Tryz.prog 29 #[.agg (bk F C (q.avail:Nat) (q.last:Nat) r0 r1 r2 r3)] w fun e w'=>∃ F' C' E,e=.returned (.agg (bk F' C' (q.avail:Nat) (q.last:Nat) r0 r1 r2 r3))∧IsQ w.heap.size w' F' C' q E∧Below w.heap.size w w':=by
 obtain ⟨few1,few2,few3,few4,few5⟩:=hg.few
 have HQ:=Zh hq
 obtain ⟨fa,fn,fc,ca,cn,cc,rfl,rfl,hfn,hcn,_,_,_,_⟩:=hq.shape
 obtain ⟨b,z,fr,av,la,ch⟩:=q
 simp only at *
 have HG:=Zh (show ∀ c∈ch,c.ds.length≤16 from fun c hc=>Nat.le_trans (few5 c hc) few3)
 have HFN:=Zh hfn
 have HCN:=Zh hcn
 have hcn16:cn≤16:=by omega
 obtain ⟨t0,t1⟩:(((w.alloc (.cells (bk (.slice fa fn fc) (.slice ca cn cc) (av:Nat) (la:Nat) r0 r1 r2 r3) 34)).alloc (.cells bk0 34)).heap[w.heap.size]? = some (.cells (bk (.slice fa fn fc) (.slice ca cn cc) (av:Nat) (la:Nat) r0 r1 r2 r3) 34 (0,0)))∧(((w.alloc (.cells (bk (.slice fa fn fc) (.slice ca cn cc) (av:Nat) (la:Nat) r0 r1 r2 r3) 34)).alloc (.cells bk0 34)).heap[w.heap.size+1]? = some (.cells bk0 34 (0,0))) :=
  ⟨row_new (heap_alloc_new w _) _,by simpa using heap_alloc_new (w.alloc (.cells (bk (.slice fa fn fc) (.slice ca cn cc) (av:Nat) (la:Nat) r0 r1 r2 r3) 34)) (.cells bk0 34)⟩
 have HB0:=Zh (((Below.refl w.heap.size w).alloc (Nat.le_refl _) (.cells (bk (.slice fa fn fc) (.slice ca cn cc) (av:Nat) (la:Nat) r0 r1 r2 r3) 34)).alloc (by simp) (.cells bk0 34))
 have HP:=Zh t0
 have HR:=Zh t1
 have hs0:((w.alloc (.cells (bk (.slice fa fn fc) (.slice ca cn cc) (av:Nat) (la:Nat) r0 r1 r2 r3) 34)).alloc (.cells bk0 34)).heap.size=w.heap.size+2:=by simp
 have HS0:=Zh hs0
 have HFL:=Zh (show fr.length≤1000 by omega)
 have HCL:=Zh (show ch.length≤1000 by omega)
 clear hq hg few1 few2 few3 few4 few5 t0 t1 hs0 hfn hcn
 go_enter Tryz.func29,Tryz.ntmps29
 obtain ⟨cF,zF⟩:=at_cell HP.out 2 _ rfl
 go_wp2_with fail
 refine (cloneI_any _ _ _ (HQ.out.free.below HB0.out) HFL.out).mono ?_
 clear cF zF
 rintro e w1 ⟨F',rfl,hF,hb⟩
 replace HP:=Zk HP hb
 replace HR:=Zk HR hb
 replace HB0:=Zb HB0 hb
 have HF:=Zh (hF.base (B':=w.heap.size) (by rw [HS0.out]; omega))
 have HFB:=Zh (show ∀ p,F'.ownBlock=some p→p < w1.heap.size from fun p hp=>(hF.lt p hp).2)
 obtain ⟨fa',fc',rfl,hfs,hfm⟩:=hF.shape
 have hlt1:w.heap.size < w1.heap.size:=by have:=hb.size; rw [HS0.out] at this; omega
 have hlt2:w.heap.size+1 < w1.heap.size:=by have:=hb.size; rw [HS0.out] at this; omega
 obtain ⟨c2,z2⟩:=at_cell HP.out 2 _ rfl
 have HP2:=Zh (row_put HP.out 2 (.slice fa' fr.length fc'))
 have HR2:=Zh (one_other HR.out ⟨w.heap.size,2,none⟩ (.slice fa' fr.length fc') (by simp))
 have HF2:=Zh (HF.out.stay HP.out tbI 2 (.slice fa' fr.length fc'))
 have HB2:=Zh (HB0.out.setCell (p:=⟨w.heap.size,2,none⟩) (Nat.le_refl _) (.slice fa' fr.length fc'))
 have HSS:=Zh (show (w1.setCell ⟨w.heap.size,2,none⟩ (.slice fa' fr.length fc')).heap.size=w1.heap.size from set_size _ _ _)
 obtain ⟨c5,z5⟩:=at_cell HP2.out 5 _ rfl
 clear hb hF hfs hfm HP HR HF HB0
 go_wp2_with fail
 refine (cloneC_any _ _ D _ (HQ.out.chains.below HB2.out) HCL.out).mono ?_
 rintro e w2 ⟨C',rfl,hC,hb⟩
 replace HP2:=Zk HP2 hb
 replace HR2:=Zk HR2 hb
 replace HF2:=Zh (HF2.out.below hb)
 replace HB2:=Zb HB2 hb
 obtain ⟨ca',cc',rfl,hcs,hcm⟩:=owns_slice hC
 rw [←HCN.out] at hC hcs ⊢
 have hs2:w1.heap.size≤w2.heap.size:=by have:=hb.size; rw [HSS.out] at this; exact this
 have HM:=Zh hs2
 have hltA:w.heap.size < w2.heap.size:=by omega
 have hltB:w.heap.size+1 < w2.heap.size:=by omega
 have HCB:=Zh (show ∀ p,(Value.slice ca' cn cc').ownBlock=some p→w1.heap.size≤p∧p < w2.heap.size from fun p hp=>by
  have h:=hC.lt p hp
  rw [HSS.out] at h
  exact h)
 have HCO:=Zh (ownsRow_base (base':=w.heap.size) hC (by rw [HSS.out]; omega))
 clear c2 z2 c5 z5
 obtain ⟨c5,z5⟩:=at_cell HP2.out 5 _ rfl
 have HP3:=Zh (row_put HP2.out 5 (.slice ca' cn cc'))
 have HR3:=Zh (one_other HR2.out ⟨w.heap.size,5,none⟩ (.slice ca' cn cc') (by simp))
 have HF3:=Zh (HF2.out.stay HP2.out tbI 5 (.slice ca' cn cc'))
 have HC3:=Zh (owns_stay HCO.out HP2.out tbC 5 (.slice ca' cn cc'))
 have HB3:=Zh (HB2.out.setCell (p:=⟨w.heap.size,5,none⟩) (Nat.le_refl _) (.slice ca' cn cc'))
 obtain ⟨X3,hX3⟩:∃ X,X=w2.setCell ⟨w.heap.size,5,none⟩ (.slice ca' cn cc'):=⟨_,rfl⟩
 have hs3:X3.heap.size=w2.heap.size:=by rw [hX3]; exact set_size _ _ _
 rw [←hX3] at HP3 HR3 HF3 HC3 HB3
 have HX3:=Zh hX3
 have HS3:=Zh hs3
 clear hb hC hcs hcm HP2 HR2 HF2 HB2 HCO hs3 hX3
 go_wp2_with fail
 rw [←HX3.out]
 have HD0:=Zh (show Half w1.heap.size X3 ch D 0 D from ⟨HQ.out.chains.len,fun i d c hi=>by omega,fun i _=>rfl⟩)
 obtain ⟨d5,y5⟩:=at_cell HP3.out 5 _ rfl
 go_wp2
 clear d5 y5
 go_loopw [21] (fun i wr=>∃ k:Nat,k≤cn∧i=.int .i64 k∧(∃ E,wr.ownsRow w.heap.size 97 3 (.slice ca' cn cc') cn (chCells ch E)∧Half w1.heap.size wr ch D k E)∧OwnI w.heap.size wr (.slice fa' fr.length fc') fr∧wr.heap[w.heap.size]? = some (.cells (bk (.slice fa' fr.length fc') (.slice ca' cn cc') (av:Nat) (la:Nat) r0 r1 r2 r3) 34 (0,0))∧wr.heap[w.heap.size+1]? = some (.cells bk0 34 (0,0))∧w2.heap.size≤wr.heap.size∧Below w.heap.size w wr) (fun i _=>cn - (intOf i).toNat)
 case atStart=>exact ⟨0,Nat.zero_le _,rfl,⟨_,HC3.out,HD0.out⟩,HF3.out,HP3.out,HR3.out,by rw [HS3.out]; exact Nat.le_refl _,HB3.out⟩
 case round =>
  obtain ⟨k,hk,rfl,⟨E,hE,hH⟩,hF,hP,hR,hsz,hbw⟩:=hrel
  have HE:=Zh hE
  have HH:=Zh hH
  have HFw:=Zh hF
  have HPw:=Zh hP
  have HRw:=Zh hR
  have HBw:=Zh hbw
  clear hE hH hF hP hR hbw
  by_cases hlt:k < cn
  · obtain ⟨g,cap,cur,hv,hgb,hh,hnc,hcm2⟩:=owns_shape HE.out (by omega)
    cases hv
    obtain ⟨c,hc⟩:∃ c,ch[k]? = some c:=⟨ch[k]'(by rw [←HCN.out]; exact hlt),List.getElem?_eq_getElem _⟩
    obtain ⟨d,hd⟩:∃ d,E[k]? = some d:=⟨E[k]'(by rw [HH.out.len,←HCN.out]; exact hlt),List.getElem?_eq_getElem _⟩
    obtain ⟨e1,e2,e3⟩:=chCells_at k c d hc hd
    have hdD:D[k]? = some d:=by rw [←HH.out.rest k (Nat.le_refl _)]; exact hd
    have hdo:=(HQ.out.chains.below HBw.out).ds k d c hdD hc
    obtain ⟨da,dc,rfl,hds,hdm⟩:=hdo.shape
    obtain ⟨ch0,cds,crm⟩:=c
    simp only at e1 e2 e3 hdo hds
    have HDO:=Zh hdo
    have HDL:=Zh (show cds.length≤1000 by
     have:=HG.out _ (List.mem_of_getElem? hc)
     simp only at this
     omega)
    have HCK:=Zh hc
    have hg0:wr.cell? ⟨g,k * 3,none⟩=some (.int .i64 ch0):=by rw [HE.out.cellAt (k * 3) (by omega)]; exact e1
    have hg1:wr.cell? ⟨g,k * 3+1,none⟩=some (.slice da cds.length dc):=by rw [HE.out.cellAt (k * 3+1) (by omega)]; exact e2
    have hg2:wr.cell? ⟨g,k * 3+2,none⟩=some (.int .i64 crm):=by rw [HE.out.cellAt (k * 3+2) (by omega)]; exact e3
    have HBX:=Zh ((Below.refl wr.heap.size wr).alloc (Nat.le_refl _) (.cells #[.int .i64 ch0,.slice da cds.length dc,.int .i64 crm] 97))
    have HBC:=Zh (heap_alloc_new wr (.cells #[.int .i64 ch0,.slice da cds.length dc,.int .i64 crm] 97))
    obtain ⟨b5,_⟩:=at_cell (row_keep HPw.out HBX.out) 5 (.slice (some ⟨g,0,none⟩) cn cc') rfl
    obtain ⟨b1,_⟩:=at_cell HBC.out 1 _ rfl
    have hgk:=kept hg1 HBX.out
    have hlen:0≤(k:Int)∧(k:Int) < (cn:Int):=by omega
    obtain ⟨hl0,hl1⟩:=hlen
    have hgw:g < wr.heap.size:=(HE.out.lt g rfl).2
    have hne1:w.heap.size≠g:=fun e=>by
     have:=HPw.out
     rw [e,hh] at this
     injection this with this
     injection this with _ this _
     exact absurd this (by decide)
    have hne2:wr.heap.size≠g:=by omega
    have hne3:g≠w.heap.size+1:=fun e=>by
     have:=HRw.out
     rw [←e,hh] at this
     injection this with this
     injection this with _ this _
     exact absurd this (by decide)
    clear hh hd hdD hdo hds hdm e1 e2 e3 hc
    go_wp2_with fail
    go_region_held3 (fun w'=>w'.cell? ⟨w.heap.size,5,none⟩=some (.slice (some ⟨g,0,none⟩) cn cc')∧w'.cell? ⟨wr.heap.size,1,none⟩=some (.slice da cds.length dc)) (first|(with_reducible exact held_two (by assumption) hb)|(with_reducible exact held_far hne1 hne2 (by assumption) _)|go_keep) (first
     | (go_at_call 61; refine (cloneI_any _ _ _ (HDO.out.below (by first|exact HBX.out|exact HBX.out.drew)) HDL.out).mono ?_; rintro e w4 ⟨r,rfl,hr,hb⟩; obtain ⟨ra,rc,rfl,hrn,_⟩:=hr.shape; clear hrn; have HR4:=Zh hr; clear hr; have hw1:=kept (w:=(wr.alloc (.cells #[.int .i64 ch0,.slice da cds.length dc,.int .i64 crm] 97)).drew) hgk hb; have hw3:=(ownsRow_below HE.out (HBX.out.drew.trans (hb.mono HBX.out.drew.size))).frozenAt (k * 3+1)))
    have HB4:=Zh (HBX.out.drew.trans (hb.mono HBX.out.drew.size))
    have HE4:=Zh (ownsRow_below HE.out HB4.out)
    have HS4:=Zh HB4.out.size
    have HR5:=Zh (HR4.out.base HBX.out.drew.size)
    obtain ⟨_,_,cur4,hv4,_,hh4,_⟩:=owns_shape HE4.out (by omega)
    cases hv4
    have HH4:=Zh hh4
    clear hw1 hw3 hb hgk hg0 hg1 hg2 b5 b1 HR4 hh4
    go_wp2
    go_roundw
    case rel =>
     refine ⟨k+1,by omega,by go_num,⟨E.set k (.slice ra cds.length rc),?_,HH.out.put HB4.out HE4.out (by have:=HM.out; omega) HCK.out HR5.out _⟩,(HFw.out.below HB4.out).stay HH4.out tCI _ _,one_other (row_keep HPw.out HB4.out) _ _ (fun e=>hne1 e.symm),one_other (row_keep HRw.out HB4.out) _ _ hne3,?_,?_⟩
     · rw [←chCells_set HH.out.len]
       exact (HE4.out.stored (k * 3+1) _).1
     · rw [set_size]
       have:=HS4.out
       omega
     · exact (HBw.out.trans (HB4.out.mono HBw.out.size)).setCell (p:=⟨g,k * 3+1,none⟩) hgb _
    case measure=>simp [intOf]; omega
  · obtain rfl:k=cn:=by omega
    have hltr:w.heap.size+1 < wr.heap.size:=by omega
    have HQE:=Zh (show IsQ w.heap.size wr (.slice fa' fr.length fc') (.slice ca' k cc') ⟨b,z,fr,av,la,ch⟩ E from
     ⟨HFw.out,⟨HH.out.len,by have h:=HE.out; rw [HCN.out] at h ⊢; exact h,fun i d c hd hc=>(HH.out.own i d c (by rw [HCN.out]; exact (List.getElem?_eq_some_iff.1 hc).1) hd hc).base (by have:=hlt1; omega)⟩,fun i d p hd hp hF=>by
      have hi:i < ch.length:=by rw [←HH.out.len]; exact (List.getElem?_eq_some_iff.1 hd).1
      have h1:=(HH.out.own i d _ (by rw [HCN.out]; exact hi) hd (List.getElem?_eq_getElem hi)).lt p hp
      have h2:=HFB.out p hF
      omega⟩)
    have hq9:=q_row HQE.out HRw.out (bk (.slice fa' fr.length fc') (.slice ca' k cc') (av:Nat) (la:Nat) r0 r1 r2 r3)
    have hb9:=below_row HBw.out (show w.heap.size≤w.heap.size+1 by omega) (bk (.slice fa' fr.length fc') (.slice ca' k cc') (av:Nat) (la:Nat) r0 r1 r2 r3)
    have hr9:=row_self HRw.out (bk (.slice fa' fr.length fc') (.slice ca' k cc') (av:Nat) (la:Nat) r0 r1 r2 r3)
    clear HE HH HQE HBw HFw
    go_wp2_with (first|(refine blk_load rfl _ rfl _ rfl _ HPw.out rfl ?_)|(refine blk_store rfl _ _ rfl _ _ rfl rfl _ HRw.out rfl rfl (bk_one rfl rfl) ?_))
    generalize World.setRow _ _ _=W9 at hq9 hb9 hr9 ⊢
    exact bodyPost_ret (results_b rfl rfl hr9 rfl) rfl ⟨_,_,E,rfl,hq9,hb9⟩
theorem append_ran {P:Program} {w w2:World} {ops:Array Oper} {rest:List Oper} {o:Oper} {a:Act} {Q:Exit→Act→World→Prop} (hgd:o.guard=none) (s x:Operand) (t:TypeId)
 (ho:o.op=.call { callee:=.builtin .append,args:=#[s,x],argTypes:=#[t,t] }) (v v2 u:Value) (hs:a.eval s=v) (hx:a.eval x=u) (hrun:(Builtin.append_ #[t,t] o.type #[v,u]).run P w=.ok v2 w2) (h:wpList P ops Q rest (a.put o.dst v2) w2):wpList P ops Q (o::rest) a w:=by
 refine wpList_plain hgd fun K hK=>?_
 unfold Oper.wp
 simp [execOp,ho,resolve,invoke,builtin,hs,hx,hrun,Result.andThen]
 exact hK _ _ h
theorem one_news {w:World} {g:Nat} {a:Value} (h0:w.cell? ⟨g,0,none⟩=some a):∀ j u,[a][j]? = some u→w.cell? ((⟨g,0,none⟩:Addr).add j)=some u:=by
 intro j u hu
 rw [Addr.add_lit,Nat.zero_add]
 match j,hu with
 | 0,hu=>simp at hu; rw [←hu]; exact h0
 | j+1,hu=>simp at hu
theorem ints_append {B:Nat} {w:World} {v:Value} {l:List Int} (x:Int) (hv:OwnI B w v l) (hB:B≤w.heap.size) (hl:l.length≤100) (g:Nat) (hg:w.heap.size=g) :
 ∃ v' w',(Builtin.append_ #[25,25] 25 #[v,.slice (some ⟨g,0,none⟩) 1 1]).run Tryz.prog (w.alloc (.cells #[.int .i64 x] 3))=.ok v' w'∧OwnI B w' v' (l++[x])∧Below B w w'∧(∀ (k:Nat) (o:Obj),w.heap[k]? = some o→v.ownBlock≠some k→w'.heap[k]? = some o):=by
 subst hg
 obtain ⟨i0,hi,hz0,hz1,hz2⟩:=info_parts infoI
 have hb:Below w.heap.size w (w.alloc (.cells #[.int .i64 x] 3)):=(Below.refl _ _).alloc (Nat.le_refl _) _
 have hrow:=heap_alloc_new w (.cells #[.int .i64 x] 3)
 obtain ⟨v',w',h1,h2⟩:=append_grew (P:=Tryz.prog) (w.alloc (.cells #[.int .i64 x] 3)) B 25 25 3 i0 (.int .i64 0) 1 8 Tryz.underlying25 hi hz0 hz1 hz2 rfl (by decide) (by decide) v l.length (l.map (Value.int .i64)) (hv.below hb) ⟨w.heap.size,0,none⟩ 1 1 [.int .i64 x] rfl (one_news (at_cell hrow 0 _ rfl).1) (fun u hu=>by simp at hu; subst hu; rfl) (by omega) (Nat.le_trans hB hb.size)
 refine ⟨v',w',h1,?_,(hb.mono hB).trans h2.below,fun k o hk hne=>h2.row k o (row_keep hk hb) hne⟩
 have h3:=h2.own
 unfold OwnI
 rw [List.length_append,List.map_append]
 exact h3
theorem sort_all {B:Nat} (v:Value) (l:List Int) (w:World) (hv:OwnI B w v l) (hl:l.length≤1000) :
 Calls Tryz.prog 37 #[v] w fun e w'=>e=.returned (.tuple #[])∧OwnI B w' v (l.mergeSort fun x y=>decide (x≤y))∧(∀ B',(∀ p,v.ownBlock=some p→B'≤p)→B'≤w.heap.size→Below B' w w')∧(∀ (k:Nat) (o:Obj),w.heap[k]? = some o→v.ownBlock≠some k→w'.heap[k]? = some o):=by
 obtain ⟨a,c,rfl,h1,h2⟩:=hv.shape
 by_cases h0:l=[]
 · subst h0
   have ha:∀ p,(Value.slice a 0 c).ownBlock=some p→B≤p:=fun p hp=>(hv.lt p hp).1
   refine (Any.slices_Sort_int_none Tryz.lays189 a c w).mono ?_
   rintro e w' ⟨rfl,rfl⟩
   exact ⟨rfl,by simpa using hv,fun B' _ _=>Below.refl _ _,fun k o hk _=>hk⟩
 · obtain ⟨g,cur,rfl,hB,hg,hh,_⟩:=hv.lie h0
   refine (sort_any g l.length c l w hv hl).mono ?_
   rintro e w' ⟨rfl,hO,hT⟩
   exact ⟨rfl,hO,fun B' hp hB'=>hT.below B' (hp g rfl) hB',fun k o hk hne=>hT.row k o hk (fun e'=>hne (by rw [e']; rfl))⟩
theorem owns_other {w w':World} {B n s:Nat} {e:TypeId} {v u:Value} {xs:List Value} (h:∀ (k:Nat) (o:Obj),w.heap[k]? = some o→u.ownBlock≠some k→w'.heap[k]? = some o) (ho:w.ownsRow B e s v n xs) (hne:∀ p,v.ownBlock=some p→u.ownBlock≠some p):w'.ownsRow B e s v n xs :=
 owns_keep ho fun k _ hk hc=>h k _ hc (hne k hk)
theorem slots_step {q:QQ} {r0 r1 r2 r3:Req} (hb:GoodB q r0 r1 r2 r3) (k:Nat) (hk:k < 4):∃ r:Req,(∀ W,(Instr.index 32 (.agg (slotL r0 r1 r2 r3).toArray) (.int .i64 (k:Nat))).run Tryz.prog W=.ok (.agg #[.bool r.busy,.int .i64 r.head,.bool r.flush,.int .i64 r.sec]) W)∧busyHeads ([r0,r1,r2,r3].take (k+1))=busyHeads ([r0,r1,r2,r3].take k)++(if r.busy=true then [r.head] else [])∧(r.busy=false→r=zReq)∧(busyHeads ([r0,r1,r2,r3].take k)).length≤4:=by
 have hf:=hb.free
 match k,hk with
 | 0,_=>exact ⟨r0,fun W=>by kernel_rfl,by cases h:r0.busy <;> simp [busyHeads,h],hf r0 (by simp),by simp [busyHeads]⟩
 | 1,_=>exact ⟨r1,fun W=>by kernel_rfl,by cases h:r0.busy <;> cases h1:r1.busy <;> simp [busyHeads,h,h1],hf r1 (by simp),by cases h:r0.busy <;> simp [busyHeads,h]⟩
 | 2,_=>exact ⟨r2,fun W=>by kernel_rfl,by cases h:r0.busy <;> cases h1:r1.busy <;> cases h2:r2.busy <;> simp [busyHeads,h,h1,h2],hf r2 (by simp),by cases h:r0.busy <;> cases h1:r1.busy <;> simp [busyHeads,h,h1]⟩
 | 3,_=>exact ⟨r3,fun W=>by kernel_rfl,by cases h:r0.busy <;> cases h1:r1.busy <;> cases h2:r2.busy <;> cases h3:r3.busy <;> simp [busyHeads,h,h1,h2,h3],hf r3 (by simp),by cases h:r0.busy <;> cases h1:r1.busy <;> cases h2:r2.busy <;> simp [busyHeads,h,h1,h2]⟩
set_option maxHeartbeats 1000000 in
set_option maxRecDepth 100000 in
theorem blkCheck_any (q:QQ) (r0 r1 r2 r3:Req) (F C:Value) (D:List Value) (A La:Int) (w:World) (hq:IsQ 0 w F C q D) (hb:GoodB q r0 r1 r2 r3) (e3:((q.avail:Nat):Int)=A) (e4:((q.last:Nat):Int)=La) :
 Calls Tryz.prog 15 #[.agg (bk F C A La r0 r1 r2 r3)] w fun e w'=>e=.returned (.bool true)∧Below w.heap.size w w':=by
 have HQ:=Zh hq
 have HG:=Zh hb
 obtain ⟨fa,fn,fc,ca,cn,cc,rfl,rfl,hfn,hcn,_,_,_,_⟩:=hq.shape
 have hfew:=hb.good.few
 have HCN:=Zh hcn
 have hcn16:cn≤16:=by omega
 have HB0:=Zh ((Below.refl w.heap.size w).alloc (Nat.le_refl _) (.cells (bk (.slice fa fn fc) (.slice ca cn cc) A La r0 r1 r2 r3) 34))
 have HP:=Zh (heap_alloc_new w (.cells (bk (.slice fa fn fc) (.slice ca cn cc) A La r0 r1 r2 r3) 34))
 have HS1:=Zh (show w.heap.size+1≤(w.alloc (.cells (bk (.slice fa fn fc) (.slice ca cn cc) A La r0 r1 r2 r3) 34)).heap.size by simp)
 have HE3:=Zh e3
 have HE4:=Zh e4
 have hneq:∀ W,(binOp .neq 31 (.agg #[.bool false,.int .i64 0,.bool false,.int .i64 0]) (.agg #[.bool false,.int .i64 0,.bool false,.int .i64 0])).run Tryz.prog W=.ok (.bool false) W:=fun W=>by kernel_rfl
 have HNEQ:=Zh hneq
 obtain ⟨⟨l0,l1,l2,l3,l4,l5,l6⟩,y0,y1,y2,y3,y4,y5⟩:=bk_cells HP.out
 clear hq hb hfn hcn hfew e3 e4 hneq y0 y1 y2 y3 y4 y5
 go_enter Tryz.func15,Tryz.ntmps15
 go_wp2_with fail
 refine (check_this q 16 _ _ D _ (HQ.out.below HB0.out) HG.out.good 0 16 A La HG.out.base HG.out.good.size HE3.out HE4.out).mono ?_
 rintro e w1 ⟨rfl,hb⟩
 replace HP:=Zk HP hb
 replace HB0:=Zb HB0 hb
 replace HS1:=Zh (Nat.le_trans HS1.out hb.size)
 clear hb l0 l1 l2 l3 l4 l5 l6
 obtain ⟨⟨l0,l1,l2,l3,l4,l5,l6⟩,y0,y1,y2,y3,y4,y5⟩:=bk_cells HP.out
 clear y0 y1 y2 y3 y4 y5
 go_wp2_with (refine wpList_load_mid rfl 32 _ rfl w.heap.size 7 rfl (slotL r0 r1 r2 r3) _ (bk_slots HP.out) Tryz.underlying32 rfl (by kernel_rfl) ?_)
 clear l0 l1 l2 l3 l4 l5 l6
 go_loopw [3,31] (fun v i wr=>∃ (k:Nat) (va:Option Addr) (vn vc:Nat),k≤4∧i=.int .i64 k∧v=.slice va vn vc∧OwnI (w.heap.size+1) wr (.slice va vn vc) (busyHeads ([r0,r1,r2,r3].take k))∧wr.heap[w.heap.size]? = some (.cells (bk (.slice fa fn fc) (.slice ca cn cc) A La r0 r1 r2 r3) 34 (0,0))∧w.heap.size+1≤wr.heap.size∧Below w.heap.size w wr) (fun _ i _=>4 - (intOf i).toNat)
 case atStart=>exact ⟨0,none,0,0,Nat.zero_le _,rfl,rfl,World.ownsRow_nil _ _ _ _,HP.out,HS1.out,HB0.out⟩
 case round =>
  obtain ⟨k,va,vn,vc,hk,rfl,rfl,hO,hP,hsz,hbw⟩:=hrel
  have HO:=Zh hO
  have HPw:=Zh hP
  have HBw:=Zh hbw
  have HSz:=Zh hsz
  clear hO hP hbw hsz
  by_cases hlt:k < 4
  · obtain ⟨⟨rb,rh,rf,rs⟩,hidx,hbh,hfr,hle⟩:=slots_step HG.out k hlt
    have HBH:=Zh hbh
    have HLE:=Zh hle
    have hbx:=(Below.refl wr.heap.size wr).alloc (Nat.le_refl _) (.cells #[.bool rb,.int .i64 rh,.bool rf,.int .i64 rs] 31)
    have HBX:=Zh hbx
    have hrw:=heap_alloc_new wr (.cells #[.bool rb,.int .i64 rh,.bool rf,.int .i64 rs] 31)
    obtain ⟨⟨b0,b1,b2,b3⟩,_⟩:=cells_four hrw
    have HRW:=Zh hrw
    clear hbh hle hbx hrw
    cases rb with
    | true =>
      obtain ⟨v',w',hrun,hO',hb',hrow'⟩:=ints_append rh (HO.out.below HBX.out) (Nat.le_trans HSz.out HBX.out.size) (by have:=HLE.out; omega) (wr.heap.size+1) (by simp)
      obtain ⟨va',vc',rfl,_,_⟩:=hO'.shape
      have HRUN:=Zh hrun
      have HO2:=Zh hO'
      have HB2:=Zh hb'
      have HSW:=Zh (show w.heap.size < wr.heap.size from HSz.out)
      clear hrun hO' hb' hrow' hfr
      go_wp2_with (at_builtin; refine append_ran rfl _ _ 25 rfl _ _ _ rfl rfl HRUN.out ?_)
      go_roundw
      case rel =>
       refine ⟨k+1,_,_,_,by omega,by go_num,rfl,?_,(HB2.out.block _ (Nat.lt_succ_self _)).trans (row_keep HPw.out HBX.out),Nat.le_trans HSz.out (Nat.le_trans HBX.out.size HB2.out.size),HBw.out.trans ((HBX.out.mono HBw.out.size).trans (HB2.out.mono (Nat.le_succ _)))⟩
       rw [HBH.out,if_pos rfl]
       have h:=HO2.out
       rw [List.length_append] at h
       exact h
      case measure=>simp [intOf]; omega
    | false =>
      have hz:=hfr rfl
      unfold zReq at hz
      injection hz with _ hz1 hz2 hz3
      subst hz1
      subst hz2
      subst hz3
      have hn:=HNEQ.out
      clear hfr
      go_wp2
      go_roundw
      case rel =>
       refine ⟨k+1,_,_,_,by omega,by go_num,rfl,?_,row_keep HPw.out HBX.out,Nat.le_trans HSz.out HBX.out.size,HBw.out.trans (HBX.out.mono HBw.out.size)⟩
       rw [HBH.out]
       simpa using HO.out.below HBX.out
      case measure=>simp [intOf]; omega
  · obtain rfl:k=4:=by omega
    obtain ⟨wo,rfl⟩:∃ x,x=wr:=⟨_,rfl⟩
    have hl4:(q.chains.map (·.head)).length=cn:=by rw [List.length_map,HCN.out]
    have HO4:=Zh (show OwnI (w.heap.size+1) wo (.slice va vn vc) (q.chains.map (·.head)) by
     have h:=HO.out
     rw [show [r0,r1,r2,r3].take 4=[r0,r1,r2,r3] from rfl,HG.out.same] at h
     exact h)
    have HL4:=Zh hl4
    have HVB:=Zh (show ∀ p,(Value.slice va vn vc).ownBlock=some p→w.heap.size+1≤p∧p < wo.heap.size from fun p hp=>HO.out.lt p hp)
    obtain ⟨⟨l0,l1,l2,l3,l4,l5,l6⟩,y0,y1,y2,y3,y4,y5⟩:=bk_cells HPw.out
    clear y0 y1 y2 y3 y4 y5 hl4 HO
    go_wp2
    clear l0 l1 l2 l3 l4 l5 l6
    go_loopw [4,49] (fun v i wt=>∃ (k:Nat) (ua:Option Addr) (un uc:Nat),k≤cn∧i=.int .i64 k∧v=.slice ua un uc∧OwnI wo.heap.size wt (.slice ua un uc) ((q.chains.take k).map (·.head))∧Below wo.heap.size wo wt) (fun _ i _=>cn - (intOf i).toNat)
    case atStart=>exact ⟨0,none,0,0,Nat.zero_le _,rfl,rfl,World.ownsRow_nil _ _ _ _,Below.refl _ _⟩
    case round =>
     obtain ⟨k,ua,un,uc,hk,rfl,rfl,hU,hbt⟩:=hrel
     have HU:=Zh hU
     have HBt:=Zh hbt
     have HQt:=Zh (HQ.out.below (HBw.out.trans (hbt.mono HBw.out.size)))
     clear hU hbt
     by_cases hlt:k < cn
     · obtain ⟨g,cur,rfl,p1,p2,hh,p3,p4,p5⟩:=HQt.out.chains.lie (by rw [←HCN.out]; exact Nat.lt_of_le_of_lt (Nat.zero_le _) hlt)
       obtain ⟨c,d,hc,hdd,g0,g1,g2,hdo⟩:=HQt.out.chains.at k (by rw [←HCN.out]; exact hlt)
       obtain ⟨da,dc,rfl,_,_⟩:=hdo.shape
       obtain ⟨ch0,cds,crm⟩:=c
       simp only at g0 g1 g2 hdo
       have HCK:=Zh hc
       have hbx:=(Below.refl wr.heap.size wr).alloc (Nat.le_refl _) (.cells #[.int .i64 ch0,.slice da cds.length dc,.int .i64 crm] 97)
       have HBX:=Zh hbx
       obtain ⟨⟨b0,b1,b2⟩,_⟩:=cells_three (heap_alloc_new wr (.cells #[.int .i64 ch0,.slice da cds.length dc,.int .i64 crm] 97))
       obtain ⟨v',w',hrun,hO',hb',hrow'⟩:=ints_append ch0 (HU.out.below hbx) (Nat.le_trans HBt.out.size hbx.size) (by rw [List.length_map,List.length_take]; omega) (wr.heap.size+1) (by simp)
       obtain ⟨ua',uc',rfl,_,_⟩:=hO'.shape
       have HRUN:=Zh hrun
       have HO2:=Zh hO'
       have HB2:=Zh hb'
       have hlen:0≤(k:Int)∧(k:Int) < (cn:Int):=by omega
       obtain ⟨hl0,hl1⟩:=hlen
       clear hrun hO' hb' hrow' p1 p2 p3 p4 p5 hh hdd hdo hc hbx
       go_wp2_with (at_builtin; refine append_ran rfl _ _ 25 rfl _ _ _ rfl rfl HRUN.out ?_)
       go_roundw
       case rel =>
        refine ⟨_,_,_,⟨k+1,by omega,by go_num,_,_,_,rfl,?_,HBt.out.trans ((HBX.out.mono HBt.out.size).trans HB2.out)⟩,rfl,rfl,rfl⟩
        have h:=HO2.out
        simp only [List.length_append,List.length_map,List.length_take,List.length_cons,List.length_nil] at h
        rw [←List.map_take,List.take_add_one,HCK.out,List.map_append]
        exact h
       case measure=>simp [intOf]; omega
     · obtain rfl:k=cn:=by omega
       have HU2:=Zh (show OwnI wo.heap.size wr (.slice ua un uc) (q.chains.map (·.head)) by
        have h:=HU.out
        rw [List.take_of_length_le (by rw [HCN.out]; exact Nat.le_refl _)] at h
        exact h)
       have HV2:=Zh (HO4.out.below HBt.out)
       have HUB:=Zh (show ∀ p,(Value.slice ua un uc).ownBlock=some p→wo.heap.size≤p from fun p hp=>(HU.out.lt p hp).1)
       clear HU
       go_wp2_with fail
       refine (sort_all _ _ _ HV2.out (by rw [HL4.out]; omega)).mono ?_
       rintro e w5 ⟨rfl,hO5,hb5,hr5⟩
       have HO5:=Zh hO5
       have HU5:=Zh (show OwnI wo.heap.size w5 (.slice ua un uc) (q.chains.map (·.head)) from owns_other hr5 HU2.out (fun p hp e=>by
        have h1:=HUB.out p hp
        have h2:=(HVB.out p e).2
        omega))
       have HB5:=Zh (hb5 w.heap.size (fun p hp=>by have:=(HVB.out p hp).1; omega) (Nat.le_trans HBw.out.size HBt.out.size))
       have HZ5:=Zh (hb5 0 (fun p hp=>Nat.zero_le _) (Nat.zero_le _)).size
       clear hO5 hb5 hr5
       go_wp2_with fail
       refine (sort_all _ _ _ HU5.out (by rw [HL4.out]; omega)).mono ?_
       rintro e w6 ⟨rfl,hO6,hb6,hr6⟩
       have HO6:=Zh hO6
       have HV6:=Zh (show OwnI (w.heap.size+1) w6 (.slice va vn vc) _ from owns_other hr6 HO5.out (fun p hp e=>by
        have h1:=(HVB.out p hp).2
        have h2:=HUB.out p e
        omega))
       have HB6:=Zh (hb6 w.heap.size (fun p hp=>by have h1:=HUB.out p hp; have h2:=HBw.out.size; omega) (Nat.le_trans HBw.out.size (Nat.le_trans HBt.out.size HZ5.out)))
       clear hO6 hb6 hr6
       go_wp2_with fail
       refine (equalI_any _ _ _ _ HV6.out HO6.out (by rw [List.length_mergeSort,HL4.out]; omega)).mono ?_
       rintro e w7 ⟨rfl,hb7⟩
       have HB7:=Zh (HBw.out.trans ((HBt.out.mono HBw.out.size).trans (HB5.out.trans (HB6.out.trans (hb7.mono (by have:=HB6.out.size; have:=HB5.out.size; have:=HBt.out.size; have:=HBw.out.size; omega))))))
       clear hb7
       go_wp2
       go_ret
       exact ⟨rfl,HB7.out⟩
theorem bufs_append {B:Nat} {w:World} {v:Value} {l:List QB} (x:QB) (hv:OwnBf B w v l) (hB:B≤w.heap.size) (hl:l.length≤100) (g:Nat) (hg:w.heap.size=g) :
 ∃ v' w',(Builtin.append_ #[68,68] 68 #[v,.slice (some ⟨g,0,none⟩) 1 1]).run Tryz.prog (w.alloc (.cells #[.int .i64 x.1,.int .i64 x.2.1,.bool x.2.2] 80))=.ok v' w'∧OwnBf B w' v' (l++[x])∧Spare w w' B (fun t=>t == 80):=by
 subst hg
 obtain ⟨i0,hi,hz0,hz1,hz2⟩:=info_parts infoBf
 have hb:Below w.heap.size w (w.alloc (.cells #[.int .i64 x.1,.int .i64 x.2.1,.bool x.2.2] 80)):=(Below.refl _ _).alloc (Nat.le_refl _) _
 obtain ⟨⟨c0,c1,c2⟩,_⟩:=cells_three (heap_alloc_new w (.cells #[.int .i64 x.1,.int .i64 x.2.1,.bool x.2.2] 80))
 obtain ⟨v',w',h1,h2⟩:=append_grew (P:=Tryz.prog) (w.alloc (.cells #[.int .i64 x.1,.int .i64 x.2.1,.bool x.2.2] 80)) B 68 68 80 i0 _ 3 24 Tryz.underlying68 hi hz0 hz1 hz2 rfl (by decide) (by decide) v l.length (bufCells l) (hv.below hb) ⟨w.heap.size,0,none⟩ 1 1 [.int .i64 x.1,.int .i64 x.2.1,.bool x.2.2] rfl (three_news c0 c1 c2) (buf_one _ _ _) (by omega) (Nat.le_trans hB hb.size)
 refine ⟨v',w',h1,?_,(Spare.of_below hb hB _).trans (Spare.grew h2 (hv.below hb) (by decide))⟩
 have h3:=h2.own
 unfold OwnBf
 rw [List.length_append,bufCells_append]
 exact h3
theorem two_boxes (w:World) (cs ds:Array Value) (s t:TypeId):((w.alloc (.cells cs s)).alloc (.cells ds t)).heap[w.heap.size]? = some (.cells cs s (0,0))∧((w.alloc (.cells cs s)).alloc (.cells ds t)).heap[w.heap.size+1]? = some (.cells ds t (0,0))∧Below w.heap.size w ((w.alloc (.cells cs s)).alloc (.cells ds t)) :=
 ⟨row_new (heap_alloc_new w _) _,by simpa using heap_alloc_new (w.alloc (.cells cs s)) (.cells ds t),((Below.refl _ _).alloc (Nat.le_refl _) _).alloc (by simp) _⟩
set_option maxHeartbeats 1000000 in
set_option maxRecDepth 100000 in
theorem lay_write (v dv:Value) (l d:List UInt8) (p s:Nat) (w:World) (hv:OwnB 0 w v l) (hd:OwnB 0 w dv d) (hl:l.length=1700) (hdl:d.length=256) (hp:p+273≤1700) (hs:s < 256) :
 Calls Tryz.prog 22 #[.agg #[v],.int .i64 (p:Nat),.int .i64 1,.int .i64 (s:Nat),dv] w fun e w'=>∃ ra rc ba bc,e=.returned (.tuple #[.agg #[.slice ra 1700 rc],.slice ba 3 bc])∧OwnB 0 w' (.slice ra 1700 rc) (layW l p s d)∧OwnBf 0 w' (.slice ba 3 bc) (bsW p)∧Below w.heap.size w w':=by
 obtain ⟨ma,mc,rfl,_,_⟩:=hv.shape
 rw [hl] at hv ⊢
 obtain ⟨da,dc,rfl,_,_⟩:=hd.shape
 rw [hdl] at hd ⊢
 obtain ⟨t0,t1,t4⟩:=two_boxes w #[.slice ma 1700 mc] #[.slice none 0 0] 24 24
 have hbf:Below ((w.alloc (.cells #[.slice ma 1700 mc] 24)).alloc (.cells #[.slice none 0 0] 24)).heap.size ((w.alloc (.cells #[.slice ma 1700 mc] 24)).alloc (.cells #[.slice none 0 0] 24)) (((w.alloc (.cells #[.slice ma 1700 mc] 24)).alloc (.cells #[.slice none 0 0] 24)).alloc (.cells #[.int .i64 (p:Nat),.int .i64 16,.bool false] 80)):=(Below.refl _ _).alloc (Nat.le_refl _) _
 have hsz:((w.alloc (.cells #[.slice ma 1700 mc] 24)).alloc (.cells #[.slice none 0 0] 24)).heap.size=w.heap.size+2:=by simp
 have HM:=Zh (row_keep t0 hbf)
 have HR:=Zh (row_keep t1 hbf)
 have HB:=Zh (t4.trans (hbf.mono t4.size))
 have HV:=Zh (hv.below (t4.trans (hbf.mono t4.size)))
 have HD:=Zh (hd.below (t4.trans (hbf.mono t4.size)))
 have hbn:OwnBf w.heap.size (((w.alloc (.cells #[.slice ma 1700 mc] 24)).alloc (.cells #[.slice none 0 0] 24)).alloc (.cells #[.int .i64 (p:Nat),.int .i64 16,.bool false] 80)) (.slice (some ⟨w.heap.size+2,0,none⟩) 1 1) [((p:Int),16,false)]:=by
  have h:=World.ownsRow_lit (base:=w.heap.size) (e:=80) (size:=3) ((w.alloc (.cells #[.slice ma 1700 mc] 24)).alloc (.cells #[.slice none 0 0] 24)) #[.int .i64 (p:Nat),.int .i64 16,.bool false] 1 (by rw [hsz]; omega) (by unfold maxLen; omega) rfl
  rw [hsz] at h
  exact h
 have HF:=Zh hbn
 have HL1:=Zh (show (rowPut l (p+16) d).length=1700 from (rowPut_length (by omega)).trans hl)
 have HDL:=Zh hdl
 have HL2:=Zh (show (putAt (rowPut l (p+16) d) p 8 1).length=1700 from (putAt_length _ (by rw [HL1.out]; omega)).trans HL1.out)
 have HL3:=Zh (show (putAt (putAt (rowPut l (p+16) d) p 8 1) (p+8) 8 s).length=1700 from (putAt_length _ (by rw [HL2.out]; omega)).trans HL2.out)
 have HL:=Zh hl
 have hws:IntKind.u64.wrap ((s:Nat):Int)=(s:Nat):=IntWalk.u64_in _ (by omega)
 have hdn:((256:Nat):Int)=256:=rfl
 clear hv hl t0 t1 t4 hbf hbn hsz hd hdl
 obtain ⟨m0,mz⟩:=one_cell HM.out
 go_enter Tryz.func22,Tryz.ntmps22
 go_wp2_with fail
 refine (blkPut_this _ _ l d (p+16) _ _ HV.out HD.out.arg HL.out (by omega) (by rw [HDL.out]; omega)).mono ?_
 rintro e w1 ⟨ra1,rc1,rfl,hm,hb⟩
 have hM:=row_keep HM.out hb
 have hlt1:=(Array.getElem?_eq_some_iff.1 hM).1
 replace HR:=Zh (one_other (row_keep HR.out hb) ⟨w.heap.size,0,none⟩ (.slice ra1 1700 rc1) (show w.heap.size≠w.heap.size+1 by omega))
 replace HF:=Zh ((HF.out.below hb).stay hM (by decide) 0 (.slice ra1 1700 rc1))
 replace HB:=Zh ((HB.out.trans (hb.mono HB.out.size)).setCell (p:=⟨w.heap.size,0,none⟩) (Nat.le_refl _) (.slice ra1 1700 rc1))
 replace HV:=Zh (hm.stay hM (by decide) 0 (.slice ra1 1700 rc1))
 replace HM:=Zh (one_set hM (.slice ra1 1700 rc1))
 clear m0 mz
 obtain ⟨m0,mz⟩:=one_cell hM
 obtain ⟨n0,nz⟩:=one_cell HM.out
 clear hb hm hM
 have hsz:(w1.setCell ⟨w.heap.size,0,none⟩ (.slice ra1 1700 rc1)).heap.size=w1.heap.size:=set_size _ _ _
 obtain ⟨v2,w2,hrun,hap,hsp⟩:=bufs_append (((p:Nat):Int)+16,256,false) HF.out HB.out.size (by simp) w1.heap.size hsz
 obtain ⟨fa2,fc2,he,_,_⟩:=hap.shape
 replace he:v2=.slice fa2 2 fc2:=he
 subst he
 have HRUN:=Zh hrun
 have HA2:=Zh hap
 have HSP:=Zh hsp
 clear hrun hap hsp hsz HF
 have HF:=HA2
 have HM2:=Zh (HSP.out.row _ _ _ _ HM.out (by decide))
 replace HR:=Zh (HSP.out.row _ _ _ _ HR.out (by decide))
 replace HV:=Zh (show OwnB 0 w2 _ _ from HSP.out.owns HV.out (by decide))
 replace HB:=Zh (HB.out.trans HSP.out.below)
 obtain ⟨q0,qz⟩:=one_cell HM2.out
 go_wp2_with (at_builtin; refine append_ran rfl _ _ 68 rfl _ _ _ rfl rfl HRUN.out ?_)
 clear HRUN HA2 HSP m0 mz n0 nz hlt1 HM
 have HM:=HM2
 clear HM2
 have m0:=q0
 have mz:=qz
 clear q0 qz
 go_wp2_with fail
 refine (blkPutNum_this _ (rowPut l (p+16) d) p 8 1 _ _ _ HV.out HL1.out rfl rfl (by decide) (by omega)).mono ?_
 rintro e w3 ⟨ra3,rc3,rfl,hm,hb⟩
 have hM:=row_keep HM.out hb
 have hlt3:=(Array.getElem?_eq_some_iff.1 hM).1
 replace HR:=Zh (one_other (row_keep HR.out hb) ⟨w.heap.size,0,none⟩ (.slice ra3 1700 rc3) (show w.heap.size≠w.heap.size+1 by omega))
 replace HF:=Zh ((HF.out.below hb).stay hM (by decide) 0 (.slice ra3 1700 rc3))
 replace HB:=Zh ((HB.out.trans (hb.mono HB.out.size)).setCell (p:=⟨w.heap.size,0,none⟩) (Nat.le_refl _) (.slice ra3 1700 rc3))
 replace HV:=Zh (hm.stay hM (by decide) 0 (.slice ra3 1700 rc3))
 replace HM:=Zh (one_set hM (.slice ra3 1700 rc3))
 clear m0 mz
 obtain ⟨m0,mz⟩:=one_cell hM
 obtain ⟨n0,nz⟩:=one_cell HM.out
 clear hb hm hM
 go_wp2_with fail
 refine (blkPutNum_this _ (putAt (rowPut l (p+16) d) p 8 1) (p+8) 8 s (((p:Nat):Int)+8) _ _ HV.out HL2.out (by omega) rfl (by decide) (by omega)).mono ?_
 rintro e w4 ⟨ra4,rc4,rfl,hm,hb⟩
 have hM:=row_keep HM.out hb
 have hlt4:=(Array.getElem?_eq_some_iff.1 hM).1
 replace HR:=Zh (one_other (row_keep HR.out hb) ⟨w.heap.size,0,none⟩ (.slice ra4 1700 rc4) (show w.heap.size≠w.heap.size+1 by omega))
 replace HF:=Zh ((HF.out.below hb).stay hM (by decide) 0 (.slice ra4 1700 rc4))
 replace HB:=Zh ((HB.out.trans (hb.mono HB.out.size)).setCell (p:=⟨w.heap.size,0,none⟩) (Nat.le_refl _) (.slice ra4 1700 rc4))
 replace HV:=Zh (hm.stay hM (by decide) 0 (.slice ra4 1700 rc4))
 replace HM:=Zh (one_set hM (.slice ra4 1700 rc4))
 clear m0 mz n0 nz hlt3
 obtain ⟨m0,mz⟩:=one_cell hM
 obtain ⟨n0,nz⟩:=one_cell HM.out
 clear hb hm hM
 go_wp2_with fail
 refine (blkPutNum_this _ (putAt (putAt (rowPut l (p+16) d) p 8 1) (p+8) 8 s) (p+272) 1 255 (((p:Nat):Int)+272) _ _ HV.out HL3.out (by omega) rfl (by decide) (by omega)).mono ?_
 rintro e w5 ⟨ra5,rc5,rfl,hm,hb⟩
 have hM:=row_keep HM.out hb
 have hlt5:=(Array.getElem?_eq_some_iff.1 hM).1
 replace HR:=Zh (one_other (row_keep HR.out hb) ⟨w.heap.size,0,none⟩ (.slice ra5 1700 rc5) (show w.heap.size≠w.heap.size+1 by omega))
 replace HF:=Zh ((HF.out.below hb).stay hM (by decide) 0 (.slice ra5 1700 rc5))
 replace HB:=Zh ((HB.out.trans (hb.mono HB.out.size)).setCell (p:=⟨w.heap.size,0,none⟩) (Nat.le_refl _) (.slice ra5 1700 rc5))
 replace HV:=Zh (hm.stay hM (by decide) 0 (.slice ra5 1700 rc5))
 replace HM:=Zh (one_set hM (.slice ra5 1700 rc5))
 clear m0 mz n0 nz hlt4
 obtain ⟨m0,mz⟩:=one_cell hM
 obtain ⟨n0,nz⟩:=one_cell HM.out
 clear hb hm hM
 have hsz:(w5.setCell ⟨w.heap.size,0,none⟩ (.slice ra5 1700 rc5)).heap.size=w5.heap.size:=set_size _ _ _
 obtain ⟨v6,w6,hrun,hap,hsp⟩:=bufs_append (((p:Nat):Int)+272,1,true) HF.out HB.out.size (by simp) w5.heap.size hsz
 obtain ⟨fa6,fc6,he,_,_⟩:=hap.shape
 replace he:v6=.slice fa6 3 fc6:=he
 subst he
 have HRUN:=Zh hrun
 have HA2:=Zh hap
 have HSP:=Zh hsp
 clear hrun hap hsp hsz HF
 have HF:=HA2
 have HM2:=Zh (HSP.out.row _ _ _ _ HM.out (by decide))
 replace HR:=Zh (HSP.out.row _ _ _ _ HR.out (by decide))
 replace HV:=Zh (show OwnB 0 w6 _ _ from HSP.out.owns HV.out (by decide))
 replace HB:=Zh (HB.out.trans HSP.out.below)
 obtain ⟨q0,qz⟩:=one_cell HM2.out
 obtain ⟨r0,rz⟩:=one_cell HR.out
 have hlr:=(Array.getElem?_eq_some_iff.1 HR.out).1
 go_wp2_with (at_builtin; refine append_ran rfl _ _ 68 rfl _ _ _ rfl rfl HRUN.out ?_)
 clear HRUN HA2 HSP m0 mz n0 nz hlt5 HM
 have HM:=HM2
 clear HM2
 have m0:=q0
 have mz:=qz
 clear q0 qz
 refine bodyPost_ret (v:=.tuple #[.agg #[.slice ra5 1700 rc5],.slice fa6 3 fc6]) (by simp [results,Tryz.results22,go_sem,r0]) rfl ⟨_,_,_,_,rfl,?_,?_,?_⟩
 · exact HV.out.stay HR.out (by decide) 0 _
 · exact (HF.out.base (Nat.zero_le _)).stay HR.out (by decide) 0 _
 · exact HB.out.setCell (p:=⟨w.heap.size+1,0,none⟩) (by show w.heap.size≤w.heap.size+1; omega) _
set_option maxHeartbeats 1000000 in
set_option maxRecDepth 100000 in
theorem lay_flush (v:Value) (l:List UInt8) (p:Nat) (w:World) (hv:OwnB 0 w v l) (hl:l.length=1700) (hp:p+273≤1700) :
 Calls Tryz.prog 22 #[.agg #[v],.int .i64 (p:Nat),.int .i64 4,.int .i64 0,.slice none 0 0] w fun e w'=>∃ ra rc ba bc,e=.returned (.tuple #[.agg #[.slice ra 1700 rc],.slice ba 2 bc])∧OwnB 0 w' (.slice ra 1700 rc) (layN l p 4 0)∧OwnBf 0 w' (.slice ba 2 bc) (bsF p)∧Below w.heap.size w w':=by
 obtain ⟨ma,mc,rfl,_,_⟩:=hv.shape
 rw [hl] at hv ⊢
 obtain ⟨t0,t1,t4⟩:=two_boxes w #[.slice ma 1700 mc] #[.slice none 0 0] 24 24
 have hbf:Below ((w.alloc (.cells #[.slice ma 1700 mc] 24)).alloc (.cells #[.slice none 0 0] 24)).heap.size ((w.alloc (.cells #[.slice ma 1700 mc] 24)).alloc (.cells #[.slice none 0 0] 24)) (((w.alloc (.cells #[.slice ma 1700 mc] 24)).alloc (.cells #[.slice none 0 0] 24)).alloc (.cells #[.int .i64 (p:Nat),.int .i64 16,.bool false] 80)):=(Below.refl _ _).alloc (Nat.le_refl _) _
 have hsz:((w.alloc (.cells #[.slice ma 1700 mc] 24)).alloc (.cells #[.slice none 0 0] 24)).heap.size=w.heap.size+2:=by simp
 have HM:=Zh (row_keep t0 hbf)
 have HR:=Zh (row_keep t1 hbf)
 have HB:=Zh (t4.trans (hbf.mono t4.size))
 have HV:=Zh (hv.below (t4.trans (hbf.mono t4.size)))
 have hbn:OwnBf w.heap.size (((w.alloc (.cells #[.slice ma 1700 mc] 24)).alloc (.cells #[.slice none 0 0] 24)).alloc (.cells #[.int .i64 (p:Nat),.int .i64 16,.bool false] 80)) (.slice (some ⟨w.heap.size+2,0,none⟩) 1 1) [((p:Int),16,false)]:=by
  have h:=World.ownsRow_lit (base:=w.heap.size) (e:=80) (size:=3) ((w.alloc (.cells #[.slice ma 1700 mc] 24)).alloc (.cells #[.slice none 0 0] 24)) #[.int .i64 (p:Nat),.int .i64 16,.bool false] 1 (by rw [hsz]; omega) (by unfold maxLen; omega) rfl
  rw [hsz] at h
  exact h
 have HF:=Zh hbn
 have HL2:=Zh (show (putAt l p 8 4).length=1700 from (putAt_length _ (by omega)).trans hl)
 have HL3:=Zh (show (putAt (putAt l p 8 4) (p+8) 8 0).length=1700 from (putAt_length _ (by rw [HL2.out]; omega)).trans HL2.out)
 have HL:=Zh hl
 have hw0:IntKind.u64.wrap 0=((0:Nat):Int):=by decide
 clear hv hl t0 t1 t4 hbf hbn hsz
 obtain ⟨m0,mz⟩:=one_cell HM.out
 go_enter Tryz.func22,Tryz.ntmps22
 go_wp2_with fail
 refine (blkPutNum_this _ l p 8 4 _ _ _ HV.out HL.out rfl rfl (by decide) (by omega)).mono ?_
 rintro e w1 ⟨ra1,rc1,rfl,hm,hb⟩
 have hM:=row_keep HM.out hb
 have hlt1:=(Array.getElem?_eq_some_iff.1 hM).1
 replace HR:=Zh (one_other (row_keep HR.out hb) ⟨w.heap.size,0,none⟩ (.slice ra1 1700 rc1) (show w.heap.size≠w.heap.size+1 by omega))
 replace HF:=Zh ((HF.out.below hb).stay hM (by decide) 0 (.slice ra1 1700 rc1))
 replace HB:=Zh ((HB.out.trans (hb.mono HB.out.size)).setCell (p:=⟨w.heap.size,0,none⟩) (Nat.le_refl _) (.slice ra1 1700 rc1))
 replace HV:=Zh (hm.stay hM (by decide) 0 (.slice ra1 1700 rc1))
 replace HM:=Zh (one_set hM (.slice ra1 1700 rc1))
 clear m0 mz
 obtain ⟨m0,mz⟩:=one_cell hM
 obtain ⟨n0,nz⟩:=one_cell HM.out
 clear hb hm hM
 go_wp2_with fail
 refine (blkPutNum_this _ (putAt l p 8 4) (p+8) 8 0 (((p:Nat):Int)+8) _ _ HV.out HL2.out (by omega) rfl (by decide) (by omega)).mono ?_
 rintro e w2 ⟨ra2,rc2,rfl,hm,hb⟩
 have hM:=row_keep HM.out hb
 have hlt2:=(Array.getElem?_eq_some_iff.1 hM).1
 replace HR:=Zh (one_other (row_keep HR.out hb) ⟨w.heap.size,0,none⟩ (.slice ra2 1700 rc2) (show w.heap.size≠w.heap.size+1 by omega))
 replace HF:=Zh ((HF.out.below hb).stay hM (by decide) 0 (.slice ra2 1700 rc2))
 replace HB:=Zh ((HB.out.trans (hb.mono HB.out.size)).setCell (p:=⟨w.heap.size,0,none⟩) (Nat.le_refl _) (.slice ra2 1700 rc2))
 replace HV:=Zh (hm.stay hM (by decide) 0 (.slice ra2 1700 rc2))
 replace HM:=Zh (one_set hM (.slice ra2 1700 rc2))
 clear m0 mz n0 nz hlt1
 obtain ⟨m0,mz⟩:=one_cell hM
 obtain ⟨n0,nz⟩:=one_cell HM.out
 clear hb hm hM
 go_wp2_with fail
 refine (blkPutNum_this _ (putAt (putAt l p 8 4) (p+8) 8 0) (p+272) 1 255 (((p:Nat):Int)+272) _ _ HV.out HL3.out (by omega) rfl (by decide) (by omega)).mono ?_
 rintro e w3 ⟨ra3,rc3,rfl,hm,hb⟩
 have hM:=row_keep HM.out hb
 have hlt3:=(Array.getElem?_eq_some_iff.1 hM).1
 replace HR:=Zh (one_other (row_keep HR.out hb) ⟨w.heap.size,0,none⟩ (.slice ra3 1700 rc3) (show w.heap.size≠w.heap.size+1 by omega))
 replace HF:=Zh ((HF.out.below hb).stay hM (by decide) 0 (.slice ra3 1700 rc3))
 replace HB:=Zh ((HB.out.trans (hb.mono HB.out.size)).setCell (p:=⟨w.heap.size,0,none⟩) (Nat.le_refl _) (.slice ra3 1700 rc3))
 replace HV:=Zh (hm.stay hM (by decide) 0 (.slice ra3 1700 rc3))
 replace HM:=Zh (one_set hM (.slice ra3 1700 rc3))
 clear m0 mz n0 nz hlt2
 obtain ⟨m0,mz⟩:=one_cell hM
 obtain ⟨n0,nz⟩:=one_cell HM.out
 clear hb hm hM
 have hsz:(w3.setCell ⟨w.heap.size,0,none⟩ (.slice ra3 1700 rc3)).heap.size=w3.heap.size:=set_size _ _ _
 obtain ⟨v4,w4,hrun,hap,hsp⟩:=bufs_append (((p:Nat):Int)+272,1,true) HF.out HB.out.size (by simp) w3.heap.size hsz
 obtain ⟨fa4,fc4,he,_,_⟩:=hap.shape
 replace he:v4=.slice fa4 2 fc4:=he
 subst he
 have HRUN:=Zh hrun
 have HA2:=Zh hap
 have HSP:=Zh hsp
 clear hrun hap hsp hsz HF
 have HF:=HA2
 have HM2:=Zh (HSP.out.row _ _ _ _ HM.out (by decide))
 replace HR:=Zh (HSP.out.row _ _ _ _ HR.out (by decide))
 replace HV:=Zh (show OwnB 0 w4 _ _ from HSP.out.owns HV.out (by decide))
 replace HB:=Zh (HB.out.trans HSP.out.below)
 obtain ⟨q0,qz⟩:=one_cell HM2.out
 obtain ⟨r0,rz⟩:=one_cell HR.out
 have hlr:=(Array.getElem?_eq_some_iff.1 HR.out).1
 go_wp2_with (at_builtin; refine append_ran rfl _ _ 68 rfl _ _ _ rfl rfl HRUN.out ?_)
 clear HRUN HA2 HSP m0 mz n0 nz hlt3 HM
 have HM:=HM2
 clear HM2
 have m0:=q0
 have mz:=qz
 clear q0 qz
 refine bodyPost_ret (v:=.tuple #[.agg #[.slice ra3 1700 rc3],.slice fa4 2 fc4]) (by simp [results,Tryz.results22,go_sem,r0]) rfl ⟨_,_,_,_,rfl,?_,?_,?_⟩
 · exact HV.out.stay HR.out (by decide) 0 _
 · exact (HF.out.base (Nat.zero_le _)).stay HR.out (by decide) 0 _
 · exact HB.out.setCell (p:=⟨w.heap.size+1,0,none⟩) (by show w.heap.size≤w.heap.size+1; omega) _
theorem blkCopied_this (q:QQ) (r0 r1 r2 r3:Req) (F C:Value) (D:List Value) (A La:Int) (w:World) (hq:IsQ 0 w F C q D) (hg:GoodQ q 16) (e3:((q.avail:Nat):Int)=A) (e4:((q.last:Nat):Int)=La) :
 Calls Tryz.prog 29 #[.agg (bk F C A La r0 r1 r2 r3)] w fun e w'=>∃ a n c a' n' c' D',e=.returned (.agg (bk (.slice a n c) (.slice a' n' c') A La r0 r1 r2 r3))∧IsQ 0 w' (.slice a n c) (.slice a' n' c') q D'∧Below w.heap.size w w':=by
 subst e3
 subst e4
 refine (blkCopied_any q r0 r1 r2 r3 16 F C D w hq hg).mono ?_
 rintro e w' ⟨F',C',E,rfl,h1,h2⟩
 obtain ⟨a,n,c,a',n',c',rfl,rfl,_⟩:=h1.shape
 exact ⟨a,n,c,a',n',c',E,rfl,h1.base (Nat.zero_le _),h2⟩
theorem blk_boxes (w:World) (cs ds es fs:Array Value) (s t u v:TypeId):((((w.alloc (.cells cs s)).alloc (.cells ds t)).alloc (.cells es u)).alloc (.cells fs v)).heap[w.heap.size]? = some (.cells cs s (0,0))∧((((w.alloc (.cells cs s)).alloc (.cells ds t)).alloc (.cells es u)).alloc (.cells fs v)).heap[w.heap.size+1]? = some (.cells ds t (0,0))∧((((w.alloc (.cells cs s)).alloc (.cells ds t)).alloc (.cells es u)).alloc (.cells fs v)).heap[w.heap.size+1+1]? = some (.cells es u (0,0))∧((((w.alloc (.cells cs s)).alloc (.cells ds t)).alloc (.cells es u)).alloc (.cells fs v)).heap[w.heap.size+1+1+1]? = some (.cells fs v (0,0))∧Below w.heap.size w ((((w.alloc (.cells cs s)).alloc (.cells ds t)).alloc (.cells es u)).alloc (.cells fs v)):=by
 obtain ⟨h0,h1,h2⟩:=two_boxes w cs ds s t
 have hz:((w.alloc (.cells cs s)).alloc (.cells ds t)).heap.size=w.heap.size+1+1:=by simp
 obtain ⟨k0,k1,k2⟩:=two_boxes ((w.alloc (.cells cs s)).alloc (.cells ds t)) es fs u v
 rw [hz] at k0 k1
 exact ⟨row_keep h0 k2,row_keep h1 k2,k0,k1,h2.trans (k2.mono h2.size)⟩
structure BlkRefA where
 (b0 b1 b2 b3 b4 b5 b6 b7 b8:Bool)
 (s10 s11 s12 s13 s14 s8 s9:Value)
set_option maxHeartbeats 2000000 in
set_option maxRecDepth 100000 in
theorem refused_any (q:QQ) (r0 r1 r2 r3:Req) (F C v:Value) (D:List Value) (l:List UInt8) (A La z:Int) (w:World) (hv:OwnB 0 w v l) (hq:IsQ 0 w F C q D) (hg:GoodQ q 16) (hl:l.length=1700) (e3:((q.avail:Nat):Int)=A) (e4:((q.last:Nat):Int)=La) :
 Calls Tryz.prog 19 #[.agg #[v],.agg (bk F C A La r0 r1 r2 r3),.int .i64 z] w fun e w'=>∃ ra rc F2 C2 D2,e=.returned (.tuple #[.agg #[.slice ra 1700 rc],.agg (bk F2 C2 A La r0 r1 r2 r3),.int .i64 0,.int .i64 z])∧OwnB 0 w' (.slice ra 1700 rc) l∧IsQ 0 w' F2 C2 q D2∧Below w.heap.size w w':=by
 obtain ⟨ma,mc,rfl,hx,hy⟩:=hv.shape
 clear hx hy
 rw [hl] at hv ⊢
 obtain ⟨fa,fn,fc,ca,cn,cc,rfl,rfl,hx⟩:=hq.shape
 clear hx
 obtain ⟨t0,t1,t2,t3,t4⟩:=blk_boxes w #[.slice ma 1700 mc] (bk (.slice fa fn fc) (.slice ca cn cc) A La r0 r1 r2 r3) #[.slice none 0 0] #[.int .i64 0,.int .i64 0,.slice none 0 0,.int .u16 0,.int .u16 0,.slice none 0 0,.int .i64 0,.bool false,.int .i64 0,.bool false,.int .i64 0,.bool false,.int .i64 0,.bool false,.int .i64 0,.bool false,.int .i64 0,.bool false,.int .i64 0,.bool false,.int .i64 0,.bool false,.int .i64 0] 24 34 24 34
 have HM:=Zh t0
 have HP:=Zh t1
 have HA:=Zh t2
 have HR:=Zh t3
 have HB:=Zh t4
 have HV:=Zh (hv.below t4)
 have HQ:=Zh (hq.below t4)
 have HL:=Zh hl
 have HG:=Zh hg
 have HE3:=Zh e3
 have HE4:=Zh e4
 clear hv hq hl hg e3 e4 t0 t1 t2 t3 t4
 go_enter Tryz.func19,Tryz.ntmps19
 go_wp2_with fail
 obtain ⟨w0,hw0⟩:∃ x,x=((((w.alloc (.cells #[.slice ma 1700 mc] 24)).alloc (.cells (bk (.slice fa fn fc) (.slice ca cn cc) A La r0 r1 r2 r3) 34)).alloc (.cells #[.slice none 0 0] 24)).alloc (.cells #[.int .i64 0,.int .i64 0,.slice none 0 0,.int .u16 0,.int .u16 0,.slice none 0 0,.int .i64 0,.bool false,.int .i64 0,.bool false,.int .i64 0,.bool false,.int .i64 0,.bool false,.int .i64 0,.bool false,.int .i64 0,.bool false,.int .i64 0,.bool false,.int .i64 0,.bool false,.int .i64 0] 34)):=⟨_,rfl⟩
 rw [←hw0] at HM HP HA HR HB HV HQ ⊢
 clear hw0
 refine wp_region_rec (X:=BlkRefA) (by kernel_rfl) (by kernel_rfl) (fun x=>#[x.b0,x.b1,x.b2,x.b3,x.b4,x.b5,x.b6,x.b7,x.b8]) (fun x=>{ tmps:=#[.agg #[.slice ma 1700 mc],.agg (bk (.slice fa fn fc) (.slice ca cn cc) A La r0 r1 r2 r3),.int .i64 z,.pointer (some ⟨w.heap.size,0,none⟩),.pointer (some ⟨w.heap.size+1,0,none⟩),undef,.pointer (some ⟨w.heap.size+1+1,0,none⟩),.pointer (some ⟨w.heap.size+1+1+1,0,none⟩),x.s8,x.s9,x.s10,x.s11,x.s12,x.s13,x.s14],defers:=[] }) (fun x W=>(x.b0→x.s10=.agg #[.slice ma 1700 mc])∧(x.b2→x.s12=.agg (bk (.slice fa fn fc) (.slice ca cn cc) A La r0 r1 r2 r3))∧(x.b4→x.s14=.int .i64 z)∧(x.b7→x.s8=.int .i64 0)∧(x.b8→x.s9=.int .i64 z)∧(x.b5→x.b1∧x.b3)∧(x.b6→x.b1∧x.b3∧x.b5)∧(x.b3→x.b1)∧(W.heap[w.heap.size]? = some (.cells #[.slice ma 1700 mc] 24 (0,0)))∧(W.heap[w.heap.size+1]? = some (.cells (bk (.slice fa fn fc) (.slice ca cn cc) A La r0 r1 r2 r3) 34 (0,0)))∧(x.b5=false→W.heap[w.heap.size+1+1]? = some (.cells #[.slice none 0 0] 24 (0,0)))∧(x.b6=false→W.heap[w.heap.size+1+1+1]? = some (.cells (bk0) 34 (0,0)))∧(Below w.heap.size w W)∧(OwnB 0 W (.slice ma 1700 mc) l)∧(IsQ 0 W (.slice fa fn fc) (.slice ca cn cc) q D)∧(x.b1→∃ ra rc,x.s11=.agg #[.slice ra 1700 rc]∧OwnB 0 W (.slice ra 1700 rc) l)∧(x.b3→∃ xa xn xc ya yn yc D2,x.s13=.agg (bk (.slice xa xn xc) (.slice ya yn yc) A La r0 r1 r2 r3)∧IsQ 0 W (.slice xa xn xc) (.slice ya yn yc) q D2)∧(x.b5→MemAt W (w.heap.size+1+1) l)∧(x.b6→BlkAt W (w.heap.size+1+1+1) q A La r0 r1 r2 r3)) ⟨false,false,false,false,false,false,false,false,false,undef,undef,undef,undef,undef,.int .i64 0,.int .i64 0⟩ rfl rfl ⟨Zf,Zf,Zf,Zf,Zf,Zf,Zf,Zf,HM.out,HP.out,(fun _=>HA.out),(fun _=>HR.out),HB.out.drew,HV.out.drew,HQ.out.drew,Zf,Zf,Zf,Zf⟩ (fun _=>rfl) ?hstep ?hdone
 case hstep =>
  rintro ⟨b0,b1,b2,b3,b4,b5,b6,b7,b8,s10,s11,s12,s13,s14,s8,s9⟩ W hI i hi
  dsimp only at hI hi ⊢
  have HI:=Zh hI
  clear hI
  rw [Region.ready,List.mem_filter,List.mem_range] at hi
  obtain ⟨hlt,hp⟩:=hi
  have hi7:i=0∨i=1∨i=2∨i=3∨i=4∨i=5∨i=6∨i=7∨i=8:=by simp at hlt; omega
  clear hlt
  rcases hi7 with rfl|rfl|rfl|rfl|rfl|rfl|rfl|rfl|rfl
  all_goals simp [Region.binds] at hp
  · obtain rfl:b0=false:=by revert hp; cases b0 <;> simp
    clear hp; refine Zv 10 fun K' hK'=>?_
    have rM:=(Ze HI.out).1
    obtain ⟨hc0,_⟩:=at_cell rM 0 _ rfl
    go_simp
    exact hK'.out _ _ ⟨.mk ..,rfl,rfl,(Upd (fun _=>rfl)) HI.out⟩
  · obtain ⟨rfl,e0⟩:b1=false∧b0=true:=by revert hp; cases b1 <;> cases b0 <;> simp
    clear hp
    obtain rfl:=(HI.out.1) e0
    refine Zv 11 fun K' hK'=>?_
    have gi5:=(Zd HI.out).2.1
    have gi6:=(Zd HI.out).2.2.1
    have gi3:=(Zd HI.out).2.2.2.1
    have gV:=(Zd (Ze HI.out)).2.1
    obtain rfl:b5=false:=Zz fun e=>(gi5 e).1
    obtain rfl:b6=false:=Zz fun e=>(gi6 e).1
    obtain rfl:b3=false:=Zz fun e=>(gi3 e)
    go_simp
    refine (blkSame_any _ l W gV HL.out).mono ?_
    rintro e w2 ⟨ra,rc,rfl,hr,bn⟩
    obtain ⟨h0,h2,h4,h7,h8,gi5,gi6,gi3,rM,rB,rA0,rR0,gB,gV,gQ,gP,gC,gA,gD⟩:=HI.out
    exact hK'.out _ _ ⟨.mk ..,rfl,rfl,h0,h2,h4,h7,h8,Zf,Zf,Zf,(row_keep rM bn),(row_keep rB bn),(fun e=>row_keep (rA0 e) bn),(fun e=>row_keep (rR0 e) bn),(gB.trans (bn.mono gB.size)),(gV.below bn),(gQ.below bn),(fun _=>⟨ra,rc,rfl,hr⟩),Zf,Zf,Zf⟩
  · obtain rfl:b2=false:=by revert hp; cases b2 <;> simp
    clear hp; refine Zv 12 fun K' hK'=>?_
    have rB:=(Ze HI.out).2.1
    refine step_blk_load rfl _ rfl _ rfl _ rB rfl ?_
    exact hK'.out _ _ ⟨.mk ..,rfl,rfl,Nxt (Upd (fun _=>rfl)) HI.out⟩
  · obtain ⟨rfl,e2,e1⟩:b3=false∧b2=true∧b1=true:=by revert hp; cases b3 <;> cases b2 <;> cases b1 <;> simp
    clear hp
    obtain rfl:=(HI.out.2.1) e2
    refine Zv 13 fun K' hK'=>?_
    have gi5:=(Zd HI.out).2.1
    have gi6:=(Zd HI.out).2.2.1
    have gQ:=(Zd (Ze HI.out)).2.2.1
    obtain rfl:b5=false:=Zz fun e=>(gi5 e).2
    obtain rfl:b6=false:=Zz fun e=>(gi6 e).2.1
    go_simp
    refine (blkCopied_this q r0 r1 r2 r3 _ _ D A La W gQ HG.out HE3.out HE4.out).mono ?_
    rintro e w2 ⟨xa,xn,xc,ya,yn,yc,D2,rfl,hq,bn⟩
    obtain ⟨h0,h2,h4,h7,h8,gi5,gi6,gi3,rM,rB,rA0,rR0,gB,gV,gQ,gP,gC,gA,gD⟩:=HI.out
    exact hK'.out _ _ ⟨.mk ..,rfl,rfl,h0,h2,h4,h7,h8,Zf,Zf,(fun _=>e1),(row_keep rM bn),(row_keep rB bn),(fun e=>row_keep (rA0 e) bn),(fun e=>row_keep (rR0 e) bn),(gB.trans (bn.mono gB.size)),(gV.below bn),(gQ.below bn),(fun e=>by obtain ⟨y0,y1,h1,h2⟩:=gP e; exact ⟨y0,y1,h1,h2.below bn⟩),(fun _=>⟨_,_,_,_,_,_,_,rfl,hq⟩),Zf,Zf⟩
  · obtain rfl:b4=false:=by revert hp; cases b4 <;> simp
    clear hp; refine Zv 14 fun K' hK'=>?_
    go_simp
    exact hK'.out _ _ ⟨.mk ..,rfl,rfl,Nxt (Nxt (Upd (fun _=>rfl))) HI.out⟩
  · obtain ⟨rfl,e1,e3⟩:b5=false∧b1=true∧b3=true:=by revert hp; cases b5 <;> cases b1 <;> cases b3 <;> simp
    clear hp
    refine inv_op (o:=⟨none,_,_,_,_,_⟩) rfl (fun K' hK'=>?_)
    have gi6:=(Zd HI.out).2.2.1
    have rA0:=(Ze HI.out).2.2.1
    have gP:=(Zd (Ze HI.out)).2.2.2.1
    obtain rfl:b6=false:=Zz fun e=>(gi6 e).2.2
    obtain ⟨ra,rc,rfl,hp⟩:=gP e1
    obtain ⟨hc0,hz0⟩:=at_cell (rA0 rfl) 0 _ rfl
    have hlt:=(Array.getElem?_eq_some_iff.1 (rA0 rfl)).1
    go_simp
    obtain ⟨h0,h2,h4,h7,h8,gi5,gi6,gi3,rM,rB,rA0,rR0,gB,gV,gQ,gP,gC,gA,gD⟩:=HI.out
    exact hK'.out _ _ ⟨.mk ..,rfl,rfl,h0,h2,h4,h7,h8,(fun _=>⟨e1,e3⟩),Zf,gi3,(Zp1 rM (show w.heap.size+1+1≠w.heap.size by omega)),(Zp1 rB (Zn rB (rA0 rfl))),Zf,(fun e=>(Zp1 (rR0 e) (Zn (rR0 e) (rA0 rfl)))),(Zu1 gB (show w.heap.size≤w.heap.size+1+1 by omega)),(gV.stay (rA0 rfl) (by decide) _ _),(gQ.stay (rA0 rfl) (by decide) (by decide) _ _),(fun _=>⟨ra,rc,rfl,hp.stay (rA0 rfl) (by decide) 0 (.slice ra 1700 rc)⟩),(fun e=>by obtain ⟨y0,y1,y2,y3,y4,y5,y6,h1,h2⟩:=gC e; exact ⟨y0,y1,y2,y3,y4,y5,y6,h1,(h2.stay (rA0 rfl) (by decide) (by decide) _ _)⟩),(fun _=>⟨ra,rc,row_put (rA0 rfl) 0 (.slice ra 1700 rc),hp.stay (rA0 rfl) (by decide) 0 (.slice ra 1700 rc)⟩),Zf⟩
  · have hn6:b6=false:=by revert hp; cases b6 <;> simp
    have e3:b3=true:=by revert hp; cases b3 <;> simp
    have e5:b5=true:=by revert hp; cases b5 <;> simp
    have e1:b1=true:=by revert hp; cases b1 <;> simp
    clear hp
    subst hn6
    refine inv_op (o:=⟨none,_,_,_,_,_⟩) rfl (fun K' hK'=>?_)
    have rR0:=(Ze HI.out).2.2.2.1
    have gC:=(Zg HI.out).1
    obtain ⟨xa,xn,xc,ya,yn,yc,D2,rfl,hq⟩:=gC e3
    refine step_blk_store rfl _ _ rfl _ _ rfl rfl _ (rR0 rfl) rfl rfl (bk_one rfl rfl) ?_
    obtain ⟨h0,h2,h4,h7,h8,gi5,gi6,gi3,rM,rB,rA0,rR0,gB,gV,gQ,gP,gC,gA,gD⟩:=HI.out
    exact hK'.out _ _ ⟨.mk ..,rfl,rfl,h0,h2,h4,h7,h8,gi5,(fun _=>⟨e1,e3,e5⟩),gi3,(row_other rM _ (Zn rM (rR0 rfl))),(row_other rB _ (show w.heap.size+1+1+1≠w.heap.size+1 by omega)),(fun e=>(row_other (rA0 e) _ (Zn (rA0 e) (rR0 rfl)))),Zf,(below_row gB (show w.heap.size≤w.heap.size+1+1+1 by omega) _),(gV.row (rR0 rfl) _),(gQ.row (rR0 rfl) _),(fun e=>by obtain ⟨y0,y1,h1,h2⟩:=gP e; exact ⟨y0,y1,h1,(h2.row (rR0 rfl) _)⟩),(fun _=>⟨_,_,_,_,_,_,_,rfl,hq.row (rR0 rfl) _⟩),(fun e=>(gA e).row (rR0 rfl) _),(fun _=>⟨_,_,_,row_self (rR0 rfl) _,hq.row (rR0 rfl) _⟩)⟩
  · obtain ⟨rfl,e6⟩:b7=false∧b6=true:=by revert hp; cases b7 <;> cases b6 <;> simp
    clear hp; refine Zv 8 fun K' hK'=>?_
    go_simp
    exact hK'.out _ _ ⟨.mk ..,rfl,rfl,Nxt (Nxt (Nxt (Upd (fun _=>rfl)))) HI.out⟩
  · obtain ⟨rfl,e4,e7⟩:b8=false∧b4=true∧b7=true:=by revert hp; cases b8 <;> cases b4 <;> cases b7 <;> simp
    clear hp
    obtain rfl:=(HI.out.2.2.1) e4
    refine Zv 9 fun K' hK'=>?_
    go_simp
    exact hK'.out _ _ ⟨.mk ..,rfl,rfl,Nx4 (Upd (fun _=>rfl)) HI.out⟩
 case hdone =>
  rintro ⟨b0,b1,b2,b3,b4,b5,b6,b7,b8,s10,s11,s12,s13,s14,s8,s9⟩ W hI hall
  dsimp only at hI hall ⊢
  have HI:=Zh hI
  clear hI
  obtain rfl:b0=true:=hall 0 (by decide)
  obtain rfl:b1=true:=hall 1 (by decide)
  obtain rfl:b2=true:=hall 2 (by decide)
  obtain rfl:b3=true:=hall 3 (by decide)
  obtain rfl:b4=true:=hall 4 (by decide)
  obtain rfl:b5=true:=hall 5 (by decide)
  obtain rfl:b6=true:=hall 6 (by decide)
  obtain rfl:b7=true:=hall 7 (by decide)
  obtain rfl:b8=true:=hall 8 (by decide)
  obtain rfl:=(HI.out.2.2.2.1) rfl
  obtain rfl:=((Zd HI.out).1) rfl
  have gA:=(Zg HI.out).2.1
  have gD:=(Zg HI.out).2.2
  have gB:=(Zd (Ze HI.out)).1
  clear HI hall
  obtain ⟨ra,rc,hm,hmo⟩:=gA rfl
  obtain ⟨F2,C2,D2,hb,hbo⟩:=gD rfl
  have HB2:=Zh gB
  clear gA gD gB
  go_wp2
  exact bodyPost_ret (results_mbtt rfl rfl rfl hm hb rfl) rfl ⟨_,_,_,_,_,rfl,hmo,hbo,HB2.out⟩
set_option maxHeartbeats 2000000 in
set_option maxRecDepth 100000 in
theorem write1_any (gm gs gd p s:Nat) (v dv:Value) (l d:List UInt8) (w:World) (hm:w.heap[gm]? = some (.cells #[v] 24 (0,0))) (hs:w.heap[gs]? = some (.cells #[.int .i64 (s:Nat)] 3 (0,0))) (hd:w.heap[gd]? = some (.cells #[dv] 22 (0,0))) (hv:OwnB 0 w v l) (hdv:OwnB 0 w dv d) (hl:l.length=1700) (hdl:d.length=256) (hp:p+273≤1700) (hs2:s < 256) :
 Calls Tryz.prog 21 #[.int .i64 (p:Nat),.pointer (some ⟨gm,0,none⟩),.pointer (some ⟨gs,0,none⟩),.pointer (some ⟨gd,0,none⟩)] w fun e w'=>∃ ra rc ba bc,e=.returned (.tuple #[.agg #[.slice ra 1700 rc],.slice ba 3 bc])∧OwnB 0 w' (.slice ra 1700 rc) (layW l p s d)∧OwnBf 0 w' (.slice ba 3 bc) (bsW p)∧Below w.heap.size w w':=by
 obtain ⟨ma,mc,rfl,hx,hy⟩:=hv.shape
 obtain ⟨da,dc,rfl,hx2,hy2⟩:=hdv.shape
 have hb:=(Below.refl w.heap.size w).alloc (Nat.le_refl _) (.cells #[.slice none 0 0] 24)
 have hr:=heap_alloc_new w (.cells #[.slice none 0 0] 24)
 obtain ⟨m0,mz⟩:=one_cell (row_keep hm hb)
 obtain ⟨s0,sz⟩:=one_cell (row_keep hs hb)
 obtain ⟨d0,dz⟩:=one_cell (row_keep hd hb)
 have HB:=Zh hb
 have HR:=Zh hr
 have HV:=Zh (hv.below hb)
 have HD:=Zh (hdv.below hb)
 have HDL:=Zh hdl
 have HS:=Zh hs2
 have HL:=Zh hl
 have HPL:=Zh hp
 clear hm hv hl hp hb hr hx hy hs hd hdv hdl hs2 hx2 hy2
 go_enter Tryz.func21,Tryz.ntmps21
 go_wp2_with fail
 refine (lay_write _ _ l d p s _ HV.out HD.out HL.out HDL.out HPL.out HS.out).mono ?_
 rintro e w1 ⟨ra,rc,ba,bc,rfl,hm,hbf,hb⟩
 have hR:=row_keep HR.out hb
 obtain ⟨r0,rz⟩:=one_cell hR
 have hlt:=(Array.getElem?_eq_some_iff.1 hR).1
 have HR1:=Zh hR
 have HM1:=Zh hm
 have HF1:=Zh hbf
 have HB1:=Zh (HB.out.trans (hb.mono HB.out.size))
 clear hR hm hbf hb
 go_wp2
 refine bodyPost_ret (v:=.tuple #[.agg #[.slice ra 1700 rc],.slice ba 3 bc]) (by simp [results,Tryz.results21,go_sem,r0]) rfl ⟨_,_,_,_,rfl,?_,?_,?_⟩
 · exact HM1.out.stay HR1.out (by decide) 0 _
 · exact HF1.out.stay HR1.out (by decide) 0 _
 · exact HB1.out.setCell (p:=⟨w.heap.size,0,none⟩) (Nat.le_refl _) _
set_option maxHeartbeats 2000000 in
set_option maxRecDepth 100000 in
theorem flush1_any (gm p:Nat) (v:Value) (l:List UInt8) (w:World) (hm:w.heap[gm]? = some (.cells #[v] 24 (0,0))) (hv:OwnB 0 w v l) (hl:l.length=1700) (hp:p+273≤1700) :
 Calls Tryz.prog 45 #[.int .i64 (p:Nat),.pointer (some ⟨gm,0,none⟩)] w fun e w'=>∃ ra rc ba bc,e=.returned (.tuple #[.agg #[.slice ra 1700 rc],.slice ba 2 bc])∧OwnB 0 w' (.slice ra 1700 rc) (layN l p 4 0)∧OwnBf 0 w' (.slice ba 2 bc) (bsF p)∧Below w.heap.size w w':=by
 obtain ⟨ma,mc,rfl,hx,hy⟩:=hv.shape
 have hb:=(Below.refl w.heap.size w).alloc (Nat.le_refl _) (.cells #[.slice none 0 0] 24)
 have hr:=heap_alloc_new w (.cells #[.slice none 0 0] 24)
 obtain ⟨m0,mz⟩:=one_cell (row_keep hm hb)
 have HB:=Zh hb
 have HR:=Zh hr
 have HV:=Zh (hv.below hb)
 have HL:=Zh hl
 have HPL:=Zh hp
 clear hm hv hl hp hb hr hx hy
 go_enter Tryz.func45,Tryz.ntmps45
 go_wp2_with fail
 refine (lay_flush _ l p _ HV.out HL.out HPL.out).mono ?_
 rintro e w1 ⟨ra,rc,ba,bc,rfl,hm,hbf,hb⟩
 have hR:=row_keep HR.out hb
 obtain ⟨r0,rz⟩:=one_cell hR
 have hlt:=(Array.getElem?_eq_some_iff.1 hR).1
 have HR1:=Zh hR
 have HM1:=Zh hm
 have HF1:=Zh hbf
 have HB1:=Zh (HB.out.trans (hb.mono HB.out.size))
 clear hR hm hbf hb
 go_wp2
 refine bodyPost_ret (v:=.tuple #[.agg #[.slice ra 1700 rc],.slice ba 2 bc]) (by simp [results,Tryz.results45,go_sem,r0]) rfl ⟨_,_,_,_,rfl,?_,?_,?_⟩
 · exact HM1.out.stay HR1.out (by decide) 0 _
 · exact HF1.out.stay HR1.out (by decide) 0 _
 · exact HB1.out.setCell (p:=⟨w.heap.size,0,none⟩) (Nat.le_refl _) _
end Go.Proofs.YtcljffcdpjmmbaaGreat
