import Derived.Deep.AppendLies
import Derived.Laws.BitsAllLaws
import Derived.Test.YtcljffcdpjmmbaaGreatG04
namespace Go.Proofs.YtcljffcdpjmmbaaGreat
open Go.RowKit Go.Lib
theorem writeOf_zero {S:List (List UInt8)} {C:List (Int × List UInt8)} {z:Int} {l:List UInt8} (h:wFault S C z l.length=0):writeOf S C z l=C++[(z,l)]:=by rw [writeOf,if_pos h]
theorem writeOf_other {S:List (List UInt8)} {C:List (Int × List UInt8)} {z:Int} {l:List UInt8} (h:wFault S C z l.length≠0):writeOf S C z l=C:=by rw [writeOf,if_neg h]
def OwnDisk (B:Nat) (W:World) (s c:Value) (S:List (List UInt8)) (C:List (Int × List UInt8)):Prop:=(∃ M,OwnSects B M W s S)∧OwnWrites B W c C
theorem OwnWrites.base {B B':Nat} {W:World} {v:Value} {C:List (Int × List UInt8)} (h:OwnWrites B W v C) (hb:B'≤B):OwnWrites B' W v C:=by
 obtain ⟨X,h1,h2,h3⟩:=h
 exact ⟨X,h1,ownsRow_base h2 hb,fun i x hx=>⟨(h3 i x hx).1,ownsRow_base (h3 i x hx).2 hb⟩⟩
structure DskWSt (B M nb rb:Nat) (w:World) (sv cv:Value) (S:List (List UInt8)) (C:List (Int × List UInt8)) (z:Int) (l:List UInt8) (b1 b4 b6 b7 b9:Bool) (s22 s24 s25:Value) (W:World):Prop where
 out:Below w.heap.size w W
 sect:∃ M',OwnSects B M' W sv S
 size:M≤W.heap.size
 low:w.heap.size≤M
 res:W.heap[rb]? = some (.cells #[.slice none 0 0,.slice none 0 0] 41 (0,0))
 now:W.heap[nb]? = some (.cells #[sv,if b9=true then s25 else cv] 41 (0,0))
 o1:b7=true→b1=true
 o4:b6=true→b4=true
 o6:b7=true→b6=true
 o7:b9=true→b7=true
 g4:b4=true→(∃ a n c,s22=.slice a n c)∧W.ownsRow M 5 1 s22 l.length (byteCells l)
 g6:b6=true→b7=false→∃ gb,s24=.slice (some ⟨gb,0,none⟩) 1 1∧W.heap[gb]? = some (.cells #[.int .i64 z,s22] 94 (0,0))
 own:b7=false→OwnWrites M W cv C
 g7:b7=true→(∃ a n c,s25=.slice a n c)∧OwnWrites M W s25 (C++[(z,l)])
section
variable {B M nb rb:Nat} {w W:World} {sv cv:Value} {S:List (List UInt8)} {C:List (Int × List UInt8)} {z:Int} {l:List UInt8} {b1 b4 b6 b7 b9:Bool} {s22 s24 s25:Value}
theorem DskWSt.below {W1:World} (h:DskWSt B M nb rb w sv cv S C z l b1 b4 b6 b7 b9 s22 s24 s25 W) (hb:Below W.heap.size W W1):DskWSt B M nb rb w sv cv S C z l b1 b4 b6 b7 b9 s22 s24 s25 W1 where
 out:=h.out.trans (hb.mono h.out.size)
 sect:=by obtain ⟨M',h1⟩:=h.sect; exact ⟨M',h1.below hb⟩
 size:=Nat.le_trans h.size hb.size
 low:=h.low
 res:=dskRow_keep h.res hb
 now:=dskRow_keep h.now hb
 o1:=h.o1
 o4:=h.o4
 o6:=h.o6
 o7:=h.o7
 g4:=fun e=>⟨(h.g4 e).1,ownsRow_below (h.g4 e).2 hb⟩
 g6:=fun e e2=>by obtain ⟨gb,h1,h2⟩:=h.g6 e e2; exact ⟨gb,h1,dskRow_keep h2 hb⟩
 own:=fun e=>(h.own e).below hb
 g7:=fun e=>⟨(h.g7 e).1,(h.g7 e).2.below hb⟩
theorem DskWSt.one (h:DskWSt B M nb rb w sv cv S C z l b1 b4 b6 b7 b9 s22 s24 s25 W):DskWSt B M nb rb w sv cv S C z l true b4 b6 b7 b9 s22 s24 s25 W:={ h with o1:=fun _=>rfl }
theorem DskWSt.four {W1:World} {r:Value} (h:DskWSt B M nb rb w sv cv S C z l b1 false b6 b7 b9 s22 s24 s25 W) (hb:Below W.heap.size W W1) (hr:W1.ownsRow W.heap.size 5 1 r l.length (byteCells l)):DskWSt B M nb rb w sv cv S C z l b1 true b6 b7 b9 r s24 s25 W1 :=
 have h1:=h.below hb
 { out:=h1.out,sect:=h1.sect,size:=h1.size,low:=h1.low,res:=h1.res,now:=h1.now,o1:=h1.o1,o4:=fun _=>rfl,o6:=h1.o6,o7:=h1.o7,own:=h1.own,g7:=h1.g7
   g4:=fun _=>⟨by obtain ⟨a,n,c,h2,_⟩:=(isArg_of_owns hr).shape3; exact ⟨a,n,c,h2⟩,ownsRow_base hr h.size⟩
   g6:=fun e _=>absurd (h.o4 e) (by decide) }
theorem DskWSt.six (h:DskWSt B M nb rb w sv cv S C z l b1 true false b7 b9 s22 s24 s25 W):DskWSt B M nb rb w sv cv S C z l b1 true true b7 b9 s22 (.slice (some ⟨W.heap.size,0,none⟩) 1 1) s25 (W.alloc (.cells #[.int .i64 z,s22] 94)) :=
 have h1:=h.below ((Below.refl _ _).alloc (Nat.le_refl _) (.cells #[.int .i64 z,s22] 94))
 { out:=h1.out,sect:=h1.sect,size:=h1.size,low:=h1.low,res:=h1.res,now:=h1.now,o1:=h1.o1,o4:=fun _=>rfl,o6:=fun _=>rfl,o7:=h1.o7,own:=h1.own,g7:=h1.g7,g4:=h1.g4
   g6:=fun _ _=>⟨_,rfl,heap_alloc_new W _⟩ }
theorem far_grown {W W1:World} {M n k:Nat} {cv:Value} {xs:List Value} {cur:Array Value} {t:TypeId} {f:Nat × Nat} (hcv:W.ownsRow M 94 2 cv n xs) (hg:W.grownBy W1 cv.ownBlock) (h:W.heap[k]? = some (.cells cur t f)) (ht:t≠94):W1.heap[k]? = some (.cells cur t f):=by
 refine (hg.block k (Array.getElem?_eq_some_iff.1 h).1 (fun e=>?_)).trans h
 rcases hcv.2 with ⟨rfl,_⟩|⟨g,cap,c2,rfl,_,hh,_⟩
 · cases e
 · have e:k=g:=by simpa [Value.ownBlock] using e
   subst e
   rw [h] at hh
   injection hh with hh
   injection hh with _ hh _
   exact ht hh
theorem tne1:(5:Nat)≠94:=by decide
theorem tne2:(22:Nat)≠94:=by decide
theorem tne3:(41:Nat)≠94:=by decide
theorem OwnSects.grown {B M' M n:Nat} {W W1:World} {cv sv:Value} {xs:List Value} {S:List (List UInt8)} (h:OwnSects B M' W sv S) (hcv:W.ownsRow M 94 2 cv n xs) (hg:W.grownBy W1 cv.ownBlock):OwnSects B M' W1 sv S:=by
 obtain ⟨ys,h1,h2,h3,h4⟩:=h
 exact ⟨ys,owns_keep h1 fun k cur _ hc=>far_grown hcv hg hc tne2,⟨fun i V hi hV=>owns_keep (h2.1 i V hi hV) fun k cur _ hc=>far_grown hcv hg hc tne1,h2.2⟩,h3,h4⟩
theorem DskWSt.seven {W1:World} {g cap:Nat} {X:List (Int × Value)} (h:DskWSt B M nb rb w sv cv S C z l b1 true true false b9 s22 s24 s25 W) (hb1:b1=true) (hX:X.length=C.length) (hown:W.ownsRow M 94 2 cv C.length (wcells X)) (hel:∀ (i:Nat) (x:Int × Value),X[i]? = some x→x.1=(C.getD i (0,[])).1∧W.ownsRow M 5 1 x.2 (C.getD i (0,[])).2.length (byteCells (C.getD i (0,[])).2))
 (h1:W1.ownsRow M 94 2 (.slice (some ⟨g,0,none⟩) (C.length+1) cap) (C.length+1) (wcells X++[.int .i64 z,s22])) (hg:W.grownBy W1 cv.ownBlock):DskWSt B M nb rb w sv cv S C z l b1 true true true b9 s22 s24 (.slice (some ⟨g,0,none⟩) (C.length+1) cap) W1:=by
 have hb9:b9=false:=by
  cases b9 with
  | false=>rfl
  | true=>exact absurd (h.o7 rfl) (by decide)
 subst hb9
 have hM:∀ k,cv.ownBlock=some k→M≤k:=fun k hk=>(hown.lt k hk).1
 refine { out:=h.out.grown hg h.out.size (fun k hk=>Nat.le_trans h.low (hM k hk)),sect:=by obtain ⟨M',h2⟩:=h.sect; exact ⟨M',h2.grown hown hg⟩,size:=Nat.le_trans h.size hg.size,low:=h.low,res:=far_grown hown hg h.res tne3,now:=far_grown hown hg h.now tne3,o1:=fun _=>hb1,o4:=fun _=>rfl,o6:=fun _=>rfl,o7:=fun _=>rfl,g4:=fun e=>⟨(h.g4 e).1,owns_keep (h.g4 e).2 fun k cur _ hc=>far_grown hown hg hc tne1⟩,g6:=(fun _ e=>by cases e),own:=Zf,g7:=fun _=>⟨⟨_,_,_,rfl⟩,X++[(z,s22)],by simp [hX],?_,fun i x hx=>?_⟩ }
 · rw [wcells_append,List.length_append]
   exact h1
 · by_cases hi:i < X.length
   · rw [List.getElem?_append_left hi] at hx
     obtain ⟨e1,e2⟩:=hel i x hx
     have e3:(C++[(z,l)]).getD i (0,[])=C.getD i (0,[]):=by simp only [List.getD_eq_getElem?_getD]; rw [List.getElem?_append_left (by omega)]
     rw [e3]
     exact ⟨e1,owns_keep e2 fun k cur _ hc=>far_grown hown hg hc tne1⟩
   · have hi2:i=X.length:=by
      have:=(List.getElem?_eq_some_iff.1 hx).1
      simp at this
      omega
     subst hi2
     rw [List.getElem?_append_right (Nat.le_refl _),Nat.sub_self] at hx
     cases hx
     have e3:(C++[(z,l)]).getD X.length (0,[])=(z,l):=by rw [hX,List.getD_eq_getElem?_getD,List.getElem?_append_right (Nat.le_refl _),Nat.sub_self]; rfl
     rw [e3]
     exact ⟨rfl,owns_keep (h.g4 rfl).2 fun k cur _ hc=>far_grown hown hg hc tne1⟩
theorem tne4:(5:Nat)≠41:=by decide
theorem tne5:(22:Nat)≠41:=by decide
theorem tne6:(94:Nat)≠41:=by decide
theorem far_box {W:World} {nb k:Nat} {cs cur:Array Value} {t:TypeId} {f f2:Nat × Nat} (hn:W.heap[nb]? = some (.cells cs 41 f)) (h:W.heap[k]? = some (.cells cur t f2)) (ht:t≠41) (i:Nat) (x:Value):(W.setCell ⟨nb,i,none⟩ x).heap[k]? = some (.cells cur t f2) :=
 dskRow_far h _ _ (fun e=>by
  have e:k=nb:=e
  rw [e,hn] at h
  injection h with h
  injection h with _ h _
  exact ht h.symm)
theorem OwnSects.box {B M' nb:Nat} {W:World} {sv:Value} {cs:Array Value} {f:Nat × Nat} {S:List (List UInt8)} (h:OwnSects B M' W sv S) (hn:W.heap[nb]? = some (.cells cs 41 f)) (i:Nat) (x:Value):OwnSects B M' (W.setCell ⟨nb,i,none⟩ x) sv S:=by
 obtain ⟨ys,h1,h2,h3,h4⟩:=h
 exact ⟨ys,owns_keep h1 fun k cur _ hc=>far_box hn hc tne5 i x,⟨fun j V hi hV=>owns_keep (h2.1 j V hi hV) fun k cur _ hc=>far_box hn hc tne4 i x,h2.2⟩,h3,h4⟩
theorem OwnWrites.box {M nb:Nat} {W:World} {cv:Value} {cs:Array Value} {f:Nat × Nat} {C:List (Int × List UInt8)} (h:OwnWrites M W cv C) (hn:W.heap[nb]? = some (.cells cs 41 f)) (i:Nat) (x:Value):OwnWrites M (W.setCell ⟨nb,i,none⟩ x) cv C:=by
 obtain ⟨X,h1,h2,h3⟩:=h
 exact ⟨X,h1,owns_keep h2 fun k cur _ hc=>far_box hn hc tne6 i x,fun j y hy=>⟨(h3 j y hy).1,owns_keep (h3 j y hy).2 fun k cur _ hc=>far_box hn hc tne4 i x⟩⟩
theorem DskWSt.nine (h:DskWSt B M nb rb w sv cv S C z l b1 b4 b6 true false s22 s24 s25 W) (hnb:w.heap.size≤nb) (hne:rb≠nb):DskWSt B M nb rb w sv cv S C z l b1 b4 b6 true true s22 s24 s25 (W.setCell ⟨nb,1,none⟩ s25) where
 out:=h.out.setCell hnb _
 sect:=by obtain ⟨M',h1⟩:=h.sect; exact ⟨M',h1.box h.now 1 s25⟩
 size:=by have:=h.size; simp only [World.setCell,Array.size_modify]; exact this
 low:=h.low
 res:=dskRow_far h.res _ _ hne
 now:=heap_setCell_same W nb 1 _ _ s25 h.now
 o1:=h.o1
 o4:=h.o4
 o6:=h.o6
 o7:=fun _=>rfl
 g4:=fun e=>⟨(h.g4 e).1,owns_keep (h.g4 e).2 fun k cur _ hc=>far_box h.now hc tne4 1 s25⟩
 g6:=(fun _ e=>by cases e)
 own:=Zf
 g7:=fun e=>⟨(h.g7 e).1,(h.g7 e).2.box h.now 1 s25⟩
end
structure WriteX where
 (b0 b1 b2 b3 b4 b5 b6 b7 b8 b9:Bool)
 (s18 s19 s20 s21 s22 s23 s24 s25 s26:Value)
set_option maxHeartbeats 4000000 in
set_option maxRecDepth 100000 in
theorem write_own (s c:Value) (S:List (List UInt8)) (C:List (Int × List UInt8)) (w:World) (hd:IsDisk w s c S C) (hf:FewD S C) (z:Int) (V:Value) (l:List UInt8) (hV:IsArg w V l) (hl:l.length≤100000) (F:Int) (hF:wFault S C z l.length=F) :
 Calls Tryz.prog 95 #[.agg #[s,c],.int .i64 z,V] w fun e w'=>∃ sv cv B,e=.returned (.tuple #[.agg #[sv,cv],.int .i64 F])∧OwnDisk B w' sv cv S (writeOf S C z l)∧Below w.heap.size w w':=by
 have HD:=Zh hd
 have HV:=Zh hV
 obtain ⟨a,ca,a1,c1,rfl,rfl,_,_⟩:=hd.shape
 obtain ⟨va,vn,vc,rfl,hvn⟩:=hV.shape3
 obtain ⟨n,hSn⟩:∃ n,n=S.length:=⟨_,rfl⟩
 obtain ⟨m,hCm⟩:∃ m,m=C.length:=⟨_,rfl⟩
 rw [←hSn,←hCm] at HD
 rw [←hSn,←hCm]
 rw [←hvn] at hF
 have HCm:=Zh hCm
 have HB0:=Zh (((Below.refl w.heap.size w).alloc (Nat.le_refl _) (.cells #[.slice a n ca,.slice a1 m c1] 41)).alloc (by simp) (.cells #[.slice none 0 0,.slice none 0 0] 41))
 have HFW:=Zh hf
 have HF:=Zh hF
 have HVN:=Zh hvn
 have HLL:=Zh (show l.length≤140737488355328 by omega)
 by_cases h0:F=0
 · subst h0
   obtain ⟨hk,z0,z1,h256,hm⟩:=wFault_zero hF
   obtain ⟨G,hG⟩:∃ G,G=writeOf S C z l:=⟨_,rfl⟩
   rw [←hG]
   rw [writeOf_zero (by rw [←hvn]; exact hF)] at hG
   rw [←hCm] at hm
   have HG:=Zh hG
   have HZ:=Zh (show 0≤z∧z < (S.length:Int) from ⟨z0,z1⟩)
   clear hd hf hF hSn hCm hk z0 z1 h256 hG hV hvn hl
   go_enter Tryz.func95,Tryz.ntmps95
   go_wp2_with fail
   refine (writeFault_any _ _ _ _ _ (HD.out.below HB0.out) _ _ _ _ _ HF.out).mono ?_
   rintro e w1 ⟨rfl,hb⟩
   have HB1:=Zh (HB0.out.trans (hb.mono (by simp; omega)))
   obtain ⟨hrow0,hrow1,hlt1⟩:=dskBoxes_rows hb
   obtain ⟨⟨hx1,hx2⟩,_,_⟩:=box_cells hrow0
   have HRW:=Zh hrow1
   clear hrow0 hrow1 hb
   go_wp2_with fail
   refine (dskSame_any _ _ S C _ (HD.out.below HB1.out) HFW.out).mono ?_
   rintro e w2 ⟨sv,cv,M,rfl,hM,ho,hw,hb⟩
   obtain ⟨sa,sn,sc,rfl⟩:=ho.sects.form
   obtain ⟨da,dn,dc,rfl⟩:=hw.writes.form
   have HB2:=Zh (HB1.out.trans (hb.mono HB1.out.size))
   have HRW2:=Zh (dskRow_keep HRW.out hb)
   have hlt2:w.heap.size+1 < w2.heap.size:=Nat.lt_of_lt_of_le hlt1 hb.size
   have HO:=Zh ho
   have HW:=Zh hw
   have HM:=Zh (show w.heap.size+1 < M from Nat.lt_of_lt_of_le hlt1 hM)
   have HMB:=Zh hM
   have HBS:=Zh hb.size
   clear ho hw hb hx1 hx2 hM
   go_wp2_with fail
   obtain ⟨nb,hnb⟩:∃ x,x=w2.heap.size:=⟨_,rfl⟩
   obtain ⟨j0,ji,jz0,jz1,jz2⟩:=info_parts infoW
   have bN:=(Below.refl w2.heap.size w2).alloc (Nat.le_refl _) (.cells #[.slice sa sn sc,.slice da dn dc] 41)
   have hst:DskWSt w1.heap.size w1.heap.size nb (w.heap.size+1) w (.slice sa sn sc) (.slice da dn dc) S C z l false false false false false undef undef undef (w2.alloc (.cells #[.slice sa sn sc,.slice da dn dc] 41)) :=
    { out:=HB2.out.trans (bN.mono HB2.out.size),sect:=⟨_,HO.out.below bN⟩,size:=Nat.le_trans HBS.out bN.size,low:=by omega,res:=dskRow_keep HRW2.out bN,now:=by rw [hnb]; exact heap_alloc_new w2 _
      o1:=Zf,o4:=Zf,o6:=Zf,o7:=Zf,g4:=Zf,g6:=Zf,own:=fun _=>(HW.out.base HMB.out).below bN,g7:=Zf }
   obtain ⟨B,hB⟩:∃ B,B=w1.heap.size:=⟨_,rfl⟩
   rw [←hB] at hst
   have hbase:w.heap.size+1 < B:=by omega
   have HST:=Zh (hst.below (Below.refl _ _).drew)
   have HCL:=Zh (show C.length+1≤maxLen∧(C.length+1) * 32≤140737488355328 by rw [←HCm.out]; unfold maxLen; omega)
   have hnb0:w.heap.size≤nb:=by omega
   have hnb1:w.heap.size+1≠nb:=by omega
   rw [←hnb]
   clear hst hnb hB bN hlt1
   refine wp_region_rec (X:=WriteX) (by kernel_rfl) (by kernel_rfl) (fun x=>#[x.b0,x.b1,x.b2,x.b3,x.b4,x.b5,x.b6,x.b7,x.b8,x.b9]) (fun x=>{ tmps:=#[Value.agg #[Value.slice a n ca,Value.slice a1 m c1],Value.int IntKind.i64 z,Value.slice va vn vc,Value.pointer (some ⟨w.heap.size,0,none⟩),undef,undef,Value.pointer (some ⟨w.heap.size+1,0,none⟩),Value.int IntKind.i64 0,Value.int IntKind.i64 0,Value.pointer (some ⟨nb,0,none⟩),Value.agg #[Value.slice a n ca,Value.slice a1 m c1],Value.int IntKind.i64 z,Value.slice va vn vc,Value.int IntKind.i64 0,Value.agg #[Value.slice a n ca,Value.slice a1 m c1],Value.agg #[Value.slice sa sn sc,Value.slice da dn dc],Value.int IntKind.i64 0,Value.bool true,x.s18,x.s19,x.s20,x.s21,x.s22,x.s23,x.s24,x.s25,x.s26,undef,undef],defers:=[] }) (fun x W=>(x.b0→x.s18=.pointer (some ⟨nb,1,none⟩))∧(x.b1→x.s19=.slice da dn dc)∧(x.b2→x.s20=.int .i64 z)∧(x.b3→x.s21=.slice va vn vc)∧(x.b5→x.s23=.agg #[.int .i64 z,x.s22])∧(x.b8→x.s26=.pointer (some ⟨nb,1,none⟩))∧(DskWSt B B nb (w.heap.size+1) w (.slice sa sn sc) (.slice da dn dc) S C z l x.b1 x.b4 x.b6 x.b7 x.b9 x.s22 x.s24 x.s25 W)∧(x.b5→x.b4)) ⟨false,false,false,false,false,false,false,false,false,false,undef,undef,undef,undef,undef,undef,undef,undef,undef⟩ rfl rfl ⟨Zf,Zf,Zf,Zf,Zf,Zf,HST.out,Zf⟩ (fun _=>rfl) ?hstep ?hdone
   case hstep =>
    rintro ⟨b0,b1,b2,b3,b4,b5,b6,b7,b8,b9,s18,s19,s20,s21,s22,s23,s24,s25,s26⟩ W hI i hi
    dsimp only at hI hi ⊢
    have HI:=Zh hI
    clear hI
    rw [Region.ready,List.mem_filter,List.mem_range] at hi
    obtain ⟨hlt,hp⟩:=hi
    have hi7:i=0∨i=1∨i=2∨i=3∨i=4∨i=5∨i=6∨i=7∨i=8∨i=9:=by simp at hlt; omega
    clear hlt
    rcases hi7 with rfl|rfl|rfl|rfl|rfl|rfl|rfl|rfl|rfl|rfl
    all_goals simp [Region.binds] at hp
    · obtain rfl:b0=false:=by revert hp; cases b0 <;> simp
      clear hp; refine Zv 18 fun K' hK'=>?_
      go_simp
      exact hK'.out _ _ ⟨.mk ..,rfl,rfl,(Upd (fun _=>rfl)) HI.out⟩
    · obtain ⟨rfl,e0⟩:b1=false∧b0=true:=by revert hp; cases b1 <;> cases b0 <;> simp
      clear hp
      obtain rfl:=(HI.out.1) e0
      refine Zv 19 fun K' hK'=>?_
      have gI:=(Zd HI.out).2.2.1
      have b7f:b7=false:=by cases b7 with|false=>rfl|true=>exact absurd (gI.o1 rfl) (by decide)
      subst b7f
      have b9f:b9=false:=by cases b9 with|false=>rfl|true=>exact absurd (gI.o7 rfl) (by decide)
      subst b9f
      obtain ⟨hc1,hc2⟩:=(box_cells gI.now).1
      rw [if_neg (by decide)] at hc2
      go_simp
      obtain ⟨h0,h1,h2,h3,h5,h8,gI,o54⟩:=HI.out
      exact hK'.out _ _ ⟨.mk ..,rfl,rfl,h0,(fun _=>rfl),h2,h3,h5,h8,gI.one,o54⟩
    · obtain rfl:b2=false:=by revert hp; cases b2 <;> simp
      clear hp; refine Zv 20 fun K' hK'=>?_
      go_simp
      exact hK'.out _ _ ⟨.mk ..,rfl,rfl,Nxt (Nxt (Upd (fun _=>rfl))) HI.out⟩
    · obtain rfl:b3=false:=by revert hp; cases b3 <;> simp
      clear hp; refine Zv 21 fun K' hK'=>?_
      go_simp
      exact hK'.out _ _ ⟨.mk ..,rfl,rfl,Nxt (Nxt (Nxt (Upd (fun _=>rfl)))) HI.out⟩
    · obtain ⟨rfl,e3⟩:b4=false∧b3=true:=by revert hp; cases b4 <;> cases b3 <;> simp
      clear hp
      obtain rfl:=(HI.out.2.2.2.1) e3
      refine Zv 22 fun K' hK'=>?_
      have gI:=(Zd HI.out).2.2.1
      go_simp
      refine (clone_any _ _ _ (HV.out.below gI.out) HLL.out).mono ?_
      rintro e w1 ⟨r,rfl,hr,bn⟩
      obtain ⟨h0,h1,h2,h3,h5,h8,gI,o54⟩:=HI.out
      exact hK'.out _ _ ⟨.mk ..,rfl,rfl,h0,h1,h2,h3,(fun e5=>absurd (o54 e5) (by decide)),h8,(gI.four bn hr),(fun _=>rfl)⟩
    · obtain ⟨rfl,e2,e4⟩:b5=false∧b2=true∧b4=true:=by revert hp; cases b5 <;> cases b2 <;> cases b4 <;> simp
      clear hp
      obtain rfl:=(HI.out.2.2.1) e2
      refine Zv 23 fun K' hK'=>?_
      have gI:=(Zd HI.out).2.2.1
      obtain ⟨ra,rn,rc,rfl⟩:=(gI.g4 e4).1
      go_simp
      exact hK'.out _ _ ⟨.mk ..,rfl,rfl,Nxt (Nxt (Nxt (Nx4 (fun _=>(fun _=>e4))))) (Nx4 (Upd (fun _=>rfl)) HI.out)⟩
    · obtain ⟨rfl,e5⟩:b6=false∧b5=true:=by revert hp; cases b6 <;> cases b5 <;> simp
      clear hp
      obtain rfl:=((Zd HI.out).1) e5
      refine Zv 24 fun K' hK'=>?_
      have gI:=(Zd HI.out).2.2.1
      have o54:=(Zd HI.out).2.2.2
      have e4:=o54 e5
      obtain ⟨ra,rn,rc,rfl⟩:=(gI.g4 e4).1
      subst e4
      go_simp
      obtain ⟨h0,h1,h2,h3,h5,h8,gI,o54⟩:=HI.out
      exact hK'.out _ _ ⟨.mk ..,rfl,rfl,h0,h1,h2,h3,h5,h8,gI.six,(fun _=>rfl)⟩
    · obtain ⟨rfl,e1,e6⟩:b7=false∧b1=true∧b6=true:=by revert hp; cases b7 <;> cases b1 <;> cases b6 <;> simp
      clear hp
      obtain rfl:=(HI.out.2.1) e1
      refine Zv 25 fun K' hK'=>?_
      have gI:=(Zd HI.out).2.2.1
      have e4:=gI.o4 e6
      obtain ⟨gb,rfl,hgb⟩:=gI.g6 e6 rfl
      subst e1
      subst e4
      subst e6
      obtain ⟨X,hXl,hxs,hel⟩:=gI.own rfl
      refine step_append_lies _ (by rfl) _ _ 39 (by rfl) B 94 j0 (.agg #[.int .i64 0,.slice none 0 0]) 2 32 Tryz.underlying39 ji jz0 jz1 jz2 rfl (by decide) (.slice da dn dc) C.length (wcells X) (by rfl) hxs ⟨gb,0,none⟩ 1 1 [.int .i64 z,s22] (by rfl) rfl (fun j u hu=>World.news_of_block hgb j u hu) (by intro u hu; obtain ⟨ra,rn,rc,rfl⟩:=(gI.g4 rfl).1; simp at hu; rcases hu with rfl|rfl <;> rfl) (by decide) HCL.out.1 HCL.out.2 gI.size W.heap.size rfl ?_
      intro g cap w1 hown1 hgrow hat hlt
      obtain ⟨h0,h1,h2,h3,h5,h8,gI,o54⟩:=HI.out
      exact hK'.out _ _ ⟨.mk ..,rfl,rfl,h0,h1,h2,h3,h5,h8,(gI.seven rfl hXl hxs hel hown1 hgrow),(fun _=>rfl)⟩
    · obtain rfl:b8=false:=by revert hp; cases b8 <;> simp
      clear hp; refine Zv 26 fun K' hK'=>?_
      go_simp
      exact hK'.out _ _ ⟨.mk ..,rfl,rfl,Nxt (Nx4 (Upd (fun _=>rfl))) HI.out⟩
    · obtain ⟨rfl,e8,e7⟩:b9=false∧b8=true∧b7=true:=by revert hp; cases b9 <;> cases b8 <;> cases b7 <;> simp
      clear hp
      obtain rfl:=((Zd HI.out).2.1) e8
      refine inv_op (o:=⟨none,_,_,_,_,_⟩) rfl (fun K' hK'=>?_)
      have gI:=(Zd HI.out).2.2.1
      obtain ⟨ra,rn,rc,rfl⟩:=(gI.g7 e7).1
      subst e7
      obtain ⟨⟨hc1,hc2⟩,hz1,hz2⟩:=box_cells gI.now
      rw [if_neg (by decide)] at hc2
      go_simp
      obtain ⟨h0,h1,h2,h3,h5,h8,gI,o54⟩:=HI.out
      exact hK'.out _ _ ⟨.mk ..,rfl,rfl,h0,h1,h2,h3,h5,h8,(gI.nine hnb0 hnb1),o54⟩
   case hdone =>
    rintro ⟨b0,b1,b2,b3,b4,b5,b6,b7,b8,b9,s18,s19,s20,s21,s22,s23,s24,s25,s26⟩ W hI hall
    dsimp only at hI hall ⊢
    have HI:=Zh hI
    clear hI
    obtain rfl:b9=true:=hall 9 (by decide)
    obtain rfl:b7=true:=hall 7 (by decide)
    have gI:=(Zd HI.out).2.2.1
    clear HI hall
    obtain ⟨⟨ea,en,ec,rfl⟩,how⟩:=gI.g7 rfl
    have hnow:=gI.now
    rw [if_pos rfl] at hnow
    obtain ⟨⟨hn1,hn2⟩,_,_⟩:=box_cells hnow
    obtain ⟨⟨hr1,hr2⟩,hz1,hz2⟩:=box_cells gI.res
    obtain ⟨M',hsect⟩:=gI.sect
    have hlt9:w.heap.size+1 < W.heap.size:=by have:=gI.size; omega
    have GI:=Zh gI
    have HOW:=Zh how
    have HSE:=Zh hsect
    clear gI how hsect hnow
    go_wp2
    have hrow9:=box_put (u:=.slice sa sn sc) (v:=.slice ea en ec) GI.out.res
    have hs9:=(HSE.out.set ⟨w.heap.size+1,0,none⟩ (.slice sa sn sc) hbase).set ⟨w.heap.size+1,1,none⟩ (.slice ea en ec) hbase
    have hw9:=(HOW.out.set ⟨w.heap.size+1,0,none⟩ (.slice sa sn sc) hbase).set ⟨w.heap.size+1,1,none⟩ (.slice ea en ec) hbase
    have hb9:=(GI.out.out.setCell (p:=⟨w.heap.size+1,0,none⟩) (by show w.heap.size≤w.heap.size+1; omega) (.slice sa sn sc)).setCell (p:=⟨w.heap.size+1,1,none⟩) (by show w.heap.size≤w.heap.size+1; omega) (.slice ea en ec)
    generalize World.setCell (World.setCell W _ _) _ _=W9 at hrow9 hs9 hw9 hb9 ⊢
    obtain ⟨⟨hq1,hq2⟩,_,_⟩:=box_cells hrow9
    rw [HG.out]
    exact bodyPost_ret (v:=.tuple #[.agg #[.slice sa sn sc,.slice ea en ec],.int .i64 0]) (by simp [results,Tryz.results95,go_sem,hq1,hq2]) rfl ⟨_,_,_,rfl,⟨⟨_,hs9⟩,hw9⟩,hb9⟩
 · have hG:=writeOf_other (S:=S) (C:=C) (z:=z) (l:=l) (by rw [←hvn,hF]; exact h0)
   rw [hG]
   clear hd hf hF hSn hCm hG hV hvn hl
   go_enter Tryz.func95,Tryz.ntmps95
   go_wp2_with fail
   refine (writeFault_any _ _ _ _ _ (HD.out.below HB0.out) _ _ _ _ _ HF.out).mono ?_
   rintro e w1 ⟨rfl,hb⟩
   have HB1:=Zh (HB0.out.trans (hb.mono (by simp; omega)))
   obtain ⟨hrow0,hrow1,hlt1⟩:=dskBoxes_rows hb
   obtain ⟨⟨hx1,hx2⟩,_,_⟩:=box_cells hrow0
   have HRW:=Zh hrow1
   clear hrow0 hrow1 hb
   go_wp2_with fail
   refine (dskSame_any _ _ S C _ (HD.out.below HB1.out) HFW.out).mono ?_
   rintro e w2 ⟨sv,cv,M,rfl,hM,ho,hw,hb⟩
   obtain ⟨sa,sn,sc,rfl⟩:=ho.sects.form
   obtain ⟨da,dn,dc,rfl⟩:=hw.writes.form
   have HB2:=Zh (HB1.out.trans (hb.mono HB1.out.size))
   have hrow:=dskRow_keep HRW.out hb
   have HRW2:=Zh hrow
   obtain ⟨⟨hr1,hr2⟩,hz1,hz2⟩:=box_cells hrow
   have hlt2:w.heap.size+1 < w2.heap.size:=Nat.lt_of_lt_of_le hlt1 hb.size
   have HO:=Zh ho
   have HW:=Zh hw
   have HM:=Zh (show w.heap.size+1 < M from Nat.lt_of_lt_of_le hlt1 hM)
   have HMB:=Zh hM
   clear ho hw hb hx1 hx2 hM hrow
   go_wp2
   have hrow9:=dskRow_keep (box_put (u:=.slice sa sn sc) (v:=.slice da dn dc) HRW2.out) ((Below.refl _ _).alloc (Nat.le_refl _) (.cells #[.slice sa sn sc,.slice da dn dc] 41))
   have hs9:=((HO.out.set ⟨w.heap.size+1,0,none⟩ (.slice sa sn sc) hlt1).set ⟨w.heap.size+1,1,none⟩ (.slice da dn dc) hlt1).below ((Below.refl _ _).alloc (Nat.le_refl _) (.cells #[.slice sa sn sc,.slice da dn dc] 41))
   have hw9:=((HW.out.set ⟨w.heap.size+1,0,none⟩ (.slice sa sn sc) HM.out).set ⟨w.heap.size+1,1,none⟩ (.slice da dn dc) HM.out).below ((Below.refl _ _).alloc (Nat.le_refl _) (.cells #[.slice sa sn sc,.slice da dn dc] 41))
   have hb9:=((HB2.out.setCell (p:=⟨w.heap.size+1,0,none⟩) (by show w.heap.size≤w.heap.size+1; omega) (.slice sa sn sc)).setCell (p:=⟨w.heap.size+1,1,none⟩) (by show w.heap.size≤w.heap.size+1; omega) (.slice da dn dc))
   have hb9:=hb9.alloc hb9.size (.cells #[.slice sa sn sc,.slice da dn dc] 41)
   generalize World.alloc (World.setCell (World.setCell w2 _ _) _ _) _=W9 at hrow9 hs9 hw9 hb9 ⊢
   obtain ⟨⟨hq1,hq2⟩,_,_⟩:=box_cells hrow9
   exact bodyPost_ret (v:=.tuple #[.agg #[.slice sa sn sc,.slice da dn dc],.int .i64 F]) (by simp [results,Tryz.results95,go_sem,hq1,hq2]) rfl ⟨_,_,w1.heap.size,rfl,⟨⟨_,hs9⟩,(hw9.base HMB.out)⟩,hb9⟩
theorem OwnDisk.disk {B:Nat} {W:World} {s c:Value} {S:List (List UInt8)} {C:List (Int × List UInt8)} (h:OwnDisk B W s c S C):IsDisk W s c S C:=by
 obtain ⟨⟨M,h1⟩,h2⟩:=h
 exact ⟨h1.sects,h2.writes⟩
theorem OwnDisk.below {B:Nat} {W W':World} {s c:Value} {S:List (List UInt8)} {C:List (Int × List UInt8)} (h:OwnDisk B W s c S C) (hb:Below W.heap.size W W'):OwnDisk B W' s c S C:=by
 obtain ⟨⟨M,h1⟩,h2⟩:=h
 exact ⟨⟨M,h1.below hb⟩,h2.below hb⟩
theorem OwnDisk.box {B nb:Nat} {W:World} {s c:Value} {cs:Array Value} {f:Nat × Nat} {S:List (List UInt8)} {C:List (Int × List UInt8)} (h:OwnDisk B W s c S C) (hn:W.heap[nb]? = some (.cells cs 41 f)) (i:Nat) (x:Value):OwnDisk B (W.setCell ⟨nb,i,none⟩ x) s c S C:=by
 obtain ⟨⟨M,h1⟩,h2⟩:=h
 exact ⟨⟨M,h1.box hn i x⟩,h2.box hn i x⟩
structure RefCheckX where
 (b0 b1 b2 b3 b4 b5 b6 b7 b8 b9 b10 b11 b12 b13 b14 b15 b16 b17 b18:Bool)
 (s36 s37 s38 s39 s40 s41 s42 s43 s44 s45 s46 s47 s48 s49 s50 s51 s52 s53 s54:Value)
set_option maxHeartbeats 4000000 in
set_option maxRecDepth 100000 in
theorem refDskCheck_any (s c:Value) (S:List (List UInt8)) (C:List (Int × List UInt8)) (w:World) (hd:IsDisk w s c S C) (r:Bool) (hr:chkB S C=r) :
 Calls Tryz.prog 34 #[.agg #[s,c]] w fun e w'=>e=.returned (.bool r)∧Below w.heap.size w w':=by
 obtain ⟨a,ca,rfl,hn⟩:=hd.1.shape
 obtain ⟨a1,c1,rfl,hm⟩:=hd.2.shape
 have HD:=Zh hd
 have HR:=Zh hr
 unfold maxLen at hn hm
 clear hd hr
 by_cases h1:S.length≤256
 · by_cases h2:C.length≤512
   · have d1:decide ((256:Int) < (S.length:Nat))=false:=decide_eq_false (by omega)
     have d2:decide ((512:Int) < (C.length:Nat))=false:=decide_eq_false (by omega)
     obtain ⟨W0,hW0⟩:∃ W,W=w.alloc (.cells #[.slice a S.length ca,.slice a1 C.length c1] 41):=⟨_,rfl⟩
     have HB0:=Zh (show Below w.heap.size w W0 by rw [hW0]; exact (Below.refl _ _).alloc (Nat.le_refl _) _)
     have HX:=Zh (show W0.cell? ⟨w.heap.size,0,none⟩=some (.slice a S.length ca)∧W0.cell? ⟨w.heap.size,1,none⟩=some (.slice a1 C.length c1) by rw [hW0]; exact box2_new _ _ _ _ _)
     have HW:=Zh hW0
     obtain ⟨n,hSn⟩:∃ n,n=S.length:=⟨_,rfl⟩
     obtain ⟨m,hCm⟩:∃ m,m=C.length:=⟨_,rfl⟩
     rw [←hSn] at h1 d1
     rw [←hCm] at h2 d2
     rw [←hSn,←hCm] at HX HW HD
     rw [←hSn,←hCm]
     have HSn:=Zh hSn
     have HCm:=Zh hCm
     clear hW0 hSn hCm hn hm
     obtain ⟨hx1,hx2⟩:=HX.out
     go_enter Tryz.func34,Tryz.ntmps34
     go_wp2
     rw [←HW.out]
     go_loop [3] (fun i=>∃ k:Nat,k≤n∧i=.int .i64 k∧∀ l∈S.take k,l.length=256) (fun i=>n - (intOf i).toNat)
     case atStart=>exact ⟨0,Nat.zero_le _,rfl,fun l hl=>by simp at hl⟩
     case round =>
      obtain ⟨k,hk,rfl,hall⟩:=hrel
      have HA:=Zh hall
      clear hall
      by_cases hlt:k < n
      · obtain ⟨b,off,va,vn,vc,rfl,hcl,hvn,_⟩:=sect_shape (HD.out.below HB0.out).1 k (by rw [←HSn.out]; exact hlt)
        have HV:=Zh hvn
        clear hvn
        by_cases h5:vn=256
        · subst h5
          go_wp2
          go_round
          case rel=>exact ⟨k+1,by omega,by go_num,all_take S k [] (by rw [←HSn.out]; exact hlt) HA.out HV.out.symm⟩
          case measure=>simp [intOf]; omega
        · obtain rfl:r=false:=by
           rw [←HR.out]
           refine chk_false fun h=>h5 ?_
           rw [HV.out]
           exact h.2.2.1 _ (getD_mem S k [] (by rw [←HSn.out]; exact hlt))
          have h6:¬ ((vn:Int)=256):=by omega
          go_wp2
          go_ret
          exact ⟨rfl,HB0.out⟩
      · obtain rfl:k=n:=by omega
        have HS:=Zh (show ∀ l∈S,l.length=256 by have h:=HA.out; rw [HSn.out,List.take_length] at h; exact h)
        clear HA
        go_wp2
        clear hx1 hx2
        go_loopw [4] (fun i wr=>∃ j:Nat,j≤m∧i=.int .i64 j∧(∀ x∈C.take j,0≤x.1∧x.1 < (S.length:Int)∧x.2.length=256)∧Below W0.heap.size W0 wr) (fun i _=>m - (intOf i).toNat)
        case atStart=>exact ⟨0,Nat.zero_le _,rfl,(fun x hx=>by simp at hx),Below.refl _ _⟩
        case round =>
         obtain ⟨j,hj,rfl,hall,hbw⟩:=hrel
         have HA:=Zh hall
         have HBW:=Zh hbw
         have HBw:=Zh (HB0.out.trans (hbw.mono HB0.out.size))
         clear hall hbw
         obtain ⟨hx1,hx2⟩:=kept2 HX.out HBW.out
         by_cases hlt:j < m
         · obtain ⟨b,off,z,va,vn,vc,rfl,hcl1,hcl2,hz,hvn,_⟩:=write_shape (HD.out.below HBw.out).2 j (by rw [←HCm.out]; exact hlt)
           have HV:=Zh hvn
           have HZ:=Zh hz
           clear hvn hz
           have k1:(0:Int)≤(j:Int):=by omega
           have k2:(j:Int) < (m:Int):=by omega
           obtain ⟨q,hq⟩:∃ q,q=decide (0≤z∧z < (k:Int)):=⟨_,rfl⟩
           have HQ:=Zh hq
           cases q with
           | false =>
             obtain rfl:r=false:=by
              rw [←HR.out]
              refine chk_false fun h=>of_decide_eq_false hq.symm ?_
              have h7:=h.2.2.2 _ (getD_mem C j (0,[]) (by rw [←HCm.out]; exact hlt))
              rw [HZ.out]
              exact ⟨h7.1,by rw [HSn.out]; exact h7.2.1⟩
             clear hq
             have HXW:=Zh (show ∀ W,Below wr.heap.size wr W→W.cell? ⟨w.heap.size,0,none⟩=some (.slice a k ca)∧W.cell? ⟨w.heap.size,1,none⟩=some (.slice (some ⟨b,off,none⟩) m c1) from fun W h=>kept2 ⟨hx1,hx2⟩ h)
             have HCW:=Zh (show ∀ W,Below wr.heap.size wr W→W.cell? ⟨b,off+j * 2,none⟩=some (.int .i64 z)∧W.cell? ⟨b,off+j * 2+1,none⟩=some (.slice va vn vc) from fun W h=>⟨dskKept hcl1 h,dskKept hcl2 h⟩)
             have HAS:=Zh (show ∀ W,Below wr.heap.size wr W→Calls Tryz.prog 35 #[.agg #[.slice a k ca,.slice (some ⟨b,off,none⟩) m c1],.int .i64 z] W fun e w'=>e=.returned (.bool false)∧Below W.heap.size W w' from fun W _=>refHas_any _ _ _ _ _ _ _ false HQ.out W)
             go_wp2_with fail
             clear hx1 hx2 hcl1 hcl2
             refine wp_region_rec (X:=RefCheckX) (by kernel_rfl) (by kernel_rfl) (fun x=>#[x.b0,x.b1,x.b2,x.b3,x.b4,x.b5,x.b6,x.b7,x.b8,x.b9,x.b10,x.b11,x.b12,x.b13,x.b14,x.b15,x.b16,x.b17,x.b18]) (fun x=>{ tmps:=List.toArray ((Value.agg #[Value.slice a k ca,Value.slice (some ⟨b,off,none⟩) m c1])::(Value.pointer (some ⟨w.heap.size,0,none⟩))::u2::(Value.int IntKind.i64 ↑k)::(Value.int IntKind.i64 ↑j)::(Value.pointer (some ⟨w.heap.size,0,none⟩))::(Value.slice a k ca)::(Value.int IntKind.i64 ↑k)::(Value.bool false)::(Value.bool false)::(Value.pointer (some ⟨w.heap.size,1,none⟩))::(Value.slice (some ⟨b,off,none⟩) m c1)::(Value.int IntKind.i64 ↑m)::(Value.bool false)::(Value.bool false)::(Value.int IntKind.i64 ↑k)::(Value.pointer (some ⟨w.heap.size,0,none⟩))::(Value.slice a k ca)::(Value.int IntKind.i64 ↑k)::(Value.bool false)::u20::u21::u22::u23::u24::u25::u26::u27::u28::(Value.int IntKind.i64 ↑j)::(Value.pointer (some ⟨w.heap.size,1,none⟩))::(Value.slice (some ⟨b,off,none⟩) m c1)::(Value.int IntKind.i64 ↑m)::(Value.bool true)::u34::u35::x.s36::x.s37::x.s38::x.s39::x.s40::x.s41::x.s42::x.s43::x.s44::x.s45::x.s46::x.s47::x.s48::x.s49::x.s50::x.s51::x.s52::x.s53::x.s54::[]),defers:=[] }) (fun x W=>(x.b0→x.s36=.agg #[.slice a k ca,.slice (some ⟨b,off,none⟩) m c1])∧(x.b1→x.s37=.pointer (some ⟨w.heap.size,1,none⟩))∧(x.b2→x.s38=.slice (some ⟨b,off,none⟩) m c1)∧(x.b3→x.s39=.int .i64 j)∧(x.b4→x.s40=.pointer (some ⟨b,off+j * 2,none⟩))∧(x.b5→x.s41=.pointer (some ⟨b,off+j * 2,none⟩))∧(x.b6→x.s42=.int .i64 z)∧(x.b7→x.s43=.bool false)∧(x.b8→x.s44=.bool true)∧(x.b9→x.s45=.bool true)∧(x.b10→x.s46=undef)∧(x.b11→x.s47=undef)∧(x.b12→x.s48=undef)∧(x.b13→x.s49=undef)∧(x.b14→x.s50=undef)∧(x.b15→x.s51=undef)∧(x.b16→x.s52=undef)∧(x.b17→x.s53=undef)∧(x.b18→x.s54=.bool true)∧(Below wr.heap.size wr W)) ⟨false,false,false,false,false,false,false,false,false,false,false,false,false,false,false,false,false,false,false,u36,u37,u38,u39,u40,u41,u42,u43,u44,u45,u46,u47,u48,u49,u50,u51,u52,u53,u54⟩ rfl rfl ⟨Zf,Zf,Zf,Zf,Zf,Zf,Zf,Zf,Zf,Zf,Zf,Zf,Zf,Zf,Zf,Zf,Zf,Zf,Zf,(Below.refl _ _).drew⟩ (fun _=>rfl) ?hstep ?hdone
             case hstep =>
              rintro ⟨b0,b1,b2,b3,b4,b5,b6,b7,b8,b9,b10,b11,b12,b13,b14,b15,b16,b17,b18,s36,s37,s38,s39,s40,s41,s42,s43,s44,s45,s46,s47,s48,s49,s50,s51,s52,s53,s54⟩ W hI i hi
              dsimp only at hI hi ⊢
              have HI:=Zh hI
              clear hI
              rw [Region.ready,List.mem_filter,List.mem_range] at hi
              obtain ⟨hlt,hp⟩:=hi
              have hi7:i=0∨i=1∨i=2∨i=3∨i=4∨i=5∨i=6∨i=7∨i=8∨i=9∨i=10∨i=11∨i=12∨i=13∨i=14∨i=15∨i=16∨i=17∨i=18:=by simp at hlt; omega
              clear hlt
              rcases hi7 with rfl|rfl|rfl|rfl|rfl|rfl|rfl|rfl|rfl|rfl|rfl|rfl|rfl|rfl|rfl|rfl|rfl|rfl|rfl
              all_goals simp [Region.binds] at hp
              · obtain rfl:b0=false:=by revert hp; cases b0 <;> simp
                clear hp; refine Zv 36 fun K' hK'=>?_
                have gW:=(Zg HI.out).2.2.2
                obtain ⟨hc1,hc2⟩:=HXW.out W gW
                go_simp
                exact hK'.out _ _ ⟨.mk ..,rfl,rfl,(Upd (fun _=>rfl)) HI.out⟩
              · obtain rfl:b1=false:=by revert hp; cases b1 <;> simp
                clear hp; refine Zv 37 fun K' hK'=>?_
                go_simp
                exact hK'.out _ _ ⟨.mk ..,rfl,rfl,Nxt (Upd (fun _=>rfl)) HI.out⟩
              · obtain ⟨rfl,e1⟩:b2=false∧b1=true:=by revert hp; cases b2 <;> cases b1 <;> simp
                clear hp
                obtain rfl:=(HI.out.2.1) e1
                refine Zv 38 fun K' hK'=>?_
                have gW:=(Zg HI.out).2.2.2
                obtain ⟨hc1,hc2⟩:=HXW.out W gW
                go_simp
                exact hK'.out _ _ ⟨.mk ..,rfl,rfl,Nxt (Nxt (Upd (fun _=>rfl))) HI.out⟩
              · obtain rfl:b3=false:=by revert hp; cases b3 <;> simp
                clear hp; refine Zv 39 fun K' hK'=>?_
                go_simp
                exact hK'.out _ _ ⟨.mk ..,rfl,rfl,Nxt (Nxt (Nxt (Upd (fun _=>rfl)))) HI.out⟩
              · obtain ⟨rfl,e2,e3⟩:b4=false∧b2=true∧b3=true:=by revert hp; cases b4 <;> cases b2 <;> cases b3 <;> simp
                clear hp
                obtain rfl:=(HI.out.2.2.1) e2
                obtain rfl:=(HI.out.2.2.2.1) e3
                refine Zv 40 fun K' hK'=>?_
                go_simp
                exact hK'.out _ _ ⟨.mk ..,rfl,rfl,Nx4 (Upd (fun _=>rfl)) HI.out⟩
              · obtain ⟨rfl,e4⟩:b5=false∧b4=true:=by revert hp; cases b5 <;> cases b4 <;> simp
                clear hp
                obtain rfl:=((Zd HI.out).1) e4
                refine Zv 41 fun K' hK'=>?_
                go_simp
                exact hK'.out _ _ ⟨.mk ..,rfl,rfl,Nxt (Nx4 (Upd (fun _=>rfl))) HI.out⟩
              · obtain ⟨rfl,e5⟩:b6=false∧b5=true:=by revert hp; cases b6 <;> cases b5 <;> simp
                clear hp
                obtain rfl:=((Zd HI.out).2.1) e5
                refine Zv 42 fun K' hK'=>?_
                have gW:=(Zg HI.out).2.2.2
                obtain ⟨hc1,hc2⟩:=HCW.out W gW
                go_simp
                exact hK'.out _ _ ⟨.mk ..,rfl,rfl,Nxt (Nxt (Nx4 (Upd (fun _=>rfl)))) HI.out⟩
              · obtain ⟨rfl,e0,e6⟩:b7=false∧b0=true∧b6=true:=by revert hp; cases b7 <;> cases b0 <;> cases b6 <;> simp
                clear hp
                obtain rfl:=(HI.out.1) e0
                obtain rfl:=((Zd HI.out).2.2.1) e6
                refine Zv 43 fun K' hK'=>?_
                have gW:=(Zg HI.out).2.2.2
                go_simp
                refine (HAS.out W gW).mono ?_
                rintro e w1 ⟨rfl,bn⟩
                obtain ⟨h0,h1,h2,h3,h4,h5,h6,h7,h8,h9,h10,h11,h12,h13,h14,h15,h16,h17,h18,gW⟩:=HI.out
                exact hK'.out _ _ ⟨.mk ..,rfl,rfl,h0,h1,h2,h3,h4,h5,h6,(fun _=>rfl),h8,h9,h10,h11,h12,h13,h14,h15,h16,h17,h18,(gW.trans (bn.mono gW.size))⟩
              · obtain ⟨rfl,e7⟩:b8=false∧b7=true:=by revert hp; cases b8 <;> cases b7 <;> simp
                clear hp
                obtain rfl:=((Zd HI.out).2.2.2.1) e7
                refine Zv 44 fun K' hK'=>?_
                go_simp
                exact hK'.out _ _ ⟨.mk ..,rfl,rfl,Nx4 (Nx4 (Upd (fun _=>rfl))) HI.out⟩
              · obtain ⟨rfl,e8⟩:b9=false∧b8=true:=by revert hp; cases b9 <;> cases b8 <;> simp
                clear hp
                obtain rfl:=((Ze HI.out).1) e8
                refine Zv 45 fun K' hK'=>?_
                go_simp
                exact hK'.out _ _ ⟨.mk ..,rfl,rfl,Nxt (Nx4 (Nx4 (Upd (fun _=>rfl)))) HI.out⟩
              · obtain ⟨rfl,e9⟩:b10=false∧b9=true:=by revert hp; cases b10 <;> cases b9 <;> simp
                clear hp
                obtain rfl:=((Ze HI.out).2.1) e9
                refine Zv 46 fun K' hK'=>?_
                go_simp
                exact hK'.out _ _ ⟨.mk ..,rfl,rfl,Nxt (Nxt (Nx4 (Nx4 (Upd (fun _=>rfl))))) HI.out⟩
              · obtain ⟨rfl,e10,e9⟩:b11=false∧b10=true∧b9=true:=by revert hp; cases b11 <;> cases b10 <;> cases b9 <;> simp
                clear hp
                obtain rfl:=((Ze HI.out).2.2.1) e10
                obtain rfl:=((Ze HI.out).2.1) e9
                refine Zv 47 fun K' hK'=>?_
                go_simp
                exact hK'.out _ _ ⟨.mk ..,rfl,rfl,Nxt (Nxt (Nxt (Nx4 (Nx4 (Upd (fun _=>rfl)))))) HI.out⟩
              · obtain ⟨rfl,e9⟩:b12=false∧b9=true:=by revert hp; cases b12 <;> cases b9 <;> simp
                clear hp
                obtain rfl:=((Ze HI.out).2.1) e9
                refine Zv 48 fun K' hK'=>?_
                go_simp
                exact hK'.out _ _ ⟨.mk ..,rfl,rfl,Nx4 (Nx4 (Nx4 (Upd (fun _=>rfl)))) HI.out⟩
              · have hn13:b13=false:=by revert hp; cases b13 <;> simp
                have e11:b11=true:=by revert hp; cases b11 <;> simp
                have e12:b12=true:=by revert hp; cases b12 <;> simp
                have e9:b9=true:=by revert hp; cases b9 <;> simp
                clear hp
                obtain rfl:=((Ze HI.out).2.2.2.1) e11
                obtain rfl:=((Zd (Ze HI.out)).1) e12
                obtain rfl:=((Ze HI.out).2.1) e9
                subst hn13
                refine Zv 49 fun K' hK'=>?_
                go_simp
                exact hK'.out _ _ ⟨.mk ..,rfl,rfl,Nxt (Nx4 (Nx4 (Nx4 (Upd (fun _=>rfl))))) HI.out⟩
              · obtain ⟨rfl,e13,e9⟩:b14=false∧b13=true∧b9=true:=by revert hp; cases b14 <;> cases b13 <;> cases b9 <;> simp
                clear hp
                obtain rfl:=((Zd (Ze HI.out)).2.1) e13
                obtain rfl:=((Ze HI.out).2.1) e9
                refine Zv 50 fun K' hK'=>?_
                go_simp
                exact hK'.out _ _ ⟨.mk ..,rfl,rfl,Nxt (Nxt (Nx4 (Nx4 (Nx4 (Upd (fun _=>rfl)))))) HI.out⟩
              · obtain ⟨rfl,e14,e9⟩:b15=false∧b14=true∧b9=true:=by revert hp; cases b15 <;> cases b14 <;> cases b9 <;> simp
                clear hp
                obtain rfl:=((Zd (Ze HI.out)).2.2.1) e14
                obtain rfl:=((Ze HI.out).2.1) e9
                refine Zv 51 fun K' hK'=>?_
                go_simp
                exact hK'.out _ _ ⟨.mk ..,rfl,rfl,Nxt (Nxt (Nxt (Nx4 (Nx4 (Nx4 (Upd (fun _=>rfl))))))) HI.out⟩
              · obtain ⟨rfl,e15,e9⟩:b16=false∧b15=true∧b9=true:=by revert hp; cases b16 <;> cases b15 <;> cases b9 <;> simp
                clear hp
                obtain rfl:=((Zd (Ze HI.out)).2.2.2.1) e15
                obtain rfl:=((Ze HI.out).2.1) e9
                refine Zv 52 fun K' hK'=>?_
                go_simp
                exact hK'.out _ _ ⟨.mk ..,rfl,rfl,Nx16 (Upd (fun _=>rfl)) HI.out⟩
              · obtain ⟨rfl,e16,e9⟩:b17=false∧b16=true∧b9=true:=by revert hp; cases b17 <;> cases b16 <;> cases b9 <;> simp
                clear hp
                obtain rfl:=((Zg HI.out).1) e16
                obtain rfl:=((Ze HI.out).2.1) e9
                refine Zv 53 fun K' hK'=>?_
                go_simp
                exact hK'.out _ _ ⟨.mk ..,rfl,rfl,Nxt (Nx16 (Upd (fun _=>rfl))) HI.out⟩
              · obtain ⟨rfl,e9,e17⟩:b18=false∧b9=true∧b17=true:=by revert hp; cases b18 <;> cases b9 <;> cases b17 <;> simp
                clear hp
                obtain rfl:=((Ze HI.out).2.1) e9
                obtain rfl:=((Zg HI.out).2.1) e17
                refine Zv 54 fun K' hK'=>?_
                go_simp
                exact hK'.out _ _ ⟨.mk ..,rfl,rfl,Nxt (Nxt (Nx16 (Upd (fun _=>rfl)))) HI.out⟩
             case hdone =>
              rintro ⟨b0,b1,b2,b3,b4,b5,b6,b7,b8,b9,b10,b11,b12,b13,b14,b15,b16,b17,b18,s36,s37,s38,s39,s40,s41,s42,s43,s44,s45,s46,s47,s48,s49,s50,s51,s52,s53,s54⟩ W hI hall
              dsimp only at hI hall ⊢
              have HI:=Zh hI
              clear hI
              obtain rfl:b18=true:=hall 18 (by decide)
              obtain rfl:=((Zg HI.out).2.2.1) rfl
              have gW:=(Zg HI.out).2.2.2
              clear HI hall
              have GW:=Zh (HBw.out.trans (gW.mono HBw.out.size))
              clear gW
              go_wp2
              go_ret
              exact ⟨rfl,GW.out⟩
           | true =>
             have hz2:=of_decide_eq_true hq.symm
             clear hq
             have HZ2:=Zh hz2
             clear hz2
             go_wp2_with fail
             go_region_held3 (fun w'=>w'.cell? ⟨w.heap.size,0,none⟩=some (.slice a k ca)∧w'.cell? ⟨w.heap.size,1,none⟩=some (.slice (some ⟨b,off,none⟩) m c1)∧w'.cell? ⟨b,off+j * 2,none⟩=some (.int .i64 z)∧w'.cell? ⟨b,off+j * 2+1,none⟩=some (.slice va vn vc)) (first|go_keep|(refine ⟨dskKept (by assumption) hb,dskKept (by assumption) hb,dskKept (by assumption) hb,dskKept (by assumption) hb⟩)) (first
              | (go_at_call 35; refine (refHas_any _ _ _ _ _ _ _ true HQ.out _).mono ?_; rintro e w2 ⟨rfl,hb⟩))
             have HB3:=Zh (HBW.out.trans ((((Below.refl wr.heap.size wr).drew).trans hb).mono HBW.out.size))
             by_cases h5:vn=256
             · subst h5
               go_wp2
               go_roundw
               case rel =>
                refine ⟨j+1,by omega,by go_num,all_take C j (0,[]) (by rw [←HCm.out]; exact hlt) HA.out ?_,HB3.out⟩
                have h8:=HZ2.out
                rw [HZ.out,HSn.out] at h8
                exact ⟨h8.1,h8.2,HV.out.symm⟩
               case measure=>simp [intOf]; omega
             · obtain rfl:r=false:=by
                rw [←HR.out]
                refine chk_false fun h=>h5 ?_
                rw [HV.out]
                exact (h.2.2.2 _ (getD_mem C j (0,[]) (by rw [←HCm.out]; exact hlt))).2.2
               have h6:¬ ((vn:Int)=256):=by omega
               go_wp2
               go_ret
               exact ⟨rfl,HB0.out.trans (HB3.out.mono HB0.out.size)⟩
         · obtain rfl:j=m:=by omega
           obtain rfl:r=true:=by
            rw [←HR.out]
            have h:=HA.out
            rw [HCm.out,List.take_length] at h
            exact chk_true.2 ⟨by rw [←HSn.out]; exact h1,by rw [←HCm.out]; exact h2,HS.out,h⟩
           go_wp2
           go_ret
           exact ⟨rfl,HBw.out⟩
   · obtain rfl:r=false:=by rw [←HR.out]; exact chk_false (fun h=>h2 h.2.1)
     go_enter Tryz.func34,Tryz.ntmps34
     go_wp2
     go_ret
     exact ⟨rfl,(Below.refl _ _).alloc (Nat.le_refl _) _⟩
 · obtain rfl:r=false:=by rw [←HR.out]; exact chk_false (fun h=>h1 h.1)
   go_enter Tryz.func34,Tryz.ntmps34
   go_wp2
   go_ret
   exact ⟨rfl,(Below.refl _ _).alloc (Nat.le_refl _) _⟩
theorem after_hit (S:List (List UInt8)) (C:List (Int × List UInt8)) (T:Nat→Bool) (k i:Nat) (hT:T k=true) (hz:(C.getD k (0,[])).1=(i:Int)) (hi:i < S.length):(after S C T (k+1)).getD i []=(C.getD k (0,[])).2:=by
 have ha:after S C T (k+1)=(after S C T k).set (C.getD k (0,[])).1.toNat (C.getD k (0,[])).2:=by
  show (if T k=true then _ else _)=_
  rw [if_pos hT]
 rw [ha,hz,Int.toNat_natCast,List.getD_eq_getElem?_getD,List.getElem?_set_self (by rw [after_length]; exact hi)]
 rfl
theorem after_miss (S:List (List UInt8)) (C:List (Int × List UInt8)) (T:Nat→Bool) (k i:Nat) (h0:0≤(C.getD k (0,[])).1) (hz:(C.getD k (0,[])).1≠(i:Int)):(after S C T (k+1)).getD i []=(after S C T k).getD i []:=by
 show (if T k=true then (after S C T k).set (C.getD k (0,[])).1.toNat (C.getD k (0,[])).2 else after S C T k).getD i []=_
 split
 · rw [List.getD_eq_getElem?_getD,List.getElem?_set_ne (by omega),List.getD_eq_getElem?_getD]
 · rfl
def OwnLine (B:Nat) (w0 W:World) (v:Value) (S:List (List UInt8)):Prop :=
 ∃ Us:List Value,W.ownsRow B 22 1 v S.length Us∧∀ (i:Nat) (V:Value),Us[i]? = some V→IsArg w0 V (S.getD i [])
theorem OwnLine.sects {B:Nat} {w0 W:World} {v:Value} {S:List (List UInt8)} (h:OwnLine B w0 W v S) (hb:Below w0.heap.size w0 W):Sects W v S:=by
 obtain ⟨Us,h1,h2⟩:=h
 refine ⟨Us,by have:=h1.1; omega,held_of_owns h1,fun i V l hV hl=>?_⟩
 have h3:=(h2 i V hV).below hb
 have h4:S.getD i []=l:=by rw [List.getD_eq_getElem?_getD,hl]; rfl
 rw [h4] at h3
 exact h3
theorem OwnLine.set {B:Nat} {w0 W:World} {v:Value} {S:List (List UInt8)} (h:OwnLine B w0 W v S) (a:Addr) (x:Value) (ha:a.block < B):OwnLine B w0 (W.setCell a x) v S:=by
 obtain ⟨Us,h1,h2⟩:=h
 exact ⟨Us,ownsRow_setCell_below h1 ha x,h2⟩
theorem OwnLine.base {B B':Nat} {w0 W:World} {v:Value} {S:List (List UInt8)} (h:OwnLine B w0 W v S) (hb:B'≤B):OwnLine B' w0 W v S:=by
 obtain ⟨Us,h1,h2⟩:=h
 exact ⟨Us,ownsRow_base h1 hb,h2⟩
theorem OwnLine.form {B:Nat} {w0 W:World} {v:Value} {S:List (List UInt8)} (h:OwnLine B w0 W v S):∃ a n c,v=.slice a n c:=by
 obtain ⟨Us,h1,_⟩:=h
 rcases h1.2 with ⟨rfl,_⟩|⟨g,cap,cur,rfl,_⟩
 · exact ⟨_,_,_,rfl⟩
 · exact ⟨_,_,_,rfl⟩
def tellT (al:Bool) (l:List Bool):Nat→Bool:=fun k=>al || keptT l k
theorem OwnLine.put {B:Nat} {w0 W:World} {S:List (List UInt8)} {C:List (Int × List UInt8)} {T:Nat→Bool} {g n cap k i:Nat} {V:Value} (h:OwnLine B w0 W (.slice (some ⟨g,0,none⟩) n cap) (after S C T k)) (hT:T k=true) (hn:n=S.length) (hi:i < S.length) (hz:(i:Int)=(C.getD k (0,[])).1) (hV:IsArg w0 V (C.getD k (0,[])).2) :
 OwnLine B w0 (W.setCell ⟨g,i,none⟩ V) (.slice (some ⟨g,0,none⟩) n cap) (after S C T (k+1)):=by
 obtain ⟨Us,h1,h2⟩:=h
 rw [after_length,←hn] at h1
 refine ⟨Us.set i V,?_,fun j U hU=>?_⟩
 · rw [after_length,←hn]
   exact (h1.stored i V).1
 · by_cases he:j=i
   · subst he
     rw [List.getElem?_set_self (by have:=h1.1; omega)] at hU
     cases hU
     rw [after_hit S C T k j hT hz.symm hi]
     exact hV
   · rw [List.getElem?_set_ne (fun e=>he e.symm)] at hU
     rw [after_miss S C T k j (by omega) (by omega)]
     exact h2 j U hU
open Go.RowKit Go.Lib Go.Maps
def DskFirm (w0 W:World) (s c:Value) (S:List (List UInt8)) (C:List (Int × List UInt8)):Prop :=
 ∀ W',Below w0.heap.size w0 W'→(∀ (k:Nat) (cs:Array Value) (t:TypeId) (f:Nat × Nat),t≠41→W.heap[k]? = some (.cells cs t f)→W'.heap[k]? = some (.cells cs t f))→IsDisk W' s c S C
theorem DskFirm.disk {w0 W:World} {s c:Value} {S:List (List UInt8)} {C:List (Int × List UInt8)} (h:DskFirm w0 W s c S C) (hb:Below w0.heap.size w0 W):IsDisk W s c S C:=h W hb fun _ _ _ _ _ e=>e
theorem DskFirm.below {w0 W W1:World} {s c:Value} {S:List (List UInt8)} {C:List (Int × List UInt8)} (h:DskFirm w0 W s c S C) (hb:Below W.heap.size W W1):DskFirm w0 W1 s c S C :=
 fun W' h1 h2=>h W' h1 fun k cs t f ht hc=>h2 k cs t f ht (dskRow_keep hc hb)
theorem DskFirm.box {w0 W:World} {s c:Value} {S:List (List UInt8)} {C:List (Int × List UInt8)} {rb:Nat} {cs:Array Value} {f:Nat × Nat} (h:DskFirm w0 W s c S C) (hn:W.heap[rb]? = some (.cells cs 41 f)) (i:Nat) (x:Value):DskFirm w0 (W.setCell ⟨rb,i,none⟩ x) s c S C :=
 fun W' h1 h2=>h W' h1 fun k ds t g ht hc=>h2 k ds t g ht (far_box hn hc ht i x)
theorem DskFirm.put {w0 W:World} {s c:Value} {S:List (List UInt8)} {C:List (Int × List UInt8)} {rb:Nat} {p q:Value} (h:DskFirm w0 W s c S C) (hn:W.heap[rb]? = some (.cells #[p,q] 41 (0,0))) (u v:Value):DskFirm w0 ((W.setCell ⟨rb,0,none⟩ u).setCell ⟨rb,1,none⟩ v) s c S C :=
 (h.box hn 0 u).box (heap_setCell_same _ _ 0 _ _ _ hn) 1 v
theorem zeros_row (k:Nat):(madeCells #[Value.int .u8 0] k).toList=byteCells (List.replicate k 0):=by rw [toList_madeCells_one]; simp [byteCells]
theorem run_zeros (W:World):(Instr.makeSlice 22 (.int .i64 256) (.int .i64 256)).run Tryz.prog W=.ok (.slice (some ⟨W.heap.size,0,none⟩) 256 256) (W.alloc (.cells (madeCells #[.int .u8 0] 256) 5)) :=
 run_make_row' (P:=Tryz.prog) 22 5 (.int .u8 0) 1 Tryz.underlying22 info8 rfl .i64 .i64 256 (by decide) (by decide) W
theorem far_grownT {W W1:World} {M n k s:Nat} {T:TypeId} {cv:Value} {xs:List Value} {cur:Array Value} {t:TypeId} {f:Nat × Nat} (hcv:W.ownsRow M T s cv n xs) (hg:W.grownBy W1 cv.ownBlock) (h:W.heap[k]? = some (.cells cur t f)) (ht:t≠T):W1.heap[k]? = some (.cells cur t f):=by
 refine (hg.block k (Array.getElem?_eq_some_iff.1 h).1 (fun e=>?_)).trans h
 rcases hcv.2 with ⟨rfl,_⟩|⟨g,cap,c2,rfl,_,hh,_⟩
 · cases e
 · have e:k=g:=by simpa [Value.ownBlock] using e
   subst e
   rw [h] at hh
   injection hh with hh
   injection hh with _ hh _
   exact ht hh
theorem owns_whole {w:World} {B g k:Nat} {cur:Array Value} {t:TypeId} (hg:w.heap[g]? = some (.cells cur t (0,0))) (hs:cur.size=k) (hb:B≤g) (hk:k≤maxLen):w.ownsRow B t 1 (.slice (some ⟨g,0,none⟩) k k) k cur.toList :=
 ⟨by simp [hs],.inr ⟨g,k,cur,rfl,hb,hg,Nat.le_refl _,hk,by rw [hs]; simp,by rw [Nat.mul_one]; exact List.take_of_length_le (by simp [hs])⟩⟩
theorem tne7:(5:Nat)≠22:=by decide
theorem tne8:(41:Nat)≠22:=by decide
def zsec:List UInt8:=List.replicate 256 0
theorem zsec_len:zsec.length=256:=List.length_replicate
def ZRow (B:Nat) (W:World) (v:Value) (i:Nat):Prop :=
 ∃ xs,W.ownsRow B 22 1 v i xs∧∀ V∈xs,W.ownsRow B 5 1 V 256 (byteCells zsec)
theorem ZRow.below {B:Nat} {W W1:World} {v:Value} {i:Nat} (h:ZRow B W v i) (hb:Below W.heap.size W W1):ZRow B W1 v i:=by
 obtain ⟨xs,h1,h2⟩:=h
 exact ⟨xs,ownsRow_below h1 hb,fun V hV=>ownsRow_below (h2 V hV) hb⟩
theorem ZRow.box {B nb:Nat} {W:World} {v:Value} {k:Nat} {cs:Array Value} {f:Nat × Nat} (h:ZRow B W v k) (hn:W.heap[nb]? = some (.cells cs 41 f)) (i:Nat) (x:Value):ZRow B (W.setCell ⟨nb,i,none⟩ x) v k:=by
 obtain ⟨xs,h1,h2⟩:=h
 exact ⟨xs,owns_keep h1 fun k cur _ hc=>far_box hn hc tne5 i x,fun V hV=>owns_keep (h2 V hV) fun k cur _ hc=>far_box hn hc tne4 i x⟩
theorem ZRow.sects {B:Nat} {W:World} {v:Value} {i:Nat} (h:ZRow B W v i):Sects W v (List.replicate i zsec):=by
 obtain ⟨xs,h1,h2⟩:=h
 refine ⟨xs,by rw [List.length_replicate]; have:=h1.1; omega,by rw [List.length_replicate]; exact held_of_owns h1,fun j V l hV hl=>?_⟩
 have h3:l=zsec:=by
  rw [List.getElem?_replicate] at hl
  split at hl
  · exact (Option.some.inj hl).symm
  · cases hl
 subst h3
 have h4:=h2 V (List.mem_of_getElem? hV)
 refine isArg_of_owns (base:=B) (t:=5) ?_
 rw [zsec_len]
 exact h4
structure NSt (B nb rb:Nat) (w:World) (cv:Value) (i:Nat) (b1 b2 b3 b4 b6:Bool) (s20 s21 s22:Value) (W:World):Prop where
 out:Below w.heap.size w W
 size:B≤W.heap.size
 low:w.heap.size≤B
 res:W.heap[rb]? = some (.cells #[.slice none 0 0,.slice none 0 0] 41 (0,0))
 now:W.heap[nb]? = some (.cells #[if b6=true then s22 else cv,.slice none 0 0] 41 (0,0))
 o4:b4=true→b1=true
 o3:b3=true→b2=true
 o43:b4=true→b3=true
 o6:b6=true→b4=true
 g2:b2=true→∃ g,s20=.slice (some ⟨g,0,none⟩) 256 256∧W.ownsRow B 5 1 (.slice (some ⟨g,0,none⟩) 256 256) 256 (byteCells zsec)
 g3:b3=true→b4=false→∃ g,s21=.slice (some ⟨g,0,none⟩) 1 1∧W.heap[g]? = some (.cells #[s20] 22 (0,0))
 own:b4=false→ZRow B W cv i
 g4:b4=true→(∃ g c,s22=.slice (some ⟨g,0,none⟩) (i+1) c)∧ZRow B W s22 (i+1)
section
variable {B nb rb i:Nat} {w W:World} {cv:Value} {b1 b2 b3 b4 b6:Bool} {s20 s21 s22:Value}
theorem NSt.below {W1:World} (h:NSt B nb rb w cv i b1 b2 b3 b4 b6 s20 s21 s22 W) (hb:Below W.heap.size W W1):NSt B nb rb w cv i b1 b2 b3 b4 b6 s20 s21 s22 W1 where
 out:=h.out.trans (hb.mono h.out.size)
 size:=Nat.le_trans h.size hb.size
 low:=h.low
 res:=dskRow_keep h.res hb
 now:=dskRow_keep h.now hb
 o4:=h.o4
 o3:=h.o3
 o43:=h.o43
 o6:=h.o6
 g2:=fun e=>by obtain ⟨g,h1,h2⟩:=h.g2 e; exact ⟨g,h1,ownsRow_below h2 hb⟩
 g3:=fun e e2=>by obtain ⟨g,h1,h2⟩:=h.g3 e e2; exact ⟨g,h1,dskRow_keep h2 hb⟩
 own:=fun e=>(h.own e).below hb
 g4:=fun e=>⟨(h.g4 e).1,(h.g4 e).2.below hb⟩
theorem NSt.any {t20 t21 t22:Value} (h:NSt B nb rb w cv i false false false false false t20 t21 t22 W) (s20 s21 s22:Value):NSt B nb rb w cv i false false false false false s20 s21 s22 W where
 out:=h.out
 size:=h.size
 low:=h.low
 res:=h.res
 now:=h.now
 o4:=h.o4
 o3:=h.o3
 o43:=h.o43
 o6:=h.o6
 g2:=Zf
 g3:=Zf
 own:=h.own
 g4:=Zf
theorem NSt.one (h:NSt B nb rb w cv i b1 b2 b3 b4 b6 s20 s21 s22 W):NSt B nb rb w cv i true b2 b3 b4 b6 s20 s21 s22 W:={ h with o4:=fun _=>rfl }
theorem NSt.two (h:NSt B nb rb w cv i b1 false b3 b4 b6 s20 s21 s22 W):NSt B nb rb w cv i b1 true b3 b4 b6 (.slice (some ⟨W.heap.size,0,none⟩) 256 256) s21 s22 (W.alloc (.cells (madeCells #[.int .u8 0] 256) 5)) :=
 have h1:=h.below ((Below.refl _ _).alloc (Nat.le_refl _) (.cells (madeCells #[.int .u8 0] 256) 5))
 { out:=h1.out,size:=h1.size,low:=h1.low,res:=h1.res,now:=h1.now,o4:=h1.o4,o3:=fun _=>rfl,o43:=h1.o43,o6:=h1.o6,own:=h1.own,g4:=h1.g4
   g2:=fun _=>⟨_,rfl,by rw [show byteCells zsec=(madeCells #[Value.int .u8 0] 256).toList from (zeros_row 256).symm]; exact owns_whole (heap_alloc_new W _) (by simp [madeCells]) h.size (by decide)⟩
   g3:=fun e _=>absurd (h.o3 e) (by decide) }
theorem NSt.three (h:NSt B nb rb w cv i b1 true false b4 b6 s20 s21 s22 W):NSt B nb rb w cv i b1 true true b4 b6 s20 (.slice (some ⟨W.heap.size,0,none⟩) 1 1) s22 (W.alloc (.cells #[s20] 22)) :=
 have h1:=h.below ((Below.refl _ _).alloc (Nat.le_refl _) (.cells #[s20] 22))
 { out:=h1.out,size:=h1.size,low:=h1.low,res:=h1.res,now:=h1.now,o4:=h1.o4,o3:=fun _=>rfl,o43:=fun _=>rfl,o6:=h1.o6,own:=h1.own,g4:=h1.g4,g2:=h1.g2
   g3:=fun _ _=>⟨_,rfl,heap_alloc_new W _⟩ }
theorem NSt.four {W1:World} {g c g9:Nat} {xs:List Value} (h:NSt B nb rb w cv i true true true false b6 (.slice (some ⟨g9,0,none⟩) 256 256) s21 s22 W) (hown:W.ownsRow B 22 1 cv i xs) (hel:∀ V∈xs,W.ownsRow B 5 1 V 256 (byteCells zsec))
 (h1:W1.ownsRow B 22 1 (.slice (some ⟨g,0,none⟩) (i+1) c) (i+1) (xs++[.slice (some ⟨g9,0,none⟩) 256 256])) (hg:W.grownBy W1 cv.ownBlock):NSt B nb rb w cv i true true true true b6 (.slice (some ⟨g9,0,none⟩) 256 256) s21 (.slice (some ⟨g,0,none⟩) (i+1) c) W1:=by
 have hb6:b6=false:=by
  cases b6 with
  | false=>rfl
  | true=>exact absurd (h.o6 rfl) (by decide)
 subst hb6
 obtain ⟨g8,e8,h8⟩:=h.g2 rfl
 cases e8
 have h9:=owns_keep h8 fun k cur _ hc=>far_grownT hown hg hc tne7
 refine { out:=h.out.grown hg h.out.size (fun k hk=>Nat.le_trans h.low (hown.lt k hk).1),size:=Nat.le_trans h.size hg.size,low:=h.low,res:=far_grownT hown hg h.res tne8,now:=far_grownT hown hg h.now tne8,o4:=fun _=>rfl,o3:=fun _=>rfl,o43:=fun _=>rfl,o6:=fun _=>rfl,g2:=fun _=>⟨_,rfl,h9⟩,g3:=(fun _ e=>by cases e),own:=Zf,g4:=fun _=>⟨⟨_,_,rfl⟩,_,h1,fun V hV=>?_⟩ }
 rcases List.mem_append.1 hV with hV|hV
 · exact owns_keep (hel V hV) fun k cur _ hc=>far_grownT hown hg hc tne7
 · obtain rfl:V=_:=by simpa using hV
   exact h9
theorem NSt.six (h:NSt B nb rb w cv i b1 b2 b3 true false s20 s21 s22 W) (hnb:w.heap.size≤nb) (hne:rb≠nb):NSt B nb rb w cv i b1 b2 b3 true true s20 s21 s22 (W.setCell ⟨nb,0,none⟩ s22) where
 out:=h.out.setCell hnb _
 size:=by have:=h.size; simp only [World.setCell,Array.size_modify]; exact this
 low:=h.low
 res:=dskRow_far h.res _ _ hne
 now:=heap_setCell_same W nb 0 _ _ s22 h.now
 o4:=h.o4
 o3:=h.o3
 o43:=h.o43
 o6:=fun _=>rfl
 g2:=fun e=>by obtain ⟨g,h1,h2⟩:=h.g2 e; exact ⟨g,h1,owns_keep h2 fun k cur _ hc=>far_box h.now hc tne4 0 s22⟩
 g3:=(fun _ e=>by cases e)
 own:=Zf
 g4:=fun e=>⟨(h.g4 e).1,(h.g4 e).2.box h.now 0 s22⟩
end
structure NewX where
 (b0 b1 b2 b3 b4 b5 b6:Bool)
 (s18 s19 s20 s21 s22 s23:Value)
set_option maxHeartbeats 4000000 in
set_option maxRecDepth 100000 in
theorem refDskNew_zero (n:Nat) (hn:n≤256) (w:World) :
 Calls Tryz.prog 6 #[.int .i64 (n:Nat)] w fun e w'=>∃ sv,e=.returned (.tuple #[.agg #[sv,.slice none 0 0],.int .i64 0])∧ZRow (w.heap.size+2) w' sv n∧Below w.heap.size w w':=by
 obtain ⟨j0,hji,hj0,hj1,hj2⟩:=info_parts infoS
 have h3:decide ((n:Int) < 0)=false:=decide_eq_false (by omega)
 have h4:decide ((256:Int) < (n:Int))=false:=decide_eq_false (by omega)
 have hb0:=((Below.refl w.heap.size w).alloc (Nat.le_refl _) (.cells #[.slice none 0 0,.slice none 0 0] 41)).alloc (by simp) (.cells #[.slice none 0 0,.slice none 0 0] 41)
 have HB0:=Zh hb0
 obtain ⟨hra,hrb,_⟩:=dskBoxes_rows (w:=w) (Below.refl ((w.alloc (.cells #[.slice none 0 0,.slice none 0 0] 41)).alloc (.cells #[.slice none 0 0,.slice none 0 0] 41)).heap.size _)
 have HRA:=Zh hra
 have HRB:=Zh hrb
 clear hb0 hra hrb
 go_enter Tryz.func6,Tryz.ntmps6
 go_wp2
 go_loopw [5] (fun x wr=>∃ i:Nat,i≤n∧x=.int .i64 i∧∃ ca cc,NSt (w.heap.size+2) (w.heap.size+1) w.heap.size w (.slice ca i cc) i false false false false false undef undef undef wr) (fun x _=>n - (intOf x).toNat)
 case atStart =>
  exact ⟨0,Nat.zero_le _,rfl,none,0,{ out:=HB0.out,size:=by simp,low:=by omega,res:=HRA.out,now:=HRB.out,o4:=Zf,o3:=Zf,o43:=Zf,o6:=Zf,g2:=Zf,g3:=Zf,own:=fun _=>⟨[],World.ownsRow_nil _ _ _ _,fun V hV=>by cases hV⟩,g4:=Zf }⟩
 case round =>
 obtain ⟨i,hi,rfl,ca,cc,hst⟩:=hrel
 have HST:=Zh hst
 clear hst
 by_cases hlt:i < n
 · have HCL:=Zh (show i+1≤maxLen∧(i+1) * 24≤140737488355328 by unfold maxLen; omega)
   go_wp2_with fail
   refine wp_region_rec (X:=NewX) (by kernel_rfl) (by kernel_rfl) (fun x=>#[x.b0,x.b1,x.b2,x.b3,x.b4,x.b5,x.b6]) (fun x=>{ tmps:=#[Value.int IntKind.i64 ↑n,undef,Value.pointer (some ⟨w.heap.size,0,none⟩),Value.int IntKind.i64 0,Value.pointer (some ⟨w.heap.size+1,0,none⟩),Value.int IntKind.i64 ↑i,Value.int IntKind.i64 ↑n,Value.bool false,Value.bool false,Value.int IntKind.i64 ↑n,Value.bool false,Value.bool false,undef,Value.int IntKind.i64 ↑i,Value.int IntKind.i64 ↑n,Value.bool true,u16,u17,x.s18,x.s19,x.s20,x.s21,x.s22,x.s23,undef],defers:=[] }) (fun x W=>(x.b0→x.s18=.pointer (some ⟨w.heap.size+1,0,none⟩))∧(x.b1→x.s19=.slice ca i cc)∧(x.b5→x.s23=.pointer (some ⟨w.heap.size+1,0,none⟩))∧(NSt (w.heap.size+2) (w.heap.size+1) w.heap.size w (.slice ca i cc) i x.b1 x.b2 x.b3 x.b4 x.b6 x.s20 x.s21 x.s22 W)) ⟨false,false,false,false,false,false,false,u18,u19,u20,u21,u22,u23⟩ rfl rfl ⟨Zf,Zf,Zf,((HST.out.any u20 u21 u22).below (Below.refl _ _).drew)⟩ (fun _=>rfl) ?hstep ?hdone
   case hstep =>
    rintro ⟨b0,b1,b2,b3,b4,b5,b6,s18,s19,s20,s21,s22,s23⟩ W hI i hi
    dsimp only at hI hi ⊢
    have HI:=Zh hI
    clear hI
    rw [Region.ready,List.mem_filter,List.mem_range] at hi
    obtain ⟨hlt,hp⟩:=hi
    have hi7:i=0∨i=1∨i=2∨i=3∨i=4∨i=5∨i=6:=by simp at hlt; omega
    clear hlt
    rcases hi7 with rfl|rfl|rfl|rfl|rfl|rfl|rfl
    all_goals simp [Region.binds] at hp
    · obtain rfl:b0=false:=by revert hp; cases b0 <;> simp
      clear hp; refine Zv 18 fun K' hK'=>?_
      go_simp
      exact hK'.out _ _ ⟨.mk ..,rfl,rfl,(Upd (fun _=>rfl)) HI.out⟩
    · obtain ⟨rfl,e0⟩:b1=false∧b0=true:=by revert hp; cases b1 <;> cases b0 <;> simp
      clear hp
      obtain rfl:=(HI.out.1) e0
      refine Zv 19 fun K' hK'=>?_
      have gI:=HI.out.2.2.2
      have b4f:b4=false:=by cases b4 with|false=>rfl|true=>exact absurd (gI.o4 rfl) (by decide)
      subst b4f
      have b6f:b6=false:=by cases b6 with|false=>rfl|true=>exact absurd (gI.o6 rfl) (by decide)
      subst b6f
      obtain ⟨hc1,hc2⟩:=(box_cells gI.now).1
      rw [if_neg (by decide)] at hc1
      go_simp
      obtain ⟨h0,h1,h5,gI⟩:=HI.out
      exact hK'.out _ _ ⟨.mk ..,rfl,rfl,h0,(fun _=>rfl),h5,gI.one⟩
    · obtain rfl:b2=false:=by revert hp; cases b2 <;> simp
      clear hp; refine Zv 20 fun K' hK'=>?_
      have hmk:=run_zeros
      go_simp
      obtain ⟨h0,h1,h5,gI⟩:=HI.out
      exact hK'.out _ _ ⟨.mk ..,rfl,rfl,h0,h1,h5,gI.two⟩
    · obtain ⟨rfl,e2⟩:b3=false∧b2=true:=by revert hp; cases b3 <;> cases b2 <;> simp
      clear hp; refine Zv 21 fun K' hK'=>?_
      have gI:=HI.out.2.2.2
      obtain ⟨g,rfl,hg⟩:=gI.g2 e2
      subst e2
      go_simp
      obtain ⟨h0,h1,h5,gI⟩:=HI.out
      exact hK'.out _ _ ⟨.mk ..,rfl,rfl,h0,h1,h5,gI.three⟩
    · obtain ⟨rfl,e1,e3⟩:b4=false∧b1=true∧b3=true:=by revert hp; cases b4 <;> cases b1 <;> cases b3 <;> simp
      clear hp
      obtain rfl:=(HI.out.2.1) e1
      refine Zv 22 fun K' hK'=>?_
      have gI:=HI.out.2.2.2
      have e2:=gI.o3 e3
      obtain ⟨g,rfl,hg⟩:=gI.g2 e2
      obtain ⟨gb,rfl,hgb⟩:=gI.g3 e3 rfl
      subst e1
      subst e2
      subst e3
      obtain ⟨xs,hxs,hel⟩:=gI.own rfl
      refine step_append_lies _ (by rfl) _ _ 38 (by rfl) (w.heap.size+2) 22 j0 (.slice none 0 0) 1 24 Tryz.underlying38 hji hj0 hj1 hj2 rfl (by decide) (.slice ca i cc) i xs (by rfl) hxs ⟨gb,0,none⟩ 1 1 [.slice (some ⟨g,0,none⟩) 256 256] (by rfl) rfl (fun j u hu=>World.news_of_block hgb j u hu) (by intro u hu; simp at hu; subst hu; rfl) (by decide) HCL.out.1 HCL.out.2 gI.size W.heap.size rfl ?_
      intro g9 cap w1 hown1 hgrow hat hlt
      obtain ⟨h0,h1,h5,gI⟩:=HI.out
      exact hK'.out _ _ ⟨.mk ..,rfl,rfl,h0,h1,h5,(gI.four hxs hel hown1 hgrow)⟩
    · obtain rfl:b5=false:=by revert hp; cases b5 <;> simp
      clear hp; refine Zv 23 fun K' hK'=>?_
      go_simp
      exact hK'.out _ _ ⟨.mk ..,rfl,rfl,Nxt (Nxt (Upd (fun _=>rfl))) HI.out⟩
    · obtain ⟨rfl,e5,e4⟩:b6=false∧b5=true∧b4=true:=by revert hp; cases b6 <;> cases b5 <;> cases b4 <;> simp
      clear hp
      obtain rfl:=(HI.out.2.2.1) e5
      refine inv_op (o:=⟨none,_,_,_,_,_⟩) rfl (fun K' hK'=>?_)
      have gI:=HI.out.2.2.2
      obtain ⟨⟨g9,c9,rfl⟩,hz9⟩:=gI.g4 e4
      subst e4
      obtain ⟨⟨hc1,hc2⟩,hz1,hz2⟩:=box_cells gI.now
      rw [if_neg (by decide)] at hc1
      have hlx:=(Array.getElem?_eq_some_iff.1 gI.now).1
      go_simp
      obtain ⟨h0,h1,h5,gI⟩:=HI.out
      exact hK'.out _ _ ⟨.mk ..,rfl,rfl,h0,h1,h5,(gI.six (by omega) (by omega))⟩
   case hdone =>
    rintro ⟨b0,b1,b2,b3,b4,b5,b6,s18,s19,s20,s21,s22,s23⟩ W hI hall
    dsimp only at hI hall ⊢
    have HI:=Zh hI
    clear hI
    obtain rfl:b6=true:=hall 6 (by decide)
    have gI:=HI.out.2.2.2
    clear HI hall
    have hnow:=gI.now
    obtain ⟨⟨g9,c9,rfl⟩,hz9⟩:=gI.g4 (gI.o6 rfl)
    have HN9:=Zh (show NSt (w.heap.size+2) (w.heap.size+1) w.heap.size w (.slice (some ⟨g9,0,none⟩) (i+1) c9) (i+1) false false false false false undef undef undef W from
     { out:=gI.out,size:=gI.size,low:=gI.low,res:=gI.res,now:=gI.now,o4:=Zf,o3:=Zf,o43:=Zf,o6:=Zf,g2:=Zf,g3:=Zf,own:=fun _=>hz9,g4:=Zf })
    clear gI hnow hz9
    go_wp2
    go_roundw
    case rel=>exact ⟨i+1,by omega,by go_num,_,_,HN9.out⟩
    case measure=>simp [intOf]; omega
 · obtain rfl:i=n:=by omega
   have hnow:=HST.out.now
   rw [if_neg (by decide)] at hnow
   obtain ⟨⟨hx1,hx2⟩,hx3,hx4⟩:=box_cells hnow
   obtain ⟨⟨hr1,hr2⟩,hr3,hr4⟩:=box_cells HST.out.res
   have hlt1:=(Array.getElem?_eq_some_iff.1 HST.out.res).1
   clear hnow
   go_wp2
   have hz9:=(HST.out.own rfl)
   have hs9:=((hz9.box HST.out.res 0 (.slice ca i cc)).box (heap_setCell_same _ _ 0 _ _ _ HST.out.res) 1 (.slice none 0 0))
   have hb9:=(HST.out.out.setCell (p:=⟨w.heap.size,0,none⟩) (Nat.le_refl _) (.slice ca i cc)).setCell (p:=⟨w.heap.size,1,none⟩) (Nat.le_refl _) (.slice none 0 0)
   exact bodyPost_ret (v:=.tuple #[.agg #[.slice ca i cc,.slice none 0 0],.int .i64 0]) (by simp [results,Tryz.results6,go_sem,hr1,hr2]) rfl ⟨_,rfl,hs9,hb9⟩
def SecRow (B:Nat) (W:World) (v:Value) (S:List (List UInt8)):Prop :=
 ∃ xs,W.ownsRow B 22 1 v S.length xs∧∀ (i:Nat) (V:Value),xs[i]? = some V→W.ownsRow 0 5 1 V (S.getD i []).length (byteCells (S.getD i []))
def WrRow (B:Nat) (W:World) (v:Value) (C:List (Int × List UInt8)):Prop :=
 ∃ X:List (Int × Value),X.length=C.length∧W.ownsRow B 94 2 v C.length (wcells X)∧∀ (i:Nat) (x:Int × Value),X[i]? = some x→x.1=(C.getD i (0,[])).1∧W.ownsRow 0 5 1 x.2 (C.getD i (0,[])).2.length (byteCells (C.getD i (0,[])).2)
structure DK (W:World) (s c:Value) (S:List (List UInt8)) (C:List (Int × List UInt8)):Prop where
 sec:SecRow 0 W s S
 wr:WrRow 0 W c C
section
variable {B B' g:Nat} {W W':World} {v s c:Value} {S:List (List UInt8)} {C:List (Int × List UInt8)}
theorem SecRow.below (h:SecRow B W v S) (hb:Below W.heap.size W W'):SecRow B W' v S:=by
 obtain ⟨xs,h1,h2⟩:=h
 exact ⟨xs,ownsRow_below h1 hb,fun i V hV=>ownsRow_below (h2 i V hV) hb⟩
theorem WrRow.below (h:WrRow B W v C) (hb:Below W.heap.size W W'):WrRow B W' v C:=by
 obtain ⟨X,h0,h1,h2⟩:=h
 exact ⟨X,h0,ownsRow_below h1 hb,fun i x hx=>⟨(h2 i x hx).1,ownsRow_below (h2 i x hx).2 hb⟩⟩
theorem SecRow.base (h:SecRow B W v S) (hb:B'≤B):SecRow B' W v S:=by
 obtain ⟨xs,h1,h2⟩:=h
 exact ⟨xs,ownsRow_base h1 hb,h2⟩
theorem WrRow.base (h:WrRow B W v C) (hb:B'≤B):WrRow B' W v C:=by
 obtain ⟨X,h0,h1,h2⟩:=h
 exact ⟨X,h0,ownsRow_base h1 hb,h2⟩
theorem SecRow.stay {cs:Array Value} {t:TypeId} {fr:Nat × Nat} (h:SecRow B W v S) (hg:W.heap[g]? = some (.cells cs t fr)) (t1:(t:Nat)≠22) (t2:(t:Nat)≠5) (j:Nat) (u:Value):SecRow B (W.setCell ⟨g,j,none⟩ u) v S:=by
 obtain ⟨xs,h1,h2⟩:=h
 exact ⟨xs,owns_stay h1 hg t1 j u,fun i V hV=>owns_stay (h2 i V hV) hg t2 j u⟩
theorem WrRow.stay {cs:Array Value} {t:TypeId} {fr:Nat × Nat} (h:WrRow B W v C) (hg:W.heap[g]? = some (.cells cs t fr)) (t1:(t:Nat)≠94) (t2:(t:Nat)≠5) (j:Nat) (u:Value):WrRow B (W.setCell ⟨g,j,none⟩ u) v C:=by
 obtain ⟨X,h0,h1,h2⟩:=h
 exact ⟨X,h0,owns_stay h1 hg t1 j u,fun i x hx=>⟨(h2 i x hx).1,owns_stay (h2 i x hx).2 hg t2 j u⟩⟩
theorem DK.below (h:DK W s c S C) (hb:Below W.heap.size W W'):DK W' s c S C:=⟨h.sec.below hb,h.wr.below hb⟩
theorem DK.drew (h:DK W s c S C):DK W.drew s c S C:=h.below (Below.refl _ _).drew
theorem DK.stay {cs:Array Value} {t:TypeId} {fr:Nat × Nat} (h:DK W s c S C) (hg:W.heap[g]? = some (.cells cs t fr)) (ht:((t:Nat)≠22∧(t:Nat)≠5∧(t:Nat)≠94)) (j:Nat) (u:Value):DK (W.setCell ⟨g,j,none⟩ u) s c S C:=⟨h.sec.stay hg ht.1 ht.2.1 j u,h.wr.stay hg ht.2.2 ht.2.1 j u⟩
theorem DK.row {old:Array Value} {fr:Nat × Nat} (h:DK W s c S C) (hg:W.heap[g]? = some (.cells old 34 fr)) (cs:Array Value):DK (W.setRow g cs) s c S C:=by
 obtain ⟨⟨xs,h1,h2⟩,⟨X,h3,h4,h5⟩⟩:=h
 exact ⟨⟨xs,owns_row h1 hg (by decide) cs,fun i V hV=>owns_row (h2 i V hV) hg (by decide) cs⟩,⟨X,h3,owns_row h4 hg (by decide) cs,fun i x hx=>⟨(h5 i x hx).1,owns_row (h5 i x hx).2 hg (by decide) cs⟩⟩⟩
theorem DK.disk (h:DK W s c S C):IsDisk W s c S C:=by
 obtain ⟨⟨xs,h1,h2⟩,⟨X,h3,h4,h5⟩⟩:=h
 refine ⟨⟨xs,by have:=h1.1; omega,held_of_owns h1,fun i V l hV hl=>?_⟩,⟨X,h3,held_of_owns h4,fun i x y hx hy=>?_⟩⟩
 · have h6:=h2 i V hV
   rw [show S.getD i []=l by rw [List.getD_eq_getElem?_getD,hl]; rfl] at h6
   exact isArg_of_owns h6
 · obtain ⟨h6,h7⟩:=h5 i x hx
   rw [show C.getD i (0,[])=y by rw [List.getD_eq_getElem?_getD,hy]; rfl] at h6 h7
   exact ⟨h6,isArg_of_owns h7⟩
theorem DK.shape (h:DK W s c S C):∃ a n k a' n' k',s=.slice a n k∧c=.slice a' n' k'∧n=S.length∧n'=C.length:=by
 obtain ⟨⟨xs,h1,_⟩,⟨X,_,h4,_⟩⟩:=h
 obtain ⟨a,k,e1,_⟩:=owns_slice h1
 obtain ⟨a',k',e2,_⟩:=owns_slice h4
 exact ⟨a,_,k,a',_,k',e1,e2,rfl,rfl⟩
theorem dk_of_own (h:OwnDisk B W s c S C):DK W s c S C:=by
 obtain ⟨⟨M,xs,h1,h2,h3,h4⟩,h5⟩:=h
 obtain ⟨X,h6,h7,h8⟩:=h5.base (Nat.zero_le B)
 refine ⟨⟨xs,ownsRow_base h1 (Nat.zero_le _),fun i V hV=>ownsRow_base (h2.1 i V ?_ hV) (Nat.zero_le _)⟩,⟨X,h6,h7,h8⟩⟩
 have h9:=(List.getElem?_eq_some_iff.1 hV).1
 have h10:=h1.1
 omega
theorem dk_of_zero {n:Nat} (h:ZRow B W v n):DK W v (.slice none 0 0) (List.replicate n zsec) []:=by
 obtain ⟨xs,h1,h2⟩:=h
 refine ⟨⟨xs,by rw [List.length_replicate]; exact ownsRow_base h1 (Nat.zero_le _),fun i V hV=>?_⟩,⟨[],rfl,World.ownsRow_nil _ _ _ _,fun i x hx=>by simp at hx⟩⟩
 have h3:=(List.getElem?_eq_some_iff.1 hV).1
 have h4:=h1.1
 rw [show (List.replicate n zsec).getD i []=zsec by rw [List.getD_eq_getElem?_getD,List.getElem?_replicate,if_pos (by omega)]; rfl,zsec_len]
 exact ownsRow_base (h2 V (List.mem_of_getElem? hV)) (Nat.zero_le _)
end
theorem cloneSec_any (v:Value) (S:List (List UInt8)) (w:World) (hv:SecRow 0 w v S) (hl:S.length≤1000) :
 Calls Tryz.prog 51 #[v] w fun e w'=>∃ r,e=.returned r∧SecRow w.heap.size w' r S∧Below w.heap.size w w':=by
 obtain ⟨xs,h1,h2⟩:=hv
 obtain ⟨a,c,rfl,k1,k2⟩:=owns_slice h1
 have hone:∀ V∈xs,V.oneCell'=true:=by
  intro V hV
  obtain ⟨i,hi,hV⟩:=List.mem_iff_getElem.1 hV
  obtain ⟨p,q,rfl,_⟩:=owns_slice (h2 i V (by rw [List.getElem?_eq_getElem hi,hV]))
  rfl
 cases a with
 | none =>
   have hl0:S=[]:=by
    rcases h1.2 with ⟨_,h0⟩|⟨g,cap,cur,hx,_⟩
    · exact List.length_eq_zero_iff.1 h0
    · cases hx
   subst hl0
   refine (AnyE.slices_Clone_nil Tryz.laysCloneS _ _ w).mono ?_
   rintro e w' ⟨rfl,rfl⟩
   exact ⟨_,rfl,⟨[],World.ownsRow_nil _ _ _ _,fun i V hV=>by simp at hV⟩,Below.refl _ _⟩
 | some a =>
   obtain ⟨g,rfl⟩:∃ g,a=⟨g,0,none⟩:=by
    rcases h1.2 with ⟨hx,_⟩|⟨g,cap,cur,hx,_⟩
    · cases hx
    · cases hx; exact ⟨g,rfl⟩
   obtain ⟨i0,hi,hz0,hz1,hz2⟩:=info_parts infoS
   refine (AnyE.slices_Clone Tryz.laysCloneS i0 _ 1 24 hi hz0 hz1 hz2 rfl (by decide) (fun w=>by kernel_rfl) g 0 S.length c xs w h1.1 (by omega) (by omega) (fun j u hu=>?_) hone).mono ?_
   · have:=World.ownsRow.cells h1 (g:=g) rfl j u hu
     rwa [Addr.add_lit] at this
   · rintro e w' ⟨r,rfl,hr,_,hb⟩
     exact ⟨r,rfl,⟨xs,hr,fun i V hV=>ownsRow_below (h2 i V hV) hb⟩,hb⟩
theorem cloneWr_any (v:Value) (C:List (Int × List UInt8)) (w:World) (hv:WrRow 0 w v C) (hl:C.length≤1000) :
 Calls Tryz.prog 52 #[v] w fun e w'=>∃ r,e=.returned r∧WrRow w.heap.size w' r C∧Below w.heap.size w w':=by
 obtain ⟨X,h0,h1,h2⟩:=hv
 obtain ⟨a,c,rfl,k1,k2⟩:=owns_slice h1
 have hone:∀ V∈wcells X,V.oneCell'=true:=by
  intro V hV
  unfold wcells at hV
  obtain ⟨x,hx,hV⟩:=List.mem_flatMap.1 hV
  obtain ⟨i,hi,hx⟩:=List.mem_iff_getElem.1 hx
  obtain ⟨p,q,e,_⟩:=owns_slice (h2 i x (by rw [List.getElem?_eq_getElem hi,hx])).2
  simp at hV
  rcases hV with rfl|rfl
  · rfl
  · rw [e]; rfl
 cases a with
 | none =>
   have hl0:C=[]:=by
    rcases h1.2 with ⟨_,h0⟩|⟨g,cap,cur,hx,_⟩
    · exact List.length_eq_zero_iff.1 h0
    · cases hx
   subst hl0
   refine (AnyE.slices_Clone_nil Tryz.laysCloneW _ _ w).mono ?_
   rintro e w' ⟨rfl,rfl⟩
   exact ⟨_,rfl,⟨[],rfl,World.ownsRow_nil _ _ _ _,fun i x hx=>by simp at hx⟩,Below.refl _ _⟩
 | some a =>
   obtain ⟨g,rfl⟩:∃ g,a=⟨g,0,none⟩:=by
    rcases h1.2 with ⟨hx,_⟩|⟨g,cap,cur,hx,_⟩
    · cases hx
    · cases hx; exact ⟨g,rfl⟩
   obtain ⟨i0,hi,hz0,hz1,hz2⟩:=info_parts infoW
   refine (AnyE.slices_Clone Tryz.laysCloneW i0 _ 2 32 hi hz0 hz1 hz2 rfl (by decide) (fun w=>by kernel_rfl) g 0 C.length c (wcells X) w h1.1 (by omega) (by omega) (fun j u hu=>?_) hone).mono ?_
   · have:=World.ownsRow.cells h1 (g:=g) rfl j u hu
     rwa [Addr.add_lit] at this
   · rintro e w' ⟨r,rfl,hr,_,hb⟩
     exact ⟨r,rfl,⟨X,h0,hr,fun i x hx=>⟨(h2 i x hx).1,ownsRow_below (h2 i x hx).2 hb⟩⟩,hb⟩
theorem heldN_one {w w':World} {a:Addr} {u:Value} (h:w.cell? a=some u) (hb:Below w.heap.size w w'):w'.cell? a=some u:=kept h hb
theorem held_off {w:World} {g i a:Nat} {x u:Value} (ha:a≠g) (h:w.cell? ⟨a,i,none⟩=some u) (k:Nat):(w.setCell ⟨g,k,none⟩ x).cell? ⟨a,i,none⟩=some u:=by unfold World.cell?; rw [Below.heap_setCell _ _ _ _ ha]; exact h
theorem sec_put {B g n c k:Nat} {W W':World} {S:List (List UInt8)} {r:Value} (h:SecRow B W (.slice (some ⟨g,0,none⟩) n c) S) (hb:Below W.heap.size W W') (hk:k < S.length) (hr:W'.ownsRow 0 5 1 r (S.getD k []).length (byteCells (S.getD k []))):SecRow B (W'.setCell ⟨g,k,none⟩ r) (.slice (some ⟨g,0,none⟩) n c) S:=by
 obtain ⟨xs,h1,h2⟩:=h
 have h3:=ownsRow_below h1 hb
 have hn:n=S.length:=by obtain ⟨a,c',e,_⟩:=owns_slice h1; cases e; rfl
 subst hn
 obtain ⟨cur,fr,hg⟩:=row_block h3
 refine ⟨xs.set k r,(h3.stored k r).1,fun i V hV=>?_⟩
 by_cases he:i=k
 · subst he
   rw [List.getElem?_set_self (by have:=h1.1; omega)] at hV
   cases hV
   exact owns_stay hr hg (by decide) _ _
 · rw [List.getElem?_set_ne (fun e=>he e.symm)] at hV
   exact owns_stay (ownsRow_below (h2 i V hV) hb) hg (by decide) _ _
theorem wr_put {B g n c k:Nat} {W W':World} {C:List (Int × List UInt8)} {r:Value} (h:WrRow B W (.slice (some ⟨g,0,none⟩) n c) C) (hb:Below W.heap.size W W') (hk:k < C.length) (hr:W'.ownsRow 0 5 1 r (C.getD k (0,[])).2.length (byteCells (C.getD k (0,[])).2)):WrRow B (W'.setCell ⟨g,k * 2+1,none⟩ r) (.slice (some ⟨g,0,none⟩) n c) C:=by
 obtain ⟨X,h0,h1,h2⟩:=h
 have h3:=ownsRow_below h1 hb
 have hn:n=C.length:=by obtain ⟨a,c',e,_⟩:=owns_slice h1; cases e; rfl
 subst hn
 obtain ⟨cur,fr,hg⟩:=row_block h3
 obtain ⟨x,hx⟩:∃ x,X[k]? = some x:=⟨_,List.getElem?_eq_getElem (by omega)⟩
 have hw:(wcells X).set (k * 2+1) r=wcells (X.set k (x.1,r)):=by
  rw [←wcells_set]
  congr 1
  apply List.ext_getElem?
  intro j
  by_cases hj:j=k * 2
  · subst hj
    rw [List.getElem?_set_self (by rw [wcells_length]; omega),(wcells_at X k x hx).1]
  · rw [List.getElem?_set_ne (fun e=>hj e.symm)]
 refine ⟨X.set k (x.1,r),by rw [List.length_set]; exact h0,by rw [←hw]; exact (h3.stored _ r).1,fun i y hy=>?_⟩
 by_cases he:i=k
 · subst he
   rw [List.getElem?_set_self (by omega)] at hy
   cases hy
   exact ⟨(h2 i x hx).1,owns_stay hr hg (by decide) _ _⟩
 · rw [List.getElem?_set_ne (fun e=>he e.symm)] at hy
   exact ⟨(h2 i y hy).1,owns_stay (ownsRow_below (h2 i y hy).2 hb) hg (by decide) _ _⟩
set_option maxHeartbeats 2000000 in
set_option maxRecDepth 100000 in
theorem sameDisk_any (sv cv:Value) (S:List (List UInt8)) (C:List (Int × List UInt8)) (w:World) (hd:DK w sv cv S C) (hk:chkB S C=true) :
 Calls Tryz.prog 25 #[.agg #[sv,cv]] w fun e w'=>∃ sa sn sc ca cn cc,e=.returned (.agg #[.slice sa sn sc,.slice ca cn cc])∧DK w' (.slice sa sn sc) (.slice ca cn cc) S C∧sn=S.length∧cn=C.length∧Below w.heap.size w w':=by
 obtain ⟨f1,f2,f3,f4⟩:=chk_true.1 hk
 obtain ⟨a0,n0,k0,a1,n1,k1,rfl,rfl,hn0,hn1⟩:=hd.shape
 obtain ⟨t0,t1,hb0⟩:=two_boxes w #[.slice a0 n0 k0,.slice a1 n1 k1] #[.slice none 0 0,.slice none 0 0] 41 41
 have RP:=Zh t0
 have RZ:=Zh t1
 have BW:=Zh hb0
 have SE:=Zh (hd.below hb0).sec
 have WE:=Zh (hd.below hb0).wr
 have F1:=Zh f1
 have F2:=Zh f2
 have F3:=Zh f3
 have F4:=Zh f4
 have HN0:=Zh hn0
 have HN1:=Zh hn1
 obtain ⟨⟨p0,p1⟩,z0,z1⟩:=box_cells t0
 have hlt0:=(Array.getElem?_eq_some_iff.1 t0).1
 clear hk f1 f2 f3 f4 hd t0 t1 hb0 hn0 hn1
 go_enter Tryz.func25,Tryz.ntmps25
 go_wp2_with fail
 refine (cloneSec_any _ S _ SE.out (by have:=F1.out; omega)).mono ?_
 rintro e w1 ⟨r,rfl,hr,hb⟩
 obtain ⟨xs,hxs,hel⟩:=hr
 obtain ⟨ga,gc,rfl,hx,hy⟩:=owns_slice hxs
 have hr:SecRow _ w1 (.slice ga S.length gc) S:=⟨xs,hxs,hel⟩
 have hrow:=row_keep RP.out hb
 have S1:=Zh ((hr.base (show w.heap.size≤_ from BW.out.size)).stay hrow (by decide) (by decide) 0 (.slice ga S.length gc))
 replace WE:=Zh ((WE.out.below hb).stay hrow (by decide) (by decide) 0 (.slice ga S.length gc))
 replace BW:=Zh ((BW.out.trans (hb.mono BW.out.size)).setCell (p:=⟨w.heap.size,0,none⟩) (Nat.le_refl _) (.slice ga S.length gc))
 replace RZ:=Zh (one_other (row_keep RZ.out hb) ⟨w.heap.size,0,none⟩ (.slice ga S.length gc) (show w.heap.size≠w.heap.size+1 by omega))
 replace RP:=Zh (row_put hrow 0 (.slice ga S.length gc))
 replace RP:=Zh (show (w1.setCell ⟨w.heap.size,0,none⟩ (.slice ga S.length gc)).heap[w.heap.size]? = some (.cells #[.slice ga S.length gc,.slice a1 n1 k1] 41 (0,0)) from RP.out)
 clear p0 p1 z0 z1 hlt0 SE
 obtain ⟨⟨p0,p1⟩,z0,z1⟩:=box_cells hrow
 have hlt0:=(Array.getElem?_eq_some_iff.1 hrow).1
 obtain ⟨⟨q0,q1⟩,y0,y1⟩:=box_cells RP.out
 obtain ⟨n,hn⟩:∃ n,n=S.length:=⟨_,rfl⟩
 rw [←hn] at S1 RP RZ BW WE q0 ⊢
 have HN:=Zh hn
 clear hr hxs hel hx hy hb hrow hn
 go_wp2
 clear p0 p1 z0 z1 hlt0 q0 q1 y0 y1
 go_loopw [14] (fun i wr=>∃ k:Nat,k≤n∧i=.int .i64 k∧SecRow w.heap.size wr (.slice ga n gc) S∧wr.heap[w.heap.size]? = some (.cells #[.slice ga n gc,.slice a1 n1 k1] 41 (0,0))∧wr.heap[w.heap.size+1]? = some (.cells #[.slice none 0 0,.slice none 0 0] 41 (0,0))∧WrRow 0 wr (.slice a1 n1 k1) C∧Below w.heap.size w wr) (fun i _=>n - (intOf i).toNat)
 case atStart=>exact ⟨0,Nat.zero_le _,rfl,S1.out,RP.out,RZ.out,WE.out,BW.out⟩
 case round =>
  obtain ⟨k,hk,rfl,hS,hP,hZ,hW,hB⟩:=hrel
  have HS:=Zh hS
  have HP:=Zh hP
  have HZ:=Zh hZ
  have HW:=Zh hW
  have HB:=Zh hB
  by_cases hlt:k < n
  · obtain ⟨xs,hxs,hel⟩:=hS
    obtain ⟨g,cap,cur,hv,hgb,hh,hnc,hcm⟩:=owns_shape hxs (by have:=HN.out; omega)
    injection hv with e1 e2 e3
    subst e1
    subst e3
    clear e2
    have hxl:xs.length=S.length:=by simpa using hxs.1
    obtain ⟨V,hV⟩:∃ V,xs[k]? = some V:=⟨_,List.getElem?_eq_getElem (by have:=HN.out; omega)⟩
    have hVo:=hel k V hV
    obtain ⟨va,vc,rfl,_,_⟩:=owns_slice hVo
    have hxs2:wr.ownsRow w.heap.size 22 1 (.slice (some ⟨g,0,none⟩) n gc) n xs:=by
     have h:=hxs
     rw [←HN.out] at h
     exact h
    have hgk:wr.cell? ⟨g,k,none⟩=some (.slice va (S.getD k []).length vc):=by rw [hxs2.cellAt k (by omega)]; exact hV
    have HVO:=Zh hVo
    have HXS:=Zh hxs2
    have HVL:=Zh (show (S.getD k []).length≤140737488355328 by
     have h1:=F3.out (S.getD k []) (getD_mem S k [] (by rw [←HN.out]; exact hlt))
     omega)
    obtain ⟨vn,hvn⟩:∃ vn,vn=(S.getD k []).length:=⟨_,rfl⟩
    have HVN:=Zh hvn
    rw [←hvn] at hgk
    obtain ⟨b0,_⟩:=at_cell hP 0 (.slice (some ⟨g,0,none⟩) n gc) rfl
    have hn300:n≤256:=by have:=F1.out; have:=HN.out; omega
    have hlen:0≤(k:Int)∧(k:Int) < (n:Int):=by omega
    obtain ⟨hl0,hl1⟩:=hlen
    have hgw:g < wr.heap.size:=(Array.getElem?_eq_some_iff.1 hh).1
    have hne1:w.heap.size≠g:=fun e=>by
     have h1:=hP
     rw [e,hh] at h1
     injection h1 with h1
     injection h1 with _ h1 _
     exact absurd h1 (by decide)
    have hne2:g≠w.heap.size+1:=fun e=>by
     have h1:=hZ
     rw [←e,hh] at h1
     injection h1 with h1
     injection h1 with _ h1 _
     exact absurd h1 (by decide)
    have HGB:=Zh hgb
    clear hxs hxs2 hxl hel hV hVo hh hnc hcm hP hZ hW hB hvn hgb
    go_wp2_with fail
    go_region_held3 (fun w'=>w'.cell? ⟨w.heap.size,0,none⟩=some (.slice (some ⟨g,0,none⟩) n gc)) (first|(with_reducible exact heldN_one (by assumption) hb)|(with_reducible exact held_off hne1 (by assumption) _)|go_keep) (first
     | (go_at_call 44; refine (clone_any _ (S.getD k []) _ (isArg_of_owns (show wr.drew.ownsRow 0 5 1 (.slice va vn vc) (S.getD k []).length (byteCells (S.getD k [])) from by rw [HVN.out]; exact ownsRow_below HVO.out (Below.refl _ _).drew)) HVL.out).mono ?_; rintro e w4 ⟨r,rfl,hr,hb⟩; obtain ⟨ra,rc,rfl,hrn,hrm⟩:=owns_slice hr; clear hrn hrm; have HR4:=Zh hr; clear hr; have hw1:=kept (w:=wr.drew) hgk hb; have hw3:=(ownsRow_below HXS.out ((Below.refl _ _).drew.trans (hb.mono (Nat.le_refl _)))).frozenAt k))
    have HB4:=Zh (show Below wr.heap.size wr w4 from (Below.refl _ _).drew.trans (hb.mono (Nat.le_refl _)))
    obtain ⟨cur4,fr4,hg4⟩:=row_block (ownsRow_below HXS.out HB4.out)
    have HG4:=Zh hg4
    clear hw1 hw3 hb hgk b0 hg4
    go_wp2
    go_roundw
    case rel =>
     refine ⟨k+1,by omega,by go_num,?_,one_other (row_keep HP.out HB4.out) _ _ (fun e=>hne1 e.symm),one_other (row_keep HZ.out HB4.out) _ _ hne2,(HW.out.below HB4.out).stay HG4.out (by decide) (by decide) _ _,(HB.out.trans (HB4.out.mono HB.out.size)).setCell (p:=⟨g,k,none⟩) HGB.out _⟩
     exact sec_put HS.out HB4.out (by rw [←HN.out]; exact hlt) (ownsRow_base HR4.out (Nat.zero_le _))
    case measure=>simp [intOf]; omega
  · obtain rfl:k=n:=by omega
    obtain ⟨wo,rfl⟩:∃ x,x=wr:=⟨_,rfl⟩
    obtain ⟨⟨p0,p1⟩,z0,z1⟩:=box_cells HP.out
    clear hS hP hZ hW hB
    go_wp2_with fail
    refine (cloneWr_any _ C _ HW.out (by have:=F2.out; omega)).mono ?_
    rintro e w5 ⟨r,rfl,hr,hb⟩
    obtain ⟨X,hX0,hXs,hXe⟩:=hr
    obtain ⟨ga',gc',rfl,hx,hy⟩:=owns_slice hXs
    have hr:WrRow _ w5 (.slice ga' C.length gc') C:=⟨X,hX0,hXs,hXe⟩
    have hrow:=row_keep HP.out hb
    have W1:=Zh ((hr.base HB.out.size).stay hrow (by decide) (by decide) 1 (.slice ga' C.length gc'))
    have S2:=Zh ((HS.out.below hb).stay hrow (by decide) (by decide) 1 (.slice ga' C.length gc'))
    have B2:=Zh ((HB.out.trans (hb.mono HB.out.size)).setCell (p:=⟨w.heap.size,1,none⟩) (Nat.le_refl _) (.slice ga' C.length gc'))
    have Z2:=Zh (one_other (row_keep HZ.out hb) ⟨w.heap.size,1,none⟩ (.slice ga' C.length gc') (show w.heap.size≠w.heap.size+1 by omega))
    have P2:=Zh (show (w5.setCell ⟨w.heap.size,1,none⟩ (.slice ga' C.length gc')).heap[w.heap.size]? = some (.cells #[.slice ga k gc,.slice ga' C.length gc'] 41 (0,0)) from row_put hrow 1 (.slice ga' C.length gc'))
    clear p0 p1 z0 z1
    obtain ⟨⟨p0,p1⟩,z0,z1⟩:=box_cells hrow
    have hlt0:=(Array.getElem?_eq_some_iff.1 hrow).1
    obtain ⟨⟨q0,q1⟩,y0,y1⟩:=box_cells P2.out
    obtain ⟨m,hm⟩:∃ m,m=C.length:=⟨_,rfl⟩
    rw [←hm] at W1 S2 B2 Z2 P2 q1 ⊢
    have HM:=Zh hm
    clear hr hX0 hXs hXe hx hy hb hrow hm HS HP HZ HW HB
    go_wp2
    clear p0 p1 z0 z1 hlt0 q0 q1 y0 y1
    go_loopw [33] (fun i wr=>∃ j:Nat,j≤m∧i=.int .i64 j∧SecRow 0 wr (.slice ga k gc) S∧wr.heap[w.heap.size]? = some (.cells #[.slice ga k gc,.slice ga' m gc'] 41 (0,0))∧wr.heap[w.heap.size+1]? = some (.cells #[.slice none 0 0,.slice none 0 0] 41 (0,0))∧WrRow w.heap.size wr (.slice ga' m gc') C∧Below w.heap.size w wr) (fun i _=>m - (intOf i).toNat)
    case atStart=>exact ⟨0,Nat.zero_le _,rfl,S2.out.base (Nat.zero_le _),P2.out,Z2.out,W1.out,B2.out⟩
    case round =>
     obtain ⟨j,hj,rfl,hS,hP,hZ,hW,hB⟩:=hrel
     have HS:=Zh hS
     have HP:=Zh hP
     have HZ:=Zh hZ
     have HW:=Zh hW
     have HB:=Zh hB
     by_cases hlt:j < m
     · obtain ⟨X,hX0,hXs,hXe⟩:=hW
       obtain ⟨g,cap,cur,hv,hgb,hh,hnc,hcm⟩:=owns_shape hXs (by have:=HM.out; omega)
       injection hv with e1 e2 e3
       subst e1
       subst e3
       clear e2
       obtain ⟨⟨xa,V⟩,hV⟩:∃ x,X[j]? = some x:=⟨_,List.getElem?_eq_getElem (by have:=HM.out; omega)⟩
       obtain ⟨hxa,hVo⟩:=hXe j _ hV
       simp only at hxa hVo
       obtain ⟨va,vc,rfl,_,_⟩:=owns_slice hVo
       have hXs2:wr.ownsRow w.heap.size 94 2 (.slice (some ⟨g,0,none⟩) m gc') m (wcells X):=by
        have h:=hXs
        rw [←HM.out] at h
        exact h
       obtain ⟨x1,x2⟩:=wcells_at X j _ hV
       simp only at x1 x2
       have hg0:wr.cell? ⟨g,j * 2,none⟩=some (.int .i64 xa):=by rw [hXs2.cellAt (j * 2) (by omega)]; exact x1
       have hg1:wr.cell? ⟨g,j * 2+1,none⟩=some (.slice va (C.getD j (0,[])).2.length vc):=by rw [hXs2.cellAt (j * 2+1) (by omega)]; exact x2
       have HVO:=Zh hVo
       have HXS:=Zh hXs2
       have HVL:=Zh (show (C.getD j (0,[])).2.length≤140737488355328 by
        have h1:=(F4.out (C.getD j (0,[])) (getD_mem C j (0,[]) (by rw [←HM.out]; exact hlt))).2.2
        omega)
       obtain ⟨vn,hvn⟩:∃ vn,vn=(C.getD j (0,[])).2.length:=⟨_,rfl⟩
       have HVN:=Zh hvn
       rw [←hvn] at hg1
       have HBX:=Zh ((Below.refl wr.heap.size wr).alloc (Nat.le_refl _) (.cells #[.int .i64 xa,.slice va vn vc] 94))
       have HBC:=Zh (heap_alloc_new wr (.cells #[.int .i64 xa,.slice va vn vc] 94))
       obtain ⟨b0,_⟩:=at_cell (row_keep hP HBX.out) 1 (.slice (some ⟨g,0,none⟩) m gc') rfl
       obtain ⟨b1,_⟩:=at_cell HBC.out 1 (.slice va vn vc) rfl
       have hgk:=kept hg1 HBX.out
       have hm600:m≤512:=by have:=F2.out; have:=HM.out; omega
       have hlen:0≤(j:Int)∧(j:Int) < (m:Int):=by omega
       obtain ⟨hl0,hl1⟩:=hlen
       have hgw:g < wr.heap.size:=(Array.getElem?_eq_some_iff.1 hh).1
       have hne1:w.heap.size≠g:=fun e=>by
        have h1:=hP
        rw [e,hh] at h1
        injection h1 with h1
        injection h1 with _ h1 _
        exact absurd h1 (by decide)
       have hne2:g≠w.heap.size+1:=fun e=>by
        have h1:=hZ
        rw [←e,hh] at h1
        injection h1 with h1
        injection h1 with _ h1 _
        exact absurd h1 (by decide)
       have hne3:wr.heap.size≠g:=by omega
       have HGB:=Zh hgb
       clear hXs hXs2 hX0 hXe hV hVo hh hnc hcm hP hZ hS hB hvn hgb x1 x2 hxa
       go_wp2_with fail
       go_region_held3 (fun w'=>w'.cell? ⟨w.heap.size,1,none⟩=some (.slice (some ⟨g,0,none⟩) m gc')∧w'.cell? ⟨wr.heap.size,1,none⟩=some (.slice va vn vc)) (first|(with_reducible exact held_two (by assumption) hb)|(with_reducible exact held_far hne1 hne3 (by assumption) _)|go_keep) (first
        | (go_at_call 44; refine (clone_any _ (C.getD j (0,[])).2 _ (isArg_of_owns (show (wr.alloc (.cells #[.int .i64 xa,.slice va vn vc] 94)).drew.ownsRow 0 5 1 (.slice va vn vc) (C.getD j (0,[])).2.length (byteCells (C.getD j (0,[])).2) from by rw [HVN.out]; exact ownsRow_below HVO.out (by have h:=HBX.out.drew; rw [HVN.out] at h; exact h))) HVL.out).mono ?_; rintro e w4 ⟨r,rfl,hr,hb⟩; obtain ⟨ra,rc,rfl,hrn,hrm⟩:=owns_slice hr; clear hrn hrm; have HR4:=Zh hr; clear hr; have hw1:=kept (w:=(wr.alloc (.cells #[.int .i64 xa,.slice va vn vc] 94)).drew) hgk hb; have hw3:=(ownsRow_below HXS.out (HBX.out.drew.trans (hb.mono HBX.out.drew.size))).frozenAt (j * 2+1)))
       have HB4:=Zh (show Below wr.heap.size wr w4 from HBX.out.drew.trans (hb.mono HBX.out.drew.size))
       obtain ⟨cur4,fr4,hg4⟩:=row_block (ownsRow_below HXS.out HB4.out)
       have HG4:=Zh hg4
       clear hw1 hw3 hb hgk hg0 hg1 b0 b1 hg4
       go_wp2
       go_roundw
       case rel =>
        refine ⟨j+1,by omega,by go_num,(HS.out.below HB4.out).stay HG4.out (by decide) (by decide) _ _,one_other (row_keep HP.out HB4.out) _ _ (fun e=>hne1 e.symm),one_other (row_keep HZ.out HB4.out) _ _ hne2,?_,(HB.out.trans (HB4.out.mono HB.out.size)).setCell (p:=⟨g,j * 2+1,none⟩) HGB.out _⟩
        exact wr_put HW.out HB4.out (by rw [←HM.out]; exact hlt) (ownsRow_base HR4.out (Nat.zero_le _))
       case measure=>simp [intOf]; omega
     · obtain rfl:j=m:=by omega
       obtain ⟨⟨p0,p1⟩,z0,z1⟩:=box_cells hP
       obtain ⟨⟨r0,r1⟩,y0,y1⟩:=box_cells hZ
       have hltz:=(Array.getElem?_eq_some_iff.1 hZ).1
       clear hS hP hZ hW hB
       go_wp2
       refine bodyPost_ret (v:=.agg #[.slice ga k gc,.slice ga' j gc']) (by simp [results,Tryz.results25,go_sem,r0,r1]) rfl ⟨_,_,_,_,_,_,rfl,⟨?_,?_⟩,HN.out,HM.out,?_⟩
       · exact (HS.out.stay HZ.out (by decide) (by decide) 0 _).stay (row_put HZ.out 0 _) (by decide) (by decide) 1 _
       · exact ((HW.out.stay HZ.out (by decide) (by decide) 0 _).stay (row_put HZ.out 0 _) (by decide) (by decide) 1 _).base (Nat.zero_le _)
       · exact (HB.out.setCell (p:=⟨w.heap.size+1,0,none⟩) (show w.heap.size≤w.heap.size+1 by omega) _).setCell (p:=⟨w.heap.size+1,1,none⟩) (show w.heap.size≤w.heap.size+1 by omega) _
theorem blkGet_this (v:Value) (l d:List UInt8) (p n:Nat) (x y:Int) (w:World) (hv:OwnB 0 w v l) (hl:l.length=1700) (hx:((p:Nat):Int)=x) (hy:((n:Nat):Int)=y) (hp:p+n≤1700) (hd:(l.drop p).take n=d) :
 Calls Tryz.prog 89 #[.agg #[v],.int .i64 x,.int .i64 y] w fun e w'=>∃ ra rc,e=.returned (.tuple #[.slice ra n rc,.int .i64 0])∧OwnB 0 w' (.slice ra n rc) d∧Below w.heap.size w w':=by
 subst hx
 subst hy
 have hf:faultOf l.length (p:Nat) (n:Nat)=0:=fault_of (by omega) (by omega) (by omega) (by omega) (by omega)
 have hg:getOf l (p:Nat) (n:Nat)=d:=by rw [getOf_some hf,Int.toNat_natCast,Int.toNat_natCast,hd]
 have hn:d.length=n:=by rw [←hd,List.length_take,List.length_drop]; omega
 refine (get_any v l w hv.arg (p:Nat) (n:Nat) (by rw [hl]; decide)).mono ?_
 rintro e w' ⟨r,rfl,hr,hb⟩
 rw [hf]
 rw [hg] at hr
 have hr2:OwnB w.heap.size w' r d:=hr
 obtain ⟨ra,rc,he,_,_⟩:=hr2.shape
 rw [hn] at he
 subst he
 exact ⟨ra,rc,rfl,hr2.base (Nat.zero_le _),hb⟩
theorem few_of_chk {S:List (List UInt8)} {C:List (Int × List UInt8)} (h:chkB S C=true):FewD S C:=by
 obtain ⟨h1,h2,h3,h4⟩:=chk_true.1 h
 exact ⟨by omega,by omega,fun l hl=>by rw [h3 l hl]; decide,fun x hx=>by rw [(h4 x hx).2.2]; decide⟩
set_option maxHeartbeats 2000000 in
set_option maxRecDepth 100000 in
theorem blkWrite_any (v sv cv:Value) (l d:List UInt8) (S:List (List UInt8)) (C:List (Int × List UInt8)) (p s:Nat) (F:Int) (w:World) (hv:OwnB 0 w v l) (hd:DK w sv cv S C) (hk:chkB S C=true) (hl:l.length=1700) (hp:p+273≤1700) (hsd:Said l p s d) (hs:s < 256) (hF:wFault S C (s:Nat) 256=F) :
 Calls Tryz.prog 55 #[.agg #[v],.agg #[sv,cv],.agg #[.int .i64 (p:Nat),.int .i64 16,.bool false],.agg #[.int .i64 (((p:Nat):Int)+16),.int .i64 256,.bool false]] w fun e w'=>∃ sa sn sc ca cn cc,e=.returned (.tuple #[.agg #[.slice sa sn sc,.slice ca cn cc],.int .i64 F])∧DK w' (.slice sa sn sc) (.slice ca cn cc) S (writeOf S C (s:Nat) d)∧Below w.heap.size w w':=by
 obtain ⟨ma,mc,rfl,hx,hy⟩:=hv.shape
 clear hx hy
 rw [hl] at hv ⊢
 obtain ⟨a0,n0,k0,a1,n1,k1,rfl,rfl,hx,hy⟩:=hd.shape
 clear hx hy
 have zRM:w.heap.size=w.heap.size:=rfl
 have bRM:Below w.heap.size w (w.alloc (.cells #[.slice ma 1700 mc] 24)):=(Below.refl _ _).alloc (Nat.le_refl _) _
 have zRD:(w.alloc (.cells #[.slice ma 1700 mc] 24)).heap.size=w.heap.size+1:=by simp
 have bRD:Below w.heap.size w ((w.alloc (.cells #[.slice ma 1700 mc] 24)).alloc (.cells #[.slice a0 n0 k0,.slice a1 n1 k1] 41)):=bRM.alloc (by rw [zRD]; omega) _
 have zRH:((w.alloc (.cells #[.slice ma 1700 mc] 24)).alloc (.cells #[.slice a0 n0 k0,.slice a1 n1 k1] 41)).heap.size=w.heap.size+1+1:=by simp
 have bRH:Below w.heap.size w (((w.alloc (.cells #[.slice ma 1700 mc] 24)).alloc (.cells #[.slice a0 n0 k0,.slice a1 n1 k1] 41)).alloc (.cells #[.int .i64 (p:Nat),.int .i64 16,.bool false] 80)):=bRD.alloc (by rw [zRH]; omega) _
 have zRT:(((w.alloc (.cells #[.slice ma 1700 mc] 24)).alloc (.cells #[.slice a0 n0 k0,.slice a1 n1 k1] 41)).alloc (.cells #[.int .i64 (p:Nat),.int .i64 16,.bool false] 80)).heap.size=w.heap.size+1+1+1:=by simp
 have bRT:Below w.heap.size w ((((w.alloc (.cells #[.slice ma 1700 mc] 24)).alloc (.cells #[.slice a0 n0 k0,.slice a1 n1 k1] 41)).alloc (.cells #[.int .i64 (p:Nat),.int .i64 16,.bool false] 80)).alloc (.cells #[.int .i64 (((p:Nat):Int)+16),.int .i64 256,.bool false] 80)):=bRH.alloc (by rw [zRT]; omega) _
 have zRZ:((((w.alloc (.cells #[.slice ma 1700 mc] 24)).alloc (.cells #[.slice a0 n0 k0,.slice a1 n1 k1] 41)).alloc (.cells #[.int .i64 (p:Nat),.int .i64 16,.bool false] 80)).alloc (.cells #[.int .i64 (((p:Nat):Int)+16),.int .i64 256,.bool false] 80)).heap.size=w.heap.size+1+1+1+1:=by simp
 have bRZ:Below w.heap.size w (((((w.alloc (.cells #[.slice ma 1700 mc] 24)).alloc (.cells #[.slice a0 n0 k0,.slice a1 n1 k1] 41)).alloc (.cells #[.int .i64 (p:Nat),.int .i64 16,.bool false] 80)).alloc (.cells #[.int .i64 (((p:Nat):Int)+16),.int .i64 256,.bool false] 80)).alloc (.cells #[.slice none 0 0,.slice none 0 0] 41)):=bRT.alloc (by rw [zRZ]; omega) _
 have tRM:=heap_alloc_new w (.cells #[.slice ma 1700 mc] 24)
 rw [zRM] at tRM
 have RM:=Zh (row_new (row_new (row_new (row_new tRM (.cells #[.slice a0 n0 k0,.slice a1 n1 k1] 41)) (.cells #[.int .i64 (p:Nat),.int .i64 16,.bool false] 80)) (.cells #[.int .i64 (((p:Nat):Int)+16),.int .i64 256,.bool false] 80)) (.cells #[.slice none 0 0,.slice none 0 0] 41))
 have tRD:=heap_alloc_new (w.alloc (.cells #[.slice ma 1700 mc] 24)) (.cells #[.slice a0 n0 k0,.slice a1 n1 k1] 41)
 rw [zRD] at tRD
 have RD:=Zh (row_new (row_new (row_new tRD (.cells #[.int .i64 (p:Nat),.int .i64 16,.bool false] 80)) (.cells #[.int .i64 (((p:Nat):Int)+16),.int .i64 256,.bool false] 80)) (.cells #[.slice none 0 0,.slice none 0 0] 41))
 have tRH:=heap_alloc_new ((w.alloc (.cells #[.slice ma 1700 mc] 24)).alloc (.cells #[.slice a0 n0 k0,.slice a1 n1 k1] 41)) (.cells #[.int .i64 (p:Nat),.int .i64 16,.bool false] 80)
 rw [zRH] at tRH
 have RH:=Zh (row_new (row_new tRH (.cells #[.int .i64 (((p:Nat):Int)+16),.int .i64 256,.bool false] 80)) (.cells #[.slice none 0 0,.slice none 0 0] 41))
 have tRT:=heap_alloc_new (((w.alloc (.cells #[.slice ma 1700 mc] 24)).alloc (.cells #[.slice a0 n0 k0,.slice a1 n1 k1] 41)).alloc (.cells #[.int .i64 (p:Nat),.int .i64 16,.bool false] 80)) (.cells #[.int .i64 (((p:Nat):Int)+16),.int .i64 256,.bool false] 80)
 rw [zRT] at tRT
 have RT:=Zh (row_new tRT (.cells #[.slice none 0 0,.slice none 0 0] 41))
 have tRZ:=heap_alloc_new ((((w.alloc (.cells #[.slice ma 1700 mc] 24)).alloc (.cells #[.slice a0 n0 k0,.slice a1 n1 k1] 41)).alloc (.cells #[.int .i64 (p:Nat),.int .i64 16,.bool false] 80)).alloc (.cells #[.int .i64 (((p:Nat):Int)+16),.int .i64 256,.bool false] 80)) (.cells #[.slice none 0 0,.slice none 0 0] 41)
 rw [zRZ] at tRZ
 have RZ:=Zh tRZ
 have BW:=Zh bRZ
 have AV:=Zh (hv.below BW.out)
 have DD:=Zh (hd.below BW.out)
 have HK:=Zh hk
 have HL:=Zh hl
 have HS:=Zh hsd
 have HSS:=Zh hs
 have HF:=Zh hF
 have HP:=Zh hp
 have hdl:d.length=256:=by rw [←hsd.data,List.length_take,List.length_drop]; omega
 have HDL:=Zh hdl
 have hm1:((s:Nat):Int) % 2147483648=(s:Nat):=Int.emod_eq_of_lt (by omega) (by omega)
 have hm2:Int.tmod ((s:Nat):Int) 2147483648=(s:Nat):=by rw [Int.tmod_eq_emod_of_nonneg (by omega)]; exact hm1
 have hw1:IntKind.u64.wrap ((s:Nat):Int)=(s:Nat):=IntWalk.u64_in _ (by omega)
 have hw2:IntKind.i64.wrap ((s:Nat):Int)=(s:Nat):=IntWalk.i64_in _ (by omega)
 clear hv hd hk hl hsd hF hdl tRM tRD tRH tRT tRZ zRM zRD zRH zRT zRZ bRM bRD bRH bRT bRZ
 obtain ⟨m0,mz⟩:=one_cell RM.out
 obtain ⟨⟨h0,h1,h2⟩,_⟩:=cells_three RH.out
 go_enter Tryz.func55,Tryz.ntmps55
 go_wp2_with fail
 refine (blkNum_this _ l (p+8) 8 s (((p:Nat):Int)+8) _ _ AV.out HL.out (by omega) rfl (by decide) (by omega) HS.out.sec).mono ?_
 rintro e w1 ⟨rfl,hb⟩
 replace RM:=Zk RM hb
 replace RD:=Zk RD hb
 replace RH:=Zk RH hb
 replace RT:=Zk RT hb
 replace RZ:=Zk RZ hb
 replace BW:=Zb BW hb
 replace AV:=Zh (AV.out.below hb)
 replace DD:=Zh (DD.out.below hb)
 clear hb m0 mz h0 h1 h2
 clear RH
 obtain ⟨m0,mz⟩:=one_cell RM.out
 obtain ⟨⟨h0,h1,h2⟩,_⟩:=cells_three RT.out
 go_wp2_with fail
 refine (blkGet_this _ l d (p+16) 256 (((p:Nat):Int)+16) _ _ AV.out HL.out (by omega) rfl (by omega) HS.out.data).mono ?_
 rintro e w2 ⟨ga,gc,rfl,hg,hb⟩
 replace RM:=Zk RM hb
 replace RD:=Zk RD hb
 replace RT:=Zk RT hb
 replace RZ:=Zk RZ hb
 replace BW:=Zb BW hb
 replace AV:=Zh (AV.out.below hb)
 replace DD:=Zh (DD.out.below hb)
 have AG:=Zh hg
 clear hb hg m0 mz h0 h1 h2
 clear RM RT AV
 obtain ⟨⟨d0,d1⟩,z0,z1⟩:=box_cells RD.out
 go_wp2_with fail
 refine (write_own _ _ S C _ DD.out.disk (few_of_chk HK.out) (s:Nat) _ d AG.out.arg (by rw [HDL.out]; decide) F (by rw [HDL.out]; exact HF.out)).mono ?_
 rintro e w3 ⟨sv,cv,B,rfl,ho,hb⟩
 have hdk:=dk_of_own ho
 obtain ⟨sa,sn,sc,ca,cn,cc,rfl,rfl,hx,hy⟩:=hdk.shape
 replace RD:=Zk RD hb
 replace RZ:=Zk RZ hb
 replace BW:=Zb BW hb
 replace DD:=Zh (DD.out.below hb)
 replace AG:=Zh (AG.out.below hb)
 have DN:=Zh hdk
 clear hx hy ho hb hdk d0 d1 z0 z1
 clear RD DD AG
 obtain ⟨⟨r0,r1⟩,y0,y1⟩:=box_cells RZ.out
 have hltz:=(Array.getElem?_eq_some_iff.1 RZ.out).1
 go_wp2
 refine bodyPost_ret (v:=.tuple #[.agg #[.slice sa sn sc,.slice ca cn cc],.int .i64 F]) (by simp [results,Tryz.results55,go_sem,r0,r1]) rfl ⟨_,_,_,_,_,_,rfl,?_,?_⟩
 · exact (DN.out.stay RZ.out (by decide) 0 _).stay (row_put RZ.out 0 _) (by decide) 1 _
 · exact (BW.out.setCell (p:=⟨w.heap.size+1+1+1+1,0,none⟩) (show w.heap.size≤w.heap.size+1+1+1+1 by omega) _).setCell (p:=⟨w.heap.size+1+1+1+1,1,none⟩) (show w.heap.size≤w.heap.size+1+1+1+1 by omega) _
def DskAt (W:World) (g:Nat) (S:List (List UInt8)) (C:List (Int × List UInt8)):Prop:=∃ sa sn sc ca cn cc,W.heap[g]? = some (.cells #[.slice sa sn sc,.slice ca cn cc] 41 (0,0))∧DK W (.slice sa sn sc) (.slice ca cn cc) S C
theorem DskAt.below {W W':World} {g:Nat} {S:List (List UInt8)} {C:List (Int × List UInt8)} (h:DskAt W g S C) (hb:Below W.heap.size W W'):DskAt W' g S C:=by
 obtain ⟨a,b,c,d,e,f,h1,h2⟩:=h
 exact ⟨a,b,c,d,e,f,row_keep h1 hb,h2.below hb⟩
theorem DskAt.stay {W:World} {g k:Nat} {S:List (List UInt8)} {C:List (Int × List UInt8)} {cs:Array Value} {t:TypeId} (h:DskAt W g S C) (hg:W.heap[k]? = some (.cells cs t (0,0))) (ht:((t:Nat)≠22∧(t:Nat)≠5∧(t:Nat)≠94)) (hne:k≠g) (j:Nat) (u:Value):DskAt (W.setCell ⟨k,j,none⟩ u) g S C:=by
 obtain ⟨a,b,c,d,e,f,h1,h2⟩:=h
 exact ⟨a,b,c,d,e,f,one_other h1 _ _ hne,h2.stay hg ht j u⟩
theorem one_cells {W:World} {g k:Nat} {i j m:Nat} {a b c u v:Value} (h:W.cell? ⟨g,i,none⟩=some a∧W.cell? ⟨g,j,none⟩=some b∧W.cell? ⟨g,m,none⟩=some c) (hne:g≠k):((W.setCell ⟨k,0,none⟩ u).setCell ⟨k,1,none⟩ v).cell? ⟨g,i,none⟩=some a∧((W.setCell ⟨k,0,none⟩ u).setCell ⟨k,1,none⟩ v).cell? ⟨g,j,none⟩=some b∧((W.setCell ⟨k,0,none⟩ u).setCell ⟨k,1,none⟩ v).cell? ⟨g,m,none⟩=some c :=
 ⟨held_off hne (held_off hne h.1 _) _,held_off hne (held_off hne h.2.1 _) _,held_off hne (held_off hne h.2.2 _) _⟩
structure BlkObeyA where
 (b0 b1 b2 b3 b4 b5 b6 b7 b8 b9 b10:Bool)
 (s12 s13 s14 s15 s16 s17 s11 s18 s19 s9 s10:Value)
structure BlkObeyB where
 (b0 b1 b2 b3 b4 b5 b6 b7 b8 b9 b10 b11 b12 b13:Bool)
 (s41 s42 s43 s44 s45 s46 s47 s48 s49 s40 s50 s51 s8:Value)
set_option maxHeartbeats 2000000 in
set_option maxRecDepth 100000 in
theorem obey_any (v sv cv bv:Value) (l d:List UInt8) (S:List (List UInt8)) (C:List (Int × List UInt8)) (p s:Nat) (F st:Int) (w:World) (hv:OwnB 0 w v l) (hd:DK w sv cv S C) (hbf:OwnBf 0 w bv (bsW p)) (hk:chkB S C=true) (hl:l.length=1700) (hp:p+273≤1700) (hsd:Said l p s d) (hs:s < 256) (hF:wFault S C (s:Nat) 256=F) (hst:(if F=0 then (0:Int) else 1)=st) :
 Calls Tryz.prog 26 #[.agg #[v],.agg #[sv,cv],bv] w fun e w'=>∃ sa sn sc ca cn cc,e=.returned (.tuple #[.agg #[.slice sa sn sc,.slice ca cn cc],.int .i64 st])∧DK w' (.slice sa sn sc) (.slice ca cn cc) S (writeOf S C (s:Nat) d)∧Below w.heap.size w w':=by
 obtain ⟨ma,mc,rfl,hx,hy⟩:=hv.shape
 clear hx hy
 rw [hl] at hv ⊢
 obtain ⟨a0,n0,k0,a1,n1,k1,rfl,rfl,hx,hy⟩:=hd.shape
 clear hx hy
 obtain ⟨ba,bc,rfl,hx,hy⟩:=hbf.shape
 clear hx hy
 rw [show (bsW p).length=3 from rfl] at hbf ⊢
 obtain ⟨gb,rfl,hgb⟩:=hbf.lie (by simp [bsW])
 have zRM:w.heap.size=w.heap.size:=rfl
 have bRM:Below w.heap.size w (w.alloc (.cells #[.slice ma 1700 mc] 24)):=(Below.refl _ _).alloc (Nat.le_refl _) _
 have zRD:(w.alloc (.cells #[.slice ma 1700 mc] 24)).heap.size=w.heap.size+1:=by simp
 have bRD:Below w.heap.size w ((w.alloc (.cells #[.slice ma 1700 mc] 24)).alloc (.cells #[.slice a0 n0 k0,.slice a1 n1 k1] 41)):=bRM.alloc (by rw [zRD]; omega) _
 have zRZ:((w.alloc (.cells #[.slice ma 1700 mc] 24)).alloc (.cells #[.slice a0 n0 k0,.slice a1 n1 k1] 41)).heap.size=w.heap.size+1+1:=by simp
 have bRZ:Below w.heap.size w (((w.alloc (.cells #[.slice ma 1700 mc] 24)).alloc (.cells #[.slice a0 n0 k0,.slice a1 n1 k1] 41)).alloc (.cells #[.slice none 0 0,.slice none 0 0] 41)):=bRD.alloc (by rw [zRZ]; omega) _
 have tRM:=heap_alloc_new w (.cells #[.slice ma 1700 mc] 24)
 rw [zRM] at tRM
 have RM:=Zh (row_new (row_new tRM (.cells #[.slice a0 n0 k0,.slice a1 n1 k1] 41)) (.cells #[.slice none 0 0,.slice none 0 0] 41))
 have tRD:=heap_alloc_new (w.alloc (.cells #[.slice ma 1700 mc] 24)) (.cells #[.slice a0 n0 k0,.slice a1 n1 k1] 41)
 rw [zRD] at tRD
 have RD:=Zh (row_new tRD (.cells #[.slice none 0 0,.slice none 0 0] 41))
 have tRZ:=heap_alloc_new ((w.alloc (.cells #[.slice ma 1700 mc] 24)).alloc (.cells #[.slice a0 n0 k0,.slice a1 n1 k1] 41)) (.cells #[.slice none 0 0,.slice none 0 0] 41)
 rw [zRZ] at tRZ
 have RZ:=Zh tRZ
 have BW:=Zh bRZ
 obtain ⟨x0,y0,z0,ex,f0,f1,f2⟩:=hbf.at 0 (by simp [bsW])
 cases ex
 obtain ⟨x1,y1,z1,ex,f3,f4,f5⟩:=hbf.at 1 (by simp [bsW])
 cases ex
 have C0:=Zh (show _∧_∧_ from ⟨kept (a:=⟨gb,0,none⟩) f0 BW.out,kept (a:=⟨gb,1,none⟩) f1 BW.out,kept (a:=⟨gb,2,none⟩) f2 BW.out⟩)
 have C1:=Zh (show _∧_∧_ from ⟨kept (a:=⟨gb,3,none⟩) f3 BW.out,kept (a:=⟨gb,4,none⟩) f4 BW.out,kept (a:=⟨gb,5,none⟩) f5 BW.out⟩)
 have AV:=Zh (hv.below BW.out)
 have DD:=Zh (hd.below BW.out)
 have HK:=Zh hk
 have HL:=Zh hl
 have HS:=Zh hsd
 have HSS:=Zh hs
 have HF:=Zh hF
 have HST:=Zh hst
 have HP:=Zh hp
 have HGB:=Zh hgb
 have HNUM:=Zh (show ∀ W,OwnB 0 W (.slice ma 1700 mc) l→Calls Tryz.prog 53 #[.agg #[.slice ma 1700 mc],.int .i64 (p:Nat),.int .i64 4] W fun e w2=>e=.returned (.tuple #[.int .u64 1,.int .i64 0])∧Below W.heap.size W w2 from fun W h=>blkNum_this _ l p 4 1 _ _ W h hl rfl rfl (by decide) (by omega) hsd.kind)
 clear hv hd hbf hk hl hsd hF hst hp hgb f0 f1 f2 f3 f4 f5 tRM tRD tRZ zRM zRD zRZ bRM bRD bRZ
 go_enter Tryz.func26,Tryz.ntmps26
 go_wp2_with fail
 obtain ⟨w0,hw0⟩:∃ x,x=(((w.alloc (.cells #[.slice ma 1700 mc] 24)).alloc (.cells #[.slice a0 n0 k0,.slice a1 n1 k1] 41)).alloc (.cells #[.slice none 0 0,.slice none 0 0] 41)):=⟨_,rfl⟩
 rw [←hw0] at C0 C1 RM RD RZ BW AV DD ⊢
 clear hw0
 refine wp_region_rec (X:=BlkObeyA) (by kernel_rfl) (by kernel_rfl) (fun x=>#[x.b0,x.b1,x.b2,x.b3,x.b4,x.b5,x.b6,x.b7,x.b8,x.b9,x.b10]) (fun x=>{ tmps:=List.toArray ((.agg #[.slice ma 1700 mc])::(.agg #[.slice a0 n0 k0,.slice a1 n1 k1])::(.slice (some ⟨gb,0,none⟩) 3 bc)::(.pointer (some ⟨w.heap.size,0,none⟩))::(.pointer (some ⟨w.heap.size+1,0,none⟩))::undef::(.pointer (some ⟨w.heap.size+1+1,0,none⟩))::(.int .i64 0)::(.int .i64 2)::x.s9::x.s10::x.s11::x.s12::x.s13::x.s14::x.s15::x.s16::x.s17::x.s18::x.s19::undef::undef::undef::undef::undef::undef::undef::undef::undef::undef::undef::undef::undef::undef::undef::undef::undef::undef::undef::undef::undef::undef::undef::undef::undef::undef::undef::undef::undef::undef::undef::undef::undef::undef::undef::undef::undef::undef::[]),defers:=[] }) (fun x W=>(x.b0→x.s12=.agg #[.slice ma 1700 mc])∧(x.b1→x.s13=.slice (some ⟨gb,0,none⟩) 3 bc)∧(x.b2→x.s14=.pointer (some ⟨gb,0,none⟩))∧(x.b3→x.s15=.pointer (some ⟨gb,0,none⟩))∧(x.b4→x.s16=.int .i64 (p:Nat))∧(x.b5→x.s17=.tuple #[.int .u64 1,.int .i64 0])∧(x.b6→x.s11=.tuple #[.int .u64 1,.int .i64 0])∧(x.b7→x.s18=.int .u64 1)∧(x.b8→x.s19=.int .i64 0)∧(x.b9→x.s9=.int .u64 1)∧(x.b10→x.s10=.int .i64 0)∧(W.heap[w.heap.size]? = some (.cells #[.slice ma 1700 mc] 24 (0,0)))∧(W.heap[w.heap.size+1]? = some (.cells #[.slice a0 n0 k0,.slice a1 n1 k1] 41 (0,0)))∧(W.heap[w.heap.size+1+1]? = some (.cells #[.slice none 0 0,.slice none 0 0] 41 (0,0)))∧(Below w.heap.size w W)∧(W.cell? ⟨gb,0,none⟩=some (.int .i64 (p:Nat))∧W.cell? ⟨gb,1,none⟩=some (.int .i64 16)∧W.cell? ⟨gb,2,none⟩=some (.bool false))∧(W.cell? ⟨gb,3,none⟩=some (.int .i64 (((p:Nat):Int)+16))∧W.cell? ⟨gb,4,none⟩=some (.int .i64 256)∧W.cell? ⟨gb,5,none⟩=some (.bool false))∧(OwnB 0 W (.slice ma 1700 mc) l)∧(DK W (.slice a0 n0 k0) (.slice a1 n1 k1) S C)) ⟨false,false,false,false,false,false,false,false,false,false,false,undef,undef,undef,undef,undef,undef,undef,undef,undef,undef,undef⟩ rfl rfl ⟨Zf,Zf,Zf,Zf,Zf,Zf,Zf,Zf,Zf,Zf,Zf,RM.out,RD.out,RZ.out,BW.out.drew,C0.out,C1.out,AV.out.drew,DD.out.drew⟩ (fun _=>rfl) ?hstep ?hdone
 case hstep =>
  rintro ⟨b0,b1,b2,b3,b4,b5,b6,b7,b8,b9,b10,s12,s13,s14,s15,s16,s17,s11,s18,s19,s9,s10⟩ W hI i hi
  dsimp only at hI hi ⊢
  have HI:=Zh hI
  clear hI
  rw [Region.ready,List.mem_filter,List.mem_range] at hi
  obtain ⟨hlt,hp⟩:=hi
  have hi7:i=0∨i=1∨i=2∨i=3∨i=4∨i=5∨i=6∨i=7∨i=8∨i=9∨i=10:=by simp at hlt; omega
  clear hlt
  rcases hi7 with rfl|rfl|rfl|rfl|rfl|rfl|rfl|rfl|rfl|rfl|rfl
  all_goals simp [Region.binds] at hp
  · obtain rfl:b0=false:=by revert hp; cases b0 <;> simp
    clear hp; refine Zv 12 fun K' hK'=>?_
    have rM:=(Ze HI.out).2.2.2.1
    obtain ⟨hc0,_⟩:=at_cell rM 0 _ rfl
    go_simp
    exact hK'.out _ _ ⟨.mk ..,rfl,rfl,(Upd (fun _=>rfl)) HI.out⟩
  · obtain rfl:b1=false:=by revert hp; cases b1 <;> simp
    clear hp; refine Zv 13 fun K' hK'=>?_
    go_simp
    exact hK'.out _ _ ⟨.mk ..,rfl,rfl,Nxt (Upd (fun _=>rfl)) HI.out⟩
  · obtain ⟨rfl,e1⟩:b2=false∧b1=true:=by revert hp; cases b2 <;> cases b1 <;> simp
    clear hp
    obtain rfl:=(HI.out.2.1) e1
    refine Zv 14 fun K' hK'=>?_
    go_simp
    exact hK'.out _ _ ⟨.mk ..,rfl,rfl,Nxt (Nxt (Upd (fun _=>rfl))) HI.out⟩
  · obtain ⟨rfl,e2⟩:b3=false∧b2=true:=by revert hp; cases b3 <;> cases b2 <;> simp
    clear hp
    obtain rfl:=(HI.out.2.2.1) e2
    refine Zv 15 fun K' hK'=>?_
    go_simp
    exact hK'.out _ _ ⟨.mk ..,rfl,rfl,Nxt (Nxt (Nxt (Upd (fun _=>rfl)))) HI.out⟩
  · obtain ⟨rfl,e3⟩:b4=false∧b3=true:=by revert hp; cases b4 <;> cases b3 <;> simp
    clear hp
    obtain rfl:=(HI.out.2.2.2.1) e3
    refine Zv 16 fun K' hK'=>?_
    have gC0:=(Zd (Ze HI.out)).2.2.2.1
    obtain ⟨c0,c1,c2⟩:=gC0
    go_simp
    exact hK'.out _ _ ⟨.mk ..,rfl,rfl,Nx4 (Upd (fun _=>rfl)) HI.out⟩
  · obtain ⟨rfl,e0,e4⟩:b5=false∧b0=true∧b4=true:=by revert hp; cases b5 <;> cases b0 <;> cases b4 <;> simp
    clear hp
    obtain rfl:=(HI.out.1) e0
    obtain rfl:=((Zd HI.out).1) e4
    refine Zv 17 fun K' hK'=>?_
    have gV:=(Zg HI.out).2.1
    go_simp
    refine (HNUM.out W gV).mono ?_
    rintro e w2 ⟨rfl,bn⟩
    obtain ⟨h0,h1,h2,h3,h4,h5,h6,h7,h8,h9,h10,rM,rD,rZ,gB,gC0,gC1,gV,gD⟩:=HI.out
    exact hK'.out _ _ ⟨.mk ..,rfl,rfl,h0,h1,h2,h3,h4,(fun _=>rfl),h6,h7,h8,h9,h10,(row_keep rM bn),(row_keep rD bn),(row_keep rZ bn),(gB.trans (bn.mono gB.size)),⟨kept gC0.1 bn,kept gC0.2.1 bn,kept gC0.2.2 bn⟩,⟨kept gC1.1 bn,kept gC1.2.1 bn,kept gC1.2.2 bn⟩,(gV.below bn),(gD.below bn)⟩
  · obtain ⟨rfl,e5⟩:b6=false∧b5=true:=by revert hp; cases b6 <;> cases b5 <;> simp
    clear hp
    obtain rfl:=((Zd HI.out).2.1) e5
    refine Zv 11 fun K' hK'=>?_
    go_simp
    exact hK'.out _ _ ⟨.mk ..,rfl,rfl,Nxt (Nxt (Nx4 (Upd (fun _=>rfl)))) HI.out⟩
  · obtain ⟨rfl,e6⟩:b7=false∧b6=true:=by revert hp; cases b7 <;> cases b6 <;> simp
    clear hp
    obtain rfl:=((Zd HI.out).2.2.1) e6
    refine Zv 18 fun K' hK'=>?_
    go_simp
    exact hK'.out _ _ ⟨.mk ..,rfl,rfl,Nxt (Nxt (Nxt (Nx4 (Upd (fun _=>rfl))))) HI.out⟩
  · obtain ⟨rfl,e6⟩:b8=false∧b6=true:=by revert hp; cases b8 <;> cases b6 <;> simp
    clear hp
    obtain rfl:=((Zd HI.out).2.2.1) e6
    refine Zv 19 fun K' hK'=>?_
    go_simp
    exact hK'.out _ _ ⟨.mk ..,rfl,rfl,Nx4 (Nx4 (Upd (fun _=>rfl))) HI.out⟩
  · obtain ⟨rfl,e7,e5⟩:b9=false∧b7=true∧b5=true:=by revert hp; cases b9 <;> cases b7 <;> cases b5 <;> simp
    clear hp
    obtain rfl:=((Zd HI.out).2.2.2.1) e7
    refine Zv 9 fun K' hK'=>?_
    go_simp
    exact hK'.out _ _ ⟨.mk ..,rfl,rfl,Nxt (Nx4 (Nx4 (Upd (fun _=>rfl)))) HI.out⟩
  · obtain ⟨rfl,e8,e9⟩:b10=false∧b8=true∧b9=true:=by revert hp; cases b10 <;> cases b8 <;> cases b9 <;> simp
    clear hp
    obtain rfl:=((Ze HI.out).1) e8
    refine Zv 10 fun K' hK'=>?_
    go_simp
    exact hK'.out _ _ ⟨.mk ..,rfl,rfl,Nxt (Nxt (Nx4 (Nx4 (Upd (fun _=>rfl))))) HI.out⟩
 case hdone =>
  rintro ⟨b0,b1,b2,b3,b4,b5,b6,b7,b8,b9,b10,s12,s13,s14,s15,s16,s17,s11,s18,s19,s9,s10⟩ W hI hall
  dsimp only at hI hall ⊢
  have HI:=Zh hI
  clear hI
  obtain rfl:b0=true:=hall 0 (by decide)
  obtain rfl:b1=true:=hall 1 (by decide)
  obtain rfl:b2=true:=hall 2 (by decide)
  obtain rfl:b3=true:=hall 3 (by decide)
  obtain rfl:b4=true:=hall 4 (by decide)
  obtain rfl:b5=true:=hall 5 (by decide)
  obtain rfl:b6=true:=hall 6 (by decide)
  obtain rfl:b7=true:=hall 7 (by decide)
  obtain rfl:b8=true:=hall 8 (by decide)
  obtain rfl:b9=true:=hall 9 (by decide)
  obtain rfl:b10=true:=hall 10 (by decide)
  obtain rfl:=((Ze HI.out).2.1) rfl
  obtain rfl:=((Ze HI.out).2.2.1) rfl
  have rM:=(Ze HI.out).2.2.2.1
  have rD:=(Zd (Ze HI.out)).1
  have rZ:=(Zd (Ze HI.out)).2.1
  have gB:=(Zd (Ze HI.out)).2.2.1
  have gC0:=(Zd (Ze HI.out)).2.2.2.1
  have gC1:=(Zg HI.out).1
  have gV:=(Zg HI.out).2.1
  have gD:=(Zg HI.out).2.2
  clear HI hall
  have RM:=Zh rM
  have RD:=Zh rD
  have RZ:=Zh rZ
  have BW:=Zh gB
  have C0:=Zh gC0
  have C1:=Zh gC1
  have AV:=Zh gV
  have DD:=Zh gD
  obtain ⟨c3,c4,c5⟩:=gC1
  clear rM rD rZ gB gC0 gV gD
  go_wp2_with fail
  obtain ⟨w1,hw1⟩:∃ x,x=W:=⟨_,rfl⟩
  rw [←hw1] at RM RD RZ BW C0 C1 AV DD ⊢
  clear hw1 c3 c4 c5
  refine wp_region_rec (X:=BlkObeyB) (by kernel_rfl) (by kernel_rfl) (fun x=>#[x.b0,x.b1,x.b2,x.b3,x.b4,x.b5,x.b6,x.b7,x.b8,x.b9,x.b10,x.b11,x.b12,x.b13]) (fun x=>{ tmps:=List.toArray ((.agg #[.slice ma 1700 mc])::(.agg #[.slice a0 n0 k0,.slice a1 n1 k1])::(.slice (some ⟨gb,0,none⟩) 3 bc)::(.pointer (some ⟨w.heap.size,0,none⟩))::(.pointer (some ⟨w.heap.size+1,0,none⟩))::undef::(.pointer (some ⟨w.heap.size+1+1,0,none⟩))::(.int .i64 0)::x.s8::(.int .u64 1)::(.int .i64 0)::s11::s12::s13::s14::s15::s16::s17::s18::s19::(.int .u64 1)::(.bool false)::(.bool false)::(.bool true)::(.bool true)::undef::undef::undef::undef::undef::(.slice (some ⟨gb,0,none⟩) 3 bc)::(.int .i64 3)::(.bool true)::(.bool true)::(.slice (some ⟨gb,0,none⟩) 3 bc)::(.pointer (some ⟨gb,3,none⟩))::(.pointer (some ⟨gb,4,none⟩))::(.int .i64 256)::(.bool true)::(.bool true)::x.s40::x.s41::x.s42::x.s43::x.s44::x.s45::x.s46::x.s47::x.s48::x.s49::x.s50::x.s51::undef::undef::undef::undef::undef::undef::[]),defers:=[] }) (fun x W=>(x.b0→x.s41=.agg #[.slice ma 1700 mc])∧(x.b1→x.s42=.agg #[.slice a0 n0 k0,.slice a1 n1 k1])∧(x.b2→x.s43=.slice (some ⟨gb,0,none⟩) 3 bc)∧(x.b3→x.s44=.pointer (some ⟨gb,0,none⟩))∧(x.b4→x.s45=.agg #[.int .i64 (p:Nat),.int .i64 16,.bool false])∧(x.b5→x.s46=.slice (some ⟨gb,0,none⟩) 3 bc)∧(x.b6→x.s47=.pointer (some ⟨gb,3,none⟩))∧(x.b7→x.s48=.agg #[.int .i64 (((p:Nat):Int)+16),.int .i64 256,.bool false])∧(x.b9→x.s40=x.s49)∧(x.b11→x.s51=.int .i64 F)∧(x.b13→x.s8=.int .i64 F)∧(x.b12→x.b1∧x.b8)∧(x.b9→x.b8)∧(x.b10→x.b8)∧(W.heap[w.heap.size]? = some (.cells #[.slice ma 1700 mc] 24 (0,0)))∧(x.b12=false→W.heap[w.heap.size+1]? = some (.cells #[.slice a0 n0 k0,.slice a1 n1 k1] 41 (0,0)))∧(W.heap[w.heap.size+1+1]? = some (.cells #[.slice none 0 0,.slice none 0 0] 41 (0,0)))∧(Below w.heap.size w W)∧(W.cell? ⟨gb,0,none⟩=some (.int .i64 (p:Nat))∧W.cell? ⟨gb,1,none⟩=some (.int .i64 16)∧W.cell? ⟨gb,2,none⟩=some (.bool false))∧(W.cell? ⟨gb,3,none⟩=some (.int .i64 (((p:Nat):Int)+16))∧W.cell? ⟨gb,4,none⟩=some (.int .i64 256)∧W.cell? ⟨gb,5,none⟩=some (.bool false))∧(OwnB 0 W (.slice ma 1700 mc) l)∧(x.b8=false→DK W (.slice a0 n0 k0) (.slice a1 n1 k1) S C)∧(x.b8→∃ xa xn xc ya yn yc,x.s49=.tuple #[.agg #[.slice xa xn xc,.slice ya yn yc],.int .i64 F]∧DK W (.slice xa xn xc) (.slice ya yn yc) S (writeOf S C (s:Nat) d))∧(x.b10→∃ xa xn xc ya yn yc,x.s50=.agg #[.slice xa xn xc,.slice ya yn yc]∧DK W (.slice xa xn xc) (.slice ya yn yc) S (writeOf S C (s:Nat) d))∧(x.b12→DskAt W (w.heap.size+1) S (writeOf S C (s:Nat) d))) ⟨false,false,false,false,false,false,false,false,false,false,false,false,false,false,undef,undef,undef,undef,undef,undef,undef,undef,undef,undef,undef,undef,.int .i64 2⟩ rfl rfl ⟨Zf,Zf,Zf,Zf,Zf,Zf,Zf,Zf,Zf,Zf,Zf,Zf,Zf,Zf,RM.out,(fun _=>RD.out),RZ.out,BW.out.drew,C0.out,C1.out,AV.out.drew,(fun _=>DD.out.drew),Zf,Zf,Zf⟩ (fun _=>rfl) ?hstep ?hdone
  case hstep =>
   rintro ⟨b0,b1,b2,b3,b4,b5,b6,b7,b8,b9,b10,b11,b12,b13,s41,s42,s43,s44,s45,s46,s47,s48,s49,s40,s50,s51,s8⟩ W hI i hi
   dsimp only at hI hi ⊢
   have HI:=Zh hI
   clear hI
   rw [Region.ready,List.mem_filter,List.mem_range] at hi
   obtain ⟨hlt,hp⟩:=hi
   have hi7:i=0∨i=1∨i=2∨i=3∨i=4∨i=5∨i=6∨i=7∨i=8∨i=9∨i=10∨i=11∨i=12∨i=13:=by simp at hlt; omega
   clear hlt
   rcases hi7 with rfl|rfl|rfl|rfl|rfl|rfl|rfl|rfl|rfl|rfl|rfl|rfl|rfl|rfl
   all_goals simp [Region.binds] at hp
   · obtain rfl:b0=false:=by revert hp; cases b0 <;> simp
     clear hp; refine Zv 41 fun K' hK'=>?_
     have rM:=(Zd (Ze HI.out)).2.2.1
     obtain ⟨hc0,_⟩:=at_cell rM 0 _ rfl
     go_simp
     exact hK'.out _ _ ⟨.mk ..,rfl,rfl,(Upd (fun _=>rfl)) HI.out⟩
   · obtain rfl:b1=false:=by revert hp; cases b1 <;> simp
     clear hp; refine Zv 42 fun K' hK'=>?_
     have gi12:=(Ze HI.out).2.2.2.1
     have rD0:=(Zd (Ze HI.out)).2.2.2.1
     obtain rfl:b12=false:=Zz fun e=>(gi12 e).1
     obtain ⟨hc0,_⟩:=at_cell (rD0 rfl) 0 _ rfl
     obtain ⟨hc1,_⟩:=at_cell (rD0 rfl) 1 _ rfl
     go_simp
     obtain ⟨h0,h1,h2,h3,h4,h5,h6,h7,h9,h11,h13,gi12,gi9,gi10,rM,rD0,rZ,gB,gC0,gC1,gV,gD,gP,gX,gS⟩:=HI.out
     exact hK'.out _ _ ⟨.mk ..,rfl,rfl,h0,(fun _=>rfl),h2,h3,h4,h5,h6,h7,h9,h11,h13,Zf,gi9,gi10,rM,rD0,rZ,gB,gC0,gC1,gV,gD,gP,gX,Zf⟩
   · obtain rfl:b2=false:=by revert hp; cases b2 <;> simp
     clear hp; refine Zv 43 fun K' hK'=>?_
     go_simp
     exact hK'.out _ _ ⟨.mk ..,rfl,rfl,Nxt (Nxt (Upd (fun _=>rfl))) HI.out⟩
   · obtain ⟨rfl,e2⟩:b3=false∧b2=true:=by revert hp; cases b3 <;> cases b2 <;> simp
     clear hp
     obtain rfl:=(HI.out.2.2.1) e2
     refine Zv 44 fun K' hK'=>?_
     go_simp
     exact hK'.out _ _ ⟨.mk ..,rfl,rfl,Nxt (Nxt (Nxt (Upd (fun _=>rfl)))) HI.out⟩
   · obtain ⟨rfl,e3⟩:b4=false∧b3=true:=by revert hp; cases b4 <;> cases b3 <;> simp
     clear hp
     obtain rfl:=(HI.out.2.2.2.1) e3
     refine Zv 45 fun K' hK'=>?_
     have gC0:=(Zg HI.out).2.2.1
     obtain ⟨c0,c1,c2⟩:=gC0
     go_simp
     exact hK'.out _ _ ⟨.mk ..,rfl,rfl,Nx4 (Upd (fun _=>rfl)) HI.out⟩
   · obtain rfl:b5=false:=by revert hp; cases b5 <;> simp
     clear hp; refine Zv 46 fun K' hK'=>?_
     go_simp
     exact hK'.out _ _ ⟨.mk ..,rfl,rfl,Nxt (Nx4 (Upd (fun _=>rfl))) HI.out⟩
   · obtain ⟨rfl,e5⟩:b6=false∧b5=true:=by revert hp; cases b6 <;> cases b5 <;> simp
     clear hp
     obtain rfl:=((Zd HI.out).2.1) e5
     refine Zv 47 fun K' hK'=>?_
     go_simp
     exact hK'.out _ _ ⟨.mk ..,rfl,rfl,Nxt (Nxt (Nx4 (Upd (fun _=>rfl)))) HI.out⟩
   · obtain ⟨rfl,e6⟩:b7=false∧b6=true:=by revert hp; cases b7 <;> cases b6 <;> simp
     clear hp
     obtain rfl:=((Zd HI.out).2.2.1) e6
     refine Zv 48 fun K' hK'=>?_
     have gC1:=(Zg HI.out).2.2.2.1
     obtain ⟨c0,c1,c2⟩:=gC1
     go_simp
     exact hK'.out _ _ ⟨.mk ..,rfl,rfl,Nxt (Nxt (Nxt (Nx4 (Upd (fun _=>rfl))))) HI.out⟩
   · have hn8:b8=false:=by revert hp; cases b8 <;> simp
     have e0:b0=true:=by revert hp; cases b0 <;> simp
     have e1:b1=true:=by revert hp; cases b1 <;> simp
     have e4:b4=true:=by revert hp; cases b4 <;> simp
     have e7:b7=true:=by revert hp; cases b7 <;> simp
     clear hp
     obtain rfl:=(HI.out.1) e0
     obtain rfl:=(HI.out.2.1) e1
     obtain rfl:=((Zd HI.out).1) e4
     obtain rfl:=((Zd HI.out).2.2.2.1) e7
     subst hn8
     refine Zv 49 fun K' hK'=>?_
     have gi12:=(Ze HI.out).2.2.2.1
     have gi9:=(Zd (Ze HI.out)).1
     have gi10:=(Zd (Ze HI.out)).2.1
     have gV:=(Zd (Zg HI.out)).1
     have gD:=(Zd (Zg HI.out)).2.1
     obtain rfl:b12=false:=Zz fun e=>(gi12 e).2
     obtain rfl:b9=false:=Zz fun e=>(gi9 e)
     obtain rfl:b10=false:=Zz fun e=>(gi10 e)
     go_simp
     refine (blkWrite_any _ _ _ l d S C p s F W gV (gD rfl) HK.out HL.out HP.out HS.out HSS.out HF.out).mono ?_
     rintro e w2 ⟨xa,xn,xc,ya,yn,yc,rfl,hdk,bn⟩
     obtain ⟨h0,h1,h2,h3,h4,h5,h6,h7,h9,h11,h13,gi12,gi9,gi10,rM,rD0,rZ,gB,gC0,gC1,gV,gD,gP,gX,gS⟩:=HI.out
     exact hK'.out _ _ ⟨.mk ..,rfl,rfl,h0,h1,h2,h3,h4,h5,h6,h7,(fun e=>by cases ((gi9 e))),h11,h13,Zf,Zf,Zf,(row_keep rM bn),(fun e=>row_keep (rD0 e) bn),(row_keep rZ bn),(gB.trans (bn.mono gB.size)),⟨kept gC0.1 bn,kept gC0.2.1 bn,kept gC0.2.2 bn⟩,⟨kept gC1.1 bn,kept gC1.2.1 bn,kept gC1.2.2 bn⟩,(gV.below bn),Zf,(fun _=>⟨_,_,_,_,_,_,rfl,hdk⟩),Zf,Zf⟩
   · obtain ⟨rfl,e8⟩:b9=false∧b8=true:=by revert hp; cases b9 <;> cases b8 <;> simp
     clear hp; refine Zv 40 fun K' hK'=>?_
     go_simp
     exact hK'.out _ _ ⟨.mk ..,rfl,rfl,Nx4 (Nx4 (Nx4 (Upd (fun _=>e8)))) (Nx4 (Nx4 (Upd (fun _=>rfl))) HI.out)⟩
   · obtain ⟨rfl,e9⟩:b10=false∧b9=true:=by revert hp; cases b10 <;> cases b9 <;> simp
     clear hp
     obtain rfl:=((Ze HI.out).1) e9
     refine Zv 50 fun K' hK'=>?_
     have gi9:=(Zd (Ze HI.out)).1
     have gP:=(Zd (Zg HI.out)).2.2.1
     obtain ⟨xa,xn,xc,ya,yn,yc,rfl,hp⟩:=gP ((gi9 e9))
     go_simp
     obtain ⟨h0,h1,h2,h3,h4,h5,h6,h7,h9,h11,h13,gi12,gi9,gi10,rM,rD0,rZ,gB,gC0,gC1,gV,gD,gP,gX,gS⟩:=HI.out
     exact hK'.out _ _ ⟨.mk ..,rfl,rfl,h0,h1,h2,h3,h4,h5,h6,h7,h9,h11,h13,gi12,gi9,(fun _=>(gi9 e9)),rM,rD0,rZ,gB,gC0,gC1,gV,gD,(fun _=>⟨_,_,_,_,_,_,rfl,hp⟩),(fun _=>⟨_,_,_,_,_,_,rfl,hp⟩),gS⟩
   · obtain ⟨rfl,e9⟩:b11=false∧b9=true:=by revert hp; cases b11 <;> cases b9 <;> simp
     clear hp
     obtain rfl:=((Ze HI.out).1) e9
     refine Zv 51 fun K' hK'=>?_
     have gi9:=(Zd (Ze HI.out)).1
     have gP:=(Zd (Zg HI.out)).2.2.1
     obtain ⟨xa,xn,xc,ya,yn,yc,rfl,hp⟩:=gP ((gi9 e9))
     go_simp
     exact hK'.out _ _ ⟨.mk ..,rfl,rfl,Nxt (Nxt (Nx4 (Nx16 (Upd (fun _=>⟨_,_,_,_,_,_,rfl,hp⟩))))) (Nxt (Nx4 (Nx4 (Upd (fun _=>rfl)))) HI.out)⟩
   · have hn12:b12=false:=by revert hp; cases b12 <;> simp
     have e10:b10=true:=by revert hp; cases b10 <;> simp
     have e8:b8=true:=by revert hp; cases b8 <;> simp
     have e1:b1=true:=by revert hp; cases b1 <;> simp
     clear hp
     subst hn12
     refine inv_op (o:=⟨none,_,_,_,_,_⟩) rfl (fun K' hK'=>?_)
     have rD0:=(Zd (Ze HI.out)).2.2.2.1
     have gX:=(Zd (Zg HI.out)).2.2.2.1
     obtain ⟨xa,xn,xc,ya,yn,yc,rfl,hx⟩:=gX e10
     obtain ⟨hc0,hz0⟩:=at_cell (rD0 rfl) 0 _ rfl
     obtain ⟨hc1,hz1⟩:=at_cell (rD0 rfl) 1 _ rfl
     have hlt:=(Array.getElem?_eq_some_iff.1 (rD0 rfl)).1
     go_simp
     obtain ⟨h0,h1,h2,h3,h4,h5,h6,h7,h9,h11,h13,gi12,gi9,gi10,rM,rD0,rZ,gB,gC0,gC1,gV,gD,gP,gX,gS⟩:=HI.out
     exact hK'.out _ _ ⟨.mk ..,rfl,rfl,h0,h1,h2,h3,h4,h5,h6,h7,h9,h11,h13,(fun _=>⟨e1,e8⟩),gi9,gi10,(Zp2 rM (Zn rM (rD0 rfl))),Zf,(Zp2 rZ (show w.heap.size+1≠w.heap.size+1+1 by omega)),(Zu2 gB (show w.heap.size≤w.heap.size+1 by omega)),(one_cells gC0 (show gb≠w.heap.size+1 from by have:=HGB.out; omega)),(one_cells gC1 (show gb≠w.heap.size+1 from by have:=HGB.out; omega)),((gV.stay (rD0 rfl) (by decide) _ _).stay (Zr (rD0 rfl)) (by decide) _ _),(fun e=>((gD e).stay (rD0 rfl) (by decide) _ _).stay (Zr (rD0 rfl)) (by decide) 1 (.slice ya yn yc)),(fun e=>by obtain ⟨x1,x2,x3,x4,x5,x6,h1,h2⟩:=gP e; exact ⟨x1,x2,x3,x4,x5,x6,h1,(h2.stay (rD0 rfl) (by decide) _ _).stay (Zr (rD0 rfl)) (by decide) 1 (.slice ya yn yc)⟩),(fun _=>⟨_,_,_,_,_,_,rfl,(hx.stay (rD0 rfl) (by decide) _ _).stay (Zr (rD0 rfl)) (by decide) 1 (.slice ya yn yc)⟩),(fun _=>⟨_,_,_,_,_,_,row_put (Zr (rD0 rfl)) 1 (.slice ya yn yc),(hx.stay (rD0 rfl) (by decide) _ _).stay (Zr (rD0 rfl)) (by decide) 1 (.slice ya yn yc)⟩)⟩
   · obtain ⟨rfl,e11,e12⟩:b13=false∧b11=true∧b12=true:=by revert hp; cases b13 <;> cases b11 <;> cases b12 <;> simp
     clear hp
     obtain rfl:=((Ze HI.out).2.1) e11
     refine Zv 8 fun K' hK'=>?_
     go_simp
     exact hK'.out _ _ ⟨.mk ..,rfl,rfl,Nxt (Nxt (Nx4 (Nx4 (Upd (fun _=>rfl))))) HI.out⟩
  case hdone =>
   rintro ⟨b0,b1,b2,b3,b4,b5,b6,b7,b8,b9,b10,b11,b12,b13,s41,s42,s43,s44,s45,s46,s47,s48,s49,s40,s50,s51,s8⟩ W hI hall
   dsimp only at hI hall ⊢
   have HI:=Zh hI
   clear hI
   obtain rfl:b0=true:=hall 0 (by decide)
   obtain rfl:b1=true:=hall 1 (by decide)
   obtain rfl:b2=true:=hall 2 (by decide)
   obtain rfl:b3=true:=hall 3 (by decide)
   obtain rfl:b4=true:=hall 4 (by decide)
   obtain rfl:b5=true:=hall 5 (by decide)
   obtain rfl:b6=true:=hall 6 (by decide)
   obtain rfl:b7=true:=hall 7 (by decide)
   obtain rfl:b8=true:=hall 8 (by decide)
   obtain rfl:b9=true:=hall 9 (by decide)
   obtain rfl:b10=true:=hall 10 (by decide)
   obtain rfl:b11=true:=hall 11 (by decide)
   obtain rfl:b12=true:=hall 12 (by decide)
   obtain rfl:b13=true:=hall 13 (by decide)
   obtain rfl:=((Ze HI.out).2.2.1) rfl
   have gS:=(Ze (Zg HI.out))
   have rZ:=(Zg HI.out).1
   have gB:=(Zg HI.out).2.1
   clear HI hall
   obtain ⟨xa,xn,xc,ya,yn,yc,hrow,hdk⟩:=gS rfl
   have HROW:=Zh hrow
   have HDK:=Zh hdk
   have HZ:=Zh rZ
   have HB:=Zh gB
   obtain ⟨⟨p0,p1⟩,q0,q1⟩:=box_cells hrow
   obtain ⟨⟨r0,r1⟩,t0,t1⟩:=box_cells rZ
   have hltz:=(Array.getElem?_eq_some_iff.1 rZ).1
   clear hrow hdk rZ gB gS
   by_cases h0:F=0
   · subst h0
     have hst:=HST.out
     rw [if_pos rfl] at hst
     subst hst
     go_wp2
     refine bodyPost_ret (v:=.tuple #[.agg #[.slice xa xn xc,.slice ya yn yc],.int .i64 0]) (by simp [results,Tryz.results26,go_sem,r0,r1]) rfl ⟨_,_,_,_,_,_,rfl,?_,?_⟩
     · exact (HDK.out.stay HZ.out (by decide) 0 _).stay (row_put HZ.out 0 _) (by decide) 1 _
     · exact (HB.out.setCell (p:=⟨w.heap.size+1+1,0,none⟩) (show w.heap.size≤w.heap.size+1+1 by omega) _).setCell (p:=⟨w.heap.size+1+1,1,none⟩) (show w.heap.size≤w.heap.size+1+1 by omega) _
   · have e1:(F == 0)=false:=by rw [beq_eq_false_iff_ne]; exact h0
     have e2:(F != 0)=true:=by rw [bne_iff_ne]; exact h0
     have hst:=HST.out
     rw [if_neg h0] at hst
     subst hst
     have H0:=Zh h0
     clear h0
     go_wp2
     refine bodyPost_ret (v:=.tuple #[.agg #[.slice xa xn xc,.slice ya yn yc],.int .i64 1]) (by simp [results,Tryz.results26,go_sem,r0,r1]) rfl ⟨_,_,_,_,_,_,rfl,?_,?_⟩
     · exact (HDK.out.stay HZ.out (by decide) 0 _).stay (row_put HZ.out 0 _) (by decide) 1 _
     · exact (HB.out.setCell (p:=⟨w.heap.size+1+1,0,none⟩) (show w.heap.size≤w.heap.size+1+1 by omega) _).setCell (p:=⟨w.heap.size+1+1,1,none⟩) (show w.heap.size≤w.heap.size+1+1 by omega) _
def Served1 (l:List UInt8) (S:List (List UInt8)) (C C2:List (Int × List UInt8)) (bs:List QB) (y st:Nat):Prop :=
 (y≠0∧C2=C∧st=y)∨(y=0∧∃ (p s:Nat) (d:List UInt8) (F:Int),bs=bsW p∧p+273≤1700∧Said l p s d∧s < 256∧wFault S C (s:Nat) 256=F∧(if F=0 then (0:Int) else 1)=(st:Nat)∧C2=writeOf S C (s:Nat) d)
structure BlkServeA where
 (b0 b1 b2 b3 b4 b5 b6 b7 b8 b9 b10 b11 b12 b13 b14:Bool)
 (s53 s54 s55 s56 s57 s58 s59 s60 s61 s62 s63 s52 s64 s65:Value)
structure BlkServeB where
 (b0 b1 b2 b3 b4 b5 b6 b7:Bool)
 (s74 s75 s76 s77 s11:Value)
set_option maxHeartbeats 2000000 in
set_option maxRecDepth 100000 in
theorem serve_ok (v sv cv:Value) (l:List UInt8) (S:List (List UInt8)) (C C2:List (Int × List UInt8)) (ds:List Int) (bs:List QB) (se us idx hd n k pt y st:Nat) (xp z SE US SE2 US2 HD:Int) (xb:Bool) (w:World) (hv:OwnB 0 w v l) (hdk:DK w sv cv S C) (hk:chkB S C=true) (hR:Ready l se hd ds bs) (hse:se < 65536) (hus:us < 65536) (hix:numAt l (0+16 * 16+2) 2=idx) (hne:idx≠se) (hin:∀ x∈bs,InB 1700 x) (hn:bs.length=n) (hnk:n=k+1) (hk16:k < 16) (h0:bs[0]? = some (xp,16,xb)) (h1:bs[k]? = some (((pt:Nat):Int),1,true)) (hpt:pt+1≤1700) (hy:IntKind.u8.wrap z=(y:Nat)) (hy2:y < 256) (hst2:st < 256) (hsv:Served1 l S C C2 bs y st) (e1:((se:Nat):Int)=SE) (e2:((us:Nat):Int)=US) (e3:(((se+1) % 65536:Nat):Int)=SE2) (e4:(((us+1) % 65536:Nat):Int)=US2) (e5:((hd:Nat):Int)=HD) (hhd:hd≤2147483647) :
 Calls Tryz.prog 11 #[.agg #[v],.agg #[.int .i64 0,.int .i64 16,.int .u16 SE,.int .u16 US],.agg #[sv,cv],.int .i64 z] w fun e w'=>∃ ra rc sa sn sc ca cn cc,e=.returned (.tuple #[.agg #[.slice ra 1700 rc],.agg #[.int .i64 0,.int .i64 16,.int .u16 SE2,.int .u16 US2],.agg #[.slice sa sn sc,.slice ca cn cc],.int .i64 0])∧OwnB 0 w' (.slice ra 1700 rc) (returnD (putAt l pt 1 st) 0 16 us hd 1)∧DK w' (.slice sa sn sc) (.slice ca cn cc) S C2∧Below w.heap.size w w':=by
 obtain ⟨ma,mc,rfl,hx,hx2⟩:=hv.shape
 clear hx hx2
 rw [hR.len] at hv ⊢
 obtain ⟨a0,n0,k0,a1,n1,k1,rfl,rfl,hx,hx2⟩:=hdk.shape
 clear hx hx2
 have zRM:w.heap.size=w.heap.size:=rfl
 have bRM:Below w.heap.size w (w.alloc (.cells #[.slice ma 1700 mc] 24)):=(Below.refl _ _).alloc (Nat.le_refl _) _
 have zRS:(w.alloc (.cells #[.slice ma 1700 mc] 24)).heap.size=w.heap.size+1:=by simp
 have bRS:Below w.heap.size w ((w.alloc (.cells #[.slice ma 1700 mc] 24)).alloc (.cells #[.int .i64 0,.int .i64 16,.int .u16 SE,.int .u16 US] 45)):=bRM.alloc (by rw [zRS]; omega) _
 have zRD:((w.alloc (.cells #[.slice ma 1700 mc] 24)).alloc (.cells #[.int .i64 0,.int .i64 16,.int .u16 SE,.int .u16 US] 45)).heap.size=w.heap.size+1+1:=by simp
 have bRD:Below w.heap.size w (((w.alloc (.cells #[.slice ma 1700 mc] 24)).alloc (.cells #[.int .i64 0,.int .i64 16,.int .u16 SE,.int .u16 US] 45)).alloc (.cells #[.slice a0 n0 k0,.slice a1 n1 k1] 41)):=bRS.alloc (by rw [zRD]; omega) _
 have zRA:(((w.alloc (.cells #[.slice ma 1700 mc] 24)).alloc (.cells #[.int .i64 0,.int .i64 16,.int .u16 SE,.int .u16 US] 45)).alloc (.cells #[.slice a0 n0 k0,.slice a1 n1 k1] 41)).heap.size=w.heap.size+1+1+1:=by simp
 have bRA:Below w.heap.size w ((((w.alloc (.cells #[.slice ma 1700 mc] 24)).alloc (.cells #[.int .i64 0,.int .i64 16,.int .u16 SE,.int .u16 US] 45)).alloc (.cells #[.slice a0 n0 k0,.slice a1 n1 k1] 41)).alloc (.cells #[.slice none 0 0] 24)):=bRD.alloc (by rw [zRA]; omega) _
 have zRT:((((w.alloc (.cells #[.slice ma 1700 mc] 24)).alloc (.cells #[.int .i64 0,.int .i64 16,.int .u16 SE,.int .u16 US] 45)).alloc (.cells #[.slice a0 n0 k0,.slice a1 n1 k1] 41)).alloc (.cells #[.slice none 0 0] 24)).heap.size=w.heap.size+1+1+1+1:=by simp
 have bRT:Below w.heap.size w (((((w.alloc (.cells #[.slice ma 1700 mc] 24)).alloc (.cells #[.int .i64 0,.int .i64 16,.int .u16 SE,.int .u16 US] 45)).alloc (.cells #[.slice a0 n0 k0,.slice a1 n1 k1] 41)).alloc (.cells #[.slice none 0 0] 24)).alloc (.cells #[.int .i64 0,.int .i64 0,.int .u16 0,.int .u16 0] 45)):=bRA.alloc (by rw [zRT]; omega) _
 have zRZ:(((((w.alloc (.cells #[.slice ma 1700 mc] 24)).alloc (.cells #[.int .i64 0,.int .i64 16,.int .u16 SE,.int .u16 US] 45)).alloc (.cells #[.slice a0 n0 k0,.slice a1 n1 k1] 41)).alloc (.cells #[.slice none 0 0] 24)).alloc (.cells #[.int .i64 0,.int .i64 0,.int .u16 0,.int .u16 0] 45)).heap.size=w.heap.size+1+1+1+1+1:=by simp
 have bRZ:Below w.heap.size w ((((((w.alloc (.cells #[.slice ma 1700 mc] 24)).alloc (.cells #[.int .i64 0,.int .i64 16,.int .u16 SE,.int .u16 US] 45)).alloc (.cells #[.slice a0 n0 k0,.slice a1 n1 k1] 41)).alloc (.cells #[.slice none 0 0] 24)).alloc (.cells #[.int .i64 0,.int .i64 0,.int .u16 0,.int .u16 0] 45)).alloc (.cells #[.slice none 0 0,.slice none 0 0] 41)):=bRT.alloc (by rw [zRZ]; omega) _
 have tRM:=heap_alloc_new w (.cells #[.slice ma 1700 mc] 24)
 rw [zRM] at tRM
 have RM:=Zh (row_new (row_new (row_new (row_new (row_new tRM (.cells #[.int .i64 0,.int .i64 16,.int .u16 SE,.int .u16 US] 45)) (.cells #[.slice a0 n0 k0,.slice a1 n1 k1] 41)) (.cells #[.slice none 0 0] 24)) (.cells #[.int .i64 0,.int .i64 0,.int .u16 0,.int .u16 0] 45)) (.cells #[.slice none 0 0,.slice none 0 0] 41))
 have tRS:=heap_alloc_new (w.alloc (.cells #[.slice ma 1700 mc] 24)) (.cells #[.int .i64 0,.int .i64 16,.int .u16 SE,.int .u16 US] 45)
 rw [zRS] at tRS
 have RS:=Zh (row_new (row_new (row_new (row_new tRS (.cells #[.slice a0 n0 k0,.slice a1 n1 k1] 41)) (.cells #[.slice none 0 0] 24)) (.cells #[.int .i64 0,.int .i64 0,.int .u16 0,.int .u16 0] 45)) (.cells #[.slice none 0 0,.slice none 0 0] 41))
 have tRD:=heap_alloc_new ((w.alloc (.cells #[.slice ma 1700 mc] 24)).alloc (.cells #[.int .i64 0,.int .i64 16,.int .u16 SE,.int .u16 US] 45)) (.cells #[.slice a0 n0 k0,.slice a1 n1 k1] 41)
 rw [zRD] at tRD
 have RD:=Zh (row_new (row_new (row_new tRD (.cells #[.slice none 0 0] 24)) (.cells #[.int .i64 0,.int .i64 0,.int .u16 0,.int .u16 0] 45)) (.cells #[.slice none 0 0,.slice none 0 0] 41))
 have tRA:=heap_alloc_new (((w.alloc (.cells #[.slice ma 1700 mc] 24)).alloc (.cells #[.int .i64 0,.int .i64 16,.int .u16 SE,.int .u16 US] 45)).alloc (.cells #[.slice a0 n0 k0,.slice a1 n1 k1] 41)) (.cells #[.slice none 0 0] 24)
 rw [zRA] at tRA
 have RA:=Zh (row_new (row_new tRA (.cells #[.int .i64 0,.int .i64 0,.int .u16 0,.int .u16 0] 45)) (.cells #[.slice none 0 0,.slice none 0 0] 41))
 have tRT:=heap_alloc_new ((((w.alloc (.cells #[.slice ma 1700 mc] 24)).alloc (.cells #[.int .i64 0,.int .i64 16,.int .u16 SE,.int .u16 US] 45)).alloc (.cells #[.slice a0 n0 k0,.slice a1 n1 k1] 41)).alloc (.cells #[.slice none 0 0] 24)) (.cells #[.int .i64 0,.int .i64 0,.int .u16 0,.int .u16 0] 45)
 rw [zRT] at tRT
 have RT:=Zh (row_new tRT (.cells #[.slice none 0 0,.slice none 0 0] 41))
 have tRZ:=heap_alloc_new (((((w.alloc (.cells #[.slice ma 1700 mc] 24)).alloc (.cells #[.int .i64 0,.int .i64 16,.int .u16 SE,.int .u16 US] 45)).alloc (.cells #[.slice a0 n0 k0,.slice a1 n1 k1] 41)).alloc (.cells #[.slice none 0 0] 24)).alloc (.cells #[.int .i64 0,.int .i64 0,.int .u16 0,.int .u16 0] 45)) (.cells #[.slice none 0 0,.slice none 0 0] 41)
 rw [zRZ] at tRZ
 have RZ:=Zh tRZ
 have BW:=Zh bRZ
 have AV:=Zh (hv.below BW.out)
 have DD:=Zh (hdk.below BW.out)
 have HK:=Zh hk
 have HR:=Zh hR
 have HSE:=Zh hse
 have HUS:=Zh hus
 have HIX:=Zh hix
 have HNE:=Zh hne
 have HIN:=Zh hin
 have HN:=Zh hn
 have HNK:=Zh hnk
 have HK16:=Zh hk16
 have H0:=Zh h0
 have H1:=Zh h1
 have HPT:=Zh hpt
 have HY:=Zh hy
 have HY2:=Zh hy2
 have HST:=Zh hst2
 have HSV:=Zh hsv
 have E1:=Zh e1
 have E2:=Zh e2
 have E3:=Zh e3
 have E4:=Zh e4
 have E5:=Zh e5
 have HHD:=Zh hhd
 clear hv hdk hk hR hse hus hix hne hin hn hnk hk16 h0 h1 hpt hy hy2 hst2 hsv e1 e2 e3 e4 e5 hhd tRM tRS tRD tRA tRT tRZ zRM zRS zRD zRA zRT zRZ bRM bRS bRD bRA bRT bRZ
 obtain ⟨m0,mz⟩:=one_cell RM.out
 obtain ⟨⟨s0,s1,s2,s3⟩,x0,x1,x2,x3⟩:=cells_four RS.out
 go_enter Tryz.func11,Tryz.ntmps11
 go_wp2_with fail
 refine (next_this 16 0 se us idx hd _ l ds bs _ AV.out (ok1700 HR.out.len) HR.out.ch HR.out.dsin HR.out.dl (by rw [HN.out]; have:=HNK.out; omega) (by rw [HN.out]; have:=HNK.out; have:=HK16.out; omega) (by rw [HR.out.len]; exact HIN.out) HR.out.head HSE.out HIX.out HNE.out HR.out.at_ 0 16 SE US SE2 HD n rfl rfl E1.out E2.out E3.out E5.out HN.out).mono ?_
 rintro e w1 ⟨ba,bc,rfl,hbf,hb⟩
 replace RM:=Zk RM hb
 replace RS:=Zk RS hb
 replace RD:=Zk RD hb
 replace RA:=Zk RA hb
 replace RT:=Zk RT hb
 replace RZ:=Zk RZ hb
 replace BW:=Zb BW hb
 replace AV:=Zh (AV.out.below hb)
 replace DD:=Zh (DD.out.below hb)
 have BF:=Zh hbf
 clear hb hbf m0 mz s0 s1 s2 s3 x0 x1 x2 x3
 obtain ⟨⟨s0,s1,s2,s3⟩,x0,x1,x2,x3⟩:=cells_four RS.out
 have hlts:=(Array.getElem?_eq_some_iff.1 RS.out).1
 replace RM:=Zx RM RS 0 (.int .i64 0)
 replace RD:=Zx RD RS 0 (.int .i64 0)
 replace RA:=Zx RA RS 0 (.int .i64 0)
 replace RT:=Zh (one_other RT.out ⟨w.heap.size+1,0,none⟩ (.int .i64 0) (show w.heap.size+1≠w.heap.size+1+1+1+1 by omega))
 replace RZ:=Zx RZ RS 0 (.int .i64 0)
 replace BW:=Zh (BW.out.setCell (p:=⟨w.heap.size+1,0,none⟩) (show w.heap.size≤w.heap.size+1 by omega) (.int .i64 0))
 replace AV:=Zh (AV.out.stay RS.out (by decide) 0 (.int .i64 0))
 replace DD:=Zh (DD.out.stay RS.out (by decide) 0 (.int .i64 0))
 replace BF:=Zh (BF.out.stay RS.out (by decide) 0 (.int .i64 0))
 replace RS:=Zh (row_put RS.out 0 (.int .i64 0))
 replace RM:=Zx RM RS 1 (.int .i64 16)
 replace RD:=Zx RD RS 1 (.int .i64 16)
 replace RA:=Zx RA RS 1 (.int .i64 16)
 replace RT:=Zh (one_other RT.out ⟨w.heap.size+1,1,none⟩ (.int .i64 16) (show w.heap.size+1≠w.heap.size+1+1+1+1 by omega))
 replace RZ:=Zx RZ RS 1 (.int .i64 16)
 replace BW:=Zh (BW.out.setCell (p:=⟨w.heap.size+1,1,none⟩) (show w.heap.size≤w.heap.size+1 by omega) (.int .i64 16))
 replace AV:=Zh (AV.out.stay RS.out (by decide) 1 (.int .i64 16))
 replace DD:=Zh (DD.out.stay RS.out (by decide) 1 (.int .i64 16))
 replace BF:=Zh (BF.out.stay RS.out (by decide) 1 (.int .i64 16))
 replace RS:=Zh (row_put RS.out 1 (.int .i64 16))
 replace RM:=Zx RM RS 2 (.int .u16 SE2)
 replace RD:=Zx RD RS 2 (.int .u16 SE2)
 replace RA:=Zx RA RS 2 (.int .u16 SE2)
 replace RT:=Zh (one_other RT.out ⟨w.heap.size+1,2,none⟩ (.int .u16 SE2) (show w.heap.size+1≠w.heap.size+1+1+1+1 by omega))
 replace RZ:=Zx RZ RS 2 (.int .u16 SE2)
 replace BW:=Zh (BW.out.setCell (p:=⟨w.heap.size+1,2,none⟩) (show w.heap.size≤w.heap.size+1 by omega) (.int .u16 SE2))
 replace AV:=Zh (AV.out.stay RS.out (by decide) 2 (.int .u16 SE2))
 replace DD:=Zh (DD.out.stay RS.out (by decide) 2 (.int .u16 SE2))
 replace BF:=Zh (BF.out.stay RS.out (by decide) 2 (.int .u16 SE2))
 replace RS:=Zh (row_put RS.out 2 (.int .u16 SE2))
 replace RM:=Zx RM RS 3 (.int .u16 US)
 replace RD:=Zx RD RS 3 (.int .u16 US)
 replace RA:=Zx RA RS 3 (.int .u16 US)
 replace RT:=Zh (one_other RT.out ⟨w.heap.size+1,3,none⟩ (.int .u16 US) (show w.heap.size+1≠w.heap.size+1+1+1+1 by omega))
 replace RZ:=Zx RZ RS 3 (.int .u16 US)
 replace BW:=Zh (BW.out.setCell (p:=⟨w.heap.size+1,3,none⟩) (show w.heap.size≤w.heap.size+1 by omega) (.int .u16 US))
 replace AV:=Zh (AV.out.stay RS.out (by decide) 3 (.int .u16 US))
 replace DD:=Zh (DD.out.stay RS.out (by decide) 3 (.int .u16 US))
 replace BF:=Zh (BF.out.stay RS.out (by decide) 3 (.int .u16 US))
 replace RS:=Zh (row_put RS.out 3 (.int .u16 US))
 go_wp2_with fail
 refine (isRequest_in _ bs n k xp _ xb _ BF.out HN.out HNK.out HK16.out H0.out H1.out).mono ?_
 rintro e w2 ⟨rfl,hb⟩
 replace RM:=Zk RM hb
 replace RS:=Zk RS hb
 replace RD:=Zk RD hb
 replace RA:=Zk RA hb
 replace RT:=Zk RT hb
 replace RZ:=Zk RZ hb
 replace BW:=Zb BW hb
 replace AV:=Zh (AV.out.below hb)
 replace DD:=Zh (DD.out.below hb)
 replace BF:=Zh (BF.out.below hb)
 clear hb s0 s1 s2 s3 x0 x1 x2 x3 hlts
 replace RS:=Zh (show w2.heap[w.heap.size+1]? = some (.cells #[.int .i64 0,.int .i64 16,.int .u16 SE2,.int .u16 US] 45 (0,0)) from RS.out)
 have hy:=HY.out
 have hy9:IntKind.i64.wrap ((y:Nat):Int)=(y:Nat):=IntWalk.i64_in _ (by have:=HY2.out; omega)
 go_upto_if 42 with fail
 go_cut [3] (fun s wx=>s=.int .i64 (st:Nat)∧wx.heap[w.heap.size]? = some (.cells #[.slice ma 1700 mc] 24 (0,0))∧wx.heap[w.heap.size+1]? = some (.cells #[.int .i64 0,.int .i64 16,.int .u16 SE2,.int .u16 US] 45 (0,0))∧wx.heap[w.heap.size+1+1+1]? = some (.cells #[.slice none 0 0] 24 (0,0))∧wx.heap[w.heap.size+1+1+1+1]? = some (.cells #[.int .i64 0,.int .i64 0,.int .u16 0,.int .u16 0] 45 (0,0))∧wx.heap[w.heap.size+1+1+1+1+1]? = some (.cells #[.slice none 0 0,.slice none 0 0] 41 (0,0))∧OwnBf 0 wx (.slice ba n bc) bs∧OwnB 0 wx (.slice ma 1700 mc) l∧Below w.heap.size w wx∧DskAt wx (w.heap.size+1+1) S C2)
 case first =>
  rcases HSV.out with ⟨hy0,hC,hst⟩|⟨hy0,p,s,d,F,hbs,hp,hsd,hs,hF,hst,hC⟩
  · subst hC
    subst hst
    have hq0:(((st:Nat):Int) == 0)=false:=by rw [beq_eq_false_iff_ne]; omega
    have hq1:(st == 0)=false:=by rw [beq_eq_false_iff_ne]; exact hy0
    have HY0:=Zh hy0
    clear hy0
    obtain ⟨⟨d0,d1⟩,u0,u1⟩:=box_cells RD.out
    go_wp2_with fail
    refine (sameDisk_any _ _ S C2 _ DD.out HK.out).mono ?_
    rintro e w3 ⟨sa,sn,sc,ca,cn,cc,rfl,hdk,hx,hx2,hb⟩
    replace RM:=Zk RM hb
    replace RS:=Zk RS hb
    replace RD:=Zk RD hb
    replace RA:=Zk RA hb
    replace RT:=Zk RT hb
    replace RZ:=Zk RZ hb
    replace BW:=Zb BW hb
    replace AV:=Zh (AV.out.below hb)
    replace DD:=Zh (DD.out.below hb)
    replace BF:=Zh (BF.out.below hb)
    have DN:=Zh hdk
    clear hdk hb d0 d1 u0 u1 hx hx2
    clear DD
    obtain ⟨⟨d0,d1⟩,u0,u1⟩:=box_cells RD.out
    have hltd:=(Array.getElem?_eq_some_iff.1 RD.out).1
    replace RM:=Zx RM RD 0 (.slice sa sn sc)
    replace RS:=Zx RS RD 0 (.slice sa sn sc)
    replace RA:=Zx RA RD 0 (.slice sa sn sc)
    replace RT:=Zx RT RD 0 (.slice sa sn sc)
    replace RZ:=Zh (one_other RZ.out ⟨w.heap.size+1+1,0,none⟩ (.slice sa sn sc) (show w.heap.size+1+1≠w.heap.size+1+1+1+1+1 by omega))
    replace BW:=Zh (BW.out.setCell (p:=⟨w.heap.size+1+1,0,none⟩) (show w.heap.size≤w.heap.size+1+1 by omega) (.slice sa sn sc))
    replace AV:=Zh (AV.out.stay RD.out (by decide) 0 (.slice sa sn sc))
    replace BF:=Zh (BF.out.stay RD.out (by decide) 0 (.slice sa sn sc))
    replace DN:=Zh (DN.out.stay RD.out (by decide) 0 (.slice sa sn sc))
    replace RD:=Zh (row_put RD.out 0 (.slice sa sn sc))
    replace RM:=Zx RM RD 1 (.slice ca cn cc)
    replace RS:=Zx RS RD 1 (.slice ca cn cc)
    replace RA:=Zx RA RD 1 (.slice ca cn cc)
    replace RT:=Zx RT RD 1 (.slice ca cn cc)
    replace RZ:=Zh (one_other RZ.out ⟨w.heap.size+1+1,1,none⟩ (.slice ca cn cc) (show w.heap.size+1+1≠w.heap.size+1+1+1+1+1 by omega))
    replace BW:=Zh (BW.out.setCell (p:=⟨w.heap.size+1+1,1,none⟩) (show w.heap.size≤w.heap.size+1+1 by omega) (.slice ca cn cc))
    replace AV:=Zh (AV.out.stay RD.out (by decide) 1 (.slice ca cn cc))
    replace BF:=Zh (BF.out.stay RD.out (by decide) 1 (.slice ca cn cc))
    replace DN:=Zh (DN.out.stay RD.out (by decide) 1 (.slice ca cn cc))
    replace RD:=Zh (row_put RD.out 1 (.slice ca cn cc))
    go_wp2
    go_meet
    exact ⟨rfl,RM.out,RS.out,RA.out,RT.out,RZ.out,BF.out,AV.out,BW.out,sa,sn,sc,ca,cn,cc,RD.out,DN.out⟩
  · subst hC
    subst hy0
    subst hbs
    have HP:=Zh hp
    have HSD:=Zh hsd
    have HS2:=Zh hs
    have HF:=Zh hF
    have HST2:=Zh hst
    obtain ⟨m0,mz⟩:=one_cell RM.out
    obtain ⟨⟨d0,d1⟩,u0,u1⟩:=box_cells RD.out
    obtain rfl:n=3:=by have:=HN.out; simp [bsW] at this; omega
    clear hp hsd hs hF hst
    go_wp2_with fail
    refine (obey_any _ _ _ _ l d S C p s F (st:Nat) _ AV.out DD.out BF.out HK.out HR.out.len HP.out HSD.out HS2.out HF.out HST2.out).mono ?_
    rintro e w3 ⟨sa,sn,sc,ca,cn,cc,rfl,hdk,hb⟩
    replace RM:=Zk RM hb
    replace RS:=Zk RS hb
    replace RD:=Zk RD hb
    replace RA:=Zk RA hb
    replace RT:=Zk RT hb
    replace RZ:=Zk RZ hb
    replace BW:=Zb BW hb
    replace AV:=Zh (AV.out.below hb)
    replace DD:=Zh (DD.out.below hb)
    replace BF:=Zh (BF.out.below hb)
    have DN:=Zh hdk
    clear hdk hb d0 d1 u0 u1 m0 mz
    clear DD
    obtain ⟨⟨d0,d1⟩,u0,u1⟩:=box_cells RD.out
    have hltd:=(Array.getElem?_eq_some_iff.1 RD.out).1
    replace RM:=Zx RM RD 0 (.slice sa sn sc)
    replace RS:=Zx RS RD 0 (.slice sa sn sc)
    replace RA:=Zx RA RD 0 (.slice sa sn sc)
    replace RT:=Zx RT RD 0 (.slice sa sn sc)
    replace RZ:=Zh (one_other RZ.out ⟨w.heap.size+1+1,0,none⟩ (.slice sa sn sc) (show w.heap.size+1+1≠w.heap.size+1+1+1+1+1 by omega))
    replace BW:=Zh (BW.out.setCell (p:=⟨w.heap.size+1+1,0,none⟩) (show w.heap.size≤w.heap.size+1+1 by omega) (.slice sa sn sc))
    replace AV:=Zh (AV.out.stay RD.out (by decide) 0 (.slice sa sn sc))
    replace BF:=Zh (BF.out.stay RD.out (by decide) 0 (.slice sa sn sc))
    replace DN:=Zh (DN.out.stay RD.out (by decide) 0 (.slice sa sn sc))
    replace RD:=Zh (row_put RD.out 0 (.slice sa sn sc))
    replace RM:=Zx RM RD 1 (.slice ca cn cc)
    replace RS:=Zx RS RD 1 (.slice ca cn cc)
    replace RA:=Zx RA RD 1 (.slice ca cn cc)
    replace RT:=Zx RT RD 1 (.slice ca cn cc)
    replace RZ:=Zh (one_other RZ.out ⟨w.heap.size+1+1,1,none⟩ (.slice ca cn cc) (show w.heap.size+1+1≠w.heap.size+1+1+1+1+1 by omega))
    replace BW:=Zh (BW.out.setCell (p:=⟨w.heap.size+1+1,1,none⟩) (show w.heap.size≤w.heap.size+1+1 by omega) (.slice ca cn cc))
    replace AV:=Zh (AV.out.stay RD.out (by decide) 1 (.slice ca cn cc))
    replace BF:=Zh (BF.out.stay RD.out (by decide) 1 (.slice ca cn cc))
    replace DN:=Zh (DN.out.stay RD.out (by decide) 1 (.slice ca cn cc))
    replace RD:=Zh (row_put RD.out 1 (.slice ca cn cc))
    go_wp2
    go_meet
    exact ⟨rfl,RM.out,RS.out,RA.out,RT.out,RZ.out,BF.out,AV.out,BW.out,sa,sn,sc,ca,cn,cc,RD.out,DN.out⟩
 case rest =>
 obtain ⟨rfl,hm,hs,ha,ht,hz,hbf,hv,hb,sa,sn,sc,ca,cn,cc,hd,hdk⟩:=hcut
 clear hy hy9 RM RS RD RA RT RZ BW AV DD BF
 have RM:=Zh hm
 have RS:=Zh hs
 have RA:=Zh ha
 have RT:=Zh ht
 have RZ:=Zh hz
 have BF:=Zh hbf
 have AV:=Zh hv
 have BW:=Zh hb
 have RD:=Zh hd
 have DN:=Zh hdk
 clear hm hs ha ht hz hbf hv hb hd hdk
 obtain ⟨gb,rfl,hgb⟩:=(show OwnBf 0 wc (.slice ba n bc) bs from BF.out).lie (by rw [HN.out]; have:=HNK.out; omega)
 obtain ⟨ax,bx,cx,ex,f0,f1,f2⟩:=BF.out.at k (by rw [HN.out]; have:=HNK.out; omega)
 rw [H1.out] at ex
 cases ex
 have CP:=Zh f0
 clear f0 f1 f2 hgb
 go_wp2_with fail
 obtain ⟨w4,hw4⟩:∃ x,x=wc:=⟨_,rfl⟩
 rw [←hw4] at CP RM RS RA RT RZ BF AV BW RD DN ⊢
 clear hw4
 refine wp_region_rec (X:=BlkServeA) (by kernel_rfl) (by kernel_rfl) (fun x=>#[x.b0,x.b1,x.b2,x.b3,x.b4,x.b5,x.b6,x.b7,x.b8,x.b9,x.b10,x.b11,x.b12,x.b13,x.b14]) (fun x=>{ tmps:=List.toArray ((.agg #[.slice ma 1700 mc])::(.agg #[.int .i64 0,.int .i64 16,.int .u16 SE,.int .u16 US])::(.agg #[.slice a0 n0 k0,.slice a1 n1 k1])::(.int .i64 (st:Nat))::(.pointer (some ⟨w.heap.size,0,none⟩))::(.pointer (some ⟨w.heap.size+1,0,none⟩))::(.pointer (some ⟨w.heap.size+1+1,0,none⟩))::undef::(.pointer (some ⟨w.heap.size+1+1+1,0,none⟩))::(.pointer (some ⟨w.heap.size+1+1+1+1,0,none⟩))::(.pointer (some ⟨w.heap.size+1+1+1+1+1,0,none⟩))::(.int .i64 0)::(.int .i64 HD)::(.slice (some ⟨gb,0,none⟩) n bc)::(.int .i64 0)::u15::u16::u17::u18::u19::u20::u21::u22::u23::u24::u25::u26::u27::u28::u29::u30::u31::u32::u33::u34::u35::u36::u37::u38::u39::u40::u41::u42::u43::u44::u45::u46::u47::u48::u49::u50::u51::x.s52::x.s53::x.s54::x.s55::x.s56::x.s57::x.s58::x.s59::x.s60::x.s61::x.s62::x.s63::x.s64::x.s65::u66::u67::u68::u69::u70::u71::u72::u73::u74::u75::u76::u77::[]),defers:=[] }) (fun x W=>(x.b0→x.s53=.agg #[.slice ma 1700 mc])∧(x.b1→x.s54=.slice (some ⟨gb,0,none⟩) n bc)∧(x.b2→x.s55=.slice (some ⟨gb,0,none⟩) n bc)∧(x.b3→x.s56=.int .i64 (n:Nat))∧(x.b4→x.s57=.int .i64 (k:Nat))∧(x.b5→x.s58=.pointer (some ⟨gb,k * 3,none⟩))∧(x.b6→x.s59=.pointer (some ⟨gb,k * 3,none⟩))∧(x.b7→x.s60=.int .i64 (pt:Nat))∧(x.b8→x.s61=.int .i64 (st:Nat))∧(x.b9→x.s62=.int .u64 (st:Nat))∧(x.b11→x.s52=x.s63)∧(x.b13→x.s65=.int .i64 0)∧(x.b14→x.b0∧x.b7∧x.b10)∧(x.b11→x.b10)∧(x.b12→x.b10)∧(x.b14=false→W.heap[w.heap.size]? = some (.cells #[.slice ma 1700 mc] 24 (0,0)))∧(W.heap[w.heap.size+1]? = some (.cells #[.int .i64 0,.int .i64 16,.int .u16 SE2,.int .u16 US] 45 (0,0)))∧(W.heap[w.heap.size+1+1]? = some (.cells #[.slice sa sn sc,.slice ca cn cc] 41 (0,0)))∧(W.heap[w.heap.size+1+1+1]? = some (.cells #[.slice none 0 0] 24 (0,0)))∧(W.heap[w.heap.size+1+1+1+1]? = some (.cells #[.int .i64 0,.int .i64 0,.int .u16 0,.int .u16 0] 45 (0,0)))∧(W.heap[w.heap.size+1+1+1+1+1]? = some (.cells #[.slice none 0 0,.slice none 0 0] 41 (0,0)))∧(Below w.heap.size w W)∧(x.b14=false→W.cell? ⟨gb,k * 3,none⟩=some (.int .i64 (pt:Nat)))∧(DK W (.slice sa sn sc) (.slice ca cn cc) S C2)∧(OwnB 0 W (.slice ma 1700 mc) l)∧(x.b10→∃ ra rc,x.s63=.tuple #[.agg #[.slice ra 1700 rc],.int .i64 0]∧OwnB 0 W (.slice ra 1700 rc) (putAt l pt 1 st))∧(x.b12→∃ ra rc,x.s64=.agg #[.slice ra 1700 rc]∧OwnB 0 W (.slice ra 1700 rc) (putAt l pt 1 st))∧(x.b14→MemAt W w.heap.size (putAt l pt 1 st))) ⟨false,false,false,false,false,false,false,false,false,false,false,false,false,false,false,u53,u54,u55,u56,u57,u58,u59,u60,u61,u62,u63,u52,u64,u65⟩ rfl rfl ⟨Zf,Zf,Zf,Zf,Zf,Zf,Zf,Zf,Zf,Zf,Zf,Zf,Zf,Zf,Zf,(fun _=>RM.out),RS.out,RD.out,RA.out,RT.out,RZ.out,BW.out.drew,(fun _=>CP.out),DN.out.drew,AV.out.drew,Zf,Zf,Zf⟩ (fun _=>rfl) ?hstep ?hdone
 case hstep =>
  rintro ⟨b0,b1,b2,b3,b4,b5,b6,b7,b8,b9,b10,b11,b12,b13,b14,s53,s54,s55,s56,s57,s58,s59,s60,s61,s62,s63,s52,s64,s65⟩ W hI i hi
  dsimp only at hI hi ⊢
  have HI:=Zh hI
  clear hI
  rw [Region.ready,List.mem_filter,List.mem_range] at hi
  obtain ⟨hlt,hp⟩:=hi
  have hi7:i=0∨i=1∨i=2∨i=3∨i=4∨i=5∨i=6∨i=7∨i=8∨i=9∨i=10∨i=11∨i=12∨i=13∨i=14:=by simp at hlt; omega
  clear hlt
  rcases hi7 with rfl|rfl|rfl|rfl|rfl|rfl|rfl|rfl|rfl|rfl|rfl|rfl|rfl|rfl|rfl
  all_goals simp [Region.binds] at hp
  · obtain rfl:b0=false:=by revert hp; cases b0 <;> simp
    clear hp; refine Zv 53 fun K' hK'=>?_
    have gi14:=(Zd (Ze HI.out)).1
    have rM0:=(Zd (Ze HI.out)).2.2.2.1
    obtain rfl:b14=false:=Zz fun e=>(gi14 e).1
    obtain ⟨hc0,_⟩:=at_cell (rM0 rfl) 0 _ rfl
    go_simp
    obtain ⟨h0,h1,h2,h3,h4,h5,h6,h7,h8,h9,h11,h13,gi14,gi11,gi12,rM0,rS,rD,rA,rT,rZ,gB,gc,gD,gV,gP,gX,gS⟩:=HI.out
    exact hK'.out _ _ ⟨.mk ..,rfl,rfl,(fun _=>rfl),h1,h2,h3,h4,h5,h6,h7,h8,h9,h11,h13,Zf,gi11,gi12,rM0,rS,rD,rA,rT,rZ,gB,gc,gD,gV,gP,gX,Zf⟩
  · obtain rfl:b1=false:=by revert hp; cases b1 <;> simp
    clear hp; refine Zv 54 fun K' hK'=>?_
    go_simp
    exact hK'.out _ _ ⟨.mk ..,rfl,rfl,Nxt (Upd (fun _=>rfl)) HI.out⟩
  · obtain rfl:b2=false:=by revert hp; cases b2 <;> simp
    clear hp; refine Zv 55 fun K' hK'=>?_
    go_simp
    exact hK'.out _ _ ⟨.mk ..,rfl,rfl,Nxt (Nxt (Upd (fun _=>rfl))) HI.out⟩
  · obtain ⟨rfl,e2⟩:b3=false∧b2=true:=by revert hp; cases b3 <;> cases b2 <;> simp
    clear hp
    obtain rfl:=(HI.out.2.2.1) e2
    refine Zv 56 fun K' hK'=>?_
    go_simp
    exact hK'.out _ _ ⟨.mk ..,rfl,rfl,Nxt (Nxt (Nxt (Upd (fun _=>rfl)))) HI.out⟩
  · obtain ⟨rfl,e3⟩:b4=false∧b3=true:=by revert hp; cases b4 <;> cases b3 <;> simp
    clear hp
    obtain rfl:=(HI.out.2.2.2.1) e3
    refine Zv 57 fun K' hK'=>?_
    have hkk:((n:Nat):Int) - 1=(k:Nat):=by have:=HNK.out; omega
    have hk16:=HK16.out
    have hww:IntKind.i64.wrap ((k:Nat):Int)=(k:Nat):=IntWalk.i64_in _ (by omega)
    go_simp
    exact hK'.out _ _ ⟨.mk ..,rfl,rfl,Nx4 (Upd (fun _=>rfl)) HI.out⟩
  · obtain ⟨rfl,e1,e4⟩:b5=false∧b1=true∧b4=true:=by revert hp; cases b5 <;> cases b1 <;> cases b4 <;> simp
    clear hp
    obtain rfl:=(HI.out.2.1) e1
    obtain rfl:=((Zd HI.out).1) e4
    refine Zv 58 fun K' hK'=>?_
    have hlt1:0≤(k:Int)∧(k:Int) < (n:Int):=by have:=HNK.out; omega
    obtain ⟨hl0,hl1⟩:=hlt1
    go_simp
    exact hK'.out _ _ ⟨.mk ..,rfl,rfl,Nxt (Nx4 (Upd (fun _=>rfl))) HI.out⟩
  · obtain ⟨rfl,e5⟩:b6=false∧b5=true:=by revert hp; cases b6 <;> cases b5 <;> simp
    clear hp
    obtain rfl:=((Zd HI.out).2.1) e5
    refine Zv 59 fun K' hK'=>?_
    go_simp
    exact hK'.out _ _ ⟨.mk ..,rfl,rfl,Nxt (Nxt (Nx4 (Upd (fun _=>rfl)))) HI.out⟩
  · obtain ⟨rfl,e6⟩:b7=false∧b6=true:=by revert hp; cases b7 <;> cases b6 <;> simp
    clear hp
    obtain rfl:=((Zd HI.out).2.2.1) e6
    refine Zv 60 fun K' hK'=>?_
    have gi14:=(Zd (Ze HI.out)).1
    have gc:=(Zd (Zg HI.out)).2.2.1
    obtain rfl:b14=false:=Zz fun e=>(gi14 e).2.1
    have hc:=gc rfl
    go_simp
    obtain ⟨h0,h1,h2,h3,h4,h5,h6,h7,h8,h9,h11,h13,gi14,gi11,gi12,rM0,rS,rD,rA,rT,rZ,gB,gc,gD,gV,gP,gX,gS⟩:=HI.out
    exact hK'.out _ _ ⟨.mk ..,rfl,rfl,h0,h1,h2,h3,h4,h5,h6,(fun _=>rfl),h8,h9,h11,h13,Zf,gi11,gi12,rM0,rS,rD,rA,rT,rZ,gB,gc,gD,gV,gP,gX,Zf⟩
  · obtain rfl:b8=false:=by revert hp; cases b8 <;> simp
    clear hp; refine Zv 61 fun K' hK'=>?_
    go_simp
    exact hK'.out _ _ ⟨.mk ..,rfl,rfl,Nx4 (Nx4 (Upd (fun _=>rfl))) HI.out⟩
  · obtain ⟨rfl,e8⟩:b9=false∧b8=true:=by revert hp; cases b9 <;> cases b8 <;> simp
    clear hp
    obtain rfl:=((Ze HI.out).1) e8
    refine Zv 62 fun K' hK'=>?_
    have hws:IntKind.u64.wrap ((st:Nat):Int)=(st:Nat):=IntWalk.u64_in _ (by have:=HST.out; omega)
    go_simp
    exact hK'.out _ _ ⟨.mk ..,rfl,rfl,Nxt (Nx4 (Nx4 (Upd (fun _=>rfl)))) HI.out⟩
  · have hn10:b10=false:=by revert hp; cases b10 <;> simp
    have e0:b0=true:=by revert hp; cases b0 <;> simp
    have e7:b7=true:=by revert hp; cases b7 <;> simp
    have e9:b9=true:=by revert hp; cases b9 <;> simp
    clear hp
    obtain rfl:=(HI.out.1) e0
    obtain rfl:=((Zd HI.out).2.2.2.1) e7
    obtain rfl:=((Ze HI.out).2.1) e9
    subst hn10
    refine Zv 63 fun K' hK'=>?_
    have gi14:=(Zd (Ze HI.out)).1
    have gi11:=(Zd (Ze HI.out)).2.1
    have gi12:=(Zd (Ze HI.out)).2.2.1
    have gV:=(Ze (Zg HI.out)).1
    obtain rfl:b14=false:=Zz fun e=>(gi14 e).2.2
    obtain rfl:b11=false:=Zz fun e=>(gi11 e)
    obtain rfl:b12=false:=Zz fun e=>(gi12 e)
    go_simp
    refine (blkPutNum_this _ l pt 1 st _ _ W gV HR.out.len rfl rfl (by decide) HPT.out).mono ?_
    rintro e w2 ⟨ra,rc,rfl,hr,bn⟩
    obtain ⟨h0,h1,h2,h3,h4,h5,h6,h7,h8,h9,h11,h13,gi14,gi11,gi12,rM0,rS,rD,rA,rT,rZ,gB,gc,gD,gV,gP,gX,gS⟩:=HI.out
    exact hK'.out _ _ ⟨.mk ..,rfl,rfl,h0,h1,h2,h3,h4,h5,h6,h7,h8,h9,(fun e=>by cases ((gi11 e))),h13,Zf,Zf,Zf,(fun e=>row_keep (rM0 e) bn),(row_keep rS bn),(row_keep rD bn),(row_keep rA bn),(row_keep rT bn),(row_keep rZ bn),(gB.trans (bn.mono gB.size)),(fun e=>kept (gc e) bn),(gD.below bn),(gV.below bn),(fun _=>⟨ra,rc,rfl,hr⟩),Zf,Zf⟩
  · obtain ⟨rfl,e10⟩:b11=false∧b10=true:=by revert hp; cases b11 <;> cases b10 <;> simp
    clear hp; refine Zv 52 fun K' hK'=>?_
    go_simp
    exact hK'.out _ _ ⟨.mk ..,rfl,rfl,Nxt (Nx4 (Nx4 (Nx4 (Upd (fun _=>e10))))) (Nxt (Nxt (Nx4 (Nx4 (Upd (fun _=>rfl))))) HI.out)⟩
  · obtain ⟨rfl,e11⟩:b12=false∧b11=true:=by revert hp; cases b12 <;> cases b11 <;> simp
    clear hp
    obtain rfl:=((Ze HI.out).2.2.1) e11
    refine Zv 64 fun K' hK'=>?_
    have gi11:=(Zd (Ze HI.out)).2.1
    have gP:=(Ze (Zg HI.out)).2.1
    obtain ⟨ra,rc,rfl,hp⟩:=gP ((gi11 e11))
    go_simp
    obtain ⟨h0,h1,h2,h3,h4,h5,h6,h7,h8,h9,h11,h13,gi14,gi11,gi12,rM0,rS,rD,rA,rT,rZ,gB,gc,gD,gV,gP,gX,gS⟩:=HI.out
    exact hK'.out _ _ ⟨.mk ..,rfl,rfl,h0,h1,h2,h3,h4,h5,h6,h7,h8,h9,h11,h13,gi14,gi11,(fun _=>(gi11 e11)),rM0,rS,rD,rA,rT,rZ,gB,gc,gD,gV,(fun _=>⟨ra,rc,rfl,hp⟩),(fun _=>⟨ra,rc,rfl,hp⟩),gS⟩
  · obtain ⟨rfl,e11⟩:b13=false∧b11=true:=by revert hp; cases b13 <;> cases b11 <;> simp
    clear hp
    obtain rfl:=((Ze HI.out).2.2.1) e11
    refine Zv 65 fun K' hK'=>?_
    have gi11:=(Zd (Ze HI.out)).2.1
    have gP:=(Ze (Zg HI.out)).2.1
    obtain ⟨ra,rc,rfl,hp⟩:=gP ((gi11 e11))
    go_simp
    exact hK'.out _ _ ⟨.mk ..,rfl,rfl,Nxt (Nx4 (Nx4 (Nx16 (Upd (fun _=>⟨ra,rc,rfl,hp⟩))))) (Nxt (Nxt (Nxt (Nx4 (Nx4 (Upd (fun _=>rfl)))))) HI.out)⟩
  · have hn14:b14=false:=by revert hp; cases b14 <;> simp
    have e12:b12=true:=by revert hp; cases b12 <;> simp
    have e10:b10=true:=by revert hp; cases b10 <;> simp
    have e0:b0=true:=by revert hp; cases b0 <;> simp
    have e7:b7=true:=by revert hp; cases b7 <;> simp
    clear hp
    subst hn14
    refine inv_op (o:=⟨none,_,_,_,_,_⟩) rfl (fun K' hK'=>?_)
    have rM0:=(Zd (Ze HI.out)).2.2.2.1
    have gX:=(Ze (Zg HI.out)).2.2.1
    obtain ⟨ra,rc,rfl,hx⟩:=gX e12
    obtain ⟨hc0,hz0⟩:=at_cell (rM0 rfl) 0 _ rfl
    have hlt:=(Array.getElem?_eq_some_iff.1 (rM0 rfl)).1
    go_simp
    obtain ⟨h0,h1,h2,h3,h4,h5,h6,h7,h8,h9,h11,h13,gi14,gi11,gi12,rM0,rS,rD,rA,rT,rZ,gB,gc,gD,gV,gP,gX,gS⟩:=HI.out
    exact hK'.out _ _ ⟨.mk ..,rfl,rfl,h0,h1,h2,h3,h4,h5,h6,h7,h8,h9,h11,h13,(fun _=>⟨e0,e7,e10⟩),gi11,gi12,Zf,(Zp1 rS (Zn rS (rM0 rfl))),(Zp1 rD (Zn rD (rM0 rfl))),(Zp1 rA (show w.heap.size≠w.heap.size+1+1+1 by omega)),(Zp1 rT (Zn rT (rM0 rfl))),(Zp1 rZ (Zn rZ (rM0 rfl))),(Zu1 gB (Nat.le_refl w.heap.size)),Zf,(gD.stay (rM0 rfl) (by decide) _ _),(gV.stay (rM0 rfl) (by decide) _ _),(fun e=>by obtain ⟨y0,y1,h1,h2⟩:=gP e; exact ⟨y0,y1,h1,h2.stay (rM0 rfl) (by decide) 0 (.slice ra 1700 rc)⟩),(fun _=>⟨ra,rc,rfl,hx.stay (rM0 rfl) (by decide) 0 (.slice ra 1700 rc)⟩),(fun _=>⟨ra,rc,row_put (rM0 rfl) 0 (.slice ra 1700 rc),hx.stay (rM0 rfl) (by decide) 0 (.slice ra 1700 rc)⟩)⟩
 case hdone =>
  rintro ⟨b0,b1,b2,b3,b4,b5,b6,b7,b8,b9,b10,b11,b12,b13,b14,s53,s54,s55,s56,s57,s58,s59,s60,s61,s62,s63,s52,s64,s65⟩ W hI hall
  dsimp only at hI hall ⊢
  have HI:=Zh hI
  clear hI
  obtain rfl:b0=true:=hall 0 (by decide)
  obtain rfl:b1=true:=hall 1 (by decide)
  obtain rfl:b2=true:=hall 2 (by decide)
  obtain rfl:b3=true:=hall 3 (by decide)
  obtain rfl:b4=true:=hall 4 (by decide)
  obtain rfl:b5=true:=hall 5 (by decide)
  obtain rfl:b6=true:=hall 6 (by decide)
  obtain rfl:b7=true:=hall 7 (by decide)
  obtain rfl:b8=true:=hall 8 (by decide)
  obtain rfl:b9=true:=hall 9 (by decide)
  obtain rfl:b10=true:=hall 10 (by decide)
  obtain rfl:b11=true:=hall 11 (by decide)
  obtain rfl:b12=true:=hall 12 (by decide)
  obtain rfl:b13=true:=hall 13 (by decide)
  obtain rfl:b14=true:=hall 14 (by decide)
  obtain rfl:=((Ze HI.out).1) rfl
  have gS:=(Ze (Zg HI.out)).2.2.2
  have rS:=(Zg HI.out).1
  have rD:=(Zg HI.out).2.1
  have rA:=(Zg HI.out).2.2.1
  have rT:=(Zg HI.out).2.2.2.1
  have rZ:=(Zd (Zg HI.out)).1
  have gB:=(Zd (Zg HI.out)).2.1
  have gD:=(Zd (Zg HI.out)).2.2.2.1
  clear HI hall
  obtain ⟨ra,rc,hrow,hro⟩:=gS rfl
  have RM:=Zh hrow
  have AG:=Zh hro
  have RS:=Zh rS
  have RD:=Zh rD
  have RA:=Zh rA
  have RT:=Zh rT
  have RZ:=Zh rZ
  have BW:=Zh gB
  have DN:=Zh gD
  clear hrow hro gS rS rD rA rT rZ gB gD
  obtain ⟨m0,mz⟩:=one_cell RM.out
  obtain ⟨⟨s0,s1,s2,s3⟩,x0,x1,x2,x3⟩:=cells_four RS.out
  have HPL:=Zh (show (putAt l pt 1 st).length=1700 from (putAt_length st (by have:=HPT.out; rw [HR.out.len]; omega)).trans HR.out.len)
  go_wp2_with fail
  refine (give_this 16 0 ((se+1) % 65536) us hd 1 _ (putAt l pt 1 st) _ AG.out (ok1700 HPL.out) HUS.out HHD.out (by decide) 0 16 SE2 US US2 HD 1 1700 rfl rfl E3.out E2.out E4.out E5.out rfl HPL.out).mono ?_
  rintro e w5 ⟨rb,rd,rfl,hm,hb⟩
  replace RM:=Zk RM hb
  replace AG:=Zh (AG.out.below hb)
  replace RS:=Zk RS hb
  replace RD:=Zk RD hb
  replace RA:=Zk RA hb
  replace RT:=Zk RT hb
  replace RZ:=Zk RZ hb
  replace BW:=Zb BW hb
  replace DN:=Zh (DN.out.below hb)
  have AH:=Zh hm
  clear hm hb m0 mz s0 s1 s2 s3 x0 x1 x2 x3
  clear AG
  obtain ⟨m0,mz⟩:=one_cell RM.out
  have hltm:=(Array.getElem?_eq_some_iff.1 RM.out).1
  replace RS:=Zx RS RM 0 (.slice rb 1700 rd)
  replace RD:=Zx RD RM 0 (.slice rb 1700 rd)
  replace RA:=Zh (one_other RA.out ⟨w.heap.size,0,none⟩ (.slice rb 1700 rd) (show w.heap.size≠w.heap.size+1+1+1 by omega))
  replace RT:=Zx RT RM 0 (.slice rb 1700 rd)
  replace RZ:=Zx RZ RM 0 (.slice rb 1700 rd)
  replace BW:=Zh (BW.out.setCell (p:=⟨w.heap.size,0,none⟩) (show w.heap.size≤w.heap.size by omega) (.slice rb 1700 rd))
  replace DN:=Zh (DN.out.stay RM.out (by decide) 0 (.slice rb 1700 rd))
  replace AH:=Zh (AH.out.stay RM.out (by decide) 0 (.slice rb 1700 rd))
  replace RM:=Zh (row_put RM.out 0 (.slice rb 1700 rd))
  obtain ⟨⟨s0,s1,s2,s3⟩,x0,x1,x2,x3⟩:=cells_four RS.out
  have hlts:=(Array.getElem?_eq_some_iff.1 RS.out).1
  replace RM:=Zx RM RS 0 (.int .i64 0)
  replace RD:=Zx RD RS 0 (.int .i64 0)
  replace RA:=Zx RA RS 0 (.int .i64 0)
  replace RT:=Zh (one_other RT.out ⟨w.heap.size+1,0,none⟩ (.int .i64 0) (show w.heap.size+1≠w.heap.size+1+1+1+1 by omega))
  replace RZ:=Zx RZ RS 0 (.int .i64 0)
  replace BW:=Zh (BW.out.setCell (p:=⟨w.heap.size+1,0,none⟩) (show w.heap.size≤w.heap.size+1 by omega) (.int .i64 0))
  replace DN:=Zh (DN.out.stay RS.out (by decide) 0 (.int .i64 0))
  replace AH:=Zh (AH.out.stay RS.out (by decide) 0 (.int .i64 0))
  replace RS:=Zh (row_put RS.out 0 (.int .i64 0))
  replace RM:=Zx RM RS 1 (.int .i64 16)
  replace RD:=Zx RD RS 1 (.int .i64 16)
  replace RA:=Zx RA RS 1 (.int .i64 16)
  replace RT:=Zh (one_other RT.out ⟨w.heap.size+1,1,none⟩ (.int .i64 16) (show w.heap.size+1≠w.heap.size+1+1+1+1 by omega))
  replace RZ:=Zx RZ RS 1 (.int .i64 16)
  replace BW:=Zh (BW.out.setCell (p:=⟨w.heap.size+1,1,none⟩) (show w.heap.size≤w.heap.size+1 by omega) (.int .i64 16))
  replace DN:=Zh (DN.out.stay RS.out (by decide) 1 (.int .i64 16))
  replace AH:=Zh (AH.out.stay RS.out (by decide) 1 (.int .i64 16))
  replace RS:=Zh (row_put RS.out 1 (.int .i64 16))
  replace RM:=Zx RM RS 2 (.int .u16 SE2)
  replace RD:=Zx RD RS 2 (.int .u16 SE2)
  replace RA:=Zx RA RS 2 (.int .u16 SE2)
  replace RT:=Zh (one_other RT.out ⟨w.heap.size+1,2,none⟩ (.int .u16 SE2) (show w.heap.size+1≠w.heap.size+1+1+1+1 by omega))
  replace RZ:=Zx RZ RS 2 (.int .u16 SE2)
  replace BW:=Zh (BW.out.setCell (p:=⟨w.heap.size+1,2,none⟩) (show w.heap.size≤w.heap.size+1 by omega) (.int .u16 SE2))
  replace DN:=Zh (DN.out.stay RS.out (by decide) 2 (.int .u16 SE2))
  replace AH:=Zh (AH.out.stay RS.out (by decide) 2 (.int .u16 SE2))
  replace RS:=Zh (row_put RS.out 2 (.int .u16 SE2))
  replace RM:=Zx RM RS 3 (.int .u16 US2)
  replace RD:=Zx RD RS 3 (.int .u16 US2)
  replace RA:=Zx RA RS 3 (.int .u16 US2)
  replace RT:=Zh (one_other RT.out ⟨w.heap.size+1,3,none⟩ (.int .u16 US2) (show w.heap.size+1≠w.heap.size+1+1+1+1 by omega))
  replace RZ:=Zx RZ RS 3 (.int .u16 US2)
  replace BW:=Zh (BW.out.setCell (p:=⟨w.heap.size+1,3,none⟩) (show w.heap.size≤w.heap.size+1 by omega) (.int .u16 US2))
  replace DN:=Zh (DN.out.stay RS.out (by decide) 3 (.int .u16 US2))
  replace AH:=Zh (AH.out.stay RS.out (by decide) 3 (.int .u16 US2))
  replace RS:=Zh (row_put RS.out 3 (.int .u16 US2))
  go_wp2_with fail
  obtain ⟨w6,hw6⟩:∃ x,x=(((((w5.setCell ⟨w.heap.size,0,none⟩ (.slice rb 1700 rd)).setCell ⟨w.heap.size+1,0,none⟩ (.int .i64 0)).setCell ⟨w.heap.size+1,1,none⟩ (.int .i64 16)).setCell ⟨w.heap.size+1,2,none⟩ (.int .u16 SE2)).setCell ⟨w.heap.size+1,3,none⟩ (.int .u16 US2)):=⟨_,rfl⟩
  rw [←hw6] at RM RS RD RA RT RZ BW DN AH ⊢
  clear hw6 m0 mz hltm s0 s1 s2 s3 x0 x1 x2 x3 hlts
  refine wp_region_rec (X:=BlkServeB) (by kernel_rfl) (by kernel_rfl) (fun x=>#[x.b0,x.b1,x.b2,x.b3,x.b4,x.b5,x.b6,x.b7]) (fun x=>{ tmps:=List.toArray ((.agg #[.slice ma 1700 mc])::(.agg #[.int .i64 0,.int .i64 16,.int .u16 SE,.int .u16 US])::(.agg #[.slice a0 n0 k0,.slice a1 n1 k1])::(.int .i64 (st:Nat))::(.pointer (some ⟨w.heap.size,0,none⟩))::(.pointer (some ⟨w.heap.size+1,0,none⟩))::(.pointer (some ⟨w.heap.size+1+1,0,none⟩))::undef::(.pointer (some ⟨w.heap.size+1+1+1,0,none⟩))::(.pointer (some ⟨w.heap.size+1+1+1+1,0,none⟩))::(.pointer (some ⟨w.heap.size+1+1+1+1+1,0,none⟩))::x.s11::(.int .i64 HD)::(.slice (some ⟨gb,0,none⟩) n bc)::(.int .i64 0)::u15::u16::u17::u18::u19::u20::u21::u22::u23::u24::u25::u26::u27::u28::u29::u30::u31::u32::u33::u34::u35::u36::u37::u38::u39::u40::u41::u42::u43::u44::u45::u46::u47::u48::u49::u50::u51::s52::s53::s54::s55::s56::s57::s58::s59::s60::(.int .i64 (st:Nat))::s62::s63::s64::s65::(.tuple #[.agg #[.slice rb 1700 rd],.agg #[.int .i64 0,.int .i64 16,.int .u16 SE2,.int .u16 US2],.int .i64 0])::(.agg #[.slice ra 1700 rc])::(.agg #[.int .i64 0,.int .i64 16,.int .u16 SE2,.int .u16 US])::(.int .i64 HD)::(.tuple #[.agg #[.slice rb 1700 rd],.agg #[.int .i64 0,.int .i64 16,.int .u16 SE2,.int .u16 US2],.int .i64 0])::(.agg #[.slice rb 1700 rd])::(.agg #[.int .i64 0,.int .i64 16,.int .u16 SE2,.int .u16 US2])::(.int .i64 0)::x.s74::x.s75::x.s76::x.s77::[]),defers:=[] }) (fun x W=>(x.b0→x.s74=.agg #[.slice rb 1700 rd])∧(x.b1→x.s75=.agg #[.int .i64 0,.int .i64 16,.int .u16 SE2,.int .u16 US2])∧(x.b2→x.s76=.agg #[.slice sa sn sc,.slice ca cn cc])∧(x.b3→x.s77=.int .i64 0)∧(x.b7→x.s11=.int .i64 0)∧(x.b5→x.b4)∧(x.b6→x.b4∧x.b5)∧(W.heap[w.heap.size]? = some (.cells #[.slice rb 1700 rd] 24 (0,0)))∧(W.heap[w.heap.size+1]? = some (.cells #[.int .i64 0,.int .i64 16,.int .u16 SE2,.int .u16 US2] 45 (0,0)))∧(W.heap[w.heap.size+1+1]? = some (.cells #[.slice sa sn sc,.slice ca cn cc] 41 (0,0)))∧(x.b4=false→W.heap[w.heap.size+1+1+1]? = some (.cells #[.slice none 0 0] 24 (0,0)))∧(x.b4→W.heap[w.heap.size+1+1+1]? = some (.cells #[.slice rb 1700 rd] 24 (0,0)))∧(x.b5=false→W.heap[w.heap.size+1+1+1+1]? = some (.cells #[.int .i64 0,.int .i64 0,.int .u16 0,.int .u16 0] 45 (0,0)))∧(x.b5→W.heap[w.heap.size+1+1+1+1]? = some (.cells #[.int .i64 0,.int .i64 16,.int .u16 SE2,.int .u16 US2] 45 (0,0)))∧(x.b6=false→W.heap[w.heap.size+1+1+1+1+1]? = some (.cells #[.slice none 0 0,.slice none 0 0] 41 (0,0)))∧(x.b6→W.heap[w.heap.size+1+1+1+1+1]? = some (.cells #[.slice sa sn sc,.slice ca cn cc] 41 (0,0)))∧(Below w.heap.size w W)∧(DK W (.slice sa sn sc) (.slice ca cn cc) S C2)∧(OwnB 0 W (.slice rb 1700 rd) (returnD (putAt l pt 1 st) 0 16 us hd 1))) ⟨false,false,false,false,false,false,false,false,u74,u75,u76,u77,.int .i64 0⟩ rfl rfl ⟨Zf,Zf,Zf,Zf,Zf,Zf,Zf,RM.out,RS.out,RD.out,(fun _=>RA.out),Zf,(fun _=>RT.out),Zf,(fun _=>RZ.out),Zf,BW.out.drew,DN.out.drew,AH.out.drew⟩ (fun _=>rfl) ?hstep ?hdone
  case hstep =>
   rintro ⟨b0,b1,b2,b3,b4,b5,b6,b7,s74,s75,s76,s77,s11⟩ W hI i hi
   dsimp only at hI hi ⊢
   have HI:=Zh hI
   clear hI
   rw [Region.ready,List.mem_filter,List.mem_range] at hi
   obtain ⟨hlt,hp⟩:=hi
   have hi7:i=0∨i=1∨i=2∨i=3∨i=4∨i=5∨i=6∨i=7:=by simp at hlt; omega
   clear hlt
   rcases hi7 with rfl|rfl|rfl|rfl|rfl|rfl|rfl|rfl
   all_goals simp [Region.binds] at hp
   · obtain rfl:b0=false:=by revert hp; cases b0 <;> simp
     clear hp; refine Zv 74 fun K' hK'=>?_
     have rM:=(Zd HI.out).2.2.2.1
     obtain ⟨hc0,_⟩:=at_cell rM 0 _ rfl
     go_simp
     exact hK'.out _ _ ⟨.mk ..,rfl,rfl,(Upd (fun _=>rfl)) HI.out⟩
   · obtain rfl:b1=false:=by revert hp; cases b1 <;> simp
     clear hp; refine Zv 75 fun K' hK'=>?_
     have rS:=(Ze HI.out).1
     obtain ⟨hc0,_⟩:=at_cell rS 0 _ rfl
     obtain ⟨hc1,_⟩:=at_cell rS 1 _ rfl
     obtain ⟨hc2,_⟩:=at_cell rS 2 _ rfl
     obtain ⟨hc3,_⟩:=at_cell rS 3 _ rfl
     go_simp
     exact hK'.out _ _ ⟨.mk ..,rfl,rfl,Nxt (Upd (fun _=>rfl)) HI.out⟩
   · obtain rfl:b2=false:=by revert hp; cases b2 <;> simp
     clear hp; refine Zv 76 fun K' hK'=>?_
     have rD:=(Ze HI.out).2.1
     obtain ⟨hc0,_⟩:=at_cell rD 0 _ rfl
     obtain ⟨hc1,_⟩:=at_cell rD 1 _ rfl
     go_simp
     exact hK'.out _ _ ⟨.mk ..,rfl,rfl,Nxt (Nxt (Upd (fun _=>rfl))) HI.out⟩
   · obtain rfl:b3=false:=by revert hp; cases b3 <;> simp
     clear hp; refine Zv 77 fun K' hK'=>?_
     go_simp
     exact hK'.out _ _ ⟨.mk ..,rfl,rfl,Nxt (Nxt (Nxt (Upd (fun _=>rfl)))) HI.out⟩
   · obtain ⟨rfl,e0⟩:b4=false∧b0=true:=by revert hp; cases b4 <;> cases b0 <;> simp
     clear hp
     obtain rfl:=(HI.out.1) e0
     refine inv_op (o:=⟨none,_,_,_,_,_⟩) rfl (fun K' hK'=>?_)
     have gi5:=(Zd HI.out).2.1
     have gi6:=(Zd HI.out).2.2.1
     have rA0:=(Ze HI.out).2.2.1
     obtain rfl:b5=false:=Zz fun e=>(gi5 e)
     obtain rfl:b6=false:=Zz fun e=>(gi6 e).1
     obtain ⟨hc0,hz0⟩:=at_cell (rA0 rfl) 0 _ rfl
     have hlt:=(Array.getElem?_eq_some_iff.1 (rA0 rfl)).1
     go_simp
     obtain ⟨h0,h1,h2,h3,h7,gi5,gi6,rM,rS,rD,rA0,rA1,rT0,rT1,rZ0,rZ1,gB,gD,gV⟩:=HI.out
     exact hK'.out _ _ ⟨.mk ..,rfl,rfl,h0,h1,h2,h3,h7,Zf,Zf,(Zp1 rM (show w.heap.size+1+1+1≠w.heap.size by omega)),(Zp1 rS (Zn rS (rA0 rfl))),(Zp1 rD (Zn rD (rA0 rfl))),Zf,(fun _=>(Zr (rA0 rfl))),(fun e=>(Zp1 (rT0 e) (Zn (rT0 e) (rA0 rfl)))),Zf,(fun e=>(Zp1 (rZ0 e) (Zn (rZ0 e) (rA0 rfl)))),Zf,(Zu1 gB (show w.heap.size≤w.heap.size+1+1+1 by omega)),(gD.stay (rA0 rfl) (by decide) _ _),(gV.stay (rA0 rfl) (by decide) _ _)⟩
   · obtain ⟨rfl,e1,e4⟩:b5=false∧b1=true∧b4=true:=by revert hp; cases b5 <;> cases b1 <;> cases b4 <;> simp
     clear hp
     obtain rfl:=(HI.out.2.1) e1
     refine inv_op (o:=⟨none,_,_,_,_,_⟩) rfl (fun K' hK'=>?_)
     have gi6:=(Zd HI.out).2.2.1
     have rT0:=(Zd (Ze HI.out)).1
     obtain rfl:b6=false:=Zz fun e=>(gi6 e).2
     obtain ⟨hc0,hz0⟩:=at_cell (rT0 rfl) 0 _ rfl
     obtain ⟨hc1,hz1⟩:=at_cell (rT0 rfl) 1 _ rfl
     obtain ⟨hc2,hz2⟩:=at_cell (rT0 rfl) 2 _ rfl
     obtain ⟨hc3,hz3⟩:=at_cell (rT0 rfl) 3 _ rfl
     have hlt:=(Array.getElem?_eq_some_iff.1 (rT0 rfl)).1
     go_simp
     obtain ⟨h0,h1,h2,h3,h7,gi5,gi6,rM,rS,rD,rA0,rA1,rT0,rT1,rZ0,rZ1,gB,gD,gV⟩:=HI.out
     exact hK'.out _ _ ⟨.mk ..,rfl,rfl,h0,h1,h2,h3,h7,(fun _=>e4),Zf,(Zp4 rM (Zn rM (rT0 rfl))),(Zp4 rS (show w.heap.size+1+1+1+1≠w.heap.size+1 by omega)),(Zp4 rD (Zn rD (rT0 rfl))),(fun e=>(Zp4 (rA0 e) (Zn (rA0 e) (rT0 rfl)))),(fun e=>(Zp4 (rA1 e) (Zn (rA1 e) (rT0 rfl)))),Zf,(fun _=>(Zr (Zr (Zr (Zr (rT0 rfl)))))),(fun e=>(Zp4 (rZ0 e) (Zn (rZ0 e) (rT0 rfl)))),Zf,(Zu4 gB (show w.heap.size≤w.heap.size+1+1+1+1 by omega)),((((gD.stay (rT0 rfl) (by decide) _ _).stay (Zr (rT0 rfl)) (by decide) _ _).stay (Zr (Zr (rT0 rfl))) (by decide) _ _).stay (Zr (Zr (Zr (rT0 rfl)))) (by decide) _ _),((((gV.stay (rT0 rfl) (by decide) _ _).stay (Zr (rT0 rfl)) (by decide) _ _).stay (Zr (Zr (rT0 rfl))) (by decide) _ _).stay (Zr (Zr (Zr (rT0 rfl)))) (by decide) _ _)⟩
   · have hn6:b6=false:=by revert hp; cases b6 <;> simp
     have e2:b2=true:=by revert hp; cases b2 <;> simp
     have e5:b5=true:=by revert hp; cases b5 <;> simp
     have e4:b4=true:=by revert hp; cases b4 <;> simp
     clear hp
     obtain rfl:=(HI.out.2.2.1) e2
     subst hn6
     refine inv_op (o:=⟨none,_,_,_,_,_⟩) rfl (fun K' hK'=>?_)
     have rZ0:=(Zd (Ze HI.out)).2.2.1
     obtain ⟨hc0,hz0⟩:=at_cell (rZ0 rfl) 0 _ rfl
     obtain ⟨hc1,hz1⟩:=at_cell (rZ0 rfl) 1 _ rfl
     have hlt:=(Array.getElem?_eq_some_iff.1 (rZ0 rfl)).1
     go_simp
     obtain ⟨h0,h1,h2,h3,h7,gi5,gi6,rM,rS,rD,rA0,rA1,rT0,rT1,rZ0,rZ1,gB,gD,gV⟩:=HI.out
     exact hK'.out _ _ ⟨.mk ..,rfl,rfl,h0,h1,h2,h3,h7,gi5,(fun _=>⟨e4,e5⟩),(Zp2 rM (Zn rM (rZ0 rfl))),(Zp2 rS (Zn rS (rZ0 rfl))),(Zp2 rD (show w.heap.size+1+1+1+1+1≠w.heap.size+1+1 by omega)),(fun e=>(Zp2 (rA0 e) (Zn (rA0 e) (rZ0 rfl)))),(fun e=>(Zp2 (rA1 e) (Zn (rA1 e) (rZ0 rfl)))),(fun e=>(Zp2 (rT0 e) (Zn (rT0 e) (rZ0 rfl)))),(fun e=>(Zp2 (rT1 e) (Zn (rT1 e) (rZ0 rfl)))),Zf,(fun _=>(Zr (Zr (rZ0 rfl)))),(Zu2 gB (show w.heap.size≤w.heap.size+1+1+1+1+1 by omega)),((gD.stay (rZ0 rfl) (by decide) _ _).stay (Zr (rZ0 rfl)) (by decide) _ _),((gV.stay (rZ0 rfl) (by decide) _ _).stay (Zr (rZ0 rfl)) (by decide) _ _)⟩
   · obtain ⟨rfl,e3,e6⟩:b7=false∧b3=true∧b6=true:=by revert hp; cases b7 <;> cases b3 <;> cases b6 <;> simp
     clear hp
     obtain rfl:=(HI.out.2.2.2.1) e3
     refine Zv 11 fun K' hK'=>?_
     go_simp
     exact hK'.out _ _ ⟨.mk ..,rfl,rfl,Nx4 (Upd (fun _=>rfl)) HI.out⟩
  case hdone =>
   rintro ⟨b0,b1,b2,b3,b4,b5,b6,b7,s74,s75,s76,s77,s11⟩ W hI hall
   dsimp only at hI hall ⊢
   have HI:=Zh hI
   clear hI
   obtain rfl:b0=true:=hall 0 (by decide)
   obtain rfl:b1=true:=hall 1 (by decide)
   obtain rfl:b2=true:=hall 2 (by decide)
   obtain rfl:b3=true:=hall 3 (by decide)
   obtain rfl:b4=true:=hall 4 (by decide)
   obtain rfl:b5=true:=hall 5 (by decide)
   obtain rfl:b6=true:=hall 6 (by decide)
   obtain rfl:b7=true:=hall 7 (by decide)
   obtain rfl:=((Zd HI.out).1) rfl
   have rA1:=(Ze HI.out).2.2.2.1
   have rT1:=(Zd (Ze HI.out)).2.1
   have rZ1:=(Zd (Ze HI.out)).2.2.2.1
   have gB:=(Zg HI.out).1
   have gD:=(Zg HI.out).2.1
   have gV:=(Zg HI.out).2.2
   clear HI hall
   obtain ⟨q0,_⟩:=one_cell (rA1 rfl)
   obtain ⟨⟨q1,q2,q3,q4⟩,_⟩:=cells_four (rT1 rfl)
   obtain ⟨⟨q5,q6⟩,_⟩:=box_cells (rZ1 rfl)
   have HB9:=Zh gB
   have HD9:=Zh gD
   have HV9:=Zh gV
   clear rA1 rT1 rZ1 gB gD gV
   go_wp2
   refine bodyPost_ret (v:=.tuple #[.agg #[.slice rb 1700 rd],.agg #[.int .i64 0,.int .i64 16,.int .u16 SE2,.int .u16 US2],.agg #[.slice sa sn sc,.slice ca cn cc],.int .i64 0]) (by simp [results,Tryz.results11,go_sem,q0,q1,q2,q3,q4,q5,q6]) rfl ⟨_,_,_,_,_,_,_,_,rfl,HV9.out,HD9.out,HB9.out⟩
set_option maxHeartbeats 2000000 in
set_option maxRecDepth 100000 in
theorem next_none (se us:Nat) (v:Value) (l:List UInt8) (SE US:Int) (w:World) (hv:OwnB 0 w v l) (hl:l.length=1700) (hix:numAt l (0+16 * 16+2) 2=se) (e1:((se:Nat):Int)=SE) (e2:((us:Nat):Int)=US) :
 Calls Tryz.prog 23 #[.agg #[v],.agg #[.int .i64 0,.int .i64 16,.int .u16 SE,.int .u16 US]] w fun e w'=>e=.returned (.tuple #[.agg #[.int .i64 0,.int .i64 16,.int .u16 SE,.int .u16 US],.int .i64 0,.slice none 0 0,.int .i64 7])∧Below w.heap.size w w':=by
 subst e1
 subst e2
 obtain ⟨ma,mc,rfl,hx,hx2⟩:=hv.shape
 clear hx hx2
 rw [hl] at hv ⊢
 have zRM:w.heap.size=w.heap.size:=rfl
 have bRM:Below w.heap.size w (w.alloc (.cells #[.slice ma 1700 mc] 24)):=(Below.refl _ _).alloc (Nat.le_refl _) _
 have zRS:(w.alloc (.cells #[.slice ma 1700 mc] 24)).heap.size=w.heap.size+1:=by simp
 have bRS:Below w.heap.size w ((w.alloc (.cells #[.slice ma 1700 mc] 24)).alloc (.cells #[.int .i64 0,.int .i64 16,.int .u16 (se:Nat),.int .u16 (us:Nat)] 45)):=bRM.alloc (by rw [zRS]; omega) _
 have zRZ:((w.alloc (.cells #[.slice ma 1700 mc] 24)).alloc (.cells #[.int .i64 0,.int .i64 16,.int .u16 (se:Nat),.int .u16 (us:Nat)] 45)).heap.size=w.heap.size+1+1:=by simp
 have bRZ:Below w.heap.size w (((w.alloc (.cells #[.slice ma 1700 mc] 24)).alloc (.cells #[.int .i64 0,.int .i64 16,.int .u16 (se:Nat),.int .u16 (us:Nat)] 45)).alloc (.cells #[.int .i64 0,.int .i64 0,.int .u16 0,.int .u16 0] 45)):=bRS.alloc (by rw [zRZ]; omega) _
 have tRM:=heap_alloc_new w (.cells #[.slice ma 1700 mc] 24)
 rw [zRM] at tRM
 have RM:=Zh (row_new (row_new tRM (.cells #[.int .i64 0,.int .i64 16,.int .u16 (se:Nat),.int .u16 (us:Nat)] 45)) (.cells #[.int .i64 0,.int .i64 0,.int .u16 0,.int .u16 0] 45))
 have tRS:=heap_alloc_new (w.alloc (.cells #[.slice ma 1700 mc] 24)) (.cells #[.int .i64 0,.int .i64 16,.int .u16 (se:Nat),.int .u16 (us:Nat)] 45)
 rw [zRS] at tRS
 have RS:=Zh (row_new tRS (.cells #[.int .i64 0,.int .i64 0,.int .u16 0,.int .u16 0] 45))
 have tRZ:=heap_alloc_new ((w.alloc (.cells #[.slice ma 1700 mc] 24)).alloc (.cells #[.int .i64 0,.int .i64 16,.int .u16 (se:Nat),.int .u16 (us:Nat)] 45)) (.cells #[.int .i64 0,.int .i64 0,.int .u16 0,.int .u16 0] 45)
 rw [zRZ] at tRZ
 have RZ:=Zh tRZ
 have BW:=Zh bRZ
 have AV:=Zh (hv.below BW.out)
 have HAV:=Zh ((availX_ok (ok1700 hl)).trans hix)
 have HRF:=Zh (ringF_ok (ok1700 hl))
 have HLM:=Zh (show l.length≤maxLen by rw [hl]; decide)
 have hq:(((se:Nat):Int) == ((se:Nat):Int))=true:=by simp
 have hq2:(se == se)=true:=by simp
 clear hv hl hix tRM tRS tRZ zRM zRS zRZ bRM bRS bRZ
 obtain ⟨m0,mz⟩:=one_cell RM.out
 obtain ⟨⟨s0,s1,s2,s3⟩,y0,y1,y2,y3⟩:=cells_four RS.out
 go_enter Tryz.func23,Tryz.ntmps23
 go_wp2_with fail
 refine (avail_any _ l 0 16 0 se HRF.out HAV.out HLM.out _ AV.out.arg).mono ?_
 rintro e w1 ⟨rfl,hb⟩
 replace RM:=Zk RM hb
 replace RS:=Zk RS hb
 replace RZ:=Zk RZ hb
 replace BW:=Zb BW hb
 replace AV:=Zh (AV.out.below hb)
 clear hb m0 mz s0 s1 s2 s3 y0 y1 y2 y3
 obtain ⟨⟨s0,s1,s2,s3⟩,y0,y1,y2,y3⟩:=cells_four RS.out
 obtain ⟨⟨r0,r1,r2,r3⟩,u0,u1,u2,u3⟩:=cells_four RZ.out
 have hltz:=(Array.getElem?_eq_some_iff.1 RZ.out).1
 go_wp2
 refine bodyPost_ret (v:=.tuple #[.agg #[.int .i64 0,.int .i64 16,.int .u16 (se:Nat),.int .u16 (us:Nat)],.int .i64 0,.slice none 0 0,.int .i64 7]) (by simp [results,Tryz.results23,go_sem,r0,r1,r2,r3]) rfl ⟨rfl,?_⟩
 exact ((((BW.out.setCell (p:=⟨w.heap.size+1+1,0,none⟩) (show w.heap.size≤w.heap.size+1+1 by omega) _).setCell (p:=⟨w.heap.size+1+1,1,none⟩) (show w.heap.size≤w.heap.size+1+1 by omega) _).setCell (p:=⟨w.heap.size+1+1,2,none⟩) (show w.heap.size≤w.heap.size+1+1 by omega) _).setCell (p:=⟨w.heap.size+1+1,3,none⟩) (show w.heap.size≤w.heap.size+1+1 by omega) _)
structure BlkServeC where
 (b0 b1 b2 b3 b4 b5 b6 b7 b8 b9:Bool)
 (s32 s33 s34 s35 s36 s37 s11:Value)
set_option maxHeartbeats 2000000 in
set_option maxRecDepth 100000 in
theorem serve_none (se us:Nat) (v sv cv:Value) (l:List UInt8) (S:List (List UInt8)) (C:List (Int × List UInt8)) (z SE US:Int) (w:World) (hv:OwnB 0 w v l) (hdk:DK w sv cv S C) (hk:chkB S C=true) (hl:l.length=1700) (hix:numAt l (0+16 * 16+2) 2=se) (e1:((se:Nat):Int)=SE) (e2:((us:Nat):Int)=US) :
 Calls Tryz.prog 11 #[.agg #[v],.agg #[.int .i64 0,.int .i64 16,.int .u16 SE,.int .u16 US],.agg #[sv,cv],.int .i64 z] w fun e w'=>∃ ra rc sa sn sc ca cn cc,e=.returned (.tuple #[.agg #[.slice ra 1700 rc],.agg #[.int .i64 0,.int .i64 16,.int .u16 SE,.int .u16 US],.agg #[.slice sa sn sc,.slice ca cn cc],.int .i64 7])∧OwnB 0 w' (.slice ra 1700 rc) l∧DK w' (.slice sa sn sc) (.slice ca cn cc) S C∧Below w.heap.size w w':=by
 obtain ⟨ma,mc,rfl,hx,hx2⟩:=hv.shape
 clear hx hx2
 rw [hl] at hv ⊢
 obtain ⟨a0,n0,k0,a1,n1,k1,rfl,rfl,hx,hx2⟩:=hdk.shape
 clear hx hx2
 have zRM:w.heap.size=w.heap.size:=rfl
 have bRM:Below w.heap.size w (w.alloc (.cells #[.slice ma 1700 mc] 24)):=(Below.refl _ _).alloc (Nat.le_refl _) _
 have zRS:(w.alloc (.cells #[.slice ma 1700 mc] 24)).heap.size=w.heap.size+1:=by simp
 have bRS:Below w.heap.size w ((w.alloc (.cells #[.slice ma 1700 mc] 24)).alloc (.cells #[.int .i64 0,.int .i64 16,.int .u16 SE,.int .u16 US] 45)):=bRM.alloc (by rw [zRS]; omega) _
 have zRD:((w.alloc (.cells #[.slice ma 1700 mc] 24)).alloc (.cells #[.int .i64 0,.int .i64 16,.int .u16 SE,.int .u16 US] 45)).heap.size=w.heap.size+1+1:=by simp
 have bRD:Below w.heap.size w (((w.alloc (.cells #[.slice ma 1700 mc] 24)).alloc (.cells #[.int .i64 0,.int .i64 16,.int .u16 SE,.int .u16 US] 45)).alloc (.cells #[.slice a0 n0 k0,.slice a1 n1 k1] 41)):=bRS.alloc (by rw [zRD]; omega) _
 have zRA:(((w.alloc (.cells #[.slice ma 1700 mc] 24)).alloc (.cells #[.int .i64 0,.int .i64 16,.int .u16 SE,.int .u16 US] 45)).alloc (.cells #[.slice a0 n0 k0,.slice a1 n1 k1] 41)).heap.size=w.heap.size+1+1+1:=by simp
 have bRA:Below w.heap.size w ((((w.alloc (.cells #[.slice ma 1700 mc] 24)).alloc (.cells #[.int .i64 0,.int .i64 16,.int .u16 SE,.int .u16 US] 45)).alloc (.cells #[.slice a0 n0 k0,.slice a1 n1 k1] 41)).alloc (.cells #[.slice none 0 0] 24)):=bRD.alloc (by rw [zRA]; omega) _
 have zRT:((((w.alloc (.cells #[.slice ma 1700 mc] 24)).alloc (.cells #[.int .i64 0,.int .i64 16,.int .u16 SE,.int .u16 US] 45)).alloc (.cells #[.slice a0 n0 k0,.slice a1 n1 k1] 41)).alloc (.cells #[.slice none 0 0] 24)).heap.size=w.heap.size+1+1+1+1:=by simp
 have bRT:Below w.heap.size w (((((w.alloc (.cells #[.slice ma 1700 mc] 24)).alloc (.cells #[.int .i64 0,.int .i64 16,.int .u16 SE,.int .u16 US] 45)).alloc (.cells #[.slice a0 n0 k0,.slice a1 n1 k1] 41)).alloc (.cells #[.slice none 0 0] 24)).alloc (.cells #[.int .i64 0,.int .i64 0,.int .u16 0,.int .u16 0] 45)):=bRA.alloc (by rw [zRT]; omega) _
 have zRZ:(((((w.alloc (.cells #[.slice ma 1700 mc] 24)).alloc (.cells #[.int .i64 0,.int .i64 16,.int .u16 SE,.int .u16 US] 45)).alloc (.cells #[.slice a0 n0 k0,.slice a1 n1 k1] 41)).alloc (.cells #[.slice none 0 0] 24)).alloc (.cells #[.int .i64 0,.int .i64 0,.int .u16 0,.int .u16 0] 45)).heap.size=w.heap.size+1+1+1+1+1:=by simp
 have bRZ:Below w.heap.size w ((((((w.alloc (.cells #[.slice ma 1700 mc] 24)).alloc (.cells #[.int .i64 0,.int .i64 16,.int .u16 SE,.int .u16 US] 45)).alloc (.cells #[.slice a0 n0 k0,.slice a1 n1 k1] 41)).alloc (.cells #[.slice none 0 0] 24)).alloc (.cells #[.int .i64 0,.int .i64 0,.int .u16 0,.int .u16 0] 45)).alloc (.cells #[.slice none 0 0,.slice none 0 0] 41)):=bRT.alloc (by rw [zRZ]; omega) _
 have tRM:=heap_alloc_new w (.cells #[.slice ma 1700 mc] 24)
 rw [zRM] at tRM
 have RM:=Zh (row_new (row_new (row_new (row_new (row_new tRM (.cells #[.int .i64 0,.int .i64 16,.int .u16 SE,.int .u16 US] 45)) (.cells #[.slice a0 n0 k0,.slice a1 n1 k1] 41)) (.cells #[.slice none 0 0] 24)) (.cells #[.int .i64 0,.int .i64 0,.int .u16 0,.int .u16 0] 45)) (.cells #[.slice none 0 0,.slice none 0 0] 41))
 have tRS:=heap_alloc_new (w.alloc (.cells #[.slice ma 1700 mc] 24)) (.cells #[.int .i64 0,.int .i64 16,.int .u16 SE,.int .u16 US] 45)
 rw [zRS] at tRS
 have RS:=Zh (row_new (row_new (row_new (row_new tRS (.cells #[.slice a0 n0 k0,.slice a1 n1 k1] 41)) (.cells #[.slice none 0 0] 24)) (.cells #[.int .i64 0,.int .i64 0,.int .u16 0,.int .u16 0] 45)) (.cells #[.slice none 0 0,.slice none 0 0] 41))
 have tRD:=heap_alloc_new ((w.alloc (.cells #[.slice ma 1700 mc] 24)).alloc (.cells #[.int .i64 0,.int .i64 16,.int .u16 SE,.int .u16 US] 45)) (.cells #[.slice a0 n0 k0,.slice a1 n1 k1] 41)
 rw [zRD] at tRD
 have RD:=Zh (row_new (row_new (row_new tRD (.cells #[.slice none 0 0] 24)) (.cells #[.int .i64 0,.int .i64 0,.int .u16 0,.int .u16 0] 45)) (.cells #[.slice none 0 0,.slice none 0 0] 41))
 have tRA:=heap_alloc_new (((w.alloc (.cells #[.slice ma 1700 mc] 24)).alloc (.cells #[.int .i64 0,.int .i64 16,.int .u16 SE,.int .u16 US] 45)).alloc (.cells #[.slice a0 n0 k0,.slice a1 n1 k1] 41)) (.cells #[.slice none 0 0] 24)
 rw [zRA] at tRA
 have RA:=Zh (row_new (row_new tRA (.cells #[.int .i64 0,.int .i64 0,.int .u16 0,.int .u16 0] 45)) (.cells #[.slice none 0 0,.slice none 0 0] 41))
 have tRT:=heap_alloc_new ((((w.alloc (.cells #[.slice ma 1700 mc] 24)).alloc (.cells #[.int .i64 0,.int .i64 16,.int .u16 SE,.int .u16 US] 45)).alloc (.cells #[.slice a0 n0 k0,.slice a1 n1 k1] 41)).alloc (.cells #[.slice none 0 0] 24)) (.cells #[.int .i64 0,.int .i64 0,.int .u16 0,.int .u16 0] 45)
 rw [zRT] at tRT
 have RT:=Zh (row_new tRT (.cells #[.slice none 0 0,.slice none 0 0] 41))
 have tRZ:=heap_alloc_new (((((w.alloc (.cells #[.slice ma 1700 mc] 24)).alloc (.cells #[.int .i64 0,.int .i64 16,.int .u16 SE,.int .u16 US] 45)).alloc (.cells #[.slice a0 n0 k0,.slice a1 n1 k1] 41)).alloc (.cells #[.slice none 0 0] 24)).alloc (.cells #[.int .i64 0,.int .i64 0,.int .u16 0,.int .u16 0] 45)) (.cells #[.slice none 0 0,.slice none 0 0] 41)
 rw [zRZ] at tRZ
 have RZ:=Zh tRZ
 have BW:=Zh bRZ
 have AV:=Zh (hv.below BW.out)
 have DD:=Zh (hdk.below BW.out)
 have HK:=Zh hk
 have HL:=Zh hl
 have HIX:=Zh hix
 have E1:=Zh e1
 have E2:=Zh e2
 clear hv hdk hk hl hix e1 e2 tRM tRS tRD tRA tRT tRZ zRM zRS zRD zRA zRT zRZ bRM bRS bRD bRA bRT bRZ
 obtain ⟨m0,mz⟩:=one_cell RM.out
 obtain ⟨⟨s0,s1,s2,s3⟩,x0,x1,x2,x3⟩:=cells_four RS.out
 go_enter Tryz.func11,Tryz.ntmps11
 go_wp2_with fail
 refine (next_none se us _ l SE US _ AV.out HL.out HIX.out E1.out E2.out).mono ?_
 rintro e w1 ⟨rfl,hb⟩
 replace RM:=Zk RM hb
 replace RS:=Zk RS hb
 replace RD:=Zk RD hb
 replace RA:=Zk RA hb
 replace RT:=Zk RT hb
 replace RZ:=Zk RZ hb
 replace BW:=Zb BW hb
 replace AV:=Zh (AV.out.below hb)
 replace DD:=Zh (DD.out.below hb)
 clear hb m0 mz s0 s1 s2 s3 x0 x1 x2 x3
 obtain ⟨⟨s0,s1,s2,s3⟩,x0,x1,x2,x3⟩:=cells_four RS.out
 have hlts:=(Array.getElem?_eq_some_iff.1 RS.out).1
 replace RM:=Zx RM RS 0 (.int .i64 0)
 replace RD:=Zx RD RS 0 (.int .i64 0)
 replace RA:=Zx RA RS 0 (.int .i64 0)
 replace RT:=Zh (one_other RT.out ⟨w.heap.size+1,0,none⟩ (.int .i64 0) (show w.heap.size+1≠w.heap.size+1+1+1+1 by omega))
 replace RZ:=Zx RZ RS 0 (.int .i64 0)
 replace BW:=Zh (BW.out.setCell (p:=⟨w.heap.size+1,0,none⟩) (show w.heap.size≤w.heap.size+1 by omega) (.int .i64 0))
 replace AV:=Zh (AV.out.stay RS.out (by decide) 0 (.int .i64 0))
 replace DD:=Zh (DD.out.stay RS.out (by decide) 0 (.int .i64 0))
 replace RS:=Zh (row_put RS.out 0 (.int .i64 0))
 replace RM:=Zx RM RS 1 (.int .i64 16)
 replace RD:=Zx RD RS 1 (.int .i64 16)
 replace RA:=Zx RA RS 1 (.int .i64 16)
 replace RT:=Zh (one_other RT.out ⟨w.heap.size+1,1,none⟩ (.int .i64 16) (show w.heap.size+1≠w.heap.size+1+1+1+1 by omega))
 replace RZ:=Zx RZ RS 1 (.int .i64 16)
 replace BW:=Zh (BW.out.setCell (p:=⟨w.heap.size+1,1,none⟩) (show w.heap.size≤w.heap.size+1 by omega) (.int .i64 16))
 replace AV:=Zh (AV.out.stay RS.out (by decide) 1 (.int .i64 16))
 replace DD:=Zh (DD.out.stay RS.out (by decide) 1 (.int .i64 16))
 replace RS:=Zh (row_put RS.out 1 (.int .i64 16))
 replace RM:=Zx RM RS 2 (.int .u16 SE)
 replace RD:=Zx RD RS 2 (.int .u16 SE)
 replace RA:=Zx RA RS 2 (.int .u16 SE)
 replace RT:=Zh (one_other RT.out ⟨w.heap.size+1,2,none⟩ (.int .u16 SE) (show w.heap.size+1≠w.heap.size+1+1+1+1 by omega))
 replace RZ:=Zx RZ RS 2 (.int .u16 SE)
 replace BW:=Zh (BW.out.setCell (p:=⟨w.heap.size+1,2,none⟩) (show w.heap.size≤w.heap.size+1 by omega) (.int .u16 SE))
 replace AV:=Zh (AV.out.stay RS.out (by decide) 2 (.int .u16 SE))
 replace DD:=Zh (DD.out.stay RS.out (by decide) 2 (.int .u16 SE))
 replace RS:=Zh (row_put RS.out 2 (.int .u16 SE))
 replace RM:=Zx RM RS 3 (.int .u16 US)
 replace RD:=Zx RD RS 3 (.int .u16 US)
 replace RA:=Zx RA RS 3 (.int .u16 US)
 replace RT:=Zh (one_other RT.out ⟨w.heap.size+1,3,none⟩ (.int .u16 US) (show w.heap.size+1≠w.heap.size+1+1+1+1 by omega))
 replace RZ:=Zx RZ RS 3 (.int .u16 US)
 replace BW:=Zh (BW.out.setCell (p:=⟨w.heap.size+1,3,none⟩) (show w.heap.size≤w.heap.size+1 by omega) (.int .u16 US))
 replace AV:=Zh (AV.out.stay RS.out (by decide) 3 (.int .u16 US))
 replace DD:=Zh (DD.out.stay RS.out (by decide) 3 (.int .u16 US))
 replace RS:=Zh (row_put RS.out 3 (.int .u16 US))
 go_wp2_with fail
 obtain ⟨w2,hw2⟩:∃ x,x=((((w1.setCell ⟨w.heap.size+1,0,none⟩ (.int .i64 0)).setCell ⟨w.heap.size+1,1,none⟩ (.int .i64 16)).setCell ⟨w.heap.size+1,2,none⟩ (.int .u16 SE)).setCell ⟨w.heap.size+1,3,none⟩ (.int .u16 US)):=⟨_,rfl⟩
 rw [←hw2] at RM RS RD RA RT RZ BW AV DD ⊢
 clear hw2 s0 s1 s2 s3 x0 x1 x2 x3 hlts
 refine wp_region_rec (X:=BlkServeC) (by kernel_rfl) (by kernel_rfl) (fun x=>#[x.b0,x.b1,x.b2,x.b3,x.b4,x.b5,x.b6,x.b7,x.b8,x.b9]) (fun x=>{ tmps:=List.toArray ((.agg #[.slice ma 1700 mc])::(.agg #[.int .i64 0,.int .i64 16,.int .u16 SE,.int .u16 US])::(.agg #[.slice a0 n0 k0,.slice a1 n1 k1])::(.int .i64 z)::(.pointer (some ⟨w.heap.size,0,none⟩))::(.pointer (some ⟨w.heap.size+1,0,none⟩))::(.pointer (some ⟨w.heap.size+1+1,0,none⟩))::undef::(.pointer (some ⟨w.heap.size+1+1+1,0,none⟩))::(.pointer (some ⟨w.heap.size+1+1+1+1,0,none⟩))::(.pointer (some ⟨w.heap.size+1+1+1+1+1,0,none⟩))::x.s11::(.int .i64 0)::(.slice none 0 0)::(.int .i64 7)::(.tuple #[.agg #[.int .i64 0,.int .i64 16,.int .u16 SE,.int .u16 US],.int .i64 0,.slice none 0 0,.int .i64 7])::(.agg #[.slice ma 1700 mc])::(.agg #[.int .i64 0,.int .i64 16,.int .u16 SE,.int .u16 US])::(.tuple #[.agg #[.int .i64 0,.int .i64 16,.int .u16 SE,.int .u16 US],.int .i64 0,.slice none 0 0,.int .i64 7])::(.agg #[.int .i64 0,.int .i64 16,.int .u16 SE,.int .u16 US])::(.int .i64 0)::(.slice none 0 0)::(.int .i64 7)::(.int .i64 7)::(.bool false)::(.bool false)::undef::undef::undef::(.bool false)::(.int .i64 7)::(.bool true)::x.s32::x.s33::x.s34::x.s35::x.s36::x.s37::undef::undef::undef::undef::undef::undef::undef::undef::undef::undef::undef::undef::undef::undef::undef::undef::undef::undef::undef::undef::undef::undef::undef::undef::undef::undef::undef::undef::undef::undef::undef::undef::undef::undef::undef::undef::undef::undef::undef::undef::[]),defers:=[] }) (fun x W=>(x.b0→x.s32=.agg #[.slice ma 1700 mc])∧(x.b2→x.s34=.agg #[.int .i64 0,.int .i64 16,.int .u16 SE,.int .u16 US])∧(x.b3→x.s35=.agg #[.slice a0 n0 k0,.slice a1 n1 k1])∧(x.b5→x.s37=.int .i64 7)∧(x.b9→x.s11=.int .i64 7)∧(x.b6→x.b1∧x.b4)∧(x.b7→x.b1∧x.b4∧x.b6)∧(x.b8→x.b1∧x.b4∧x.b6∧x.b7)∧(x.b4→x.b1)∧(W.heap[w.heap.size]? = some (.cells #[.slice ma 1700 mc] 24 (0,0)))∧(W.heap[w.heap.size+1]? = some (.cells #[.int .i64 0,.int .i64 16,.int .u16 SE,.int .u16 US] 45 (0,0)))∧(W.heap[w.heap.size+1+1]? = some (.cells #[.slice a0 n0 k0,.slice a1 n1 k1] 41 (0,0)))∧(x.b6=false→W.heap[w.heap.size+1+1+1]? = some (.cells #[.slice none 0 0] 24 (0,0)))∧(x.b7=false→W.heap[w.heap.size+1+1+1+1]? = some (.cells #[.int .i64 0,.int .i64 0,.int .u16 0,.int .u16 0] 45 (0,0)))∧(x.b7→W.heap[w.heap.size+1+1+1+1]? = some (.cells #[.int .i64 0,.int .i64 16,.int .u16 SE,.int .u16 US] 45 (0,0)))∧(x.b8=false→W.heap[w.heap.size+1+1+1+1+1]? = some (.cells #[.slice none 0 0,.slice none 0 0] 41 (0,0)))∧(Below w.heap.size w W)∧(OwnB 0 W (.slice ma 1700 mc) l)∧(DK W (.slice a0 n0 k0) (.slice a1 n1 k1) S C)∧(x.b1→∃ ra rc,x.s33=.agg #[.slice ra 1700 rc]∧OwnB 0 W (.slice ra 1700 rc) l)∧(x.b4→∃ xa xn xc ya yn yc,x.s36=.agg #[.slice xa xn xc,.slice ya yn yc]∧DK W (.slice xa xn xc) (.slice ya yn yc) S C)∧(x.b6→MemAt W (w.heap.size+1+1+1) l)∧(x.b8→DskAt W (w.heap.size+1+1+1+1+1) S C)) ⟨false,false,false,false,false,false,false,false,false,false,undef,undef,undef,undef,undef,undef,.int .i64 0⟩ rfl rfl ⟨Zf,Zf,Zf,Zf,Zf,Zf,Zf,Zf,Zf,RM.out,RS.out,RD.out,(fun _=>RA.out),(fun _=>RT.out),Zf,(fun _=>RZ.out),BW.out.drew,AV.out.drew,DD.out.drew,Zf,Zf,Zf,Zf⟩ (fun _=>rfl) ?hstep ?hdone
 case hstep =>
  rintro ⟨b0,b1,b2,b3,b4,b5,b6,b7,b8,b9,s32,s33,s34,s35,s36,s37,s11⟩ W hI i hi
  dsimp only at hI hi ⊢
  have HI:=Zh hI
  clear hI
  rw [Region.ready,List.mem_filter,List.mem_range] at hi
  obtain ⟨hlt,hp⟩:=hi
  have hi7:i=0∨i=1∨i=2∨i=3∨i=4∨i=5∨i=6∨i=7∨i=8∨i=9:=by simp at hlt; omega
  clear hlt
  rcases hi7 with rfl|rfl|rfl|rfl|rfl|rfl|rfl|rfl|rfl|rfl
  all_goals simp [Region.binds] at hp
  · obtain rfl:b0=false:=by revert hp; cases b0 <;> simp
    clear hp; refine Zv 32 fun K' hK'=>?_
    have rM:=(Ze HI.out).2.1
    obtain ⟨hc0,_⟩:=at_cell rM 0 _ rfl
    go_simp
    exact hK'.out _ _ ⟨.mk ..,rfl,rfl,(Upd (fun _=>rfl)) HI.out⟩
  · obtain ⟨rfl,e0⟩:b1=false∧b0=true:=by revert hp; cases b1 <;> cases b0 <;> simp
    clear hp
    obtain rfl:=(HI.out.1) e0
    refine Zv 33 fun K' hK'=>?_
    have gi6:=(Zd HI.out).2.1
    have gi7:=(Zd HI.out).2.2.1
    have gi8:=(Zd HI.out).2.2.2.1
    have gi4:=(Ze HI.out).1
    have gV:=(Zg HI.out).2.1
    obtain rfl:b6=false:=Zz fun e=>(gi6 e).1
    obtain rfl:b7=false:=Zz fun e=>(gi7 e).1
    obtain rfl:b8=false:=Zz fun e=>(gi8 e).1
    obtain rfl:b4=false:=Zz fun e=>(gi4 e)
    go_simp
    refine (blkSame_any _ l W gV HL.out).mono ?_
    rintro e w3 ⟨ra,rc,rfl,hr,bn⟩
    obtain ⟨h0,h2,h3,h5,h9,gi6,gi7,gi8,gi4,rM,rS,rD,rA0,rT0,rT1,rZ0,gB,gV,gD,gP,gC,gA,gS⟩:=HI.out
    exact hK'.out _ _ ⟨.mk ..,rfl,rfl,h0,h2,h3,h5,h9,Zf,Zf,Zf,Zf,(row_keep rM bn),(row_keep rS bn),(row_keep rD bn),(fun e=>row_keep (rA0 e) bn),(fun e=>row_keep (rT0 e) bn),Zf,(fun e=>row_keep (rZ0 e) bn),(gB.trans (bn.mono gB.size)),(gV.below bn),(gD.below bn),(fun _=>⟨ra,rc,rfl,hr⟩),Zf,Zf,Zf⟩
  · obtain rfl:b2=false:=by revert hp; cases b2 <;> simp
    clear hp; refine Zv 34 fun K' hK'=>?_
    have rS:=(Ze HI.out).2.2.1
    obtain ⟨hc0,_⟩:=at_cell rS 0 _ rfl
    obtain ⟨hc1,_⟩:=at_cell rS 1 _ rfl
    obtain ⟨hc2,_⟩:=at_cell rS 2 _ rfl
    obtain ⟨hc3,_⟩:=at_cell rS 3 _ rfl
    go_simp
    exact hK'.out _ _ ⟨.mk ..,rfl,rfl,Nxt (Upd (fun _=>rfl)) HI.out⟩
  · obtain rfl:b3=false:=by revert hp; cases b3 <;> simp
    clear hp; refine Zv 35 fun K' hK'=>?_
    have rD:=(Ze HI.out).2.2.2.1
    obtain ⟨hc0,_⟩:=at_cell rD 0 _ rfl
    obtain ⟨hc1,_⟩:=at_cell rD 1 _ rfl
    go_simp
    exact hK'.out _ _ ⟨.mk ..,rfl,rfl,Nxt (Nxt (Upd (fun _=>rfl))) HI.out⟩
  · obtain ⟨rfl,e3,e1⟩:b4=false∧b3=true∧b1=true:=by revert hp; cases b4 <;> cases b3 <;> cases b1 <;> simp
    clear hp
    obtain rfl:=(HI.out.2.2.1) e3
    refine Zv 36 fun K' hK'=>?_
    have gi6:=(Zd HI.out).2.1
    have gi7:=(Zd HI.out).2.2.1
    have gi8:=(Zd HI.out).2.2.2.1
    have gD:=(Zg HI.out).2.2.1
    obtain rfl:b6=false:=Zz fun e=>(gi6 e).2
    obtain rfl:b7=false:=Zz fun e=>(gi7 e).2.1
    obtain rfl:b8=false:=Zz fun e=>(gi8 e).2.1
    go_simp
    refine (sameDisk_any _ _ S C W gD HK.out).mono ?_
    rintro e w3 ⟨xa,xn,xc,ya,yn,yc,rfl,hq,hx1,hx2,bn⟩
    obtain ⟨h0,h2,h3,h5,h9,gi6,gi7,gi8,gi4,rM,rS,rD,rA0,rT0,rT1,rZ0,gB,gV,gD,gP,gC,gA,gS⟩:=HI.out
    exact hK'.out _ _ ⟨.mk ..,rfl,rfl,h0,h2,h3,h5,h9,Zf,Zf,Zf,(fun _=>e1),(row_keep rM bn),(row_keep rS bn),(row_keep rD bn),(fun e=>row_keep (rA0 e) bn),(fun e=>row_keep (rT0 e) bn),Zf,(fun e=>row_keep (rZ0 e) bn),(gB.trans (bn.mono gB.size)),(gV.below bn),(gD.below bn),(fun e=>by obtain ⟨y0,y1,h1,h2⟩:=gP e; exact ⟨y0,y1,h1,h2.below bn⟩),(fun _=>⟨_,_,_,_,_,_,rfl,hq⟩),Zf,Zf⟩
  · obtain rfl:b5=false:=by revert hp; cases b5 <;> simp
    clear hp; refine Zv 37 fun K' hK'=>?_
    go_simp
    exact hK'.out _ _ ⟨.mk ..,rfl,rfl,Nxt (Nxt (Nxt (Upd (fun _=>rfl)))) HI.out⟩
  · obtain ⟨rfl,e1,e4⟩:b6=false∧b1=true∧b4=true:=by revert hp; cases b6 <;> cases b1 <;> cases b4 <;> simp
    clear hp
    refine inv_op (o:=⟨none,_,_,_,_,_⟩) rfl (fun K' hK'=>?_)
    have gi7:=(Zd HI.out).2.2.1
    have gi8:=(Zd HI.out).2.2.2.1
    have rA0:=(Zd (Ze HI.out)).1
    have gP:=(Zg HI.out).2.2.2.1
    obtain rfl:b7=false:=Zz fun e=>(gi7 e).2.2
    obtain rfl:b8=false:=Zz fun e=>(gi8 e).2.2.1
    obtain ⟨ra,rc,rfl,hp⟩:=gP e1
    obtain ⟨hc0,hz0⟩:=at_cell (rA0 rfl) 0 _ rfl
    have hlt:=(Array.getElem?_eq_some_iff.1 (rA0 rfl)).1
    go_simp
    obtain ⟨h0,h2,h3,h5,h9,gi6,gi7,gi8,gi4,rM,rS,rD,rA0,rT0,rT1,rZ0,gB,gV,gD,gP,gC,gA,gS⟩:=HI.out
    exact hK'.out _ _ ⟨.mk ..,rfl,rfl,h0,h2,h3,h5,h9,(fun _=>⟨e1,e4⟩),Zf,Zf,gi4,(Zp1 rM (show w.heap.size+1+1+1≠w.heap.size by omega)),(Zp1 rS (Zn rS (rA0 rfl))),(Zp1 rD (Zn rD (rA0 rfl))),Zf,(fun e=>(Zp1 (rT0 e) (Zn (rT0 e) (rA0 rfl)))),Zf,(fun e=>(Zp1 (rZ0 e) (Zn (rZ0 e) (rA0 rfl)))),(Zu1 gB (show w.heap.size≤w.heap.size+1+1+1 by omega)),(gV.stay (rA0 rfl) (by decide) _ _),(gD.stay (rA0 rfl) (by decide) _ _),(fun _=>⟨_,_,rfl,hp.stay (rA0 rfl) (by decide) 0 (.slice ra 1700 rc)⟩),(fun e=>by obtain ⟨y0,y1,y2,y3,y4,y5,h1,hX⟩:=gC e; exact ⟨y0,y1,y2,y3,y4,y5,h1,hX.stay (rA0 rfl) (by decide) 0 (.slice ra 1700 rc)⟩),(fun _=>⟨ra,rc,row_put (rA0 rfl) 0 (.slice ra 1700 rc),hp.stay (rA0 rfl) (by decide) 0 (.slice ra 1700 rc)⟩),Zf⟩
  · have hn7:b7=false:=by revert hp; cases b7 <;> simp
    have e2:b2=true:=by revert hp; cases b2 <;> simp
    have e6:b6=true:=by revert hp; cases b6 <;> simp
    have e1:b1=true:=by revert hp; cases b1 <;> simp
    clear hp
    obtain rfl:=(HI.out.2.1) e2
    subst hn7
    refine inv_op (o:=⟨none,_,_,_,_,_⟩) rfl (fun K' hK'=>?_)
    have gi8:=(Zd HI.out).2.2.2.1
    have rT0:=(Zd (Ze HI.out)).2.1
    obtain rfl:b8=false:=Zz fun e=>(gi8 e).2.2.2
    obtain ⟨hc0,hz0⟩:=at_cell (rT0 rfl) 0 _ rfl
    obtain ⟨hc1,hz1⟩:=at_cell (rT0 rfl) 1 _ rfl
    obtain ⟨hc2,hz2⟩:=at_cell (rT0 rfl) 2 _ rfl
    obtain ⟨hc3,hz3⟩:=at_cell (rT0 rfl) 3 _ rfl
    have hlt:=(Array.getElem?_eq_some_iff.1 (rT0 rfl)).1
    go_simp
    obtain ⟨h0,h2,h3,h5,h9,gi6,gi7,gi8,gi4,rM,rS,rD,rA0,rT0,rT1,rZ0,gB,gV,gD,gP,gC,gA,gS⟩:=HI.out
    exact hK'.out _ _ ⟨.mk ..,rfl,rfl,h0,h2,h3,h5,h9,gi6,(fun _=>⟨e1,(gi6 e6).2,e6⟩),Zf,gi4,(Zp4 rM (Zn rM (rT0 rfl))),(Zp4 rS (show w.heap.size+1+1+1+1≠w.heap.size+1 by omega)),(Zp4 rD (Zn rD (rT0 rfl))),(fun e=>(Zp4 (rA0 e) (Zn (rA0 e) (rT0 rfl)))),Zf,(fun _=>(Zr (Zr (Zr (Zr (rT0 rfl)))))),(fun e=>(Zp4 (rZ0 e) (Zn (rZ0 e) (rT0 rfl)))),(Zu4 gB (show w.heap.size≤w.heap.size+1+1+1+1 by omega)),((((gV.stay (rT0 rfl) (by decide) _ _).stay (Zr (rT0 rfl)) (by decide) _ _).stay (Zr (Zr (rT0 rfl))) (by decide) _ _).stay (Zr (Zr (Zr (rT0 rfl)))) (by decide) _ _),((((gD.stay (rT0 rfl) (by decide) _ _).stay (Zr (rT0 rfl)) (by decide) _ _).stay (Zr (Zr (rT0 rfl))) (by decide) _ _).stay (Zr (Zr (Zr (rT0 rfl)))) (by decide) _ _),(fun e=>by obtain ⟨y0,y1,h1,hX⟩:=gP e; exact ⟨y0,y1,h1,(((hX.stay (rT0 rfl) (by decide) _ _).stay (Zr (rT0 rfl)) (by decide) _ _).stay (Zr (Zr (rT0 rfl))) (by decide) _ _).stay (Zr (Zr (Zr (rT0 rfl)))) (by decide) 3 (.int .u16 US)⟩),(fun e=>by obtain ⟨y0,y1,y2,y3,y4,y5,h1,hX⟩:=gC e; exact ⟨y0,y1,y2,y3,y4,y5,h1,(((hX.stay (rT0 rfl) (by decide) _ _).stay (Zr (rT0 rfl)) (by decide) _ _).stay (Zr (Zr (rT0 rfl))) (by decide) _ _).stay (Zr (Zr (Zr (rT0 rfl)))) (by decide) 3 (.int .u16 US)⟩),(fun e=>((((gA e).stay (rT0 rfl) (by decide) (show w.heap.size+1+1+1+1≠w.heap.size+1+1+1 by omega) _ _).stay (Zr (rT0 rfl)) (by decide) (show w.heap.size+1+1+1+1≠w.heap.size+1+1+1 by omega) _ _).stay (Zr (Zr (rT0 rfl))) (by decide) (show w.heap.size+1+1+1+1≠w.heap.size+1+1+1 by omega) _ _).stay (Zr (Zr (Zr (rT0 rfl)))) (by decide) (show w.heap.size+1+1+1+1≠w.heap.size+1+1+1 by omega) 3 (.int .u16 US)),Zf⟩
  · have hn8:b8=false:=by revert hp; cases b8 <;> simp
    have e4:b4=true:=by revert hp; cases b4 <;> simp
    have e7:b7=true:=by revert hp; cases b7 <;> simp
    have e1:b1=true:=by revert hp; cases b1 <;> simp
    have e6:b6=true:=by revert hp; cases b6 <;> simp
    clear hp
    subst hn8
    refine inv_op (o:=⟨none,_,_,_,_,_⟩) rfl (fun K' hK'=>?_)
    have rZ0:=(Zd (Ze HI.out)).2.2.2.1
    have gC:=(Zd (Zg HI.out)).1
    obtain ⟨xa,xn,xc,ya,yn,yc,rfl,hq⟩:=gC e4
    obtain ⟨hc0,hz0⟩:=at_cell (rZ0 rfl) 0 _ rfl
    obtain ⟨hc1,hz1⟩:=at_cell (rZ0 rfl) 1 _ rfl
    have hlt:=(Array.getElem?_eq_some_iff.1 (rZ0 rfl)).1
    go_simp
    obtain ⟨h0,h2,h3,h5,h9,gi6,gi7,gi8,gi4,rM,rS,rD,rA0,rT0,rT1,rZ0,gB,gV,gD,gP,gC,gA,gS⟩:=HI.out
    exact hK'.out _ _ ⟨.mk ..,rfl,rfl,h0,h2,h3,h5,h9,gi6,gi7,(fun _=>⟨e1,e4,e6,e7⟩),gi4,(Zp2 rM (Zn rM (rZ0 rfl))),(Zp2 rS (Zn rS (rZ0 rfl))),(Zp2 rD (show w.heap.size+1+1+1+1+1≠w.heap.size+1+1 by omega)),(fun e=>(Zp2 (rA0 e) (Zn (rA0 e) (rZ0 rfl)))),(fun e=>(Zp2 (rT0 e) (Zn (rT0 e) (rZ0 rfl)))),(fun e=>(Zp2 (rT1 e) (Zn (rT1 e) (rZ0 rfl)))),Zf,(Zu2 gB (show w.heap.size≤w.heap.size+1+1+1+1+1 by omega)),((gV.stay (rZ0 rfl) (by decide) _ _).stay (Zr (rZ0 rfl)) (by decide) _ _),((gD.stay (rZ0 rfl) (by decide) _ _).stay (Zr (rZ0 rfl)) (by decide) _ _),(fun e=>by obtain ⟨y0,y1,h1,hX⟩:=gP e; exact ⟨y0,y1,h1,(hX.stay (rZ0 rfl) (by decide) _ _).stay (Zr (rZ0 rfl)) (by decide) 1 (.slice ya yn yc)⟩),(fun _=>⟨_,_,_,_,_,_,rfl,(hq.stay (rZ0 rfl) (by decide) _ _).stay (Zr (rZ0 rfl)) (by decide) 1 (.slice ya yn yc)⟩),(fun e=>((gA e).stay (rZ0 rfl) (by decide) (show w.heap.size+1+1+1+1+1≠w.heap.size+1+1+1 by omega) _ _).stay (Zr (rZ0 rfl)) (by decide) (show w.heap.size+1+1+1+1+1≠w.heap.size+1+1+1 by omega) 1 (.slice ya yn yc)),(fun _=>⟨_,_,_,_,_,_,row_put (Zr (rZ0 rfl)) 1 (.slice ya yn yc),(hq.stay (rZ0 rfl) (by decide) _ _).stay (Zr (rZ0 rfl)) (by decide) 1 (.slice ya yn yc)⟩)⟩
  · obtain ⟨rfl,e5,e8⟩:b9=false∧b5=true∧b8=true:=by revert hp; cases b9 <;> cases b5 <;> cases b8 <;> simp
    clear hp
    obtain rfl:=(HI.out.2.2.2.1) e5
    refine Zv 11 fun K' hK'=>?_
    go_simp
    exact hK'.out _ _ ⟨.mk ..,rfl,rfl,Nx4 (Upd (fun _=>rfl)) HI.out⟩
 case hdone =>
  rintro ⟨b0,b1,b2,b3,b4,b5,b6,b7,b8,b9,s32,s33,s34,s35,s36,s37,s11⟩ W hI hall
  dsimp only at hI hall ⊢
  have HI:=Zh hI
  clear hI
  obtain rfl:b0=true:=hall 0 (by decide)
  obtain rfl:b1=true:=hall 1 (by decide)
  obtain rfl:b2=true:=hall 2 (by decide)
  obtain rfl:b3=true:=hall 3 (by decide)
  obtain rfl:b4=true:=hall 4 (by decide)
  obtain rfl:b5=true:=hall 5 (by decide)
  obtain rfl:b6=true:=hall 6 (by decide)
  obtain rfl:b7=true:=hall 7 (by decide)
  obtain rfl:b8=true:=hall 8 (by decide)
  obtain rfl:b9=true:=hall 9 (by decide)
  obtain rfl:=((Zd HI.out).1) rfl
  have gA:=(Zd (Zg HI.out)).2.1
  have gS:=(Zd (Zg HI.out)).2.2
  have rT1:=(Zd (Ze HI.out)).2.2.1
  have gB:=(Zg HI.out).1
  clear HI hall
  obtain ⟨ra,rc,hm,hmo⟩:=gA rfl
  obtain ⟨xa,xn,xc,ya,yn,yc,hd,hdo⟩:=gS rfl
  obtain ⟨q0,_⟩:=one_cell hm
  obtain ⟨⟨q1,q2,q3,q4⟩,_⟩:=cells_four (rT1 rfl)
  obtain ⟨⟨q5,q6⟩,_⟩:=box_cells hd
  have HB9:=Zh gB
  have HD9:=Zh hdo
  have HV9:=Zh hmo
  clear gA gS rT1 gB hm hmo hd hdo
  go_wp2
  refine bodyPost_ret (v:=.tuple #[.agg #[.slice ra 1700 rc],.agg #[.int .i64 0,.int .i64 16,.int .u16 SE,.int .u16 US],.agg #[.slice xa xn xc,.slice ya yn yc],.int .i64 7]) (by simp [results,Tryz.results11,go_sem,q0,q1,q2,q3,q4,q5,q6]) rfl ⟨_,_,_,_,_,_,_,_,rfl,HV9.out,HD9.out,HB9.out⟩
set_option maxHeartbeats 400000 in
theorem bytes_same (a b:Value) (l:List UInt8) (w:World) (ha:IsBytes w a l) (hb:IsBytes w b l) :
 Calls Tryz.prog 14 #[a,b] w fun e w'=>e=.returned (.bool true)∧w=w':=by
 have h1:=conv_bytes ha
 have h2:=conv_bytes hb
 go_enter Tryz.func14,Tryz.ntmps14
 go_wp2
 go_ret
 exact ⟨rfl,rfl⟩
end Go.Proofs.YtcljffcdpjmmbaaGreat
