import Derived.BigFrame
import Derived.Deep.CutRange
import Derived.Test.YtcljffcdpjmmbaaGreatG01
namespace Go.Proofs.YtcljffcdpjmmbaaGreat
open Go.RowKit Go.Lib
theorem two_new2 (w:World) (cs ds:Array Value) (s t:TypeId):((w.alloc (.cells cs s)).alloc (.cells ds t)).heap[w.heap.size]? = some (.cells cs s (0,0))∧((w.alloc (.cells cs s)).alloc (.cells ds t)).heap[w.heap.size+1]? = some (.cells ds t (0,0))∧Below w.heap.size w ((w.alloc (.cells cs s)).alloc (.cells ds t)) :=
 ⟨row_new (heap_alloc_new w _) _,by simpa using heap_alloc_new (w.alloc (.cells cs s)) (.cells ds t),((Below.refl _ _).alloc (Nat.le_refl _) _).alloc (by simp) _⟩
structure WorkB (B:Nat) (W:World) (g:Nat) (q:QQ) (F C M:Value) (D:List Value) (l:List UInt8):Prop where
 lo:B≤g
 row:W.heap[g]? = some (.cells #[.int .i64 q.base,.int .i64 q.size,F,.int .u16 (q.avail:Nat),.int .u16 (q.last:Nat),C,M] 133 (0,0))
 isq:IsQ B W F C q D
 mem:OwnB 0 W M l
theorem WorkB.below {B g:Nat} {w w':World} {q:QQ} {F C M:Value} {D:List Value} {l:List UInt8} (h:WorkB B w g q F C M D l) (hb:Below w.heap.size w w'):WorkB B w' g q F C M D l:=⟨h.lo,row_keep h.row hb,h.isq.below hb,h.mem.below hb⟩
theorem IsQ.drew {B:Nat} {w:World} {F C:Value} {q:QQ} {D:List Value} (h:IsQ B w F C q D):IsQ B w.drew F C q D:=h.below (Below.refl _ _).drew
theorem WorkB.drew {B g:Nat} {w:World} {q:QQ} {F C M:Value} {D:List Value} {l:List UInt8} (h:WorkB B w g q F C M D l):WorkB B w.drew g q F C M D l:=h.below (Below.refl _ _).drew
theorem twI:(133:Nat)≠3:=by decide
theorem twC:(133:Nat)≠97:=by decide
theorem twU:(133:Nat)≠5:=by decide
theorem WorkB.stay {B g r:Nat} {w:World} {q:QQ} {F C M:Value} {D:List Value} {l:List UInt8} {cs:Array Value} {t:TypeId} {fr:Nat × Nat} (h:WorkB B w g q F C M D l) (hg:w.heap[r]? = some (.cells cs t fr)) (h1:(t:Nat)≠3) (h2:(t:Nat)≠97) (h3:(t:Nat)≠5) (h4:(t:Nat)≠133) (j:Nat) (u:Value):WorkB B (w.setCell ⟨r,j,none⟩ u) g q F C M D l :=
 ⟨h.lo,one_other h.row _ _ (blocks_ne h.row hg h4),h.isq.stay hg h1 h2 j u,h.mem.stay hg h3 j u⟩
theorem cells_seven {X:World} {r:Nat} {a b c d e f m:Value} {t:TypeId} (h:X.heap[r]? = some (.cells #[a,b,c,d,e,f,m] t (0,0))) :
 (X.cell? ⟨r,0,none⟩=some a∧X.cell? ⟨r,1,none⟩=some b∧X.cell? ⟨r,2,none⟩=some c∧X.cell? ⟨r,3,none⟩=some d∧X.cell? ⟨r,4,none⟩=some e∧X.cell? ⟨r,5,none⟩=some f∧X.cell? ⟨r,6,none⟩=some m) ∧
 (X.frozen? ⟨r,0,none⟩=false∧X.frozen? ⟨r,1,none⟩=false∧X.frozen? ⟨r,2,none⟩=false∧X.frozen? ⟨r,3,none⟩=false∧X.frozen? ⟨r,4,none⟩=false∧X.frozen? ⟨r,5,none⟩=false∧X.frozen? ⟨r,6,none⟩=false) :=
 ⟨⟨(at_cell h 0 _ rfl).1,(at_cell h 1 _ rfl).1,(at_cell h 2 _ rfl).1,(at_cell h 3 _ rfl).1,(at_cell h 4 _ rfl).1,(at_cell h 5 _ rfl).1,(at_cell h 6 _ rfl).1⟩,⟨(at_cell h 0 _ rfl).2,(at_cell h 1 _ rfl).2,(at_cell h 2 _ rfl).2,(at_cell h 3 _ rfl).2,(at_cell h 4 _ rfl).2,(at_cell h 5 _ rfl).2,(at_cell h 6 _ rfl).2⟩⟩
structure QueBegA where
 (b0 b1 b2 b3 b4 b5:Bool)
 (s7 s8 s9 s10 s11 s6:Value)
structure QueBegB where
 (b0 b1 b2 b3 b4 b5 b6 b7 b8 b9 b10 b11 b12 b13 b14 b15 b16 b17:Bool)
 (s12 s13 s14 s15 s16 s17 s18 s19 s20 s21 s22 s23 s24 s25 s26 s27 s28 s29:Value)
set_option maxHeartbeats 4000000 in
set_option maxRecDepth 100000 in
theorem begin_any (q:QQ) (N:Nat) (v F C:Value) (D:List Value) (l:List UInt8) (w:World) (hv:OwnB 0 w v l) (hq:IsQ 0 w F C q D) (hg:GoodQ q N) (hok:okR l.length q.base q.size=true) :
 Calls Tryz.prog 63 #[.agg #[v],.agg #[.int .i64 q.base,.int .i64 q.size,F,.int .u16 (q.avail:Nat),.int .u16 (q.last:Nat),C]] w fun e w'=>∃ g F2 C2 E,e=.returned (.tuple #[.pointer (some ⟨g,0,none⟩),.int .i64 0])∧WorkB w.heap.size w' g q F2 C2 v E l∧Below w.heap.size w w':=by
 obtain ⟨fa,fn,fc,ca,cn,cc,rfl,rfl,hfn,hcn,k1,k2,k3,k4⟩:=hq.shape
 obtain ⟨b,z,fr,av,la,ch⟩:=q
 simp only at *
 obtain ⟨va,vc,rfl,hv1,hv2⟩:=hv.shape
 obtain ⟨L,hL⟩:∃ L,L=l.length:=⟨_,rfl⟩
 rw [←hL] at hv hok hv1 ⊢
 have HMX:=Zh (show L≤maxLen by omega)
 have HCK:=Zh hok
 have HG:=Zh hg
 obtain ⟨t0,t1,t3⟩:=two_new2 w #[.slice va L vc] #[.int .i64 b,.int .i64 z,.slice fa fn fc,.int .u16 (av:Nat),.int .u16 (la:Nat),.slice ca cn cc] 24 29
 have HM:=Zh t0
 have HP:=Zh t1
 have HB:=Zh t3
 have HQ:=Zh (hq.below t3)
 have HO:=Zh (hv.below t3)
 clear hq hg hv hok hfn hcn k1 k2 k3 k4 hv1 hv2 hL t0 t1 t3
 go_enter Tryz.func63,Tryz.ntmps63
 go_wp2_with fail
 refine wp_region_rec (X:=QueBegA) (by kernel_rfl) (by kernel_rfl) (fun x=>#[x.b0,x.b1,x.b2,x.b3,x.b4,x.b5]) (fun x=>{ tmps:=#[.agg #[.slice va L vc],.agg #[.int .i64 b,.int .i64 z,.slice fa fn fc,.int .u16 (av:Nat),.int .u16 (la:Nat),.slice ca cn cc],.pointer (some ⟨w.heap.size,0,none⟩),.pointer (some ⟨w.heap.size+1,0,none⟩),.pointer none,.int .i64 0,x.s6,x.s7,x.s8,x.s9,x.s10,x.s11,undef,undef,undef,undef,undef,undef,undef,undef,undef,undef,undef,undef,undef,undef,undef,undef,undef,undef,undef,undef],defers:=[] }) (fun x W=>(x.b0→x.s7=.agg #[.int .i64 b,.int .i64 z,.slice fa fn fc,.int .u16 (av:Nat),.int .u16 (la:Nat),.slice ca cn cc])∧(x.b2→x.s9=.agg #[.slice va L vc])∧(x.b5→x.s6=x.s11)∧(x.b5→x.b4)∧(x.b3→x.b1)∧(x.b4→x.b1)∧(W.heap[w.heap.size]? = some (.cells #[.slice va L vc] 24 (0,0)))∧(W.heap[w.heap.size+1]? = some (.cells #[.int .i64 b,.int .i64 z,.slice fa fn fc,.int .u16 (av:Nat),.int .u16 (la:Nat),.slice ca cn cc] 29 (0,0)))∧(Below w.heap.size w W)∧(IsQ 0 W (.slice fa fn fc) (.slice ca cn cc) ⟨b,z,fr,av,la,ch⟩ D)∧(OwnB 0 W (.slice va L vc) l)∧(x.b1→∃ F2 C2 E,x.s8=.agg #[.int .i64 b,.int .i64 z,F2,.int .u16 (av:Nat),.int .u16 (la:Nat),C2]∧IsQ w.heap.size W F2 C2 ⟨b,z,fr,av,la,ch⟩ E)∧(x.b3→∃ fa2 fn2 fc2 ca2 cn2 cc2 E,x.s10=.agg #[.int .i64 b,.int .i64 z,.slice fa2 fn2 fc2,.int .u16 (av:Nat),.int .u16 (la:Nat),.slice ca2 cn2 cc2,.slice va L vc]∧IsQ w.heap.size W (.slice fa2 fn2 fc2) (.slice ca2 cn2 cc2) ⟨b,z,fr,av,la,ch⟩ E)∧(x.b4→∃ g fa2 fn2 fc2 ca2 cn2 cc2 E,x.s11=.pointer (some ⟨g,0,none⟩)∧WorkB w.heap.size W g ⟨b,z,fr,av,la,ch⟩ (.slice fa2 fn2 fc2) (.slice ca2 cn2 cc2) (.slice va L vc) E l)) ⟨false,false,false,false,false,false,undef,undef,undef,undef,undef,undef⟩ rfl rfl ⟨Zf,Zf,Zf,Zf,Zf,Zf,HM.out,HP.out,HB.out.drew,HQ.out.drew,HO.out,Zf,Zf,Zf⟩ (fun _=>rfl) ?hstep ?hdone
 case hstep =>
  rintro ⟨b0,b1,b2,b3,b4,b5,s7,s8,s9,s10,s11,s6⟩ W hI i hi
  dsimp only at hI hi ⊢
  have HI:=Zh hI
  clear hI
  rw [Region.ready,List.mem_filter,List.mem_range] at hi
  obtain ⟨hlt,hp⟩:=hi
  have hi7:i=0∨i=1∨i=2∨i=3∨i=4∨i=5:=by simp at hlt; omega
  clear hlt
  rcases hi7 with rfl|rfl|rfl|rfl|rfl|rfl
  all_goals simp [Region.binds] at hp
  · obtain rfl:b0=false:=by revert hp; cases b0 <;> simp
    clear hp; refine Zv 7 fun K' hK'=>?_
    have rQ:=(Zd HI.out).2.2.2.1
    obtain ⟨hc0,_⟩:=at_cell rQ 0 _ rfl
    obtain ⟨hc1,_⟩:=at_cell rQ 1 _ rfl
    obtain ⟨hc2,_⟩:=at_cell rQ 2 _ rfl
    obtain ⟨hc3,_⟩:=at_cell rQ 3 _ rfl
    obtain ⟨hc4,_⟩:=at_cell rQ 4 _ rfl
    obtain ⟨hc5,_⟩:=at_cell rQ 5 _ rfl
    go_simp
    exact hK'.out _ _ ⟨.mk ..,rfl,rfl,(Upd (fun _=>rfl)) HI.out⟩
  · obtain ⟨rfl,e0⟩:b1=false∧b0=true:=by revert hp; cases b1 <;> cases b0 <;> simp
    clear hp
    obtain rfl:=(HI.out.1) e0
    refine Zv 8 fun K' hK'=>?_
    have gi3:=(Zd HI.out).1
    have gi4:=(Zd HI.out).2.1
    have gQ:=(Ze HI.out).2.1
    obtain rfl:b3=false:=Zz fun e=>(gi3 e)
    obtain rfl:b4=false:=Zz fun e=>(gi4 e)
    go_simp
    refine (copied_any ⟨b,z,fr,av,la,ch⟩ N _ _ D W gQ HG.out).mono ?_
    rintro e w2 ⟨F2,C2,E,rfl,hq,bn⟩
    obtain ⟨h0,h2,h5,gi5,gi3,gi4,rM,rQ,gB,gQ,gO,gC,gD,gE⟩:=HI.out
    exact hK'.out _ _ ⟨.mk ..,rfl,rfl,h0,h2,h5,gi5,Zf,Zf,(row_keep rM bn),(row_keep rQ bn),(gB.trans (bn.mono gB.size)),(gQ.below bn),(gO.below bn),(fun _=>⟨F2,C2,E,rfl,hq.base gB.size⟩),Zf,Zf⟩
  · obtain rfl:b2=false:=by revert hp; cases b2 <;> simp
    clear hp; refine Zv 9 fun K' hK'=>?_
    have rM:=(Zd HI.out).2.2.1
    obtain ⟨hc0,_⟩:=at_cell rM 0 _ rfl
    go_simp
    exact hK'.out _ _ ⟨.mk ..,rfl,rfl,Nxt (Upd (fun _=>rfl)) HI.out⟩
  · obtain ⟨rfl,e1,e2⟩:b3=false∧b1=true∧b2=true:=by revert hp; cases b3 <;> cases b1 <;> cases b2 <;> simp
    clear hp
    obtain rfl:=(HI.out.2.1) e2
    refine Zv 10 fun K' hK'=>?_
    have gC:=(Ze HI.out).2.2.2.1
    obtain ⟨F2,C2,E,rfl,hq⟩:=gC e1
    obtain ⟨fa2,fn2,fc2,ca2,cn2,cc2,rfl,rfl,k1,k2,k3,k4,k5,k6⟩:=hq.shape
    clear k1 k2 k3 k4 k5 k6
    go_simp
    obtain ⟨h0,h2,h5,gi5,gi3,gi4,rM,rQ,gB,gQ,gO,gC,gD,gE⟩:=HI.out
    exact hK'.out _ _ ⟨.mk ..,rfl,rfl,h0,h2,h5,gi5,(fun _=>e1),gi4,rM,rQ,gB,gQ,gO,(fun _=>⟨_,_,_,rfl,hq⟩),(fun _=>⟨_,_,_,_,_,_,E,rfl,hq⟩),gE⟩
  · obtain ⟨rfl,e3⟩:b4=false∧b3=true:=by revert hp; cases b4 <;> cases b3 <;> simp
    clear hp; refine Zv 11 fun K' hK'=>?_
    have gi5:=HI.out.2.2.2.1
    have gD:=(Zd (Ze HI.out)).1
    obtain rfl:b5=false:=Zz fun e=>(gi5 e)
    obtain ⟨fa2,fn2,fc2,ca2,cn2,cc2,E,rfl,hq⟩:=gD e3
    have bn:Below W.heap.size W (W.alloc (.cells #[.int .i64 b,.int .i64 z,.slice fa2 fn2 fc2,.int .u16 (av:Nat),.int .u16 (la:Nat),.slice ca2 cn2 cc2,.slice va L vc] 133)):=(Below.refl _ _).alloc (Nat.le_refl _) _
    have hn:=heap_alloc_new W (.cells #[.int .i64 b,.int .i64 z,.slice fa2 fn2 fc2,.int .u16 (av:Nat),.int .u16 (la:Nat),.slice ca2 cn2 cc2,.slice va L vc] 133)
    go_simp
    obtain ⟨h0,h2,h5,gi5,gi3,gi4,rM,rQ,gB,gQ,gO,gC,gD,gE⟩:=HI.out
    exact hK'.out _ _ ⟨.mk ..,rfl,rfl,h0,h2,(fun e=>by cases ((gi5 e))),Zf,gi3,(fun _=>(gi3 e3)),(row_keep rM bn),(row_keep rQ bn),(gB.trans (bn.mono gB.size)),(gQ.below bn),(gO.below bn),(fun e=>by obtain ⟨y0,y1,y2,h1,h2⟩:=gC e; exact ⟨y0,y1,y2,h1,h2.below bn⟩),(fun _=>⟨_,_,_,_,_,_,_,rfl,hq.below bn⟩),(fun _=>⟨_,_,_,_,_,_,_,E,rfl,⟨gB.size,hn,hq.below bn,gO.below bn⟩⟩)⟩
  · obtain ⟨rfl,e4,e1⟩:b5=false∧b4=true∧b1=true:=by revert hp; cases b5 <;> cases b4 <;> cases b1 <;> simp
    clear hp; refine Zv 6 fun K' hK'=>?_
    go_simp
    exact hK'.out _ _ ⟨.mk ..,rfl,rfl,Nxt (Nxt (Nxt (Upd (fun _=>e4)))) (Nxt (Nxt (Upd (fun _=>rfl))) HI.out)⟩
 case hdone =>
  rintro ⟨b0,b1,b2,b3,b4,b5,s7,s8,s9,s10,s11,s6⟩ W hI hall
  dsimp only at hI hall ⊢
  have HI:=Zh hI
  clear hI
  obtain rfl:b0=true:=hall 0 (by decide)
  obtain rfl:b1=true:=hall 1 (by decide)
  obtain rfl:b2=true:=hall 2 (by decide)
  obtain rfl:b3=true:=hall 3 (by decide)
  obtain rfl:b4=true:=hall 4 (by decide)
  obtain rfl:b5=true:=hall 5 (by decide)
  obtain rfl:=(HI.out.2.2.1) rfl
  have rM:=(Zd HI.out).2.2.1
  have rQ:=(Zd HI.out).2.2.2.1
  have gB:=(Ze HI.out).1
  have gQ:=(Ze HI.out).2.1
  have gE:=(Zd (Ze HI.out)).2
  clear HI hall
  obtain ⟨g,fa2,fn2,fc2,ca2,cn2,cc2,E,rfl,hw⟩:=gE rfl
  have HM2:=Zh rM
  have HP2:=Zh rQ
  have HB2:=Zh gB
  have HQ2:=Zh gQ
  have HW2:=Zh hw
  clear rM rQ gB gQ gE hw HM HP HB HQ HO
  obtain ⟨w2,hw2⟩:∃ x,x=W:=⟨_,rfl⟩
  subst hw2
  go_wp2_with fail
  refine wp_region_rec (X:=QueBegB) (by kernel_rfl) (by kernel_rfl) (fun x=>#[x.b0,x.b1,x.b2,x.b3,x.b4,x.b5,x.b6,x.b7,x.b8,x.b9,x.b10,x.b11,x.b12,x.b13,x.b14,x.b15,x.b16,x.b17]) (fun x=>{ tmps:=#[.agg #[.slice va L vc],.agg #[.int .i64 b,.int .i64 z,.slice fa fn fc,.int .u16 (av:Nat),.int .u16 (la:Nat),.slice ca cn cc],.pointer (some ⟨w.heap.size,0,none⟩),.pointer (some ⟨w.heap.size+1,0,none⟩),.pointer none,.int .i64 0,.pointer (some ⟨g,0,none⟩),s7,s8,s9,s10,.pointer (some ⟨g,0,none⟩),x.s12,x.s13,x.s14,x.s15,x.s16,x.s17,x.s18,x.s19,x.s20,x.s21,x.s22,x.s23,x.s24,x.s25,x.s26,x.s27,x.s28,x.s29,undef,undef],defers:=[] }) (fun x W=>(x.b0→x.s12=.agg #[.int .i64 b,.int .i64 z,.slice fa fn fc,.int .u16 (av:Nat),.int .u16 (la:Nat),.slice ca cn cc])∧(x.b1→x.s13=.bool true)∧(x.b2→x.s14=.bool false)∧(x.b3→x.s15=.bool false)∧(x.b4→x.s16=.agg #[.slice va L vc])∧(x.b5→x.s17=.pointer (some ⟨g,0,none⟩))∧(x.b6→x.s18=.pointer (some ⟨g,0,none⟩))∧(x.b7→x.s19=.pointer (some ⟨g,0,none⟩))∧(x.b8→x.s20=.pointer (some ⟨g,0,none⟩))∧(x.b9→x.s21=.int .i64 b)∧(x.b10→x.s22=.pointer (some ⟨g,0,none⟩))∧(x.b11→x.s23=.pointer (some ⟨g,0,none⟩))∧(x.b12→x.s24=.pointer (some ⟨g,0,none⟩))∧(x.b13→x.s25=.pointer (some ⟨g,1,none⟩))∧(x.b14→x.s26=.int .i64 z)∧(x.b15→x.s27=.bool true)∧(x.b16→x.s28=.bool false)∧(x.b17→x.s29=.bool false)∧(W.heap[w.heap.size]? = some (.cells #[.slice va L vc] 24 (0,0)))∧(W.heap[w.heap.size+1]? = some (.cells #[.int .i64 b,.int .i64 z,.slice fa fn fc,.int .u16 (av:Nat),.int .u16 (la:Nat),.slice ca cn cc] 29 (0,0)))∧(W.heap[g]? = some (.cells #[.int .i64 b,.int .i64 z,.slice fa2 fn2 fc2,.int .u16 (av:Nat),.int .u16 (la:Nat),.slice ca2 cn2 cc2,.slice va L vc] 133 (0,0)))∧(Below w.heap.size w W)∧(IsQ 0 W (.slice fa fn fc) (.slice ca cn cc) ⟨b,z,fr,av,la,ch⟩ D)∧(WorkB w.heap.size W g ⟨b,z,fr,av,la,ch⟩ (.slice fa2 fn2 fc2) (.slice ca2 cn2 cc2) (.slice va L vc) E l)) ⟨false,false,false,false,false,false,false,false,false,false,false,false,false,false,false,false,false,false,undef,undef,undef,undef,undef,undef,undef,undef,undef,undef,undef,undef,undef,undef,undef,undef,undef,undef⟩ rfl rfl ⟨Zf,Zf,Zf,Zf,Zf,Zf,Zf,Zf,Zf,Zf,Zf,Zf,Zf,Zf,Zf,Zf,Zf,Zf,HM2.out,HP2.out,HW2.out.row,HB2.out.drew,HQ2.out.drew,HW2.out.drew⟩ (fun _=>rfl) ?hstep ?hdone
  case hstep =>
   rintro ⟨b0,b1,b2,b3,b4,b5,b6,b7,b8,b9,b10,b11,b12,b13,b14,b15,b16,b17,s12,s13,s14,s15,s16,s17,s18,s19,s20,s21,s22,s23,s24,s25,s26,s27,s28,s29⟩ W hI i hi
   dsimp only at hI hi ⊢
   have HI:=Zh hI
   clear hI
   rw [Region.ready,List.mem_filter,List.mem_range] at hi
   obtain ⟨hlt,hp⟩:=hi
   have hi7:i=0∨i=1∨i=2∨i=3∨i=4∨i=5∨i=6∨i=7∨i=8∨i=9∨i=10∨i=11∨i=12∨i=13∨i=14∨i=15∨i=16∨i=17:=by simp at hlt; omega
   clear hlt
   rcases hi7 with rfl|rfl|rfl|rfl|rfl|rfl|rfl|rfl|rfl|rfl|rfl|rfl|rfl|rfl|rfl|rfl|rfl|rfl
   all_goals simp [Region.binds] at hp
   · obtain rfl:b0=false:=by revert hp; cases b0 <;> simp
     clear hp; refine Zv 12 fun K' hK'=>?_
     have rQ:=(Zg HI.out).2.2.2.1
     obtain ⟨hc0,_⟩:=at_cell rQ 0 _ rfl
     obtain ⟨hc1,_⟩:=at_cell rQ 1 _ rfl
     obtain ⟨hc2,_⟩:=at_cell rQ 2 _ rfl
     obtain ⟨hc3,_⟩:=at_cell rQ 3 _ rfl
     obtain ⟨hc4,_⟩:=at_cell rQ 4 _ rfl
     obtain ⟨hc5,_⟩:=at_cell rQ 5 _ rfl
     go_simp
     exact hK'.out _ _ ⟨.mk ..,rfl,rfl,(Upd (fun _=>rfl)) HI.out⟩
   · obtain ⟨rfl,e0⟩:b1=false∧b0=true:=by revert hp; cases b1 <;> cases b0 <;> simp
     clear hp
     obtain rfl:=(HI.out.1) e0
     refine Zv 13 fun K' hK'=>?_
     have gQ:=(Zd (Zg HI.out)).2.2.1
     go_simp
     refine (queCheck_any ⟨b,z,fr,av,la,ch⟩ N _ _ D W gQ HG.out).mono ?_
     rintro e w2 ⟨rfl,bn⟩
     obtain ⟨h0,h1,h2,h3,h4,h5,h6,h7,h8,h9,h10,h11,h12,h13,h14,h15,h16,h17,rM,rQ,rW,gB,gQ,gW⟩:=HI.out
     exact hK'.out _ _ ⟨.mk ..,rfl,rfl,h0,(fun _=>rfl),h2,h3,h4,h5,h6,h7,h8,h9,h10,h11,h12,h13,h14,h15,h16,h17,(row_keep rM bn),(row_keep rQ bn),(row_keep rW bn),(gB.trans (bn.mono gB.size)),(gQ.below bn),(gW.below bn)⟩
   · obtain ⟨rfl,e1⟩:b2=false∧b1=true:=by revert hp; cases b2 <;> cases b1 <;> simp
     clear hp
     obtain rfl:=(HI.out.2.1) e1
     refine Zv 14 fun K' hK'=>?_
     go_simp
     exact hK'.out _ _ ⟨.mk ..,rfl,rfl,Nxt (Nxt (Upd (fun _=>rfl))) HI.out⟩
   · obtain ⟨rfl,e2,e1⟩:b3=false∧b2=true∧b1=true:=by revert hp; cases b3 <;> cases b2 <;> cases b1 <;> simp
     clear hp
     obtain rfl:=(HI.out.2.2.1) e2
     refine Zv 15 fun K' hK'=>?_
     go_simp
     exact hK'.out _ _ ⟨.mk ..,rfl,rfl,Nxt (Nxt (Nxt (Upd (fun _=>rfl)))) HI.out⟩
   · obtain ⟨rfl,e3⟩:b4=false∧b3=true:=by revert hp; cases b4 <;> cases b3 <;> simp
     clear hp
     obtain rfl:=(HI.out.2.2.2.1) e3
     refine Zv 16 fun K' hK'=>?_
     have rM:=(Zg HI.out).2.2.1
     obtain ⟨hc0,_⟩:=at_cell rM 0 _ rfl
     go_simp
     exact hK'.out _ _ ⟨.mk ..,rfl,rfl,Nx4 (Upd (fun _=>rfl)) HI.out⟩
   · obtain ⟨rfl,e3⟩:b5=false∧b3=true:=by revert hp; cases b5 <;> cases b3 <;> simp
     clear hp
     obtain rfl:=(HI.out.2.2.2.1) e3
     refine Zv 17 fun K' hK'=>?_
     go_simp
     exact hK'.out _ _ ⟨.mk ..,rfl,rfl,Nxt (Nx4 (Upd (fun _=>rfl))) HI.out⟩
   · obtain ⟨rfl,e3,e5⟩:b6=false∧b3=true∧b5=true:=by revert hp; cases b6 <;> cases b3 <;> cases b5 <;> simp
     clear hp
     obtain rfl:=(HI.out.2.2.2.1) e3
     obtain rfl:=((Zd HI.out).2.1) e5
     refine Zv 18 fun K' hK'=>?_
     go_simp
     exact hK'.out _ _ ⟨.mk ..,rfl,rfl,Nxt (Nxt (Nx4 (Upd (fun _=>rfl)))) HI.out⟩
   · obtain ⟨rfl,e3,e6⟩:b7=false∧b3=true∧b6=true:=by revert hp; cases b7 <;> cases b3 <;> cases b6 <;> simp
     clear hp
     obtain rfl:=(HI.out.2.2.2.1) e3
     obtain rfl:=((Zd HI.out).2.2.1) e6
     refine Zv 19 fun K' hK'=>?_
     go_simp
     exact hK'.out _ _ ⟨.mk ..,rfl,rfl,Nxt (Nxt (Nxt (Nx4 (Upd (fun _=>rfl))))) HI.out⟩
   · obtain ⟨rfl,e3,e7⟩:b8=false∧b3=true∧b7=true:=by revert hp; cases b8 <;> cases b3 <;> cases b7 <;> simp
     clear hp
     obtain rfl:=(HI.out.2.2.2.1) e3
     obtain rfl:=((Zd HI.out).2.2.2.1) e7
     refine Zv 20 fun K' hK'=>?_
     go_simp
     exact hK'.out _ _ ⟨.mk ..,rfl,rfl,Nx4 (Nx4 (Upd (fun _=>rfl))) HI.out⟩
   · obtain ⟨rfl,e3,e8⟩:b9=false∧b3=true∧b8=true:=by revert hp; cases b9 <;> cases b3 <;> cases b8 <;> simp
     clear hp
     obtain rfl:=(HI.out.2.2.2.1) e3
     obtain rfl:=((Ze HI.out).1) e8
     refine Zv 21 fun K' hK'=>?_
     have rW:=(Zd (Zg HI.out)).1
     obtain ⟨hc0,_⟩:=at_cell rW 0 _ rfl
     go_simp
     exact hK'.out _ _ ⟨.mk ..,rfl,rfl,Nxt (Nx4 (Nx4 (Upd (fun _=>rfl)))) HI.out⟩
   · obtain ⟨rfl,e3⟩:b10=false∧b3=true:=by revert hp; cases b10 <;> cases b3 <;> simp
     clear hp
     obtain rfl:=(HI.out.2.2.2.1) e3
     refine Zv 22 fun K' hK'=>?_
     go_simp
     exact hK'.out _ _ ⟨.mk ..,rfl,rfl,Nxt (Nxt (Nx4 (Nx4 (Upd (fun _=>rfl))))) HI.out⟩
   · obtain ⟨rfl,e3,e10⟩:b11=false∧b3=true∧b10=true:=by revert hp; cases b11 <;> cases b3 <;> cases b10 <;> simp
     clear hp
     obtain rfl:=(HI.out.2.2.2.1) e3
     obtain rfl:=((Ze HI.out).2.2.1) e10
     refine Zv 23 fun K' hK'=>?_
     go_simp
     exact hK'.out _ _ ⟨.mk ..,rfl,rfl,Nxt (Nxt (Nxt (Nx4 (Nx4 (Upd (fun _=>rfl)))))) HI.out⟩
   · obtain ⟨rfl,e3,e11⟩:b12=false∧b3=true∧b11=true:=by revert hp; cases b12 <;> cases b3 <;> cases b11 <;> simp
     clear hp
     obtain rfl:=(HI.out.2.2.2.1) e3
     obtain rfl:=((Ze HI.out).2.2.2.1) e11
     refine Zv 24 fun K' hK'=>?_
     go_simp
     exact hK'.out _ _ ⟨.mk ..,rfl,rfl,Nx4 (Nx4 (Nx4 (Upd (fun _=>rfl)))) HI.out⟩
   · obtain ⟨rfl,e3,e12⟩:b13=false∧b3=true∧b12=true:=by revert hp; cases b13 <;> cases b3 <;> cases b12 <;> simp
     clear hp
     obtain rfl:=(HI.out.2.2.2.1) e3
     obtain rfl:=((Zd (Ze HI.out)).1) e12
     refine Zv 25 fun K' hK'=>?_
     go_simp
     exact hK'.out _ _ ⟨.mk ..,rfl,rfl,Nxt (Nx4 (Nx4 (Nx4 (Upd (fun _=>rfl))))) HI.out⟩
   · obtain ⟨rfl,e3,e13⟩:b14=false∧b3=true∧b13=true:=by revert hp; cases b14 <;> cases b3 <;> cases b13 <;> simp
     clear hp
     obtain rfl:=(HI.out.2.2.2.1) e3
     obtain rfl:=((Zd (Ze HI.out)).2.1) e13
     refine Zv 26 fun K' hK'=>?_
     have rW:=(Zd (Zg HI.out)).1
     obtain ⟨hc1,_⟩:=at_cell rW 1 _ rfl
     go_simp
     exact hK'.out _ _ ⟨.mk ..,rfl,rfl,Nxt (Nxt (Nx4 (Nx4 (Nx4 (Upd (fun _=>rfl)))))) HI.out⟩
   · have hn15:b15=false:=by revert hp; cases b15 <;> simp
     have e3:b3=true:=by revert hp; cases b3 <;> simp
     have e4:b4=true:=by revert hp; cases b4 <;> simp
     have e9:b9=true:=by revert hp; cases b9 <;> simp
     have e14:b14=true:=by revert hp; cases b14 <;> simp
     clear hp
     obtain rfl:=(HI.out.2.2.2.1) e3
     obtain rfl:=((Zd HI.out).1) e4
     obtain rfl:=((Ze HI.out).2.1) e9
     obtain rfl:=((Zd (Ze HI.out)).2.2.1) e14
     subst hn15
     refine Zv 27 fun K' hK'=>?_
     go_simp
     refine (ringCheck_any _ _ _ HMX.out _ _ _ HCK.out W).mono ?_
     rintro e w2 ⟨rfl,bn⟩
     obtain ⟨h0,h1,h2,h3,h4,h5,h6,h7,h8,h9,h10,h11,h12,h13,h14,h15,h16,h17,rM,rQ,rW,gB,gQ,gW⟩:=HI.out
     exact hK'.out _ _ ⟨.mk ..,rfl,rfl,h0,h1,h2,h3,h4,h5,h6,h7,h8,h9,h10,h11,h12,h13,h14,(fun _=>rfl),h16,h17,(row_keep rM bn),(row_keep rQ bn),(row_keep rW bn),(gB.trans (bn.mono gB.size)),(gQ.below bn),(gW.below bn)⟩
   · obtain ⟨rfl,e3,e15⟩:b16=false∧b3=true∧b15=true:=by revert hp; cases b16 <;> cases b3 <;> cases b15 <;> simp
     clear hp
     obtain rfl:=(HI.out.2.2.2.1) e3
     obtain rfl:=((Zd (Ze HI.out)).2.2.2.1) e15
     refine Zv 28 fun K' hK'=>?_
     go_simp
     exact hK'.out _ _ ⟨.mk ..,rfl,rfl,Nx16 (Upd (fun _=>rfl)) HI.out⟩
   · obtain ⟨rfl,e3,e16⟩:b17=false∧b3=true∧b16=true:=by revert hp; cases b17 <;> cases b3 <;> cases b16 <;> simp
     clear hp
     obtain rfl:=(HI.out.2.2.2.1) e3
     obtain rfl:=((Zg HI.out).1) e16
     refine Zv 29 fun K' hK'=>?_
     go_simp
     exact hK'.out _ _ ⟨.mk ..,rfl,rfl,Nxt (Nx16 (Upd (fun _=>rfl))) HI.out⟩
  case hdone =>
   rintro ⟨b0,b1,b2,b3,b4,b5,b6,b7,b8,b9,b10,b11,b12,b13,b14,b15,b16,b17,s12,s13,s14,s15,s16,s17,s18,s19,s20,s21,s22,s23,s24,s25,s26,s27,s28,s29⟩ W hI hall
   dsimp only at hI hall ⊢
   have HI:=Zh hI
   clear hI
   obtain rfl:b0=true:=hall 0 (by decide)
   obtain rfl:b1=true:=hall 1 (by decide)
   obtain rfl:b2=true:=hall 2 (by decide)
   obtain rfl:b3=true:=hall 3 (by decide)
   obtain rfl:b4=true:=hall 4 (by decide)
   obtain rfl:b5=true:=hall 5 (by decide)
   obtain rfl:b6=true:=hall 6 (by decide)
   obtain rfl:b7=true:=hall 7 (by decide)
   obtain rfl:b8=true:=hall 8 (by decide)
   obtain rfl:b9=true:=hall 9 (by decide)
   obtain rfl:b10=true:=hall 10 (by decide)
   obtain rfl:b11=true:=hall 11 (by decide)
   obtain rfl:b12=true:=hall 12 (by decide)
   obtain rfl:b13=true:=hall 13 (by decide)
   obtain rfl:b14=true:=hall 14 (by decide)
   obtain rfl:b15=true:=hall 15 (by decide)
   obtain rfl:b16=true:=hall 16 (by decide)
   obtain rfl:b17=true:=hall 17 (by decide)
   obtain rfl:=((Zg HI.out).2.1) rfl
   have gB:=(Zd (Zg HI.out)).2.1
   have gW:=(Zd (Zg HI.out)).2.2.2
   clear HI hall
   have HB3:=Zh gB
   have HW3:=Zh gW
   clear gB gW HM2 HP2 HQ2 HW2 HB2
   go_wp2
   go_ret2
   exact ⟨g,_,_,E,rfl,HW3.out,HB3.out⟩
def bufCells (l:List QB):List Value:=l.flatMap fun x=>[.int .i64 x.1,.int .i64 x.2.1,.bool x.2.2]
theorem bufCells_append (l m:List QB):bufCells (l++m)=bufCells l++bufCells m:=by simp [bufCells]
theorem bufCells_at (l:List QB) (k:Nat) (x:QB) (h:l[k]? = some x):(bufCells l)[k * 3]? = some (.int .i64 x.1)∧(bufCells l)[k * 3+1]? = some (.int .i64 x.2.1)∧(bufCells l)[k * 3+2]? = some (.bool x.2.2):=by
 induction l generalizing k with
 | nil=>simp at h
 | cons y r ih =>
   cases k with
   | zero=>simp at h; subst h; exact ⟨rfl,rfl,rfl⟩
   | succ k =>
     have h1:=ih k (by simpa using h)
     have h2:bufCells (y::r)=.int .i64 y.1::.int .i64 y.2.1::.bool y.2.2::bufCells r:=rfl
     rw [h2,show (k+1) * 3=k * 3+1+1+1 by omega]
     exact h1
def OwnBf (B:Nat) (W:World) (v:Value) (l:List QB):Prop:=W.ownsRow B 80 3 v l.length (bufCells l)
theorem OwnBf.below {B:Nat} {w w':World} {v:Value} {l:List QB} (h:OwnBf B w v l) (hb:Below w.heap.size w w'):OwnBf B w' v l:=ownsRow_below h hb
theorem OwnBf.base {B B':Nat} {w:World} {v:Value} {l:List QB} (h:OwnBf B w v l) (hb:B'≤B):OwnBf B' w v l:=ownsRow_base h hb
theorem OwnBf.stay {B g:Nat} {w:World} {v:Value} {l:List QB} {cs:Array Value} {t:TypeId} {fr:Nat × Nat} (h:OwnBf B w v l) (hg:w.heap[g]? = some (.cells cs t fr)) (hne:(t:Nat)≠80) (j:Nat) (u:Value):OwnBf B (w.setCell ⟨g,j,none⟩ u) v l:=owns_stay h hg hne j u
theorem OwnBf.shape {B:Nat} {w:World} {v:Value} {l:List QB} (h:OwnBf B w v l):∃ a c,v=.slice a l.length c∧l.length≤c∧c≤maxLen:=owns_slice h
theorem OwnBf.lie {B:Nat} {w:World} {a:Option Addr} {n c:Nat} {l:List QB} (h:OwnBf B w (.slice a n c) l) (h0:0 < l.length):∃ g,a=some ⟨g,0,none⟩∧g < w.heap.size:=by
 rcases h.2 with ⟨_,h1⟩|⟨g,cap,cur,hv,hb,hh,h1,h2,_⟩
 · omega
 · cases hv
   exact ⟨g,rfl,(Array.getElem?_eq_some_iff.1 hh).1⟩
theorem OwnBf.at {B:Nat} {w:World} {g n c:Nat} {l:List QB} (h:OwnBf B w (.slice (some ⟨g,0,none⟩) n c) l) (i:Nat) (hi:i < l.length) :
 ∃ (a z:Int) (b:Bool),l[i]? = some (a,z,b)∧w.cell? ⟨g,i * 3,none⟩=some (.int .i64 a)∧w.cell? ⟨g,i * 3+1,none⟩=some (.int .i64 z)∧w.cell? ⟨g,i * 3+2,none⟩=some (.bool b):=by
 have h0:w.ownsRow B 80 3 (.slice (some ⟨g,0,none⟩) n c) l.length (bufCells l):=h
 have hn:n=l.length:=by obtain ⟨a,c',hv,_⟩:=h.shape; cases hv; rfl
 subst hn
 have hx:l[i]? = some l[i]:=List.getElem?_eq_getElem hi
 obtain ⟨e1,e2,e3⟩:=bufCells_at l i _ hx
 exact ⟨_,_,_,hx,(World.ownsRow.cellAt h0 _ (by omega)).trans e1,(World.ownsRow.cellAt h0 _ (by omega)).trans e2,(World.ownsRow.cellAt h0 _ (by omega)).trans e3⟩
def InB (L:Nat) (b:QB):Prop:=0≤b.1∧1≤b.2.1∧b.1+b.2.1≤L
structure QueFaultX where
 (b0 b1 b2 b3 b4 b5 b6 b7 b8 b9 b10 b11:Bool)
 (s26 s27 s28 s29 s30 s31 s32 s33 s34 s35 s36 s37:Value)
set_option maxHeartbeats 4000000 in
set_option maxRecDepth 100000 in
theorem addFault_any (B g:Nat) (q:QQ) (N:Nat) (F C M v:Value) (D:List Value) (l:List UInt8) (bs:List QB) (r:Int) (w:World) (hw:WorkB B w g q F C M D l) (hbf:OwnBf 0 w v bs) (hg:GoodQ q N) (hl:l.length≤8192)
 (h1:1≤bs.length) (h2:bs.length≤N) (h3:∀ x∈bs,InB l.length x) (hr:(bs.length≤q.free.length∧r=0)∨(q.free.length < bs.length∧r=4)) :
 Calls Tryz.prog 77 #[.pointer (some ⟨g,0,none⟩),v] w fun e w'=>e=.returned (.int .i64 r)∧Below w.heap.size w w':=by
 obtain ⟨few1,few2,few3,few4,few5⟩:=hg.few
 have hzN:=hg.size
 obtain ⟨fa,fn,fc,ca,cn,cc,rfl,rfl,hfn,hcn,k1,k2,k3,k4⟩:=hw.isq.shape
 obtain ⟨b,z,fr,av,la,ch⟩:=q
 simp only at *
 obtain ⟨va,vc,rfl,hv1,hv2⟩:=hw.mem.shape
 obtain ⟨L,hL⟩:∃ L,L=l.length:=⟨_,rfl⟩
 obtain ⟨ba,bc,rfl,hb1,hb2⟩:=hbf.shape
 obtain ⟨n,hn⟩:∃ n,n=bs.length:=⟨_,rfl⟩
 rw [←hn] at h1 h2 hbf hb1 hr ⊢
 rw [←hL] at hw h3 hl
 rw [←hfn] at hr
 subst hzN
 obtain ⟨gb,rfl,hgb⟩:=hbf.lie (by omega)
 have HW:=Zh hw
 have HBF:=Zh hbf
 have HL8:=Zh hl
 have HIN:=Zh h3
 have HN:=Zh hn
 have hn16:n≤16:=by omega
 have hfn16:fn≤16:=by omega
 have e1:decide (((n:Nat):Int) < 1)=false:=decide_eq_false (by omega)
 have e2:decide (((N:Nat):Int) < ((n:Nat):Int))=false:=decide_eq_false (by omega)
 have e3:decide (n < 1)=false:=decide_eq_false (by omega)
 have e4:decide (N < n)=false:=decide_eq_false (by omega)
 obtain ⟨⟨l0,l1,l2,l3,l4,l5,l6⟩,_⟩:=cells_seven hw.row
 have HR:=Zh hr
 have HH1:=Zh h1
 clear hw hbf hg h2 h3 hr hl few1 few2 few3 few4 few5 hfn hcn k1 k2 k3 k4 hv1 hv2 hL hb1 hb2 hn h1
 go_enter Tryz.func77,Tryz.ntmps77
 go_wp2
 clear l0 l1 l2 l3 l4 l5 l6 e1 e2 e3 e4
 go_loopw [22] (fun i wr=>∃ k:Nat,k≤n∧i=.int .i64 k∧Below w.heap.size w wr) (fun i _=>n - (intOf i).toNat)
 case atStart=>exact ⟨0,Nat.zero_le _,rfl,Below.refl _ _⟩
 case round =>
  obtain ⟨k,hk,rfl,hbw⟩:=hrel
  have HBw:=Zh hbw
  have HWw:=Zh (HW.out.below hbw)
  have HBFw:=Zh (HBF.out.below hbw)
  clear hbw
  by_cases hlt:k < n
  · obtain ⟨px,py,pt,hx,g0,g1,g2⟩:=HBFw.out.at k (by rw [←HN.out]; exact hlt)
    have hin:=HIN.out _ (List.mem_of_getElem? hx)
    obtain ⟨i1,i2,i3⟩:=hin
    simp only at i1 i2 i3
    obtain ⟨px,rfl⟩:=Int.eq_ofNat_of_zero_le i1
    obtain ⟨py,rfl⟩:=Int.eq_ofNat_of_zero_le (show 0≤py by omega)
    have HXY:=Zh (show px≤8192∧py≤8192∧1≤py∧px+py≤L by have:=HL8.out; omega)
    have hlen:0≤(k:Int)∧(k:Int) < (n:Int):=by omega
    obtain ⟨hl0,hl1⟩:=hlen
    clear hx i1 i2 i3
    go_wp2_with fail
    refine wp_region_rec (X:=QueFaultX) (by kernel_rfl) (by kernel_rfl) (fun x=>#[x.b0,x.b1,x.b2,x.b3,x.b4,x.b5,x.b6,x.b7,x.b8,x.b9,x.b10,x.b11]) (fun x=>{ tmps:=List.toArray ((.pointer (some ⟨g,0,none⟩))::(.slice (some ⟨gb,0,none⟩) n bc)::undef::undef::u4::undef::(.pointer (some ⟨wr.heap.size,0,none⟩))::(.slice (some ⟨gb,0,none⟩) n bc)::(.int .i64 (n:Nat))::(.bool false)::(.bool false)::(.slice (some ⟨gb,0,none⟩) n bc)::(.int .i64 (n:Nat))::(.pointer (some ⟨g,0,none⟩))::(.pointer (some ⟨g,0,none⟩))::(.pointer (some ⟨g,0,none⟩))::(.pointer (some ⟨g,1,none⟩))::(.int .i64 (N:Nat))::(.bool false)::(.bool false)::(.slice (some ⟨gb,0,none⟩) n bc)::(.int .i64 (n:Nat))::(.int .i64 (k:Nat))::(.bool true)::(.pointer (some ⟨gb,k * 3,none⟩))::(.agg #[.int .i64 (px:Nat),.int .i64 (py:Nat),.bool pt])::x.s26::x.s27::x.s28::x.s29::x.s30::x.s31::x.s32::x.s33::x.s34::x.s35::x.s36::x.s37::u38::undef::undef::undef::undef::undef::undef::undef::undef::undef::[]),defers:=[] }) (fun x W=>(x.b0→x.s26=.pointer (some ⟨g,0,none⟩))∧(x.b1→x.s27=.pointer (some ⟨g,0,none⟩))∧(x.b2→x.s28=.pointer (some ⟨g,6,none⟩))∧(x.b3→x.s29=.agg #[.slice va L vc])∧(x.b4→x.s30=.pointer (some ⟨wr.heap.size,0,none⟩))∧(x.b5→x.s31=.int .i64 (px:Nat))∧(x.b6→x.s32=.int .u64 (px:Nat))∧(x.b7→x.s33=.pointer (some ⟨wr.heap.size,1,none⟩))∧(x.b8→x.s34=.int .i64 (py:Nat))∧(x.b9→x.s35=.int .u64 (py:Nat))∧(x.b10→x.s36=.bool true)∧(x.b11→x.s37=.bool false)∧(W.heap[g]? = some (.cells #[.int .i64 b,.int .i64 (N:Nat),.slice fa fn fc,.int .u16 (av:Nat),.int .u16 (la:Nat),.slice ca cn cc,.slice va L vc] 133 (0,0)))∧(W.heap[wr.heap.size]? = some (.cells #[.int .i64 (px:Nat),.int .i64 (py:Nat),.bool pt] 80 (0,0)))∧(Below wr.heap.size wr W)) ⟨false,false,false,false,false,false,false,false,false,false,false,false,u26,u27,u28,u29,u30,u31,u32,u33,u34,u35,u36,u37⟩ rfl rfl ⟨Zf,Zf,Zf,Zf,Zf,Zf,Zf,Zf,Zf,Zf,Zf,Zf,(row_new HWw.out.row _),(heap_alloc_new wr (.cells #[.int .i64 (px:Nat),.int .i64 (py:Nat),.bool pt] 80)),((Below.refl wr.heap.size wr).alloc (Nat.le_refl _) _).drew⟩ (fun _=>rfl) ?hstep ?hdone
    case hstep =>
     rintro ⟨b0,b1,b2,b3,b4,b5,b6,b7,b8,b9,b10,b11,s26,s27,s28,s29,s30,s31,s32,s33,s34,s35,s36,s37⟩ W hI i hi
     dsimp only at hI hi ⊢
     have HI:=Zh hI
     clear hI
     rw [Region.ready,List.mem_filter,List.mem_range] at hi
     obtain ⟨hlt,hp⟩:=hi
     have hi7:i=0∨i=1∨i=2∨i=3∨i=4∨i=5∨i=6∨i=7∨i=8∨i=9∨i=10∨i=11:=by simp at hlt; omega
     clear hlt
     rcases hi7 with rfl|rfl|rfl|rfl|rfl|rfl|rfl|rfl|rfl|rfl|rfl|rfl
     all_goals simp [Region.binds] at hp
     · obtain rfl:b0=false:=by revert hp; cases b0 <;> simp
       clear hp; refine Zv 26 fun K' hK'=>?_
       go_simp
       exact hK'.out _ _ ⟨.mk ..,rfl,rfl,(Upd (fun _=>rfl)) HI.out⟩
     · obtain ⟨rfl,e0⟩:b1=false∧b0=true:=by revert hp; cases b1 <;> cases b0 <;> simp
       clear hp
       obtain rfl:=(HI.out.1) e0
       refine Zv 27 fun K' hK'=>?_
       go_simp
       exact hK'.out _ _ ⟨.mk ..,rfl,rfl,Nxt (Upd (fun _=>rfl)) HI.out⟩
     · obtain ⟨rfl,e1⟩:b2=false∧b1=true:=by revert hp; cases b2 <;> cases b1 <;> simp
       clear hp
       obtain rfl:=(HI.out.2.1) e1
       refine Zv 28 fun K' hK'=>?_
       go_simp
       exact hK'.out _ _ ⟨.mk ..,rfl,rfl,Nxt (Nxt (Upd (fun _=>rfl))) HI.out⟩
     · obtain ⟨rfl,e2⟩:b3=false∧b2=true:=by revert hp; cases b3 <;> cases b2 <;> simp
       clear hp
       obtain rfl:=(HI.out.2.2.1) e2
       refine Zv 29 fun K' hK'=>?_
       have rW:=(Zd (Ze HI.out)).1
       obtain ⟨hc6,_⟩:=at_cell rW 6 _ rfl
       go_simp
       exact hK'.out _ _ ⟨.mk ..,rfl,rfl,Nxt (Nxt (Nxt (Upd (fun _=>rfl)))) HI.out⟩
     · obtain rfl:b4=false:=by revert hp; cases b4 <;> simp
       clear hp; refine Zv 30 fun K' hK'=>?_
       go_simp
       exact hK'.out _ _ ⟨.mk ..,rfl,rfl,Nx4 (Upd (fun _=>rfl)) HI.out⟩
     · obtain ⟨rfl,e4⟩:b5=false∧b4=true:=by revert hp; cases b5 <;> cases b4 <;> simp
       clear hp
       obtain rfl:=((Zd HI.out).1) e4
       refine Zv 31 fun K' hK'=>?_
       have rB:=(Zd (Ze HI.out)).2.1
       obtain ⟨hc0,_⟩:=at_cell rB 0 _ rfl
       go_simp
       exact hK'.out _ _ ⟨.mk ..,rfl,rfl,Nxt (Nx4 (Upd (fun _=>rfl))) HI.out⟩
     · obtain ⟨rfl,e5⟩:b6=false∧b5=true:=by revert hp; cases b6 <;> cases b5 <;> simp
       clear hp
       obtain rfl:=((Zd HI.out).2.1) e5
       refine Zv 32 fun K' hK'=>?_
       have hw1:IntKind.u64.wrap ((px:Nat):Int)=(px:Nat):=IntWalk.u64_in _ (by have:=HXY.out.1; omega)
       go_simp
       exact hK'.out _ _ ⟨.mk ..,rfl,rfl,Nxt (Nxt (Nx4 (Upd (fun _=>rfl)))) HI.out⟩
     · obtain rfl:b7=false:=by revert hp; cases b7 <;> simp
       clear hp; refine Zv 33 fun K' hK'=>?_
       go_simp
       exact hK'.out _ _ ⟨.mk ..,rfl,rfl,Nxt (Nxt (Nxt (Nx4 (Upd (fun _=>rfl))))) HI.out⟩
     · obtain ⟨rfl,e7⟩:b8=false∧b7=true:=by revert hp; cases b8 <;> cases b7 <;> simp
       clear hp
       obtain rfl:=((Zd HI.out).2.2.2.1) e7
       refine Zv 34 fun K' hK'=>?_
       have rB:=(Zd (Ze HI.out)).2.1
       obtain ⟨hc1,_⟩:=at_cell rB 1 _ rfl
       go_simp
       exact hK'.out _ _ ⟨.mk ..,rfl,rfl,Nx4 (Nx4 (Upd (fun _=>rfl))) HI.out⟩
     · obtain ⟨rfl,e8⟩:b9=false∧b8=true:=by revert hp; cases b9 <;> cases b8 <;> simp
       clear hp
       obtain rfl:=((Ze HI.out).1) e8
       refine Zv 35 fun K' hK'=>?_
       have hw1:IntKind.u64.wrap ((py:Nat):Int)=(py:Nat):=IntWalk.u64_in _ (by have:=HXY.out.2.1; omega)
       go_simp
       exact hK'.out _ _ ⟨.mk ..,rfl,rfl,Nxt (Nx4 (Nx4 (Upd (fun _=>rfl)))) HI.out⟩
     · have hn10:b10=false:=by revert hp; cases b10 <;> simp
       have e3:b3=true:=by revert hp; cases b3 <;> simp
       have e6:b6=true:=by revert hp; cases b6 <;> simp
       have e9:b9=true:=by revert hp; cases b9 <;> simp
       clear hp
       obtain rfl:=(HI.out.2.2.2.1) e3
       obtain rfl:=((Zd HI.out).2.2.1) e6
       obtain rfl:=((Ze HI.out).2.1) e9
       subst hn10
       refine Zv 36 fun K' hK'=>?_
       go_simp
       refine (lies_in _ L _ px py HL8.out HXY.out.2.2.1 HXY.out.2.2.2 W).mono ?_
       rintro e w2 ⟨rfl,bn⟩
       obtain ⟨h0,h1,h2,h3,h4,h5,h6,h7,h8,h9,h10,h11,rW,rB,gB⟩:=HI.out
       exact hK'.out _ _ ⟨.mk ..,rfl,rfl,h0,h1,h2,h3,h4,h5,h6,h7,h8,h9,(fun _=>rfl),h11,(row_keep rW bn),(row_keep rB bn),(gB.trans (bn.mono gB.size))⟩
     · obtain ⟨rfl,e10⟩:b11=false∧b10=true:=by revert hp; cases b11 <;> cases b10 <;> simp
       clear hp
       obtain rfl:=((Ze HI.out).2.2.1) e10
       refine Zv 37 fun K' hK'=>?_
       go_simp
       exact hK'.out _ _ ⟨.mk ..,rfl,rfl,Nxt (Nxt (Nxt (Nx4 (Nx4 (Upd (fun _=>rfl)))))) HI.out⟩
    case hdone =>
     rintro ⟨b0,b1,b2,b3,b4,b5,b6,b7,b8,b9,b10,b11,s26,s27,s28,s29,s30,s31,s32,s33,s34,s35,s36,s37⟩ W hI hall
     dsimp only at hI hall ⊢
     have HI:=Zh hI
     clear hI
     obtain rfl:b0=true:=hall 0 (by decide)
     obtain rfl:b1=true:=hall 1 (by decide)
     obtain rfl:b2=true:=hall 2 (by decide)
     obtain rfl:b3=true:=hall 3 (by decide)
     obtain rfl:b4=true:=hall 4 (by decide)
     obtain rfl:b5=true:=hall 5 (by decide)
     obtain rfl:b6=true:=hall 6 (by decide)
     obtain rfl:b7=true:=hall 7 (by decide)
     obtain rfl:b8=true:=hall 8 (by decide)
     obtain rfl:b9=true:=hall 9 (by decide)
     obtain rfl:b10=true:=hall 10 (by decide)
     obtain rfl:b11=true:=hall 11 (by decide)
     obtain rfl:=((Ze HI.out).2.2.2.1) rfl
     have gB:=(Zd (Ze HI.out)).2.2
     clear HI hall
     have HB4:=Zh gB
     clear gB g0 g1 g2
     go_wp2
     go_roundw
     case rel=>exact ⟨k+1,by omega,by go_num,HBw.out.trans (HB4.out.mono HBw.out.size)⟩
     case measure=>simp [intOf]; omega
  · obtain rfl:k=n:=by omega
    obtain ⟨⟨l0,l1,l2,l3,l4,l5,l6⟩,_⟩:=cells_seven HWw.out.row
    rcases HR.out with ⟨hr,rfl⟩|⟨hr,rfl⟩
    · have f1:decide (((fn:Nat):Int) < ((k:Nat):Int))=false:=decide_eq_false (by omega)
      have f2:decide (fn < k)=false:=decide_eq_false (by omega)
      clear hr
      go_wp2
      go_ret
      exact ⟨rfl,HBw.out⟩
    · have f1:decide (((fn:Nat):Int) < ((k:Nat):Int))=true:=decide_eq_true (by omega)
      have f2:decide (fn < k)=true:=decide_eq_true (by omega)
      clear hr
      go_wp2
      go_ret
      exact ⟨rfl,HBw.out⟩
structure Grew (B:Nat) (w w':World) (v v':Value) (e:TypeId) (s n:Nat) (xs:List Value):Prop where
 below:Below B w w'
 own:w'.ownsRow B e s v' n xs
 row:∀ (k:Nat) (o:Obj),w.heap[k]? = some o→v.ownBlock≠some k→w'.heap[k]? = some o
 blk:∀ p,v'.ownBlock=some p→v.ownBlock=some p∨w.heap.size≤p
theorem Grew.other {B:Nat} {w w':World} {v v':Value} {e:TypeId} {s n:Nat} {xs:List Value} (h:Grew B w w' v v' e s n xs) {m:Nat} {ys:List Value} (hv:w.ownsRow B e s v m ys) {k:Nat} {cur:Array Value} {t:TypeId} {f:Nat × Nat} (hk:w.heap[k]? = some (.cells cur t f)) (ht:(t:Nat)≠e):w'.heap[k]? = some (.cells cur t f) :=
 h.row k _ hk (fun e'=>by
  rcases hv.2 with ⟨rfl,_⟩|⟨g,cap,c2,rfl,_,hh,_⟩
  · cases e'
  · have e':g=k:=by simpa [Value.ownBlock] using e'
    subst e'
    rw [hk] at hh
    injection hh with hh
    injection hh with _ hh _
    exact ht hh)
theorem append_grew {P:Program} (w:World) (B:Nat) (t ty e:TypeId) (i:TypeInfo) (z:Value) (size bytes:Nat) (ht:P.underlying t=some (.slice e)) (hi:P.info? e=some i) (hz:i.zero=some z)
 (hsize:i.size=size) (hby:i.bytes=bytes) (hzs:z.cells.size=size) (hsz:0 < size) (hb40:bytes≤40) (v:Value) (n:Nat) (xs:List Value) (hown:w.ownsRow B e size v n xs) (ad:Addr) (m c:Nat) (news:List Value) (hl:news.length=m * size)
 (hnews:∀ j u,news[j]? = some u→w.cell? (ad.add j)=some u) (h1:∀ u∈news,u.oneCell'=true) (hn:n+m≤1000) (hB:B≤w.heap.size) :
 ∃ v' w',(Builtin.append_ #[t,t] ty #[v,.slice (some ad) m c]).run P w=.ok v' w'∧Grew B w w' v v' e size (n+m) (xs++news):=by
 have hnb:(n+m) * bytes≤1000 * 40:=Nat.mul_le_mul hn hb40
 obtain ⟨v',w',hr,h2,h3,_⟩:=run_append_own (P:=P) w B t ty e i z size bytes ht hi hz hsize hby hzs hsz v n xs hown ad m c news hl hnews h1 (by unfold maxLen; omega) (by omega) hB
 refine ⟨v',w',hr,⟨(Below.refl _ _).grown h3 hB (fun j hj=>(hown.lt j hj).1),h2,fun k o hk hne=>(h3.block k (Array.getElem?_eq_some_iff.1 hk).1 (fun e'=>hne e'.symm)).trans hk,?_⟩⟩
 rcases hown.2 with ⟨rfl,rfl⟩|⟨b,cap,cur,rfl,hbg,hh,hnc,hcm,hcs,htake⟩
 · have hx:xs=[]:=List.eq_nil_of_length_eq_zero (by simpa using hown.1)
   subst hx
   obtain ⟨v2,w2,hr2,h4,_,_⟩:=run_append_own (P:=P) w w.heap.size t ty e i z size bytes ht hi hz hsize hby hzs hsz (.slice none 0 0) 0 [] (World.ownsRow_nil _ _ _ _) ad m c news hl hnews h1 (by unfold maxLen; omega) (by omega) (Nat.le_refl _)
   rw [hr] at hr2
   injection hr2 with e1 e2
   subst e1
   subst e2
   exact fun p hp=>.inr (h4.lt p hp).1
 · by_cases hroom:n+m≤cap
   · have hfit:n * i.size+news.length≤cur.size:=by rw [hcs,hsize,hl,←Nat.add_mul]; exact Nat.mul_le_mul_right size hroom
     have hr2:=run_append_room (P:=P) w t ty e i ht hi b n cap cur hh ad m c news (by rw [hsize]; exact hl) hnews h1 hroom hfit
     rw [hr] at hr2
     injection hr2 with e1 e2
     subst e1
     exact fun p hp=>.inl hp
   · have holds:∀ j u,xs[j]? = some u→w.cell? ((⟨b,0,none⟩:Addr).add j)=some u:=hown.cells (g:=b) rfl
     have hr2:=run_append_grow (P:=P) w t ty e i z ht hi hz ⟨b,0,none⟩ n cap xs (by rw [hsize]; exact hown.1) holds ad m c news (by rw [hsize]; exact hl) hnews (by omega) (by omega) (by rw [hby]; exact growslice_fits (by omega) (by omega))
     rw [hr] at hr2
     injection hr2 with e1 e2
     subst e1
     exact fun p hp=>.inr (by simp [Value.ownBlock] at hp; omega)
theorem step_append_grew {P:Program} (w:World) {ops:Array Oper} {o:Oper} {a:Act} {K:Act→World→Prop} {Q:Exit→Act→World→Prop} {E:Prop} (hgd:o.guard=none) (s x:Operand) (t:TypeId)
 (ho:o.op=.call { callee:=.builtin .append,args:=#[s,x],argTypes:=#[t,t] })
 (B:Nat) (e:TypeId) (i:TypeInfo) (z:Value) (size bytes:Nat) (ht:P.underlying t=some (.slice e)) (hi:P.info? e=some i) (hz:i.zero=some z)
 (hsize:i.size=size) (hby:i.bytes=bytes) (hzs:z.cells.size=size) (hsz:0 < size) (hb40:bytes≤40)
 (v:Value) (n:Nat) (xs:List Value) (hs:a.eval s=v) (hown:w.ownsRow B e size v n xs)
 (ad:Addr) (m c:Nat) (news:List Value) (hx:a.eval x=.slice (some ad) m c) (hl:news.length=m * size)
 (hnews:∀ j u,news[j]? = some u→w.cell? (ad.add j)=some u) (h1:∀ u∈news,u.oneCell'=true) (hn:n+m≤1000) (hB:B≤w.heap.size)
 (h:∀ v' w',Grew B w w' v v' e size (n+m) (xs++news)→K (a.put o.dst v') w'):if Region.wanted o (yielded ops a.tmps)=true then Oper.wp P o a w K Q else E:=by
 have hw:Region.wanted o (yielded ops a.tmps)=true:=by simp [Region.wanted,hgd]
 rw [if_pos hw]
 obtain ⟨v',w',hr,hg⟩:=append_grew (P:=P) w B t o.type e i z size bytes ht hi hz hsize hby hzs hsz hb40 v n xs hown ad m c news hl hnews h1 hn hB
 unfold Oper.wp
 simp [execOp,ho,resolve,invoke,builtin,hs,hx,hr,Result.andThen]
 exact h v' w' hg
theorem Turn.other {w w':World} {g B n s:Nat} {e t:TypeId} {v:Value} {xs:List Value} {cur:Array Value} {fr:Nat × Nat} (h:Turn w w' g) (hg:w.heap[g]? = some (.cells cur t fr)) (hne:(t:Nat)≠e) (ho:w.ownsRow B e s v n xs):w'.ownsRow B e s v n xs :=
 owns_keep ho fun k c _ hc=>h.row k _ hc (fun e'=>by
  subst e'
  rw [hg] at hc
  injection hc with hc
  injection hc with _ hc _
  exact hne hc)
theorem Turn.wk {w w':World} {B g gf:Nat} {q:QQ} {F C M:Value} {D:List Value} {l:List UInt8} {cur:Array Value} {t:TypeId} {fr:Nat × Nat} (ht:Turn w w' gf) (h:WorkB B w g q F C M D l) (hg:w.heap[gf]? = some (.cells cur t fr)) (hne:(t:Nat)≠133):w'.heap[g]? = some (.cells #[.int .i64 q.base,.int .i64 q.size,F,.int .u16 (q.avail:Nat),.int .u16 (q.last:Nat),C,M] 133 (0,0)) :=
 ht.row g _ h.row (blocks_ne hg h.row (fun e=>hne e.symm))
theorem tIC:(3:Nat)≠97:=by decide
theorem tIW:(3:Nat)≠133:=by decide
theorem tIU:(3:Nat)≠5:=by decide
theorem tChW:(97:Nat)≠133:=by decide
theorem tChU:(97:Nat)≠5:=by decide
theorem WorkB.turnF {w w':World} {B g gf n fc:Nat} {q:QQ} {C M:Value} {D:List Value} {l:List UInt8} (h:WorkB B w g q (.slice (some ⟨gf,0,none⟩) n fc) C M D l) (ht:Turn w w' gf) {cur:Array Value} (hg:w.heap[gf]? = some (.cells cur 3 (0,0))) {m:Nat} {free:List Int} (ho:OwnI B w' (.slice (some ⟨gf,0,none⟩) m fc) free) :
 IsQ B w' (.slice (some ⟨gf,0,none⟩) m fc) C { q with free:=free } D∧OwnB 0 w' M l :=
 ⟨⟨ho,⟨h.isq.chains.len,ht.other hg tIC h.isq.chains.row,fun i d c hd hc=>ht.owns (h.isq.chains.ds i d c hd hc) (fun e=>h.isq.apart i d gf hd e rfl)⟩,fun i d p hd hp e=>h.isq.apart i d p hd hp e⟩,ht.other hg tIU h.mem⟩
theorem WorkB.cutF {w w':World} {B g gf n fc:Nat} {q:QQ} {C M:Value} {D:List Value} {l:List UInt8} (h:WorkB B w g q (.slice (some ⟨gf,0,none⟩) n fc) C M D l) (ht:Turn w w' gf) {cur:Array Value} (hg:w.heap[gf]? = some (.cells cur 3 (0,0))) {m:Nat} {free:List Int} (ho:OwnI B w' (.slice (some ⟨gf,0,none⟩) m fc) free) :
 WorkB B (w'.setCell ⟨g,2,none⟩ (.slice (some ⟨gf,0,none⟩) m fc)) g { q with free:=free } (.slice (some ⟨gf,0,none⟩) m fc) C M D l :=
 have hr:=ht.wk h hg tIW
 have hq:=h.turnF ht hg ho
 ⟨h.lo,row_put hr 2 _,hq.1.stay hr twI twC 2 _,hq.2.stay hr twU 2 _⟩
theorem WorkB.sortF {w w':World} {B g gf n fc:Nat} {q:QQ} {C M:Value} {D:List Value} {l:List UInt8} (h:WorkB B w g q (.slice (some ⟨gf,0,none⟩) n fc) C M D l) (ht:Turn w w' gf) {cur:Array Value} (hg:w.heap[gf]? = some (.cells cur 3 (0,0))) {free:List Int} (ho:OwnI B w' (.slice (some ⟨gf,0,none⟩) n fc) free) :
 WorkB B w' g { q with free:=free } (.slice (some ⟨gf,0,none⟩) n fc) C M D l :=
 have hq:=h.turnF ht hg ho
 have hr:=ht.wk h hg tIW
 ⟨h.lo,hr,hq.1,hq.2⟩
theorem WorkB.growF {w w':World} {B g:Nat} {q:QQ} {F F2 C M:Value} {D:List Value} {l:List UInt8} {free:List Int} (h:WorkB B w g q F C M D l) (hg:Grew B w w' F F2 3 1 free.length (free.map (Value.int .i64))) :
 WorkB B (w'.setCell ⟨g,2,none⟩ F2) g { q with free:=free } F2 C M D l:=by
 have hr:=hg.other h.isq.free h.row twI
 have hc:OwnC B w' C q.chains D:=⟨h.isq.chains.len,owns_keep h.isq.chains.row fun k c _ hk=>hg.other h.isq.free hk tCI,fun i d c hd hc=>owns_keep (h.isq.chains.ds i d c hd hc) fun k cur hk hcur=>hg.row k _ hcur (fun e=>h.isq.apart i d k hd hk e)⟩
 have hap:∀ (i:Nat) (d:Value) (p:Nat),D[i]? = some d→d.ownBlock=some p→F2.ownBlock≠some p:=fun i d p hd hp e=>by
  rcases hg.blk p e with e|e
  · exact h.isq.apart i d p hd hp e
  · have hi:i < q.chains.length:=by rw [←h.isq.chains.len]; exact (List.getElem?_eq_some_iff.1 hd).1
    have:=((h.isq.chains.ds i d _ hd (List.getElem?_eq_getElem hi)).lt p hp).2
    omega
 have hq:IsQ B w' F2 C { q with free:=free } D:=⟨hg.own,hc,hap⟩
 have hm:OwnB 0 w' M l:=owns_keep h.mem fun k c _ hk=>hg.other h.isq.free hk (fun e=>tIU e.symm)
 exact ⟨h.lo,row_put hr 2 _,hq.stay hr twI twC 2 _,hm.stay hr twU 2 _⟩
theorem WorkB.push {w w':World} {B g:Nat} {q:QQ} {F C C2 M Dv:Value} {D:List Value} {l:List UInt8} {c:QCh} (h:WorkB B w g q F C M D l) (hg:Grew B w w' C C2 97 3 (q.chains.length+1) (chCells q.chains D++[.int .i64 c.head,Dv,.int .i64 c.room])) (hd:OwnI B w Dv c.ds) (hap:∀ p,Dv.ownBlock=some p→F.ownBlock≠some p) :
 WorkB B (w'.setCell ⟨g,5,none⟩ C2) g { q with chains:=q.chains++[c] } F C2 M (D++[Dv]) l:=by
 have hr:=hg.other h.isq.chains.row h.row twC
 have ki:∀ {v:Value} {x:List Int},OwnI B w v x→OwnI B w' v x:=fun h1=>owns_keep h1 fun k cur _ hk=>hg.other h.isq.chains.row hk tIC
 have hq:IsQ B w' F C2 { q with chains:=q.chains++[c] } (D++[Dv]):=by
  refine ⟨ki h.isq.free,⟨by simp [h.isq.chains.len],?_,fun i d x hd2 hx=>?_⟩,fun i d p hd2 hp=>?_⟩
  · rw [List.length_append,chCells_append h.isq.chains.len]
    exact hg.own
  · by_cases hi:i < q.chains.length
    · rw [List.getElem?_append_left (by rw [h.isq.chains.len]; exact hi)] at hd2
      rw [List.getElem?_append_left hi] at hx
      exact ki (h.isq.chains.ds i d x hd2 hx)
    · rw [List.getElem?_append_right (by rw [h.isq.chains.len]; omega),h.isq.chains.len] at hd2
      rw [List.getElem?_append_right (by omega)] at hx
      obtain ⟨e1,_⟩:=List.getElem?_eq_some_iff.1 hx
      have e2:i - q.chains.length=0:=by simpa using e1
      rw [e2] at hd2 hx
      simp at hd2 hx
      subst hd2
      subst hx
      exact ki hd
  · by_cases hi:i < D.length
    · rw [List.getElem?_append_left hi] at hd2
      exact h.isq.apart i d p hd2 hp
    · rw [List.getElem?_append_right (by omega)] at hd2
      obtain ⟨e1,_⟩:=List.getElem?_eq_some_iff.1 hd2
      have e2:i - D.length=0:=by simpa using e1
      rw [e2] at hd2
      simp at hd2
      subst hd2
      exact hap p hp
 have hm:OwnB 0 w' M l:=owns_keep h.mem fun k cur _ hk=>hg.other h.isq.chains.row hk (fun e=>tChU e.symm)
 exact ⟨h.lo,row_put hr 5 _,hq.stay hr twI twC 5 _,hm.stay hr twU 5 _⟩
theorem WorkB.pop {w w':World} {B g gc n cc i:Nat} {q:QQ} {F M:Value} {D:List Value} {l:List UInt8} (h:WorkB B w g q F (.slice (some ⟨gc,0,none⟩) n cc) M D l) (ht:Turn w w' gc) {cur:Array Value} (hg:w.heap[gc]? = some (.cells cur 97 (0,0))) {m:Nat}
 (ho:w'.ownsRow B 97 3 (.slice (some ⟨gc,0,none⟩) m cc) (q.chains.eraseIdx i).length (chCells (q.chains.eraseIdx i) (D.eraseIdx i))) :
 WorkB B (w'.setCell ⟨g,5,none⟩ (.slice (some ⟨gc,0,none⟩) m cc)) g { q with chains:=q.chains.eraseIdx i } F (.slice (some ⟨gc,0,none⟩) m cc) M (D.eraseIdx i) l:=by
 have hr:=ht.wk h hg tChW
 have ki:∀ {v:Value} {x:List Int},OwnI B w v x→OwnI B w' v x:=fun h1=>ht.other hg tCI h1
 have hq:IsQ B w' F (.slice (some ⟨gc,0,none⟩) m cc) { q with chains:=q.chains.eraseIdx i } (D.eraseIdx i):=by
  refine ⟨ki h.isq.free,⟨?_,ho,fun j d x hd hx=>?_⟩,fun j d p hd hp=>?_⟩
  · simp only [List.length_eraseIdx,h.isq.chains.len]
  · simp only [List.getElem?_eraseIdx] at hd hx
    by_cases hj:j < i
    · rw [if_pos hj] at hd hx
      exact ki (h.isq.chains.ds _ d x hd hx)
    · rw [if_neg hj] at hd hx
      exact ki (h.isq.chains.ds _ d x hd hx)
  · simp only [List.getElem?_eraseIdx] at hd
    by_cases hj:j < i
    · rw [if_pos hj] at hd
      exact h.isq.apart _ d p hd hp
    · rw [if_neg hj] at hd
      exact h.isq.apart _ d p hd hp
 exact ⟨h.lo,row_put hr 5 _,hq.stay hr twI twC 5 _,(show OwnB 0 w' M l from ht.other hg tChU h.mem).stay hr twU 5 _⟩
theorem WorkB.setL {w:World} {B g:Nat} {q:QQ} {F C M:Value} {D:List Value} {l:List UInt8} (h:WorkB B w g q F C M D l) (t:Nat):WorkB B (w.setCell ⟨g,4,none⟩ (.int .u16 (t:Nat))) g { q with last:=t } F C M D l :=
 ⟨h.lo,row_put h.row 4 _,(h.isq.stay h.row twI twC 4 _).as rfl rfl,h.mem.stay h.row twU 4 _⟩
theorem WorkB.setA {w:World} {B g:Nat} {q:QQ} {F C M:Value} {D:List Value} {l:List UInt8} (h:WorkB B w g q F C M D l) (t:Nat):WorkB B (w.setCell ⟨g,3,none⟩ (.int .u16 (t:Nat))) g { q with avail:=t } F C M D l :=
 ⟨h.lo,row_put h.row 3 _,(h.isq.stay h.row twI twC 3 _).as rfl rfl,h.mem.stay h.row twU 3 _⟩
theorem WorkB.setM {w:World} {B g:Nat} {q:QQ} {F C M M2:Value} {D:List Value} {l l2:List UInt8} (h:WorkB B w g q F C M D l) (hm:OwnB 0 w M2 l2):WorkB B (w.setCell ⟨g,6,none⟩ M2) g q F C M2 D l2 :=
 ⟨h.lo,row_put h.row 6 _,h.isq.stay h.row twI twC 6 _,hm.stay h.row twU 6 _⟩
theorem Spare.grew {w w':World} {B n s m:Nat} {T:Nat→Bool} {v v':Value} {e:TypeId} {xs ys:List Value} (h:Grew B w w' v v' e s n xs) (hv:w.ownsRow B e s v m ys) (hT:T e=true):Spare w w' B T :=
 ⟨h.below,fun k cs t fr hk ht=>h.other hv hk (fun e'=>by
  have e'':t=e:=e'
  rw [e'',hT] at ht
  cases ht)⟩
theorem WorkB.awayC {B g r:Nat} {w:World} {q:QQ} {F C M:Value} {D:List Value} {l:List UInt8} {cs:Array Value} {fr:Nat × Nat} (h:WorkB B w g q F C M D l) (hr:w.heap[r]? = some (.cells cs 97 fr)) (hne:C.ownBlock≠some r) (j:Nat) (u:Value):WorkB B (w.setCell ⟨r,j,none⟩ u) g q F C M D l :=
 ⟨h.lo,one_other h.row _ _ (blocks_ne h.row hr tChW),⟨h.isq.free.stay hr tCI j u,⟨h.isq.chains.len,owns_keep h.isq.chains.row fun k c hk hc=>one_other hc _ _ (fun e=>hne (by rw [show r=k from e]; exact hk)),fun i d c hd hc=>(h.isq.chains.ds i d c hd hc).stay hr tCI j u⟩,h.isq.apart⟩,h.mem.stay hr tChU j u⟩
theorem in_range (b:QB) (L:Nat) (h:InB L b) (hL:L≤8192):0≤b.2.1∧b.2.1≤8192:=by
 obtain ⟨h1,h2,h3⟩:=h
 omega
structure QueChainA where
 (b0 b1 b2 b3 b4 b5 b6 b7 b8 b9 b10 b11 b12 b13 b14 b15 b16 b17 b18:Bool)
 (s8 s9 s10 s11 s12 s13 s14 s15 s16 s17 s18 s19 s20 s21 s22 s23 s24 s5:Value)
structure QueChainB where
 (b0 b1 b2 b3 b4 b5 b6 b7 b8 b9 b10 b11 b12:Bool)
 (s52 s53 s54 s55 s56 s57 s58 s59 s60 s61 s62 s63:Value)
theorem three_news {w:World} {g:Nat} {a b c:Value} (h0:w.cell? ⟨g,0,none⟩=some a) (h1:w.cell? ⟨g,1,none⟩=some b) (h2:w.cell? ⟨g,2,none⟩=some c):∀ j u,[a,b,c][j]? = some u→w.cell? ((⟨g,0,none⟩:Addr).add j)=some u:=by
 intro j u hu
 rw [Addr.add_lit,Nat.zero_add]
 match j,hu with
 | 0,hu=>simp at hu; rw [←hu]; exact h0
 | 1,hu=>simp at hu; rw [←hu]; exact h1
 | 2,hu=>simp at hu; rw [←hu]; exact h2
 | j+3,hu=>simp at hu
theorem three_one (a:Int) (p:Option Addr) (n c:Nat) (z:Int):∀ u∈[Value.int .i64 a,.slice p n c,.int .i64 z],u.oneCell'=true:=by
 intro u hu
 simp at hu
 rcases hu with rfl|rfl|rfl <;> rfl
set_option maxHeartbeats 4000000 in
set_option maxRecDepth 100000 in
theorem chain_any (B g:Nat) (q:QQ) (N:Nat) (F C M v:Value) (D:List Value) (l:List UInt8) (bs:List QB) (w:World) (hw:WorkB B w g q F C M D l) (hbf:OwnBf 0 w v bs) (hg:GoodQ q N) (h1:1≤bs.length) (h2:bs.length≤q.free.length) (h3:∀ x∈bs,InB l.length x) (hl8:l.length≤8192) (hB:B≤w.heap.size) :
 Calls Tryz.prog 78 #[.pointer (some ⟨g,0,none⟩),v] w fun e w'=>∃ F2 C2 Dv,e=.returned (.agg #[.int .i64 (addC q bs).head,Dv,.int .i64 (addC q bs).room])∧WorkB B w' g { q with free:=q.free.drop bs.length,chains:=q.chains++[addC q bs] } F2 C2 M (D++[Dv]) l∧OwnI B w' Dv (addC q bs).ds∧Spare w w' B dirtyQ:=by
 obtain ⟨few1,few2,few3,few4,few5⟩:=hg.few
 have hzN:=hg.size
 obtain ⟨fa,fn,fc,ca,cn,cc,rfl,rfl,hfn,hcn,k1,k2,k3,k4⟩:=hw.isq.shape
 obtain ⟨b,z,fr,av,la,ch⟩:=q
 simp only [addC] at *
 obtain ⟨va,vc,rfl,hv1,hv2⟩:=hw.mem.shape
 obtain ⟨L,hL⟩:∃ L,L=l.length:=⟨_,rfl⟩
 obtain ⟨ba,bc,rfl,hb1,hb2⟩:=hbf.shape
 obtain ⟨n,hn⟩:∃ n,n=bs.length:=⟨_,rfl⟩
 rw [←hn] at h1 h2 hbf hb1 ⊢
 rw [←hL] at hw h3 hl8 ⊢
 rw [←hfn] at h2
 subst hzN
 obtain ⟨gb,rfl,hgb⟩:=hbf.lie (by omega)
 obtain ⟨gf,fcur,rfl,p1,p2,hfrow,p3,p4,p5⟩:=hw.isq.free.lie (by intro e; simp only at e; rw [e] at hfn; simp at hfn; omega)
 obtain ⟨hd,hhd⟩:∃ x,fr.getD 0 0=x:=⟨_,rfl⟩
 rw [hhd]
 have HHD:=Zh hhd
 have HFR:=Zh hfrow
 have HGF:=Zh (show gf < w.heap.size from p2)
 have HFP:=Zh (show 0 < fr.length by omega)
 have HNF:=Zh (show n≤fr.length by omega)
 have HFL:=Zh (show fr.length≤1000 by omega)
 have HTN:=Zh (show (fr.take n).length=n by rw [List.length_take]; omega)
 have HCL:=Zh (show ch.length+1≤1000 by omega)
 have HL8:=Zh hl8
 have HIN:=Zh h3
 have HN:=Zh hn
 have HFN:=Zh hfn
 have HCN:=Zh hcn
 have hn16:n≤16:=by omega
 have hfn0:0 < fn:=by omega
 have hnfc:n≤fc:=by omega
 have hnfn:n≤fn:=h2
 obtain ⟨ic,hic,hcz0,hcz1,hcz2⟩:=info_parts infoCh
 have hbase:Below w.heap.size w (w.alloc (.cells #[.int .i64 0,.slice none 0 0,.int .i64 0] 97)):=(Below.refl _ _).alloc (Nat.le_refl _) _
 have HB0:=Zh hbase
 have HW:=Zh hw
 have HW0:=Zh (hw.below hbase)
 have HBF:=Zh (hbf.below hbase)
 have HR4:=Zh (heap_alloc_new w (.cells #[.int .i64 0,.slice none 0 0,.int .i64 0] 97))
 have HBB:=Zh hB
 have HBS:=Zh (show (w.alloc (.cells #[.int .i64 0,.slice none 0 0,.int .i64 0] 97)).heap.size=w.heap.size+1 by simp)
 clear hw hbf hg h2 h3 hl8 few1 few2 few3 few4 few5 hfn hcn k1 k2 k3 k4 hv1 hv2 hL hb1 hb2 hn hhd hfrow p1 p2 p3 p4 p5 hbase hB
 go_enter Tryz.func78,Tryz.ntmps78
 go_wp2_with fail
 refine wp_region_rec (X:=QueChainA) (by kernel_rfl) (by kernel_rfl) (fun x=>#[x.b0,x.b1,x.b2,x.b3,x.b4,x.b5,x.b6,x.b7,x.b8,x.b9,x.b10,x.b11,x.b12,x.b13,x.b14,x.b15,x.b16,x.b17,x.b18]) (fun x=>{ tmps:=List.toArray ((.pointer (some ⟨g,0,none⟩))::(.slice (some ⟨gb,0,none⟩) n bc)::undef::undef::(.pointer (some ⟨w.heap.size,0,none⟩))::x.s5::undef::undef::x.s8::x.s9::x.s10::x.s11::x.s12::x.s13::x.s14::x.s15::x.s16::x.s17::x.s18::x.s19::x.s20::x.s21::x.s22::x.s23::x.s24::undef::undef::undef::undef::undef::undef::undef::undef::undef::undef::undef::undef::undef::undef::undef::undef::undef::undef::undef::undef::undef::undef::undef::undef::undef::undef::undef::undef::undef::undef::undef::undef::undef::undef::undef::undef::undef::undef::undef::undef::[]),defers:=[] }) (fun x W=>(x.b0→x.s8=.pointer (some ⟨g,0,none⟩))∧(x.b1→x.s9=.pointer (some ⟨g,0,none⟩))∧(x.b2→x.s10=.pointer (some ⟨g,0,none⟩))∧(x.b3→x.s11=.pointer (some ⟨g,2,none⟩))∧(x.b4→x.s12=.slice (some ⟨gf,0,none⟩) fn fc)∧(x.b5→x.s13=.pointer (some ⟨gf,0,none⟩))∧(x.b6→x.s14=.int .i64 hd)∧(x.b7→x.s15=.pointer (some ⟨g,0,none⟩))∧(x.b8→x.s16=.pointer (some ⟨g,0,none⟩))∧(x.b9→x.s17=.pointer (some ⟨g,0,none⟩))∧(x.b10→x.s18=.pointer (some ⟨g,2,none⟩))∧(x.b11→x.s19=.slice (some ⟨gf,0,none⟩) fn fc)∧(x.b12→x.s20=.slice (some ⟨gb,0,none⟩) n bc)∧(x.b13→x.s21=.int .i64 (n:Nat))∧(x.b14→x.s22=.slice (some ⟨gf,0,none⟩) n fc)∧(x.b18→x.b15∧x.b16∧x.b17)∧(x.b16→x.b15)∧(W.heap[g]? = some (.cells #[.int .i64 b,.int .i64 (N:Nat),.slice (some ⟨gf,0,none⟩) fn fc,.int .u16 (av:Nat),.int .u16 (la:Nat),.slice ca cn cc,.slice va L vc] 133 (0,0)))∧(Below (w.alloc (.cells #[.int .i64 0,.slice none 0 0,.int .i64 0] 97)).heap.size (w.alloc (.cells #[.int .i64 0,.slice none 0 0,.int .i64 0] 97)) W)∧(x.b15→∃ da dc,x.s23=.slice da n dc∧OwnI (w.alloc (.cells #[.int .i64 0,.slice none 0 0,.int .i64 0] 97)).heap.size W (.slice da n dc) (fr.take n))∧(x.b16→∃ da dc,x.s24=.agg #[.int .i64 hd,.slice da n dc,.int .i64 0]∧OwnI (w.alloc (.cells #[.int .i64 0,.slice none 0 0,.int .i64 0] 97)).heap.size W (.slice da n dc) (fr.take n))∧(x.b18=false→x.b17→∃ gx,x.s5=.pointer (some ⟨gx,0,none⟩)∧(w.alloc (.cells #[.int .i64 0,.slice none 0 0,.int .i64 0] 97)).heap.size≤gx∧W.heap[gx]? = some (.cells #[.int .i64 0,.slice none 0 0,.int .i64 0] 97 (0,0)))∧(x.b18→∃ gx da dc,x.s5=.pointer (some ⟨gx,0,none⟩)∧(w.alloc (.cells #[.int .i64 0,.slice none 0 0,.int .i64 0] 97)).heap.size≤gx∧W.heap[gx]? = some (.cells #[.int .i64 hd,.slice da n dc,.int .i64 0] 97 (0,0))∧OwnI (w.alloc (.cells #[.int .i64 0,.slice none 0 0,.int .i64 0] 97)).heap.size W (.slice da n dc) (fr.take n))) ⟨false,false,false,false,false,false,false,false,false,false,false,false,false,false,false,false,false,false,false,undef,undef,undef,undef,undef,undef,undef,undef,undef,undef,undef,undef,undef,undef,undef,undef,undef,undef⟩ rfl rfl ⟨Zf,Zf,Zf,Zf,Zf,Zf,Zf,Zf,Zf,Zf,Zf,Zf,Zf,Zf,Zf,Zf,Zf,HW0.out.row,(Below.refl _ _).drew,Zf,Zf,(fun _ h=>by cases h),Zf⟩ (fun _=>rfl) ?hstep ?hdone
 case hstep =>
  rintro ⟨b0,b1,b2,b3,b4,b5,b6,b7,b8,b9,b10,b11,b12,b13,b14,b15,b16,b17,b18,s8,s9,s10,s11,s12,s13,s14,s15,s16,s17,s18,s19,s20,s21,s22,s23,s24,s5⟩ W hI i hi
  dsimp only at hI hi ⊢
  have HI:=Zh hI
  clear hI
  rw [Region.ready,List.mem_filter,List.mem_range] at hi
  obtain ⟨hlt,hp⟩:=hi
  have hi7:i=0∨i=1∨i=2∨i=3∨i=4∨i=5∨i=6∨i=7∨i=8∨i=9∨i=10∨i=11∨i=12∨i=13∨i=14∨i=15∨i=16∨i=17∨i=18:=by simp at hlt; omega
  clear hlt
  rcases hi7 with rfl|rfl|rfl|rfl|rfl|rfl|rfl|rfl|rfl|rfl|rfl|rfl|rfl|rfl|rfl|rfl|rfl|rfl|rfl
  all_goals simp [Region.binds] at hp
  · obtain rfl:b0=false:=by revert hp; cases b0 <;> simp
    clear hp; refine Zv 8 fun K' hK'=>?_
    go_simp
    exact hK'.out _ _ ⟨.mk ..,rfl,rfl,(Upd (fun _=>rfl)) HI.out⟩
  · obtain ⟨rfl,e0⟩:b1=false∧b0=true:=by revert hp; cases b1 <;> cases b0 <;> simp
    clear hp
    obtain rfl:=(HI.out.1) e0
    refine Zv 9 fun K' hK'=>?_
    go_simp
    exact hK'.out _ _ ⟨.mk ..,rfl,rfl,Nxt (Upd (fun _=>rfl)) HI.out⟩
  · obtain ⟨rfl,e1⟩:b2=false∧b1=true:=by revert hp; cases b2 <;> cases b1 <;> simp
    clear hp
    obtain rfl:=(HI.out.2.1) e1
    refine Zv 10 fun K' hK'=>?_
    go_simp
    exact hK'.out _ _ ⟨.mk ..,rfl,rfl,Nxt (Nxt (Upd (fun _=>rfl))) HI.out⟩
  · obtain ⟨rfl,e2⟩:b3=false∧b2=true:=by revert hp; cases b3 <;> cases b2 <;> simp
    clear hp
    obtain rfl:=(HI.out.2.2.1) e2
    refine Zv 11 fun K' hK'=>?_
    go_simp
    exact hK'.out _ _ ⟨.mk ..,rfl,rfl,Nxt (Nxt (Nxt (Upd (fun _=>rfl)))) HI.out⟩
  · obtain ⟨rfl,e3⟩:b4=false∧b3=true:=by revert hp; cases b4 <;> cases b3 <;> simp
    clear hp
    obtain rfl:=(HI.out.2.2.2.1) e3
    refine Zv 12 fun K' hK'=>?_
    have rW:=(Zg HI.out).2.1
    obtain ⟨hc2,_⟩:=at_cell rW 2 _ rfl
    go_simp
    exact hK'.out _ _ ⟨.mk ..,rfl,rfl,Nx4 (Upd (fun _=>rfl)) HI.out⟩
  · obtain ⟨rfl,e4⟩:b5=false∧b4=true:=by revert hp; cases b5 <;> cases b4 <;> simp
    clear hp
    obtain rfl:=((Zd HI.out).1) e4
    refine Zv 13 fun K' hK'=>?_
    go_simp
    exact hK'.out _ _ ⟨.mk ..,rfl,rfl,Nxt (Nx4 (Upd (fun _=>rfl))) HI.out⟩
  · obtain ⟨rfl,e5⟩:b6=false∧b5=true:=by revert hp; cases b6 <;> cases b5 <;> simp
    clear hp
    obtain rfl:=((Zd HI.out).2.1) e5
    refine Zv 14 fun K' hK'=>?_
    have gB:=(Zg HI.out).2.2.1
    have hc0:=(HW0.out.isq.free.below gB).at 0 HFP.out
    rw [show fr.getD 0 0=hd from HHD.out] at hc0
    go_simp
    exact hK'.out _ _ ⟨.mk ..,rfl,rfl,Nxt (Nxt (Nx4 (Upd (fun _=>rfl)))) HI.out⟩
  · obtain rfl:b7=false:=by revert hp; cases b7 <;> simp
    clear hp; refine Zv 15 fun K' hK'=>?_
    go_simp
    exact hK'.out _ _ ⟨.mk ..,rfl,rfl,Nxt (Nxt (Nxt (Nx4 (Upd (fun _=>rfl))))) HI.out⟩
  · obtain ⟨rfl,e7⟩:b8=false∧b7=true:=by revert hp; cases b8 <;> cases b7 <;> simp
    clear hp
    obtain rfl:=((Zd HI.out).2.2.2.1) e7
    refine Zv 16 fun K' hK'=>?_
    go_simp
    exact hK'.out _ _ ⟨.mk ..,rfl,rfl,Nx4 (Nx4 (Upd (fun _=>rfl))) HI.out⟩
  · obtain ⟨rfl,e8⟩:b9=false∧b8=true:=by revert hp; cases b9 <;> cases b8 <;> simp
    clear hp
    obtain rfl:=((Ze HI.out).1) e8
    refine Zv 17 fun K' hK'=>?_
    go_simp
    exact hK'.out _ _ ⟨.mk ..,rfl,rfl,Nxt (Nx4 (Nx4 (Upd (fun _=>rfl)))) HI.out⟩
  · obtain ⟨rfl,e9⟩:b10=false∧b9=true:=by revert hp; cases b10 <;> cases b9 <;> simp
    clear hp
    obtain rfl:=((Ze HI.out).2.1) e9
    refine Zv 18 fun K' hK'=>?_
    go_simp
    exact hK'.out _ _ ⟨.mk ..,rfl,rfl,Nxt (Nxt (Nx4 (Nx4 (Upd (fun _=>rfl))))) HI.out⟩
  · obtain ⟨rfl,e10⟩:b11=false∧b10=true:=by revert hp; cases b11 <;> cases b10 <;> simp
    clear hp
    obtain rfl:=((Ze HI.out).2.2.1) e10
    refine Zv 19 fun K' hK'=>?_
    have rW:=(Zg HI.out).2.1
    obtain ⟨hc2,_⟩:=at_cell rW 2 _ rfl
    go_simp
    exact hK'.out _ _ ⟨.mk ..,rfl,rfl,Nxt (Nxt (Nxt (Nx4 (Nx4 (Upd (fun _=>rfl)))))) HI.out⟩
  · obtain rfl:b12=false:=by revert hp; cases b12 <;> simp
    clear hp; refine Zv 20 fun K' hK'=>?_
    go_simp
    exact hK'.out _ _ ⟨.mk ..,rfl,rfl,Nx4 (Nx4 (Nx4 (Upd (fun _=>rfl)))) HI.out⟩
  · obtain ⟨rfl,e12⟩:b13=false∧b12=true:=by revert hp; cases b13 <;> cases b12 <;> simp
    clear hp
    obtain rfl:=((Zd (Ze HI.out)).1) e12
    refine Zv 21 fun K' hK'=>?_
    go_simp
    exact hK'.out _ _ ⟨.mk ..,rfl,rfl,Nxt (Nx4 (Nx4 (Nx4 (Upd (fun _=>rfl))))) HI.out⟩
  · obtain ⟨rfl,e11,e13⟩:b14=false∧b11=true∧b13=true:=by revert hp; cases b14 <;> cases b11 <;> cases b13 <;> simp
    clear hp
    obtain rfl:=((Ze HI.out).2.2.2.1) e11
    obtain rfl:=((Zd (Ze HI.out)).2.1) e13
    refine Zv 22 fun K' hK'=>?_
    go_simp
    exact hK'.out _ _ ⟨.mk ..,rfl,rfl,Nxt (Nxt (Nx4 (Nx4 (Nx4 (Upd (fun _=>rfl)))))) HI.out⟩
  · obtain ⟨rfl,e14⟩:b15=false∧b14=true:=by revert hp; cases b15 <;> cases b14 <;> simp
    clear hp
    obtain rfl:=((Zd (Ze HI.out)).2.2.1) e14
    refine Zv 23 fun K' hK'=>?_
    have gi18:=(Zd (Ze HI.out)).2.2.2.1
    have gi16:=(Zg HI.out).1
    have gB:=(Zg HI.out).2.2.1
    obtain rfl:b18=false:=Zz fun e=>(gi18 e).1
    obtain rfl:b16=false:=Zz fun e=>(gi16 e)
    go_simp
    refine (cloneI_front _ _ _ _ n W (HW0.out.isq.free.below gB) HNF.out HFL.out).mono ?_
    rintro e w2 ⟨r,rfl,hr,bn⟩
    obtain ⟨da,dc,hrs,hr1,hr2⟩:=hr.shape
    rw [HTN.out] at hrs
    subst hrs
    clear hr1 hr2
    obtain ⟨h0,h1,h2,h3,h4,h5,h6,h7,h8,h9,h10,h11,h12,h13,h14,gi18,gi16,rW,gB,gD,gE,gA,gS⟩:=HI.out
    exact hK'.out _ _ ⟨.mk ..,rfl,rfl,h0,h1,h2,h3,h4,h5,h6,h7,h8,h9,h10,h11,h12,h13,h14,Zf,Zf,(row_keep rW bn),(gB.trans (bn.mono gB.size)),(fun _=>⟨da,dc,rfl,hr.base gB.size⟩),Zf,(fun e e2=>by obtain ⟨gx,h1,h2,h3⟩:=gA e e2; exact ⟨gx,h1,h2,row_keep h3 bn⟩),Zf⟩
  · obtain ⟨rfl,e6,e15⟩:b16=false∧b6=true∧b15=true:=by revert hp; cases b16 <;> cases b6 <;> cases b15 <;> simp
    clear hp
    obtain rfl:=((Zd HI.out).2.2.1) e6
    refine Zv 24 fun K' hK'=>?_
    have gi18:=(Zd (Ze HI.out)).2.2.2.1
    have gD:=(Zg HI.out).2.2.2.1
    obtain rfl:b18=false:=Zz fun e=>(gi18 e).2.1
    obtain ⟨da,dc,rfl,hp⟩:=gD e15
    go_simp
    obtain ⟨h0,h1,h2,h3,h4,h5,h6,h7,h8,h9,h10,h11,h12,h13,h14,gi18,gi16,rW,gB,gD,gE,gA,gS⟩:=HI.out
    exact hK'.out _ _ ⟨.mk ..,rfl,rfl,h0,h1,h2,h3,h4,h5,h6,h7,h8,h9,h10,h11,h12,h13,h14,Zf,(fun _=>e15),rW,gB,(fun _=>⟨da,dc,rfl,hp⟩),(fun _=>⟨da,dc,rfl,hp⟩),gA,Zf⟩
  · obtain rfl:b17=false:=by revert hp; cases b17 <;> simp
    clear hp; refine Zv 5 fun K' hK'=>?_
    have gi18:=(Zd (Ze HI.out)).2.2.2.1
    obtain rfl:b18=false:=Zz fun e=>(gi18 e).2.2
    have bn:Below W.heap.size W (W.alloc (.cells #[.int .i64 0,.slice none 0 0,.int .i64 0] 97)):=(Below.refl _ _).alloc (Nat.le_refl _) _
    have hn:=heap_alloc_new W (.cells #[.int .i64 0,.slice none 0 0,.int .i64 0] 97)
    go_simp
    obtain ⟨h0,h1,h2,h3,h4,h5,h6,h7,h8,h9,h10,h11,h12,h13,h14,gi18,gi16,rW,gB,gD,gE,gA,gS⟩:=HI.out
    exact hK'.out _ _ ⟨.mk ..,rfl,rfl,h0,h1,h2,h3,h4,h5,h6,h7,h8,h9,h10,h11,h12,h13,h14,Zf,gi16,(row_keep rW bn),(gB.trans (bn.mono gB.size)),(fun e=>by obtain ⟨y0,y1,h1,h2⟩:=gD e; exact ⟨y0,y1,h1,h2.below bn⟩),(fun e=>by obtain ⟨y0,y1,h1,h2⟩:=gE e; exact ⟨y0,y1,h1,h2.below bn⟩),(fun _ _=>⟨_,rfl,gB.size,hn⟩),Zf⟩
  · have hn18:b18=false:=by revert hp; cases b18 <;> simp
    have e16:b16=true:=by revert hp; cases b16 <;> simp
    have e17:b17=true:=by revert hp; cases b17 <;> simp
    have e15:b15=true:=by revert hp; cases b15 <;> simp
    clear hp
    subst hn18
    refine inv_op (o:=⟨none,_,_,_,_,_⟩) rfl (fun K' hK'=>?_)
    have gE:=(Zd (Zg HI.out)).1
    have gA:=(Zd (Zg HI.out)).2.1
    obtain ⟨gx,rfl,hlo,hrow⟩:=gA rfl e17
    obtain ⟨da,dc,rfl,hp⟩:=gE e16
    obtain ⟨⟨hc0,hc1,hc2⟩,hz0,hz1,hz2⟩:=cells_three hrow
    have hlx:=(Array.getElem?_eq_some_iff.1 hrow).1
    go_simp
    obtain ⟨h0,h1,h2,h3,h4,h5,h6,h7,h8,h9,h10,h11,h12,h13,h14,gi18,gi16,rW,gB,gD,gE,gA,gS⟩:=HI.out
    exact hK'.out _ _ ⟨.mk ..,rfl,rfl,h0,h1,h2,h3,h4,h5,h6,h7,h8,h9,h10,h11,h12,h13,h14,(fun _=>⟨e15,e16,e17⟩),gi16,(Zp3 rW (blocks_ne rW hrow tChW)),(Zu3 gB hlo),(fun e=>by obtain ⟨y0,y1,h1,h2⟩:=gD e; exact ⟨y0,y1,h1,((h2.stay hrow tCI _ _).stay (Zr hrow) tCI _ _).stay (Zr (Zr hrow)) tCI 2 _⟩),(fun _=>⟨da,dc,rfl,((hp.stay hrow tCI _ _).stay (Zr hrow) tCI _ _).stay (Zr (Zr hrow)) tCI 2 _⟩),Zf,(fun _=>⟨gx,da,dc,rfl,hlo,row_put (Zr (Zr hrow)) 2 _,((hp.stay hrow tCI _ _).stay (Zr hrow) tCI _ _).stay (Zr (Zr hrow)) tCI 2 _⟩)⟩
 case hdone =>
  rintro ⟨b0,b1,b2,b3,b4,b5,b6,b7,b8,b9,b10,b11,b12,b13,b14,b15,b16,b17,b18,s8,s9,s10,s11,s12,s13,s14,s15,s16,s17,s18,s19,s20,s21,s22,s23,s24,s5⟩ W hI hall
  dsimp only at hI hall ⊢
  have HI:=Zh hI
  clear hI
  obtain rfl:b0=true:=hall 0 (by decide)
  obtain rfl:b1=true:=hall 1 (by decide)
  obtain rfl:b2=true:=hall 2 (by decide)
  obtain rfl:b3=true:=hall 3 (by decide)
  obtain rfl:b4=true:=hall 4 (by decide)
  obtain rfl:b5=true:=hall 5 (by decide)
  obtain rfl:b6=true:=hall 6 (by decide)
  obtain rfl:b7=true:=hall 7 (by decide)
  obtain rfl:b8=true:=hall 8 (by decide)
  obtain rfl:b9=true:=hall 9 (by decide)
  obtain rfl:b10=true:=hall 10 (by decide)
  obtain rfl:b11=true:=hall 11 (by decide)
  obtain rfl:b12=true:=hall 12 (by decide)
  obtain rfl:b13=true:=hall 13 (by decide)
  obtain rfl:b14=true:=hall 14 (by decide)
  obtain rfl:b15=true:=hall 15 (by decide)
  obtain rfl:b16=true:=hall 16 (by decide)
  obtain rfl:b17=true:=hall 17 (by decide)
  obtain rfl:b18=true:=hall 18 (by decide)
  have gB:=(Zg HI.out).2.2.1
  have gS:=(Zd (Zg HI.out)).2.2
  clear HI hall
  obtain ⟨gx,da,dc,rfl,hlo,hrow,hds⟩:=gS rfl
  rw [HBS.out] at hlo hds gB
  have HLO:=Zh hlo
  have HX:=Zh hrow
  have HD:=Zh hds
  have HGB:=Zh gB
  clear gS gB hlo hrow hds
  obtain ⟨wo,hwo⟩:∃ x,x=W:=⟨_,rfl⟩
  subst hwo
  go_wp2
  go_loopw [27] (fun i wr=>∃ k:Nat,k≤n∧i=.int .i64 k∧wr.heap[gx]? = some (.cells #[.int .i64 hd,.slice da n dc,.int .i64 (roomOf (bs.take k))] 97 (0,0))∧Below (w.heap.size+1) (w.alloc (.cells #[.int .i64 0,.slice none 0 0,.int .i64 0] 97)) wr∧OwnI (w.heap.size+1) wr (.slice da n dc) (fr.take n)) (fun i _=>n - (intOf i).toNat)
  case atStart=>exact ⟨0,Nat.zero_le _,rfl,HX.out,HGB.out,HD.out⟩
  case round =>
   obtain ⟨k,hk,rfl,hX,hbw,hD⟩:=hrel
   have HXw:=Zh hX
   have HBw:=Zh hbw
   have HDw:=Zh hD
   have hbb:Below (w.alloc (.cells #[.int .i64 0,.slice none 0 0,.int .i64 0] 97)).heap.size (w.alloc (.cells #[.int .i64 0,.slice none 0 0,.int .i64 0] 97)) wr:=hbw.mono (by rw [HBS.out]; exact Nat.le_refl _)
   have HWw:=Zh (HW0.out.below hbb)
   have HBFw:=Zh (HBF.out.below hbb)
   have HR4w:=Zh (row_keep HR4.out hbb)
   clear hX hbw hD hbb
   by_cases hlt:k < n
   · obtain ⟨px,py,pt,hx,g0,g1,g2⟩:=HBFw.out.at k (by rw [←HN.out]; exact hlt)
     have hin:=in_range _ _ (HIN.out _ (List.mem_of_getElem? hx)) HL8.out
     simp only at hin
     have hrg:=roomOf_range (l:=bs.take k) (m:=8192) (fun x hx=>in_range _ _ (HIN.out x (List.mem_of_mem_take hx)) HL8.out) (by decide)
     have hstep:=roomOf_take_succ bs k (by rw [←HN.out]; exact hlt)
     have hgd:bs.getD k (0,0,false)=(px,py,pt):=by rw [List.getD_eq_getElem?_getD,hx]; rfl
     rw [hgd] at hstep
     obtain ⟨ra,hra⟩:∃ x,roomOf (bs.take k)=x:=⟨_,rfl⟩
     obtain ⟨rb,hrb⟩:∃ x,roomOf (bs.take (k+1))=x:=⟨_,rfl⟩
     rw [hra] at HXw hrg hstep
     rw [hrb] at hstep
     have hkl:((bs.take k).length:Int)≤16:=by rw [List.length_take]; omega
     have hrl:ra≤8192 * 16:=by have h7:(8192:Int) * ((bs.take k).length:Int)≤8192 * 16:=(by omega); omega
     have hr0:0≤ra:=hrg.1
     obtain ⟨hp0,hp1⟩:=hin
     have HRB:=Zh hrb
     have hlen:0≤(k:Int)∧(k:Int) < (n:Int):=by omega
     obtain ⟨hl0,hl1⟩:=hlen
     have HXR:=Zh (row_new HXw.out (.cells #[.int .i64 px,.int .i64 py,.bool pt] 80))
     obtain ⟨⟨x0,x1,x2⟩,y0,y1,y2⟩:=cells_three HXR.out
     have hgxl:gx < wr.heap.size:=(Array.getElem?_eq_some_iff.1 HXw.out).1
     have HBx:=Zh (HBw.out.alloc (by have:=HBw.out.size; rw [HBS.out] at this; exact this) (.cells #[.int .i64 px,.int .i64 py,.bool pt] 80))
     have HDx:=Zh (HDw.out.below ((Below.refl wr.heap.size wr).alloc (Nat.le_refl _) (.cells #[.int .i64 px,.int .i64 py,.bool pt] 80)))
     clear hx hgd hrg hkl hra hrb
     cases pt with
     | true =>
       have hs2:ra+py=rb:=by rw [hstep]; simp
       have hb0:0≤rb∧rb≤1000000:=by omega
       obtain ⟨hb3,hb4⟩:=hb0
       clear hstep
       go_wp2
       go_roundw
       case rel =>
        refine ⟨k+1,by omega,by go_num,?_,(HBw.out.setCell (p:=⟨gx,2,none⟩) HLO.out _).alloc (by rw [set_size]; have:=HBw.out.size; rw [HBS.out] at this; exact this) _,(HDw.out.stay HXw.out tCI 2 _).below ((Below.refl _ _).alloc (Nat.le_refl _) _)⟩
        rw [HRB.out]
        exact row_new (row_put HXw.out 2 _) _
       case measure=>simp [intOf]; omega
     | false =>
       have hs2:ra=rb:=by rw [hstep]; simp
       clear hstep
       go_wp2
       go_roundw
       case rel =>
        refine ⟨k+1,by omega,by go_num,?_,HBx.out,HDx.out⟩
        rw [HRB.out,←hs2]
        exact HXR.out
       case measure=>simp [intOf]; omega
   · obtain rfl:n=k:=by omega
     rw [show bs.take n=bs by rw [List.take_of_length_le (by rw [←HN.out]; exact Nat.le_refl _)]] at HXw
     obtain ⟨rm,hrm⟩:∃ x,roomOf bs=x:=⟨_,rfl⟩
     rw [hrm] at HXw
     have HRM:=Zh hrm
     clear hrm
     obtain ⟨⟨l0,l1,l2,l3,l4,l5,l6⟩,z0,z1,z2,z3,z4,z5,z6⟩:=cells_seven HWw.out.row
     have hfr2:=row_keep HFR.out (HB0.out.trans (HBw.out.mono (by omega)))
     go_wp2_with fail
     refine (deleteI_front gf fn fc n fr _ HWw.out.isq.free (by have:=HFN.out; omega)).mono ?_
     rintro e w4 ⟨m2,rfl,hF4,ht⟩
     have hW5:=HWw.out.cutF ht hfr2 hF4
     have hg4:=ht.wk HWw.out hfr2 tIW
     have hx4:=ht.row gx _ HXw.out (fun e=>by have:=HLO.out; have:=HGF.out; omega)
     have h44:=ht.row w.heap.size _ HR4w.out (fun e=>by have:=HGF.out; omega)
     have hd4:=ht.owns HDw.out (fun e=>by have h:=(HDw.out.lt gf e).1; have:=HGF.out; omega)
     have HSP:=Zh (((Spare.of_below (T:=dirtyQ) (HB0.out.trans (HBw.out.mono (by omega))) HBB.out).trans (Spare.turn ht hfr2 rfl (by have h:=HWw.out.isq.free.lt gf rfl; exact h.1))).trans (Spare.set (i:=2) (u:=.slice (some ⟨gf,0,none⟩) m2 fc) hg4 rfl HWw.out.lo))
     have HX5:=Zh (one_other hx4 ⟨g,2,none⟩ (.slice (some ⟨gf,0,none⟩) m2 fc) (blocks_ne hx4 hg4 (fun e=>tChW e.symm)))
     have H45:=Zh (one_other h44 ⟨g,2,none⟩ (.slice (some ⟨gf,0,none⟩) m2 fc) (blocks_ne h44 hg4 (fun e=>tChW e.symm)))
     have HD5:=Zh (OwnI.stay hd4 hg4 twI 2 (.slice (some ⟨gf,0,none⟩) m2 fc))
     have HW5:=Zh hW5
     obtain ⟨⟨j0,j1,j2,j3,j4,j5,j6⟩,o0,o1,o2,o3,o4,o5,o6⟩:=cells_seven hg4
     have hlg4:=(Array.getElem?_eq_some_iff.1 hg4).1
     clear l0 l1 l2 l3 l4 l5 l6 z0 z1 z2 z3 z4 z5 z6 hfr2 hW5 hx4 h44 hd4 hF4 ht hg4
     go_wp2_with fail
     obtain ⟨w5,hw5⟩:∃ x,x=w4.setCell ⟨g,2,none⟩ (.slice (some ⟨gf,0,none⟩) m2 fc):=⟨_,rfl⟩
     rw [←hw5] at HX5 H45 HD5 HW5 HSP ⊢
     have HBW5:=Zh (Nat.le_trans HBB.out HSP.out.size)
     clear j0 j1 j2 j3 j4 j5 j6 o0 o1 o2 o3 o4 o5 o6 hlg4 hw5
     refine wp_region_rec (X:=QueChainB) (by kernel_rfl) (by kernel_rfl) (fun x=>#[x.b0,x.b1,x.b2,x.b3,x.b4,x.b5,x.b6,x.b7,x.b8,x.b9,x.b10,x.b11,x.b12]) (fun x=>{ tmps:=List.toArray ((.pointer (some ⟨g,0,none⟩))::(.slice (some ⟨gb,0,none⟩) n bc)::undef::undef::(.pointer (some ⟨w.heap.size,0,none⟩))::(.pointer (some ⟨gx,0,none⟩))::undef::u7::s8::s9::s10::s11::s12::s13::s14::s15::s16::s17::s18::s19::s20::s21::s22::s23::s24::(.slice (some ⟨gb,0,none⟩) n bc)::(.int .i64 (n:Nat))::(.int .i64 (n:Nat))::(.bool false)::u29::u30::u31::u32::u33::u34::u35::u36::u37::u38::u39::(.pointer (some ⟨g,0,none⟩))::(.pointer (some ⟨g,0,none⟩))::(.pointer (some ⟨g,0,none⟩))::(.pointer (some ⟨g,0,none⟩))::(.pointer (some ⟨g,2,none⟩))::(.slice (some ⟨gf,0,none⟩) fn fc)::(.slice (some ⟨gb,0,none⟩) n bc)::(.int .i64 (n:Nat))::(.slice (some ⟨gf,0,none⟩) m2 fc)::(.pointer (some ⟨g,0,none⟩))::(.pointer (some ⟨g,0,none⟩))::(.pointer (some ⟨g,2,none⟩))::x.s52::x.s53::x.s54::x.s55::x.s56::x.s57::x.s58::x.s59::x.s60::x.s61::x.s62::x.s63::undef::[]),defers:=[] }) (fun x W=>(x.b0→x.s52=.pointer (some ⟨g,0,none⟩))∧(x.b1→x.s53=.pointer (some ⟨g,0,none⟩))∧(x.b2→x.s54=.pointer (some ⟨g,0,none⟩))∧(x.b3→x.s55=.pointer (some ⟨g,0,none⟩))∧(x.b4→x.s56=.pointer (some ⟨g,5,none⟩))∧(x.b5→x.s57=.slice ca cn cc)∧(x.b6→x.s58=.agg #[.int .i64 hd,.slice da n dc,.int .i64 rm])∧(x.b9→x.s61=.pointer (some ⟨g,0,none⟩))∧(x.b10→x.s62=.pointer (some ⟨g,0,none⟩))∧(x.b11→x.s63=.pointer (some ⟨g,5,none⟩))∧(x.b8→x.b5∧x.b6∧x.b7)∧(x.b12→x.b7∧x.b8)∧(x.b7→x.b6)∧(x.b8=false→Below w5.heap.size w5 W)∧(x.b8=false→x.b7→∃ gs,x.s59=.slice (some ⟨gs,0,none⟩) 1 1∧W.heap[gs]? = some (.cells #[.int .i64 hd,.slice da n dc,.int .i64 rm] 97 (0,0)))∧(x.b12=false→x.b8→∃ ca2 cc2 Wp,x.s60=.slice ca2 (ch.length+1) cc2∧Below w5.heap.size w5 Wp∧Grew B Wp W (.slice ca cn cc) (.slice ca2 (ch.length+1) cc2) 97 3 (ch.length+1) (chCells ch D++[.int .i64 hd,.slice da n dc,.int .i64 rm]))∧(x.b12→∃ ca2 cc2 Wp w6,W=w6.setCell ⟨g,5,none⟩ (.slice ca2 (ch.length+1) cc2)∧Below w5.heap.size w5 Wp∧Grew B Wp w6 (.slice ca cn cc) (.slice ca2 (ch.length+1) cc2) 97 3 (ch.length+1) (chCells ch D++[.int .i64 hd,.slice da n dc,.int .i64 rm]))) ⟨false,false,false,false,false,false,false,false,false,false,false,false,false,undef,undef,undef,undef,undef,undef,undef,undef,undef,undef,undef,undef⟩ rfl rfl ⟨Zf,Zf,Zf,Zf,Zf,Zf,Zf,Zf,Zf,Zf,Zf,Zf,Zf,(fun _=>(Below.refl _ _).drew),(fun _ h=>by cases h),(fun _ h=>by cases h),Zf⟩ (fun _=>rfl) ?hstep ?hdone
     case hstep =>
      rintro ⟨b0,b1,b2,b3,b4,b5,b6,b7,b8,b9,b10,b11,b12,s52,s53,s54,s55,s56,s57,s58,s59,s60,s61,s62,s63⟩ W hI i hi
      dsimp only at hI hi ⊢
      have HI:=Zh hI
      clear hI
      rw [Region.ready,List.mem_filter,List.mem_range] at hi
      obtain ⟨hlt,hp⟩:=hi
      have hi7:i=0∨i=1∨i=2∨i=3∨i=4∨i=5∨i=6∨i=7∨i=8∨i=9∨i=10∨i=11∨i=12:=by simp at hlt; omega
      clear hlt
      rcases hi7 with rfl|rfl|rfl|rfl|rfl|rfl|rfl|rfl|rfl|rfl|rfl|rfl|rfl
      all_goals simp [Region.binds] at hp
      · obtain rfl:b0=false:=by revert hp; cases b0 <;> simp
        clear hp; refine Zv 52 fun K' hK'=>?_
        go_simp
        exact hK'.out _ _ ⟨.mk ..,rfl,rfl,(Upd (fun _=>rfl)) HI.out⟩
      · obtain rfl:b1=false:=by revert hp; cases b1 <;> simp
        clear hp; refine Zv 53 fun K' hK'=>?_
        go_simp
        exact hK'.out _ _ ⟨.mk ..,rfl,rfl,Nxt (Upd (fun _=>rfl)) HI.out⟩
      · obtain ⟨rfl,e1⟩:b2=false∧b1=true:=by revert hp; cases b2 <;> cases b1 <;> simp
        clear hp
        obtain rfl:=(HI.out.2.1) e1
        refine Zv 54 fun K' hK'=>?_
        go_simp
        exact hK'.out _ _ ⟨.mk ..,rfl,rfl,Nxt (Nxt (Upd (fun _=>rfl))) HI.out⟩
      · obtain ⟨rfl,e2⟩:b3=false∧b2=true:=by revert hp; cases b3 <;> cases b2 <;> simp
        clear hp
        obtain rfl:=(HI.out.2.2.1) e2
        refine Zv 55 fun K' hK'=>?_
        go_simp
        exact hK'.out _ _ ⟨.mk ..,rfl,rfl,Nxt (Nxt (Nxt (Upd (fun _=>rfl)))) HI.out⟩
      · obtain ⟨rfl,e3⟩:b4=false∧b3=true:=by revert hp; cases b4 <;> cases b3 <;> simp
        clear hp
        obtain rfl:=(HI.out.2.2.2.1) e3
        refine Zv 56 fun K' hK'=>?_
        go_simp
        exact hK'.out _ _ ⟨.mk ..,rfl,rfl,Nx4 (Upd (fun _=>rfl)) HI.out⟩
      · obtain ⟨rfl,e4⟩:b5=false∧b4=true:=by revert hp; cases b5 <;> cases b4 <;> simp
        clear hp
        obtain rfl:=((Zd HI.out).1) e4
        refine Zv 57 fun K' hK'=>?_
        have gi8:=(Ze HI.out).2.2.1
        have gB:=(Zd (Ze HI.out)).2.1
        obtain rfl:b8=false:=Zz fun e=>(gi8 e).1
        have hc5:=(at_cell (row_keep HW5.out.row (gB rfl)) 5 _ rfl).1
        go_simp
        exact hK'.out _ _ ⟨.mk ..,rfl,rfl,Nxt (Nxt (Nx4 (Nx4 (Upd Zf)))) (Nxt (Nx4 (Upd (fun _=>rfl))) HI.out)⟩
      · obtain rfl:b6=false:=by revert hp; cases b6 <;> simp
        clear hp; refine Zv 58 fun K' hK'=>?_
        have gi8:=(Ze HI.out).2.2.1
        have gi7:=(Zd (Ze HI.out)).1
        have gB:=(Zd (Ze HI.out)).2.1
        obtain rfl:b8=false:=Zz fun e=>(gi8 e).2.1
        obtain rfl:b7=false:=Zz fun e=>(gi7 e)
        obtain ⟨⟨hc0,hc1,hc2⟩,_⟩:=cells_three (row_keep HX5.out (gB rfl))
        go_simp
        obtain ⟨h0,h1,h2,h3,h4,h5,h6,h9,h10,h11,gi8,gi12,gi7,gB,gS,gC,gF⟩:=HI.out
        exact hK'.out _ _ ⟨.mk ..,rfl,rfl,h0,h1,h2,h3,h4,h5,(fun _=>rfl),h9,h10,h11,Zf,gi12,Zf,gB,gS,gC,gF⟩
      · obtain ⟨rfl,e6⟩:b7=false∧b6=true:=by revert hp; cases b7 <;> cases b6 <;> simp
        clear hp
        obtain rfl:=((Zd HI.out).2.2.1) e6
        refine Zv 59 fun K' hK'=>?_
        have gi8:=(Ze HI.out).2.2.1
        have gi12:=(Ze HI.out).2.2.2.1
        obtain rfl:b8=false:=Zz fun e=>(gi8 e).2.2
        obtain rfl:b12=false:=Zz fun e=>(gi12 e).1
        have bn:Below W.heap.size W (W.alloc (.cells #[.int .i64 hd,.slice da n dc,.int .i64 rm] 97)):=(Below.refl _ _).alloc (Nat.le_refl _) _
        have hn:=heap_alloc_new W (.cells #[.int .i64 hd,.slice da n dc,.int .i64 rm] 97)
        go_simp
        obtain ⟨h0,h1,h2,h3,h4,h5,h6,h9,h10,h11,gi8,gi12,gi7,gB,gS,gC,gF⟩:=HI.out
        exact hK'.out _ _ ⟨.mk ..,rfl,rfl,h0,h1,h2,h3,h4,h5,h6,h9,h10,h11,Zf,Zf,(fun _=>e6),(fun e=>(gB e).trans (bn.mono (gB e).size)),(fun _ _=>⟨_,rfl,hn⟩),(fun _ e=>by cases e),Zf⟩
      · obtain ⟨rfl,e5,e7⟩:b8=false∧b5=true∧b7=true:=by revert hp; cases b8 <;> cases b5 <;> cases b7 <;> simp
        clear hp
        obtain rfl:=((Zd HI.out).2.1) e5
        refine Zv 60 fun K' hK'=>?_
        have gi12:=(Ze HI.out).2.2.2.1
        have gB:=(Zd (Ze HI.out)).2.1
        have gS:=(Zd (Ze HI.out)).2.2.1
        obtain rfl:b12=false:=Zz fun e=>(gi12 e).2
        obtain ⟨gs,rfl,hs⟩:=gS rfl e7
        obtain ⟨⟨hc0,hc1,hc2⟩,_⟩:=cells_three hs
        refine step_append_grew W rfl (.tmp 57) (.tmp 59) 27 rfl B 97 ic (.agg #[.int .i64 0,.slice none 0 0,.int .i64 0]) 3 40 Tryz.underlying27 hic hcz0 hcz1 hcz2 rfl (by decide) (by decide) _ _ _ rfl (HW5.out.isq.chains.below (gB rfl)).row ⟨gs,0,none⟩ 1 1 [.int .i64 hd,.slice da n dc,.int .i64 rm] rfl rfl (three_news hc0 hc1 hc2) (three_one _ _ _ _ _) HCL.out (Nat.le_trans HBW5.out (gB rfl).size) ?_
        intro C2 w2 hgr
        obtain ⟨ca2,cc2,rfl,hq1,hq2⟩:=owns_slice hgr.own
        clear hq1 hq2
        have hgb:=gB rfl
        obtain ⟨h0,h1,h2,h3,h4,h5,h6,h9,h10,h11,gi8,gi12,gi7,gB,gS,gC,gF⟩:=HI.out
        exact hK'.out _ _ ⟨.mk ..,rfl,rfl,h0,h1,h2,h3,h4,h5,h6,h9,h10,h11,(fun _=>⟨e5,(gi7 e7),e7⟩),Zf,gi7,Zf,Zf,(fun _ _=>⟨ca2,cc2,W,rfl,hgb,hgr⟩),Zf⟩
      · obtain ⟨rfl,e0⟩:b9=false∧b0=true:=by revert hp; cases b9 <;> cases b0 <;> simp
        clear hp
        obtain rfl:=(HI.out.1) e0
        refine Zv 61 fun K' hK'=>?_
        go_simp
        exact hK'.out _ _ ⟨.mk ..,rfl,rfl,Nxt (Nxt (Nxt (Nx4 (Upd (fun _=>rfl))))) HI.out⟩
      · obtain ⟨rfl,e9⟩:b10=false∧b9=true:=by revert hp; cases b10 <;> cases b9 <;> simp
        clear hp
        obtain rfl:=((Zd HI.out).2.2.2.1) e9
        refine Zv 62 fun K' hK'=>?_
        go_simp
        exact hK'.out _ _ ⟨.mk ..,rfl,rfl,Nx4 (Nx4 (Upd (fun _=>rfl))) HI.out⟩
      · obtain ⟨rfl,e10⟩:b11=false∧b10=true:=by revert hp; cases b11 <;> cases b10 <;> simp
        clear hp
        obtain rfl:=((Ze HI.out).1) e10
        refine Zv 63 fun K' hK'=>?_
        go_simp
        exact hK'.out _ _ ⟨.mk ..,rfl,rfl,Nxt (Nx4 (Nx4 (Upd (fun _=>rfl)))) HI.out⟩
      · have hn12:b12=false:=by revert hp; cases b12 <;> simp
        have e8:b8=true:=by revert hp; cases b8 <;> simp
        have e11:b11=true:=by revert hp; cases b11 <;> simp
        have e7:b7=true:=by revert hp; cases b7 <;> simp
        clear hp
        obtain rfl:=((Ze HI.out).2.1) e11
        subst hn12
        refine inv_op (o:=⟨none,_,_,_,_,_⟩) rfl (fun K' hK'=>?_)
        have gC:=(Zd (Ze HI.out)).2.2.2.1
        obtain ⟨ca2,cc2,Wp,rfl,hbp,hgr⟩:=gC rfl e8
        obtain ⟨⟨hc0,hc1,hc2,hc3,hc4,hc5,hc6⟩,hz0,hz1,hz2,hz3,hz4,hz5,hz6⟩:=cells_seven (hgr.other (HW5.out.isq.chains.below hbp).row (row_keep HW5.out.row hbp) twC)
        have hlx:=(Array.getElem?_eq_some_iff.1 (hgr.other (HW5.out.isq.chains.below hbp).row (row_keep HW5.out.row hbp) twC)).1
        go_simp
        obtain ⟨h0,h1,h2,h3,h4,h5,h6,h9,h10,h11,gi8,gi12,gi7,gB,gS,gC,gF⟩:=HI.out
        exact hK'.out _ _ ⟨.mk ..,rfl,rfl,h0,h1,h2,h3,h4,h5,h6,h9,h10,h11,gi8,(fun _=>⟨e7,e8⟩),gi7,(fun e=>absurd (e8.symm.trans e) (by decide)),(fun e=>absurd (e8.symm.trans e) (by decide)),Zf,(fun _=>⟨ca2,cc2,Wp,W,rfl,hbp,hgr⟩)⟩
     case hdone =>
      rintro ⟨b0,b1,b2,b3,b4,b5,b6,b7,b8,b9,b10,b11,b12,s52,s53,s54,s55,s56,s57,s58,s59,s60,s61,s62,s63⟩ W hI hall
      dsimp only at hI hall ⊢
      have HI:=Zh hI
      clear hI
      obtain rfl:b0=true:=hall 0 (by decide)
      obtain rfl:b1=true:=hall 1 (by decide)
      obtain rfl:b2=true:=hall 2 (by decide)
      obtain rfl:b3=true:=hall 3 (by decide)
      obtain rfl:b4=true:=hall 4 (by decide)
      obtain rfl:b5=true:=hall 5 (by decide)
      obtain rfl:b6=true:=hall 6 (by decide)
      obtain rfl:b7=true:=hall 7 (by decide)
      obtain rfl:b8=true:=hall 8 (by decide)
      obtain rfl:b9=true:=hall 9 (by decide)
      obtain rfl:b10=true:=hall 10 (by decide)
      obtain rfl:b11=true:=hall 11 (by decide)
      obtain rfl:b12=true:=hall 12 (by decide)
      have gF:=(Zg HI.out)
      clear HI hall
      obtain ⟨ca2,cc2,Wp,w6,rfl,hbp,hgr⟩:=gF rfl
      have hcb:∀ p,(Value.slice ca cn cc).ownBlock=some p→p < w.heap.size:=fun p hp=>(HW.out.isq.chains.row.lt p hp).2
      have hcb2:∀ p,p≤w5.heap.size→w.heap.size≤p→p < w5.heap.size→(Value.slice ca2 (ch.length+1) cc2).ownBlock≠some p:=fun p _ h1 h2 e=>by
       rcases hgr.blk p e with e|e
       · have:=hcb p e; omega
       · have:=hbp.size; omega
      have hW6:=WorkB.push (c:=⟨hd,fr.take n,rm⟩) (HW5.out.below hbp) hgr ((HD5.out.below hbp).base (by have:=HBB.out; omega)) (fun p hp e=>by
       have h1:=(HD5.out.lt p hp).1
       have h2:gf=p:=by simpa [Value.ownBlock] using e
       have:=HGF.out
       omega)
      have hwr:=hgr.other (HW5.out.isq.chains.below hbp).row (row_keep HW5.out.row hbp) twC
      have hgxb:=(Array.getElem?_eq_some_iff.1 HX5.out).1
      have hrb4:=(Array.getElem?_eq_some_iff.1 H45.out).1
      have hx6:=hgr.row gx _ (row_keep HX5.out hbp) (fun e=>by have:=hcb gx e; have:=HLO.out; omega)
      have h46:=hgr.row w.heap.size _ (row_keep H45.out hbp) (fun e=>by have:=hcb _ e; omega)
      have hd6:=owns_keep (HD5.out.below hbp) fun k' c' _ hk'=>hgr.other (HW5.out.isq.chains.below hbp).row hk' tIC
      have hsp6:=((HSP.out.trans (Spare.of_below hbp HBW5.out _)).trans (Spare.grew (T:=dirtyQ) hgr (HW5.out.isq.chains.below hbp).row rfl)).trans (Spare.set (i:=5) (u:=.slice ca2 (ch.length+1) cc2) hwr rfl HW5.out.lo)
      have HX7:=Zh (one_other hx6 ⟨g,5,none⟩ (.slice ca2 (ch.length+1) cc2) (blocks_ne hx6 hwr (fun e=>tChW e.symm)))
      have H47:=Zh (one_other h46 ⟨g,5,none⟩ (.slice ca2 (ch.length+1) cc2) (blocks_ne h46 hwr (fun e=>tChW e.symm)))
      have HD7:=Zh (OwnI.stay hd6 hwr twI 5 (.slice ca2 (ch.length+1) cc2))
      have HSP7:=Zh hsp6
      have HW7:=Zh hW6
      have HCN7:=Zh (hcb2 w.heap.size (Nat.le_of_lt hrb4) (Nat.le_refl _) hrb4)
      obtain ⟨w7,hw7⟩:∃ x,x=w6.setCell ⟨g,5,none⟩ (.slice ca2 (ch.length+1) cc2):=⟨_,rfl⟩
      rw [←hw7] at HX7 H47 HD7 HSP7 HW7 ⊢
      clear gF hbp hgr hcb hcb2 hW6 hwr hgxb hrb4 hx6 h46 hd6 hsp6 hw7
      obtain ⟨⟨x0,x1,x2⟩,_⟩:=cells_three HX7.out
      obtain ⟨⟨r0,r1,r2⟩,z0,z1,z2⟩:=cells_three H47.out
      have hl4:=(Array.getElem?_eq_some_iff.1 H47.out).1
      go_wp2
      have HR7:=HRM.out
      refine bodyPost_ret (v:=.agg #[.int .i64 hd,.slice da n dc,.int .i64 rm]) (by simp [results,Tryz.results78,go_sem,r0,r1,r2]) rfl ⟨.slice (some ⟨gf,0,none⟩) m2 fc,.slice ca2 (ch.length+1) cc2,.slice da n dc,by rw [HR7],?_,?_,?_⟩
      · rw [HR7]
        exact ((HW7.out.awayC H47.out HCN7.out 0 _).awayC (row_put H47.out 0 _) HCN7.out 1 _).awayC (row_put (row_put H47.out 0 _) 1 _) HCN7.out 2 _
      · exact (((HD7.out.stay H47.out tCI 0 _).stay (row_put H47.out 0 _) tCI 1 _).stay (row_put (row_put H47.out 0 _) 1 _) tCI 2 _).base (by have:=HBB.out; omega)
      · exact ((HSP7.out.trans (Spare.set H47.out rfl HBB.out 0 _)).trans (Spare.set (row_put H47.out 0 _) rfl HBB.out 1 _)).trans (Spare.set (row_put (row_put H47.out 0 _) 1 _) rfl HBB.out 2 _)
def flagOf (t more:Bool):Nat:=(if t then 2 else 0)+(if more then 1 else 0)
theorem flag_more (t:Bool):flagOf t true=flagOf t false+1:=by cases t <;> rfl
theorem flag_le (t:Bool):flagOf t false≤2:=by cases t <;> decide
def moreAt (bs:List QB) (k:Nat):Bool:=decide (k+1 < bs.length)
def nextOf (ds:List Int) (bs:List QB) (k:Nat):Nat:=if k+1 < bs.length then (ds.getD (k+1) 0).toNat else 0
def layK (l:List UInt8) (B:Nat) (ds:List Int) (bs:List QB):Nat→List UInt8
 | 0=>l
 | k+1=>setD (layK l B ds bs k) (B+16 * (ds.getD k 0).toNat) (bs.getD k (0,0,false)).1.toNat (bs.getD k (0,0,false)).2.1.toNat (flagOf (bs.getD k (0,0,false)).2.2 (moreAt bs k)) (nextOf ds bs k)
theorem layK_length {l:List UInt8} {B N:Nat} {ds:List Int} {bs:List QB} (hok:RingOk l.length B N) (hd:∀ d∈ds,0≤d∧d < (N:Int)):∀ k,k≤ds.length→(layK l B ds bs k).length=l.length
 | 0,_=>rfl
 | k+1,hk=>by
   have h1:=layK_length hok hd (bs:=bs) k (by omega)
   have h2:=hd _ (List.getElem_mem (show k < ds.length by omega))
   have h3:ds.getD k 0=ds[k]:=by simp [List.getD_eq_getElem?_getD,show k < ds.length by omega]
   have h4:=hok.lie
   rw [layK,setD_length _ _ _ _ (by rw [h1,h3]; omega),h1]
structure QueLay where
 (b0 b1 b2 b3 b4 b5 b6 b7 b8 b9 b10 b11 b12 b13 b14 b15 b16 b17 b18 b19 b20 b21 b22 b23 b24 b25 b26 b27:Bool)
 (s47 s48 s49 s50 s51 s52 s53 s54 s55 s56 s57 s58 s59 s60 s61 s62 s63 s64 s65 s66 s67 s68 s46 s69 s70 s71 s72:Value)
theorem Given.ownB {w W:World} {base:Nat} {v r:Value} {l G:List UInt8} (h:Given W base v l r G) (hv:OwnB 0 w v l) (hb:Below w.heap.size w W):OwnB 0 W r G:=by
 rcases h with ⟨rfl,rfl⟩|h
 · exact hv.below hb
 · exact ownsRow_base (base':=0) h (Nat.zero_le _)
set_option maxHeartbeats 8000000 in
set_option maxRecDepth 100000 in
theorem lay_any (B g bq N:Nat) (q:QQ) (F C M v Dv:Value) (D:List Value) (l:List UInt8) (hd0 rm:Int) (ds:List Int) (bs:List QB) (w:World) (hw:WorkB B w g q F C M D l) (hbf:OwnBf 0 w v bs) (hdv:OwnI 0 w Dv ds) (hok:RingOk l.length bq N) (hbq:q.base=(bq:Nat)) (hz0:q.size=(N:Nat)) (hn:bs.length=ds.length) (h1:1≤bs.length) (hn16:bs.length≤16)
 (h3:∀ x∈bs,InB l.length x) (hds:∀ d∈ds,0≤d∧d < (N:Int)) (hB:B≤w.heap.size) :
 Calls Tryz.prog 79 #[.pointer (some ⟨g,0,none⟩),.agg #[.int .i64 hd0,Dv,.int .i64 rm],v] w fun e w'=>∃ M2,e=.returned (.tuple #[])∧WorkB B w' g q F C M2 D (layK l bq ds bs bs.length)∧Spare w w' B dirtyW:=by
 obtain ⟨fa,fn,fc,ca,cn,cc,rfl,rfl,hfn,hcn,k1,k2,k3,k4⟩:=hw.isq.shape
 obtain ⟨b,z,fr,av,la,ch⟩:=q
 simp only at *
 subst hbq
 subst hz0
 obtain ⟨va,vc,rfl,hv1,hv2⟩:=hw.mem.shape
 obtain ⟨L,hL⟩:∃ L,L=l.length:=⟨_,rfl⟩
 obtain ⟨ba,bc,rfl,hb1,hb2⟩:=hbf.shape
 obtain ⟨da,dc,rfl,hd1,hd2⟩:=hdv.shape
 obtain ⟨n,hnn⟩:∃ n,n=bs.length:=⟨_,rfl⟩
 obtain ⟨dn,hdn⟩:∃ n,n=ds.length:=⟨_,rfl⟩
 have HLK:=Zh (show ∀ k,k≤n→(layK l bq ds bs k).length=L from fun k hk=>by rw [layK_length hok hds k (by omega),hL])
 rw [←hnn] at hn h1 hn16 hbf hb1 ⊢
 rw [←hdn] at hn hdv hd1 ⊢
 rw [←hL] at hw hok h3
 obtain ⟨gb,rfl,hgb⟩:=hbf.lie (by omega)
 obtain ⟨gd,dcur,rfl,p1,p2,p3,p4,p5,p6⟩:=hdv.lie (by intro e; rw [e] at hdn; simp at hdn; omega)
 have HW:=Zh hw
 have HBF:=Zh hbf
 have HDV:=Zh hdv
 have HOK:=Zh hok
 have HIN:=Zh h3
 have HDS:=Zh hds
 have HN:=Zh hnn
 have HDN:=Zh hdn
 have HBB:=Zh hB
 have HDN2:=Zh (show n=dn from hn)
 have hbx:Below w.heap.size w (w.alloc (.cells #[.int .i64 hd0,.slice (some ⟨gd,0,none⟩) dn dc,.int .i64 rm] 97)):=(Below.refl _ _).alloc (Nat.le_refl _) _
 have HBX:=Zh hbx
 have HR4:=Zh (heap_alloc_new w (.cells #[.int .i64 hd0,.slice (some ⟨gd,0,none⟩) dn dc,.int .i64 rm] 97))
 clear hw hbf hdv hok h3 hds hfn hcn k1 k2 k3 k4 hv1 hv2 hb1 hb2 hd1 hd2 hnn hdn p1 p2 p3 p4 p5 p6 hB hbx hn hL
 go_enter Tryz.func79,Tryz.ntmps79
 go_wp2
 go_loopw [11] (fun i wr=>∃ (k:Nat) (ma:Option Addr) (mc:Nat),k≤n∧i=.int .i64 k∧WorkB B wr g ⟨(bq:Nat),(N:Nat),fr,av,la,ch⟩ (.slice fa fn fc) (.slice ca cn cc) (.slice ma L mc) D (layK l bq ds bs k)∧wr.heap[w.heap.size]? = some (.cells #[.int .i64 hd0,.slice (some ⟨gd,0,none⟩) dn dc,.int .i64 rm] 97 (0,0))∧Spare w wr B dirtyW) (fun i _=>n - (intOf i).toNat)
 case atStart=>exact ⟨0,va,vc,Nat.zero_le _,rfl,HW.out.below HBX.out,HR4.out,Spare.of_below HBX.out HBB.out _⟩
 case round =>
  obtain ⟨k,ma,mc,hk,rfl,hW,hR,hS⟩:=hrel
  have HWw:=Zh hW
  have HRw:=Zh hR
  have HSw:=Zh hS
  have HBFw:=Zh (show OwnBf 0 wr (.slice (some ⟨gb,0,none⟩) n bc) bs from hS.owns HBF.out rfl)
  have HDVw:=Zh (show OwnI 0 wr (.slice (some ⟨gd,0,none⟩) dn dc) ds from hS.owns HDV.out rfl)
  clear hW hR hS
  by_cases hlt:k < n
  · obtain ⟨px,py,pt,hx,g0,g1,g2⟩:=HBFw.out.at k (by rw [←HN.out]; exact hlt)
    obtain ⟨i1,i2,i3⟩:=HIN.out _ (List.mem_of_getElem? hx)
    simp only at i1 i2 i3
    have hL8:=HOK.out.few
    obtain ⟨px,rfl⟩:=Int.eq_ofNat_of_zero_le i1
    obtain ⟨py,rfl⟩:=Int.eq_ofNat_of_zero_le (show 0≤py by omega)
    have hgd:bs.getD k (0,0,false)=(((px:Nat):Int),((py:Nat):Int),pt):=by rw [List.getD_eq_getElem?_getD,hx]; rfl
    have hkd:k < ds.length:=by rw [←HDN.out,←HDN2.out]; omega
    have hdk:=HDS.out _ (List.getElem_mem hkd)
    obtain ⟨dk,hdk1⟩:=Int.eq_ofNat_of_zero_le hdk.1
    have hdk2:ds.getD k 0=(dk:Nat):=by simp [List.getD_eq_getElem?_getD,hkd,hdk1]
    have hdkN:dk < N:=by omega
    have HKD:=Zh hkd
    have HDK:=Zh hdk2
    obtain ⟨l2,hl2⟩:∃ x,layK l bq ds bs (k+1)=x:=⟨_,rfl⟩
    have hl3:l2=setD (layK l bq ds bs k) (bq+16 * dk) px py (flagOf pt (moreAt bs k)) (nextOf ds bs k):=by
     rw [←hl2,layK,hgd,hdk2]
     simp
    have HL2:=Zh hl2
    have hl4:l2.length=L:=by rw [←hl2]; exact HLK.out (k+1) (by omega)
    have hmem:=HWw.out.mem
    have hlk:=HLK.out k hk
    have hlen:0≤(k:Int)∧(k:Int) < (n:Int):=by omega
    obtain ⟨hl0,hl1⟩:=hlen
    have hkdn:k < dn∧((k:Nat):Int) < (dn:Nat):=by have:=HDN2.out; omega
    obtain ⟨hkd1,hkd3⟩:=hkdn
    have hw1:IntKind.u64.wrap ((px:Nat):Int)=(px:Nat):=IntWalk.u64_in _ (by omega)
    have hw2:IntKind.u32.wrap ((py:Nat):Int)=(py:Nat):=IntWalk.u32_in _ (by omega)
    have HSDA:=Zh (show ∀ (f nx:Nat),flagOf pt (moreAt bs k)=f→nextOf ds bs k=nx→nx < 65536→∀ (Y:World),OwnB 0 Y (.slice ma L mc) (layK l bq ds bs k)→∀ W,Below Y.heap.size Y W→Calls Tryz.prog 121 #[.agg #[.slice ma L mc],.int .i64 (bq:Nat),.int .i64 (N:Nat),.int .i64 (dk:Nat),.agg #[.int .u64 (px:Nat),.int .u32 (py:Nat),.int .u16 (f:Nat),.int .u16 (nx:Nat)]] W fun e w'=>∃ ra rc,e=.returned (.tuple #[.agg #[.slice ra L rc],.int .i64 0])∧OwnB 0 w' (.slice ra L rc) l2∧Below W.heap.size W w' from fun f nx hf hnx hnx2 Y hY W hb=>by
     have hok2:RingOk (layK l bq ds bs k).length bq N:=by rw [hlk]; exact HOK.out
     have hm:=hY.below hb
     have hf4:f < 65536:=by rw [←hf]; unfold flagOf; split <;> split <;> omega
     refine (setDesc_any _ (layK l bq ds bs k) (bq:Nat) (N:Nat) (dk:Nat) px py f nx (by omega) hf4 hnx2 0 l2 (descF_ok hok2 hdkN) ((setX_ok hok2 hdkN px py f nx).trans (by rw [hl3,hf,hnx])) (by omega) W hm.arg).mono ?_
     rintro e w' ⟨ra,rc,rfl,hgv,hbw⟩
     rw [hlk] at hgv ⊢
     exact ⟨ra,rc,rfl,hgv.ownB hm hbw,hbw⟩)
    clear hx i1 i2 i3 hgd hdk hdk1 hdk2 hl2 hl3 hl4 hmem hlk hkd
    go_upto_if 24 with fail
    go_cut [11] from 11 to 73 (fun x wx=>x=.int .i64 (k:Nat)∧∃ f0:Nat,flagOf pt false=f0∧wx=(wr.alloc (.cells #[.int .i64 (px:Nat),.int .i64 (py:Nat),.bool pt] 80)).alloc (.cells #[.int .u64 (px:Nat),.int .u32 (py:Nat),.int .u16 (f0:Nat),.int .u16 0] 159))
    case first =>
     cases pt with
     | false =>
       go_wp2_with fail
       go_meet
       exact ⟨rfl,0,rfl,rfl⟩
     | true =>
       go_wp2_with fail
       go_meet
       exact ⟨rfl,2,rfl,rfl⟩
    obtain ⟨rfl,f0,hf0,rfl⟩:=hcut
    have hf2:f0≤2:=by rw [←hf0]; exact flag_le pt
    have HF0:=Zh hf0
    clear hf0
    go_upto_if 33 with fail
    go_cut [11] from 11 to 73 (fun x wx=>x=.int .i64 (k:Nat)∧∃ f nx:Nat,flagOf pt (moreAt bs k)=f∧nextOf ds bs k=nx∧nx < 65536∧wx=(wr.alloc (.cells #[.int .i64 (px:Nat),.int .i64 (py:Nat),.bool pt] 80)).alloc (.cells #[.int .u64 (px:Nat),.int .u32 (py:Nat),.int .u16 (f:Nat),.int .u16 (nx:Nat)] 159))
    case first =>
     by_cases hm:k+1 < n
     · have hmore:moreAt bs k=true:=by unfold moreAt; rw [←HN.out]; exact decide_eq_true hm
       have hk1:k+1 < ds.length:=by rw [←HDN.out,←HDN2.out]; omega
       have hdx:=HDS.out _ (List.getElem_mem hk1)
       obtain ⟨nx,hnx1⟩:=Int.eq_ofNat_of_zero_le hdx.1
       have hnxl:nx < 65536:=by have:=HOK.out.lie; omega
       have hnx2:ds.getD (k+1) 0=(nx:Nat):=by simp [List.getD_eq_getElem?_getD,hk1,hnx1]
       have hnx:nextOf ds bs k=nx:=by unfold nextOf; rw [←HN.out,if_pos hm,hnx2]; rfl
       have hw3:IntKind.u16.wrap ((nx:Nat):Int)=(nx:Nat):=IntWalk.u16_in _ (by omega)
       have hb3:decide (((k:Nat):Int)+1 < ((n:Nat):Int))=true:=decide_eq_true (by omega)
       have hcn1:=HDVw.out.at (k+1) hk1
       rw [hnx2] at hcn1
       have hm2:k+1 < dn∧((k:Nat):Int)+1 < (dn:Nat):=by have:=HDN2.out; omega
       obtain ⟨hm2,hm3⟩:=hm2
       have hlw:=(Array.getElem?_eq_some_iff.1 HRw.out).1
       have hlgd:=(HDVw.out.lt gd rfl).2
       obtain ⟨⟨q0,q1,q2⟩,_⟩:=cells_three HRw.out
       clear hdx hnx1 hnx2 hk1
       go_wp2_with fail
       go_meet
       exact ⟨rfl,f0+1,nx,by rw [hmore,flag_more,HF0.out],hnx,hnxl,rfl⟩
     · have hmore:moreAt bs k=false:=by unfold moreAt; rw [←HN.out]; exact decide_eq_false hm
       have hnx0:nextOf ds bs k=0:=by unfold nextOf; rw [←HN.out,if_neg hm]
       have hb3:decide (((k:Nat):Int)+1 < ((n:Nat):Int))=false:=decide_eq_false (by omega)
       go_wp2_with fail
       go_meet
       exact ⟨rfl,f0,0,by rw [hmore,HF0.out],hnx0,by decide,rfl⟩
    obtain ⟨rfl,f,nx,hf,hnx,hnl,rfl⟩:=hcut
    clear HF0 hf2
    obtain ⟨X,hX⟩:∃ X,X=(wr.alloc (.cells #[.int .i64 (px:Nat),.int .i64 (py:Nat),.bool pt] 80)).alloc (.cells #[.int .u64 (px:Nat),.int .u32 (py:Nat),.int .u16 (f:Nat),.int .u16 (nx:Nat)] 159):=⟨_,rfl⟩
    have hbX:Below wr.heap.size wr X:=by rw [hX]; exact ((Below.refl _ _).alloc (Nat.le_refl _) _).alloc (by simp) _
    have HX1:=Zh (row_keep HWw.out.row hbX)
    have HX2:=Zh (show X.heap[wr.heap.size+1]? = some (.cells #[.int .u64 (px:Nat),.int .u32 (py:Nat),.int .u16 (f:Nat),.int .u16 (nx:Nat)] 159 (0,0)) from by rw [hX]; simpa using heap_alloc_new (wr.alloc (.cells #[.int .i64 (px:Nat),.int .i64 (py:Nat),.bool pt] 80)) (.cells #[.int .u64 (px:Nat),.int .u32 (py:Nat),.int .u16 (f:Nat),.int .u16 (nx:Nat)] 159))
    have HX3:=Zh (row_keep HRw.out hbX)
    have HX4:=Zh (HDVw.out.below hbX)
    have HBXw:=Zh hbX
    have HSD:=Zh (HSDA.out f nx hf hnx hnl X (HWw.out.mem.below hbX))
    have HXE:=Zh hX
    clear hbX hX hf hnx hnl
    go_wp2_with fail
    rw [←HXE.out]
    refine wp_region_rec (X:=QueLay) (by kernel_rfl) (by kernel_rfl) (fun x=>#[x.b0,x.b1,x.b2,x.b3,x.b4,x.b5,x.b6,x.b7,x.b8,x.b9,x.b10,x.b11,x.b12,x.b13,x.b14,x.b15,x.b16,x.b17,x.b18,x.b19,x.b20,x.b21,x.b22,x.b23,x.b24,x.b25,x.b26,x.b27]) (fun x=>{ tmps:=List.toArray ((.pointer (some ⟨g,0,none⟩))::(.agg #[.int .i64 hd0,.slice (some ⟨gd,0,none⟩) dn dc,.int .i64 rm])::(.slice (some ⟨gb,0,none⟩) n bc)::undef::(.pointer (some ⟨w.heap.size,0,none⟩))::undef::(.int .i64 (k:Nat))::(.pointer (some ⟨wr.heap.size,0,none⟩))::(.pointer (some ⟨wr.heap.size+1,0,none⟩))::(.slice (some ⟨gb,0,none⟩) n bc)::(.int .i64 (n:Nat))::(.int .i64 (k:Nat))::u12::u13::u14::u15::u16::u17::u18::u19::u20::u21::u22::u23::u24::u25::u26::u27::u28::u29::u30::u31::u32::u33::u34::u35::u36::u37::u38::u39::u40::u41::u42::u43::u44::u45::x.s46::x.s47::x.s48::x.s49::x.s50::x.s51::x.s52::x.s53::x.s54::x.s55::x.s56::x.s57::x.s58::x.s59::x.s60::x.s61::x.s62::x.s63::x.s64::x.s65::x.s66::x.s67::x.s68::x.s69::x.s70::x.s71::x.s72::u73::[]),defers:=[] }) (fun x W=>(x.b0→x.s47=.pointer (some ⟨g,0,none⟩))∧(x.b1→x.s48=.pointer (some ⟨g,0,none⟩))∧(x.b2→x.s49=.pointer (some ⟨g,0,none⟩))∧(x.b3→x.s50=.pointer (some ⟨g,6,none⟩))∧(x.b4→x.s51=.agg #[.slice ma L mc])∧(x.b5→x.s52=.pointer (some ⟨g,0,none⟩))∧(x.b6→x.s53=.pointer (some ⟨g,0,none⟩))∧(x.b7→x.s54=.pointer (some ⟨g,0,none⟩))∧(x.b8→x.s55=.pointer (some ⟨g,0,none⟩))∧(x.b9→x.s56=.int .i64 (bq:Nat))∧(x.b10→x.s57=.pointer (some ⟨g,0,none⟩))∧(x.b11→x.s58=.pointer (some ⟨g,0,none⟩))∧(x.b12→x.s59=.pointer (some ⟨g,0,none⟩))∧(x.b13→x.s60=.pointer (some ⟨g,1,none⟩))∧(x.b14→x.s61=.int .i64 (N:Nat))∧(x.b15→x.s62=.pointer (some ⟨w.heap.size,1,none⟩))∧(x.b16→x.s63=.slice (some ⟨gd,0,none⟩) dn dc)∧(x.b17→x.s64=.int .i64 (k:Nat))∧(x.b18→x.s65=.pointer (some ⟨gd,k,none⟩))∧(x.b19→x.s66=.int .i64 (dk:Nat))∧(x.b20→x.s67=.agg #[.int .u64 (px:Nat),.int .u32 (py:Nat),.int .u16 (f:Nat),.int .u16 (nx:Nat)])∧(x.b22→x.s46=x.s68)∧(x.b24→x.s70=.int .i64 0)∧(x.b25→x.s71=.pointer (some ⟨g,0,none⟩))∧(x.b26→x.s72=.pointer (some ⟨g,6,none⟩))∧(x.b22→x.b21)∧(x.b27→x.b4∧x.b9∧x.b14∧x.b16∧x.b19∧x.b20∧x.b21)∧(x.b23→x.b21)∧(x.b27=false→W.heap[g]? = some (.cells #[.int .i64 (bq:Nat),.int .i64 (N:Nat),.slice fa fn fc,.int .u16 (av:Nat),.int .u16 (la:Nat),.slice ca cn cc,.slice ma L mc] 133 (0,0)))∧(x.b27=false→W.heap[wr.heap.size+1]? = some (.cells #[.int .u64 (px:Nat),.int .u32 (py:Nat),.int .u16 (f:Nat),.int .u16 (nx:Nat)] 159 (0,0)))∧(x.b27=false→W.heap[w.heap.size]? = some (.cells #[.int .i64 hd0,.slice (some ⟨gd,0,none⟩) dn dc,.int .i64 rm] 97 (0,0)))∧(x.b27=false→Below X.heap.size X W)∧(x.b21→∃ ra rc,x.s68=.tuple #[.agg #[.slice ra L rc],.int .i64 0]∧OwnB 0 W (.slice ra L rc) l2)∧(x.b23→∃ ra rc,x.s69=.agg #[.slice ra L rc]∧OwnB 0 W (.slice ra L rc) l2)∧(x.b27→∃ ra rc w6,W=w6.setCell ⟨g,6,none⟩ (.slice ra L rc)∧Below X.heap.size X w6∧OwnB 0 w6 (.slice ra L rc) l2)) ⟨false,false,false,false,false,false,false,false,false,false,false,false,false,false,false,false,false,false,false,false,false,false,false,false,false,false,false,false,u47,u48,u49,u50,u51,u52,u53,u54,u55,u56,u57,u58,u59,u60,u61,u62,u63,u64,u65,u66,u67,u68,u46,u69,u70,u71,u72⟩ rfl rfl ⟨Zf,Zf,Zf,Zf,Zf,Zf,Zf,Zf,Zf,Zf,Zf,Zf,Zf,Zf,Zf,Zf,Zf,Zf,Zf,Zf,Zf,Zf,Zf,Zf,Zf,Zf,Zf,Zf,(fun _=>HX1.out),(fun _=>HX2.out),(fun _=>HX3.out),(fun _=>(Below.refl _ _).drew),Zf,Zf,Zf⟩ (fun _=>rfl) ?hstep ?hdone
    case hstep =>
     rintro ⟨b0,b1,b2,b3,b4,b5,b6,b7,b8,b9,b10,b11,b12,b13,b14,b15,b16,b17,b18,b19,b20,b21,b22,b23,b24,b25,b26,b27,s47,s48,s49,s50,s51,s52,s53,s54,s55,s56,s57,s58,s59,s60,s61,s62,s63,s64,s65,s66,s67,s68,s46,s69,s70,s71,s72⟩ W hI i hi
     dsimp only at hI hi ⊢
     have HI:=Zh hI
     clear hI
     rw [Region.ready,List.mem_filter,List.mem_range] at hi
     obtain ⟨hlt,hp⟩:=hi
     have hi7:i=0∨i=1∨i=2∨i=3∨i=4∨i=5∨i=6∨i=7∨i=8∨i=9∨i=10∨i=11∨i=12∨i=13∨i=14∨i=15∨i=16∨i=17∨i=18∨i=19∨i=20∨i=21∨i=22∨i=23∨i=24∨i=25∨i=26∨i=27:=by simp at hlt; omega
     clear hlt
     rcases hi7 with rfl|rfl|rfl|rfl|rfl|rfl|rfl|rfl|rfl|rfl|rfl|rfl|rfl|rfl|rfl|rfl|rfl|rfl|rfl|rfl|rfl|rfl|rfl|rfl|rfl|rfl|rfl|rfl
     all_goals simp [Region.binds] at hp
     · obtain rfl:b0=false:=by revert hp; cases b0 <;> simp
       clear hp; refine Zv 47 fun K' hK'=>?_
       go_simp
       exact hK'.out _ _ ⟨.mk ..,rfl,rfl,(Upd (fun _=>rfl)) HI.out⟩
     · obtain rfl:b1=false:=by revert hp; cases b1 <;> simp
       clear hp; refine Zv 48 fun K' hK'=>?_
       go_simp
       exact hK'.out _ _ ⟨.mk ..,rfl,rfl,Nxt (Upd (fun _=>rfl)) HI.out⟩
     · obtain ⟨rfl,e1⟩:b2=false∧b1=true:=by revert hp; cases b2 <;> cases b1 <;> simp
       clear hp
       obtain rfl:=(HI.out.2.1) e1
       refine Zv 49 fun K' hK'=>?_
       go_simp
       exact hK'.out _ _ ⟨.mk ..,rfl,rfl,Nxt (Nxt (Upd (fun _=>rfl))) HI.out⟩
     · obtain ⟨rfl,e2⟩:b3=false∧b2=true:=by revert hp; cases b3 <;> cases b2 <;> simp
       clear hp
       obtain rfl:=(HI.out.2.2.1) e2
       refine Zv 50 fun K' hK'=>?_
       go_simp
       exact hK'.out _ _ ⟨.mk ..,rfl,rfl,Nxt (Nxt (Nxt (Upd (fun _=>rfl)))) HI.out⟩
     · obtain ⟨rfl,e3⟩:b4=false∧b3=true:=by revert hp; cases b4 <;> cases b3 <;> simp
       clear hp
       obtain rfl:=(HI.out.2.2.2.1) e3
       refine Zv 51 fun K' hK'=>?_
       have gi27:=(Ze (Zg HI.out)).2.2.1
       have rW0:=(Zd (Ze (Zg HI.out))).1
       obtain rfl:b27=false:=Zz fun e=>(gi27 e).1
       obtain ⟨hc6,_⟩:=at_cell (rW0 rfl) 6 _ rfl
       go_simp
       obtain ⟨h0,h1,h2,h3,h4,h5,h6,h7,h8,h9,h10,h11,h12,h13,h14,h15,h16,h17,h18,h19,h20,h22,h24,h25,h26,gi22,gi27,gi23,rW0,rD0,rC0,gB,gP,gX,gF⟩:=HI.out
       exact hK'.out _ _ ⟨.mk ..,rfl,rfl,h0,h1,h2,h3,(fun _=>rfl),h5,h6,h7,h8,h9,h10,h11,h12,h13,h14,h15,h16,h17,h18,h19,h20,h22,h24,h25,h26,gi22,Zf,gi23,rW0,rD0,rC0,gB,gP,gX,Zf⟩
     · obtain rfl:b5=false:=by revert hp; cases b5 <;> simp
       clear hp; refine Zv 52 fun K' hK'=>?_
       go_simp
       exact hK'.out _ _ ⟨.mk ..,rfl,rfl,Nxt (Nx4 (Upd (fun _=>rfl))) HI.out⟩
     · obtain ⟨rfl,e5⟩:b6=false∧b5=true:=by revert hp; cases b6 <;> cases b5 <;> simp
       clear hp
       obtain rfl:=((Zd HI.out).2.1) e5
       refine Zv 53 fun K' hK'=>?_
       go_simp
       exact hK'.out _ _ ⟨.mk ..,rfl,rfl,Nxt (Nxt (Nx4 (Upd (fun _=>rfl)))) HI.out⟩
     · obtain ⟨rfl,e6⟩:b7=false∧b6=true:=by revert hp; cases b7 <;> cases b6 <;> simp
       clear hp
       obtain rfl:=((Zd HI.out).2.2.1) e6
       refine Zv 54 fun K' hK'=>?_
       go_simp
       exact hK'.out _ _ ⟨.mk ..,rfl,rfl,Nxt (Nxt (Nxt (Nx4 (Upd (fun _=>rfl))))) HI.out⟩
     · obtain ⟨rfl,e7⟩:b8=false∧b7=true:=by revert hp; cases b8 <;> cases b7 <;> simp
       clear hp
       obtain rfl:=((Zd HI.out).2.2.2.1) e7
       refine Zv 55 fun K' hK'=>?_
       go_simp
       exact hK'.out _ _ ⟨.mk ..,rfl,rfl,Nx4 (Nx4 (Upd (fun _=>rfl))) HI.out⟩
     · obtain ⟨rfl,e8⟩:b9=false∧b8=true:=by revert hp; cases b9 <;> cases b8 <;> simp
       clear hp
       obtain rfl:=((Ze HI.out).1) e8
       refine Zv 56 fun K' hK'=>?_
       have gi27:=(Ze (Zg HI.out)).2.2.1
       have rW0:=(Zd (Ze (Zg HI.out))).1
       obtain rfl:b27=false:=Zz fun e=>(gi27 e).2.1
       obtain ⟨hc0,_⟩:=at_cell (rW0 rfl) 0 _ rfl
       go_simp
       obtain ⟨h0,h1,h2,h3,h4,h5,h6,h7,h8,h9,h10,h11,h12,h13,h14,h15,h16,h17,h18,h19,h20,h22,h24,h25,h26,gi22,gi27,gi23,rW0,rD0,rC0,gB,gP,gX,gF⟩:=HI.out
       exact hK'.out _ _ ⟨.mk ..,rfl,rfl,h0,h1,h2,h3,h4,h5,h6,h7,h8,(fun _=>rfl),h10,h11,h12,h13,h14,h15,h16,h17,h18,h19,h20,h22,h24,h25,h26,gi22,Zf,gi23,rW0,rD0,rC0,gB,gP,gX,Zf⟩
     · obtain rfl:b10=false:=by revert hp; cases b10 <;> simp
       clear hp; refine Zv 57 fun K' hK'=>?_
       go_simp
       exact hK'.out _ _ ⟨.mk ..,rfl,rfl,Nxt (Nxt (Nx4 (Nx4 (Upd (fun _=>rfl))))) HI.out⟩
     · obtain ⟨rfl,e10⟩:b11=false∧b10=true:=by revert hp; cases b11 <;> cases b10 <;> simp
       clear hp
       obtain rfl:=((Ze HI.out).2.2.1) e10
       refine Zv 58 fun K' hK'=>?_
       go_simp
       exact hK'.out _ _ ⟨.mk ..,rfl,rfl,Nxt (Nxt (Nxt (Nx4 (Nx4 (Upd (fun _=>rfl)))))) HI.out⟩
     · obtain ⟨rfl,e11⟩:b12=false∧b11=true:=by revert hp; cases b12 <;> cases b11 <;> simp
       clear hp
       obtain rfl:=((Ze HI.out).2.2.2.1) e11
       refine Zv 59 fun K' hK'=>?_
       go_simp
       exact hK'.out _ _ ⟨.mk ..,rfl,rfl,Nx4 (Nx4 (Nx4 (Upd (fun _=>rfl)))) HI.out⟩
     · obtain ⟨rfl,e12⟩:b13=false∧b12=true:=by revert hp; cases b13 <;> cases b12 <;> simp
       clear hp
       obtain rfl:=((Zd (Ze HI.out)).1) e12
       refine Zv 60 fun K' hK'=>?_
       go_simp
       exact hK'.out _ _ ⟨.mk ..,rfl,rfl,Nxt (Nx4 (Nx4 (Nx4 (Upd (fun _=>rfl))))) HI.out⟩
     · obtain ⟨rfl,e13⟩:b14=false∧b13=true:=by revert hp; cases b14 <;> cases b13 <;> simp
       clear hp
       obtain rfl:=((Zd (Ze HI.out)).2.1) e13
       refine Zv 61 fun K' hK'=>?_
       have gi27:=(Ze (Zg HI.out)).2.2.1
       have rW0:=(Zd (Ze (Zg HI.out))).1
       obtain rfl:b27=false:=Zz fun e=>(gi27 e).2.2.1
       obtain ⟨hc1,_⟩:=at_cell (rW0 rfl) 1 _ rfl
       go_simp
       obtain ⟨h0,h1,h2,h3,h4,h5,h6,h7,h8,h9,h10,h11,h12,h13,h14,h15,h16,h17,h18,h19,h20,h22,h24,h25,h26,gi22,gi27,gi23,rW0,rD0,rC0,gB,gP,gX,gF⟩:=HI.out
       exact hK'.out _ _ ⟨.mk ..,rfl,rfl,h0,h1,h2,h3,h4,h5,h6,h7,h8,h9,h10,h11,h12,h13,(fun _=>rfl),h15,h16,h17,h18,h19,h20,h22,h24,h25,h26,gi22,Zf,gi23,rW0,rD0,rC0,gB,gP,gX,Zf⟩
     · obtain rfl:b15=false:=by revert hp; cases b15 <;> simp
       clear hp; refine Zv 62 fun K' hK'=>?_
       go_simp
       exact hK'.out _ _ ⟨.mk ..,rfl,rfl,Nxt (Nxt (Nxt (Nx4 (Nx4 (Nx4 (Upd (fun _=>rfl))))))) HI.out⟩
     · obtain ⟨rfl,e15⟩:b16=false∧b15=true:=by revert hp; cases b16 <;> cases b15 <;> simp
       clear hp
       obtain rfl:=((Zd (Ze HI.out)).2.2.2.1) e15
       refine Zv 63 fun K' hK'=>?_
       have gi27:=(Ze (Zg HI.out)).2.2.1
       have rC0:=(Zd (Ze (Zg HI.out))).2.2.1
       obtain rfl:b27=false:=Zz fun e=>(gi27 e).2.2.2.1
       obtain ⟨hc1,_⟩:=at_cell (rC0 rfl) 1 _ rfl
       go_simp
       obtain ⟨h0,h1,h2,h3,h4,h5,h6,h7,h8,h9,h10,h11,h12,h13,h14,h15,h16,h17,h18,h19,h20,h22,h24,h25,h26,gi22,gi27,gi23,rW0,rD0,rC0,gB,gP,gX,gF⟩:=HI.out
       exact hK'.out _ _ ⟨.mk ..,rfl,rfl,h0,h1,h2,h3,h4,h5,h6,h7,h8,h9,h10,h11,h12,h13,h14,h15,(fun _=>rfl),h17,h18,h19,h20,h22,h24,h25,h26,gi22,Zf,gi23,rW0,rD0,rC0,gB,gP,gX,Zf⟩
     · obtain rfl:b17=false:=by revert hp; cases b17 <;> simp
       clear hp; refine Zv 64 fun K' hK'=>?_
       go_simp
       exact hK'.out _ _ ⟨.mk ..,rfl,rfl,Nxt (Nx16 (Upd (fun _=>rfl))) HI.out⟩
     · obtain ⟨rfl,e16,e17⟩:b18=false∧b16=true∧b17=true:=by revert hp; cases b18 <;> cases b16 <;> cases b17 <;> simp
       clear hp
       obtain rfl:=((Zg HI.out).1) e16
       obtain rfl:=((Zg HI.out).2.1) e17
       refine Zv 65 fun K' hK'=>?_
       go_simp
       exact hK'.out _ _ ⟨.mk ..,rfl,rfl,Nxt (Nxt (Nx16 (Upd (fun _=>rfl)))) HI.out⟩
     · obtain ⟨rfl,e18⟩:b19=false∧b18=true:=by revert hp; cases b19 <;> cases b18 <;> simp
       clear hp
       obtain rfl:=((Zg HI.out).2.2.1) e18
       refine Zv 66 fun K' hK'=>?_
       have gi27:=(Ze (Zg HI.out)).2.2.1
       have gB:=(Zd (Ze (Zg HI.out))).2.2.2.1
       obtain rfl:b27=false:=Zz fun e=>(gi27 e).2.2.2.2.1
       have hc7:=(HX4.out.below (gB rfl)).at k HKD.out
       rw [HDK.out] at hc7
       go_simp
       obtain ⟨h0,h1,h2,h3,h4,h5,h6,h7,h8,h9,h10,h11,h12,h13,h14,h15,h16,h17,h18,h19,h20,h22,h24,h25,h26,gi22,gi27,gi23,rW0,rD0,rC0,gB,gP,gX,gF⟩:=HI.out
       exact hK'.out _ _ ⟨.mk ..,rfl,rfl,h0,h1,h2,h3,h4,h5,h6,h7,h8,h9,h10,h11,h12,h13,h14,h15,h16,h17,h18,(fun _=>rfl),h20,h22,h24,h25,h26,gi22,Zf,gi23,rW0,rD0,rC0,gB,gP,gX,Zf⟩
     · obtain rfl:b20=false:=by revert hp; cases b20 <;> simp
       clear hp; refine Zv 67 fun K' hK'=>?_
       have gi27:=(Ze (Zg HI.out)).2.2.1
       have rD0:=(Zd (Ze (Zg HI.out))).2.1
       obtain rfl:b27=false:=Zz fun e=>(gi27 e).2.2.2.2.2.1
       obtain ⟨hc0,_⟩:=at_cell (rD0 rfl) 0 _ rfl
       obtain ⟨hc1,_⟩:=at_cell (rD0 rfl) 1 _ rfl
       obtain ⟨hc2,_⟩:=at_cell (rD0 rfl) 2 _ rfl
       obtain ⟨hc3,_⟩:=at_cell (rD0 rfl) 3 _ rfl
       go_simp
       obtain ⟨h0,h1,h2,h3,h4,h5,h6,h7,h8,h9,h10,h11,h12,h13,h14,h15,h16,h17,h18,h19,h20,h22,h24,h25,h26,gi22,gi27,gi23,rW0,rD0,rC0,gB,gP,gX,gF⟩:=HI.out
       exact hK'.out _ _ ⟨.mk ..,rfl,rfl,h0,h1,h2,h3,h4,h5,h6,h7,h8,h9,h10,h11,h12,h13,h14,h15,h16,h17,h18,h19,(fun _=>rfl),h22,h24,h25,h26,gi22,Zf,gi23,rW0,rD0,rC0,gB,gP,gX,Zf⟩
     · have hn21:b21=false:=by revert hp; cases b21 <;> simp
       have e4:b4=true:=by revert hp; cases b4 <;> simp
       have e9:b9=true:=by revert hp; cases b9 <;> simp
       have e14:b14=true:=by revert hp; cases b14 <;> simp
       have e19:b19=true:=by revert hp; cases b19 <;> simp
       have e20:b20=true:=by revert hp; cases b20 <;> simp
       clear hp
       obtain rfl:=((Zd HI.out).1) e4
       obtain rfl:=((Ze HI.out).2.1) e9
       obtain rfl:=((Zd (Ze HI.out)).2.2.1) e14
       obtain rfl:=((Zg HI.out).2.2.2.1) e19
       obtain rfl:=((Zd (Zg HI.out)).1) e20
       subst hn21
       refine Zv 68 fun K' hK'=>?_
       have gi22:=(Ze (Zg HI.out)).2.1
       have gi27:=(Ze (Zg HI.out)).2.2.1
       have gi23:=(Ze (Zg HI.out)).2.2.2.1
       have gB:=(Zd (Ze (Zg HI.out))).2.2.2.1
       obtain rfl:b22=false:=Zz fun e=>(gi22 e)
       obtain rfl:b27=false:=Zz fun e=>(gi27 e).2.2.2.2.2.2
       obtain rfl:b23=false:=Zz fun e=>(gi23 e)
       go_simp
       refine (HSD.out W (gB rfl)).mono ?_
       rintro e w2 ⟨ra,rc,rfl,hr,bn⟩
       obtain ⟨h0,h1,h2,h3,h4,h5,h6,h7,h8,h9,h10,h11,h12,h13,h14,h15,h16,h17,h18,h19,h20,h22,h24,h25,h26,gi22,gi27,gi23,rW0,rD0,rC0,gB,gP,gX,gF⟩:=HI.out
       exact hK'.out _ _ ⟨.mk ..,rfl,rfl,h0,h1,h2,h3,h4,h5,h6,h7,h8,h9,h10,h11,h12,h13,h14,h15,h16,h17,h18,h19,h20,(fun e=>by cases ((gi22 e))),h24,h25,h26,Zf,Zf,Zf,(fun e=>row_keep (rW0 e) bn),(fun e=>row_keep (rD0 e) bn),(fun e=>row_keep (rC0 e) bn),(fun e=>(gB e).trans (bn.mono (gB e).size)),(fun _=>⟨ra,rc,rfl,hr⟩),Zf,Zf⟩
     · obtain ⟨rfl,e21⟩:b22=false∧b21=true:=by revert hp; cases b22 <;> cases b21 <;> simp
       clear hp; refine Zv 46 fun K' hK'=>?_
       go_simp
       exact hK'.out _ _ ⟨.mk ..,rfl,rfl,Nxt (Nx4 (Nx4 (Nx16 (Upd (fun _=>e21))))) (Nxt (Nx4 (Nx16 (Upd (fun _=>rfl)))) HI.out)⟩
     · obtain ⟨rfl,e22⟩:b23=false∧b22=true:=by revert hp; cases b23 <;> cases b22 <;> simp
       clear hp
       obtain rfl:=((Zd (Zg HI.out)).2.1) e22
       refine Zv 69 fun K' hK'=>?_
       have gi22:=(Ze (Zg HI.out)).2.1
       have gP:=(Zg (Zg HI.out)).1
       obtain ⟨ra,rc,rfl,hp⟩:=gP ((gi22 e22))
       go_simp
       obtain ⟨h0,h1,h2,h3,h4,h5,h6,h7,h8,h9,h10,h11,h12,h13,h14,h15,h16,h17,h18,h19,h20,h22,h24,h25,h26,gi22,gi27,gi23,rW0,rD0,rC0,gB,gP,gX,gF⟩:=HI.out
       exact hK'.out _ _ ⟨.mk ..,rfl,rfl,h0,h1,h2,h3,h4,h5,h6,h7,h8,h9,h10,h11,h12,h13,h14,h15,h16,h17,h18,h19,h20,h22,h24,h25,h26,gi22,gi27,(fun _=>(gi22 e22)),rW0,rD0,rC0,gB,(fun _=>⟨ra,rc,rfl,hp⟩),(fun _=>⟨ra,rc,rfl,hp⟩),gF⟩
     · obtain ⟨rfl,e22⟩:b24=false∧b22=true:=by revert hp; cases b24 <;> cases b22 <;> simp
       clear hp
       obtain rfl:=((Zd (Zg HI.out)).2.1) e22
       refine Zv 70 fun K' hK'=>?_
       have gi22:=(Ze (Zg HI.out)).2.1
       have gP:=(Zg (Zg HI.out)).1
       obtain ⟨ra,rc,rfl,hp⟩:=gP ((gi22 e22))
       go_simp
       exact hK'.out _ _ ⟨.mk ..,rfl,rfl,Nx16 (Nx16 (Upd (fun _=>⟨ra,rc,rfl,hp⟩))) (Nxt (Nxt (Nx4 (Nx16 (Upd (fun _=>rfl))))) HI.out)⟩
     · obtain ⟨rfl,e0⟩:b25=false∧b0=true:=by revert hp; cases b25 <;> cases b0 <;> simp
       clear hp
       obtain rfl:=(HI.out.1) e0
       refine Zv 71 fun K' hK'=>?_
       go_simp
       exact hK'.out _ _ ⟨.mk ..,rfl,rfl,Nxt (Nxt (Nxt (Nx4 (Nx16 (Upd (fun _=>rfl)))))) HI.out⟩
     · obtain ⟨rfl,e25⟩:b26=false∧b25=true:=by revert hp; cases b26 <;> cases b25 <;> simp
       clear hp
       obtain rfl:=((Zd (Zg HI.out)).2.2.2.1) e25
       refine Zv 72 fun K' hK'=>?_
       go_simp
       exact hK'.out _ _ ⟨.mk ..,rfl,rfl,Nx4 (Nx4 (Nx16 (Upd (fun _=>rfl)))) HI.out⟩
     · have hn27:b27=false:=by revert hp; cases b27 <;> simp
       have e23:b23=true:=by revert hp; cases b23 <;> simp
       have e26:b26=true:=by revert hp; cases b26 <;> simp
       have e21:b21=true:=by revert hp; cases b21 <;> simp
       have e4:b4=true:=by revert hp; cases b4 <;> simp
       have e9:b9=true:=by revert hp; cases b9 <;> simp
       have e14:b14=true:=by revert hp; cases b14 <;> simp
       have e16:b16=true:=by revert hp; cases b16 <;> simp
       have e19:b19=true:=by revert hp; cases b19 <;> simp
       have e20:b20=true:=by revert hp; cases b20 <;> simp
       clear hp
       obtain rfl:=((Ze (Zg HI.out)).1) e26
       subst hn27
       refine inv_op (o:=⟨none,_,_,_,_,_⟩) rfl (fun K' hK'=>?_)
       have rW0:=(Zd (Ze (Zg HI.out))).1
       have gB:=(Zd (Ze (Zg HI.out))).2.2.2.1
       have gX:=(Zg (Zg HI.out)).2.1
       obtain ⟨ra,rc,rfl,hx⟩:=gX e23
       have hrow:=rW0 rfl
       have hgb:=gB rfl
       obtain ⟨hc,hz⟩:=at_cell hrow 6 _ rfl
       have hlx:=(Array.getElem?_eq_some_iff.1 hrow).1
       go_simp
       obtain ⟨h0,h1,h2,h3,h4,h5,h6,h7,h8,h9,h10,h11,h12,h13,h14,h15,h16,h17,h18,h19,h20,h22,h24,h25,h26,gi22,gi27,gi23,rW0,rD0,rC0,gB,gP,gX,gF⟩:=HI.out
       exact hK'.out _ _ ⟨.mk ..,rfl,rfl,h0,h1,h2,h3,h4,h5,h6,h7,h8,h9,h10,h11,h12,h13,h14,h15,h16,h17,h18,h19,h20,h22,h24,h25,h26,gi22,(fun _=>⟨e4,e9,e14,e16,e19,e20,e21⟩),gi23,Zf,Zf,Zf,Zf,(fun e=>by obtain ⟨y0,y1,h1,h2⟩:=gP e; exact ⟨y0,y1,h1,h2.stay hrow (by decide) 6 _⟩),(fun _=>⟨ra,rc,rfl,hx.stay hrow (by decide) 6 _⟩),(fun _=>⟨ra,rc,W,rfl,hgb,hx⟩)⟩
    case hdone =>
     rintro ⟨b0,b1,b2,b3,b4,b5,b6,b7,b8,b9,b10,b11,b12,b13,b14,b15,b16,b17,b18,b19,b20,b21,b22,b23,b24,b25,b26,b27,s47,s48,s49,s50,s51,s52,s53,s54,s55,s56,s57,s58,s59,s60,s61,s62,s63,s64,s65,s66,s67,s68,s46,s69,s70,s71,s72⟩ W hI hall
     dsimp only at hI hall ⊢
     have HI:=Zh hI
     clear hI
     obtain rfl:b0=true:=hall 0 (by decide)
     obtain rfl:b1=true:=hall 1 (by decide)
     obtain rfl:b2=true:=hall 2 (by decide)
     obtain rfl:b3=true:=hall 3 (by decide)
     obtain rfl:b4=true:=hall 4 (by decide)
     obtain rfl:b5=true:=hall 5 (by decide)
     obtain rfl:b6=true:=hall 6 (by decide)
     obtain rfl:b7=true:=hall 7 (by decide)
     obtain rfl:b8=true:=hall 8 (by decide)
     obtain rfl:b9=true:=hall 9 (by decide)
     obtain rfl:b10=true:=hall 10 (by decide)
     obtain rfl:b11=true:=hall 11 (by decide)
     obtain rfl:b12=true:=hall 12 (by decide)
     obtain rfl:b13=true:=hall 13 (by decide)
     obtain rfl:b14=true:=hall 14 (by decide)
     obtain rfl:b15=true:=hall 15 (by decide)
     obtain rfl:b16=true:=hall 16 (by decide)
     obtain rfl:b17=true:=hall 17 (by decide)
     obtain rfl:b18=true:=hall 18 (by decide)
     obtain rfl:b19=true:=hall 19 (by decide)
     obtain rfl:b20=true:=hall 20 (by decide)
     obtain rfl:b21=true:=hall 21 (by decide)
     obtain rfl:b22=true:=hall 22 (by decide)
     obtain rfl:b23=true:=hall 23 (by decide)
     obtain rfl:b24=true:=hall 24 (by decide)
     obtain rfl:b25=true:=hall 25 (by decide)
     obtain rfl:b26=true:=hall 26 (by decide)
     obtain rfl:b27=true:=hall 27 (by decide)
     have gF:=(Zg (Zg HI.out)).2.2
     clear HI hall
     obtain ⟨ra,rc,w6,rfl,hb6,ho6⟩:=gF rfl
     have hw6:=((HWw.out.below HBXw.out).below hb6).setM ho6
     have hr6:=row_keep (row_keep HRw.out HBXw.out) hb6
     have hbb:=HBXw.out.trans (hb6.mono HBXw.out.size)
     have HW6:=Zh hw6
     have HR6:=Zh (one_other hr6 ⟨g,6,none⟩ (.slice ra L rc) (blocks_ne hr6 (row_keep HWw.out.row hbb) (fun e=>tChW e.symm)))
     have HS6:=Zh ((HSw.out.trans (Spare.of_below hbb (Nat.le_trans HBB.out HSw.out.size) _)).trans (Spare.set (i:=6) (u:=.slice ra L rc) (row_keep HWw.out.row hbb) rfl HWw.out.lo))
     clear gF hb6 ho6 hw6 hr6 hbb
     go_wp2
     go_roundw
     case rel=>exact ⟨k+1,ra,rc,by omega,by go_num,by rw [HL2.out]; exact HW6.out,HR6.out,HS6.out⟩
     case measure=>simp [intOf]; omega
  · obtain rfl:n=k:=by omega
    have HE:=Zh (show WorkB B wr g _ _ _ _ D (layK l bq ds bs n) from HWw.out)
    go_wp2
    refine bodyPost_end (v:=.tuple #[]) (by simp [results,Tryz.results79]) rfl ⟨.slice ma L mc,rfl,HE.out,HSw.out⟩
theorem four_boxes (w:World) (cs ds es fs:Array Value) (s t q p:TypeId):((((w.alloc (.cells cs s)).alloc (.cells ds t)).alloc (.cells es q)).alloc (.cells fs p)).heap[w.heap.size]? = some (.cells cs s (0,0))∧((((w.alloc (.cells cs s)).alloc (.cells ds t)).alloc (.cells es q)).alloc (.cells fs p)).heap[w.heap.size+1]? = some (.cells ds t (0,0))∧((((w.alloc (.cells cs s)).alloc (.cells ds t)).alloc (.cells es q)).alloc (.cells fs p)).heap[w.heap.size+2]? = some (.cells es q (0,0))∧((((w.alloc (.cells cs s)).alloc (.cells ds t)).alloc (.cells es q)).alloc (.cells fs p)).heap[w.heap.size+3]? = some (.cells fs p (0,0))∧Below w.heap.size w ((((w.alloc (.cells cs s)).alloc (.cells ds t)).alloc (.cells es q)).alloc (.cells fs p)):=by
 obtain ⟨h0,h1,h2,h3⟩:=three_boxes w cs ds es s t q
 exact ⟨row_new h0 _,row_new h1 _,row_new h2 _,by simpa using heap_alloc_new (((w.alloc (.cells cs s)).alloc (.cells ds t)).alloc (.cells es q)) (.cells fs p),h3.alloc (by simp; omega) _⟩
def addM (l:List UInt8) (B N:Nat) (q:QQ) (bs:List QB):List UInt8:=offerD (layK l B (q.free.take bs.length) bs bs.length) B N q.avail (q.free.getD 0 0).toNat
theorem addM_length {l:List UInt8} {B N:Nat} {q:QQ} {bs:List QB} (hok:RingOk l.length B N) (hg:GoodQ q N) (hn:bs.length≤q.free.length):(addM l B N q bs).length=l.length:=by
 have h1:=layK_length (bs:=bs) hok (ds:=q.free.take bs.length) (fun d hd=>hg.freeIn (List.mem_of_mem_take hd)) bs.length (by rw [List.length_take]; omega)
 rw [addM,offerD_length _ _ (by rw [h1]; exact hok),h1]
structure QueAddA where
 (b0 b1 b2 b3 b4 b5 b6 b7 b8 b9 b10 b11 b12 b13 b14 b15 b16 b17 b18 b19 b20 b21 b22 b23 b24 b25 b26 b27 b28:Bool)
 (s41 s42 s43 s44 s45 s46 s47 s48 s49 s50 s51 s52 s53 s54 s55 s56 s57 s58 s59 s60 s61 s62 s63 s40 s64 s65 s66 s67:Value)
structure QueAddB where
 (b0 b1 b2 b3 b4 b5 b6 b7 b8 b9 b10 b11 b12 b13:Bool)
 (s77 s78 s79 s80 s81 s82 s83 s84 s85 s86 s8 s9:Value)
structure QueAddC where
 (b0 b1 b2 b3 b4 b5 b6 b7 b8 b9 b10:Bool)
 (s26 s27 s28 s29 s30 s31 s32 s8 s9:Value)
set_option maxHeartbeats 4000000 in
set_option maxRecDepth 100000 in
theorem add_ok (q:QQ) (N bq:Nat) (F C v bv:Value) (D:List Value) (l:List UInt8) (bs:List QB) (w:World) (hv:OwnB 0 w v l) (hq:IsQ 0 w F C q D) (hbf:OwnBf 0 w bv bs) (hg:GoodQ q N) (hbq:q.base=(bq:Nat)) (hok:RingOk l.length bq N) (h1:1≤bs.length) (h2:bs.length≤q.free.length) (h4:bs.length≤N) (h3:∀ x∈bs,InB l.length x) :
 Calls Tryz.prog 47 #[.agg #[v],.agg #[.int .i64 q.base,.int .i64 q.size,F,.int .u16 (q.avail:Nat),.int .u16 (q.last:Nat),C],bv] w fun e w'=>∃ ra rc F2 C2 D2,e=.returned (.tuple #[.agg #[.slice ra l.length rc],.agg #[.int .i64 q.base,.int .i64 q.size,F2,.int .u16 (((q.avail+1) % 65536):Nat),.int .u16 (q.last:Nat),C2],.int .i64 (q.free.getD 0 0),.int .i64 0])∧OwnB 0 w' (.slice ra l.length rc) (addM l bq N q bs)∧IsQ 0 w' F2 C2 (addQ q bs) D2∧Below w.heap.size w w':=by
 obtain ⟨few1,few2,few3,few4,few5⟩:=hg.few
 obtain ⟨fa,fn,fc,ca,cn,cc,rfl,rfl,hfn,hcn,k1,k2,k3,k4⟩:=hq.shape
 have hzN:=hg.size
 obtain ⟨b,z,fr,av,la,ch⟩:=q
 simp only at *
 subst hbq
 subst hzN
 obtain ⟨va,vc,rfl,hv1,hv2⟩:=hv.shape
 obtain ⟨L,hL⟩:∃ L,L=l.length:=⟨_,rfl⟩
 rw [←hL] at hv hok h3 hv1 ⊢
 obtain ⟨ba,bc,rfl,hb1,hb2⟩:=hbf.shape
 obtain ⟨n,hn⟩:∃ n,n=bs.length:=⟨_,rfl⟩
 rw [←hn] at h1 h2 h4 hb1 hbf ⊢
 obtain ⟨t0,t1,t2,t3,t4⟩:=four_boxes w #[.slice va L vc] #[.int .i64 (bq:Nat),.int .i64 (N:Nat),.slice fa fn fc,.int .u16 (av:Nat),.int .u16 (la:Nat),.slice ca cn cc] #[.slice none 0 0] #[.int .i64 0,.int .i64 0,.slice none 0 0,.int .u16 0,.int .u16 0,.slice none 0 0] 24 29 24 29
 have HM:=Zh t0
 have HA:=Zh t2
 have HR:=Zh t3
 have HB:=Zh t4
 have HQ:=Zh (hq.below t4)
 have HO:=Zh (hv.below t4)
 have HBF:=Zh (hbf.below t4)
 have HG:=Zh hg
 have HOK:=Zh hok
 have HIN:=Zh h3
 have HN:=Zh hn
 have HLL:=Zh hL.symm
 have HL8:=Zh (show l.length≤140737488355328 by have:=hok.few; omega)
 have HBS:=Zh (show ((((w.alloc (.cells #[.slice va L vc] 24)).alloc (.cells #[.int .i64 (bq:Nat),.int .i64 (N:Nat),.slice fa fn fc,.int .u16 (av:Nat),.int .u16 (la:Nat),.slice ca cn cc] 29)).alloc (.cells #[.slice none 0 0] 24)).alloc (.cells #[.int .i64 0,.int .i64 0,.slice none 0 0,.int .u16 0,.int .u16 0,.slice none 0 0] 29)).heap.size=w.heap.size+4 by simp)
 have HF1:=Zh h1
 have HF2:=Zh h2
 have HF4:=Zh h4
 have HFN:=Zh hfn
 clear hq hg hv hbf hok h3 hfn hcn k1 k2 k3 k4 hv1 hv2 hb1 hb2 hL hn t0 t1 t2 t3 t4 few1 few2 few3 few4 few5 h1 h2 h4
 go_enter Tryz.func47,Tryz.ntmps47
 go_wp2_with fail
 refine (begin_any ⟨(bq:Nat),(N:Nat),fr,av,la,ch⟩ N _ _ _ D l _ HO.out HQ.out HG.out (by rw [HLL.out]; exact HOK.out.ok)).mono ?_
 rintro e w1 ⟨g,F2,C2,E,rfl,hw,hb⟩
 obtain ⟨f2,n2,k2,c2,m2,j2,rfl,rfl,q1,q2,q3,q4,q5,q6⟩:=hw.isq.shape
 clear q1 q2 q3 q4 q5 q6
 have HM1:=Zh (row_keep HM.out hb)
 have HA1:=Zh (row_keep HA.out hb)
 have HR1:=Zh (row_keep HR.out hb)
 have HB1:=Zh (HB.out.trans (hb.mono HB.out.size))
 have HBF1:=Zh (HBF.out.below hb)
 rw [HBS.out] at hw
 have HW1:=Zh hw
 have HS1:=Zh (show w.heap.size+4≤w1.heap.size by have:=hb.size; rw [HBS.out] at this; exact this)
 clear hw hb HM HA HR HB HQ HO HBF
 go_wp2_with fail
 refine (addFault_any _ g ⟨(bq:Nat),(N:Nat),fr,av,la,ch⟩ N _ _ _ _ _ l bs 0 _ HW1.out HBF1.out HG.out (by rw [HLL.out]; exact HOK.out.few) (by rw [←HN.out]; exact HF1.out) (by rw [←HN.out]; exact HF4.out) (by rw [HLL.out]; exact HIN.out) (.inl ⟨by rw [←HN.out]; exact HF2.out,rfl⟩)).mono ?_
 rintro e w2 ⟨rfl,hb⟩
 have HM2:=Zh (row_keep HM1.out hb)
 have HA2:=Zh (row_keep HA1.out hb)
 have HQ2:=Zh (row_keep HR1.out hb)
 have HB2:=Zh (HB1.out.trans (hb.mono HB1.out.size))
 have HBF2:=Zh (HBF1.out.below hb)
 have HW2:=Zh (HW1.out.below hb)
 have HS2:=Zh (Nat.le_trans HS1.out hb.size)
 clear hb HM1 HA1 HR1 HB1 HBF1 HW1 HS1
 obtain ⟨B,hBB⟩:∃ B,B=w.heap.size+4:=⟨_,rfl⟩
 rw [←hBB] at HW2 HS2
 have HBQ:=Zh hBB
 clear hBB
 go_wp2_with fail
 refine (chain_any B g ⟨(bq:Nat),(N:Nat),fr,av,la,ch⟩ N _ _ _ _ _ l bs _ HW2.out HBF2.out HG.out (by rw [←HN.out]; exact HF1.out) (by rw [←HN.out]; exact HF2.out) (by rw [HLL.out]; exact HIN.out) (by rw [HLL.out]; exact HOK.out.few) HS2.out).mono ?_
 rintro e w3 ⟨F3,C3,Dv,rfl,hw3,hd3,hs3⟩
 obtain ⟨f2,n2,k2,c2,m2,j2,rfl,rfl,q1,q2,q3,q4,q5,q6⟩:=hw3.isq.shape
 clear q1 q2 q3 q4 q5 q6
 obtain ⟨da,dc,rfl,q1,q2⟩:=hd3.shape
 clear q1 q2
 have hhd:0≤fr.getD 0 0∧fr.getD 0 0 < (N:Int):=by
  have h0:0 < fr.length:=by have h1:=HF1.out; have h2:n≤fr.length:=HF2.out; omega
  have h3:=HG.out.freeIn (d:=fr[0]) (List.getElem_mem h0)
  have h4:fr.getD 0 0=fr[0]:=by simp [List.getD_eq_getElem?_getD,h0]
  rw [h4]; exact h3
 obtain ⟨hd,hhd1⟩:=Int.eq_ofNat_of_zero_le hhd.1
 have HHD:=Zh hhd1
 have HHN:=Zh (show hd < N by omega)
 have hn16:N≤16:=HG.out.few.2.2.1
 have hNN:=HN.out
 have hac:(addC ⟨(bq:Nat),(N:Nat),fr,av,la,ch⟩ bs).head=(hd:Nat):=hhd1
 rw [hac]
 obtain ⟨rm,hrm⟩:∃ x,(addC ⟨(bq:Nat),(N:Nat),fr,av,la,ch⟩ bs).room=x:=⟨_,rfl⟩
 rw [hrm]
 have hds:(addC ⟨(bq:Nat),(N:Nat),fr,av,la,ch⟩ bs).ds=fr.take bs.length:=rfl
 rw [hds] at hd3 ⊢
 have hdl:(fr.take bs.length).length=n:=by rw [List.length_take,hNN]; have h2:n≤fr.length:=HF2.out; omega
 rw [hdl] at hd3 ⊢
 rw [hds,hdl] at hw3
 obtain ⟨fr8,hfr8⟩:∃ x,x=fr.drop bs.length:=⟨_,rfl⟩
 obtain ⟨ch8,hch8⟩:∃ x,x=ch++[addC ⟨(bq:Nat),(N:Nat),fr,av,la,ch⟩ bs]:=⟨_,rfl⟩
 obtain ⟨E8,hE8⟩:∃ x,x=E++[.slice da n dc]:=⟨_,rfl⟩
 have hw3:WorkB B w3 g ⟨(bq:Nat),(N:Nat),fr8,av,la,ch8⟩ (.slice f2 n2 k2) (.slice c2 m2 j2) (.slice va L vc) E8 l:=by rw [hfr8,hch8,hE8]; exact hw3
 have HFR8:=Zh hfr8
 have HCH8:=Zh hch8
 have HA3:=Zh (hs3.row _ _ _ _ HA2.out rfl)
 have HQ3:=Zh (hs3.row _ _ _ _ HQ2.out rfl)
 have HBF3:=Zh (show OwnBf 0 w3 _ bs from hs3.owns HBF2.out rfl)
 have HB3:=Zh (HB2.out.trans (hs3.below.mono (by rw [HBQ.out]; omega)))
 have HS3:=Zh (Nat.le_trans HS2.out hs3.size)
 have HW3:=Zh hw3
 have HD3:=Zh hd3
 clear hw3 hd3 hs3 hhd hhd1 hac hrm hds hNN hfr8 hch8 hE8
 obtain ⟨OB,hOB⟩:∃ o:Obj,o=(.cells #[.int .i64 (hd:Nat),.slice da n dc,.int .i64 rm] 97):=⟨_,rfl⟩
 have hal:Below w3.heap.size w3 (w3.alloc OB):=(Below.refl _ _).alloc (Nat.le_refl _) _
 have HX4:=Zh (show (w3.alloc OB).heap[w3.heap.size]? = some (.cells #[.int .i64 (hd:Nat),.slice da n dc,.int .i64 rm] 97 (0,0)) from by rw [hOB]; exact heap_alloc_new w3 _)
 have HA4:=Zh (row_keep HA3.out hal)
 have HQ4:=Zh (row_keep HQ3.out hal)
 have HBF4:=Zh (HBF3.out.below hal)
 have HB4:=Zh (HB3.out.trans (hal.mono HB3.out.size))
 have HS4:=Zh (Nat.le_trans HS3.out hal.size)
 have HW4:=Zh (HW3.out.below hal)
 have HD4:=Zh ((HD3.out.below hal).base (Nat.zero_le _))
 obtain ⟨⟨x0,x1,x2⟩,_⟩:=cells_three HX4.out
 rw [hOB] at x0 x1 x2
 have HOB:=Zh hOB
 clear hal hOB
 go_wp2_with fail
 rw [←HOB.out]
 refine (lay_any B g bq N _ _ _ _ _ _ _ l (hd:Nat) rm (fr.take bs.length) bs _ HW4.out HBF4.out HD4.out (by rw [HLL.out]; exact HOK.out) rfl rfl (by rw [hdl,HN.out]) (by rw [←HN.out]; exact HF1.out) (by rw [←HN.out]; have:=HF4.out; omega) (by rw [HLL.out]; exact HIN.out) (fun d hd=>HG.out.freeIn (List.mem_of_mem_take hd)) HS4.out).mono ?_
 rintro e w5 ⟨M2,rfl,hw5,hs5⟩
 have hav:av < 65536:=HG.out.av
 have hl5:=addM_length (q:=⟨(bq:Nat),(N:Nat),fr,av,la,ch⟩) (bs:=bs) (by rw [HLL.out]; exact HOK.out) HG.out (by rw [←HN.out]; exact HF2.out)
 obtain ⟨l3,hl3⟩:∃ x,addM l bq N ⟨(bq:Nat),(N:Nat),fr,av,la,ch⟩ bs=x:=⟨_,rfl⟩
 rw [hl3,HLL.out] at hl5
 have hll:=layK_length (l:=l) (bs:=bs) (by rw [HLL.out]; exact HOK.out) (fun d hd=>HG.out.freeIn (List.mem_of_mem_take hd)) bs.length (by rw [hdl,HN.out]; exact Nat.le_refl _)
 rw [HLL.out] at hll
 have hl3b:offerD (layK l bq (fr.take bs.length) bs bs.length) bq N av hd=l3:=by
  rw [←hl3,addM]
  simp only
  rw [HHD.out]
  rfl
 obtain ⟨l4,hl4⟩:∃ x,layK l bq (fr.take bs.length) bs bs.length=x:=⟨_,rfl⟩
 rw [hl4] at hw5 hll hl3b
 obtain ⟨ma,mc,rfl,q1,q2⟩:=hw5.mem.shape
 rw [hll] at hw5
 have hok4:RingOk l4.length bq N:=by rw [hll]; exact HOK.out
 have HA5:=Zh (hs5.row _ _ _ _ HA4.out rfl)
 have HQ5:=Zh (hs5.row _ _ _ _ HQ4.out rfl)
 have HX5:=Zh (hs5.row _ _ _ _ HX4.out rfl)
 have HB5:=Zh (HB4.out.trans (hs5.below.mono (by rw [HBQ.out]; omega)))
 have HW5:=Zh hw5
 have HOF:=Zh (show ∀ W,Below w5.heap.size w5 W→Calls Tryz.prog 80 #[.agg #[.slice ma L mc],.int .i64 (bq:Nat),.int .i64 (N:Nat),.int .u16 (av:Nat),.int .i64 (hd:Nat)] W fun e w'=>∃ ra rc,e=.returned (.tuple #[.agg #[.slice ra L rc],.int .i64 0])∧OwnB 0 w' (.slice ra L rc) l3∧Below W.heap.size W w' from fun W hb=>by
  have hm:=hw5.mem.below hb
  have hdl2:=HHN.out
  refine (offer_any _ l4 (bq:Nat) (N:Nat) av hav (hd:Nat) 0 l3 (ringF_ok hok4) ((offerX_ok hok4 av (hd:Nat)).trans (by rw [show (((hd:Nat):Int) % 65536).toNat=hd by omega]; exact hl3b)) (by have:=HOK.out.few; omega) W hm.arg).mono ?_
  rintro e w' ⟨ra,rc,rfl,hgv,hbw⟩
  rw [hll] at hgv ⊢
  exact ⟨ra,rc,rfl,hgv.ownB hm hbw,hbw⟩)
 have HL3:=Zh hl3
 obtain ⟨a1,ha1⟩:∃ a,a=(av+1) % 65536:=⟨_,rfl⟩
 have HA1:=Zh ha1
 have hw16:IntKind.u16.wrap (((av:Nat):Int)+1)=(a1:Nat):=by simp [IntKind.wrap,IntKind.bits,IntKind.signed]; omega
 clear hw5 hs5 x0 x1 x2 hav hl5 hl3 hll hl3b hl4 hok4 q1 q2 ha1 HA2 HQ2 HBF2 HW2 HM2 HB2 HA3 HQ3 HBF3 HB3 HW3 HD3 HA4 HQ4 HBF4 HB4 HW4 HD4 HX4 hdl hn16
 go_wp2_with fail
 refine wp_region_rec (X:=QueAddA) (by kernel_rfl) (by kernel_rfl) (fun x=>#[x.b0,x.b1,x.b2,x.b3,x.b4,x.b5,x.b6,x.b7,x.b8,x.b9,x.b10,x.b11,x.b12,x.b13,x.b14,x.b15,x.b16,x.b17,x.b18,x.b19,x.b20,x.b21,x.b22,x.b23,x.b24,x.b25,x.b26,x.b27,x.b28]) (fun x=>{ tmps:=List.toArray ((.agg #[.slice va L vc])::(.agg #[.int .i64 (bq:Nat),.int .i64 (N:Nat),.slice fa fn fc,.int .u16 (av:Nat),.int .u16 (la:Nat),.slice ca cn cc])::(.slice ba n bc)::(.pointer (some ⟨w.heap.size,0,none⟩))::(.pointer (some ⟨w.heap.size+1,0,none⟩))::undef::(.pointer (some ⟨w.heap.size+1+1,0,none⟩))::(.pointer (some ⟨w.heap.size+1+1+1,0,none⟩))::(.int .i64 0)::(.int .i64 0)::(.pointer (some ⟨g,0,none⟩))::(.int .i64 0)::(.pointer (some ⟨w3.heap.size,0,none⟩))::(.tuple #[.pointer (some ⟨g,0,none⟩),.int .i64 0])::(.agg #[.slice va L vc])::(.agg #[.int .i64 (bq:Nat),.int .i64 (N:Nat),.slice fa fn fc,.int .u16 (av:Nat),.int .u16 (la:Nat),.slice ca cn cc])::(.tuple #[.pointer (some ⟨g,0,none⟩),.int .i64 0])::(.pointer (some ⟨g,0,none⟩))::(.int .i64 0)::(.int .i64 0)::(.bool true)::(.pointer (some ⟨g,0,none⟩))::(.slice ba n bc)::(.int .i64 0)::(.int .i64 0)::(.bool false)::undef::undef::undef::undef::undef::undef::undef::(.pointer (some ⟨g,0,none⟩))::(.slice ba n bc)::(.agg #[.int .i64 (hd:Nat),.slice da n dc,.int .i64 rm])::(.pointer (some ⟨g,0,none⟩))::(.agg #[.int .i64 (hd:Nat),.slice da n dc,.int .i64 rm])::(.slice ba n bc)::(.tuple #[])::x.s40::x.s41::x.s42::x.s43::x.s44::x.s45::x.s46::x.s47::x.s48::x.s49::x.s50::x.s51::x.s52::x.s53::x.s54::x.s55::x.s56::x.s57::x.s58::x.s59::x.s60::x.s61::x.s62::x.s63::x.s64::x.s65::x.s66::x.s67::undef::undef::undef::undef::undef::undef::undef::undef::undef::undef::undef::undef::undef::undef::undef::undef::undef::undef::undef::[]),defers:=[] }) (fun x W=>(x.b0→x.s41=.pointer (some ⟨g,0,none⟩))∧(x.b1→x.s42=.pointer (some ⟨g,0,none⟩))∧(x.b2→x.s43=.pointer (some ⟨g,0,none⟩))∧(x.b3→x.s44=.pointer (some ⟨g,6,none⟩))∧(x.b4→x.s45=.agg #[.slice ma L mc])∧(x.b5→x.s46=.pointer (some ⟨g,0,none⟩))∧(x.b6→x.s47=.pointer (some ⟨g,0,none⟩))∧(x.b7→x.s48=.pointer (some ⟨g,0,none⟩))∧(x.b8→x.s49=.pointer (some ⟨g,0,none⟩))∧(x.b9→x.s50=.int .i64 (bq:Nat))∧(x.b10→x.s51=.pointer (some ⟨g,0,none⟩))∧(x.b11→x.s52=.pointer (some ⟨g,0,none⟩))∧(x.b12→x.s53=.pointer (some ⟨g,0,none⟩))∧(x.b13→x.s54=.pointer (some ⟨g,1,none⟩))∧(x.b14→x.s55=.int .i64 (N:Nat))∧(x.b15→x.s56=.pointer (some ⟨g,0,none⟩))∧(x.b16→x.s57=.pointer (some ⟨g,0,none⟩))∧(x.b17→x.s58=.pointer (some ⟨g,0,none⟩))∧(x.b18→x.s59=.pointer (some ⟨g,3,none⟩))∧(x.b19→x.s60=.int .u16 (av:Nat))∧(x.b20→x.s61=.pointer (some ⟨w3.heap.size,0,none⟩))∧(x.b21→x.s62=.int .i64 (hd:Nat))∧(x.b23→x.s40=x.s63)∧(x.b25→x.s65=.int .i64 0)∧(x.b26→x.s66=.pointer (some ⟨g,0,none⟩))∧(x.b27→x.s67=.pointer (some ⟨g,6,none⟩))∧(x.b23→x.b22)∧(x.b28→x.b4∧x.b9∧x.b14∧x.b19∧x.b21∧x.b22)∧(x.b24→x.b22)∧(x.b28=false→W.heap[g]? = some (.cells #[.int .i64 (bq:Nat),.int .i64 (N:Nat),.slice f2 n2 k2,.int .u16 (av:Nat),.int .u16 (la:Nat),.slice c2 m2 j2,.slice ma L mc] 133 (0,0)))∧(x.b28=false→W.heap[w3.heap.size]? = some (.cells #[.int .i64 (hd:Nat),.slice da n dc,.int .i64 rm] 97 (0,0)))∧(x.b28=false→Below w5.heap.size w5 W)∧(x.b22→∃ ra rc,x.s63=.tuple #[.agg #[.slice ra L rc],.int .i64 0]∧OwnB 0 W (.slice ra L rc) l3)∧(x.b24→∃ ra rc,x.s64=.agg #[.slice ra L rc]∧OwnB 0 W (.slice ra L rc) l3)∧(x.b28→∃ ra rc w6,W=w6.setCell ⟨g,6,none⟩ (.slice ra L rc)∧Below w5.heap.size w5 w6∧OwnB 0 w6 (.slice ra L rc) l3)) ⟨false,false,false,false,false,false,false,false,false,false,false,false,false,false,false,false,false,false,false,false,false,false,false,false,false,false,false,false,false,undef,undef,undef,undef,undef,undef,undef,undef,undef,undef,undef,undef,undef,undef,undef,undef,undef,undef,undef,undef,undef,undef,undef,undef,undef,undef,undef,undef⟩ rfl rfl ⟨Zf,Zf,Zf,Zf,Zf,Zf,Zf,Zf,Zf,Zf,Zf,Zf,Zf,Zf,Zf,Zf,Zf,Zf,Zf,Zf,Zf,Zf,Zf,Zf,Zf,Zf,Zf,Zf,Zf,(fun _=>HW5.out.row),(fun _=>HX5.out),(fun _=>(Below.refl _ _).drew),Zf,Zf,Zf⟩ (fun _=>rfl) ?hstep ?hdone
 case hstep =>
  rintro ⟨b0,b1,b2,b3,b4,b5,b6,b7,b8,b9,b10,b11,b12,b13,b14,b15,b16,b17,b18,b19,b20,b21,b22,b23,b24,b25,b26,b27,b28,s41,s42,s43,s44,s45,s46,s47,s48,s49,s50,s51,s52,s53,s54,s55,s56,s57,s58,s59,s60,s61,s62,s63,s40,s64,s65,s66,s67⟩ W hI i hi
  dsimp only at hI hi ⊢
  have HI:=Zh hI
  clear hI
  rw [Region.ready,List.mem_filter,List.mem_range] at hi
  obtain ⟨hlt,hp⟩:=hi
  have hi7:i=0∨i=1∨i=2∨i=3∨i=4∨i=5∨i=6∨i=7∨i=8∨i=9∨i=10∨i=11∨i=12∨i=13∨i=14∨i=15∨i=16∨i=17∨i=18∨i=19∨i=20∨i=21∨i=22∨i=23∨i=24∨i=25∨i=26∨i=27∨i=28:=by simp at hlt; omega
  clear hlt
  rcases hi7 with rfl|rfl|rfl|rfl|rfl|rfl|rfl|rfl|rfl|rfl|rfl|rfl|rfl|rfl|rfl|rfl|rfl|rfl|rfl|rfl|rfl|rfl|rfl|rfl|rfl|rfl|rfl|rfl|rfl
  all_goals simp [Region.binds] at hp
  · obtain rfl:b0=false:=by revert hp; cases b0 <;> simp
    clear hp; refine Zv 41 fun K' hK'=>?_
    go_simp
    exact hK'.out _ _ ⟨.mk ..,rfl,rfl,(Upd (fun _=>rfl)) HI.out⟩
  · obtain rfl:b1=false:=by revert hp; cases b1 <;> simp
    clear hp; refine Zv 42 fun K' hK'=>?_
    go_simp
    exact hK'.out _ _ ⟨.mk ..,rfl,rfl,Nxt (Upd (fun _=>rfl)) HI.out⟩
  · obtain ⟨rfl,e1⟩:b2=false∧b1=true:=by revert hp; cases b2 <;> cases b1 <;> simp
    clear hp
    obtain rfl:=(HI.out.2.1) e1
    refine Zv 43 fun K' hK'=>?_
    go_simp
    exact hK'.out _ _ ⟨.mk ..,rfl,rfl,Nxt (Nxt (Upd (fun _=>rfl))) HI.out⟩
  · obtain ⟨rfl,e2⟩:b3=false∧b2=true:=by revert hp; cases b3 <;> cases b2 <;> simp
    clear hp
    obtain rfl:=(HI.out.2.2.1) e2
    refine Zv 44 fun K' hK'=>?_
    go_simp
    exact hK'.out _ _ ⟨.mk ..,rfl,rfl,Nxt (Nxt (Nxt (Upd (fun _=>rfl)))) HI.out⟩
  · obtain ⟨rfl,e3⟩:b4=false∧b3=true:=by revert hp; cases b4 <;> cases b3 <;> simp
    clear hp
    obtain rfl:=(HI.out.2.2.2.1) e3
    refine Zv 45 fun K' hK'=>?_
    have gi28:=(Ze (Zg HI.out)).2.2.2.1
    have rW0:=(Zd (Ze (Zg HI.out))).2.1
    obtain rfl:b28=false:=Zz fun e=>(gi28 e).1
    obtain ⟨hc6,_⟩:=at_cell (rW0 rfl) 6 _ rfl
    go_simp
    obtain ⟨h0,h1,h2,h3,h4,h5,h6,h7,h8,h9,h10,h11,h12,h13,h14,h15,h16,h17,h18,h19,h20,h21,h23,h25,h26,h27,gi23,gi28,gi24,rW0,rC0,gB,gP,gX,gF⟩:=HI.out
    exact hK'.out _ _ ⟨.mk ..,rfl,rfl,h0,h1,h2,h3,(fun _=>rfl),h5,h6,h7,h8,h9,h10,h11,h12,h13,h14,h15,h16,h17,h18,h19,h20,h21,h23,h25,h26,h27,gi23,Zf,gi24,rW0,rC0,gB,gP,gX,Zf⟩
  · obtain rfl:b5=false:=by revert hp; cases b5 <;> simp
    clear hp; refine Zv 46 fun K' hK'=>?_
    go_simp
    exact hK'.out _ _ ⟨.mk ..,rfl,rfl,Nxt (Nx4 (Upd (fun _=>rfl))) HI.out⟩
  · obtain ⟨rfl,e5⟩:b6=false∧b5=true:=by revert hp; cases b6 <;> cases b5 <;> simp
    clear hp
    obtain rfl:=((Zd HI.out).2.1) e5
    refine Zv 47 fun K' hK'=>?_
    go_simp
    exact hK'.out _ _ ⟨.mk ..,rfl,rfl,Nxt (Nxt (Nx4 (Upd (fun _=>rfl)))) HI.out⟩
  · obtain ⟨rfl,e6⟩:b7=false∧b6=true:=by revert hp; cases b7 <;> cases b6 <;> simp
    clear hp
    obtain rfl:=((Zd HI.out).2.2.1) e6
    refine Zv 48 fun K' hK'=>?_
    go_simp
    exact hK'.out _ _ ⟨.mk ..,rfl,rfl,Nxt (Nxt (Nxt (Nx4 (Upd (fun _=>rfl))))) HI.out⟩
  · obtain ⟨rfl,e7⟩:b8=false∧b7=true:=by revert hp; cases b8 <;> cases b7 <;> simp
    clear hp
    obtain rfl:=((Zd HI.out).2.2.2.1) e7
    refine Zv 49 fun K' hK'=>?_
    go_simp
    exact hK'.out _ _ ⟨.mk ..,rfl,rfl,Nx4 (Nx4 (Upd (fun _=>rfl))) HI.out⟩
  · obtain ⟨rfl,e8⟩:b9=false∧b8=true:=by revert hp; cases b9 <;> cases b8 <;> simp
    clear hp
    obtain rfl:=((Ze HI.out).1) e8
    refine Zv 50 fun K' hK'=>?_
    have gi28:=(Ze (Zg HI.out)).2.2.2.1
    have rW0:=(Zd (Ze (Zg HI.out))).2.1
    obtain rfl:b28=false:=Zz fun e=>(gi28 e).2.1
    obtain ⟨hc0,_⟩:=at_cell (rW0 rfl) 0 _ rfl
    go_simp
    obtain ⟨h0,h1,h2,h3,h4,h5,h6,h7,h8,h9,h10,h11,h12,h13,h14,h15,h16,h17,h18,h19,h20,h21,h23,h25,h26,h27,gi23,gi28,gi24,rW0,rC0,gB,gP,gX,gF⟩:=HI.out
    exact hK'.out _ _ ⟨.mk ..,rfl,rfl,h0,h1,h2,h3,h4,h5,h6,h7,h8,(fun _=>rfl),h10,h11,h12,h13,h14,h15,h16,h17,h18,h19,h20,h21,h23,h25,h26,h27,gi23,Zf,gi24,rW0,rC0,gB,gP,gX,Zf⟩
  · obtain rfl:b10=false:=by revert hp; cases b10 <;> simp
    clear hp; refine Zv 51 fun K' hK'=>?_
    go_simp
    exact hK'.out _ _ ⟨.mk ..,rfl,rfl,Nxt (Nxt (Nx4 (Nx4 (Upd (fun _=>rfl))))) HI.out⟩
  · obtain ⟨rfl,e10⟩:b11=false∧b10=true:=by revert hp; cases b11 <;> cases b10 <;> simp
    clear hp
    obtain rfl:=((Ze HI.out).2.2.1) e10
    refine Zv 52 fun K' hK'=>?_
    go_simp
    exact hK'.out _ _ ⟨.mk ..,rfl,rfl,Nxt (Nxt (Nxt (Nx4 (Nx4 (Upd (fun _=>rfl)))))) HI.out⟩
  · obtain ⟨rfl,e11⟩:b12=false∧b11=true:=by revert hp; cases b12 <;> cases b11 <;> simp
    clear hp
    obtain rfl:=((Ze HI.out).2.2.2.1) e11
    refine Zv 53 fun K' hK'=>?_
    go_simp
    exact hK'.out _ _ ⟨.mk ..,rfl,rfl,Nx4 (Nx4 (Nx4 (Upd (fun _=>rfl)))) HI.out⟩
  · obtain ⟨rfl,e12⟩:b13=false∧b12=true:=by revert hp; cases b13 <;> cases b12 <;> simp
    clear hp
    obtain rfl:=((Zd (Ze HI.out)).1) e12
    refine Zv 54 fun K' hK'=>?_
    go_simp
    exact hK'.out _ _ ⟨.mk ..,rfl,rfl,Nxt (Nx4 (Nx4 (Nx4 (Upd (fun _=>rfl))))) HI.out⟩
  · obtain ⟨rfl,e13⟩:b14=false∧b13=true:=by revert hp; cases b14 <;> cases b13 <;> simp
    clear hp
    obtain rfl:=((Zd (Ze HI.out)).2.1) e13
    refine Zv 55 fun K' hK'=>?_
    have gi28:=(Ze (Zg HI.out)).2.2.2.1
    have rW0:=(Zd (Ze (Zg HI.out))).2.1
    obtain rfl:b28=false:=Zz fun e=>(gi28 e).2.2.1
    obtain ⟨hc1,_⟩:=at_cell (rW0 rfl) 1 _ rfl
    go_simp
    obtain ⟨h0,h1,h2,h3,h4,h5,h6,h7,h8,h9,h10,h11,h12,h13,h14,h15,h16,h17,h18,h19,h20,h21,h23,h25,h26,h27,gi23,gi28,gi24,rW0,rC0,gB,gP,gX,gF⟩:=HI.out
    exact hK'.out _ _ ⟨.mk ..,rfl,rfl,h0,h1,h2,h3,h4,h5,h6,h7,h8,h9,h10,h11,h12,h13,(fun _=>rfl),h15,h16,h17,h18,h19,h20,h21,h23,h25,h26,h27,gi23,Zf,gi24,rW0,rC0,gB,gP,gX,Zf⟩
  · obtain rfl:b15=false:=by revert hp; cases b15 <;> simp
    clear hp; refine Zv 56 fun K' hK'=>?_
    go_simp
    exact hK'.out _ _ ⟨.mk ..,rfl,rfl,Nxt (Nxt (Nxt (Nx4 (Nx4 (Nx4 (Upd (fun _=>rfl))))))) HI.out⟩
  · obtain ⟨rfl,e15⟩:b16=false∧b15=true:=by revert hp; cases b16 <;> cases b15 <;> simp
    clear hp
    obtain rfl:=((Zd (Ze HI.out)).2.2.2.1) e15
    refine Zv 57 fun K' hK'=>?_
    go_simp
    exact hK'.out _ _ ⟨.mk ..,rfl,rfl,Nx16 (Upd (fun _=>rfl)) HI.out⟩
  · obtain ⟨rfl,e16⟩:b17=false∧b16=true:=by revert hp; cases b17 <;> cases b16 <;> simp
    clear hp
    obtain rfl:=((Zg HI.out).1) e16
    refine Zv 58 fun K' hK'=>?_
    go_simp
    exact hK'.out _ _ ⟨.mk ..,rfl,rfl,Nxt (Nx16 (Upd (fun _=>rfl))) HI.out⟩
  · obtain ⟨rfl,e17⟩:b18=false∧b17=true:=by revert hp; cases b18 <;> cases b17 <;> simp
    clear hp
    obtain rfl:=((Zg HI.out).2.1) e17
    refine Zv 59 fun K' hK'=>?_
    go_simp
    exact hK'.out _ _ ⟨.mk ..,rfl,rfl,Nxt (Nxt (Nx16 (Upd (fun _=>rfl)))) HI.out⟩
  · obtain ⟨rfl,e18⟩:b19=false∧b18=true:=by revert hp; cases b19 <;> cases b18 <;> simp
    clear hp
    obtain rfl:=((Zg HI.out).2.2.1) e18
    refine Zv 60 fun K' hK'=>?_
    have gi28:=(Ze (Zg HI.out)).2.2.2.1
    have rW0:=(Zd (Ze (Zg HI.out))).2.1
    obtain rfl:b28=false:=Zz fun e=>(gi28 e).2.2.2.1
    obtain ⟨hc3,_⟩:=at_cell (rW0 rfl) 3 _ rfl
    go_simp
    obtain ⟨h0,h1,h2,h3,h4,h5,h6,h7,h8,h9,h10,h11,h12,h13,h14,h15,h16,h17,h18,h19,h20,h21,h23,h25,h26,h27,gi23,gi28,gi24,rW0,rC0,gB,gP,gX,gF⟩:=HI.out
    exact hK'.out _ _ ⟨.mk ..,rfl,rfl,h0,h1,h2,h3,h4,h5,h6,h7,h8,h9,h10,h11,h12,h13,h14,h15,h16,h17,h18,(fun _=>rfl),h20,h21,h23,h25,h26,h27,gi23,Zf,gi24,rW0,rC0,gB,gP,gX,Zf⟩
  · obtain rfl:b20=false:=by revert hp; cases b20 <;> simp
    clear hp; refine Zv 61 fun K' hK'=>?_
    go_simp
    exact hK'.out _ _ ⟨.mk ..,rfl,rfl,Nx4 (Nx16 (Upd (fun _=>rfl))) HI.out⟩
  · obtain ⟨rfl,e20⟩:b21=false∧b20=true:=by revert hp; cases b21 <;> cases b20 <;> simp
    clear hp
    obtain rfl:=((Zd (Zg HI.out)).1) e20
    refine Zv 62 fun K' hK'=>?_
    have gi28:=(Ze (Zg HI.out)).2.2.2.1
    have rC0:=(Zd (Ze (Zg HI.out))).2.2.1
    obtain rfl:b28=false:=Zz fun e=>(gi28 e).2.2.2.2.1
    obtain ⟨hc0,_⟩:=at_cell (rC0 rfl) 0 _ rfl
    go_simp
    obtain ⟨h0,h1,h2,h3,h4,h5,h6,h7,h8,h9,h10,h11,h12,h13,h14,h15,h16,h17,h18,h19,h20,h21,h23,h25,h26,h27,gi23,gi28,gi24,rW0,rC0,gB,gP,gX,gF⟩:=HI.out
    exact hK'.out _ _ ⟨.mk ..,rfl,rfl,h0,h1,h2,h3,h4,h5,h6,h7,h8,h9,h10,h11,h12,h13,h14,h15,h16,h17,h18,h19,h20,(fun _=>rfl),h23,h25,h26,h27,gi23,Zf,gi24,rW0,rC0,gB,gP,gX,Zf⟩
  · have hn22:b22=false:=by revert hp; cases b22 <;> simp
    have e4:b4=true:=by revert hp; cases b4 <;> simp
    have e9:b9=true:=by revert hp; cases b9 <;> simp
    have e14:b14=true:=by revert hp; cases b14 <;> simp
    have e19:b19=true:=by revert hp; cases b19 <;> simp
    have e21:b21=true:=by revert hp; cases b21 <;> simp
    clear hp
    obtain rfl:=((Zd HI.out).1) e4
    obtain rfl:=((Ze HI.out).2.1) e9
    obtain rfl:=((Zd (Ze HI.out)).2.2.1) e14
    obtain rfl:=((Zg HI.out).2.2.2.1) e19
    obtain rfl:=((Zd (Zg HI.out)).2.1) e21
    subst hn22
    refine Zv 63 fun K' hK'=>?_
    have gi23:=(Ze (Zg HI.out)).2.2.1
    have gi28:=(Ze (Zg HI.out)).2.2.2.1
    have gi24:=(Zd (Ze (Zg HI.out))).1
    have gB:=(Zd (Ze (Zg HI.out))).2.2.2.1
    obtain rfl:b23=false:=Zz fun e=>(gi23 e)
    obtain rfl:b28=false:=Zz fun e=>(gi28 e).2.2.2.2.2
    obtain rfl:b24=false:=Zz fun e=>(gi24 e)
    go_simp
    refine (HOF.out W (gB rfl)).mono ?_
    rintro e w2 ⟨ra,rc,rfl,hr,bn⟩
    obtain ⟨h0,h1,h2,h3,h4,h5,h6,h7,h8,h9,h10,h11,h12,h13,h14,h15,h16,h17,h18,h19,h20,h21,h23,h25,h26,h27,gi23,gi28,gi24,rW0,rC0,gB,gP,gX,gF⟩:=HI.out
    exact hK'.out _ _ ⟨.mk ..,rfl,rfl,h0,h1,h2,h3,h4,h5,h6,h7,h8,h9,h10,h11,h12,h13,h14,h15,h16,h17,h18,h19,h20,h21,(fun e=>by cases ((gi23 e))),h25,h26,h27,Zf,Zf,Zf,(fun e=>row_keep (rW0 e) bn),(fun e=>row_keep (rC0 e) bn),(fun e=>(gB e).trans (bn.mono (gB e).size)),(fun _=>⟨ra,rc,rfl,hr⟩),Zf,Zf⟩
  · obtain ⟨rfl,e22⟩:b23=false∧b22=true:=by revert hp; cases b23 <;> cases b22 <;> simp
    clear hp; refine Zv 40 fun K' hK'=>?_
    go_simp
    exact hK'.out _ _ ⟨.mk ..,rfl,rfl,Nxt (Nxt (Nx4 (Nx4 (Nx16 (Upd (fun _=>e22)))))) (Nxt (Nxt (Nx4 (Nx16 (Upd (fun _=>rfl))))) HI.out)⟩
  · obtain ⟨rfl,e23⟩:b24=false∧b23=true:=by revert hp; cases b24 <;> cases b23 <;> simp
    clear hp
    obtain rfl:=((Zd (Zg HI.out)).2.2.1) e23
    refine Zv 64 fun K' hK'=>?_
    have gi23:=(Ze (Zg HI.out)).2.2.1
    have gP:=(Zg (Zg HI.out)).1
    obtain ⟨ra,rc,rfl,hp⟩:=gP ((gi23 e23))
    go_simp
    obtain ⟨h0,h1,h2,h3,h4,h5,h6,h7,h8,h9,h10,h11,h12,h13,h14,h15,h16,h17,h18,h19,h20,h21,h23,h25,h26,h27,gi23,gi28,gi24,rW0,rC0,gB,gP,gX,gF⟩:=HI.out
    exact hK'.out _ _ ⟨.mk ..,rfl,rfl,h0,h1,h2,h3,h4,h5,h6,h7,h8,h9,h10,h11,h12,h13,h14,h15,h16,h17,h18,h19,h20,h21,h23,h25,h26,h27,gi23,gi28,(fun _=>(gi23 e23)),rW0,rC0,gB,(fun _=>⟨ra,rc,rfl,hp⟩),(fun _=>⟨ra,rc,rfl,hp⟩),gF⟩
  · obtain ⟨rfl,e23⟩:b25=false∧b23=true:=by revert hp; cases b25 <;> cases b23 <;> simp
    clear hp
    obtain rfl:=((Zd (Zg HI.out)).2.2.1) e23
    refine Zv 65 fun K' hK'=>?_
    have gi23:=(Ze (Zg HI.out)).2.2.1
    have gP:=(Zg (Zg HI.out)).1
    obtain ⟨ra,rc,rfl,hp⟩:=gP ((gi23 e23))
    go_simp
    exact hK'.out _ _ ⟨.mk ..,rfl,rfl,Nx16 (Nx16 (Upd (fun _=>⟨ra,rc,rfl,hp⟩))) (Nxt (Nxt (Nxt (Nx4 (Nx16 (Upd (fun _=>rfl)))))) HI.out)⟩
  · obtain ⟨rfl,e0⟩:b26=false∧b0=true:=by revert hp; cases b26 <;> cases b0 <;> simp
    clear hp
    obtain rfl:=(HI.out.1) e0
    refine Zv 66 fun K' hK'=>?_
    go_simp
    exact hK'.out _ _ ⟨.mk ..,rfl,rfl,Nx4 (Nx4 (Nx16 (Upd (fun _=>rfl)))) HI.out⟩
  · obtain ⟨rfl,e26⟩:b27=false∧b26=true:=by revert hp; cases b27 <;> cases b26 <;> simp
    clear hp
    obtain rfl:=((Ze (Zg HI.out)).1) e26
    refine Zv 67 fun K' hK'=>?_
    go_simp
    exact hK'.out _ _ ⟨.mk ..,rfl,rfl,Nxt (Nx4 (Nx4 (Nx16 (Upd (fun _=>rfl))))) HI.out⟩
  · have hn28:b28=false:=by revert hp; cases b28 <;> simp
    have e24:b24=true:=by revert hp; cases b24 <;> simp
    have e27:b27=true:=by revert hp; cases b27 <;> simp
    have e22:b22=true:=by revert hp; cases b22 <;> simp
    have e4:b4=true:=by revert hp; cases b4 <;> simp
    have e9:b9=true:=by revert hp; cases b9 <;> simp
    have e14:b14=true:=by revert hp; cases b14 <;> simp
    have e19:b19=true:=by revert hp; cases b19 <;> simp
    have e21:b21=true:=by revert hp; cases b21 <;> simp
    clear hp
    obtain rfl:=((Ze (Zg HI.out)).2.1) e27
    subst hn28
    refine inv_op (o:=⟨none,_,_,_,_,_⟩) rfl (fun K' hK'=>?_)
    have rW0:=(Zd (Ze (Zg HI.out))).2.1
    have gB:=(Zd (Ze (Zg HI.out))).2.2.2.1
    have gX:=(Zg (Zg HI.out)).2.1
    obtain ⟨ra,rc,rfl,hx⟩:=gX e24
    have hrow:=rW0 rfl
    have hgb:=gB rfl
    obtain ⟨hc,hz⟩:=at_cell hrow 6 _ rfl
    have hlx:=(Array.getElem?_eq_some_iff.1 hrow).1
    go_simp
    obtain ⟨h0,h1,h2,h3,h4,h5,h6,h7,h8,h9,h10,h11,h12,h13,h14,h15,h16,h17,h18,h19,h20,h21,h23,h25,h26,h27,gi23,gi28,gi24,rW0,rC0,gB,gP,gX,gF⟩:=HI.out
    exact hK'.out _ _ ⟨.mk ..,rfl,rfl,h0,h1,h2,h3,h4,h5,h6,h7,h8,h9,h10,h11,h12,h13,h14,h15,h16,h17,h18,h19,h20,h21,h23,h25,h26,h27,gi23,(fun _=>⟨e4,e9,e14,e19,e21,e22⟩),gi24,Zf,Zf,Zf,(fun e=>by obtain ⟨y0,y1,h1,h2⟩:=gP e; exact ⟨y0,y1,h1,h2.stay hrow (by decide) 6 _⟩),(fun _=>⟨ra,rc,rfl,hx.stay hrow (by decide) 6 _⟩),(fun _=>⟨ra,rc,W,rfl,hgb,hx⟩)⟩
 case hdone =>
  rintro ⟨b0,b1,b2,b3,b4,b5,b6,b7,b8,b9,b10,b11,b12,b13,b14,b15,b16,b17,b18,b19,b20,b21,b22,b23,b24,b25,b26,b27,b28,s41,s42,s43,s44,s45,s46,s47,s48,s49,s50,s51,s52,s53,s54,s55,s56,s57,s58,s59,s60,s61,s62,s63,s40,s64,s65,s66,s67⟩ W hI hall
  dsimp only at hI hall ⊢
  have HI:=Zh hI
  clear hI
  obtain rfl:b0=true:=hall 0 (by decide)
  obtain rfl:b1=true:=hall 1 (by decide)
  obtain rfl:b2=true:=hall 2 (by decide)
  obtain rfl:b3=true:=hall 3 (by decide)
  obtain rfl:b4=true:=hall 4 (by decide)
  obtain rfl:b5=true:=hall 5 (by decide)
  obtain rfl:b6=true:=hall 6 (by decide)
  obtain rfl:b7=true:=hall 7 (by decide)
  obtain rfl:b8=true:=hall 8 (by decide)
  obtain rfl:b9=true:=hall 9 (by decide)
  obtain rfl:b10=true:=hall 10 (by decide)
  obtain rfl:b11=true:=hall 11 (by decide)
  obtain rfl:b12=true:=hall 12 (by decide)
  obtain rfl:b13=true:=hall 13 (by decide)
  obtain rfl:b14=true:=hall 14 (by decide)
  obtain rfl:b15=true:=hall 15 (by decide)
  obtain rfl:b16=true:=hall 16 (by decide)
  obtain rfl:b17=true:=hall 17 (by decide)
  obtain rfl:b18=true:=hall 18 (by decide)
  obtain rfl:b19=true:=hall 19 (by decide)
  obtain rfl:b20=true:=hall 20 (by decide)
  obtain rfl:b21=true:=hall 21 (by decide)
  obtain rfl:b22=true:=hall 22 (by decide)
  obtain rfl:b23=true:=hall 23 (by decide)
  obtain rfl:b24=true:=hall 24 (by decide)
  obtain rfl:b25=true:=hall 25 (by decide)
  obtain rfl:b26=true:=hall 26 (by decide)
  obtain rfl:b27=true:=hall 27 (by decide)
  obtain rfl:b28=true:=hall 28 (by decide)
  have gF:=(Zg (Zg HI.out)).2.2
  clear HI hall
  obtain ⟨ra,rc,w6,rfl,hb6,ho6⟩:=gF rfl
  have hwr:=row_keep HW5.out.row hb6
  have HW7:=Zh ((HW5.out.below hb6).setM ho6)
  have HX7:=Zh (one_other (row_keep HX5.out hb6) ⟨g,6,none⟩ (.slice ra L rc) (blocks_ne (row_keep HX5.out hb6) hwr (fun e=>tChW e.symm)))
  have HA7:=Zh (one_other (row_keep HA5.out hb6) ⟨g,6,none⟩ (.slice ra L rc) (blocks_ne (row_keep HA5.out hb6) hwr (by decide)))
  have HQ7:=Zh (one_other (row_keep HQ5.out hb6) ⟨g,6,none⟩ (.slice ra L rc) (blocks_ne (row_keep HQ5.out hb6) hwr (by decide)))
  have HB7:=Zh ((HB5.out.trans (hb6.mono HB5.out.size)).setCell (p:=⟨g,6,none⟩) (by have h1:=HW5.out.lo; rw [HBQ.out] at h1; show w.heap.size≤g; omega) (.slice ra L rc))
  obtain ⟨w7,hw7⟩:∃ x,x=w6.setCell ⟨g,6,none⟩ (.slice ra L rc):=⟨_,rfl⟩
  rw [←hw7] at HW7 HX7 HA7 HQ7 HB7 ⊢
  clear gF hb6 ho6 hwr hw7 HW5 HX5 HA5 HQ5 HB5 HOF
  obtain ⟨⟨l0,l1,l2,l3',l4,l5,l6⟩,z0,z1,z2,z3,z4,z5,z6⟩:=cells_seven HW7.out.row
  have hlg:=(Array.getElem?_eq_some_iff.1 HW7.out.row).1
  have HX8:=Zh (one_other HX7.out ⟨g,3,none⟩ (.int .u16 (a1:Nat)) (blocks_ne HX7.out HW7.out.row (fun e=>tChW e.symm)))
  have HA8:=Zh (one_other HA7.out ⟨g,3,none⟩ (.int .u16 (a1:Nat)) (blocks_ne HA7.out HW7.out.row (by decide)))
  have HQ8:=Zh (one_other HQ7.out ⟨g,3,none⟩ (.int .u16 (a1:Nat)) (blocks_ne HQ7.out HW7.out.row (by decide)))
  have HB8:=Zh (HB7.out.setCell (p:=⟨g,3,none⟩) (by have h1:=HW7.out.lo; rw [HBQ.out] at h1; show w.heap.size≤g; omega) (.int .u16 (a1:Nat)))
  have HW8:=Zh (HW7.out.setA a1)
  go_wp2_with fail
  obtain ⟨w8,hw8⟩:∃ x,x=w7.setCell ⟨g,3,none⟩ (.int .u16 (a1:Nat)):=⟨_,rfl⟩
  rw [←hw8] at HW8 HX8 HA8 HQ8 HB8 ⊢
  clear hw8 l0 l1 l2 l3' l4 l5 l6 z0 z1 z2 z3 z4 z5 z6 hlg HW7 HX7 HA7 HQ7 HB7 hw16
  refine wp_region_rec (X:=QueAddB) (by kernel_rfl) (by kernel_rfl) (fun x=>#[x.b0,x.b1,x.b2,x.b3,x.b4,x.b5,x.b6,x.b7,x.b8,x.b9,x.b10,x.b11,x.b12,x.b13]) (fun x=>{ tmps:=List.toArray ((.agg #[.slice va L vc])::(.agg #[.int .i64 (bq:Nat),.int .i64 (N:Nat),.slice fa fn fc,.int .u16 (av:Nat),.int .u16 (la:Nat),.slice ca cn cc])::(.slice ba n bc)::(.pointer (some ⟨w.heap.size,0,none⟩))::(.pointer (some ⟨w.heap.size+1,0,none⟩))::undef::(.pointer (some ⟨w.heap.size+1+1,0,none⟩))::(.pointer (some ⟨w.heap.size+1+1+1,0,none⟩))::x.s8::x.s9::(.pointer (some ⟨g,0,none⟩))::(.int .i64 0)::(.pointer (some ⟨w3.heap.size,0,none⟩))::(.tuple #[.pointer (some ⟨g,0,none⟩),.int .i64 0])::(.agg #[.slice va L vc])::(.agg #[.int .i64 (bq:Nat),.int .i64 (N:Nat),.slice fa fn fc,.int .u16 (av:Nat),.int .u16 (la:Nat),.slice ca cn cc])::(.tuple #[.pointer (some ⟨g,0,none⟩),.int .i64 0])::(.pointer (some ⟨g,0,none⟩))::(.int .i64 0)::(.int .i64 0)::(.bool true)::(.pointer (some ⟨g,0,none⟩))::(.slice ba n bc)::(.int .i64 0)::(.int .i64 0)::(.bool false)::undef::undef::undef::undef::undef::undef::undef::(.pointer (some ⟨g,0,none⟩))::(.slice ba n bc)::(.agg #[.int .i64 (hd:Nat),.slice da n dc,.int .i64 rm])::(.pointer (some ⟨g,0,none⟩))::(.agg #[.int .i64 (hd:Nat),.slice da n dc,.int .i64 rm])::(.slice ba n bc)::(.tuple #[])::s40::s41::s42::s43::s44::s45::s46::s47::s48::s49::s50::s51::s52::s53::s54::s55::s56::s57::s58::s59::s60::s61::s62::s63::s64::s65::s66::s67::(.pointer (some ⟨g,0,none⟩))::(.pointer (some ⟨g,0,none⟩))::(.pointer (some ⟨g,0,none⟩))::(.pointer (some ⟨g,3,none⟩))::(.int .u16 (av:Nat))::(.int .u16 (a1:Nat))::(.pointer (some ⟨g,0,none⟩))::(.pointer (some ⟨g,0,none⟩))::(.pointer (some ⟨g,3,none⟩))::x.s77::x.s78::x.s79::x.s80::x.s81::x.s82::x.s83::x.s84::x.s85::x.s86::[]),defers:=[] }) (fun x W=>(x.b0→x.s77=.pointer (some ⟨g,0,none⟩))∧(x.b1→x.s78=.pointer (some ⟨g,0,none⟩))∧(x.b2→x.s79=.pointer (some ⟨g,6,none⟩))∧(x.b3→x.s80=.agg #[.slice ra L rc])∧(x.b4→x.s81=.pointer (some ⟨g,0,none⟩))∧(x.b5→x.s82=.pointer (some ⟨g,0,none⟩))∧(x.b6→x.s83=.pointer (some ⟨g,0,none⟩))∧(x.b7→x.s84=.agg #[.int .i64 (bq:Nat),.int .i64 (N:Nat),.slice f2 n2 k2,.int .u16 (a1:Nat),.int .u16 (la:Nat),.slice c2 m2 j2])∧(x.b8→x.s85=.pointer (some ⟨w3.heap.size,0,none⟩))∧(x.b9→x.s86=.int .i64 (hd:Nat))∧(x.b12→x.s8=.int .i64 (hd:Nat))∧(x.b13→x.s9=.int .i64 0)∧(x.b11→x.b10)∧(W.heap[g]? = some (.cells #[.int .i64 (bq:Nat),.int .i64 (N:Nat),.slice f2 n2 k2,.int .u16 (a1:Nat),.int .u16 (la:Nat),.slice c2 m2 j2,.slice ra L rc] 133 (0,0)))∧(W.heap[w3.heap.size]? = some (.cells #[.int .i64 (hd:Nat),.slice da n dc,.int .i64 rm] 97 (0,0)))∧(x.b10=false→W.heap[w.heap.size+1+1]? = some (.cells #[.slice none 0 0] 24 (0,0)))∧(x.b10→W.heap[w.heap.size+1+1]? = some (.cells #[.slice ra L rc] 24 (0,0)))∧(x.b11=false→W.heap[w.heap.size+1+1+1]? = some (.cells #[.int .i64 0,.int .i64 0,.slice none 0 0,.int .u16 0,.int .u16 0,.slice none 0 0] 29 (0,0)))∧(x.b11→W.heap[w.heap.size+1+1+1]? = some (.cells #[.int .i64 (bq:Nat),.int .i64 (N:Nat),.slice f2 n2 k2,.int .u16 (a1:Nat),.int .u16 (la:Nat),.slice c2 m2 j2] 29 (0,0)))∧(Below w.heap.size w W)∧(WorkB B W g ⟨(bq:Nat),(N:Nat),fr8,a1,la,ch8⟩ (.slice f2 n2 k2) (.slice c2 m2 j2) (.slice ra L rc) E8 l3)) ⟨false,false,false,false,false,false,false,false,false,false,false,false,false,false,undef,undef,undef,undef,undef,undef,undef,undef,undef,undef,.int .i64 0,.int .i64 0⟩ rfl rfl ⟨Zf,Zf,Zf,Zf,Zf,Zf,Zf,Zf,Zf,Zf,Zf,Zf,Zf,HW8.out.row,HX8.out,(fun _=>HA8.out),Zf,(fun _=>HQ8.out),Zf,HB8.out.drew,HW8.out.drew⟩ (fun _=>rfl) ?hstep ?hdone
  case hstep =>
   rintro ⟨b0,b1,b2,b3,b4,b5,b6,b7,b8,b9,b10,b11,b12,b13,s77,s78,s79,s80,s81,s82,s83,s84,s85,s86,s8,s9⟩ W hI i hi
   dsimp only at hI hi ⊢
   have HI:=Zh hI
   clear hI
   rw [Region.ready,List.mem_filter,List.mem_range] at hi
   obtain ⟨hlt,hp⟩:=hi
   have hi7:i=0∨i=1∨i=2∨i=3∨i=4∨i=5∨i=6∨i=7∨i=8∨i=9∨i=10∨i=11∨i=12∨i=13:=by simp at hlt; omega
   clear hlt
   rcases hi7 with rfl|rfl|rfl|rfl|rfl|rfl|rfl|rfl|rfl|rfl|rfl|rfl|rfl|rfl
   all_goals simp [Region.binds] at hp
   · obtain rfl:b0=false:=by revert hp; cases b0 <;> simp
     clear hp; refine Zv 77 fun K' hK'=>?_
     go_simp
     exact hK'.out _ _ ⟨.mk ..,rfl,rfl,(Upd (fun _=>rfl)) HI.out⟩
   · obtain ⟨rfl,e0⟩:b1=false∧b0=true:=by revert hp; cases b1 <;> cases b0 <;> simp
     clear hp
     obtain rfl:=(HI.out.1) e0
     refine Zv 78 fun K' hK'=>?_
     go_simp
     exact hK'.out _ _ ⟨.mk ..,rfl,rfl,Nxt (Upd (fun _=>rfl)) HI.out⟩
   · obtain ⟨rfl,e1⟩:b2=false∧b1=true:=by revert hp; cases b2 <;> cases b1 <;> simp
     clear hp
     obtain rfl:=(HI.out.2.1) e1
     refine Zv 79 fun K' hK'=>?_
     go_simp
     exact hK'.out _ _ ⟨.mk ..,rfl,rfl,Nxt (Nxt (Upd (fun _=>rfl))) HI.out⟩
   · obtain ⟨rfl,e2⟩:b3=false∧b2=true:=by revert hp; cases b3 <;> cases b2 <;> simp
     clear hp
     obtain rfl:=(HI.out.2.2.1) e2
     refine Zv 80 fun K' hK'=>?_
     have rW:=(Zd (Ze HI.out)).2.1
     obtain ⟨hc6,_⟩:=at_cell rW 6 _ rfl
     go_simp
     exact hK'.out _ _ ⟨.mk ..,rfl,rfl,Nxt (Nxt (Nxt (Upd (fun _=>rfl)))) HI.out⟩
   · obtain rfl:b4=false:=by revert hp; cases b4 <;> simp
     clear hp; refine Zv 81 fun K' hK'=>?_
     go_simp
     exact hK'.out _ _ ⟨.mk ..,rfl,rfl,Nx4 (Upd (fun _=>rfl)) HI.out⟩
   · obtain ⟨rfl,e4⟩:b5=false∧b4=true:=by revert hp; cases b5 <;> cases b4 <;> simp
     clear hp
     obtain rfl:=((Zd HI.out).1) e4
     refine Zv 82 fun K' hK'=>?_
     go_simp
     exact hK'.out _ _ ⟨.mk ..,rfl,rfl,Nxt (Nx4 (Upd (fun _=>rfl))) HI.out⟩
   · obtain ⟨rfl,e5⟩:b6=false∧b5=true:=by revert hp; cases b6 <;> cases b5 <;> simp
     clear hp
     obtain rfl:=((Zd HI.out).2.1) e5
     refine Zv 83 fun K' hK'=>?_
     go_simp
     exact hK'.out _ _ ⟨.mk ..,rfl,rfl,Nxt (Nxt (Nx4 (Upd (fun _=>rfl)))) HI.out⟩
   · obtain ⟨rfl,e6⟩:b7=false∧b6=true:=by revert hp; cases b7 <;> cases b6 <;> simp
     clear hp
     obtain rfl:=((Zd HI.out).2.2.1) e6
     refine Zv 84 fun K' hK'=>?_
     have rW:=(Zd (Ze HI.out)).2.1
     obtain ⟨hc0,_⟩:=at_cell rW 0 _ rfl
     obtain ⟨hc1,_⟩:=at_cell rW 1 _ rfl
     obtain ⟨hc2,_⟩:=at_cell rW 2 _ rfl
     obtain ⟨hc3,_⟩:=at_cell rW 3 _ rfl
     obtain ⟨hc4,_⟩:=at_cell rW 4 _ rfl
     obtain ⟨hc5,_⟩:=at_cell rW 5 _ rfl
     go_simp
     exact hK'.out _ _ ⟨.mk ..,rfl,rfl,Nxt (Nxt (Nxt (Nx4 (Upd (fun _=>rfl))))) HI.out⟩
   · obtain rfl:b8=false:=by revert hp; cases b8 <;> simp
     clear hp; refine Zv 85 fun K' hK'=>?_
     go_simp
     exact hK'.out _ _ ⟨.mk ..,rfl,rfl,Nx4 (Nx4 (Upd (fun _=>rfl))) HI.out⟩
   · obtain ⟨rfl,e8⟩:b9=false∧b8=true:=by revert hp; cases b9 <;> cases b8 <;> simp
     clear hp
     obtain rfl:=((Ze HI.out).1) e8
     refine Zv 86 fun K' hK'=>?_
     have rC:=(Zd (Ze HI.out)).2.2.1
     obtain ⟨hc0,_⟩:=at_cell rC 0 _ rfl
     go_simp
     exact hK'.out _ _ ⟨.mk ..,rfl,rfl,Nxt (Nx4 (Nx4 (Upd (fun _=>rfl)))) HI.out⟩
   · obtain ⟨rfl,e3⟩:b10=false∧b3=true:=by revert hp; cases b10 <;> cases b3 <;> simp
     clear hp
     obtain rfl:=(HI.out.2.2.2.1) e3
     refine inv_op (o:=⟨none,_,_,_,_,_⟩) rfl (fun K' hK'=>?_)
     have gi11:=(Zd (Ze HI.out)).1
     have rA0:=(Zd (Ze HI.out)).2.2.2.1
     obtain rfl:b11=false:=Zz fun e=>(gi11 e)
     obtain ⟨hc0,hz0⟩:=at_cell (rA0 rfl) 0 _ rfl
     have hlt:=(Array.getElem?_eq_some_iff.1 (rA0 rfl)).1
     go_simp
     obtain ⟨h0,h1,h2,h3,h4,h5,h6,h7,h8,h9,h12,h13,gi11,rW,rC,rA0,rA1,rQ0,rQ1,gB,gW⟩:=HI.out
     exact hK'.out _ _ ⟨.mk ..,rfl,rfl,h0,h1,h2,h3,h4,h5,h6,h7,h8,h9,h12,h13,Zf,(Zp1 rW (Zn rW (rA0 rfl))),(Zp1 rC (Zn rC (rA0 rfl))),Zf,(fun _=>(Zr (rA0 rfl))),(fun e=>(Zp1 (rQ0 e) (Zn (rQ0 e) (rA0 rfl)))),Zf,(Zu1 gB (by show w.heap.size≤w.heap.size+1+1; omega)),(gW.stay (rA0 rfl) (by decide) (by decide) (by decide) (by decide) _ _)⟩
   · obtain ⟨rfl,e7,e10⟩:b11=false∧b7=true∧b10=true:=by revert hp; cases b11 <;> cases b7 <;> cases b10 <;> simp
     clear hp
     obtain rfl:=((Zd HI.out).2.2.2.1) e7
     refine inv_op (o:=⟨none,_,_,_,_,_⟩) rfl (fun K' hK'=>?_)
     have rQ0:=(Zg HI.out).2.1
     obtain ⟨hc0,hz0⟩:=at_cell (rQ0 rfl) 0 _ rfl
     obtain ⟨hc1,hz1⟩:=at_cell (rQ0 rfl) 1 _ rfl
     obtain ⟨hc2,hz2⟩:=at_cell (rQ0 rfl) 2 _ rfl
     obtain ⟨hc3,hz3⟩:=at_cell (rQ0 rfl) 3 _ rfl
     obtain ⟨hc4,hz4⟩:=at_cell (rQ0 rfl) 4 _ rfl
     obtain ⟨hc5,hz5⟩:=at_cell (rQ0 rfl) 5 _ rfl
     have hlt:=(Array.getElem?_eq_some_iff.1 (rQ0 rfl)).1
     go_simp
     obtain ⟨h0,h1,h2,h3,h4,h5,h6,h7,h8,h9,h12,h13,gi11,rW,rC,rA0,rA1,rQ0,rQ1,gB,gW⟩:=HI.out
     exact hK'.out _ _ ⟨.mk ..,rfl,rfl,h0,h1,h2,h3,h4,h5,h6,h7,h8,h9,h12,h13,(fun _=>e10),(Zp6 rW (Zn rW (rQ0 rfl))),(Zp6 rC (Zn rC (rQ0 rfl))),(fun e=>(Zp6 (rA0 e) (Zn (rA0 e) (rQ0 rfl)))),(fun e=>(Zp6 (rA1 e) (Zn (rA1 e) (rQ0 rfl)))),Zf,(fun _=>(Zr (Zr (Zr (Zr (Zr (Zr (rQ0 rfl)))))))),(Zu6 gB (by show w.heap.size≤w.heap.size+1+1+1; omega)),((((((gW.stay (rQ0 rfl) (by decide) (by decide) (by decide) (by decide) _ _).stay (Zr (rQ0 rfl)) (by decide) (by decide) (by decide) (by decide) _ _).stay (Zr (Zr (rQ0 rfl))) (by decide) (by decide) (by decide) (by decide) _ _).stay (Zr (Zr (Zr (rQ0 rfl)))) (by decide) (by decide) (by decide) (by decide) _ _).stay (Zr (Zr (Zr (Zr (rQ0 rfl))))) (by decide) (by decide) (by decide) (by decide) _ _).stay (Zr (Zr (Zr (Zr (Zr (rQ0 rfl)))))) (by decide) (by decide) (by decide) (by decide) _ _)⟩
   · obtain ⟨rfl,e9,e11⟩:b12=false∧b9=true∧b11=true:=by revert hp; cases b12 <;> cases b9 <;> cases b11 <;> simp
     clear hp
     obtain rfl:=((Ze HI.out).2.1) e9
     refine Zv 8 fun K' hK'=>?_
     go_simp
     exact hK'.out _ _ ⟨.mk ..,rfl,rfl,Nxt (Nxt (Nx4 (Nx4 (Upd (fun _=>rfl))))) HI.out⟩
   · obtain ⟨rfl,e12⟩:b13=false∧b12=true:=by revert hp; cases b13 <;> cases b12 <;> simp
     clear hp; refine Zv 9 fun K' hK'=>?_
     go_simp
     exact hK'.out _ _ ⟨.mk ..,rfl,rfl,Nxt (Nxt (Nxt (Nx4 (Nx4 (Upd (fun _=>rfl)))))) HI.out⟩
  case hdone =>
   rintro ⟨b0,b1,b2,b3,b4,b5,b6,b7,b8,b9,b10,b11,b12,b13,s77,s78,s79,s80,s81,s82,s83,s84,s85,s86,s8,s9⟩ W hI hall
   dsimp only at hI hall ⊢
   have HI:=Zh hI
   clear hI
   obtain rfl:b0=true:=hall 0 (by decide)
   obtain rfl:b1=true:=hall 1 (by decide)
   obtain rfl:b2=true:=hall 2 (by decide)
   obtain rfl:b3=true:=hall 3 (by decide)
   obtain rfl:b4=true:=hall 4 (by decide)
   obtain rfl:b5=true:=hall 5 (by decide)
   obtain rfl:b6=true:=hall 6 (by decide)
   obtain rfl:b7=true:=hall 7 (by decide)
   obtain rfl:b8=true:=hall 8 (by decide)
   obtain rfl:b9=true:=hall 9 (by decide)
   obtain rfl:b10=true:=hall 10 (by decide)
   obtain rfl:b11=true:=hall 11 (by decide)
   obtain rfl:b12=true:=hall 12 (by decide)
   obtain rfl:b13=true:=hall 13 (by decide)
   obtain rfl:=((Ze HI.out).2.2.1) rfl
   obtain rfl:=((Ze HI.out).2.2.2.1) rfl
   have rA1:=(Zg HI.out).1
   have rQ1:=(Zg HI.out).2.2.1
   have gB:=(Zg HI.out).2.2.2.1
   have gW:=(Zd (Zg HI.out))
   clear HI hall
   obtain ⟨⟨r0,r1,r2,r3,r4,r5⟩,_⟩:=cells_six (rQ1 rfl)
   obtain ⟨r6,_⟩:=one_cell (rA1 rfl)
   have HB9:=Zh gB
   have HW9:=Zh gW
   clear rA1 rQ1 gB gW HW8 HX8 HA8 HQ8 HB8
   go_wp2
   refine bodyPost_ret (v:=.tuple #[.agg #[.slice ra L rc],.agg #[.int .i64 (bq:Nat),.int .i64 (N:Nat),(.slice f2 n2 k2),.int .u16 (a1:Nat),.int .u16 (la:Nat),(.slice c2 m2 j2)],.int .i64 (hd:Nat),.int .i64 0]) (by simp [results,Tryz.results47,go_sem,r0,r1,r2,r3,r4,r5,r6]) rfl ⟨ra,rc,_,_,E8,by rw [HHD.out,HA1.out],by rw [HL3.out]; exact HW9.out.mem,?_,HB9.out⟩
   have h9:=HW9.out.isq.base (Nat.zero_le _)
   rw [HFR8.out,HCH8.out,HA1.out] at h9
   exact h9
theorem Spare.new {w w':World} {B g:Nat} {T:Nat→Bool} (h:Spare w w' B T) (hg:w.heap.size≤g) (hB:B≤w.heap.size) (i:Nat) (u:Value):Spare w (w'.setCell ⟨g,i,none⟩ u) B T :=
 ⟨(h.below).setCell (p:=⟨g,i,none⟩) (Nat.le_trans hB hg) _,fun k ds s fs hk hs=>one_other (h.row k ds s fs hk hs) _ _ (fun e=>by
  have e:g=k:=e
  subst e
  have:=(Array.getElem?_eq_some_iff.1 hk).1
  omega)⟩
def usedI (l:List UInt8) (B N:Nat):Nat:=numAt l (B+secN N+2) 2
def usedE (l:List UInt8) (B N k o:Nat):Nat:=numAt l (B+secN N+4+8 * (k % N)+o) 4
def aheadQ (l:List UInt8) (B N:Nat) (q:QQ):Nat:=(usedI l B N+65536 - q.last) % 65536
def SeenSpec (l:List UInt8) (B N:Nat) (q:QQ) (t x0 x1:Nat) (E:Int):Prop :=
 (aheadQ l B N q=0∧t=q.last∧x0=0∧x1=0∧E=7)∨(q.chains.length < aheadQ l B N q∧t=usedI l B N∧x0=0∧x1=0∧E=80) ∨
 (0 < aheadQ l B N q∧aheadQ l B N q≤q.chains.length∧t=(q.last+1) % 65536∧x0=usedE l B N q.last 0∧x1=usedE l B N q.last 4∧E=0)
theorem WorkB.as {B g:Nat} {w:World} {q q':QQ} {F C M:Value} {D:List Value} {l:List UInt8} (h:WorkB B w g q F C M D l) (e:q'=q):WorkB B w g q' F C M D l:=by rw [e]; exact h
structure QueSeeA where
 (b0 b1 b2 b3 b4 b5 b6 b7 b8 b9 b10 b11 b12 b13 b14 b15 b16 b17 b18 b19:Bool)
 (s10 s11 s12 s13 s14 s15 s16 s17 s18 s19 s20 s21 s22 s23 s24 s9 s25 s26 s4 s5:Value)
structure QueSeeB where
 (b0 b1 b2 b3 b4 b5 b6 b7 b8 b9 b10 b11 b12 b13 b14 b15 b16 b17 b18 b19 b20 b21 b22 b23 b24 b25:Bool)
 (s53 s54 s55 s56 s57 s58 s59 s60 s61 s62 s63 s64 s65 s66 s67 s68 s69 s70 s71 s72 s52 s73 s74 s7 s8:Value)
set_option maxHeartbeats 4000000 in
set_option maxRecDepth 100000 in
theorem seeUsed_any (B g N bq t x0 x1:Nat) (q:QQ) (F C M:Value) (D:List Value) (l:List UInt8) (E:Int) (w:World) (hw:WorkB B w g q F C M D l) (hg:GoodQ q N) (hbq:q.base=(bq:Nat)) (hok:RingOk l.length bq N) (hs:SeenSpec l bq N q t x0 x1 E) (hB:B≤w.heap.size) :
 Calls Tryz.prog 64 #[.pointer (some ⟨g,0,none⟩)] w fun e w'=>e=.returned (.tuple #[.agg #[.int .u32 (x0:Nat),.int .u32 (x1:Nat)],.int .i64 E])∧WorkB B w' g { q with last:=t } F C M D l∧Spare w w' B dirtyW:=by
 obtain ⟨few1,few2,few3,few4,few5⟩:=hg.few
 obtain ⟨fa,fn,fc,ca,cn,cc,rfl,rfl,hfn,hcn,k1,k2,k3,k4⟩:=hw.isq.shape
 have hzN:=hg.size
 have hla:=hg.la
 obtain ⟨b,z,fr,av,la,ch⟩:=q
 simp only [SeenSpec,aheadQ] at *
 subst hbq
 subst hzN
 obtain ⟨va,vc,rfl,hv1,hv2⟩:=hw.mem.shape
 obtain ⟨L,hL⟩:∃ L,L=l.length:=⟨_,rfl⟩
 rw [←hL] at hw ⊢
 obtain ⟨u,hu⟩:∃ u,usedI l bq N=u:=⟨_,rfl⟩
 rw [hu] at hs
 have hu16:u < 65536:=by rw [←hu]; exact numAt_lt _ _ 2
 obtain ⟨a,ha⟩:∃ a,(u+65536 - la) % 65536=a:=⟨_,rfl⟩
 rw [ha] at hs
 have hw16:IntKind.u16.wrap (((u:Nat):Int) - ((la:Nat):Int))=(a:Nat):=by simp [IntKind.wrap,IntKind.bits,IntKind.signed]; omega
 have hwa:IntKind.i64.wrap ((a:Nat):Int)=(a:Nat):=IntWalk.i64_in _ (by omega)
 have HUF:=Zh (ringF_ok hok)
 have HUX:=Zh ((usedX_ok hok).trans hu)
 have HMX:=Zh (show l.length≤maxLen by have:=hok.few; unfold maxLen; omega)
 have HOK:=Zh hok
 have HLA:=Zh hla
 rw [←hcn] at hs
 have hcn16:cn≤16:=by omega
 have hbx:Below w.heap.size w (w.alloc (.cells #[.int .u32 0,.int .u32 0] 126)):=(Below.refl _ _).alloc (Nat.le_refl _) _
 have HB0:=Zh hbx
 have HW0:=Zh (hw.below hbx)
 have HR0:=Zh (heap_alloc_new w (.cells #[.int .u32 0,.int .u32 0] 126))
 have HBB:=Zh hB
 have HSP:=Zh hs
 have HU:=Zh hu
 clear hw hg hok hla few1 few2 few3 few4 few5 hfn hcn k1 k2 k3 k4 hv1 hv2 hL hu hu16 ha hbx hB hs
 go_enter Tryz.func64,Tryz.ntmps64
 go_wp2_with fail
 refine wp_region_rec (X:=QueSeeA) (by kernel_rfl) (by kernel_rfl) (fun x=>#[x.b0,x.b1,x.b2,x.b3,x.b4,x.b5,x.b6,x.b7,x.b8,x.b9,x.b10,x.b11,x.b12,x.b13,x.b14,x.b15,x.b16,x.b17,x.b18,x.b19]) (fun x=>{ tmps:=List.toArray ((.pointer (some ⟨g,0,none⟩))::undef::(.pointer (some ⟨w.heap.size,0,none⟩))::(.int .i64 0)::x.s4::x.s5::undef::undef::undef::x.s9::x.s10::x.s11::x.s12::x.s13::x.s14::x.s15::x.s16::x.s17::x.s18::x.s19::x.s20::x.s21::x.s22::x.s23::x.s24::x.s25::x.s26::undef::undef::undef::undef::undef::undef::undef::undef::undef::undef::undef::undef::undef::undef::undef::undef::undef::undef::undef::undef::undef::undef::undef::undef::undef::undef::undef::undef::undef::undef::undef::undef::undef::undef::undef::undef::undef::undef::undef::undef::undef::undef::undef::undef::undef::undef::undef::undef::undef::undef::undef::undef::undef::undef::undef::undef::undef::undef::[]),defers:=[] }) (fun x W=>(x.b0→x.s10=.pointer (some ⟨g,0,none⟩))∧(x.b1→x.s11=.pointer (some ⟨g,0,none⟩))∧(x.b2→x.s12=.pointer (some ⟨g,6,none⟩))∧(x.b3→x.s13=.agg #[.slice va L vc])∧(x.b4→x.s14=.pointer (some ⟨g,0,none⟩))∧(x.b5→x.s15=.pointer (some ⟨g,0,none⟩))∧(x.b6→x.s16=.pointer (some ⟨g,0,none⟩))∧(x.b7→x.s17=.pointer (some ⟨g,0,none⟩))∧(x.b8→x.s18=.int .i64 (bq:Nat))∧(x.b9→x.s19=.pointer (some ⟨g,0,none⟩))∧(x.b10→x.s20=.pointer (some ⟨g,0,none⟩))∧(x.b11→x.s21=.pointer (some ⟨g,0,none⟩))∧(x.b12→x.s22=.pointer (some ⟨g,1,none⟩))∧(x.b13→x.s23=.int .i64 (N:Nat))∧(x.b14→x.s24=.tuple #[.int .u16 (u:Nat),.int .i64 0])∧(x.b15→x.s9=.tuple #[.int .u16 (u:Nat),.int .i64 0])∧(x.b16→x.s25=.int .u16 (u:Nat))∧(x.b17→x.s26=.int .i64 0)∧(x.b18→x.s4=.int .u16 (u:Nat))∧(x.b19→x.s5=.int .i64 0)∧(W.heap[g]? = some (.cells #[.int .i64 (bq:Nat),.int .i64 (N:Nat),.slice fa fn fc,.int .u16 (av:Nat),.int .u16 (la:Nat),.slice ca cn cc,.slice va L vc] 133 (0,0)))∧(Below (w.alloc (.cells #[.int .u32 0,.int .u32 0] 126)).heap.size (w.alloc (.cells #[.int .u32 0,.int .u32 0] 126)) W)) ⟨false,false,false,false,false,false,false,false,false,false,false,false,false,false,false,false,false,false,false,false,undef,undef,undef,undef,undef,undef,undef,undef,undef,undef,undef,undef,undef,undef,undef,undef,undef,undef,undef,undef⟩ rfl rfl ⟨Zf,Zf,Zf,Zf,Zf,Zf,Zf,Zf,Zf,Zf,Zf,Zf,Zf,Zf,Zf,Zf,Zf,Zf,Zf,Zf,HW0.out.row,(Below.refl _ _).drew⟩ (fun _=>rfl) ?hstep ?hdone
 case hstep =>
  rintro ⟨b0,b1,b2,b3,b4,b5,b6,b7,b8,b9,b10,b11,b12,b13,b14,b15,b16,b17,b18,b19,s10,s11,s12,s13,s14,s15,s16,s17,s18,s19,s20,s21,s22,s23,s24,s9,s25,s26,s4,s5⟩ W hI i hi
  dsimp only at hI hi ⊢
  have HI:=Zh hI
  clear hI
  rw [Region.ready,List.mem_filter,List.mem_range] at hi
  obtain ⟨hlt,hp⟩:=hi
  have hi7:i=0∨i=1∨i=2∨i=3∨i=4∨i=5∨i=6∨i=7∨i=8∨i=9∨i=10∨i=11∨i=12∨i=13∨i=14∨i=15∨i=16∨i=17∨i=18∨i=19:=by simp at hlt; omega
  clear hlt
  rcases hi7 with rfl|rfl|rfl|rfl|rfl|rfl|rfl|rfl|rfl|rfl|rfl|rfl|rfl|rfl|rfl|rfl|rfl|rfl|rfl|rfl
  all_goals simp [Region.binds] at hp
  · obtain rfl:b0=false:=by revert hp; cases b0 <;> simp
    clear hp; refine Zv 10 fun K' hK'=>?_
    go_simp
    exact hK'.out _ _ ⟨.mk ..,rfl,rfl,(Upd (fun _=>rfl)) HI.out⟩
  · obtain ⟨rfl,e0⟩:b1=false∧b0=true:=by revert hp; cases b1 <;> cases b0 <;> simp
    clear hp
    obtain rfl:=(HI.out.1) e0
    refine Zv 11 fun K' hK'=>?_
    go_simp
    exact hK'.out _ _ ⟨.mk ..,rfl,rfl,Nxt (Upd (fun _=>rfl)) HI.out⟩
  · obtain ⟨rfl,e1⟩:b2=false∧b1=true:=by revert hp; cases b2 <;> cases b1 <;> simp
    clear hp
    obtain rfl:=(HI.out.2.1) e1
    refine Zv 12 fun K' hK'=>?_
    go_simp
    exact hK'.out _ _ ⟨.mk ..,rfl,rfl,Nxt (Nxt (Upd (fun _=>rfl))) HI.out⟩
  · obtain ⟨rfl,e2⟩:b3=false∧b2=true:=by revert hp; cases b3 <;> cases b2 <;> simp
    clear hp
    obtain rfl:=(HI.out.2.2.1) e2
    refine Zv 13 fun K' hK'=>?_
    have rW:=(Zd (Zg HI.out)).1
    obtain ⟨hc6,_⟩:=at_cell rW 6 _ rfl
    go_simp
    exact hK'.out _ _ ⟨.mk ..,rfl,rfl,Nxt (Nxt (Nxt (Upd (fun _=>rfl)))) HI.out⟩
  · obtain rfl:b4=false:=by revert hp; cases b4 <;> simp
    clear hp; refine Zv 14 fun K' hK'=>?_
    go_simp
    exact hK'.out _ _ ⟨.mk ..,rfl,rfl,Nx4 (Upd (fun _=>rfl)) HI.out⟩
  · obtain ⟨rfl,e4⟩:b5=false∧b4=true:=by revert hp; cases b5 <;> cases b4 <;> simp
    clear hp
    obtain rfl:=((Zd HI.out).1) e4
    refine Zv 15 fun K' hK'=>?_
    go_simp
    exact hK'.out _ _ ⟨.mk ..,rfl,rfl,Nxt (Nx4 (Upd (fun _=>rfl))) HI.out⟩
  · obtain ⟨rfl,e5⟩:b6=false∧b5=true:=by revert hp; cases b6 <;> cases b5 <;> simp
    clear hp
    obtain rfl:=((Zd HI.out).2.1) e5
    refine Zv 16 fun K' hK'=>?_
    go_simp
    exact hK'.out _ _ ⟨.mk ..,rfl,rfl,Nxt (Nxt (Nx4 (Upd (fun _=>rfl)))) HI.out⟩
  · obtain ⟨rfl,e6⟩:b7=false∧b6=true:=by revert hp; cases b7 <;> cases b6 <;> simp
    clear hp
    obtain rfl:=((Zd HI.out).2.2.1) e6
    refine Zv 17 fun K' hK'=>?_
    go_simp
    exact hK'.out _ _ ⟨.mk ..,rfl,rfl,Nxt (Nxt (Nxt (Nx4 (Upd (fun _=>rfl))))) HI.out⟩
  · obtain ⟨rfl,e7⟩:b8=false∧b7=true:=by revert hp; cases b8 <;> cases b7 <;> simp
    clear hp
    obtain rfl:=((Zd HI.out).2.2.2.1) e7
    refine Zv 18 fun K' hK'=>?_
    have rW:=(Zd (Zg HI.out)).1
    obtain ⟨hc0,_⟩:=at_cell rW 0 _ rfl
    go_simp
    exact hK'.out _ _ ⟨.mk ..,rfl,rfl,Nx4 (Nx4 (Upd (fun _=>rfl))) HI.out⟩
  · obtain rfl:b9=false:=by revert hp; cases b9 <;> simp
    clear hp; refine Zv 19 fun K' hK'=>?_
    go_simp
    exact hK'.out _ _ ⟨.mk ..,rfl,rfl,Nxt (Nx4 (Nx4 (Upd (fun _=>rfl)))) HI.out⟩
  · obtain ⟨rfl,e9⟩:b10=false∧b9=true:=by revert hp; cases b10 <;> cases b9 <;> simp
    clear hp
    obtain rfl:=((Ze HI.out).2.1) e9
    refine Zv 20 fun K' hK'=>?_
    go_simp
    exact hK'.out _ _ ⟨.mk ..,rfl,rfl,Nxt (Nxt (Nx4 (Nx4 (Upd (fun _=>rfl))))) HI.out⟩
  · obtain ⟨rfl,e10⟩:b11=false∧b10=true:=by revert hp; cases b11 <;> cases b10 <;> simp
    clear hp
    obtain rfl:=((Ze HI.out).2.2.1) e10
    refine Zv 21 fun K' hK'=>?_
    go_simp
    exact hK'.out _ _ ⟨.mk ..,rfl,rfl,Nxt (Nxt (Nxt (Nx4 (Nx4 (Upd (fun _=>rfl)))))) HI.out⟩
  · obtain ⟨rfl,e11⟩:b12=false∧b11=true:=by revert hp; cases b12 <;> cases b11 <;> simp
    clear hp
    obtain rfl:=((Ze HI.out).2.2.2.1) e11
    refine Zv 22 fun K' hK'=>?_
    go_simp
    exact hK'.out _ _ ⟨.mk ..,rfl,rfl,Nx4 (Nx4 (Nx4 (Upd (fun _=>rfl)))) HI.out⟩
  · obtain ⟨rfl,e12⟩:b13=false∧b12=true:=by revert hp; cases b13 <;> cases b12 <;> simp
    clear hp
    obtain rfl:=((Zd (Ze HI.out)).1) e12
    refine Zv 23 fun K' hK'=>?_
    have rW:=(Zd (Zg HI.out)).1
    obtain ⟨hc1,_⟩:=at_cell rW 1 _ rfl
    go_simp
    exact hK'.out _ _ ⟨.mk ..,rfl,rfl,Nxt (Nx4 (Nx4 (Nx4 (Upd (fun _=>rfl))))) HI.out⟩
  · have hn14:b14=false:=by revert hp; cases b14 <;> simp
    have e3:b3=true:=by revert hp; cases b3 <;> simp
    have e8:b8=true:=by revert hp; cases b8 <;> simp
    have e13:b13=true:=by revert hp; cases b13 <;> simp
    clear hp
    obtain rfl:=(HI.out.2.2.2.1) e3
    obtain rfl:=((Ze HI.out).1) e8
    obtain rfl:=((Zd (Ze HI.out)).2.1) e13
    subst hn14
    refine Zv 24 fun K' hK'=>?_
    have gB:=(Zd (Zg HI.out)).2
    go_simp
    refine (used_any _ l (bq:Nat) (N:Nat) 0 u HUF.out HUX.out HMX.out W (HW0.out.below gB).mem.arg).mono ?_
    rintro e w2 ⟨rfl,bn⟩
    obtain ⟨h0,h1,h2,h3,h4,h5,h6,h7,h8,h9,h10,h11,h12,h13,h14,h15,h16,h17,h18,h19,rW,gB⟩:=HI.out
    exact hK'.out _ _ ⟨.mk ..,rfl,rfl,h0,h1,h2,h3,h4,h5,h6,h7,h8,h9,h10,h11,h12,h13,(fun _=>rfl),h15,h16,h17,h18,h19,(row_keep rW bn),(gB.trans (bn.mono gB.size))⟩
  · obtain ⟨rfl,e14⟩:b15=false∧b14=true:=by revert hp; cases b15 <;> cases b14 <;> simp
    clear hp
    obtain rfl:=((Zd (Ze HI.out)).2.2.1) e14
    refine Zv 9 fun K' hK'=>?_
    go_simp
    exact hK'.out _ _ ⟨.mk ..,rfl,rfl,Nxt (Nxt (Nxt (Nx4 (Nx4 (Nx4 (Upd (fun _=>rfl))))))) HI.out⟩
  · obtain ⟨rfl,e15⟩:b16=false∧b15=true:=by revert hp; cases b16 <;> cases b15 <;> simp
    clear hp
    obtain rfl:=((Zd (Ze HI.out)).2.2.2.1) e15
    refine Zv 25 fun K' hK'=>?_
    go_simp
    exact hK'.out _ _ ⟨.mk ..,rfl,rfl,Nx16 (Upd (fun _=>rfl)) HI.out⟩
  · obtain ⟨rfl,e15⟩:b17=false∧b15=true:=by revert hp; cases b17 <;> cases b15 <;> simp
    clear hp
    obtain rfl:=((Zd (Ze HI.out)).2.2.2.1) e15
    refine Zv 26 fun K' hK'=>?_
    go_simp
    exact hK'.out _ _ ⟨.mk ..,rfl,rfl,Nxt (Nx16 (Upd (fun _=>rfl))) HI.out⟩
  · obtain ⟨rfl,e16,e14⟩:b18=false∧b16=true∧b14=true:=by revert hp; cases b18 <;> cases b16 <;> cases b14 <;> simp
    clear hp
    obtain rfl:=((Zg HI.out).1) e16
    refine Zv 4 fun K' hK'=>?_
    go_simp
    exact hK'.out _ _ ⟨.mk ..,rfl,rfl,Nxt (Nxt (Nx16 (Upd (fun _=>rfl)))) HI.out⟩
  · obtain ⟨rfl,e17,e18⟩:b19=false∧b17=true∧b18=true:=by revert hp; cases b19 <;> cases b17 <;> cases b18 <;> simp
    clear hp
    obtain rfl:=((Zg HI.out).2.1) e17
    refine Zv 5 fun K' hK'=>?_
    go_simp
    exact hK'.out _ _ ⟨.mk ..,rfl,rfl,Nxt (Nxt (Nxt (Nx16 (Upd (fun _=>rfl))))) HI.out⟩
 case hdone =>
  rintro ⟨b0,b1,b2,b3,b4,b5,b6,b7,b8,b9,b10,b11,b12,b13,b14,b15,b16,b17,b18,b19,s10,s11,s12,s13,s14,s15,s16,s17,s18,s19,s20,s21,s22,s23,s24,s9,s25,s26,s4,s5⟩ W hI hall
  dsimp only at hI hall ⊢
  have HI:=Zh hI
  clear hI
  obtain rfl:b0=true:=hall 0 (by decide)
  obtain rfl:b1=true:=hall 1 (by decide)
  obtain rfl:b2=true:=hall 2 (by decide)
  obtain rfl:b3=true:=hall 3 (by decide)
  obtain rfl:b4=true:=hall 4 (by decide)
  obtain rfl:b5=true:=hall 5 (by decide)
  obtain rfl:b6=true:=hall 6 (by decide)
  obtain rfl:b7=true:=hall 7 (by decide)
  obtain rfl:b8=true:=hall 8 (by decide)
  obtain rfl:b9=true:=hall 9 (by decide)
  obtain rfl:b10=true:=hall 10 (by decide)
  obtain rfl:b11=true:=hall 11 (by decide)
  obtain rfl:b12=true:=hall 12 (by decide)
  obtain rfl:b13=true:=hall 13 (by decide)
  obtain rfl:b14=true:=hall 14 (by decide)
  obtain rfl:b15=true:=hall 15 (by decide)
  obtain rfl:b16=true:=hall 16 (by decide)
  obtain rfl:b17=true:=hall 17 (by decide)
  obtain rfl:b18=true:=hall 18 (by decide)
  obtain rfl:b19=true:=hall 19 (by decide)
  obtain rfl:=((Zg HI.out).2.2.1) rfl
  obtain rfl:=((Zg HI.out).2.2.2.1) rfl
  have gB:=(Zd (Zg HI.out)).2
  clear HI hall
  have HW1:=Zh (HW0.out.below gB)
  have HR1:=Zh (row_keep HR0.out gB)
  have HB1:=Zh (HB0.out.trans (gB.mono HB0.out.size))
  clear gB HW0 HR0
  obtain ⟨w1,hw1⟩:∃ x,x=W:=⟨_,rfl⟩
  subst hw1
  obtain ⟨⟨l0,l1,l2,l3,l4,l5,l6⟩,z0,z1,z2,z3,z4,z5,z6⟩:=cells_seven HW1.out.row
  obtain ⟨r0,r1,y0,y1⟩:=cells_two HR1.out
  have hlg:=(Array.getElem?_eq_some_iff.1 HW1.out.row).1
  have hlr:=(Array.getElem?_eq_some_iff.1 HR1.out).1
  have hsp:=HSP.out
  rcases hsp with ⟨e1,e2,e3,e4,e5⟩|⟨e1,e2,e3,e4,e5⟩|⟨e0,e1,e2,e3,e4,e5⟩
  · subst e1
    subst e2
    subst e3
    subst e4
    subst e5
    go_wp2
    refine bodyPost_ret (v:=.tuple #[.agg #[.int .u32 0,.int .u32 0],.int .i64 7]) (by simp [results,Tryz.results64,go_sem,r0,r1]) rfl ⟨rfl,?_,?_⟩
    · exact (HW1.out.stay HR1.out (by decide) (by decide) (by decide) (by decide) 0 _).stay (row_put HR1.out 0 _) (by decide) (by decide) (by decide) (by decide) 1 _
    · exact Spare.of_below ((HB1.out.setCell (p:=⟨w.heap.size,0,none⟩) (Nat.le_refl _) _).setCell (p:=⟨w.heap.size,1,none⟩) (Nat.le_refl _) _) HBB.out _
  · have hz0:(((a:Nat):Int) == 0)=false:=by rw [beq_eq_false_iff_ne]; omega
    have hz1:(a == 0)=false:=by rw [beq_eq_false_iff_ne]; omega
    have hz2:decide (((cn:Nat):Int) < ((a:Nat):Int))=true:=decide_eq_true (by omega)
    have hz3:decide (cn < a)=true:=decide_eq_true e1
    subst e2
    subst e3
    subst e4
    subst e5
    have hne:g≠w.heap.size:=blocks_ne HR1.out HW1.out.row (by decide)
    have HWX:=Zh (HW1.out.setL t)
    have HRX:=Zh (one_other HR1.out ⟨g,4,none⟩ (.int .u16 (t:Nat)) hne)
    have HSX:=Zh ((Spare.of_below (T:=dirtyW) HB1.out HBB.out).trans (Spare.set (i:=4) (u:=.int .u16 (t:Nat)) HW1.out.row rfl HW1.out.lo))
    obtain ⟨r0x,r1x,y0x,y1x⟩:=cells_two HRX.out
    have HUU:=HU.out
    clear e1
    go_wp2
    refine bodyPost_ret (v:=.tuple #[.agg #[.int .u32 0,.int .u32 0],.int .i64 80]) (by simp [results,Tryz.results64,go_sem,r0x,r1x]) rfl ⟨rfl,?_,?_⟩
    · exact (HWX.out.stay HRX.out (by decide) (by decide) (by decide) (by decide) 0 _).stay (row_put HRX.out 0 _) (by decide) (by decide) (by decide) (by decide) 1 _
    · exact (HSX.out.new (Nat.le_refl _) HBB.out 0 _).new (Nat.le_refl _) HBB.out 1 _
  · have hz0:(((a:Nat):Int) == 0)=false:=by rw [beq_eq_false_iff_ne]; omega
    have hz1:(a == 0)=false:=by rw [beq_eq_false_iff_ne]; omega
    have hz2:decide (((cn:Nat):Int) < ((a:Nat):Int))=false:=decide_eq_false (by omega)
    have hz3:decide (cn < a)=false:=decide_eq_false (by omega)
    have HX0:=Zh ((usedAtX_ok HOK.out la 0).trans e3.symm)
    have HX1:=Zh ((usedAtX_ok HOK.out la 4).trans e4.symm)
    have hw17:IntKind.u16.wrap (((la:Nat):Int)+1)=(t:Nat):=by rw [e2]; simp [IntKind.wrap,IntKind.bits,IntKind.signed]
    subst e5
    clear e0 e1 e2 e3 e4
    go_wp2_with fail
    refine wp_region_rec (X:=QueSeeB) (by kernel_rfl) (by kernel_rfl) (fun x=>#[x.b0,x.b1,x.b2,x.b3,x.b4,x.b5,x.b6,x.b7,x.b8,x.b9,x.b10,x.b11,x.b12,x.b13,x.b14,x.b15,x.b16,x.b17,x.b18,x.b19,x.b20,x.b21,x.b22,x.b23,x.b24,x.b25]) (fun x=>{ tmps:=List.toArray ((.pointer (some ⟨g,0,none⟩))::undef::(.pointer (some ⟨w.heap.size,0,none⟩))::(.int .i64 0)::(.int .u16 (u:Nat))::(.int .i64 0)::(.int .u16 (a:Nat))::x.s7::x.s8::s9::s10::s11::s12::s13::s14::s15::s16::s17::s18::s19::s20::s21::s22::s23::s24::s25::s26::(.int .u16 (u:Nat))::(.pointer (some ⟨g,0,none⟩))::(.pointer (some ⟨g,0,none⟩))::(.pointer (some ⟨g,0,none⟩))::(.pointer (some ⟨g,4,none⟩))::(.int .u16 (la:Nat))::(.int .u16 (a:Nat))::(.int .u16 (a:Nat))::(.bool false)::undef::(.int .u16 (a:Nat))::(.int .i64 (a:Nat))::(.pointer (some ⟨g,0,none⟩))::(.pointer (some ⟨g,0,none⟩))::(.pointer (some ⟨g,0,none⟩))::(.pointer (some ⟨g,5,none⟩))::(.slice ca cn cc)::(.int .i64 (cn:Nat))::(.bool false)::undef::undef::undef::undef::undef::undef::x.s52::x.s53::x.s54::x.s55::x.s56::x.s57::x.s58::x.s59::x.s60::x.s61::x.s62::x.s63::x.s64::x.s65::x.s66::x.s67::x.s68::x.s69::x.s70::x.s71::x.s72::x.s73::x.s74::undef::undef::undef::undef::undef::undef::undef::undef::undef::undef::[]),defers:=[] }) (fun x W=>(x.b0→x.s53=.pointer (some ⟨g,0,none⟩))∧(x.b1→x.s54=.pointer (some ⟨g,0,none⟩))∧(x.b2→x.s55=.pointer (some ⟨g,6,none⟩))∧(x.b3→x.s56=.agg #[.slice va L vc])∧(x.b4→x.s57=.pointer (some ⟨g,0,none⟩))∧(x.b5→x.s58=.pointer (some ⟨g,0,none⟩))∧(x.b6→x.s59=.pointer (some ⟨g,0,none⟩))∧(x.b7→x.s60=.pointer (some ⟨g,0,none⟩))∧(x.b8→x.s61=.int .i64 (bq:Nat))∧(x.b9→x.s62=.pointer (some ⟨g,0,none⟩))∧(x.b10→x.s63=.pointer (some ⟨g,0,none⟩))∧(x.b11→x.s64=.pointer (some ⟨g,0,none⟩))∧(x.b12→x.s65=.pointer (some ⟨g,1,none⟩))∧(x.b13→x.s66=.int .i64 (N:Nat))∧(x.b14→x.s67=.pointer (some ⟨g,0,none⟩))∧(x.b15→x.s68=.pointer (some ⟨g,0,none⟩))∧(x.b16→x.s69=.pointer (some ⟨g,0,none⟩))∧(x.b17→x.s70=.pointer (some ⟨g,4,none⟩))∧(x.b18→x.s71=.int .u16 (la:Nat))∧(x.b19→x.s72=.tuple #[.agg #[.int .u32 (x0:Nat),.int .u32 (x1:Nat)],.int .i64 0])∧(x.b20→x.s52=.tuple #[.agg #[.int .u32 (x0:Nat),.int .u32 (x1:Nat)],.int .i64 0])∧(x.b21→x.s73=.agg #[.int .u32 (x0:Nat),.int .u32 (x1:Nat)])∧(x.b22→x.s74=.int .i64 0)∧(x.b25→x.s8=.int .i64 0)∧(x.b24→x.b19∧x.b23)∧(W.heap[g]? = some (.cells #[.int .i64 (bq:Nat),.int .i64 (N:Nat),.slice fa fn fc,.int .u16 (av:Nat),.int .u16 (la:Nat),.slice ca cn cc,.slice va L vc] 133 (0,0)))∧(Below w1.heap.size w1 W)∧(x.b24=false→x.b23→∃ gu,x.s7=.pointer (some ⟨gu,0,none⟩)∧w1.heap.size≤gu∧W.heap[gu]? = some (.cells #[.int .u32 0,.int .u32 0] 126 (0,0)))∧(x.b24→∃ gu,x.s7=.pointer (some ⟨gu,0,none⟩)∧w1.heap.size≤gu∧W.heap[gu]? = some (.cells #[.int .u32 (x0:Nat),.int .u32 (x1:Nat)] 126 (0,0)))) ⟨false,false,false,false,false,false,false,false,false,false,false,false,false,false,false,false,false,false,false,false,false,false,false,false,false,false,undef,undef,undef,undef,undef,undef,undef,undef,undef,undef,undef,undef,undef,undef,undef,undef,undef,undef,undef,undef,undef,undef,undef,undef,undef⟩ rfl rfl ⟨Zf,Zf,Zf,Zf,Zf,Zf,Zf,Zf,Zf,Zf,Zf,Zf,Zf,Zf,Zf,Zf,Zf,Zf,Zf,Zf,Zf,Zf,Zf,Zf,Zf,HW1.out.row,(Below.refl _ _).drew,(fun _ h=>by cases h),Zf⟩ (fun _=>rfl) ?hstep ?hdone
    case hstep =>
     rintro ⟨b0,b1,b2,b3,b4,b5,b6,b7,b8,b9,b10,b11,b12,b13,b14,b15,b16,b17,b18,b19,b20,b21,b22,b23,b24,b25,s53,s54,s55,s56,s57,s58,s59,s60,s61,s62,s63,s64,s65,s66,s67,s68,s69,s70,s71,s72,s52,s73,s74,s7,s8⟩ W hI i hi
     dsimp only at hI hi ⊢
     have HI:=Zh hI
     clear hI
     rw [Region.ready,List.mem_filter,List.mem_range] at hi
     obtain ⟨hlt,hp⟩:=hi
     have hi7:i=0∨i=1∨i=2∨i=3∨i=4∨i=5∨i=6∨i=7∨i=8∨i=9∨i=10∨i=11∨i=12∨i=13∨i=14∨i=15∨i=16∨i=17∨i=18∨i=19∨i=20∨i=21∨i=22∨i=23∨i=24∨i=25:=by simp at hlt; omega
     clear hlt
     rcases hi7 with rfl|rfl|rfl|rfl|rfl|rfl|rfl|rfl|rfl|rfl|rfl|rfl|rfl|rfl|rfl|rfl|rfl|rfl|rfl|rfl|rfl|rfl|rfl|rfl|rfl|rfl
     all_goals simp [Region.binds] at hp
     · obtain rfl:b0=false:=by revert hp; cases b0 <;> simp
       clear hp; refine Zv 53 fun K' hK'=>?_
       go_simp
       exact hK'.out _ _ ⟨.mk ..,rfl,rfl,(Upd (fun _=>rfl)) HI.out⟩
     · obtain ⟨rfl,e0⟩:b1=false∧b0=true:=by revert hp; cases b1 <;> cases b0 <;> simp
       clear hp
       obtain rfl:=(HI.out.1) e0
       refine Zv 54 fun K' hK'=>?_
       go_simp
       exact hK'.out _ _ ⟨.mk ..,rfl,rfl,Nxt (Upd (fun _=>rfl)) HI.out⟩
     · obtain ⟨rfl,e1⟩:b2=false∧b1=true:=by revert hp; cases b2 <;> cases b1 <;> simp
       clear hp
       obtain rfl:=(HI.out.2.1) e1
       refine Zv 55 fun K' hK'=>?_
       go_simp
       exact hK'.out _ _ ⟨.mk ..,rfl,rfl,Nxt (Nxt (Upd (fun _=>rfl))) HI.out⟩
     · obtain ⟨rfl,e2⟩:b3=false∧b2=true:=by revert hp; cases b3 <;> cases b2 <;> simp
       clear hp
       obtain rfl:=(HI.out.2.2.1) e2
       refine Zv 56 fun K' hK'=>?_
       have rW:=(Ze (Zg HI.out)).2.1
       obtain ⟨hc6,_⟩:=at_cell rW 6 _ rfl
       go_simp
       exact hK'.out _ _ ⟨.mk ..,rfl,rfl,Nxt (Nxt (Nxt (Upd (fun _=>rfl)))) HI.out⟩
     · obtain rfl:b4=false:=by revert hp; cases b4 <;> simp
       clear hp; refine Zv 57 fun K' hK'=>?_
       go_simp
       exact hK'.out _ _ ⟨.mk ..,rfl,rfl,Nx4 (Upd (fun _=>rfl)) HI.out⟩
     · obtain ⟨rfl,e4⟩:b5=false∧b4=true:=by revert hp; cases b5 <;> cases b4 <;> simp
       clear hp
       obtain rfl:=((Zd HI.out).1) e4
       refine Zv 58 fun K' hK'=>?_
       go_simp
       exact hK'.out _ _ ⟨.mk ..,rfl,rfl,Nxt (Nx4 (Upd (fun _=>rfl))) HI.out⟩
     · obtain ⟨rfl,e5⟩:b6=false∧b5=true:=by revert hp; cases b6 <;> cases b5 <;> simp
       clear hp
       obtain rfl:=((Zd HI.out).2.1) e5
       refine Zv 59 fun K' hK'=>?_
       go_simp
       exact hK'.out _ _ ⟨.mk ..,rfl,rfl,Nxt (Nxt (Nx4 (Upd (fun _=>rfl)))) HI.out⟩
     · obtain ⟨rfl,e6⟩:b7=false∧b6=true:=by revert hp; cases b7 <;> cases b6 <;> simp
       clear hp
       obtain rfl:=((Zd HI.out).2.2.1) e6
       refine Zv 60 fun K' hK'=>?_
       go_simp
       exact hK'.out _ _ ⟨.mk ..,rfl,rfl,Nxt (Nxt (Nxt (Nx4 (Upd (fun _=>rfl))))) HI.out⟩
     · obtain ⟨rfl,e7⟩:b8=false∧b7=true:=by revert hp; cases b8 <;> cases b7 <;> simp
       clear hp
       obtain rfl:=((Zd HI.out).2.2.2.1) e7
       refine Zv 61 fun K' hK'=>?_
       have rW:=(Ze (Zg HI.out)).2.1
       obtain ⟨hc0,_⟩:=at_cell rW 0 _ rfl
       go_simp
       exact hK'.out _ _ ⟨.mk ..,rfl,rfl,Nx4 (Nx4 (Upd (fun _=>rfl))) HI.out⟩
     · obtain rfl:b9=false:=by revert hp; cases b9 <;> simp
       clear hp; refine Zv 62 fun K' hK'=>?_
       go_simp
       exact hK'.out _ _ ⟨.mk ..,rfl,rfl,Nxt (Nx4 (Nx4 (Upd (fun _=>rfl)))) HI.out⟩
     · obtain ⟨rfl,e9⟩:b10=false∧b9=true:=by revert hp; cases b10 <;> cases b9 <;> simp
       clear hp
       obtain rfl:=((Ze HI.out).2.1) e9
       refine Zv 63 fun K' hK'=>?_
       go_simp
       exact hK'.out _ _ ⟨.mk ..,rfl,rfl,Nxt (Nxt (Nx4 (Nx4 (Upd (fun _=>rfl))))) HI.out⟩
     · obtain ⟨rfl,e10⟩:b11=false∧b10=true:=by revert hp; cases b11 <;> cases b10 <;> simp
       clear hp
       obtain rfl:=((Ze HI.out).2.2.1) e10
       refine Zv 64 fun K' hK'=>?_
       go_simp
       exact hK'.out _ _ ⟨.mk ..,rfl,rfl,Nxt (Nxt (Nxt (Nx4 (Nx4 (Upd (fun _=>rfl)))))) HI.out⟩
     · obtain ⟨rfl,e11⟩:b12=false∧b11=true:=by revert hp; cases b12 <;> cases b11 <;> simp
       clear hp
       obtain rfl:=((Ze HI.out).2.2.2.1) e11
       refine Zv 65 fun K' hK'=>?_
       go_simp
       exact hK'.out _ _ ⟨.mk ..,rfl,rfl,Nx4 (Nx4 (Nx4 (Upd (fun _=>rfl)))) HI.out⟩
     · obtain ⟨rfl,e12⟩:b13=false∧b12=true:=by revert hp; cases b13 <;> cases b12 <;> simp
       clear hp
       obtain rfl:=((Zd (Ze HI.out)).1) e12
       refine Zv 66 fun K' hK'=>?_
       have rW:=(Ze (Zg HI.out)).2.1
       obtain ⟨hc1,_⟩:=at_cell rW 1 _ rfl
       go_simp
       exact hK'.out _ _ ⟨.mk ..,rfl,rfl,Nxt (Nx4 (Nx4 (Nx4 (Upd (fun _=>rfl))))) HI.out⟩
     · obtain rfl:b14=false:=by revert hp; cases b14 <;> simp
       clear hp; refine Zv 67 fun K' hK'=>?_
       go_simp
       exact hK'.out _ _ ⟨.mk ..,rfl,rfl,Nxt (Nxt (Nx4 (Nx4 (Nx4 (Upd (fun _=>rfl)))))) HI.out⟩
     · obtain ⟨rfl,e14⟩:b15=false∧b14=true:=by revert hp; cases b15 <;> cases b14 <;> simp
       clear hp
       obtain rfl:=((Zd (Ze HI.out)).2.2.1) e14
       refine Zv 68 fun K' hK'=>?_
       go_simp
       exact hK'.out _ _ ⟨.mk ..,rfl,rfl,Nxt (Nxt (Nxt (Nx4 (Nx4 (Nx4 (Upd (fun _=>rfl))))))) HI.out⟩
     · obtain ⟨rfl,e15⟩:b16=false∧b15=true:=by revert hp; cases b16 <;> cases b15 <;> simp
       clear hp
       obtain rfl:=((Zd (Ze HI.out)).2.2.2.1) e15
       refine Zv 69 fun K' hK'=>?_
       go_simp
       exact hK'.out _ _ ⟨.mk ..,rfl,rfl,Nx16 (Upd (fun _=>rfl)) HI.out⟩
     · obtain ⟨rfl,e16⟩:b17=false∧b16=true:=by revert hp; cases b17 <;> cases b16 <;> simp
       clear hp
       obtain rfl:=((Zg HI.out).1) e16
       refine Zv 70 fun K' hK'=>?_
       go_simp
       exact hK'.out _ _ ⟨.mk ..,rfl,rfl,Nxt (Nx16 (Upd (fun _=>rfl))) HI.out⟩
     · obtain ⟨rfl,e17⟩:b18=false∧b17=true:=by revert hp; cases b18 <;> cases b17 <;> simp
       clear hp
       obtain rfl:=((Zg HI.out).2.1) e17
       refine Zv 71 fun K' hK'=>?_
       have rW:=(Ze (Zg HI.out)).2.1
       obtain ⟨hc4,_⟩:=at_cell rW 4 _ rfl
       go_simp
       exact hK'.out _ _ ⟨.mk ..,rfl,rfl,Nxt (Nxt (Nx16 (Upd (fun _=>rfl)))) HI.out⟩
     · have hn19:b19=false:=by revert hp; cases b19 <;> simp
       have e3:b3=true:=by revert hp; cases b3 <;> simp
       have e8:b8=true:=by revert hp; cases b8 <;> simp
       have e13:b13=true:=by revert hp; cases b13 <;> simp
       have e18:b18=true:=by revert hp; cases b18 <;> simp
       clear hp
       obtain rfl:=(HI.out.2.2.2.1) e3
       obtain rfl:=((Ze HI.out).1) e8
       obtain rfl:=((Zd (Ze HI.out)).2.1) e13
       obtain rfl:=((Zg HI.out).2.2.1) e18
       subst hn19
       refine Zv 72 fun K' hK'=>?_
       have gi24:=(Ze (Zg HI.out)).1
       have gB:=(Ze (Zg HI.out)).2.2.1
       obtain rfl:b24=false:=Zz fun e=>(gi24 e).1
       go_simp
       refine (usedAt_any _ l (bq:Nat) (N:Nat) la HLA.out 0 x0 x1 HUF.out HX0.out HX1.out HMX.out W (HW1.out.below gB).mem.arg).mono ?_
       rintro e w2 ⟨rfl,bn⟩
       obtain ⟨h0,h1,h2,h3,h4,h5,h6,h7,h8,h9,h10,h11,h12,h13,h14,h15,h16,h17,h18,h19,h20,h21,h22,h25,gi24,rW,gB,gA,gS⟩:=HI.out
       exact hK'.out _ _ ⟨.mk ..,rfl,rfl,h0,h1,h2,h3,h4,h5,h6,h7,h8,h9,h10,h11,h12,h13,h14,h15,h16,h17,h18,(fun _=>rfl),h20,h21,h22,h25,Zf,(row_keep rW bn),(gB.trans (bn.mono gB.size)),(fun e e2=>by obtain ⟨gu,h1,h2,h3⟩:=gA e e2; exact ⟨gu,h1,h2,row_keep h3 bn⟩),Zf⟩
     · obtain ⟨rfl,e19⟩:b20=false∧b19=true:=by revert hp; cases b20 <;> cases b19 <;> simp
       clear hp
       obtain rfl:=((Zg HI.out).2.2.2.1) e19
       refine Zv 52 fun K' hK'=>?_
       go_simp
       exact hK'.out _ _ ⟨.mk ..,rfl,rfl,Nx4 (Nx16 (Upd (fun _=>rfl))) HI.out⟩
     · obtain ⟨rfl,e20⟩:b21=false∧b20=true:=by revert hp; cases b21 <;> cases b20 <;> simp
       clear hp
       obtain rfl:=((Zd (Zg HI.out)).1) e20
       refine Zv 73 fun K' hK'=>?_
       go_simp
       exact hK'.out _ _ ⟨.mk ..,rfl,rfl,Nxt (Nx4 (Nx16 (Upd (fun _=>rfl)))) HI.out⟩
     · obtain ⟨rfl,e20⟩:b22=false∧b20=true:=by revert hp; cases b22 <;> cases b20 <;> simp
       clear hp
       obtain rfl:=((Zd (Zg HI.out)).1) e20
       refine Zv 74 fun K' hK'=>?_
       go_simp
       exact hK'.out _ _ ⟨.mk ..,rfl,rfl,Nxt (Nxt (Nx4 (Nx16 (Upd (fun _=>rfl))))) HI.out⟩
     · obtain rfl:b23=false:=by revert hp; cases b23 <;> simp
       clear hp; refine Zv 7 fun K' hK'=>?_
       have gi24:=(Ze (Zg HI.out)).1
       obtain rfl:b24=false:=Zz fun e=>(gi24 e).2
       have bn:Below W.heap.size W (W.alloc (.cells #[.int .u32 0,.int .u32 0] 126)):=(Below.refl _ _).alloc (Nat.le_refl _) _
       have hn:=heap_alloc_new W (.cells #[.int .u32 0,.int .u32 0] 126)
       go_simp
       obtain ⟨h0,h1,h2,h3,h4,h5,h6,h7,h8,h9,h10,h11,h12,h13,h14,h15,h16,h17,h18,h19,h20,h21,h22,h25,gi24,rW,gB,gA,gS⟩:=HI.out
       exact hK'.out _ _ ⟨.mk ..,rfl,rfl,h0,h1,h2,h3,h4,h5,h6,h7,h8,h9,h10,h11,h12,h13,h14,h15,h16,h17,h18,h19,h20,h21,h22,h25,Zf,(row_keep rW bn),(gB.trans (bn.mono gB.size)),(fun _ _=>⟨_,rfl,gB.size,hn⟩),Zf⟩
     · have hn24:b24=false:=by revert hp; cases b24 <;> simp
       have e21:b21=true:=by revert hp; cases b21 <;> simp
       have e23:b23=true:=by revert hp; cases b23 <;> simp
       have e19:b19=true:=by revert hp; cases b19 <;> simp
       clear hp
       obtain rfl:=((Zd (Zg HI.out)).2.1) e21
       subst hn24
       refine inv_op (o:=⟨none,_,_,_,_,_⟩) rfl (fun K' hK'=>?_)
       have gA:=(Ze (Zg HI.out)).2.2.2.1
       obtain ⟨gu,rfl,hlo,hrow⟩:=gA rfl e23
       obtain ⟨hc0,hc1,hz0,hz1⟩:=cells_two hrow
       have hlx:=(Array.getElem?_eq_some_iff.1 hrow).1
       go_simp
       obtain ⟨h0,h1,h2,h3,h4,h5,h6,h7,h8,h9,h10,h11,h12,h13,h14,h15,h16,h17,h18,h19,h20,h21,h22,h25,gi24,rW,gB,gA,gS⟩:=HI.out
       exact hK'.out _ _ ⟨.mk ..,rfl,rfl,h0,h1,h2,h3,h4,h5,h6,h7,h8,h9,h10,h11,h12,h13,h14,h15,h16,h17,h18,h19,h20,h21,h22,h25,(fun _=>⟨e19,e23⟩),(Zp2 rW (Zn rW hrow)),(Zu2 gB hlo),Zf,(fun _=>⟨gu,rfl,hlo,row_put (Zr hrow) 1 _⟩)⟩
     · obtain ⟨rfl,e22,e24⟩:b25=false∧b22=true∧b24=true:=by revert hp; cases b25 <;> cases b22 <;> cases b24 <;> simp
       clear hp
       obtain rfl:=((Zd (Zg HI.out)).2.2.1) e22
       refine Zv 8 fun K' hK'=>?_
       go_simp
       exact hK'.out _ _ ⟨.mk ..,rfl,rfl,Nxt (Nxt (Nxt (Nx4 (Nx16 (Upd (fun _=>rfl)))))) HI.out⟩
    case hdone =>
     rintro ⟨b0,b1,b2,b3,b4,b5,b6,b7,b8,b9,b10,b11,b12,b13,b14,b15,b16,b17,b18,b19,b20,b21,b22,b23,b24,b25,s53,s54,s55,s56,s57,s58,s59,s60,s61,s62,s63,s64,s65,s66,s67,s68,s69,s70,s71,s72,s52,s73,s74,s7,s8⟩ W hI hall
     dsimp only at hI hall ⊢
     have HI:=Zh hI
     clear hI
     obtain rfl:b0=true:=hall 0 (by decide)
     obtain rfl:b1=true:=hall 1 (by decide)
     obtain rfl:b2=true:=hall 2 (by decide)
     obtain rfl:b3=true:=hall 3 (by decide)
     obtain rfl:b4=true:=hall 4 (by decide)
     obtain rfl:b5=true:=hall 5 (by decide)
     obtain rfl:b6=true:=hall 6 (by decide)
     obtain rfl:b7=true:=hall 7 (by decide)
     obtain rfl:b8=true:=hall 8 (by decide)
     obtain rfl:b9=true:=hall 9 (by decide)
     obtain rfl:b10=true:=hall 10 (by decide)
     obtain rfl:b11=true:=hall 11 (by decide)
     obtain rfl:b12=true:=hall 12 (by decide)
     obtain rfl:b13=true:=hall 13 (by decide)
     obtain rfl:b14=true:=hall 14 (by decide)
     obtain rfl:b15=true:=hall 15 (by decide)
     obtain rfl:b16=true:=hall 16 (by decide)
     obtain rfl:b17=true:=hall 17 (by decide)
     obtain rfl:b18=true:=hall 18 (by decide)
     obtain rfl:b19=true:=hall 19 (by decide)
     obtain rfl:b20=true:=hall 20 (by decide)
     obtain rfl:b21=true:=hall 21 (by decide)
     obtain rfl:b22=true:=hall 22 (by decide)
     obtain rfl:b23=true:=hall 23 (by decide)
     obtain rfl:b24=true:=hall 24 (by decide)
     obtain rfl:b25=true:=hall 25 (by decide)
     obtain rfl:=((Zd (Zg HI.out)).2.2.2.1) rfl
     have rW:=(Ze (Zg HI.out)).2.1
     have gB:=(Ze (Zg HI.out)).2.2.1
     have gS:=(Zd (Ze (Zg HI.out)))
     clear HI hall
     obtain ⟨gu,rfl,hlo,hrow⟩:=gS rfl
     have HW2:=Zh (show WorkB B W g _ _ _ _ D l from ⟨HW1.out.lo,rW,HW1.out.isq.below gB,HW1.out.mem.below gB⟩)
     have HR2:=Zh (row_keep HR1.out gB)
     have HB2:=Zh (HB1.out.trans (gB.mono HB1.out.size))
     have hng:g≠gu:=blocks_ne hrow rW (by decide)
     have HU2:=Zh (one_other hrow ⟨g,4,none⟩ (.int .u16 (t:Nat)) hng)
     have hnr:g≠w.heap.size:=blocks_ne HR2.out rW (by decide)
     have HR3:=Zh (one_other HR2.out ⟨g,4,none⟩ (.int .u16 (t:Nat)) hnr)
     have HW3:=Zh (HW2.out.setL t)
     have HS3:=Zh ((Spare.of_below (T:=dirtyW) HB2.out HBB.out).trans (Spare.set (i:=4) (u:=.int .u16 (t:Nat)) HW2.out.row rfl HW2.out.lo))
     clear l0 l1 l2 l3 l4 l5 l6 z0 z1 z2 z3 z4 z5 z6 r0 r1 y0 y1 hlg hlr
     obtain ⟨⟨l0,l1,l2,l3,l4,l5,l6⟩,z0,z1,z2,z3,z4,z5,z6⟩:=cells_seven rW
     have hlg:=(Array.getElem?_eq_some_iff.1 rW).1
     obtain ⟨u0,u1,_⟩:=cells_two HU2.out
     obtain ⟨r0,r1,y0,y1⟩:=cells_two HR3.out
     have hlr:=(Array.getElem?_eq_some_iff.1 HR2.out).1
     clear rW gB gS hlo hrow
     go_wp2
     refine bodyPost_ret (v:=.tuple #[.agg #[.int .u32 (x0:Nat),.int .u32 (x1:Nat)],.int .i64 0]) (by simp [results,Tryz.results64,go_sem,r0,r1]) rfl ⟨rfl,?_,?_⟩
     · exact (HW3.out.stay HR3.out (by decide) (by decide) (by decide) (by decide) 0 _).stay (row_put HR3.out 0 _) (by decide) (by decide) (by decide) (by decide) 1 _
     · exact (HS3.out.new (Nat.le_refl _) HBB.out 0 _).new (Nat.le_refl _) HBB.out 1 _
end Go.Proofs.YtcljffcdpjmmbaaGreat
