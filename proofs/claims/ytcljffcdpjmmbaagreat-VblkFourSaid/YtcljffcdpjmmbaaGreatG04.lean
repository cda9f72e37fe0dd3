import Derived.Deep.RegionHeld3
import Derived.Laws.OwnMore
import Derived.Maps.OwnSet
import Derived.Test.YtcljffcdpjmmbaaGreatG03
namespace Go.Proofs.YtcljffcdpjmmbaaGreat
open Go.RowKit Go.Lib
def AskB (W:World) (g i:Nat) (F C:Value) (A:Int) (F2 C2:Value) (A2 La:Int) (r r0 r1 r2 r3:Req) (b c:Bool):Prop:=W.heap[g]? = some (.cells (bk (cond b F2 F) (cond b C2 C) (cond b A2 A) La (cond c (upd i 0 r r0) r0) (cond c (upd i 1 r r1) r1) (cond c (upd i 2 r r2) r2) (cond c (upd i 3 r r3) r3)) 34 (0,0))
section
variable {W W':World} {g i:Nat} {F C F2 C2:Value} {A A2 La:Int} {r r0 r1 r2 r3:Req} {b c:Bool}
theorem bk_queue {X:World} {g:Nat} {F C F2 C2:Value} {A A2 La:Int} {s0 s1 s2 s3:Req} {t:TypeId} {fr:Nat × Nat} (h:X.heap[g]? = some (.cells (bk F C A La s0 s1 s2 s3) t fr)):((((((X.setCell ⟨g,0,none⟩ (.int .i64 0)).setCell ⟨g,1,none⟩ (.int .i64 16)).setCell ⟨g,2,none⟩ F2).setCell ⟨g,3,none⟩ (.int .u16 A2)).setCell ⟨g,4,none⟩ (.int .u16 La)).setCell ⟨g,5,none⟩ C2).heap[g]? = some (.cells (bk F2 C2 A2 La s0 s1 s2 s3) t fr):=by
 have h2:=row_put (row_put (row_put (row_put (row_put (row_put h 0 (.int .i64 0)) 1 (.int .i64 16)) 2 F2) 3 (.int .u16 A2)) 4 (.int .u16 La)) 5 C2
 have e:((((((bk F C A La s0 s1 s2 s3).setIfInBounds 0 (.int .i64 0)).setIfInBounds 1 (.int .i64 16)).setIfInBounds 2 F2).setIfInBounds 3 (.int .u16 A2)).setIfInBounds 4 (.int .u16 La)).setIfInBounds 5 C2=bk F2 C2 A2 La s0 s1 s2 s3:=by simp [bk]
 rw [e] at h2
 exact h2
theorem AskB.four (h:AskB W g i F C A F2 C2 A2 La r r0 r1 r2 r3 false c):AskB ((((((W.setCell ⟨g,0,none⟩ (.int .i64 0)).setCell ⟨g,1,none⟩ (.int .i64 16)).setCell ⟨g,2,none⟩ F2).setCell ⟨g,3,none⟩ (.int .u16 A2)).setCell ⟨g,4,none⟩ (.int .u16 La)).setCell ⟨g,5,none⟩ C2) g i F C A F2 C2 A2 La r r0 r1 r2 r3 true c:=by
 unfold AskB at h ⊢
 simp only [cond_true,cond_false] at h ⊢
 have h2:=bk_queue (F2:=F2) (C2:=C2) (A2:=A2) h
 exact h2
theorem bk_slot {F C:Value} {A La:Int} {r r0 r1 r2 r3:Req} (i:Nat) (hi:i < 4):((((bk F C A La r0 r1 r2 r3).setIfInBounds (7+i * 4) (.bool r.busy)).setIfInBounds (7+i * 4+1) (.int .i64 r.head)).setIfInBounds (7+i * 4+2) (.bool r.flush)).setIfInBounds (7+i * 4+3) (.int .i64 r.sec)=bk F C A La (upd i 0 r r0) (upd i 1 r r1) (upd i 2 r r2) (upd i 3 r r3):=by
 match i,hi with
 | 0,_=>simp [bk,upd]
 | 1,_=>simp [bk,upd]
 | 2,_=>simp [bk,upd]
 | 3,_=>simp [bk,upd]
theorem slot_put {X:World} {g:Nat} {F C:Value} {A La:Int} {r r0 r1 r2 r3:Req} {t:TypeId} {fr:Nat × Nat} (h:X.heap[g]? = some (.cells (bk F C A La r0 r1 r2 r3) t fr)) (i:Nat) (hi:i < 4):((((X.setCell ⟨g,7+i * 4,none⟩ (.bool r.busy)).setCell ⟨g,7+i * 4+1,none⟩ (.int .i64 r.head)).setCell ⟨g,7+i * 4+2,none⟩ (.bool r.flush)).setCell ⟨g,7+i * 4+3,none⟩ (.int .i64 r.sec)).heap[g]? = some (.cells (bk F C A La (upd i 0 r r0) (upd i 1 r r1) (upd i 2 r r2) (upd i 3 r r3)) t fr):=by
 have h2:=row_put (row_put (row_put (row_put h (7+i * 4) (.bool r.busy)) (7+i * 4+1) (.int .i64 r.head)) (7+i * 4+2) (.bool r.flush)) (7+i * 4+3) (.int .i64 r.sec)
 rw [bk_slot i hi] at h2
 exact h2
theorem AskB.seven (h:AskB W g i F C A F2 C2 A2 La r r0 r1 r2 r3 b false) (hi:i < 4):AskB ((((W.setCell ⟨g,7+i * 4,none⟩ (.bool r.busy)).setCell ⟨g,7+i * 4+1,none⟩ (.int .i64 r.head)).setCell ⟨g,7+i * 4+2,none⟩ (.bool r.flush)).setCell ⟨g,7+i * 4+3,none⟩ (.int .i64 r.sec)) g i F C A F2 C2 A2 La r r0 r1 r2 r3 b true:=by
 unfold AskB at h ⊢
 simp only [cond_true,cond_false] at h ⊢
 have h2:=slot_put (r:=r) h i hi
 exact h2
theorem AskB.slot (h:AskB W g i F C A F2 C2 A2 La r r0 r1 r2 r3 b false) (hi:i < 4) (k:Nat) (hk:k < 4):∃ v,W.cell? ⟨g,7+i * 4+k,none⟩=some v∧W.frozen? ⟨g,7+i * 4+k,none⟩=false:=by
 obtain ⟨v,hv⟩:∃ v,(bk (cond b F2 F) (cond b C2 C) (cond b A2 A) La r0 r1 r2 r3)[7+i * 4+k]? = some v:=⟨_,Array.getElem?_eq_getElem (by show 7+i * 4+k < 23; omega)⟩
 exact ⟨v,(at_cell h (7+i * 4+k) v hv).1,(at_cell h (7+i * 4+k) v hv).2⟩
theorem AskB.slots (h:AskB W g i F C A F2 C2 A2 La r r0 r1 r2 r3 b false) (hi:i < 4):(∃ v,W.cell? ⟨g,7+i * 4,none⟩=some v)∧(∃ v,W.cell? ⟨g,7+i * 4+1,none⟩=some v)∧(∃ v,W.cell? ⟨g,7+i * 4+2,none⟩=some v)∧(∃ v,W.cell? ⟨g,7+i * 4+3,none⟩=some v)∧W.frozen? ⟨g,7+i * 4,none⟩=false∧W.frozen? ⟨g,7+i * 4+1,none⟩=false∧W.frozen? ⟨g,7+i * 4+2,none⟩=false∧W.frozen? ⟨g,7+i * 4+3,none⟩=false:=by
 obtain ⟨v0,a0,b0⟩:=h.slot hi 0 (by decide)
 obtain ⟨v1,a1,b1⟩:=h.slot hi 1 (by decide)
 obtain ⟨v2,a2,b2⟩:=h.slot hi 2 (by decide)
 obtain ⟨v3,a3,b3⟩:=h.slot hi 3 (by decide)
 exact ⟨⟨v0,a0⟩,⟨v1,a1⟩,⟨v2,a2⟩,⟨v3,a3⟩,b0,b1,b2,b3⟩
end
structure BlkAskA where
 (b0 b1 b2 b3 b4 b5 b6 b7:Bool)
 (s78 s79 s80 s81 s82 s83:Value)
structure BlkAskB where
 (b0 b1 b2 b3 b4 b5 b6:Bool)
 (s84 s85 s86 s10 s11:Value)
set_option maxHeartbeats 2000000 in
set_option maxRecDepth 100000 in
theorem ask_write (q:QQ) (r0 r1 r2 r3:Req) (F C v dv:Value) (D:List Value) (l d:List UInt8) (A La A2 H:Int) (i p s gs gd gm:Nat) (w:World) (hv:OwnB 0 w v l) (hm:w.heap[gm]? = some (.cells #[v] 24 (0,0))) (hs:w.heap[gs]? = some (.cells #[.int .i64 (s:Nat)] 3 (0,0))) (hd:w.heap[gd]? = some (.cells #[dv] 22 (0,0))) (hdv:OwnB 0 w dv d) (hdl:d.length=256) (hs2:s < 256) (hq:IsQ 0 w F C q D) (hg:GoodQ q 16) (hbs:q.base=0) (hl:l.length=1700) (hi:firstOf (fun r => !r.busy) r0 r1 r2 r3=(i:Nat)) (hi4:i < 4) (hp:p=500+i * 288) (hf:3≤q.free.length) (e3:((q.avail:Nat):Int)=A) (e4:((q.last:Nat):Int)=La) (e5:(((q.avail+1) % 65536:Nat):Int)=A2) (e6:q.free.getD 0 0=H) :
 Calls Tryz.prog 20 #[.agg #[v],.agg (bk F C A La r0 r1 r2 r3),.agg #[.bool false,.int .i64 0,.bool false,.int .i64 (s:Nat)],.func (.func 21) #[] #[.pointer (some ⟨gm,0,none⟩),.pointer (some ⟨gs,0,none⟩),.pointer (some ⟨gd,0,none⟩)]] w fun e w'=>∃ ra rc F2 C2 D2,e=.returned (.tuple #[.agg #[.slice ra 1700 rc],.agg (bk F2 C2 A2 La (upd i 0 (⟨true,H,false,s⟩:Req) r0) (upd i 1 (⟨true,H,false,s⟩:Req) r1) (upd i 2 (⟨true,H,false,s⟩:Req) r2) (upd i 3 (⟨true,H,false,s⟩:Req) r3)),.int .i64 (i:Nat),.int .i64 0])∧OwnB 0 w' (.slice ra 1700 rc) (addM (layW l p s d) 0 16 q (bsW p))∧IsQ 0 w' F2 C2 (addQ q (bsW p)) D2∧Below w.heap.size w w':=by
 obtain ⟨ma,mc,rfl,hx,hy⟩:=hv.shape
 clear hx hy
 rw [hl] at hv hm ⊢
 obtain ⟨da,dc,rfl,hx,hy⟩:=hdv.shape
 clear hx hy
 rw [hdl] at hdv hd
 obtain ⟨fa,fn,fc,ca,cn,cc,rfl,rfl,hx⟩:=hq.shape
 clear hx
 obtain ⟨t0,t1,t2,t3,t4⟩:=blk_boxes w #[.slice ma 1700 mc] (bk (.slice fa fn fc) (.slice ca cn cc) A La r0 r1 r2 r3) #[.bool false,.int .i64 0,.bool false,.int .i64 (s:Nat)] #[.slice none 0 0] 24 34 31 24
 have t5:Below ((((w.alloc (.cells #[.slice ma 1700 mc] 24)).alloc (.cells (bk (.slice fa fn fc) (.slice ca cn cc) A La r0 r1 r2 r3) 34)).alloc (.cells #[.bool false,.int .i64 0,.bool false,.int .i64 (s:Nat)] 31)).alloc (.cells #[.slice none 0 0] 24)).heap.size ((((w.alloc (.cells #[.slice ma 1700 mc] 24)).alloc (.cells (bk (.slice fa fn fc) (.slice ca cn cc) A La r0 r1 r2 r3) 34)).alloc (.cells #[.bool false,.int .i64 0,.bool false,.int .i64 (s:Nat)] 31)).alloc (.cells #[.slice none 0 0] 24)) (((((w.alloc (.cells #[.slice ma 1700 mc] 24)).alloc (.cells (bk (.slice fa fn fc) (.slice ca cn cc) A La r0 r1 r2 r3) 34)).alloc (.cells #[.bool false,.int .i64 0,.bool false,.int .i64 (s:Nat)] 31)).alloc (.cells #[.slice none 0 0] 24)).alloc (.cells #[.int .i64 0,.int .i64 0,.slice none 0 0,.int .u16 0,.int .u16 0,.slice none 0 0,.int .i64 0,.bool false,.int .i64 0,.bool false,.int .i64 0,.bool false,.int .i64 0,.bool false,.int .i64 0,.bool false,.int .i64 0,.bool false,.int .i64 0,.bool false,.int .i64 0,.bool false,.int .i64 0] 34)):=(Below.refl _ _).alloc (Nat.le_refl _) _
 have t6:=heap_alloc_new ((((w.alloc (.cells #[.slice ma 1700 mc] 24)).alloc (.cells (bk (.slice fa fn fc) (.slice ca cn cc) A La r0 r1 r2 r3) 34)).alloc (.cells #[.bool false,.int .i64 0,.bool false,.int .i64 (s:Nat)] 31)).alloc (.cells #[.slice none 0 0] 24)) (.cells #[.int .i64 0,.int .i64 0,.slice none 0 0,.int .u16 0,.int .u16 0,.slice none 0 0,.int .i64 0,.bool false,.int .i64 0,.bool false,.int .i64 0,.bool false,.int .i64 0,.bool false,.int .i64 0,.bool false,.int .i64 0,.bool false,.int .i64 0,.bool false,.int .i64 0,.bool false,.int .i64 0] 34)
 rw [show ((((w.alloc (.cells #[.slice ma 1700 mc] 24)).alloc (.cells (bk (.slice fa fn fc) (.slice ca cn cc) A La r0 r1 r2 r3) 34)).alloc (.cells #[.bool false,.int .i64 0,.bool false,.int .i64 (s:Nat)] 31)).alloc (.cells #[.slice none 0 0] 24)).heap.size=w.heap.size+1+1+1+1 by simp] at t6
 have RM:=Zh (row_keep t0 t5)
 have RB:=Zh (row_keep t1 t5)
 have RR:=Zh (row_keep t2 t5)
 have RA:=Zh (row_keep t3 t5)
 have RZ:=Zh t6
 have BW:=Zh (t4.trans (t5.mono t4.size))
 have hbx:=t4.trans (t5.mono t4.size)
 have AV:=Zh (hv.below hbx)
 have QQ0:=Zh (hq.below hbx)
 have CM:=Zh (row_keep hm hbx)
 have CS:=Zh (row_keep hs hbx)
 have CD:=Zh (row_keep hd hbx)
 have AD:=Zh (hdv.below hbx)
 have HGM:=Zh (show gm < w.heap.size from (Array.getElem?_eq_some_iff.1 hm).1)
 have HG:=Zh hg
 have HBS:=Zh hbs
 have HL:=Zh hl
 have HI:=Zh hi
 have HE3:=Zh e3
 have HE4:=Zh e4
 have HE5:=Zh e5
 have HE6:=Zh e6
 have HF:=Zh hf
 have HDL:=Zh hdl
 have HS2:=Zh hs2
 have hpb:p+273≤1700:=by omega
 have HPB:=Zh hpb
 have HP:=Zh hp
 have HI4:=Zh hi4
 have HGL:=Zh (show (layW l p s d).length=1700 from (layW_length s (by omega) hdl).trans hl)
 have hpp:(500:Int)+((i:Nat):Int) * 288=(p:Nat):=by omega
 have k0:decide (((i:Nat):Int) < 0)=false:=decide_eq_false (by omega)
 have k1:decide ((1700:Int)≤((p:Nat):Int)+272)=false:=decide_eq_false (by omega)
 clear hv hm hq hg hbs hl hi hp hf e3 e4 e5 e6 t0 t1 t2 t3 t4 t5 t6 hbx hpb hs hd hdv hdl hs2
 go_enter Tryz.func20,Tryz.ntmps20
 go_wp2_with fail
 obtain ⟨w0,hw0⟩:∃ x,x=((((w.alloc (.cells #[.slice ma 1700 mc] 24)).alloc (.cells (bk (.slice fa fn fc) (.slice ca cn cc) A La r0 r1 r2 r3) 34)).alloc (.cells #[.bool false,.int .i64 0,.bool false,.int .i64 (s:Nat)] 31)).alloc (.cells #[.slice none 0 0] 24)).alloc (.cells #[.int .i64 0,.int .i64 0,.slice none 0 0,.int .u16 0,.int .u16 0,.slice none 0 0,.int .i64 0,.bool false,.int .i64 0,.bool false,.int .i64 0,.bool false,.int .i64 0,.bool false,.int .i64 0,.bool false,.int .i64 0,.bool false,.int .i64 0,.bool false,.int .i64 0,.bool false,.int .i64 0] 34):=⟨_,rfl⟩
 rw [←hw0] at RM RB RR RA RZ BW AV QQ0 CM CS CD AD ⊢
 clear hw0
 refine (findFree_any (w.heap.size+1) _ _ _ _ _ _ _ r0 r1 r2 r3 (i:Nat) w0 RB.out HI.out).mono ?_
 rintro e w1 ⟨rfl,hb⟩
 replace RM:=Zk RM hb
 replace RB:=Zk RB hb
 replace RR:=Zk RR hb
 replace RA:=Zk RA hb
 replace RZ:=Zk RZ hb
 replace BW:=Zb BW hb
 replace AV:=Zh (AV.out.below hb)
 replace QQ0:=Zh (QQ0.out.below hb)
 replace CM:=Zk CM hb
 replace CS:=Zk CS hb
 replace CD:=Zk CD hb
 replace AD:=Zh (AD.out.below hb)
 clear hb
 obtain ⟨⟨l0,l1,l2,l3,l4,l5,l6⟩,y0,y1,y2,y3,y4,y5⟩:=bk_cells RB.out
 clear y0 y1 y2 y3 y4 y5
 obtain ⟨m0,mz⟩:=one_cell RM.out
 go_wp2_with fail
 refine (write1_any gm gs gd p s _ _ l d w1 CM.out CS.out CD.out AV.out AD.out HL.out HDL.out HPB.out HS2.out).mono ?_
 rintro e w2 ⟨ra,rc,ba,bc,rfl,hm,hbf,hb⟩
 replace RM:=Zk RM hb
 replace RB:=Zk RB hb
 replace RR:=Zk RR hb
 replace RA:=Zk RA hb
 replace RZ:=Zk RZ hb
 replace BW:=Zb BW hb
 replace AV:=Zh (AV.out.below hb)
 replace QQ0:=Zh (QQ0.out.below hb)
 replace CM:=Zk CM hb
 replace CS:=Zk CS hb
 replace CD:=Zk CD hb
 replace AD:=Zh (AD.out.below hb)
 have AG:=Zh hm
 have BF:=Zh hbf
 clear hm hbf hb l0 l1 l2 l3 l4 l5 l6 m0 mz
 clear AV CM RM CS CD AD
 have HW2:=Zh (show w.heap.size+1+1+1+1 < w2.heap.size from (Array.getElem?_eq_some_iff.1 RZ.out).1)
 have hbx:Below w2.heap.size w2 (w2.alloc (.cells #[.slice ra 1700 rc] 24)):=(Below.refl _ _).alloc (Nat.le_refl _) _
 replace RB:=Zk RB hbx
 replace RR:=Zk RR hbx
 replace RA:=Zk RA hbx
 replace RZ:=Zk RZ hbx
 replace BW:=Zb BW hbx
 replace QQ0:=Zh (QQ0.out.below hbx)
 replace AG:=Zh (AG.out.below hbx)
 replace BF:=Zh (BF.out.below hbx)
 have RN:=Zh (heap_alloc_new w2 (.cells #[.slice ra 1700 rc] 24))
 clear hbx
 obtain ⟨⟨l0,l1,l2,l3,l4,l5,l6⟩,y0,y1,y2,y3,y4,y5⟩:=bk_cells RB.out
 clear y0 y1 y2 y3 y4 y5 l6
 obtain ⟨n0,nz⟩:=one_cell RN.out
 go_wp2_with fail
 refine (add_this q 16 0 _ _ _ _ D (layW l p s d) (bsW p) _ AG.out QQ0.out BF.out HG.out HBS.out (ok1700 HGL.out) (by simp [bsW]) HF.out (by simp [bsW]) (by rw [HGL.out]; exact bsW_in HPB.out) 0 16 A La A2 H 1700 HBS.out HG.out.size HE3.out HE4.out HE5.out HE6.out HGL.out).mono ?_
 rintro e w3 ⟨rb,rd,F2,C2,D2,rfl,hm,hq,hb⟩
 obtain ⟨fb,fbn,fbc,cb,cbn,cbc,rfl,rfl,hx⟩:=hq.shape
 clear hx
 replace RB:=Zk RB hb
 replace RR:=Zk RR hb
 replace RA:=Zk RA hb
 replace RZ:=Zk RZ hb
 replace BW:=Zb BW hb
 replace QQ0:=Zh (QQ0.out.below hb)
 replace AG:=Zh (AG.out.below hb)
 replace BF:=Zh (BF.out.below hb)
 replace RN:=Zk RN hb
 have AH:=Zh hm
 have QN:=Zh hq
 clear hm hq hb l0 l1 l2 l3 l4 l5 n0 nz
 clear AG BF QQ0
 have HW3:=Zh (show w2.heap.size < w3.heap.size from (Array.getElem?_eq_some_iff.1 RN.out).1)
 have hbx:Below w3.heap.size w3 (w3.alloc (.cells #[.int .i64 0,.int .i64 0,.slice none 0 0,.int .u16 0,.int .u16 0,.slice none 0 0] 29)):=(Below.refl _ _).alloc (Nat.le_refl _) _
 replace RB:=Zk RB hbx
 replace RR:=Zk RR hbx
 replace RA:=Zk RA hbx
 replace RZ:=Zk RZ hbx
 replace BW:=Zb BW hbx
 replace RN:=Zk RN hbx
 replace AH:=Zh (AH.out.below hbx)
 replace QN:=Zh (QN.out.below hbx)
 have RQ:=Zh (heap_alloc_new w3 (.cells #[.int .i64 0,.int .i64 0,.slice none 0 0,.int .u16 0,.int .u16 0,.slice none 0 0] 29))
 clear hbx
 obtain ⟨n0,nz⟩:=one_cell RN.out
 have hltn:=(Array.getElem?_eq_some_iff.1 RN.out).1
 have h2:=HW2.out
 have h3:=HW3.out
 replace RB:=Zx RB RN 0 (.slice rb 1700 rd)
 replace RR:=Zx RR RN 0 (.slice rb 1700 rd)
 replace RA:=Zh (one_other RA.out ⟨w2.heap.size,0,none⟩ (.slice rb 1700 rd) (show w2.heap.size≠w.heap.size+1+1+1 by omega))
 replace RZ:=Zx RZ RN 0 (.slice rb 1700 rd)
 replace BW:=Zh (BW.out.setCell (p:=⟨w2.heap.size,0,none⟩) (show w.heap.size≤w2.heap.size by omega) (.slice rb 1700 rd))
 replace AH:=Zh (AH.out.stay RN.out (by decide) 0 (.slice rb 1700 rd))
 replace QN:=Zh (QN.out.stay RN.out (by decide) (by decide) 0 (.slice rb 1700 rd))
 replace RQ:=Zx RQ RN 0 (.slice rb 1700 rd)
 replace RN:=Zh (row_put RN.out 0 (.slice rb 1700 rd))
 obtain ⟨⟨u0,u1,u2,u3,u4,u5⟩,x0,x1,x2,x3,x4,x5⟩:=cells_six RQ.out
 have hltq:=(Array.getElem?_eq_some_iff.1 RQ.out).1
 replace RB:=Zx RB RQ 0 (.int .i64 0)
 replace RR:=Zx RR RQ 0 (.int .i64 0)
 replace RA:=Zx RA RQ 0 (.int .i64 0)
 replace RZ:=Zx RZ RQ 0 (.int .i64 0)
 replace BW:=Zh (BW.out.setCell (p:=⟨w3.heap.size,0,none⟩) (show w.heap.size≤w3.heap.size by omega) (.int .i64 0))
 replace RN:=Zx RN RQ 0 (.int .i64 0)
 replace AH:=Zh (AH.out.stay RQ.out (by decide) 0 (.int .i64 0))
 replace QN:=Zh (QN.out.stay RQ.out (by decide) (by decide) 0 (.int .i64 0))
 replace RQ:=Zh (row_put RQ.out 0 (.int .i64 0))
 replace RB:=Zx RB RQ 1 (.int .i64 16)
 replace RR:=Zx RR RQ 1 (.int .i64 16)
 replace RA:=Zx RA RQ 1 (.int .i64 16)
 replace RZ:=Zx RZ RQ 1 (.int .i64 16)
 replace BW:=Zh (BW.out.setCell (p:=⟨w3.heap.size,1,none⟩) (show w.heap.size≤w3.heap.size by omega) (.int .i64 16))
 replace RN:=Zx RN RQ 1 (.int .i64 16)
 replace AH:=Zh (AH.out.stay RQ.out (by decide) 1 (.int .i64 16))
 replace QN:=Zh (QN.out.stay RQ.out (by decide) (by decide) 1 (.int .i64 16))
 replace RQ:=Zh (row_put RQ.out 1 (.int .i64 16))
 replace RB:=Zx RB RQ 2 (.slice fb fbn fbc)
 replace RR:=Zx RR RQ 2 (.slice fb fbn fbc)
 replace RA:=Zx RA RQ 2 (.slice fb fbn fbc)
 replace RZ:=Zx RZ RQ 2 (.slice fb fbn fbc)
 replace BW:=Zh (BW.out.setCell (p:=⟨w3.heap.size,2,none⟩) (show w.heap.size≤w3.heap.size by omega) (.slice fb fbn fbc))
 replace RN:=Zx RN RQ 2 (.slice fb fbn fbc)
 replace AH:=Zh (AH.out.stay RQ.out (by decide) 2 (.slice fb fbn fbc))
 replace QN:=Zh (QN.out.stay RQ.out (by decide) (by decide) 2 (.slice fb fbn fbc))
 replace RQ:=Zh (row_put RQ.out 2 (.slice fb fbn fbc))
 replace RB:=Zx RB RQ 3 (.int .u16 A2)
 replace RR:=Zx RR RQ 3 (.int .u16 A2)
 replace RA:=Zx RA RQ 3 (.int .u16 A2)
 replace RZ:=Zx RZ RQ 3 (.int .u16 A2)
 replace BW:=Zh (BW.out.setCell (p:=⟨w3.heap.size,3,none⟩) (show w.heap.size≤w3.heap.size by omega) (.int .u16 A2))
 replace RN:=Zx RN RQ 3 (.int .u16 A2)
 replace AH:=Zh (AH.out.stay RQ.out (by decide) 3 (.int .u16 A2))
 replace QN:=Zh (QN.out.stay RQ.out (by decide) (by decide) 3 (.int .u16 A2))
 replace RQ:=Zh (row_put RQ.out 3 (.int .u16 A2))
 replace RB:=Zx RB RQ 4 (.int .u16 La)
 replace RR:=Zx RR RQ 4 (.int .u16 La)
 replace RA:=Zx RA RQ 4 (.int .u16 La)
 replace RZ:=Zx RZ RQ 4 (.int .u16 La)
 replace BW:=Zh (BW.out.setCell (p:=⟨w3.heap.size,4,none⟩) (show w.heap.size≤w3.heap.size by omega) (.int .u16 La))
 replace RN:=Zx RN RQ 4 (.int .u16 La)
 replace AH:=Zh (AH.out.stay RQ.out (by decide) 4 (.int .u16 La))
 replace QN:=Zh (QN.out.stay RQ.out (by decide) (by decide) 4 (.int .u16 La))
 replace RQ:=Zh (row_put RQ.out 4 (.int .u16 La))
 replace RB:=Zx RB RQ 5 (.slice cb cbn cbc)
 replace RR:=Zx RR RQ 5 (.slice cb cbn cbc)
 replace RA:=Zx RA RQ 5 (.slice cb cbn cbc)
 replace RZ:=Zx RZ RQ 5 (.slice cb cbn cbc)
 replace BW:=Zh (BW.out.setCell (p:=⟨w3.heap.size,5,none⟩) (show w.heap.size≤w3.heap.size by omega) (.slice cb cbn cbc))
 replace RN:=Zx RN RQ 5 (.slice cb cbn cbc)
 replace AH:=Zh (AH.out.stay RQ.out (by decide) 5 (.slice cb cbn cbc))
 replace QN:=Zh (QN.out.stay RQ.out (by decide) (by decide) 5 (.slice cb cbn cbc))
 replace RQ:=Zh (row_put RQ.out 5 (.slice cb cbn cbc))
 obtain ⟨⟨v0,v1,v2,v3⟩,c0,c1,c2,c3⟩:=cells_four RR.out
 have hltr:=(Array.getElem?_eq_some_iff.1 RR.out).1
 replace RB:=Zx RB RR 0 (.bool true)
 replace RA:=Zx RA RR 0 (.bool true)
 replace RZ:=Zx RZ RR 0 (.bool true)
 replace BW:=Zh (BW.out.setCell (p:=⟨w.heap.size+1+1,0,none⟩) (show w.heap.size≤w.heap.size+1+1 by omega) (.bool true))
 replace RN:=Zx RN RR 0 (.bool true)
 replace AH:=Zh (AH.out.stay RR.out (by decide) 0 (.bool true))
 replace QN:=Zh (QN.out.stay RR.out (by decide) (by decide) 0 (.bool true))
 replace RQ:=Zx RQ RR 0 (.bool true)
 replace RR:=Zh (row_put RR.out 0 (.bool true))
 replace RB:=Zx RB RR 1 (.int .i64 H)
 replace RA:=Zx RA RR 1 (.int .i64 H)
 replace RZ:=Zx RZ RR 1 (.int .i64 H)
 replace BW:=Zh (BW.out.setCell (p:=⟨w.heap.size+1+1,1,none⟩) (show w.heap.size≤w.heap.size+1+1 by omega) (.int .i64 H))
 replace RN:=Zx RN RR 1 (.int .i64 H)
 replace AH:=Zh (AH.out.stay RR.out (by decide) 1 (.int .i64 H))
 replace QN:=Zh (QN.out.stay RR.out (by decide) (by decide) 1 (.int .i64 H))
 replace RQ:=Zx RQ RR 1 (.int .i64 H)
 replace RR:=Zh (row_put RR.out 1 (.int .i64 H))
 clear h2 h3
 go_wp2_with fail
 obtain ⟨w4,hw4⟩:∃ x,x=((((((((((w3.alloc (.cells #[.int .i64 0,.int .i64 0,.slice none 0 0,.int .u16 0,.int .u16 0,.slice none 0 0] 29)).setCell ⟨w2.heap.size,0,none⟩ (.slice rb 1700 rd)).setCell ⟨w3.heap.size,0,none⟩ (.int .i64 0)).setCell ⟨w3.heap.size,1,none⟩ (.int .i64 16)).setCell ⟨w3.heap.size,2,none⟩ (.slice fb fbn fbc)).setCell ⟨w3.heap.size,3,none⟩ (.int .u16 A2)).setCell ⟨w3.heap.size,4,none⟩ (.int .u16 La)).setCell ⟨w3.heap.size,5,none⟩ (.slice cb cbn cbc)).setCell ⟨w.heap.size+1+1,0,none⟩ (.bool true)).setCell ⟨w.heap.size+1+1,1,none⟩ (.int .i64 H)):=⟨_,rfl⟩
 rw [←hw4] at RB RR RA RZ BW RN AH QN RQ ⊢
 clear hw4 n0 nz hltn hltq hltr u0 u1 u2 u3 u4 u5 x0 x1 x2 x3 x4 x5 v0 v1 v2 v3 c0 c1 c2 c3 k0 k1 hpp
 refine wp_region_rec (X:=BlkAskA) (by kernel_rfl) (by kernel_rfl) (fun x=>#[x.b0,x.b1,x.b2,x.b3,x.b4,x.b5,x.b6,x.b7]) (fun x=>{ tmps:=List.toArray ((.agg #[.slice ma 1700 mc])::(.agg (bk (.slice fa fn fc) (.slice ca cn cc) A La r0 r1 r2 r3))::(.agg #[.bool false,.int .i64 0,.bool false,.int .i64 (s:Nat)])::(.func (.func 21) #[] #[.pointer (some ⟨gm,0,none⟩),.pointer (some ⟨gs,0,none⟩),.pointer (some ⟨gd,0,none⟩)])::(.pointer (some ⟨w.heap.size,0,none⟩))::(.pointer (some ⟨w.heap.size+1,0,none⟩))::(.pointer (some ⟨w.heap.size+1+1,0,none⟩))::undef::(.pointer (some ⟨w.heap.size+1+1+1,0,none⟩))::(.pointer (some ⟨w.heap.size+1+1+1+1,0,none⟩))::(.int .i64 0)::(.int .i64 0)::(.int .i64 (i:Nat))::(.int .i64 (p:Nat))::(.pointer (some ⟨w2.heap.size,0,none⟩))::(.slice ba 3 bc)::(.pointer (some ⟨w3.heap.size,0,none⟩))::(.int .i64 H)::(.int .i64 0)::(.pointer (some ⟨w.heap.size+1,7,none⟩))::(.slice (some ⟨w.heap.size+1,7,none⟩) 4 4)::(.int .i64 (i:Nat))::(.int .i64 (i:Nat))::(.bool false)::undef::undef::undef::undef::undef::undef::undef::(.pointer (some ⟨w.heap.size+1,6,none⟩))::(.int .i64 500)::(.int .i64 (i:Nat))::(.int .i64 ((i:Nat) * 288))::(.int .i64 (p:Nat))::(.int .i64 (p:Nat))::(.int .i64 ((p:Nat)+272))::(.pointer (some ⟨w.heap.size,0,none⟩))::(.slice ma 1700 mc)::(.int .i64 1700)::(.bool false)::undef::undef::undef::undef::undef::undef::undef::(.tuple #[.agg #[.slice ra 1700 rc],.slice ba 3 bc])::(.func (.func 21) #[] #[.pointer (some ⟨gm,0,none⟩),.pointer (some ⟨gs,0,none⟩),.pointer (some ⟨gd,0,none⟩)])::(.int .i64 (p:Nat))::(.tuple #[.agg #[.slice ra 1700 rc],.slice ba 3 bc])::(.agg #[.slice ra 1700 rc])::(.slice ba 3 bc)::(.tuple #[.agg #[.slice rb 1700 rd],.agg #[.int .i64 0,.int .i64 16,.slice fb fbn fbc,.int .u16 A2,.int .u16 La,.slice cb cbn cbc],.int .i64 H,.int .i64 0])::(.agg #[.slice ra 1700 rc])::(.pointer (some ⟨w.heap.size+1,0,none⟩))::(.agg #[.int .i64 0,.int .i64 16,.slice fa fn fc,.int .u16 A,.int .u16 La,.slice ca cn cc])::(.slice ba 3 bc)::(.tuple #[.agg #[.slice rb 1700 rd],.agg #[.int .i64 0,.int .i64 16,.slice fb fbn fbc,.int .u16 A2,.int .u16 La,.slice cb cbn cbc],.int .i64 H,.int .i64 0])::(.agg #[.slice rb 1700 rd])::(.agg #[.int .i64 0,.int .i64 16,.slice fb fbn fbc,.int .u16 A2,.int .u16 La,.slice cb cbn cbc])::(.int .i64 H)::(.int .i64 0)::(.int .i64 0)::(.bool false)::undef::undef::undef::undef::undef::undef::undef::undef::(.int .i64 H)::(.pointer (some ⟨w.heap.size+1+1,0,none⟩))::(.pointer (some ⟨w.heap.size+1+1,1,none⟩))::x.s78::x.s79::x.s80::x.s81::x.s82::x.s83::undef::undef::undef::[]),defers:=[] }) (fun x W=>(x.b0→x.s78=.int .i64 (i:Nat))∧(x.b1→x.s79=.agg #[.int .i64 0,.int .i64 16,.slice fb fbn fbc,.int .u16 A2,.int .u16 La,.slice cb cbn cbc])∧(x.b2→x.s80=.agg #[.bool true,.int .i64 H,.bool false,.int .i64 (s:Nat)])∧(x.b3→x.s81=.pointer (some ⟨w.heap.size+1,0,none⟩))∧(x.b5→x.s82=.pointer (some ⟨w.heap.size+1,7,none⟩))∧(x.b6→x.s83=.pointer (some ⟨w.heap.size+1,7+i * 4,none⟩))∧(W.heap[w3.heap.size]? = some (.cells #[.int .i64 0,.int .i64 16,.slice fb fbn fbc,.int .u16 A2,.int .u16 La,.slice cb cbn cbc] 29 (0,0)))∧(W.heap[w.heap.size+1+1]? = some (.cells #[.bool true,.int .i64 H,.bool false,.int .i64 (s:Nat)] 31 (0,0)))∧(W.heap[w2.heap.size]? = some (.cells #[.slice rb 1700 rd] 24 (0,0)))∧(W.heap[w.heap.size+1+1+1]? = some (.cells #[.slice none 0 0] 24 (0,0)))∧(W.heap[w.heap.size+1+1+1+1]? = some (.cells (bk0) 34 (0,0)))∧(Below w.heap.size w W)∧(OwnB 0 W (.slice rb 1700 rd) (addM (layW l p s d) 0 16 q (bsW p)))∧(IsQ 0 W (.slice fb fbn fbc) (.slice cb cbn cbc) (addQ q (bsW p)) D2)∧(AskB W (w.heap.size+1) i (.slice fa fn fc) (.slice ca cn cc) A (.slice fb fbn fbc) (.slice cb cbn cbc) A2 La (⟨true,H,false,s⟩:Req) r0 r1 r2 r3 x.b4 x.b7)) ⟨false,false,false,false,false,false,false,false,undef,undef,undef,undef,undef,undef⟩ rfl rfl ⟨Zf,Zf,Zf,Zf,Zf,Zf,RQ.out,RR.out,RN.out,RA.out,RZ.out,BW.out.drew,AH.out.drew,QN.out.drew,RB.out⟩ (fun _=>rfl) ?hstep ?hdone
 case hstep =>
  rintro ⟨b0,b1,b2,b3,b4,b5,b6,b7,s78,s79,s80,s81,s82,s83⟩ W hI i hi
  dsimp only at hI hi ⊢
  have HI:=Zh hI
  clear hI
  rw [Region.ready,List.mem_filter,List.mem_range] at hi
  obtain ⟨hlt,hp⟩:=hi
  have hi7:i=0∨i=1∨i=2∨i=3∨i=4∨i=5∨i=6∨i=7:=by simp at hlt; omega
  clear hlt
  rcases hi7 with rfl|rfl|rfl|rfl|rfl|rfl|rfl|rfl
  all_goals simp [Region.binds] at hp
  · obtain rfl:b0=false:=by revert hp; cases b0 <;> simp
    clear hp; refine Zv 78 fun K' hK'=>?_
    go_simp
    exact hK'.out _ _ ⟨.mk ..,rfl,rfl,(Upd (fun _=>rfl)) HI.out⟩
  · obtain rfl:b1=false:=by revert hp; cases b1 <;> simp
    clear hp; refine Zv 79 fun K' hK'=>?_
    have rQ:=(Zd HI.out).2.2.1
    obtain ⟨hc0,_⟩:=at_cell rQ 0 _ rfl
    obtain ⟨hc1,_⟩:=at_cell rQ 1 _ rfl
    obtain ⟨hc2,_⟩:=at_cell rQ 2 _ rfl
    obtain ⟨hc3,_⟩:=at_cell rQ 3 _ rfl
    obtain ⟨hc4,_⟩:=at_cell rQ 4 _ rfl
    obtain ⟨hc5,_⟩:=at_cell rQ 5 _ rfl
    go_simp
    exact hK'.out _ _ ⟨.mk ..,rfl,rfl,Nxt (Upd (fun _=>rfl)) HI.out⟩
  · obtain rfl:b2=false:=by revert hp; cases b2 <;> simp
    clear hp; refine Zv 80 fun K' hK'=>?_
    have rR:=(Zd HI.out).2.2.2.1
    obtain ⟨hc0,_⟩:=at_cell rR 0 _ rfl
    obtain ⟨hc1,_⟩:=at_cell rR 1 _ rfl
    obtain ⟨hc2,_⟩:=at_cell rR 2 _ rfl
    obtain ⟨hc3,_⟩:=at_cell rR 3 _ rfl
    go_simp
    exact hK'.out _ _ ⟨.mk ..,rfl,rfl,Nxt (Nxt (Upd (fun _=>rfl))) HI.out⟩
  · obtain rfl:b3=false:=by revert hp; cases b3 <;> simp
    clear hp; refine Zv 81 fun K' hK'=>?_
    go_simp
    exact hK'.out _ _ ⟨.mk ..,rfl,rfl,Nxt (Nxt (Nxt (Upd (fun _=>rfl)))) HI.out⟩
  · obtain ⟨rfl,e1,e3⟩:b4=false∧b1=true∧b3=true:=by revert hp; cases b4 <;> cases b1 <;> cases b3 <;> simp
    clear hp
    obtain rfl:=(HI.out.2.1) e1
    obtain rfl:=(HI.out.2.2.2.1) e3
    refine inv_op (o:=⟨none,_,_,_,_,_⟩) rfl (fun K' hK'=>?_)
    have rQ:=(Zd HI.out).2.2.1
    have gK:=(Zd (Ze HI.out)).2.2
    have hrow:=gK
    have hrs:=rQ
    obtain ⟨⟨l0,l1,l2,l3,l4,l5,l6⟩,z0,z1,z2,z3,z4,z5⟩:=bk_cells hrow
    have hlt:=(Array.getElem?_eq_some_iff.1 hrow).1
    go_simp
    obtain ⟨h0,h1,h2,h3,h5,h6,rQ,rR,rN,rA,rZ,gB,gV,gQ,gK⟩:=HI.out
    exact hK'.out _ _ ⟨.mk ..,rfl,rfl,h0,h1,h2,h3,h5,h6,(Zp6 rQ (Zn rQ gK)),(Zp6 rR (Zn rR gK)),(Zp6 rN (Zn rN gK)),(Zp6 rA (Zn rA gK)),(Zp6 rZ (show w.heap.size+1≠w.heap.size+1+1+1+1 by omega)),(Zu6 gB (show w.heap.size≤w.heap.size+1 by omega)),((((((gV.stay gK (by decide) _ _).stay (Zr gK) (by decide) _ _).stay (Zr (Zr gK)) (by decide) _ _).stay (Zr (Zr (Zr gK))) (by decide) _ _).stay (Zr (Zr (Zr (Zr gK)))) (by decide) _ _).stay (Zr (Zr (Zr (Zr (Zr gK))))) (by decide) _ _),((((((gQ.stay gK (by decide) (by decide) _ _).stay (Zr gK) (by decide) (by decide) _ _).stay (Zr (Zr gK)) (by decide) (by decide) _ _).stay (Zr (Zr (Zr gK))) (by decide) (by decide) _ _).stay (Zr (Zr (Zr (Zr gK)))) (by decide) (by decide) _ _).stay (Zr (Zr (Zr (Zr (Zr gK))))) (by decide) (by decide) _ _),gK.four⟩
  · obtain rfl:b5=false:=by revert hp; cases b5 <;> simp
    clear hp; refine Zv 82 fun K' hK'=>?_
    go_simp
    exact hK'.out _ _ ⟨.mk ..,rfl,rfl,Nx4 (Upd (fun _=>rfl)) HI.out⟩
  · obtain ⟨rfl,e0,e5⟩:b6=false∧b0=true∧b5=true:=by revert hp; cases b6 <;> cases b0 <;> cases b5 <;> simp
    clear hp
    obtain rfl:=(HI.out.1) e0
    obtain rfl:=((Zd HI.out).1) e5
    refine Zv 83 fun K' hK'=>?_
    have hi4:=HI4.out
    have hlt4:(i:Int) < 4:=by omega
    go_simp
    exact hK'.out _ _ ⟨.mk ..,rfl,rfl,Nxt (Nx4 (Upd (fun _=>rfl))) HI.out⟩
  · have hn7:b7=false:=by revert hp; cases b7 <;> simp
    have e2:b2=true:=by revert hp; cases b2 <;> simp
    have e6:b6=true:=by revert hp; cases b6 <;> simp
    have e4:b4=true:=by revert hp; cases b4 <;> simp
    clear hp
    obtain rfl:=(HI.out.2.2.1) e2
    obtain rfl:=((Zd HI.out).2.1) e6
    subst hn7
    refine inv_op (o:=⟨none,_,_,_,_,_⟩) rfl (fun K' hK'=>?_)
    have gK:=(Zd (Ze HI.out)).2.2
    have hrow:=gK
    have hi4:=HI4.out
    obtain ⟨⟨v0,l0⟩,⟨v1,l1⟩,⟨v2,l2⟩,⟨v3,l3⟩,z0,z1,z2,z3⟩:=hrow.slots hi4
    have hlt:=(Array.getElem?_eq_some_iff.1 hrow).1
    go_simp
    obtain ⟨h0,h1,h2,h3,h5,h6,rQ,rR,rN,rA,rZ,gB,gV,gQ,gK⟩:=HI.out
    exact hK'.out _ _ ⟨.mk ..,rfl,rfl,h0,h1,h2,h3,h5,h6,(Zp4 rQ (Zn rQ gK)),(Zp4 rR (Zn rR gK)),(Zp4 rN (Zn rN gK)),(Zp4 rA (Zn rA gK)),(Zp4 rZ (show w.heap.size+1≠w.heap.size+1+1+1+1 by omega)),(Zu4 gB (show w.heap.size≤w.heap.size+1 by omega)),((((gV.stay gK (by decide) _ _).stay (Zr gK) (by decide) _ _).stay (Zr (Zr gK)) (by decide) _ _).stay (Zr (Zr (Zr gK))) (by decide) _ _),((((gQ.stay gK (by decide) (by decide) _ _).stay (Zr gK) (by decide) (by decide) _ _).stay (Zr (Zr gK)) (by decide) (by decide) _ _).stay (Zr (Zr (Zr gK))) (by decide) (by decide) _ _),(gK.seven HI4.out)⟩
 case hdone =>
  rintro ⟨b0,b1,b2,b3,b4,b5,b6,b7,s78,s79,s80,s81,s82,s83⟩ W hI hall
  dsimp only at hI hall ⊢
  have HI:=Zh hI
  clear hI
  obtain rfl:b0=true:=hall 0 (by decide)
  obtain rfl:b1=true:=hall 1 (by decide)
  obtain rfl:b2=true:=hall 2 (by decide)
  obtain rfl:b3=true:=hall 3 (by decide)
  obtain rfl:b4=true:=hall 4 (by decide)
  obtain rfl:b5=true:=hall 5 (by decide)
  obtain rfl:b6=true:=hall 6 (by decide)
  obtain rfl:b7=true:=hall 7 (by decide)
  obtain rfl:=((Zd HI.out).2.1) rfl
  have gK:=(Zd (Ze HI.out)).2.2
  have gB:=(Ze HI.out).2.2.2.1
  have gV:=(Zd (Ze HI.out)).1
  have gQ:=(Zd (Ze HI.out)).2.1
  have rN:=(Ze HI.out).1
  have rA:=(Ze HI.out).2.1
  have rZ:=(Ze HI.out).2.2.1
  clear HI hall
  have HB:=Zh (show W.heap[w.heap.size+1]? = some (.cells (bk (.slice fb fbn fbc) (.slice cb cbn cbc) A2 La (upd i 0 (⟨true,H,false,s⟩:Req) r0) (upd i 1 (⟨true,H,false,s⟩:Req) r1) (upd i 2 (⟨true,H,false,s⟩:Req) r2) (upd i 3 (⟨true,H,false,s⟩:Req) r3)) 34 (0,0)) from gK)
  have HV2:=Zh gV
  have HQ2:=Zh gQ
  have HN2:=Zh rN
  have HA2:=Zh rA
  have HZ2:=Zh rZ
  have HW:=Zh gB
  clear gK gB gV gQ rN rA rZ
  go_wp2_with fail
  obtain ⟨w5,hw5⟩:∃ x,x=W:=⟨_,rfl⟩
  rw [←hw5] at HB HV2 HQ2 HN2 HA2 HZ2 HW ⊢
  clear hw5
  refine wp_region_rec (X:=BlkAskB) (by kernel_rfl) (by kernel_rfl) (fun x=>#[x.b0,x.b1,x.b2,x.b3,x.b4,x.b5,x.b6]) (fun x=>{ tmps:=List.toArray ((.agg #[.slice ma 1700 mc])::(.agg (bk (.slice fa fn fc) (.slice ca cn cc) A La r0 r1 r2 r3))::(.agg #[.bool false,.int .i64 0,.bool false,.int .i64 (s:Nat)])::(.func (.func 21) #[] #[.pointer (some ⟨gm,0,none⟩),.pointer (some ⟨gs,0,none⟩),.pointer (some ⟨gd,0,none⟩)])::(.pointer (some ⟨w.heap.size,0,none⟩))::(.pointer (some ⟨w.heap.size+1,0,none⟩))::(.pointer (some ⟨w.heap.size+1+1,0,none⟩))::undef::(.pointer (some ⟨w.heap.size+1+1+1,0,none⟩))::(.pointer (some ⟨w.heap.size+1+1+1+1,0,none⟩))::x.s10::x.s11::(.int .i64 (i:Nat))::(.int .i64 (p:Nat))::(.pointer (some ⟨w2.heap.size,0,none⟩))::(.slice ba 3 bc)::(.pointer (some ⟨w3.heap.size,0,none⟩))::(.int .i64 H)::(.int .i64 0)::(.pointer (some ⟨w.heap.size+1,7,none⟩))::(.slice (some ⟨w.heap.size+1,7,none⟩) 4 4)::(.int .i64 (i:Nat))::(.int .i64 (i:Nat))::(.bool false)::undef::undef::undef::undef::undef::undef::undef::(.pointer (some ⟨w.heap.size+1,6,none⟩))::(.int .i64 500)::(.int .i64 (i:Nat))::(.int .i64 ((i:Nat) * 288))::(.int .i64 (p:Nat))::(.int .i64 (p:Nat))::(.int .i64 ((p:Nat)+272))::(.pointer (some ⟨w.heap.size,0,none⟩))::(.slice ma 1700 mc)::(.int .i64 1700)::(.bool false)::undef::undef::undef::undef::undef::undef::undef::(.tuple #[.agg #[.slice ra 1700 rc],.slice ba 3 bc])::(.func (.func 21) #[] #[.pointer (some ⟨gm,0,none⟩),.pointer (some ⟨gs,0,none⟩),.pointer (some ⟨gd,0,none⟩)])::(.int .i64 (p:Nat))::(.tuple #[.agg #[.slice ra 1700 rc],.slice ba 3 bc])::(.agg #[.slice ra 1700 rc])::(.slice ba 3 bc)::(.tuple #[.agg #[.slice rb 1700 rd],.agg #[.int .i64 0,.int .i64 16,.slice fb fbn fbc,.int .u16 A2,.int .u16 La,.slice cb cbn cbc],.int .i64 H,.int .i64 0])::(.agg #[.slice ra 1700 rc])::(.pointer (some ⟨w.heap.size+1,0,none⟩))::(.agg #[.int .i64 0,.int .i64 16,.slice fa fn fc,.int .u16 A,.int .u16 La,.slice ca cn cc])::(.slice ba 3 bc)::(.tuple #[.agg #[.slice rb 1700 rd],.agg #[.int .i64 0,.int .i64 16,.slice fb fbn fbc,.int .u16 A2,.int .u16 La,.slice cb cbn cbc],.int .i64 H,.int .i64 0])::(.agg #[.slice rb 1700 rd])::(.agg #[.int .i64 0,.int .i64 16,.slice fb fbn fbc,.int .u16 A2,.int .u16 La,.slice cb cbn cbc])::(.int .i64 H)::(.int .i64 0)::(.int .i64 0)::(.bool false)::undef::undef::undef::undef::undef::undef::undef::undef::(.int .i64 H)::(.pointer (some ⟨w.heap.size+1+1,0,none⟩))::(.pointer (some ⟨w.heap.size+1+1,1,none⟩))::s78::s79::s80::s81::s82::(.pointer (some ⟨w.heap.size+1,7+i * 4,none⟩))::x.s84::x.s85::x.s86::[]),defers:=[] }) (fun x W=>(x.b0→x.s84=.agg #[.slice rb 1700 rd])∧(x.b1→x.s85=.agg (bk (.slice fb fbn fbc) (.slice cb cbn cbc) A2 La (upd i 0 (⟨true,H,false,s⟩:Req) r0) (upd i 1 (⟨true,H,false,s⟩:Req) r1) (upd i 2 (⟨true,H,false,s⟩:Req) r2) (upd i 3 (⟨true,H,false,s⟩:Req) r3)))∧(x.b2→x.s86=.int .i64 (i:Nat))∧(x.b5→x.s10=.int .i64 (i:Nat))∧(x.b6→x.s11=.int .i64 0)∧(x.b4→x.b3)∧(W.heap[w2.heap.size]? = some (.cells #[.slice rb 1700 rd] 24 (0,0)))∧(W.heap[w.heap.size+1]? = some (.cells (bk (.slice fb fbn fbc) (.slice cb cbn cbc) A2 La (upd i 0 (⟨true,H,false,s⟩:Req) r0) (upd i 1 (⟨true,H,false,s⟩:Req) r1) (upd i 2 (⟨true,H,false,s⟩:Req) r2) (upd i 3 (⟨true,H,false,s⟩:Req) r3)) 34 (0,0)))∧(x.b3=false→W.heap[w.heap.size+1+1+1]? = some (.cells #[.slice none 0 0] 24 (0,0)))∧(x.b3→W.heap[w.heap.size+1+1+1]? = some (.cells #[.slice rb 1700 rd] 24 (0,0)))∧(x.b4=false→W.heap[w.heap.size+1+1+1+1]? = some (.cells (bk0) 34 (0,0)))∧(x.b4→W.heap[w.heap.size+1+1+1+1]? = some (.cells (bk (.slice fb fbn fbc) (.slice cb cbn cbc) A2 La (upd i 0 (⟨true,H,false,s⟩:Req) r0) (upd i 1 (⟨true,H,false,s⟩:Req) r1) (upd i 2 (⟨true,H,false,s⟩:Req) r2) (upd i 3 (⟨true,H,false,s⟩:Req) r3)) 34 (0,0)))∧(Below w.heap.size w W)∧(OwnB 0 W (.slice rb 1700 rd) (addM (layW l p s d) 0 16 q (bsW p)))∧(IsQ 0 W (.slice fb fbn fbc) (.slice cb cbn cbc) (addQ q (bsW p)) D2)) ⟨false,false,false,false,false,false,false,undef,undef,undef,.int .i64 0,.int .i64 0⟩ rfl rfl ⟨Zf,Zf,Zf,Zf,Zf,Zf,HN2.out,HB.out,(fun _=>HA2.out),Zf,(fun _=>HZ2.out),Zf,HW.out.drew,HV2.out.drew,HQ2.out.drew⟩ (fun _=>rfl) ?hstep ?hdone
  case hstep =>
   rintro ⟨b0,b1,b2,b3,b4,b5,b6,s84,s85,s86,s10,s11⟩ W hI i hi
   dsimp only at hI hi ⊢
   have HI:=Zh hI
   clear hI
   rw [Region.ready,List.mem_filter,List.mem_range] at hi
   obtain ⟨hlt,hp⟩:=hi
   have hi7:i=0∨i=1∨i=2∨i=3∨i=4∨i=5∨i=6:=by simp at hlt; omega
   clear hlt
   rcases hi7 with rfl|rfl|rfl|rfl|rfl|rfl|rfl
   all_goals simp [Region.binds] at hp
   · obtain rfl:b0=false:=by revert hp; cases b0 <;> simp
     clear hp; refine Zv 84 fun K' hK'=>?_
     have rN:=(Zd HI.out).2.2.1
     obtain ⟨hc0,_⟩:=at_cell rN 0 _ rfl
     go_simp
     exact hK'.out _ _ ⟨.mk ..,rfl,rfl,(Upd (fun _=>rfl)) HI.out⟩
   · obtain rfl:b1=false:=by revert hp; cases b1 <;> simp
     clear hp; refine Zv 85 fun K' hK'=>?_
     have rB:=(Zd HI.out).2.2.2.1
     refine step_blk_load rfl _ rfl _ rfl _ rB rfl ?_
     exact hK'.out _ _ ⟨.mk ..,rfl,rfl,Nxt (Upd (fun _=>rfl)) HI.out⟩
   · obtain rfl:b2=false:=by revert hp; cases b2 <;> simp
     clear hp; refine Zv 86 fun K' hK'=>?_
     go_simp
     exact hK'.out _ _ ⟨.mk ..,rfl,rfl,Nxt (Nxt (Upd (fun _=>rfl))) HI.out⟩
   · obtain ⟨rfl,e0⟩:b3=false∧b0=true:=by revert hp; cases b3 <;> cases b0 <;> simp
     clear hp
     obtain rfl:=(HI.out.1) e0
     refine inv_op (o:=⟨none,_,_,_,_,_⟩) rfl (fun K' hK'=>?_)
     have gi4:=(Zd HI.out).2.1
     have rA0:=(Ze HI.out).1
     obtain rfl:b4=false:=Zz fun e=>(gi4 e)
     obtain ⟨hc0,hz0⟩:=at_cell (rA0 rfl) 0 _ rfl
     have hlt:=(Array.getElem?_eq_some_iff.1 (rA0 rfl)).1
     go_simp
     obtain ⟨h0,h1,h2,h5,h6,gi4,rN,rB,rA0,rA1,rZ0,rZ1,gB,gV,gQ⟩:=HI.out
     exact hK'.out _ _ ⟨.mk ..,rfl,rfl,h0,h1,h2,h5,h6,Zf,(Zp1 rN (show w.heap.size+1+1+1≠w2.heap.size from by have:=HW2.out; omega)),(Zp1 rB (Zn rB (rA0 rfl))),Zf,(fun _=>(Zr (rA0 rfl))),(fun e=>(Zp1 (rZ0 e) (Zn (rZ0 e) (rA0 rfl)))),Zf,(Zu1 gB (show w.heap.size≤w.heap.size+1+1+1 by omega)),(gV.stay (rA0 rfl) (by decide) _ _),(gQ.stay (rA0 rfl) (by decide) (by decide) _ _)⟩
   · obtain ⟨rfl,e1,e3⟩:b4=false∧b1=true∧b3=true:=by revert hp; cases b4 <;> cases b1 <;> cases b3 <;> simp
     clear hp
     obtain rfl:=(HI.out.2.1) e1
     refine inv_op (o:=⟨none,_,_,_,_,_⟩) rfl (fun K' hK'=>?_)
     have rZ0:=(Ze HI.out).2.2.1
     refine step_blk_store rfl _ _ rfl _ _ rfl rfl _ (rZ0 rfl) rfl rfl (bk_one rfl rfl) ?_
     obtain ⟨h0,h1,h2,h5,h6,gi4,rN,rB,rA0,rA1,rZ0,rZ1,gB,gV,gQ⟩:=HI.out
     exact hK'.out _ _ ⟨.mk ..,rfl,rfl,h0,h1,h2,h5,h6,(fun _=>e3),(row_other rN _ (Zn rN (rZ0 rfl))),(row_other rB _ (show w.heap.size+1+1+1+1≠w.heap.size+1 by omega)),(fun e=>(row_other (rA0 e) _ (Zn (rA0 e) (rZ0 rfl)))),(fun e=>(row_other (rA1 e) _ (Zn (rA1 e) (rZ0 rfl)))),Zf,(fun _=>row_self (rZ0 rfl) (bk (.slice fb fbn fbc) (.slice cb cbn cbc) A2 La (upd i 0 (⟨true,H,false,s⟩:Req) r0) (upd i 1 (⟨true,H,false,s⟩:Req) r1) (upd i 2 (⟨true,H,false,s⟩:Req) r2) (upd i 3 (⟨true,H,false,s⟩:Req) r3))),(below_row gB (show w.heap.size≤w.heap.size+1+1+1+1 by omega) _),(gV.row (rZ0 rfl) _),(gQ.row (rZ0 rfl) _)⟩
   · obtain ⟨rfl,e2,e4⟩:b5=false∧b2=true∧b4=true:=by revert hp; cases b5 <;> cases b2 <;> cases b4 <;> simp
     clear hp
     obtain rfl:=(HI.out.2.2.1) e2
     refine Zv 10 fun K' hK'=>?_
     go_simp
     exact hK'.out _ _ ⟨.mk ..,rfl,rfl,Nxt (Nxt (Nxt (Upd (fun _=>rfl)))) HI.out⟩
   · obtain ⟨rfl,e5⟩:b6=false∧b5=true:=by revert hp; cases b6 <;> cases b5 <;> simp
     clear hp; refine Zv 11 fun K' hK'=>?_
     go_simp
     exact hK'.out _ _ ⟨.mk ..,rfl,rfl,Nx4 (Upd (fun _=>rfl)) HI.out⟩
  case hdone =>
   rintro ⟨b0,b1,b2,b3,b4,b5,b6,s84,s85,s86,s10,s11⟩ W hI hall
   dsimp only at hI hall ⊢
   have HI:=Zh hI
   clear hI
   obtain rfl:b0=true:=hall 0 (by decide)
   obtain rfl:b1=true:=hall 1 (by decide)
   obtain rfl:b2=true:=hall 2 (by decide)
   obtain rfl:b3=true:=hall 3 (by decide)
   obtain rfl:b4=true:=hall 4 (by decide)
   obtain rfl:b5=true:=hall 5 (by decide)
   obtain rfl:b6=true:=hall 6 (by decide)
   obtain rfl:=(HI.out.2.2.2.1) rfl
   obtain rfl:=((Zd HI.out).1) rfl
   have rA1:=(Ze HI.out).2.1
   have rZ1:=(Ze HI.out).2.2.2.1
   have gB:=(Zd (Ze HI.out)).1
   have gV:=(Zd (Ze HI.out)).2.1
   have gQ:=(Zd (Ze HI.out)).2.2
   clear HI hall
   have HA3:=rA1 rfl
   have HZ3:=rZ1 rfl
   have HB4:=Zh gB
   have HV4:=Zh gV
   have HQ4:=Zh gQ
   clear rA1 rZ1 gB gV gQ
   go_wp2
   exact bodyPost_ret (results_mbtt rfl rfl rfl HA3 HZ3 rfl) rfl ⟨_,_,_,_,_,rfl,HV4.out,HQ4.out,HB4.out⟩
structure BlkAskC where
 (b0 b1 b2 b3 b4 b5 b6 b7:Bool)
 (s78 s79 s80 s81 s82 s83:Value)
structure BlkAskD where
 (b0 b1 b2 b3 b4 b5 b6:Bool)
 (s84 s85 s86 s10 s11:Value)
set_option maxHeartbeats 2000000 in
set_option maxRecDepth 100000 in
theorem ask_flush (q:QQ) (r0 r1 r2 r3:Req) (F C v:Value) (D:List Value) (l:List UInt8) (A La A2 H:Int) (i p gm:Nat) (w:World) (hv:OwnB 0 w v l) (hm:w.heap[gm]? = some (.cells #[v] 24 (0,0))) (hq:IsQ 0 w F C q D) (hg:GoodQ q 16) (hbs:q.base=0) (hl:l.length=1700) (hi:firstOf (fun r => !r.busy) r0 r1 r2 r3=(i:Nat)) (hi4:i < 4) (hp:p=500+i * 288) (hf:2≤q.free.length) (e3:((q.avail:Nat):Int)=A) (e4:((q.last:Nat):Int)=La) (e5:(((q.avail+1) % 65536:Nat):Int)=A2) (e6:q.free.getD 0 0=H) :
 Calls Tryz.prog 20 #[.agg #[v],.agg (bk F C A La r0 r1 r2 r3),.agg #[.bool false,.int .i64 0,.bool true,.int .i64 0],.func (.func 45) #[] #[.pointer (some ⟨gm,0,none⟩)]] w fun e w'=>∃ ra rc F2 C2 D2,e=.returned (.tuple #[.agg #[.slice ra 1700 rc],.agg (bk F2 C2 A2 La (upd i 0 (⟨true,H,true,0⟩:Req) r0) (upd i 1 (⟨true,H,true,0⟩:Req) r1) (upd i 2 (⟨true,H,true,0⟩:Req) r2) (upd i 3 (⟨true,H,true,0⟩:Req) r3)),.int .i64 (i:Nat),.int .i64 0])∧OwnB 0 w' (.slice ra 1700 rc) (addM (layN l p 4 0) 0 16 q (bsF p))∧IsQ 0 w' F2 C2 (addQ q (bsF p)) D2∧Below w.heap.size w w':=by
 obtain ⟨ma,mc,rfl,hx,hy⟩:=hv.shape
 clear hx hy
 rw [hl] at hv hm ⊢
 obtain ⟨fa,fn,fc,ca,cn,cc,rfl,rfl,hx⟩:=hq.shape
 clear hx
 obtain ⟨t0,t1,t2,t3,t4⟩:=blk_boxes w #[.slice ma 1700 mc] (bk (.slice fa fn fc) (.slice ca cn cc) A La r0 r1 r2 r3) #[.bool false,.int .i64 0,.bool true,.int .i64 0] #[.slice none 0 0] 24 34 31 24
 have t5:Below ((((w.alloc (.cells #[.slice ma 1700 mc] 24)).alloc (.cells (bk (.slice fa fn fc) (.slice ca cn cc) A La r0 r1 r2 r3) 34)).alloc (.cells #[.bool false,.int .i64 0,.bool true,.int .i64 0] 31)).alloc (.cells #[.slice none 0 0] 24)).heap.size ((((w.alloc (.cells #[.slice ma 1700 mc] 24)).alloc (.cells (bk (.slice fa fn fc) (.slice ca cn cc) A La r0 r1 r2 r3) 34)).alloc (.cells #[.bool false,.int .i64 0,.bool true,.int .i64 0] 31)).alloc (.cells #[.slice none 0 0] 24)) (((((w.alloc (.cells #[.slice ma 1700 mc] 24)).alloc (.cells (bk (.slice fa fn fc) (.slice ca cn cc) A La r0 r1 r2 r3) 34)).alloc (.cells #[.bool false,.int .i64 0,.bool true,.int .i64 0] 31)).alloc (.cells #[.slice none 0 0] 24)).alloc (.cells #[.int .i64 0,.int .i64 0,.slice none 0 0,.int .u16 0,.int .u16 0,.slice none 0 0,.int .i64 0,.bool false,.int .i64 0,.bool false,.int .i64 0,.bool false,.int .i64 0,.bool false,.int .i64 0,.bool false,.int .i64 0,.bool false,.int .i64 0,.bool false,.int .i64 0,.bool false,.int .i64 0] 34)):=(Below.refl _ _).alloc (Nat.le_refl _) _
 have t6:=heap_alloc_new ((((w.alloc (.cells #[.slice ma 1700 mc] 24)).alloc (.cells (bk (.slice fa fn fc) (.slice ca cn cc) A La r0 r1 r2 r3) 34)).alloc (.cells #[.bool false,.int .i64 0,.bool true,.int .i64 0] 31)).alloc (.cells #[.slice none 0 0] 24)) (.cells #[.int .i64 0,.int .i64 0,.slice none 0 0,.int .u16 0,.int .u16 0,.slice none 0 0,.int .i64 0,.bool false,.int .i64 0,.bool false,.int .i64 0,.bool false,.int .i64 0,.bool false,.int .i64 0,.bool false,.int .i64 0,.bool false,.int .i64 0,.bool false,.int .i64 0,.bool false,.int .i64 0] 34)
 rw [show ((((w.alloc (.cells #[.slice ma 1700 mc] 24)).alloc (.cells (bk (.slice fa fn fc) (.slice ca cn cc) A La r0 r1 r2 r3) 34)).alloc (.cells #[.bool false,.int .i64 0,.bool true,.int .i64 0] 31)).alloc (.cells #[.slice none 0 0] 24)).heap.size=w.heap.size+1+1+1+1 by simp] at t6
 have RM:=Zh (row_keep t0 t5)
 have RB:=Zh (row_keep t1 t5)
 have RR:=Zh (row_keep t2 t5)
 have RA:=Zh (row_keep t3 t5)
 have RZ:=Zh t6
 have BW:=Zh (t4.trans (t5.mono t4.size))
 have hbx:=t4.trans (t5.mono t4.size)
 have AV:=Zh (hv.below hbx)
 have QQ0:=Zh (hq.below hbx)
 have CM:=Zh (row_keep hm hbx)
 have HGM:=Zh (show gm < w.heap.size from (Array.getElem?_eq_some_iff.1 hm).1)
 have HG:=Zh hg
 have HBS:=Zh hbs
 have HL:=Zh hl
 have HI:=Zh hi
 have HE3:=Zh e3
 have HE4:=Zh e4
 have HE5:=Zh e5
 have HE6:=Zh e6
 have HF:=Zh hf
 have hpb:p+273≤1700:=by omega
 have HPB:=Zh hpb
 have HP:=Zh hp
 have HI4:=Zh hi4
 have HGL:=Zh (show (layN l p 4 0).length=1700 from (layN_length 4 0 (by omega)).trans hl)
 have hpp:(500:Int)+((i:Nat):Int) * 288=(p:Nat):=by omega
 have k0:decide (((i:Nat):Int) < 0)=false:=decide_eq_false (by omega)
 have k1:decide ((1700:Int)≤((p:Nat):Int)+272)=false:=decide_eq_false (by omega)
 clear hv hm hq hg hbs hl hi hp hf e3 e4 e5 e6 t0 t1 t2 t3 t4 t5 t6 hbx hpb
 go_enter Tryz.func20,Tryz.ntmps20
 go_wp2_with fail
 obtain ⟨w0,hw0⟩:∃ x,x=((((w.alloc (.cells #[.slice ma 1700 mc] 24)).alloc (.cells (bk (.slice fa fn fc) (.slice ca cn cc) A La r0 r1 r2 r3) 34)).alloc (.cells #[.bool false,.int .i64 0,.bool true,.int .i64 0] 31)).alloc (.cells #[.slice none 0 0] 24)).alloc (.cells #[.int .i64 0,.int .i64 0,.slice none 0 0,.int .u16 0,.int .u16 0,.slice none 0 0,.int .i64 0,.bool false,.int .i64 0,.bool false,.int .i64 0,.bool false,.int .i64 0,.bool false,.int .i64 0,.bool false,.int .i64 0,.bool false,.int .i64 0,.bool false,.int .i64 0,.bool false,.int .i64 0] 34):=⟨_,rfl⟩
 rw [←hw0] at RM RB RR RA RZ BW AV QQ0 CM ⊢
 clear hw0
 refine (findFree_any (w.heap.size+1) _ _ _ _ _ _ _ r0 r1 r2 r3 (i:Nat) w0 RB.out HI.out).mono ?_
 rintro e w1 ⟨rfl,hb⟩
 replace RM:=Zk RM hb
 replace RB:=Zk RB hb
 replace RR:=Zk RR hb
 replace RA:=Zk RA hb
 replace RZ:=Zk RZ hb
 replace BW:=Zb BW hb
 replace AV:=Zh (AV.out.below hb)
 replace QQ0:=Zh (QQ0.out.below hb)
 replace CM:=Zk CM hb
 clear hb
 obtain ⟨⟨l0,l1,l2,l3,l4,l5,l6⟩,y0,y1,y2,y3,y4,y5⟩:=bk_cells RB.out
 clear y0 y1 y2 y3 y4 y5
 obtain ⟨m0,mz⟩:=one_cell RM.out
 go_wp2_with fail
 refine (flush1_any gm p _ l w1 CM.out AV.out HL.out HPB.out).mono ?_
 rintro e w2 ⟨ra,rc,ba,bc,rfl,hm,hbf,hb⟩
 replace RM:=Zk RM hb
 replace RB:=Zk RB hb
 replace RR:=Zk RR hb
 replace RA:=Zk RA hb
 replace RZ:=Zk RZ hb
 replace BW:=Zb BW hb
 replace AV:=Zh (AV.out.below hb)
 replace QQ0:=Zh (QQ0.out.below hb)
 replace CM:=Zk CM hb
 have AG:=Zh hm
 have BF:=Zh hbf
 clear hm hbf hb l0 l1 l2 l3 l4 l5 l6 m0 mz
 clear AV CM RM
 have HW2:=Zh (show w.heap.size+1+1+1+1 < w2.heap.size from (Array.getElem?_eq_some_iff.1 RZ.out).1)
 have hbx:Below w2.heap.size w2 (w2.alloc (.cells #[.slice ra 1700 rc] 24)):=(Below.refl _ _).alloc (Nat.le_refl _) _
 replace RB:=Zk RB hbx
 replace RR:=Zk RR hbx
 replace RA:=Zk RA hbx
 replace RZ:=Zk RZ hbx
 replace BW:=Zb BW hbx
 replace QQ0:=Zh (QQ0.out.below hbx)
 replace AG:=Zh (AG.out.below hbx)
 replace BF:=Zh (BF.out.below hbx)
 have RN:=Zh (heap_alloc_new w2 (.cells #[.slice ra 1700 rc] 24))
 clear hbx
 obtain ⟨⟨l0,l1,l2,l3,l4,l5,l6⟩,y0,y1,y2,y3,y4,y5⟩:=bk_cells RB.out
 clear y0 y1 y2 y3 y4 y5 l6
 obtain ⟨n0,nz⟩:=one_cell RN.out
 go_wp2_with fail
 refine (add_this q 16 0 _ _ _ _ D (layN l p 4 0) (bsF p) _ AG.out QQ0.out BF.out HG.out HBS.out (ok1700 HGL.out) (by simp [bsF]) HF.out (by simp [bsF]) (by rw [HGL.out]; exact bsF_in HPB.out) 0 16 A La A2 H 1700 HBS.out HG.out.size HE3.out HE4.out HE5.out HE6.out HGL.out).mono ?_
 rintro e w3 ⟨rb,rd,F2,C2,D2,rfl,hm,hq,hb⟩
 obtain ⟨fb,fbn,fbc,cb,cbn,cbc,rfl,rfl,hx⟩:=hq.shape
 clear hx
 replace RB:=Zk RB hb
 replace RR:=Zk RR hb
 replace RA:=Zk RA hb
 replace RZ:=Zk RZ hb
 replace BW:=Zb BW hb
 replace QQ0:=Zh (QQ0.out.below hb)
 replace AG:=Zh (AG.out.below hb)
 replace BF:=Zh (BF.out.below hb)
 replace RN:=Zk RN hb
 have AH:=Zh hm
 have QN:=Zh hq
 clear hm hq hb l0 l1 l2 l3 l4 l5 n0 nz
 clear AG BF QQ0
 have HW3:=Zh (show w2.heap.size < w3.heap.size from (Array.getElem?_eq_some_iff.1 RN.out).1)
 have hbx:Below w3.heap.size w3 (w3.alloc (.cells #[.int .i64 0,.int .i64 0,.slice none 0 0,.int .u16 0,.int .u16 0,.slice none 0 0] 29)):=(Below.refl _ _).alloc (Nat.le_refl _) _
 replace RB:=Zk RB hbx
 replace RR:=Zk RR hbx
 replace RA:=Zk RA hbx
 replace RZ:=Zk RZ hbx
 replace BW:=Zb BW hbx
 replace RN:=Zk RN hbx
 replace AH:=Zh (AH.out.below hbx)
 replace QN:=Zh (QN.out.below hbx)
 have RQ:=Zh (heap_alloc_new w3 (.cells #[.int .i64 0,.int .i64 0,.slice none 0 0,.int .u16 0,.int .u16 0,.slice none 0 0] 29))
 clear hbx
 obtain ⟨n0,nz⟩:=one_cell RN.out
 have hltn:=(Array.getElem?_eq_some_iff.1 RN.out).1
 have h2:=HW2.out
 have h3:=HW3.out
 replace RB:=Zx RB RN 0 (.slice rb 1700 rd)
 replace RR:=Zx RR RN 0 (.slice rb 1700 rd)
 replace RA:=Zh (one_other RA.out ⟨w2.heap.size,0,none⟩ (.slice rb 1700 rd) (show w2.heap.size≠w.heap.size+1+1+1 by omega))
 replace RZ:=Zx RZ RN 0 (.slice rb 1700 rd)
 replace BW:=Zh (BW.out.setCell (p:=⟨w2.heap.size,0,none⟩) (show w.heap.size≤w2.heap.size by omega) (.slice rb 1700 rd))
 replace AH:=Zh (AH.out.stay RN.out (by decide) 0 (.slice rb 1700 rd))
 replace QN:=Zh (QN.out.stay RN.out (by decide) (by decide) 0 (.slice rb 1700 rd))
 replace RQ:=Zx RQ RN 0 (.slice rb 1700 rd)
 replace RN:=Zh (row_put RN.out 0 (.slice rb 1700 rd))
 obtain ⟨⟨u0,u1,u2,u3,u4,u5⟩,x0,x1,x2,x3,x4,x5⟩:=cells_six RQ.out
 have hltq:=(Array.getElem?_eq_some_iff.1 RQ.out).1
 replace RB:=Zx RB RQ 0 (.int .i64 0)
 replace RR:=Zx RR RQ 0 (.int .i64 0)
 replace RA:=Zx RA RQ 0 (.int .i64 0)
 replace RZ:=Zx RZ RQ 0 (.int .i64 0)
 replace BW:=Zh (BW.out.setCell (p:=⟨w3.heap.size,0,none⟩) (show w.heap.size≤w3.heap.size by omega) (.int .i64 0))
 replace RN:=Zx RN RQ 0 (.int .i64 0)
 replace AH:=Zh (AH.out.stay RQ.out (by decide) 0 (.int .i64 0))
 replace QN:=Zh (QN.out.stay RQ.out (by decide) (by decide) 0 (.int .i64 0))
 replace RQ:=Zh (row_put RQ.out 0 (.int .i64 0))
 replace RB:=Zx RB RQ 1 (.int .i64 16)
 replace RR:=Zx RR RQ 1 (.int .i64 16)
 replace RA:=Zx RA RQ 1 (.int .i64 16)
 replace RZ:=Zx RZ RQ 1 (.int .i64 16)
 replace BW:=Zh (BW.out.setCell (p:=⟨w3.heap.size,1,none⟩) (show w.heap.size≤w3.heap.size by omega) (.int .i64 16))
 replace RN:=Zx RN RQ 1 (.int .i64 16)
 replace AH:=Zh (AH.out.stay RQ.out (by decide) 1 (.int .i64 16))
 replace QN:=Zh (QN.out.stay RQ.out (by decide) (by decide) 1 (.int .i64 16))
 replace RQ:=Zh (row_put RQ.out 1 (.int .i64 16))
 replace RB:=Zx RB RQ 2 (.slice fb fbn fbc)
 replace RR:=Zx RR RQ 2 (.slice fb fbn fbc)
 replace RA:=Zx RA RQ 2 (.slice fb fbn fbc)
 replace RZ:=Zx RZ RQ 2 (.slice fb fbn fbc)
 replace BW:=Zh (BW.out.setCell (p:=⟨w3.heap.size,2,none⟩) (show w.heap.size≤w3.heap.size by omega) (.slice fb fbn fbc))
 replace RN:=Zx RN RQ 2 (.slice fb fbn fbc)
 replace AH:=Zh (AH.out.stay RQ.out (by decide) 2 (.slice fb fbn fbc))
 replace QN:=Zh (QN.out.stay RQ.out (by decide) (by decide) 2 (.slice fb fbn fbc))
 replace RQ:=Zh (row_put RQ.out 2 (.slice fb fbn fbc))
 replace RB:=Zx RB RQ 3 (.int .u16 A2)
 replace RR:=Zx RR RQ 3 (.int .u16 A2)
 replace RA:=Zx RA RQ 3 (.int .u16 A2)
 replace RZ:=Zx RZ RQ 3 (.int .u16 A2)
 replace BW:=Zh (BW.out.setCell (p:=⟨w3.heap.size,3,none⟩) (show w.heap.size≤w3.heap.size by omega) (.int .u16 A2))
 replace RN:=Zx RN RQ 3 (.int .u16 A2)
 replace AH:=Zh (AH.out.stay RQ.out (by decide) 3 (.int .u16 A2))
 replace QN:=Zh (QN.out.stay RQ.out (by decide) (by decide) 3 (.int .u16 A2))
 replace RQ:=Zh (row_put RQ.out 3 (.int .u16 A2))
 replace RB:=Zx RB RQ 4 (.int .u16 La)
 replace RR:=Zx RR RQ 4 (.int .u16 La)
 replace RA:=Zx RA RQ 4 (.int .u16 La)
 replace RZ:=Zx RZ RQ 4 (.int .u16 La)
 replace BW:=Zh (BW.out.setCell (p:=⟨w3.heap.size,4,none⟩) (show w.heap.size≤w3.heap.size by omega) (.int .u16 La))
 replace RN:=Zx RN RQ 4 (.int .u16 La)
 replace AH:=Zh (AH.out.stay RQ.out (by decide) 4 (.int .u16 La))
 replace QN:=Zh (QN.out.stay RQ.out (by decide) (by decide) 4 (.int .u16 La))
 replace RQ:=Zh (row_put RQ.out 4 (.int .u16 La))
 replace RB:=Zx RB RQ 5 (.slice cb cbn cbc)
 replace RR:=Zx RR RQ 5 (.slice cb cbn cbc)
 replace RA:=Zx RA RQ 5 (.slice cb cbn cbc)
 replace RZ:=Zx RZ RQ 5 (.slice cb cbn cbc)
 replace BW:=Zh (BW.out.setCell (p:=⟨w3.heap.size,5,none⟩) (show w.heap.size≤w3.heap.size by omega) (.slice cb cbn cbc))
 replace RN:=Zx RN RQ 5 (.slice cb cbn cbc)
 replace AH:=Zh (AH.out.stay RQ.out (by decide) 5 (.slice cb cbn cbc))
 replace QN:=Zh (QN.out.stay RQ.out (by decide) (by decide) 5 (.slice cb cbn cbc))
 replace RQ:=Zh (row_put RQ.out 5 (.slice cb cbn cbc))
 obtain ⟨⟨v0,v1,v2,v3⟩,c0,c1,c2,c3⟩:=cells_four RR.out
 have hltr:=(Array.getElem?_eq_some_iff.1 RR.out).1
 replace RB:=Zx RB RR 0 (.bool true)
 replace RA:=Zx RA RR 0 (.bool true)
 replace RZ:=Zx RZ RR 0 (.bool true)
 replace BW:=Zh (BW.out.setCell (p:=⟨w.heap.size+1+1,0,none⟩) (show w.heap.size≤w.heap.size+1+1 by omega) (.bool true))
 replace RN:=Zx RN RR 0 (.bool true)
 replace AH:=Zh (AH.out.stay RR.out (by decide) 0 (.bool true))
 replace QN:=Zh (QN.out.stay RR.out (by decide) (by decide) 0 (.bool true))
 replace RQ:=Zx RQ RR 0 (.bool true)
 replace RR:=Zh (row_put RR.out 0 (.bool true))
 replace RB:=Zx RB RR 1 (.int .i64 H)
 replace RA:=Zx RA RR 1 (.int .i64 H)
 replace RZ:=Zx RZ RR 1 (.int .i64 H)
 replace BW:=Zh (BW.out.setCell (p:=⟨w.heap.size+1+1,1,none⟩) (show w.heap.size≤w.heap.size+1+1 by omega) (.int .i64 H))
 replace RN:=Zx RN RR 1 (.int .i64 H)
 replace AH:=Zh (AH.out.stay RR.out (by decide) 1 (.int .i64 H))
 replace QN:=Zh (QN.out.stay RR.out (by decide) (by decide) 1 (.int .i64 H))
 replace RQ:=Zx RQ RR 1 (.int .i64 H)
 replace RR:=Zh (row_put RR.out 1 (.int .i64 H))
 clear h2 h3
 go_wp2_with fail
 obtain ⟨w4,hw4⟩:∃ x,x=((((((((((w3.alloc (.cells #[.int .i64 0,.int .i64 0,.slice none 0 0,.int .u16 0,.int .u16 0,.slice none 0 0] 29)).setCell ⟨w2.heap.size,0,none⟩ (.slice rb 1700 rd)).setCell ⟨w3.heap.size,0,none⟩ (.int .i64 0)).setCell ⟨w3.heap.size,1,none⟩ (.int .i64 16)).setCell ⟨w3.heap.size,2,none⟩ (.slice fb fbn fbc)).setCell ⟨w3.heap.size,3,none⟩ (.int .u16 A2)).setCell ⟨w3.heap.size,4,none⟩ (.int .u16 La)).setCell ⟨w3.heap.size,5,none⟩ (.slice cb cbn cbc)).setCell ⟨w.heap.size+1+1,0,none⟩ (.bool true)).setCell ⟨w.heap.size+1+1,1,none⟩ (.int .i64 H)):=⟨_,rfl⟩
 rw [←hw4] at RB RR RA RZ BW RN AH QN RQ ⊢
 clear hw4 n0 nz hltn hltq hltr u0 u1 u2 u3 u4 u5 x0 x1 x2 x3 x4 x5 v0 v1 v2 v3 c0 c1 c2 c3 k0 k1 hpp
 refine wp_region_rec (X:=BlkAskC) (by kernel_rfl) (by kernel_rfl) (fun x=>#[x.b0,x.b1,x.b2,x.b3,x.b4,x.b5,x.b6,x.b7]) (fun x=>{ tmps:=List.toArray ((.agg #[.slice ma 1700 mc])::(.agg (bk (.slice fa fn fc) (.slice ca cn cc) A La r0 r1 r2 r3))::(.agg #[.bool false,.int .i64 0,.bool true,.int .i64 0])::(.func (.func 45) #[] #[.pointer (some ⟨gm,0,none⟩)])::(.pointer (some ⟨w.heap.size,0,none⟩))::(.pointer (some ⟨w.heap.size+1,0,none⟩))::(.pointer (some ⟨w.heap.size+1+1,0,none⟩))::undef::(.pointer (some ⟨w.heap.size+1+1+1,0,none⟩))::(.pointer (some ⟨w.heap.size+1+1+1+1,0,none⟩))::(.int .i64 0)::(.int .i64 0)::(.int .i64 (i:Nat))::(.int .i64 (p:Nat))::(.pointer (some ⟨w2.heap.size,0,none⟩))::(.slice ba 2 bc)::(.pointer (some ⟨w3.heap.size,0,none⟩))::(.int .i64 H)::(.int .i64 0)::(.pointer (some ⟨w.heap.size+1,7,none⟩))::(.slice (some ⟨w.heap.size+1,7,none⟩) 4 4)::(.int .i64 (i:Nat))::(.int .i64 (i:Nat))::(.bool false)::undef::undef::undef::undef::undef::undef::undef::(.pointer (some ⟨w.heap.size+1,6,none⟩))::(.int .i64 500)::(.int .i64 (i:Nat))::(.int .i64 ((i:Nat) * 288))::(.int .i64 (p:Nat))::(.int .i64 (p:Nat))::(.int .i64 ((p:Nat)+272))::(.pointer (some ⟨w.heap.size,0,none⟩))::(.slice ma 1700 mc)::(.int .i64 1700)::(.bool false)::undef::undef::undef::undef::undef::undef::undef::(.tuple #[.agg #[.slice ra 1700 rc],.slice ba 2 bc])::(.func (.func 45) #[] #[.pointer (some ⟨gm,0,none⟩)])::(.int .i64 (p:Nat))::(.tuple #[.agg #[.slice ra 1700 rc],.slice ba 2 bc])::(.agg #[.slice ra 1700 rc])::(.slice ba 2 bc)::(.tuple #[.agg #[.slice rb 1700 rd],.agg #[.int .i64 0,.int .i64 16,.slice fb fbn fbc,.int .u16 A2,.int .u16 La,.slice cb cbn cbc],.int .i64 H,.int .i64 0])::(.agg #[.slice ra 1700 rc])::(.pointer (some ⟨w.heap.size+1,0,none⟩))::(.agg #[.int .i64 0,.int .i64 16,.slice fa fn fc,.int .u16 A,.int .u16 La,.slice ca cn cc])::(.slice ba 2 bc)::(.tuple #[.agg #[.slice rb 1700 rd],.agg #[.int .i64 0,.int .i64 16,.slice fb fbn fbc,.int .u16 A2,.int .u16 La,.slice cb cbn cbc],.int .i64 H,.int .i64 0])::(.agg #[.slice rb 1700 rd])::(.agg #[.int .i64 0,.int .i64 16,.slice fb fbn fbc,.int .u16 A2,.int .u16 La,.slice cb cbn cbc])::(.int .i64 H)::(.int .i64 0)::(.int .i64 0)::(.bool false)::undef::undef::undef::undef::undef::undef::undef::undef::(.int .i64 H)::(.pointer (some ⟨w.heap.size+1+1,0,none⟩))::(.pointer (some ⟨w.heap.size+1+1,1,none⟩))::x.s78::x.s79::x.s80::x.s81::x.s82::x.s83::undef::undef::undef::[]),defers:=[] }) (fun x W=>(x.b0→x.s78=.int .i64 (i:Nat))∧(x.b1→x.s79=.agg #[.int .i64 0,.int .i64 16,.slice fb fbn fbc,.int .u16 A2,.int .u16 La,.slice cb cbn cbc])∧(x.b2→x.s80=.agg #[.bool true,.int .i64 H,.bool true,.int .i64 0])∧(x.b3→x.s81=.pointer (some ⟨w.heap.size+1,0,none⟩))∧(x.b5→x.s82=.pointer (some ⟨w.heap.size+1,7,none⟩))∧(x.b6→x.s83=.pointer (some ⟨w.heap.size+1,7+i * 4,none⟩))∧(W.heap[w3.heap.size]? = some (.cells #[.int .i64 0,.int .i64 16,.slice fb fbn fbc,.int .u16 A2,.int .u16 La,.slice cb cbn cbc] 29 (0,0)))∧(W.heap[w.heap.size+1+1]? = some (.cells #[.bool true,.int .i64 H,.bool true,.int .i64 0] 31 (0,0)))∧(W.heap[w2.heap.size]? = some (.cells #[.slice rb 1700 rd] 24 (0,0)))∧(W.heap[w.heap.size+1+1+1]? = some (.cells #[.slice none 0 0] 24 (0,0)))∧(W.heap[w.heap.size+1+1+1+1]? = some (.cells (bk0) 34 (0,0)))∧(Below w.heap.size w W)∧(OwnB 0 W (.slice rb 1700 rd) (addM (layN l p 4 0) 0 16 q (bsF p)))∧(IsQ 0 W (.slice fb fbn fbc) (.slice cb cbn cbc) (addQ q (bsF p)) D2)∧(AskB W (w.heap.size+1) i (.slice fa fn fc) (.slice ca cn cc) A (.slice fb fbn fbc) (.slice cb cbn cbc) A2 La (⟨true,H,true,0⟩:Req) r0 r1 r2 r3 x.b4 x.b7)) ⟨false,false,false,false,false,false,false,false,undef,undef,undef,undef,undef,undef⟩ rfl rfl ⟨Zf,Zf,Zf,Zf,Zf,Zf,RQ.out,RR.out,RN.out,RA.out,RZ.out,BW.out.drew,AH.out.drew,QN.out.drew,RB.out⟩ (fun _=>rfl) ?hstep ?hdone
 case hstep =>
  rintro ⟨b0,b1,b2,b3,b4,b5,b6,b7,s78,s79,s80,s81,s82,s83⟩ W hI i hi
  dsimp only at hI hi ⊢
  have HI:=Zh hI
  clear hI
  rw [Region.ready,List.mem_filter,List.mem_range] at hi
  obtain ⟨hlt,hp⟩:=hi
  have hi7:i=0∨i=1∨i=2∨i=3∨i=4∨i=5∨i=6∨i=7:=by simp at hlt; omega
  clear hlt
  rcases hi7 with rfl|rfl|rfl|rfl|rfl|rfl|rfl|rfl
  all_goals simp [Region.binds] at hp
  · obtain rfl:b0=false:=by revert hp; cases b0 <;> simp
    clear hp; refine Zv 78 fun K' hK'=>?_
    go_simp
    exact hK'.out _ _ ⟨.mk ..,rfl,rfl,(Upd (fun _=>rfl)) HI.out⟩
  · obtain rfl:b1=false:=by revert hp; cases b1 <;> simp
    clear hp; refine Zv 79 fun K' hK'=>?_
    have rQ:=(Zd HI.out).2.2.1
    obtain ⟨hc0,_⟩:=at_cell rQ 0 _ rfl
    obtain ⟨hc1,_⟩:=at_cell rQ 1 _ rfl
    obtain ⟨hc2,_⟩:=at_cell rQ 2 _ rfl
    obtain ⟨hc3,_⟩:=at_cell rQ 3 _ rfl
    obtain ⟨hc4,_⟩:=at_cell rQ 4 _ rfl
    obtain ⟨hc5,_⟩:=at_cell rQ 5 _ rfl
    go_simp
    exact hK'.out _ _ ⟨.mk ..,rfl,rfl,Nxt (Upd (fun _=>rfl)) HI.out⟩
  · obtain rfl:b2=false:=by revert hp; cases b2 <;> simp
    clear hp; refine Zv 80 fun K' hK'=>?_
    have rR:=(Zd HI.out).2.2.2.1
    obtain ⟨hc0,_⟩:=at_cell rR 0 _ rfl
    obtain ⟨hc1,_⟩:=at_cell rR 1 _ rfl
    obtain ⟨hc2,_⟩:=at_cell rR 2 _ rfl
    obtain ⟨hc3,_⟩:=at_cell rR 3 _ rfl
    go_simp
    exact hK'.out _ _ ⟨.mk ..,rfl,rfl,Nxt (Nxt (Upd (fun _=>rfl))) HI.out⟩
  · obtain rfl:b3=false:=by revert hp; cases b3 <;> simp
    clear hp; refine Zv 81 fun K' hK'=>?_
    go_simp
    exact hK'.out _ _ ⟨.mk ..,rfl,rfl,Nxt (Nxt (Nxt (Upd (fun _=>rfl)))) HI.out⟩
  · obtain ⟨rfl,e1,e3⟩:b4=false∧b1=true∧b3=true:=by revert hp; cases b4 <;> cases b1 <;> cases b3 <;> simp
    clear hp
    obtain rfl:=(HI.out.2.1) e1
    obtain rfl:=(HI.out.2.2.2.1) e3
    refine inv_op (o:=⟨none,_,_,_,_,_⟩) rfl (fun K' hK'=>?_)
    have rQ:=(Zd HI.out).2.2.1
    have gK:=(Zd (Ze HI.out)).2.2
    have hrow:=gK
    have hrs:=rQ
    obtain ⟨⟨l0,l1,l2,l3,l4,l5,l6⟩,z0,z1,z2,z3,z4,z5⟩:=bk_cells hrow
    have hlt:=(Array.getElem?_eq_some_iff.1 hrow).1
    go_simp
    obtain ⟨h0,h1,h2,h3,h5,h6,rQ,rR,rN,rA,rZ,gB,gV,gQ,gK⟩:=HI.out
    exact hK'.out _ _ ⟨.mk ..,rfl,rfl,h0,h1,h2,h3,h5,h6,(Zp6 rQ (Zn rQ gK)),(Zp6 rR (Zn rR gK)),(Zp6 rN (Zn rN gK)),(Zp6 rA (Zn rA gK)),(Zp6 rZ (show w.heap.size+1≠w.heap.size+1+1+1+1 by omega)),(Zu6 gB (show w.heap.size≤w.heap.size+1 by omega)),((((((gV.stay gK (by decide) _ _).stay (Zr gK) (by decide) _ _).stay (Zr (Zr gK)) (by decide) _ _).stay (Zr (Zr (Zr gK))) (by decide) _ _).stay (Zr (Zr (Zr (Zr gK)))) (by decide) _ _).stay (Zr (Zr (Zr (Zr (Zr gK))))) (by decide) _ _),((((((gQ.stay gK (by decide) (by decide) _ _).stay (Zr gK) (by decide) (by decide) _ _).stay (Zr (Zr gK)) (by decide) (by decide) _ _).stay (Zr (Zr (Zr gK))) (by decide) (by decide) _ _).stay (Zr (Zr (Zr (Zr gK)))) (by decide) (by decide) _ _).stay (Zr (Zr (Zr (Zr (Zr gK))))) (by decide) (by decide) _ _),gK.four⟩
  · obtain rfl:b5=false:=by revert hp; cases b5 <;> simp
    clear hp; refine Zv 82 fun K' hK'=>?_
    go_simp
    exact hK'.out _ _ ⟨.mk ..,rfl,rfl,Nx4 (Upd (fun _=>rfl)) HI.out⟩
  · obtain ⟨rfl,e0,e5⟩:b6=false∧b0=true∧b5=true:=by revert hp; cases b6 <;> cases b0 <;> cases b5 <;> simp
    clear hp
    obtain rfl:=(HI.out.1) e0
    obtain rfl:=((Zd HI.out).1) e5
    refine Zv 83 fun K' hK'=>?_
    have hi4:=HI4.out
    have hlt4:(i:Int) < 4:=by omega
    go_simp
    exact hK'.out _ _ ⟨.mk ..,rfl,rfl,Nxt (Nx4 (Upd (fun _=>rfl))) HI.out⟩
  · have hn7:b7=false:=by revert hp; cases b7 <;> simp
    have e2:b2=true:=by revert hp; cases b2 <;> simp
    have e6:b6=true:=by revert hp; cases b6 <;> simp
    have e4:b4=true:=by revert hp; cases b4 <;> simp
    clear hp
    obtain rfl:=(HI.out.2.2.1) e2
    obtain rfl:=((Zd HI.out).2.1) e6
    subst hn7
    refine inv_op (o:=⟨none,_,_,_,_,_⟩) rfl (fun K' hK'=>?_)
    have gK:=(Zd (Ze HI.out)).2.2
    have hrow:=gK
    have hi4:=HI4.out
    obtain ⟨⟨v0,l0⟩,⟨v1,l1⟩,⟨v2,l2⟩,⟨v3,l3⟩,z0,z1,z2,z3⟩:=hrow.slots hi4
    have hlt:=(Array.getElem?_eq_some_iff.1 hrow).1
    go_simp
    obtain ⟨h0,h1,h2,h3,h5,h6,rQ,rR,rN,rA,rZ,gB,gV,gQ,gK⟩:=HI.out
    exact hK'.out _ _ ⟨.mk ..,rfl,rfl,h0,h1,h2,h3,h5,h6,(Zp4 rQ (Zn rQ gK)),(Zp4 rR (Zn rR gK)),(Zp4 rN (Zn rN gK)),(Zp4 rA (Zn rA gK)),(Zp4 rZ (show w.heap.size+1≠w.heap.size+1+1+1+1 by omega)),(Zu4 gB (show w.heap.size≤w.heap.size+1 by omega)),((((gV.stay gK (by decide) _ _).stay (Zr gK) (by decide) _ _).stay (Zr (Zr gK)) (by decide) _ _).stay (Zr (Zr (Zr gK))) (by decide) _ _),((((gQ.stay gK (by decide) (by decide) _ _).stay (Zr gK) (by decide) (by decide) _ _).stay (Zr (Zr gK)) (by decide) (by decide) _ _).stay (Zr (Zr (Zr gK))) (by decide) (by decide) _ _),(gK.seven HI4.out)⟩
 case hdone =>
  rintro ⟨b0,b1,b2,b3,b4,b5,b6,b7,s78,s79,s80,s81,s82,s83⟩ W hI hall
  dsimp only at hI hall ⊢
  have HI:=Zh hI
  clear hI
  obtain rfl:b0=true:=hall 0 (by decide)
  obtain rfl:b1=true:=hall 1 (by decide)
  obtain rfl:b2=true:=hall 2 (by decide)
  obtain rfl:b3=true:=hall 3 (by decide)
  obtain rfl:b4=true:=hall 4 (by decide)
  obtain rfl:b5=true:=hall 5 (by decide)
  obtain rfl:b6=true:=hall 6 (by decide)
  obtain rfl:b7=true:=hall 7 (by decide)
  obtain rfl:=((Zd HI.out).2.1) rfl
  have gK:=(Zd (Ze HI.out)).2.2
  have gB:=(Ze HI.out).2.2.2.1
  have gV:=(Zd (Ze HI.out)).1
  have gQ:=(Zd (Ze HI.out)).2.1
  have rN:=(Ze HI.out).1
  have rA:=(Ze HI.out).2.1
  have rZ:=(Ze HI.out).2.2.1
  clear HI hall
  have HB:=Zh (show W.heap[w.heap.size+1]? = some (.cells (bk (.slice fb fbn fbc) (.slice cb cbn cbc) A2 La (upd i 0 (⟨true,H,true,0⟩:Req) r0) (upd i 1 (⟨true,H,true,0⟩:Req) r1) (upd i 2 (⟨true,H,true,0⟩:Req) r2) (upd i 3 (⟨true,H,true,0⟩:Req) r3)) 34 (0,0)) from gK)
  have HV2:=Zh gV
  have HQ2:=Zh gQ
  have HN2:=Zh rN
  have HA2:=Zh rA
  have HZ2:=Zh rZ
  have HW:=Zh gB
  clear gK gB gV gQ rN rA rZ
  go_wp2_with fail
  obtain ⟨w5,hw5⟩:∃ x,x=W:=⟨_,rfl⟩
  rw [←hw5] at HB HV2 HQ2 HN2 HA2 HZ2 HW ⊢
  clear hw5
  refine wp_region_rec (X:=BlkAskD) (by kernel_rfl) (by kernel_rfl) (fun x=>#[x.b0,x.b1,x.b2,x.b3,x.b4,x.b5,x.b6]) (fun x=>{ tmps:=List.toArray ((.agg #[.slice ma 1700 mc])::(.agg (bk (.slice fa fn fc) (.slice ca cn cc) A La r0 r1 r2 r3))::(.agg #[.bool false,.int .i64 0,.bool true,.int .i64 0])::(.func (.func 45) #[] #[.pointer (some ⟨gm,0,none⟩)])::(.pointer (some ⟨w.heap.size,0,none⟩))::(.pointer (some ⟨w.heap.size+1,0,none⟩))::(.pointer (some ⟨w.heap.size+1+1,0,none⟩))::undef::(.pointer (some ⟨w.heap.size+1+1+1,0,none⟩))::(.pointer (some ⟨w.heap.size+1+1+1+1,0,none⟩))::x.s10::x.s11::(.int .i64 (i:Nat))::(.int .i64 (p:Nat))::(.pointer (some ⟨w2.heap.size,0,none⟩))::(.slice ba 2 bc)::(.pointer (some ⟨w3.heap.size,0,none⟩))::(.int .i64 H)::(.int .i64 0)::(.pointer (some ⟨w.heap.size+1,7,none⟩))::(.slice (some ⟨w.heap.size+1,7,none⟩) 4 4)::(.int .i64 (i:Nat))::(.int .i64 (i:Nat))::(.bool false)::undef::undef::undef::undef::undef::undef::undef::(.pointer (some ⟨w.heap.size+1,6,none⟩))::(.int .i64 500)::(.int .i64 (i:Nat))::(.int .i64 ((i:Nat) * 288))::(.int .i64 (p:Nat))::(.int .i64 (p:Nat))::(.int .i64 ((p:Nat)+272))::(.pointer (some ⟨w.heap.size,0,none⟩))::(.slice ma 1700 mc)::(.int .i64 1700)::(.bool false)::undef::undef::undef::undef::undef::undef::undef::(.tuple #[.agg #[.slice ra 1700 rc],.slice ba 2 bc])::(.func (.func 45) #[] #[.pointer (some ⟨gm,0,none⟩)])::(.int .i64 (p:Nat))::(.tuple #[.agg #[.slice ra 1700 rc],.slice ba 2 bc])::(.agg #[.slice ra 1700 rc])::(.slice ba 2 bc)::(.tuple #[.agg #[.slice rb 1700 rd],.agg #[.int .i64 0,.int .i64 16,.slice fb fbn fbc,.int .u16 A2,.int .u16 La,.slice cb cbn cbc],.int .i64 H,.int .i64 0])::(.agg #[.slice ra 1700 rc])::(.pointer (some ⟨w.heap.size+1,0,none⟩))::(.agg #[.int .i64 0,.int .i64 16,.slice fa fn fc,.int .u16 A,.int .u16 La,.slice ca cn cc])::(.slice ba 2 bc)::(.tuple #[.agg #[.slice rb 1700 rd],.agg #[.int .i64 0,.int .i64 16,.slice fb fbn fbc,.int .u16 A2,.int .u16 La,.slice cb cbn cbc],.int .i64 H,.int .i64 0])::(.agg #[.slice rb 1700 rd])::(.agg #[.int .i64 0,.int .i64 16,.slice fb fbn fbc,.int .u16 A2,.int .u16 La,.slice cb cbn cbc])::(.int .i64 H)::(.int .i64 0)::(.int .i64 0)::(.bool false)::undef::undef::undef::undef::undef::undef::undef::undef::(.int .i64 H)::(.pointer (some ⟨w.heap.size+1+1,0,none⟩))::(.pointer (some ⟨w.heap.size+1+1,1,none⟩))::s78::s79::s80::s81::s82::(.pointer (some ⟨w.heap.size+1,7+i * 4,none⟩))::x.s84::x.s85::x.s86::[]),defers:=[] }) (fun x W=>(x.b0→x.s84=.agg #[.slice rb 1700 rd])∧(x.b1→x.s85=.agg (bk (.slice fb fbn fbc) (.slice cb cbn cbc) A2 La (upd i 0 (⟨true,H,true,0⟩:Req) r0) (upd i 1 (⟨true,H,true,0⟩:Req) r1) (upd i 2 (⟨true,H,true,0⟩:Req) r2) (upd i 3 (⟨true,H,true,0⟩:Req) r3)))∧(x.b2→x.s86=.int .i64 (i:Nat))∧(x.b5→x.s10=.int .i64 (i:Nat))∧(x.b6→x.s11=.int .i64 0)∧(x.b4→x.b3)∧(W.heap[w2.heap.size]? = some (.cells #[.slice rb 1700 rd] 24 (0,0)))∧(W.heap[w.heap.size+1]? = some (.cells (bk (.slice fb fbn fbc) (.slice cb cbn cbc) A2 La (upd i 0 (⟨true,H,true,0⟩:Req) r0) (upd i 1 (⟨true,H,true,0⟩:Req) r1) (upd i 2 (⟨true,H,true,0⟩:Req) r2) (upd i 3 (⟨true,H,true,0⟩:Req) r3)) 34 (0,0)))∧(x.b3=false→W.heap[w.heap.size+1+1+1]? = some (.cells #[.slice none 0 0] 24 (0,0)))∧(x.b3→W.heap[w.heap.size+1+1+1]? = some (.cells #[.slice rb 1700 rd] 24 (0,0)))∧(x.b4=false→W.heap[w.heap.size+1+1+1+1]? = some (.cells (bk0) 34 (0,0)))∧(x.b4→W.heap[w.heap.size+1+1+1+1]? = some (.cells (bk (.slice fb fbn fbc) (.slice cb cbn cbc) A2 La (upd i 0 (⟨true,H,true,0⟩:Req) r0) (upd i 1 (⟨true,H,true,0⟩:Req) r1) (upd i 2 (⟨true,H,true,0⟩:Req) r2) (upd i 3 (⟨true,H,true,0⟩:Req) r3)) 34 (0,0)))∧(Below w.heap.size w W)∧(OwnB 0 W (.slice rb 1700 rd) (addM (layN l p 4 0) 0 16 q (bsF p)))∧(IsQ 0 W (.slice fb fbn fbc) (.slice cb cbn cbc) (addQ q (bsF p)) D2)) ⟨false,false,false,false,false,false,false,undef,undef,undef,.int .i64 0,.int .i64 0⟩ rfl rfl ⟨Zf,Zf,Zf,Zf,Zf,Zf,HN2.out,HB.out,(fun _=>HA2.out),Zf,(fun _=>HZ2.out),Zf,HW.out.drew,HV2.out.drew,HQ2.out.drew⟩ (fun _=>rfl) ?hstep ?hdone
  case hstep =>
   rintro ⟨b0,b1,b2,b3,b4,b5,b6,s84,s85,s86,s10,s11⟩ W hI i hi
   dsimp only at hI hi ⊢
   have HI:=Zh hI
   clear hI
   rw [Region.ready,List.mem_filter,List.mem_range] at hi
   obtain ⟨hlt,hp⟩:=hi
   have hi7:i=0∨i=1∨i=2∨i=3∨i=4∨i=5∨i=6:=by simp at hlt; omega
   clear hlt
   rcases hi7 with rfl|rfl|rfl|rfl|rfl|rfl|rfl
   all_goals simp [Region.binds] at hp
   · obtain rfl:b0=false:=by revert hp; cases b0 <;> simp
     clear hp; refine Zv 84 fun K' hK'=>?_
     have rN:=(Zd HI.out).2.2.1
     obtain ⟨hc0,_⟩:=at_cell rN 0 _ rfl
     go_simp
     exact hK'.out _ _ ⟨.mk ..,rfl,rfl,(Upd (fun _=>rfl)) HI.out⟩
   · obtain rfl:b1=false:=by revert hp; cases b1 <;> simp
     clear hp; refine Zv 85 fun K' hK'=>?_
     have rB:=(Zd HI.out).2.2.2.1
     refine step_blk_load rfl _ rfl _ rfl _ rB rfl ?_
     exact hK'.out _ _ ⟨.mk ..,rfl,rfl,Nxt (Upd (fun _=>rfl)) HI.out⟩
   · obtain rfl:b2=false:=by revert hp; cases b2 <;> simp
     clear hp; refine Zv 86 fun K' hK'=>?_
     go_simp
     exact hK'.out _ _ ⟨.mk ..,rfl,rfl,Nxt (Nxt (Upd (fun _=>rfl))) HI.out⟩
   · obtain ⟨rfl,e0⟩:b3=false∧b0=true:=by revert hp; cases b3 <;> cases b0 <;> simp
     clear hp
     obtain rfl:=(HI.out.1) e0
     refine inv_op (o:=⟨none,_,_,_,_,_⟩) rfl (fun K' hK'=>?_)
     have gi4:=(Zd HI.out).2.1
     have rA0:=(Ze HI.out).1
     obtain rfl:b4=false:=Zz fun e=>(gi4 e)
     obtain ⟨hc0,hz0⟩:=at_cell (rA0 rfl) 0 _ rfl
     have hlt:=(Array.getElem?_eq_some_iff.1 (rA0 rfl)).1
     go_simp
     obtain ⟨h0,h1,h2,h5,h6,gi4,rN,rB,rA0,rA1,rZ0,rZ1,gB,gV,gQ⟩:=HI.out
     exact hK'.out _ _ ⟨.mk ..,rfl,rfl,h0,h1,h2,h5,h6,Zf,(Zp1 rN (show w.heap.size+1+1+1≠w2.heap.size from by have:=HW2.out; omega)),(Zp1 rB (Zn rB (rA0 rfl))),Zf,(fun _=>(Zr (rA0 rfl))),(fun e=>(Zp1 (rZ0 e) (Zn (rZ0 e) (rA0 rfl)))),Zf,(Zu1 gB (show w.heap.size≤w.heap.size+1+1+1 by omega)),(gV.stay (rA0 rfl) (by decide) _ _),(gQ.stay (rA0 rfl) (by decide) (by decide) _ _)⟩
   · obtain ⟨rfl,e1,e3⟩:b4=false∧b1=true∧b3=true:=by revert hp; cases b4 <;> cases b1 <;> cases b3 <;> simp
     clear hp
     obtain rfl:=(HI.out.2.1) e1
     refine inv_op (o:=⟨none,_,_,_,_,_⟩) rfl (fun K' hK'=>?_)
     have rZ0:=(Ze HI.out).2.2.1
     refine step_blk_store rfl _ _ rfl _ _ rfl rfl _ (rZ0 rfl) rfl rfl (bk_one rfl rfl) ?_
     obtain ⟨h0,h1,h2,h5,h6,gi4,rN,rB,rA0,rA1,rZ0,rZ1,gB,gV,gQ⟩:=HI.out
     exact hK'.out _ _ ⟨.mk ..,rfl,rfl,h0,h1,h2,h5,h6,(fun _=>e3),(row_other rN _ (Zn rN (rZ0 rfl))),(row_other rB _ (show w.heap.size+1+1+1+1≠w.heap.size+1 by omega)),(fun e=>(row_other (rA0 e) _ (Zn (rA0 e) (rZ0 rfl)))),(fun e=>(row_other (rA1 e) _ (Zn (rA1 e) (rZ0 rfl)))),Zf,(fun _=>row_self (rZ0 rfl) (bk (.slice fb fbn fbc) (.slice cb cbn cbc) A2 La (upd i 0 (⟨true,H,true,0⟩:Req) r0) (upd i 1 (⟨true,H,true,0⟩:Req) r1) (upd i 2 (⟨true,H,true,0⟩:Req) r2) (upd i 3 (⟨true,H,true,0⟩:Req) r3))),(below_row gB (show w.heap.size≤w.heap.size+1+1+1+1 by omega) _),(gV.row (rZ0 rfl) _),(gQ.row (rZ0 rfl) _)⟩
   · obtain ⟨rfl,e2,e4⟩:b5=false∧b2=true∧b4=true:=by revert hp; cases b5 <;> cases b2 <;> cases b4 <;> simp
     clear hp
     obtain rfl:=(HI.out.2.2.1) e2
     refine Zv 10 fun K' hK'=>?_
     go_simp
     exact hK'.out _ _ ⟨.mk ..,rfl,rfl,Nxt (Nxt (Nxt (Upd (fun _=>rfl)))) HI.out⟩
   · obtain ⟨rfl,e5⟩:b6=false∧b5=true:=by revert hp; cases b6 <;> cases b5 <;> simp
     clear hp; refine Zv 11 fun K' hK'=>?_
     go_simp
     exact hK'.out _ _ ⟨.mk ..,rfl,rfl,Nx4 (Upd (fun _=>rfl)) HI.out⟩
  case hdone =>
   rintro ⟨b0,b1,b2,b3,b4,b5,b6,s84,s85,s86,s10,s11⟩ W hI hall
   dsimp only at hI hall ⊢
   have HI:=Zh hI
   clear hI
   obtain rfl:b0=true:=hall 0 (by decide)
   obtain rfl:b1=true:=hall 1 (by decide)
   obtain rfl:b2=true:=hall 2 (by decide)
   obtain rfl:b3=true:=hall 3 (by decide)
   obtain rfl:b4=true:=hall 4 (by decide)
   obtain rfl:b5=true:=hall 5 (by decide)
   obtain rfl:b6=true:=hall 6 (by decide)
   obtain rfl:=(HI.out.2.2.2.1) rfl
   obtain rfl:=((Zd HI.out).1) rfl
   have rA1:=(Ze HI.out).2.1
   have rZ1:=(Ze HI.out).2.2.2.1
   have gB:=(Zd (Ze HI.out)).1
   have gV:=(Zd (Ze HI.out)).2.1
   have gQ:=(Zd (Ze HI.out)).2.2
   clear HI hall
   have HA3:=rA1 rfl
   have HZ3:=rZ1 rfl
   have HB4:=Zh gB
   have HV4:=Zh gV
   have HQ4:=Zh gQ
   clear rA1 rZ1 gB gV gQ
   go_wp2
   exact bodyPost_ret (results_mbtt rfl rfl rfl HA3 HZ3 rfl) rfl ⟨_,_,_,_,_,rfl,HV4.out,HQ4.out,HB4.out⟩
set_option maxHeartbeats 2000000 in
set_option maxRecDepth 100000 in
theorem ask_full (q:QQ) (r0 r1 r2 r3 x:Req) (F C v fv:Value) (D:List Value) (l:List UInt8) (A La:Int) (w:World) (hv:OwnB 0 w v l) (hq:IsQ 0 w F C q D) (hg:GoodQ q 16) (hl:l.length=1700) (hi:firstOf (fun r => !r.busy) r0 r1 r2 r3 = -1) (e3:((q.avail:Nat):Int)=A) (e4:((q.last:Nat):Int)=La) :
 Calls Tryz.prog 20 #[.agg #[v],.agg (bk F C A La r0 r1 r2 r3),.agg #[.bool x.busy,.int .i64 x.head,.bool x.flush,.int .i64 x.sec],fv] w fun e w'=>∃ ra rc F2 C2 D2,e=.returned (.tuple #[.agg #[.slice ra 1700 rc],.agg (bk F2 C2 A La r0 r1 r2 r3),.int .i64 0,.int .i64 4])∧OwnB 0 w' (.slice ra 1700 rc) l∧IsQ 0 w' F2 C2 q D2∧Below w.heap.size w w':=by
 obtain ⟨ma,mc,rfl,hx,hy⟩:=hv.shape
 clear hx hy
 rw [hl] at hv ⊢
 obtain ⟨fa,fn,fc,ca,cn,cc,rfl,rfl,hx⟩:=hq.shape
 clear hx
 have zRM:w.heap.size=w.heap.size:=rfl
 have bRM:Below w.heap.size w (w.alloc (.cells #[.slice ma 1700 mc] 24)):=(Below.refl _ _).alloc (Nat.le_refl _) _
 have zRB:(w.alloc (.cells #[.slice ma 1700 mc] 24)).heap.size=w.heap.size+1:=by simp
 have bRB:Below w.heap.size w ((w.alloc (.cells #[.slice ma 1700 mc] 24)).alloc (.cells (bk (.slice fa fn fc) (.slice ca cn cc) A La r0 r1 r2 r3) 34)):=bRM.alloc (by rw [zRB]; omega) _
 have zRR:((w.alloc (.cells #[.slice ma 1700 mc] 24)).alloc (.cells (bk (.slice fa fn fc) (.slice ca cn cc) A La r0 r1 r2 r3) 34)).heap.size=w.heap.size+1+1:=by simp
 have bRR:Below w.heap.size w (((w.alloc (.cells #[.slice ma 1700 mc] 24)).alloc (.cells (bk (.slice fa fn fc) (.slice ca cn cc) A La r0 r1 r2 r3) 34)).alloc (.cells #[.bool x.busy,.int .i64 x.head,.bool x.flush,.int .i64 x.sec] 31)):=bRB.alloc (by rw [zRR]; omega) _
 have zRA:(((w.alloc (.cells #[.slice ma 1700 mc] 24)).alloc (.cells (bk (.slice fa fn fc) (.slice ca cn cc) A La r0 r1 r2 r3) 34)).alloc (.cells #[.bool x.busy,.int .i64 x.head,.bool x.flush,.int .i64 x.sec] 31)).heap.size=w.heap.size+1+1+1:=by simp
 have bRA:Below w.heap.size w ((((w.alloc (.cells #[.slice ma 1700 mc] 24)).alloc (.cells (bk (.slice fa fn fc) (.slice ca cn cc) A La r0 r1 r2 r3) 34)).alloc (.cells #[.bool x.busy,.int .i64 x.head,.bool x.flush,.int .i64 x.sec] 31)).alloc (.cells #[.slice none 0 0] 24)):=bRR.alloc (by rw [zRA]; omega) _
 have zRZ:((((w.alloc (.cells #[.slice ma 1700 mc] 24)).alloc (.cells (bk (.slice fa fn fc) (.slice ca cn cc) A La r0 r1 r2 r3) 34)).alloc (.cells #[.bool x.busy,.int .i64 x.head,.bool x.flush,.int .i64 x.sec] 31)).alloc (.cells #[.slice none 0 0] 24)).heap.size=w.heap.size+1+1+1+1:=by simp
 have bRZ:Below w.heap.size w (((((w.alloc (.cells #[.slice ma 1700 mc] 24)).alloc (.cells (bk (.slice fa fn fc) (.slice ca cn cc) A La r0 r1 r2 r3) 34)).alloc (.cells #[.bool x.busy,.int .i64 x.head,.bool x.flush,.int .i64 x.sec] 31)).alloc (.cells #[.slice none 0 0] 24)).alloc (.cells #[.int .i64 0,.int .i64 0,.slice none 0 0,.int .u16 0,.int .u16 0,.slice none 0 0,.int .i64 0,.bool false,.int .i64 0,.bool false,.int .i64 0,.bool false,.int .i64 0,.bool false,.int .i64 0,.bool false,.int .i64 0,.bool false,.int .i64 0,.bool false,.int .i64 0,.bool false,.int .i64 0] 34)):=bRA.alloc (by rw [zRZ]; omega) _
 have tRM:=heap_alloc_new w (.cells #[.slice ma 1700 mc] 24)
 rw [zRM] at tRM
 have RM:=Zh (row_new (row_new (row_new (row_new tRM (.cells (bk (.slice fa fn fc) (.slice ca cn cc) A La r0 r1 r2 r3) 34)) (.cells #[.bool x.busy,.int .i64 x.head,.bool x.flush,.int .i64 x.sec] 31)) (.cells #[.slice none 0 0] 24)) (.cells #[.int .i64 0,.int .i64 0,.slice none 0 0,.int .u16 0,.int .u16 0,.slice none 0 0,.int .i64 0,.bool false,.int .i64 0,.bool false,.int .i64 0,.bool false,.int .i64 0,.bool false,.int .i64 0,.bool false,.int .i64 0,.bool false,.int .i64 0,.bool false,.int .i64 0,.bool false,.int .i64 0] 34))
 have tRB:=heap_alloc_new (w.alloc (.cells #[.slice ma 1700 mc] 24)) (.cells (bk (.slice fa fn fc) (.slice ca cn cc) A La r0 r1 r2 r3) 34)
 rw [zRB] at tRB
 have RB:=Zh (row_new (row_new (row_new tRB (.cells #[.bool x.busy,.int .i64 x.head,.bool x.flush,.int .i64 x.sec] 31)) (.cells #[.slice none 0 0] 24)) (.cells #[.int .i64 0,.int .i64 0,.slice none 0 0,.int .u16 0,.int .u16 0,.slice none 0 0,.int .i64 0,.bool false,.int .i64 0,.bool false,.int .i64 0,.bool false,.int .i64 0,.bool false,.int .i64 0,.bool false,.int .i64 0,.bool false,.int .i64 0,.bool false,.int .i64 0,.bool false,.int .i64 0] 34))
 have tRR:=heap_alloc_new ((w.alloc (.cells #[.slice ma 1700 mc] 24)).alloc (.cells (bk (.slice fa fn fc) (.slice ca cn cc) A La r0 r1 r2 r3) 34)) (.cells #[.bool x.busy,.int .i64 x.head,.bool x.flush,.int .i64 x.sec] 31)
 rw [zRR] at tRR
 have RR:=Zh (row_new (row_new tRR (.cells #[.slice none 0 0] 24)) (.cells #[.int .i64 0,.int .i64 0,.slice none 0 0,.int .u16 0,.int .u16 0,.slice none 0 0,.int .i64 0,.bool false,.int .i64 0,.bool false,.int .i64 0,.bool false,.int .i64 0,.bool false,.int .i64 0,.bool false,.int .i64 0,.bool false,.int .i64 0,.bool false,.int .i64 0,.bool false,.int .i64 0] 34))
 have tRA:=heap_alloc_new (((w.alloc (.cells #[.slice ma 1700 mc] 24)).alloc (.cells (bk (.slice fa fn fc) (.slice ca cn cc) A La r0 r1 r2 r3) 34)).alloc (.cells #[.bool x.busy,.int .i64 x.head,.bool x.flush,.int .i64 x.sec] 31)) (.cells #[.slice none 0 0] 24)
 rw [zRA] at tRA
 have RA:=Zh (row_new tRA (.cells #[.int .i64 0,.int .i64 0,.slice none 0 0,.int .u16 0,.int .u16 0,.slice none 0 0,.int .i64 0,.bool false,.int .i64 0,.bool false,.int .i64 0,.bool false,.int .i64 0,.bool false,.int .i64 0,.bool false,.int .i64 0,.bool false,.int .i64 0,.bool false,.int .i64 0,.bool false,.int .i64 0] 34))
 have tRZ:=heap_alloc_new ((((w.alloc (.cells #[.slice ma 1700 mc] 24)).alloc (.cells (bk (.slice fa fn fc) (.slice ca cn cc) A La r0 r1 r2 r3) 34)).alloc (.cells #[.bool x.busy,.int .i64 x.head,.bool x.flush,.int .i64 x.sec] 31)).alloc (.cells #[.slice none 0 0] 24)) (.cells #[.int .i64 0,.int .i64 0,.slice none 0 0,.int .u16 0,.int .u16 0,.slice none 0 0,.int .i64 0,.bool false,.int .i64 0,.bool false,.int .i64 0,.bool false,.int .i64 0,.bool false,.int .i64 0,.bool false,.int .i64 0,.bool false,.int .i64 0,.bool false,.int .i64 0,.bool false,.int .i64 0] 34)
 rw [zRZ] at tRZ
 have RZ:=Zh tRZ
 have BW:=Zh bRZ
 have AV:=Zh (hv.below BW.out)
 have QQ0:=Zh (hq.below BW.out)
 have HG:=Zh hg
 have HL:=Zh hl
 have HI:=Zh hi
 have HE3:=Zh e3
 have HE4:=Zh e4
 clear hv hq hg hl hi e3 e4 tRM tRB tRR tRA tRZ zRM zRB zRR zRA zRZ bRM bRB bRR bRA bRZ
 go_enter Tryz.func20,Tryz.ntmps20
 go_wp2_with fail
 refine (findFree_any (w.heap.size+1) _ _ _ _ _ _ _ r0 r1 r2 r3 (-1) _ RB.out HI.out).mono ?_
 rintro e w1 ⟨rfl,hb⟩
 replace RM:=Zk RM hb
 replace RB:=Zk RB hb
 replace RR:=Zk RR hb
 replace RA:=Zk RA hb
 replace RZ:=Zk RZ hb
 replace BW:=Zb BW hb
 replace AV:=Zh (AV.out.below hb)
 replace QQ0:=Zh (QQ0.out.below hb)
 clear hb
 clear RR
 obtain ⟨m0,mz⟩:=one_cell RM.out
 go_wp2_with (refine blk_load rfl _ rfl _ rfl _ RB.out rfl ?_)
 refine (refused_any q r0 r1 r2 r3 _ _ _ D l A La 4 _ AV.out QQ0.out HG.out HL.out HE3.out HE4.out).mono ?_
 rintro e w2 ⟨ra2,rc2,F2,C2,D2,rfl,hm,hq,hb⟩
 obtain ⟨xa,xn,xc,ya,yn,yc,rfl,rfl,hx⟩:=hq.shape
 clear hx
 replace RM:=Zk RM hb
 replace RB:=Zk RB hb
 replace RA:=Zk RA hb
 replace RZ:=Zk RZ hb
 replace BW:=Zb BW hb
 replace AV:=Zh (AV.out.below hb)
 replace QQ0:=Zh (QQ0.out.below hb)
 have AH:=Zh hm
 have QN:=Zh hq
 clear hm hq hb
 clear m0 mz
 clear AV QQ0 RM RB
 obtain ⟨r0,rz0⟩:=one_cell RA.out
 have hltr:=(Array.getElem?_eq_some_iff.1 RA.out).1
 replace RZ:=Zx RZ RA 0 (.slice ra2 1700 rc2)
 replace BW:=Zh (BW.out.setCell (p:=⟨w.heap.size+1+1+1,0,none⟩) (show w.heap.size≤w.heap.size+1+1+1 by omega) (.slice ra2 1700 rc2))
 replace AH:=Zh (AH.out.stay RA.out (by decide) 0 (.slice ra2 1700 rc2))
 replace QN:=Zh (QN.out.stay RA.out (by decide) (by decide) 0 (.slice ra2 1700 rc2))
 replace RA:=Zh (row_put RA.out 0 (.slice ra2 1700 rc2))
 go_wp2_with (refine blk_store rfl _ _ rfl _ _ rfl rfl _ RZ.out rfl rfl (bk_one rfl rfl) ?_)
 exact bodyPost_ret (results_mbtt rfl rfl rfl (row_other RA.out _ (show w.heap.size+1+1+1+1≠w.heap.size+1+1+1 by omega)) (row_self RZ.out _) rfl) rfl ⟨_,_,_,_,_,rfl,AH.out.row RZ.out _,QN.out.row RZ.out _,below_row BW.out (show w.heap.size≤w.heap.size+1+1+1+1 by omega) _⟩
set_option maxHeartbeats 2000000 in
set_option maxRecDepth 100000 in
theorem write_ok (q:QQ) (r0 r1 r2 r3:Req) (F C v dv:Value) (D:List Value) (l d:List UInt8) (A La A2 H:Int) (s i p:Nat) (w:World) (hv:OwnB 0 w v l) (hdv:OwnB 0 w dv d) (hdl:d.length=256) (hs2:s < 256) (hq:IsQ 0 w F C q D) (hgb:GoodB q r0 r1 r2 r3) (hl:l.length=1700) (hi:firstOf (fun r => !r.busy) r0 r1 r2 r3=(i:Nat)) (hi4:i < 4) (hp:p=500+i * 288) (hf:3≤q.free.length) (e3:((q.avail:Nat):Int)=A) (e4:((q.last:Nat):Int)=La) (e5:(((q.avail+1) % 65536:Nat):Int)=A2) (e6:q.free.getD 0 0=H) :
 Calls Tryz.prog 9 #[.agg #[v],.agg (bk F C A La r0 r1 r2 r3),.int .i64 (s:Nat),dv] w fun e w'=>∃ ra rc F2 C2 D2,e=.returned (.tuple #[.agg #[.slice ra 1700 rc],.agg (bk F2 C2 A2 La (upd i 0 (⟨true,H,false,s⟩:Req) r0) (upd i 1 (⟨true,H,false,s⟩:Req) r1) (upd i 2 (⟨true,H,false,s⟩:Req) r2) (upd i 3 (⟨true,H,false,s⟩:Req) r3)),.int .i64 (i:Nat),.int .i64 0])∧OwnB 0 w' (.slice ra 1700 rc) (addM (layW l p s d) 0 16 q (bsW p))∧IsQ 0 w' F2 C2 (addQ q (bsW p)) D2∧Below w.heap.size w w':=by
 obtain ⟨ma,mc,rfl,hx,hy⟩:=hv.shape
 clear hx hy
 rw [hl] at hv ⊢
 obtain ⟨da,dc,rfl,hx,hy⟩:=hdv.shape
 clear hx hy
 rw [hdl] at hdv ⊢
 obtain ⟨fa,fn,fc,ca,cn,cc,rfl,rfl,hx⟩:=hq.shape
 clear hx
 have zRM:w.heap.size=w.heap.size:=rfl
 have bRM:Below w.heap.size w (w.alloc (.cells #[.slice ma 1700 mc] 24)):=(Below.refl _ _).alloc (Nat.le_refl _) _
 have zRB:(w.alloc (.cells #[.slice ma 1700 mc] 24)).heap.size=w.heap.size+1:=by simp
 have bRB:Below w.heap.size w ((w.alloc (.cells #[.slice ma 1700 mc] 24)).alloc (.cells (bk (.slice fa fn fc) (.slice ca cn cc) A La r0 r1 r2 r3) 34)):=bRM.alloc (by rw [zRB]; omega) _
 have zRI:((w.alloc (.cells #[.slice ma 1700 mc] 24)).alloc (.cells (bk (.slice fa fn fc) (.slice ca cn cc) A La r0 r1 r2 r3) 34)).heap.size=w.heap.size+1+1:=by simp
 have bRI:Below w.heap.size w (((w.alloc (.cells #[.slice ma 1700 mc] 24)).alloc (.cells (bk (.slice fa fn fc) (.slice ca cn cc) A La r0 r1 r2 r3) 34)).alloc (.cells #[.int .i64 (s:Nat)] 3)):=bRB.alloc (by rw [zRI]; omega) _
 have zRD:(((w.alloc (.cells #[.slice ma 1700 mc] 24)).alloc (.cells (bk (.slice fa fn fc) (.slice ca cn cc) A La r0 r1 r2 r3) 34)).alloc (.cells #[.int .i64 (s:Nat)] 3)).heap.size=w.heap.size+1+1+1:=by simp
 have bRD:Below w.heap.size w ((((w.alloc (.cells #[.slice ma 1700 mc] 24)).alloc (.cells (bk (.slice fa fn fc) (.slice ca cn cc) A La r0 r1 r2 r3) 34)).alloc (.cells #[.int .i64 (s:Nat)] 3)).alloc (.cells #[.slice da 256 dc] 22)):=bRI.alloc (by rw [zRD]; omega) _
 have zRA:((((w.alloc (.cells #[.slice ma 1700 mc] 24)).alloc (.cells (bk (.slice fa fn fc) (.slice ca cn cc) A La r0 r1 r2 r3) 34)).alloc (.cells #[.int .i64 (s:Nat)] 3)).alloc (.cells #[.slice da 256 dc] 22)).heap.size=w.heap.size+1+1+1+1:=by simp
 have bRA:Below w.heap.size w (((((w.alloc (.cells #[.slice ma 1700 mc] 24)).alloc (.cells (bk (.slice fa fn fc) (.slice ca cn cc) A La r0 r1 r2 r3) 34)).alloc (.cells #[.int .i64 (s:Nat)] 3)).alloc (.cells #[.slice da 256 dc] 22)).alloc (.cells #[.slice none 0 0] 24)):=bRD.alloc (by rw [zRA]; omega) _
 have zRZ:(((((w.alloc (.cells #[.slice ma 1700 mc] 24)).alloc (.cells (bk (.slice fa fn fc) (.slice ca cn cc) A La r0 r1 r2 r3) 34)).alloc (.cells #[.int .i64 (s:Nat)] 3)).alloc (.cells #[.slice da 256 dc] 22)).alloc (.cells #[.slice none 0 0] 24)).heap.size=w.heap.size+1+1+1+1+1:=by simp
 have bRZ:Below w.heap.size w ((((((w.alloc (.cells #[.slice ma 1700 mc] 24)).alloc (.cells (bk (.slice fa fn fc) (.slice ca cn cc) A La r0 r1 r2 r3) 34)).alloc (.cells #[.int .i64 (s:Nat)] 3)).alloc (.cells #[.slice da 256 dc] 22)).alloc (.cells #[.slice none 0 0] 24)).alloc (.cells #[.int .i64 0,.int .i64 0,.slice none 0 0,.int .u16 0,.int .u16 0,.slice none 0 0,.int .i64 0,.bool false,.int .i64 0,.bool false,.int .i64 0,.bool false,.int .i64 0,.bool false,.int .i64 0,.bool false,.int .i64 0,.bool false,.int .i64 0,.bool false,.int .i64 0,.bool false,.int .i64 0] 34)):=bRA.alloc (by rw [zRZ]; omega) _
 have tRM:=heap_alloc_new w (.cells #[.slice ma 1700 mc] 24)
 rw [zRM] at tRM
 have RM:=Zh (row_new (row_new (row_new (row_new (row_new tRM (.cells (bk (.slice fa fn fc) (.slice ca cn cc) A La r0 r1 r2 r3) 34)) (.cells #[.int .i64 (s:Nat)] 3)) (.cells #[.slice da 256 dc] 22)) (.cells #[.slice none 0 0] 24)) (.cells #[.int .i64 0,.int .i64 0,.slice none 0 0,.int .u16 0,.int .u16 0,.slice none 0 0,.int .i64 0,.bool false,.int .i64 0,.bool false,.int .i64 0,.bool false,.int .i64 0,.bool false,.int .i64 0,.bool false,.int .i64 0,.bool false,.int .i64 0,.bool false,.int .i64 0,.bool false,.int .i64 0] 34))
 have tRB:=heap_alloc_new (w.alloc (.cells #[.slice ma 1700 mc] 24)) (.cells (bk (.slice fa fn fc) (.slice ca cn cc) A La r0 r1 r2 r3) 34)
 rw [zRB] at tRB
 have RB:=Zh (row_new (row_new (row_new (row_new tRB (.cells #[.int .i64 (s:Nat)] 3)) (.cells #[.slice da 256 dc] 22)) (.cells #[.slice none 0 0] 24)) (.cells #[.int .i64 0,.int .i64 0,.slice none 0 0,.int .u16 0,.int .u16 0,.slice none 0 0,.int .i64 0,.bool false,.int .i64 0,.bool false,.int .i64 0,.bool false,.int .i64 0,.bool false,.int .i64 0,.bool false,.int .i64 0,.bool false,.int .i64 0,.bool false,.int .i64 0,.bool false,.int .i64 0] 34))
 have tRI:=heap_alloc_new ((w.alloc (.cells #[.slice ma 1700 mc] 24)).alloc (.cells (bk (.slice fa fn fc) (.slice ca cn cc) A La r0 r1 r2 r3) 34)) (.cells #[.int .i64 (s:Nat)] 3)
 rw [zRI] at tRI
 have RI:=Zh (row_new (row_new (row_new tRI (.cells #[.slice da 256 dc] 22)) (.cells #[.slice none 0 0] 24)) (.cells #[.int .i64 0,.int .i64 0,.slice none 0 0,.int .u16 0,.int .u16 0,.slice none 0 0,.int .i64 0,.bool false,.int .i64 0,.bool false,.int .i64 0,.bool false,.int .i64 0,.bool false,.int .i64 0,.bool false,.int .i64 0,.bool false,.int .i64 0,.bool false,.int .i64 0,.bool false,.int .i64 0] 34))
 have tRD:=heap_alloc_new (((w.alloc (.cells #[.slice ma 1700 mc] 24)).alloc (.cells (bk (.slice fa fn fc) (.slice ca cn cc) A La r0 r1 r2 r3) 34)).alloc (.cells #[.int .i64 (s:Nat)] 3)) (.cells #[.slice da 256 dc] 22)
 rw [zRD] at tRD
 have RD:=Zh (row_new (row_new tRD (.cells #[.slice none 0 0] 24)) (.cells #[.int .i64 0,.int .i64 0,.slice none 0 0,.int .u16 0,.int .u16 0,.slice none 0 0,.int .i64 0,.bool false,.int .i64 0,.bool false,.int .i64 0,.bool false,.int .i64 0,.bool false,.int .i64 0,.bool false,.int .i64 0,.bool false,.int .i64 0,.bool false,.int .i64 0,.bool false,.int .i64 0] 34))
 have tRA:=heap_alloc_new ((((w.alloc (.cells #[.slice ma 1700 mc] 24)).alloc (.cells (bk (.slice fa fn fc) (.slice ca cn cc) A La r0 r1 r2 r3) 34)).alloc (.cells #[.int .i64 (s:Nat)] 3)).alloc (.cells #[.slice da 256 dc] 22)) (.cells #[.slice none 0 0] 24)
 rw [zRA] at tRA
 have RA:=Zh (row_new tRA (.cells #[.int .i64 0,.int .i64 0,.slice none 0 0,.int .u16 0,.int .u16 0,.slice none 0 0,.int .i64 0,.bool false,.int .i64 0,.bool false,.int .i64 0,.bool false,.int .i64 0,.bool false,.int .i64 0,.bool false,.int .i64 0,.bool false,.int .i64 0,.bool false,.int .i64 0,.bool false,.int .i64 0] 34))
 have tRZ:=heap_alloc_new (((((w.alloc (.cells #[.slice ma 1700 mc] 24)).alloc (.cells (bk (.slice fa fn fc) (.slice ca cn cc) A La r0 r1 r2 r3) 34)).alloc (.cells #[.int .i64 (s:Nat)] 3)).alloc (.cells #[.slice da 256 dc] 22)).alloc (.cells #[.slice none 0 0] 24)) (.cells #[.int .i64 0,.int .i64 0,.slice none 0 0,.int .u16 0,.int .u16 0,.slice none 0 0,.int .i64 0,.bool false,.int .i64 0,.bool false,.int .i64 0,.bool false,.int .i64 0,.bool false,.int .i64 0,.bool false,.int .i64 0,.bool false,.int .i64 0,.bool false,.int .i64 0,.bool false,.int .i64 0] 34)
 rw [zRZ] at tRZ
 have RZ:=Zh tRZ
 have BW:=Zh bRZ
 have AV:=Zh (hv.below BW.out)
 have AD:=Zh (hdv.below BW.out)
 have QQ0:=Zh (hq.below BW.out)
 have HG:=Zh hgb
 have HL:=Zh hl
 have HDL:=Zh hdl
 have HS2:=Zh hs2
 have HI:=Zh hi
 have HE3:=Zh e3
 have HE4:=Zh e4
 have HE5:=Zh e5
 have HE6:=Zh e6
 have HI4:=Zh hi4
 have HP:=Zh hp
 have HF:=Zh hf
 have c0:decide (((s:Nat):Int) < 0)=false:=decide_eq_false (by omega)
 have c1:decide ((256:Int)≤((s:Nat):Int))=false:=decide_eq_false (by omega)
 clear hv hdv hdl hs2 hq hgb hl hi e3 e4 e5 e6 hi4 hp hf tRM tRB tRI tRD tRA tRZ zRM zRB zRI zRD zRA zRZ bRM bRB bRI bRD bRA bRZ
 go_enter Tryz.func9,Tryz.ntmps9
 go_wp2_with (refine blk_load rfl _ rfl _ rfl _ RB.out rfl ?_)
 refine (blkCheck_any q r0 r1 r2 r3 _ _ D A La _ QQ0.out HG.out HE3.out HE4.out).mono ?_
 rintro e w1 ⟨rfl,hb⟩
 replace RM:=Zk RM hb
 replace RB:=Zk RB hb
 replace RI:=Zk RI hb
 replace RD:=Zk RD hb
 replace RA:=Zk RA hb
 replace RZ:=Zk RZ hb
 replace BW:=Zb BW hb
 replace AV:=Zh (AV.out.below hb)
 replace AD:=Zh (AD.out.below hb)
 replace QQ0:=Zh (QQ0.out.below hb)
 clear hb
 obtain ⟨m0,mz⟩:=one_cell RM.out
 obtain ⟨i0,iz⟩:=one_cell RI.out
 obtain ⟨d0,dz⟩:=one_cell RD.out
 go_wp2_with (refine blk_load rfl _ rfl _ rfl _ RB.out rfl ?_)
 refine (ask_write q r0 r1 r2 r3 _ _ _ _ D l d A La A2 H i p s (w.heap.size+1+1) (w.heap.size+1+1+1) w.heap.size w1 AV.out RM.out RI.out RD.out AD.out HDL.out HS2.out QQ0.out HG.out.good HG.out.base HL.out HI.out HI4.out HP.out HF.out HE3.out HE4.out HE5.out HE6.out).mono ?_
 rintro e w2 ⟨ra2,rc2,F2,C2,D2,rfl,hm,hq,hb⟩
 obtain ⟨xa,xn,xc,ya,yn,yc,rfl,rfl,hx⟩:=hq.shape
 clear hx
 replace RM:=Zk RM hb
 replace RB:=Zk RB hb
 replace RI:=Zk RI hb
 replace RD:=Zk RD hb
 replace RA:=Zk RA hb
 replace RZ:=Zk RZ hb
 replace BW:=Zb BW hb
 replace AV:=Zh (AV.out.below hb)
 replace AD:=Zh (AD.out.below hb)
 replace QQ0:=Zh (QQ0.out.below hb)
 have AH:=Zh hm
 have QN:=Zh hq
 clear hm hq hb
 clear m0 mz i0 iz d0 dz
 clear AV AD QQ0 RM RB RI RD
 obtain ⟨r0,rz0⟩:=one_cell RA.out
 have hltr:=(Array.getElem?_eq_some_iff.1 RA.out).1
 replace RZ:=Zx RZ RA 0 (.slice ra2 1700 rc2)
 replace BW:=Zh (BW.out.setCell (p:=⟨w.heap.size+1+1+1+1,0,none⟩) (show w.heap.size≤w.heap.size+1+1+1+1 by omega) (.slice ra2 1700 rc2))
 replace AH:=Zh (AH.out.stay RA.out (by decide) 0 (.slice ra2 1700 rc2))
 replace QN:=Zh (QN.out.stay RA.out (by decide) (by decide) 0 (.slice ra2 1700 rc2))
 replace RA:=Zh (row_put RA.out 0 (.slice ra2 1700 rc2))
 go_wp2_with (refine blk_store rfl _ _ rfl _ _ rfl rfl _ RZ.out rfl rfl (bk_one rfl rfl) ?_)
 exact bodyPost_ret (results_mbtt rfl rfl rfl (row_other RA.out _ (show w.heap.size+1+1+1+1+1≠w.heap.size+1+1+1+1 by omega)) (row_self RZ.out _) rfl) rfl ⟨_,_,_,_,_,rfl,AH.out.row RZ.out _,QN.out.row RZ.out _,below_row BW.out (show w.heap.size≤w.heap.size+1+1+1+1+1 by omega) _⟩
set_option maxHeartbeats 2000000 in
set_option maxRecDepth 100000 in
theorem write_full (q:QQ) (r0 r1 r2 r3:Req) (F C v dv:Value) (D:List Value) (l d:List UInt8) (A La:Int) (s:Nat) (w:World) (hv:OwnB 0 w v l) (hdv:OwnB 0 w dv d) (hdl:d.length=256) (hs2:s < 256) (hq:IsQ 0 w F C q D) (hgb:GoodB q r0 r1 r2 r3) (hl:l.length=1700) (hi:firstOf (fun r => !r.busy) r0 r1 r2 r3 = -1) (e3:((q.avail:Nat):Int)=A) (e4:((q.last:Nat):Int)=La) :
 Calls Tryz.prog 9 #[.agg #[v],.agg (bk F C A La r0 r1 r2 r3),.int .i64 (s:Nat),dv] w fun e w'=>∃ ra rc F2 C2 D2,e=.returned (.tuple #[.agg #[.slice ra 1700 rc],.agg (bk F2 C2 A La r0 r1 r2 r3),.int .i64 0,.int .i64 4])∧OwnB 0 w' (.slice ra 1700 rc) l∧IsQ 0 w' F2 C2 q D2∧Below w.heap.size w w':=by
 obtain ⟨ma,mc,rfl,hx,hy⟩:=hv.shape
 clear hx hy
 rw [hl] at hv ⊢
 obtain ⟨da,dc,rfl,hx,hy⟩:=hdv.shape
 clear hx hy
 rw [hdl] at hdv ⊢
 obtain ⟨fa,fn,fc,ca,cn,cc,rfl,rfl,hx⟩:=hq.shape
 clear hx
 have zRM:w.heap.size=w.heap.size:=rfl
 have bRM:Below w.heap.size w (w.alloc (.cells #[.slice ma 1700 mc] 24)):=(Below.refl _ _).alloc (Nat.le_refl _) _
 have zRB:(w.alloc (.cells #[.slice ma 1700 mc] 24)).heap.size=w.heap.size+1:=by simp
 have bRB:Below w.heap.size w ((w.alloc (.cells #[.slice ma 1700 mc] 24)).alloc (.cells (bk (.slice fa fn fc) (.slice ca cn cc) A La r0 r1 r2 r3) 34)):=bRM.alloc (by rw [zRB]; omega) _
 have zRI:((w.alloc (.cells #[.slice ma 1700 mc] 24)).alloc (.cells (bk (.slice fa fn fc) (.slice ca cn cc) A La r0 r1 r2 r3) 34)).heap.size=w.heap.size+1+1:=by simp
 have bRI:Below w.heap.size w (((w.alloc (.cells #[.slice ma 1700 mc] 24)).alloc (.cells (bk (.slice fa fn fc) (.slice ca cn cc) A La r0 r1 r2 r3) 34)).alloc (.cells #[.int .i64 (s:Nat)] 3)):=bRB.alloc (by rw [zRI]; omega) _
 have zRD:(((w.alloc (.cells #[.slice ma 1700 mc] 24)).alloc (.cells (bk (.slice fa fn fc) (.slice ca cn cc) A La r0 r1 r2 r3) 34)).alloc (.cells #[.int .i64 (s:Nat)] 3)).heap.size=w.heap.size+1+1+1:=by simp
 have bRD:Below w.heap.size w ((((w.alloc (.cells #[.slice ma 1700 mc] 24)).alloc (.cells (bk (.slice fa fn fc) (.slice ca cn cc) A La r0 r1 r2 r3) 34)).alloc (.cells #[.int .i64 (s:Nat)] 3)).alloc (.cells #[.slice da 256 dc] 22)):=bRI.alloc (by rw [zRD]; omega) _
 have zRA:((((w.alloc (.cells #[.slice ma 1700 mc] 24)).alloc (.cells (bk (.slice fa fn fc) (.slice ca cn cc) A La r0 r1 r2 r3) 34)).alloc (.cells #[.int .i64 (s:Nat)] 3)).alloc (.cells #[.slice da 256 dc] 22)).heap.size=w.heap.size+1+1+1+1:=by simp
 have bRA:Below w.heap.size w (((((w.alloc (.cells #[.slice ma 1700 mc] 24)).alloc (.cells (bk (.slice fa fn fc) (.slice ca cn cc) A La r0 r1 r2 r3) 34)).alloc (.cells #[.int .i64 (s:Nat)] 3)).alloc (.cells #[.slice da 256 dc] 22)).alloc (.cells #[.slice none 0 0] 24)):=bRD.alloc (by rw [zRA]; omega) _
 have zRZ:(((((w.alloc (.cells #[.slice ma 1700 mc] 24)).alloc (.cells (bk (.slice fa fn fc) (.slice ca cn cc) A La r0 r1 r2 r3) 34)).alloc (.cells #[.int .i64 (s:Nat)] 3)).alloc (.cells #[.slice da 256 dc] 22)).alloc (.cells #[.slice none 0 0] 24)).heap.size=w.heap.size+1+1+1+1+1:=by simp
 have bRZ:Below w.heap.size w ((((((w.alloc (.cells #[.slice ma 1700 mc] 24)).alloc (.cells (bk (.slice fa fn fc) (.slice ca cn cc) A La r0 r1 r2 r3) 34)).alloc (.cells #[.int .i64 (s:Nat)] 3)).alloc (.cells #[.slice da 256 dc] 22)).alloc (.cells #[.slice none 0 0] 24)).alloc (.cells #[.int .i64 0,.int .i64 0,.slice none 0 0,.int .u16 0,.int .u16 0,.slice none 0 0,.int .i64 0,.bool false,.int .i64 0,.bool false,.int .i64 0,.bool false,.int .i64 0,.bool false,.int .i64 0,.bool false,.int .i64 0,.bool false,.int .i64 0,.bool false,.int .i64 0,.bool false,.int .i64 0] 34)):=bRA.alloc (by rw [zRZ]; omega) _
 have tRM:=heap_alloc_new w (.cells #[.slice ma 1700 mc] 24)
 rw [zRM] at tRM
 have RM:=Zh (row_new (row_new (row_new (row_new (row_new tRM (.cells (bk (.slice fa fn fc) (.slice ca cn cc) A La r0 r1 r2 r3) 34)) (.cells #[.int .i64 (s:Nat)] 3)) (.cells #[.slice da 256 dc] 22)) (.cells #[.slice none 0 0] 24)) (.cells #[.int .i64 0,.int .i64 0,.slice none 0 0,.int .u16 0,.int .u16 0,.slice none 0 0,.int .i64 0,.bool false,.int .i64 0,.bool false,.int .i64 0,.bool false,.int .i64 0,.bool false,.int .i64 0,.bool false,.int .i64 0,.bool false,.int .i64 0,.bool false,.int .i64 0,.bool false,.int .i64 0] 34))
 have tRB:=heap_alloc_new (w.alloc (.cells #[.slice ma 1700 mc] 24)) (.cells (bk (.slice fa fn fc) (.slice ca cn cc) A La r0 r1 r2 r3) 34)
 rw [zRB] at tRB
 have RB:=Zh (row_new (row_new (row_new (row_new tRB (.cells #[.int .i64 (s:Nat)] 3)) (.cells #[.slice da 256 dc] 22)) (.cells #[.slice none 0 0] 24)) (.cells #[.int .i64 0,.int .i64 0,.slice none 0 0,.int .u16 0,.int .u16 0,.slice none 0 0,.int .i64 0,.bool false,.int .i64 0,.bool false,.int .i64 0,.bool false,.int .i64 0,.bool false,.int .i64 0,.bool false,.int .i64 0,.bool false,.int .i64 0,.bool false,.int .i64 0,.bool false,.int .i64 0] 34))
 have tRI:=heap_alloc_new ((w.alloc (.cells #[.slice ma 1700 mc] 24)).alloc (.cells (bk (.slice fa fn fc) (.slice ca cn cc) A La r0 r1 r2 r3) 34)) (.cells #[.int .i64 (s:Nat)] 3)
 rw [zRI] at tRI
 have RI:=Zh (row_new (row_new (row_new tRI (.cells #[.slice da 256 dc] 22)) (.cells #[.slice none 0 0] 24)) (.cells #[.int .i64 0,.int .i64 0,.slice none 0 0,.int .u16 0,.int .u16 0,.slice none 0 0,.int .i64 0,.bool false,.int .i64 0,.bool false,.int .i64 0,.bool false,.int .i64 0,.bool false,.int .i64 0,.bool false,.int .i64 0,.bool false,.int .i64 0,.bool false,.int .i64 0,.bool false,.int .i64 0] 34))
 have tRD:=heap_alloc_new (((w.alloc (.cells #[.slice ma 1700 mc] 24)).alloc (.cells (bk (.slice fa fn fc) (.slice ca cn cc) A La r0 r1 r2 r3) 34)).alloc (.cells #[.int .i64 (s:Nat)] 3)) (.cells #[.slice da 256 dc] 22)
 rw [zRD] at tRD
 have RD:=Zh (row_new (row_new tRD (.cells #[.slice none 0 0] 24)) (.cells #[.int .i64 0,.int .i64 0,.slice none 0 0,.int .u16 0,.int .u16 0,.slice none 0 0,.int .i64 0,.bool false,.int .i64 0,.bool false,.int .i64 0,.bool false,.int .i64 0,.bool false,.int .i64 0,.bool false,.int .i64 0,.bool false,.int .i64 0,.bool false,.int .i64 0,.bool false,.int .i64 0] 34))
 have tRA:=heap_alloc_new ((((w.alloc (.cells #[.slice ma 1700 mc] 24)).alloc (.cells (bk (.slice fa fn fc) (.slice ca cn cc) A La r0 r1 r2 r3) 34)).alloc (.cells #[.int .i64 (s:Nat)] 3)).alloc (.cells #[.slice da 256 dc] 22)) (.cells #[.slice none 0 0] 24)
 rw [zRA] at tRA
 have RA:=Zh (row_new tRA (.cells #[.int .i64 0,.int .i64 0,.slice none 0 0,.int .u16 0,.int .u16 0,.slice none 0 0,.int .i64 0,.bool false,.int .i64 0,.bool false,.int .i64 0,.bool false,.int .i64 0,.bool false,.int .i64 0,.bool false,.int .i64 0,.bool false,.int .i64 0,.bool false,.int .i64 0,.bool false,.int .i64 0] 34))
 have tRZ:=heap_alloc_new (((((w.alloc (.cells #[.slice ma 1700 mc] 24)).alloc (.cells (bk (.slice fa fn fc) (.slice ca cn cc) A La r0 r1 r2 r3) 34)).alloc (.cells #[.int .i64 (s:Nat)] 3)).alloc (.cells #[.slice da 256 dc] 22)).alloc (.cells #[.slice none 0 0] 24)) (.cells #[.int .i64 0,.int .i64 0,.slice none 0 0,.int .u16 0,.int .u16 0,.slice none 0 0,.int .i64 0,.bool false,.int .i64 0,.bool false,.int .i64 0,.bool false,.int .i64 0,.bool false,.int .i64 0,.bool false,.int .i64 0,.bool false,.int .i64 0,.bool false,.int .i64 0,.bool false,.int .i64 0] 34)
 rw [zRZ] at tRZ
 have RZ:=Zh tRZ
 have BW:=Zh bRZ
 have AV:=Zh (hv.below BW.out)
 have AD:=Zh (hdv.below BW.out)
 have QQ0:=Zh (hq.below BW.out)
 have HG:=Zh hgb
 have HL:=Zh hl
 have HDL:=Zh hdl
 have HS2:=Zh hs2
 have HI:=Zh hi
 have HE3:=Zh e3
 have HE4:=Zh e4
 have c0:decide (((s:Nat):Int) < 0)=false:=decide_eq_false (by omega)
 have c1:decide ((256:Int)≤((s:Nat):Int))=false:=decide_eq_false (by omega)
 clear hv hdv hdl hs2 hq hgb hl hi e3 e4 tRM tRB tRI tRD tRA tRZ zRM zRB zRI zRD zRA zRZ bRM bRB bRI bRD bRA bRZ
 go_enter Tryz.func9,Tryz.ntmps9
 go_wp2_with (refine blk_load rfl _ rfl _ rfl _ RB.out rfl ?_)
 refine (blkCheck_any q r0 r1 r2 r3 _ _ D A La _ QQ0.out HG.out HE3.out HE4.out).mono ?_
 rintro e w1 ⟨rfl,hb⟩
 replace RM:=Zk RM hb
 replace RB:=Zk RB hb
 replace RI:=Zk RI hb
 replace RD:=Zk RD hb
 replace RA:=Zk RA hb
 replace RZ:=Zk RZ hb
 replace BW:=Zb BW hb
 replace AV:=Zh (AV.out.below hb)
 replace AD:=Zh (AD.out.below hb)
 replace QQ0:=Zh (QQ0.out.below hb)
 clear hb
 obtain ⟨m0,mz⟩:=one_cell RM.out
 obtain ⟨i0,iz⟩:=one_cell RI.out
 obtain ⟨d0,dz⟩:=one_cell RD.out
 go_wp2_with (refine blk_load rfl _ rfl _ rfl _ RB.out rfl ?_)
 refine (ask_full q r0 r1 r2 r3 (⟨false,0,false,s⟩:Req) _ _ _ _ D l A La w1 AV.out QQ0.out HG.out.good HL.out HI.out HE3.out HE4.out).mono ?_
 rintro e w2 ⟨ra2,rc2,F2,C2,D2,rfl,hm,hq,hb⟩
 obtain ⟨xa,xn,xc,ya,yn,yc,rfl,rfl,hx⟩:=hq.shape
 clear hx
 replace RM:=Zk RM hb
 replace RB:=Zk RB hb
 replace RI:=Zk RI hb
 replace RD:=Zk RD hb
 replace RA:=Zk RA hb
 replace RZ:=Zk RZ hb
 replace BW:=Zb BW hb
 replace AV:=Zh (AV.out.below hb)
 replace AD:=Zh (AD.out.below hb)
 replace QQ0:=Zh (QQ0.out.below hb)
 have AH:=Zh hm
 have QN:=Zh hq
 clear hm hq hb
 clear m0 mz i0 iz d0 dz
 clear AV AD QQ0 RM RB RI RD
 obtain ⟨r0,rz0⟩:=one_cell RA.out
 have hltr:=(Array.getElem?_eq_some_iff.1 RA.out).1
 replace RZ:=Zx RZ RA 0 (.slice ra2 1700 rc2)
 replace BW:=Zh (BW.out.setCell (p:=⟨w.heap.size+1+1+1+1,0,none⟩) (show w.heap.size≤w.heap.size+1+1+1+1 by omega) (.slice ra2 1700 rc2))
 replace AH:=Zh (AH.out.stay RA.out (by decide) 0 (.slice ra2 1700 rc2))
 replace QN:=Zh (QN.out.stay RA.out (by decide) (by decide) 0 (.slice ra2 1700 rc2))
 replace RA:=Zh (row_put RA.out 0 (.slice ra2 1700 rc2))
 go_wp2_with (refine blk_store rfl _ _ rfl _ _ rfl rfl _ RZ.out rfl rfl (bk_one rfl rfl) ?_)
 exact bodyPost_ret (results_mbtt rfl rfl rfl (row_other RA.out _ (show w.heap.size+1+1+1+1+1≠w.heap.size+1+1+1+1 by omega)) (row_self RZ.out _) rfl) rfl ⟨_,_,_,_,_,rfl,AH.out.row RZ.out _,QN.out.row RZ.out _,below_row BW.out (show w.heap.size≤w.heap.size+1+1+1+1+1 by omega) _⟩
set_option maxHeartbeats 2000000 in
set_option maxRecDepth 100000 in
theorem blkFlush_ok (q:QQ) (r0 r1 r2 r3:Req) (F C v:Value) (D:List Value) (l:List UInt8) (A La A2 H:Int) (i p:Nat) (w:World) (hv:OwnB 0 w v l) (hq:IsQ 0 w F C q D) (hgb:GoodB q r0 r1 r2 r3) (hl:l.length=1700) (hi:firstOf (fun r => !r.busy) r0 r1 r2 r3=(i:Nat)) (hi4:i < 4) (hp:p=500+i * 288) (hf:2≤q.free.length) (e3:((q.avail:Nat):Int)=A) (e4:((q.last:Nat):Int)=La) (e5:(((q.avail+1) % 65536:Nat):Int)=A2) (e6:q.free.getD 0 0=H) :
 Calls Tryz.prog 18 #[.agg #[v],.agg (bk F C A La r0 r1 r2 r3)] w fun e w'=>∃ ra rc F2 C2 D2,e=.returned (.tuple #[.agg #[.slice ra 1700 rc],.agg (bk F2 C2 A2 La (upd i 0 (⟨true,H,true,0⟩:Req) r0) (upd i 1 (⟨true,H,true,0⟩:Req) r1) (upd i 2 (⟨true,H,true,0⟩:Req) r2) (upd i 3 (⟨true,H,true,0⟩:Req) r3)),.int .i64 (i:Nat),.int .i64 0])∧OwnB 0 w' (.slice ra 1700 rc) (addM (layN l p 4 0) 0 16 q (bsF p))∧IsQ 0 w' F2 C2 (addQ q (bsF p)) D2∧Below w.heap.size w w':=by
 obtain ⟨ma,mc,rfl,hx,hy⟩:=hv.shape
 clear hx hy
 rw [hl] at hv ⊢
 obtain ⟨fa,fn,fc,ca,cn,cc,rfl,rfl,hx⟩:=hq.shape
 clear hx
 have zRM:w.heap.size=w.heap.size:=rfl
 have bRM:Below w.heap.size w (w.alloc (.cells #[.slice ma 1700 mc] 24)):=(Below.refl _ _).alloc (Nat.le_refl _) _
 have zRB:(w.alloc (.cells #[.slice ma 1700 mc] 24)).heap.size=w.heap.size+1:=by simp
 have bRB:Below w.heap.size w ((w.alloc (.cells #[.slice ma 1700 mc] 24)).alloc (.cells (bk (.slice fa fn fc) (.slice ca cn cc) A La r0 r1 r2 r3) 34)):=bRM.alloc (by rw [zRB]; omega) _
 have zRA:((w.alloc (.cells #[.slice ma 1700 mc] 24)).alloc (.cells (bk (.slice fa fn fc) (.slice ca cn cc) A La r0 r1 r2 r3) 34)).heap.size=w.heap.size+1+1:=by simp
 have bRA:Below w.heap.size w (((w.alloc (.cells #[.slice ma 1700 mc] 24)).alloc (.cells (bk (.slice fa fn fc) (.slice ca cn cc) A La r0 r1 r2 r3) 34)).alloc (.cells #[.slice none 0 0] 24)):=bRB.alloc (by rw [zRA]; omega) _
 have zRZ:(((w.alloc (.cells #[.slice ma 1700 mc] 24)).alloc (.cells (bk (.slice fa fn fc) (.slice ca cn cc) A La r0 r1 r2 r3) 34)).alloc (.cells #[.slice none 0 0] 24)).heap.size=w.heap.size+1+1+1:=by simp
 have bRZ:Below w.heap.size w ((((w.alloc (.cells #[.slice ma 1700 mc] 24)).alloc (.cells (bk (.slice fa fn fc) (.slice ca cn cc) A La r0 r1 r2 r3) 34)).alloc (.cells #[.slice none 0 0] 24)).alloc (.cells #[.int .i64 0,.int .i64 0,.slice none 0 0,.int .u16 0,.int .u16 0,.slice none 0 0,.int .i64 0,.bool false,.int .i64 0,.bool false,.int .i64 0,.bool false,.int .i64 0,.bool false,.int .i64 0,.bool false,.int .i64 0,.bool false,.int .i64 0,.bool false,.int .i64 0,.bool false,.int .i64 0] 34)):=bRA.alloc (by rw [zRZ]; omega) _
 have tRM:=heap_alloc_new w (.cells #[.slice ma 1700 mc] 24)
 rw [zRM] at tRM
 have RM:=Zh (row_new (row_new (row_new tRM (.cells (bk (.slice fa fn fc) (.slice ca cn cc) A La r0 r1 r2 r3) 34)) (.cells #[.slice none 0 0] 24)) (.cells #[.int .i64 0,.int .i64 0,.slice none 0 0,.int .u16 0,.int .u16 0,.slice none 0 0,.int .i64 0,.bool false,.int .i64 0,.bool false,.int .i64 0,.bool false,.int .i64 0,.bool false,.int .i64 0,.bool false,.int .i64 0,.bool false,.int .i64 0,.bool false,.int .i64 0,.bool false,.int .i64 0] 34))
 have tRB:=heap_alloc_new (w.alloc (.cells #[.slice ma 1700 mc] 24)) (.cells (bk (.slice fa fn fc) (.slice ca cn cc) A La r0 r1 r2 r3) 34)
 rw [zRB] at tRB
 have RB:=Zh (row_new (row_new tRB (.cells #[.slice none 0 0] 24)) (.cells #[.int .i64 0,.int .i64 0,.slice none 0 0,.int .u16 0,.int .u16 0,.slice none 0 0,.int .i64 0,.bool false,.int .i64 0,.bool false,.int .i64 0,.bool false,.int .i64 0,.bool false,.int .i64 0,.bool false,.int .i64 0,.bool false,.int .i64 0,.bool false,.int .i64 0,.bool false,.int .i64 0] 34))
 have tRA:=heap_alloc_new ((w.alloc (.cells #[.slice ma 1700 mc] 24)).alloc (.cells (bk (.slice fa fn fc) (.slice ca cn cc) A La r0 r1 r2 r3) 34)) (.cells #[.slice none 0 0] 24)
 rw [zRA] at tRA
 have RA:=Zh (row_new tRA (.cells #[.int .i64 0,.int .i64 0,.slice none 0 0,.int .u16 0,.int .u16 0,.slice none 0 0,.int .i64 0,.bool false,.int .i64 0,.bool false,.int .i64 0,.bool false,.int .i64 0,.bool false,.int .i64 0,.bool false,.int .i64 0,.bool false,.int .i64 0,.bool false,.int .i64 0,.bool false,.int .i64 0] 34))
 have tRZ:=heap_alloc_new (((w.alloc (.cells #[.slice ma 1700 mc] 24)).alloc (.cells (bk (.slice fa fn fc) (.slice ca cn cc) A La r0 r1 r2 r3) 34)).alloc (.cells #[.slice none 0 0] 24)) (.cells #[.int .i64 0,.int .i64 0,.slice none 0 0,.int .u16 0,.int .u16 0,.slice none 0 0,.int .i64 0,.bool false,.int .i64 0,.bool false,.int .i64 0,.bool false,.int .i64 0,.bool false,.int .i64 0,.bool false,.int .i64 0,.bool false,.int .i64 0,.bool false,.int .i64 0,.bool false,.int .i64 0] 34)
 rw [zRZ] at tRZ
 have RZ:=Zh tRZ
 have BW:=Zh bRZ
 have AV:=Zh (hv.below BW.out)
 have QQ0:=Zh (hq.below BW.out)
 have HG:=Zh hgb
 have HL:=Zh hl
 have HI:=Zh hi
 have HE3:=Zh e3
 have HE4:=Zh e4
 have HE5:=Zh e5
 have HE6:=Zh e6
 have HI4:=Zh hi4
 have HP:=Zh hp
 have HF:=Zh hf
 clear hv hq hgb hl hi e3 e4 e5 e6 hi4 hp hf tRM tRB tRA tRZ zRM zRB zRA zRZ bRM bRB bRA bRZ
 go_enter Tryz.func18,Tryz.ntmps18
 go_wp2_with (refine blk_load rfl _ rfl _ rfl _ RB.out rfl ?_)
 refine (blkCheck_any q r0 r1 r2 r3 _ _ D A La _ QQ0.out HG.out HE3.out HE4.out).mono ?_
 rintro e w1 ⟨rfl,hb⟩
 replace RM:=Zk RM hb
 replace RB:=Zk RB hb
 replace RA:=Zk RA hb
 replace RZ:=Zk RZ hb
 replace BW:=Zb BW hb
 replace AV:=Zh (AV.out.below hb)
 replace QQ0:=Zh (QQ0.out.below hb)
 clear hb
 obtain ⟨m0,mz⟩:=one_cell RM.out
 go_wp2_with (refine blk_load rfl _ rfl _ rfl _ RB.out rfl ?_)
 refine (ask_flush q r0 r1 r2 r3 _ _ _ D l A La A2 H i p w.heap.size w1 AV.out RM.out QQ0.out HG.out.good HG.out.base HL.out HI.out HI4.out HP.out HF.out HE3.out HE4.out HE5.out HE6.out).mono ?_
 rintro e w2 ⟨ra2,rc2,F2,C2,D2,rfl,hm,hq,hb⟩
 obtain ⟨xa,xn,xc,ya,yn,yc,rfl,rfl,hx⟩:=hq.shape
 clear hx
 replace RM:=Zk RM hb
 replace RB:=Zk RB hb
 replace RA:=Zk RA hb
 replace RZ:=Zk RZ hb
 replace BW:=Zb BW hb
 replace AV:=Zh (AV.out.below hb)
 replace QQ0:=Zh (QQ0.out.below hb)
 have AH:=Zh hm
 have QN:=Zh hq
 clear hm hq hb
 clear m0 mz
 clear AV QQ0 RM RB
 obtain ⟨r0,rz0⟩:=one_cell RA.out
 have hltr:=(Array.getElem?_eq_some_iff.1 RA.out).1
 replace RZ:=Zx RZ RA 0 (.slice ra2 1700 rc2)
 replace BW:=Zh (BW.out.setCell (p:=⟨w.heap.size+1+1,0,none⟩) (show w.heap.size≤w.heap.size+1+1 by omega) (.slice ra2 1700 rc2))
 replace AH:=Zh (AH.out.stay RA.out (by decide) 0 (.slice ra2 1700 rc2))
 replace QN:=Zh (QN.out.stay RA.out (by decide) (by decide) 0 (.slice ra2 1700 rc2))
 replace RA:=Zh (row_put RA.out 0 (.slice ra2 1700 rc2))
 go_wp2_with (refine blk_store rfl _ _ rfl _ _ rfl rfl _ RZ.out rfl rfl (bk_one rfl rfl) ?_)
 exact bodyPost_ret (results_mbtt rfl rfl rfl (row_other RA.out _ (show w.heap.size+1+1+1≠w.heap.size+1+1 by omega)) (row_self RZ.out _) rfl) rfl ⟨_,_,_,_,_,rfl,AH.out.row RZ.out _,QN.out.row RZ.out _,below_row BW.out (show w.heap.size≤w.heap.size+1+1+1 by omega) _⟩
theorem blk_build {w:World} {ops:Array Oper} {rest:List Oper} {o:Oper} {a:Act} {Q:Exit→Act→World→Prop} (hgd:o.guard=none) (x y:Operand) (ho:o.op=.build 34 #[(0,x),(1,y)]) (F C:Value) (A La:Int) (hx:a.eval x=.agg #[.int .i64 0,.int .i64 16,F,.int .u16 A,.int .u16 La,C]) (hy:a.eval y=.int .i64 500) (h:wpList Tryz.prog ops Q rest (a.put o.dst (.agg (bk F C A La zReq zReq zReq zReq))) w):wpList Tryz.prog ops Q (o::rest) a w:=by
 have hb:Tryz.prog.built 34 [(0,.agg #[.int .i64 0,.int .i64 16,F,.int .u16 A,.int .u16 La,C]),(1,.int .i64 500)]=some (bk F C A La zReq zReq zReq zReq):=by kernel_rfl
 have e:(#[(0,x),(1,y)].map fun (i,x)=>(i,a.eval x)).toList=[(0,.agg #[.int .i64 0,.int .i64 16,F,.int .u16 A,.int .u16 La,C]),(1,.int .i64 500)]:=by simp [hx,hy]
 refine wpList_build hgd _ _ ho (by rw [e,hb]; rfl) ?_
 rw [e,hb]
 exact h
theorem bk_slots4 {X:World} {g:Nat} {F C:Value} {A La:Int} {r0 r1 r2 r3:Req} {t:TypeId} (h:X.heap[g]? = some (.cells (bk F C A La r0 r1 r2 r3) t (0,0))) (i:Nat) (hi:i < 4):(∃ v,X.cell? ⟨g,7+i * 4,none⟩=some v)∧(∃ v,X.cell? ⟨g,7+i * 4+1,none⟩=some v)∧(∃ v,X.cell? ⟨g,7+i * 4+2,none⟩=some v)∧(∃ v,X.cell? ⟨g,7+i * 4+3,none⟩=some v)∧X.frozen? ⟨g,7+i * 4,none⟩=false∧X.frozen? ⟨g,7+i * 4+1,none⟩=false∧X.frozen? ⟨g,7+i * 4+2,none⟩=false∧X.frozen? ⟨g,7+i * 4+3,none⟩=false:=by
 have hs:∀ k,k < 4→∃ v,X.cell? ⟨g,7+i * 4+k,none⟩=some v∧X.frozen? ⟨g,7+i * 4+k,none⟩=false:=by
  intro k hk
  obtain ⟨v,hv⟩:∃ v,(bk F C A La r0 r1 r2 r3)[7+i * 4+k]? = some v:=⟨_,Array.getElem?_eq_getElem (by show 7+i * 4+k < 23; omega)⟩
  exact ⟨v,(at_cell h (7+i * 4+k) v hv).1,(at_cell h (7+i * 4+k) v hv).2⟩
 obtain ⟨v0,a0,b0⟩:=hs 0 (by decide)
 obtain ⟨v1,a1,b1⟩:=hs 1 (by decide)
 obtain ⟨v2,a2,b2⟩:=hs 2 (by decide)
 obtain ⟨v3,a3,b3⟩:=hs 3 (by decide)
 exact ⟨⟨v0,a0⟩,⟨v1,a1⟩,⟨v2,a2⟩,⟨v3,a3⟩,b0,b1,b2,b3⟩
theorem bk_queue2 {X:World} {g:Nat} {F C F2 C2:Value} {A A2 La La2:Int} {s0 s1 s2 s3:Req} {t:TypeId} {fr:Nat × Nat} (h:X.heap[g]? = some (.cells (bk F C A La s0 s1 s2 s3) t fr)):((((((X.setCell ⟨g,0,none⟩ (.int .i64 0)).setCell ⟨g,1,none⟩ (.int .i64 16)).setCell ⟨g,2,none⟩ F2).setCell ⟨g,3,none⟩ (.int .u16 A2)).setCell ⟨g,4,none⟩ (.int .u16 La2)).setCell ⟨g,5,none⟩ C2).heap[g]? = some (.cells (bk F2 C2 A2 La2 s0 s1 s2 s3) t fr):=by
 have h2:=row_put (row_put (row_put (row_put (row_put (row_put h 0 (.int .i64 0)) 1 (.int .i64 16)) 2 F2) 3 (.int .u16 A2)) 4 (.int .u16 La2)) 5 C2
 have e:((((((bk F C A La s0 s1 s2 s3).setIfInBounds 0 (.int .i64 0)).setIfInBounds 1 (.int .i64 16)).setIfInBounds 2 F2).setIfInBounds 3 (.int .u16 A2)).setIfInBounds 4 (.int .u16 La2)).setIfInBounds 5 C2=bk F2 C2 A2 La2 s0 s1 s2 s3:=by simp [bk]
 rw [e] at h2
 exact h2
structure BlkNewA where
 (b0 b1 b2 b3 b4:Bool)
 (s41 s42 s8:Value)
structure BlkDoneA where
 (b0 b1 b2 b3 b4 b5 b6 b7 b8 b9 b10 b11 b12 b13:Bool)
 (s41 s42 s43 s44 s45 s46 s47 s48 s49 s50 s5 s6 s7:Value)
set_option maxHeartbeats 2000000 in
set_option maxRecDepth 100000 in
theorem blkNew_this (v:Value) (l:List UInt8) (w:World) (hv:OwnB 0 w v l) (hl:l.length=1700) :
 Calls Tryz.prog 5 #[.agg #[v],.int .i64 0,.int .i64 500] w fun e w'=>∃ ra rc F2 C2,e=.returned (.tuple #[.agg #[.slice ra 1700 rc],.agg (bk F2 C2 0 0 zReq zReq zReq zReq),.int .i64 0])∧OwnB 0 w' (.slice ra 1700 rc) (zeroM l 0 16)∧IsQ 0 w' F2 C2 (newQ 0 16) []∧Below w.heap.size w w':=by
 obtain ⟨ma,mc,rfl,hx,hy⟩:=hv.shape
 clear hx hy
 rw [hl] at hv ⊢
 have zRM:w.heap.size=w.heap.size:=rfl
 have bRM:Below w.heap.size w (w.alloc (.cells #[.slice ma 1700 mc] 24)):=(Below.refl _ _).alloc (Nat.le_refl _) _
 have zRA:(w.alloc (.cells #[.slice ma 1700 mc] 24)).heap.size=w.heap.size+1:=by simp
 have bRA:Below w.heap.size w ((w.alloc (.cells #[.slice ma 1700 mc] 24)).alloc (.cells #[.slice none 0 0] 24)):=bRM.alloc (by rw [zRA]; omega) _
 have zRZ:((w.alloc (.cells #[.slice ma 1700 mc] 24)).alloc (.cells #[.slice none 0 0] 24)).heap.size=w.heap.size+1+1:=by simp
 have bRZ:Below w.heap.size w (((w.alloc (.cells #[.slice ma 1700 mc] 24)).alloc (.cells #[.slice none 0 0] 24)).alloc (.cells #[.int .i64 0,.int .i64 0,.slice none 0 0,.int .u16 0,.int .u16 0,.slice none 0 0,.int .i64 0,.bool false,.int .i64 0,.bool false,.int .i64 0,.bool false,.int .i64 0,.bool false,.int .i64 0,.bool false,.int .i64 0,.bool false,.int .i64 0,.bool false,.int .i64 0,.bool false,.int .i64 0] 34)):=bRA.alloc (by rw [zRZ]; omega) _
 have tRM:=heap_alloc_new w (.cells #[.slice ma 1700 mc] 24)
 rw [zRM] at tRM
 have RM:=Zh (row_new (row_new tRM (.cells #[.slice none 0 0] 24)) (.cells #[.int .i64 0,.int .i64 0,.slice none 0 0,.int .u16 0,.int .u16 0,.slice none 0 0,.int .i64 0,.bool false,.int .i64 0,.bool false,.int .i64 0,.bool false,.int .i64 0,.bool false,.int .i64 0,.bool false,.int .i64 0,.bool false,.int .i64 0,.bool false,.int .i64 0,.bool false,.int .i64 0] 34))
 have tRA:=heap_alloc_new (w.alloc (.cells #[.slice ma 1700 mc] 24)) (.cells #[.slice none 0 0] 24)
 rw [zRA] at tRA
 have RA:=Zh (row_new tRA (.cells #[.int .i64 0,.int .i64 0,.slice none 0 0,.int .u16 0,.int .u16 0,.slice none 0 0,.int .i64 0,.bool false,.int .i64 0,.bool false,.int .i64 0,.bool false,.int .i64 0,.bool false,.int .i64 0,.bool false,.int .i64 0,.bool false,.int .i64 0,.bool false,.int .i64 0,.bool false,.int .i64 0] 34))
 have tRZ:=heap_alloc_new ((w.alloc (.cells #[.slice ma 1700 mc] 24)).alloc (.cells #[.slice none 0 0] 24)) (.cells #[.int .i64 0,.int .i64 0,.slice none 0 0,.int .u16 0,.int .u16 0,.slice none 0 0,.int .i64 0,.bool false,.int .i64 0,.bool false,.int .i64 0,.bool false,.int .i64 0,.bool false,.int .i64 0,.bool false,.int .i64 0,.bool false,.int .i64 0,.bool false,.int .i64 0,.bool false,.int .i64 0] 34)
 rw [zRZ] at tRZ
 have RZ:=Zh tRZ
 have BW:=Zh bRZ
 have AV:=Zh (hv.below BW.out)
 have HL:=Zh hl
 clear hv hl tRM tRA tRZ zRM zRA zRZ bRM bRA bRZ
 obtain ⟨m0,mz⟩:=one_cell RM.out
 go_enter Tryz.func5,Tryz.ntmps5
 go_wp2_with fail
 refine (new_this _ l 0 16 _ AV.out (ok1700 HL.out) 0 16 1700 rfl rfl HL.out).mono ?_
 rintro e w1 ⟨ra,rc,F,C,rfl,hm,hq,hb⟩
 obtain ⟨fa,fn,fc,ca,cn,cc,rfl,rfl,hx⟩:=hq.shape
 clear hx m0 mz
 replace RM:=Zk RM hb
 replace RA:=Zk RA hb
 replace RZ:=Zk RZ hb
 replace BW:=Zb BW hb
 replace AV:=Zh (AV.out.below hb)
 have AH:=Zh hm
 have QN:=Zh hq
 clear hm hq hb
 clear AV
 have HW1:=Zh (show w.heap.size+1+1 < w1.heap.size from (Array.getElem?_eq_some_iff.1 RZ.out).1)
 obtain ⟨t0,t1,hb⟩:=two_boxes w1 #[.slice ra 1700 rc] #[.int .i64 0,.int .i64 16,(.slice fa fn fc),.int .u16 0,.int .u16 0,(.slice ca cn cc)] 24 29
 replace RM:=Zk RM hb
 replace RA:=Zk RA hb
 replace RZ:=Zk RZ hb
 replace BW:=Zb BW hb
 replace AH:=Zh (AH.out.below hb)
 replace QN:=Zh (QN.out.below hb)
 have RN:=Zh t0
 have RQ:=Zh t1
 clear hb t0 t1
 obtain ⟨m0,mz⟩:=one_cell RM.out
 obtain ⟨⟨u0,u1,u2,u3,u4,u5⟩,x0,x1,x2,x3,x4,x5⟩:=cells_six RQ.out
 have hz2:((w1.alloc (.cells #[.slice ra 1700 rc] 24)).alloc (.cells #[.int .i64 0,.int .i64 16,(.slice fa fn fc),.int .u16 0,.int .u16 0,(.slice ca cn cc)] 29)).heap.size=w1.heap.size+1+1:=by simp
 have hb:Below ((w1.alloc (.cells #[.slice ra 1700 rc] 24)).alloc (.cells #[.int .i64 0,.int .i64 16,(.slice fa fn fc),.int .u16 0,.int .u16 0,(.slice ca cn cc)] 29)).heap.size ((w1.alloc (.cells #[.slice ra 1700 rc] 24)).alloc (.cells #[.int .i64 0,.int .i64 16,(.slice fa fn fc),.int .u16 0,.int .u16 0,(.slice ca cn cc)] 29)) (((w1.alloc (.cells #[.slice ra 1700 rc] 24)).alloc (.cells #[.int .i64 0,.int .i64 16,(.slice fa fn fc),.int .u16 0,.int .u16 0,(.slice ca cn cc)] 29)).alloc (.cells (bk (.slice fa fn fc) (.slice ca cn cc) 0 0 zReq zReq zReq zReq) 34)):=(Below.refl _ _).alloc (Nat.le_refl _) _
 replace RM:=Zk RM hb
 replace RA:=Zk RA hb
 replace RZ:=Zk RZ hb
 replace BW:=Zb BW hb
 replace AH:=Zh (AH.out.below hb)
 replace QN:=Zh (QN.out.below hb)
 replace RN:=Zk RN hb
 replace RQ:=Zk RQ hb
 have t5:=heap_alloc_new ((w1.alloc (.cells #[.slice ra 1700 rc] 24)).alloc (.cells #[.int .i64 0,.int .i64 16,(.slice fa fn fc),.int .u16 0,.int .u16 0,(.slice ca cn cc)] 29)) (.cells (bk (.slice fa fn fc) (.slice ca cn cc) 0 0 zReq zReq zReq zReq) 34)
 rw [hz2] at t5
 have RB:=Zh t5
 have m1:=kept m0 hb
 clear t5 hb
 go_wp2_with (first|(refine blk_build rfl _ _ rfl (.slice fa fn fc) (.slice ca cn cc) 0 0 rfl rfl ?_)|(refine blk_store_new rfl _ _ rfl ((w1.alloc (.cells #[.slice ra 1700 rc] 24)).alloc (.cells #[.int .i64 0,.int .i64 16,(.slice fa fn fc),.int .u16 0,.int .u16 0,(.slice ca cn cc)] 29)) (w1.heap.size+1+1) hz2 (bk (.slice fa fn fc) (.slice ca cn cc) 0 0 zReq zReq zReq zReq) rfl rfl _ rfl rfl rfl (bk_one rfl rfl) ?_))
 obtain ⟨w2,hw2⟩:∃ x,x=((w1.alloc (.cells #[.slice ra 1700 rc] 24)).alloc (.cells #[.int .i64 0,.int .i64 16,(.slice fa fn fc),.int .u16 0,.int .u16 0,(.slice ca cn cc)] 29)).alloc (.cells (bk (.slice fa fn fc) (.slice ca cn cc) 0 0 zReq zReq zReq zReq) 34):=⟨_,rfl⟩
 rw [←hw2] at RM RA RZ BW AH QN RN RQ RB ⊢
 clear hw2 hz2 m0 mz m1 u0 u1 u2 u3 u4 u5 x0 x1 x2 x3 x4 x5
 refine wp_region_rec (X:=BlkNewA) (by kernel_rfl) (by kernel_rfl) (fun x=>#[x.b0,x.b1,x.b2,x.b3,x.b4]) (fun x=>{ tmps:=List.toArray ((.agg #[.slice ma 1700 mc])::(.int .i64 0)::(.int .i64 500)::(.pointer (some ⟨w.heap.size,0,none⟩))::undef::undef::(.pointer (some ⟨w.heap.size+1,0,none⟩))::(.pointer (some ⟨w.heap.size+1+1,0,none⟩))::x.s8::(.pointer (some ⟨w1.heap.size,0,none⟩))::(.pointer (some ⟨w1.heap.size+1,0,none⟩))::(.int .i64 0)::(.pointer (some ⟨w1.heap.size+1+1,0,none⟩))::(.tuple #[.agg #[.slice ra 1700 rc],.agg #[.int .i64 0,.int .i64 16,.slice fa fn fc,.int .u16 0,.int .u16 0,.slice ca cn cc],.int .i64 0])::(.agg #[.slice ma 1700 mc])::(.int .i64 0)::(.tuple #[.agg #[.slice ra 1700 rc],.agg #[.int .i64 0,.int .i64 16,.slice fa fn fc,.int .u16 0,.int .u16 0,.slice ca cn cc],.int .i64 0])::(.agg #[.slice ra 1700 rc])::(.agg #[.int .i64 0,.int .i64 16,.slice fa fn fc,.int .u16 0,.int .u16 0,.slice ca cn cc])::(.int .i64 0)::(.int .i64 0)::(.bool false)::undef::undef::undef::(.agg #[.int .i64 0,.int .i64 16,.slice fa fn fc,.int .u16 0,.int .u16 0,.slice ca cn cc])::(.int .i64 500)::(.agg (bk (.slice fa fn fc) (.slice ca cn cc) 0 0 zReq zReq zReq zReq))::(.int .i64 500)::(.bool false)::(.bool false)::(.int .i64 500)::(.pointer (some ⟨w.heap.size,0,none⟩))::(.slice ma 1700 mc)::(.int .i64 1700)::(.int .i64 548)::(.bool false)::(.bool false)::undef::undef::undef::x.s41::x.s42::[]),defers:=[] }) (fun x W=>(x.b0→x.s41=.agg #[.slice ra 1700 rc])∧(x.b1→x.s42=.agg (bk (.slice fa fn fc) (.slice ca cn cc) 0 0 zReq zReq zReq zReq))∧(x.b4→x.s8=.int .i64 0)∧(x.b3→x.b2)∧(W.heap[w1.heap.size]? = some (.cells #[.slice ra 1700 rc] 24 (0,0)))∧(W.heap[w1.heap.size+1+1]? = some (.cells (bk (.slice fa fn fc) (.slice ca cn cc) 0 0 zReq zReq zReq zReq) 34 (0,0)))∧(x.b2=false→W.heap[w.heap.size+1]? = some (.cells #[.slice none 0 0] 24 (0,0)))∧(x.b2→W.heap[w.heap.size+1]? = some (.cells #[.slice ra 1700 rc] 24 (0,0)))∧(x.b3=false→W.heap[w.heap.size+1+1]? = some (.cells (bk0) 34 (0,0)))∧(x.b3→W.heap[w.heap.size+1+1]? = some (.cells (bk (.slice fa fn fc) (.slice ca cn cc) 0 0 zReq zReq zReq zReq) 34 (0,0)))∧(Below w.heap.size w W)∧(OwnB 0 W (.slice ra 1700 rc) (zeroM l 0 16))∧(IsQ 0 W (.slice fa fn fc) (.slice ca cn cc) (newQ 0 16) [])) ⟨false,false,false,false,false,undef,undef,.int .i64 0⟩ rfl rfl ⟨Zf,Zf,Zf,Zf,RN.out,RB.out,(fun _=>RA.out),Zf,(fun _=>RZ.out),Zf,BW.out.drew,AH.out.drew,QN.out.drew⟩ (fun _=>rfl) ?hstep ?hdone
 case hstep =>
  rintro ⟨b0,b1,b2,b3,b4,s41,s42,s8⟩ W hI i hi
  dsimp only at hI hi ⊢
  have HI:=Zh hI
  clear hI
  rw [Region.ready,List.mem_filter,List.mem_range] at hi
  obtain ⟨hlt,hp⟩:=hi
  have hi7:i=0∨i=1∨i=2∨i=3∨i=4:=by simp at hlt; omega
  clear hlt
  rcases hi7 with rfl|rfl|rfl|rfl|rfl
  all_goals simp [Region.binds] at hp
  · obtain rfl:b0=false:=by revert hp; cases b0 <;> simp
    clear hp; refine Zv 41 fun K' hK'=>?_
    have rN:=(Zd HI.out).1
    obtain ⟨hc0,_⟩:=at_cell rN 0 _ rfl
    go_simp
    exact hK'.out _ _ ⟨.mk ..,rfl,rfl,(Upd (fun _=>rfl)) HI.out⟩
  · obtain rfl:b1=false:=by revert hp; cases b1 <;> simp
    clear hp; refine Zv 42 fun K' hK'=>?_
    have rB:=(Zd HI.out).2.1
    refine step_blk_load rfl _ rfl _ rfl _ rB rfl ?_
    exact hK'.out _ _ ⟨.mk ..,rfl,rfl,Nxt (Upd (fun _=>rfl)) HI.out⟩
  · obtain ⟨rfl,e0⟩:b2=false∧b0=true:=by revert hp; cases b2 <;> cases b0 <;> simp
    clear hp
    obtain rfl:=(HI.out.1) e0
    refine inv_op (o:=⟨none,_,_,_,_,_⟩) rfl (fun K' hK'=>?_)
    have gi3:=HI.out.2.2.2.1
    have rA0:=(Zd HI.out).2.2.1
    obtain rfl:b3=false:=Zz fun e=>(gi3 e)
    obtain ⟨hc0,hz0⟩:=at_cell (rA0 rfl) 0 _ rfl
    have hlt:=(Array.getElem?_eq_some_iff.1 (rA0 rfl)).1
    go_simp
    obtain ⟨h0,h1,h4,gi3,rN,rB,rA0,rA1,rZ0,rZ1,gB,gV,gQ⟩:=HI.out
    exact hK'.out _ _ ⟨.mk ..,rfl,rfl,h0,h1,h4,Zf,(Zp1 rN (show w.heap.size+1≠w1.heap.size from by have:=HW1.out; omega)),(Zp1 rB (Zn rB (rA0 rfl))),Zf,(fun _=>(Zr (rA0 rfl))),(fun e=>(Zp1 (rZ0 e) (Zn (rZ0 e) (rA0 rfl)))),Zf,(Zu1 gB (show w.heap.size≤w.heap.size+1 by omega)),(gV.stay (rA0 rfl) (by decide) _ _),(gQ.stay (rA0 rfl) (by decide) (by decide) _ _)⟩
  · obtain ⟨rfl,e1,e2⟩:b3=false∧b1=true∧b2=true:=by revert hp; cases b3 <;> cases b1 <;> cases b2 <;> simp
    clear hp
    obtain rfl:=(HI.out.2.1) e1
    refine inv_op (o:=⟨none,_,_,_,_,_⟩) rfl (fun K' hK'=>?_)
    have rZ0:=(Ze HI.out).1
    refine step_blk_store rfl _ _ rfl _ _ rfl rfl _ (rZ0 rfl) rfl rfl (bk_one rfl rfl) ?_
    obtain ⟨h0,h1,h4,gi3,rN,rB,rA0,rA1,rZ0,rZ1,gB,gV,gQ⟩:=HI.out
    exact hK'.out _ _ ⟨.mk ..,rfl,rfl,h0,h1,h4,(fun _=>e2),(row_other rN _ (Zn rN (rZ0 rfl))),(row_other rB _ (show w.heap.size+1+1≠w1.heap.size+1+1 from by have:=HW1.out; omega)),(fun e=>(row_other (rA0 e) _ (Zn (rA0 e) (rZ0 rfl)))),(fun e=>(row_other (rA1 e) _ (Zn (rA1 e) (rZ0 rfl)))),Zf,(fun _=>row_self (rZ0 rfl) (bk (.slice fa fn fc) (.slice ca cn cc) 0 0 zReq zReq zReq zReq)),(below_row gB (show w.heap.size≤w.heap.size+1+1 by omega) _),(gV.row (rZ0 rfl) _),(gQ.row (rZ0 rfl) _)⟩
  · obtain ⟨rfl,e3⟩:b4=false∧b3=true:=by revert hp; cases b4 <;> cases b3 <;> simp
    clear hp; refine Zv 8 fun K' hK'=>?_
    go_simp
    exact hK'.out _ _ ⟨.mk ..,rfl,rfl,Nxt (Nxt (Upd (fun _=>rfl))) HI.out⟩
 case hdone =>
  rintro ⟨b0,b1,b2,b3,b4,s41,s42,s8⟩ W hI hall
  dsimp only at hI hall ⊢
  have HI:=Zh hI
  clear hI
  obtain rfl:b0=true:=hall 0 (by decide)
  obtain rfl:b1=true:=hall 1 (by decide)
  obtain rfl:b2=true:=hall 2 (by decide)
  obtain rfl:b3=true:=hall 3 (by decide)
  obtain rfl:b4=true:=hall 4 (by decide)
  obtain rfl:=(HI.out.2.2.1) rfl
  have rA1:=(Zd HI.out).2.2.2.1
  have rZ1:=(Ze HI.out).2.1
  have gB:=(Ze HI.out).2.2.1
  have gV:=(Ze HI.out).2.2.2.1
  have gQ:=(Zd (Ze HI.out))
  clear HI hall
  have HA3:=rA1 rfl
  have HZ3:=rZ1 rfl
  have HB4:=Zh gB
  have HV4:=Zh gV
  have HQ4:=Zh gQ
  clear rA1 rZ1 gB gV gQ
  go_wp2
  exact bodyPost_ret (results_mbt rfl rfl rfl HA3 HZ3 rfl) rfl ⟨_,_,_,_,rfl,HV4.out,HQ4.out,HB4.out⟩
set_option maxHeartbeats 2000000 in
set_option maxRecDepth 100000 in
theorem done_one (q q3:QQ) (r0 r1 r2 r3:Req) (F C v:Value) (D:List Value) (l:List UInt8) (A La A3 L3 H R:Int) (i p n st:Nat) (w:World) (hv:OwnB 0 w v l) (hq:IsQ 0 w F C q D) (hgb:GoodB q r0 r1 r2 r3) (hl:l.length=1700) (hp:∀ q2 x y E,PollSpec l 0 16 q q2 x y E→q2=q3∧x=H∧y=(n:Nat)∧E=0) (c1:q3.base=q.base) (c2:q3.size=q.size) (hi:firstOf (fun r=>r.busy && decide (r.head=H)) r0 r1 r2 r3=(i:Nat)) (hi4:i < 4) (hpp:p=500+i * 288) (hst:numAt l (p+272) 1=st) (hn:n < 4294967296) (hr:(if st=0∧n=1 then (0:Int) else 90)=R) (e3:((q.avail:Nat):Int)=A) (e4:((q.last:Nat):Int)=La) (e5:((q3.avail:Nat):Int)=A3) (e6:((q3.last:Nat):Int)=L3) :
 Calls Tryz.prog 12 #[.agg #[v],.agg (bk F C A La r0 r1 r2 r3)] w fun e w'=>∃ F2 C2 D2,e=.returned (.tuple #[.agg (bk F2 C2 A3 L3 (upd i 0 zReq r0) (upd i 1 zReq r1) (upd i 2 zReq r2) (upd i 3 zReq r3)),.int .i64 (i:Nat),.int .i64 R,.int .i64 0])∧IsQ 0 w' F2 C2 q3 D2∧Below w.heap.size w w':=by
 obtain ⟨ma,mc,rfl,hx,hy⟩:=hv.shape
 clear hx hy
 rw [hl] at hv ⊢
 obtain ⟨fa,fn,fc,ca,cn,cc,rfl,rfl,hx⟩:=hq.shape
 clear hx
 have zRM:w.heap.size=w.heap.size:=rfl
 have bRM:Below w.heap.size w (w.alloc (.cells #[.slice ma 1700 mc] 24)):=(Below.refl _ _).alloc (Nat.le_refl _) _
 have zRB:(w.alloc (.cells #[.slice ma 1700 mc] 24)).heap.size=w.heap.size+1:=by simp
 have bRB:Below w.heap.size w ((w.alloc (.cells #[.slice ma 1700 mc] 24)).alloc (.cells (bk (.slice fa fn fc) (.slice ca cn cc) A La r0 r1 r2 r3) 34)):=bRM.alloc (by rw [zRB]; omega) _
 have zRZ:((w.alloc (.cells #[.slice ma 1700 mc] 24)).alloc (.cells (bk (.slice fa fn fc) (.slice ca cn cc) A La r0 r1 r2 r3) 34)).heap.size=w.heap.size+1+1:=by simp
 have bRZ:Below w.heap.size w (((w.alloc (.cells #[.slice ma 1700 mc] 24)).alloc (.cells (bk (.slice fa fn fc) (.slice ca cn cc) A La r0 r1 r2 r3) 34)).alloc (.cells #[.int .i64 0,.int .i64 0,.slice none 0 0,.int .u16 0,.int .u16 0,.slice none 0 0,.int .i64 0,.bool false,.int .i64 0,.bool false,.int .i64 0,.bool false,.int .i64 0,.bool false,.int .i64 0,.bool false,.int .i64 0,.bool false,.int .i64 0,.bool false,.int .i64 0,.bool false,.int .i64 0] 34)):=bRB.alloc (by rw [zRZ]; omega) _
 have tRM:=heap_alloc_new w (.cells #[.slice ma 1700 mc] 24)
 rw [zRM] at tRM
 have RM:=Zh (row_new (row_new tRM (.cells (bk (.slice fa fn fc) (.slice ca cn cc) A La r0 r1 r2 r3) 34)) (.cells #[.int .i64 0,.int .i64 0,.slice none 0 0,.int .u16 0,.int .u16 0,.slice none 0 0,.int .i64 0,.bool false,.int .i64 0,.bool false,.int .i64 0,.bool false,.int .i64 0,.bool false,.int .i64 0,.bool false,.int .i64 0,.bool false,.int .i64 0,.bool false,.int .i64 0,.bool false,.int .i64 0] 34))
 have tRB:=heap_alloc_new (w.alloc (.cells #[.slice ma 1700 mc] 24)) (.cells (bk (.slice fa fn fc) (.slice ca cn cc) A La r0 r1 r2 r3) 34)
 rw [zRB] at tRB
 have RB:=Zh (row_new tRB (.cells #[.int .i64 0,.int .i64 0,.slice none 0 0,.int .u16 0,.int .u16 0,.slice none 0 0,.int .i64 0,.bool false,.int .i64 0,.bool false,.int .i64 0,.bool false,.int .i64 0,.bool false,.int .i64 0,.bool false,.int .i64 0,.bool false,.int .i64 0,.bool false,.int .i64 0,.bool false,.int .i64 0] 34))
 have tRZ:=heap_alloc_new ((w.alloc (.cells #[.slice ma 1700 mc] 24)).alloc (.cells (bk (.slice fa fn fc) (.slice ca cn cc) A La r0 r1 r2 r3) 34)) (.cells #[.int .i64 0,.int .i64 0,.slice none 0 0,.int .u16 0,.int .u16 0,.slice none 0 0,.int .i64 0,.bool false,.int .i64 0,.bool false,.int .i64 0,.bool false,.int .i64 0,.bool false,.int .i64 0,.bool false,.int .i64 0,.bool false,.int .i64 0,.bool false,.int .i64 0,.bool false,.int .i64 0] 34)
 rw [zRZ] at tRZ
 have RZ:=Zh tRZ
 have BW:=Zh bRZ
 have AV:=Zh (hv.below BW.out)
 have QQ0:=Zh (hq.below BW.out)
 have HG:=Zh hgb
 have HL:=Zh hl
 have HP:=Zh hp
 have HE3:=Zh e3
 have HE4:=Zh e4
 have HC1:=Zh c1
 have HC2:=Zh c2
 have HI:=Zh hi
 have HI4:=Zh hi4
 have HPP:=Zh hpp
 have HST:=Zh hst
 have HN:=Zh hn
 have HR:=Zh hr
 have HE5:=Zh e5
 have HE6:=Zh e6
 clear hv hq hgb hl hp e3 e4 c1 c2 hi hi4 hpp hst hn hr e5 e6 tRM tRB tRZ zRM zRB zRZ bRM bRB bRZ
 go_enter Tryz.func12,Tryz.ntmps12
 go_wp2_with (refine blk_load rfl _ rfl _ rfl _ RB.out rfl ?_)
 refine (blkCheck_any q r0 r1 r2 r3 _ _ D A La _ QQ0.out HG.out HE3.out HE4.out).mono ?_
 rintro e w1 ⟨rfl,hb⟩
 replace RM:=Zk RM hb
 replace RB:=Zk RB hb
 replace RZ:=Zk RZ hb
 replace BW:=Zb BW hb
 replace AV:=Zh (AV.out.below hb)
 replace QQ0:=Zh (QQ0.out.below hb)
 clear hb
 obtain ⟨m0,mz⟩:=one_cell RM.out
 obtain ⟨⟨l0,l1,l2,l3,l4,l5,l6⟩,y0,y1,y2,y3,y4,y5⟩:=bk_cells RB.out
 clear y0 y1 y2 y3 y4 y5 l6
 go_wp2_with fail
 refine (poll_this q 16 0 _ _ _ D l w1 AV.out QQ0.out HG.out.good HG.out.base (ok1700 HL.out) q3 H (n:Nat) 0 HP.out 0 16 A La A3 L3 HG.out.base HG.out.good.size HE3.out HE4.out HE5.out HE6.out HC1.out HC2.out).mono ?_
 rintro e w2 ⟨F2,C2,D2,rfl,hq,hb⟩
 obtain ⟨xa,xn,xc,ya,yn,yc,rfl,rfl,hx⟩:=hq.shape
 clear hx
 replace RM:=Zk RM hb
 replace RB:=Zk RB hb
 replace RZ:=Zk RZ hb
 replace BW:=Zb BW hb
 replace AV:=Zh (AV.out.below hb)
 replace QQ0:=Zh (QQ0.out.below hb)
 have QN:=Zh hq
 clear hq hb l0 l1 l2 l3 l4 l5 m0 mz
 clear QQ0
 have HW2:=Zh (show w.heap.size+1+1 < w2.heap.size from (Array.getElem?_eq_some_iff.1 RZ.out).1)
 obtain ⟨t0,t1,hb⟩:=two_boxes w2 #[.int .i64 0,.int .i64 16,.slice xa xn xc,.int .u16 A3,.int .u16 L3,.slice ya yn yc] #[.int .i64 H] 29 3
 replace RM:=Zk RM hb
 replace RB:=Zk RB hb
 replace RZ:=Zk RZ hb
 replace BW:=Zb BW hb
 replace AV:=Zh (AV.out.below hb)
 replace QN:=Zh (QN.out.below hb)
 have RQ:=Zh t0
 have RH:=Zh t1
 clear hb t0 t1
 obtain ⟨⟨u0,u1,u2,u3,u4,u5⟩,x0,x1,x2,x3,x4,x5⟩:=cells_six RQ.out
 obtain ⟨⟨l0,l1,l2,l3,l4,l5,l6⟩,y0,y1,y2,y3,y4,y5⟩:=bk_cells RB.out
 have hltb:=(Array.getElem?_eq_some_iff.1 RB.out).1
 have RMn:=Zh (one_other (one_other (one_other (one_other (one_other (one_other RM.out ⟨w.heap.size+1,0,none⟩ (.int .i64 0) (blocks_ne RM.out RB.out (by decide))) ⟨w.heap.size+1,1,none⟩ (.int .i64 16) (blocks_ne RM.out RB.out (by decide))) ⟨w.heap.size+1,2,none⟩ (.slice xa xn xc) (blocks_ne RM.out RB.out (by decide))) ⟨w.heap.size+1,3,none⟩ (.int .u16 A3) (blocks_ne RM.out RB.out (by decide))) ⟨w.heap.size+1,4,none⟩ (.int .u16 L3) (blocks_ne RM.out RB.out (by decide))) ⟨w.heap.size+1,5,none⟩ (.slice ya yn yc) (blocks_ne RM.out RB.out (by decide)))
 have RZn:=Zh (one_other (one_other (one_other (one_other (one_other (one_other RZ.out ⟨w.heap.size+1,0,none⟩ (.int .i64 0) (show w.heap.size+1≠w.heap.size+1+1 by omega)) ⟨w.heap.size+1,1,none⟩ (.int .i64 16) (show w.heap.size+1≠w.heap.size+1+1 by omega)) ⟨w.heap.size+1,2,none⟩ (.slice xa xn xc) (show w.heap.size+1≠w.heap.size+1+1 by omega)) ⟨w.heap.size+1,3,none⟩ (.int .u16 A3) (show w.heap.size+1≠w.heap.size+1+1 by omega)) ⟨w.heap.size+1,4,none⟩ (.int .u16 L3) (show w.heap.size+1≠w.heap.size+1+1 by omega)) ⟨w.heap.size+1,5,none⟩ (.slice ya yn yc) (show w.heap.size+1≠w.heap.size+1+1 by omega))
 have BWn:=Zh ((((((BW.out.setCell (p:=⟨w.heap.size+1,0,none⟩) (show w.heap.size≤w.heap.size+1 by omega) (.int .i64 0)).setCell (p:=⟨w.heap.size+1,1,none⟩) (show w.heap.size≤w.heap.size+1 by omega) (.int .i64 16)).setCell (p:=⟨w.heap.size+1,2,none⟩) (show w.heap.size≤w.heap.size+1 by omega) (.slice xa xn xc)).setCell (p:=⟨w.heap.size+1,3,none⟩) (show w.heap.size≤w.heap.size+1 by omega) (.int .u16 A3)).setCell (p:=⟨w.heap.size+1,4,none⟩) (show w.heap.size≤w.heap.size+1 by omega) (.int .u16 L3)).setCell (p:=⟨w.heap.size+1,5,none⟩) (show w.heap.size≤w.heap.size+1 by omega) (.slice ya yn yc))
 have AVn:=Zh ((((((AV.out.stay RB.out (by decide) 0 (.int .i64 0)).stay (row_put RB.out 0 (.int .i64 0)) (by decide) 1 (.int .i64 16)).stay (row_put (row_put RB.out 0 (.int .i64 0)) 1 (.int .i64 16)) (by decide) 2 (.slice xa xn xc)).stay (row_put (row_put (row_put RB.out 0 (.int .i64 0)) 1 (.int .i64 16)) 2 (.slice xa xn xc)) (by decide) 3 (.int .u16 A3)).stay (row_put (row_put (row_put (row_put RB.out 0 (.int .i64 0)) 1 (.int .i64 16)) 2 (.slice xa xn xc)) 3 (.int .u16 A3)) (by decide) 4 (.int .u16 L3)).stay (row_put (row_put (row_put (row_put (row_put RB.out 0 (.int .i64 0)) 1 (.int .i64 16)) 2 (.slice xa xn xc)) 3 (.int .u16 A3)) 4 (.int .u16 L3)) (by decide) 5 (.slice ya yn yc))
 have QNn:=Zh ((((((QN.out.stay RB.out (by decide) (by decide) 0 (.int .i64 0)).stay (row_put RB.out 0 (.int .i64 0)) (by decide) (by decide) 1 (.int .i64 16)).stay (row_put (row_put RB.out 0 (.int .i64 0)) 1 (.int .i64 16)) (by decide) (by decide) 2 (.slice xa xn xc)).stay (row_put (row_put (row_put RB.out 0 (.int .i64 0)) 1 (.int .i64 16)) 2 (.slice xa xn xc)) (by decide) (by decide) 3 (.int .u16 A3)).stay (row_put (row_put (row_put (row_put RB.out 0 (.int .i64 0)) 1 (.int .i64 16)) 2 (.slice xa xn xc)) 3 (.int .u16 A3)) (by decide) (by decide) 4 (.int .u16 L3)).stay (row_put (row_put (row_put (row_put (row_put RB.out 0 (.int .i64 0)) 1 (.int .i64 16)) 2 (.slice xa xn xc)) 3 (.int .u16 A3)) 4 (.int .u16 L3)) (by decide) (by decide) 5 (.slice ya yn yc))
 have RQn:=Zh (one_other (one_other (one_other (one_other (one_other (one_other RQ.out ⟨w.heap.size+1,0,none⟩ (.int .i64 0) (blocks_ne RQ.out RB.out (by decide))) ⟨w.heap.size+1,1,none⟩ (.int .i64 16) (blocks_ne RQ.out RB.out (by decide))) ⟨w.heap.size+1,2,none⟩ (.slice xa xn xc) (blocks_ne RQ.out RB.out (by decide))) ⟨w.heap.size+1,3,none⟩ (.int .u16 A3) (blocks_ne RQ.out RB.out (by decide))) ⟨w.heap.size+1,4,none⟩ (.int .u16 L3) (blocks_ne RQ.out RB.out (by decide))) ⟨w.heap.size+1,5,none⟩ (.slice ya yn yc) (blocks_ne RQ.out RB.out (by decide)))
 have RHn:=Zh (one_other (one_other (one_other (one_other (one_other (one_other RH.out ⟨w.heap.size+1,0,none⟩ (.int .i64 0) (blocks_ne RH.out RB.out (by decide))) ⟨w.heap.size+1,1,none⟩ (.int .i64 16) (blocks_ne RH.out RB.out (by decide))) ⟨w.heap.size+1,2,none⟩ (.slice xa xn xc) (blocks_ne RH.out RB.out (by decide))) ⟨w.heap.size+1,3,none⟩ (.int .u16 A3) (blocks_ne RH.out RB.out (by decide))) ⟨w.heap.size+1,4,none⟩ (.int .u16 L3) (blocks_ne RH.out RB.out (by decide))) ⟨w.heap.size+1,5,none⟩ (.slice ya yn yc) (blocks_ne RH.out RB.out (by decide)))
 have RBn:=Zh (bk_queue2 (F2:=(.slice xa xn xc)) (C2:=(.slice ya yn yc)) (A2:=A3) (La2:=L3) RB.out)
 clear RM RB RZ BW AV QN RQ RH
 have RM:=RMn
 clear RMn
 have RB:=RBn
 clear RBn
 have RZ:=RZn
 clear RZn
 have BW:=BWn
 clear BWn
 have AV:=AVn
 clear AVn
 have QN:=QNn
 clear QNn
 have RQ:=RQn
 clear RQn
 have RH:=RHn
 clear RHn
 obtain ⟨b6,bz6⟩:=at_cell RB.out 6 (.int .i64 500) rfl
 go_wp2_with fail
 obtain ⟨w3,hw3⟩:∃ x,x=((((((((w2.alloc (.cells #[.int .i64 0,.int .i64 16,.slice xa xn xc,.int .u16 A3,.int .u16 L3,.slice ya yn yc] 29)).alloc (.cells #[.int .i64 H] 3)).setCell ⟨w.heap.size+1,0,none⟩ (.int .i64 0)).setCell ⟨w.heap.size+1,1,none⟩ (.int .i64 16)).setCell ⟨w.heap.size+1,2,none⟩ (.slice xa xn xc)).setCell ⟨w.heap.size+1,3,none⟩ (.int .u16 A3)).setCell ⟨w.heap.size+1,4,none⟩ (.int .u16 L3)).setCell ⟨w.heap.size+1,5,none⟩ (.slice ya yn yc)):=⟨_,rfl⟩
 rw [←hw3] at RM RB RZ BW AV QN RQ RH ⊢
 clear hw3 u0 u1 u2 u3 u4 u5 x0 x1 x2 x3 x4 x5 l0 l1 l2 l3 l4 l5 l6 y0 y1 y2 y3 y4 y5 hltb b6 bz6
 refine (findDone_any (w.heap.size+1) (w2.heap.size+1) H _ _ _ _ _ _ _ r0 r1 r2 r3 (i:Nat) w3 RB.out RH.out HI.out).mono ?_
 rintro e w4 ⟨rfl,hb⟩
 replace RM:=Zk RM hb
 replace RB:=Zk RB hb
 replace RZ:=Zk RZ hb
 replace BW:=Zb BW hb
 replace AV:=Zh (AV.out.below hb)
 replace QN:=Zh (QN.out.below hb)
 replace RQ:=Zk RQ hb
 replace RH:=Zk RH hb
 clear hb
 clear RH RQ
 have hi4:=HI4.out
 have hlt4:(i:Int) < 4:=by omega
 have hi0:(0:Int)≤(i:Nat):=by omega
 obtain ⟨⟨v0,l0⟩,⟨v1,l1⟩,⟨v2,l2⟩,⟨v3,l3⟩,z0,z1,z2,z3⟩:=bk_slots4 RB.out i hi4
 have hltb:=(Array.getElem?_eq_some_iff.1 RB.out).1
 have RMn:=Zh (one_other (one_other (one_other (one_other RM.out ⟨w.heap.size+1,7+i * 4,none⟩ (.bool false) (blocks_ne RM.out RB.out (by decide))) ⟨w.heap.size+1,7+i * 4+1,none⟩ (.int .i64 0) (blocks_ne RM.out RB.out (by decide))) ⟨w.heap.size+1,7+i * 4+2,none⟩ (.bool false) (blocks_ne RM.out RB.out (by decide))) ⟨w.heap.size+1,7+i * 4+3,none⟩ (.int .i64 0) (blocks_ne RM.out RB.out (by decide)))
 have RZn:=Zh (one_other (one_other (one_other (one_other RZ.out ⟨w.heap.size+1,7+i * 4,none⟩ (.bool false) (show w.heap.size+1≠w.heap.size+1+1 by omega)) ⟨w.heap.size+1,7+i * 4+1,none⟩ (.int .i64 0) (show w.heap.size+1≠w.heap.size+1+1 by omega)) ⟨w.heap.size+1,7+i * 4+2,none⟩ (.bool false) (show w.heap.size+1≠w.heap.size+1+1 by omega)) ⟨w.heap.size+1,7+i * 4+3,none⟩ (.int .i64 0) (show w.heap.size+1≠w.heap.size+1+1 by omega))
 have BWn:=Zh ((((BW.out.setCell (p:=⟨w.heap.size+1,7+i * 4,none⟩) (show w.heap.size≤w.heap.size+1 by omega) (.bool false)).setCell (p:=⟨w.heap.size+1,7+i * 4+1,none⟩) (show w.heap.size≤w.heap.size+1 by omega) (.int .i64 0)).setCell (p:=⟨w.heap.size+1,7+i * 4+2,none⟩) (show w.heap.size≤w.heap.size+1 by omega) (.bool false)).setCell (p:=⟨w.heap.size+1,7+i * 4+3,none⟩) (show w.heap.size≤w.heap.size+1 by omega) (.int .i64 0))
 have AVn:=Zh ((((AV.out.stay RB.out (by decide) (7+i * 4) (.bool false)).stay (row_put RB.out (7+i * 4) (.bool false)) (by decide) (7+i * 4+1) (.int .i64 0)).stay (row_put (row_put RB.out (7+i * 4) (.bool false)) (7+i * 4+1) (.int .i64 0)) (by decide) (7+i * 4+2) (.bool false)).stay (row_put (row_put (row_put RB.out (7+i * 4) (.bool false)) (7+i * 4+1) (.int .i64 0)) (7+i * 4+2) (.bool false)) (by decide) (7+i * 4+3) (.int .i64 0))
 have QNn:=Zh ((((QN.out.stay RB.out (by decide) (by decide) (7+i * 4) (.bool false)).stay (row_put RB.out (7+i * 4) (.bool false)) (by decide) (by decide) (7+i * 4+1) (.int .i64 0)).stay (row_put (row_put RB.out (7+i * 4) (.bool false)) (7+i * 4+1) (.int .i64 0)) (by decide) (by decide) (7+i * 4+2) (.bool false)).stay (row_put (row_put (row_put RB.out (7+i * 4) (.bool false)) (7+i * 4+1) (.int .i64 0)) (7+i * 4+2) (.bool false)) (by decide) (by decide) (7+i * 4+3) (.int .i64 0))
 have RBn:=Zh (slot_put (r:=zReq) RB.out i hi4)
 clear RM RB RZ BW AV QN
 have RM:=RMn
 clear RMn
 have RB:=RBn
 clear RBn
 have RZ:=RZn
 clear RZn
 have BW:=BWn
 clear BWn
 have AV:=AVn
 clear AVn
 have QN:=QNn
 clear QNn
 go_wp2_with fail
 obtain ⟨w5,hw5⟩:∃ x,x=((((w4.setCell ⟨w.heap.size+1,7+i * 4,none⟩ (.bool false)).setCell ⟨w.heap.size+1,7+i * 4+1,none⟩ (.int .i64 0)).setCell ⟨w.heap.size+1,7+i * 4+2,none⟩ (.bool false)).setCell ⟨w.heap.size+1,7+i * 4+3,none⟩ (.int .i64 0)):=⟨_,rfl⟩
 replace RB:=Zh (show ((((w4.setCell ⟨w.heap.size+1,7+i * 4,none⟩ (.bool false)).setCell ⟨w.heap.size+1,7+i * 4+1,none⟩ (.int .i64 0)).setCell ⟨w.heap.size+1,7+i * 4+2,none⟩ (.bool false)).setCell ⟨w.heap.size+1,7+i * 4+3,none⟩ (.int .i64 0)).heap[w.heap.size+1]? = some (.cells (bk (.slice xa xn xc) (.slice ya yn yc) A3 L3 (upd i 0 zReq r0) (upd i 1 zReq r1) (upd i 2 zReq r2) (upd i 3 zReq r3)) 34 (0,0)) from RB.out)
 rw [←hw5] at RM RB RZ BW AV QN ⊢
 clear hw5 l0 l1 l2 l3 z0 z1 z2 z3 hltb hi4 hlt4 hi0
 refine wp_region_rec (X:=BlkDoneA) (by kernel_rfl) (by kernel_rfl) (fun x=>#[x.b0,x.b1,x.b2,x.b3,x.b4,x.b5,x.b6,x.b7,x.b8,x.b9,x.b10,x.b11,x.b12,x.b13]) (fun x=>{ tmps:=List.toArray ((.agg #[.slice ma 1700 mc])::(.agg (bk (.slice fa fn fc) (.slice ca cn cc) A La r0 r1 r2 r3))::(.pointer (some ⟨w.heap.size,0,none⟩))::(.pointer (some ⟨w.heap.size+1,0,none⟩))::(.pointer (some ⟨w.heap.size+1+1,0,none⟩))::x.s5::x.s6::x.s7::(.pointer (some ⟨w2.heap.size,0,none⟩))::(.pointer (some ⟨w2.heap.size+1,0,none⟩))::(.int .i64 (n:Nat))::(.int .i64 0)::(.int .i64 (i:Nat))::(.agg (bk (.slice fa fn fc) (.slice ca cn cc) A La r0 r1 r2 r3))::(.bool true)::(.bool false)::undef::undef::(.tuple #[.agg #[.int .i64 0,.int .i64 16,.slice xa xn xc,.int .u16 A3,.int .u16 L3,.slice ya yn yc],.int .i64 H,.int .i64 (n:Nat),.int .i64 0])::(.agg #[.slice ma 1700 mc])::(.pointer (some ⟨w.heap.size+1,0,none⟩))::(.agg #[.int .i64 0,.int .i64 16,.slice fa fn fc,.int .u16 A,.int .u16 La,.slice ca cn cc])::(.tuple #[.agg #[.int .i64 0,.int .i64 16,.slice xa xn xc,.int .u16 A3,.int .u16 L3,.slice ya yn yc],.int .i64 H,.int .i64 (n:Nat),.int .i64 0])::(.agg #[.int .i64 0,.int .i64 16,.slice xa xn xc,.int .u16 A3,.int .u16 L3,.slice ya yn yc])::(.int .i64 H)::(.int .i64 (n:Nat))::(.int .i64 0)::(.agg #[.int .i64 0,.int .i64 16,.slice xa xn xc,.int .u16 A3,.int .u16 L3,.slice ya yn yc])::(.pointer (some ⟨w.heap.size+1,0,none⟩))::(.int .i64 0)::(.bool false)::undef::undef::(.pointer (some ⟨w.heap.size+1,7,none⟩))::(.slice (some ⟨w.heap.size+1,7,none⟩) 4 4)::(.func (.func 32) #[] #[.pointer (some ⟨w2.heap.size+1,0,none⟩)])::(.int .i64 (i:Nat))::(.int .i64 (i:Nat))::(.agg #[.bool false,.int .i64 0,.bool false,.int .i64 0])::(.pointer (some ⟨w.heap.size+1,7,none⟩))::(.pointer (some ⟨w.heap.size+1,7+i * 4,none⟩))::x.s41::x.s42::x.s43::x.s44::x.s45::x.s46::x.s47::x.s48::x.s49::x.s50::[]),defers:=[] }) (fun x W=>(x.b0→x.s41=.agg (bk (.slice xa xn xc) (.slice ya yn yc) A3 L3 (upd i 0 zReq r0) (upd i 1 zReq r1) (upd i 2 zReq r2) (upd i 3 zReq r3)))∧(x.b1→x.s42=.int .i64 (i:Nat))∧(x.b2→x.s43=.agg #[.slice ma 1700 mc])∧(x.b3→x.s44=.pointer (some ⟨w.heap.size+1,6,none⟩))∧(x.b4→x.s45=.int .i64 500)∧(x.b5→x.s46=.int .i64 (i:Nat))∧(x.b6→x.s47=.int .i64 (((i:Nat):Int) * 288))∧(x.b7→x.s48=.int .i64 (p:Nat))∧(x.b8→x.s49=.int .i64 (n:Nat))∧(x.b9→x.s50=.int .i64 R)∧(x.b11→x.s5=.int .i64 (i:Nat))∧(x.b12→x.s6=.int .i64 R)∧(x.b13→x.s7=.int .i64 0)∧(x.b10→x.b9)∧(W.heap[w.heap.size]? = some (.cells #[.slice ma 1700 mc] 24 (0,0)))∧(W.heap[w.heap.size+1]? = some (.cells (bk (.slice xa xn xc) (.slice ya yn yc) A3 L3 (upd i 0 zReq r0) (upd i 1 zReq r1) (upd i 2 zReq r2) (upd i 3 zReq r3)) 34 (0,0)))∧(x.b10=false→W.heap[w.heap.size+1+1]? = some (.cells (bk0) 34 (0,0)))∧(x.b10→W.heap[w.heap.size+1+1]? = some (.cells (bk (.slice xa xn xc) (.slice ya yn yc) A3 L3 (upd i 0 zReq r0) (upd i 1 zReq r1) (upd i 2 zReq r2) (upd i 3 zReq r3)) 34 (0,0)))∧(Below w.heap.size w W)∧(OwnB 0 W (.slice ma 1700 mc) l)∧(IsQ 0 W (.slice xa xn xc) (.slice ya yn yc) q3 D2)) ⟨false,false,false,false,false,false,false,false,false,false,false,false,false,false,undef,undef,undef,undef,undef,undef,undef,undef,undef,undef,.int .i64 0,.int .i64 0,.int .i64 0⟩ rfl rfl ⟨Zf,Zf,Zf,Zf,Zf,Zf,Zf,Zf,Zf,Zf,Zf,Zf,Zf,Zf,RM.out,RB.out,(fun _=>RZ.out),Zf,BW.out.drew,AV.out.drew,QN.out.drew⟩ (fun _=>rfl) ?hstep ?hdone
 case hstep =>
  rintro ⟨b0,b1,b2,b3,b4,b5,b6,b7,b8,b9,b10,b11,b12,b13,s41,s42,s43,s44,s45,s46,s47,s48,s49,s50,s5,s6,s7⟩ W hI i hi
  dsimp only at hI hi ⊢
  have HI:=Zh hI
  clear hI
  rw [Region.ready,List.mem_filter,List.mem_range] at hi
  obtain ⟨hlt,hp⟩:=hi
  have hi7:i=0∨i=1∨i=2∨i=3∨i=4∨i=5∨i=6∨i=7∨i=8∨i=9∨i=10∨i=11∨i=12∨i=13:=by simp at hlt; omega
  clear hlt
  rcases hi7 with rfl|rfl|rfl|rfl|rfl|rfl|rfl|rfl|rfl|rfl|rfl|rfl|rfl|rfl
  all_goals simp [Region.binds] at hp
  · obtain rfl:b0=false:=by revert hp; cases b0 <;> simp
    clear hp; refine Zv 41 fun K' hK'=>?_
    have rB:=(Zd (Ze HI.out)).2.2.2.1
    refine step_blk_load rfl _ rfl _ rfl _ rB rfl ?_
    exact hK'.out _ _ ⟨.mk ..,rfl,rfl,(Upd (fun _=>rfl)) HI.out⟩
  · obtain rfl:b1=false:=by revert hp; cases b1 <;> simp
    clear hp; refine Zv 42 fun K' hK'=>?_
    go_simp
    exact hK'.out _ _ ⟨.mk ..,rfl,rfl,Nxt (Upd (fun _=>rfl)) HI.out⟩
  · obtain rfl:b2=false:=by revert hp; cases b2 <;> simp
    clear hp; refine Zv 43 fun K' hK'=>?_
    have rM:=(Zd (Ze HI.out)).2.2.1
    obtain ⟨hc0,_⟩:=at_cell rM 0 _ rfl
    go_simp
    exact hK'.out _ _ ⟨.mk ..,rfl,rfl,Nxt (Nxt (Upd (fun _=>rfl))) HI.out⟩
  · obtain rfl:b3=false:=by revert hp; cases b3 <;> simp
    clear hp; refine Zv 44 fun K' hK'=>?_
    go_simp
    exact hK'.out _ _ ⟨.mk ..,rfl,rfl,Nxt (Nxt (Nxt (Upd (fun _=>rfl)))) HI.out⟩
  · obtain ⟨rfl,e3⟩:b4=false∧b3=true:=by revert hp; cases b4 <;> cases b3 <;> simp
    clear hp
    obtain rfl:=(HI.out.2.2.2.1) e3
    refine Zv 45 fun K' hK'=>?_
    have rB:=(Zd (Ze HI.out)).2.2.2.1
    obtain ⟨hc6,_⟩:=at_cell rB 6 _ rfl
    go_simp
    exact hK'.out _ _ ⟨.mk ..,rfl,rfl,Nx4 (Upd (fun _=>rfl)) HI.out⟩
  · obtain rfl:b5=false:=by revert hp; cases b5 <;> simp
    clear hp; refine Zv 46 fun K' hK'=>?_
    go_simp
    exact hK'.out _ _ ⟨.mk ..,rfl,rfl,Nxt (Nx4 (Upd (fun _=>rfl))) HI.out⟩
  · obtain ⟨rfl,e5⟩:b6=false∧b5=true:=by revert hp; cases b6 <;> cases b5 <;> simp
    clear hp
    obtain rfl:=((Zd HI.out).2.1) e5
    refine Zv 47 fun K' hK'=>?_
    have hi4:=HI4.out
    have hww:IntKind.i64.wrap (((i:Nat):Int) * 288)=((i:Nat):Int) * 288:=IntWalk.i64_in _ (by omega)
    go_simp
    exact hK'.out _ _ ⟨.mk ..,rfl,rfl,Nxt (Nxt (Nx4 (Upd (fun _=>rfl)))) HI.out⟩
  · obtain ⟨rfl,e4,e6⟩:b7=false∧b4=true∧b6=true:=by revert hp; cases b7 <;> cases b4 <;> cases b6 <;> simp
    clear hp
    obtain rfl:=((Zd HI.out).1) e4
    obtain rfl:=((Zd HI.out).2.2.1) e6
    refine Zv 48 fun K' hK'=>?_
    have hi4:=HI4.out
    have hpp:(500:Int)+((i:Nat):Int) * 288=(p:Nat):=by have:=HPP.out; omega
    have hww:IntKind.i64.wrap ((p:Nat):Int)=(p:Nat):=IntWalk.i64_in _ (by have:=HPP.out; omega)
    go_simp
    exact hK'.out _ _ ⟨.mk ..,rfl,rfl,Nxt (Nxt (Nxt (Nx4 (Upd (fun _=>rfl))))) HI.out⟩
  · obtain rfl:b8=false:=by revert hp; cases b8 <;> simp
    clear hp; refine Zv 49 fun K' hK'=>?_
    go_simp
    exact hK'.out _ _ ⟨.mk ..,rfl,rfl,Nx4 (Nx4 (Upd (fun _=>rfl))) HI.out⟩
  · have hn9:b9=false:=by revert hp; cases b9 <;> simp
    have e2:b2=true:=by revert hp; cases b2 <;> simp
    have e7:b7=true:=by revert hp; cases b7 <;> simp
    have e8:b8=true:=by revert hp; cases b8 <;> simp
    clear hp
    obtain rfl:=(HI.out.2.2.1) e2
    obtain rfl:=((Zd HI.out).2.2.2.1) e7
    obtain rfl:=((Ze HI.out).1) e8
    subst hn9
    refine Zv 50 fun K' hK'=>?_
    have gi10:=(Zd (Ze HI.out)).2.1
    have gV:=(Zg HI.out).2.2.2.1
    obtain rfl:b10=false:=Zz fun e=>(gi10 e)
    go_simp
    refine (went_any _ l p st n R W gV HL.out (by have:=HPP.out; have:=HI4.out; omega) HST.out HN.out HR.out).mono ?_
    rintro e w2 ⟨rfl,bn⟩
    obtain ⟨h0,h1,h2,h3,h4,h5,h6,h7,h8,h9,h11,h12,h13,gi10,rM,rB,rZ0,rZ1,gB,gV,gQ⟩:=HI.out
    exact hK'.out _ _ ⟨.mk ..,rfl,rfl,h0,h1,h2,h3,h4,h5,h6,h7,h8,(fun _=>rfl),h11,h12,h13,Zf,(row_keep rM bn),(row_keep rB bn),(fun e=>row_keep (rZ0 e) bn),Zf,(gB.trans (bn.mono gB.size)),(gV.below bn),(gQ.below bn)⟩
  · obtain ⟨rfl,e0,e9⟩:b10=false∧b0=true∧b9=true:=by revert hp; cases b10 <;> cases b0 <;> cases b9 <;> simp
    clear hp
    obtain rfl:=(HI.out.1) e0
    refine inv_op (o:=⟨none,_,_,_,_,_⟩) rfl (fun K' hK'=>?_)
    have rZ0:=(Zg HI.out).1
    refine step_blk_store rfl _ _ rfl _ _ rfl rfl _ (rZ0 rfl) rfl rfl (bk_one rfl rfl) ?_
    obtain ⟨h0,h1,h2,h3,h4,h5,h6,h7,h8,h9,h11,h12,h13,gi10,rM,rB,rZ0,rZ1,gB,gV,gQ⟩:=HI.out
    exact hK'.out _ _ ⟨.mk ..,rfl,rfl,h0,h1,h2,h3,h4,h5,h6,h7,h8,h9,h11,h12,h13,(fun _=>e9),(row_other rM _ (Zn rM (rZ0 rfl))),(row_other rB _ (show w.heap.size+1+1≠w.heap.size+1 by omega)),Zf,(fun _=>row_self (rZ0 rfl) (bk (.slice xa xn xc) (.slice ya yn yc) A3 L3 (upd i 0 zReq r0) (upd i 1 zReq r1) (upd i 2 zReq r2) (upd i 3 zReq r3))),(below_row gB (show w.heap.size≤w.heap.size+1+1 by omega) _),(gV.row (rZ0 rfl) _),(gQ.row (rZ0 rfl) _)⟩
  · obtain ⟨rfl,e1,e10⟩:b11=false∧b1=true∧b10=true:=by revert hp; cases b11 <;> cases b1 <;> cases b10 <;> simp
    clear hp
    obtain rfl:=(HI.out.2.1) e1
    refine Zv 5 fun K' hK'=>?_
    go_simp
    exact hK'.out _ _ ⟨.mk ..,rfl,rfl,Nxt (Nxt (Nx4 (Nx4 (Upd (fun _=>rfl))))) HI.out⟩
  · obtain ⟨rfl,e9,e11⟩:b12=false∧b9=true∧b11=true:=by revert hp; cases b12 <;> cases b9 <;> cases b11 <;> simp
    clear hp
    obtain rfl:=((Ze HI.out).2.1) e9
    refine Zv 6 fun K' hK'=>?_
    go_simp
    exact hK'.out _ _ ⟨.mk ..,rfl,rfl,Nxt (Nxt (Nxt (Nx4 (Nx4 (Upd (fun _=>rfl)))))) HI.out⟩
  · obtain ⟨rfl,e12⟩:b13=false∧b12=true:=by revert hp; cases b13 <;> cases b12 <;> simp
    clear hp; refine Zv 7 fun K' hK'=>?_
    go_simp
    exact hK'.out _ _ ⟨.mk ..,rfl,rfl,Nx4 (Nx4 (Nx4 (Upd (fun _=>rfl)))) HI.out⟩
 case hdone =>
  rintro ⟨b0,b1,b2,b3,b4,b5,b6,b7,b8,b9,b10,b11,b12,b13,s41,s42,s43,s44,s45,s46,s47,s48,s49,s50,s5,s6,s7⟩ W hI hall
  dsimp only at hI hall ⊢
  have HI:=Zh hI
  clear hI
  obtain rfl:b0=true:=hall 0 (by decide)
  obtain rfl:b1=true:=hall 1 (by decide)
  obtain rfl:b2=true:=hall 2 (by decide)
  obtain rfl:b3=true:=hall 3 (by decide)
  obtain rfl:b4=true:=hall 4 (by decide)
  obtain rfl:b5=true:=hall 5 (by decide)
  obtain rfl:b6=true:=hall 6 (by decide)
  obtain rfl:b7=true:=hall 7 (by decide)
  obtain rfl:b8=true:=hall 8 (by decide)
  obtain rfl:b9=true:=hall 9 (by decide)
  obtain rfl:b10=true:=hall 10 (by decide)
  obtain rfl:b11=true:=hall 11 (by decide)
  obtain rfl:b12=true:=hall 12 (by decide)
  obtain rfl:b13=true:=hall 13 (by decide)
  obtain rfl:=((Ze HI.out).2.2.1) rfl
  obtain rfl:=((Ze HI.out).2.2.2.1) rfl
  obtain rfl:=((Zd (Ze HI.out)).1) rfl
  have rZ1:=(Zg HI.out).2.1
  have gB:=(Zg HI.out).2.2.1
  have gQ:=(Zd (Zg HI.out))
  clear HI hall
  have HZ3:=rZ1 rfl
  have HB4:=Zh gB
  have HQ4:=Zh gQ
  clear rZ1 gB gQ
  go_wp2
  exact bodyPost_ret (results_bttt rfl rfl HZ3 rfl) rfl ⟨_,_,_,rfl,HQ4.out,HB4.out⟩
set_option maxHeartbeats 400000 in
set_option maxRecDepth 100000 in
theorem done_none (q:QQ) (r0 r1 r2 r3:Req) (F C v:Value) (D:List Value) (l:List UInt8) (A La:Int) (w:World) (hv:OwnB 0 w v l) (hq:IsQ 0 w F C q D) (hgb:GoodB q r0 r1 r2 r3) (hl:l.length=1700) (hp:∀ q2 x y E,PollSpec l 0 16 q q2 x y E→q2=q∧x=0∧y=0∧E=7) (e3:((q.avail:Nat):Int)=A) (e4:((q.last:Nat):Int)=La) :
 Calls Tryz.prog 12 #[.agg #[v],.agg (bk F C A La r0 r1 r2 r3)] w fun e w'=>∃ F2 C2 D2,e=.returned (.tuple #[.agg (bk F2 C2 A La r0 r1 r2 r3),.int .i64 0,.int .i64 0,.int .i64 7])∧IsQ 0 w' F2 C2 q D2∧Below w.heap.size w w':=by
 obtain ⟨ma,mc,rfl,hx,hy⟩:=hv.shape
 clear hx hy
 rw [hl] at hv ⊢
 obtain ⟨fa,fn,fc,ca,cn,cc,rfl,rfl,hx⟩:=hq.shape
 clear hx
 have zRM:w.heap.size=w.heap.size:=rfl
 have bRM:Below w.heap.size w (w.alloc (.cells #[.slice ma 1700 mc] 24)):=(Below.refl _ _).alloc (Nat.le_refl _) _
 have zRB:(w.alloc (.cells #[.slice ma 1700 mc] 24)).heap.size=w.heap.size+1:=by simp
 have bRB:Below w.heap.size w ((w.alloc (.cells #[.slice ma 1700 mc] 24)).alloc (.cells (bk (.slice fa fn fc) (.slice ca cn cc) A La r0 r1 r2 r3) 34)):=bRM.alloc (by rw [zRB]; omega) _
 have zRZ:((w.alloc (.cells #[.slice ma 1700 mc] 24)).alloc (.cells (bk (.slice fa fn fc) (.slice ca cn cc) A La r0 r1 r2 r3) 34)).heap.size=w.heap.size+1+1:=by simp
 have bRZ:Below w.heap.size w (((w.alloc (.cells #[.slice ma 1700 mc] 24)).alloc (.cells (bk (.slice fa fn fc) (.slice ca cn cc) A La r0 r1 r2 r3) 34)).alloc (.cells #[.int .i64 0,.int .i64 0,.slice none 0 0,.int .u16 0,.int .u16 0,.slice none 0 0,.int .i64 0,.bool false,.int .i64 0,.bool false,.int .i64 0,.bool false,.int .i64 0,.bool false,.int .i64 0,.bool false,.int .i64 0,.bool false,.int .i64 0,.bool false,.int .i64 0,.bool false,.int .i64 0] 34)):=bRB.alloc (by rw [zRZ]; omega) _
 have tRM:=heap_alloc_new w (.cells #[.slice ma 1700 mc] 24)
 rw [zRM] at tRM
 have RM:=Zh (row_new (row_new tRM (.cells (bk (.slice fa fn fc) (.slice ca cn cc) A La r0 r1 r2 r3) 34)) (.cells #[.int .i64 0,.int .i64 0,.slice none 0 0,.int .u16 0,.int .u16 0,.slice none 0 0,.int .i64 0,.bool false,.int .i64 0,.bool false,.int .i64 0,.bool false,.int .i64 0,.bool false,.int .i64 0,.bool false,.int .i64 0,.bool false,.int .i64 0,.bool false,.int .i64 0,.bool false,.int .i64 0] 34))
 have tRB:=heap_alloc_new (w.alloc (.cells #[.slice ma 1700 mc] 24)) (.cells (bk (.slice fa fn fc) (.slice ca cn cc) A La r0 r1 r2 r3) 34)
 rw [zRB] at tRB
 have RB:=Zh (row_new tRB (.cells #[.int .i64 0,.int .i64 0,.slice none 0 0,.int .u16 0,.int .u16 0,.slice none 0 0,.int .i64 0,.bool false,.int .i64 0,.bool false,.int .i64 0,.bool false,.int .i64 0,.bool false,.int .i64 0,.bool false,.int .i64 0,.bool false,.int .i64 0,.bool false,.int .i64 0,.bool false,.int .i64 0] 34))
 have tRZ:=heap_alloc_new ((w.alloc (.cells #[.slice ma 1700 mc] 24)).alloc (.cells (bk (.slice fa fn fc) (.slice ca cn cc) A La r0 r1 r2 r3) 34)) (.cells #[.int .i64 0,.int .i64 0,.slice none 0 0,.int .u16 0,.int .u16 0,.slice none 0 0,.int .i64 0,.bool false,.int .i64 0,.bool false,.int .i64 0,.bool false,.int .i64 0,.bool false,.int .i64 0,.bool false,.int .i64 0,.bool false,.int .i64 0,.bool false,.int .i64 0,.bool false,.int .i64 0] 34)
 rw [zRZ] at tRZ
 have RZ:=Zh tRZ
 have BW:=Zh bRZ
 have AV:=Zh (hv.below BW.out)
 have QQ0:=Zh (hq.below BW.out)
 have HG:=Zh hgb
 have HL:=Zh hl
 have HP:=Zh hp
 have HE3:=Zh e3
 have HE4:=Zh e4
 clear hv hq hgb hl hp e3 e4 tRM tRB tRZ zRM zRB zRZ bRM bRB bRZ
 go_enter Tryz.func12,Tryz.ntmps12
 go_wp2_with (refine blk_load rfl _ rfl _ rfl _ RB.out rfl ?_)
 refine (blkCheck_any q r0 r1 r2 r3 _ _ D A La _ QQ0.out HG.out HE3.out HE4.out).mono ?_
 rintro e w1 ⟨rfl,hb⟩
 replace RM:=Zk RM hb
 replace RB:=Zk RB hb
 replace RZ:=Zk RZ hb
 replace BW:=Zb BW hb
 replace AV:=Zh (AV.out.below hb)
 replace QQ0:=Zh (QQ0.out.below hb)
 clear hb
 obtain ⟨m0,mz⟩:=one_cell RM.out
 obtain ⟨⟨l0,l1,l2,l3,l4,l5,l6⟩,y0,y1,y2,y3,y4,y5⟩:=bk_cells RB.out
 clear y0 y1 y2 y3 y4 y5 l6
 go_wp2_with fail
 refine (poll_this q 16 0 _ _ _ D l w1 AV.out QQ0.out HG.out.good HG.out.base (ok1700 HL.out) q 0 0 7 HP.out 0 16 A La A La HG.out.base HG.out.good.size HE3.out HE4.out HE3.out HE4.out rfl rfl).mono ?_
 rintro e w2 ⟨F2,C2,D2,rfl,hq,hb⟩
 obtain ⟨xa,xn,xc,ya,yn,yc,rfl,rfl,hx⟩:=hq.shape
 clear hx
 replace RM:=Zk RM hb
 replace RB:=Zk RB hb
 replace RZ:=Zk RZ hb
 replace BW:=Zb BW hb
 replace AV:=Zh (AV.out.below hb)
 replace QQ0:=Zh (QQ0.out.below hb)
 have QN:=Zh hq
 clear hq hb l0 l1 l2 l3 l4 l5 m0 mz
 clear QQ0
 have HW2:=Zh (show w.heap.size+1+1 < w2.heap.size from (Array.getElem?_eq_some_iff.1 RZ.out).1)
 obtain ⟨t0,t1,hb⟩:=two_boxes w2 #[.int .i64 0,.int .i64 16,.slice xa xn xc,.int .u16 A,.int .u16 La,.slice ya yn yc] #[.int .i64 0] 29 3
 replace RM:=Zk RM hb
 replace RB:=Zk RB hb
 replace RZ:=Zk RZ hb
 replace BW:=Zb BW hb
 replace AV:=Zh (AV.out.below hb)
 replace QN:=Zh (QN.out.below hb)
 have RQ:=Zh t0
 have RH:=Zh t1
 clear hb t0 t1
 obtain ⟨⟨u0,u1,u2,u3,u4,u5⟩,x0,x1,x2,x3,x4,x5⟩:=cells_six RQ.out
 obtain ⟨⟨l0,l1,l2,l3,l4,l5,l6⟩,y0,y1,y2,y3,y4,y5⟩:=bk_cells RB.out
 have hltb:=(Array.getElem?_eq_some_iff.1 RB.out).1
 have RMn:=Zh (one_other (one_other (one_other (one_other (one_other (one_other RM.out ⟨w.heap.size+1,0,none⟩ (.int .i64 0) (blocks_ne RM.out RB.out (by decide))) ⟨w.heap.size+1,1,none⟩ (.int .i64 16) (blocks_ne RM.out RB.out (by decide))) ⟨w.heap.size+1,2,none⟩ (.slice xa xn xc) (blocks_ne RM.out RB.out (by decide))) ⟨w.heap.size+1,3,none⟩ (.int .u16 A) (blocks_ne RM.out RB.out (by decide))) ⟨w.heap.size+1,4,none⟩ (.int .u16 La) (blocks_ne RM.out RB.out (by decide))) ⟨w.heap.size+1,5,none⟩ (.slice ya yn yc) (blocks_ne RM.out RB.out (by decide)))
 have RZn:=Zh (one_other (one_other (one_other (one_other (one_other (one_other RZ.out ⟨w.heap.size+1,0,none⟩ (.int .i64 0) (show w.heap.size+1≠w.heap.size+1+1 by omega)) ⟨w.heap.size+1,1,none⟩ (.int .i64 16) (show w.heap.size+1≠w.heap.size+1+1 by omega)) ⟨w.heap.size+1,2,none⟩ (.slice xa xn xc) (show w.heap.size+1≠w.heap.size+1+1 by omega)) ⟨w.heap.size+1,3,none⟩ (.int .u16 A) (show w.heap.size+1≠w.heap.size+1+1 by omega)) ⟨w.heap.size+1,4,none⟩ (.int .u16 La) (show w.heap.size+1≠w.heap.size+1+1 by omega)) ⟨w.heap.size+1,5,none⟩ (.slice ya yn yc) (show w.heap.size+1≠w.heap.size+1+1 by omega))
 have BWn:=Zh ((((((BW.out.setCell (p:=⟨w.heap.size+1,0,none⟩) (show w.heap.size≤w.heap.size+1 by omega) (.int .i64 0)).setCell (p:=⟨w.heap.size+1,1,none⟩) (show w.heap.size≤w.heap.size+1 by omega) (.int .i64 16)).setCell (p:=⟨w.heap.size+1,2,none⟩) (show w.heap.size≤w.heap.size+1 by omega) (.slice xa xn xc)).setCell (p:=⟨w.heap.size+1,3,none⟩) (show w.heap.size≤w.heap.size+1 by omega) (.int .u16 A)).setCell (p:=⟨w.heap.size+1,4,none⟩) (show w.heap.size≤w.heap.size+1 by omega) (.int .u16 La)).setCell (p:=⟨w.heap.size+1,5,none⟩) (show w.heap.size≤w.heap.size+1 by omega) (.slice ya yn yc))
 have AVn:=Zh ((((((AV.out.stay RB.out (by decide) 0 (.int .i64 0)).stay (row_put RB.out 0 (.int .i64 0)) (by decide) 1 (.int .i64 16)).stay (row_put (row_put RB.out 0 (.int .i64 0)) 1 (.int .i64 16)) (by decide) 2 (.slice xa xn xc)).stay (row_put (row_put (row_put RB.out 0 (.int .i64 0)) 1 (.int .i64 16)) 2 (.slice xa xn xc)) (by decide) 3 (.int .u16 A)).stay (row_put (row_put (row_put (row_put RB.out 0 (.int .i64 0)) 1 (.int .i64 16)) 2 (.slice xa xn xc)) 3 (.int .u16 A)) (by decide) 4 (.int .u16 La)).stay (row_put (row_put (row_put (row_put (row_put RB.out 0 (.int .i64 0)) 1 (.int .i64 16)) 2 (.slice xa xn xc)) 3 (.int .u16 A)) 4 (.int .u16 La)) (by decide) 5 (.slice ya yn yc))
 have QNn:=Zh ((((((QN.out.stay RB.out (by decide) (by decide) 0 (.int .i64 0)).stay (row_put RB.out 0 (.int .i64 0)) (by decide) (by decide) 1 (.int .i64 16)).stay (row_put (row_put RB.out 0 (.int .i64 0)) 1 (.int .i64 16)) (by decide) (by decide) 2 (.slice xa xn xc)).stay (row_put (row_put (row_put RB.out 0 (.int .i64 0)) 1 (.int .i64 16)) 2 (.slice xa xn xc)) (by decide) (by decide) 3 (.int .u16 A)).stay (row_put (row_put (row_put (row_put RB.out 0 (.int .i64 0)) 1 (.int .i64 16)) 2 (.slice xa xn xc)) 3 (.int .u16 A)) (by decide) (by decide) 4 (.int .u16 La)).stay (row_put (row_put (row_put (row_put (row_put RB.out 0 (.int .i64 0)) 1 (.int .i64 16)) 2 (.slice xa xn xc)) 3 (.int .u16 A)) 4 (.int .u16 La)) (by decide) (by decide) 5 (.slice ya yn yc))
 have RQn:=Zh (one_other (one_other (one_other (one_other (one_other (one_other RQ.out ⟨w.heap.size+1,0,none⟩ (.int .i64 0) (blocks_ne RQ.out RB.out (by decide))) ⟨w.heap.size+1,1,none⟩ (.int .i64 16) (blocks_ne RQ.out RB.out (by decide))) ⟨w.heap.size+1,2,none⟩ (.slice xa xn xc) (blocks_ne RQ.out RB.out (by decide))) ⟨w.heap.size+1,3,none⟩ (.int .u16 A) (blocks_ne RQ.out RB.out (by decide))) ⟨w.heap.size+1,4,none⟩ (.int .u16 La) (blocks_ne RQ.out RB.out (by decide))) ⟨w.heap.size+1,5,none⟩ (.slice ya yn yc) (blocks_ne RQ.out RB.out (by decide)))
 have RHn:=Zh (one_other (one_other (one_other (one_other (one_other (one_other RH.out ⟨w.heap.size+1,0,none⟩ (.int .i64 0) (blocks_ne RH.out RB.out (by decide))) ⟨w.heap.size+1,1,none⟩ (.int .i64 16) (blocks_ne RH.out RB.out (by decide))) ⟨w.heap.size+1,2,none⟩ (.slice xa xn xc) (blocks_ne RH.out RB.out (by decide))) ⟨w.heap.size+1,3,none⟩ (.int .u16 A) (blocks_ne RH.out RB.out (by decide))) ⟨w.heap.size+1,4,none⟩ (.int .u16 La) (blocks_ne RH.out RB.out (by decide))) ⟨w.heap.size+1,5,none⟩ (.slice ya yn yc) (blocks_ne RH.out RB.out (by decide)))
 have RBn:=Zh (bk_queue2 (F2:=(.slice xa xn xc)) (C2:=(.slice ya yn yc)) (A2:=A) (La2:=La) RB.out)
 clear RM RB RZ BW AV QN RQ RH
 have RM:=RMn
 clear RMn
 have RB:=RBn
 clear RBn
 have RZ:=RZn
 clear RZn
 have BW:=BWn
 clear BWn
 have AV:=AVn
 clear AVn
 have QN:=QNn
 clear QNn
 have RQ:=RQn
 clear RQn
 have RH:=RHn
 clear RHn
 go_upto_region 6 with fail
 obtain ⟨w3,hw3⟩:∃ x,x=((((((((w2.alloc (.cells #[.int .i64 0,.int .i64 16,.slice xa xn xc,.int .u16 A,.int .u16 La,.slice ya yn yc] 29)).alloc (.cells #[.int .i64 0] 3)).setCell ⟨w.heap.size+1,0,none⟩ (.int .i64 0)).setCell ⟨w.heap.size+1,1,none⟩ (.int .i64 16)).setCell ⟨w.heap.size+1,2,none⟩ (.slice xa xn xc)).setCell ⟨w.heap.size+1,3,none⟩ (.int .u16 A)).setCell ⟨w.heap.size+1,4,none⟩ (.int .u16 La)).setCell ⟨w.heap.size+1,5,none⟩ (.slice ya yn yc)):=⟨_,rfl⟩
 rw [←hw3] at RM RB RZ BW AV QN RQ RH ⊢
 clear hw3 u0 u1 u2 u3 u4 u5 x0 x1 x2 x3 x4 x5 l0 l1 l2 l3 l4 l5 l6 y0 y1 y2 y3 y4 y5 hltb
 go_wp2_with (first|(refine blk_load rfl _ rfl _ rfl _ RB.out rfl ?_)|(refine blk_store rfl _ _ rfl _ _ rfl rfl _ RZ.out rfl rfl (bk_one rfl rfl) ?_))
 exact bodyPost_ret (results_bttt rfl rfl (row_self RZ.out _) rfl) rfl ⟨_,_,_,rfl,QN.out.row RZ.out _,below_row BW.out (show w.heap.size≤w.heap.size+1+1 by omega) _⟩
set_option maxHeartbeats 400000 in
theorem has_any (a:Option Addr) (n c:Nat) (a1:Option Addr) (m c1:Nat) (z:Int) (r:Bool) (hr:r=decide (0≤z∧z < (n:Int))) (w:World) :
 Calls Tryz.prog 127 #[.agg #[.slice a n c,.slice a1 m c1],.int .i64 z] w fun e w'=>e=.returned (.bool r)∧Below w.heap.size w w':=by
 by_cases h1:0≤z
 · by_cases h2:z < (n:Int)
   · obtain rfl:r=true:=by rw [hr]; exact decide_eq_true ⟨h1,h2⟩
     clear hr
     go_enter Tryz.func127,Tryz.ntmps127
     go_wp2
     go_ret
     exact ⟨rfl,(Below.refl _ _).alloc (Nat.le_refl _) _⟩
   · obtain rfl:r=false:=by rw [hr]; exact decide_eq_false (fun h=>h2 h.2)
     clear hr
     go_enter Tryz.func127,Tryz.ntmps127
     go_wp2
     go_ret
     exact ⟨rfl,(Below.refl _ _).alloc (Nat.le_refl _) _⟩
 · obtain rfl:r=false:=by rw [hr]; exact decide_eq_false (fun h=>h1 h.1)
   clear hr
   go_enter Tryz.func127,Tryz.ntmps127
   go_wp2
   go_ret
   exact ⟨rfl,(Below.refl _ _).alloc (Nat.le_refl _) _⟩
set_option maxHeartbeats 400000 in
theorem refHas_any (a:Option Addr) (n c:Nat) (a1:Option Addr) (m c1:Nat) (z:Int) (r:Bool) (hr:r=decide (0≤z∧z < (n:Int))) (w:World) :
 Calls Tryz.prog 35 #[.agg #[.slice a n c,.slice a1 m c1],.int .i64 z] w fun e w'=>e=.returned (.bool r)∧Below w.heap.size w w':=by
 by_cases h1:0≤z
 · by_cases h2:z < (n:Int)
   · obtain rfl:r=true:=by rw [hr]; exact decide_eq_true ⟨h1,h2⟩
     clear hr
     go_enter Tryz.func35,Tryz.ntmps35
     go_wp2
     go_ret
     exact ⟨rfl,(Below.refl _ _).alloc (Nat.le_refl _) _⟩
   · obtain rfl:r=false:=by rw [hr]; exact decide_eq_false (fun h=>h2 h.2)
     clear hr
     go_enter Tryz.func35,Tryz.ntmps35
     go_wp2
     go_ret
     exact ⟨rfl,(Below.refl _ _).alloc (Nat.le_refl _) _⟩
 · obtain rfl:r=false:=by rw [hr]; exact decide_eq_false (fun h=>h1 h.1)
   clear hr
   go_enter Tryz.func35,Tryz.ntmps35
   go_wp2
   go_ret
   exact ⟨rfl,(Below.refl _ _).alloc (Nat.le_refl _) _⟩
theorem all_take {α:Type} {p:α→Prop} (l:List α) (k:Nat) (d:α) (h:k < l.length) (h1:∀ x∈l.take k,p x) (h2:p (l.getD k d)):∀ x∈l.take (k+1),p x:=by
 intro x hx
 rw [List.take_succ_eq_append_getElem h] at hx
 rcases List.mem_append.1 hx with hx|hx
 · exact h1 x hx
 · obtain rfl:x=l[k]:=by simpa using hx
   simpa [List.getD_eq_getElem?_getD,h] using h2
theorem sect_shape {w:World} {a:Option Addr} {n c:Nat} {S:List (List UInt8)} (h:Sects w (.slice a n c) S) (k:Nat) (hk:k < S.length) :
 ∃ b off va vn vc,a=some ⟨b,off,none⟩∧w.cell? ⟨b,off+k,none⟩=some (.slice va vn vc)∧vn=(S.getD k []).length∧IsArg w (.slice va vn vc) (S.getD k []):=by
 obtain ⟨b,off,V,h1,h2,h3⟩:=h.at k hk
 obtain ⟨va,vn,vc,rfl,h4⟩:=h3.shape3
 exact ⟨b,off,va,vn,vc,h1,h2,h4,h3⟩
theorem write_shape {w:World} {a:Option Addr} {n c:Nat} {C:List (Int × List UInt8)} (h:Writes w (.slice a n c) C) (k:Nat) (hk:k < C.length) :
 ∃ b off z va vn vc,a=some ⟨b,off,none⟩∧w.cell? ⟨b,off+k * 2,none⟩=some (.int .i64 z)∧w.cell? ⟨b,off+k * 2+1,none⟩=some (.slice va vn vc)∧z=(C.getD k (0,[])).1∧vn=(C.getD k (0,[])).2.length∧IsArg w (.slice va vn vc) (C.getD k (0,[])).2:=by
 obtain ⟨b,off,V,h1,h2,h3,h4⟩:=h.at k hk
 obtain ⟨va,vn,vc,rfl,h5⟩:=h4.shape3
 exact ⟨b,off,_,va,vn,vc,h1,h2,h3,rfl,h5,h4⟩
set_option maxHeartbeats 4000000 in
theorem dskCheck_any (s c:Value) (S:List (List UInt8)) (C:List (Int × List UInt8)) (w:World) (hd:IsDisk w s c S C) (r:Bool) (hr:chkB S C=r) :
 Calls Tryz.prog 91 #[.agg #[s,c]] w fun e w'=>e=.returned (.bool r)∧Below w.heap.size w w':=by
 obtain ⟨a,ca,rfl,hn⟩:=hd.1.shape
 obtain ⟨a1,c1,rfl,hm⟩:=hd.2.shape
 have HD:=Zh hd
 have HR:=Zh hr
 unfold maxLen at hn hm
 clear hd hr
 by_cases h1:S.length≤256
 · by_cases h2:C.length≤512
   · have d1:decide ((256:Int) < (S.length:Nat))=false:=decide_eq_false (by omega)
     have d2:decide ((512:Int) < (C.length:Nat))=false:=decide_eq_false (by omega)
     obtain ⟨W0,hW0⟩:∃ W,W=w.alloc (.cells #[.slice a S.length ca,.slice a1 C.length c1] 41):=⟨_,rfl⟩
     have HB0:=Zh (show Below w.heap.size w W0 by rw [hW0]; exact (Below.refl _ _).alloc (Nat.le_refl _) _)
     have HX:=Zh (show W0.cell? ⟨w.heap.size,0,none⟩=some (.slice a S.length ca)∧W0.cell? ⟨w.heap.size,1,none⟩=some (.slice a1 C.length c1) by rw [hW0]; exact box2_new _ _ _ _ _)
     have HW:=Zh hW0
     obtain ⟨n,hSn⟩:∃ n,n=S.length:=⟨_,rfl⟩
     obtain ⟨m,hCm⟩:∃ m,m=C.length:=⟨_,rfl⟩
     rw [←hSn] at h1 d1
     rw [←hCm] at h2 d2
     rw [←hSn,←hCm] at HX HW HD
     rw [←hSn,←hCm]
     have HSn:=Zh hSn
     have HCm:=Zh hCm
     clear hW0 hSn hCm hn hm
     go_enter Tryz.func91,Tryz.ntmps91
     go_wp2
     rw [←HW.out]
     go_loop [20] (fun i=>∃ k:Nat,k≤n∧i=.int .i64 k∧∀ l∈S.take k,l.length=256) (fun i=>n - (intOf i).toNat)
     case atStart=>exact ⟨0,Nat.zero_le _,rfl,fun l hl=>by simp at hl⟩
     case round =>
      obtain ⟨k,hk,rfl,hall⟩:=hrel
      have HA:=Zh hall
      clear hall
      by_cases hlt:k < n
      · obtain ⟨b,off,va,vn,vc,rfl,hcl,hvn,_⟩:=sect_shape (HD.out.below HB0.out).1 k (by rw [←HSn.out]; exact hlt)
        have HV:=Zh hvn
        clear hvn
        by_cases h5:vn=256
        · subst h5
          go_wp2
          go_round
          case rel=>exact ⟨k+1,by omega,by go_num,all_take S k [] (by rw [←HSn.out]; exact hlt) HA.out HV.out.symm⟩
          case measure=>simp [intOf]; omega
        · obtain rfl:r=false:=by
           rw [←HR.out]
           refine chk_false fun h=>h5 ?_
           rw [HV.out]
           exact h.2.2.1 _ (getD_mem S k [] (by rw [←HSn.out]; exact hlt))
          have h6:¬ ((vn:Int)=256):=by omega
          go_wp2
          go_ret
          exact ⟨rfl,HB0.out⟩
      · obtain rfl:k=n:=by omega
        have hx1:=HX.out.1
        have hx2:=HX.out.2
        have HS:=Zh (show ∀ l∈S,l.length=256 by have h:=HA.out; rw [HSn.out,List.take_length] at h; exact h)
        clear HA
        go_wp2
        clear hx1 hx2
        go_loopw [31] (fun i wr=>∃ j:Nat,j≤m∧i=.int .i64 j∧(∀ x∈C.take j,0≤x.1∧x.1 < (S.length:Int)∧x.2.length=256)∧Below W0.heap.size W0 wr) (fun i _=>m - (intOf i).toNat)
        case atStart=>exact ⟨0,Nat.zero_le _,rfl,(fun x hx=>by simp at hx),Below.refl _ _⟩
        case round =>
         obtain ⟨j,hj,rfl,hall,hbw⟩:=hrel
         have HA:=Zh hall
         have HBW:=Zh hbw
         have HBw:=Zh (HB0.out.trans (hbw.mono HB0.out.size))
         clear hall hbw
         by_cases hlt:j < m
         · obtain ⟨b,off,z,va,vn,vc,rfl,hcl1,hcl2,hz,hvn,_⟩:=write_shape (HD.out.below HBw.out).2 j (by rw [←HCm.out]; exact hlt)
           have HV:=Zh hvn
           have HZ:=Zh hz
           clear hvn hz
           have hX:=kept2 HX.out HBW.out
           obtain ⟨hx1,hx2⟩:=kept2 hX ((Below.refl wr.heap.size wr).alloc (Nat.le_refl _) (.cells #[.int .i64 z,.slice va vn vc] 94))
           clear hX
           obtain ⟨q,hq⟩:∃ q,q=decide (0≤z∧z < (k:Int)):=⟨_,rfl⟩
           have HQ:=Zh hq
           have HB2:=Zh (HBW.out.alloc HBW.out.size (.cells #[.int .i64 z,.slice va vn vc] 94))
           go_wp2_with fail
           refine (has_any _ _ _ _ _ _ _ q HQ.out _).mono ?_
           rintro e w2 ⟨rfl,hb⟩
           have HB3:=Zh (HB2.out.trans (hb.mono HB2.out.size))
           obtain ⟨hy1,hy2⟩:=box2 hb
           clear hb hx1 hx2 hcl1 hcl2
           cases q with
           | false =>
             obtain rfl:r=false:=by
              rw [←HR.out]
              refine chk_false fun h=>of_decide_eq_false hq.symm ?_
              have h7:=h.2.2.2 _ (getD_mem C j (0,[]) (by rw [←HCm.out]; exact hlt))
              rw [HZ.out]
              exact ⟨h7.1,by rw [HSn.out]; exact h7.2.1⟩
             clear hq
             go_wp2
             go_ret
             exact ⟨rfl,HB0.out.trans (HB3.out.mono HB0.out.size)⟩
           | true =>
             have hz2:=of_decide_eq_true hq.symm
             clear hq
             have HZ2:=Zh hz2
             clear hz2
             by_cases h5:vn=256
             · subst h5
               go_wp2
               go_roundw
               case rel =>
                refine ⟨j+1,by omega,by go_num,all_take C j (0,[]) (by rw [←HCm.out]; exact hlt) HA.out ?_,HB3.out⟩
                have h8:=HZ2.out
                rw [HZ.out,HSn.out] at h8
                exact ⟨h8.1,h8.2,HV.out.symm⟩
               case measure=>simp [intOf]; omega
             · obtain rfl:r=false:=by
                rw [←HR.out]
                refine chk_false fun h=>h5 ?_
                rw [HV.out]
                exact (h.2.2.2 _ (getD_mem C j (0,[]) (by rw [←HCm.out]; exact hlt))).2.2
               have h6:¬ ((vn:Int)=256):=by omega
               go_wp2
               go_ret
               exact ⟨rfl,HB0.out.trans (HB3.out.mono HB0.out.size)⟩
         · obtain rfl:j=m:=by omega
           obtain rfl:r=true:=by
            rw [←HR.out]
            have h:=HA.out
            rw [HCm.out,List.take_length] at h
            exact chk_true.2 ⟨by rw [←HSn.out]; exact h1,by rw [←HCm.out]; exact h2,HS.out,h⟩
           go_wp2
           go_ret
           exact ⟨rfl,HBw.out⟩
   · obtain rfl:r=false:=by rw [←HR.out]; exact chk_false (fun h=>h2 h.2.1)
     go_enter Tryz.func91,Tryz.ntmps91
     go_wp2
     go_ret
     exact ⟨rfl,(Below.refl _ _).alloc (Nat.le_refl _) _⟩
 · obtain rfl:r=false:=by rw [←HR.out]; exact chk_false (fun h=>h1 h.1)
   go_enter Tryz.func91,Tryz.ntmps91
   go_wp2
   go_ret
   exact ⟨rfl,(Below.refl _ _).alloc (Nat.le_refl _) _⟩
theorem IsDisk.shape {w:World} {s c:Value} {S:List (List UInt8)} {C:List (Int × List UInt8)} (h:IsDisk w s c S C):∃ a ca a1 c1,s=.slice a S.length ca∧c=.slice a1 C.length c1∧S.length≤maxLen∧C.length≤maxLen:=by
 obtain ⟨a,ca,h1,h2⟩:=h.1.shape
 obtain ⟨a1,c1,h3,h4⟩:=h.2.shape
 exact ⟨a,ca,a1,c1,h1,h3,h2,h4⟩
set_option maxHeartbeats 1000000 in
theorem dskFault_any (s c:Value) (S:List (List UInt8)) (C:List (Int × List UInt8)) (w:World) (hd:IsDisk w s c S C) (z:Int) (F:Int) (hF:dFault S C z=F) :
 Calls Tryz.prog 139 #[.agg #[s,c],.int .i64 z] w fun e w'=>e=.returned (.int .i64 F)∧Below w.heap.size w w':=by
 have HD:=Zh hd
 obtain ⟨a,ca,a1,c1,rfl,rfl,_,_⟩:=hd.shape
 have HB0:=Zh ((Below.refl w.heap.size w).alloc (Nat.le_refl _) (.cells #[.slice a S.length ca,.slice a1 C.length c1] 41))
 clear hd
 rcases dFault_cases S C z with ⟨hf,h1⟩|⟨hf,h1,h2⟩|⟨hf,h1,h2⟩
 · obtain rfl:F=3:=by rw [←hF,hf]
   have HC:=Zh h1
   clear hF hf h1
   go_enter Tryz.func139,Tryz.ntmps139
   go_wp2_with fail
   refine (dskCheck_any _ _ _ _ _ (HD.out.below HB0.out) _ HC.out).mono ?_
   rintro e w1 ⟨rfl,hb⟩
   go_wp2
   go_ret
   exact ⟨rfl,HB0.out.trans (hb.mono (by simp))⟩
 · obtain rfl:F=50:=by rw [←hF,hf]
   have HC:=Zh h1
   have HB:=Zh (show false=decide (0≤z∧z < (S.length:Int)) from (decide_eq_false h2).symm)
   clear hF hf h1 h2
   go_enter Tryz.func139,Tryz.ntmps139
   go_wp2_with fail
   refine (dskCheck_any _ _ _ _ _ (HD.out.below HB0.out) _ HC.out).mono ?_
   rintro e w1 ⟨rfl,hb⟩
   obtain ⟨hx1,hx2⟩:=box2 hb
   go_wp2_with fail
   refine (has_any _ _ _ _ _ _ _ _ HB.out _).mono ?_
   rintro e w2 ⟨rfl,hb2⟩
   clear hx1 hx2
   go_wp2
   go_ret
   exact ⟨rfl,HB0.out.trans ((hb.trans (hb2.mono hb.size)).mono (by simp))⟩
 · obtain rfl:F=0:=by rw [←hF,hf]
   have HC:=Zh h1
   have HB:=Zh (show true=decide (0≤z∧z < (S.length:Int)) from (decide_eq_true h2).symm)
   clear hF hf h1 h2
   go_enter Tryz.func139,Tryz.ntmps139
   go_wp2_with fail
   refine (dskCheck_any _ _ _ _ _ (HD.out.below HB0.out) _ HC.out).mono ?_
   rintro e w1 ⟨rfl,hb⟩
   obtain ⟨hx1,hx2⟩:=box2 hb
   go_wp2_with fail
   refine (has_any _ _ _ _ _ _ _ _ HB.out _).mono ?_
   rintro e w2 ⟨rfl,hb2⟩
   clear hx1 hx2
   go_wp2
   go_ret
   exact ⟨rfl,HB0.out.trans ((hb.trans (hb2.mono hb.size)).mono (by simp))⟩
set_option maxHeartbeats 2000000 in
theorem writeFault_any (s c:Value) (S:List (List UInt8)) (C:List (Int × List UInt8)) (w:World) (hd:IsDisk w s c S C) (z:Int) (ua:Option Addr) (n uc:Nat) (F:Int) (hF:wFault S C z n=F) :
 Calls Tryz.prog 130 #[.agg #[s,c],.int .i64 z,.slice ua n uc] w fun e w'=>e=.returned (.int .i64 F)∧Below w.heap.size w w':=by
 have HD:=Zh hd
 obtain ⟨a,ca,a1,c1,rfl,rfl,_,hm⟩:=hd.shape
 unfold maxLen at hm
 have HB0:=Zh ((Below.refl w.heap.size w).alloc (Nat.le_refl _) (.cells #[.slice a S.length ca,.slice a1 C.length c1] 41))
 obtain ⟨f,hf⟩:∃ f,dFault S C z=f:=⟨_,rfl⟩
 have HF:=Zh hf
 unfold wFault at hF
 rw [hf] at hF
 clear hd hf
 by_cases h0:f=0
 · subst h0
   rw [if_pos rfl] at hF
   by_cases h1:n=256
   · rw [if_pos h1] at hF
     subst h1
     by_cases h2:C.length=512
     · rw [if_pos h2] at hF
       subst hF
       have h3:((C.length:Int)=512):=by omega
       clear h2
       go_enter Tryz.func130,Tryz.ntmps130
       go_wp2_with fail
       refine (dskFault_any _ _ _ _ _ (HD.out.below HB0.out) _ _ HF.out).mono ?_
       rintro e w1 ⟨rfl,hb⟩
       obtain ⟨hx1,hx2⟩:=box2 hb
       go_wp2
       go_ret
       exact ⟨rfl,HB0.out.trans (hb.mono (by simp))⟩
     · rw [if_neg h2] at hF
       subst hF
       have h3:¬ ((C.length:Int)=512):=by omega
       clear h2
       go_enter Tryz.func130,Tryz.ntmps130
       go_wp2_with fail
       refine (dskFault_any _ _ _ _ _ (HD.out.below HB0.out) _ _ HF.out).mono ?_
       rintro e w1 ⟨rfl,hb⟩
       obtain ⟨hx1,hx2⟩:=box2 hb
       go_wp2
       go_ret
       exact ⟨rfl,HB0.out.trans (hb.mono (by simp))⟩
   · rw [if_neg h1] at hF
     subst hF
     have h3:¬ ((n:Int)=256):=by omega
     clear h1
     go_enter Tryz.func130,Tryz.ntmps130
     go_wp2_with fail
     refine (dskFault_any _ _ _ _ _ (HD.out.below HB0.out) _ _ HF.out).mono ?_
     rintro e w1 ⟨rfl,hb⟩
     go_wp2
     go_ret
     exact ⟨rfl,HB0.out.trans (hb.mono (by simp))⟩
 · rw [if_neg h0] at hF
   subst hF
   go_enter Tryz.func130,Tryz.ntmps130
   go_wp2_with fail
   refine (dskFault_any _ _ _ _ _ (HD.out.below HB0.out) _ _ HF.out).mono ?_
   rintro e w1 ⟨rfl,hb⟩
   go_wp2
   go_ret
   exact ⟨rfl,HB0.out.trans (hb.mono (by simp))⟩
theorem infoS:(Tryz.prog.info? 22).map (fun i=>(i.zero,i.size,i.bytes))=some (some (.slice none 0 0),1,24):=by kernel_rfl
theorem infoW:(Tryz.prog.info? 94).map (fun i=>(i.zero,i.size,i.bytes))=some (some (.agg #[.int .i64 0,.slice none 0 0]),2,32):=by kernel_rfl
def OwnPart (B:Nat) (W:World) (S:List (List UInt8)) (k:Nat) (xs:List Value):Prop :=
 (∀ (i:Nat) (V:Value),i < k→xs[i]? = some V→W.ownsRow B 5 1 V (S.getD i []).length (byteCells (S.getD i []))) ∧
 (∀ (i j:Nat) (V V':Value) (q q':Nat),i < j→j < k→xs[i]? = some V→xs[j]? = some V'→V.ownBlock=some q→V'.ownBlock=some q'→q < q')
def OwnSects (B M:Nat) (W:World) (v:Value) (S:List (List UInt8)):Prop :=
 ∃ xs,W.ownsRow B 22 1 v S.length xs∧OwnPart B W S S.length xs∧(∀ (i:Nat) (V:Value) (q:Nat),i < S.length→xs[i]? = some V→V.ownBlock=some q→q < M)∧∀ q,v.ownBlock=some q→q < M
def OwnWrites (B:Nat) (W:World) (v:Value) (C:List (Int × List UInt8)):Prop :=
 ∃ X:List (Int × Value),X.length=C.length∧W.ownsRow B 94 2 v C.length (wcells X)∧∀ (i:Nat) (x:Int × Value),X[i]? = some x→x.1=(C.getD i (0,[])).1∧W.ownsRow B 5 1 x.2 (C.getD i (0,[])).2.length (byteCells (C.getD i (0,[])).2)
theorem OwnPart.below {B:Nat} {W W':World} {S:List (List UInt8)} {k:Nat} {xs:List Value} (h:OwnPart B W S k xs) (hb:Below W.heap.size W W'):OwnPart B W' S k xs :=
 ⟨fun i V hi hV=>ownsRow_below (h.1 i V hi hV) hb,h.2⟩
theorem owns_low {w w':World} {B M:Nat} {e:TypeId} {s:Nat} {v:Value} {n:Nat} {xs:List Value} (h:w.ownsRow B e s v n xs) (hv:∀ q,v.ownBlock=some q→q < M) (hb:Below M w w'):w'.ownsRow B e s v n xs :=
 owns_keep h fun k _ hk hc=>(hb.block k (hv k hk)).trans hc
theorem OwnSects.low {B M:Nat} {W W':World} {v:Value} {S:List (List UInt8)} (h:OwnSects B M W v S) (hb:Below M W W'):OwnSects B M W' v S:=by
 obtain ⟨xs,h1,h2,h3,h4⟩:=h
 exact ⟨xs,owns_low h1 h4 hb,⟨fun i V hi hV=>owns_low (h2.1 i V hi hV) (fun q hq=>h3 i V q hi hV hq) hb,h2.2⟩,h3,h4⟩
theorem OwnSects.set {B M:Nat} {W:World} {v:Value} {S:List (List UInt8)} (h:OwnSects B M W v S) (a:Addr) (x:Value) (ha:a.block < B):OwnSects B M (W.setCell a x) v S:=by
 obtain ⟨xs,h1,h2,h3,h4⟩:=h
 exact ⟨xs,ownsRow_setCell_below h1 ha x,⟨fun i V hi hV=>ownsRow_setCell_below (h2.1 i V hi hV) ha x,h2.2⟩,h3,h4⟩
theorem OwnSects.base {B B' M:Nat} {W:World} {v:Value} {S:List (List UInt8)} (h:OwnSects B M W v S) (hb:B'≤B):OwnSects B' M W v S:=by
 obtain ⟨xs,h1,h2,h3,h4⟩:=h
 exact ⟨xs,ownsRow_base h1 hb,⟨fun i V hi hV=>ownsRow_base (h2.1 i V hi hV) hb,h2.2⟩,h3,h4⟩
theorem OwnWrites.set {B:Nat} {W:World} {v:Value} {C:List (Int × List UInt8)} (h:OwnWrites B W v C) (a:Addr) (x:Value) (ha:a.block < B):OwnWrites B (W.setCell a x) v C:=by
 obtain ⟨X,h1,h2,h3⟩:=h
 exact ⟨X,h1,ownsRow_setCell_below h2 ha x,fun i y hy=>⟨(h3 i y hy).1,ownsRow_setCell_below (h3 i y hy).2 ha x⟩⟩
theorem OwnSects.below {B M:Nat} {W W':World} {v:Value} {S:List (List UInt8)} (h:OwnSects B M W v S) (hb:Below W.heap.size W W'):OwnSects B M W' v S:=by
 obtain ⟨xs,h1,h2,h3,h4⟩:=h
 exact ⟨xs,ownsRow_below h1 hb,h2.below hb,h3,h4⟩
theorem OwnWrites.below {B:Nat} {W W':World} {v:Value} {C:List (Int × List UInt8)} (h:OwnWrites B W v C) (hb:Below W.heap.size W W'):OwnWrites B W' v C:=by
 obtain ⟨X,h1,h2,h3⟩:=h
 exact ⟨X,h1,ownsRow_below h2 hb,fun i x hx=>⟨(h3 i x hx).1,ownsRow_below (h3 i x hx).2 hb⟩⟩
theorem OwnSects.sects {B M:Nat} {W:World} {v:Value} {S:List (List UInt8)} (h:OwnSects B M W v S):Sects W v S:=by
 obtain ⟨xs,h1,h2,h3⟩:=h
 refine ⟨xs,by have:=h1.1; omega,held_of_owns h1,fun i V l hV hl=>?_⟩
 have hi:i < S.length:=(List.getElem?_eq_some_iff.1 hl).1
 have h4:=h2.1 i V hi hV
 have h5:S.getD i []=l:=by rw [List.getD_eq_getElem?_getD,hl]; rfl
 rw [h5] at h4
 exact isArg_of_owns h4
theorem OwnWrites.writes {B:Nat} {W:World} {v:Value} {C:List (Int × List UInt8)} (h:OwnWrites B W v C):Writes W v C:=by
 obtain ⟨X,h1,h2,h3⟩:=h
 refine ⟨X,h1,held_of_owns h2,fun i x y hx hy=>?_⟩
 obtain ⟨h4,h5⟩:=h3 i x hx
 have h6:C.getD i (0,[])=y:=by rw [List.getD_eq_getElem?_getD,hy]; rfl
 rw [h6] at h4 h5
 exact ⟨h4,isArg_of_owns h5⟩
theorem bytes_stay {w:World} {B g:Nat} {v:Value} {n:Nat} {xs:List Value} {t:TypeId} (h:w.ownsRow B 5 1 v n xs) (hg:∃ cur fr,w.heap[g]? = some (.cells cur t fr)) (ht:t≠5) (j:Nat) (u:Value):(w.setCell ⟨g,j,none⟩ u).ownsRow B 5 1 v n xs :=
 owns_keep h fun k cur hk hc=>by
  obtain ⟨c2,fr,hg⟩:=hg
  rw [Below.heap_setCell _ _ _ _ (fun e=>by
   subst e
   rw [hg] at hc
   injection hc with hc
   injection hc with _ hc _
   exact ht hc)]
  exact hc
theorem row_block {w:World} {B g n cap s:Nat} {t:TypeId} {xs:List Value} (h:w.ownsRow B t s (.slice (some ⟨g,0,none⟩) n cap) n xs):∃ cur fr,w.heap[g]? = some (.cells cur t fr):=by
 rcases h.2 with ⟨h1,_⟩|⟨g',cap',cur,h1,_,hh,_⟩
 · cases h1
 · cases h1
   exact ⟨cur,_,hh⟩
theorem OwnPart.put {B:Nat} {wr w2:World} {S:List (List UInt8)} {k g n cap:Nat} {xs:List Value} (h:OwnPart B wr S k xs) (hb:Below wr.heap.size wr w2) (hx:w2.ownsRow B 22 1 (.slice (some ⟨g,0,none⟩) n cap) n xs) (hk:k < n) {r:Value}
 (hr:w2.ownsRow wr.heap.size 5 1 r (S.getD k []).length (byteCells (S.getD k []))) (hB:B≤wr.heap.size):OwnPart B (w2.setCell ⟨g,k,none⟩ r) S (k+1) (xs.set k r):=by
 have hl:k < xs.length:=by have:=hx.1; omega
 have hne:(22:Nat)≠5:=by decide
 refine ⟨fun i V hi hV=>?_,fun i j V V' q q' hij hj hV hV' hq hq'=>?_⟩
 · by_cases he:i=k
   · rw [he] at hV ⊢
     rw [List.getElem?_set_self hl] at hV
     cases hV
     exact bytes_stay (ownsRow_base hr hB) (row_block hx) hne k r
   · rw [List.getElem?_set_ne (fun e=>he e.symm)] at hV
     exact bytes_stay (ownsRow_below (h.1 i V (by omega) hV) hb) (row_block hx) hne k r
 · rw [List.getElem?_set_ne (by omega)] at hV
   by_cases he:j=k
   · rw [he,List.getElem?_set_self hl] at hV'
     cases hV'
     have h1:=(h.1 i V (by omega) hV).lt q hq
     have h2:=hr.lt q' hq'
     omega
   · rw [List.getElem?_set_ne (fun e=>he e.symm)] at hV'
     exact h.2 i j V V' q q' hij (by omega) hV hV' hq hq'
theorem made_writes (m:Nat):(madeCells #[.int .i64 0,.slice none 0 0] (m * 2)).toList=wcells (List.replicate m (0,.slice none 0 0)):=by
 apply List.ext_getElem?
 intro j
 by_cases hj:j < m * 2
 · have hk:(List.replicate m ((0:Int),Value.slice none 0 0))[j / 2]? = some (0,.slice none 0 0):=by
    rw [List.getElem?_replicate,if_pos (by omega)]
   obtain ⟨e1,e2⟩:=wcells_at _ _ _ hk
   have h1:(madeCells #[.int .i64 0,.slice none 0 0] (m * 2)).toList[j]? = some ((#[Value.int .i64 0,.slice none 0 0])[j % 2]!):=by
    simp [madeCells,hj]
   rw [h1]
   by_cases hp:j % 2=0
   · rw [show j / 2 * 2=j by omega] at e1
     rw [e1,hp]
     rfl
   · rw [show j / 2 * 2+1=j by omega] at e2
     rw [e2,show j % 2=1 by omega]
     rfl
 · rw [List.getElem?_eq_none (by simp [madeCells]; omega),List.getElem?_eq_none (by rw [wcells_length]; simp; omega)]
def OwnWs (M:Nat) (W:World) (C:List (Int × List UInt8)) (j:Nat) (X:List (Int × Value)):Prop :=
 ∀ (i:Nat) (x:Int × Value),i < j→X[i]? = some x→x.1=(C.getD i (0,[])).1∧W.ownsRow M 5 1 x.2 (C.getD i (0,[])).2.length (byteCells (C.getD i (0,[])).2)
theorem OwnWs.put {M:Nat} {wr w2:World} {C:List (Int × List UInt8)} {j g m cap:Nat} {X:List (Int × Value)} (h:OwnWs M wr C j X) (hb:Below wr.heap.size wr w2) (hx:w2.ownsRow M 94 2 (.slice (some ⟨g,0,none⟩) m cap) m (wcells X)) (hj:j < m) (hX:X.length=m) {z:Int} {r:Value}
 (hz:z=(C.getD j (0,[])).1) (hr:w2.ownsRow wr.heap.size 5 1 r (C.getD j (0,[])).2.length (byteCells (C.getD j (0,[])).2)) (hB:M≤wr.heap.size):OwnWs M ((w2.setCell ⟨g,j * 2,none⟩ (.int .i64 z)).setCell ⟨g,j * 2+1,none⟩ r) C (j+1) (X.set j (z,r)):=by
 have hne:(94:Nat)≠5:=by decide
 have hx2:=(hx.stored (j * 2) (.int .i64 z)).1
 intro i x hi hV
 by_cases he:i=j
 · rw [he,List.getElem?_set_self (by omega)] at hV
   cases hV
   rw [he]
   exact ⟨hz,bytes_stay (bytes_stay (ownsRow_base hr hB) (row_block hx) hne _ _) (row_block hx2) hne _ _⟩
 · rw [List.getElem?_set_ne (fun e=>he e.symm)] at hV
   obtain ⟨h1,h2⟩:=h i x (by omega) hV
   exact ⟨h1,bytes_stay (bytes_stay (ownsRow_below h2 hb) (row_block hx) hne _ _) (row_block hx2) hne _ _⟩
theorem res_free (w:World) (o:Obj) (cs:Array Value) (t:TypeId) (i:Nat):((w.alloc o).alloc (.cells cs t)).frozen? ⟨w.heap.size+1,i,none⟩=false:=by
 have h:((w.alloc o).alloc (.cells cs t)).heap[w.heap.size+1]? = some (.cells cs t):=by simpa using heap_alloc_new (w.alloc o) (.cells cs t)
 unfold World.frozen?
 rw [h]
 simp
set_option maxHeartbeats 4000000 in
theorem dskSame_any (s c:Value) (S:List (List UInt8)) (C:List (Int × List UInt8)) (w:World) (hd:IsDisk w s c S C) (hf:FewD S C) :
 Calls Tryz.prog 92 #[.agg #[s,c]] w fun e w'=>∃ sv cv M,e=.returned (.agg #[sv,cv])∧w.heap.size≤M∧OwnSects w.heap.size M w' sv S∧OwnWrites M w' cv C∧Below w.heap.size w w':=by
 have HD:=Zh hd
 obtain ⟨a,ca,a1,c1,rfl,rfl,_,_⟩:=hd.shape
 obtain ⟨f1,f2,f3,f4⟩:=hf
 have HF3:=Zh f3
 have HF4:=Zh f4
 obtain ⟨i0,hi,hz0,hz1,hz2⟩:=info_parts infoS
 obtain ⟨j0,ji,jz0,jz1,jz2⟩:=info_parts infoW
 obtain ⟨n,hSn⟩:∃ n,n=S.length:=⟨_,rfl⟩
 obtain ⟨m,hCm⟩:∃ m,m=C.length:=⟨_,rfl⟩
 have HB0:=Zh (((Below.refl w.heap.size w).alloc (Nat.le_refl _) (.cells #[.slice a n ca,.slice a1 m c1] 41)).alloc (by simp) (.cells #[.slice none 0 0,.slice none 0 0] 41))
 rw [←hSn] at f1
 rw [←hCm] at f2
 rw [←hSn,←hCm] at HD
 rw [←hSn,←hCm]
 have HSn:=Zh hSn
 have HCm:=Zh hCm
 clear hd f3 f4 hSn hCm
 go_enter Tryz.func92,Tryz.ntmps92
 go_wp2_with (refine wpList_make_full _ rfl _ _ 38 rfl (w.heap.size+2) 22 i0 (.slice none 0 0) 1 Tryz.underlying38 hi hz0 hz1 .i64 .i64 _ _ n rfl rfl rfl rfl ?b2 ?b3 ?b4 ?_)
 case b2=>rw [hz2]; omega
 case b3=>unfold maxLen; omega
 case b4=>simp
 intro w1 hown hgrow
 obtain ⟨g,hg⟩:∃ g,g=w.heap.size+1+1:=⟨_,rfl⟩
 rw [←hg] at hown ⊢
 have HB1:=Zh (HB0.out.grown hgrow (by simp; omega) (fun k hk=>by cases hk))
 have hX:=kept2 (box2_new w (.slice a n ca) (.slice a1 m c1) 41 (0,0)) ((Below.refl _ _).alloc (Nat.le_refl _) (.cells #[.slice none 0 0,.slice none 0 0] 41))
 have hBg:Below ((w.alloc (.cells #[.slice a n ca,.slice a1 m c1] 41)).alloc (.cells #[.slice none 0 0,.slice none 0 0] 41)).heap.size ((w.alloc (.cells #[.slice a n ca,.slice a1 m c1] 41)).alloc (.cells #[.slice none 0 0,.slice none 0 0] 41)) w1:=(Below.refl _ _).grown hgrow (Nat.le_refl _) (fun k hk=>by cases hk)
 have HX:=Zh (kept2 hX hBg)
 have hR:w1.cell? ⟨w.heap.size+1,0,none⟩=some (.slice none 0 0)∧w1.cell? ⟨w.heap.size+1,1,none⟩=some (.slice none 0 0):=by
  have h:=kept2 (box2_new (w.alloc (.cells #[.slice a n ca,.slice a1 m c1] 41)) (.slice none 0 0) (.slice none 0 0) 41 (0,0)) hBg
  simpa using h
 have HR:=Zh hR
 have hg2:w.heap.size+2≤g:=by omega
 have hgl:g < w1.heap.size:=(hown.lt g rfl).2
 rw [toList_madeCells_one] at hown
 have HO:=Zh hown
 have HBX:=Zh hBg
 clear hX hBg hR hown hgrow hg
 obtain ⟨hx1,hx2⟩:=HX.out
 go_wp2
 clear hx1 hx2
 go_loopw [16] (fun i wr=>∃ k:Nat,k≤n∧i=.int .i64 k∧(∃ xs,wr.ownsRow (w.heap.size+2) 22 1 (.slice (some ⟨g,0,none⟩) n n) n xs∧OwnPart (w.heap.size+2) wr S k xs)∧w1.heap.size≤wr.heap.size∧Below g w1 wr) (fun i _=>n - (intOf i).toNat)
 case atStart=>exact ⟨0,Nat.zero_le _,rfl,⟨_,ownsRow_base HO.out hg2,fun i V hi=>by omega,fun i j V V' q q' hij hj=>by omega⟩,Nat.le_refl _,Below.refl _ _⟩
 case round =>
  obtain ⟨k,hk,rfl,⟨xs,hxs,hpart⟩,hsz,hbw⟩:=hrel
  have HXS:=Zh hxs
  have HP:=Zh hpart
  have HBW:=Zh hbw
  have HBw:=Zh (HB1.out.trans (hbw.mono (by omega)))
  clear hxs hpart hbw
  by_cases hlt:k < n
  · obtain ⟨b,off,va,vn,vc,rfl,hcl,hvn,hva⟩:=sect_shape (HD.out.below HBw.out).1 k (by rw [←HSn.out]; exact hlt)
    have HVA:=Zh hva
    clear hvn hva
    have HL:=Zh (show (S.getD k []).length≤140737488355328 from Nat.le_trans (HF3.out _ (getD_mem S k [] (by rw [←HSn.out]; exact hlt))) (by decide))
    go_wp2_with fail
    refine (clone_any _ _ _ HVA.out HL.out).mono ?_
    rintro e w2 ⟨r,rfl,hr,hb⟩
    obtain ⟨ra,rn,rc,rfl,hrn⟩:=(isArg_of_owns hr).shape3
    clear hrn
    have HR2:=Zh hr
    have HBr:=Zh hb
    have HX2:=Zh (ownsRow_below HXS.out hb)
    obtain ⟨u,hu⟩:∃ u,xs[k]? = some u:=⟨xs[k]'(by have:=HXS.out.1; omega),List.getElem?_eq_getElem _⟩
    have hcg:w2.cell? ⟨g,k,none⟩=some u:=by rw [HX2.out.cellAt k (by omega)]; exact hu
    have hfg:w2.frozen? ⟨g,k,none⟩=false:=HX2.out.frozenAt k
    have HS2:=Zh hb.size
    clear hr hb hcl hu
    go_wp2
    go_roundw
    case rel =>
     refine ⟨k+1,by omega,by go_num,⟨_,(HX2.out.stored k _).1,HP.out.put HBr.out HX2.out hlt HR2.out (by omega)⟩,?_,?_⟩
     · have:=HS2.out
       simp only [World.setCell,Array.size_modify]
       omega
     · exact (HBW.out.trans (HBr.out.mono (by omega))).setCell (Nat.le_refl _) _
    case measure=>simp [intOf]; omega
  · obtain rfl:k=n:=by omega
    have HXr:=Zh (show wr.cell? ⟨w.heap.size,0,none⟩=some (.slice a k ca)∧wr.cell? ⟨w.heap.size,1,none⟩=some (.slice a1 m c1) from ⟨(HBW.out.cell (by show w.heap.size < g; omega)).trans HX.out.1,(HBW.out.cell (by show w.heap.size < g; omega)).trans HX.out.2⟩)
    have HRr:=Zh (show wr.cell? ⟨w.heap.size+1,0,none⟩=some (.slice none 0 0)∧wr.cell? ⟨w.heap.size+1,1,none⟩=some (.slice none 0 0) from ⟨(HBW.out.cell (by show w.heap.size+1 < g; omega)).trans HR.out.1,(HBW.out.cell (by show w.heap.size+1 < g; omega)).trans HR.out.2⟩)
    have HBW1:=Zh HBW.out
    clear HX HR HBW
    obtain ⟨hx1,hx2⟩:=HXr.out
    go_wp2_with (refine wpList_make_full _ rfl _ _ 39 rfl wr.heap.size 94 j0 (.agg #[.int .i64 0,.slice none 0 0]) 2 Tryz.underlying39 ji jz0 jz1 .i64 .i64 _ _ m rfl rfl rfl rfl ?d2 ?d3 ?d4 ?_)
    case d2=>rw [jz2]; omega
    case d3=>unfold maxLen; omega
    case d4=>exact Nat.le_refl _
    intro w3 hown hgrow
    obtain ⟨q,hq⟩:∃ q,q=wr.heap.size:=⟨_,rfl⟩
    rw [←hq] at hown ⊢
    rw [made_writes] at hown
    obtain ⟨w2,hw2⟩:∃ x,x=wr:=⟨_,rfl⟩
    subst hw2
    have hB3:Below w2.heap.size w2 w3:=(Below.refl _ _).grown hgrow (Nat.le_refl _) (fun k hk=>by cases hk)
    have HB3:=Zh hB3
    have HXw:=Zh (kept2 HXr.out hB3)
    have HRw:=Zh (kept2 HRr.out hB3)
    have hq3:q < w3.heap.size:=(hown.lt q rfl).2
    have hwq:w.heap.size+2≤q:=by omega
    have HQ:=Zh hq
    have HO2:=Zh hown
    have HS3:=Zh (show ∃ xs,w2.ownsRow (w.heap.size+2) 22 1 (.slice (some ⟨g,0,none⟩) k k) k xs∧OwnPart (w.heap.size+2) w2 S k xs from ⟨xs,HXS.out,HP.out⟩)
    clear HXS HP hown hgrow hB3 hx1 hx2 hq
    obtain ⟨hx1,hx2⟩:=HXw.out
    go_wp2
    clear hx1 hx2
    go_loopw [34] (fun i wr=>∃ j:Nat,j≤m∧i=.int .i64 j∧(∃ X,X.length=m∧wr.ownsRow q 94 2 (.slice (some ⟨q,0,none⟩) m m) m (wcells X)∧OwnWs q wr C j X)∧w3.heap.size≤wr.heap.size∧Below q w3 wr) (fun i _=>m - (intOf i).toNat)
    case atStart=>exact ⟨0,Nat.zero_le _,rfl,⟨List.replicate m (0,.slice none 0 0),by simp,HO2.out,fun i x hi=>by omega⟩,Nat.le_refl _,Below.refl _ _⟩
    case round =>
     obtain ⟨j,hj,rfl,⟨X,hXl,hxs,hpart⟩,hsz3,hbw⟩:=hrel
     have HX2:=Zh hxs
     have HP2:=Zh hpart
     have HBW:=Zh hbw
     have HB2:=Zh (HBw.out.trans ((HB3.out.mono HBw.out.size).trans (hbw.mono (by omega))))
     have HXL:=Zh hXl
     clear hxs hpart hbw hXl
     by_cases hlt:j < m
     · obtain ⟨b,off,z,va,vn,vc,rfl,hcl1,hcl2,hz,hvn,hva⟩:=write_shape (HD.out.below HB2.out).2 j (by rw [←HCm.out]; exact hlt)
       have HVA:=Zh hva
       have HZ:=Zh hz
       have HBb:=Zh ((Below.refl wr.heap.size wr).alloc (Nat.le_refl _) (.cells #[.int .i64 z,.slice va vn vc] 94))
       have HL:=Zh (show (C.getD j (0,[])).2.length≤140737488355328 from Nat.le_trans (HF4.out _ (getD_mem C j (0,[]) (by rw [←HCm.out]; exact hlt))) (by decide))
       obtain ⟨x,hx⟩:∃ x,X[j]? = some x:=⟨X[j]'(by rw [HXL.out]; exact hlt),List.getElem?_eq_getElem _⟩
       obtain ⟨hxa,hxb⟩:=wcells_at X j x hx
       have hg1:wr.cell? ⟨q,j * 2,none⟩=some (.int .i64 x.1):=by rw [HX2.out.cellAt (j * 2) (by omega)]; exact hxa
       have hg2:wr.cell? ⟨q,j * 2+1,none⟩=some x.2:=by rw [HX2.out.cellAt (j * 2+1) (by omega)]; exact hxb
       obtain ⟨y1,y2⟩:=x
       have hbx:=box2_new wr (.int .i64 z) (.slice va vn vc) 94 (0,0)
       have hg1b:=dskKept hg1 HBb.out
       have hg2b:=dskKept hg2 HBb.out
       have hnq:wr.heap.size≠q:=by omega
       have k1:(0:Int)≤(j:Int):=by omega
       have k2:(j:Int) < (m:Int):=by omega
       clear hvn hva hz hx hxa hxb hg1 hg2
       go_wp2_with fail
       go_region_held3 (fun w'=>w'.cell? ⟨wr.heap.size,0,none⟩=some (.int .i64 z)∧w'.cell? ⟨wr.heap.size,1,none⟩=some (.slice va vn vc)) (first|(with_reducible exact kept2 (by assumption) hb)|(with_reducible exact far2 hnq (by assumption))|go_keep) (first
        | (go_at_call 44; refine (clone_any _ _ _ (HVA.out.below (by first|exact HBb.out|exact HBb.out.drew)) HL.out).mono ?_; rintro e w4 ⟨r,rfl,hr,hb⟩; obtain ⟨ra,rn,rc,rfl,hrn⟩:=(isArg_of_owns hr).shape3; clear hrn; have HR4:=Zh hr; clear hr; have hw1:=kept_drew hg1b hb; have hw2:=kept_drew hg2b hb; have hw3:=(ownsRow_below HX2.out (HBb.out.drew.trans (hb.mono HBb.out.drew.size))).frozenAt (j * 2); have hw4:=(ownsRow_below HX2.out (HBb.out.drew.trans (hb.mono HBb.out.drew.size))).frozenAt (j * 2+1)))
       have HB4:=Zh (HBb.out.drew.trans (hb.mono HBb.out.drew.size))
       have HX4:=Zh (ownsRow_below HX2.out HB4.out)
       have HR5:=Zh (ownsRow_base HR4.out HBb.out.drew.size)
       have HS4:=Zh HB4.out.size
       clear hw1 hw2 hw3 hw4 hb hbx hg1b hg2b HR4
       go_wp2
       go_roundw
       case rel =>
        refine ⟨j+1,by omega,by go_num,⟨X.set j (z,.slice ra rn rc),by rw [List.length_set]; exact HXL.out,?_,HP2.out.put HB4.out HX4.out hlt HXL.out HZ.out HR5.out (by omega)⟩,?_,?_⟩
        · rw [←wcells_set]
          exact ((HX4.out.stored (j * 2) _).1.stored (j * 2+1) _).1
        · have:=HS4.out
          simp only [World.setCell,Array.size_modify]
          omega
        · exact ((HBW.out.trans (HB4.out.mono (by omega))).setCell (Nat.le_refl _) _).setCell (Nat.le_refl _) _
       case measure=>simp [intOf]; omega
     · obtain rfl:j=m:=by omega
       have hR:=(show wr.cell? ⟨w.heap.size+1,0,none⟩=some (.slice none 0 0)∧wr.cell? ⟨w.heap.size+1,1,none⟩=some (.slice none 0 0) from ⟨(HBW.out.cell (by show w.heap.size+1 < q; omega)).trans HRw.out.1,(HBW.out.cell (by show w.heap.size+1 < q; omega)).trans HRw.out.2⟩)
       have hfz:wr.frozen? ⟨w.heap.size+1,0,none⟩=false∧wr.frozen? ⟨w.heap.size+1,1,none⟩=false:=by
        have hBq:=(HBX.out.trans ((HBW1.out.mono (by simp; omega)).trans (((HB3.out.mono (Nat.le_of_eq HQ.out)).trans HBW.out).mono (by simp; omega))))
        exact ⟨(hBq.frozen (by simp)).trans (res_free _ _ _ _ _),(hBq.frozen (by simp)).trans (res_free _ _ _ _ _)⟩
       have HSE:=Zh (show OwnSects (w.heap.size+2) q wr (.slice (some ⟨g,0,none⟩) k k) S by
        have h0:OwnSects (w.heap.size+2) q w2 (.slice (some ⟨g,0,none⟩) k k) S:=by
         obtain ⟨xs,h1,h2⟩:=HS3.out
         rw [HSn.out] at h1 h2 ⊢
         refine ⟨xs,h1,h2,fun i V p hi hV hp=>?_,fun p hp=>?_⟩
         · have:=((h2.1 i V hi hV).lt p hp).2
           have:=HQ.out
           omega
         · have:=(h1.lt p hp).2
           have:=HQ.out
           omega
        exact h0.low ((HB3.out.mono (Nat.le_of_eq HQ.out)).trans HBW.out))
       have HWR:=Zh (show OwnWrites q wr (.slice (some ⟨q,0,none⟩) j j) C by
        have h1:=HX2.out
        have h2:=HP2.out
        have h3:=HXL.out
        rw [HCm.out] at h1 h2 h3 ⊢
        exact ⟨X,h3,h1,fun i x hx=>h2 i x (by rw [←h3]; exact (List.getElem?_eq_some_iff.1 hx).1) hx⟩)
       clear HX2 HP2 HBW HBW1
       obtain ⟨hr1,hr2⟩:=hR
       obtain ⟨hz1',hz2'⟩:=hfz
       have hlt1:w.heap.size+1 < wr.heap.size:=by omega
       go_wp2
       refine bodyPost_ret (v:=.agg #[.slice (some ⟨g,0,none⟩) k k,.slice (some ⟨q,0,none⟩) j j]) (by simp [results,Tryz.results92,go_sem,hr1,hr2]) rfl ⟨_,_,q,rfl,by omega,?_,?_,?_⟩
       · exact ((HSE.out.set _ _ (by show w.heap.size+1 < w.heap.size+2; omega)).set _ _ (by show w.heap.size+1 < w.heap.size+2; omega)).base (by omega)
       · exact (HWR.out.set _ _ (by show w.heap.size+1 < q; omega)).set _ _ (by show w.heap.size+1 < q; omega)
       · exact (HB2.out.setCell (by show w.heap.size≤w.heap.size+1; omega) _).setCell (by show w.heap.size≤w.heap.size+1; omega) _
open Go.RowKit Go.Lib Go.Maps
def MapOk (S:List (List UInt8)) (C:List (Int × List UInt8)) (T:Nat→Bool) (k:Nat) (D:DataW Unit):Prop :=
 IsMap D∧∀ i:Nat,i < S.length →
  (has D (.int .i64 (i:Int))=true→∃ p:Nat,p < k∧D.atKey (.int .i64 (i:Int)) (.lit (.int .i64 0))=.lit (.int .i64 (p:Int))∧(after S C T k).getD i []=(C.getD p (0,[])).2) ∧
  (has D (.int .i64 (i:Int))=false→(after S C T k).getD i []=S.getD i [])
theorem MapOk.start (S:List (List UInt8)) (C:List (Int × List UInt8)) (T:Nat→Bool):MapOk S C T 0 (.map []) :=
 ⟨isMap_empty,fun _ _=>⟨Zf,fun _=>rfl⟩⟩
theorem MapOk.put {S:List (List UInt8)} {C:List (Int × List UInt8)} {T:Nat→Bool} {k:Nat} {D:DataW Unit} (h:MapOk S C T k D) (hT:T k=true) {z:Int} (hz:z=(C.getD k (0,[])).1) (h0:0≤z) (h1:z < (S.length:Int)) :
 MapOk S C T (k+1) (D.put (.int .i64 z) (.lit (.int .i64 (k:Int)))):=by
 have ha:after S C T (k+1)=(after S C T k).set z.toNat (C.getD k (0,[])).2:=by
  show (if T k=true then _ else _)=_
  rw [if_pos hT,hz]
 refine ⟨h.1.put _ _,fun i hi=>?_⟩
 rw [ha]
 have hl:i < (after S C T k).length:=by rw [after_length]; exact hi
 by_cases he:(i:Int)=z
 · subst he
   rw [Int.toNat_natCast]
   refine ⟨fun _=>⟨k,by omega,atKey_put_same h.1 (show WideAt.IsKeyLit (.int .i64 (i:Int)) from trivial) _ _,?_⟩,fun hh=>?_⟩
   · rw [List.getD_eq_getElem?_getD,List.getElem?_set_self hl]
     rfl
   · rw [has_put_same h.1 (show WideAt.IsKeyLit (.int .i64 (i:Int)) from trivial)] at hh
     cases hh
 · have hne:Lit.int .i64 (i:Int)≠.int .i64 z:=fun e=>he (by injection e)
   have h2:((after S C T k).set z.toNat (C.getD k (0,[])).2).getD i []=(after S C T k).getD i []:=by
    rw [List.getD_eq_getElem?_getD,List.getElem?_set_ne (by omega),List.getD_eq_getElem?_getD]
   rw [h2,has_put_other hne,atKey_put_other hne]
   refine ⟨fun hh=>?_,(h.2 i hi).2⟩
   obtain ⟨p,h3,h4,h5⟩:=(h.2 i hi).1 hh
   exact ⟨p,by omega,h4,h5⟩
def Inside (S:List (List UInt8)) (C:List (Int × List UInt8)):Prop:=S.length≤256∧C.length≤512∧∀ x∈C,0≤x.1∧x.1 < (S.length:Int)
theorem Inside.of {S:List (List UInt8)} {C:List (Int × List UInt8)} (h:chkB S C=true):Inside S C:=by
 obtain ⟨h1,h2,_,h4⟩:=chk_true.1 h
 exact ⟨h1,h2,fun x hx=>⟨(h4 x hx).1,(h4 x hx).2.1⟩⟩
open Go.RowKit Go.Lib Go.Maps
def LastIs (c fv:Value) (S:List (List UInt8)) (C:List (Int × List UInt8)) (T:Nat→Bool) (W:World):Prop :=
 Calls Tryz.prog 128 #[c,fv] W fun e w'=>∃ B n D,e=.returned (.map (some B))∧w'.ownsMap Tryz.prog 3 (plainElem Tryz.prog 3) B n D∧MapOk S C T C.length D∧Below W.heap.size W w'
open Go.RowKit Go.Lib Go.Maps
theorem boxes {w w1:World} {u v u' v':Value} {s t:TypeId} (hb:Below ((w.alloc (.cells #[u,v] s)).alloc (.cells #[u',v'] t)).heap.size ((w.alloc (.cells #[u,v] s)).alloc (.cells #[u',v'] t)) w1) :
 (w1.cell? ⟨w.heap.size,0,none⟩=some u∧w1.cell? ⟨w.heap.size,1,none⟩=some v)∧(w1.cell? ⟨w.heap.size+1,0,none⟩=some u'∧w1.cell? ⟨w.heap.size+1,1,none⟩=some v') ∧
 (w1.frozen? ⟨w.heap.size+1,0,none⟩=false∧w1.frozen? ⟨w.heap.size+1,1,none⟩=false)∧w.heap.size+1 < w1.heap.size:=by
 have h1:=kept2 (kept2 (box2_new w u v s (0,0)) ((Below.refl _ _).alloc (Nat.le_refl _) (.cells #[u',v'] t))) hb
 have h2:=kept2 (box2_new (w.alloc (.cells #[u,v] s)) u' v' t (0,0)) hb
 have h3:=hb.size
 simp at h2 h3
 exact ⟨h1,h2,⟨(hb.frozen (by simp)).trans (res_free _ _ _ _ _),(hb.frozen (by simp)).trans (res_free _ _ _ _ _)⟩,by omega⟩
theorem Sects.form {w:World} {v:Value} {S:List (List UInt8)} (h:Sects w v S):∃ a n c,v=.slice a n c:=by
 obtain ⟨a,c,h,_⟩:=h.shape
 exact ⟨a,_,c,h⟩
theorem Writes.form {w:World} {v:Value} {C:List (Int × List UInt8)} (h:Writes w v C):∃ a n c,v=.slice a n c:=by
 obtain ⟨a,c,h,_⟩:=h.shape
 exact ⟨a,_,c,h⟩
open Go.RowKit Go.Lib Go.Maps
theorem box_cells {X:World} {r:Nat} {u v:Value} {t:TypeId} (h:X.heap[r]? = some (.cells #[u,v] t (0,0))):(X.cell? ⟨r,0,none⟩=some u∧X.cell? ⟨r,1,none⟩=some v)∧X.frozen? ⟨r,0,none⟩=false∧X.frozen? ⟨r,1,none⟩=false:=by
 refine ⟨⟨?_,?_⟩,?_,?_⟩
 · unfold World.cell?; rw [h]; rfl
 · unfold World.cell?; rw [h]; rfl
 · unfold World.frozen?; rw [h]; simp
 · unfold World.frozen?; rw [h]; simp
theorem box_put {X:World} {r:Nat} {p q u v:Value} {t:TypeId} (h:X.heap[r]? = some (.cells #[p,q] t (0,0))):((X.setCell ⟨r,0,none⟩ u).setCell ⟨r,1,none⟩ v).heap[r]? = some (.cells #[u,v] t (0,0)):=by
 have h1:(X.setCell ⟨r,0,none⟩ u).heap[r]? = some (.cells #[u,q] t (0,0)):=heap_setCell_same X r 0 _ _ u h
 exact heap_setCell_same _ r 1 _ _ v h1
theorem dskRow_far {X:World} {r:Nat} {o:Obj} (h:X.heap[r]? = some o) (a:Addr) (x:Value) (hne:r≠a.block):(X.setCell a x).heap[r]? = some o:=by rw [Below.heap_setCell _ _ _ _ hne]; exact h
theorem dskRow_keep {w w':World} {g:Nat} {o:Obj} (h:w.heap[g]? = some o) (hb:Below w.heap.size w w'):w'.heap[g]? = some o:=(hb.block g (Array.getElem?_eq_some_iff.1 h).1).trans h
theorem dskBoxes_rows {w w1:World} {u v u' v':Value} {s t:TypeId} (hb:Below ((w.alloc (.cells #[u,v] s)).alloc (.cells #[u',v'] t)).heap.size ((w.alloc (.cells #[u,v] s)).alloc (.cells #[u',v'] t)) w1) :
 w1.heap[w.heap.size]? = some (.cells #[u,v] s (0,0))∧w1.heap[w.heap.size+1]? = some (.cells #[u',v'] t (0,0))∧w.heap.size+1 < w1.heap.size:=by
 have h1:=dskRow_keep (dskRow_keep (heap_alloc_new w (.cells #[u,v] s)) ((Below.refl _ _).alloc (Nat.le_refl _) (.cells #[u',v'] t))) hb
 have h2:=dskRow_keep (heap_alloc_new (w.alloc (.cells #[u,v] s)) (.cells #[u',v'] t)) hb
 have h3:=hb.size
 simp at h2 h3
 exact ⟨h1,h2,by omega⟩
end Go.Proofs.YtcljffcdpjmmbaaGreat
