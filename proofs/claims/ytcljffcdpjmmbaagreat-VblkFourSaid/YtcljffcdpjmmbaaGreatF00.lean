import Derived.Test.YtcljffcdpjmmbaaGreatG06
namespace Go.Proofs.YtcljffcdpjmmbaaGreat
open Go.RowKit Go.Lib
def fp (i:Nat):Nat:=500+i * 288
def fch (i:Nat):QCh:=⟨((3 * i:Nat):Int),[((3 * i:Nat):Int),((3 * i+1:Nat):Int),((3 * i+2:Nat):Int)],1⟩
def fq:Nat→QQ
 | 0=>wq 0
 | k+1=>addQ (fq k) (bsW (fp k))
def fr (a k i:Nat):Req:=if a≤i∧i < k then ⟨true,((3 * i:Nat):Int),false,i⟩ else zReq
def dq (K:Nat):Nat→QQ
 | 0=>fq K
 | i+1=>relQ { dq K i with last:=i+1 } 0
theorem fq_free (k:Nat):(fq k).free=(upN 16).drop (3 * k):=by
 induction k with
 | zero=>rfl
 | succ k ih =>
   show (fq k).free.drop 3=_
   rw [ih,List.drop_drop]
   rfl
theorem fq_avail (k:Nat) (h:k < 65536):(fq k).avail=k:=by
 induction k with
 | zero=>rfl
 | succ k ih =>
   show ((fq k).avail+1) % 65536=_
   rw [ih (by omega)]
   omega
theorem fq_last (k:Nat):(fq k).last=0:=by
 induction k with
 | zero=>rfl
 | succ k ih=>exact ih
theorem fq_base (k:Nat):(fq k).base=0:=by
 induction k with
 | zero=>rfl
 | succ k ih=>exact ih
theorem fq_size (k:Nat):(fq k).size=16:=by
 induction k with
 | zero=>rfl
 | succ k ih=>exact ih
theorem four_cases {k:Nat} (h:k < 4):k=0∨k=1∨k=2∨k=3:=by omega
theorem fq_get {k m:Nat} (h:k < 4) (hm:m < 3):(fq k).free.getD m 0=((3 * k+m:Nat):Int):=by
 rw [fq_free,upN16]
 rcases four_cases h with rfl|rfl|rfl|rfl <;> rcases (show m=0∨m=1∨m=2 by omega) with rfl|rfl|rfl <;> rfl
theorem fq_take {k:Nat} (h:k < 4):(fq k).free.take 3=(fch k).ds:=by
 rw [fq_free,upN16]
 rcases four_cases h with rfl|rfl|rfl|rfl <;> rfl
theorem fq_room {k:Nat} (_:k≤4):16 - 3 * k=(fq k).free.length:=by
 rw [fq_free,List.length_drop,upN_length]
theorem fq_chains {k:Nat} (h:k≤4):(fq k).chains=(List.range k).map fch:=by
 induction k with
 | zero=>rfl
 | succ k ih =>
   show (fq k).chains++[addC (fq k) (bsW (fp k))]=_
   rw [ih (by omega),List.range_succ,List.map_append]
   have e:addC (fq k) (bsW (fp k))=fch k:=by
    have h0:=fq_get (k:=k) (m:=0) (by omega) (by decide)
    have h1:=fq_take (k:=k) (by omega)
    simp only [addC,bsW_room]
    show QCh.mk ((fq k).free.getD 0 0) ((fq k).free.take 3) 1=_
    rw [h0,h1]
    rfl
   rw [e]
   rfl
theorem fq_good {k:Nat} (h:k≤4):GoodQ (fq k) 16:=by
 induction k with
 | zero=>exact wq_good (by decide)
 | succ k ih=>exact addQ_good (ih (by omega)) (by simp [bsW]) (by show 3≤_; have:=fq_room (k:=k) (by omega); omega) (by rw [bsW_room]; decide)
theorem fq_goodB {k:Nat} (h:k≤4):GoodB (fq k) (fr 0 k 0) (fr 0 k 1) (fr 0 k 2) (fr 0 k 3) where
 good:=fq_good h
 base:=fq_base k
 free:=fun r hr hb=>by
  simp at hr
  rcases hr with rfl|rfl|rfl|rfl
  all_goals
   unfold fr at hb ⊢
   split at hb
   · cases hb
   · rw [if_neg (by assumption)]
 same:=by
  rw [fq_chains h]
  rcases (show k=0∨k=1∨k=2∨k=3∨k=4 by omega) with rfl|rfl|rfl|rfl|rfl <;> rfl
theorem dq_last (K i:Nat):(dq K i).last=i:=by
 cases i with
 | zero=>exact fq_last K
 | succ i=>rfl
theorem dq_avail (K i:Nat) (h:K < 65536):(dq K i).avail=K:=by
 induction i with
 | zero=>exact fq_avail K h
 | succ i ih=>exact ih
theorem dq_base (K i:Nat):(dq K i).base=0:=by
 induction i with
 | zero=>exact fq_base K
 | succ i ih=>exact ih
theorem dq_size (K i:Nat):(dq K i).size=16:=by
 induction i with
 | zero=>exact fq_size K
 | succ i ih=>exact ih
theorem dq_chains {K:Nat} (h:K≤4) (i:Nat):(dq K i).chains=((List.range K).map fch).drop i:=by
 induction i with
 | zero=>exact fq_chains h
 | succ i ih =>
   show (dq K i).chains.eraseIdx 0=_
   rw [ih,List.eraseIdx_zero,List.tail_drop]
theorem dq_chlen {K:Nat} (h:K≤4) (i:Nat):(dq K i).chains.length=K - i:=by
 rw [dq_chains h,List.length_drop,List.length_map,List.length_range]
theorem dq_good {K i:Nat} (h:K≤4) (hi:i≤K):GoodQ (dq K i) 16:=by
 induction i with
 | zero=>exact fq_good h
 | succ i ih=>exact relQ_good ((ih (by omega)).seen (by omega)) (by show 0 < (dq K i).chains.length; rw [dq_chlen h]; omega)
theorem dq_goodB {K i:Nat} (h:K≤4) (hi:i≤K):GoodB (dq K i) (fr i K 0) (fr i K 1) (fr i K 2) (fr i K 3) where
 good:=dq_good h hi
 base:=dq_base K i
 free:=fun r hr hb=>by
  simp at hr
  rcases hr with rfl|rfl|rfl|rfl
  all_goals
   unfold fr at hb ⊢
   split at hb
   · cases hb
   · rw [if_neg (by assumption)]
 same:=by
  rw [dq_chains h]
  rcases (show K=0∨K=1∨K=2∨K=3∨K=4 by omega) with rfl|rfl|rfl|rfl|rfl <;> rcases (show i=0∨i=1∨i=2∨i=3∨i=4 by omega) with rfl|rfl|rfl|rfl|rfl <;> first|rfl|(exfalso; omega)
def wmem (l:List UInt8) (k:Nat) (d:List UInt8):List UInt8:=addM (layW l (fp k) k d) 0 16 (fq k) (bsW (fp k))
structure FM (ds:Nat→List UInt8) (l:List UInt8) (k:Nat):Prop where
 len:l.length=1700
 ready:∀ i,i < k→Ready l i (3 * i) (fch i).ds (bsW (fp i))
 said:∀ i,i < k→Said l (fp i) i (ds i)
 ix:numAt l (0+16 * 16+2) 2=k
 us:k=0→usedI l 0 16=0
theorem layW_other {l d:List UInt8} {p:Nat} (s:Nat) (h:p+273≤l.length) (hd:d.length=256) {q j:Nat} (hq:q+j≤p):((layW l p s d).drop q).take j=(l.drop q).take j:=by
 have h1:=rowPut_length (l:=l) (d:=d) (p:=p+16) (by omega)
 rw [layW,layN_other _ _ (by omega) (.inl hq),rowPut_other (by omega) (.inl (by omega))]
theorem leN_zeros:∀ l:List UInt8,(∀ x∈l,x=0)→leN l=0
 | [],_=>rfl
 | x::l,h=>by
   rw [leN,leN_zeros l (fun y hy=>h y (List.mem_cons_of_mem _ hy)),h x (List.mem_cons_self ..)]
   rfl
theorem numAt_zeros {l:List UInt8} (h:∀ x∈l,x=0) (p k:Nat):numAt l p k=0:=leN_zeros _ (fun x hx=>h x (List.mem_of_mem_drop (List.mem_of_mem_take hx)))
theorem FM.zero {ds:Nat→List UInt8} {z0 l0:List UInt8} (hz:∀ x∈z0,x=0) (hn:z0.length=1700) (h:zeroM z0 0 16=l0):FM ds l0 0:=by
 have hl:l0.length=1700:=by rw [←h,zeroM_length (ok1700 hn),hn]
 have h0:∀ x∈l0,x=0:=fun x hx=>by
  rw [←h] at hx
  unfold zeroM at hx
  rcases List.mem_append.1 hx with h1|h1
  · rcases List.mem_append.1 h1 with h2|h2
    · exact hz x (List.mem_of_mem_take h2)
    · exact (List.mem_replicate.1 h2).2
  · exact hz x (List.mem_of_mem_drop h1)
 exact ⟨hl,fun i hi=>absurd hi (by omega),fun i hi=>absurd hi (by omega),numAt_zeros h0 _ _,fun _=>numAt_zeros h0 _ _⟩
theorem FM.step {ds:Nat→List UInt8} {l:List UInt8} {k:Nat} (h:FM ds l k) (hk:k < 4) (hd:(ds k).length=256):FM ds (wmem l k (ds k)) (k+1):=by
 have hl:=h.len
 have hp:fp k+273≤1700:=by unfold fp; omega
 have hL:(layW l (fp k) k (ds k)).length=1700:=(layW_length k (by omega) hd).trans hl
 have hg:=fq_good (k:=k) (by omega)
 have hfl:(bsW (fp k)).length≤(fq k).free.length:=by show 3≤_; have:=fq_room (k:=k) (by omega); omega
 have hav:=fq_avail k (by omega)
 have e0:=fq_get (k:=k) (m:=0) hk (by decide)
 obtain ⟨k1,k2,k3⟩:=ready_add hL hg (bsW_in hp) (by simp [bsW]) hfl
 rw [e0,hav] at k1
 have e1:(fq k).free.take (bsW (fp k)).length=(fch k).ds:=fq_take hk
 rw [e1] at k1
 rw [hav] at k2
 have hfar:∀ q j,424≤q→((wmem l k (ds k)).drop q).take j=((layW l (fp k) k (ds k)).drop q).take j:=fun q j hq=>part_of_drop (addM_drop hL hg hfl) hq
 refine ⟨k1.len,fun i hi=>?_,fun i hi=>?_,k2.trans (by omega),fun e=>by omega⟩
 · rcases Nat.lt_or_eq_of_le (Nat.le_of_lt_succ hi) with h1|rfl
   · have hR:=(h.ready i h1).low hL (fun q j hq=>by rw [numAt,numAt,layW_other k (by omega) hd (by unfold fp; omega)])
     refine hR.add hg hfl (fun a m ha hm=>?_) (by rw [hav]; omega)
     rw [fq_get hk hm]
     have ha3:a < 3:=ha
     rcases (show a=0∨a=1∨a=2 by omega) with rfl|rfl|rfl
     · show ((3 * i:Nat):Int)≠_; omega
     · show ((3 * i+1:Nat):Int)≠_; omega
     · show ((3 * i+2:Nat):Int)≠_; omega
   · exact k1
 · rcases Nat.lt_or_eq_of_le (Nat.le_of_lt_succ hi) with h1|rfl
   · refine (h.said i h1).keep (fun q j h2 h3=>?_)
     rw [hfar q j (by unfold fp at h2; omega),layW_other k (by omega) hd (by unfold fp at h3 ⊢; omega)]
   · exact (layW_said (by omega) hd (by omega)).keep (fun q j h2 h3=>hfar q j (by unfold fp at h2; omega))
def smem (l:List UInt8) (j y:Nat):List UInt8:=returnD (putAt l (fp j+272) 1 y) 0 16 j (3 * j) 1
structure HM (ds:Nat→List UInt8) (l:List UInt8) (K j y:Nat):Prop where
 len:l.length=1700
 ready:∀ i,i < K→Ready l i (3 * i) (fch i).ds (bsW (fp i))
 said:∀ i,i < K→Said l (fp i) i (ds i)
 ix:numAt l (0+16 * 16+2) 2=K
 us:0 < j∨K=0→usedI l 0 16=j
 ent:∀ i,i < j→usedE l 0 16 i 0=3 * i∧usedE l 0 16 i 4=1
 st:∀ i,i < j→numAt l (fp i+272) 1=y
theorem FM.done {ds:Nat→List UInt8} {l:List UInt8} {k y:Nat} (h:FM ds l k):HM ds l k 0 y :=
 ⟨h.len,h.ready,h.said,h.ix,fun e=>h.us (by omega),fun i hi=>absurd hi (by omega),fun i hi=>absurd hi (by omega)⟩
theorem HM.step {ds:Nat→List UInt8} {l:List UInt8} {K j y:Nat} (h:HM ds l K j y) (hj:j < K) (hK:K≤4) (hy:y < 256):HM ds (smem l j y) K (j+1) y:=by
 have hl:=h.len
 have hp:fp j+273≤1700:=by unfold fp; omega
 have hpl:(putAt l (fp j+272) 1 y).length=1700:=(putAt_length y (by omega)).trans hl
 have hok:=ok1700 hpl
 have hlow:∀ q n,q+n≤292→numAt (smem l j y) q n=numAt l q n:=fun q n hq=>by
  rw [smem,returnD_other j (3 * j) 1 hok (.inl (by rw [secN16]; omega)),putAt_low (by omega) (by unfold fp; omega)]
 have hfar:∀ q n,424≤q→((smem l j y).drop q).take n=((putAt l (fp j+272) 1 y).drop q).take n:=fun q n hq=>part_of_drop (returnD_far j (3 * j) 1 hpl) hq
 have hn:(smem l j y).length=1700:=returnD_len _ _ _ hpl
 have he:=returnD_entry (l:=putAt l (fp j+272) 1 y) (B:=0) (N:=16) j j (3 * j) 1 rfl (by omega) (by decide) hok
 refine ⟨hn,fun i hi=>(h.ready i hi).low hn hlow,fun i hi=>(h.said i hi).keep (fun q n h1 h2=>?_),(hlow _ _ (by decide)).trans h.ix,fun _=>?_,fun i hi=>?_,fun i hi=>?_⟩
 · rw [hfar q n (by unfold fp at h1; omega)]
   refine part_other _ (by omega) ?_
   unfold fp at h1 h2 ⊢
   omega
 · unfold usedI
   rw [smem,returnD_index j (3 * j) 1 hok]
   omega
 · rcases Nat.lt_or_eq_of_le (Nat.le_of_lt_succ hi) with h1|rfl
   · obtain ⟨a,b⟩:=h.ent i h1
     unfold usedE at a b ⊢
     have h2:i % 16=i:=Nat.mod_eq_of_lt (by omega)
     have h3:j % 16=j:=Nat.mod_eq_of_lt (by omega)
     constructor
     · rw [smem,returnD_other j (3 * j) 1 hok (.inr ⟨by omega,.inl (by omega)⟩),putAt_low (by omega) (by rw [secN16]; unfold fp; omega)]
       exact a
     · rw [smem,returnD_other j (3 * j) 1 hok (.inr ⟨by omega,.inl (by omega)⟩),putAt_low (by omega) (by rw [secN16]; unfold fp; omega)]
       exact b
   · exact he
 · rw [numAt,hfar _ _ (by unfold fp; omega)]
   rcases Nat.lt_or_eq_of_le (Nat.le_of_lt_succ hi) with h1|rfl
   · rw [part_other _ (by omega) (by unfold fp; omega)]
     exact h.st i h1
   · exact numAt_putAt1 (by omega) hy
theorem HM.poll {ds:Nat→List UInt8} {l:List UInt8} {K i y:Nat} (h:HM ds l K K y) (hK:K≤4) (hi:i < K) (q2:QQ) (x z E:Int) (hp:PollSpec l 0 16 (dq K i) q2 x z E):q2=dq K (i+1)∧x=((3 * i:Nat):Int)∧z=((1:Nat):Int)∧E=0:=by
 have hu:=h.us (.inl (by omega))
 obtain ⟨a,b⟩:=h.ent i hi
 have hc:(dq K i).chains=fch i::((List.range K).map fch).drop (i+1):=by
  rw [dq_chains hK,List.drop_eq_getElem_cons (by simpa using hi)]
  simp
 have ha:aheadQ l 0 16 (dq K i)=K - i:=by
  unfold aheadQ
  rw [hu,dq_last]
  omega
 obtain ⟨r1,r2,r3,r4⟩:=poll_is_first (a:=3 * i) (n:=1) hp hc (by rw [ha]; omega) (by rw [ha,dq_chlen hK]; omega) (by rw [dq_last]; exact a) (by rw [dq_last]; exact b) (by simp [isUsed,fch]) (fun d hd=>by
  obtain ⟨k,hk,hk2⟩:=List.getElem_of_mem hd
  rw [←hk2]
  simp [fch]
  omega)
 refine ⟨?_,r2,r3,r4⟩
 rw [r1,dq_last,Nat.mod_eq_of_lt (by omega)]
 rfl
theorem HM.none {ds:Nat→List UInt8} {l:List UInt8} {K y:Nat} (h:HM ds l K K y) (hK:K≤4) (q2:QQ) (x z E:Int) (hp:PollSpec l 0 16 (dq K K) q2 x z E):q2=dq K K∧x=0∧z=0∧E=7 :=
 poll_is_none hp (by
  unfold aheadQ
  rw [h.us (by omega),dq_last]
  omega)
def fs (j:Nat):Int:=if j < 4 then (j:Nat) else 0
def fe (j:Nat):Int:=if j < 4 then 0 else 4
def fm (l:List UInt8) (j:Nat) (d:List UInt8):List UInt8:=if j < 4 then wmem l j d else l
theorem FM.next {ds:Nat→List UInt8} {l:List UInt8} {j:Nat} (h:FM ds l (min j 4)) (hd:(ds j).length=256):FM ds (fm l j (ds j)) (min (j+1) 4):=by
 unfold fm
 by_cases hj:j < 4
 · rw [show min j 4=j by omega] at h
   rw [if_pos hj,show min (j+1) 4=j+1 by omega]
   exact h.step hj hd
 · rw [if_neg hj,show min (j+1) 4=min j 4 by omega]
   exact h
theorem fr_none (K i:Nat):fr K K i=zReq:=if_neg (by omega)
theorem chk_more {S:List (List UInt8)} {C:List (Int × List UInt8)} {s:Nat} {d:List UInt8} (hk:chkB S C=true) (hs:s < S.length) (hC:C.length < 512) (hd:d.length=256):chkB S (C++[(((s:Nat):Int),d)])=true:=by
 obtain ⟨h1,h2,h3,h4⟩:=chk_true.1 hk
 refine chk_true.2 ⟨h1,by rw [List.length_append,List.length_singleton]; omega,h3,fun x hx=>?_⟩
 rcases List.mem_append.1 hx with h|h
 · exact h4 x h
 · rw [List.mem_singleton.1 h]
   exact ⟨by simp,by show ((s:Nat):Int) < _; omega,hd⟩
section
variable (v dv F C sv cv:Value) (D:List Value) (l d:List UInt8) (S:List (List UInt8)) (W:List (Int × List UInt8)) (ds:Nat→List UInt8) (K j y:Nat) (R z:Int) (w:World)
theorem write_four (hv:OwnB 0 w v l) (hdv:OwnB 0 w dv d) (hdl:d.length=256) (hq:IsQ 0 w F C (fq (min j 4)) D) (hl:l.length=1700) (hj:j < 8) :
 Calls Tryz.prog 9 #[.agg #[v],.agg (bk F C ((min j 4:Nat):Int) 0 (fr 0 (min j 4) 0) (fr 0 (min j 4) 1) (fr 0 (min j 4) 2) (fr 0 (min j 4) 3)),.int .i64 (j:Nat),dv] w fun e w'=>∃ ra rc xa xn xc ya yn yc D2,e=.returned (.tuple #[.agg #[.slice ra 1700 rc],.agg (bk (.slice xa xn xc) (.slice ya yn yc) ((min (j+1) 4:Nat):Int) 0 (fr 0 (min (j+1) 4) 0) (fr 0 (min (j+1) 4) 1) (fr 0 (min (j+1) 4) 2) (fr 0 (min (j+1) 4) 3)),.int .i64 (fs j),.int .i64 (fe j)])∧OwnB 0 w' (.slice ra 1700 rc) (fm l j d)∧IsQ 0 w' (.slice xa xn xc) (.slice ya yn yc) (fq (min (j+1) 4)) D2∧Below w.heap.size w w':=by
 by_cases h:j < 4
 · rw [show min j 4=j by omega] at hq ⊢
   rw [show min (j+1) 4=j+1 by omega]
   unfold fs fe fm
   rw [if_pos h,if_pos h,if_pos h]
   have e0:=fq_get (k:=j) (m:=0) h (by decide)
   refine write_this (fq j) (fq (j+1)) (fr 0 j 0) (fr 0 j 1) (fr 0 j 2) (fr 0 j 3) (fr 0 (j+1) 0) (fr 0 (j+1) 1) (fr 0 (j+1) 2) (fr 0 (j+1) 3) F C v dv D l (wmem l j d) d (j:Nat) 0 ((j+1:Nat):Int) ((3 * j+0:Nat):Int) (j:Nat) (j:Nat) j j (fp j) w hv hdv hdl (by omega) hq (fq_goodB (by omega)) hl ?_ h rfl (by have:=fq_room (k:=j) (by omega); omega) (by rw [fq_avail j (by omega)]) (by rw [fq_last]; rfl) (by rw [fq_avail j (by omega),Nat.mod_eq_of_lt (by omega)]) e0 rfl rfl rfl rfl ?_ ?_ ?_ ?_
   all_goals rcases four_cases h with rfl|rfl|rfl|rfl <;> rfl
 · rw [show min j 4=4 by omega] at hq ⊢
   rw [show min (j+1) 4=4 by omega]
   unfold fs fe fm
   rw [if_neg h,if_neg h,if_neg h]
   exact writeFull_this (fq 4) (fr 0 4 0) (fr 0 4 1) (fr 0 4 2) (fr 0 4 3) F C v dv D l d ((4:Nat):Int) 0 (j:Nat) j w hv hdv hdl (by omega) hq (fq_goodB (by decide)) hl rfl (by rw [fq_avail 4 (by omega)]) (by rw [fq_last]; rfl) rfl
theorem serve_four (hv:OwnB 0 w v l) (hd:DK w sv cv S W) (hk:chkB S W=true) (hS:S.length=8) (hC:W.length≤j) (hH:HM ds l K j y) (hj:j < K) (hK:K≤4) (hds:(ds j).length=256) (hz:IntKind.u8.wrap z=(y:Int)) (hy:y < 256) :
 Calls Tryz.prog 11 #[.agg #[v],.agg #[.int .i64 0,.int .i64 16,.int .u16 (j:Nat),.int .u16 (j:Nat)],.agg #[sv,cv],.int .i64 z] w fun e w'=>∃ W2 ra rc sa sn sc ca cn cc,e=.returned (.tuple #[.agg #[.slice ra 1700 rc],.agg #[.int .i64 0,.int .i64 16,.int .u16 ((j+1:Nat):Int),.int .u16 ((j+1:Nat):Int)],.agg #[.slice sa sn sc,.slice ca cn cc],.int .i64 0])∧(W2.length≤j+1∧chkB S W2=true)∧OwnB 0 w' (.slice ra 1700 rc) (smem l j y)∧DK w' (.slice sa sn sc) (.slice ca cn cc) S W2∧Below w.heap.size w w':=by
 obtain ⟨W2,h1,h2,h3⟩:∃ W2,(W2.length≤j+1∧chkB S W2=true)∧Served1 l S W W2 (bsW (fp j)) y y∧True:=by
  by_cases hy0:y=0
  · refine ⟨W++[(((j:Nat):Int),ds j)],⟨by rw [List.length_append,List.length_singleton]; omega,chk_more hk (by omega) (by omega) hds⟩,.inr ⟨hy0,fp j,j,ds j,0,rfl,by unfold fp; omega,hH.said j hj,by omega,wf_zero hk (by omega) (by omega),by rw [hy0]; rfl,(write_one hk (by omega) (by omega) hds).symm⟩,trivial⟩
  · exact ⟨W,⟨by omega,hk⟩,.inl ⟨hy0,rfl,rfl⟩,trivial⟩
 refine (serve_ok v sv cv l S W W2 (fch j).ds (bsW (fp j)) j j K (3 * j) 3 2 (fp j+272) y y ((fp j:Nat):Int) z (j:Nat) (j:Nat) ((j+1:Nat):Int) ((j+1:Nat):Int) ((3 * j:Nat):Int) false w hv hd hk (hH.ready j hj) (by omega) (by omega) hH.ix (by omega) (bsW_in (by unfold fp; omega)) rfl rfl (by decide) rfl (by simp [bsW]) (by unfold fp; omega) hz hy hy h2 rfl rfl (by rw [Nat.mod_eq_of_lt (by omega)]) (by rw [Nat.mod_eq_of_lt (by omega)]) rfl (by omega)).mono ?_
 rintro e w' ⟨ra,rc,sa,sn,sc,ca,cn,cc,rfl,g1,g2,g3⟩
 exact ⟨W2,ra,rc,sa,sn,sc,ca,cn,cc,rfl,h1,g1,g2,g3⟩
theorem done_four (hv:OwnB 0 w v l) (hq:IsQ 0 w F C (dq K j) D) (hH:HM ds l K K y) (hj:j < K) (hK:K≤4) (hR:(if y=0∧1=1 then (0:Int) else 90)=R) :
 Calls Tryz.prog 12 #[.agg #[v],.agg (bk F C (K:Nat) (j:Nat) (fr j K 0) (fr j K 1) (fr j K 2) (fr j K 3))] w fun e w'=>∃ xa xn xc ya yn yc D2,e=.returned (.tuple #[.agg (bk (.slice xa xn xc) (.slice ya yn yc) (K:Nat) ((j+1:Nat):Int) (fr (j+1) K 0) (fr (j+1) K 1) (fr (j+1) K 2) (fr (j+1) K 3)),.int .i64 (j:Nat),.int .i64 R,.int .i64 0])∧IsQ 0 w' (.slice xa xn xc) (.slice ya yn yc) (dq K (j+1)) D2∧Below w.heap.size w w':=by
 refine done_this (dq K j) (dq K (j+1)) (fr j K 0) (fr j K 1) (fr j K 2) (fr j K 3) (fr (j+1) K 0) (fr (j+1) K 1) (fr (j+1) K 2) (fr (j+1) K 3) F C v D l (K:Nat) (j:Nat) (K:Nat) ((j+1:Nat):Int) ((3 * j:Nat):Int) R (j:Nat) j (fp j) 1 y w hv hq (dq_goodB hK (by omega)) hH.len (fun q2 x z E h=>hH.poll hK hj q2 x z E h) (by rw [dq_base,dq_base]) (by rw [dq_size,dq_size]) ?_ (by omega) rfl (hH.st j hj) (by decide) hR (by rw [dq_avail K j (by omega)]) (by rw [dq_last]) (by rw [dq_avail K (j+1) (by omega)]) (by rw [dq_last]) rfl ?_ ?_ ?_ ?_
 all_goals rcases (show K=1∨K=2∨K=3∨K=4 by omega) with rfl|rfl|rfl|rfl <;> rcases four_cases (show j < 4 by omega) with rfl|rfl|rfl|rfl <;> first|rfl|(exfalso; omega)
theorem doneNone_four (hv:OwnB 0 w v l) (hq:IsQ 0 w F C (dq K K) D) (hH:HM ds l K K y) (hK:K≤4) :
 Calls Tryz.prog 12 #[.agg #[v],.agg (bk F C (K:Nat) (K:Nat) (fr K K 0) (fr K K 1) (fr K K 2) (fr K K 3))] w fun e w'=>∃ xa xn xc ya yn yc D2,e=.returned (.tuple #[.agg (bk (.slice xa xn xc) (.slice ya yn yc) (K:Nat) (K:Nat) (fr K K 0) (fr K K 1) (fr K K 2) (fr K K 3)),.int .i64 0,.int .i64 0,.int .i64 7])∧IsQ 0 w' (.slice xa xn xc) (.slice ya yn yc) (dq K K) D2∧Below w.heap.size w w' :=
 doneNone_this (dq K K) (fr K K 0) (fr K K 1) (fr K K 2) (fr K K 3) F C v D l (K:Nat) (K:Nat) w hv hq (dq_goodB hK (Nat.le_refl _)) hH.len (fun q2 x z E h=>hH.none hK q2 x z E h) (by rw [dq_avail K K (by omega)]) (by rw [dq_last])
end
theorem write_four2 (v dv F C:Value) (D:List Value) (l d:List UInt8) (j k k2:Nat) (w:World) (hv:OwnB 0 w v l) (hdv:OwnB 0 w dv d) (hdl:d.length=256) (hq:IsQ 0 w F C (fq k) D) (hl:l.length=1700) (hj:j < 8) (hk:min j 4=k) (hk2:min (j+1) 4=k2) :
 Calls Tryz.prog 9 #[.agg #[v],.agg (bk F C (k:Nat) 0 (fr 0 k 0) (fr 0 k 1) (fr 0 k 2) (fr 0 k 3)),.int .i64 (j:Nat),dv] w fun e w'=>∃ ra rc xa xn xc ya yn yc D2,e=.returned (.tuple #[.agg #[.slice ra 1700 rc],.agg (bk (.slice xa xn xc) (.slice ya yn yc) (k2:Nat) 0 (fr 0 k2 0) (fr 0 k2 1) (fr 0 k2 2) (fr 0 k2 3)),.int .i64 (fs j),.int .i64 (fe j)])∧OwnB 0 w' (.slice ra 1700 rc) (fm l j d)∧IsQ 0 w' (.slice xa xn xc) (.slice ya yn yc) (fq k2) D2∧Below w.heap.size w w':=by
 subst hk hk2
 exact write_four v dv F C D l d j w hv hdv hdl hq hl hj
theorem slots_load_want {w:World} {ops:Array Oper} {rest:List Oper} {o:Oper} {a:Act} {Q:Exit→Act→World→Prop} (hw:Region.wanted o (yielded ops a.tmps)=true) (x:Operand) (ho:o.op=.load 32 x) (g:Nat) (hx:a.eval x=.pointer (some ⟨g,7,none⟩)) {F C:Value} {A La:Int} {r0 r1 r2 r3:Req} (hg:w.heap[g]? = some (.cells (bk F C A La r0 r1 r2 r3) 34 (0,0))) (h:wpList Tryz.prog ops Q rest (a.put o.dst (.agg (slotL r0 r1 r2 r3).toArray)) w):wpList Tryz.prog ops Q (o::rest) a w :=
 BigFrame.wpList_want hw fun _ hK=>wp_load_mid 32 x ho g 7 hx (slotL r0 r1 r2 r3) _ (bk_slots hg) Tryz.underlying32 rfl (by kernel_rfl) (hK _ _ h)
theorem run_slots (W:World):(binOp .eql 32 (.agg (slotL zReq zReq zReq zReq).toArray) (.agg #[.bool false,.int .i64 0,.bool false,.int .i64 0,.bool false,.int .i64 0,.bool false,.int .i64 0,.bool false,.int .i64 0,.bool false,.int .i64 0,.bool false,.int .i64 0,.bool false,.int .i64 0])).run Tryz.prog W=.ok (.bool true) W:=by
 kernel_rfl
def fR (y:Nat):Int:=if y=0∧1=1 then 0 else 90
theorem seen_cell {X:World} {g j:Nat} (h:X.heap[g]? = some (.cells #[.bool (decide (0 < j)),.bool (decide (1 < j)),.bool (decide (2 < j)),.bool (decide (3 < j))] 53 (0,0))) (hj:j < 4):X.cell? ⟨g,j,none⟩=some (.bool false)∧X.frozen? ⟨g,j,none⟩=false:=by
 rcases four_cases hj with rfl|rfl|rfl|rfl <;> exact at_cell h _ _ rfl
theorem seen_next {X:World} {g j:Nat} (h:X.heap[g]? = some (.cells (#[.bool (decide (0 < j)),.bool (decide (1 < j)),.bool (decide (2 < j)),.bool (decide (3 < j))].setIfInBounds j (.bool true)) 53 (0,0))) (hj:j < 4):X.heap[g]? = some (.cells #[.bool (decide (0 < (j+1))),.bool (decide (1 < (j+1))),.bool (decide (2 < (j+1))),.bool (decide (3 < (j+1)))] 53 (0,0)):=by
 rcases four_cases hj with rfl|rfl|rfl|rfl <;> exact h
structure BlkFoA where
 (b0 b1 b2 b3 b4 b5 b6 b7 b8 b9 b10 b11 b12 b13 b14 b15 b16 b17 b18 b19:Bool)
 (s63 s64 s65 s66 s67 s68 s69 s70 s71 s62 s72 s73 s74 s75 s13 s14 s15 s16:Value)
structure BlkFoB where
 (b0 b1 b2 b3:Bool)
 (s98 s99:Value)
structure BlkFoC where
 (b0 b1 b2 b3 b4 b5 b6 b7 b8:Bool)
 (s116 s117 s118 s119 s120 s11:Value)
set_option maxHeartbeats 2000000 in
set_option maxRecDepth 100000 in
theorem vblkFour_main (w:World) (va:Value) (cs:List UInt8) (hcs:IsArg w va cs) (z:Int) (hc:cs.length≤8):Calls Tryz.prog 3 #[va,.int .i64 z] w fun e w'=>e=.returned (.bool true)∧Below w.heap.size w w':=by
 obtain ⟨a1,n1,c1,rfl,q1⟩:∃ a n c,va=.slice a n c∧n=cs.length:=by obtain ⟨a,c,h,_⟩:=hcs.shape; exact ⟨a,_,c,h,by simp⟩
 rw [←q1] at hc
 have HCS:=Zh hcs
 have HN1:=Zh q1
 have HC:=Zh hc
 have t1:decide ((8:Int) < ((n1:Nat):Int))=false:=decide_eq_false (by omega)
 have t2:decide (8 < n1)=false:=decide_eq_false (by omega)
 clear hcs q1 hc
 obtain ⟨z0,hz0⟩:∃ l:List UInt8,l=List.replicate 1700 0:=⟨_,rfl⟩
 have hn0:z0.length=1700:=by rw [hz0]; simp
 obtain ⟨l0,hl0⟩:∃ l,zeroM z0 0 16=l:=⟨_,rfl⟩
 obtain ⟨ds,hds⟩:∃ f:Nat→List UInt8,f=fun i=>List.replicate 256 (cs.getD i 0):=⟨_,rfl⟩
 have hdl:∀ i,(ds i).length=256:=fun i=>by rw [hds]; exact List.length_replicate
 have hdi:∀ i,List.replicate 256 (cs.getD i 0)=ds i:=fun i=>by rw [hds]
 have hfm:FM ds l0 0:=FM.zero (fun x hx=>by rw [hz0] at hx; exact (List.mem_replicate.1 hx).2) hn0 hl0
 obtain ⟨y,hy,hyw⟩:=wrap8 z
 have HN0:=Zh hn0
 have HL0:=Zh hl0
 have HDL:=Zh hdl
 have HDI:=Zh hdi
 have HFM:=Zh hfm
 have HY:=Zh hy
 have HYW:=Zh hyw
 have hzz:=zerosK_own w 1700 (by decide)
 rw [←hz0] at hzz
 have AM:=Zh hzz
 have BW:=Zh ((Below.refl w.heap.size w).alloc (Nat.le_refl _) (.cells (madeCells #[.int .u8 0] 1700) 5))
 have hmk:=run_zeros1700
 clear hz0 hn0 hl0 hzz hds hdl hdi hfm hy hyw
 go_enter Tryz.func3,Tryz.ntmps3
 go_wp2_with fail
 refine (blkNew_this _ z0 _ AM.out HN0.out).mono ?_
 rintro e w1 ⟨aa,ca,F2,C2,rfl,hm,hq,hb⟩
 obtain ⟨xa0,xn0,xc0,ya0,yn0,yc0,rfl,rfl,hx⟩:=hq.shape
 clear hx hmk
 rw [HL0.out] at hm
 replace AM:=Zh (AM.out.below hb)
 replace BW:=Zb BW hb
 have AV:=Zh hm
 have QA:=Zh hq
 clear hm hq hb
 clear AM
 have hz1:(w1.alloc (.cells #[.slice aa 1700 ca] 24)).heap.size=w1.heap.size+1:=by simp
 have LRM:=Zh (show w.heap.size≤w1.heap.size from BW.out.size)
 have LRB:=Zh (show w.heap.size≤w1.heap.size+1 from Nat.le_succ_of_le BW.out.size)
 obtain ⟨t0,t1,hb⟩:=two_boxes w1 #[.slice aa 1700 ca] (bk (.slice xa0 xn0 xc0) (.slice ya0 yn0 yc0) 0 0 zReq zReq zReq zReq) 24 34
 replace BW:=Zb BW hb
 replace AV:=Zh (AV.out.below hb)
 replace QA:=Zh (QA.out.below hb)
 have RM:=Zh t0
 have RB:=Zh t1
 clear t0 t1 hb
 go_wp2_with (refine blk_store_new rfl _ _ rfl (w1.alloc (.cells #[.slice aa 1700 ca] 24)) (w1.heap.size+1) hz1 (bk (.slice xa0 xn0 xc0) (.slice ya0 yn0 yc0) 0 0 zReq zReq zReq zReq) rfl rfl _ rfl rfl rfl (bk_one rfl rfl) ?_)
 obtain ⟨w2,hw2⟩:∃ x,x=((w1.alloc (.cells #[.slice aa 1700 ca] 24)).alloc (.cells (bk (.slice xa0 xn0 xc0) (.slice ya0 yn0 yc0) 0 0 zReq zReq zReq zReq) 34)):=⟨_,rfl⟩
 rw [←hw2] at BW AV QA RM RB ⊢
 clear hw2
 clear hz1
 refine (dskNew_k 8 8 rfl (by decide) _).mono ?_
 rintro e w3 ⟨sa0,sn0,sc0,rfl,hd,hb⟩
 replace BW:=Zb BW hb
 replace AV:=Zh (AV.out.below hb)
 replace QA:=Zh (QA.out.below hb)
 replace RM:=Zk RM hb
 replace RB:=Zk RB hb
 have DD:=Zh hd
 clear hd hb
 obtain ⟨S,hS⟩:∃ S,S=List.replicate 8 zsec:=⟨_,rfl⟩
 have hk0:chkB S []=true:=by rw [hS]; exact zero_chk (by decide)
 have hsl:S.length=8:=by rw [hS]; simp
 rw [←hS] at DD
 have HK0:=Zh hk0
 have HSL:=Zh hsl
 clear hS hk0 hsl
 have LRD:=Zh (show w.heap.size≤w3.heap.size from BW.out.size)
 have hb:Below w3.heap.size w3 (w3.alloc (.cells #[.slice sa0 sn0 sc0,.slice none 0 0] 41)):=(Below.refl _ _).alloc (Nat.le_refl _) _
 replace BW:=Zb BW hb
 replace AV:=Zh (AV.out.below hb)
 replace QA:=Zh (QA.out.below hb)
 replace RM:=Zk RM hb
 replace RB:=Zk RB hb
 replace DD:=Zh (DD.out.below hb)
 have RD:=Zh (heap_alloc_new w3 (.cells #[.slice sa0 sn0 sc0,.slice none 0 0] 41))
 clear hb
 go_wp2_with fail
 refine (refServe_any 0 16 _).mono ?_
 rintro e w4 ⟨rfl,hb⟩
 replace BW:=Zb BW hb
 replace AV:=Zh (AV.out.below hb)
 replace QA:=Zh (QA.out.below hb)
 replace RM:=Zk RM hb
 replace RB:=Zk RB hb
 replace DD:=Zh (DD.out.below hb)
 replace RD:=Zk RD hb
 clear hb
 have LRS:=Zh (show w.heap.size≤w4.heap.size from BW.out.size)
 have hb:Below w4.heap.size w4 (w4.alloc (.cells #[.int .i64 0,.int .i64 16,.int .u16 0,.int .u16 0] 45)):=(Below.refl _ _).alloc (Nat.le_refl _) _
 replace BW:=Zb BW hb
 replace AV:=Zh (AV.out.below hb)
 replace QA:=Zh (QA.out.below hb)
 replace RM:=Zk RM hb
 replace RB:=Zk RB hb
 replace DD:=Zh (DD.out.below hb)
 replace RD:=Zk RD hb
 have RS:=Zh (heap_alloc_new w4 (.cells #[.int .i64 0,.int .i64 16,.int .u16 0,.int .u16 0] 45))
 clear hb
 go_wp2
 obtain ⟨w5,hw5⟩:∃ x,x=(w4.alloc (.cells #[.int .i64 0,.int .i64 16,.int .u16 0,.int .u16 0] 45)):=⟨_,rfl⟩
 rw [←hw5] at BW AV QA RM RB DD RD RS ⊢
 clear hw5
 go_loopw [12] (fun i wr=>∃ (j:Nat) (G:List UInt8),j≤n1∧i=.int .i64 (j:Nat)∧FM ds G (min j 4)∧MemAt wr w1.heap.size G∧BlkAt wr (w1.heap.size+1) (fq (min j 4)) ((min j 4:Nat):Int) 0 (fr 0 (min j 4) 0) (fr 0 (min j 4) 1) (fr 0 (min j 4) 2) (fr 0 (min j 4) 3)∧wr.heap[w4.heap.size]? = some (.cells #[.int .i64 0,.int .i64 16,.int .u16 0,.int .u16 0] 45 (0,0))∧DiskAt wr w3.heap.size S []∧Below w.heap.size w wr) (fun i _=>n1 - (intOf i).toNat)
 case atStart=>exact ⟨0,l0,Nat.zero_le _,rfl,HFM.out,⟨_,_,RM.out,AV.out⟩,⟨_,_,_,RB.out,QA.out⟩,RS.out,⟨_,_,_,_,_,_,RD.out,DD.out⟩,BW.out⟩
 have HLM0:=Zh LRM.out
 have HLB0:=Zh LRB.out
 have HLD0:=Zh LRD.out
 have HLS0:=Zh LRS.out
 clear AV QA DD RM RB RD RS BW LRM LRB LRD LRS
 case round =>
  obtain ⟨j,G,hj,rfl,hG,⟨ma,mc,hm,hmo⟩,⟨F,C0,D,hb,hbo⟩,hs,⟨sa,sn,sc,ua,un,uc,hd,hdo⟩,hw⟩:=hrel
  obtain ⟨xa,xn,xc,ya,yn,yc,rfl,rfl,hx⟩:=hbo.shape
  obtain ⟨k,hk⟩:∃ k,min j 4=k:=⟨_,rfl⟩
  rw [hk] at hG hb hbo
  have RM:=Zh hm
  have AV:=Zh hmo
  have RB:=Zh hb
  have QA:=Zh hbo
  have RS:=Zh hs
  have RD:=Zh hd
  have DD:=Zh hdo
  have BO:=Zh hw
  have HG:=Zh hG
  have HKJ:=Zh hk
  have HJ:=Zh hj
  clear hx hm hmo hb hbo hs hd hdo hw hG hk
  by_cases hlt:j < n1
  · have BW:=Zh (Below.refl wr.heap.size wr)
    have HLM:=Zh (Array.getElem?_eq_some_iff.1 RM.out).1
    have HLB:=Zh (Array.getElem?_eq_some_iff.1 RB.out).1
    obtain ⟨kx,ox,rfl,hl2,e2⟩:=arg_cell (HCS.out.below BO.out) j (by rw [←HN1.out]; exact hlt)
    obtain ⟨c,hcc⟩:∃ x,cs.getD j 0=x:=⟨_,rfl⟩
    have hd:=HDI.out j
    rw [hcc] at e2 hd
    obtain ⟨d,hdd⟩:∃ x,ds j=x:=⟨_,rfl⟩
    rw [hdd] at hd
    have hdl:d.length=256:=by rw [←hdd]; exact HDL.out j
    obtain ⟨k2,hk2⟩:∃ k,min (j+1) 4=k:=⟨_,rfl⟩
    have hfm:FM ds (fm G j d) k2:=by rw [←hdd,←hk2]; exact FM.next (by rw [HKJ.out]; exact HG.out) (HDL.out j)
    obtain ⟨G1,hG1⟩:∃ x,fm G j d=x:=⟨_,rfl⟩
    rw [hG1] at hfm
    have HD:=Zh hd
    have HDD:=Zh hdl
    have HK2:=Zh hk2
    have HFM1:=Zh hfm
    have HG1:=Zh hG1
    have E2:=Zh e2
    have HLT:=Zh hlt
    clear hcc hd hdd hdl hk2 hfm hG1 e2 hl2 hj
    have hltj:((j:Nat):Int) < ((n1:Nat):Int):=by have:=HLT.out; omega
    go_wp2_with fail
    obtain ⟨w6,hw6⟩:∃ x,x=wr:=⟨_,rfl⟩
    clear hltj hlt
    clear hw6 w6
    refine wp_region_rec (X:=BlkFoA) (by kernel_rfl) (by kernel_rfl) (fun x=>#[x.b0,x.b1,x.b2,x.b3,x.b4,x.b5,x.b6,x.b7,x.b8,x.b9,x.b10,x.b11,x.b12,x.b13,x.b14,x.b15,x.b16,x.b17,x.b18,x.b19]) (fun x=>{ tmps:=List.toArray ((.slice (some ⟨kx,ox,none⟩) n1 c1)::(.int .i64 z)::undef::undef::u4::(.pointer (some ⟨w1.heap.size,0,none⟩))::(.pointer (some ⟨w1.heap.size+1,0,none⟩))::(.int .i64 0)::(.pointer (some ⟨w3.heap.size,0,none⟩))::(.int .i64 0)::(.pointer (some ⟨w4.heap.size,0,none⟩))::(.int .i64 0)::(.int .i64 (j:Nat))::x.s13::x.s14::x.s15::x.s16::undef::undef::undef::undef::undef::undef::undef::undef::undef::undef::undef::undef::undef::undef::undef::(.tuple #[.agg #[.slice aa 1700 ca],.agg (bk (.slice xa0 xn0 xc0) (.slice ya0 yn0 yc0) 0 0 zReq zReq zReq zReq),.int .i64 0])::(.slice (some ⟨w.heap.size,0,none⟩) 1700 1700)::(.agg #[.slice (some ⟨w.heap.size,0,none⟩) 1700 1700])::(.tuple #[.agg #[.slice aa 1700 ca],.agg (bk (.slice xa0 xn0 xc0) (.slice ya0 yn0 yc0) 0 0 zReq zReq zReq zReq),.int .i64 0])::(.agg #[.slice aa 1700 ca])::(.agg (bk (.slice xa0 xn0 xc0) (.slice ya0 yn0 yc0) 0 0 zReq zReq zReq zReq))::(.int .i64 0)::(.tuple #[.agg #[.slice sa0 sn0 sc0,.slice none 0 0],.int .i64 0])::(.tuple #[.agg #[.slice sa0 sn0 sc0,.slice none 0 0],.int .i64 0])::(.agg #[.slice sa0 sn0 sc0,.slice none 0 0])::(.int .i64 0)::(.agg #[.int .i64 0,.int .i64 16,.int .u16 0,.int .u16 0])::(.slice (some ⟨kx,ox,none⟩) n1 c1)::(.int .i64 (n1:Nat))::(.bool false)::(.bool false)::(.int .i64 0)::(.bool false)::(.bool false)::undef::undef::undef::undef::undef::(.int .i64 (j:Nat))::(.slice (some ⟨kx,ox,none⟩) n1 c1)::(.int .i64 (n1:Nat))::(.bool true)::u60::u61::x.s62::x.s63::x.s64::x.s65::x.s66::x.s67::x.s68::x.s69::x.s70::x.s71::x.s72::x.s73::x.s74::x.s75::u76::u77::u78::u79::u80::u81::u82::u83::u84::u85::u86::u87::u88::u89::u90::u91::u92::u93::u94::u95::u96::u97::u98::u99::undef::undef::undef::undef::undef::undef::undef::undef::undef::undef::undef::undef::undef::undef::undef::undef::undef::undef::undef::undef::undef::undef::undef::undef::undef::undef::undef::undef::undef::undef::undef::undef::undef::undef::undef::undef::undef::undef::undef::undef::undef::undef::undef::undef::undef::undef::undef::undef::undef::undef::undef::undef::undef::undef::undef::undef::undef::undef::undef::undef::undef::undef::undef::undef::undef::undef::undef::undef::undef::undef::undef::undef::undef::undef::undef::undef::undef::undef::[]),defers:=[] }) (fun x W=>(x.b0→x.s63=.agg #[.slice ma 1700 mc])∧(x.b1→x.s64=.agg (bk (.slice xa xn xc) (.slice ya yn yc) (k:Nat) 0 (fr 0 k 0) (fr 0 k 1) (fr 0 k 2) (fr 0 k 3)))∧(x.b2→x.s65=.int .i64 (j:Nat))∧(x.b3→x.s66=.slice (some ⟨kx,ox,none⟩) n1 c1)∧(x.b4→x.s67=.int .i64 (j:Nat))∧(x.b5→x.s68=.pointer (some ⟨kx,ox+j,none⟩))∧(x.b6→x.s69=.int .u8 c.toNat)∧(x.b9→x.s62=x.s71)∧(x.b12→x.s74=.int .i64 (fs j))∧(x.b13→x.s75=.int .i64 (fe j))∧(x.b18→x.s15=.int .i64 (fs j))∧(x.b19→x.s16=.int .i64 (fe j))∧(x.b16→x.b6∧x.b7∧x.b8∧x.b14∧x.b15)∧(x.b17→x.b7∧x.b8∧x.b14∧x.b15∧x.b16)∧(x.b9→x.b7∧x.b8)∧(x.b8→x.b7)∧(x.b10→x.b7∧x.b8)∧(x.b11→x.b7∧x.b8)∧(W.heap[w1.heap.size]? = some (.cells #[.slice ma 1700 mc] 24 (0,0)))∧(W.heap[w1.heap.size+1]? = some (.cells (bk (.slice xa xn xc) (.slice ya yn yc) (k:Nat) 0 (fr 0 k 0) (fr 0 k 1) (fr 0 k 2) (fr 0 k 3)) 34 (0,0)))∧(W.heap[w4.heap.size]? = some (.cells #[.int .i64 0,.int .i64 16,.int .u16 0,.int .u16 0] 45 (0,0)))∧(W.heap[w3.heap.size]? = some (.cells #[.slice sa sn sc,.slice ua un uc] 41 (0,0)))∧(Below wr.heap.size wr W)∧(OwnB 0 W (.slice ma 1700 mc) G)∧(IsQ 0 W (.slice xa xn xc) (.slice ya yn yc) (fq k) D)∧(DK W (.slice sa sn sc) (.slice ua un uc) S [])∧(x.b16=false→W.cell? ⟨kx,ox+j,none⟩=some (.int .u8 c.toNat))∧(x.b7→∃ gs,x.s70=.slice (some ⟨gs,0,none⟩) 256 256∧OwnB 0 W (.slice (some ⟨gs,0,none⟩) 256 256) d)∧(x.b8→∃ ra rc ta tn tc va vn vc D2,x.s71=.tuple #[.agg #[.slice ra 1700 rc],.agg (bk (.slice ta tn tc) (.slice va vn vc) (k2:Nat) 0 (fr 0 k2 0) (fr 0 k2 1) (fr 0 k2 2) (fr 0 k2 3)),.int .i64 (fs j),.int .i64 (fe j)]∧OwnB 0 W (.slice ra 1700 rc) G1∧IsQ 0 W (.slice ta tn tc) (.slice va vn vc) (fq k2) D2)∧(x.b10→∃ ra rc,x.s72=.agg #[.slice ra 1700 rc]∧OwnB 0 W (.slice ra 1700 rc) G1)∧(x.b11→∃ ta tn tc va vn vc D2,x.s73=.agg (bk (.slice ta tn tc) (.slice va vn vc) (k2:Nat) 0 (fr 0 k2 0) (fr 0 k2 1) (fr 0 k2 2) (fr 0 k2 3))∧IsQ 0 W (.slice ta tn tc) (.slice va vn vc) (fq k2) D2)∧(x.b14→∃ g,x.s13=.pointer (some ⟨g,0,none⟩)∧wr.heap.size≤g∧(x.b16=false→W.heap[g]? = some (.cells (#[.slice none 0 0]) 24 (0,0))))∧(x.b16→∃ g,x.s13=.pointer (some ⟨g,0,none⟩)∧wr.heap.size≤g∧MemAt W g G1)∧(x.b15→∃ g,x.s14=.pointer (some ⟨g,0,none⟩)∧wr.heap.size≤g∧(x.b17=false→W.heap[g]? = some (.cells (bk0) 34 (0,0))))∧(x.b17→∃ g,x.s14=.pointer (some ⟨g,0,none⟩)∧wr.heap.size≤g∧BlkAt W g (fq k2) (k2:Nat) 0 (fr 0 k2 0) (fr 0 k2 1) (fr 0 k2 2) (fr 0 k2 3))) ⟨false,false,false,false,false,false,false,false,false,false,false,false,false,false,false,false,false,false,false,false,u63,u64,u65,u66,u67,u68,u69,u70,u71,u62,u72,u73,u74,u75,u13,u14,u15,u16⟩ rfl rfl ⟨Zf,Zf,Zf,Zf,Zf,Zf,Zf,Zf,Zf,Zf,Zf,Zf,Zf,Zf,Zf,Zf,Zf,Zf,RM.out,RB.out,RS.out,RD.out,BW.out.drew,AV.out.drew,QA.out.drew,DD.out.drew,(fun _=>kept E2.out BW.out.drew),Zf,Zf,Zf,Zf,Zf,Zf,Zf,Zf⟩ (fun _=>rfl) ?hstep ?hdone
    case hstep =>
     rintro ⟨b0,b1,b2,b3,b4,b5,b6,b7,b8,b9,b10,b11,b12,b13,b14,b15,b16,b17,b18,b19,s63,s64,s65,s66,s67,s68,s69,s70,s71,s62,s72,s73,s74,s75,s13,s14,s15,s16⟩ W hI i hi
     dsimp only at hI hi ⊢
     have HI:=Zh hI
     clear hI
     rw [Region.ready,List.mem_filter,List.mem_range] at hi
     obtain ⟨hlt,hp⟩:=hi
     have hi7:i=0∨i=1∨i=2∨i=3∨i=4∨i=5∨i=6∨i=7∨i=8∨i=9∨i=10∨i=11∨i=12∨i=13∨i=14∨i=15∨i=16∨i=17∨i=18∨i=19:=by simp at hlt; omega
     clear hlt
     rcases hi7 with rfl|rfl|rfl|rfl|rfl|rfl|rfl|rfl|rfl|rfl|rfl|rfl|rfl|rfl|rfl|rfl|rfl|rfl|rfl|rfl
     all_goals simp [Region.binds] at hp
     · obtain rfl:b0=false:=by revert hp; cases b0 <;> simp
       clear hp; refine Zv 63 fun K' hK'=>?_
       have rM:=(Zg HI.out).2.2.1
       obtain ⟨hc0,_⟩:=at_cell rM 0 _ rfl
       go_simp
       exact hK'.out _ _ ⟨.mk ..,rfl,rfl,(Upd (fun _=>rfl)) HI.out⟩
     · obtain rfl:b1=false:=by revert hp; cases b1 <;> simp
       clear hp; refine Zv 64 fun K' hK'=>?_
       have rB:=(Zg HI.out).2.2.2.1
       refine step_blk_load rfl _ rfl _ rfl _ rB rfl ?_
       exact hK'.out _ _ ⟨.mk ..,rfl,rfl,Nxt (Upd (fun _=>rfl)) HI.out⟩
     · obtain rfl:b2=false:=by revert hp; cases b2 <;> simp
       clear hp; refine Zv 65 fun K' hK'=>?_
       go_simp
       exact hK'.out _ _ ⟨.mk ..,rfl,rfl,Nxt (Nxt (Upd (fun _=>rfl))) HI.out⟩
     · obtain rfl:b3=false:=by revert hp; cases b3 <;> simp
       clear hp; refine Zv 66 fun K' hK'=>?_
       go_simp
       exact hK'.out _ _ ⟨.mk ..,rfl,rfl,Nxt (Nxt (Nxt (Upd (fun _=>rfl)))) HI.out⟩
     · obtain rfl:b4=false:=by revert hp; cases b4 <;> simp
       clear hp; refine Zv 67 fun K' hK'=>?_
       go_simp
       exact hK'.out _ _ ⟨.mk ..,rfl,rfl,Nx4 (Upd (fun _=>rfl)) HI.out⟩
     · obtain ⟨rfl,e3,e4⟩:b5=false∧b3=true∧b4=true:=by revert hp; cases b5 <;> cases b3 <;> cases b4 <;> simp
       clear hp
       obtain rfl:=(HI.out.2.2.2.1) e3
       obtain rfl:=((Zd HI.out).1) e4
       refine Zv 68 fun K' hK'=>?_
       have hl0:0≤(j:Int):=by omega
       have hl1:(j:Int) < (n1:Int):=by have:=HLT.out; omega
       go_simp
       exact hK'.out _ _ ⟨.mk ..,rfl,rfl,Nxt (Nx4 (Upd (fun _=>rfl))) HI.out⟩
     · obtain ⟨rfl,e5⟩:b6=false∧b5=true:=by revert hp; cases b6 <;> cases b5 <;> simp
       clear hp
       obtain rfl:=((Zd HI.out).2.1) e5
       refine Zv 69 fun K' hK'=>?_
       have gi16:=(Zd (Ze HI.out)).1
       have gC:=(Ze (Zg HI.out)).2.2.1
       obtain rfl:b16=false:=Zz fun e=>(gi16 e).1
       have hcc:=gC rfl
       go_simp
       obtain ⟨h0,h1,h2,h3,h4,h5,h6,h9,h12,h13,h18,h19,gi16,gi17,gi9,gi8,gi10,gi11,rM,rB,rS,rD,gB,gV,gQ,gD,gC,gS,gP,gX,gY,gN,gN2,gW,gW2⟩:=HI.out
       exact hK'.out _ _ ⟨.mk ..,rfl,rfl,h0,h1,h2,h3,h4,h5,(fun _=>rfl),h9,h12,h13,h18,h19,Zf,gi17,gi9,gi8,gi10,gi11,rM,rB,rS,rD,gB,gV,gQ,gD,gC,gS,gP,gX,gY,gN,Zf,gW,gW2⟩
     · obtain ⟨rfl,e6⟩:b7=false∧b6=true:=by revert hp; cases b7 <;> cases b6 <;> simp
       clear hp
       obtain rfl:=((Zd HI.out).2.2.1) e6
       refine Zv 70 fun K' hK'=>?_
       have gi16:=(Zd (Ze HI.out)).1
       have gi17:=(Zd (Ze HI.out)).2.1
       have gi9:=(Zd (Ze HI.out)).2.2.1
       have gi8:=(Zd (Ze HI.out)).2.2.2.1
       have gi10:=(Zg HI.out).1
       have gi11:=(Zg HI.out).2.1
       obtain rfl:b16=false:=Zz fun e=>(gi16 e).2.1
       obtain rfl:b17=false:=Zz fun e=>(gi17 e).1
       obtain rfl:b9=false:=Zz fun e=>(gi9 e).1
       obtain rfl:b8=false:=Zz fun e=>(gi8 e)
       obtain rfl:b10=false:=Zz fun e=>(gi10 e).1
       obtain rfl:b11=false:=Zz fun e=>(gi11 e).1
       go_simp
       refine (sector9_any c W).mono ?_
       rintro e w7 ⟨gs,rfl,hsc,bn⟩
       rw [HD.out] at hsc
       obtain ⟨h0,h1,h2,h3,h4,h5,h6,h9,h12,h13,h18,h19,gi16,gi17,gi9,gi8,gi10,gi11,rM,rB,rS,rD,gB,gV,gQ,gD,gC,gS,gP,gX,gY,gN,gN2,gW,gW2⟩:=HI.out
       exact hK'.out _ _ ⟨.mk ..,rfl,rfl,h0,h1,h2,h3,h4,h5,h6,h9,h12,h13,h18,h19,Zf,Zf,Zf,Zf,Zf,Zf,(row_keep rM bn),(row_keep rB bn),(row_keep rS bn),(row_keep rD bn),(gB.trans (bn.mono gB.size)),(gV.below bn),(gQ.below bn),(gD.below bn),(fun e=>kept (gC e) bn),(fun _=>⟨gs,rfl,hsc⟩),Zf,Zf,Zf,(fun e=>by obtain ⟨y0,h1,h2,h3⟩:=gN e; exact ⟨y0,h1,h2,fun e2=>row_keep (h3 e2) bn⟩),Zf,(fun e=>by obtain ⟨y0,h1,h2,h3⟩:=gW e; exact ⟨y0,h1,h2,fun e2=>row_keep (h3 e2) bn⟩),Zf⟩
     · have hn8:b8=false:=by revert hp; cases b8 <;> simp
       have e0:b0=true:=by revert hp; cases b0 <;> simp
       have e1:b1=true:=by revert hp; cases b1 <;> simp
       have e2:b2=true:=by revert hp; cases b2 <;> simp
       have e7:b7=true:=by revert hp; cases b7 <;> simp
       clear hp
       obtain rfl:=(HI.out.1) e0
       obtain rfl:=(HI.out.2.1) e1
       obtain rfl:=(HI.out.2.2.1) e2
       subst hn8
       refine Zv 71 fun K' hK'=>?_
       have gi16:=(Zd (Ze HI.out)).1
       have gi17:=(Zd (Ze HI.out)).2.1
       have gi9:=(Zd (Ze HI.out)).2.2.1
       have gi10:=(Zg HI.out).1
       have gi11:=(Zg HI.out).2.1
       have gV:=(Zd (Zg HI.out)).2.2.2.1
       have gQ:=(Ze (Zg HI.out)).1
       have gS:=(Ze (Zg HI.out)).2.2.2.1
       obtain rfl:b16=false:=Zz fun e=>(gi16 e).2.2.1
       obtain rfl:b17=false:=Zz fun e=>(gi17 e).2.1
       obtain rfl:b9=false:=Zz fun e=>(gi9 e).2
       obtain rfl:b10=false:=Zz fun e=>(gi10 e).2
       obtain rfl:b11=false:=Zz fun e=>(gi11 e).2
       obtain ⟨gs,rfl,hsc⟩:=gS e7
       go_simp
       refine (write_four2 _ _ _ _ D G d j k k2 W gV hsc HDD.out gQ HG.out.len (by have:=HLT.out; have:=HC.out; omega) HKJ.out HK2.out).mono ?_
       rintro e w7 ⟨ra,rc,ta,tn,tc,va,vn,vc,D2,rfl,hm,hq,bn⟩
       rw [HG1.out] at hm
       obtain ⟨h0,h1,h2,h3,h4,h5,h6,h9,h12,h13,h18,h19,gi16,gi17,gi9,gi8,gi10,gi11,rM,rB,rS,rD,gB,gV,gQ,gD,gC,gS,gP,gX,gY,gN,gN2,gW,gW2⟩:=HI.out
       exact hK'.out _ _ ⟨.mk ..,rfl,rfl,h0,h1,h2,h3,h4,h5,h6,(fun e=>by cases ((gi9 e).2)),h12,h13,h18,h19,Zf,Zf,Zf,(fun _=>e7),Zf,Zf,(row_keep rM bn),(row_keep rB bn),(row_keep rS bn),(row_keep rD bn),(gB.trans (bn.mono gB.size)),(gV.below bn),(gQ.below bn),(gD.below bn),(fun e=>kept (gC e) bn),(fun _=>⟨gs,rfl,hsc.below bn⟩),(fun _=>⟨_,_,_,_,_,_,_,_,_,rfl,hm,hq⟩),Zf,Zf,(fun e=>by obtain ⟨y0,h1,h2,h3⟩:=gN e; exact ⟨y0,h1,h2,fun e2=>row_keep (h3 e2) bn⟩),Zf,(fun e=>by obtain ⟨y0,h1,h2,h3⟩:=gW e; exact ⟨y0,h1,h2,fun e2=>row_keep (h3 e2) bn⟩),Zf⟩
     · obtain ⟨rfl,e8⟩:b9=false∧b8=true:=by revert hp; cases b9 <;> cases b8 <;> simp
       clear hp; refine Zv 62 fun K' hK'=>?_
       go_simp
       obtain ⟨h0,h1,h2,h3,h4,h5,h6,h9,h12,h13,h18,h19,gi16,gi17,gi9,gi8,gi10,gi11,rM,rB,rS,rD,gB,gV,gQ,gD,gC,gS,gP,gX,gY,gN,gN2,gW,gW2⟩:=HI.out
       exact hK'.out _ _ ⟨.mk ..,rfl,rfl,h0,h1,h2,h3,h4,h5,h6,(fun _=>rfl),h12,h13,h18,h19,gi16,gi17,(fun _=>⟨(gi8 e8),e8⟩),gi8,gi10,gi11,rM,rB,rS,rD,gB,gV,gQ,gD,gC,gS,gP,gX,gY,gN,gN2,gW,gW2⟩
     · obtain ⟨rfl,e9⟩:b10=false∧b9=true:=by revert hp; cases b10 <;> cases b9 <;> simp
       clear hp
       obtain rfl:=((Zd HI.out).2.2.2.1) e9
       refine Zv 72 fun K' hK'=>?_
       have gi9:=(Zd (Ze HI.out)).2.2.1
       have gP:=(Zd (Ze (Zg HI.out))).1
       obtain ⟨ra,rc,ta,tn,tc,va,vn,vc,D2,rfl,hp,hq⟩:=gP ((gi9 e9).2)
       go_simp
       obtain ⟨h0,h1,h2,h3,h4,h5,h6,h9,h12,h13,h18,h19,gi16,gi17,gi9,gi8,gi10,gi11,rM,rB,rS,rD,gB,gV,gQ,gD,gC,gS,gP,gX,gY,gN,gN2,gW,gW2⟩:=HI.out
       exact hK'.out _ _ ⟨.mk ..,rfl,rfl,h0,h1,h2,h3,h4,h5,h6,h9,h12,h13,h18,h19,gi16,gi17,gi9,gi8,(fun _=>⟨(gi9 e9).1,(gi9 e9).2⟩),gi11,rM,rB,rS,rD,gB,gV,gQ,gD,gC,gS,(fun _=>⟨_,_,_,_,_,_,_,_,_,rfl,hp,hq⟩),(fun _=>⟨_,_,rfl,hp⟩),gY,gN,gN2,gW,gW2⟩
     · obtain ⟨rfl,e9⟩:b11=false∧b9=true:=by revert hp; cases b11 <;> cases b9 <;> simp
       clear hp
       obtain rfl:=((Zd HI.out).2.2.2.1) e9
       refine Zv 73 fun K' hK'=>?_
       have gi9:=(Zd (Ze HI.out)).2.2.1
       have gP:=(Zd (Ze (Zg HI.out))).1
       obtain ⟨ra,rc,ta,tn,tc,va,vn,vc,D2,rfl,hp,hq⟩:=gP ((gi9 e9).2)
       go_simp
       obtain ⟨h0,h1,h2,h3,h4,h5,h6,h9,h12,h13,h18,h19,gi16,gi17,gi9,gi8,gi10,gi11,rM,rB,rS,rD,gB,gV,gQ,gD,gC,gS,gP,gX,gY,gN,gN2,gW,gW2⟩:=HI.out
       exact hK'.out _ _ ⟨.mk ..,rfl,rfl,h0,h1,h2,h3,h4,h5,h6,h9,h12,h13,h18,h19,gi16,gi17,gi9,gi8,gi10,(fun _=>⟨(gi9 e9).1,(gi9 e9).2⟩),rM,rB,rS,rD,gB,gV,gQ,gD,gC,gS,(fun _=>⟨_,_,_,_,_,_,_,_,_,rfl,hp,hq⟩),gX,(fun _=>⟨_,_,_,_,_,_,_,rfl,hq⟩),gN,gN2,gW,gW2⟩
     · obtain ⟨rfl,e9⟩:b12=false∧b9=true:=by revert hp; cases b12 <;> cases b9 <;> simp
       clear hp
       obtain rfl:=((Zd HI.out).2.2.2.1) e9
       refine Zv 74 fun K' hK'=>?_
       have gi9:=(Zd (Ze HI.out)).2.2.1
       have gP:=(Zd (Ze (Zg HI.out))).1
       obtain ⟨ra,rc,ta,tn,tc,va,vn,vc,D2,rfl,hp,hq⟩:=gP ((gi9 e9).2)
       go_simp
       exact hK'.out _ _ ⟨.mk ..,rfl,rfl,Nx4 (Nx4 (Nx4 (Nx16 (Upd (fun _=>⟨_,_,_,_,_,_,_,_,_,rfl,hp,hq⟩))))) (Nx4 (Nx4 (Upd (fun _=>rfl))) HI.out)⟩
     · obtain ⟨rfl,e9⟩:b13=false∧b9=true:=by revert hp; cases b13 <;> cases b9 <;> simp
       clear hp
       obtain rfl:=((Zd HI.out).2.2.2.1) e9
       refine Zv 75 fun K' hK'=>?_
       have gi9:=(Zd (Ze HI.out)).2.2.1
       have gP:=(Zd (Ze (Zg HI.out))).1
       obtain ⟨ra,rc,ta,tn,tc,va,vn,vc,D2,rfl,hp,hq⟩:=gP ((gi9 e9).2)
       go_simp
       exact hK'.out _ _ ⟨.mk ..,rfl,rfl,Nx4 (Nx4 (Nx4 (Nx16 (Upd (fun _=>⟨_,_,_,_,_,_,_,_,_,rfl,hp,hq⟩))))) (Nxt (Nx4 (Nx4 (Upd (fun _=>rfl)))) HI.out)⟩
     · obtain rfl:b14=false:=by revert hp; cases b14 <;> simp
       clear hp; refine Zv 13 fun K' hK'=>?_
       have gi16:=(Zd (Ze HI.out)).1
       have gi17:=(Zd (Ze HI.out)).2.1
       obtain rfl:b16=false:=Zz fun e=>(gi16 e).2.2.2.1
       obtain rfl:b17=false:=Zz fun e=>(gi17 e).2.2.1
       have bn:Below W.heap.size W (W.alloc (.cells (#[.slice none 0 0]) 24)):=(Below.refl _ _).alloc (Nat.le_refl _) _
       have rn:=heap_alloc_new W (.cells (#[.slice none 0 0]) 24)
       go_simp
       obtain ⟨h0,h1,h2,h3,h4,h5,h6,h9,h12,h13,h18,h19,gi16,gi17,gi9,gi8,gi10,gi11,rM,rB,rS,rD,gB,gV,gQ,gD,gC,gS,gP,gX,gY,gN,gN2,gW,gW2⟩:=HI.out
       exact hK'.out _ _ ⟨.mk ..,rfl,rfl,h0,h1,h2,h3,h4,h5,h6,h9,h12,h13,h18,h19,Zf,Zf,gi9,gi8,gi10,gi11,(row_keep rM bn),(row_keep rB bn),(row_keep rS bn),(row_keep rD bn),(gB.trans (bn.mono gB.size)),(gV.below bn),(gQ.below bn),(gD.below bn),(fun e=>kept (gC e) bn),(fun e=>by obtain ⟨y0,h1,h2⟩:=gS e; exact ⟨y0,h1,h2.below bn⟩),(fun e=>by obtain ⟨y0,y1,y2,y3,y4,y5,y6,y7,y8,h1,h2,h3⟩:=gP e; exact ⟨y0,y1,y2,y3,y4,y5,y6,y7,y8,h1,h2.below bn,h3.below bn⟩),(fun e=>by obtain ⟨y0,y1,h1,h2⟩:=gX e; exact ⟨y0,y1,h1,h2.below bn⟩),(fun e=>by obtain ⟨y0,y1,y2,y3,y4,y5,y6,h1,h2⟩:=gY e; exact ⟨y0,y1,y2,y3,y4,y5,y6,h1,h2.below bn⟩),(fun _=>⟨W.heap.size,rfl,gB.size,fun _=>rn⟩),Zf,(fun e=>by obtain ⟨y0,h1,h2,h3⟩:=gW e; exact ⟨y0,h1,h2,fun e2=>row_keep (h3 e2) bn⟩),Zf⟩
     · obtain rfl:b15=false:=by revert hp; cases b15 <;> simp
       clear hp; refine Zv 14 fun K' hK'=>?_
       have gi16:=(Zd (Ze HI.out)).1
       have gi17:=(Zd (Ze HI.out)).2.1
       obtain rfl:b16=false:=Zz fun e=>(gi16 e).2.2.2.2
       obtain rfl:b17=false:=Zz fun e=>(gi17 e).2.2.2.1
       have bn:Below W.heap.size W (W.alloc (.cells (bk0) 34)):=(Below.refl _ _).alloc (Nat.le_refl _) _
       have rn:=heap_alloc_new W (.cells (bk0) 34)
       go_simp
       obtain ⟨h0,h1,h2,h3,h4,h5,h6,h9,h12,h13,h18,h19,gi16,gi17,gi9,gi8,gi10,gi11,rM,rB,rS,rD,gB,gV,gQ,gD,gC,gS,gP,gX,gY,gN,gN2,gW,gW2⟩:=HI.out
       exact hK'.out _ _ ⟨.mk ..,rfl,rfl,h0,h1,h2,h3,h4,h5,h6,h9,h12,h13,h18,h19,Zf,Zf,gi9,gi8,gi10,gi11,(row_keep rM bn),(row_keep rB bn),(row_keep rS bn),(row_keep rD bn),(gB.trans (bn.mono gB.size)),(gV.below bn),(gQ.below bn),(gD.below bn),(fun e=>kept (gC e) bn),(fun e=>by obtain ⟨y0,h1,h2⟩:=gS e; exact ⟨y0,h1,h2.below bn⟩),(fun e=>by obtain ⟨y0,y1,y2,y3,y4,y5,y6,y7,y8,h1,h2,h3⟩:=gP e; exact ⟨y0,y1,y2,y3,y4,y5,y6,y7,y8,h1,h2.below bn,h3.below bn⟩),(fun e=>by obtain ⟨y0,y1,h1,h2⟩:=gX e; exact ⟨y0,y1,h1,h2.below bn⟩),(fun e=>by obtain ⟨y0,y1,y2,y3,y4,y5,y6,h1,h2⟩:=gY e; exact ⟨y0,y1,y2,y3,y4,y5,y6,h1,h2.below bn⟩),(fun e=>by obtain ⟨y0,h1,h2,h3⟩:=gN e; exact ⟨y0,h1,h2,fun e2=>row_keep (h3 e2) bn⟩),Zf,(fun _=>⟨W.heap.size,rfl,gB.size,fun _=>rn⟩),Zf⟩
     · have hn16:b16=false:=by revert hp; cases b16 <;> simp
       have e10:b10=true:=by revert hp; cases b10 <;> simp
       have e14:b14=true:=by revert hp; cases b14 <;> simp
       have e8:b8=true:=by revert hp; cases b8 <;> simp
       have e6:b6=true:=by revert hp; cases b6 <;> simp
       have e7:b7=true:=by revert hp; cases b7 <;> simp
       have e15:b15=true:=by revert hp; cases b15 <;> simp
       clear hp
       subst hn16
       refine inv_op (o:=⟨none,_,_,_,_,_⟩) rfl (fun K' hK'=>?_)
       have gi17:=(Zd (Ze HI.out)).2.1
       have gX:=(Zd (Ze (Zg HI.out))).2.1
       have gN:=(Zd (Ze (Zg HI.out))).2.2.2.1
       obtain rfl:b17=false:=Zz fun e=>(gi17 e).2.2.2.2
       obtain ⟨ra,rc,rfl,hx⟩:=gX e10
       obtain ⟨gx,rfl,hlg,gN0⟩:=gN e14
       have gNr:=gN0 rfl
       obtain ⟨hc0,hz0⟩:=at_cell gNr 0 _ rfl
       have hlt:=(Array.getElem?_eq_some_iff.1 gNr).1
       go_simp
       obtain ⟨h0,h1,h2,h3,h4,h5,h6,h9,h12,h13,h18,h19,gi16,gi17,gi9,gi8,gi10,gi11,rM,rB,rS,rD,gB,gV,gQ,gD,gC,gS,gP,gX,gY,gN,gN2,gW,gW2⟩:=HI.out
       exact hK'.out _ _ ⟨.mk ..,rfl,rfl,h0,h1,h2,h3,h4,h5,h6,h9,h12,h13,h18,h19,(fun _=>⟨e6,e7,e8,e14,e15⟩),Zf,gi9,gi8,gi10,gi11,(Zp1 rM (Nat.ne_of_gt (Nat.lt_of_lt_of_le HLM.out hlg))),(Zp1 rB (Zn rB gNr)),(Zp1 rS (Zn rS gNr)),(Zp1 rD (Zn rD gNr)),(Zu1 gB hlg),(gV.stay gNr (by decide) _ _),(gQ.stay gNr (by decide) (by decide) _ _),(gD.stay gNr (by decide) _ _),Zf,(fun e=>by obtain ⟨y0,h1,h2⟩:=gS e; exact ⟨y0,h1,(h2.stay gNr (by decide) _ _)⟩),(fun e=>by obtain ⟨y0,y1,y2,y3,y4,y5,y6,y7,y8,h1,h2,h3⟩:=gP e; exact ⟨y0,y1,y2,y3,y4,y5,y6,y7,y8,h1,(h2.stay gNr (by decide) _ _),(h3.stay gNr (by decide) (by decide) _ _)⟩),(fun e=>by obtain ⟨y0,y1,h1,h2⟩:=gX e; exact ⟨y0,y1,h1,(h2.stay gNr (by decide) _ _)⟩),(fun e=>by obtain ⟨y0,y1,y2,y3,y4,y5,y6,h1,h2⟩:=gY e; exact ⟨y0,y1,y2,y3,y4,y5,y6,h1,(h2.stay gNr (by decide) (by decide) _ _)⟩),(fun _=>⟨gx,rfl,hlg,fun e=>by cases e⟩),(fun _=>⟨gx,rfl,hlg,⟨ra,rc,row_put gNr 0 (.slice ra 1700 rc),hx.stay gNr (by decide) 0 (.slice ra 1700 rc)⟩⟩),(fun e=>by obtain ⟨y0,h1,h2,h3⟩:=gW e; exact ⟨y0,h1,h2,fun e2=>(Zp1 (h3 e2) (Zn (h3 e2) gNr))⟩),Zf⟩
     · have hn17:b17=false:=by revert hp; cases b17 <;> simp
       have e11:b11=true:=by revert hp; cases b11 <;> simp
       have e15:b15=true:=by revert hp; cases b15 <;> simp
       have e16:b16=true:=by revert hp; cases b16 <;> simp
       have e7:b7=true:=by revert hp; cases b7 <;> simp
       have e8:b8=true:=by revert hp; cases b8 <;> simp
       have e14:b14=true:=by revert hp; cases b14 <;> simp
       clear hp
       subst hn17
       refine inv_op (o:=⟨none,_,_,_,_,_⟩) rfl (fun K' hK'=>?_)
       have gY:=(Zd (Ze (Zg HI.out))).2.2.1
       have gW:=(Zg (Zg HI.out)).2.1
       obtain ⟨ta,tn,tc,va,vn,vc,D2,rfl,hx⟩:=gY e11
       obtain ⟨gx,rfl,hlg,gW0⟩:=gW e15
       have gWr:=gW0 rfl
       refine step_blk_store rfl _ _ rfl _ _ rfl rfl _ gWr rfl rfl (bk_one rfl rfl) ?_
       obtain ⟨h0,h1,h2,h3,h4,h5,h6,h9,h12,h13,h18,h19,gi16,gi17,gi9,gi8,gi10,gi11,rM,rB,rS,rD,gB,gV,gQ,gD,gC,gS,gP,gX,gY,gN,gN2,gW,gW2⟩:=HI.out
       exact hK'.out _ _ ⟨.mk ..,rfl,rfl,h0,h1,h2,h3,h4,h5,h6,h9,h12,h13,h18,h19,gi16,(fun _=>⟨e7,e8,e14,e15,e16⟩),gi9,gi8,gi10,gi11,(row_other rM _ (Zn rM gWr)),(row_other rB _ (Nat.ne_of_gt (Nat.lt_of_lt_of_le HLB.out hlg))),(row_other rS _ (Zn rS gWr)),(row_other rD _ (Zn rD gWr)),(below_row gB hlg _),(gV.row gWr _),(gQ.row gWr _),(gD.row gWr _),(fun e=>by rw [e16] at e; cases e),(fun e=>by obtain ⟨y0,h1,h2⟩:=gS e; exact ⟨y0,h1,(h2.row gWr _)⟩),(fun e=>by obtain ⟨y0,y1,y2,y3,y4,y5,y6,y7,y8,h1,h2,h3⟩:=gP e; exact ⟨y0,y1,y2,y3,y4,y5,y6,y7,y8,h1,(h2.row gWr _),(h3.row gWr _)⟩),(fun e=>by obtain ⟨y0,y1,h1,h2⟩:=gX e; exact ⟨y0,y1,h1,(h2.row gWr _)⟩),(fun e=>by obtain ⟨y0,y1,y2,y3,y4,y5,y6,h1,h2⟩:=gY e; exact ⟨y0,y1,y2,y3,y4,y5,y6,h1,(h2.row gWr _)⟩),(fun e=>by obtain ⟨y0,h1,h2,h3⟩:=gN e; exact ⟨y0,h1,h2,fun e2=>row_other (h3 e2) (bk (.slice ta tn tc) (.slice va vn vc) (k2:Nat) 0 (fr 0 k2 0) (fr 0 k2 1) (fr 0 k2 2) (fr 0 k2 3)) (blocks_ne (h3 e2) gWr (by decide))⟩),(fun e=>by obtain ⟨y0,h1,h2,h3⟩:=gN2 e; exact ⟨y0,h1,h2,h3.row gWr (bk (.slice ta tn tc) (.slice va vn vc) (k2:Nat) 0 (fr 0 k2 0) (fr 0 k2 1) (fr 0 k2 2) (fr 0 k2 3))⟩),(fun _=>⟨gx,rfl,hlg,fun e=>by cases e⟩),(fun _=>⟨gx,rfl,hlg,⟨_,_,_,row_self gWr _,hx.row gWr _⟩⟩)⟩
     · obtain ⟨rfl,e12,e17⟩:b18=false∧b12=true∧b17=true:=by revert hp; cases b18 <;> cases b12 <;> cases b17 <;> simp
       clear hp
       obtain rfl:=((Ze HI.out).1) e12
       refine Zv 15 fun K' hK'=>?_
       go_simp
       exact hK'.out _ _ ⟨.mk ..,rfl,rfl,Nxt (Nxt (Nx4 (Nx4 (Upd (fun _=>rfl))))) HI.out⟩
     · obtain ⟨rfl,e13,e18⟩:b19=false∧b13=true∧b18=true:=by revert hp; cases b19 <;> cases b13 <;> cases b18 <;> simp
       clear hp
       obtain rfl:=((Ze HI.out).2.1) e13
       refine Zv 16 fun K' hK'=>?_
       go_simp
       exact hK'.out _ _ ⟨.mk ..,rfl,rfl,Nxt (Nxt (Nxt (Nx4 (Nx4 (Upd (fun _=>rfl)))))) HI.out⟩
    case hdone =>
     rintro ⟨b0,b1,b2,b3,b4,b5,b6,b7,b8,b9,b10,b11,b12,b13,b14,b15,b16,b17,b18,b19,s63,s64,s65,s66,s67,s68,s69,s70,s71,s62,s72,s73,s74,s75,s13,s14,s15,s16⟩ W hI hall
     dsimp only at hI hall ⊢
     have HI:=Zh hI
     clear hI
     obtain rfl:b0=true:=hall 0 (by decide)
     obtain rfl:b1=true:=hall 1 (by decide)
     obtain rfl:b2=true:=hall 2 (by decide)
     obtain rfl:b3=true:=hall 3 (by decide)
     obtain rfl:b4=true:=hall 4 (by decide)
     obtain rfl:b5=true:=hall 5 (by decide)
     obtain rfl:b6=true:=hall 6 (by decide)
     obtain rfl:b7=true:=hall 7 (by decide)
     obtain rfl:b8=true:=hall 8 (by decide)
     obtain rfl:b9=true:=hall 9 (by decide)
     obtain rfl:b10=true:=hall 10 (by decide)
     obtain rfl:b11=true:=hall 11 (by decide)
     obtain rfl:b12=true:=hall 12 (by decide)
     obtain rfl:b13=true:=hall 13 (by decide)
     obtain rfl:b14=true:=hall 14 (by decide)
     obtain rfl:b15=true:=hall 15 (by decide)
     obtain rfl:b16=true:=hall 16 (by decide)
     obtain rfl:b17=true:=hall 17 (by decide)
     obtain rfl:b18=true:=hall 18 (by decide)
     obtain rfl:b19=true:=hall 19 (by decide)
     obtain rfl:=((Ze HI.out).2.2.1) rfl
     obtain rfl:=((Ze HI.out).2.2.2.1) rfl
     have gN2:=(Zg (Zg HI.out)).1
     have gW2:=(Zg (Zg HI.out)).2.2
     have rM:=(Zg HI.out).2.2.1
     have rB:=(Zg HI.out).2.2.2.1
     have rS:=(Zd (Zg HI.out)).1
     have rD:=(Zd (Zg HI.out)).2.1
     have gB:=(Zd (Zg HI.out)).2.2.1
     have gD:=(Ze (Zg HI.out)).2.1
     clear HI hall
     obtain ⟨gn,rfl,hln,na,nc,hn,hno⟩:=gN2 rfl
     obtain ⟨gx,rfl,hlx,F3,C3,D3,hxk,hxo⟩:=gW2 rfl
     obtain ⟨ta,tn,tc,va,vn,vc,rfl,rfl,hx⟩:=hxo.shape
     clear hx RM RB RS RD BW AV QA DD
     have RM:=Zh rM
     have RB:=Zh rB
     have RS:=Zh rS
     have RD:=Zh rD
     have BW:=Zh gB
     have DD:=Zh gD
     have RN:=Zh hn
     have AN:=Zh hno
     have RX:=Zh hxk
     have QX:=Zh hxo
     have LRN:=Zh hln
     have LRX:=Zh hlx
     clear gN2 gW2 rM rB rS rD gB gD hn hno hxk hxo hln hlx
     obtain ⟨w7,hw7⟩:∃ x,x=W:=⟨_,rfl⟩
     rw [←hw7] at RM RB RS RD BW DD RN AN RX QX ⊢
     clear hw7
     go_upto_region 11 with fail
     go_cut [97] from 56 to 99 (fun c wx=>c=.bool false∧wx=w7)
     case first =>
      by_cases h4:j < 4
      · have f0:(fe j == 0)=true:=by unfold fe; rw [if_pos h4]; rfl
        have f1:(fe j != 0)=false:=by unfold fe; rw [if_pos h4]; rfl
        have d0:decide (((j:Nat):Int) < 4)=true:=decide_eq_true (by omega)
        have d1:decide (j < 4)=true:=decide_eq_true (by omega)
        have f2:(fs j != ((j:Nat):Int))=false:=by unfold fs; rw [if_pos h4]; simp
        clear h4
        go_wp2
        go_meet
        exact ⟨rfl,rfl⟩
      · have f0:(fe j == 0)=false:=by unfold fe; rw [if_neg h4]; rfl
        have f1:(fe j != 0)=true:=by unfold fe; rw [if_neg h4]; rfl
        have d0:decide (((j:Nat):Int) < 4)=false:=decide_eq_false (by omega)
        have d1:decide (j < 4)=false:=decide_eq_false (by omega)
        have f2:(fe j != 4)=false:=by unfold fe; rw [if_neg h4]; rfl
        clear h4
        go_wp2
        go_meet
        exact ⟨rfl,rfl⟩
     case rest =>
      obtain ⟨rfl,hwc⟩:=hcut
      subst hwc
      obtain ⟨w8,hw8⟩:∃ x,x=wc:=⟨_,rfl⟩
      rw [←hw8] at RM RB RS RD BW DD RN AN RX QX ⊢
      clear hw8
      go_wp2_with fail
      refine wp_region_rec (X:=BlkFoB) (by kernel_rfl) (by kernel_rfl) (fun x=>#[x.b0,x.b1,x.b2,x.b3]) (fun x=>{ tmps:=List.toArray ((.slice (some ⟨kx,ox,none⟩) n1 c1)::(.int .i64 z)::undef::undef::u4::(.pointer (some ⟨w1.heap.size,0,none⟩))::(.pointer (some ⟨w1.heap.size+1,0,none⟩))::(.int .i64 0)::(.pointer (some ⟨w3.heap.size,0,none⟩))::(.int .i64 0)::(.pointer (some ⟨w4.heap.size,0,none⟩))::(.int .i64 0)::(.int .i64 (j:Nat))::(.pointer (some ⟨gn,0,none⟩))::(.pointer (some ⟨gx,0,none⟩))::(.int .i64 (fs j))::(.int .i64 (fe j))::undef::undef::undef::undef::undef::undef::undef::undef::undef::undef::undef::undef::undef::undef::undef::(.tuple #[.agg #[.slice aa 1700 ca],.agg (bk (.slice xa0 xn0 xc0) (.slice ya0 yn0 yc0) 0 0 zReq zReq zReq zReq),.int .i64 0])::(.slice (some ⟨w.heap.size,0,none⟩) 1700 1700)::(.agg #[.slice (some ⟨w.heap.size,0,none⟩) 1700 1700])::(.tuple #[.agg #[.slice aa 1700 ca],.agg (bk (.slice xa0 xn0 xc0) (.slice ya0 yn0 yc0) 0 0 zReq zReq zReq zReq),.int .i64 0])::(.agg #[.slice aa 1700 ca])::(.agg (bk (.slice xa0 xn0 xc0) (.slice ya0 yn0 yc0) 0 0 zReq zReq zReq zReq))::(.int .i64 0)::(.tuple #[.agg #[.slice sa0 sn0 sc0,.slice none 0 0],.int .i64 0])::(.tuple #[.agg #[.slice sa0 sn0 sc0,.slice none 0 0],.int .i64 0])::(.agg #[.slice sa0 sn0 sc0,.slice none 0 0])::(.int .i64 0)::(.agg #[.int .i64 0,.int .i64 16,.int .u16 0,.int .u16 0])::(.slice (some ⟨kx,ox,none⟩) n1 c1)::(.int .i64 (n1:Nat))::(.bool false)::(.bool false)::(.int .i64 0)::(.bool false)::(.bool false)::undef::undef::undef::undef::undef::u56::u57::u58::u59::u60::u61::u62::u63::u64::u65::u66::u67::u68::u69::u70::u71::u72::u73::u74::u75::u76::u77::u78::u79::u80::u81::u82::u83::u84::u85::u86::u87::u88::u89::u90::u91::u92::u93::u94::u95::u96::(.bool false)::x.s98::x.s99::undef::undef::undef::undef::undef::undef::undef::undef::undef::undef::undef::undef::undef::undef::undef::undef::undef::undef::undef::undef::undef::undef::undef::undef::undef::undef::undef::undef::undef::undef::undef::undef::undef::undef::undef::undef::undef::undef::undef::undef::undef::undef::undef::undef::undef::undef::undef::undef::undef::undef::undef::undef::undef::undef::undef::undef::undef::undef::undef::undef::undef::undef::undef::undef::undef::undef::undef::undef::undef::undef::undef::undef::undef::undef::undef::undef::undef::undef::[]),defers:=[] }) (fun x W=>(x.b0→x.s98=.agg #[.slice na 1700 nc])∧(x.b1→x.s99=.agg (bk (.slice ta tn tc) (.slice va vn vc) (k2:Nat) 0 (fr 0 k2 0) (fr 0 k2 1) (fr 0 k2 2) (fr 0 k2 3)))∧(x.b3→x.b2)∧(x.b2=false→W.heap[w1.heap.size]? = some (.cells #[.slice ma 1700 mc] 24 (0,0)))∧(x.b2→W.heap[w1.heap.size]? = some (.cells #[.slice na 1700 nc] 24 (0,0)))∧(x.b3=false→W.heap[w1.heap.size+1]? = some (.cells (bk (.slice xa xn xc) (.slice ya yn yc) (k:Nat) 0 (fr 0 k 0) (fr 0 k 1) (fr 0 k 2) (fr 0 k 3)) 34 (0,0)))∧(x.b3→W.heap[w1.heap.size+1]? = some (.cells (bk (.slice ta tn tc) (.slice va vn vc) (k2:Nat) 0 (fr 0 k2 0) (fr 0 k2 1) (fr 0 k2 2) (fr 0 k2 3)) 34 (0,0)))∧(W.heap[w4.heap.size]? = some (.cells #[.int .i64 0,.int .i64 16,.int .u16 0,.int .u16 0] 45 (0,0)))∧(W.heap[w3.heap.size]? = some (.cells #[.slice sa sn sc,.slice ua un uc] 41 (0,0)))∧(W.heap[gn]? = some (.cells #[.slice na 1700 nc] 24 (0,0)))∧(W.heap[gx]? = some (.cells (bk (.slice ta tn tc) (.slice va vn vc) (k2:Nat) 0 (fr 0 k2 0) (fr 0 k2 1) (fr 0 k2 2) (fr 0 k2 3)) 34 (0,0)))∧(Below w.heap.size w W)∧(OwnB 0 W (.slice na 1700 nc) G1)∧(IsQ 0 W (.slice ta tn tc) (.slice va vn vc) (fq k2) D3)∧(DK W (.slice sa sn sc) (.slice ua un uc) S [])) ⟨false,false,false,false,u98,u99⟩ rfl rfl ⟨Zf,Zf,Zf,(fun _=>RM.out),Zf,(fun _=>RB.out),Zf,RS.out,RD.out,RN.out,RX.out,(BO.out.trans (BW.out.mono BO.out.size)).drew,AN.out.drew,QX.out.drew,DD.out.drew⟩ (fun _=>rfl) ?hstep ?hdone
      case hstep =>
       rintro ⟨b0,b1,b2,b3,s98,s99⟩ W hI i hi
       dsimp only at hI hi ⊢
       have HI:=Zh hI
       clear hI
       rw [Region.ready,List.mem_filter,List.mem_range] at hi
       obtain ⟨hlt,hp⟩:=hi
       have hi7:i=0∨i=1∨i=2∨i=3:=by simp at hlt; omega
       clear hlt
       rcases hi7 with rfl|rfl|rfl|rfl
       all_goals simp [Region.binds] at hp
       · obtain rfl:b0=false:=by revert hp; cases b0 <;> simp
         clear hp; refine Zv 98 fun K' hK'=>?_
         have rN:=(Ze HI.out).2.1
         obtain ⟨hc0,_⟩:=at_cell rN 0 _ rfl
         go_simp
         exact hK'.out _ _ ⟨.mk ..,rfl,rfl,(Upd (fun _=>rfl)) HI.out⟩
       · obtain rfl:b1=false:=by revert hp; cases b1 <;> simp
         clear hp; refine Zv 99 fun K' hK'=>?_
         have rX:=(Ze HI.out).2.2.1
         refine step_blk_load rfl _ rfl _ rfl _ rX rfl ?_
         exact hK'.out _ _ ⟨.mk ..,rfl,rfl,Nxt (Upd (fun _=>rfl)) HI.out⟩
       · obtain ⟨rfl,e0⟩:b2=false∧b0=true:=by revert hp; cases b2 <;> cases b0 <;> simp
         clear hp
         obtain rfl:=(HI.out.1) e0
         refine inv_op (o:=⟨none,_,_,_,_,_⟩) rfl (fun K' hK'=>?_)
         have gi3:=HI.out.2.2.1
         have rM0:=HI.out.2.2.2.1
         obtain rfl:b3=false:=Zz fun e=>(gi3 e)
         obtain ⟨hc0,hz0⟩:=at_cell (rM0 rfl) 0 _ rfl
         have hlt:=(Array.getElem?_eq_some_iff.1 (rM0 rfl)).1
         go_simp
         obtain ⟨h0,h1,gi3,rM0,rM1,rB0,rB1,rS,rD,rN,rX,gB,gV,gQ,gD⟩:=HI.out
         exact hK'.out _ _ ⟨.mk ..,rfl,rfl,h0,h1,Zf,Zf,(fun _=>(Zr (rM0 rfl))),(fun e=>(Zp1 (rB0 e) (Zn (rB0 e) (rM0 rfl)))),Zf,(Zp1 rS (Zn rS (rM0 rfl))),(Zp1 rD (Zn rD (rM0 rfl))),(Zp1 rN (Nat.ne_of_lt (Nat.lt_of_lt_of_le HLM.out LRN.out))),(Zp1 rX (Zn rX (rM0 rfl))),(Zu1 gB HLM0.out),(gV.stay (rM0 rfl) (by decide) _ _),(gQ.stay (rM0 rfl) (by decide) (by decide) _ _),(gD.stay (rM0 rfl) (by decide) _ _)⟩
       · obtain ⟨rfl,e1,e2⟩:b3=false∧b1=true∧b2=true:=by revert hp; cases b3 <;> cases b1 <;> cases b2 <;> simp
         clear hp
         obtain rfl:=(HI.out.2.1) e1
         refine inv_op (o:=⟨none,_,_,_,_,_⟩) rfl (fun K' hK'=>?_)
         have rB0:=(Zd HI.out).2.1
         refine step_blk_store rfl _ _ rfl _ _ rfl rfl _ (rB0 rfl) rfl rfl (bk_one rfl rfl) ?_
         obtain ⟨h0,h1,gi3,rM0,rM1,rB0,rB1,rS,rD,rN,rX,gB,gV,gQ,gD⟩:=HI.out
         exact hK'.out _ _ ⟨.mk ..,rfl,rfl,h0,h1,(fun _=>e2),(fun e=>(row_other (rM0 e) _ (Zn (rM0 e) (rB0 rfl)))),(fun e=>(row_other (rM1 e) _ (Zn (rM1 e) (rB0 rfl)))),Zf,(fun _=>row_self (rB0 rfl) (bk (.slice ta tn tc) (.slice va vn vc) (k2:Nat) 0 (fr 0 k2 0) (fr 0 k2 1) (fr 0 k2 2) (fr 0 k2 3))),(row_other rS _ (Zn rS (rB0 rfl))),(row_other rD _ (Zn rD (rB0 rfl))),(row_other rN _ (Zn rN (rB0 rfl))),(row_other rX _ (Nat.ne_of_lt (Nat.lt_of_lt_of_le HLB.out LRX.out))),(below_row gB HLB0.out _),(gV.row (rB0 rfl) _),(gQ.row (rB0 rfl) _),(gD.row (rB0 rfl) _)⟩
      case hdone =>
       rintro ⟨b0,b1,b2,b3,s98,s99⟩ W hI hall
       dsimp only at hI hall ⊢
       have HI:=Zh hI
       clear hI
       obtain rfl:b0=true:=hall 0 (by decide)
       obtain rfl:b1=true:=hall 1 (by decide)
       obtain rfl:b2=true:=hall 2 (by decide)
       obtain rfl:b3=true:=hall 3 (by decide)
       have rM1:=(Zd HI.out).1
       have rB1:=(Zd HI.out).2.2.1
       have rS:=(Zd HI.out).2.2.2.1
       have rD:=(Ze HI.out).1
       have gB:=(Ze HI.out).2.2.2.1
       have gV:=(Zd (Ze HI.out)).1
       have gQ:=(Zd (Ze HI.out)).2.1
       have gD:=(Zd (Ze HI.out)).2.2
       clear HI hall
       have X1:=Zh (rM1 rfl)
       have X2:=Zh (rB1 rfl)
       have X3:=Zh rS
       have X4:=Zh rD
       have X5:=Zh gB
       have X6:=Zh gV
       have X7:=Zh gQ
       have X8:=Zh gD
       clear rM1 rB1 rS rD gB gV gQ gD
       have hn8:n1≤8:=HC.out
       have hlt:=HLT.out
       go_wp2
       go_roundw
       case rel=>exact ⟨j+1,G1,by omega,by go_num,by rw [HK2.out]; exact HFM1.out,⟨_,_,X1.out,X6.out⟩,by rw [HK2.out]; exact ⟨_,_,_,X2.out,X7.out⟩,X3.out,⟨_,_,_,_,_,_,X4.out,X8.out⟩,X5.out⟩
       case measure=>simp [intOf]; omega
  · obtain rfl:n1=j:=by have:=HJ.out; omega
    have BW:=Zh BO.out
    obtain ⟨K,hK⟩:∃ K,K=k:=⟨_,rfl⟩
    subst hK
    have HK4:=Zh (show K≤4 by have:=HKJ.out; omega)
    have HHM:=Zh (HG.out.done (y:=y))
    clear BO hlt
    go_wp2
    go_loopw [11,17] (fun n i wr=>∃ (j:Nat) (H:List UInt8) (C:List (Int × List UInt8)),j≤K∧n=.int .i64 (j:Nat)∧i=.int .i64 (j:Nat)∧HM ds H K j y∧(C.length≤j∧chkB S C=true)∧MemAt wr w1.heap.size H∧BlkAt wr (w1.heap.size+1) (fq K) (K:Nat) 0 (fr 0 K 0) (fr 0 K 1) (fr 0 K 2) (fr 0 K 3)∧wr.heap[w4.heap.size]? = some (.cells #[.int .i64 0,.int .i64 16,.int .u16 (j:Nat),.int .u16 (j:Nat)] 45 (0,0))∧DiskAt wr w3.heap.size S C∧Below w.heap.size w wr) (fun _ i _=>10 - (intOf i).toNat)
    case atStart=>exact ⟨0,G,[],Nat.zero_le _,rfl,rfl,HHM.out,⟨Nat.le_refl _,HK0.out⟩,⟨_,_,RM.out,AV.out⟩,⟨_,_,_,RB.out,QA.out⟩,RS.out,⟨_,_,_,_,_,_,RD.out,DD.out⟩,BW.out⟩
    clear AV QA DD RM RB RD RS BW HG HHM
    case round =>
     obtain ⟨j,H,C,hj,rfl,rfl,hH,⟨hC,hk⟩,⟨ma,mc,hm,hmo⟩,⟨F,C0,D2,hb,hbo⟩,hs,⟨ea,en,ec,ia,im,ic,hd,hdo⟩,hw⟩:=hrel
     obtain ⟨ta,tn,tc,va,vn,vc,rfl,rfl,hx⟩:=hbo.shape
     have RM:=Zh hm
     have AV:=Zh hmo
     have RB:=Zh hb
     have QA:=Zh hbo
     have RS:=Zh hs
     have RD:=Zh hd
     have DD:=Zh hdo
     have BO:=Zh hw
     have HH:=Zh hH
     have HCL:=Zh hC
     have HK:=Zh hk
     have HJ2:=Zh hj
     clear hx hm hmo hb hbo hs hd hdo hw hH hC hk
     have hj10:((j:Nat):Int) < 10:=by have:=HK4.out; omega
     clear hj
     by_cases hlt:j < K
     · have BW:=Zh (Below.refl wr.heap.size wr)
       have HLT:=Zh hlt
       have HLM:=Zh (Array.getElem?_eq_some_iff.1 RM.out).1
       have HLS:=Zh (Array.getElem?_eq_some_iff.1 RS.out).1
       have HLD:=Zh (Array.getElem?_eq_some_iff.1 RD.out).1
       obtain ⟨H2,hH2⟩:∃ x,smem H j y=x:=⟨_,rfl⟩
       have hhm:=HH.out.step hlt HK4.out HY.out
       rw [hH2] at hhm
       have HHN:=Zh hhm
       have HH2:=Zh hH2
       clear hhm hH2 hlt
       obtain ⟨m0,mz⟩:=one_cell RM.out
       obtain ⟨⟨u0,u1,u2,u3⟩,x0,x1,x2,x3⟩:=cells_four RS.out
       obtain ⟨c0,c2,z1,z2⟩:=cells_two RD.out
       go_wp2_with fail
       refine (serve_four _ _ _ H S C ds K j y z _ AV.out DD.out HK.out HSL.out HCL.out HH.out HLT.out HK4.out (HDL.out j) HYW.out HY.out).mono ?_
       rintro e w6 ⟨W2,ra,rc,sa9,sn9,sc9,qa,qn,qc,rfl,hcc,hm,hd,hb⟩
       rw [HH2.out] at hm
       have HCC:=Zh hcc
       clear hcc
       obtain ⟨j2,hj2⟩:∃ x,j+1=x:=⟨_,rfl⟩
       rw [hj2]
       have HJ5:=Zh hj2
       clear hj2
       replace RM:=Zk RM hb
       replace RB:=Zk RB hb
       replace RS:=Zk RS hb
       replace RD:=Zk RD hb
       replace AV:=Zh (AV.out.below hb)
       replace QA:=Zh (QA.out.below hb)
       replace DD:=Zh (DD.out.below hb)
       replace BW:=Zb BW hb
       have AN:=Zh hm
       have DE:=Zh hd
       clear hm hd hb
       clear m0 mz u0 u1 u2 u3 x0 x1 x2 x3 c0 c2 z1 z2 hj10
       have LRN:=Zh (show wr.heap.size≤w6.heap.size from BW.out.size)
       have LRT:=Zh (show wr.heap.size≤w6.heap.size+1 from Nat.le_succ_of_le BW.out.size)
       have LRE:=Zh (show wr.heap.size≤w6.heap.size+1+1 from Nat.le_succ_of_le (Nat.le_succ_of_le BW.out.size))
       obtain ⟨t0,t1,t2,hb⟩:=three_boxes w6 #[.slice ra 1700 rc] #[.int .i64 0,.int .i64 16,.int .u16 (j2:Nat),.int .u16 (j2:Nat)] #[.slice sa9 sn9 sc9,.slice qa qn qc] 24 45 41
       replace RM:=Zk RM hb
       replace RB:=Zk RB hb
       replace RS:=Zk RS hb
       replace RD:=Zk RD hb
       replace AV:=Zh (AV.out.below hb)
       replace QA:=Zh (QA.out.below hb)
       replace DD:=Zh (DD.out.below hb)
       replace BW:=Zb BW hb
       replace AN:=Zh (AN.out.below hb)
       replace DE:=Zh (DE.out.below hb)
       have RN:=Zh t0
       have RT:=Zh t1
       have RE:=Zh (show (((w6.alloc (.cells #[.slice ra 1700 rc] 24)).alloc (.cells #[.int .i64 0,.int .i64 16,.int .u16 (j2:Nat),.int .u16 (j2:Nat)] 45)).alloc (.cells #[.slice sa9 sn9 sc9,.slice qa qn qc] 41)).heap[w6.heap.size+1+1]? = some (.cells #[.slice sa9 sn9 sc9,.slice qa qn qc] 41 (0,0)) from t2)
       clear t0 t1 t2 hb
       go_upto_region 18 with fail
       obtain ⟨w7,hw7⟩:∃ x,x=(((w6.alloc (.cells #[.slice ra 1700 rc] 24)).alloc (.cells #[.int .i64 0,.int .i64 16,.int .u16 (j2:Nat),.int .u16 (j2:Nat)] 45)).alloc (.cells #[.slice sa9 sn9 sc9,.slice qa qn qc] 41)):=⟨_,rfl⟩
       rw [←hw7] at RM RB RS RD AV QA DD BW AN DE RN RT RE ⊢
       clear hw7
       go_wp2_with fail
       refine wp_region_rec (X:=BlkFoC) (by kernel_rfl) (by kernel_rfl) (fun x=>#[x.b0,x.b1,x.b2,x.b3,x.b4,x.b5,x.b6,x.b7,x.b8]) (fun x=>{ tmps:=List.toArray ((.slice a1 n1 c1)::(.int .i64 z)::undef::undef::u4::(.pointer (some ⟨w1.heap.size,0,none⟩))::(.pointer (some ⟨w1.heap.size+1,0,none⟩))::(.int .i64 0)::(.pointer (some ⟨w3.heap.size,0,none⟩))::(.int .i64 0)::(.pointer (some ⟨w4.heap.size,0,none⟩))::x.s11::(.int .i64 (n1:Nat))::u13::u14::u15::u16::(.int .i64 (j:Nat))::(.pointer (some ⟨w6.heap.size,0,none⟩))::(.pointer (some ⟨w6.heap.size+1,0,none⟩))::(.pointer (some ⟨w6.heap.size+1+1,0,none⟩))::(.int .i64 0)::undef::undef::undef::undef::undef::undef::undef::undef::undef::undef::(.tuple #[.agg #[.slice aa 1700 ca],.agg (bk (.slice xa0 xn0 xc0) (.slice ya0 yn0 yc0) 0 0 zReq zReq zReq zReq),.int .i64 0])::(.slice (some ⟨w.heap.size,0,none⟩) 1700 1700)::(.agg #[.slice (some ⟨w.heap.size,0,none⟩) 1700 1700])::(.tuple #[.agg #[.slice aa 1700 ca],.agg (bk (.slice xa0 xn0 xc0) (.slice ya0 yn0 yc0) 0 0 zReq zReq zReq zReq),.int .i64 0])::(.agg #[.slice aa 1700 ca])::(.agg (bk (.slice xa0 xn0 xc0) (.slice ya0 yn0 yc0) 0 0 zReq zReq zReq zReq))::(.int .i64 0)::(.tuple #[.agg #[.slice sa0 sn0 sc0,.slice none 0 0],.int .i64 0])::(.tuple #[.agg #[.slice sa0 sn0 sc0,.slice none 0 0],.int .i64 0])::(.agg #[.slice sa0 sn0 sc0,.slice none 0 0])::(.int .i64 0)::(.agg #[.int .i64 0,.int .i64 16,.int .u16 0,.int .u16 0])::(.slice a1 n1 c1)::(.int .i64 (n1:Nat))::(.bool false)::(.bool false)::(.int .i64 0)::(.bool false)::(.bool false)::undef::undef::undef::undef::undef::(.int .i64 (n1:Nat))::(.slice a1 n1 c1)::(.int .i64 (n1:Nat))::(.bool false)::u60::u61::u62::u63::u64::u65::u66::u67::u68::u69::u70::u71::u72::u73::u74::u75::u76::u77::u78::u79::u80::u81::u82::u83::u84::u85::u86::u87::u88::u89::u90::u91::u92::u93::u94::u95::u96::u97::u98::u99::(.int .i64 (j:Nat))::(.bool true)::u102::u103::(.tuple #[.agg #[.slice ra 1700 rc],.agg #[.int .i64 0,.int .i64 16,.int .u16 (j2:Nat),.int .u16 (j2:Nat)],.agg #[.slice sa9 sn9 sc9,.slice qa qn qc],.int .i64 0])::(.agg #[.slice ma 1700 mc])::(.agg #[.int .i64 0,.int .i64 16,.int .u16 (j:Nat),.int .u16 (j:Nat)])::(.agg #[.slice ea en ec,.slice ia im ic])::(.int .i64 z)::(.tuple #[.agg #[.slice ra 1700 rc],.agg #[.int .i64 0,.int .i64 16,.int .u16 (j2:Nat),.int .u16 (j2:Nat)],.agg #[.slice sa9 sn9 sc9,.slice qa qn qc],.int .i64 0])::(.agg #[.slice ra 1700 rc])::(.agg #[.int .i64 0,.int .i64 16,.int .u16 (j2:Nat),.int .u16 (j2:Nat)])::(.agg #[.slice sa9 sn9 sc9,.slice qa qn qc])::(.int .i64 0)::(.int .i64 0)::(.bool false)::x.s116::x.s117::x.s118::x.s119::x.s120::undef::undef::undef::undef::undef::undef::undef::undef::undef::undef::undef::undef::undef::undef::undef::undef::undef::undef::undef::undef::undef::undef::undef::undef::undef::undef::undef::undef::undef::undef::undef::undef::undef::undef::undef::undef::undef::undef::undef::undef::undef::undef::undef::undef::undef::undef::undef::undef::undef::undef::undef::undef::undef::undef::undef::undef::undef::[]),defers:=[] }) (fun x W=>(x.b0→x.s116=.agg #[.slice ra 1700 rc])∧(x.b1→x.s117=.agg #[.int .i64 0,.int .i64 16,.int .u16 (j2:Nat),.int .u16 (j2:Nat)])∧(x.b2→x.s118=.agg #[.slice sa9 sn9 sc9,.slice qa qn qc])∧(x.b3→x.s119=.int .i64 (j:Nat))∧(x.b4→x.s120=.int .i64 (j2:Nat))∧(x.b8→x.s11=.int .i64 (j2:Nat))∧(x.b6→x.b5)∧(x.b7→x.b5∧x.b6)∧(x.b8→x.b3)∧(x.b5=false→W.heap[w1.heap.size]? = some (.cells #[.slice ma 1700 mc] 24 (0,0)))∧(x.b5→W.heap[w1.heap.size]? = some (.cells #[.slice ra 1700 rc] 24 (0,0)))∧(x.b6=false→W.heap[w4.heap.size]? = some (.cells #[.int .i64 0,.int .i64 16,.int .u16 (j:Nat),.int .u16 (j:Nat)] 45 (0,0)))∧(x.b6→W.heap[w4.heap.size]? = some (.cells #[.int .i64 0,.int .i64 16,.int .u16 (j2:Nat),.int .u16 (j2:Nat)] 45 (0,0)))∧(x.b7=false→W.heap[w3.heap.size]? = some (.cells #[.slice ea en ec,.slice ia im ic] 41 (0,0)))∧(x.b7→W.heap[w3.heap.size]? = some (.cells #[.slice sa9 sn9 sc9,.slice qa qn qc] 41 (0,0)))∧(W.heap[w1.heap.size+1]? = some (.cells (bk (.slice ta tn tc) (.slice va vn vc) (K:Nat) 0 (fr 0 K 0) (fr 0 K 1) (fr 0 K 2) (fr 0 K 3)) 34 (0,0)))∧(W.heap[w6.heap.size]? = some (.cells #[.slice ra 1700 rc] 24 (0,0)))∧(W.heap[w6.heap.size+1]? = some (.cells #[.int .i64 0,.int .i64 16,.int .u16 (j2:Nat),.int .u16 (j2:Nat)] 45 (0,0)))∧(W.heap[w6.heap.size+1+1]? = some (.cells #[.slice sa9 sn9 sc9,.slice qa qn qc] 41 (0,0)))∧(Below w.heap.size w W)∧(OwnB 0 W (.slice ra 1700 rc) H2)∧(IsQ 0 W (.slice ta tn tc) (.slice va vn vc) (fq K) D2)∧(DK W (.slice sa9 sn9 sc9) (.slice qa qn qc) S W2)∧(x.b8=false→x.s11=.int .i64 (j:Nat))) ⟨false,false,false,false,false,false,false,false,false,u116,u117,u118,u119,u120,.int .i64 (j:Nat)⟩ rfl rfl ⟨Zf,Zf,Zf,Zf,Zf,Zf,Zf,Zf,Zf,(fun _=>RM.out),Zf,(fun _=>RS.out),Zf,(fun _=>RD.out),Zf,RB.out,RN.out,RT.out,RE.out,(BO.out.trans (BW.out.mono BO.out.size)).drew,AN.out.drew,QA.out.drew,DE.out.drew,(fun _=>rfl)⟩ (fun _=>rfl) ?hstep ?hdone
       case hstep =>
        rintro ⟨b0,b1,b2,b3,b4,b5,b6,b7,b8,s116,s117,s118,s119,s120,s11⟩ W hI i hi
        dsimp only at hI hi ⊢
        have HI:=Zh hI
        clear hI
        rw [Region.ready,List.mem_filter,List.mem_range] at hi
        obtain ⟨hlt,hp⟩:=hi
        have hi7:i=0∨i=1∨i=2∨i=3∨i=4∨i=5∨i=6∨i=7∨i=8:=by simp at hlt; omega
        clear hlt
        rcases hi7 with rfl|rfl|rfl|rfl|rfl|rfl|rfl|rfl|rfl
        all_goals simp [Region.binds] at hp
        · obtain rfl:b0=false:=by revert hp; cases b0 <;> simp
          clear hp; refine Zv 116 fun K' hK'=>?_
          have rN:=(Zg HI.out).1
          obtain ⟨hc0,_⟩:=at_cell rN 0 _ rfl
          go_simp
          exact hK'.out _ _ ⟨.mk ..,rfl,rfl,(Upd (fun _=>rfl)) HI.out⟩
        · obtain rfl:b1=false:=by revert hp; cases b1 <;> simp
          clear hp; refine Zv 117 fun K' hK'=>?_
          have rT:=(Zg HI.out).2.1
          obtain ⟨hc0,_⟩:=at_cell rT 0 _ rfl
          obtain ⟨hc1,_⟩:=at_cell rT 1 _ rfl
          obtain ⟨hc2,_⟩:=at_cell rT 2 _ rfl
          obtain ⟨hc3,_⟩:=at_cell rT 3 _ rfl
          go_simp
          exact hK'.out _ _ ⟨.mk ..,rfl,rfl,Nxt (Upd (fun _=>rfl)) HI.out⟩
        · obtain rfl:b2=false:=by revert hp; cases b2 <;> simp
          clear hp; refine Zv 118 fun K' hK'=>?_
          have rE:=(Zg HI.out).2.2.1
          obtain ⟨hc0,_⟩:=at_cell rE 0 _ rfl
          obtain ⟨hc1,_⟩:=at_cell rE 1 _ rfl
          go_simp
          exact hK'.out _ _ ⟨.mk ..,rfl,rfl,Nxt (Nxt (Upd (fun _=>rfl))) HI.out⟩
        · obtain rfl:b3=false:=by revert hp; cases b3 <;> simp
          clear hp; refine Zv 119 fun K' hK'=>?_
          have gi8:=(Ze HI.out).1
          have gL:=(Zd (Zg HI.out)).2.2.2
          obtain rfl:b8=false:=Zz fun e=>(gi8 e)
          obtain rfl:=gL rfl
          go_simp
          exact hK'.out _ _ ⟨.mk ..,rfl,rfl,Nx4 (Nx4 (Upd Zf)) (Nxt (Nxt (Nxt (Upd (fun _=>rfl)))) HI.out)⟩
        · obtain ⟨rfl,e3⟩:b4=false∧b3=true:=by revert hp; cases b4 <;> cases b3 <;> simp
          clear hp
          obtain rfl:=(HI.out.2.2.2.1) e3
          refine Zv 120 fun K' hK'=>?_
          have hww:IntKind.i64.wrap (((j:Nat):Int)+1)=(j2:Nat):=by rw [IntWalk.i64_in _ (by have:=HLT.out; have:=HK4.out; omega)]; have:=HJ5.out; omega
          have hw2:RowKit.wrap64 (((j:Nat):Int)+1)=(j2:Nat):=by rw [IntWalk.wrap64_in _ (by have:=HLT.out; have:=HK4.out; omega)]; have:=HJ5.out; omega
          go_simp
          exact hK'.out _ _ ⟨.mk ..,rfl,rfl,Nx4 (Upd (fun _=>rfl)) HI.out⟩
        · obtain ⟨rfl,e0⟩:b5=false∧b0=true:=by revert hp; cases b5 <;> cases b0 <;> simp
          clear hp
          obtain rfl:=(HI.out.1) e0
          refine inv_op (o:=⟨none,_,_,_,_,_⟩) rfl (fun K' hK'=>?_)
          have gi6:=(Zd HI.out).2.2.1
          have gi7:=(Zd HI.out).2.2.2.1
          have rM0:=(Ze HI.out).2.1
          obtain rfl:b6=false:=Zz fun e=>(gi6 e)
          obtain rfl:b7=false:=Zz fun e=>(gi7 e).1
          obtain ⟨hc0,hz0⟩:=at_cell (rM0 rfl) 0 _ rfl
          have hlt:=(Array.getElem?_eq_some_iff.1 (rM0 rfl)).1
          go_simp
          obtain ⟨h0,h1,h2,h3,h4,h8,gi6,gi7,gi8,rM0,rM1,rS0,rS1,rD0,rD1,rB,rN,rT,rE,gB,gV,gQ,gD,gL⟩:=HI.out
          exact hK'.out _ _ ⟨.mk ..,rfl,rfl,h0,h1,h2,h3,h4,h8,Zf,Zf,gi8,Zf,(fun _=>(Zr (rM0 rfl))),(fun e=>(Zp1 (rS0 e) (Zn (rS0 e) (rM0 rfl)))),Zf,(fun e=>(Zp1 (rD0 e) (Zn (rD0 e) (rM0 rfl)))),Zf,(Zp1 rB (Zn rB (rM0 rfl))),(Zp1 rN (Nat.ne_of_lt (Nat.lt_of_lt_of_le HLM.out LRN.out))),(Zp1 rT (Zn rT (rM0 rfl))),(Zp1 rE (Zn rE (rM0 rfl))),(Zu1 gB HLM0.out),(gV.stay (rM0 rfl) (by decide) _ _),(gQ.stay (rM0 rfl) (by decide) (by decide) _ _),(gD.stay (rM0 rfl) (by decide) _ _),gL⟩
        · obtain ⟨rfl,e1,e5⟩:b6=false∧b1=true∧b5=true:=by revert hp; cases b6 <;> cases b1 <;> cases b5 <;> simp
          clear hp
          obtain rfl:=(HI.out.2.1) e1
          refine inv_op (o:=⟨none,_,_,_,_,_⟩) rfl (fun K' hK'=>?_)
          have gi7:=(Zd HI.out).2.2.2.1
          have rS0:=(Ze HI.out).2.2.2.1
          obtain rfl:b7=false:=Zz fun e=>(gi7 e).2
          obtain ⟨hc0,hz0⟩:=at_cell (rS0 rfl) 0 _ rfl
          obtain ⟨hc1,hz1⟩:=at_cell (rS0 rfl) 1 _ rfl
          obtain ⟨hc2,hz2⟩:=at_cell (rS0 rfl) 2 _ rfl
          obtain ⟨hc3,hz3⟩:=at_cell (rS0 rfl) 3 _ rfl
          have hlt:=(Array.getElem?_eq_some_iff.1 (rS0 rfl)).1
          go_simp
          obtain ⟨h0,h1,h2,h3,h4,h8,gi6,gi7,gi8,rM0,rM1,rS0,rS1,rD0,rD1,rB,rN,rT,rE,gB,gV,gQ,gD,gL⟩:=HI.out
          exact hK'.out _ _ ⟨.mk ..,rfl,rfl,h0,h1,h2,h3,h4,h8,(fun _=>e5),Zf,gi8,(fun e=>(Zp4 (rM0 e) (Zn (rM0 e) (rS0 rfl)))),(fun e=>(Zp4 (rM1 e) (Zn (rM1 e) (rS0 rfl)))),Zf,(fun _=>(Zr (Zr (Zr (Zr (rS0 rfl)))))),(fun e=>(Zp4 (rD0 e) (Zn (rD0 e) (rS0 rfl)))),Zf,(Zp4 rB (Zn rB (rS0 rfl))),(Zp4 rN (Zn rN (rS0 rfl))),(Zp4 rT (Nat.ne_of_lt (Nat.lt_of_lt_of_le HLS.out LRT.out))),(Zp4 rE (Zn rE (rS0 rfl))),(Zu4 gB HLS0.out),((((gV.stay (rS0 rfl) (by decide) _ _).stay (Zr (rS0 rfl)) (by decide) _ _).stay (Zr (Zr (rS0 rfl))) (by decide) _ _).stay (Zr (Zr (Zr (rS0 rfl)))) (by decide) _ _),((((gQ.stay (rS0 rfl) (by decide) (by decide) _ _).stay (Zr (rS0 rfl)) (by decide) (by decide) _ _).stay (Zr (Zr (rS0 rfl))) (by decide) (by decide) _ _).stay (Zr (Zr (Zr (rS0 rfl)))) (by decide) (by decide) _ _),((((gD.stay (rS0 rfl) (by decide) _ _).stay (Zr (rS0 rfl)) (by decide) _ _).stay (Zr (Zr (rS0 rfl))) (by decide) _ _).stay (Zr (Zr (Zr (rS0 rfl)))) (by decide) _ _),gL⟩
        · have hn7:b7=false:=by revert hp; cases b7 <;> simp
          have e2:b2=true:=by revert hp; cases b2 <;> simp
          have e6:b6=true:=by revert hp; cases b6 <;> simp
          have e5:b5=true:=by revert hp; cases b5 <;> simp
          clear hp
          obtain rfl:=(HI.out.2.2.1) e2
          subst hn7
          refine inv_op (o:=⟨none,_,_,_,_,_⟩) rfl (fun K' hK'=>?_)
          have rD0:=(Zd (Ze HI.out)).2.1
          obtain ⟨hc0,hz0⟩:=at_cell (rD0 rfl) 0 _ rfl
          obtain ⟨hc1,hz1⟩:=at_cell (rD0 rfl) 1 _ rfl
          have hlt:=(Array.getElem?_eq_some_iff.1 (rD0 rfl)).1
          go_simp
          obtain ⟨h0,h1,h2,h3,h4,h8,gi6,gi7,gi8,rM0,rM1,rS0,rS1,rD0,rD1,rB,rN,rT,rE,gB,gV,gQ,gD,gL⟩:=HI.out
          exact hK'.out _ _ ⟨.mk ..,rfl,rfl,h0,h1,h2,h3,h4,h8,gi6,(fun _=>⟨e5,e6⟩),gi8,(fun e=>(Zp2 (rM0 e) (Zn (rM0 e) (rD0 rfl)))),(fun e=>(Zp2 (rM1 e) (Zn (rM1 e) (rD0 rfl)))),(fun e=>(Zp2 (rS0 e) (Zn (rS0 e) (rD0 rfl)))),(fun e=>(Zp2 (rS1 e) (Zn (rS1 e) (rD0 rfl)))),Zf,(fun _=>(Zr (Zr (rD0 rfl)))),(Zp2 rB (Zn rB (rD0 rfl))),(Zp2 rN (Zn rN (rD0 rfl))),(Zp2 rT (Zn rT (rD0 rfl))),(Zp2 rE (Nat.ne_of_lt (Nat.lt_of_lt_of_le HLD.out LRE.out))),(Zu2 gB HLD0.out),((gV.stay (rD0 rfl) (by decide) _ _).stay (Zr (rD0 rfl)) (by decide) _ _),((gQ.stay (rD0 rfl) (by decide) (by decide) _ _).stay (Zr (rD0 rfl)) (by decide) (by decide) _ _),((gD.stay (rD0 rfl) (by decide) _ _).stay (Zr (rD0 rfl)) (by decide) _ _),gL⟩
        · have hn8:b8=false:=by revert hp; cases b8 <;> simp
          have e4:b4=true:=by revert hp; cases b4 <;> simp
          have e7:b7=true:=by revert hp; cases b7 <;> simp
          have e3:b3=true:=by revert hp; cases b3 <;> simp
          clear hp
          obtain rfl:=((Zd HI.out).1) e4
          subst hn8
          refine Zv 11 fun K' hK'=>?_
          go_simp
          obtain ⟨h0,h1,h2,h3,h4,h8,gi6,gi7,gi8,rM0,rM1,rS0,rS1,rD0,rD1,rB,rN,rT,rE,gB,gV,gQ,gD,gL⟩:=HI.out
          exact hK'.out _ _ ⟨.mk ..,rfl,rfl,h0,h1,h2,h3,h4,(fun _=>rfl),gi6,gi7,(fun _=>e3),rM0,rM1,rS0,rS1,rD0,rD1,rB,rN,rT,rE,gB,gV,gQ,gD,Zf⟩
       case hdone =>
        rintro ⟨b0,b1,b2,b3,b4,b5,b6,b7,b8,s116,s117,s118,s119,s120,s11⟩ W hI hall
        dsimp only at hI hall ⊢
        have HI:=Zh hI
        clear hI
        obtain rfl:b0=true:=hall 0 (by decide)
        obtain rfl:b1=true:=hall 1 (by decide)
        obtain rfl:b2=true:=hall 2 (by decide)
        obtain rfl:b3=true:=hall 3 (by decide)
        obtain rfl:b4=true:=hall 4 (by decide)
        obtain rfl:b5=true:=hall 5 (by decide)
        obtain rfl:b6=true:=hall 6 (by decide)
        obtain rfl:b7=true:=hall 7 (by decide)
        obtain rfl:b8=true:=hall 8 (by decide)
        obtain rfl:=((Zd HI.out).2.1) rfl
        have rM1:=(Ze HI.out).2.2.1
        have rS1:=(Zd (Ze HI.out)).1
        have rD1:=(Zd (Ze HI.out)).2.2.1
        have rB:=(Zd (Ze HI.out)).2.2.2.1
        have gB:=(Zg HI.out).2.2.2.1
        have gV:=(Zd (Zg HI.out)).1
        have gQ:=(Zd (Zg HI.out)).2.1
        have gD:=(Zd (Zg HI.out)).2.2.1
        clear HI hall
        have X1:=Zh (rM1 rfl)
        have X2:=Zh rB
        have X3:=Zh (rS1 rfl)
        have X4:=Zh (rD1 rfl)
        have X5:=Zh gB
        have X6:=Zh gV
        have X7:=Zh gQ
        have X8:=Zh gD
        clear rM1 rS1 rD1 rB gB gV gQ gD
        have hk4:=HK4.out
        have hlt:=HLT.out
        go_wp2
        go_roundw
        case rel=>exact ⟨j2,H2,W2,by have:=HJ5.out; omega,rfl,by rw [←HJ5.out]; go_num,by rw [←HJ5.out]; exact HHN.out,by rw [←HJ5.out]; exact HCC.out,⟨_,_,X1.out,X6.out⟩,⟨_,_,_,X2.out,X7.out⟩,X3.out,⟨_,_,_,_,_,_,X4.out,X8.out⟩,X5.out⟩
        case measure=>simp [intOf]; omega
     · have BW:=Zh (Below.refl wr.heap.size wr)
       obtain rfl:K=j:=by have:=HJ2.out; omega
       clear hlt
       obtain ⟨m0,mz⟩:=one_cell RM.out
       obtain ⟨⟨u0,u1,u2,u3⟩,x0,x1,x2,x3⟩:=cells_four RS.out
       obtain ⟨c0,c2,z1,z2⟩:=cells_two RD.out
       go_wp2_with fail
       refine (serve_none K K _ _ _ H S C z (K:Nat) (K:Nat) _ AV.out DD.out HK.out HH.out.len HH.out.ix rfl rfl).mono ?_
       rintro e w6 ⟨ra,rc,sa9,sn9,sc9,qa,qn,qc,rfl,hm,hd,hb⟩
       replace RM:=Zk RM hb
       replace RB:=Zk RB hb
       replace RS:=Zk RS hb
       replace RD:=Zk RD hb
       replace AV:=Zh (AV.out.below hb)
       replace QA:=Zh (QA.out.below hb)
       replace DD:=Zh (DD.out.below hb)
       replace BW:=Zb BW hb
       have AN:=Zh hm
       have DE:=Zh hd
       clear hm hd hb
       clear m0 mz u0 u1 u2 u3 x0 x1 x2 x3 c0 c2 z1 z2 hj10
       have LRN:=Zh (show wr.heap.size≤w6.heap.size from BW.out.size)
       have LRT:=Zh (show wr.heap.size≤w6.heap.size+1 from Nat.le_succ_of_le BW.out.size)
       have LRE:=Zh (show wr.heap.size≤w6.heap.size+1+1 from Nat.le_succ_of_le (Nat.le_succ_of_le BW.out.size))
       obtain ⟨t0,t1,t2,hb⟩:=three_boxes w6 #[.slice ra 1700 rc] #[.int .i64 0,.int .i64 16,.int .u16 (K:Nat),.int .u16 (K:Nat)] #[.slice sa9 sn9 sc9,.slice qa qn qc] 24 45 41
       replace RM:=Zk RM hb
       replace RB:=Zk RB hb
       replace RS:=Zk RS hb
       replace RD:=Zk RD hb
       replace AV:=Zh (AV.out.below hb)
       replace QA:=Zh (QA.out.below hb)
       replace DD:=Zh (DD.out.below hb)
       replace BW:=Zb BW hb
       replace AN:=Zh (AN.out.below hb)
       replace DE:=Zh (DE.out.below hb)
       have RN:=Zh t0
       have RT:=Zh t1
       have RE:=Zh (show (((w6.alloc (.cells #[.slice ra 1700 rc] 24)).alloc (.cells #[.int .i64 0,.int .i64 16,.int .u16 (K:Nat),.int .u16 (K:Nat)] 45)).alloc (.cells #[.slice sa9 sn9 sc9,.slice qa qn qc] 41)).heap[w6.heap.size+1+1]? = some (.cells #[.slice sa9 sn9 sc9,.slice qa qn qc] 41 (0,0)) from t2)
       clear t0 t1 t2 hb
       go_upto_region 18 with fail
       obtain ⟨w7,hw7⟩:∃ x,x=(((w6.alloc (.cells #[.slice ra 1700 rc] 24)).alloc (.cells #[.int .i64 0,.int .i64 16,.int .u16 (K:Nat),.int .u16 (K:Nat)] 45)).alloc (.cells #[.slice sa9 sn9 sc9,.slice qa qn qc] 41)):=⟨_,rfl⟩
       rw [←hw7] at RM RB RS RD AV QA DD BW AN DE RN RT RE ⊢
       clear hw7
       clear RN AN RT RE DE RS RD DD LRN LRT LRE
       replace BW:=Zh (BO.out.trans (BW.out.mono BO.out.size))
       clear BO
       have LRZ:=Zh (show w.heap.size≤w7.heap.size from BW.out.size)
       have hb:Below w7.heap.size w7 (w7.alloc (.cells #[.bool false,.bool false,.bool false,.bool false] 53)):=(Below.refl _ _).alloc (Nat.le_refl _) _
       replace RM:=Zk RM hb
       replace RB:=Zk RB hb
       replace AV:=Zh (AV.out.below hb)
       replace QA:=Zh (QA.out.below hb)
       replace BW:=Zb BW hb
       have RZ:=Zh (heap_alloc_new w7 (.cells #[.bool false,.bool false,.bool false,.bool false] 53))
       clear hb
       go_wp2
       obtain ⟨w8,hw8⟩:∃ x,x=(w7.alloc (.cells #[.bool false,.bool false,.bool false,.bool false] 53)):=⟨_,rfl⟩
       rw [←hw8] at RM RB AV QA BW RZ ⊢
       clear hw8
       go_loopw [23] (fun i wr=>∃ j:Nat,j≤K∧i=.int .i64 (j:Nat)∧MemAt wr w1.heap.size H∧BlkAt wr (w1.heap.size+1) (dq K j) (K:Nat) (j:Nat) (fr j K 0) (fr j K 1) (fr j K 2) (fr j K 3)∧wr.heap[w7.heap.size]? = some (.cells #[.bool (decide (0 < j)),.bool (decide (1 < j)),.bool (decide (2 < j)),.bool (decide (3 < j))] 53 (0,0))∧Below w.heap.size w wr) (fun i _=>K - (intOf i).toNat)
       case atStart=>exact ⟨0,Nat.zero_le _,rfl,⟨_,_,RM.out,AV.out⟩,⟨_,_,_,RB.out,QA.out⟩,RZ.out,BW.out⟩
       clear AV QA RM RB RZ BW
       case round =>
        obtain ⟨j,hj,rfl,⟨pa,pc,hm,hmo⟩,⟨F5,C5,D3,hb,hbo⟩,hz,hw⟩:=hrel
        obtain ⟨ga,gn,gc,ha,hn,hc,rfl,rfl,hx⟩:=hbo.shape
        have RM:=Zh hm
        have AV:=Zh hmo
        have RB:=Zh hb
        have QA:=Zh hbo
        have RZ:=Zh hz
        have BW:=Zh hw
        have HJ3:=Zh hj
        clear hx hm hmo hb hbo hz hw hj
        by_cases hlt:j < K
        · have HLT:=Zh hlt
          have HJ4:=Zh (show j < 4 by have:=HK4.out; omega)
          have LRB:=HLB0
          clear HJ3
          have hjk:((j:Nat):Int) < ((K:Nat):Int):=by omega
          clear hlt
          obtain ⟨m0,mz⟩:=one_cell RM.out
          go_wp2_with (refine blk_load rfl _ rfl _ rfl _ RB.out rfl ?_)
          refine (done_four _ _ _ D3 H ds K j y (fR y) _ AV.out QA.out HH.out HLT.out HK4.out rfl).mono ?_
          rintro e w9 ⟨fa,fn,fc,va2,vn2,vc2,D4,rfl,hq,hb⟩
          obtain ⟨j2,hj2⟩:∃ x,j+1=x:=⟨_,rfl⟩
          rw [hj2] at hq ⊢
          have HJ5:=Zh hj2
          clear hj2
          replace RM:=Zk RM hb
          replace RB:=Zk RB hb
          replace RZ:=Zk RZ hb
          replace AV:=Zh (AV.out.below hb)
          replace QA:=Zh (QA.out.below hb)
          replace BW:=Zb BW hb
          have QY:=Zh hq
          clear hq hb
          have HLB:=Zh (Array.getElem?_eq_some_iff.1 RB.out).1
          have LRY:=Zh (show w.heap.size≤w9.heap.size from BW.out.size)
          have hb:Below w9.heap.size w9 (w9.alloc (.cells (bk (.slice fa fn fc) (.slice va2 vn2 vc2) (K:Nat) (j2:Nat) (fr j2 K 0) (fr j2 K 1) (fr j2 K 2) (fr j2 K 3)) 34)):=(Below.refl _ _).alloc (Nat.le_refl _) _
          replace RM:=Zk RM hb
          replace RB:=Zk RB hb
          replace RZ:=Zk RZ hb
          replace AV:=Zh (AV.out.below hb)
          replace QA:=Zh (QA.out.below hb)
          replace BW:=Zb BW hb
          replace QY:=Zh (QY.out.below hb)
          have RY:=Zh (heap_alloc_new w9 (.cells (bk (.slice fa fn fc) (.slice va2 vn2 vc2) (K:Nat) (j2:Nat) (fr j2 K 0) (fr j2 K 1) (fr j2 K 2) (fr j2 K 3)) 34))
          clear hb
          clear m0 mz hjk
          go_upto_region 25 with (refine blk_store_new rfl _ _ rfl w9 w9.heap.size rfl (bk (.slice fa fn fc) (.slice va2 vn2 vc2) (K:Nat) (j2:Nat) (fr j2 K 0) (fr j2 K 1) (fr j2 K 2) (fr j2 K 3)) rfl rfl _ rfl rfl rfl (bk_one rfl rfl) ?_)
          obtain ⟨w10,hw10⟩:∃ x,x=(w9.alloc (.cells (bk (.slice fa fn fc) (.slice va2 vn2 vc2) (K:Nat) (j2:Nat) (fr j2 K 0) (fr j2 K 1) (fr j2 K 2) (fr j2 K 3)) 34)):=⟨_,rfl⟩
          rw [←hw10] at RM RB RZ AV QA BW QY RY ⊢
          clear hw10
          obtain ⟨s0,s1⟩:=seen_cell RZ.out HJ4.out
          have l0:0≤((j:Nat):Int):=by omega
          have l1:((j:Nat):Int) < 4:=by have:=HJ4.out; omega
          have d0:decide (((j:Nat):Int) < 0)=false:=decide_eq_false (by omega)
          have d1:decide ((3:Int) < ((j:Nat):Int))=false:=decide_eq_false (by omega)
          have d2:decide (3 < j)=false:=decide_eq_false (by omega)
          go_upto_region 28 with fail
          replace RM:=Zx RM RZ j (.bool true)
          replace RB:=Zx RB RZ j (.bool true)
          replace AV:=Zh (AV.out.stay RZ.out (by decide) j (.bool true))
          replace QA:=Zh (QA.out.stay RZ.out (by decide) (by decide) j (.bool true))
          replace BW:=Zh (BW.out.setCell (p:=⟨w7.heap.size,j,none⟩) LRZ.out (.bool true))
          replace QY:=Zh (QY.out.stay RZ.out (by decide) (by decide) j (.bool true))
          replace RY:=Zx RY RZ j (.bool true)
          replace RZ:=Zh (row_put RZ.out j (.bool true))
          obtain ⟨w11,hw11⟩:∃ x,x=(w10.setCell ⟨w7.heap.size,j,none⟩ (.bool true)):=⟨_,rfl⟩
          rw [←hw11] at RM RB RZ AV QA BW QY RY ⊢
          clear hw11
          replace RZ:=Zh (seen_next RZ.out HJ4.out)
          rw [HJ5.out] at RZ
          clear s0 s1 l0 l1 d0 d1 d2
          have hk4:=HK4.out
          have hlt:=HLT.out
          go_wp2_with (first|(refine blk_load rfl _ rfl _ rfl _ RY.out rfl ?_)|(refine blk_store rfl _ _ rfl _ _ rfl rfl _ RB.out rfl rfl (bk_one rfl rfl) ?_))
          replace RM:=Zh (row_other RM.out (bk (.slice fa fn fc) (.slice va2 vn2 vc2) (K:Nat) (j2:Nat) (fr j2 K 0) (fr j2 K 1) (fr j2 K 2) (fr j2 K 3)) (blocks_ne RM.out RB.out (by decide)))
          replace RZ:=Zh (row_other RZ.out (bk (.slice fa fn fc) (.slice va2 vn2 vc2) (K:Nat) (j2:Nat) (fr j2 K 0) (fr j2 K 1) (fr j2 K 2) (fr j2 K 3)) (blocks_ne RZ.out RB.out (by decide)))
          replace AV:=Zh (AV.out.row RB.out (bk (.slice fa fn fc) (.slice va2 vn2 vc2) (K:Nat) (j2:Nat) (fr j2 K 0) (fr j2 K 1) (fr j2 K 2) (fr j2 K 3)))
          replace QA:=Zh (QA.out.row RB.out (bk (.slice fa fn fc) (.slice va2 vn2 vc2) (K:Nat) (j2:Nat) (fr j2 K 0) (fr j2 K 1) (fr j2 K 2) (fr j2 K 3)))
          replace BW:=Zh (below_row BW.out LRB.out (bk (.slice fa fn fc) (.slice va2 vn2 vc2) (K:Nat) (j2:Nat) (fr j2 K 0) (fr j2 K 1) (fr j2 K 2) (fr j2 K 3)))
          replace QY:=Zh (QY.out.row RB.out (bk (.slice fa fn fc) (.slice va2 vn2 vc2) (K:Nat) (j2:Nat) (fr j2 K 0) (fr j2 K 1) (fr j2 K 2) (fr j2 K 3)))
          replace RY:=Zh (row_other RY.out (bk (.slice fa fn fc) (.slice va2 vn2 vc2) (K:Nat) (j2:Nat) (fr j2 K 0) (fr j2 K 1) (fr j2 K 2) (fr j2 K 3)) (Nat.ne_of_lt HLB.out))
          replace RB:=Zh (row_self RB.out (bk (.slice fa fn fc) (.slice va2 vn2 vc2) (K:Nat) (j2:Nat) (fr j2 K 0) (fr j2 K 1) (fr j2 K 2) (fr j2 K 3)))
          obtain ⟨w12,hw12⟩:∃ x,x=(w11.setRow (w1.heap.size+1) (bk (.slice fa fn fc) (.slice va2 vn2 vc2) (K:Nat) (j2:Nat) (fr j2 K 0) (fr j2 K 1) (fr j2 K 2) (fr j2 K 3))):=⟨_,rfl⟩
          rw [←hw12] at RM RB RZ AV QA BW QY RY ⊢
          clear hw12
          go_roundw
          case rel=>have hj5:=HJ5.out; exact ⟨j2,by omega,by rw [←HJ5.out]; go_num,⟨_,_,RM.out,AV.out⟩,⟨_,_,_,RB.out,QY.out⟩,RZ.out,BW.out⟩
          case measure=>have hj5:=HJ5.out; simp [intOf]; omega
        · obtain rfl:K=j:=by have:=HJ3.out; omega
          clear hlt RZ
          obtain ⟨m0,mz⟩:=one_cell RM.out
          go_wp2_with (refine blk_load rfl _ rfl _ rfl _ RB.out rfl ?_)
          refine (doneNone_four _ _ _ D3 H ds K y _ AV.out QA.out HH.out HK4.out).mono ?_
          rintro e w9 ⟨fa,fn,fc,va2,vn2,vc2,D4,rfl,hq,hb⟩
          replace RM:=Zk RM hb
          replace RB:=Zk RB hb
          replace AV:=Zh (AV.out.below hb)
          replace QA:=Zh (QA.out.below hb)
          replace BW:=Zb BW hb
          have QY:=Zh hq
          clear hq hb
          have LRY:=Zh (show w.heap.size≤w9.heap.size from BW.out.size)
          have hb:Below w9.heap.size w9 (w9.alloc (.cells (bk (.slice fa fn fc) (.slice va2 vn2 vc2) (K:Nat) (K:Nat) (fr K K 0) (fr K K 1) (fr K K 2) (fr K K 3)) 34)):=(Below.refl _ _).alloc (Nat.le_refl _) _
          replace RM:=Zk RM hb
          replace RB:=Zk RB hb
          replace AV:=Zh (AV.out.below hb)
          replace QA:=Zh (QA.out.below hb)
          replace BW:=Zb BW hb
          replace QY:=Zh (QY.out.below hb)
          have RY:=Zh (heap_alloc_new w9 (.cells (bk (.slice fa fn fc) (.slice va2 vn2 vc2) (K:Nat) (K:Nat) (fr K K 0) (fr K K 1) (fr K K 2) (fr K K 3)) 34))
          clear hb
          clear m0 mz
          go_upto_region 30 with (refine blk_store_new rfl _ _ rfl w9 w9.heap.size rfl (bk (.slice fa fn fc) (.slice va2 vn2 vc2) (K:Nat) (K:Nat) (fr K K 0) (fr K K 1) (fr K K 2) (fr K K 3)) rfl rfl _ rfl rfl rfl (bk_one rfl rfl) ?_)
          obtain ⟨w10,hw10⟩:∃ x,x=(w9.alloc (.cells (bk (.slice fa fn fc) (.slice va2 vn2 vc2) (K:Nat) (K:Nat) (fr K K 0) (fr K K 1) (fr K K 2) (fr K K 3)) 34)):=⟨_,rfl⟩
          rw [←hw10] at RM RB AV QA BW QY RY ⊢
          clear hw10
          rw [fr_none,fr_none,fr_none,fr_none] at RB
          have hsl:=run_slots
          have hk:=HKJ.out
          go_wp2_with (refine slots_load_want (by kernel_rfl) _ rfl _ rfl RB.out ?_)
          refine (blkHeads_any _).mono ?_
          rintro e w11 ⟨rfl,hb⟩
          replace RM:=Zk RM hb
          replace RB:=Zk RB hb
          replace AV:=Zh (AV.out.below hb)
          replace QA:=Zh (QA.out.below hb)
          replace BW:=Zb BW hb
          replace QY:=Zh (QY.out.below hb)
          replace RY:=Zk RY hb
          clear hb
          go_wp2
          go_ret
          exact ⟨rfl,BW.out⟩
set_option maxHeartbeats 2000000 in
set_option maxRecDepth 100000 in
theorem vblkFour_out (w:World) (va:Value) (cs:List UInt8) (hcs:IsArg w va cs) (z:Int) (hc:8 < cs.length):Calls Tryz.prog 3 #[va,.int .i64 z] w fun e w'=>e=.returned (.bool true)∧Below w.heap.size w w':=by
 obtain ⟨a1,n1,c1,rfl,q1⟩:∃ a n c,va=.slice a n c∧n=cs.length:=by obtain ⟨a,c,h,_⟩:=hcs.shape; exact ⟨a,_,c,h,by simp⟩
 rw [←q1] at hc
 have HCS:=Zh hcs
 have HN1:=Zh q1
 have HC:=Zh hc
 have t1:decide ((8:Int) < ((n1:Nat):Int))=true:=decide_eq_true (by omega)
 have t2:decide (8 < n1)=true:=decide_eq_true (by omega)
 clear hcs q1 hc
 obtain ⟨z0,hz0⟩:∃ l:List UInt8,l=List.replicate 1700 0:=⟨_,rfl⟩
 have hn0:z0.length=1700:=by rw [hz0]; simp
 obtain ⟨l0,hl0⟩:∃ l,zeroM z0 0 16=l:=⟨_,rfl⟩
 obtain ⟨ds,hds⟩:∃ f:Nat→List UInt8,f=fun i=>List.replicate 256 (cs.getD i 0):=⟨_,rfl⟩
 have hdl:∀ i,(ds i).length=256:=fun i=>by rw [hds]; exact List.length_replicate
 have hdi:∀ i,List.replicate 256 (cs.getD i 0)=ds i:=fun i=>by rw [hds]
 have hfm:FM ds l0 0:=FM.zero (fun x hx=>by rw [hz0] at hx; exact (List.mem_replicate.1 hx).2) hn0 hl0
 obtain ⟨y,hy,hyw⟩:=wrap8 z
 have HN0:=Zh hn0
 have HL0:=Zh hl0
 have HDL:=Zh hdl
 have HDI:=Zh hdi
 have HFM:=Zh hfm
 have HY:=Zh hy
 have HYW:=Zh hyw
 have hzz:=zerosK_own w 1700 (by decide)
 rw [←hz0] at hzz
 have AM:=Zh hzz
 have BW:=Zh ((Below.refl w.heap.size w).alloc (Nat.le_refl _) (.cells (madeCells #[.int .u8 0] 1700) 5))
 have hmk:=run_zeros1700
 clear hz0 hn0 hl0 hzz hds hdl hdi hfm hy hyw
 go_enter Tryz.func3,Tryz.ntmps3
 go_wp2_with fail
 refine (blkNew_this _ z0 _ AM.out HN0.out).mono ?_
 rintro e w1 ⟨aa,ca,F2,C2,rfl,hm,hq,hb⟩
 obtain ⟨xa0,xn0,xc0,ya0,yn0,yc0,rfl,rfl,hx⟩:=hq.shape
 clear hx hmk
 rw [HL0.out] at hm
 replace AM:=Zh (AM.out.below hb)
 replace BW:=Zb BW hb
 have AV:=Zh hm
 have QA:=Zh hq
 clear hm hq hb
 clear AM
 have hz1:(w1.alloc (.cells #[.slice aa 1700 ca] 24)).heap.size=w1.heap.size+1:=by simp
 have LRM:=Zh (show w.heap.size≤w1.heap.size from BW.out.size)
 have LRB:=Zh (show w.heap.size≤w1.heap.size+1 from Nat.le_succ_of_le BW.out.size)
 obtain ⟨t0,t1,hb⟩:=two_boxes w1 #[.slice aa 1700 ca] (bk (.slice xa0 xn0 xc0) (.slice ya0 yn0 yc0) 0 0 zReq zReq zReq zReq) 24 34
 replace BW:=Zb BW hb
 replace AV:=Zh (AV.out.below hb)
 replace QA:=Zh (QA.out.below hb)
 have RM:=Zh t0
 have RB:=Zh t1
 clear t0 t1 hb
 go_wp2_with (refine blk_store_new rfl _ _ rfl (w1.alloc (.cells #[.slice aa 1700 ca] 24)) (w1.heap.size+1) hz1 (bk (.slice xa0 xn0 xc0) (.slice ya0 yn0 yc0) 0 0 zReq zReq zReq zReq) rfl rfl _ rfl rfl rfl (bk_one rfl rfl) ?_)
 obtain ⟨w2,hw2⟩:∃ x,x=((w1.alloc (.cells #[.slice aa 1700 ca] 24)).alloc (.cells (bk (.slice xa0 xn0 xc0) (.slice ya0 yn0 yc0) 0 0 zReq zReq zReq zReq) 34)):=⟨_,rfl⟩
 rw [←hw2] at BW AV QA RM RB ⊢
 clear hw2
 clear hz1
 refine (dskNew_k 8 8 rfl (by decide) _).mono ?_
 rintro e w3 ⟨sa0,sn0,sc0,rfl,hd,hb⟩
 replace BW:=Zb BW hb
 replace AV:=Zh (AV.out.below hb)
 replace QA:=Zh (QA.out.below hb)
 replace RM:=Zk RM hb
 replace RB:=Zk RB hb
 have DD:=Zh hd
 clear hd hb
 obtain ⟨S,hS⟩:∃ S,S=List.replicate 8 zsec:=⟨_,rfl⟩
 have hk0:chkB S []=true:=by rw [hS]; exact zero_chk (by decide)
 have hsl:S.length=8:=by rw [hS]; simp
 rw [←hS] at DD
 have HK0:=Zh hk0
 have HSL:=Zh hsl
 clear hS hk0 hsl
 have LRD:=Zh (show w.heap.size≤w3.heap.size from BW.out.size)
 have hb:Below w3.heap.size w3 (w3.alloc (.cells #[.slice sa0 sn0 sc0,.slice none 0 0] 41)):=(Below.refl _ _).alloc (Nat.le_refl _) _
 replace BW:=Zb BW hb
 replace AV:=Zh (AV.out.below hb)
 replace QA:=Zh (QA.out.below hb)
 replace RM:=Zk RM hb
 replace RB:=Zk RB hb
 replace DD:=Zh (DD.out.below hb)
 have RD:=Zh (heap_alloc_new w3 (.cells #[.slice sa0 sn0 sc0,.slice none 0 0] 41))
 clear hb
 go_wp2_with fail
 refine (refServe_any 0 16 _).mono ?_
 rintro e w4 ⟨rfl,hb⟩
 replace BW:=Zb BW hb
 replace AV:=Zh (AV.out.below hb)
 replace QA:=Zh (QA.out.below hb)
 replace RM:=Zk RM hb
 replace RB:=Zk RB hb
 replace DD:=Zh (DD.out.below hb)
 replace RD:=Zk RD hb
 clear hb
 have LRS:=Zh (show w.heap.size≤w4.heap.size from BW.out.size)
 have hb:Below w4.heap.size w4 (w4.alloc (.cells #[.int .i64 0,.int .i64 16,.int .u16 0,.int .u16 0] 45)):=(Below.refl _ _).alloc (Nat.le_refl _) _
 replace BW:=Zb BW hb
 replace AV:=Zh (AV.out.below hb)
 replace QA:=Zh (QA.out.below hb)
 replace RM:=Zk RM hb
 replace RB:=Zk RB hb
 replace DD:=Zh (DD.out.below hb)
 replace RD:=Zk RD hb
 have RS:=Zh (heap_alloc_new w4 (.cells #[.int .i64 0,.int .i64 16,.int .u16 0,.int .u16 0] 45))
 clear hb
 go_wp2_with fail
 refine (blkHeads_any _).mono ?_
 rintro e w5 ⟨rfl,hb⟩
 replace BW:=Zb BW hb
 replace AV:=Zh (AV.out.below hb)
 replace QA:=Zh (QA.out.below hb)
 replace RM:=Zk RM hb
 replace RB:=Zk RB hb
 replace DD:=Zh (DD.out.below hb)
 replace RD:=Zk RD hb
 replace RS:=Zk RS hb
 clear hb
 go_wp2
 go_ret
 exact ⟨rfl,BW.out⟩
theorem vblkFour_law (w:World) (va:Value) (cs:List UInt8) (hcs:IsArg w va cs) (z:Int) (_ : -9223372036854775808≤z∧z≤9223372036854775807):Calls Tryz.prog 3 #[va,.int .i64 z] w fun e w'=>e=.returned (.bool true)∧Below w.heap.size w w':=by
 by_cases h:cs.length≤8
 · exact vblkFour_main w va cs hcs z h
 · exact vblkFour_out w va cs hcs z (by omega)
end Go.Proofs.YtcljffcdpjmmbaaGreat
