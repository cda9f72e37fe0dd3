import Derived.BigFrame
import Derived.IntWalk
import Derived.OpenShut
import Derived.Deep.Matrix
import Derived.Test.YtcljffcdpjmmbaaGreatG05
namespace Go.Proofs.YtcljffcdpjmmbaaGreat
open Go.RowKit Go.Lib
theorem dk_sect {W:World} {a:Option Addr} {n c:Nat} {S:List (List UInt8)} (h:SecRow 0 W (.slice a n c) S) (k:Nat) (hk:k < S.length):∃ g va vn vc,a=some ⟨g,0,none⟩∧W.cell? ⟨g,k,none⟩=some (.slice va vn vc)∧vn=(S.getD k []).length∧OwnB 0 W (.slice va vn vc) (S.getD k []):=by
 obtain ⟨xs,h1,h2⟩:=h
 have hn:n=S.length:=by obtain ⟨a,c',e,_⟩:=owns_slice h1; cases e; rfl
 subst hn
 obtain ⟨g,cap,cur,hv,_⟩:=owns_shape h1 (by omega)
 injection hv with e1 _ _
 subst e1
 obtain ⟨V,hV⟩:∃ V,xs[k]? = some V:=⟨_,List.getElem?_eq_getElem (by have:=h1.1; omega)⟩
 have h3:=h2 k V hV
 obtain ⟨va,vc,rfl,_⟩:=owns_slice h3
 exact ⟨g,va,_,vc,rfl,(h1.cellAt k (by omega)).trans hV,rfl,h3⟩
theorem dk_write {W:World} {a:Option Addr} {n c:Nat} {C:List (Int × List UInt8)} (h:WrRow 0 W (.slice a n c) C) (k:Nat) (hk:k < C.length):∃ g y wa wn wc,a=some ⟨g,0,none⟩∧W.cell? ⟨g,k * 2,none⟩=some (.int .i64 y)∧W.cell? ⟨g,k * 2+1,none⟩=some (.slice wa wn wc)∧y=(C.getD k (0,[])).1∧wn=(C.getD k (0,[])).2.length∧OwnB 0 W (.slice wa wn wc) (C.getD k (0,[])).2:=by
 obtain ⟨X,h0,h1,h2⟩:=h
 have hn:n=C.length:=by obtain ⟨a,c',e,_⟩:=owns_slice h1; cases e; rfl
 subst hn
 obtain ⟨g,cap,cur,hv,_⟩:=owns_shape h1 (by omega)
 injection hv with e1 _ _
 subst e1
 obtain ⟨⟨xa,V⟩,hV⟩:∃ x,X[k]? = some x:=⟨_,List.getElem?_eq_getElem (by omega)⟩
 obtain ⟨h3,h4⟩:=h2 k _ hV
 simp only at h3 h4
 obtain ⟨va,vc,rfl,_⟩:=owns_slice h4
 obtain ⟨x1,x2⟩:=wcells_at X k _ hV
 exact ⟨g,xa,va,_,vc,rfl,(h1.cellAt (k * 2) (by omega)).trans x1,(h1.cellAt (k * 2+1) (by omega)).trans x2,h3,rfl,h4⟩
set_option maxHeartbeats 4000000 in
set_option maxRecDepth 100000 in
theorem refRead_dk (s c:Value) (S:List (List UInt8)) (C:List (Int × List UInt8)) (w:World) (hd:DK w s c S C) (z:Int) (F:Int) (hF:dFault S C z=F) (L:List UInt8) (hL:(if dFault S C z=0 then (settledOf S C every).getD z.toNat [] else [])=L) :
 Calls Tryz.prog 13 #[.agg #[s,c],.int .i64 z] w fun e w'=>∃ a n c,e=.returned (.tuple #[.slice a n c,.int .i64 F])∧OwnB 0 w' (.slice a n c) L∧n=L.length∧Below w.heap.size w w':=by
 have HD:=Zh hd
 obtain ⟨a,na,ca,a1,nb,c1,rfl,rfl,hSn,hCm⟩:=hd.shape
 obtain ⟨n,hn⟩:∃ n,n=na:=⟨_,rfl⟩
 obtain ⟨m,hm⟩:∃ m,m=nb:=⟨_,rfl⟩
 subst hn
 subst hm
 have HSn:=Zh hSn
 have HCm:=Zh hCm
 have HB0:=Zh ((Below.refl w.heap.size w).alloc (Nat.le_refl _) (.cells #[.slice a n ca,.slice a1 m c1] 41))
 rcases dFault_cases S C z with ⟨hf,hk⟩|⟨hf,hk,hz⟩|⟨hf,hk,z0,z1⟩
 · obtain rfl:F=3:=by rw [←hF,hf]
   obtain rfl:L=[]:=by rw [←hL,if_neg (by rw [hf]; decide)]
   have HK:=Zh hk
   clear hd hF hL hSn hCm hf hk
   go_enter Tryz.func13,Tryz.ntmps13
   go_wp2_with fail
   refine (refDskCheck_any _ _ _ _ _ (HD.out.below HB0.out).disk _ HK.out).mono ?_
   rintro e w1 ⟨rfl,hb⟩
   have HB1:=Zh (HB0.out.trans (hb.mono (by simp)))
   clear hb
   go_wp2
   go_ret2
   exact ⟨_,_,_,rfl,World.ownsRow_nil _ _ _ _,rfl,HB1.out⟩
 · obtain rfl:F=50:=by rw [←hF,hf]
   obtain rfl:L=[]:=by rw [←hL,if_neg (by rw [hf]; decide)]
   have HK:=Zh hk
   have HH:=Zh (show false=decide (0≤z∧z < (n:Int)) from (decide_eq_false (by rw [hSn]; exact hz)).symm)
   clear hd hF hL hSn hCm hf hk hz
   go_enter Tryz.func13,Tryz.ntmps13
   go_wp2_with fail
   refine (refDskCheck_any _ _ _ _ _ (HD.out.below HB0.out).disk _ HK.out).mono ?_
   rintro e w1 ⟨rfl,hb⟩
   obtain ⟨hx1,hx2⟩:=box2 hb
   have HB1:=Zh (HB0.out.trans (hb.mono (by simp)))
   clear hb
   go_wp2_with fail
   refine (refHas_any _ _ _ _ _ _ _ _ HH.out _).mono ?_
   rintro e w2 ⟨rfl,hb⟩
   have HB2:=Zh (HB1.out.trans (hb.mono HB1.out.size))
   clear hb hx1 hx2
   go_wp2
   go_ret2
   exact ⟨_,_,_,rfl,World.ownsRow_nil _ _ _ _,rfl,HB2.out⟩
 · obtain rfl:F=0:=by rw [←hF,hf]
   obtain ⟨i,rfl⟩:=Int.eq_ofNat_of_zero_le z0
   rw [if_pos hf,Int.toNat_natCast] at hL
   obtain ⟨s1,s2,s3⟩:=Inside.of hk
   have hin:i < n:=by omega
   rw [←hSn] at s1
   rw [←hCm] at s2
   have HK:=Zh hk
   have HS3:=Zh s3
   have HL:=Zh hL
   have HI:=Zh (show i < S.length by omega)
   have HH:=Zh (show true=decide (0≤(i:Int)∧(i:Int) < (n:Int)) from (decide_eq_true (by omega)).symm)
   clear hd hF hL hSn hCm hf hk z0 z1 s3
   go_enter Tryz.func13,Tryz.ntmps13
   go_wp2_with fail
   refine (refDskCheck_any _ _ _ _ _ (HD.out.below HB0.out).disk _ HK.out).mono ?_
   rintro e w1 ⟨rfl,hb⟩
   have hX1:=box2 hb
   have HX1:=Zh hX1
   obtain ⟨hx1,hx2⟩:=hX1
   have HB1:=Zh (HB0.out.trans (hb.mono (by simp)))
   clear hb
   go_wp2_with fail
   refine (refHas_any _ _ _ _ _ _ _ _ HH.out _).mono ?_
   rintro e w2 ⟨rfl,hb⟩
   have HB2:=Zh (HB1.out.trans (hb.mono HB1.out.size))
   clear hx1 hx2
   obtain ⟨hx1,hx2⟩:=kept2 HX1.out hb
   obtain ⟨b,va,vn,vc,rfl,hcl,hvn,hva⟩:=dk_sect (HD.out.below HB2.out).sec i HI.out
   have HVA:=Zh hva
   clear hb hvn hva
   go_wp2
   go_loop [6,7] (fun x y=>∃ k:Nat,k≤m∧y=.int .i64 k∧∃ va vn vc,x=.slice va vn vc∧OwnB 0 w2 (.slice va vn vc) ((after S C every k).getD i [])) (fun _ y=>m - (intOf y).toNat)
   case atStart=>exact ⟨0,Nat.zero_le _,rfl,va,vn,vc,rfl,HVA.out⟩
   case round =>
    obtain ⟨k,hk,rfl,ua,un,uc,rfl,hua⟩:=hrel
    have HUA:=Zh hua
    clear hua
    by_cases hlt:k < m
    · obtain ⟨b2,y,wa,wn,wc,rfl,hcl1,hcl2,hy,hwn,hwa⟩:=dk_write (HD.out.below HB2.out).wr k (by rw [←HCm.out]; exact hlt)
      have HY:=Zh hy
      have HWA:=Zh hwa
      clear hwn hwa hy
      by_cases he:y=(i:Int)
      · subst he
        go_wp2
        go_round
        case rel=>exact ⟨k+1,by omega,by go_num,wa,wn,wc,rfl,by rw [after_hit S C every k i rfl HY.out.symm HI.out]; exact HWA.out⟩
        case measure=>simp [intOf]; omega
      · have HE:=Zh he
        go_wp2
        go_round
        case rel =>
         refine ⟨k+1,by omega,by go_num,ua,un,uc,rfl,?_⟩
         rw [after_miss S C every k i (HS3.out _ (getD_mem C k (0,[]) (by rw [←HCm.out]; exact hlt))).1 (by rw [←HY.out]; exact HE.out)]
         exact HUA.out
        case measure=>simp [intOf]; omega
    · obtain rfl:k=m:=by omega
      go_wp2
      go_ret2
      have h:=HUA.out
      have h2:(after S C every k).getD i []=L:=by rw [HCm.out]; exact HL.out
      rw [h2] at h
      have h4:un=L.length:=by obtain ⟨_,_,h3,_⟩:=h.shape; cases h3; rfl
      exact ⟨_,_,_,rfl,h,h4,HB2.out⟩
def fullT (c:UInt8) (k:Nat):List UInt8:=List.replicate k c++List.replicate (256 - k) 0
theorem fullT_length (c:UInt8) (k:Nat) (h:k≤256):(fullT c k).length=256:=by simp [fullT]; omega
theorem fullT_step (c:UInt8) (k:Nat) (h:k < 256):(fullT c k).set k c=fullT c (k+1):=by
 unfold fullT
 rw [List.set_append_right _ _ (by simp),List.length_replicate,Nat.sub_self,show 256 - k=(256 - (k+1))+1 by omega,List.replicate_succ,List.set_cons_zero,List.replicate_succ']
 simp
theorem fullT_end (c:UInt8):fullT c 256=List.replicate 256 c:=by rw [fullT,Nat.sub_self,List.replicate_zero,List.append_nil]
theorem fullT_zero (c:UInt8):fullT c 0=List.replicate 256 0:=by rw [fullT,List.replicate_zero,List.nil_append,Nat.sub_zero]
set_option maxHeartbeats 4000000 in
set_option maxRecDepth 100000 in
theorem sector9_any (c:UInt8) (w:World) :
 Calls Tryz.prog 10 #[.int .u8 (c.toNat:Nat)] w fun e w'=>∃ g,e=.returned (.slice (some ⟨g,0,none⟩) 256 256)∧OwnB 0 w' (.slice (some ⟨g,0,none⟩) 256 256) (List.replicate 256 c)∧Below w.heap.size w w':=by
 obtain ⟨j0,ji,jz0,jz1,jz2⟩:=info_parts info8
 go_enter Tryz.func10,Tryz.ntmps10
 go_wp2_with (refine wpList_make_full _ rfl _ _ 22 rfl w.heap.size 5 j0 (.int .u8 0) 1 Tryz.underlying22 ji jz0 jz1 .i64 .i64 _ _ 256 rfl rfl rfl rfl ?d2 ?d3 ?d4 ?_)
 case d2=>rw [jz2]; decide
 case d3=>decide
 case d4=>exact Nat.le_refl _
 intro w1 hown hgrow
 have HB1:=Zh (show Below w.heap.size w w1 from (Below.refl _ _).grown hgrow (Nat.le_refl _) (fun k hk=>by cases hk))
 have hown2:w1.ownsRow w.heap.size 5 1 (.slice (some ⟨w.heap.size,0,none⟩) 256 256) 256 (byteCells (fullT c 0)):=by
  rw [fullT_zero,←zeros_row]
  exact hown
 obtain ⟨g,hg⟩:∃ g,g=w.heap.size:=⟨_,rfl⟩
 rw [←hg] at hown2 ⊢
 have HG:=Zh (Nat.le_of_eq hg.symm)
 have HO:=Zh hown2
 clear hown hown2 hgrow hg
 go_wp2
 go_loopw [4] (fun x wr=>∃ k:Nat,k≤256∧x=.int .i64 k∧wr.ownsRow g 5 1 (.slice (some ⟨g,0,none⟩) 256 256) 256 (byteCells (fullT c k))∧Below w.heap.size w wr) (fun x _=>256 - (intOf x).toNat)
 case atStart=>exact ⟨0,Nat.zero_le _,rfl,HO.out,HB1.out⟩
 case round =>
  obtain ⟨k,hk,rfl,hown,hbw⟩:=hrel
  have HOk:=Zh hown
  have HBk:=Zh hbw
  clear hbw
  by_cases hlt:k < 256
  · have hcg:=hown.cellAt k (by omega)
    obtain ⟨u,hu⟩:∃ u,(byteCells (fullT c k))[k]? = some u:=⟨(byteCells (fullT c k))[k]'(by rw [byteCells_length,fullT_length c k hk]; exact hlt),List.getElem?_eq_getElem _⟩
    rw [hu] at hcg
    have hfg:=hown.frozenAt k
    clear hown hu
    go_wp2
    go_roundw
    case rel =>
     refine ⟨k+1,by omega,by go_num,?_,HBk.out.setCell (by show w.heap.size≤g; exact HG.out) _⟩
     have h:=(HOk.out.stored k (.int .u8 (c.toNat:Nat))).1
     have h2:(byteCells (fullT c k)).set k (.int .u8 (c.toNat:Nat))=byteCells ((fullT c k).set k c):=by simp [byteCells,List.map_set]
     rw [h2,fullT_step c k hlt] at h
     exact h
    case measure=>simp [intOf]; omega
  · obtain rfl:k=256:=by omega
    clear hown
    go_wp2
    go_ret
    have h:=HOk.out
    rw [fullT_end] at h
    exact ⟨g,rfl,(show OwnB w.heap.size wr (.slice (some ⟨g,0,none⟩) 256 256) (List.replicate 256 c) by unfold OwnB; rw [List.length_replicate]; exact ownsRow_base h HG.out).base (Nat.zero_le _),HBk.out⟩
theorem refServe_any (b n:Int) (w:World):Calls Tryz.prog 7 #[.int .i64 b,.int .i64 n] w fun e w'=>e=.returned (.agg #[.int .i64 b,.int .i64 n,.int .u16 0,.int .u16 0])∧Below w.heap.size w w':=by
 go_enter Tryz.func7,Tryz.ntmps7
 go_wp2
 refine bodyPost_ret (v:=.agg #[.int .i64 b,.int .i64 n,.int .u16 0,.int .u16 0]) (by simp [results,Tryz.results7,go_sem]) rfl ⟨rfl,?_⟩
 exact (Below.refl w.heap.size w).alloc (Nat.le_refl _) _
theorem upN16:upN 16=[0,1,2,3,4,5,6,7,8,9,10,11,12,13,14,15]:=by decide
theorem numAt_putAt1 {l:List UInt8} {p x:Nat} (h:p+1≤l.length) (hx:x < 256):numAt (putAt l p 1 x) p 1=x:=by
 rw [numAt_same x h]
 exact Nat.mod_eq_of_lt (by omega)
theorem numAt_far {l l2:List UInt8} {m p k:Nat} (h:l2.drop m=l.drop m) (hp:m≤p):numAt l2 p k=numAt l p k:=by rw [numAt,numAt,part_of_drop h hp]
theorem putAt_low {l:List UInt8} {p k x q j:Nat} (h:p+k≤l.length) (hq:q+j≤p):numAt (putAt l p k x) q j=numAt l q j:=numAt_other x h (.inl hq)
def wq (A:Nat):QQ:=⟨0,16,upN 16,A,A,[]⟩
theorem wq_good {A:Nat} (hA:A < 65536):GoodQ (wq A) 16 :=
 { right:=.inr (.inr (.inr (.inr rfl))),size:=rfl,base:=by show (0:Int)≤0; omega,sorted:=upN_sorted 16,perm:=by simp [wq,flat],chain:=fun c hc=>(by cases hc),av:=hA,la:=hA }
theorem wq_goodB {A:Nat} (hA:A < 65536):GoodB (wq A) zReq zReq zReq zReq where
 good:=wq_good hA
 base:=rfl
 free:=fun r hr _=>by simp at hr; exact hr
 same:=rfl
def wr1 (s:Nat):Req:=⟨true,0,false,s⟩
def wq1 (A p:Nat):QQ:=addQ (wq A) (bsW p)
theorem wq1_free (A p:Nat):(wq1 A p).free=[3,4,5,6,7,8,9,10,11,12,13,14,15]:=by
 show (upN 16).drop 3=_
 rw [upN16]; rfl
theorem wq1_chains (A p:Nat):(wq1 A p).chains=[⟨0,[0,1,2],1⟩]:=by
 show [addC (wq A) (bsW p)]=_
 have h:addC (wq A) (bsW p)=⟨0,[0,1,2],1⟩:=by
  simp only [addC,bsW_room]
  show QCh.mk ((upN 16).getD 0 0) ((upN 16).take 3) 1=_
  rw [upN16]; rfl
 rw [h]
theorem wq1_good {A p:Nat} (hA:A < 65536):GoodQ (wq1 A p) 16:=addQ_good (wq_good hA) (by simp [bsW]) (by show 3≤(upN 16).length; rw [upN_length]; decide) (by rw [bsW_room]; decide)
theorem wq1_goodB {A p s:Nat} (hA:A < 65536):GoodB (wq1 A p) (wr1 s) zReq zReq zReq where
 good:=wq1_good hA
 base:=rfl
 free:=fun r hr hb=>by
  simp at hr
  rcases hr with rfl|rfl
  · cases hb
  · rfl
 same:=by rw [wq1_chains]; rfl
theorem secN16:secN 16=292:=by decide
structure WTurn (A s st:Nat) (d l1 l2:List UInt8):Prop where
 n1:l1.length=1700
 n2:l2.length=1700
 ready:Ready l1 A 0 [0,1,2] (bsW 500)
 ix:numAt l1 (0+16 * 16+2) 2=(A+1) % 65536
 ne:(A+1) % 65536≠A
 said:Said l1 500 s d
 st:numAt l2 (500+272) 1=st
 poll:∀ q2 x y E,PollSpec l2 0 16 (wq1 A 500) q2 x y E→q2=wq ((A+1) % 65536)∧x=0∧y=((1:Nat):Int)∧E=0
theorem wturn {A s st:Nat} {d l l1 l2:List UInt8} (hA:A < 65536) (hl:l.length=1700) (hd:d.length=256) (hs:s < 256) (hst:st < 256) (e1:addM (layW l 500 s d) 0 16 (wq A) (bsW 500)=l1) (e2:returnD (putAt l1 (500+272) 1 st) 0 16 A 0 1=l2):WTurn A s st d l1 l2:=by
 have hL:(layW l 500 s d).length=1700:=(layW_length s (by omega) hd).trans hl
 have hfl:(bsW 500).length≤(wq A).free.length:=by show 3≤(upN 16).length; rw [upN_length]; decide
 have hg:=wq_good hA
 have hfr:((wq A).free.getD 0 0).toNat=0:=by show ((upN 16).getD 0 0).toNat=0; rw [upN16]; rfl
 obtain ⟨k1,k2,k3⟩:=ready_add hL hg (bsW_in (p:=500) (by decide)) (by simp [bsW]) hfl
 rw [e1] at k1 k2
 rw [hfr] at k1
 have hds:(wq A).free.take (bsW 500).length=[0,1,2]:=by show (upN 16).take 3=_; rw [upN16]; rfl
 rw [hds] at k1
 have n1:=k1.len
 have hp1:(putAt l1 (500+272) 1 st).length=1700:=(putAt_length st (by omega)).trans n1
 have n2:l2.length=1700:=by rw [←e2]; exact returnD_len _ _ _ hp1
 have hsd:Said l1 500 s d:=by
  refine (layW_said (l:=l) (p:=500) (by omega) hd hs).keep (fun q j h1 h2=>?_)
  rw [←e1]
  exact part_of_drop (addM_drop hL hg hfl) (by omega)
 have hok:=ok1700 hp1
 have hus:usedI l2 0 16=(A+1) % 65536:=by
  unfold usedI
  rw [←e2,returnD_index A 0 1 hok]
 have he:=returnD_entry (l:=putAt l1 (500+272) 1 st) (B:=0) (N:=16) A A 0 1 rfl (by decide) (by decide) hok
 rw [e2] at he
 refine ⟨n1,n2,k1,k2,by omega,hsd,?_,?_⟩
 · rw [←e2,numAt_far (returnD_far A 0 1 hp1) (by decide),numAt_putAt1 (by omega) hst]
 · intro q2 x y E h
   obtain ⟨r1,r2,r3,r4⟩:=poll_is_one (a:=0) (n:=1) h (wq1_chains A 500) (by rw [hus]; rfl) hA he.1 he.2 (by decide)
   refine ⟨?_,r2,r3,r4⟩
   have hs2:=(wq1_good (p:=500) hA).seen (t:=(A+1) % 65536) (Nat.mod_lt _ (by decide))
   have hr:=relQ_good (i:=0) hs2 (by show 0 < (wq1 A 500).chains.length; rw [wq1_chains]; decide)
   have hf:=good_empty hr (by show (wq1 A 500).chains.eraseIdx 0=[]; rw [wq1_chains]; rfl)
   rw [r1]
   show relQ { wq1 A 500 with last:=(A+1) % 65536 } 0=wq ((A+1) % 65536)
   have hx:∀ q:QQ,q.base=0→q.size=16→q.free=upN 16→q.avail=(A+1) % 65536→q.last=(A+1) % 65536→q.chains=[]→q=wq ((A+1) % 65536):=by
    rintro ⟨b,z,f,a,l,c⟩ rfl rfl rfl rfl rfl rfl
    rfl
   exact hx _ rfl rfl hf rfl rfl (by show (wq1 A 500).chains.eraseIdx 0=[]; rw [wq1_chains]; rfl)
def vd7:List UInt8:=List.replicate 256 7
theorem vd7_len:vd7.length=256:=List.length_replicate
def hv1:QQ:=wq1 0 500
def hv2:QQ:=addQ hv1 (bsF 788)
def hv3:QQ:=relQ { hv2 with last:=1 } 0
def hv4:QQ:=relQ { hv3 with last:=2 } 0
def hvF:Req:=⟨true,3,true,0⟩
theorem hv2_chains:hv2.chains=[⟨0,[0,1,2],1⟩,⟨3,[3,4],1⟩]:=by
 show (wq1 0 500).chains++[addC (wq1 0 500) (bsF 788)]=_
 have h:addC (wq1 0 500) (bsF 788)=⟨3,[3,4],1⟩:=by
  simp only [addC,bsF_room,wq1_free]
  rfl
 rw [h,wq1_chains]
 rfl
theorem hv3_chains:hv3.chains=[⟨3,[3,4],1⟩]:=by
 show hv2.chains.eraseIdx 0=_
 rw [hv2_chains]
 rfl
theorem hv4_chains:hv4.chains=[]:=by
 show hv3.chains.eraseIdx 0=_
 rw [hv3_chains]
 rfl
theorem hv1_good:GoodQ hv1 16:=wq1_good (by decide)
theorem hv2_good:GoodQ hv2 16:=addQ_good hv1_good (by simp [bsF]) (by show 2≤(wq1 0 500).free.length; rw [wq1_free]; decide) (by rw [bsF_room]; decide)
theorem hv3_good:GoodQ hv3 16:=relQ_good (hv2_good.seen (by decide)) (by show 0 < hv2.chains.length; rw [hv2_chains]; decide)
theorem hv4_good:GoodQ hv4 16:=relQ_good (hv3_good.seen (by decide)) (by show 0 < hv3.chains.length; rw [hv3_chains]; decide)
theorem hv1_goodB:GoodB hv1 (wr1 1) zReq zReq zReq:=wq1_goodB (by decide)
theorem hv2_goodB:GoodB hv2 (wr1 1) hvF zReq zReq where
 good:=hv2_good
 base:=rfl
 free:=fun r hr hb=>by
  simp at hr
  rcases hr with rfl|rfl|rfl
  · cases hb
  · cases hb
  · rfl
 same:=by rw [hv2_chains]; rfl
theorem hv3_goodB:GoodB hv3 zReq hvF zReq zReq where
 good:=hv3_good
 base:=rfl
 free:=fun r hr hb=>by
  simp at hr
  rcases hr with rfl|rfl|rfl
  · rfl
  · cases hb
  · rfl
 same:=by rw [hv3_chains]; rfl
theorem hv4_goodB:GoodB hv4 zReq zReq zReq zReq where
 good:=hv4_good
 base:=rfl
 free:=fun r hr _=>by simp at hr; exact hr
 same:=by rw [hv4_chains]; rfl
structure VHeads (l1 l2 l3 l4:List UInt8):Prop where
 n1:l1.length=1700
 n2:l2.length=1700
 n3:l3.length=1700
 n4:l4.length=1700
 ready0:Ready l2 0 0 [0,1,2] (bsW 500)
 ix0:numAt l2 (0+16 * 16+2) 2=2
 said:Said l2 500 1 vd7
 poll0:∀ q2 x y E,PollSpec l3 0 16 hv2 q2 x y E→q2=hv3∧x=0∧y=((1:Nat):Int)∧E=0
 st0:numAt l3 (500+272) 1=0
 ready1:Ready l3 1 3 [3,4] (bsF 788)
 ix1:numAt l3 (0+16 * 16+2) 2=2
 poll1:∀ q2 x y E,PollSpec l4 0 16 hv3 q2 x y E→q2=hv4∧x=3∧y=((1:Nat):Int)∧E=0
 st1:numAt l4 (788+272) 1=5
 poll2:∀ q2 x y E,PollSpec l4 0 16 hv4 q2 x y E→q2=hv4∧x=0∧y=0∧E=7
theorem vheads {l0 l1 l2 l3 l4:List UInt8} (h0:l0.length=1700) (e1:addM (layW l0 500 1 vd7) 0 16 (wq 0) (bsW 500)=l1) (e2:addM (layN l1 788 4 0) 0 16 hv1 (bsF 788)=l2) (e3:returnD (putAt l2 (500+272) 1 0) 0 16 0 0 1=l3) (e4:returnD (putAt l3 (788+272) 1 5) 0 16 1 3 1=l4):VHeads l1 l2 l3 l4:=by
 have hT:=wturn (A:=0) (s:=1) (st:=0) (by decide) h0 vd7_len (by decide) (by decide) e1 rfl
 have n1:=hT.n1
 have hL:(layN l1 788 4 0).length=1700:=(layN_length 4 0 (by omega)).trans n1
 have hfl:(bsF 788).length≤hv1.free.length:=by show 2≤(wq1 0 500).free.length; rw [wq1_free]; decide
 have hg:=hv1_good
 have hfr:(hv1.free.getD 0 0).toNat=3:=by show ((wq1 0 500).free.getD 0 0).toNat=3; rw [wq1_free]; rfl
 obtain ⟨k1,k2,k3⟩:=ready_add hL hg (bsF_in (p:=788) (by decide)) (by simp [bsF]) hfl
 rw [e2] at k1 k2
 rw [hfr] at k1
 have hds:hv1.free.take (bsF 788).length=[3,4]:=by show (wq1 0 500).free.take 2=_; rw [wq1_free]; rfl
 rw [hds] at k1
 have n2:=k1.len
 have hR0:Ready (layN l1 788 4 0) 0 0 [0,1,2] (bsW 500):=hT.ready.low hL (fun q j h=>by rw [numAt,numAt,layN_other 4 0 (by omega) (by omega)])
 have hR1:Ready l2 0 0 [0,1,2] (bsW 500):=by
  rw [←e2]
  refine hR0.add hg hfl (fun k m hk hm=>?_) (by decide)
  have hf:hv1.free=[3,4,5,6,7,8,9,10,11,12,13,14,15]:=wq1_free 0 500
  rw [hf]
  have hk3:k < 3:=hk
  have hm2:m < 2:=hm
  rcases (show k=0∨k=1∨k=2 by omega) with rfl|rfl|rfl <;> rcases (show m=0∨m=1 by omega) with rfl|rfl <;> decide
 have hsd:Said l2 500 1 vd7:=by
  refine hT.said.keep (fun q j h1 h2=>?_)
  rw [←e2,part_of_drop (addM_drop hL hg hfl) (by omega),layN_other 4 0 (by omega) (by omega)]
 have hp2:(putAt l2 (500+272) 1 0).length=1700:=(putAt_length 0 (by omega)).trans n2
 have hok2:=ok1700 hp2
 have n3:l3.length=1700:=by rw [←e3]; exact returnD_len _ _ _ hp2
 have hlow3:∀ q j,q+j≤292→numAt l3 q j=numAt l2 q j:=fun q j h=>by
  rw [←e3,returnD_other 0 0 1 hok2 (.inl (by rw [secN16]; omega)),putAt_low (by omega) (by omega)]
 have hus3:usedI l3 0 16=1:=by
  unfold usedI
  rw [←e3,returnD_index 0 0 1 hok2]
 have he3:=returnD_entry (l:=putAt l2 (500+272) 1 0) (B:=0) (N:=16) 0 0 0 1 rfl (by decide) (by decide) hok2
 rw [e3] at he3
 have hp3:(putAt l3 (788+272) 1 5).length=1700:=(putAt_length 5 (by omega)).trans n3
 have hok3:=ok1700 hp3
 have n4:l4.length=1700:=by rw [←e4]; exact returnD_len _ _ _ hp3
 have hus4:usedI l4 0 16=2:=by
  unfold usedI
  rw [←e4,returnD_index 1 3 1 hok3]
 have he4:=returnD_entry (l:=putAt l3 (788+272) 1 5) (B:=0) (N:=16) 1 1 3 1 rfl (by decide) (by decide) hok3
 rw [e4] at he4
 have ix0:numAt l2 (0+16 * 16+2) 2=2:=k2
 refine ⟨n1,n2,n3,n4,hR1,ix0,hsd,?_,?_,k1.low n3 hlow3,(hlow3 _ _ (by decide)).trans ix0,?_,?_,?_⟩
 · intro q2 x y E h
   obtain ⟨r1,r2,r3,r4⟩:=poll_is_first (a:=0) (n:=1) h hv2_chains (by unfold aheadQ; rw [hus3]; decide) (by unfold aheadQ; rw [hus3,hv2_chains]; decide) he3.1 he3.2 (by decide) (by simp)
   exact ⟨r1,r2,r3,r4⟩
 · rw [←e3,numAt_far (returnD_far 0 0 1 hp2) (by decide),numAt_putAt1 (by omega) (by decide)]
 · intro q2 x y E h
   obtain ⟨r1,r2,r3,r4⟩:=poll_is_first (a:=3) (n:=1) h hv3_chains (by unfold aheadQ; rw [hus4]; decide) (by unfold aheadQ; rw [hus4,hv3_chains]; decide) he4.1 he4.2 (by decide) (by simp)
   exact ⟨r1,r2,r3,r4⟩
 · rw [←e4,numAt_far (returnD_far 1 3 1 hp3) (by decide),numAt_putAt1 (by omega) (by decide)]
 · intro q2 x y E h
   exact poll_is_none h (by unfold aheadQ; rw [hus4]; decide)
theorem write_this (q q2:QQ) (r0 r1 r2 r3 x0 x1 x2 x3:Req) (F C v dv:Value) (D:List Value) (l l2 d:List UInt8) (A La A2 H ii si:Int) (s i p:Nat) (w:World) (hv:OwnB 0 w v l) (hdv:OwnB 0 w dv d) (hdl:d.length=256) (hs2:s < 256) (hq:IsQ 0 w F C q D) (hgb:GoodB q r0 r1 r2 r3) (hl:l.length=1700) (hi:firstOf (fun r => !r.busy) r0 r1 r2 r3=(i:Nat)) (hi4:i < 4) (hp:p=500+i * 288) (hf:3≤q.free.length) (e3:((q.avail:Nat):Int)=A) (e4:((q.last:Nat):Int)=La) (e5:(((q.avail+1) % 65536:Nat):Int)=A2) (e6:q.free.getD 0 0=H) (ei:((i:Nat):Int)=ii) (es:((s:Nat):Int)=si) (h2:addM (layW l p s d) 0 16 q (bsW p)=l2) (hq2:addQ q (bsW p)=q2) (y0:upd i 0 (⟨true,H,false,s⟩:Req) r0=x0) (y1:upd i 1 (⟨true,H,false,s⟩:Req) r1=x1) (y2:upd i 2 (⟨true,H,false,s⟩:Req) r2=x2) (y3:upd i 3 (⟨true,H,false,s⟩:Req) r3=x3) :
 Calls Tryz.prog 9 #[.agg #[v],.agg (bk F C A La r0 r1 r2 r3),.int .i64 si,dv] w fun e w'=>∃ ra rc xa xn xc ya yn yc D2,e=.returned (.tuple #[.agg #[.slice ra 1700 rc],.agg (bk (.slice xa xn xc) (.slice ya yn yc) A2 La x0 x1 x2 x3),.int .i64 ii,.int .i64 0])∧OwnB 0 w' (.slice ra 1700 rc) l2∧IsQ 0 w' (.slice xa xn xc) (.slice ya yn yc) q2 D2∧Below w.heap.size w w':=by
 subst ei es h2 hq2 y0 y1 y2 y3
 refine (write_ok q r0 r1 r2 r3 F C v dv D l d A La A2 H s i p w hv hdv hdl hs2 hq hgb hl hi hi4 hp hf e3 e4 e5 e6).mono ?_
 rintro e w' ⟨ra,rc,F2,C2,D2,rfl,hm,hq,hb⟩
 obtain ⟨xa,xn,xc,ya,yn,yc,rfl,rfl,hx⟩:=hq.shape
 exact ⟨ra,rc,xa,xn,xc,ya,yn,yc,D2,rfl,hm,hq,hb⟩
theorem writeFull_this (q:QQ) (r0 r1 r2 r3:Req) (F C v dv:Value) (D:List Value) (l d:List UInt8) (A La si:Int) (s:Nat) (w:World) (hv:OwnB 0 w v l) (hdv:OwnB 0 w dv d) (hdl:d.length=256) (hs2:s < 256) (hq:IsQ 0 w F C q D) (hgb:GoodB q r0 r1 r2 r3) (hl:l.length=1700) (hi:firstOf (fun r => !r.busy) r0 r1 r2 r3 = -1) (e3:((q.avail:Nat):Int)=A) (e4:((q.last:Nat):Int)=La) (es:((s:Nat):Int)=si) :
 Calls Tryz.prog 9 #[.agg #[v],.agg (bk F C A La r0 r1 r2 r3),.int .i64 si,dv] w fun e w'=>∃ ra rc xa xn xc ya yn yc D2,e=.returned (.tuple #[.agg #[.slice ra 1700 rc],.agg (bk (.slice xa xn xc) (.slice ya yn yc) A La r0 r1 r2 r3),.int .i64 0,.int .i64 4])∧OwnB 0 w' (.slice ra 1700 rc) l∧IsQ 0 w' (.slice xa xn xc) (.slice ya yn yc) q D2∧Below w.heap.size w w':=by
 subst es
 refine (write_full q r0 r1 r2 r3 F C v dv D l d A La s w hv hdv hdl hs2 hq hgb hl hi e3 e4).mono ?_
 rintro e w' ⟨ra,rc,F2,C2,D2,rfl,hm,hq,hb⟩
 obtain ⟨xa,xn,xc,ya,yn,yc,rfl,rfl,hx⟩:=hq.shape
 exact ⟨ra,rc,xa,xn,xc,ya,yn,yc,D2,rfl,hm,hq,hb⟩
theorem blkFlush_this (q q2:QQ) (r0 r1 r2 r3 x0 x1 x2 x3:Req) (F C v:Value) (D:List Value) (l l2:List UInt8) (A La A2 H ii:Int) (i p:Nat) (w:World) (hv:OwnB 0 w v l) (hq:IsQ 0 w F C q D) (hgb:GoodB q r0 r1 r2 r3) (hl:l.length=1700) (hi:firstOf (fun r => !r.busy) r0 r1 r2 r3=(i:Nat)) (hi4:i < 4) (hp:p=500+i * 288) (hf:2≤q.free.length) (e3:((q.avail:Nat):Int)=A) (e4:((q.last:Nat):Int)=La) (e5:(((q.avail+1) % 65536:Nat):Int)=A2) (e6:q.free.getD 0 0=H) (ei:((i:Nat):Int)=ii) (h2:addM (layN l p 4 0) 0 16 q (bsF p)=l2) (hq2:addQ q (bsF p)=q2) (y0:upd i 0 (⟨true,H,true,0⟩:Req) r0=x0) (y1:upd i 1 (⟨true,H,true,0⟩:Req) r1=x1) (y2:upd i 2 (⟨true,H,true,0⟩:Req) r2=x2) (y3:upd i 3 (⟨true,H,true,0⟩:Req) r3=x3) :
 Calls Tryz.prog 18 #[.agg #[v],.agg (bk F C A La r0 r1 r2 r3)] w fun e w'=>∃ ra rc xa xn xc ya yn yc D2,e=.returned (.tuple #[.agg #[.slice ra 1700 rc],.agg (bk (.slice xa xn xc) (.slice ya yn yc) A2 La x0 x1 x2 x3),.int .i64 ii,.int .i64 0])∧OwnB 0 w' (.slice ra 1700 rc) l2∧IsQ 0 w' (.slice xa xn xc) (.slice ya yn yc) q2 D2∧Below w.heap.size w w':=by
 subst ei h2 hq2 y0 y1 y2 y3
 refine (blkFlush_ok q r0 r1 r2 r3 F C v D l A La A2 H i p w hv hq hgb hl hi hi4 hp hf e3 e4 e5 e6).mono ?_
 rintro e w' ⟨ra,rc,F2,C2,D2,rfl,hm,hq,hb⟩
 obtain ⟨xa,xn,xc,ya,yn,yc,rfl,rfl,hx⟩:=hq.shape
 exact ⟨ra,rc,xa,xn,xc,ya,yn,yc,D2,rfl,hm,hq,hb⟩
theorem done_this (q q3:QQ) (r0 r1 r2 r3 x0 x1 x2 x3:Req) (F C v:Value) (D:List Value) (l:List UInt8) (A La A3 L3 H R ii:Int) (i p n st:Nat) (w:World) (hv:OwnB 0 w v l) (hq:IsQ 0 w F C q D) (hgb:GoodB q r0 r1 r2 r3) (hl:l.length=1700) (hp:∀ q2 x y E,PollSpec l 0 16 q q2 x y E→q2=q3∧x=H∧y=(n:Nat)∧E=0) (c1:q3.base=q.base) (c2:q3.size=q.size) (hi:firstOf (fun r=>r.busy && decide (r.head=H)) r0 r1 r2 r3=(i:Nat)) (hi4:i < 4) (hpp:p=500+i * 288) (hst:numAt l (p+272) 1=st) (hn:n < 4294967296) (hr:(if st=0∧n=1 then (0:Int) else 90)=R) (e3:((q.avail:Nat):Int)=A) (e4:((q.last:Nat):Int)=La) (e5:((q3.avail:Nat):Int)=A3) (e6:((q3.last:Nat):Int)=L3) (ei:((i:Nat):Int)=ii) (y0:upd i 0 zReq r0=x0) (y1:upd i 1 zReq r1=x1) (y2:upd i 2 zReq r2=x2) (y3:upd i 3 zReq r3=x3) :
 Calls Tryz.prog 12 #[.agg #[v],.agg (bk F C A La r0 r1 r2 r3)] w fun e w'=>∃ xa xn xc ya yn yc D2,e=.returned (.tuple #[.agg (bk (.slice xa xn xc) (.slice ya yn yc) A3 L3 x0 x1 x2 x3),.int .i64 ii,.int .i64 R,.int .i64 0])∧IsQ 0 w' (.slice xa xn xc) (.slice ya yn yc) q3 D2∧Below w.heap.size w w':=by
 subst ei y0 y1 y2 y3
 refine (done_one q q3 r0 r1 r2 r3 F C v D l A La A3 L3 H R i p n st w hv hq hgb hl hp c1 c2 hi hi4 hpp hst hn hr e3 e4 e5 e6).mono ?_
 rintro e w' ⟨F2,C2,D2,rfl,hq,hb⟩
 obtain ⟨xa,xn,xc,ya,yn,yc,rfl,rfl,hx⟩:=hq.shape
 exact ⟨xa,xn,xc,ya,yn,yc,D2,rfl,hq,hb⟩
theorem doneNone_this (q:QQ) (r0 r1 r2 r3:Req) (F C v:Value) (D:List Value) (l:List UInt8) (A La:Int) (w:World) (hv:OwnB 0 w v l) (hq:IsQ 0 w F C q D) (hgb:GoodB q r0 r1 r2 r3) (hl:l.length=1700) (hp:∀ q2 x y E,PollSpec l 0 16 q q2 x y E→q2=q∧x=0∧y=0∧E=7) (e3:((q.avail:Nat):Int)=A) (e4:((q.last:Nat):Int)=La) :
 Calls Tryz.prog 12 #[.agg #[v],.agg (bk F C A La r0 r1 r2 r3)] w fun e w'=>∃ xa xn xc ya yn yc D2,e=.returned (.tuple #[.agg (bk (.slice xa xn xc) (.slice ya yn yc) A La r0 r1 r2 r3),.int .i64 0,.int .i64 0,.int .i64 7])∧IsQ 0 w' (.slice xa xn xc) (.slice ya yn yc) q D2∧Below w.heap.size w w':=by
 refine (done_none q r0 r1 r2 r3 F C v D l A La w hv hq hgb hl hp e3 e4).mono ?_
 rintro e w' ⟨F2,C2,D2,rfl,hq,hb⟩
 obtain ⟨xa,xn,xc,ya,yn,yc,rfl,rfl,hx⟩:=hq.shape
 exact ⟨xa,xn,xc,ya,yn,yc,D2,rfl,hq,hb⟩
theorem dskNew_k (n:Nat) (z:Int) (hz:((n:Nat):Int)=z) (hn:n≤256) (w:World) :
 Calls Tryz.prog 6 #[.int .i64 z] w fun e w'=>∃ sa sn sc,e=.returned (.tuple #[.agg #[.slice sa sn sc,.slice none 0 0],.int .i64 0])∧DK w' (.slice sa sn sc) (.slice none 0 0) (List.replicate n zsec) []∧Below w.heap.size w w':=by
 subst hz
 refine (refDskNew_zero n hn w).mono ?_
 rintro e w' ⟨sv,rfl,h,hb⟩
 have hd:=dk_of_zero h
 obtain ⟨a,m,k,a',m',k',rfl,_,_,_⟩:=hd.shape
 exact ⟨a,m,k,rfl,hd,hb⟩
theorem run_zeros1700 (W:World):(Instr.makeSlice 22 (.int .i64 1700) (.int .i64 1700)).run Tryz.prog W=.ok (.slice (some ⟨W.heap.size,0,none⟩) 1700 1700) (W.alloc (.cells (madeCells #[.int .u8 0] 1700) 5)):=run_zerosK 1700 (by decide) W
theorem zero_chk {n:Nat} (h:n≤256):chkB (List.replicate n zsec) []=true:=by
 refine chk_true.2 ⟨by simpa using h,by simp,fun l hl=>?_,fun x hx=>by simp at hx⟩
 rw [(List.mem_replicate.1 hl).2]
 exact zsec_len
theorem blk_load_want {w:World} {ops:Array Oper} {rest:List Oper} {o:Oper} {a:Act} {Q:Exit→Act→World→Prop} (hw:Region.wanted o (yielded ops a.tmps)=true) (x:Operand) (ho:o.op=.load 34 x) (g:Nat) (hx:a.eval x=.pointer (some ⟨g,0,none⟩)) (cs:Array Value) (hg:w.heap[g]? = some (.cells cs 34 (0,0))) (hs:cs.size=23) (h:wpList Tryz.prog ops Q rest (a.put o.dst (.agg cs)) w):wpList Tryz.prog ops Q (o::rest) a w :=
 BigFrame.wpList_want hw fun _ hK=>wp_blk_load x ho g hx cs hg hs (hK _ _ h)
def DiskAt (W:World) (g:Nat) (S:List (List UInt8)) (C:List (Int × List UInt8)):Prop:=∃ a n c b m d,W.heap[g]? = some (.cells #[.slice a n c,.slice b m d] 41 (0,0))∧DK W (.slice a n c) (.slice b m d) S C
section
variable {W W':World} {g k:Nat} {l:List UInt8} {q:QQ} {A La:Int} {r0 r1 r2 r3:Req} {cs:Array Value} {t:TypeId} {fr:Nat × Nat} {S:List (List UInt8)} {C:List (Int × List UInt8)}
theorem MemAt.far (h:MemAt W g l) (hg:W.heap[k]? = some (.cells cs t (0,0))) (ht:(t:Nat)≠5∧(t:Nat)≠24) (j:Nat) (u:Value):MemAt (W.setCell ⟨k,j,none⟩ u) g l:=by
 obtain ⟨a,c,h1,h2⟩:=h
 exact ⟨a,c,one_other h1 _ _ (blocks_ne h1 hg (fun e=>ht.2 (by rw [←e]))),h2.stay hg ht.1 j u⟩
theorem BlkAt.far (h:BlkAt W g q A La r0 r1 r2 r3) (hg:W.heap[k]? = some (.cells cs t (0,0))) (ht:(t:Nat)≠3∧(t:Nat)≠97∧(t:Nat)≠34) (j:Nat) (u:Value):BlkAt (W.setCell ⟨k,j,none⟩ u) g q A La r0 r1 r2 r3:=by
 obtain ⟨F,C,D,h1,h2⟩:=h
 exact ⟨F,C,D,one_other h1 _ _ (blocks_ne h1 hg (fun e=>ht.2.2 (by rw [←e]))),h2.stay hg ht.1 ht.2.1 j u⟩
theorem DiskAt.below (h:DiskAt W g S C) (hb:Below W.heap.size W W'):DiskAt W' g S C:=by
 obtain ⟨a,n,c,b,m,d,h1,h2⟩:=h
 exact ⟨a,n,c,b,m,d,row_keep h1 hb,h2.below hb⟩
theorem DiskAt.far (h:DiskAt W g S C) (hg:W.heap[k]? = some (.cells cs t (0,0))) (ht:((t:Nat)≠22∧(t:Nat)≠5∧(t:Nat)≠94)∧(t:Nat)≠41) (j:Nat) (u:Value):DiskAt (W.setCell ⟨k,j,none⟩ u) g S C:=by
 obtain ⟨a,n,c,b,m,d,h1,h2⟩:=h
 exact ⟨a,n,c,b,m,d,one_other h1 _ _ (blocks_ne h1 hg (fun e=>ht.2 (by rw [←e]))),h2.stay hg ht.1 j u⟩
theorem DiskAt.row (h:DiskAt W g S C) {old:Array Value} (hg:W.heap[k]? = some (.cells old 34 (0,0))) (cs:Array Value):DiskAt (W.setRow k cs) g S C:=by
 obtain ⟨a,n,c,b,m,d,h1,h2⟩:=h
 exact ⟨a,n,c,b,m,d,row_other h1 cs (blocks_ne h1 hg (by decide)),h2.row hg cs⟩
end
theorem chk_one {S:List (List UInt8)} {s:Nat} {d:List UInt8} (h:chkB S []=true) (hs:s < S.length) (hd:d.length=256):chkB S [((s:Nat),d)]=true:=by
 obtain ⟨h1,h2,h3,h4⟩:=chk_true.1 h
 exact chk_true.2 ⟨h1,by simp,h3,fun x hx=>by rw [List.mem_singleton.1 hx]; exact ⟨by simp,by show ((s:Nat):Int) < _; omega,hd⟩⟩
theorem wf_zero {S:List (List UInt8)} {C:List (Int × List UInt8)} {s:Nat} (h:chkB S C=true) (hs:s < S.length) (hc:C.length < 512):wFault S C (s:Nat) 256=0:=by
 have h1:dFault S C (s:Nat)=0:=by
  unfold dFault
  rw [if_pos h,if_pos (by omega)]
 unfold wFault
 rw [if_pos h1,if_pos rfl,if_neg (by omega)]
theorem write_one {S:List (List UInt8)} {C:List (Int × List UInt8)} {s:Nat} {d:List UInt8} (h:chkB S C=true) (hs:s < S.length) (hc:C.length < 512) (hd:d.length=256):writeOf S C (s:Nat) d=C++[(((s:Nat):Int),d)]:=by
 unfold writeOf
 rw [hd,if_pos (wf_zero h hs hc)]
theorem read_one {S:List (List UInt8)} {s:Nat} {d:List UInt8} (h:chkB S []=true) (hs:s < S.length) (hd:d.length=256):(if dFault S [((s:Nat),d)] (s:Nat)=0 then (settledOf S [((s:Nat),d)] every).getD ((s:Nat):Int).toNat [] else [])=d:=by
 have h1:dFault S [((s:Nat),d)] (s:Nat)=0:=by
  unfold dFault
  rw [if_pos (chk_one h hs hd),if_pos (by omega)]
 rw [if_pos h1]
 show (S.set ((s:Nat):Int).toNat d).getD ((s:Nat):Int).toNat []=d
 rw [Int.toNat_natCast,List.getD_eq_getElem?_getD,List.getElem?_set_self hs]
 rfl
section
variable (v sv cv:Value) (l1 l2 l3 l4:List UInt8) (S:List (List UInt8)) (w:World)
theorem serve_one (hv:OwnB 0 w v l2) (hd:DK w sv cv S []) (hk:chkB S []=true) (hs:S.length=4) (hF:VHeads l1 l2 l3 l4) (e3:returnD (putAt l2 (500+272) 1 0) 0 16 0 0 1=l3) :
 Calls Tryz.prog 11 #[.agg #[v],.agg #[.int .i64 0,.int .i64 16,.int .u16 0,.int .u16 0],.agg #[sv,cv],.int .i64 0] w fun e w'=>∃ ra rc sa sn sc ca cn cc,e=.returned (.tuple #[.agg #[.slice ra 1700 rc],.agg #[.int .i64 0,.int .i64 16,.int .u16 1,.int .u16 1],.agg #[.slice sa sn sc,.slice ca cn cc],.int .i64 0])∧OwnB 0 w' (.slice ra 1700 rc) l3∧DK w' (.slice sa sn sc) (.slice ca cn cc) S [(1,vd7)]∧Below w.heap.size w w':=by
 subst e3
 exact serve_ok v sv cv l2 S [] [(1,vd7)] [0,1,2] (bsW 500) 0 0 2 0 3 2 772 0 0 500 0 0 0 1 1 0 false w hv hd hk hF.ready0 (by decide) (by decide) hF.ix0 (by decide) (bsW_in (by decide)) rfl rfl (by decide) rfl rfl (by decide) rfl (by decide) (by decide) (.inr ⟨rfl,500,1,vd7,0,rfl,by decide,hF.said,by decide,wf_zero (s:=1) hk (by omega) (by decide),rfl,(write_one (s:=1) hk (by omega) (by decide) vd7_len).symm⟩) rfl rfl rfl rfl rfl (by decide)
theorem serve_two (hv:OwnB 0 w v l3) (hd:DK w sv cv S [(1,vd7)]) (hk:chkB S []=true) (hs:S.length=4) (hF:VHeads l1 l2 l3 l4) (e4:returnD (putAt l3 (788+272) 1 5) 0 16 1 3 1=l4) :
 Calls Tryz.prog 11 #[.agg #[v],.agg #[.int .i64 0,.int .i64 16,.int .u16 1,.int .u16 1],.agg #[sv,cv],.int .i64 5] w fun e w'=>∃ ra rc sa sn sc ca cc,e=.returned (.tuple #[.agg #[.slice ra 1700 rc],.agg #[.int .i64 0,.int .i64 16,.int .u16 2,.int .u16 2],.agg #[.slice sa sn sc,.slice ca 1 cc],.int .i64 0])∧OwnB 0 w' (.slice ra 1700 rc) l4∧DK w' (.slice sa sn sc) (.slice ca 1 cc) S [(1,vd7)]∧Below w.heap.size w w':=by
 subst e4
 refine (serve_ok v sv cv l3 S [(1,vd7)] [(1,vd7)] [3,4] (bsF 788) 1 1 2 3 2 1 1060 5 5 788 5 1 1 2 2 3 false w hv hd (chk_one (s:=1) hk (by omega) vd7_len) hF.ready1 (by decide) (by decide) hF.ix1 (by decide) (bsF_in (by decide)) rfl rfl (by decide) rfl rfl (by decide) rfl (by decide) (by decide) (.inl ⟨by decide,rfl,rfl⟩) rfl rfl rfl rfl rfl (by decide)).mono ?_
 rintro e w' ⟨ra,rc,sa,sn,sc,ca,cn,cc,rfl,h1,h2,hb⟩
 obtain ⟨a,n,c,b,m,d,e1,e2,e3,e4⟩:=h2.shape
 injection e2 with e5 e6 e7
 have hcn:cn=1:=e6.trans e4
 subst hcn
 exact ⟨ra,rc,sa,sn,sc,ca,cc,rfl,h1,h2,hb⟩
theorem read_two (hd:DK w sv cv S [(1,vd7)]) (hk:chkB S []=true) (hs:S.length=4) :
 Calls Tryz.prog 13 #[.agg #[sv,cv],.int .i64 1] w fun e w'=>∃ a c,e=.returned (.tuple #[.slice a 256 c,.int .i64 0])∧OwnB 0 w' (.slice a 256 c) vd7∧Below w.heap.size w w':=by
 have h1:dFault S [(1,vd7)] 1=0:=by
  unfold dFault
  have h2:chkB S [(1,vd7)]=true:=chk_one (s:=1) hk (by omega) vd7_len
  rw [if_pos h2,if_pos (by omega)]
 have h3:=read_one (s:=1) (d:=vd7) hk (by omega) vd7_len
 refine (refRead_dk sv cv S [(1,vd7)] w hd 1 0 h1 vd7 h3).mono ?_
 rintro e w' ⟨a,n,c,rfl,h,hn,hb⟩
 rw [vd7_len] at hn
 subst hn
 exact ⟨a,c,rfl,h,hb⟩
end
structure BlkHeadA where
 (b0 b1 b2 b3 b4 b5 b6 b7 b8 b9 b10 b11 b12:Bool)
 (s39 s40 s41 s42 s38 s43 s44 s45 s46 s6 s7:Value)
structure BlkHeadB where
 (b0 b1 b2 b3 b4 b5 b6 b7 b8 b9 b10 b11 b12 b13:Bool)
 (s56 s57 s58 s59 s55 s60 s61 s62 s63 s10 s11:Value)
set_option maxHeartbeats 2000000 in
set_option maxRecDepth 100000 in
theorem blkHeads_any (w:World):Calls Tryz.prog 8 #[] w fun e w'=>e=.returned (.bool true)∧Below w.heap.size w w':=by
 obtain ⟨z0,hz0⟩:∃ l:List UInt8,l=List.replicate 1700 0:=⟨_,rfl⟩
 have hn0:z0.length=1700:=by rw [hz0]; simp
 obtain ⟨l0,hl0⟩:∃ l,zeroM z0 0 16=l:=⟨_,rfl⟩
 have hn1:l0.length=1700:=by rw [←hl0,zeroM_length (ok1700 hn0),hn0]
 obtain ⟨l1,h1⟩:∃ G,addM (layW l0 500 1 vd7) 0 16 (wq 0) (bsW 500)=G:=⟨_,rfl⟩
 obtain ⟨l2,h2⟩:∃ G,addM (layN l1 788 4 0) 0 16 hv1 (bsF 788)=G:=⟨_,rfl⟩
 obtain ⟨l3,h3⟩:∃ G,returnD (putAt l2 (500+272) 1 0) 0 16 0 0 1=G:=⟨_,rfl⟩
 obtain ⟨l4,h4⟩:∃ G,returnD (putAt l3 (788+272) 1 5) 0 16 1 3 1=G:=⟨_,rfl⟩
 have HF:=Zh (vheads hn1 h1 h2 h3 h4)
 have HN0:=Zh hn0
 have HN1:=Zh hn1
 have HL0:=Zh hl0
 have H1:=Zh h1
 have H2:=Zh h2
 have H3:=Zh h3
 have H4:=Zh h4
 have hzz:=zerosK_own w 1700 (by decide)
 rw [←hz0] at hzz
 have AM:=Zh hzz
 have BW:=Zh ((Below.refl w.heap.size w).alloc (Nat.le_refl _) (.cells (madeCells #[.int .u8 0] 1700) 5))
 have hmk:=run_zeros1700
 clear hz0 hn0 hl0 hn1 h1 h2 h3 h4 hzz
 go_enter Tryz.func8,Tryz.ntmps8
 go_wp2_with fail
 refine (blkNew_this _ z0 _ AM.out HN0.out).mono ?_
 rintro e w1 ⟨aa,ca,F2,C2,rfl,hm,hq,hb⟩
 obtain ⟨xa,xn,xc,ya,yn,yc,rfl,rfl,hx⟩:=hq.shape
 clear hx hmk
 rw [HL0.out] at hm
 replace AM:=Zh (AM.out.below hb)
 replace BW:=Zb BW hb
 have AV:=Zh hm
 have QA:=Zh hq
 clear hm hq hb
 clear AM
 have hz1:(w1.alloc (.cells #[.slice aa 1700 ca] 24)).heap.size=w1.heap.size+1:=by simp
 have LRM:=Zh (show w.heap.size≤w1.heap.size from BW.out.size)
 have LRB:=Zh (show w.heap.size≤w1.heap.size+1 from Nat.le_succ_of_le BW.out.size)
 obtain ⟨t0,t1,hb⟩:=two_boxes w1 #[.slice aa 1700 ca] (bk (.slice xa xn xc) (.slice ya yn yc) 0 0 zReq zReq zReq zReq) 24 34
 replace BW:=Zb BW hb
 replace AV:=Zh (AV.out.below hb)
 replace QA:=Zh (QA.out.below hb)
 have RM:=Zh t0
 have RB:=Zh t1
 clear t0 t1 hb
 go_wp2_with (refine blk_store_new rfl _ _ rfl (w1.alloc (.cells #[.slice aa 1700 ca] 24)) (w1.heap.size+1) hz1 (bk (.slice xa xn xc) (.slice ya yn yc) 0 0 zReq zReq zReq zReq) rfl rfl _ rfl rfl rfl (bk_one rfl rfl) ?_)
 obtain ⟨w2,hw2⟩:∃ x,x=((w1.alloc (.cells #[.slice aa 1700 ca] 24)).alloc (.cells (bk (.slice xa xn xc) (.slice ya yn yc) 0 0 zReq zReq zReq zReq) 34)):=⟨_,rfl⟩
 rw [←hw2] at BW AV QA RM RB ⊢
 clear hw2
 clear hz1
 refine (dskNew_k 4 4 rfl (by decide) _).mono ?_
 rintro e w3 ⟨sa,sn,sc,rfl,hd,hb⟩
 replace BW:=Zb BW hb
 replace AV:=Zh (AV.out.below hb)
 replace QA:=Zh (QA.out.below hb)
 replace RM:=Zk RM hb
 replace RB:=Zk RB hb
 have DD:=Zh hd
 clear hd hb
 obtain ⟨S,hS⟩:∃ S,S=List.replicate 4 zsec:=⟨_,rfl⟩
 have hk0:chkB S []=true:=by rw [hS]; exact zero_chk (by decide)
 have hsl:S.length=4:=by rw [hS]; simp
 rw [←hS] at DD
 have HK0:=Zh hk0
 have HSL:=Zh hsl
 clear hS hk0 hsl
 have LRD:=Zh (show w.heap.size≤w3.heap.size from BW.out.size)
 have hb:Below w3.heap.size w3 (w3.alloc (.cells #[.slice sa sn sc,.slice none 0 0] 41)):=(Below.refl _ _).alloc (Nat.le_refl _) _
 replace BW:=Zb BW hb
 replace AV:=Zh (AV.out.below hb)
 replace QA:=Zh (QA.out.below hb)
 replace RM:=Zk RM hb
 replace RB:=Zk RB hb
 replace DD:=Zh (DD.out.below hb)
 have RD:=Zh (heap_alloc_new w3 (.cells #[.slice sa sn sc,.slice none 0 0] 41))
 clear hb
 go_wp2_with fail
 obtain ⟨w4,hw4⟩:∃ x,x=(w3.alloc (.cells #[.slice sa sn sc,.slice none 0 0] 41)):=⟨_,rfl⟩
 rw [←hw4] at BW AV QA RM RB DD RD ⊢
 clear hw4
 refine wp_region_rec (X:=BlkHeadA) (by kernel_rfl) (by kernel_rfl) (fun x=>#[x.b0,x.b1,x.b2,x.b3,x.b4,x.b5,x.b6,x.b7,x.b8,x.b9,x.b10,x.b11,x.b12]) (fun x=>{ tmps:=List.toArray ((.bool false)::(.pointer (some ⟨w1.heap.size,0,none⟩))::(.pointer (some ⟨w1.heap.size+1,0,none⟩))::(.int .i64 0)::(.pointer (some ⟨w3.heap.size,0,none⟩))::(.int .i64 0)::x.s6::x.s7::undef::undef::undef::undef::undef::undef::undef::undef::undef::undef::undef::undef::undef::undef::undef::undef::undef::undef::undef::(.tuple #[.agg #[.slice aa 1700 ca],.agg (bk (.slice xa xn xc) (.slice ya yn yc) 0 0 zReq zReq zReq zReq),.int .i64 0])::(.slice (some ⟨w.heap.size,0,none⟩) 1700 1700)::(.agg #[.slice (some ⟨w.heap.size,0,none⟩) 1700 1700])::(.tuple #[.agg #[.slice aa 1700 ca],.agg (bk (.slice xa xn xc) (.slice ya yn yc) 0 0 zReq zReq zReq zReq),.int .i64 0])::(.agg #[.slice aa 1700 ca])::(.agg (bk (.slice xa xn xc) (.slice ya yn yc) 0 0 zReq zReq zReq zReq))::(.int .i64 0)::(.tuple #[.agg #[.slice sa sn sc,.slice none 0 0],.int .i64 0])::(.tuple #[.agg #[.slice sa sn sc,.slice none 0 0],.int .i64 0])::(.agg #[.slice sa sn sc,.slice none 0 0])::(.int .i64 0)::x.s38::x.s39::x.s40::x.s41::x.s42::x.s43::x.s44::x.s45::x.s46::undef::undef::undef::undef::undef::undef::undef::undef::undef::undef::undef::undef::undef::undef::undef::undef::undef::undef::undef::undef::undef::undef::undef::undef::undef::undef::undef::undef::undef::undef::undef::undef::undef::undef::undef::undef::undef::undef::undef::undef::undef::undef::undef::undef::undef::undef::undef::undef::undef::undef::undef::undef::undef::undef::undef::undef::undef::undef::undef::undef::undef::undef::undef::undef::undef::undef::undef::undef::undef::undef::undef::undef::undef::undef::undef::undef::undef::undef::undef::undef::undef::undef::undef::undef::undef::undef::undef::undef::undef::undef::undef::undef::undef::undef::undef::undef::undef::undef::undef::undef::undef::undef::undef::undef::undef::undef::undef::undef::undef::undef::undef::undef::undef::undef::undef::undef::undef::undef::undef::undef::undef::undef::undef::undef::undef::undef::undef::undef::undef::[]),defers:=[] }) (fun x W=>(x.b0→x.s39=.agg #[.slice aa 1700 ca])∧(x.b1→x.s40=.agg (bk (.slice xa xn xc) (.slice ya yn yc) 0 0 zReq zReq zReq zReq))∧(x.b4→x.s38=x.s42)∧(x.b7→x.s45=.int .i64 0)∧(x.b8→x.s46=.int .i64 0)∧(x.b11→x.s6=.int .i64 0)∧(x.b12→x.s7=.int .i64 0)∧(x.b9→x.b0∧x.b2∧x.b3)∧(x.b10→x.b1∧x.b2∧x.b3∧x.b9)∧(x.b4→x.b2∧x.b3)∧(x.b3→x.b2)∧(x.b5→x.b2∧x.b3)∧(x.b6→x.b2∧x.b3)∧(x.b9=false→W.heap[w1.heap.size]? = some (.cells #[.slice aa 1700 ca] 24 (0,0)))∧(x.b10=false→W.heap[w1.heap.size+1]? = some (.cells (bk (.slice xa xn xc) (.slice ya yn yc) 0 0 zReq zReq zReq zReq) 34 (0,0)))∧(W.heap[w3.heap.size]? = some (.cells #[.slice sa sn sc,.slice none 0 0] 41 (0,0)))∧(Below w.heap.size w W)∧(OwnB 0 W (.slice aa 1700 ca) l0)∧(IsQ 0 W (.slice xa xn xc) (.slice ya yn yc) (newQ 0 16) [])∧(DK W (.slice sa sn sc) (.slice none 0 0) S [])∧(x.b2→∃ gs,x.s41=.slice (some ⟨gs,0,none⟩) 256 256∧OwnB 0 W (.slice (some ⟨gs,0,none⟩) 256 256) vd7)∧(x.b3→∃ ma mc pa pn pc ra2 rn2 rc2 D2,x.s42=.tuple #[.agg #[.slice ma 1700 mc],.agg (bk (.slice pa pn pc) (.slice ra2 rn2 rc2) 1 0 (wr1 1) zReq zReq zReq),.int .i64 0,.int .i64 0]∧OwnB 0 W (.slice ma 1700 mc) l1∧IsQ 0 W (.slice pa pn pc) (.slice ra2 rn2 rc2) hv1 D2)∧(x.b5→∃ ma mc,x.s43=.agg #[.slice ma 1700 mc]∧OwnB 0 W (.slice ma 1700 mc) l1)∧(x.b6→∃ pa pn pc ra2 rn2 rc2 D2,x.s44=.agg (bk (.slice pa pn pc) (.slice ra2 rn2 rc2) 1 0 (wr1 1) zReq zReq zReq)∧IsQ 0 W (.slice pa pn pc) (.slice ra2 rn2 rc2) hv1 D2)∧(x.b9→MemAt W (w1.heap.size) l1)∧(x.b10→BlkAt W (w1.heap.size+1) hv1 1 0 (wr1 1) zReq zReq zReq)) ⟨false,false,false,false,false,false,false,false,false,false,false,false,false,undef,undef,undef,undef,undef,undef,undef,undef,undef,undef,undef⟩ rfl rfl ⟨Zf,Zf,Zf,Zf,Zf,Zf,Zf,Zf,Zf,Zf,Zf,Zf,Zf,(fun _=>RM.out),(fun _=>RB.out),RD.out,BW.out.drew,AV.out.drew,QA.out.drew,DD.out.drew,Zf,Zf,Zf,Zf,Zf,Zf⟩ (fun _=>rfl) ?hstep ?hdone
 case hstep =>
  rintro ⟨b0,b1,b2,b3,b4,b5,b6,b7,b8,b9,b10,b11,b12,s39,s40,s41,s42,s38,s43,s44,s45,s46,s6,s7⟩ W hI i hi
  dsimp only at hI hi ⊢
  have HI:=Zh hI
  clear hI
  rw [Region.ready,List.mem_filter,List.mem_range] at hi
  obtain ⟨hlt,hp⟩:=hi
  have hi7:i=0∨i=1∨i=2∨i=3∨i=4∨i=5∨i=6∨i=7∨i=8∨i=9∨i=10∨i=11∨i=12:=by simp at hlt; omega
  clear hlt
  rcases hi7 with rfl|rfl|rfl|rfl|rfl|rfl|rfl|rfl|rfl|rfl|rfl|rfl|rfl
  all_goals simp [Region.binds] at hp
  · obtain rfl:b0=false:=by revert hp; cases b0 <;> simp
    clear hp; refine Zv 39 fun K' hK'=>?_
    have gi9:=(Zd HI.out).2.2.2.1
    have rM0:=(Zd (Ze HI.out)).2.1
    obtain rfl:b9=false:=Zz fun e=>(gi9 e).1
    obtain ⟨hc0,_⟩:=at_cell (rM0 rfl) 0 _ rfl
    go_simp
    obtain ⟨h0,h1,h4,h7,h8,h11,h12,gi9,gi10,gi4,gi3,gi5,gi6,rM0,rB0,rD,gB,gV,gQ,gD,gS,gP,gX,gY,gA,gE⟩:=HI.out
    exact hK'.out _ _ ⟨.mk ..,rfl,rfl,(fun _=>rfl),h1,h4,h7,h8,h11,h12,Zf,gi10,gi4,gi3,gi5,gi6,rM0,rB0,rD,gB,gV,gQ,gD,gS,gP,gX,gY,Zf,gE⟩
  · obtain rfl:b1=false:=by revert hp; cases b1 <;> simp
    clear hp; refine Zv 40 fun K' hK'=>?_
    have gi10:=(Ze HI.out).1
    have rB0:=(Zd (Ze HI.out)).2.2.1
    obtain rfl:b10=false:=Zz fun e=>(gi10 e).1
    refine step_blk_load rfl _ rfl _ rfl _ (rB0 rfl) rfl ?_
    obtain ⟨h0,h1,h4,h7,h8,h11,h12,gi9,gi10,gi4,gi3,gi5,gi6,rM0,rB0,rD,gB,gV,gQ,gD,gS,gP,gX,gY,gA,gE⟩:=HI.out
    exact hK'.out _ _ ⟨.mk ..,rfl,rfl,h0,(fun _=>rfl),h4,h7,h8,h11,h12,gi9,Zf,gi4,gi3,gi5,gi6,rM0,rB0,rD,gB,gV,gQ,gD,gS,gP,gX,gY,gA,Zf⟩
  · obtain rfl:b2=false:=by revert hp; cases b2 <;> simp
    clear hp; refine Zv 41 fun K' hK'=>?_
    have gi9:=(Zd HI.out).2.2.2.1
    have gi10:=(Ze HI.out).1
    have gi4:=(Ze HI.out).2.1
    have gi3:=(Ze HI.out).2.2.1
    have gi5:=(Ze HI.out).2.2.2.1
    have gi6:=(Zd (Ze HI.out)).1
    obtain rfl:b9=false:=Zz fun e=>(gi9 e).2.1
    obtain rfl:b10=false:=Zz fun e=>(gi10 e).2.1
    obtain rfl:b4=false:=Zz fun e=>(gi4 e).1
    obtain rfl:b3=false:=Zz fun e=>(gi3 e)
    obtain rfl:b5=false:=Zz fun e=>(gi5 e).1
    obtain rfl:b6=false:=Zz fun e=>(gi6 e).1
    go_simp
    refine (sector9_any 7 W).mono ?_
    rintro e w5 ⟨gs,rfl,hsc,bn⟩
    obtain ⟨h0,h1,h4,h7,h8,h11,h12,gi9,gi10,gi4,gi3,gi5,gi6,rM0,rB0,rD,gB,gV,gQ,gD,gS,gP,gX,gY,gA,gE⟩:=HI.out
    exact hK'.out _ _ ⟨.mk ..,rfl,rfl,h0,h1,h4,h7,h8,h11,h12,Zf,Zf,Zf,Zf,Zf,Zf,(fun e=>row_keep (rM0 e) bn),(fun e=>row_keep (rB0 e) bn),(row_keep rD bn),(gB.trans (bn.mono gB.size)),(gV.below bn),(gQ.below bn),(gD.below bn),(fun _=>⟨gs,rfl,hsc⟩),Zf,Zf,Zf,Zf,Zf⟩
  · have hn3:b3=false:=by revert hp; cases b3 <;> simp
    have e0:b0=true:=by revert hp; cases b0 <;> simp
    have e1:b1=true:=by revert hp; cases b1 <;> simp
    have e2:b2=true:=by revert hp; cases b2 <;> simp
    clear hp
    obtain rfl:=(HI.out.1) e0
    obtain rfl:=(HI.out.2.1) e1
    subst hn3
    refine Zv 42 fun K' hK'=>?_
    have gi9:=(Zd HI.out).2.2.2.1
    have gi10:=(Ze HI.out).1
    have gi4:=(Ze HI.out).2.1
    have gi5:=(Ze HI.out).2.2.2.1
    have gi6:=(Zd (Ze HI.out)).1
    have gV:=(Zg HI.out).2.1
    have gQ:=(Zg HI.out).2.2.1
    have gS:=(Zd (Zg HI.out)).1
    obtain rfl:b9=false:=Zz fun e=>(gi9 e).2.2
    obtain rfl:b10=false:=Zz fun e=>(gi10 e).2.2.1
    obtain rfl:b4=false:=Zz fun e=>(gi4 e).2
    obtain rfl:b5=false:=Zz fun e=>(gi5 e).2
    obtain rfl:b6=false:=Zz fun e=>(gi6 e).2
    obtain ⟨gs,rfl,hsc⟩:=gS e2
    go_simp
    refine (write_this (wq 0) hv1 zReq zReq zReq zReq (wr1 1) zReq zReq zReq _ _ _ _ [] l0 l1 vd7 0 0 1 0 0 1 1 0 500 W gV hsc vd7_len (by decide) gQ (wq_goodB (by decide)) HN1.out rfl (by decide) rfl (by decide) rfl rfl rfl (by decide) rfl rfl H1.out rfl rfl rfl rfl rfl).mono ?_
    rintro e w5 ⟨ma,mc,pa,pn,pc,ra2,rn2,rc2,D2,rfl,hm,hq,bn⟩
    obtain ⟨h0,h1,h4,h7,h8,h11,h12,gi9,gi10,gi4,gi3,gi5,gi6,rM0,rB0,rD,gB,gV,gQ,gD,gS,gP,gX,gY,gA,gE⟩:=HI.out
    exact hK'.out _ _ ⟨.mk ..,rfl,rfl,h0,h1,(fun e=>by cases ((gi4 e).2)),h7,h8,h11,h12,Zf,Zf,Zf,(fun _=>e2),Zf,Zf,(fun e=>row_keep (rM0 e) bn),(fun e=>row_keep (rB0 e) bn),(row_keep rD bn),(gB.trans (bn.mono gB.size)),(gV.below bn),(gQ.below bn),(gD.below bn),(fun _=>⟨gs,rfl,hsc.below bn⟩),(fun _=>⟨_,_,_,_,_,_,_,_,_,rfl,hm,hq⟩),Zf,Zf,Zf,Zf⟩
  · obtain ⟨rfl,e3⟩:b4=false∧b3=true:=by revert hp; cases b4 <;> cases b3 <;> simp
    clear hp; refine Zv 38 fun K' hK'=>?_
    go_simp
    obtain ⟨h0,h1,h4,h7,h8,h11,h12,gi9,gi10,gi4,gi3,gi5,gi6,rM0,rB0,rD,gB,gV,gQ,gD,gS,gP,gX,gY,gA,gE⟩:=HI.out
    exact hK'.out _ _ ⟨.mk ..,rfl,rfl,h0,h1,(fun _=>rfl),h7,h8,h11,h12,gi9,gi10,(fun _=>⟨(gi3 e3),e3⟩),gi3,gi5,gi6,rM0,rB0,rD,gB,gV,gQ,gD,gS,gP,gX,gY,gA,gE⟩
  · obtain ⟨rfl,e4⟩:b5=false∧b4=true:=by revert hp; cases b5 <;> cases b4 <;> simp
    clear hp
    obtain rfl:=(HI.out.2.2.1) e4
    refine Zv 43 fun K' hK'=>?_
    have gi4:=(Ze HI.out).2.1
    have gP:=(Zd (Zg HI.out)).2.1
    obtain ⟨ma,mc,pa,pn,pc,ra2,rn2,rc2,D2,rfl,hp,hq⟩:=gP ((gi4 e4).2)
    go_simp
    obtain ⟨h0,h1,h4,h7,h8,h11,h12,gi9,gi10,gi4,gi3,gi5,gi6,rM0,rB0,rD,gB,gV,gQ,gD,gS,gP,gX,gY,gA,gE⟩:=HI.out
    exact hK'.out _ _ ⟨.mk ..,rfl,rfl,h0,h1,h4,h7,h8,h11,h12,gi9,gi10,gi4,gi3,(fun _=>⟨(gi4 e4).1,(gi4 e4).2⟩),gi6,rM0,rB0,rD,gB,gV,gQ,gD,gS,(fun _=>⟨_,_,_,_,_,_,_,_,_,rfl,hp,hq⟩),(fun _=>⟨ma,mc,rfl,hp⟩),gY,gA,gE⟩
  · obtain ⟨rfl,e4⟩:b6=false∧b4=true:=by revert hp; cases b6 <;> cases b4 <;> simp
    clear hp
    obtain rfl:=(HI.out.2.2.1) e4
    refine Zv 44 fun K' hK'=>?_
    have gi4:=(Ze HI.out).2.1
    have gP:=(Zd (Zg HI.out)).2.1
    obtain ⟨ma,mc,pa,pn,pc,ra2,rn2,rc2,D2,rfl,hp,hq⟩:=gP ((gi4 e4).2)
    go_simp
    obtain ⟨h0,h1,h4,h7,h8,h11,h12,gi9,gi10,gi4,gi3,gi5,gi6,rM0,rB0,rD,gB,gV,gQ,gD,gS,gP,gX,gY,gA,gE⟩:=HI.out
    exact hK'.out _ _ ⟨.mk ..,rfl,rfl,h0,h1,h4,h7,h8,h11,h12,gi9,gi10,gi4,gi3,gi5,(fun _=>⟨(gi4 e4).1,(gi4 e4).2⟩),rM0,rB0,rD,gB,gV,gQ,gD,gS,(fun _=>⟨_,_,_,_,_,_,_,_,_,rfl,hp,hq⟩),gX,(fun _=>⟨_,_,_,_,_,_,_,rfl,hq⟩),gA,gE⟩
  · obtain ⟨rfl,e4⟩:b7=false∧b4=true:=by revert hp; cases b7 <;> cases b4 <;> simp
    clear hp
    obtain rfl:=(HI.out.2.2.1) e4
    refine Zv 45 fun K' hK'=>?_
    have gi4:=(Ze HI.out).2.1
    have gP:=(Zd (Zg HI.out)).2.1
    obtain ⟨ma,mc,pa,pn,pc,ra2,rn2,rc2,D2,rfl,hp,hq⟩:=gP ((gi4 e4).2)
    go_simp
    exact hK'.out _ _ ⟨.mk ..,rfl,rfl,Nxt (Nx4 (Nx16 (Upd (fun _=>⟨_,_,_,_,_,_,_,_,_,rfl,hp,hq⟩)))) (Nxt (Nxt (Nxt (Upd (fun _=>rfl)))) HI.out)⟩
  · obtain ⟨rfl,e4⟩:b8=false∧b4=true:=by revert hp; cases b8 <;> cases b4 <;> simp
    clear hp
    obtain rfl:=(HI.out.2.2.1) e4
    refine Zv 46 fun K' hK'=>?_
    have gi4:=(Ze HI.out).2.1
    have gP:=(Zd (Zg HI.out)).2.1
    obtain ⟨ma,mc,pa,pn,pc,ra2,rn2,rc2,D2,rfl,hp,hq⟩:=gP ((gi4 e4).2)
    go_simp
    exact hK'.out _ _ ⟨.mk ..,rfl,rfl,Nxt (Nx4 (Nx16 (Upd (fun _=>⟨_,_,_,_,_,_,_,_,_,rfl,hp,hq⟩)))) (Nx4 (Upd (fun _=>rfl)) HI.out)⟩
  · have hn9:b9=false:=by revert hp; cases b9 <;> simp
    have e5:b5=true:=by revert hp; cases b5 <;> simp
    have e3:b3=true:=by revert hp; cases b3 <;> simp
    have e0:b0=true:=by revert hp; cases b0 <;> simp
    have e2:b2=true:=by revert hp; cases b2 <;> simp
    clear hp
    subst hn9
    refine inv_op (o:=⟨none,_,_,_,_,_⟩) rfl (fun K' hK'=>?_)
    have gi10:=(Ze HI.out).1
    have rM0:=(Zd (Ze HI.out)).2.1
    have gX:=(Zd (Zg HI.out)).2.2.1
    obtain rfl:b10=false:=Zz fun e=>(gi10 e).2.2.2
    obtain ⟨ma,mc,rfl,hx⟩:=gX e5
    obtain ⟨hc0,hz0⟩:=at_cell (rM0 rfl) 0 _ rfl
    have hlt:=(Array.getElem?_eq_some_iff.1 (rM0 rfl)).1
    go_simp
    obtain ⟨h0,h1,h4,h7,h8,h11,h12,gi9,gi10,gi4,gi3,gi5,gi6,rM0,rB0,rD,gB,gV,gQ,gD,gS,gP,gX,gY,gA,gE⟩:=HI.out
    exact hK'.out _ _ ⟨.mk ..,rfl,rfl,h0,h1,h4,h7,h8,h11,h12,(fun _=>⟨e0,e2,e3⟩),Zf,gi4,gi3,gi5,gi6,Zf,(fun e=>(Zp1 (rB0 e) (Zn (rB0 e) (rM0 rfl)))),(Zp1 rD (Zn rD (rM0 rfl))),(Zu1 gB LRM.out),(gV.stay (rM0 rfl) (by decide) _ _),(gQ.stay (rM0 rfl) (by decide) (by decide) _ _),(gD.stay (rM0 rfl) (by decide) _ _),(fun e=>by obtain ⟨y0,h1,hX⟩:=gS e; exact ⟨y0,h1,hX.stay (rM0 rfl) (by decide) 0 (.slice ma 1700 mc)⟩),(fun e=>by obtain ⟨y0,y1,y2,y3,y4,y5,y6,y7,y8,h1,hX,hY⟩:=gP e; exact ⟨y0,y1,y2,y3,y4,y5,y6,y7,y8,h1,hX.stay (rM0 rfl) (by decide) 0 (.slice ma 1700 mc),hY.stay (rM0 rfl) (by decide) (by decide) 0 (.slice ma 1700 mc)⟩),(fun _=>⟨ma,mc,rfl,hx.stay (rM0 rfl) (by decide) 0 (.slice ma 1700 mc)⟩),(fun e=>by obtain ⟨y0,y1,y2,y3,y4,y5,y6,h1,h2⟩:=gY e; exact ⟨y0,y1,y2,y3,y4,y5,y6,h1,(h2.stay (rM0 rfl) (by decide) (by decide) _ _)⟩),(fun _=>⟨ma,mc,row_put (rM0 rfl) 0 (.slice ma 1700 mc),hx.stay (rM0 rfl) (by decide) 0 (.slice ma 1700 mc)⟩),Zf⟩
  · have hn10:b10=false:=by revert hp; cases b10 <;> simp
    have e6:b6=true:=by revert hp; cases b6 <;> simp
    have e9:b9=true:=by revert hp; cases b9 <;> simp
    have e1:b1=true:=by revert hp; cases b1 <;> simp
    have e2:b2=true:=by revert hp; cases b2 <;> simp
    have e3:b3=true:=by revert hp; cases b3 <;> simp
    clear hp
    subst hn10
    refine inv_op (o:=⟨none,_,_,_,_,_⟩) rfl (fun K' hK'=>?_)
    have rB0:=(Zd (Ze HI.out)).2.2.1
    have gY:=(Zd (Zg HI.out)).2.2.2.1
    obtain ⟨pa,pn,pc,ra2,rn2,rc2,D2,rfl,hy⟩:=gY e6
    refine step_blk_store rfl _ _ rfl _ _ rfl rfl _ (rB0 rfl) rfl rfl (bk_one rfl rfl) ?_
    obtain ⟨h0,h1,h4,h7,h8,h11,h12,gi9,gi10,gi4,gi3,gi5,gi6,rM0,rB0,rD,gB,gV,gQ,gD,gS,gP,gX,gY,gA,gE⟩:=HI.out
    exact hK'.out _ _ ⟨.mk ..,rfl,rfl,h0,h1,h4,h7,h8,h11,h12,gi9,(fun _=>⟨e1,e2,e3,e9⟩),gi4,gi3,gi5,gi6,(fun e=>(row_other (rM0 e) _ (Zn (rM0 e) (rB0 rfl)))),Zf,(row_other rD _ (Zn rD (rB0 rfl))),(below_row gB LRB.out _),(gV.row (rB0 rfl) _),(gQ.row (rB0 rfl) _),(gD.row (rB0 rfl) _),(fun e=>by obtain ⟨y0,h1,hX⟩:=gS e; exact ⟨y0,h1,hX.row (rB0 rfl) (bk (.slice pa pn pc) (.slice ra2 rn2 rc2) 1 0 (wr1 1) zReq zReq zReq)⟩),(fun e=>by obtain ⟨y0,y1,y2,y3,y4,y5,y6,y7,y8,h1,hX,hY⟩:=gP e; exact ⟨y0,y1,y2,y3,y4,y5,y6,y7,y8,h1,hX.row (rB0 rfl) (bk (.slice pa pn pc) (.slice ra2 rn2 rc2) 1 0 (wr1 1) zReq zReq zReq),hY.row (rB0 rfl) (bk (.slice pa pn pc) (.slice ra2 rn2 rc2) 1 0 (wr1 1) zReq zReq zReq)⟩),(fun e=>by obtain ⟨y0,y1,h1,hX⟩:=gX e; exact ⟨y0,y1,h1,hX.row (rB0 rfl) (bk (.slice pa pn pc) (.slice ra2 rn2 rc2) 1 0 (wr1 1) zReq zReq zReq)⟩),(fun _=>⟨_,_,_,_,_,_,_,rfl,hy.row (rB0 rfl) (bk (.slice pa pn pc) (.slice ra2 rn2 rc2) 1 0 (wr1 1) zReq zReq zReq)⟩),(fun e=>(gA e).row (rB0 rfl) _),(fun _=>⟨_,_,_,row_self (rB0 rfl) _,hy.row (rB0 rfl) _⟩)⟩
  · obtain ⟨rfl,e7,e10⟩:b11=false∧b7=true∧b10=true:=by revert hp; cases b11 <;> cases b7 <;> cases b10 <;> simp
    clear hp
    obtain rfl:=(HI.out.2.2.2.1) e7
    refine Zv 6 fun K' hK'=>?_
    go_simp
    exact hK'.out _ _ ⟨.mk ..,rfl,rfl,Nxt (Nx4 (Upd (fun _=>rfl))) HI.out⟩
  · obtain ⟨rfl,e8,e11⟩:b12=false∧b8=true∧b11=true:=by revert hp; cases b12 <;> cases b8 <;> cases b11 <;> simp
    clear hp
    obtain rfl:=((Zd HI.out).1) e8
    refine Zv 7 fun K' hK'=>?_
    go_simp
    exact hK'.out _ _ ⟨.mk ..,rfl,rfl,Nxt (Nxt (Nx4 (Upd (fun _=>rfl)))) HI.out⟩
 case hdone =>
  rintro ⟨b0,b1,b2,b3,b4,b5,b6,b7,b8,b9,b10,b11,b12,s39,s40,s41,s42,s38,s43,s44,s45,s46,s6,s7⟩ W hI hall
  dsimp only at hI hall ⊢
  have HI:=Zh hI
  clear hI
  obtain rfl:b0=true:=hall 0 (by decide)
  obtain rfl:b1=true:=hall 1 (by decide)
  obtain rfl:b2=true:=hall 2 (by decide)
  obtain rfl:b3=true:=hall 3 (by decide)
  obtain rfl:b4=true:=hall 4 (by decide)
  obtain rfl:b5=true:=hall 5 (by decide)
  obtain rfl:b6=true:=hall 6 (by decide)
  obtain rfl:b7=true:=hall 7 (by decide)
  obtain rfl:b8=true:=hall 8 (by decide)
  obtain rfl:b9=true:=hall 9 (by decide)
  obtain rfl:b10=true:=hall 10 (by decide)
  obtain rfl:b11=true:=hall 11 (by decide)
  obtain rfl:b12=true:=hall 12 (by decide)
  obtain rfl:=((Zd HI.out).2.1) rfl
  obtain rfl:=((Zd HI.out).2.2.1) rfl
  have gA:=(Ze (Zg HI.out)).1
  have gE:=(Ze (Zg HI.out)).2
  have rD:=(Zd (Ze HI.out)).2.2.2.1
  have gB:=(Zg HI.out).1
  have gD:=(Zg HI.out).2.2.2.1
  clear HI hall
  obtain ⟨ma,mc,hm,hmo⟩:=gA rfl
  obtain ⟨F3,C3,D3,hbk,hbo⟩:=gE rfl
  obtain ⟨pa,pn,pc,ra2,rn2,rc2,rfl,rfl,hx⟩:=hbo.shape
  clear hx RM RB RD BW DD AV QA
  have RM:=Zh hm
  have AV:=Zh hmo
  have RB:=Zh hbk
  have QA:=Zh hbo
  have RD:=Zh rD
  have BW:=Zh gB
  have DD:=Zh gD
  clear gA gE hm hmo hbk hbo rD gB gD
  obtain ⟨w6,hw6⟩:∃ x,x=W:=⟨_,rfl⟩
  rw [←hw6] at RM RB RD BW DD AV QA ⊢
  clear hw6
  obtain ⟨m0,mz⟩:=one_cell RM.out
  go_wp2_with (refine blk_load rfl _ rfl _ rfl _ RB.out rfl ?_)
  refine (blkFlush_this hv1 hv2 (wr1 1) zReq zReq zReq (wr1 1) hvF zReq zReq _ _ _ D3 l1 l2 1 0 2 3 1 1 788 _ AV.out QA.out hv1_goodB HF.out.n1 rfl (by decide) rfl (by show 2≤(wq1 0 500).free.length; rw [wq1_free]; decide) rfl rfl rfl (by show (wq1 0 500).free.getD 0 0=3; rw [wq1_free]; rfl) rfl H2.out rfl rfl rfl rfl rfl).mono ?_
  rintro e w7 ⟨mb,mc2,qa,qn,qc,sa2,sn2,sc2,D4,rfl,hm,hq,hb⟩
  replace RM:=Zk RM hb
  replace RB:=Zk RB hb
  replace RD:=Zk RD hb
  replace BW:=Zb BW hb
  replace DD:=Zh (DD.out.below hb)
  replace AV:=Zh (AV.out.below hb)
  replace QA:=Zh (QA.out.below hb)
  have AW:=Zh hm
  have QB:=Zh hq
  clear hm hq hb
  clear AV QA
  clear m0 mz
  obtain ⟨m0,mz⟩:=one_cell RM.out
  have hlt:=(Array.getElem?_eq_some_iff.1 RM.out).1
  replace RB:=Zx RB RM 0 (.slice mb 1700 mc2)
  replace RD:=Zx RD RM 0 (.slice mb 1700 mc2)
  replace BW:=Zh (BW.out.setCell (p:=⟨w1.heap.size,0,none⟩) LRM.out (.slice mb 1700 mc2))
  replace DD:=Zh (DD.out.stay RM.out (by decide) 0 (.slice mb 1700 mc2))
  replace AW:=Zh (AW.out.stay RM.out (by decide) 0 (.slice mb 1700 mc2))
  replace QB:=Zh (QB.out.stay RM.out (by decide) (by decide) 0 (.slice mb 1700 mc2))
  replace RM:=Zh (row_put RM.out 0 (.slice mb 1700 mc2))
  go_wp2_with (refine blk_store rfl _ _ rfl _ _ rfl rfl _ RB.out rfl rfl (bk_one rfl rfl) ?_)
  replace RM:=Zh (row_other RM.out (bk (.slice qa qn qc) (.slice sa2 sn2 sc2) 2 0 (wr1 1) hvF zReq zReq) (blocks_ne RM.out RB.out (by decide)))
  replace RD:=Zh (row_other RD.out (bk (.slice qa qn qc) (.slice sa2 sn2 sc2) 2 0 (wr1 1) hvF zReq zReq) (blocks_ne RD.out RB.out (by decide)))
  replace BW:=Zh (below_row BW.out LRB.out (bk (.slice qa qn qc) (.slice sa2 sn2 sc2) 2 0 (wr1 1) hvF zReq zReq))
  replace DD:=Zh (DD.out.row RB.out (bk (.slice qa qn qc) (.slice sa2 sn2 sc2) 2 0 (wr1 1) hvF zReq zReq))
  replace AW:=Zh (AW.out.row RB.out (bk (.slice qa qn qc) (.slice sa2 sn2 sc2) 2 0 (wr1 1) hvF zReq zReq))
  replace QB:=Zh (QB.out.row RB.out (bk (.slice qa qn qc) (.slice sa2 sn2 sc2) 2 0 (wr1 1) hvF zReq zReq))
  replace RB:=Zh (row_self RB.out (bk (.slice qa qn qc) (.slice sa2 sn2 sc2) 2 0 (wr1 1) hvF zReq zReq))
  obtain ⟨w8,hw8⟩:∃ x,x=((w7.setCell ⟨w1.heap.size,0,none⟩ (.slice mb 1700 mc2)).setRow (w1.heap.size+1) (bk (.slice qa qn qc) (.slice sa2 sn2 sc2) 2 0 (wr1 1) hvF zReq zReq)):=⟨_,rfl⟩
  rw [←hw8] at RM RB RD BW DD AW QB ⊢
  clear hw8
  clear m0 mz hlt
  replace RM:=Zh (show w8.heap[w1.heap.size]? = some (.cells #[.slice mb 1700 mc2] 24 (0,0)) from RM.out)
  refine wp_region_rec (X:=BlkHeadB) (by kernel_rfl) (by kernel_rfl) (fun x=>#[x.b0,x.b1,x.b2,x.b3,x.b4,x.b5,x.b6,x.b7,x.b8,x.b9,x.b10,x.b11,x.b12,x.b13]) (fun x=>{ tmps:=List.toArray ((.bool false)::(.pointer (some ⟨w1.heap.size,0,none⟩))::(.pointer (some ⟨w1.heap.size+1,0,none⟩))::(.int .i64 0)::(.pointer (some ⟨w3.heap.size,0,none⟩))::(.int .i64 0)::(.int .i64 0)::(.int .i64 0)::(.int .i64 1)::(.int .i64 0)::x.s10::x.s11::undef::undef::undef::undef::undef::undef::undef::undef::undef::undef::undef::undef::undef::undef::undef::(.tuple #[.agg #[.slice aa 1700 ca],.agg (bk (.slice xa xn xc) (.slice ya yn yc) 0 0 zReq zReq zReq zReq),.int .i64 0])::(.slice (some ⟨w.heap.size,0,none⟩) 1700 1700)::(.agg #[.slice (some ⟨w.heap.size,0,none⟩) 1700 1700])::(.tuple #[.agg #[.slice aa 1700 ca],.agg (bk (.slice xa xn xc) (.slice ya yn yc) 0 0 zReq zReq zReq zReq),.int .i64 0])::(.agg #[.slice aa 1700 ca])::(.agg (bk (.slice xa xn xc) (.slice ya yn yc) 0 0 zReq zReq zReq zReq))::(.int .i64 0)::(.tuple #[.agg #[.slice sa sn sc,.slice none 0 0],.int .i64 0])::(.tuple #[.agg #[.slice sa sn sc,.slice none 0 0],.int .i64 0])::(.agg #[.slice sa sn sc,.slice none 0 0])::(.int .i64 0)::s38::s39::s40::s41::s42::s43::s44::s45::s46::(.tuple #[.agg #[.slice mb 1700 mc2],.agg (bk (.slice qa qn qc) (.slice sa2 sn2 sc2) 2 0 (wr1 1) hvF zReq zReq),.int .i64 1,.int .i64 0])::(.agg #[.slice ma 1700 mc])::(.agg (bk (.slice pa pn pc) (.slice ra2 rn2 rc2) 1 0 (wr1 1) zReq zReq zReq))::(.tuple #[.agg #[.slice mb 1700 mc2],.agg (bk (.slice qa qn qc) (.slice sa2 sn2 sc2) 2 0 (wr1 1) hvF zReq zReq),.int .i64 1,.int .i64 0])::(.agg #[.slice mb 1700 mc2])::(.agg (bk (.slice qa qn qc) (.slice sa2 sn2 sc2) 2 0 (wr1 1) hvF zReq zReq))::(.int .i64 1)::(.int .i64 0)::x.s55::x.s56::x.s57::x.s58::x.s59::x.s60::x.s61::x.s62::x.s63::undef::undef::undef::undef::undef::undef::undef::undef::undef::undef::undef::undef::undef::undef::undef::undef::undef::undef::undef::undef::undef::undef::undef::undef::undef::undef::undef::undef::undef::undef::undef::undef::undef::undef::undef::undef::undef::undef::undef::undef::undef::undef::undef::undef::undef::undef::undef::undef::undef::undef::undef::undef::undef::undef::undef::undef::undef::undef::undef::undef::undef::undef::undef::undef::undef::undef::undef::undef::undef::undef::undef::undef::undef::undef::undef::undef::undef::undef::undef::undef::undef::undef::undef::undef::undef::undef::undef::undef::undef::undef::undef::undef::undef::undef::undef::undef::undef::undef::undef::undef::undef::undef::undef::undef::undef::undef::undef::undef::undef::undef::undef::undef::[]),defers:=[] }) (fun x W=>(x.b0→x.s56=.agg #[.slice mb 1700 mc2])∧(x.b1→x.s57=.agg #[.int .i64 0,.int .i64 16,.int .u16 0,.int .u16 0])∧(x.b2→x.s58=.agg #[.slice sa sn sc,.slice none 0 0])∧(x.b4→x.s55=x.s59)∧(x.b6→x.s61=.agg #[.int .i64 0,.int .i64 16,.int .u16 1,.int .u16 1])∧(x.b8→x.s63=.int .i64 0)∧(x.b13→x.s11=.int .i64 0)∧(x.b10→x.b0∧x.b1∧x.b3∧x.b9)∧(x.b11→x.b9)∧(x.b12→x.b1∧x.b2∧x.b3∧x.b9∧x.b10∧x.b11)∧(x.b4→x.b1∧x.b3)∧(x.b3→x.b1)∧(x.b5→x.b1∧x.b3)∧(x.b7→x.b1∧x.b3)∧(x.b10=false→W.heap[w1.heap.size]? = some (.cells #[.slice mb 1700 mc2] 24 (0,0)))∧(W.heap[w1.heap.size+1]? = some (.cells (bk (.slice qa qn qc) (.slice sa2 sn2 sc2) 2 0 (wr1 1) hvF zReq zReq) 34 (0,0)))∧(x.b12=false→W.heap[w3.heap.size]? = some (.cells #[.slice sa sn sc,.slice none 0 0] 41 (0,0)))∧(Below w.heap.size w W)∧(OwnB 0 W (.slice mb 1700 mc2) l2)∧(IsQ 0 W (.slice qa qn qc) (.slice sa2 sn2 sc2) hv2 D4)∧(DK W (.slice sa sn sc) (.slice none 0 0) S [])∧(x.b3→∃ ra rc ta tn tc ua un uc,x.s59=.tuple #[.agg #[.slice ra 1700 rc],.agg #[.int .i64 0,.int .i64 16,.int .u16 1,.int .u16 1],.agg #[.slice ta tn tc,.slice ua un uc],.int .i64 0]∧OwnB 0 W (.slice ra 1700 rc) l3∧DK W (.slice ta tn tc) (.slice ua un uc) S [(1,vd7)])∧(x.b5→∃ ra rc,x.s60=.agg #[.slice ra 1700 rc]∧OwnB 0 W (.slice ra 1700 rc) l3)∧(x.b7→∃ ta tn tc ua un uc,x.s62=.agg #[.slice ta tn tc,.slice ua un uc]∧DK W (.slice ta tn tc) (.slice ua un uc) S [(1,vd7)])∧(x.b9→∃ g,x.s10=.pointer (some ⟨g,0,none⟩)∧w.heap.size≤g∧W.heap[g]? = some (.cells (cond x.b11 (#[.int .i64 0,.int .i64 16,.int .u16 1,.int .u16 1]) (#[.int .i64 0,.int .i64 0,.int .u16 0,.int .u16 0])) 45 (0,0)))∧(x.b10→MemAt W (w1.heap.size) l3)∧(x.b12→DiskAt W (w3.heap.size) S [(1,vd7)])) ⟨false,false,false,false,false,false,false,false,false,false,false,false,false,false,undef,undef,undef,undef,undef,undef,undef,undef,undef,undef,undef⟩ rfl rfl ⟨Zf,Zf,Zf,Zf,Zf,Zf,Zf,Zf,Zf,Zf,Zf,Zf,Zf,Zf,(fun _=>RM.out),RB.out,(fun _=>RD.out),BW.out.drew,AW.out.drew,QB.out.drew,DD.out.drew,Zf,Zf,Zf,Zf,Zf,Zf⟩ (fun _=>rfl) ?hstep ?hdone
  case hstep =>
   rintro ⟨b0,b1,b2,b3,b4,b5,b6,b7,b8,b9,b10,b11,b12,b13,s56,s57,s58,s59,s55,s60,s61,s62,s63,s10,s11⟩ W hI i hi
   dsimp only at hI hi ⊢
   have HI:=Zh hI
   clear hI
   rw [Region.ready,List.mem_filter,List.mem_range] at hi
   obtain ⟨hlt,hp⟩:=hi
   have hi7:i=0∨i=1∨i=2∨i=3∨i=4∨i=5∨i=6∨i=7∨i=8∨i=9∨i=10∨i=11∨i=12∨i=13:=by simp at hlt; omega
   clear hlt
   rcases hi7 with rfl|rfl|rfl|rfl|rfl|rfl|rfl|rfl|rfl|rfl|rfl|rfl|rfl|rfl
   all_goals simp [Region.binds] at hp
   · obtain rfl:b0=false:=by revert hp; cases b0 <;> simp
     clear hp; refine Zv 56 fun K' hK'=>?_
     have gi10:=(Zd HI.out).2.2.2.1
     have rM0:=(Zd (Ze HI.out)).2.2.1
     obtain rfl:b10=false:=Zz fun e=>(gi10 e).1
     obtain ⟨hc0,_⟩:=at_cell (rM0 rfl) 0 _ rfl
     go_simp
     obtain ⟨h0,h1,h2,h4,h6,h8,h13,gi10,gi11,gi12,gi4,gi3,gi5,gi7,rM0,rB,rD0,gB,gV,gQ,gD,gP,gX,gY,gT,gA,gE⟩:=HI.out
     exact hK'.out _ _ ⟨.mk ..,rfl,rfl,(fun _=>rfl),h1,h2,h4,h6,h8,h13,Zf,gi11,gi12,gi4,gi3,gi5,gi7,rM0,rB,rD0,gB,gV,gQ,gD,gP,gX,gY,gT,Zf,gE⟩
   · obtain rfl:b1=false:=by revert hp; cases b1 <;> simp
     clear hp; refine Zv 57 fun K' hK'=>?_
     have gi10:=(Zd HI.out).2.2.2.1
     have gi12:=(Ze HI.out).2.1
     have gi4:=(Ze HI.out).2.2.1
     have gi3:=(Ze HI.out).2.2.2.1
     have gi5:=(Zd (Ze HI.out)).1
     have gi7:=(Zd (Ze HI.out)).2.1
     obtain rfl:b10=false:=Zz fun e=>(gi10 e).2.1
     obtain rfl:b12=false:=Zz fun e=>(gi12 e).1
     obtain rfl:b4=false:=Zz fun e=>(gi4 e).1
     obtain rfl:b3=false:=Zz fun e=>(gi3 e)
     obtain rfl:b5=false:=Zz fun e=>(gi5 e).1
     obtain rfl:b7=false:=Zz fun e=>(gi7 e).1
     go_simp
     refine (refServe_any 0 16 W).mono ?_
     rintro e w2 ⟨rfl,bn⟩
     obtain ⟨h0,h1,h2,h4,h6,h8,h13,gi10,gi11,gi12,gi4,gi3,gi5,gi7,rM0,rB,rD0,gB,gV,gQ,gD,gP,gX,gY,gT,gA,gE⟩:=HI.out
     exact hK'.out _ _ ⟨.mk ..,rfl,rfl,h0,(fun _=>rfl),h2,h4,h6,h8,h13,Zf,gi11,Zf,Zf,Zf,Zf,Zf,(fun e=>row_keep (rM0 e) bn),(row_keep rB bn),(fun e=>row_keep (rD0 e) bn),(gB.trans (bn.mono gB.size)),(gV.below bn),(gQ.below bn),(gD.below bn),Zf,Zf,Zf,(fun e=>by obtain ⟨y0,h1,h2,h3⟩:=gT e; exact ⟨y0,h1,h2,row_keep h3 bn⟩),Zf,Zf⟩
   · obtain rfl:b2=false:=by revert hp; cases b2 <;> simp
     clear hp; refine Zv 58 fun K' hK'=>?_
     have gi12:=(Ze HI.out).2.1
     have rD0:=(Zg HI.out).1
     obtain rfl:b12=false:=Zz fun e=>(gi12 e).2.1
     obtain ⟨hc0,_⟩:=at_cell (rD0 rfl) 0 _ rfl
     obtain ⟨hc1,_⟩:=at_cell (rD0 rfl) 1 _ rfl
     go_simp
     obtain ⟨h0,h1,h2,h4,h6,h8,h13,gi10,gi11,gi12,gi4,gi3,gi5,gi7,rM0,rB,rD0,gB,gV,gQ,gD,gP,gX,gY,gT,gA,gE⟩:=HI.out
     exact hK'.out _ _ ⟨.mk ..,rfl,rfl,h0,h1,(fun _=>rfl),h4,h6,h8,h13,gi10,gi11,Zf,gi4,gi3,gi5,gi7,rM0,rB,rD0,gB,gV,gQ,gD,gP,gX,gY,gT,gA,Zf⟩
   · have hn3:b3=false:=by revert hp; cases b3 <;> simp
     have e0:b0=true:=by revert hp; cases b0 <;> simp
     have e1:b1=true:=by revert hp; cases b1 <;> simp
     have e2:b2=true:=by revert hp; cases b2 <;> simp
     clear hp
     obtain rfl:=(HI.out.1) e0
     obtain rfl:=(HI.out.2.1) e1
     obtain rfl:=(HI.out.2.2.1) e2
     subst hn3
     refine Zv 59 fun K' hK'=>?_
     have gi10:=(Zd HI.out).2.2.2.1
     have gi12:=(Ze HI.out).2.1
     have gi4:=(Ze HI.out).2.2.1
     have gi5:=(Zd (Ze HI.out)).1
     have gi7:=(Zd (Ze HI.out)).2.1
     have gV:=(Zg HI.out).2.2.1
     have gD:=(Zd (Zg HI.out)).1
     obtain rfl:b10=false:=Zz fun e=>(gi10 e).2.2.1
     obtain rfl:b12=false:=Zz fun e=>(gi12 e).2.2.1
     obtain rfl:b4=false:=Zz fun e=>(gi4 e).2
     obtain rfl:b5=false:=Zz fun e=>(gi5 e).2
     obtain rfl:b7=false:=Zz fun e=>(gi7 e).2
     go_simp
     refine (serve_one _ _ _ l1 l2 l3 l4 S _ gV gD HK0.out HSL.out HF.out H3.out).mono ?_
     rintro e w5 ⟨ra,rc,ta,tn,tc,ua,un,uc,rfl,hm,hd,bn⟩
     obtain ⟨h0,h1,h2,h4,h6,h8,h13,gi10,gi11,gi12,gi4,gi3,gi5,gi7,rM0,rB,rD0,gB,gV,gQ,gD,gP,gX,gY,gT,gA,gE⟩:=HI.out
     exact hK'.out _ _ ⟨.mk ..,rfl,rfl,h0,h1,h2,(fun e=>by cases ((gi4 e).2)),h6,h8,h13,Zf,gi11,Zf,Zf,(fun _=>e1),Zf,Zf,(fun e=>row_keep (rM0 e) bn),(row_keep rB bn),(fun e=>row_keep (rD0 e) bn),(gB.trans (bn.mono gB.size)),(gV.below bn),(gQ.below bn),(gD.below bn),(fun _=>⟨_,_,_,_,_,_,_,_,rfl,hm,hd⟩),Zf,Zf,(fun e=>by obtain ⟨y0,h1,h2,h3⟩:=gT e; exact ⟨y0,h1,h2,row_keep h3 bn⟩),Zf,Zf⟩
   · obtain ⟨rfl,e3⟩:b4=false∧b3=true:=by revert hp; cases b4 <;> cases b3 <;> simp
     clear hp; refine Zv 55 fun K' hK'=>?_
     go_simp
     obtain ⟨h0,h1,h2,h4,h6,h8,h13,gi10,gi11,gi12,gi4,gi3,gi5,gi7,rM0,rB,rD0,gB,gV,gQ,gD,gP,gX,gY,gT,gA,gE⟩:=HI.out
     exact hK'.out _ _ ⟨.mk ..,rfl,rfl,h0,h1,h2,(fun _=>rfl),h6,h8,h13,gi10,gi11,gi12,(fun _=>⟨(gi3 e3),e3⟩),gi3,gi5,gi7,rM0,rB,rD0,gB,gV,gQ,gD,gP,gX,gY,gT,gA,gE⟩
   · obtain ⟨rfl,e4⟩:b5=false∧b4=true:=by revert hp; cases b5 <;> cases b4 <;> simp
     clear hp
     obtain rfl:=(HI.out.2.2.2.1) e4
     refine Zv 60 fun K' hK'=>?_
     have gi4:=(Ze HI.out).2.2.1
     have gP:=(Zd (Zg HI.out)).2.1
     obtain ⟨ra,rc,ta,tn,tc,ua,un,uc,rfl,hp,hq⟩:=gP ((gi4 e4).2)
     go_simp
     obtain ⟨h0,h1,h2,h4,h6,h8,h13,gi10,gi11,gi12,gi4,gi3,gi5,gi7,rM0,rB,rD0,gB,gV,gQ,gD,gP,gX,gY,gT,gA,gE⟩:=HI.out
     exact hK'.out _ _ ⟨.mk ..,rfl,rfl,h0,h1,h2,h4,h6,h8,h13,gi10,gi11,gi12,gi4,gi3,(fun _=>⟨(gi4 e4).1,(gi4 e4).2⟩),gi7,rM0,rB,rD0,gB,gV,gQ,gD,(fun _=>⟨_,_,_,_,_,_,_,_,rfl,hp,hq⟩),(fun _=>⟨_,_,rfl,hp⟩),gY,gT,gA,gE⟩
   · obtain ⟨rfl,e4⟩:b6=false∧b4=true:=by revert hp; cases b6 <;> cases b4 <;> simp
     clear hp
     obtain rfl:=(HI.out.2.2.2.1) e4
     refine Zv 61 fun K' hK'=>?_
     have gi4:=(Ze HI.out).2.2.1
     have gP:=(Zd (Zg HI.out)).2.1
     obtain ⟨ra,rc,ta,tn,tc,ua,un,uc,rfl,hp,hq⟩:=gP ((gi4 e4).2)
     go_simp
     exact hK'.out _ _ ⟨.mk ..,rfl,rfl,Nxt (Nx4 (Nx16 (Upd (fun _=>⟨_,_,_,_,_,_,_,_,rfl,hp,hq⟩)))) (Nx4 (Upd (fun _=>rfl)) HI.out)⟩
   · obtain ⟨rfl,e4⟩:b7=false∧b4=true:=by revert hp; cases b7 <;> cases b4 <;> simp
     clear hp
     obtain rfl:=(HI.out.2.2.2.1) e4
     refine Zv 62 fun K' hK'=>?_
     have gi4:=(Ze HI.out).2.2.1
     have gP:=(Zd (Zg HI.out)).2.1
     obtain ⟨ra,rc,ta,tn,tc,ua,un,uc,rfl,hp,hq⟩:=gP ((gi4 e4).2)
     go_simp
     obtain ⟨h0,h1,h2,h4,h6,h8,h13,gi10,gi11,gi12,gi4,gi3,gi5,gi7,rM0,rB,rD0,gB,gV,gQ,gD,gP,gX,gY,gT,gA,gE⟩:=HI.out
     exact hK'.out _ _ ⟨.mk ..,rfl,rfl,h0,h1,h2,h4,h6,h8,h13,gi10,gi11,gi12,gi4,gi3,gi5,(fun _=>⟨(gi4 e4).1,(gi4 e4).2⟩),rM0,rB,rD0,gB,gV,gQ,gD,(fun _=>⟨_,_,_,_,_,_,_,_,rfl,hp,hq⟩),gX,(fun _=>⟨_,_,_,_,_,_,rfl,hq⟩),gT,gA,gE⟩
   · obtain ⟨rfl,e4⟩:b8=false∧b4=true:=by revert hp; cases b8 <;> cases b4 <;> simp
     clear hp
     obtain rfl:=(HI.out.2.2.2.1) e4
     refine Zv 63 fun K' hK'=>?_
     have gi4:=(Ze HI.out).2.2.1
     have gP:=(Zd (Zg HI.out)).2.1
     obtain ⟨ra,rc,ta,tn,tc,ua,un,uc,rfl,hp,hq⟩:=gP ((gi4 e4).2)
     go_simp
     exact hK'.out _ _ ⟨.mk ..,rfl,rfl,Nxt (Nx4 (Nx16 (Upd (fun _=>⟨_,_,_,_,_,_,_,_,rfl,hp,hq⟩)))) (Nxt (Nx4 (Upd (fun _=>rfl))) HI.out)⟩
   · obtain rfl:b9=false:=by revert hp; cases b9 <;> simp
     clear hp; refine Zv 10 fun K' hK'=>?_
     have gi10:=(Zd HI.out).2.2.2.1
     have gi11:=(Ze HI.out).1
     have gi12:=(Ze HI.out).2.1
     obtain rfl:b10=false:=Zz fun e=>(gi10 e).2.2.2
     obtain rfl:b11=false:=Zz fun e=>(gi11 e)
     obtain rfl:b12=false:=Zz fun e=>(gi12 e).2.2.2.1
     have bn:Below W.heap.size W (W.alloc (.cells (#[.int .i64 0,.int .i64 0,.int .u16 0,.int .u16 0]) 45)):=(Below.refl _ _).alloc (Nat.le_refl _) _
     have rn:=heap_alloc_new W (.cells (#[.int .i64 0,.int .i64 0,.int .u16 0,.int .u16 0]) 45)
     go_simp
     obtain ⟨h0,h1,h2,h4,h6,h8,h13,gi10,gi11,gi12,gi4,gi3,gi5,gi7,rM0,rB,rD0,gB,gV,gQ,gD,gP,gX,gY,gT,gA,gE⟩:=HI.out
     exact hK'.out _ _ ⟨.mk ..,rfl,rfl,h0,h1,h2,h4,h6,h8,h13,Zf,Zf,Zf,gi4,gi3,gi5,gi7,(fun e=>row_keep (rM0 e) bn),(row_keep rB bn),(fun e=>row_keep (rD0 e) bn),(gB.trans (bn.mono gB.size)),(gV.below bn),(gQ.below bn),(gD.below bn),(fun e=>by obtain ⟨y0,y1,y2,y3,y4,y5,y6,y7,h1,h2,h3⟩:=gP e; exact ⟨y0,y1,y2,y3,y4,y5,y6,y7,h1,h2.below bn,h3.below bn⟩),(fun e=>by obtain ⟨y0,y1,h1,h2⟩:=gX e; exact ⟨y0,y1,h1,h2.below bn⟩),(fun e=>by obtain ⟨y0,y1,y2,y3,y4,y5,h1,h2⟩:=gY e; exact ⟨y0,y1,y2,y3,y4,y5,h1,h2.below bn⟩),(fun _=>⟨W.heap.size,rfl,gB.size,rn⟩),Zf,Zf⟩
   · have hn10:b10=false:=by revert hp; cases b10 <;> simp
     have e5:b5=true:=by revert hp; cases b5 <;> simp
     have e3:b3=true:=by revert hp; cases b3 <;> simp
     have e0:b0=true:=by revert hp; cases b0 <;> simp
     have e1:b1=true:=by revert hp; cases b1 <;> simp
     have e9:b9=true:=by revert hp; cases b9 <;> simp
     clear hp
     subst hn10
     refine inv_op (o:=⟨none,_,_,_,_,_⟩) rfl (fun K' hK'=>?_)
     have gi12:=(Ze HI.out).2.1
     have rM0:=(Zd (Ze HI.out)).2.2.1
     have gX:=(Zd (Zg HI.out)).2.2.1
     obtain rfl:b12=false:=Zz fun e=>(gi12 e).2.2.2.2.1
     obtain ⟨ra,rc,rfl,hx⟩:=gX e5
     obtain ⟨hc0,hz0⟩:=at_cell (rM0 rfl) 0 _ rfl
     have hlt:=(Array.getElem?_eq_some_iff.1 (rM0 rfl)).1
     go_simp
     obtain ⟨h0,h1,h2,h4,h6,h8,h13,gi10,gi11,gi12,gi4,gi3,gi5,gi7,rM0,rB,rD0,gB,gV,gQ,gD,gP,gX,gY,gT,gA,gE⟩:=HI.out
     exact hK'.out _ _ ⟨.mk ..,rfl,rfl,h0,h1,h2,h4,h6,h8,h13,(fun _=>⟨e0,e1,e3,e9⟩),gi11,Zf,gi4,gi3,gi5,gi7,Zf,(Zp1 rB (Zn rB (rM0 rfl))),(fun e=>(Zp1 (rD0 e) (Zn (rD0 e) (rM0 rfl)))),(Zu1 gB LRM.out),(gV.stay (rM0 rfl) (by decide) _ _),(gQ.stay (rM0 rfl) (by decide) (by decide) _ _),(gD.stay (rM0 rfl) (by decide) _ _),(fun e=>by obtain ⟨y0,y1,y2,y3,y4,y5,y6,y7,h1,h2,h3⟩:=gP e; exact ⟨y0,y1,y2,y3,y4,y5,y6,y7,h1,(h2.stay (rM0 rfl) (by decide) _ _),(h3.stay (rM0 rfl) (by decide) _ _)⟩),(fun e=>by obtain ⟨y0,y1,h1,h2⟩:=gX e; exact ⟨y0,y1,h1,(h2.stay (rM0 rfl) (by decide) _ _)⟩),(fun e=>by obtain ⟨y0,y1,y2,y3,y4,y5,h1,h2⟩:=gY e; exact ⟨y0,y1,y2,y3,y4,y5,h1,(h2.stay (rM0 rfl) (by decide) _ _)⟩),(fun e=>by obtain ⟨y0,h1,h2,h3⟩:=gT e; exact ⟨y0,h1,h2,(Zp1 h3 (Zn h3 (rM0 rfl)))⟩),(fun _=>⟨ra,rc,row_put (rM0 rfl) 0 (.slice ra 1700 rc),hx.stay (rM0 rfl) (by decide) 0 (.slice ra 1700 rc)⟩),Zf⟩
   · have hn11:b11=false:=by revert hp; cases b11 <;> simp
     have e6:b6=true:=by revert hp; cases b6 <;> simp
     have e9:b9=true:=by revert hp; cases b9 <;> simp
     have e10:b10=true:=by revert hp; cases b10 <;> simp
     clear hp
     obtain rfl:=((Zd HI.out).1) e6
     subst hn11
     refine inv_op (o:=⟨none,_,_,_,_,_⟩) rfl (fun K' hK'=>?_)
     have gi12:=(Ze HI.out).2.1
     have gT:=(Ze (Zg HI.out)).1
     obtain rfl:b12=false:=Zz fun e=>(gi12 e).2.2.2.2.2
     obtain ⟨gx,rfl,hlg,gTr⟩:=gT e9
     have gTr:W.heap[gx]? = some (.cells (#[.int .i64 0,.int .i64 0,.int .u16 0,.int .u16 0]) 45 (0,0)):=gTr
     obtain ⟨hc0,hz0⟩:=at_cell gTr 0 _ rfl
     obtain ⟨hc1,hz1⟩:=at_cell gTr 1 _ rfl
     obtain ⟨hc2,hz2⟩:=at_cell gTr 2 _ rfl
     obtain ⟨hc3,hz3⟩:=at_cell gTr 3 _ rfl
     have hlt:=(Array.getElem?_eq_some_iff.1 gTr).1
     go_simp
     obtain ⟨h0,h1,h2,h4,h6,h8,h13,gi10,gi11,gi12,gi4,gi3,gi5,gi7,rM0,rB,rD0,gB,gV,gQ,gD,gP,gX,gY,gT,gA,gE⟩:=HI.out
     exact hK'.out _ _ ⟨.mk ..,rfl,rfl,h0,h1,h2,h4,h6,h8,h13,gi10,(fun _=>e9),Zf,gi4,gi3,gi5,gi7,(fun e=>(Zp4 (rM0 e) (Zn (rM0 e) gTr))),(Zp4 rB (Zn rB gTr)),(fun e=>(Zp4 (rD0 e) (Zn (rD0 e) gTr))),(Zu4 gB hlg),((((gV.stay gTr (by decide) _ _).stay (Zr gTr) (by decide) _ _).stay (Zr (Zr gTr)) (by decide) _ _).stay (Zr (Zr (Zr gTr))) (by decide) _ _),((((gQ.stay gTr (by decide) (by decide) _ _).stay (Zr gTr) (by decide) (by decide) _ _).stay (Zr (Zr gTr)) (by decide) (by decide) _ _).stay (Zr (Zr (Zr gTr))) (by decide) (by decide) _ _),((((gD.stay gTr (by decide) _ _).stay (Zr gTr) (by decide) _ _).stay (Zr (Zr gTr)) (by decide) _ _).stay (Zr (Zr (Zr gTr))) (by decide) _ _),(fun e=>by obtain ⟨y0,y1,y2,y3,y4,y5,y6,y7,h1,h2,h3⟩:=gP e; exact ⟨y0,y1,y2,y3,y4,y5,y6,y7,h1,((((h2.stay gTr (by decide) _ _).stay (Zr gTr) (by decide) _ _).stay (Zr (Zr gTr)) (by decide) _ _).stay (Zr (Zr (Zr gTr))) (by decide) _ _),((((h3.stay gTr (by decide) _ _).stay (Zr gTr) (by decide) _ _).stay (Zr (Zr gTr)) (by decide) _ _).stay (Zr (Zr (Zr gTr))) (by decide) _ _)⟩),(fun e=>by obtain ⟨y0,y1,h1,h2⟩:=gX e; exact ⟨y0,y1,h1,((((h2.stay gTr (by decide) _ _).stay (Zr gTr) (by decide) _ _).stay (Zr (Zr gTr)) (by decide) _ _).stay (Zr (Zr (Zr gTr))) (by decide) _ _)⟩),(fun e=>by obtain ⟨y0,y1,y2,y3,y4,y5,h1,h2⟩:=gY e; exact ⟨y0,y1,y2,y3,y4,y5,h1,((((h2.stay gTr (by decide) _ _).stay (Zr gTr) (by decide) _ _).stay (Zr (Zr gTr)) (by decide) _ _).stay (Zr (Zr (Zr gTr))) (by decide) _ _)⟩),(fun _=>⟨gx,rfl,hlg,(Zr (Zr (Zr (Zr gTr))))⟩),(fun e=>(((((gA e).far gTr (by decide) _ _).far (Zr gTr) (by decide) _ _).far (Zr (Zr gTr)) (by decide) _ _).far (Zr (Zr (Zr gTr))) (by decide) _ _)),Zf⟩
   · have hn12:b12=false:=by revert hp; cases b12 <;> simp
     have e7:b7=true:=by revert hp; cases b7 <;> simp
     have e11:b11=true:=by revert hp; cases b11 <;> simp
     have e1:b1=true:=by revert hp; cases b1 <;> simp
     have e2:b2=true:=by revert hp; cases b2 <;> simp
     have e3:b3=true:=by revert hp; cases b3 <;> simp
     have e9:b9=true:=by revert hp; cases b9 <;> simp
     have e10:b10=true:=by revert hp; cases b10 <;> simp
     clear hp
     subst hn12
     refine inv_op (o:=⟨none,_,_,_,_,_⟩) rfl (fun K' hK'=>?_)
     have rD0:=(Zg HI.out).1
     have gY:=(Zd (Zg HI.out)).2.2.2.1
     obtain ⟨ta,tn,tc,ua,un,uc,rfl,hy⟩:=gY e7
     obtain ⟨hc0,hz0⟩:=at_cell (rD0 rfl) 0 _ rfl
     obtain ⟨hc1,hz1⟩:=at_cell (rD0 rfl) 1 _ rfl
     have hlt:=(Array.getElem?_eq_some_iff.1 (rD0 rfl)).1
     go_simp
     obtain ⟨h0,h1,h2,h4,h6,h8,h13,gi10,gi11,gi12,gi4,gi3,gi5,gi7,rM0,rB,rD0,gB,gV,gQ,gD,gP,gX,gY,gT,gA,gE⟩:=HI.out
     exact hK'.out _ _ ⟨.mk ..,rfl,rfl,h0,h1,h2,h4,h6,h8,h13,gi10,gi11,(fun _=>⟨e1,e2,e3,e9,e10,e11⟩),gi4,gi3,gi5,gi7,(fun e=>(Zp2 (rM0 e) (Zn (rM0 e) (rD0 rfl)))),(Zp2 rB (Zn rB (rD0 rfl))),Zf,(Zu2 gB LRD.out),((gV.stay (rD0 rfl) (by decide) _ _).stay (Zr (rD0 rfl)) (by decide) _ _),((gQ.stay (rD0 rfl) (by decide) (by decide) _ _).stay (Zr (rD0 rfl)) (by decide) (by decide) _ _),((gD.stay (rD0 rfl) (by decide) _ _).stay (Zr (rD0 rfl)) (by decide) _ _),(fun e=>by obtain ⟨y0,y1,y2,y3,y4,y5,y6,y7,h1,h2,h3⟩:=gP e; exact ⟨y0,y1,y2,y3,y4,y5,y6,y7,h1,((h2.stay (rD0 rfl) (by decide) _ _).stay (Zr (rD0 rfl)) (by decide) _ _),((h3.stay (rD0 rfl) (by decide) _ _).stay (Zr (rD0 rfl)) (by decide) _ _)⟩),(fun e=>by obtain ⟨y0,y1,h1,h2⟩:=gX e; exact ⟨y0,y1,h1,((h2.stay (rD0 rfl) (by decide) _ _).stay (Zr (rD0 rfl)) (by decide) _ _)⟩),(fun e=>by obtain ⟨y0,y1,y2,y3,y4,y5,h1,h2⟩:=gY e; exact ⟨y0,y1,y2,y3,y4,y5,h1,((h2.stay (rD0 rfl) (by decide) _ _).stay (Zr (rD0 rfl)) (by decide) _ _)⟩),(fun e=>by obtain ⟨y0,h1,h2,h3⟩:=gT e; exact ⟨y0,h1,h2,(Zp2 h3 (Zn h3 (rD0 rfl)))⟩),(fun e=>(((gA e).far (rD0 rfl) (by decide) _ _).far (Zr (rD0 rfl)) (by decide) _ _)),(fun _=>⟨_,_,_,_,_,_,row_put (Zr (rD0 rfl)) 1 (.slice ua un uc),(hy.stay (rD0 rfl) (by decide) _ _).stay (Zr (rD0 rfl)) (by decide) 1 (.slice ua un uc)⟩)⟩
   · obtain ⟨rfl,e8,e12⟩:b13=false∧b8=true∧b12=true:=by revert hp; cases b13 <;> cases b8 <;> cases b12 <;> simp
     clear hp
     obtain rfl:=((Zd HI.out).2.1) e8
     refine Zv 11 fun K' hK'=>?_
     go_simp
     exact hK'.out _ _ ⟨.mk ..,rfl,rfl,Nxt (Nxt (Nx4 (Upd (fun _=>rfl)))) HI.out⟩
  case hdone =>
   rintro ⟨b0,b1,b2,b3,b4,b5,b6,b7,b8,b9,b10,b11,b12,b13,s56,s57,s58,s59,s55,s60,s61,s62,s63,s10,s11⟩ W hI hall
   dsimp only at hI hall ⊢
   have HI:=Zh hI
   clear hI
   obtain rfl:b0=true:=hall 0 (by decide)
   obtain rfl:b1=true:=hall 1 (by decide)
   obtain rfl:b2=true:=hall 2 (by decide)
   obtain rfl:b3=true:=hall 3 (by decide)
   obtain rfl:b4=true:=hall 4 (by decide)
   obtain rfl:b5=true:=hall 5 (by decide)
   obtain rfl:b6=true:=hall 6 (by decide)
   obtain rfl:b7=true:=hall 7 (by decide)
   obtain rfl:b8=true:=hall 8 (by decide)
   obtain rfl:b9=true:=hall 9 (by decide)
   obtain rfl:b10=true:=hall 10 (by decide)
   obtain rfl:b11=true:=hall 11 (by decide)
   obtain rfl:b12=true:=hall 12 (by decide)
   obtain rfl:b13=true:=hall 13 (by decide)
   obtain rfl:=((Zd HI.out).2.2.1) rfl
   have gA:=(Ze (Zg HI.out)).2.1
   have gE:=(Ze (Zg HI.out)).2.2
   have gT:=(Ze (Zg HI.out)).1
   have rB:=(Zd (Ze HI.out)).2.2.2.1
   have gB:=(Zg HI.out).2.1
   have gQ:=(Zg HI.out).2.2.2.1
   clear HI hall
   obtain ⟨ma,mc,hm,hmo⟩:=gA rfl
   obtain ⟨ta,tn,tc,ua,un,uc,hd,hdo⟩:=gE rfl
   obtain ⟨gs9,rfl,hls,hs⟩:=gT rfl
   clear RM RB RD BW DD AW QB
   have RM:=Zh hm
   have AV:=Zh hmo
   have RB:=Zh rB
   have QA:=Zh gQ
   have RD:=Zh hd
   have DD:=Zh hdo
   have BW:=Zh gB
   have LRS:=Zh hls
   have RS:=Zh (show W.heap[gs9]? = some (.cells #[.int .i64 0,.int .i64 16,.int .u16 1,.int .u16 1] 45 (0,0)) from hs)
   clear gA gE gT hm hmo rB gQ hd hdo gB hs hls
   obtain ⟨w9,hw9⟩:∃ x,x=W:=⟨_,rfl⟩
   rw [←hw9] at RM RB RD RS BW DD AV QA ⊢
   clear hw9
   obtain ⟨m0,mz⟩:=one_cell RM.out
   go_wp2_with (refine blk_load rfl _ rfl _ rfl _ RB.out rfl ?_)
   refine (done_this hv2 hv3 (wr1 1) hvF zReq zReq zReq hvF zReq zReq _ _ _ D4 l3 2 0 2 1 0 0 0 0 500 1 0 _ AV.out QA.out hv2_goodB HF.out.n3 HF.out.poll0 rfl rfl rfl (by decide) rfl HF.out.st0 (by decide) rfl rfl rfl rfl rfl rfl rfl rfl rfl rfl).mono ?_
   rintro e w10 ⟨gba,gbn,gbc,gca,gcn,gcc,D5,rfl,hq,hb⟩
   replace RM:=Zk RM hb
   replace RB:=Zk RB hb
   replace RD:=Zk RD hb
   replace RS:=Zk RS hb
   replace BW:=Zb BW hb
   replace DD:=Zh (DD.out.below hb)
   replace AV:=Zh (AV.out.below hb)
   replace QA:=Zh (QA.out.below hb)
   have QX:=Zh hq
   clear hq hb
   have LRX:=Zh (show w.heap.size≤w10.heap.size from BW.out.size)
   have hb:Below w10.heap.size w10 (w10.alloc (.cells (bk (.slice gba gbn gbc) (.slice gca gcn gcc) 2 1 zReq hvF zReq zReq) 34)):=(Below.refl _ _).alloc (Nat.le_refl _) _
   replace RM:=Zk RM hb
   replace RB:=Zk RB hb
   replace RD:=Zk RD hb
   replace RS:=Zk RS hb
   replace BW:=Zb BW hb
   replace DD:=Zh (DD.out.below hb)
   replace AV:=Zh (AV.out.below hb)
   replace QA:=Zh (QA.out.below hb)
   replace QX:=Zh (QX.out.below hb)
   have RX:=Zh (heap_alloc_new w10 (.cells (bk (.slice gba gbn gbc) (.slice gca gcn gcc) 2 1 zReq hvF zReq zReq) 34))
   clear hb
   clear m0 mz
   go_upto_region 7 with (refine blk_store_new rfl _ _ rfl w10 w10.heap.size rfl (bk (.slice gba gbn gbc) (.slice gca gcn gcc) 2 1 zReq hvF zReq zReq) rfl rfl _ rfl rfl rfl (bk_one rfl rfl) ?_)
   obtain ⟨w11,hw11⟩:∃ x,x=(w10.alloc (.cells (bk (.slice gba gbn gbc) (.slice gca gcn gcc) 2 1 zReq hvF zReq zReq) 34)):=⟨_,rfl⟩
   rw [←hw11] at RM RB RD RS BW DD AV QA QX RX ⊢
   clear hw11
   obtain ⟨c0,c1,z0,z1⟩:=cells_two RD.out
   go_wp2_with fail
   refine (read_two _ _ S _ DD.out HK0.out HSL.out).mono ?_
   rintro e w12 ⟨pa,pc,rfl,hp,hb⟩
   replace RM:=Zk RM hb
   replace RB:=Zk RB hb
   replace RD:=Zk RD hb
   replace RS:=Zk RS hb
   replace BW:=Zb BW hb
   replace DD:=Zh (DD.out.below hb)
   replace AV:=Zh (AV.out.below hb)
   replace QA:=Zh (QA.out.below hb)
   replace QX:=Zh (QX.out.below hb)
   replace RX:=Zk RX hb
   have PB:=Zh hp
   clear hp hb
   clear c0 c1 z0 z1
   obtain ⟨m0,mz⟩:=one_cell RM.out
   obtain ⟨⟨u0,u1,u2,u3⟩,x0,x1,x2,x3⟩:=cells_four RS.out
   obtain ⟨c0,c1,z0,z1⟩:=cells_two RD.out
   go_wp2_with fail
   refine (serve_two _ _ _ l1 l2 l3 l4 S _ AV.out DD.out HK0.out HSL.out HF.out H4.out).mono ?_
   rintro e w13 ⟨na,nc,va,vn,vc,xa9,xc9,rfl,hm,hd,hb⟩
   replace RM:=Zk RM hb
   replace RB:=Zk RB hb
   replace RD:=Zk RD hb
   replace RS:=Zk RS hb
   replace BW:=Zb BW hb
   replace DD:=Zh (DD.out.below hb)
   replace AV:=Zh (AV.out.below hb)
   replace QA:=Zh (QA.out.below hb)
   replace QX:=Zh (QX.out.below hb)
   replace RX:=Zk RX hb
   replace PB:=Zh (PB.out.below hb)
   have AW:=Zh hm
   have DE:=Zh hd
   clear hm hd hb
   clear AV DD
   clear m0 mz u0 u1 u2 u3 x0 x1 x2 x3 c0 c1 z0 z1
   obtain ⟨m0,mz⟩:=one_cell RM.out
   have hlt:=(Array.getElem?_eq_some_iff.1 RM.out).1
   replace RB:=Zx RB RM 0 (.slice na 1700 nc)
   replace RD:=Zx RD RM 0 (.slice na 1700 nc)
   replace RS:=Zx RS RM 0 (.slice na 1700 nc)
   replace BW:=Zh (BW.out.setCell (p:=⟨w1.heap.size,0,none⟩) LRM.out (.slice na 1700 nc))
   replace QA:=Zh (QA.out.stay RM.out (by decide) (by decide) 0 (.slice na 1700 nc))
   replace QX:=Zh (QX.out.stay RM.out (by decide) (by decide) 0 (.slice na 1700 nc))
   replace RX:=Zx RX RM 0 (.slice na 1700 nc)
   replace PB:=Zh (PB.out.stay RM.out (by decide) 0 (.slice na 1700 nc))
   replace AW:=Zh (AW.out.stay RM.out (by decide) 0 (.slice na 1700 nc))
   replace DE:=Zh (DE.out.stay RM.out (by decide) 0 (.slice na 1700 nc))
   replace RM:=Zh (row_put RM.out 0 (.slice na 1700 nc))
   obtain ⟨⟨u0,u1,u2,u3⟩,x0,x1,x2,x3⟩:=cells_four RS.out
   have hlt2:=(Array.getElem?_eq_some_iff.1 RS.out).1
   replace RM:=Zx RM RS 0 (.int .i64 0)
   replace RB:=Zx RB RS 0 (.int .i64 0)
   replace RD:=Zx RD RS 0 (.int .i64 0)
   replace BW:=Zh (BW.out.setCell (p:=⟨gs9,0,none⟩) LRS.out (.int .i64 0))
   replace QA:=Zh (QA.out.stay RS.out (by decide) (by decide) 0 (.int .i64 0))
   replace QX:=Zh (QX.out.stay RS.out (by decide) (by decide) 0 (.int .i64 0))
   replace RX:=Zx RX RS 0 (.int .i64 0)
   replace PB:=Zh (PB.out.stay RS.out (by decide) 0 (.int .i64 0))
   replace AW:=Zh (AW.out.stay RS.out (by decide) 0 (.int .i64 0))
   replace DE:=Zh (DE.out.stay RS.out (by decide) 0 (.int .i64 0))
   replace RS:=Zh (row_put RS.out 0 (.int .i64 0))
   replace RM:=Zx RM RS 1 (.int .i64 16)
   replace RB:=Zx RB RS 1 (.int .i64 16)
   replace RD:=Zx RD RS 1 (.int .i64 16)
   replace BW:=Zh (BW.out.setCell (p:=⟨gs9,1,none⟩) LRS.out (.int .i64 16))
   replace QA:=Zh (QA.out.stay RS.out (by decide) (by decide) 1 (.int .i64 16))
   replace QX:=Zh (QX.out.stay RS.out (by decide) (by decide) 1 (.int .i64 16))
   replace RX:=Zx RX RS 1 (.int .i64 16)
   replace PB:=Zh (PB.out.stay RS.out (by decide) 1 (.int .i64 16))
   replace AW:=Zh (AW.out.stay RS.out (by decide) 1 (.int .i64 16))
   replace DE:=Zh (DE.out.stay RS.out (by decide) 1 (.int .i64 16))
   replace RS:=Zh (row_put RS.out 1 (.int .i64 16))
   replace RM:=Zx RM RS 2 (.int .u16 2)
   replace RB:=Zx RB RS 2 (.int .u16 2)
   replace RD:=Zx RD RS 2 (.int .u16 2)
   replace BW:=Zh (BW.out.setCell (p:=⟨gs9,2,none⟩) LRS.out (.int .u16 2))
   replace QA:=Zh (QA.out.stay RS.out (by decide) (by decide) 2 (.int .u16 2))
   replace QX:=Zh (QX.out.stay RS.out (by decide) (by decide) 2 (.int .u16 2))
   replace RX:=Zx RX RS 2 (.int .u16 2)
   replace PB:=Zh (PB.out.stay RS.out (by decide) 2 (.int .u16 2))
   replace AW:=Zh (AW.out.stay RS.out (by decide) 2 (.int .u16 2))
   replace DE:=Zh (DE.out.stay RS.out (by decide) 2 (.int .u16 2))
   replace RS:=Zh (row_put RS.out 2 (.int .u16 2))
   replace RM:=Zx RM RS 3 (.int .u16 2)
   replace RB:=Zx RB RS 3 (.int .u16 2)
   replace RD:=Zx RD RS 3 (.int .u16 2)
   replace BW:=Zh (BW.out.setCell (p:=⟨gs9,3,none⟩) LRS.out (.int .u16 2))
   replace QA:=Zh (QA.out.stay RS.out (by decide) (by decide) 3 (.int .u16 2))
   replace QX:=Zh (QX.out.stay RS.out (by decide) (by decide) 3 (.int .u16 2))
   replace RX:=Zx RX RS 3 (.int .u16 2)
   replace PB:=Zh (PB.out.stay RS.out (by decide) 3 (.int .u16 2))
   replace AW:=Zh (AW.out.stay RS.out (by decide) 3 (.int .u16 2))
   replace DE:=Zh (DE.out.stay RS.out (by decide) 3 (.int .u16 2))
   replace RS:=Zh (row_put RS.out 3 (.int .u16 2))
   obtain ⟨c0,c1,z0,z1⟩:=cells_two RD.out
   have hlt3:=(Array.getElem?_eq_some_iff.1 RD.out).1
   replace RM:=Zx RM RD 0 (.slice va vn vc)
   replace RB:=Zx RB RD 0 (.slice va vn vc)
   replace RS:=Zx RS RD 0 (.slice va vn vc)
   replace BW:=Zh (BW.out.setCell (p:=⟨w3.heap.size,0,none⟩) LRD.out (.slice va vn vc))
   replace QA:=Zh (QA.out.stay RD.out (by decide) (by decide) 0 (.slice va vn vc))
   replace QX:=Zh (QX.out.stay RD.out (by decide) (by decide) 0 (.slice va vn vc))
   replace RX:=Zx RX RD 0 (.slice va vn vc)
   replace PB:=Zh (PB.out.stay RD.out (by decide) 0 (.slice va vn vc))
   replace AW:=Zh (AW.out.stay RD.out (by decide) 0 (.slice va vn vc))
   replace DE:=Zh (DE.out.stay RD.out (by decide) 0 (.slice va vn vc))
   replace RD:=Zh (row_put RD.out 0 (.slice va vn vc))
   replace RM:=Zx RM RD 1 (.slice xa9 1 xc9)
   replace RB:=Zx RB RD 1 (.slice xa9 1 xc9)
   replace RS:=Zx RS RD 1 (.slice xa9 1 xc9)
   replace BW:=Zh (BW.out.setCell (p:=⟨w3.heap.size,1,none⟩) LRD.out (.slice xa9 1 xc9))
   replace QA:=Zh (QA.out.stay RD.out (by decide) (by decide) 1 (.slice xa9 1 xc9))
   replace QX:=Zh (QX.out.stay RD.out (by decide) (by decide) 1 (.slice xa9 1 xc9))
   replace RX:=Zx RX RD 1 (.slice xa9 1 xc9)
   replace PB:=Zh (PB.out.stay RD.out (by decide) 1 (.slice xa9 1 xc9))
   replace AW:=Zh (AW.out.stay RD.out (by decide) 1 (.slice xa9 1 xc9))
   replace DE:=Zh (DE.out.stay RD.out (by decide) 1 (.slice xa9 1 xc9))
   replace RD:=Zh (row_put RD.out 1 (.slice xa9 1 xc9))
   go_upto_region 9 with fail
   obtain ⟨w14,hw14⟩:∃ x,x=(((((((w13.setCell ⟨w1.heap.size,0,none⟩ (.slice na 1700 nc)).setCell ⟨gs9,0,none⟩ (.int .i64 0)).setCell ⟨gs9,1,none⟩ (.int .i64 16)).setCell ⟨gs9,2,none⟩ (.int .u16 2)).setCell ⟨gs9,3,none⟩ (.int .u16 2)).setCell ⟨w3.heap.size,0,none⟩ (.slice va vn vc)).setCell ⟨w3.heap.size,1,none⟩ (.slice xa9 1 xc9)):=⟨_,rfl⟩
   rw [←hw14] at RM RB RD RS BW QA QX RX PB AW DE ⊢
   clear hw14
   clear m0 mz u0 u1 u2 u3 x0 x1 x2 x3 c0 c1 z0 z1 hlt hlt2 hlt3
   replace RM:=Zh (show w14.heap[w1.heap.size]? = some (.cells #[.slice na 1700 nc] 24 (0,0)) from RM.out)
   replace RS:=Zh (show w14.heap[gs9]? = some (.cells #[.int .i64 0,.int .i64 16,.int .u16 2,.int .u16 2] 45 (0,0)) from RS.out)
   replace RD:=Zh (show w14.heap[w3.heap.size]? = some (.cells #[.slice va vn vc,.slice xa9 1 xc9] 41 (0,0)) from RD.out)
   obtain ⟨m0,mz⟩:=one_cell RM.out
   go_wp2_with (refine blk_load rfl _ rfl _ rfl _ RX.out rfl ?_)
   refine (done_this hv3 hv4 zReq hvF zReq zReq zReq zReq zReq zReq _ _ _ D5 l4 2 1 2 2 3 90 1 1 788 1 5 _ AW.out QX.out hv3_goodB HF.out.n4 HF.out.poll1 rfl rfl rfl (by decide) rfl HF.out.st1 (by decide) rfl rfl rfl rfl rfl rfl rfl rfl rfl rfl).mono ?_
   rintro e w15 ⟨hb9a,hb9n,hb9c,hc9a,hc9n,hc9c,D6,rfl,hq,hb⟩
   replace RM:=Zk RM hb
   replace RB:=Zk RB hb
   replace RD:=Zk RD hb
   replace RS:=Zk RS hb
   replace BW:=Zb BW hb
   replace QA:=Zh (QA.out.below hb)
   replace QX:=Zh (QX.out.below hb)
   replace RX:=Zk RX hb
   replace PB:=Zh (PB.out.below hb)
   replace AW:=Zh (AW.out.below hb)
   replace DE:=Zh (DE.out.below hb)
   have QY:=Zh hq
   clear hq hb
   have LRY:=Zh (show w.heap.size≤w15.heap.size from BW.out.size)
   have hb:Below w15.heap.size w15 (w15.alloc (.cells (bk (.slice hb9a hb9n hb9c) (.slice hc9a hc9n hc9c) 2 2 zReq zReq zReq zReq) 34)):=(Below.refl _ _).alloc (Nat.le_refl _) _
   replace RM:=Zk RM hb
   replace RB:=Zk RB hb
   replace RD:=Zk RD hb
   replace RS:=Zk RS hb
   replace BW:=Zb BW hb
   replace QA:=Zh (QA.out.below hb)
   replace QX:=Zh (QX.out.below hb)
   replace RX:=Zk RX hb
   replace PB:=Zh (PB.out.below hb)
   replace AW:=Zh (AW.out.below hb)
   replace DE:=Zh (DE.out.below hb)
   replace QY:=Zh (QY.out.below hb)
   have RY:=Zh (heap_alloc_new w15 (.cells (bk (.slice hb9a hb9n hb9c) (.slice hc9a hc9n hc9c) 2 2 zReq zReq zReq zReq) 34))
   clear hb
   clear m0 mz
   go_upto_region 10 with (refine blk_store_new rfl _ _ rfl w15 w15.heap.size rfl (bk (.slice hb9a hb9n hb9c) (.slice hc9a hc9n hc9c) 2 2 zReq zReq zReq zReq) rfl rfl _ rfl rfl rfl (bk_one rfl rfl) ?_)
   obtain ⟨w16,hw16⟩:∃ x,x=(w15.alloc (.cells (bk (.slice hb9a hb9n hb9c) (.slice hc9a hc9n hc9c) 2 2 zReq zReq zReq zReq) 34)):=⟨_,rfl⟩
   rw [←hw16] at RM RB RD RS BW QA QX RX PB AW DE QY RY ⊢
   clear hw16
   obtain ⟨m0,mz⟩:=one_cell RM.out
   go_wp2_with (refine blk_load rfl _ rfl _ rfl _ RY.out rfl ?_)
   refine (doneNone_this hv4 zReq zReq zReq zReq _ _ _ D6 l4 2 2 _ AW.out QY.out hv4_goodB HF.out.n4 HF.out.poll2 rfl rfl).mono ?_
   rintro e w17 ⟨iba,ibn,ibc,ica,icn,icc,D7,rfl,hq,hb⟩
   replace RM:=Zk RM hb
   replace RB:=Zk RB hb
   replace RD:=Zk RD hb
   replace RS:=Zk RS hb
   replace BW:=Zb BW hb
   replace QA:=Zh (QA.out.below hb)
   replace QX:=Zh (QX.out.below hb)
   replace RX:=Zk RX hb
   replace PB:=Zh (PB.out.below hb)
   replace AW:=Zh (AW.out.below hb)
   replace DE:=Zh (DE.out.below hb)
   replace QY:=Zh (QY.out.below hb)
   replace RY:=Zk RY hb
   have QZ:=Zh hq
   clear hq hb
   have LRZ:=Zh (show w.heap.size≤w17.heap.size from BW.out.size)
   have hb:Below w17.heap.size w17 (w17.alloc (.cells (bk (.slice iba ibn ibc) (.slice ica icn icc) 2 2 zReq zReq zReq zReq) 34)):=(Below.refl _ _).alloc (Nat.le_refl _) _
   replace RM:=Zk RM hb
   replace RB:=Zk RB hb
   replace RD:=Zk RD hb
   replace RS:=Zk RS hb
   replace BW:=Zb BW hb
   replace QA:=Zh (QA.out.below hb)
   replace QX:=Zh (QX.out.below hb)
   replace RX:=Zk RX hb
   replace PB:=Zh (PB.out.below hb)
   replace AW:=Zh (AW.out.below hb)
   replace DE:=Zh (DE.out.below hb)
   replace QY:=Zh (QY.out.below hb)
   replace RY:=Zk RY hb
   replace QZ:=Zh (QZ.out.below hb)
   have RZ:=Zh (heap_alloc_new w17 (.cells (bk (.slice iba ibn ibc) (.slice ica icn icc) 2 2 zReq zReq zReq zReq) 34))
   clear hb
   clear m0 mz
   go_wp2_with (refine blk_store_new rfl _ _ rfl w17 w17.heap.size rfl (bk (.slice iba ibn ibc) (.slice ica icn icc) 2 2 zReq zReq zReq zReq) rfl rfl _ rfl rfl rfl (bk_one rfl rfl) ?_)
   obtain ⟨w18,hw18⟩:∃ x,x=(w17.alloc (.cells (bk (.slice iba ibn ibc) (.slice ica icn icc) 2 2 zReq zReq zReq zReq) 34)):=⟨_,rfl⟩
   rw [←hw18] at RM RB RD RS BW QA QX RX PB AW DE QY RY QZ RZ ⊢
   clear hw18
   refine (sector9_any 7 _).mono ?_
   rintro e w19 ⟨ga,rfl,hs,hb⟩
   replace RM:=Zk RM hb
   replace RB:=Zk RB hb
   replace RD:=Zk RD hb
   replace RS:=Zk RS hb
   replace BW:=Zb BW hb
   replace QA:=Zh (QA.out.below hb)
   replace QX:=Zh (QX.out.below hb)
   replace RX:=Zk RX hb
   replace PB:=Zh (PB.out.below hb)
   replace AW:=Zh (AW.out.below hb)
   replace DE:=Zh (DE.out.below hb)
   replace QY:=Zh (QY.out.below hb)
   replace RY:=Zk RY hb
   replace QZ:=Zh (QZ.out.below hb)
   replace RZ:=Zk RZ hb
   have SB:=Zh hs
   clear hs hb
   go_wp2_with fail
   refine (bytes_same _ _ vd7 _ PB.out.arg.1 SB.out.arg.1).mono ?_
   rintro e w20 ⟨rfl,rfl⟩
   obtain ⟨⟨u0,u1,u2,u3⟩,x0,x1,x2,x3⟩:=cells_four RS.out
   go_wp2_with (refine blk_load_want (by kernel_rfl) _ rfl _ rfl _ RY.out rfl ?_)
   refine (blkCheck_any hv4 zReq zReq zReq zReq _ _ D6 2 2 _ QY.out hv4_goodB rfl rfl).mono ?_
   rintro e w21 ⟨rfl,hb⟩
   replace RM:=Zk RM hb
   replace RB:=Zk RB hb
   replace RD:=Zk RD hb
   replace RS:=Zk RS hb
   replace BW:=Zb BW hb
   replace QA:=Zh (QA.out.below hb)
   replace QX:=Zh (QX.out.below hb)
   replace RX:=Zk RX hb
   replace PB:=Zh (PB.out.below hb)
   replace AW:=Zh (AW.out.below hb)
   replace DE:=Zh (DE.out.below hb)
   replace QY:=Zh (QY.out.below hb)
   replace RY:=Zk RY hb
   replace QZ:=Zh (QZ.out.below hb)
   replace RZ:=Zk RZ hb
   replace SB:=Zh (SB.out.below hb)
   clear hb
   obtain ⟨c0,c1,z0,z1⟩:=cells_two RD.out
   go_wp2_with fail
   go_ret
   exact ⟨rfl,BW.out⟩
theorem and15 (x:Int):∃ y:Nat,y≤15∧bits BinOp.and IntKind.i64 x 15=(y:Int):=by
 refine ⟨(BitVec.ofInt 64 x &&& BitVec.ofInt 64 ((15:Nat):Int)).toNat,?_,?_⟩
 · rw [show BitVec.ofInt 64 ((15:Nat):Int)=BitVec.ofNat 64 15 from BitVec.ofInt_natCast ..,BitVec.toNat_and,BitVec.toNat_ofNat,Nat.mod_eq_of_lt (by omega)]
   exact Nat.and_le_right
 · have h:(BitVec.ofInt 64 x &&& BitVec.ofInt 64 ((15:Nat):Int)).toNat≤15:=by
    rw [show BitVec.ofInt 64 ((15:Nat):Int)=BitVec.ofNat 64 15 from BitVec.ofInt_natCast ..,BitVec.toNat_and,BitVec.toNat_ofNat,Nat.mod_eq_of_lt (by omega)]
    exact Nat.and_le_right
   show IntKind.i64.wrap ((((BitVec.ofInt 64 x) &&& (BitVec.ofInt 64 ((15:Nat):Int))).toNat:Nat):Int)=_
   generalize ((BitVec.ofInt 64 x) &&& (BitVec.ofInt 64 ((15:Nat):Int))).toNat=y at h ⊢
   exact IntWalk.i64_in _ (by omega)
theorem wrap8 (x:Int):∃ y:Nat,y < 256∧IntKind.u8.wrap x=(y:Int) :=
 ⟨(x % 256).toNat,by omega,by simp [IntKind.wrap,IntKind.bits,IntKind.signed]; omega⟩
theorem arg_cell {w:World} {a:Option Addr} {n c:Nat} {l:List UInt8} (h:IsArg w (.slice a n c) l) (k:Nat) (hk:k < l.length):∃ b off,a=some ⟨b,off,none⟩∧b < w.heap.size∧w.cell? ⟨b,off+k,none⟩=some (.int .u8 (l.getD k 0).toNat):=by
 rcases h.1 with ⟨_,_,_,h0⟩|⟨b,off,cap,h1,_,_,h4,h5⟩
 · subst h0
   simp at hk
 · cases h1
   exact ⟨b,off,rfl,h4,h5 k hk⟩
theorem settled_append (S:List (List UInt8)) (C:List (Int × List UInt8)) (x:Int × List UInt8):settledOf S (C++[x]) every=(settledOf S C every).set x.1.toNat x.2:=by
 unfold settledOf
 rw [List.length_append,List.length_singleton]
 show (if every C.length=true then (after S (C++[x]) every C.length).set ((C++[x]).getD C.length (0,[])).1.toNat ((C++[x]).getD C.length (0,[])).2 else _)=_
 rw [if_pos (show every C.length=true from rfl),after_prefix S C [x] every C.length (Nat.le_refl _)]
 simp [List.getD_eq_getElem?_getD]
structure VW (S:List (List UInt8)) (C C2:List (Int × List UInt8)) (d L L2:List UInt8) (s y st:Nat) (R F:Int):Prop where
 st2:st < 256
 said:(y≠0∧C2=C∧st=y)∨(y=0∧∃ F:Int,wFault S C (s:Nat) 256=F∧(if F=0 then (0:Int) else 1)=(st:Nat)∧C2=writeOf S C (s:Nat) d)
 ok:(if st=0∧1=1 then (0:Int) else 90)=R
 f1:dFault S C (s:Nat)=F
 f2:dFault S C2 (s:Nat)=F
 r1:(if dFault S C (s:Nat)=0 then (settledOf S C every).getD ((s:Nat):Int).toNat [] else [])=L
 r2:(if dFault S C2 (s:Nat)=0 then (settledOf S C2 every).getD ((s:Nat):Int).toNat [] else [])=L2
 chk:chkB S C2=true
 len:C2.length≤C.length+1
 how:(y=0∧s < 8∧R=0∧F=0∧L2=d)∨(y≠0∧s < 8∧R=90∧F=0∧L2=L)∨(8≤s∧R=90∧F=50)
theorem vw {S:List (List UInt8)} {C:List (Int × List UInt8)} {d:List UInt8} {s y:Nat} (hk:chkB S C=true) (hS:S.length=8) (hC:C.length < 512) (hd:d.length=256) (hy:y < 256):∃ C2 L L2 st R F,VW S C C2 d L L2 s y st R F:=by
 have hF:∀ C:List (Int × List UInt8),chkB S C=true→s < 8→dFault S C (s:Nat)=0:=fun C h hs=>by
  unfold dFault
  rw [if_pos h,if_pos (by omega)]
 have hG:∀ C:List (Int × List UInt8),chkB S C=true→¬ s < 8→dFault S C (s:Nat)=50:=fun C h hs=>by
  unfold dFault
  rw [if_pos h,if_neg (by omega)]
 by_cases hs:s < 8
 · by_cases hy0:y=0
   · have hw:=write_one (s:=s) hk (by omega) hC hd
     have hc:chkB S (C++[(((s:Nat):Int),d)])=true:=by
      obtain ⟨h1,h2,h3,h4⟩:=chk_true.1 hk
      refine chk_true.2 ⟨h1,by rw [List.length_append,List.length_singleton]; omega,h3,fun x hx=>?_⟩
      rcases List.mem_append.1 hx with h|h
      · exact h4 x h
      · rw [List.mem_singleton.1 h]
        exact ⟨by simp,by show ((s:Nat):Int) < _; omega,hd⟩
     refine ⟨C++[(((s:Nat):Int),d)],_,d,0,0,0,by decide,.inr ⟨hy0,0,wf_zero hk (by omega) hC,rfl,hw.symm⟩,rfl,hF _ hk hs,hF _ hc hs,rfl,?_,hc,by simp,.inl ⟨hy0,hs,rfl,rfl,rfl⟩⟩
     rw [if_pos (hF _ hc hs),settled_append,Int.toNat_natCast,List.getD_eq_getElem?_getD,List.getElem?_set_self (by rw [settledOf,after_length]; omega)]
     rfl
   · exact ⟨C,_,_,y,90,0,hy,.inl ⟨hy0,rfl,rfl⟩,if_neg (fun h=>hy0 h.1),hF _ hk hs,hF _ hk hs,rfl,rfl,hk,by omega,.inr (.inl ⟨hy0,hs,rfl,rfl,rfl⟩)⟩
 · by_cases hy0:y=0
   · have h5:wFault S C (s:Nat) 256=50:=by
      unfold wFault
      rw [if_neg (by rw [hG _ hk hs]; decide),hG _ hk hs]
     have hw:writeOf S C (s:Nat) d=C:=by
      unfold writeOf
      rw [hd,if_neg (by rw [h5]; decide)]
     exact ⟨C,_,_,1,90,50,by decide,.inr ⟨hy0,50,h5,rfl,hw.symm⟩,rfl,hG _ hk hs,hG _ hk hs,rfl,rfl,hk,by omega,.inr (.inr ⟨by omega,rfl,rfl⟩)⟩
   · exact ⟨C,_,_,y,90,50,hy,.inl ⟨hy0,rfl,rfl⟩,if_neg (fun h=>hy0 h.1),hG _ hk hs,hG _ hk hs,rfl,rfl,hk,by omega,.inr (.inr ⟨by omega,rfl,rfl⟩)⟩
theorem VW.serve {S:List (List UInt8)} {C C2:List (Int × List UInt8)} {d L L2 l:List UInt8} {s y st:Nat} {R F:Int} (h:VW S C C2 d L L2 s y st R F) (hs:s < 256) (hl:Said l 500 s d):Served1 l S C C2 (bsW 500) y st:=by
 rcases h.said with h|⟨hy,F',h1,h2,h3⟩
 · exact .inl h
 · exact .inr ⟨hy,500,s,d,F',rfl,by decide,hl,hs,h1,h2,h3⟩
section
variable (v dv F C sv cv:Value) (D:List Value) (l l1 l2 d:List UInt8) (S:List (List UInt8)) (W1 W2:List (Int × List UInt8)) (L L2:List UInt8) (j A1 s y st:Nat) (R E z:Int) (w:World)
theorem write_round (hv:OwnB 0 w v l) (hdv:OwnB 0 w dv d) (hdl:d.length=256) (hs:s < 256) (hq:IsQ 0 w F C (wq j) D) (hl:l.length=1700) (hj:j < 65536) (hA1:(j+1) % 65536=A1) (h1:addM (layW l 500 s d) 0 16 (wq j) (bsW 500)=l1) :
 Calls Tryz.prog 9 #[.agg #[v],.agg (bk F C (j:Nat) (j:Nat) zReq zReq zReq zReq),.int .i64 (s:Nat),dv] w fun e w'=>∃ ra rc xa xn xc ya yn yc D2,e=.returned (.tuple #[.agg #[.slice ra 1700 rc],.agg (bk (.slice xa xn xc) (.slice ya yn yc) (A1:Nat) (j:Nat) (wr1 s) zReq zReq zReq),.int .i64 0,.int .i64 0])∧OwnB 0 w' (.slice ra 1700 rc) l1∧IsQ 0 w' (.slice xa xn xc) (.slice ya yn yc) (wq1 j 500) D2∧Below w.heap.size w w' :=
 write_this (wq j) (wq1 j 500) zReq zReq zReq zReq (wr1 s) zReq zReq zReq F C v dv D l l1 d (j:Nat) (j:Nat) (A1:Nat) 0 0 (s:Nat) s 0 500 w hv hdv hdl hs hq (wq_goodB hj) hl rfl (by decide) rfl (by show 3≤(upN 16).length; rw [upN16]; decide) rfl rfl (by rw [←hA1]; rfl) (by show (upN 16).getD 0 0=0; rw [upN16]; rfl) rfl rfl h1 rfl rfl rfl rfl rfl
theorem done_round (hv:OwnB 0 w v l2) (hq:IsQ 0 w F C (wq1 j 500) D) (hj:j < 65536) (hA1:(j+1) % 65536=A1) (hT:WTurn j s st d l1 l2) (hR:(if st=0∧1=1 then (0:Int) else 90)=R) :
 Calls Tryz.prog 12 #[.agg #[v],.agg (bk F C (A1:Nat) (j:Nat) (wr1 s) zReq zReq zReq)] w fun e w'=>∃ xa xn xc ya yn yc D2,e=.returned (.tuple #[.agg (bk (.slice xa xn xc) (.slice ya yn yc) (A1:Nat) (A1:Nat) zReq zReq zReq zReq),.int .i64 0,.int .i64 R,.int .i64 0])∧IsQ 0 w' (.slice xa xn xc) (.slice ya yn yc) (wq A1) D2∧Below w.heap.size w w' :=
 done_this (wq1 j 500) (wq A1) (wr1 s) zReq zReq zReq zReq zReq zReq zReq F C v D l2 (A1:Nat) (j:Nat) (A1:Nat) (A1:Nat) 0 R 0 0 500 1 st w hv hq (wq1_goodB hj) hT.n2 (fun q2 x y E h=>by have h:=hT.poll q2 x y E h; rw [hA1] at h; exact h) rfl rfl rfl (by decide) rfl hT.st (by decide) hR (by rw [←hA1]; rfl) rfl rfl rfl rfl rfl rfl rfl rfl
theorem serve_round (hv:OwnB 0 w v l1) (hd:DK w sv cv S W1) (hk:chkB S W1=true) (hj:j < 65536) (hA1:(j+1) % 65536=A1) (hT:WTurn j s st d l1 l2) (hV:VW S W1 W2 d L L2 s y st R E) (hs:s < 256) (hz:IntKind.u8.wrap z=(y:Int)) (hy:y < 256) (e2:returnD (putAt l1 (500+272) 1 st) 0 16 j 0 1=l2) :
 Calls Tryz.prog 11 #[.agg #[v],.agg #[.int .i64 0,.int .i64 16,.int .u16 (j:Nat),.int .u16 (j:Nat)],.agg #[sv,cv],.int .i64 z] w fun e w'=>∃ ra rc sa sn sc ca cn cc,e=.returned (.tuple #[.agg #[.slice ra 1700 rc],.agg #[.int .i64 0,.int .i64 16,.int .u16 (A1:Nat),.int .u16 (A1:Nat)],.agg #[.slice sa sn sc,.slice ca cn cc],.int .i64 0])∧OwnB 0 w' (.slice ra 1700 rc) l2∧DK w' (.slice sa sn sc) (.slice ca cn cc) S W2∧Below w.heap.size w w':=by
 subst e2 hA1
 exact serve_ok v sv cv l1 S W1 W2 [0,1,2] (bsW 500) j j ((j+1) % 65536) 0 3 2 772 y st 500 z (j:Nat) (j:Nat) (((j+1) % 65536:Nat):Int) (((j+1) % 65536:Nat):Int) 0 false w hv hd hk hT.ready hj hj hT.ix hT.ne (bsW_in (by decide)) rfl rfl (by decide) rfl rfl (by decide) hz hy hV.st2 (hV.serve hs hT.said) rfl rfl rfl rfl rfl (by decide)
end
open Go.RowKit Go.Lib Go.ChangeShapes Go.WideShapes
def intOfCell:Value→Int
 | .int _ z=>z
 | _=>0
def IsRows (w:World) (v:Value) (n:Nat) (V:Nat→Value) (Z:Nat→List UInt8):Prop :=
 ∃ a c,v=.slice a n c∧n≤c∧c≤maxLen∧(0 < n→∃ ad,a=some ad∧∀ i,i < n→w.cell? (ad.add i)=some (V i))∧∀ i,i < n→IsArg w (V i) (Z i)
theorem IsRows.below {w w':World} {v:Value} {n:Nat} {V:Nat→Value} {Z:Nat→List UInt8} (h:IsRows w v n V Z) (hb:Below w.heap.size w w'):IsRows w' v n V Z:=by
 obtain ⟨a,c,h1,h2,h3,h4,h5⟩:=h
 refine ⟨a,c,h1,h2,h3,fun h0=>?_,fun i hi=>(h5 i hi).below hb⟩
 obtain ⟨ad,e1,e3⟩:=h4 h0
 exact ⟨ad,e1,fun i hi=>(hb.cell (World.block_lt_of_cell? w _ (e3 i hi))).trans (e3 i hi)⟩
end Go.Proofs.YtcljffcdpjmmbaaGreat
