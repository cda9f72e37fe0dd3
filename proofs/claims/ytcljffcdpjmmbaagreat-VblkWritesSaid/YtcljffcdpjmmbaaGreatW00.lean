import Derived.Deep.Slices
import Derived.Deep.Grids
import Derived.Test.YtcljffcdpjmmbaaGreatG06
namespace Go.Proofs.YtcljffcdpjmmbaaGreat
open Go.RowKit Go.Lib
structure BlkWrA where
 (b0 b1 b2 b3 b4 b5 b6 b7 b8 b9 b10 b11 b12 b13 b14 b15 b16 b17 b18 b19:Bool)
 (s80 s81 s82 s83 s84 s85 s86 s87 s88 s79 s89 s90 s91 s92 s17 s18 s19 s20:Value)
structure BlkWrB where
 (b0 b1 b2 b3 b4 b5 b6 b7 b8 b9 b10 b11 b12 b13 b14 b15 b16 b17 b18:Bool)
 (s94 s95 s96 s97 s98 s99 s100 s101 s93 s102 s103 s104 s105 s21 s22 s23:Value)
structure BlkWrC where
 (b0 b1 b2 b3 b4 b5 b6 b7:Bool)
 (s176 s177 s178 s179:Value)
set_option maxHeartbeats 2000000 in
set_option maxRecDepth 100000 in
theorem vblkWrites_main (w:World) (va vb vc:Value) (l:List Int) (cs:List UInt8) (ss:List Int) (hv:IsInts w va l) (hcs:IsArg w vb cs) (hss:IsInts w vc ss) (hc:l.length≤30∧l.length≤cs.length∧l.length≤ss.length):Calls Tryz.prog 4 #[va,vb,vc] w fun e w'=>e=.returned (.bool true)∧Below w.heap.size w w':=by
 obtain ⟨a1,n1,c1,rfl,q1⟩:∃ a n c,va=.slice a n c∧n=l.length:=by obtain ⟨a,c,h,_⟩:=hv.1.shape; exact ⟨a,_,c,h,by simp⟩
 obtain ⟨a2,n2,c2,rfl,q2⟩:∃ a n c,vb=.slice a n c∧n=cs.length:=by obtain ⟨a,c,h,_⟩:=hcs.shape; exact ⟨a,_,c,h,by simp⟩
 obtain ⟨a3,n3,c3,rfl,q3⟩:∃ a n c,vc=.slice a n c∧n=ss.length:=by obtain ⟨a,c,h,_⟩:=hss.1.shape; exact ⟨a,_,c,h,by simp⟩
 rw [←q1,←q2,←q3] at hc
 have HV:=Zh hv
 have HCS:=Zh hcs
 have HSS:=Zh hss
 have HN1:=Zh q1
 have HN2:=Zh q2
 have HN3:=Zh q3
 have HC:=Zh hc
 have t1:decide ((30:Int) < ((n1:Nat):Int))=false:=decide_eq_false (by omega)
 have t2:decide (30 < n1)=false:=decide_eq_false (by omega)
 have t3:decide (n2 < n1)=false:=decide_eq_false (by omega)
 have t4:decide (n3 < n1)=false:=decide_eq_false (by omega)
 clear hv hcs hss q1 q2 q3 hc
 obtain ⟨z0,hz0⟩:∃ l:List UInt8,l=List.replicate 1700 0:=⟨_,rfl⟩
 have hn0:z0.length=1700:=by rw [hz0]; simp
 obtain ⟨l0,hl0⟩:∃ l,zeroM z0 0 16=l:=⟨_,rfl⟩
 have hnn:l0.length=1700:=by rw [←hl0,zeroM_length (ok1700 hn0),hn0]
 have HN0:=Zh hn0
 have HNL:=Zh hnn
 have HL0:=Zh hl0
 have hzz:=zerosK_own w 1700 (by decide)
 rw [←hz0] at hzz
 have AM:=Zh hzz
 have BW:=Zh ((Below.refl w.heap.size w).alloc (Nat.le_refl _) (.cells (madeCells #[.int .u8 0] 1700) 5))
 have hmk:=run_zeros1700
 clear hz0 hn0 hl0 hnn hzz
 go_enter Tryz.func4,Tryz.ntmps4
 go_wp2_with fail
 refine (blkNew_this _ z0 _ AM.out HN0.out).mono ?_
 rintro e w1 ⟨aa,ca,F2,C2,rfl,hm,hq,hb⟩
 obtain ⟨xa0,xn0,xc0,ya0,yn0,yc0,rfl,rfl,hx⟩:=hq.shape
 clear hx hmk
 rw [HL0.out] at hm
 replace AM:=Zh (AM.out.below hb)
 replace BW:=Zb BW hb
 have AV:=Zh hm
 have QA:=Zh hq
 clear hm hq hb
 clear AM
 have hz1:(w1.alloc (.cells #[.slice aa 1700 ca] 24)).heap.size=w1.heap.size+1:=by simp
 have LRM:=Zh (show w.heap.size≤w1.heap.size from BW.out.size)
 have LRB:=Zh (show w.heap.size≤w1.heap.size+1 from Nat.le_succ_of_le BW.out.size)
 obtain ⟨t0,t1,hb⟩:=two_boxes w1 #[.slice aa 1700 ca] (bk (.slice xa0 xn0 xc0) (.slice ya0 yn0 yc0) 0 0 zReq zReq zReq zReq) 24 34
 replace BW:=Zb BW hb
 replace AV:=Zh (AV.out.below hb)
 replace QA:=Zh (QA.out.below hb)
 have RM:=Zh t0
 have RB:=Zh t1
 clear t0 t1 hb
 go_wp2_with (refine blk_store_new rfl _ _ rfl (w1.alloc (.cells #[.slice aa 1700 ca] 24)) (w1.heap.size+1) hz1 (bk (.slice xa0 xn0 xc0) (.slice ya0 yn0 yc0) 0 0 zReq zReq zReq zReq) rfl rfl _ rfl rfl rfl (bk_one rfl rfl) ?_)
 obtain ⟨w2,hw2⟩:∃ x,x=((w1.alloc (.cells #[.slice aa 1700 ca] 24)).alloc (.cells (bk (.slice xa0 xn0 xc0) (.slice ya0 yn0 yc0) 0 0 zReq zReq zReq zReq) 34)):=⟨_,rfl⟩
 rw [←hw2] at BW AV QA RM RB ⊢
 clear hw2
 clear hz1
 refine (dskNew_k 8 8 rfl (by decide) _).mono ?_
 rintro e w3 ⟨sa0,sn0,sc0,rfl,hd,hb⟩
 replace BW:=Zb BW hb
 replace AV:=Zh (AV.out.below hb)
 replace QA:=Zh (QA.out.below hb)
 replace RM:=Zk RM hb
 replace RB:=Zk RB hb
 have DD:=Zh hd
 clear hd hb
 obtain ⟨S,hS⟩:∃ S,S=List.replicate 8 zsec:=⟨_,rfl⟩
 have hk0:chkB S []=true:=by rw [hS]; exact zero_chk (by decide)
 have hsl:S.length=8:=by rw [hS]; simp
 rw [←hS] at DD
 have HK0:=Zh hk0
 have HSL:=Zh hsl
 clear hS hk0 hsl
 have LRD:=Zh (show w.heap.size≤w3.heap.size from BW.out.size)
 have hb:Below w3.heap.size w3 (w3.alloc (.cells #[.slice sa0 sn0 sc0,.slice none 0 0] 41)):=(Below.refl _ _).alloc (Nat.le_refl _) _
 replace BW:=Zb BW hb
 replace AV:=Zh (AV.out.below hb)
 replace QA:=Zh (QA.out.below hb)
 replace RM:=Zk RM hb
 replace RB:=Zk RB hb
 replace DD:=Zh (DD.out.below hb)
 have RD:=Zh (heap_alloc_new w3 (.cells #[.slice sa0 sn0 sc0,.slice none 0 0] 41))
 clear hb
 go_wp2_with fail
 refine (refServe_any 0 16 _).mono ?_
 rintro e w4 ⟨rfl,hb⟩
 replace BW:=Zb BW hb
 replace AV:=Zh (AV.out.below hb)
 replace QA:=Zh (QA.out.below hb)
 replace RM:=Zk RM hb
 replace RB:=Zk RB hb
 replace DD:=Zh (DD.out.below hb)
 replace RD:=Zk RD hb
 clear hb
 have LRS:=Zh (show w.heap.size≤w4.heap.size from BW.out.size)
 have hb:Below w4.heap.size w4 (w4.alloc (.cells #[.int .i64 0,.int .i64 16,.int .u16 0,.int .u16 0] 45)):=(Below.refl _ _).alloc (Nat.le_refl _) _
 replace BW:=Zb BW hb
 replace AV:=Zh (AV.out.below hb)
 replace QA:=Zh (QA.out.below hb)
 replace RM:=Zk RM hb
 replace RB:=Zk RB hb
 replace DD:=Zh (DD.out.below hb)
 replace RD:=Zk RD hb
 have RS:=Zh (heap_alloc_new w4 (.cells #[.int .i64 0,.int .i64 16,.int .u16 0,.int .u16 0] 45))
 clear hb
 go_wp2
 obtain ⟨w5,hw5⟩:∃ x,x=(w4.alloc (.cells #[.int .i64 0,.int .i64 16,.int .u16 0,.int .u16 0] 45)):=⟨_,rfl⟩
 rw [←hw5] at BW AV QA RM RB DD RD RS ⊢
 clear hw5
 go_loopw [13] (fun i wr=>∃ (j:Nat) (G:List UInt8) (C:List (Int × List UInt8)),j≤n1∧i=.int .i64 (j:Nat)∧G.length=1700∧C.length≤j∧chkB S C=true∧MemAt wr w1.heap.size G∧BlkAt wr (w1.heap.size+1) (wq j) (j:Nat) (j:Nat) zReq zReq zReq zReq∧wr.heap[w4.heap.size]? = some (.cells #[.int .i64 0,.int .i64 16,.int .u16 (j:Nat),.int .u16 (j:Nat)] 45 (0,0))∧DiskAt wr w3.heap.size S C∧Below w.heap.size w wr) (fun i _=>n1 - (intOf i).toNat)
 case atStart=>exact ⟨0,l0,[],Nat.zero_le _,rfl,HNL.out,Nat.le_refl _,HK0.out,⟨_,_,RM.out,AV.out⟩,⟨_,_,_,RB.out,QA.out⟩,RS.out,⟨_,_,_,_,_,_,RD.out,DD.out⟩,BW.out⟩
 have HLM0:=Zh LRM.out
 have HLB0:=Zh LRB.out
 have HLD0:=Zh LRD.out
 have HLS0:=Zh LRS.out
 clear AV QA DD RM RB RD RS BW LRM LRB LRD LRS
 case round =>
  obtain ⟨j,G,C,hj,rfl,hG,hC,hk,⟨ma,mc,hm,hmo⟩,⟨F,C0,D,hb,hbo⟩,hs,⟨sa,sn,sc,ua,un,uc,hd,hdo⟩,hw⟩:=hrel
  obtain ⟨xa,xn,xc,ya,yn,yc,rfl,rfl,hx⟩:=hbo.shape
  have RM:=Zh hm
  have AV:=Zh hmo
  have RB:=Zh hb
  have QA:=Zh hbo
  have RS:=Zh hs
  have RD:=Zh hd
  have DD:=Zh hdo
  have BO:=Zh hw
  have HG:=Zh hG
  have HCL:=Zh hC
  have HK:=Zh hk
  have HJ:=Zh hj
  clear hx hm hmo hb hbo hs hd hdo hw hG hC hk
  by_cases hlt:j < n1
  · have BW:=Zh (Below.refl wr.heap.size wr)
    have HLM:=Zh (Array.getElem?_eq_some_iff.1 RM.out).1
    have HLB:=Zh (Array.getElem?_eq_some_iff.1 RB.out).1
    have HLS:=Zh (Array.getElem?_eq_some_iff.1 RS.out).1
    have HLD:=Zh (Array.getElem?_eq_some_iff.1 RD.out).1
    obtain ⟨k1,o1,rfl,e1⟩:=(HV.out.below BO.out).at j (by rw [←HN1.out]; exact hlt)
    obtain ⟨k2,o2,rfl,hl2,e2⟩:=arg_cell (HCS.out.below BO.out) j (by rw [←HN2.out]; have:=HC.out; omega)
    obtain ⟨k3,o3,rfl,e3⟩:=(HSS.out.below BO.out).at j (by rw [←HN3.out]; have:=HC.out; omega)
    obtain ⟨x1,hx1⟩:∃ x,l.getD j 0=x:=⟨_,rfl⟩
    obtain ⟨x3,hx3⟩:∃ x,ss.getD j 0=x:=⟨_,rfl⟩
    obtain ⟨c,hcc⟩:∃ x,cs.getD j 0=x:=⟨_,rfl⟩
    rw [hx1] at e1
    rw [hx3] at e3
    rw [hcc] at e2
    obtain ⟨s,hs15,hsa⟩:=and15 x1
    obtain ⟨y,hy,hyw⟩:=wrap8 x3
    obtain ⟨d,hd⟩:∃ d,List.replicate 256 c=d:=⟨_,rfl⟩
    have hdl:d.length=256:=by rw [←hd]; exact List.length_replicate
    obtain ⟨A1,hA1⟩:∃ x,(j+1) % 65536=x:=⟨_,rfl⟩
    have hj6:j < 65536:=by have:=HC.out; omega
    obtain ⟨W2,L,L2,st,R,F,hvw⟩:=vw (s:=s) HK.out HSL.out (show C.length < 512 by have:=HC.out; have:=HCL.out; omega) hdl hy
    obtain ⟨G1,hG1⟩:∃ x,addM (layW G 500 s d) 0 16 (wq j) (bsW 500)=x:=⟨_,rfl⟩
    obtain ⟨G2,hG2⟩:∃ x,returnD (putAt G1 (500+272) 1 st) 0 16 j 0 1=x:=⟨_,rfl⟩
    have HT:=Zh (wturn hj6 HG.out hdl (show s < 256 by omega) hvw.st2 hG1 hG2)
    have HVW:=Zh hvw
    have HG1:=Zh hG1
    have HG2:=Zh hG2
    have HA1:=Zh hA1
    have HJ6:=Zh hj6
    have HDL:=Zh hdl
    have HD:=Zh hd
    have HY:=Zh hy
    have HYW:=Zh hyw
    have HS15:=Zh hs15
    have HS2:=Zh (show s < 256 by omega)
    have E2:=Zh e2
    have E3:=Zh e3
    clear hx1 hx3 hcc hy hyw hd hdl hA1 hj6 hvw hG1 hG2 hs15 e2 e3 hl2 hj
    obtain ⟨c0,c1,z0,z1⟩:=cells_two RD.out
    have hltj:((j:Nat):Int) < ((n1:Nat):Int):=by omega
    go_wp2_with fail
    refine (refRead_dk _ _ S C _ DD.out (s:Nat) F HVW.out.f1 L HVW.out.r1).mono ?_
    rintro e w6 ⟨pa,pn,pc,rfl,hp,hpn,hb⟩
    clear hpn
    replace RM:=Zk RM hb
    replace RB:=Zk RB hb
    replace RS:=Zk RS hb
    replace RD:=Zk RD hb
    replace AV:=Zh (AV.out.below hb)
    replace QA:=Zh (QA.out.below hb)
    replace DD:=Zh (DD.out.below hb)
    replace BW:=Zb BW hb
    have PB:=Zh hp
    clear hp hb
    clear c0 c1 z0 z1 e1 hsa hltj
    go_wp2_with fail
    refine wp_region_rec (X:=BlkWrA) (by kernel_rfl) (by kernel_rfl) (fun x=>#[x.b0,x.b1,x.b2,x.b3,x.b4,x.b5,x.b6,x.b7,x.b8,x.b9,x.b10,x.b11,x.b12,x.b13,x.b14,x.b15,x.b16,x.b17,x.b18,x.b19]) (fun x=>{ tmps:=List.toArray ((.slice (some ⟨k1,o1,none⟩) n1 c1)::(.slice (some ⟨k2,o2,none⟩) n2 c2)::(.slice (some ⟨k3,o3,none⟩) n3 c3)::undef::undef::undef::u6::(.pointer (some ⟨w1.heap.size,0,none⟩))::(.pointer (some ⟨w1.heap.size+1,0,none⟩))::(.int .i64 0)::(.pointer (some ⟨w3.heap.size,0,none⟩))::(.int .i64 0)::(.pointer (some ⟨w4.heap.size,0,none⟩))::(.int .i64 (j:Nat))::(.int .i64 (s:Nat))::(.slice pa pn pc)::(.int .i64 F)::x.s17::x.s18::x.s19::x.s20::u21::u22::u23::u24::u25::u26::u27::u28::u29::(.slice (some ⟨k1,o1,none⟩) n1 c1)::(.int .i64 (n1:Nat))::(.bool false)::(.bool false)::(.slice (some ⟨k2,o2,none⟩) n2 c2)::(.int .i64 (n2:Nat))::(.slice (some ⟨k1,o1,none⟩) n1 c1)::(.int .i64 (n1:Nat))::(.bool false)::(.bool false)::(.bool false)::(.slice (some ⟨k3,o3,none⟩) n3 c3)::(.int .i64 (n3:Nat))::(.slice (some ⟨k1,o1,none⟩) n1 c1)::(.int .i64 (n1:Nat))::(.bool false)::(.bool false)::undef::(.tuple #[.agg #[.slice aa 1700 ca],.agg (bk (.slice xa0 xn0 xc0) (.slice ya0 yn0 yc0) 0 0 zReq zReq zReq zReq),.int .i64 0])::(.slice (some ⟨w.heap.size,0,none⟩) 1700 1700)::(.agg #[.slice (some ⟨w.heap.size,0,none⟩) 1700 1700])::(.tuple #[.agg #[.slice aa 1700 ca],.agg (bk (.slice xa0 xn0 xc0) (.slice ya0 yn0 yc0) 0 0 zReq zReq zReq zReq),.int .i64 0])::(.agg #[.slice aa 1700 ca])::(.agg (bk (.slice xa0 xn0 xc0) (.slice ya0 yn0 yc0) 0 0 zReq zReq zReq zReq))::(.int .i64 0)::(.tuple #[.agg #[.slice sa0 sn0 sc0,.slice none 0 0],.int .i64 0])::(.tuple #[.agg #[.slice sa0 sn0 sc0,.slice none 0 0],.int .i64 0])::(.agg #[.slice sa0 sn0 sc0,.slice none 0 0])::(.int .i64 0)::(.agg #[.int .i64 0,.int .i64 16,.int .u16 0,.int .u16 0])::(.int .i64 0)::(.bool false)::(.int .i64 (j:Nat))::(.slice (some ⟨k1,o1,none⟩) n1 c1)::(.int .i64 (n1:Nat))::(.bool true)::u66::u67::(.slice (some ⟨k1,o1,none⟩) n1 c1)::(.int .i64 (j:Nat))::(.pointer (some ⟨k1,o1+j,none⟩))::(.int .i64 x1)::(.int .i64 (s:Nat))::(.tuple #[.slice pa pn pc,.int .i64 F])::(.agg #[.slice sa sn sc,.slice ua un uc])::(.int .i64 (s:Nat))::(.tuple #[.slice pa pn pc,.int .i64 F])::(.slice pa pn pc)::(.int .i64 F)::x.s79::x.s80::x.s81::x.s82::x.s83::x.s84::x.s85::x.s86::x.s87::x.s88::x.s89::x.s90::x.s91::x.s92::u93::u94::u95::u96::u97::u98::u99::u100::u101::u102::u103::u104::u105::u106::u107::u108::u109::u110::u111::u112::u113::u114::u115::u116::u117::u118::u119::u120::u121::u122::u123::u124::u125::u126::u127::u128::u129::u130::u131::u132::u133::u134::u135::u136::u137::u138::u139::u140::u141::u142::u143::u144::u145::u146::u147::u148::u149::u150::u151::u152::u153::u154::u155::u156::u157::u158::u159::u160::u161::u162::u163::u164::u165::u166::u167::u168::u169::u170::u171::u172::u173::u174::u175::u176::u177::u178::u179::undef::undef::undef::undef::undef::[]),defers:=[] }) (fun x W=>(x.b0→x.s80=.agg #[.slice ma 1700 mc])∧(x.b1→x.s81=.agg (bk (.slice xa xn xc) (.slice ya yn yc) (j:Nat) (j:Nat) zReq zReq zReq zReq))∧(x.b2→x.s82=.int .i64 (s:Nat))∧(x.b3→x.s83=.slice (some ⟨k2,o2,none⟩) n2 c2)∧(x.b4→x.s84=.int .i64 (j:Nat))∧(x.b5→x.s85=.pointer (some ⟨k2,o2+j,none⟩))∧(x.b6→x.s86=.int .u8 c.toNat)∧(x.b9→x.s79=x.s88)∧(x.b12→x.s91=.int .i64 0)∧(x.b13→x.s92=.int .i64 0)∧(x.b18→x.s19=.int .i64 0)∧(x.b19→x.s20=.int .i64 0)∧(x.b16→x.b6∧x.b7∧x.b8∧x.b14∧x.b15)∧(x.b17→x.b7∧x.b8∧x.b14∧x.b15∧x.b16)∧(x.b9→x.b7∧x.b8)∧(x.b8→x.b7)∧(x.b10→x.b7∧x.b8)∧(x.b11→x.b7∧x.b8)∧(W.heap[w1.heap.size]? = some (.cells #[.slice ma 1700 mc] 24 (0,0)))∧(W.heap[w1.heap.size+1]? = some (.cells (bk (.slice xa xn xc) (.slice ya yn yc) (j:Nat) (j:Nat) zReq zReq zReq zReq) 34 (0,0)))∧(W.heap[w4.heap.size]? = some (.cells #[.int .i64 0,.int .i64 16,.int .u16 (j:Nat),.int .u16 (j:Nat)] 45 (0,0)))∧(W.heap[w3.heap.size]? = some (.cells #[.slice sa sn sc,.slice ua un uc] 41 (0,0)))∧(Below wr.heap.size wr W)∧(OwnB 0 W (.slice ma 1700 mc) G)∧(IsQ 0 W (.slice xa xn xc) (.slice ya yn yc) (wq j) D)∧(DK W (.slice sa sn sc) (.slice ua un uc) S C)∧(OwnB 0 W (.slice pa pn pc) L)∧(x.b16=false→W.cell? ⟨k2,o2+j,none⟩=some (.int .u8 c.toNat))∧(x.b7→∃ gs,x.s87=.slice (some ⟨gs,0,none⟩) 256 256∧OwnB 0 W (.slice (some ⟨gs,0,none⟩) 256 256) d)∧(x.b8→∃ ra rc ta tn tc va vn vc D2,x.s88=.tuple #[.agg #[.slice ra 1700 rc],.agg (bk (.slice ta tn tc) (.slice va vn vc) (A1:Nat) (j:Nat) (wr1 s) zReq zReq zReq),.int .i64 0,.int .i64 0]∧OwnB 0 W (.slice ra 1700 rc) G1∧IsQ 0 W (.slice ta tn tc) (.slice va vn vc) (wq1 j 500) D2)∧(x.b10→∃ ra rc,x.s89=.agg #[.slice ra 1700 rc]∧OwnB 0 W (.slice ra 1700 rc) G1)∧(x.b11→∃ ta tn tc va vn vc D2,x.s90=.agg (bk (.slice ta tn tc) (.slice va vn vc) (A1:Nat) (j:Nat) (wr1 s) zReq zReq zReq)∧IsQ 0 W (.slice ta tn tc) (.slice va vn vc) (wq1 j 500) D2)∧(x.b14→∃ g,x.s17=.pointer (some ⟨g,0,none⟩)∧wr.heap.size≤g∧(x.b16=false→W.heap[g]? = some (.cells (#[.slice none 0 0]) 24 (0,0))))∧(x.b16→∃ g,x.s17=.pointer (some ⟨g,0,none⟩)∧wr.heap.size≤g∧MemAt W g G1)∧(x.b15→∃ g,x.s18=.pointer (some ⟨g,0,none⟩)∧wr.heap.size≤g∧(x.b17=false→W.heap[g]? = some (.cells (bk0) 34 (0,0))))∧(x.b17→∃ g,x.s18=.pointer (some ⟨g,0,none⟩)∧wr.heap.size≤g∧BlkAt W g (wq1 j 500) (A1:Nat) (j:Nat) (wr1 s) zReq zReq zReq)) ⟨false,false,false,false,false,false,false,false,false,false,false,false,false,false,false,false,false,false,false,false,u80,u81,u82,u83,u84,u85,u86,u87,u88,u79,u89,u90,u91,u92,u17,u18,u19,u20⟩ rfl rfl ⟨Zf,Zf,Zf,Zf,Zf,Zf,Zf,Zf,Zf,Zf,Zf,Zf,Zf,Zf,Zf,Zf,Zf,Zf,RM.out,RB.out,RS.out,RD.out,BW.out.drew,AV.out.drew,QA.out.drew,DD.out.drew,PB.out.drew,(fun _=>kept E2.out BW.out.drew),Zf,Zf,Zf,Zf,Zf,Zf,Zf,Zf⟩ (fun _=>rfl) ?hstep ?hdone
    case hstep =>
     rintro ⟨b0,b1,b2,b3,b4,b5,b6,b7,b8,b9,b10,b11,b12,b13,b14,b15,b16,b17,b18,b19,s80,s81,s82,s83,s84,s85,s86,s87,s88,s79,s89,s90,s91,s92,s17,s18,s19,s20⟩ W hI i hi
     dsimp only at hI hi ⊢
     have HI:=Zh hI
     clear hI
     rw [Region.ready,List.mem_filter,List.mem_range] at hi
     obtain ⟨hlt,hp⟩:=hi
     have hi7:i=0∨i=1∨i=2∨i=3∨i=4∨i=5∨i=6∨i=7∨i=8∨i=9∨i=10∨i=11∨i=12∨i=13∨i=14∨i=15∨i=16∨i=17∨i=18∨i=19:=by simp at hlt; omega
     clear hlt
     rcases hi7 with rfl|rfl|rfl|rfl|rfl|rfl|rfl|rfl|rfl|rfl|rfl|rfl|rfl|rfl|rfl|rfl|rfl|rfl|rfl|rfl
     all_goals simp [Region.binds] at hp
     · obtain rfl:b0=false:=by revert hp; cases b0 <;> simp
       clear hp; refine Zv 80 fun K' hK'=>?_
       have rM:=(Zg HI.out).2.2.1
       obtain ⟨hc0,_⟩:=at_cell rM 0 _ rfl
       go_simp
       exact hK'.out _ _ ⟨.mk ..,rfl,rfl,(Upd (fun _=>rfl)) HI.out⟩
     · obtain rfl:b1=false:=by revert hp; cases b1 <;> simp
       clear hp; refine Zv 81 fun K' hK'=>?_
       have rB:=(Zg HI.out).2.2.2.1
       refine step_blk_load rfl _ rfl _ rfl _ rB rfl ?_
       exact hK'.out _ _ ⟨.mk ..,rfl,rfl,Nxt (Upd (fun _=>rfl)) HI.out⟩
     · obtain rfl:b2=false:=by revert hp; cases b2 <;> simp
       clear hp; refine Zv 82 fun K' hK'=>?_
       go_simp
       exact hK'.out _ _ ⟨.mk ..,rfl,rfl,Nxt (Nxt (Upd (fun _=>rfl))) HI.out⟩
     · obtain rfl:b3=false:=by revert hp; cases b3 <;> simp
       clear hp; refine Zv 83 fun K' hK'=>?_
       go_simp
       exact hK'.out _ _ ⟨.mk ..,rfl,rfl,Nxt (Nxt (Nxt (Upd (fun _=>rfl)))) HI.out⟩
     · obtain rfl:b4=false:=by revert hp; cases b4 <;> simp
       clear hp; refine Zv 84 fun K' hK'=>?_
       go_simp
       exact hK'.out _ _ ⟨.mk ..,rfl,rfl,Nx4 (Upd (fun _=>rfl)) HI.out⟩
     · obtain ⟨rfl,e3,e4⟩:b5=false∧b3=true∧b4=true:=by revert hp; cases b5 <;> cases b3 <;> cases b4 <;> simp
       clear hp
       obtain rfl:=(HI.out.2.2.2.1) e3
       obtain rfl:=((Zd HI.out).1) e4
       refine Zv 85 fun K' hK'=>?_
       have hl0:0≤(j:Int):=by omega
       have hl1:(j:Int) < (n2:Int):=by have:=HC.out; omega
       go_simp
       exact hK'.out _ _ ⟨.mk ..,rfl,rfl,Nxt (Nx4 (Upd (fun _=>rfl))) HI.out⟩
     · obtain ⟨rfl,e5⟩:b6=false∧b5=true:=by revert hp; cases b6 <;> cases b5 <;> simp
       clear hp
       obtain rfl:=((Zd HI.out).2.1) e5
       refine Zv 86 fun K' hK'=>?_
       have gi16:=(Zd (Ze HI.out)).1
       have gC:=(Ze (Zg HI.out)).2.2.2.1
       obtain rfl:b16=false:=Zz fun e=>(gi16 e).1
       have hcc:=gC rfl
       go_simp
       obtain ⟨h0,h1,h2,h3,h4,h5,h6,h9,h12,h13,h18,h19,gi16,gi17,gi9,gi8,gi10,gi11,rM,rB,rS,rD,gB,gV,gQ,gD,gU,gC,gS,gP,gX,gY,gN,gN2,gW,gW2⟩:=HI.out
       exact hK'.out _ _ ⟨.mk ..,rfl,rfl,h0,h1,h2,h3,h4,h5,(fun _=>rfl),h9,h12,h13,h18,h19,Zf,gi17,gi9,gi8,gi10,gi11,rM,rB,rS,rD,gB,gV,gQ,gD,gU,gC,gS,gP,gX,gY,gN,Zf,gW,gW2⟩
     · obtain ⟨rfl,e6⟩:b7=false∧b6=true:=by revert hp; cases b7 <;> cases b6 <;> simp
       clear hp
       obtain rfl:=((Zd HI.out).2.2.1) e6
       refine Zv 87 fun K' hK'=>?_
       have gi16:=(Zd (Ze HI.out)).1
       have gi17:=(Zd (Ze HI.out)).2.1
       have gi9:=(Zd (Ze HI.out)).2.2.1
       have gi8:=(Zd (Ze HI.out)).2.2.2.1
       have gi10:=(Zg HI.out).1
       have gi11:=(Zg HI.out).2.1
       obtain rfl:b16=false:=Zz fun e=>(gi16 e).2.1
       obtain rfl:b17=false:=Zz fun e=>(gi17 e).1
       obtain rfl:b9=false:=Zz fun e=>(gi9 e).1
       obtain rfl:b8=false:=Zz fun e=>(gi8 e)
       obtain rfl:b10=false:=Zz fun e=>(gi10 e).1
       obtain rfl:b11=false:=Zz fun e=>(gi11 e).1
       go_simp
       refine (sector9_any c W).mono ?_
       rintro e w7 ⟨gs,rfl,hsc,bn⟩
       rw [HD.out] at hsc
       obtain ⟨h0,h1,h2,h3,h4,h5,h6,h9,h12,h13,h18,h19,gi16,gi17,gi9,gi8,gi10,gi11,rM,rB,rS,rD,gB,gV,gQ,gD,gU,gC,gS,gP,gX,gY,gN,gN2,gW,gW2⟩:=HI.out
       exact hK'.out _ _ ⟨.mk ..,rfl,rfl,h0,h1,h2,h3,h4,h5,h6,h9,h12,h13,h18,h19,Zf,Zf,Zf,Zf,Zf,Zf,(row_keep rM bn),(row_keep rB bn),(row_keep rS bn),(row_keep rD bn),(gB.trans (bn.mono gB.size)),(gV.below bn),(gQ.below bn),(gD.below bn),(gU.below bn),(fun e=>kept (gC e) bn),(fun _=>⟨gs,rfl,hsc⟩),Zf,Zf,Zf,(fun e=>by obtain ⟨y0,h1,h2,h3⟩:=gN e; exact ⟨y0,h1,h2,fun e2=>row_keep (h3 e2) bn⟩),Zf,(fun e=>by obtain ⟨y0,h1,h2,h3⟩:=gW e; exact ⟨y0,h1,h2,fun e2=>row_keep (h3 e2) bn⟩),Zf⟩
     · have hn8:b8=false:=by revert hp; cases b8 <;> simp
       have e0:b0=true:=by revert hp; cases b0 <;> simp
       have e1:b1=true:=by revert hp; cases b1 <;> simp
       have e2:b2=true:=by revert hp; cases b2 <;> simp
       have e7:b7=true:=by revert hp; cases b7 <;> simp
       clear hp
       obtain rfl:=(HI.out.1) e0
       obtain rfl:=(HI.out.2.1) e1
       obtain rfl:=(HI.out.2.2.1) e2
       subst hn8
       refine Zv 88 fun K' hK'=>?_
       have gi16:=(Zd (Ze HI.out)).1
       have gi17:=(Zd (Ze HI.out)).2.1
       have gi9:=(Zd (Ze HI.out)).2.2.1
       have gi10:=(Zg HI.out).1
       have gi11:=(Zg HI.out).2.1
       have gV:=(Zd (Zg HI.out)).2.2.2.1
       have gQ:=(Ze (Zg HI.out)).1
       have gS:=(Zd (Ze (Zg HI.out))).1
       obtain rfl:b16=false:=Zz fun e=>(gi16 e).2.2.1
       obtain rfl:b17=false:=Zz fun e=>(gi17 e).2.1
       obtain rfl:b9=false:=Zz fun e=>(gi9 e).2
       obtain rfl:b10=false:=Zz fun e=>(gi10 e).2
       obtain rfl:b11=false:=Zz fun e=>(gi11 e).2
       obtain ⟨gs,rfl,hsc⟩:=gS e7
       go_simp
       refine (write_round _ _ _ _ D G G1 d j A1 s W gV hsc HDL.out HS2.out gQ HG.out HJ6.out HA1.out HG1.out).mono ?_
       rintro e w7 ⟨ra,rc,ta,tn,tc,va,vn,vc,D2,rfl,hm,hq,bn⟩
       obtain ⟨h0,h1,h2,h3,h4,h5,h6,h9,h12,h13,h18,h19,gi16,gi17,gi9,gi8,gi10,gi11,rM,rB,rS,rD,gB,gV,gQ,gD,gU,gC,gS,gP,gX,gY,gN,gN2,gW,gW2⟩:=HI.out
       exact hK'.out _ _ ⟨.mk ..,rfl,rfl,h0,h1,h2,h3,h4,h5,h6,(fun e=>by cases ((gi9 e).2)),h12,h13,h18,h19,Zf,Zf,Zf,(fun _=>e7),Zf,Zf,(row_keep rM bn),(row_keep rB bn),(row_keep rS bn),(row_keep rD bn),(gB.trans (bn.mono gB.size)),(gV.below bn),(gQ.below bn),(gD.below bn),(gU.below bn),(fun e=>kept (gC e) bn),(fun _=>⟨gs,rfl,hsc.below bn⟩),(fun _=>⟨_,_,_,_,_,_,_,_,_,rfl,hm,hq⟩),Zf,Zf,(fun e=>by obtain ⟨y0,h1,h2,h3⟩:=gN e; exact ⟨y0,h1,h2,fun e2=>row_keep (h3 e2) bn⟩),Zf,(fun e=>by obtain ⟨y0,h1,h2,h3⟩:=gW e; exact ⟨y0,h1,h2,fun e2=>row_keep (h3 e2) bn⟩),Zf⟩
     · obtain ⟨rfl,e8⟩:b9=false∧b8=true:=by revert hp; cases b9 <;> cases b8 <;> simp
       clear hp; refine Zv 79 fun K' hK'=>?_
       go_simp
       obtain ⟨h0,h1,h2,h3,h4,h5,h6,h9,h12,h13,h18,h19,gi16,gi17,gi9,gi8,gi10,gi11,rM,rB,rS,rD,gB,gV,gQ,gD,gU,gC,gS,gP,gX,gY,gN,gN2,gW,gW2⟩:=HI.out
       exact hK'.out _ _ ⟨.mk ..,rfl,rfl,h0,h1,h2,h3,h4,h5,h6,(fun _=>rfl),h12,h13,h18,h19,gi16,gi17,(fun _=>⟨(gi8 e8),e8⟩),gi8,gi10,gi11,rM,rB,rS,rD,gB,gV,gQ,gD,gU,gC,gS,gP,gX,gY,gN,gN2,gW,gW2⟩
     · obtain ⟨rfl,e9⟩:b10=false∧b9=true:=by revert hp; cases b10 <;> cases b9 <;> simp
       clear hp
       obtain rfl:=((Zd HI.out).2.2.2.1) e9
       refine Zv 89 fun K' hK'=>?_
       have gi9:=(Zd (Ze HI.out)).2.2.1
       have gP:=(Zd (Ze (Zg HI.out))).2.1
       obtain ⟨ra,rc,ta,tn,tc,va,vn,vc,D2,rfl,hp,hq⟩:=gP ((gi9 e9).2)
       go_simp
       obtain ⟨h0,h1,h2,h3,h4,h5,h6,h9,h12,h13,h18,h19,gi16,gi17,gi9,gi8,gi10,gi11,rM,rB,rS,rD,gB,gV,gQ,gD,gU,gC,gS,gP,gX,gY,gN,gN2,gW,gW2⟩:=HI.out
       exact hK'.out _ _ ⟨.mk ..,rfl,rfl,h0,h1,h2,h3,h4,h5,h6,h9,h12,h13,h18,h19,gi16,gi17,gi9,gi8,(fun _=>⟨(gi9 e9).1,(gi9 e9).2⟩),gi11,rM,rB,rS,rD,gB,gV,gQ,gD,gU,gC,gS,(fun _=>⟨_,_,_,_,_,_,_,_,_,rfl,hp,hq⟩),(fun _=>⟨_,_,rfl,hp⟩),gY,gN,gN2,gW,gW2⟩
     · obtain ⟨rfl,e9⟩:b11=false∧b9=true:=by revert hp; cases b11 <;> cases b9 <;> simp
       clear hp
       obtain rfl:=((Zd HI.out).2.2.2.1) e9
       refine Zv 90 fun K' hK'=>?_
       have gi9:=(Zd (Ze HI.out)).2.2.1
       have gP:=(Zd (Ze (Zg HI.out))).2.1
       obtain ⟨ra,rc,ta,tn,tc,va,vn,vc,D2,rfl,hp,hq⟩:=gP ((gi9 e9).2)
       go_simp
       obtain ⟨h0,h1,h2,h3,h4,h5,h6,h9,h12,h13,h18,h19,gi16,gi17,gi9,gi8,gi10,gi11,rM,rB,rS,rD,gB,gV,gQ,gD,gU,gC,gS,gP,gX,gY,gN,gN2,gW,gW2⟩:=HI.out
       exact hK'.out _ _ ⟨.mk ..,rfl,rfl,h0,h1,h2,h3,h4,h5,h6,h9,h12,h13,h18,h19,gi16,gi17,gi9,gi8,gi10,(fun _=>⟨(gi9 e9).1,(gi9 e9).2⟩),rM,rB,rS,rD,gB,gV,gQ,gD,gU,gC,gS,(fun _=>⟨_,_,_,_,_,_,_,_,_,rfl,hp,hq⟩),gX,(fun _=>⟨_,_,_,_,_,_,_,rfl,hq⟩),gN,gN2,gW,gW2⟩
     · obtain ⟨rfl,e9⟩:b12=false∧b9=true:=by revert hp; cases b12 <;> cases b9 <;> simp
       clear hp
       obtain rfl:=((Zd HI.out).2.2.2.1) e9
       refine Zv 91 fun K' hK'=>?_
       have gi9:=(Zd (Ze HI.out)).2.2.1
       have gP:=(Zd (Ze (Zg HI.out))).2.1
       obtain ⟨ra,rc,ta,tn,tc,va,vn,vc,D2,rfl,hp,hq⟩:=gP ((gi9 e9).2)
       go_simp
       exact hK'.out _ _ ⟨.mk ..,rfl,rfl,Nxt (Nx4 (Nx4 (Nx4 (Nx16 (Upd (fun _=>⟨_,_,_,_,_,_,_,_,_,rfl,hp,hq⟩)))))) (Nx4 (Nx4 (Upd (fun _=>rfl))) HI.out)⟩
     · obtain ⟨rfl,e9⟩:b13=false∧b9=true:=by revert hp; cases b13 <;> cases b9 <;> simp
       clear hp
       obtain rfl:=((Zd HI.out).2.2.2.1) e9
       refine Zv 92 fun K' hK'=>?_
       have gi9:=(Zd (Ze HI.out)).2.2.1
       have gP:=(Zd (Ze (Zg HI.out))).2.1
       obtain ⟨ra,rc,ta,tn,tc,va,vn,vc,D2,rfl,hp,hq⟩:=gP ((gi9 e9).2)
       go_simp
       exact hK'.out _ _ ⟨.mk ..,rfl,rfl,Nxt (Nx4 (Nx4 (Nx4 (Nx16 (Upd (fun _=>⟨_,_,_,_,_,_,_,_,_,rfl,hp,hq⟩)))))) (Nxt (Nx4 (Nx4 (Upd (fun _=>rfl)))) HI.out)⟩
     · obtain rfl:b14=false:=by revert hp; cases b14 <;> simp
       clear hp; refine Zv 17 fun K' hK'=>?_
       have gi16:=(Zd (Ze HI.out)).1
       have gi17:=(Zd (Ze HI.out)).2.1
       obtain rfl:b16=false:=Zz fun e=>(gi16 e).2.2.2.1
       obtain rfl:b17=false:=Zz fun e=>(gi17 e).2.2.1
       have bn:Below W.heap.size W (W.alloc (.cells (#[.slice none 0 0]) 24)):=(Below.refl _ _).alloc (Nat.le_refl _) _
       have rn:=heap_alloc_new W (.cells (#[.slice none 0 0]) 24)
       go_simp
       obtain ⟨h0,h1,h2,h3,h4,h5,h6,h9,h12,h13,h18,h19,gi16,gi17,gi9,gi8,gi10,gi11,rM,rB,rS,rD,gB,gV,gQ,gD,gU,gC,gS,gP,gX,gY,gN,gN2,gW,gW2⟩:=HI.out
       exact hK'.out _ _ ⟨.mk ..,rfl,rfl,h0,h1,h2,h3,h4,h5,h6,h9,h12,h13,h18,h19,Zf,Zf,gi9,gi8,gi10,gi11,(row_keep rM bn),(row_keep rB bn),(row_keep rS bn),(row_keep rD bn),(gB.trans (bn.mono gB.size)),(gV.below bn),(gQ.below bn),(gD.below bn),(gU.below bn),(fun e=>kept (gC e) bn),(fun e=>by obtain ⟨y0,h1,h2⟩:=gS e; exact ⟨y0,h1,h2.below bn⟩),(fun e=>by obtain ⟨y0,y1,y2,y3,y4,y5,y6,y7,y8,h1,h2,h3⟩:=gP e; exact ⟨y0,y1,y2,y3,y4,y5,y6,y7,y8,h1,h2.below bn,h3.below bn⟩),(fun e=>by obtain ⟨y0,y1,h1,h2⟩:=gX e; exact ⟨y0,y1,h1,h2.below bn⟩),(fun e=>by obtain ⟨y0,y1,y2,y3,y4,y5,y6,h1,h2⟩:=gY e; exact ⟨y0,y1,y2,y3,y4,y5,y6,h1,h2.below bn⟩),(fun _=>⟨W.heap.size,rfl,gB.size,fun _=>rn⟩),Zf,(fun e=>by obtain ⟨y0,h1,h2,h3⟩:=gW e; exact ⟨y0,h1,h2,fun e2=>row_keep (h3 e2) bn⟩),Zf⟩
     · obtain rfl:b15=false:=by revert hp; cases b15 <;> simp
       clear hp; refine Zv 18 fun K' hK'=>?_
       have gi16:=(Zd (Ze HI.out)).1
       have gi17:=(Zd (Ze HI.out)).2.1
       obtain rfl:b16=false:=Zz fun e=>(gi16 e).2.2.2.2
       obtain rfl:b17=false:=Zz fun e=>(gi17 e).2.2.2.1
       have bn:Below W.heap.size W (W.alloc (.cells (bk0) 34)):=(Below.refl _ _).alloc (Nat.le_refl _) _
       have rn:=heap_alloc_new W (.cells (bk0) 34)
       go_simp
       obtain ⟨h0,h1,h2,h3,h4,h5,h6,h9,h12,h13,h18,h19,gi16,gi17,gi9,gi8,gi10,gi11,rM,rB,rS,rD,gB,gV,gQ,gD,gU,gC,gS,gP,gX,gY,gN,gN2,gW,gW2⟩:=HI.out
       exact hK'.out _ _ ⟨.mk ..,rfl,rfl,h0,h1,h2,h3,h4,h5,h6,h9,h12,h13,h18,h19,Zf,Zf,gi9,gi8,gi10,gi11,(row_keep rM bn),(row_keep rB bn),(row_keep rS bn),(row_keep rD bn),(gB.trans (bn.mono gB.size)),(gV.below bn),(gQ.below bn),(gD.below bn),(gU.below bn),(fun e=>kept (gC e) bn),(fun e=>by obtain ⟨y0,h1,h2⟩:=gS e; exact ⟨y0,h1,h2.below bn⟩),(fun e=>by obtain ⟨y0,y1,y2,y3,y4,y5,y6,y7,y8,h1,h2,h3⟩:=gP e; exact ⟨y0,y1,y2,y3,y4,y5,y6,y7,y8,h1,h2.below bn,h3.below bn⟩),(fun e=>by obtain ⟨y0,y1,h1,h2⟩:=gX e; exact ⟨y0,y1,h1,h2.below bn⟩),(fun e=>by obtain ⟨y0,y1,y2,y3,y4,y5,y6,h1,h2⟩:=gY e; exact ⟨y0,y1,y2,y3,y4,y5,y6,h1,h2.below bn⟩),(fun e=>by obtain ⟨y0,h1,h2,h3⟩:=gN e; exact ⟨y0,h1,h2,fun e2=>row_keep (h3 e2) bn⟩),Zf,(fun _=>⟨W.heap.size,rfl,gB.size,fun _=>rn⟩),Zf⟩
     · have hn16:b16=false:=by revert hp; cases b16 <;> simp
       have e10:b10=true:=by revert hp; cases b10 <;> simp
       have e14:b14=true:=by revert hp; cases b14 <;> simp
       have e8:b8=true:=by revert hp; cases b8 <;> simp
       have e6:b6=true:=by revert hp; cases b6 <;> simp
       have e7:b7=true:=by revert hp; cases b7 <;> simp
       have e15:b15=true:=by revert hp; cases b15 <;> simp
       clear hp
       subst hn16
       refine inv_op (o:=⟨none,_,_,_,_,_⟩) rfl (fun K' hK'=>?_)
       have gi17:=(Zd (Ze HI.out)).2.1
       have gX:=(Zd (Ze (Zg HI.out))).2.2.1
       have gN:=(Zg (Zg HI.out)).1
       obtain rfl:b17=false:=Zz fun e=>(gi17 e).2.2.2.2
       obtain ⟨ra,rc,rfl,hx⟩:=gX e10
       obtain ⟨gx,rfl,hlg,gN0⟩:=gN e14
       have gNr:=gN0 rfl
       obtain ⟨hc0,hz0⟩:=at_cell gNr 0 _ rfl
       have hlt:=(Array.getElem?_eq_some_iff.1 gNr).1
       go_simp
       obtain ⟨h0,h1,h2,h3,h4,h5,h6,h9,h12,h13,h18,h19,gi16,gi17,gi9,gi8,gi10,gi11,rM,rB,rS,rD,gB,gV,gQ,gD,gU,gC,gS,gP,gX,gY,gN,gN2,gW,gW2⟩:=HI.out
       exact hK'.out _ _ ⟨.mk ..,rfl,rfl,h0,h1,h2,h3,h4,h5,h6,h9,h12,h13,h18,h19,(fun _=>⟨e6,e7,e8,e14,e15⟩),Zf,gi9,gi8,gi10,gi11,(Zp1 rM (Nat.ne_of_gt (Nat.lt_of_lt_of_le HLM.out hlg))),(Zp1 rB (Zn rB gNr)),(Zp1 rS (Zn rS gNr)),(Zp1 rD (Zn rD gNr)),(Zu1 gB hlg),(gV.stay gNr (by decide) _ _),(gQ.stay gNr (by decide) (by decide) _ _),(gD.stay gNr (by decide) _ _),(gU.stay gNr (by decide) _ _),Zf,(fun e=>by obtain ⟨y0,h1,h2⟩:=gS e; exact ⟨y0,h1,(h2.stay gNr (by decide) _ _)⟩),(fun e=>by obtain ⟨y0,y1,y2,y3,y4,y5,y6,y7,y8,h1,h2,h3⟩:=gP e; exact ⟨y0,y1,y2,y3,y4,y5,y6,y7,y8,h1,(h2.stay gNr (by decide) _ _),(h3.stay gNr (by decide) (by decide) _ _)⟩),(fun e=>by obtain ⟨y0,y1,h1,h2⟩:=gX e; exact ⟨y0,y1,h1,(h2.stay gNr (by decide) _ _)⟩),(fun e=>by obtain ⟨y0,y1,y2,y3,y4,y5,y6,h1,h2⟩:=gY e; exact ⟨y0,y1,y2,y3,y4,y5,y6,h1,(h2.stay gNr (by decide) (by decide) _ _)⟩),(fun _=>⟨gx,rfl,hlg,fun e=>by cases e⟩),(fun _=>⟨gx,rfl,hlg,⟨ra,rc,row_put gNr 0 (.slice ra 1700 rc),hx.stay gNr (by decide) 0 (.slice ra 1700 rc)⟩⟩),(fun e=>by obtain ⟨y0,h1,h2,h3⟩:=gW e; exact ⟨y0,h1,h2,fun e2=>(Zp1 (h3 e2) (Zn (h3 e2) gNr))⟩),Zf⟩
     · have hn17:b17=false:=by revert hp; cases b17 <;> simp
       have e11:b11=true:=by revert hp; cases b11 <;> simp
       have e15:b15=true:=by revert hp; cases b15 <;> simp
       have e16:b16=true:=by revert hp; cases b16 <;> simp
       have e7:b7=true:=by revert hp; cases b7 <;> simp
       have e8:b8=true:=by revert hp; cases b8 <;> simp
       have e14:b14=true:=by revert hp; cases b14 <;> simp
       clear hp
       subst hn17
       refine inv_op (o:=⟨none,_,_,_,_,_⟩) rfl (fun K' hK'=>?_)
       have gY:=(Zd (Ze (Zg HI.out))).2.2.2.1
       have gW:=(Zg (Zg HI.out)).2.2.1
       obtain ⟨ta,tn,tc,va,vn,vc,D2,rfl,hx⟩:=gY e11
       obtain ⟨gx,rfl,hlg,gW0⟩:=gW e15
       have gWr:=gW0 rfl
       refine step_blk_store rfl _ _ rfl _ _ rfl rfl _ gWr rfl rfl (bk_one rfl rfl) ?_
       obtain ⟨h0,h1,h2,h3,h4,h5,h6,h9,h12,h13,h18,h19,gi16,gi17,gi9,gi8,gi10,gi11,rM,rB,rS,rD,gB,gV,gQ,gD,gU,gC,gS,gP,gX,gY,gN,gN2,gW,gW2⟩:=HI.out
       exact hK'.out _ _ ⟨.mk ..,rfl,rfl,h0,h1,h2,h3,h4,h5,h6,h9,h12,h13,h18,h19,gi16,(fun _=>⟨e7,e8,e14,e15,e16⟩),gi9,gi8,gi10,gi11,(row_other rM _ (Zn rM gWr)),(row_other rB _ (Nat.ne_of_gt (Nat.lt_of_lt_of_le HLB.out hlg))),(row_other rS _ (Zn rS gWr)),(row_other rD _ (Zn rD gWr)),(below_row gB hlg _),(gV.row gWr _),(gQ.row gWr _),(gD.row gWr _),(gU.row gWr _),(fun e=>by rw [e16] at e; cases e),(fun e=>by obtain ⟨y0,h1,h2⟩:=gS e; exact ⟨y0,h1,(h2.row gWr _)⟩),(fun e=>by obtain ⟨y0,y1,y2,y3,y4,y5,y6,y7,y8,h1,h2,h3⟩:=gP e; exact ⟨y0,y1,y2,y3,y4,y5,y6,y7,y8,h1,(h2.row gWr _),(h3.row gWr _)⟩),(fun e=>by obtain ⟨y0,y1,h1,h2⟩:=gX e; exact ⟨y0,y1,h1,(h2.row gWr _)⟩),(fun e=>by obtain ⟨y0,y1,y2,y3,y4,y5,y6,h1,h2⟩:=gY e; exact ⟨y0,y1,y2,y3,y4,y5,y6,h1,(h2.row gWr _)⟩),(fun e=>by obtain ⟨y0,h1,h2,h3⟩:=gN e; exact ⟨y0,h1,h2,fun e2=>row_other (h3 e2) (bk (.slice ta tn tc) (.slice va vn vc) (A1:Nat) (j:Nat) (wr1 s) zReq zReq zReq) (blocks_ne (h3 e2) gWr (by decide))⟩),(fun e=>by obtain ⟨y0,h1,h2,h3⟩:=gN2 e; exact ⟨y0,h1,h2,h3.row gWr (bk (.slice ta tn tc) (.slice va vn vc) (A1:Nat) (j:Nat) (wr1 s) zReq zReq zReq)⟩),(fun _=>⟨gx,rfl,hlg,fun e=>by cases e⟩),(fun _=>⟨gx,rfl,hlg,⟨_,_,_,row_self gWr _,hx.row gWr _⟩⟩)⟩
     · obtain ⟨rfl,e12,e17⟩:b18=false∧b12=true∧b17=true:=by revert hp; cases b18 <;> cases b12 <;> cases b17 <;> simp
       clear hp
       obtain rfl:=((Ze HI.out).1) e12
       refine Zv 19 fun K' hK'=>?_
       go_simp
       exact hK'.out _ _ ⟨.mk ..,rfl,rfl,Nxt (Nxt (Nx4 (Nx4 (Upd (fun _=>rfl))))) HI.out⟩
     · obtain ⟨rfl,e13,e18⟩:b19=false∧b13=true∧b18=true:=by revert hp; cases b19 <;> cases b13 <;> cases b18 <;> simp
       clear hp
       obtain rfl:=((Ze HI.out).2.1) e13
       refine Zv 20 fun K' hK'=>?_
       go_simp
       exact hK'.out _ _ ⟨.mk ..,rfl,rfl,Nxt (Nxt (Nxt (Nx4 (Nx4 (Upd (fun _=>rfl)))))) HI.out⟩
    case hdone =>
     rintro ⟨b0,b1,b2,b3,b4,b5,b6,b7,b8,b9,b10,b11,b12,b13,b14,b15,b16,b17,b18,b19,s80,s81,s82,s83,s84,s85,s86,s87,s88,s79,s89,s90,s91,s92,s17,s18,s19,s20⟩ W hI hall
     dsimp only at hI hall ⊢
     have HI:=Zh hI
     clear hI
     obtain rfl:b0=true:=hall 0 (by decide)
     obtain rfl:b1=true:=hall 1 (by decide)
     obtain rfl:b2=true:=hall 2 (by decide)
     obtain rfl:b3=true:=hall 3 (by decide)
     obtain rfl:b4=true:=hall 4 (by decide)
     obtain rfl:b5=true:=hall 5 (by decide)
     obtain rfl:b6=true:=hall 6 (by decide)
     obtain rfl:b7=true:=hall 7 (by decide)
     obtain rfl:b8=true:=hall 8 (by decide)
     obtain rfl:b9=true:=hall 9 (by decide)
     obtain rfl:b10=true:=hall 10 (by decide)
     obtain rfl:b11=true:=hall 11 (by decide)
     obtain rfl:b12=true:=hall 12 (by decide)
     obtain rfl:b13=true:=hall 13 (by decide)
     obtain rfl:b14=true:=hall 14 (by decide)
     obtain rfl:b15=true:=hall 15 (by decide)
     obtain rfl:b16=true:=hall 16 (by decide)
     obtain rfl:b17=true:=hall 17 (by decide)
     obtain rfl:b18=true:=hall 18 (by decide)
     obtain rfl:b19=true:=hall 19 (by decide)
     obtain rfl:=((Ze HI.out).2.2.1) rfl
     obtain rfl:=((Ze HI.out).2.2.2.1) rfl
     have gN2:=(Zg (Zg HI.out)).2.1
     have gW2:=(Zg (Zg HI.out)).2.2.2
     have rM:=(Zg HI.out).2.2.1
     have rB:=(Zg HI.out).2.2.2.1
     have rS:=(Zd (Zg HI.out)).1
     have rD:=(Zd (Zg HI.out)).2.1
     have gB:=(Zd (Zg HI.out)).2.2.1
     have gV:=(Zd (Zg HI.out)).2.2.2.1
     have gQ:=(Ze (Zg HI.out)).1
     have gD:=(Ze (Zg HI.out)).2.1
     have gU:=(Ze (Zg HI.out)).2.2.1
     clear HI hall
     obtain ⟨gn,rfl,hln,na,nc,hn,hno⟩:=gN2 rfl
     obtain ⟨gx,rfl,hlx,F3,C3,D3,hxk,hxo⟩:=gW2 rfl
     obtain ⟨ta,tn,tc,va,vn,vc,rfl,rfl,hx⟩:=hxo.shape
     clear hx RM RB RS RD BW AV QA DD PB
     have RM:=Zh rM
     have RB:=Zh rB
     have RS:=Zh rS
     have RD:=Zh rD
     have BW:=Zh gB
     have AV:=Zh gV
     have QA:=Zh gQ
     have DD:=Zh gD
     have PB:=Zh gU
     have RN:=Zh hn
     have AN:=Zh hno
     have RX:=Zh hxk
     have QX:=Zh hxo
     have LRN:=Zh hln
     have LRX:=Zh hlx
     clear gN2 gW2 rM rB rS rD gB gV gQ gD gU hn hno hxk hxo hln hlx
     obtain ⟨w7,hw7⟩:∃ x,x=W:=⟨_,rfl⟩
     rw [←hw7] at RM RB RS RD BW AV QA DD PB RN AN RX QX ⊢
     clear hw7
     go_wp2_with fail
     refine wp_region_rec (X:=BlkWrB) (by kernel_rfl) (by kernel_rfl) (fun x=>#[x.b0,x.b1,x.b2,x.b3,x.b4,x.b5,x.b6,x.b7,x.b8,x.b9,x.b10,x.b11,x.b12,x.b13,x.b14,x.b15,x.b16,x.b17,x.b18]) (fun x=>{ tmps:=List.toArray ((.slice (some ⟨k1,o1,none⟩) n1 c1)::(.slice (some ⟨k2,o2,none⟩) n2 c2)::(.slice (some ⟨k3,o3,none⟩) n3 c3)::undef::undef::undef::u6::(.pointer (some ⟨w1.heap.size,0,none⟩))::(.pointer (some ⟨w1.heap.size+1,0,none⟩))::(.int .i64 0)::(.pointer (some ⟨w3.heap.size,0,none⟩))::(.int .i64 0)::(.pointer (some ⟨w4.heap.size,0,none⟩))::(.int .i64 (j:Nat))::(.int .i64 (s:Nat))::(.slice pa pn pc)::(.int .i64 F)::(.pointer (some ⟨gn,0,none⟩))::(.pointer (some ⟨gx,0,none⟩))::(.int .i64 0)::(.int .i64 0)::x.s21::x.s22::x.s23::u24::u25::u26::u27::u28::u29::(.slice (some ⟨k1,o1,none⟩) n1 c1)::(.int .i64 (n1:Nat))::(.bool false)::(.bool false)::(.slice (some ⟨k2,o2,none⟩) n2 c2)::(.int .i64 (n2:Nat))::(.slice (some ⟨k1,o1,none⟩) n1 c1)::(.int .i64 (n1:Nat))::(.bool false)::(.bool false)::(.bool false)::(.slice (some ⟨k3,o3,none⟩) n3 c3)::(.int .i64 (n3:Nat))::(.slice (some ⟨k1,o1,none⟩) n1 c1)::(.int .i64 (n1:Nat))::(.bool false)::(.bool false)::undef::(.tuple #[.agg #[.slice aa 1700 ca],.agg (bk (.slice xa0 xn0 xc0) (.slice ya0 yn0 yc0) 0 0 zReq zReq zReq zReq),.int .i64 0])::(.slice (some ⟨w.heap.size,0,none⟩) 1700 1700)::(.agg #[.slice (some ⟨w.heap.size,0,none⟩) 1700 1700])::(.tuple #[.agg #[.slice aa 1700 ca],.agg (bk (.slice xa0 xn0 xc0) (.slice ya0 yn0 yc0) 0 0 zReq zReq zReq zReq),.int .i64 0])::(.agg #[.slice aa 1700 ca])::(.agg (bk (.slice xa0 xn0 xc0) (.slice ya0 yn0 yc0) 0 0 zReq zReq zReq zReq))::(.int .i64 0)::(.tuple #[.agg #[.slice sa0 sn0 sc0,.slice none 0 0],.int .i64 0])::(.tuple #[.agg #[.slice sa0 sn0 sc0,.slice none 0 0],.int .i64 0])::(.agg #[.slice sa0 sn0 sc0,.slice none 0 0])::(.int .i64 0)::(.agg #[.int .i64 0,.int .i64 16,.int .u16 0,.int .u16 0])::(.int .i64 0)::(.bool false)::(.int .i64 (j:Nat))::(.slice (some ⟨k1,o1,none⟩) n1 c1)::(.int .i64 (n1:Nat))::(.bool true)::u66::u67::(.slice (some ⟨k1,o1,none⟩) n1 c1)::(.int .i64 (j:Nat))::(.pointer (some ⟨k1,o1+j,none⟩))::(.int .i64 x1)::(.int .i64 (s:Nat))::(.tuple #[.slice pa pn pc,.int .i64 F])::(.agg #[.slice sa sn sc,.slice ua un uc])::(.int .i64 (s:Nat))::(.tuple #[.slice pa pn pc,.int .i64 F])::(.slice pa pn pc)::(.int .i64 F)::s79::s80::s81::s82::s83::s84::s85::s86::s87::s88::s89::s90::s91::s92::x.s93::x.s94::x.s95::x.s96::x.s97::x.s98::x.s99::x.s100::x.s101::x.s102::x.s103::x.s104::x.s105::u106::u107::u108::u109::u110::u111::u112::u113::u114::u115::u116::u117::u118::u119::u120::u121::u122::u123::u124::u125::u126::u127::u128::u129::u130::u131::u132::u133::u134::u135::u136::u137::u138::u139::u140::u141::u142::u143::u144::u145::u146::u147::u148::u149::u150::u151::u152::u153::u154::u155::u156::u157::u158::u159::u160::u161::u162::u163::u164::u165::u166::u167::u168::u169::u170::u171::u172::u173::u174::u175::u176::u177::u178::u179::undef::undef::undef::undef::undef::[]),defers:=[] }) (fun x W=>(x.b0→x.s94=.agg #[.slice na 1700 nc])∧(x.b1→x.s95=.agg #[.int .i64 0,.int .i64 16,.int .u16 (j:Nat),.int .u16 (j:Nat)])∧(x.b2→x.s96=.agg #[.slice sa sn sc,.slice ua un uc])∧(x.b3→x.s97=.slice (some ⟨k3,o3,none⟩) n3 c3)∧(x.b4→x.s98=.int .i64 (j:Nat))∧(x.b5→x.s99=.pointer (some ⟨k3,o3+j,none⟩))∧(x.b6→x.s100=.int .i64 x3)∧(x.b8→x.s93=x.s101)∧(x.b10→x.s103=.agg #[.int .i64 0,.int .i64 16,.int .u16 (A1:Nat),.int .u16 (A1:Nat)])∧(x.b12→x.s105=.int .i64 0)∧(x.b18→x.s23=.int .i64 0)∧(x.b15→x.b0∧x.b6∧x.b7∧x.b13∧x.b14)∧(x.b16→x.b13∧x.b15)∧(x.b17→x.b7∧x.b13∧x.b14∧x.b15∧x.b16)∧(x.b8→x.b7)∧(x.b9→x.b7)∧(x.b11→x.b7)∧(W.heap[w1.heap.size]? = some (.cells #[.slice ma 1700 mc] 24 (0,0)))∧(W.heap[w1.heap.size+1]? = some (.cells (bk (.slice xa xn xc) (.slice ya yn yc) (j:Nat) (j:Nat) zReq zReq zReq zReq) 34 (0,0)))∧(W.heap[w4.heap.size]? = some (.cells #[.int .i64 0,.int .i64 16,.int .u16 (j:Nat),.int .u16 (j:Nat)] 45 (0,0)))∧(W.heap[w3.heap.size]? = some (.cells #[.slice sa sn sc,.slice ua un uc] 41 (0,0)))∧(x.b15=false→W.heap[gn]? = some (.cells #[.slice na 1700 nc] 24 (0,0)))∧(W.heap[gx]? = some (.cells (bk (.slice ta tn tc) (.slice va vn vc) (A1:Nat) (j:Nat) (wr1 s) zReq zReq zReq) 34 (0,0)))∧(Below wr.heap.size wr W)∧(OwnB 0 W (.slice na 1700 nc) G1)∧(IsQ 0 W (.slice ta tn tc) (.slice va vn vc) (wq1 j 500) D3)∧(DK W (.slice sa sn sc) (.slice ua un uc) S C)∧(OwnB 0 W (.slice pa pn pc) L)∧(x.b15=false→W.cell? ⟨k3,o3+j,none⟩=some (.int .i64 x3))∧(x.b7→∃ ra rc ia im ic qa qn qc,x.s101=.tuple #[.agg #[.slice ra 1700 rc],.agg #[.int .i64 0,.int .i64 16,.int .u16 (A1:Nat),.int .u16 (A1:Nat)],.agg #[.slice ia im ic,.slice qa qn qc],.int .i64 0]∧OwnB 0 W (.slice ra 1700 rc) G2∧DK W (.slice ia im ic) (.slice qa qn qc) S W2)∧(x.b9→∃ ra rc,x.s102=.agg #[.slice ra 1700 rc]∧OwnB 0 W (.slice ra 1700 rc) G2)∧(x.b11→∃ ia im ic qa qn qc,x.s104=.agg #[.slice ia im ic,.slice qa qn qc]∧DK W (.slice ia im ic) (.slice qa qn qc) S W2)∧(x.b13→∃ g,x.s21=.pointer (some ⟨g,0,none⟩)∧wr.heap.size≤g∧W.heap[g]? = some (.cells (cond x.b16 (#[.int .i64 0,.int .i64 16,.int .u16 (A1:Nat),.int .u16 (A1:Nat)]) (#[.int .i64 0,.int .i64 0,.int .u16 0,.int .u16 0])) 45 (0,0)))∧(x.b14→∃ g,x.s22=.pointer (some ⟨g,0,none⟩)∧wr.heap.size≤g∧(x.b17=false→W.heap[g]? = some (.cells (#[.slice none 0 0,.slice none 0 0]) 41 (0,0))))∧(x.b17→∃ g,x.s22=.pointer (some ⟨g,0,none⟩)∧wr.heap.size≤g∧DiskAt W g S W2)∧(x.b15→MemAt W gn G2)) ⟨false,false,false,false,false,false,false,false,false,false,false,false,false,false,false,false,false,false,false,u94,u95,u96,u97,u98,u99,u100,u101,u93,u102,u103,u104,u105,u21,u22,u23⟩ rfl rfl ⟨Zf,Zf,Zf,Zf,Zf,Zf,Zf,Zf,Zf,Zf,Zf,Zf,Zf,Zf,Zf,Zf,Zf,RM.out,RB.out,RS.out,RD.out,(fun _=>RN.out),RX.out,BW.out.drew,AN.out.drew,QX.out.drew,DD.out.drew,PB.out.drew,(fun _=>kept E3.out BW.out.drew),Zf,Zf,Zf,Zf,Zf,Zf,Zf⟩ (fun _=>rfl) ?hstep ?hdone
     case hstep =>
      rintro ⟨b0,b1,b2,b3,b4,b5,b6,b7,b8,b9,b10,b11,b12,b13,b14,b15,b16,b17,b18,s94,s95,s96,s97,s98,s99,s100,s101,s93,s102,s103,s104,s105,s21,s22,s23⟩ W hI i hi
      dsimp only at hI hi ⊢
      have HI:=Zh hI
      clear hI
      rw [Region.ready,List.mem_filter,List.mem_range] at hi
      obtain ⟨hlt,hp⟩:=hi
      have hi7:i=0∨i=1∨i=2∨i=3∨i=4∨i=5∨i=6∨i=7∨i=8∨i=9∨i=10∨i=11∨i=12∨i=13∨i=14∨i=15∨i=16∨i=17∨i=18:=by simp at hlt; omega
      clear hlt
      rcases hi7 with rfl|rfl|rfl|rfl|rfl|rfl|rfl|rfl|rfl|rfl|rfl|rfl|rfl|rfl|rfl|rfl|rfl|rfl|rfl
      all_goals simp [Region.binds] at hp
      · obtain rfl:b0=false:=by revert hp; cases b0 <;> simp
        clear hp; refine Zv 94 fun K' hK'=>?_
        have gi15:=(Ze HI.out).2.2.2.1
        have rN0:=(Zd (Zg HI.out)).2.1
        obtain rfl:b15=false:=Zz fun e=>(gi15 e).1
        obtain ⟨hc0,_⟩:=at_cell (rN0 rfl) 0 _ rfl
        go_simp
        obtain ⟨h0,h1,h2,h3,h4,h5,h6,h8,h10,h12,h18,gi15,gi16,gi17,gi8,gi9,gi11,rM,rB,rS,rD,rN0,rX,gB,gV,gQ,gD,gU,gC,gP,gX,gY,gT,gK,gK2,gA⟩:=HI.out
        exact hK'.out _ _ ⟨.mk ..,rfl,rfl,(fun _=>rfl),h1,h2,h3,h4,h5,h6,h8,h10,h12,h18,Zf,gi16,gi17,gi8,gi9,gi11,rM,rB,rS,rD,rN0,rX,gB,gV,gQ,gD,gU,gC,gP,gX,gY,gT,gK,gK2,Zf⟩
      · obtain rfl:b1=false:=by revert hp; cases b1 <;> simp
        clear hp; refine Zv 95 fun K' hK'=>?_
        have rS:=(Zg HI.out).2.2.2.1
        obtain ⟨hc0,_⟩:=at_cell rS 0 _ rfl
        obtain ⟨hc1,_⟩:=at_cell rS 1 _ rfl
        obtain ⟨hc2,_⟩:=at_cell rS 2 _ rfl
        obtain ⟨hc3,_⟩:=at_cell rS 3 _ rfl
        go_simp
        exact hK'.out _ _ ⟨.mk ..,rfl,rfl,Nxt (Upd (fun _=>rfl)) HI.out⟩
      · obtain rfl:b2=false:=by revert hp; cases b2 <;> simp
        clear hp; refine Zv 96 fun K' hK'=>?_
        have rD:=(Zd (Zg HI.out)).1
        obtain ⟨hc0,_⟩:=at_cell rD 0 _ rfl
        obtain ⟨hc1,_⟩:=at_cell rD 1 _ rfl
        go_simp
        exact hK'.out _ _ ⟨.mk ..,rfl,rfl,Nxt (Nxt (Upd (fun _=>rfl))) HI.out⟩
      · obtain rfl:b3=false:=by revert hp; cases b3 <;> simp
        clear hp; refine Zv 97 fun K' hK'=>?_
        go_simp
        exact hK'.out _ _ ⟨.mk ..,rfl,rfl,Nxt (Nxt (Nxt (Upd (fun _=>rfl)))) HI.out⟩
      · obtain rfl:b4=false:=by revert hp; cases b4 <;> simp
        clear hp; refine Zv 98 fun K' hK'=>?_
        go_simp
        exact hK'.out _ _ ⟨.mk ..,rfl,rfl,Nx4 (Upd (fun _=>rfl)) HI.out⟩
      · obtain ⟨rfl,e3,e4⟩:b5=false∧b3=true∧b4=true:=by revert hp; cases b5 <;> cases b3 <;> cases b4 <;> simp
        clear hp
        obtain rfl:=(HI.out.2.2.2.1) e3
        obtain rfl:=((Zd HI.out).1) e4
        refine Zv 99 fun K' hK'=>?_
        have hl0:0≤(j:Int):=by omega
        have hl1:(j:Int) < (n3:Int):=by have:=HC.out; omega
        go_simp
        exact hK'.out _ _ ⟨.mk ..,rfl,rfl,Nxt (Nx4 (Upd (fun _=>rfl))) HI.out⟩
      · obtain ⟨rfl,e5⟩:b6=false∧b5=true:=by revert hp; cases b6 <;> cases b5 <;> simp
        clear hp
        obtain rfl:=((Zd HI.out).2.1) e5
        refine Zv 100 fun K' hK'=>?_
        have gi15:=(Ze HI.out).2.2.2.1
        have gC:=(Zd (Ze (Zg HI.out))).1
        obtain rfl:b15=false:=Zz fun e=>(gi15 e).2.1
        have hcc:=gC rfl
        go_simp
        obtain ⟨h0,h1,h2,h3,h4,h5,h6,h8,h10,h12,h18,gi15,gi16,gi17,gi8,gi9,gi11,rM,rB,rS,rD,rN0,rX,gB,gV,gQ,gD,gU,gC,gP,gX,gY,gT,gK,gK2,gA⟩:=HI.out
        exact hK'.out _ _ ⟨.mk ..,rfl,rfl,h0,h1,h2,h3,h4,h5,(fun _=>rfl),h8,h10,h12,h18,Zf,gi16,gi17,gi8,gi9,gi11,rM,rB,rS,rD,rN0,rX,gB,gV,gQ,gD,gU,gC,gP,gX,gY,gT,gK,gK2,Zf⟩
      · have hn7:b7=false:=by revert hp; cases b7 <;> simp
        have e0:b0=true:=by revert hp; cases b0 <;> simp
        have e1:b1=true:=by revert hp; cases b1 <;> simp
        have e2:b2=true:=by revert hp; cases b2 <;> simp
        have e6:b6=true:=by revert hp; cases b6 <;> simp
        clear hp
        obtain rfl:=(HI.out.1) e0
        obtain rfl:=(HI.out.2.1) e1
        obtain rfl:=(HI.out.2.2.1) e2
        obtain rfl:=((Zd HI.out).2.2.1) e6
        subst hn7
        refine Zv 101 fun K' hK'=>?_
        have gi15:=(Ze HI.out).2.2.2.1
        have gi17:=(Zd (Ze HI.out)).2.1
        have gi8:=(Zd (Ze HI.out)).2.2.1
        have gi9:=(Zd (Ze HI.out)).2.2.2.1
        have gi11:=(Zg HI.out).1
        have gV:=(Ze (Zg HI.out)).1
        have gD:=(Ze (Zg HI.out)).2.2.1
        obtain rfl:b15=false:=Zz fun e=>(gi15 e).2.2.1
        obtain rfl:b17=false:=Zz fun e=>(gi17 e).1
        obtain rfl:b8=false:=Zz fun e=>(gi8 e)
        obtain rfl:b9=false:=Zz fun e=>(gi9 e)
        obtain rfl:b11=false:=Zz fun e=>(gi11 e)
        go_simp
        refine (serve_round _ _ _ G1 G2 d S C W2 L L2 j A1 s y st R F x3 W gV gD HK.out HJ6.out HA1.out HT.out HVW.out HS2.out HYW.out HY.out HG2.out).mono ?_
        rintro e w8 ⟨ra,rc,ia,im,ic,qa,qn,qc,rfl,hm,hd,bn⟩
        obtain ⟨h0,h1,h2,h3,h4,h5,h6,h8,h10,h12,h18,gi15,gi16,gi17,gi8,gi9,gi11,rM,rB,rS,rD,rN0,rX,gB,gV,gQ,gD,gU,gC,gP,gX,gY,gT,gK,gK2,gA⟩:=HI.out
        exact hK'.out _ _ ⟨.mk ..,rfl,rfl,h0,h1,h2,h3,h4,h5,h6,(fun e=>by cases ((gi8 e))),h10,h12,h18,Zf,gi16,Zf,Zf,Zf,Zf,(row_keep rM bn),(row_keep rB bn),(row_keep rS bn),(row_keep rD bn),(fun e=>row_keep (rN0 e) bn),(row_keep rX bn),(gB.trans (bn.mono gB.size)),(gV.below bn),(gQ.below bn),(gD.below bn),(gU.below bn),(fun e=>kept (gC e) bn),(fun _=>⟨_,_,_,_,_,_,_,_,rfl,hm,hd⟩),Zf,Zf,(fun e=>by obtain ⟨y0,h1,h2,h3⟩:=gT e; exact ⟨y0,h1,h2,row_keep h3 bn⟩),(fun e=>by obtain ⟨y0,h1,h2,h3⟩:=gK e; exact ⟨y0,h1,h2,fun e2=>row_keep (h3 e2) bn⟩),Zf,Zf⟩
      · obtain ⟨rfl,e7⟩:b8=false∧b7=true:=by revert hp; cases b8 <;> cases b7 <;> simp
        clear hp; refine Zv 93 fun K' hK'=>?_
        go_simp
        exact hK'.out _ _ ⟨.mk ..,rfl,rfl,Nxt (Nxt (Nx4 (Nx4 (Nx4 (Upd (fun _=>e7)))))) (Nxt (Nxt (Nxt (Nx4 (Upd (fun _=>rfl))))) HI.out)⟩
      · obtain ⟨rfl,e8⟩:b9=false∧b8=true:=by revert hp; cases b9 <;> cases b8 <;> simp
        clear hp
        obtain rfl:=((Zd HI.out).2.2.2.1) e8
        refine Zv 102 fun K' hK'=>?_
        have gi8:=(Zd (Ze HI.out)).2.2.1
        have gP:=(Zd (Ze (Zg HI.out))).2.1
        obtain ⟨ra,rc,ia,im,ic,qa,qn,qc,rfl,hp,hq⟩:=gP ((gi8 e8))
        go_simp
        obtain ⟨h0,h1,h2,h3,h4,h5,h6,h8,h10,h12,h18,gi15,gi16,gi17,gi8,gi9,gi11,rM,rB,rS,rD,rN0,rX,gB,gV,gQ,gD,gU,gC,gP,gX,gY,gT,gK,gK2,gA⟩:=HI.out
        exact hK'.out _ _ ⟨.mk ..,rfl,rfl,h0,h1,h2,h3,h4,h5,h6,h8,h10,h12,h18,gi15,gi16,gi17,gi8,(fun _=>(gi8 e8)),gi11,rM,rB,rS,rD,rN0,rX,gB,gV,gQ,gD,gU,gC,(fun _=>⟨_,_,_,_,_,_,_,_,rfl,hp,hq⟩),(fun _=>⟨_,_,rfl,hp⟩),gY,gT,gK,gK2,gA⟩
      · obtain ⟨rfl,e8⟩:b10=false∧b8=true:=by revert hp; cases b10 <;> cases b8 <;> simp
        clear hp
        obtain rfl:=((Zd HI.out).2.2.2.1) e8
        refine Zv 103 fun K' hK'=>?_
        have gi8:=(Zd (Ze HI.out)).2.2.1
        have gP:=(Zd (Ze (Zg HI.out))).2.1
        obtain ⟨ra,rc,ia,im,ic,qa,qn,qc,rfl,hp,hq⟩:=gP ((gi8 e8))
        go_simp
        exact hK'.out _ _ ⟨.mk ..,rfl,rfl,Nxt (Nx4 (Nx4 (Nx4 (Nx16 (Upd (fun _=>⟨_,_,_,_,_,_,_,_,rfl,hp,hq⟩)))))) (Nx4 (Nx4 (Upd (fun _=>rfl))) HI.out)⟩
      · obtain ⟨rfl,e8⟩:b11=false∧b8=true:=by revert hp; cases b11 <;> cases b8 <;> simp
        clear hp
        obtain rfl:=((Zd HI.out).2.2.2.1) e8
        refine Zv 104 fun K' hK'=>?_
        have gi8:=(Zd (Ze HI.out)).2.2.1
        have gP:=(Zd (Ze (Zg HI.out))).2.1
        obtain ⟨ra,rc,ia,im,ic,qa,qn,qc,rfl,hp,hq⟩:=gP ((gi8 e8))
        go_simp
        obtain ⟨h0,h1,h2,h3,h4,h5,h6,h8,h10,h12,h18,gi15,gi16,gi17,gi8,gi9,gi11,rM,rB,rS,rD,rN0,rX,gB,gV,gQ,gD,gU,gC,gP,gX,gY,gT,gK,gK2,gA⟩:=HI.out
        exact hK'.out _ _ ⟨.mk ..,rfl,rfl,h0,h1,h2,h3,h4,h5,h6,h8,h10,h12,h18,gi15,gi16,gi17,gi8,gi9,(fun _=>(gi8 e8)),rM,rB,rS,rD,rN0,rX,gB,gV,gQ,gD,gU,gC,(fun _=>⟨_,_,_,_,_,_,_,_,rfl,hp,hq⟩),gX,(fun _=>⟨_,_,_,_,_,_,rfl,hq⟩),gT,gK,gK2,gA⟩
      · obtain ⟨rfl,e8⟩:b12=false∧b8=true:=by revert hp; cases b12 <;> cases b8 <;> simp
        clear hp
        obtain rfl:=((Zd HI.out).2.2.2.1) e8
        refine Zv 105 fun K' hK'=>?_
        have gi8:=(Zd (Ze HI.out)).2.2.1
        have gP:=(Zd (Ze (Zg HI.out))).2.1
        obtain ⟨ra,rc,ia,im,ic,qa,qn,qc,rfl,hp,hq⟩:=gP ((gi8 e8))
        go_simp
        exact hK'.out _ _ ⟨.mk ..,rfl,rfl,Nxt (Nx4 (Nx4 (Nx4 (Nx16 (Upd (fun _=>⟨_,_,_,_,_,_,_,_,rfl,hp,hq⟩)))))) (Nxt (Nx4 (Nx4 (Upd (fun _=>rfl)))) HI.out)⟩
      · obtain rfl:b13=false:=by revert hp; cases b13 <;> simp
        clear hp; refine Zv 21 fun K' hK'=>?_
        have gi15:=(Ze HI.out).2.2.2.1
        have gi16:=(Zd (Ze HI.out)).1
        have gi17:=(Zd (Ze HI.out)).2.1
        obtain rfl:b15=false:=Zz fun e=>(gi15 e).2.2.2.1
        obtain rfl:b16=false:=Zz fun e=>(gi16 e).1
        obtain rfl:b17=false:=Zz fun e=>(gi17 e).2.1
        have bn:Below W.heap.size W (W.alloc (.cells (#[.int .i64 0,.int .i64 0,.int .u16 0,.int .u16 0]) 45)):=(Below.refl _ _).alloc (Nat.le_refl _) _
        have rn:=heap_alloc_new W (.cells (#[.int .i64 0,.int .i64 0,.int .u16 0,.int .u16 0]) 45)
        go_simp
        obtain ⟨h0,h1,h2,h3,h4,h5,h6,h8,h10,h12,h18,gi15,gi16,gi17,gi8,gi9,gi11,rM,rB,rS,rD,rN0,rX,gB,gV,gQ,gD,gU,gC,gP,gX,gY,gT,gK,gK2,gA⟩:=HI.out
        exact hK'.out _ _ ⟨.mk ..,rfl,rfl,h0,h1,h2,h3,h4,h5,h6,h8,h10,h12,h18,Zf,Zf,Zf,gi8,gi9,gi11,(row_keep rM bn),(row_keep rB bn),(row_keep rS bn),(row_keep rD bn),(fun e=>row_keep (rN0 e) bn),(row_keep rX bn),(gB.trans (bn.mono gB.size)),(gV.below bn),(gQ.below bn),(gD.below bn),(gU.below bn),(fun e=>kept (gC e) bn),(fun e=>by obtain ⟨y0,y1,y2,y3,y4,y5,y6,y7,h1,h2,h3⟩:=gP e; exact ⟨y0,y1,y2,y3,y4,y5,y6,y7,h1,h2.below bn,h3.below bn⟩),(fun e=>by obtain ⟨y0,y1,h1,h2⟩:=gX e; exact ⟨y0,y1,h1,h2.below bn⟩),(fun e=>by obtain ⟨y0,y1,y2,y3,y4,y5,h1,h2⟩:=gY e; exact ⟨y0,y1,y2,y3,y4,y5,h1,h2.below bn⟩),(fun _=>⟨W.heap.size,rfl,gB.size,rn⟩),(fun e=>by obtain ⟨y0,h1,h2,h3⟩:=gK e; exact ⟨y0,h1,h2,fun e2=>row_keep (h3 e2) bn⟩),Zf,Zf⟩
      · obtain rfl:b14=false:=by revert hp; cases b14 <;> simp
        clear hp; refine Zv 22 fun K' hK'=>?_
        have gi15:=(Ze HI.out).2.2.2.1
        have gi17:=(Zd (Ze HI.out)).2.1
        obtain rfl:b15=false:=Zz fun e=>(gi15 e).2.2.2.2
        obtain rfl:b17=false:=Zz fun e=>(gi17 e).2.2.1
        have bn:Below W.heap.size W (W.alloc (.cells (#[.slice none 0 0,.slice none 0 0]) 41)):=(Below.refl _ _).alloc (Nat.le_refl _) _
        have rn:=heap_alloc_new W (.cells (#[.slice none 0 0,.slice none 0 0]) 41)
        go_simp
        obtain ⟨h0,h1,h2,h3,h4,h5,h6,h8,h10,h12,h18,gi15,gi16,gi17,gi8,gi9,gi11,rM,rB,rS,rD,rN0,rX,gB,gV,gQ,gD,gU,gC,gP,gX,gY,gT,gK,gK2,gA⟩:=HI.out
        exact hK'.out _ _ ⟨.mk ..,rfl,rfl,h0,h1,h2,h3,h4,h5,h6,h8,h10,h12,h18,Zf,gi16,Zf,gi8,gi9,gi11,(row_keep rM bn),(row_keep rB bn),(row_keep rS bn),(row_keep rD bn),(fun e=>row_keep (rN0 e) bn),(row_keep rX bn),(gB.trans (bn.mono gB.size)),(gV.below bn),(gQ.below bn),(gD.below bn),(gU.below bn),(fun e=>kept (gC e) bn),(fun e=>by obtain ⟨y0,y1,y2,y3,y4,y5,y6,y7,h1,h2,h3⟩:=gP e; exact ⟨y0,y1,y2,y3,y4,y5,y6,y7,h1,h2.below bn,h3.below bn⟩),(fun e=>by obtain ⟨y0,y1,h1,h2⟩:=gX e; exact ⟨y0,y1,h1,h2.below bn⟩),(fun e=>by obtain ⟨y0,y1,y2,y3,y4,y5,h1,h2⟩:=gY e; exact ⟨y0,y1,y2,y3,y4,y5,h1,h2.below bn⟩),(fun e=>by obtain ⟨y0,h1,h2,h3⟩:=gT e; exact ⟨y0,h1,h2,row_keep h3 bn⟩),(fun _=>⟨W.heap.size,rfl,gB.size,fun _=>rn⟩),Zf,Zf⟩
      · have hn15:b15=false:=by revert hp; cases b15 <;> simp
        have e9:b9=true:=by revert hp; cases b9 <;> simp
        have e7:b7=true:=by revert hp; cases b7 <;> simp
        have e0:b0=true:=by revert hp; cases b0 <;> simp
        have e6:b6=true:=by revert hp; cases b6 <;> simp
        have e13:b13=true:=by revert hp; cases b13 <;> simp
        have e14:b14=true:=by revert hp; cases b14 <;> simp
        clear hp
        subst hn15
        refine inv_op (o:=⟨none,_,_,_,_,_⟩) rfl (fun K' hK'=>?_)
        have gi16:=(Zd (Ze HI.out)).1
        have gi17:=(Zd (Ze HI.out)).2.1
        have rN0:=(Zd (Zg HI.out)).2.1
        have gX:=(Zd (Ze (Zg HI.out))).2.2.1
        obtain rfl:b16=false:=Zz fun e=>(gi16 e).2
        obtain rfl:b17=false:=Zz fun e=>(gi17 e).2.2.2.1
        obtain ⟨ra,rc,rfl,hx⟩:=gX e9
        obtain ⟨hc0,hz0⟩:=at_cell (rN0 rfl) 0 _ rfl
        have hlt:=(Array.getElem?_eq_some_iff.1 (rN0 rfl)).1
        go_simp
        obtain ⟨h0,h1,h2,h3,h4,h5,h6,h8,h10,h12,h18,gi15,gi16,gi17,gi8,gi9,gi11,rM,rB,rS,rD,rN0,rX,gB,gV,gQ,gD,gU,gC,gP,gX,gY,gT,gK,gK2,gA⟩:=HI.out
        exact hK'.out _ _ ⟨.mk ..,rfl,rfl,h0,h1,h2,h3,h4,h5,h6,h8,h10,h12,h18,(fun _=>⟨e0,e6,e7,e13,e14⟩),Zf,Zf,gi8,gi9,gi11,(Zp1 rM (Nat.ne_of_gt (Nat.lt_of_lt_of_le HLM.out LRN.out))),(Zp1 rB (Zn rB (rN0 rfl))),(Zp1 rS (Zn rS (rN0 rfl))),(Zp1 rD (Zn rD (rN0 rfl))),Zf,(Zp1 rX (Zn rX (rN0 rfl))),(Zu1 gB LRN.out),(gV.stay (rN0 rfl) (by decide) _ _),(gQ.stay (rN0 rfl) (by decide) (by decide) _ _),(gD.stay (rN0 rfl) (by decide) _ _),(gU.stay (rN0 rfl) (by decide) _ _),Zf,(fun e=>by obtain ⟨y0,y1,y2,y3,y4,y5,y6,y7,h1,h2,h3⟩:=gP e; exact ⟨y0,y1,y2,y3,y4,y5,y6,y7,h1,(h2.stay (rN0 rfl) (by decide) _ _),(h3.stay (rN0 rfl) (by decide) _ _)⟩),(fun e=>by obtain ⟨y0,y1,h1,h2⟩:=gX e; exact ⟨y0,y1,h1,(h2.stay (rN0 rfl) (by decide) _ _)⟩),(fun e=>by obtain ⟨y0,y1,y2,y3,y4,y5,h1,h2⟩:=gY e; exact ⟨y0,y1,y2,y3,y4,y5,h1,(h2.stay (rN0 rfl) (by decide) _ _)⟩),(fun e=>by obtain ⟨y0,h1,h2,h3⟩:=gT e; exact ⟨y0,h1,h2,(Zp1 h3 (Zn h3 (rN0 rfl)))⟩),(fun e=>by obtain ⟨y0,h1,h2,h3⟩:=gK e; exact ⟨y0,h1,h2,fun e2=>(Zp1 (h3 e2) (Zn (h3 e2) (rN0 rfl)))⟩),Zf,(fun _=>⟨ra,rc,row_put (rN0 rfl) 0 (.slice ra 1700 rc),hx.stay (rN0 rfl) (by decide) 0 (.slice ra 1700 rc)⟩)⟩
      · have hn16:b16=false:=by revert hp; cases b16 <;> simp
        have e10:b10=true:=by revert hp; cases b10 <;> simp
        have e13:b13=true:=by revert hp; cases b13 <;> simp
        have e15:b15=true:=by revert hp; cases b15 <;> simp
        clear hp
        obtain rfl:=((Ze HI.out).1) e10
        subst hn16
        refine inv_op (o:=⟨none,_,_,_,_,_⟩) rfl (fun K' hK'=>?_)
        have gi17:=(Zd (Ze HI.out)).2.1
        have gT:=(Zg (Zg HI.out)).1
        obtain rfl:b17=false:=Zz fun e=>(gi17 e).2.2.2.2
        obtain ⟨gx,rfl,hlg,gTr⟩:=gT e13
        have gTr:W.heap[gx]? = some (.cells (#[.int .i64 0,.int .i64 0,.int .u16 0,.int .u16 0]) 45 (0,0)):=gTr
        obtain ⟨hc0,hz0⟩:=at_cell gTr 0 _ rfl
        obtain ⟨hc1,hz1⟩:=at_cell gTr 1 _ rfl
        obtain ⟨hc2,hz2⟩:=at_cell gTr 2 _ rfl
        obtain ⟨hc3,hz3⟩:=at_cell gTr 3 _ rfl
        have hlt:=(Array.getElem?_eq_some_iff.1 gTr).1
        go_simp
        obtain ⟨h0,h1,h2,h3,h4,h5,h6,h8,h10,h12,h18,gi15,gi16,gi17,gi8,gi9,gi11,rM,rB,rS,rD,rN0,rX,gB,gV,gQ,gD,gU,gC,gP,gX,gY,gT,gK,gK2,gA⟩:=HI.out
        exact hK'.out _ _ ⟨.mk ..,rfl,rfl,h0,h1,h2,h3,h4,h5,h6,h8,h10,h12,h18,gi15,(fun _=>⟨e13,e15⟩),Zf,gi8,gi9,gi11,(Zp4 rM (Zn rM gTr)),(Zp4 rB (Zn rB gTr)),(Zp4 rS (Nat.ne_of_gt (Nat.lt_of_lt_of_le HLS.out hlg))),(Zp4 rD (Zn rD gTr)),(fun e=>(Zp4 (rN0 e) (Zn (rN0 e) gTr))),(Zp4 rX (Zn rX gTr)),(Zu4 gB hlg),((((gV.stay gTr (by decide) _ _).stay (Zr gTr) (by decide) _ _).stay (Zr (Zr gTr)) (by decide) _ _).stay (Zr (Zr (Zr gTr))) (by decide) _ _),((((gQ.stay gTr (by decide) (by decide) _ _).stay (Zr gTr) (by decide) (by decide) _ _).stay (Zr (Zr gTr)) (by decide) (by decide) _ _).stay (Zr (Zr (Zr gTr))) (by decide) (by decide) _ _),((((gD.stay gTr (by decide) _ _).stay (Zr gTr) (by decide) _ _).stay (Zr (Zr gTr)) (by decide) _ _).stay (Zr (Zr (Zr gTr))) (by decide) _ _),((((gU.stay gTr (by decide) _ _).stay (Zr gTr) (by decide) _ _).stay (Zr (Zr gTr)) (by decide) _ _).stay (Zr (Zr (Zr gTr))) (by decide) _ _),(fun e=>by rw [e15] at e; cases e),(fun e=>by obtain ⟨y0,y1,y2,y3,y4,y5,y6,y7,h1,h2,h3⟩:=gP e; exact ⟨y0,y1,y2,y3,y4,y5,y6,y7,h1,((((h2.stay gTr (by decide) _ _).stay (Zr gTr) (by decide) _ _).stay (Zr (Zr gTr)) (by decide) _ _).stay (Zr (Zr (Zr gTr))) (by decide) _ _),((((h3.stay gTr (by decide) _ _).stay (Zr gTr) (by decide) _ _).stay (Zr (Zr gTr)) (by decide) _ _).stay (Zr (Zr (Zr gTr))) (by decide) _ _)⟩),(fun e=>by obtain ⟨y0,y1,h1,h2⟩:=gX e; exact ⟨y0,y1,h1,((((h2.stay gTr (by decide) _ _).stay (Zr gTr) (by decide) _ _).stay (Zr (Zr gTr)) (by decide) _ _).stay (Zr (Zr (Zr gTr))) (by decide) _ _)⟩),(fun e=>by obtain ⟨y0,y1,y2,y3,y4,y5,h1,h2⟩:=gY e; exact ⟨y0,y1,y2,y3,y4,y5,h1,((((h2.stay gTr (by decide) _ _).stay (Zr gTr) (by decide) _ _).stay (Zr (Zr gTr)) (by decide) _ _).stay (Zr (Zr (Zr gTr))) (by decide) _ _)⟩),(fun _=>⟨gx,rfl,hlg,(Zr (Zr (Zr (Zr gTr))))⟩),(fun e=>by obtain ⟨y0,h1,h2,h3⟩:=gK e; exact ⟨y0,h1,h2,fun e2=>(Zp4 (h3 e2) (Zn (h3 e2) gTr))⟩),Zf,(fun e=>(((((gA e).far gTr (by decide) _ _).far (Zr gTr) (by decide) _ _).far (Zr (Zr gTr)) (by decide) _ _).far (Zr (Zr (Zr gTr))) (by decide) _ _))⟩
      · have hn17:b17=false:=by revert hp; cases b17 <;> simp
        have e11:b11=true:=by revert hp; cases b11 <;> simp
        have e14:b14=true:=by revert hp; cases b14 <;> simp
        have e16:b16=true:=by revert hp; cases b16 <;> simp
        have e7:b7=true:=by revert hp; cases b7 <;> simp
        have e13:b13=true:=by revert hp; cases b13 <;> simp
        have e15:b15=true:=by revert hp; cases b15 <;> simp
        clear hp
        subst hn17
        refine inv_op (o:=⟨none,_,_,_,_,_⟩) rfl (fun K' hK'=>?_)
        have gY:=(Zd (Ze (Zg HI.out))).2.2.2.1
        have gK:=(Zg (Zg HI.out)).2.1
        obtain ⟨ia,im,ic,qa,qn,qc,rfl,hx⟩:=gY e11
        obtain ⟨gx,rfl,hlg,gK0⟩:=gK e14
        have gKr:=gK0 rfl
        obtain ⟨hc0,hz0⟩:=at_cell gKr 0 _ rfl
        obtain ⟨hc1,hz1⟩:=at_cell gKr 1 _ rfl
        have hlt:=(Array.getElem?_eq_some_iff.1 gKr).1
        go_simp
        obtain ⟨h0,h1,h2,h3,h4,h5,h6,h8,h10,h12,h18,gi15,gi16,gi17,gi8,gi9,gi11,rM,rB,rS,rD,rN0,rX,gB,gV,gQ,gD,gU,gC,gP,gX,gY,gT,gK,gK2,gA⟩:=HI.out
        exact hK'.out _ _ ⟨.mk ..,rfl,rfl,h0,h1,h2,h3,h4,h5,h6,h8,h10,h12,h18,gi15,gi16,(fun _=>⟨e7,e13,e14,e15,e16⟩),gi8,gi9,gi11,(Zp2 rM (Zn rM gKr)),(Zp2 rB (Zn rB gKr)),(Zp2 rS (Zn rS gKr)),(Zp2 rD (Nat.ne_of_gt (Nat.lt_of_lt_of_le HLD.out hlg))),(fun e=>(Zp2 (rN0 e) (Zn (rN0 e) gKr))),(Zp2 rX (Zn rX gKr)),(Zu2 gB hlg),((gV.stay gKr (by decide) _ _).stay (Zr gKr) (by decide) _ _),((gQ.stay gKr (by decide) (by decide) _ _).stay (Zr gKr) (by decide) (by decide) _ _),((gD.stay gKr (by decide) _ _).stay (Zr gKr) (by decide) _ _),((gU.stay gKr (by decide) _ _).stay (Zr gKr) (by decide) _ _),(fun e=>by rw [((gi16 e16).2)] at e; cases e),(fun e=>by obtain ⟨y0,y1,y2,y3,y4,y5,y6,y7,h1,h2,h3⟩:=gP e; exact ⟨y0,y1,y2,y3,y4,y5,y6,y7,h1,((h2.stay gKr (by decide) _ _).stay (Zr gKr) (by decide) _ _),((h3.stay gKr (by decide) _ _).stay (Zr gKr) (by decide) _ _)⟩),(fun e=>by obtain ⟨y0,y1,h1,h2⟩:=gX e; exact ⟨y0,y1,h1,((h2.stay gKr (by decide) _ _).stay (Zr gKr) (by decide) _ _)⟩),(fun e=>by obtain ⟨y0,y1,y2,y3,y4,y5,h1,h2⟩:=gY e; exact ⟨y0,y1,y2,y3,y4,y5,h1,((h2.stay gKr (by decide) _ _).stay (Zr gKr) (by decide) _ _)⟩),(fun e=>by obtain ⟨y0,h1,h2,h3⟩:=gT e; exact ⟨y0,h1,h2,(Zp2 h3 (Zn h3 gKr))⟩),(fun _=>⟨gx,rfl,hlg,fun e=>by cases e⟩),(fun _=>⟨gx,rfl,hlg,⟨_,_,_,_,_,_,row_put (Zr gKr) 1 (.slice qa qn qc),(hx.stay gKr (by decide) _ _).stay (Zr gKr) (by decide) 1 (.slice qa qn qc)⟩⟩),(fun e=>(((gA e).far gKr (by decide) _ _).far (Zr gKr) (by decide) _ _))⟩
      · obtain ⟨rfl,e12,e17⟩:b18=false∧b12=true∧b17=true:=by revert hp; cases b18 <;> cases b12 <;> cases b17 <;> simp
        clear hp
        obtain rfl:=((Ze HI.out).2.1) e12
        refine Zv 23 fun K' hK'=>?_
        go_simp
        exact hK'.out _ _ ⟨.mk ..,rfl,rfl,Nxt (Nxt (Nx4 (Nx4 (Upd (fun _=>rfl))))) HI.out⟩
     case hdone =>
      rintro ⟨b0,b1,b2,b3,b4,b5,b6,b7,b8,b9,b10,b11,b12,b13,b14,b15,b16,b17,b18,s94,s95,s96,s97,s98,s99,s100,s101,s93,s102,s103,s104,s105,s21,s22,s23⟩ W hI hall
      dsimp only at hI hall ⊢
      have HI:=Zh hI
      clear hI
      obtain rfl:b0=true:=hall 0 (by decide)
      obtain rfl:b1=true:=hall 1 (by decide)
      obtain rfl:b2=true:=hall 2 (by decide)
      obtain rfl:b3=true:=hall 3 (by decide)
      obtain rfl:b4=true:=hall 4 (by decide)
      obtain rfl:b5=true:=hall 5 (by decide)
      obtain rfl:b6=true:=hall 6 (by decide)
      obtain rfl:b7=true:=hall 7 (by decide)
      obtain rfl:b8=true:=hall 8 (by decide)
      obtain rfl:b9=true:=hall 9 (by decide)
      obtain rfl:b10=true:=hall 10 (by decide)
      obtain rfl:b11=true:=hall 11 (by decide)
      obtain rfl:b12=true:=hall 12 (by decide)
      obtain rfl:b13=true:=hall 13 (by decide)
      obtain rfl:b14=true:=hall 14 (by decide)
      obtain rfl:b15=true:=hall 15 (by decide)
      obtain rfl:b16=true:=hall 16 (by decide)
      obtain rfl:b17=true:=hall 17 (by decide)
      obtain rfl:b18=true:=hall 18 (by decide)
      obtain rfl:=((Ze HI.out).2.2.1) rfl
      have gA:=(Zg (Zg HI.out)).2.2.2
      have gT:=(Zg (Zg HI.out)).1
      have gK2:=(Zg (Zg HI.out)).2.2.1
      have rM:=(Zg HI.out).2.1
      have rB:=(Zg HI.out).2.2.1
      have rS:=(Zg HI.out).2.2.2.1
      have rD:=(Zd (Zg HI.out)).1
      have rX:=(Zd (Zg HI.out)).2.2.1
      have gB:=(Zd (Zg HI.out)).2.2.2.1
      have gQ:=(Ze (Zg HI.out)).2.1
      have gU:=(Ze (Zg HI.out)).2.2.2.1
      clear HI hall
      obtain ⟨ra,rc,hn,hno⟩:=gA rfl
      obtain ⟨gt,rfl,hlt9,ht⟩:=gT rfl
      have ht:W.heap[gt]? = some (.cells #[.int .i64 0,.int .i64 16,.int .u16 (A1:Nat),.int .u16 (A1:Nat)] 45 (0,0)):=ht
      obtain ⟨ge,rfl,hle,ia,im,ic,qa,qn,qc,he,heo⟩:=gK2 rfl
      clear RM RB RS RD RN RX BW AV QA DD PB AN QX
      have RM:=Zh rM
      have RB:=Zh rB
      have RS:=Zh rS
      have RD:=Zh rD
      have BW:=Zh gB
      have PB:=Zh gU
      have RN:=Zh hn
      have AN:=Zh hno
      have RX:=Zh rX
      have QX:=Zh gQ
      have RT:=Zh ht
      have LRT:=Zh hlt9
      have RE:=Zh he
      have DE:=Zh heo
      have LRE:=Zh hle
      clear gA gT gK2 rM rB rS rD rX gB gQ gU hn hno ht hlt9 he heo hle
      obtain ⟨w8,hw8⟩:∃ x,x=W:=⟨_,rfl⟩
      rw [←hw8] at RM RB RS RD BW PB RN AN RX QX RT RE DE ⊢
      clear hw8
      obtain ⟨m0,mz⟩:=one_cell RN.out
      go_wp2_with (refine blk_load rfl _ rfl _ rfl _ RX.out rfl ?_)
      refine (done_round _ _ _ D3 G1 G2 d j A1 s st R _ AN.out QX.out HJ6.out HA1.out HT.out HVW.out.ok).mono ?_
      rintro e w9 ⟨fa,fn,fc,ga,gm,gc,D4,rfl,hq,hb⟩
      replace RM:=Zk RM hb
      replace RB:=Zk RB hb
      replace RS:=Zk RS hb
      replace RD:=Zk RD hb
      replace BW:=Zb BW hb
      replace PB:=Zh (PB.out.below hb)
      replace RN:=Zk RN hb
      replace AN:=Zh (AN.out.below hb)
      replace RX:=Zk RX hb
      replace QX:=Zh (QX.out.below hb)
      replace RT:=Zk RT hb
      replace RE:=Zk RE hb
      replace DE:=Zh (DE.out.below hb)
      have QY:=Zh hq
      clear hq hb
      have LRY:=Zh (show wr.heap.size≤w9.heap.size from BW.out.size)
      have hb:Below w9.heap.size w9 (w9.alloc (.cells (bk (.slice fa fn fc) (.slice ga gm gc) (A1:Nat) (A1:Nat) zReq zReq zReq zReq) 34)):=(Below.refl _ _).alloc (Nat.le_refl _) _
      replace RM:=Zk RM hb
      replace RB:=Zk RB hb
      replace RS:=Zk RS hb
      replace RD:=Zk RD hb
      replace BW:=Zb BW hb
      replace PB:=Zh (PB.out.below hb)
      replace RN:=Zk RN hb
      replace AN:=Zh (AN.out.below hb)
      replace RX:=Zk RX hb
      replace QX:=Zh (QX.out.below hb)
      replace RT:=Zk RT hb
      replace RE:=Zk RE hb
      replace DE:=Zh (DE.out.below hb)
      replace QY:=Zh (QY.out.below hb)
      have RY:=Zh (heap_alloc_new w9 (.cells (bk (.slice fa fn fc) (.slice ga gm gc) (A1:Nat) (A1:Nat) zReq zReq zReq zReq) 34))
      clear hb
      clear m0 mz
      go_upto_region 16 with (refine blk_store_new rfl _ _ rfl w9 w9.heap.size rfl (bk (.slice fa fn fc) (.slice ga gm gc) (A1:Nat) (A1:Nat) zReq zReq zReq zReq) rfl rfl _ rfl rfl rfl (bk_one rfl rfl) ?_)
      obtain ⟨w10,hw10⟩:∃ x,x=(w9.alloc (.cells (bk (.slice fa fn fc) (.slice ga gm gc) (A1:Nat) (A1:Nat) zReq zReq zReq zReq) 34)):=⟨_,rfl⟩
      rw [←hw10] at RM RB RS RD BW PB RN AN RX QX RT RE DE QY RY ⊢
      clear hw10
      obtain ⟨c0,c1,z0,z1⟩:=cells_two RE.out
      go_wp2_with fail
      refine (refRead_dk _ _ S W2 _ DE.out (s:Nat) F HVW.out.f2 L2 HVW.out.r2).mono ?_
      rintro e w11 ⟨ja,jn,jc,rfl,hp,hpn,hb⟩
      clear hpn
      replace RM:=Zk RM hb
      replace RB:=Zk RB hb
      replace RS:=Zk RS hb
      replace RD:=Zk RD hb
      replace BW:=Zb BW hb
      replace PB:=Zh (PB.out.below hb)
      replace RN:=Zk RN hb
      replace AN:=Zh (AN.out.below hb)
      replace RX:=Zk RX hb
      replace QX:=Zh (QX.out.below hb)
      replace RT:=Zk RT hb
      replace RE:=Zk RE hb
      replace DE:=Zh (DE.out.below hb)
      replace QY:=Zh (QY.out.below hb)
      replace RY:=Zk RY hb
      have PN:=Zh hp
      clear hp hb
      clear c0 c1 z0 z1
      go_upto_region 17 with fail
      go_cut [149] from 62 to 179 (fun c wx=>c=.bool false∧wx=w11)
      case first =>
       have e3:=kept E3.out BW.out
       have hyw:=HYW.out
       have hl0:0≤(j:Int):=by omega
       have hl1:(j:Int) < (n3:Int):=by have:=HC.out; omega
       rcases HVW.out.how with ⟨hy0,hs8,hR,hF,hL⟩|⟨hy0,hs8,hR,hF,hL⟩|⟨hs8,hR,hF⟩
       · rw [hy0] at hyw
         have r0:(R == 0)=true:=by rw [hR]; rfl
         have r1:(R != 0)=false:=by rw [hR]; rfl
         have h8:decide (((s:Nat):Int) < 8)=true:=decide_eq_true (by omega)
         have h9:decide (s < 8)=true:=decide_eq_true (by omega)
         clear hy0 hs8 hR hF hL HVW HYW
         go_wp2
         go_meet
         exact ⟨rfl,rfl⟩
       · have r0:(R == 0)=false:=by rw [hR]; rfl
         have r1:(R != 0)=true:=by rw [hR]; rfl
         have h8:decide (((s:Nat):Int) < 8)=true:=decide_eq_true (by omega)
         have h9:decide (s < 8)=true:=decide_eq_true (by omega)
         have y0:(((y:Nat):Int) == 0)=false:=by rw [beq_eq_false_iff_ne]; omega
         have y1:(y == 0)=false:=by rw [beq_eq_false_iff_ne]; omega
         clear hy0 hs8 hR hF hL HVW HYW
         go_wp2
         go_meet
         exact ⟨rfl,rfl⟩
       · have r0:(R == 0)=false:=by rw [hR]; rfl
         have r1:(R != 0)=true:=by rw [hR]; rfl
         have h8:decide (((s:Nat):Int) < 8)=false:=decide_eq_false (by omega)
         have h9:decide (s < 8)=false:=decide_eq_false (by omega)
         by_cases hy0:y=0
         · rw [hy0] at hyw
           clear hy0 hs8 hR hF HVW HYW
           go_wp2
           go_meet
           exact ⟨rfl,rfl⟩
         · have y0:(((y:Nat):Int) == 0)=false:=by rw [beq_eq_false_iff_ne]; omega
           have y1:(y == 0)=false:=by rw [beq_eq_false_iff_ne]; omega
           clear hy0 hs8 hR hF HVW HYW
           go_wp2
           go_meet
           exact ⟨rfl,rfl⟩
      case rest =>
       obtain ⟨rfl,hwc⟩:=hcut
       subst hwc
       obtain ⟨w12,hw12⟩:∃ x,x=wc:=⟨_,rfl⟩
       rw [←hw12] at RM RB RS RD BW PB RN AN RX QX RT RE DE QY RY PN ⊢
       clear hw12
       go_upto_region 19 with fail
       go_cut [175] from 62 to 179 (fun c wx=>c=.bool false∧Below w12.heap.size w12 wx)
       case first =>
        have e2:=kept E2.out BW.out
        have hl0:0≤(j:Int):=by omega
        have hl1:(j:Int) < (n2:Int):=by have:=HC.out; omega
        rcases HVW.out.how with ⟨hy0,hs8,hR,hF,hL⟩|⟨hy0,hs8,hR,hF,hL⟩|⟨hs8,hR,hF⟩
        · rw [hL] at PN
          have r0:(R == 0)=true:=by rw [hR]; rfl
          have r1:(R != 0)=false:=by rw [hR]; rfl
          have f0:(F == 0)=true:=by rw [hF]; rfl
          have f1:(F != 0)=false:=by rw [hF]; rfl
          clear hy0 hs8 hR hF hL HVW HYW
          go_wp2_with fail
          refine (sector9_any c _).mono ?_
          rintro e w13 ⟨gs,rfl,hsc,hb⟩
          rw [HD.out] at hsc
          have HSC:=Zh hsc
          have HB:=Zh hb
          clear hsc hb
          go_wp2_with fail
          refine (bytes_same _ _ d _ (PN.out.below HB.out).arg.1 HSC.out.arg.1).mono ?_
          rintro e w14 ⟨rfl,rfl⟩
          go_wp2
          go_meet
          exact ⟨rfl,HB.out⟩
        · rw [hL] at PN
          have r0:(R == 0)=false:=by rw [hR]; rfl
          have r1:(R != 0)=true:=by rw [hR]; rfl
          have f0:(F == 0)=true:=by rw [hF]; rfl
          have f1:(F != 0)=false:=by rw [hF]; rfl
          clear hy0 hs8 hR hF hL HVW HYW
          go_wp2_with fail
          refine (bytes_same _ _ L _ PN.out.arg.1 PB.out.arg.1).mono ?_
          rintro e w14 ⟨rfl,rfl⟩
          go_wp2
          go_meet
          exact ⟨rfl,Below.refl _ _⟩
        · have r0:(R == 0)=false:=by rw [hR]; rfl
          have r1:(R != 0)=true:=by rw [hR]; rfl
          have f0:(F == 0)=false:=by rw [hF]; rfl
          have f1:(F != 0)=true:=by rw [hF]; rfl
          clear hs8 hR hF HVW HYW
          go_wp2
          go_meet
          exact ⟨rfl,Below.refl _ _⟩
       case rest =>
        obtain ⟨rfl,hb⟩:=hcut
        replace RM:=Zk RM hb
        replace RB:=Zk RB hb
        replace RS:=Zk RS hb
        replace RD:=Zk RD hb
        replace BW:=Zb BW hb
        replace PB:=Zh (PB.out.below hb)
        replace RN:=Zk RN hb
        replace AN:=Zh (AN.out.below hb)
        replace RX:=Zk RX hb
        replace QX:=Zh (QX.out.below hb)
        replace RT:=Zk RT hb
        replace RE:=Zk RE hb
        replace DE:=Zh (DE.out.below hb)
        replace QY:=Zh (QY.out.below hb)
        replace RY:=Zk RY hb
        replace PN:=Zh (PN.out.below hb)
        clear hb
        obtain ⟨w13,hw13⟩:∃ x,x=wc:=⟨_,rfl⟩
        rw [←hw13] at RM RB RS RD BW PB RN AN RX QX RT RE DE QY RY PN ⊢
        clear hw13
        go_wp2_with fail
        refine wp_region_rec (X:=BlkWrC) (by kernel_rfl) (by kernel_rfl) (fun x=>#[x.b0,x.b1,x.b2,x.b3,x.b4,x.b5,x.b6,x.b7]) (fun x=>{ tmps:=List.toArray ((.slice (some ⟨k1,o1,none⟩) n1 c1)::(.slice (some ⟨k2,o2,none⟩) n2 c2)::(.slice (some ⟨k3,o3,none⟩) n3 c3)::undef::undef::undef::u6::(.pointer (some ⟨w1.heap.size,0,none⟩))::(.pointer (some ⟨w1.heap.size+1,0,none⟩))::(.int .i64 0)::(.pointer (some ⟨w3.heap.size,0,none⟩))::(.int .i64 0)::(.pointer (some ⟨w4.heap.size,0,none⟩))::(.int .i64 (j:Nat))::(.int .i64 (s:Nat))::(.slice pa pn pc)::(.int .i64 F)::(.pointer (some ⟨gn,0,none⟩))::(.pointer (some ⟨gx,0,none⟩))::(.int .i64 0)::(.int .i64 0)::(.pointer (some ⟨gt,0,none⟩))::(.pointer (some ⟨ge,0,none⟩))::(.int .i64 0)::(.pointer (some ⟨w9.heap.size,0,none⟩))::(.int .i64 0)::(.int .i64 R)::(.int .i64 0)::(.slice ja jn jc)::(.int .i64 F)::(.slice (some ⟨k1,o1,none⟩) n1 c1)::(.int .i64 (n1:Nat))::(.bool false)::(.bool false)::(.slice (some ⟨k2,o2,none⟩) n2 c2)::(.int .i64 (n2:Nat))::(.slice (some ⟨k1,o1,none⟩) n1 c1)::(.int .i64 (n1:Nat))::(.bool false)::(.bool false)::(.bool false)::(.slice (some ⟨k3,o3,none⟩) n3 c3)::(.int .i64 (n3:Nat))::(.slice (some ⟨k1,o1,none⟩) n1 c1)::(.int .i64 (n1:Nat))::(.bool false)::(.bool false)::undef::(.tuple #[.agg #[.slice aa 1700 ca],.agg (bk (.slice xa0 xn0 xc0) (.slice ya0 yn0 yc0) 0 0 zReq zReq zReq zReq),.int .i64 0])::(.slice (some ⟨w.heap.size,0,none⟩) 1700 1700)::(.agg #[.slice (some ⟨w.heap.size,0,none⟩) 1700 1700])::(.tuple #[.agg #[.slice aa 1700 ca],.agg (bk (.slice xa0 xn0 xc0) (.slice ya0 yn0 yc0) 0 0 zReq zReq zReq zReq),.int .i64 0])::(.agg #[.slice aa 1700 ca])::(.agg (bk (.slice xa0 xn0 xc0) (.slice ya0 yn0 yc0) 0 0 zReq zReq zReq zReq))::(.int .i64 0)::(.tuple #[.agg #[.slice sa0 sn0 sc0,.slice none 0 0],.int .i64 0])::(.tuple #[.agg #[.slice sa0 sn0 sc0,.slice none 0 0],.int .i64 0])::(.agg #[.slice sa0 sn0 sc0,.slice none 0 0])::(.int .i64 0)::(.agg #[.int .i64 0,.int .i64 16,.int .u16 0,.int .u16 0])::(.int .i64 0)::(.bool false)::u62::u63::u64::u65::u66::u67::u68::u69::u70::u71::u72::u73::u74::u75::u76::u77::u78::u79::u80::u81::u82::u83::u84::u85::u86::u87::u88::u89::u90::u91::u92::u93::u94::u95::u96::u97::u98::u99::u100::u101::u102::u103::u104::u105::u106::u107::u108::u109::u110::u111::u112::u113::u114::u115::u116::u117::u118::u119::u120::u121::u122::u123::u124::u125::u126::u127::u128::u129::u130::u131::u132::u133::u134::u135::u136::u137::u138::u139::u140::u141::u142::u143::u144::u145::u146::u147::u148::u149::u150::u151::u152::u153::u154::u155::u156::u157::u158::u159::u160::u161::u162::u163::u164::u165::u166::u167::u168::u169::u170::u171::u172::u173::u174::(.bool false)::x.s176::x.s177::x.s178::x.s179::undef::undef::undef::undef::undef::[]),defers:=[] }) (fun x W=>(x.b0→x.s176=.agg #[.slice ra 1700 rc])∧(x.b1→x.s177=.agg (bk (.slice fa fn fc) (.slice ga gm gc) (A1:Nat) (A1:Nat) zReq zReq zReq zReq))∧(x.b2→x.s178=.agg #[.int .i64 0,.int .i64 16,.int .u16 (A1:Nat),.int .u16 (A1:Nat)])∧(x.b3→x.s179=.agg #[.slice ia im ic,.slice qa qn qc])∧(x.b5→x.b4)∧(x.b6→x.b4∧x.b5)∧(x.b7→x.b4∧x.b5∧x.b6)∧(x.b4=false→W.heap[w1.heap.size]? = some (.cells #[.slice ma 1700 mc] 24 (0,0)))∧(x.b4→W.heap[w1.heap.size]? = some (.cells #[.slice ra 1700 rc] 24 (0,0)))∧(x.b5=false→W.heap[w1.heap.size+1]? = some (.cells (bk (.slice xa xn xc) (.slice ya yn yc) (j:Nat) (j:Nat) zReq zReq zReq zReq) 34 (0,0)))∧(x.b5→W.heap[w1.heap.size+1]? = some (.cells (bk (.slice fa fn fc) (.slice ga gm gc) (A1:Nat) (A1:Nat) zReq zReq zReq zReq) 34 (0,0)))∧(x.b6=false→W.heap[w4.heap.size]? = some (.cells #[.int .i64 0,.int .i64 16,.int .u16 (j:Nat),.int .u16 (j:Nat)] 45 (0,0)))∧(x.b6→W.heap[w4.heap.size]? = some (.cells #[.int .i64 0,.int .i64 16,.int .u16 (A1:Nat),.int .u16 (A1:Nat)] 45 (0,0)))∧(x.b7=false→W.heap[w3.heap.size]? = some (.cells #[.slice sa sn sc,.slice ua un uc] 41 (0,0)))∧(x.b7→W.heap[w3.heap.size]? = some (.cells #[.slice ia im ic,.slice qa qn qc] 41 (0,0)))∧(W.heap[gn]? = some (.cells #[.slice ra 1700 rc] 24 (0,0)))∧(W.heap[w9.heap.size]? = some (.cells (bk (.slice fa fn fc) (.slice ga gm gc) (A1:Nat) (A1:Nat) zReq zReq zReq zReq) 34 (0,0)))∧(W.heap[gt]? = some (.cells #[.int .i64 0,.int .i64 16,.int .u16 (A1:Nat),.int .u16 (A1:Nat)] 45 (0,0)))∧(W.heap[ge]? = some (.cells #[.slice ia im ic,.slice qa qn qc] 41 (0,0)))∧(Below w.heap.size w W)∧(OwnB 0 W (.slice ra 1700 rc) G2)∧(IsQ 0 W (.slice fa fn fc) (.slice ga gm gc) (wq A1) D4)∧(DK W (.slice ia im ic) (.slice qa qn qc) S W2)) ⟨false,false,false,false,false,false,false,false,u176,u177,u178,u179⟩ rfl rfl ⟨Zf,Zf,Zf,Zf,Zf,Zf,Zf,(fun _=>RM.out),Zf,(fun _=>RB.out),Zf,(fun _=>RS.out),Zf,(fun _=>RD.out),Zf,RN.out,RY.out,RT.out,RE.out,(BO.out.trans (BW.out.mono BO.out.size)).drew,AN.out.drew,QY.out.drew,DE.out.drew⟩ (fun _=>rfl) ?hstep ?hdone
        case hstep =>
         rintro ⟨b0,b1,b2,b3,b4,b5,b6,b7,s176,s177,s178,s179⟩ W hI i hi
         dsimp only at hI hi ⊢
         have HI:=Zh hI
         clear hI
         rw [Region.ready,List.mem_filter,List.mem_range] at hi
         obtain ⟨hlt,hp⟩:=hi
         have hi7:i=0∨i=1∨i=2∨i=3∨i=4∨i=5∨i=6∨i=7:=by simp at hlt; omega
         clear hlt
         rcases hi7 with rfl|rfl|rfl|rfl|rfl|rfl|rfl|rfl
         all_goals simp [Region.binds] at hp
         · obtain rfl:b0=false:=by revert hp; cases b0 <;> simp
           clear hp; refine Zv 176 fun K' hK'=>?_
           have rN:=(Zd (Ze HI.out)).2.2.2.1
           obtain ⟨hc0,_⟩:=at_cell rN 0 _ rfl
           go_simp
           exact hK'.out _ _ ⟨.mk ..,rfl,rfl,(Upd (fun _=>rfl)) HI.out⟩
         · obtain rfl:b1=false:=by revert hp; cases b1 <;> simp
           clear hp; refine Zv 177 fun K' hK'=>?_
           have rY:=(Zg HI.out).1
           refine step_blk_load rfl _ rfl _ rfl _ rY rfl ?_
           exact hK'.out _ _ ⟨.mk ..,rfl,rfl,Nxt (Upd (fun _=>rfl)) HI.out⟩
         · obtain rfl:b2=false:=by revert hp; cases b2 <;> simp
           clear hp; refine Zv 178 fun K' hK'=>?_
           have rT:=(Zg HI.out).2.1
           obtain ⟨hc0,_⟩:=at_cell rT 0 _ rfl
           obtain ⟨hc1,_⟩:=at_cell rT 1 _ rfl
           obtain ⟨hc2,_⟩:=at_cell rT 2 _ rfl
           obtain ⟨hc3,_⟩:=at_cell rT 3 _ rfl
           go_simp
           exact hK'.out _ _ ⟨.mk ..,rfl,rfl,Nxt (Nxt (Upd (fun _=>rfl))) HI.out⟩
         · obtain rfl:b3=false:=by revert hp; cases b3 <;> simp
           clear hp; refine Zv 179 fun K' hK'=>?_
           have rE:=(Zg HI.out).2.2.1
           obtain ⟨hc0,_⟩:=at_cell rE 0 _ rfl
           obtain ⟨hc1,_⟩:=at_cell rE 1 _ rfl
           go_simp
           exact hK'.out _ _ ⟨.mk ..,rfl,rfl,Nxt (Nxt (Nxt (Upd (fun _=>rfl)))) HI.out⟩
         · obtain ⟨rfl,e0⟩:b4=false∧b0=true:=by revert hp; cases b4 <;> cases b0 <;> simp
           clear hp
           obtain rfl:=(HI.out.1) e0
           refine inv_op (o:=⟨none,_,_,_,_,_⟩) rfl (fun K' hK'=>?_)
           have gi5:=(Zd HI.out).1
           have gi6:=(Zd HI.out).2.1
           have gi7:=(Zd HI.out).2.2.1
           have rM0:=(Zd HI.out).2.2.2.1
           obtain rfl:b5=false:=Zz fun e=>(gi5 e)
           obtain rfl:b6=false:=Zz fun e=>(gi6 e).1
           obtain rfl:b7=false:=Zz fun e=>(gi7 e).1
           obtain ⟨hc0,hz0⟩:=at_cell (rM0 rfl) 0 _ rfl
           have hlt:=(Array.getElem?_eq_some_iff.1 (rM0 rfl)).1
           go_simp
           obtain ⟨h0,h1,h2,h3,gi5,gi6,gi7,rM0,rM1,rB0,rB1,rS0,rS1,rD0,rD1,rN,rY,rT,rE,gB,gV,gQ,gD⟩:=HI.out
           exact hK'.out _ _ ⟨.mk ..,rfl,rfl,h0,h1,h2,h3,Zf,Zf,Zf,Zf,(fun _=>(Zr (rM0 rfl))),(fun e=>(Zp1 (rB0 e) (Zn (rB0 e) (rM0 rfl)))),Zf,(fun e=>(Zp1 (rS0 e) (Zn (rS0 e) (rM0 rfl)))),Zf,(fun e=>(Zp1 (rD0 e) (Zn (rD0 e) (rM0 rfl)))),Zf,(Zp1 rN (Nat.ne_of_lt (Nat.lt_of_lt_of_le HLM.out LRN.out))),(Zp1 rY (Zn rY (rM0 rfl))),(Zp1 rT (Zn rT (rM0 rfl))),(Zp1 rE (Zn rE (rM0 rfl))),(Zu1 gB HLM0.out),(gV.stay (rM0 rfl) (by decide) _ _),(gQ.stay (rM0 rfl) (by decide) (by decide) _ _),(gD.stay (rM0 rfl) (by decide) _ _)⟩
         · obtain ⟨rfl,e1,e4⟩:b5=false∧b1=true∧b4=true:=by revert hp; cases b5 <;> cases b1 <;> cases b4 <;> simp
           clear hp
           obtain rfl:=(HI.out.2.1) e1
           refine inv_op (o:=⟨none,_,_,_,_,_⟩) rfl (fun K' hK'=>?_)
           have gi6:=(Zd HI.out).2.1
           have gi7:=(Zd HI.out).2.2.1
           have rB0:=(Ze HI.out).2.1
           obtain rfl:b6=false:=Zz fun e=>(gi6 e).2
           obtain rfl:b7=false:=Zz fun e=>(gi7 e).2.1
           refine step_blk_store rfl _ _ rfl _ _ rfl rfl _ (rB0 rfl) rfl rfl (bk_one rfl rfl) ?_
           obtain ⟨h0,h1,h2,h3,gi5,gi6,gi7,rM0,rM1,rB0,rB1,rS0,rS1,rD0,rD1,rN,rY,rT,rE,gB,gV,gQ,gD⟩:=HI.out
           exact hK'.out _ _ ⟨.mk ..,rfl,rfl,h0,h1,h2,h3,(fun _=>e4),Zf,Zf,(fun e=>(row_other (rM0 e) _ (Zn (rM0 e) (rB0 rfl)))),(fun e=>(row_other (rM1 e) _ (Zn (rM1 e) (rB0 rfl)))),Zf,(fun _=>row_self (rB0 rfl) (bk (.slice fa fn fc) (.slice ga gm gc) (A1:Nat) (A1:Nat) zReq zReq zReq zReq)),(fun e=>(row_other (rS0 e) _ (Zn (rS0 e) (rB0 rfl)))),Zf,(fun e=>(row_other (rD0 e) _ (Zn (rD0 e) (rB0 rfl)))),Zf,(row_other rN _ (Zn rN (rB0 rfl))),(row_other rY _ (Nat.ne_of_lt (Nat.lt_of_lt_of_le HLB.out LRY.out))),(row_other rT _ (Zn rT (rB0 rfl))),(row_other rE _ (Zn rE (rB0 rfl))),(below_row gB HLB0.out _),(gV.row (rB0 rfl) _),(gQ.row (rB0 rfl) _),(gD.row (rB0 rfl) _)⟩
         · have hn6:b6=false:=by revert hp; cases b6 <;> simp
           have e2:b2=true:=by revert hp; cases b2 <;> simp
           have e5:b5=true:=by revert hp; cases b5 <;> simp
           have e4:b4=true:=by revert hp; cases b4 <;> simp
           clear hp
           obtain rfl:=(HI.out.2.2.1) e2
           subst hn6
           refine inv_op (o:=⟨none,_,_,_,_,_⟩) rfl (fun K' hK'=>?_)
           have gi7:=(Zd HI.out).2.2.1
           have rS0:=(Ze HI.out).2.2.2.1
           obtain rfl:b7=false:=Zz fun e=>(gi7 e).2.2
           obtain ⟨hc0,hz0⟩:=at_cell (rS0 rfl) 0 _ rfl
           obtain ⟨hc1,hz1⟩:=at_cell (rS0 rfl) 1 _ rfl
           obtain ⟨hc2,hz2⟩:=at_cell (rS0 rfl) 2 _ rfl
           obtain ⟨hc3,hz3⟩:=at_cell (rS0 rfl) 3 _ rfl
           have hlt:=(Array.getElem?_eq_some_iff.1 (rS0 rfl)).1
           go_simp
           obtain ⟨h0,h1,h2,h3,gi5,gi6,gi7,rM0,rM1,rB0,rB1,rS0,rS1,rD0,rD1,rN,rY,rT,rE,gB,gV,gQ,gD⟩:=HI.out
           exact hK'.out _ _ ⟨.mk ..,rfl,rfl,h0,h1,h2,h3,gi5,(fun _=>⟨e4,e5⟩),Zf,(fun e=>(Zp4 (rM0 e) (Zn (rM0 e) (rS0 rfl)))),(fun e=>(Zp4 (rM1 e) (Zn (rM1 e) (rS0 rfl)))),(fun e=>(Zp4 (rB0 e) (Zn (rB0 e) (rS0 rfl)))),(fun e=>(Zp4 (rB1 e) (Zn (rB1 e) (rS0 rfl)))),Zf,(fun _=>(Zr (Zr (Zr (Zr (rS0 rfl)))))),(fun e=>(Zp4 (rD0 e) (Zn (rD0 e) (rS0 rfl)))),Zf,(Zp4 rN (Zn rN (rS0 rfl))),(Zp4 rY (Zn rY (rS0 rfl))),(Zp4 rT (Nat.ne_of_lt (Nat.lt_of_lt_of_le HLS.out LRT.out))),(Zp4 rE (Zn rE (rS0 rfl))),(Zu4 gB HLS0.out),((((gV.stay (rS0 rfl) (by decide) _ _).stay (Zr (rS0 rfl)) (by decide) _ _).stay (Zr (Zr (rS0 rfl))) (by decide) _ _).stay (Zr (Zr (Zr (rS0 rfl)))) (by decide) _ _),((((gQ.stay (rS0 rfl) (by decide) (by decide) _ _).stay (Zr (rS0 rfl)) (by decide) (by decide) _ _).stay (Zr (Zr (rS0 rfl))) (by decide) (by decide) _ _).stay (Zr (Zr (Zr (rS0 rfl)))) (by decide) (by decide) _ _),((((gD.stay (rS0 rfl) (by decide) _ _).stay (Zr (rS0 rfl)) (by decide) _ _).stay (Zr (Zr (rS0 rfl))) (by decide) _ _).stay (Zr (Zr (Zr (rS0 rfl)))) (by decide) _ _)⟩
         · have hn7:b7=false:=by revert hp; cases b7 <;> simp
           have e3:b3=true:=by revert hp; cases b3 <;> simp
           have e6:b6=true:=by revert hp; cases b6 <;> simp
           have e4:b4=true:=by revert hp; cases b4 <;> simp
           have e5:b5=true:=by revert hp; cases b5 <;> simp
           clear hp
           obtain rfl:=(HI.out.2.2.2.1) e3
           subst hn7
           refine inv_op (o:=⟨none,_,_,_,_,_⟩) rfl (fun K' hK'=>?_)
           have rD0:=(Zd (Ze HI.out)).2.1
           obtain ⟨hc0,hz0⟩:=at_cell (rD0 rfl) 0 _ rfl
           obtain ⟨hc1,hz1⟩:=at_cell (rD0 rfl) 1 _ rfl
           have hlt:=(Array.getElem?_eq_some_iff.1 (rD0 rfl)).1
           go_simp
           obtain ⟨h0,h1,h2,h3,gi5,gi6,gi7,rM0,rM1,rB0,rB1,rS0,rS1,rD0,rD1,rN,rY,rT,rE,gB,gV,gQ,gD⟩:=HI.out
           exact hK'.out _ _ ⟨.mk ..,rfl,rfl,h0,h1,h2,h3,gi5,gi6,(fun _=>⟨e4,e5,e6⟩),(fun e=>(Zp2 (rM0 e) (Zn (rM0 e) (rD0 rfl)))),(fun e=>(Zp2 (rM1 e) (Zn (rM1 e) (rD0 rfl)))),(fun e=>(Zp2 (rB0 e) (Zn (rB0 e) (rD0 rfl)))),(fun e=>(Zp2 (rB1 e) (Zn (rB1 e) (rD0 rfl)))),(fun e=>(Zp2 (rS0 e) (Zn (rS0 e) (rD0 rfl)))),(fun e=>(Zp2 (rS1 e) (Zn (rS1 e) (rD0 rfl)))),Zf,(fun _=>(Zr (Zr (rD0 rfl)))),(Zp2 rN (Zn rN (rD0 rfl))),(Zp2 rY (Zn rY (rD0 rfl))),(Zp2 rT (Zn rT (rD0 rfl))),(Zp2 rE (Nat.ne_of_lt (Nat.lt_of_lt_of_le HLD.out LRE.out))),(Zu2 gB HLD0.out),((gV.stay (rD0 rfl) (by decide) _ _).stay (Zr (rD0 rfl)) (by decide) _ _),((gQ.stay (rD0 rfl) (by decide) (by decide) _ _).stay (Zr (rD0 rfl)) (by decide) (by decide) _ _),((gD.stay (rD0 rfl) (by decide) _ _).stay (Zr (rD0 rfl)) (by decide) _ _)⟩
        case hdone =>
         rintro ⟨b0,b1,b2,b3,b4,b5,b6,b7,s176,s177,s178,s179⟩ W hI hall
         dsimp only at hI hall ⊢
         have HI:=Zh hI
         clear hI
         obtain rfl:b0=true:=hall 0 (by decide)
         obtain rfl:b1=true:=hall 1 (by decide)
         obtain rfl:b2=true:=hall 2 (by decide)
         obtain rfl:b3=true:=hall 3 (by decide)
         obtain rfl:b4=true:=hall 4 (by decide)
         obtain rfl:b5=true:=hall 5 (by decide)
         obtain rfl:b6=true:=hall 6 (by decide)
         obtain rfl:b7=true:=hall 7 (by decide)
         have rM1:=(Ze HI.out).1
         have rB1:=(Ze HI.out).2.2.1
         have rS1:=(Zd (Ze HI.out)).1
         have rD1:=(Zd (Ze HI.out)).2.2.1
         have gB:=(Zg HI.out).2.2.2.1
         have gV:=(Zd (Zg HI.out)).1
         have gQ:=(Zd (Zg HI.out)).2.1
         have gD:=(Zd (Zg HI.out)).2.2
         clear HI hall
         have X1:=Zh (rM1 rfl)
         have X2:=Zh (rB1 rfl)
         have X3:=Zh (rS1 rfl)
         have X4:=Zh (rD1 rfl)
         have X5:=Zh gB
         have X6:=Zh gV
         have X7:=Zh gQ
         have X8:=Zh gD
         clear rM1 rB1 rS1 rD1 gB gV gQ gD
         obtain rfl:A1=j+1:=by have h1:=HA1.out; have h2:=HC.out; omega
         have hn30:n1≤30:=HC.out.1
         go_wp2
         go_roundw
         case rel=>exact ⟨j+1,G2,W2,by omega,by go_num,HT.out.n2,by have h1:=HVW.out.len; have h2:=HCL.out; omega,HVW.out.chk,⟨_,_,X1.out,X6.out⟩,⟨_,_,_,X2.out,X7.out⟩,X3.out,⟨_,_,_,_,_,_,X4.out,X8.out⟩,X5.out⟩
         case measure=>simp [intOf]; omega
  · obtain rfl:j=n1:=by have:=HJ.out; omega
    have BW:=Zh BO.out
    have hj6:=Zh (show j < 65536 by have:=HC.out; omega)
    clear RM RS RD AV DD BO
    go_wp2_with (refine blk_load rfl _ rfl _ rfl _ RB.out rfl ?_)
    refine (blkCheck_any (wq j) zReq zReq zReq zReq _ _ D (j:Nat) (j:Nat) _ QA.out (wq_goodB hj6.out) rfl rfl).mono ?_
    rintro e w6 ⟨rfl,hb⟩
    replace RB:=Zk RB hb
    replace QA:=Zh (QA.out.below hb)
    replace BW:=Zb BW hb
    clear hb
    go_wp2_with fail
    refine (blkHeads_any _).mono ?_
    rintro e w7 ⟨rfl,hb⟩
    replace RB:=Zk RB hb
    replace QA:=Zh (QA.out.below hb)
    replace BW:=Zb BW hb
    clear hb
    go_wp2
    go_ret
    exact ⟨rfl,BW.out⟩
set_option maxHeartbeats 1000000 in
set_option maxRecDepth 100000 in
theorem vblkWrites_out (w:World) (va vb vc:Value) (l:List Int) (cs:List UInt8) (ss:List Int) (hv:IsInts w va l) (hcs:IsArg w vb cs) (hss:IsInts w vc ss) (hc:30 < l.length∨(l.length≤30∧cs.length < l.length)∨(l.length≤30∧l.length≤cs.length∧ss.length < l.length)):Calls Tryz.prog 4 #[va,vb,vc] w fun e w'=>e=.returned (.bool true)∧Below w.heap.size w w':=by
 obtain ⟨a1,n1,c1,rfl,q1⟩:∃ a n c,va=.slice a n c∧n=l.length:=by obtain ⟨a,c,h,_⟩:=hv.1.shape; exact ⟨a,_,c,h,by simp⟩
 obtain ⟨a2,n2,c2,rfl,q2⟩:∃ a n c,vb=.slice a n c∧n=cs.length:=by obtain ⟨a,c,h,_⟩:=hcs.shape; exact ⟨a,_,c,h,by simp⟩
 obtain ⟨a3,n3,c3,rfl,q3⟩:∃ a n c,vc=.slice a n c∧n=ss.length:=by obtain ⟨a,c,h,_⟩:=hss.1.shape; exact ⟨a,_,c,h,by simp⟩
 rw [←q1,←q2,←q3] at hc
 clear hv hcs hss q1 q2 q3
 rcases hc with h|⟨h,h2⟩|⟨h,h2,h3⟩
 · have t1:decide ((30:Int) < ((n1:Nat):Int))=true:=decide_eq_true (by omega)
   have t2:decide (30 < n1)=true:=decide_eq_true (by omega)
   clear h
   go_enter Tryz.func4,Tryz.ntmps4
   go_wp2_with fail
   refine (blkHeads_any _).mono ?_
   rintro e w1 ⟨rfl,hb⟩
   go_wp2
   go_ret
   exact ⟨rfl,hb⟩
 · have t1:decide ((30:Int) < ((n1:Nat):Int))=false:=decide_eq_false (by omega)
   have t2:decide (30 < n1)=false:=decide_eq_false (by omega)
   have t3:decide (n2 < n1)=true:=decide_eq_true (by omega)
   clear h h2
   go_enter Tryz.func4,Tryz.ntmps4
   go_wp2_with fail
   refine (blkHeads_any _).mono ?_
   rintro e w1 ⟨rfl,hb⟩
   go_wp2
   go_ret
   exact ⟨rfl,hb⟩
 · have t1:decide ((30:Int) < ((n1:Nat):Int))=false:=decide_eq_false (by omega)
   have t2:decide (30 < n1)=false:=decide_eq_false (by omega)
   have t3:decide (n2 < n1)=false:=decide_eq_false (by omega)
   have t4:decide (n3 < n1)=true:=decide_eq_true (by omega)
   clear h h2 h3
   go_enter Tryz.func4,Tryz.ntmps4
   go_wp2_with fail
   refine (blkHeads_any _).mono ?_
   rintro e w1 ⟨rfl,hb⟩
   go_wp2
   go_ret
   exact ⟨rfl,hb⟩
theorem vblkWrites_law (w:World) (va:Value) (l:List Int) (hv:IsInts w va l) (vb:Value) (cs:List UInt8) (hcs:IsArg w vb cs) (vc:Value) (ss:List Int) (hss:IsInts w vc ss):Calls Tryz.prog 4 #[va,vb,vc] w fun e w'=>e=.returned (.bool true)∧Below w.heap.size w w':=by
 by_cases h1:l.length≤30
 · by_cases h2:l.length≤cs.length
   · by_cases h3:l.length≤ss.length
     · exact vblkWrites_main w va vb vc l cs ss hv hcs hss ⟨h1,h2,h3⟩
     · exact vblkWrites_out w va vb vc l cs ss hv hcs hss (.inr (.inr ⟨h1,h2,by omega⟩))
   · exact vblkWrites_out w va vb vc l cs ss hv hcs hss (.inr (.inl ⟨h1,by omega⟩))
 · exact vblkWrites_out w va vb vc l cs ss hv hcs hss (.inl (by omega))
open Go.RowKit Go.Lib Go.ChangeShapes Go.WideShapes
section
variable {H:Type} {enc:TypeId × Value→H} {P:Program} {w:World} {base:Nat} {held:Bool}
end
theorem open_numbers {H:Type} {enc:TypeId × Value→H} {P:Program} {w:World} {base:Nat} {held:Bool} {r:Reach} {b0:Nat} {t e:TypeId} {v:Value} {d:DataW H} {ps:List MemPlace}
 (ht:P.underlying t=some (.slice e)) (he:P.underlying e=some (.int .i64)) (hc:P.cellsOf e=1) (hval:Value.okWide P w r b0 t v) (hd:DataW.Trod enc P w base (fun _=>true) held t v d ps):∃ l,IsInts w v l:=by
 obtain ⟨a,n,c,rfl⟩:=okWide_slice ht hval
 obtain ⟨fuel,hf⟩:=hd
 rcases open_ints ht he hc hf with ⟨hcs,_⟩|⟨ad,len,cap,zs,hcs,_,hl,hm,hz,_,hcell,hwz⟩
 · have h:Value.slice a n c=.slice none 0 0:=by simpa [Value.cells] using hcs
   rw [h]
   exact ⟨[],.inl ⟨rfl,rfl,rfl⟩,fun z hz=>by simp at hz⟩
 · have h:Value.slice a n c=.slice (some ad) len cap:=by simpa [Value.cells] using hcs
   rw [h]
   have hz:zs.length=cap:=by simpa using hz
   have hlt:(zs.take len).length=len:=by simp; omega
   refine ⟨zs.take len,.inr ⟨ad,cap,by rw [hlt],by rw [hlt]; exact hl,hm,fun j u hu=>?_⟩,fun z hz'=>?_⟩
   · have hj:j < len:=by
      have h9:=(List.getElem?_eq_some_iff.1 hu).1
      rw [List.length_map,hlt] at h9
      exact h9
     rw [hcell j (by omega),←hu]
     simp [hj,show j < zs.length by omega]
   · exact bounds_i64 (hwz z (List.mem_of_mem_take hz'))
end Go.Proofs.YtcljffcdpjmmbaaGreat
