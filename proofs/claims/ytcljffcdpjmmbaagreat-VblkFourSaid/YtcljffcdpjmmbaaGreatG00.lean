import Derived.Lib.UnsafeStr
import Derived.Laws.MakeOwn
import Derived.IntWalk
import Derived.Below
import Derived.OpenShut
import Derived.Test.YtcljffcdpjmmbaaGreatRows
import Derived.WalkKit
import Derived.WalkSpells
import Derived.WalkLawsBesides
import Derived.Deep.RegionWith
import Derived.Deep.QuietTactic
import Derived.Deep.OwnRows
import Derived.BigQuiet
import Derived.Lib.Hide
import Derived.Deep.DeepCutAuto
import Derived.Laws.AppendOwnNone
import Derived.Lib.BufferWrite
import Derived.Lib.AppendZeros
import Derived.Lib.SliceRun
import Derived.Laws.OwnMore
import Derived.Deep.DeepMust
import Derived.Deep.RegionHeld3
import Derived.Laws.EntriesVeiled
namespace Go.Proofs.YtcljffcdpjmmbaaGreat
open Go Go.Lib
def leB (n k:Nat):List UInt8:=(List.range k).map fun i=>UInt8.ofNat (n / 256 ^ i)
def beB (n k:Nat):List UInt8:=(leB n k).reverse
def zeros (k:Nat):List Value:=List.replicate k (.int .u8 0)
@[simp] theorem leB_length (n k:Nat):(leB n k).length=k:=by simp [leB]
@[simp] theorem beB_length (n k:Nat):(beB n k).length=k:=by simp [beB]
theorem leB_succ (n k:Nat):leB n (k+1)=leB n k++[UInt8.ofNat (n / 256 ^ k)]:=by simp [leB,List.range_succ]
theorem made_zeros (k:Nat):(madeCells #[Value.int .u8 0] k).toList=zeros k:=by
 unfold madeCells zeros
 rw [Array.toList_map,Array.toList_range]
 apply List.ext_getElem
 · simp
 · intro i h1 h2
   simp [Nat.mod_one]
theorem zeros_succ (k:Nat):zeros (k+1)=.int .u8 0::zeros k:=by simp [zeros,List.replicate_succ]
def loRow (n k i:Nat):List Value:=byteCells (leB n i)++zeros (k - i)
def hiRow (n k i:Nat):List Value:=zeros (k - i)++byteCells (beB n i)
@[simp] theorem loRow_length (n k i:Nat) (h:i≤k):(loRow n k i).length=k:=by simp [loRow,zeros,byteCells]; omega
@[simp] theorem hiRow_length (n k i:Nat) (h:i≤k):(hiRow n k i).length=k:=by simp [hiRow,zeros,byteCells]; omega
theorem loRow_zero (n k:Nat):loRow n k 0=zeros k:=by simp [loRow,leB,byteCells]
theorem loRow_all (n k:Nat):loRow n k k=byteCells (leB n k):=by simp [loRow,zeros]
theorem loRow_set (n k i:Nat) (h:i < k):(loRow n k i).set i (.int .u8 ((n / 256 ^ i % 256:Nat):Int))=loRow n k (i+1):=by
 unfold loRow
 obtain ⟨m,hm⟩:∃ m,k - i=m+1:=⟨k - i - 1,by omega⟩
 have hm':k - (i+1)=m:=by omega
 rw [hm,hm',zeros_succ,leB_succ,byteCells_append,List.set_append]
 simp [byteCells]
theorem loRow_at (n k i:Nat) (h:i < k):(loRow n k i)[i]? = some (.int .u8 0):=by
 unfold loRow
 obtain ⟨m,hm⟩:∃ m,k - i=m+1:=⟨k - i - 1,by omega⟩
 rw [hm,zeros_succ,List.getElem?_append]
 simp [byteCells]
theorem row_set {w:World} {g i:Nat} {xs:List Value} {t:TypeId} {fr:Nat × Nat} (h:w.heap[g]? = some (.cells xs.toArray t fr)) (v:Value) :
 (w.setCell ⟨g,i,none⟩ v).heap[g]? = some (.cells (xs.set i v).toArray t fr):=by
 simp [World.setCell,Array.getElem?_modify,h]
theorem row_alloc {w:World} {g:Nat} {o:Obj} (h:w.heap[g]? = some o) (o':Obj):(w.alloc o').heap[g]? = some o:=by
 show (w.heap.push o')[g]? = _
 rw [Array.getElem?_push,if_neg (by have:=(Array.getElem?_eq_some_iff.1 h).1; omega)]; exact h
theorem row_drew {w:World} {g:Nat} {o:Obj} (h:w.heap[g]? = some o):w.drew.heap[g]? = some o:=h
theorem byte_put (n i:Nat):(n:Int) / 2 ^ (8 * i) % 256=((n / 256 ^ i % 256:Nat):Int):=by
 rw [Int.natCast_emod,Int.natCast_ediv,Int.natCast_pow,show ((2:Int) ^ (8 * i))=256 ^ i by rw [Int.pow_mul]; rfl]
 rfl
theorem owns_of_row {w:World} {g k base:Nat} {xs:List Value} {t:TypeId} (h:w.heap[g]? = some (.cells xs.toArray t (0,0))) (hb:base≤g) (hx:xs.length=k) (hk:k≤maxLen) :
 w.ownsRow base t 1 (.slice (some ⟨g,0,none⟩) k k) k xs :=
 ⟨by omega,.inr ⟨g,k,_,rfl,hb,h,Nat.le_refl _,hk,by simp [hx],by simp [←hx]⟩⟩
def IsBytes (w:World) (v:Value) (l:List UInt8):Prop :=
 (∃ a c,v=.slice a 0 c∧l=[])∨∃ b off cap,v=.slice (some ⟨b,off,none⟩) l.length cap∧l.length≤cap∧cap≤maxLen∧b < w.heap.size∧∀ i,i < l.length→w.cell? ⟨b,off+i,none⟩=some (.int .u8 (l.getD i 0).toNat)
def leN:List UInt8→Nat
 | []=>0
 | b::r=>b.toNat+256 * leN r
def beN (l:List UInt8):Nat:=leN l.reverse
theorem leN_lt (l:List UInt8):leN l < 256 ^ l.length:=by
 induction l with
 | nil=>simp [leN]
 | cons b r ih=>simp only [leN,List.length_cons,Nat.pow_succ]; have:=b.toNat_lt; omega
theorem leN_snoc (l:List UInt8) (b:UInt8):leN (l++[b])=leN l+b.toNat * 256 ^ l.length:=by
 induction l with
 | nil=>simp [leN]
 | cons c r ih=>simp only [List.cons_append,leN,ih,List.length_cons,Nat.pow_succ]; rw [Nat.mul_add,←Nat.add_assoc,Nat.mul_comm 256 (_ * _),Nat.mul_assoc]
theorem leN_take (l:List UInt8) (i:Nat) (h:i < l.length):leN (l.take (i+1))=leN (l.take i)+(l[i]?.getD 0).toNat * 256 ^ i:=by
 rw [List.take_succ_eq_append_getElem h,leN_snoc,List.length_take,Nat.min_eq_left (by omega),List.getElem?_eq_getElem h]; rfl
theorem or_step (N i:Nat) (b:UInt8) (hN:N < 256 ^ i) (hi:i < 8) :
 bits BinOp.or IntKind.u64 (N:Int) (IntKind.u64.wrap (IntKind.u64.wrap ((b.toNat:Nat):Int) * 2 ^ (8 * i)))=((N+b.toNat * 256 ^ i:Nat):Int):=by
 have hb:=b.toNat_lt
 have hp:256 ^ i * 256≤256 ^ 8:=by rw [←Nat.pow_succ]; exact Nat.pow_le_pow_right (by decide) (by omega)
 have hb1:b.toNat * 256 ^ i+256 ^ i≤256 ^ i * 256:=by
  rw [Nat.mul_comm (256 ^ i) 256,←Nat.succ_mul]; exact Nat.mul_le_mul_right _ (by omega)
 have h88:(256:Nat) ^ 8=18446744073709551616:=rfl
 have e1:IntKind.u64.wrap ((b.toNat:Nat):Int)=((b.toNat:Nat):Int):=IntWalk.u64_in _ (by omega)
 have e2:((b.toNat:Nat):Int) * 2 ^ (8 * i)=((b.toNat * 256 ^ i:Nat):Int):=by
  rw [Int.natCast_mul,Int.natCast_pow,show ((2:Int) ^ (8 * i))=256 ^ i by rw [Int.pow_mul]; rfl]; rfl
 rw [e1,e2,IntWalk.u64_in _ (by omega)]
 have e3:(b.toNat * 256 ^ i) ||| N=b.toNat * 256 ^ i+N:=by
  have h2:(256:Nat) ^ i=2 ^ (8 * i):=by rw [Nat.pow_mul]
  have:=Nat.shiftLeft_add_eq_or_of_lt (i:=8 * i) (b:=N) (by rw [←h2]; exact hN) b.toNat
  rw [Nat.shiftLeft_eq,←h2] at this
  exact this.symm
 show IntKind.u64.wrap (((BitVec.ofInt 64 (N:Int)) ||| (BitVec.ofInt 64 ((b.toNat * 256 ^ i:Nat):Int))).toNat:Int)=_
 have c1:(BitVec.ofInt 64 (N:Int))=BitVec.ofNat 64 N:=BitVec.ofInt_natCast ..
 have c2:(BitVec.ofInt 64 ((b.toNat * 256 ^ i:Nat):Int))=BitVec.ofNat 64 (b.toNat * 256 ^ i):=BitVec.ofInt_natCast ..
 rw [c1,c2]
 rw [show (BitVec.ofNat 64 N ||| BitVec.ofNat 64 (b.toNat * 256 ^ i)).toNat=N+b.toNat * 256 ^ i by
  rw [BitVec.toNat_or,BitVec.toNat_ofNat,BitVec.toNat_ofNat,Nat.mod_eq_of_lt (by omega),Nat.mod_eq_of_lt (by omega),Nat.or_comm,e3,Nat.add_comm]]
 exact IntWalk.u64_in _ (by omega)
theorem take_len8 (l:List UInt8):l.take (l.take 8).length=l.take 8:=by rw [List.length_take,←List.take_eq_take_min]
theorem lo_end (l:List UInt8) (m:Nat) (h:m=(l.take 8).length):leN (l.take m)=leN (l.take 8):=by rw [h,take_len8]
theorem isBytes_of_owns {w:World} {base:Nat} {t:TypeId} {v:Value} {l:List UInt8} (h:w.ownsRow base t 1 v l.length (byteCells l)):IsBytes w v l:=by
 rcases h.2 with ⟨rfl,h0⟩|⟨g,cap,cur,rfl,_,hg,hn,hm,_,htk⟩
 · exact .inl ⟨none,0,rfl,List.length_eq_zero_iff.1 h0⟩
 · refine .inr ⟨g,0,cap,rfl,hn,hm,(Array.getElem?_eq_some_iff.1 hg).1,fun i hi=>?_⟩
   have hc:=World.ownsRow.cells h (g:=g) rfl i (.int .u8 (l.getD i 0).toNat) (by simp [byteCells,hi])
   rw [Addr.add_lit] at hc
   exact hc
theorem IsBytes.below {w w':World} {v:Value} {l:List UInt8} (h:IsBytes w v l) (hb:RowKit.Below w.heap.size w w'):IsBytes w' v l:=by
 rcases h with h|⟨b,off,cap,rfl,h1,h2,h3,h4⟩
 · exact .inl h
 · exact .inr ⟨b,off,cap,rfl,h1,h2,Nat.lt_of_lt_of_le h3 hb.size,fun i hi=>by rw [hb.cell (by simpa using h3)]; exact h4 i hi⟩
theorem ownsRow_base {w:World} {base base':Nat} {t:TypeId} {size:Nat} {v:Value} {n:Nat} {xs:List Value} (h:w.ownsRow base t size v n xs) (hb:base'≤base):w.ownsRow base' t size v n xs:=by
 refine ⟨h.1,?_⟩
 rcases h.2 with h2|⟨g,cap,cur,hv,hg,r⟩
 · exact .inl h2
 · exact .inr ⟨g,cap,cur,hv,Nat.le_trans hb hg,r⟩
def p256 (i:Nat):Nat:=256 ^ i % 18446744073709551616
theorem isBytes_of_ints {w:World} {x:Addr} {len cap:Nat} {zs:List Int} (hl:len≤cap) (hm:cap≤maxLen) (hz:zs.length=cap)
 (hc:∀ i,i < zs.length→w.cell? (x.add i)=some (.int .u8 (zs.getD i 0))) (hw:∀ n∈zs,(Lit.int .u8 n).wf=true) :
 IsBytes w (.slice (some x) len cap) ((zs.take len).map fun z=>UInt8.ofNat z.toNat):=by
 by_cases h0:len=0
 · subst h0; exact .inl ⟨_,_,rfl,by simp⟩
 · have hlen:((zs.take len).map fun z=>UInt8.ofNat z.toNat).length=len:=by simp; omega
   obtain ⟨b,off,rfl,hc'⟩:=ints_at hc (by omega)
   refine .inr ⟨b,off,cap,by rw [hlen],by omega,hm,?_,fun i hi=>?_⟩
   · have:=World.block_lt_of_cell? w _ (hc' 0 (by omega)); exact this
   · rw [hlen] at hi
     rw [hc' i (by omega)]
     have hz2:i < zs.length:=by omega
     have hb:=bounds_u8 (hw zs[i] (List.getElem_mem hz2))
     simp only [List.getD_eq_getElem?_getD,List.getElem?_map,List.getElem?_take,if_pos hi,List.getElem?_eq_getElem hz2,Option.map_some,Option.getD_some]
     congr 2
     rw [UInt8.toNat_ofNat']
     omega
theorem turned (n k i:Nat) (h:i < k):(beB n k).getD (k - 1 - i) 0=(leB n k).getD i 0:=by
 have h1:k - 1 - (k - 1 - i)=i:=by omega
 simp [beB,List.getElem?_reverse (show k - 1 - i < (leB n k).length by simp; omega),h1]
def faultOf (L:Nat) (a n:Int):Int:=if L≤8192 then (if 0≤a∧a≤L∧0≤n∧n≤L - a then 0 else 40) else 3
def sizeFaultOf (L:Nat) (n:Int):Int:=if L≤8192 then (if 1≤n∧n≤8 then 0 else 2) else 3
def getOf (l:List UInt8) (a n:Int):List UInt8:=if faultOf l.length a n=0 then (l.drop a.toNat).take n.toNat else []
def putOf (l:List UInt8) (a:Int) (b:List UInt8):List UInt8:=if faultOf l.length a b.length=0 then l.take a.toNat++b++l.drop (a.toNat+b.length) else l
theorem fault_zero {L:Nat} {a n:Int} (h:faultOf L a n=0):L≤8192∧0≤a∧a≤L∧0≤n∧n≤L - a:=by
 unfold faultOf at h
 split at h
 · split at h
   · omega
   · omega
 · omega
theorem fault_of {L:Nat} {a n:Int} (h0:L≤8192) (h1:0≤a) (h2:a≤L) (h3:0≤n) (h4:n≤L - a):faultOf L a n=0:=by
 unfold faultOf
 rw [if_pos h0,if_pos ⟨h1,h2,h3,h4⟩]
theorem fault_cases (L:Nat) (a n:Int):(faultOf L a n=3∧8192 < L)∨(faultOf L a n=40∧L≤8192∧¬ (0≤a∧a≤L∧0≤n∧n≤L - a))∨(faultOf L a n=0∧L≤8192∧0≤a∧a≤L∧0≤n∧n≤L - a):=by
 unfold faultOf
 split
 · split
   · exact .inr (.inr ⟨rfl,by omega,by omega⟩)
   · exact .inr (.inl ⟨rfl,by omega,by assumption⟩)
 · exact .inl ⟨rfl,by omega⟩
theorem size_cases (L:Nat) (n:Int):(sizeFaultOf L n=3∧8192 < L)∨(sizeFaultOf L n=2∧L≤8192∧¬ (1≤n∧n≤8))∨(sizeFaultOf L n=0∧L≤8192∧1≤n∧n≤8):=by
 unfold sizeFaultOf
 split
 · split
   · exact .inr (.inr ⟨rfl,by omega,by omega⟩)
   · exact .inr (.inl ⟨rfl,by omega,by assumption⟩)
 · exact .inl ⟨rfl,by omega⟩
theorem getOf_some {l:List UInt8} {a n:Int} (h:faultOf l.length a n=0):getOf l a n=(l.drop a.toNat).take n.toNat:=by rw [getOf,if_pos h]
theorem getOf_none {l:List UInt8} {a n:Int} (h:faultOf l.length a n≠0):getOf l a n=[]:=by rw [getOf,if_neg h]
theorem putOf_some {l b:List UInt8} {a:Int} (h:faultOf l.length a b.length=0):putOf l a b=l.take a.toNat++b++l.drop (a.toNat+b.length):=by rw [putOf,if_pos h]
theorem putOf_none {l b:List UInt8} {a:Int} (h:faultOf l.length a b.length≠0):putOf l a b=l:=by rw [putOf,if_neg h]
theorem putOf_length (l:List UInt8) (a:Int) (b:List UInt8):(putOf l a b).length=l.length:=by
 by_cases h:faultOf l.length a b.length=0
 · obtain ⟨h0,h1,h2,h3,h4⟩:=fault_zero h
   rw [putOf_some h]
   simp
   omega
 · rw [putOf_none h]
theorem leB_congr {n m k:Nat} (h:n % 256 ^ k=m % 256 ^ k):leB n k=leB m k:=by
 induction k with
 | zero=>simp [leB]
 | succ k ih =>
   have h1:n % 256 ^ k=m % 256 ^ k:=by
    have e1:=Nat.mod_mul_right_mod n (256 ^ k) 256
    have e2:=Nat.mod_mul_right_mod m (256 ^ k) 256
    rw [←Nat.pow_succ] at e1 e2
    rw [←e1,←e2,h]
   have h2:n / 256 ^ k % 256=m / 256 ^ k % 256:=by
    have e1:=Nat.mod_mul_right_div_self n (256 ^ k) 256
    have e2:=Nat.mod_mul_right_div_self m (256 ^ k) 256
    rw [←Nat.pow_succ] at e1 e2
    rw [←e1,←e2,h]
   rw [leB_succ,leB_succ,ih h1]
   congr 2
   apply UInt8.toNat_inj.1
   simpa using h2
theorem leN_leBk (n k:Nat):leN (leB n k)=n % 256 ^ k:=by
 induction k with
 | zero=>simp [leB,leN,Nat.mod_one]
 | succ k ih =>
   rw [leB_succ,leN_snoc,ih,leB_length,Nat.pow_succ]
   have h:=Nat.mod_mul (x:=n) (a:=256 ^ k) (b:=256)
   rw [h]
   have h2:(UInt8.ofNat (n / 256 ^ k)).toNat=n / 256 ^ k % 256:=by simp
   rw [h2,Nat.mul_comm]
theorem leB_leN (l:List UInt8) (k:Nat) (h:l.length=k):leB (leN l) k=l:=by
 subst h
 induction hl:l.length generalizing l with
 | zero =>
   obtain rfl:=List.eq_nil_of_length_eq_zero hl
   rfl
 | succ n ih =>
   obtain ⟨a,b,rfl⟩:∃ a b,l=a++[b]:=⟨l.dropLast,l.getLast (by intro h; simp [h] at hl),(List.dropLast_concat_getLast _).symm⟩
   have ha:a.length=n:=by simpa using hl
   have hp:0 < 256 ^ n:=Nat.pow_pos (by decide)
   have hlt:=leN_lt a
   rw [ha] at hlt
   rw [leB_succ,leN_snoc,ha]
   have h1:leB (leN a+b.toNat * 256 ^ n) n=leB (leN a) n:=leB_congr (by rw [Nat.add_mul_mod_self_right])
   rw [h1,ih a ha]
   have h2:(leN a+b.toNat * 256 ^ n) / 256 ^ n=b.toNat:=by
    rw [Nat.add_mul_div_right _ _ hp,Nat.div_eq_of_lt hlt,Nat.zero_add]
   rw [h2]
   simp
def numAt (l:List UInt8) (p k:Nat):Nat:=leN ((l.drop p).take k)
def putAt (l:List UInt8) (p k x:Nat):List UInt8:=l.take p++leB x k++l.drop (p+k)
theorem putAt_length {l:List UInt8} {p k:Nat} (x:Nat) (h:p+k≤l.length):(putAt l p k x).length=l.length:=by
 simp [putAt]
 omega
theorem numAt_lt (l:List UInt8) (p k:Nat):numAt l p k < 256 ^ k:=by
 unfold numAt
 refine Nat.lt_of_lt_of_le (leN_lt _) (Nat.pow_le_pow_right (by decide) ?_)
 simp
 omega
theorem putAt_get {l:List UInt8} {p k:Nat} (x:Nat) (h:p+k≤l.length) (i:Nat):(putAt l p k x)[i]? = if i < p then l[i]? else if i < p+k then (leB x k)[i - p]? else l[i]? := by
 have h1:(l.take p).length=p:=by simp; omega
 have h2:(l.take p++leB x k).length=p+k:=by simp; omega
 unfold putAt
 by_cases c1:i < p
 · rw [if_pos c1,List.getElem?_append_left (by omega),List.getElem?_append_left (by omega),List.getElem?_take,if_pos c1]
 · rw [if_neg c1]
   by_cases c2:i < p+k
   · rw [if_pos c2,List.getElem?_append_left (by omega),List.getElem?_append_right (by omega),h1]
   · rw [if_neg c2,List.getElem?_append_right (by omega),h2,List.getElem?_drop,show p+k+(i - (p+k))=i by omega]
theorem part_same {l:List UInt8} {p k:Nat} (x:Nat) (h:p+k≤l.length):((putAt l p k x).drop p).take k=leB x k:=by
 have h1:(l.take p).length=p:=by simp; omega
 unfold putAt
 rw [List.append_assoc,List.drop_append_of_le_length (by omega),List.drop_eq_nil_of_le (by omega),List.nil_append,List.take_append_of_le_length (by simp),List.take_of_length_le (by simp)]
theorem part_other {l:List UInt8} {p k:Nat} (x:Nat) (h:p+k≤l.length) {q j:Nat} (hd:q+j≤p∨p+k≤q):((putAt l p k x).drop q).take j=(l.drop q).take j:=by
 apply List.ext_getElem?
 intro i
 rw [List.getElem?_take,List.getElem?_take]
 by_cases hi:i < j
 · rw [if_pos hi,if_pos hi,List.getElem?_drop,List.getElem?_drop,putAt_get x h]
   rcases hd with hd|hd
   · rw [if_pos (by omega)]
   · rw [if_neg (by omega),if_neg (by omega)]
 · rw [if_neg hi,if_neg hi]
theorem numAt_same {l:List UInt8} {p k:Nat} (x:Nat) (h:p+k≤l.length):numAt (putAt l p k x) p k=x % 256 ^ k:=by
 rw [numAt,part_same x h,leN_leBk]
theorem numAt_other {l:List UInt8} {p k:Nat} (x:Nat) (h:p+k≤l.length) {q j:Nat} (hd:q+j≤p∨p+k≤q):numAt (putAt l p k x) q j=numAt l q j:=by
 rw [numAt,part_other x h hd,numAt]
theorem putAt_self {l:List UInt8} {p k:Nat} (h:p+k≤l.length):putAt l p k (numAt l p k)=l:=by
 have h1:((l.drop p).take k).length=k:=by simp; omega
 unfold putAt numAt
 rw [leB_leN _ k h1,List.append_assoc,show l.drop (p+k)=(l.drop p).drop k by rw [List.drop_drop],List.take_append_drop,List.take_append_drop]
theorem putAt_mod (l:List UInt8) (p k:Nat) {x y:Nat} (h:x % 256 ^ k=y % 256 ^ k):putAt l p k x=putAt l p k y:=by
 unfold putAt
 rw [leB_congr h]
theorem putAt_drop {l:List UInt8} {p k:Nat} (x:Nat) (h:p+k≤l.length) {m:Nat} (hm:p+k≤m):(putAt l p k x).drop m=l.drop m:=by
 apply List.ext_getElem?
 intro i
 rw [List.getElem?_drop,List.getElem?_drop,putAt_get x h,if_neg (by omega),if_neg (by omega)]
def RightN (N:Nat):Prop:=N=1∨N=2∨N=4∨N=8∨N=16
theorem RightN.le {N:Nat} (h:RightN N):1≤N∧N≤16:=by unfold RightN at h; omega
def rightB (z:Int):Bool:=decide (z=1∨z=2∨z=4∨z=8∨z=16)
theorem rightB_of {N:Nat} (h:RightN N):rightB (N:Int)=true:=decide_eq_true (by unfold RightN at h; omega)
theorem right_of {z:Int} (h:rightB z=true):∃ N:Nat,z=N∧RightN N:=by
 have h:=of_decide_eq_true h
 exact ⟨z.toNat,by omega,by unfold RightN; omega⟩
def secN (N:Nat):Nat:=(18 * N+7) / 4 * 4
def sizeN (N:Nat):Nat:=secN N+4+8 * N
def sizeZ (z:Int):Int:=if rightB z=true then (sizeN z.toNat:Nat) else 0
theorem sizeZ_of {N:Nat} (h:RightN N):sizeZ (N:Int)=(sizeN N:Nat):=by rw [sizeZ,if_pos (rightB_of h),Int.toNat_natCast]
theorem sizeZ_not {z:Int} (h:rightB z=false):sizeZ z=0:=by rw [sizeZ,if_neg (by rw [h]; decide)]
theorem sizeN_le (N:Nat):18 * N+4≤secN N∧secN N≤18 * N+7∧sizeN N=secN N+4+8 * N:=by
 unfold sizeN secN
 omega
def okR (L:Nat) (b z:Int):Bool:=decide (L≤8192) && (rightB z && decide (0≤b∧b≤(L:Int) - sizeZ z))
def ringF (L:Nat) (b z:Int):Int:=if okR L b z=true then 0 else 70
def descF (L:Nat) (b z i:Int):Int:=if okR L b z=true then (if 0≤i∧i < z then 0 else 2) else 70
structure RingOk (L B N:Nat):Prop where
 few:L≤8192
 right:RightN N
 fits:B+sizeN N≤L
theorem RingOk.ok {L B N:Nat} (h:RingOk L B N):okR L (B:Int) (N:Int)=true:=by
 have h1:=h.fits
 unfold okR
 rw [decide_eq_true h.few,rightB_of h.right,decide_eq_true]
 · rfl
 · rw [sizeZ_of h.right]; omega
theorem ok_of {L:Nat} {b z:Int} (h:okR L b z=true):∃ B N:Nat,b=B∧z=N∧RingOk L B N:=by
 unfold okR at h
 rw [Bool.and_eq_true,Bool.and_eq_true] at h
 obtain ⟨h1,h2,h3⟩:=h
 have h1:=of_decide_eq_true h1
 obtain ⟨N,rfl,hN⟩:=right_of h2
 have h3:=of_decide_eq_true h3
 rw [sizeZ_of hN] at h3
 exact ⟨b.toNat,N,by omega,rfl,h1,hN,by omega⟩
theorem ring_cases (L:Nat) (b z:Int):(okR L b z=false∧ringF L b z=70)∨∃ B N:Nat,b=B∧z=N∧RingOk L B N∧ringF L b z=0:=by
 cases h:okR L b z with
 | false=>exact .inl ⟨rfl,by rw [ringF,h]; rfl⟩
 | true =>
   obtain ⟨B,N,h1,h2,h3⟩:=ok_of h
   exact .inr ⟨B,N,h1,h2,h3,by rw [ringF,h]; rfl⟩
theorem desc_cases (L:Nat) (b z i:Int):(okR L b z=false∧descF L b z i=70)∨(okR L b z=true∧¬ (0≤i∧i < z)∧descF L b z i=2)∨∃ B N I:Nat,b=B∧z=N∧i=I∧I < N∧RingOk L B N∧descF L b z i=0:=by
 cases h:okR L b z with
 | false=>exact .inl ⟨rfl,by rw [descF,h]; rfl⟩
 | true =>
   by_cases hi:0≤i∧i < z
   · obtain ⟨B,N,h1,h2,h3⟩:=ok_of h
     exact .inr (.inr ⟨B,N,i.toNat,h1,h2,by omega,by omega,h3,by rw [descF,if_pos h,if_pos hi]⟩)
   · exact .inr (.inl ⟨rfl,hi,by rw [descF,if_pos h,if_neg hi]⟩)
def descX (l:List UInt8) (b z i:Int) (o k:Nat):Nat:=if descF l.length b z i=0 then numAt l (b.toNat+16 * i.toNat+o) k else 0
def setD (l:List UInt8) (p a n f x:Nat):List UInt8:=putAt (putAt (putAt (putAt l p 8 a) (p+8) 4 n) (p+12) 2 f) (p+14) 2 x
def setX (l:List UInt8) (b z i:Int) (a n f x:Nat):List UInt8:=if descF l.length b z i=0 then setD l (b.toNat+16 * i.toNat) a n f x else l
def availX (l:List UInt8) (b z:Int):Nat:=if ringF l.length b z=0 then numAt l (b.toNat+16 * z.toNat+2) 2 else 0
def availAtX (l:List UInt8) (b z:Int) (at_:Nat):Nat:=if ringF l.length b z=0 then numAt l (b.toNat+16 * z.toNat+4+2 * (at_ % z.toNat)) 2 else 0
def offerD (l:List UInt8) (B N at_ h:Nat):List UInt8:=putAt (putAt l (B+16 * N+4+2 * (at_ % N)) 2 h) (B+16 * N+2) 2 (at_+1)
def offerX (l:List UInt8) (b z:Int) (at_:Nat) (h:Int):List UInt8:=if ringF l.length b z=0 then offerD l b.toNat z.toNat at_ (h % 65536).toNat else l
def usedX (l:List UInt8) (b z:Int):Nat:=if ringF l.length b z=0 then numAt l (b.toNat+secN z.toNat+2) 2 else 0
def usedAtX (l:List UInt8) (b z:Int) (at_ o:Nat):Nat:=if ringF l.length b z=0 then numAt l (b.toNat+secN z.toNat+4+8 * (at_ % z.toNat)+o) 4 else 0
def returnD (l:List UInt8) (B N at_ a n:Nat):List UInt8:=putAt (putAt (putAt l (B+secN N+4+8 * (at_ % N)) 4 a) (B+secN N+4+8 * (at_ % N)+4) 4 n) (B+secN N+2) 2 (at_+1)
def returnX (l:List UInt8) (b z:Int) (at_ a n:Nat):List UInt8:=if ringF l.length b z=0 then returnD l b.toNat z.toNat at_ a n else l
theorem mod_small {a b:Nat} (h:a < b):a % b=a:=Nat.mod_eq_of_lt h
theorem setD_length {l:List UInt8} {p:Nat} (a n f x:Nat) (h:p+16≤l.length):(setD l p a n f x).length=l.length:=by
 unfold setD
 have h1:=putAt_length (l:=l) (p:=p) (k:=8) a (by omega)
 have h2:=putAt_length (l:=putAt l p 8 a) (p:=p+8) (k:=4) n (by omega)
 have h3:=putAt_length (l:=putAt (putAt l p 8 a) (p+8) 4 n) (p:=p+12) (k:=2) f (by omega)
 rw [putAt_length x (by omega),h3,h2,h1]
theorem setD_other {l:List UInt8} {p q j:Nat} (a n f x:Nat) (h:p+16≤l.length) (hd:q+j≤p∨p+16≤q):numAt (setD l p a n f x) q j=numAt l q j:=by
 unfold setD
 have h1:=putAt_length (l:=l) (p:=p) (k:=8) a (by omega)
 have h2:=putAt_length (l:=putAt l p 8 a) (p:=p+8) (k:=4) n (by omega)
 have h3:=putAt_length (l:=putAt (putAt l p 8 a) (p+8) 4 n) (p:=p+12) (k:=2) f (by omega)
 rw [numAt_other x (by omega) (by omega),numAt_other f (by omega) (by omega),numAt_other n (by omega) (by omega),numAt_other a (by omega) (by omega)]
theorem setD_there {l:List UInt8} {p:Nat} (a n f x:Nat) (h:p+16≤l.length) (ha:a < 18446744073709551616) (hn:n < 4294967296) (hf:f < 65536) (hx:x < 65536) :
 numAt (setD l p a n f x) p 8=a∧numAt (setD l p a n f x) (p+8) 4=n∧numAt (setD l p a n f x) (p+12) 2=f∧numAt (setD l p a n f x) (p+14) 2=x:=by
 unfold setD
 have h1:=putAt_length (l:=l) (p:=p) (k:=8) a (by omega)
 have h2:=putAt_length (l:=putAt l p 8 a) (p:=p+8) (k:=4) n (by omega)
 have h3:=putAt_length (l:=putAt (putAt l p 8 a) (p+8) 4 n) (p:=p+12) (k:=2) f (by omega)
 refine ⟨?_,?_,?_,?_⟩
 · rw [numAt_other x (by omega) (by omega),numAt_other f (by omega) (by omega),numAt_other n (by omega) (by omega),numAt_same a (by omega)]
   exact mod_small ha
 · rw [numAt_other x (by omega) (by omega),numAt_other f (by omega) (by omega),numAt_same n (by omega)]
   exact mod_small hn
 · rw [numAt_other x (by omega) (by omega),numAt_same f (by omega)]
   exact mod_small hf
 · rw [numAt_same x (by omega)]
   exact mod_small hx
theorem setD_drop {l:List UInt8} {p m:Nat} (a n f x:Nat) (h:p+16≤l.length) (hm:p+16≤m):(setD l p a n f x).drop m=l.drop m:=by
 unfold setD
 have h1:=putAt_length (l:=l) (p:=p) (k:=8) a (by omega)
 have h2:=putAt_length (l:=putAt l p 8 a) (p:=p+8) (k:=4) n (by omega)
 have h3:=putAt_length (l:=putAt (putAt l p 8 a) (p+8) 4 n) (p:=p+12) (k:=2) f (by omega)
 rw [putAt_drop x (by omega) (by omega),putAt_drop f (by omega) (by omega),putAt_drop n (by omega) (by omega),putAt_drop a (by omega) (by omega)]
theorem RingOk.lie {L B N:Nat} (h:RingOk L B N):1≤N∧N≤16∧18 * N+4≤secN N∧B+secN N+4+8 * N≤L∧L≤8192:=by
 have h1:=h.right.le
 have h2:=sizeN_le N
 have h3:=h.fits
 exact ⟨h1.1,h1.2,h2.1,by omega,h.few⟩
theorem mod_in {k N:Nat} (h:1≤N):k % N < N:=Nat.mod_lt _ h
theorem offerD_length {l:List UInt8} {B N:Nat} (k h:Nat) (hok:RingOk l.length B N):(offerD l B N k h).length=l.length:=by
 obtain ⟨h1,h2,h3,h4,h5⟩:=hok.lie
 have h6:=mod_in (k:=k) h1
 have h7:=putAt_length (l:=l) (p:=B+16 * N+4+2 * (k % N)) (k:=2) h (by omega)
 rw [offerD,putAt_length _ (by omega),h7]
theorem offerD_other {l:List UInt8} {B N q j:Nat} (k h:Nat) (hok:RingOk l.length B N) (hd:q+j≤B+16 * N+2∨B+secN N≤q):numAt (offerD l B N k h) q j=numAt l q j:=by
 obtain ⟨h1,h2,h3,h4,h5⟩:=hok.lie
 have h6:=mod_in (k:=k) h1
 have h7:=putAt_length (l:=l) (p:=B+16 * N+4+2 * (k % N)) (k:=2) h (by omega)
 rw [offerD,numAt_other _ (by omega) (by omega),numAt_other _ (by omega) (by omega)]
theorem offerD_index {l:List UInt8} {B N:Nat} (k h:Nat) (hok:RingOk l.length B N):numAt (offerD l B N k h) (B+16 * N+2) 2=(k+1) % 65536:=by
 obtain ⟨h1,h2,h3,h4,h5⟩:=hok.lie
 have h6:=mod_in (k:=k) h1
 have h7:=putAt_length (l:=l) (p:=B+16 * N+4+2 * (k % N)) (k:=2) h (by omega)
 rw [offerD,numAt_same _ (by omega)]
theorem offerD_entry {l:List UInt8} {B N:Nat} (k k2 h:Nat) (hk:k2 % N=k % N) (hh:h < 65536) (hok:RingOk l.length B N):numAt (offerD l B N k h) (B+16 * N+4+2 * (k2 % N)) 2=h:=by
 obtain ⟨h1,h2,h3,h4,h5⟩:=hok.lie
 have h6:=mod_in (k:=k) h1
 have h7:=putAt_length (l:=l) (p:=B+16 * N+4+2 * (k % N)) (k:=2) h (by omega)
 rw [hk,offerD,numAt_other _ (by omega) (by omega),numAt_same _ (by omega)]
 exact mod_small hh
theorem offerD_drop {l:List UInt8} {B N m:Nat} (k h:Nat) (hok:RingOk l.length B N) (hm:B+secN N≤m):(offerD l B N k h).drop m=l.drop m:=by
 obtain ⟨h1,h2,h3,h4,h5⟩:=hok.lie
 have h6:=mod_in (k:=k) h1
 have h7:=putAt_length (l:=l) (p:=B+16 * N+4+2 * (k % N)) (k:=2) h (by omega)
 rw [offerD,putAt_drop _ (by omega) (by omega),putAt_drop _ (by omega) (by omega)]
theorem returnD_length {l:List UInt8} {B N:Nat} (k a n:Nat) (hok:RingOk l.length B N):(returnD l B N k a n).length=l.length:=by
 obtain ⟨h1,h2,h3,h4,h5⟩:=hok.lie
 have h6:=mod_in (k:=k) h1
 have h7:=putAt_length (l:=l) (p:=B+secN N+4+8 * (k % N)) (k:=4) a (by omega)
 have h8:=putAt_length (l:=putAt l (B+secN N+4+8 * (k % N)) 4 a) (p:=B+secN N+4+8 * (k % N)+4) (k:=4) n (by omega)
 rw [returnD,putAt_length _ (by omega),h8,h7]
theorem returnD_other {l:List UInt8} {B N q j:Nat} (k a n:Nat) (hok:RingOk l.length B N) (hd:q+j≤B+secN N+2∨(B+secN N+4≤q∧(q+j≤B+secN N+4+8 * (k % N)∨B+secN N+4+8 * (k % N)+8≤q))):numAt (returnD l B N k a n) q j=numAt l q j:=by
 obtain ⟨h1,h2,h3,h4,h5⟩:=hok.lie
 have h6:=mod_in (k:=k) h1
 have h7:=putAt_length (l:=l) (p:=B+secN N+4+8 * (k % N)) (k:=4) a (by omega)
 have h8:=putAt_length (l:=putAt l (B+secN N+4+8 * (k % N)) 4 a) (p:=B+secN N+4+8 * (k % N)+4) (k:=4) n (by omega)
 rw [returnD,numAt_other _ (by omega) (by omega),numAt_other _ (by omega) (by omega),numAt_other _ (by omega) (by omega)]
theorem returnD_index {l:List UInt8} {B N:Nat} (k a n:Nat) (hok:RingOk l.length B N):numAt (returnD l B N k a n) (B+secN N+2) 2=(k+1) % 65536:=by
 obtain ⟨h1,h2,h3,h4,h5⟩:=hok.lie
 have h6:=mod_in (k:=k) h1
 have h7:=putAt_length (l:=l) (p:=B+secN N+4+8 * (k % N)) (k:=4) a (by omega)
 have h8:=putAt_length (l:=putAt l (B+secN N+4+8 * (k % N)) 4 a) (p:=B+secN N+4+8 * (k % N)+4) (k:=4) n (by omega)
 rw [returnD,numAt_same _ (by omega)]
theorem returnD_entry {l:List UInt8} {B N:Nat} (k k2 a n:Nat) (hk:k2 % N=k % N) (ha:a < 4294967296) (hn:n < 4294967296) (hok:RingOk l.length B N) :
 numAt (returnD l B N k a n) (B+secN N+4+8 * (k2 % N)) 4=a∧numAt (returnD l B N k a n) (B+secN N+4+8 * (k2 % N)+4) 4=n:=by
 obtain ⟨h1,h2,h3,h4,h5⟩:=hok.lie
 have h6:=mod_in (k:=k) h1
 have h7:=putAt_length (l:=l) (p:=B+secN N+4+8 * (k % N)) (k:=4) a (by omega)
 have h8:=putAt_length (l:=putAt l (B+secN N+4+8 * (k % N)) 4 a) (p:=B+secN N+4+8 * (k % N)+4) (k:=4) n (by omega)
 rw [hk,returnD]
 refine ⟨?_,?_⟩
 · rw [numAt_other _ (by omega) (by omega),numAt_other _ (by omega) (by omega),numAt_same _ (by omega)]
   exact mod_small ha
 · rw [numAt_other _ (by omega) (by omega),numAt_same _ (by omega)]
   exact mod_small hn
theorem returnD_drop {l:List UInt8} {B N m:Nat} (k a n:Nat) (hok:RingOk l.length B N) (hm:B+sizeN N≤m):(returnD l B N k a n).drop m=l.drop m:=by
 obtain ⟨h1,h2,h3,h4,h5⟩:=hok.lie
 have h6:=mod_in (k:=k) h1
 have h9:=sizeN_le N
 have h7:=putAt_length (l:=l) (p:=B+secN N+4+8 * (k % N)) (k:=4) a (by omega)
 have h8:=putAt_length (l:=putAt l (B+secN N+4+8 * (k % N)) 4 a) (p:=B+secN N+4+8 * (k % N)+4) (k:=4) n (by omega)
 rw [returnD,putAt_drop _ (by omega) (by omega),putAt_drop _ (by omega) (by omega),putAt_drop _ (by omega) (by omega)]
theorem ringF_ok {l:List UInt8} {B N:Nat} (h:RingOk l.length B N):ringF l.length (B:Int) (N:Int)=0:=by rw [ringF,if_pos h.ok]
theorem descF_ok {l:List UInt8} {B N I:Nat} (h:RingOk l.length B N) (hi:I < N):descF l.length (B:Int) (N:Int) (I:Int)=0:=by rw [descF,if_pos h.ok,if_pos (by omega)]
theorem descX_ok {l:List UInt8} {B N I:Nat} (h:RingOk l.length B N) (hi:I < N) (o k:Nat):descX l (B:Int) (N:Int) (I:Int) o k=numAt l (B+16 * I+o) k:=by rw [descX,if_pos (descF_ok h hi),Int.toNat_natCast,Int.toNat_natCast]
theorem setX_ok {l:List UInt8} {B N I:Nat} (h:RingOk l.length B N) (hi:I < N) (a n f x:Nat):setX l (B:Int) (N:Int) (I:Int) a n f x=setD l (B+16 * I) a n f x:=by rw [setX,if_pos (descF_ok h hi),Int.toNat_natCast,Int.toNat_natCast]
theorem availX_ok {l:List UInt8} {B N:Nat} (h:RingOk l.length B N):availX l (B:Int) (N:Int)=numAt l (B+16 * N+2) 2:=by rw [availX,if_pos (ringF_ok h),Int.toNat_natCast,Int.toNat_natCast]
theorem availAtX_ok {l:List UInt8} {B N:Nat} (h:RingOk l.length B N) (k:Nat):availAtX l (B:Int) (N:Int) k=numAt l (B+16 * N+4+2 * (k % N)) 2:=by rw [availAtX,if_pos (ringF_ok h),Int.toNat_natCast,Int.toNat_natCast]
theorem offerX_ok {l:List UInt8} {B N:Nat} (h:RingOk l.length B N) (k:Nat) (z:Int):offerX l (B:Int) (N:Int) k z=offerD l B N k (z % 65536).toNat:=by rw [offerX,if_pos (ringF_ok h),Int.toNat_natCast,Int.toNat_natCast]
theorem usedX_ok {l:List UInt8} {B N:Nat} (h:RingOk l.length B N):usedX l (B:Int) (N:Int)=numAt l (B+secN N+2) 2:=by rw [usedX,if_pos (ringF_ok h),Int.toNat_natCast,Int.toNat_natCast]
theorem usedAtX_ok {l:List UInt8} {B N:Nat} (h:RingOk l.length B N) (k o:Nat):usedAtX l (B:Int) (N:Int) k o=numAt l (B+secN N+4+8 * (k % N)+o) 4:=by rw [usedAtX,if_pos (ringF_ok h),Int.toNat_natCast,Int.toNat_natCast]
theorem returnX_ok {l:List UInt8} {B N:Nat} (h:RingOk l.length B N) (k a n:Nat):returnX l (B:Int) (N:Int) k a n=returnD l B N k a n:=by rw [returnX,if_pos (ringF_ok h),Int.toNat_natCast,Int.toNat_natCast]
structure QCh where
 head:Int
 ds:List Int
 room:Int
structure QQ where
 base:Int
 size:Int
 free:List Int
 avail:Nat
 last:Nat
 chains:List QCh
def upN (N:Nat):List Int:=(List.range N).map fun (i:Nat)=>(i:Int)
theorem upN_length (N:Nat):(upN N).length=N:=by simp [upN]
theorem upN_sorted (N:Nat):(upN N).Pairwise (·≤·):=by
 unfold upN
 rw [List.pairwise_map]
 exact (List.pairwise_lt_range (n:=N)).imp (fun h=>by omega)
theorem upN_mem {N:Nat} {d:Int} (h:d∈upN N):0≤d∧d < N:=by
 unfold upN at h
 rw [List.mem_map] at h
 obtain ⟨i,hi,rfl⟩:=h
 rw [List.mem_range] at hi
 omega
def flat (L:List QCh):List Int:=L.flatMap (·.ds)
structure GoodQ (q:QQ) (N:Nat):Prop where
 right:RightN N
 size:q.size=N
 base:0≤q.base
 sorted:q.free.Pairwise (·≤·)
 perm:(q.free++flat q.chains).Perm (upN N)
 chain:∀ c∈q.chains,c.ds≠[]∧c.head=c.ds.getD 0 0∧0≤c.room∧c.room≤2147483647
 av:q.avail < 65536
 la:q.last < 65536
def leZ (x y:Int):Bool:=decide (x≤y)
theorem sort_sorted (l:List Int):(l.mergeSort fun x y=>decide (x≤y)).Pairwise (·≤·):=by
 have h:=List.pairwise_mergeSort (le:=fun x y:Int=>decide (x≤y)) (fun a b c h1 h2=>by simp at *; omega) (fun a b=>by simp; omega) l
 exact h.imp (fun h=>by simpa using h)
theorem sort_perm (l:List Int):(l.mergeSort fun x y=>decide (x≤y)).Perm l:=List.mergeSort_perm l _
theorem sort_eq {l m:List Int} (h:l.Perm m) (hm:m.Pairwise (·≤·)):(l.mergeSort fun x y=>decide (x≤y))=m :=
 List.Perm.eq_of_pairwise (le:=(·≤·)) (fun a b _ _ h1 h2=>by omega) (sort_sorted l) hm ((sort_perm l).trans h)
theorem GoodQ.sum {q:QQ} {N:Nat} (h:GoodQ q N):q.free.length+(flat q.chains).length=N:=by
 have:=h.perm.length_eq
 simpa [upN_length] using this
theorem flat_length {L:List QCh} (h:∀ c∈L,c.ds≠[]):L.length≤(flat L).length:=by
 induction L with
 | nil=>simp
 | cons c r ih =>
   have h1:0 < c.ds.length:=List.length_pos_iff.2 (h c (by simp))
   have h2:=ih (fun d hd=>h d (List.mem_cons_of_mem _ hd))
   have h3:flat (c::r)=c.ds++flat r:=rfl
   rw [h3,List.length_append,List.length_cons]
   omega
theorem ds_length {L:List QCh} {c:QCh} (h:c∈L):c.ds.length≤(flat L).length:=by
 induction L with
 | nil=>cases h
 | cons d r ih =>
   have h3:flat (d::r)=d.ds++flat r:=rfl
   rw [h3,List.length_append]
   rcases List.mem_cons.1 h with rfl|h
   · omega
   · have:=ih h
     omega
theorem GoodQ.few {q:QQ} {N:Nat} (h:GoodQ q N):q.free.length≤N∧q.chains.length+q.free.length≤N∧N≤16∧1≤N∧∀ c∈q.chains,c.ds.length≤N:=by
 have h1:=h.sum
 have h2:=flat_length (L:=q.chains) (fun c hc=>(h.chain c hc).1)
 have h3:=h.right.le
 exact ⟨by omega,by omega,h3.2,h3.1,fun c hc=>by have:=ds_length hc; omega⟩
theorem GoodQ.freeIn {q:QQ} {N:Nat} (h:GoodQ q N) {d:Int} (hd:d∈q.free):0≤d∧d < N:=upN_mem (h.perm.subset (List.mem_append_left _ hd))
theorem flat_mem {L:List QCh} {c:QCh} {d:Int} (hc:c∈L) (hd:d∈c.ds):d∈flat L:=by
 unfold flat
 exact List.mem_flatMap.2 ⟨c,hc,hd⟩
theorem GoodQ.headIn {q:QQ} {N:Nat} (h:GoodQ q N) {c:QCh} (hc:c∈q.chains):0≤c.head∧c.head < N:=by
 obtain ⟨h1,h2,_⟩:=h.chain c hc
 have h3:c.head∈c.ds:=by
  rw [h2]
  rcases hd:c.ds with _|⟨d,r⟩
  · exact absurd hd h1
  · simp
 exact upN_mem (h.perm.subset (List.mem_append_right _ (flat_mem hc h3)))
def newQ (b:Int) (N:Nat):QQ:={ base:=b,size:=N,free:=upN N,avail:=0,last:=0,chains:=[] }
abbrev QB:=Int × Int × Bool
def roomOf:List QB→Int
 | []=>0
 | b::r=>(if b.2.2 then b.2.1 else 0)+roomOf r
theorem roomOf_take_succ (l:List QB) (k:Nat) (h:k < l.length):roomOf (l.take (k+1))=roomOf (l.take k)+(if (l.getD k (0,0,false)).2.2 then (l.getD k (0,0,false)).2.1 else 0):=by
 induction l generalizing k with
 | nil=>simp at h
 | cons b r ih =>
   cases k with
   | zero=>simp [roomOf]
   | succ k =>
     have h2:=ih k (by simpa using h)
     simp only [List.take_succ_cons,roomOf,List.getD_cons_succ]
     rw [h2]
     omega
theorem roomOf_range {l:List QB} {m:Int} (h:∀ b∈l,0≤b.2.1∧b.2.1≤m) (hm:0≤m):0≤roomOf l∧roomOf l≤m * l.length:=by
 induction l with
 | nil=>simp [roomOf]
 | cons b r ih =>
   have h1:=ih (fun c hc=>h c (List.mem_cons_of_mem _ hc))
   have h2:=h b (by simp)
   simp only [roomOf,List.length_cons]
   have h3:m * ((r.length+1:Nat):Int)=m * r.length+m:=by rw [Int.natCast_add,Int.mul_add]; simp
   rw [h3]
   split <;> omega
def addC (q:QQ) (bs:List QB):QCh:=⟨q.free.getD 0 0,q.free.take bs.length,roomOf bs⟩
def addQ (q:QQ) (bs:List QB):QQ:={ q with free:=q.free.drop bs.length,avail:=(q.avail+1) % 65536,chains:=q.chains++[addC q bs] }
theorem flat_append (L M:List QCh):flat (L++M)=flat L++flat M:=by simp [flat]
theorem addQ_good {q:QQ} {N:Nat} {bs:List QB} (h:GoodQ q N) (h1:1≤bs.length) (h2:bs.length≤q.free.length) (h3:0≤roomOf bs∧roomOf bs≤2147483647):GoodQ (addQ q bs) N where
 right:=h.right
 size:=h.size
 base:=h.base
 sorted:=List.Pairwise.sublist (List.drop_sublist _ _) h.sorted
 perm:=by
  refine List.Perm.trans ?_ h.perm
  show (q.free.drop bs.length++flat (q.chains++[addC q bs])).Perm (q.free++flat q.chains)
  rw [flat_append,show flat [addC q bs]=q.free.take bs.length by simp [flat,addC]]
  have e1:(q.free++flat q.chains)=q.free.take bs.length++(q.free.drop bs.length++flat q.chains):=by rw [←List.append_assoc,List.take_append_drop]
  rw [e1,←List.append_assoc]
  exact List.perm_append_comm
 chain:=fun c hc=>by
  rcases List.mem_append.1 hc with hc|hc
  · exact h.chain c hc
  · rw [List.mem_singleton] at hc
    subst hc
    have hne:q.free≠[]:=by intro e; rw [e,List.length_nil] at h2; omega
    have hb:bs≠[]:=by intro e; rw [e,List.length_nil] at h1; omega
    refine ⟨by simp [addC,hne,hb],?_,h3⟩
    simp only [addC]
    rcases hq:q.free with _|⟨d,r⟩
    · exact absurd hq hne
    · rcases hk:bs.length with _|k
      · omega
      · simp
 av:=by simp only [addQ]; omega
 la:=h.la
def relF (q:QQ) (i:Nat):List Int:=(q.free++((q.chains[i]?).map (·.ds)).getD []).mergeSort fun x y=>decide (x≤y)
def relQ (q:QQ) (i:Nat):QQ:={ q with free:=relF q i,chains:=q.chains.eraseIdx i }
theorem flat_erase {L:List QCh} {i:Nat} (h:i < L.length):(flat L).Perm (((L[i]?).map (·.ds)).getD []++flat (L.eraseIdx i)):=by
 induction L generalizing i with
 | nil=>simp at h
 | cons c r ih =>
   cases i with
   | zero=>exact List.Perm.refl _
   | succ i =>
     have h1:=ih (i:=i) (by simpa using h)
     have e1:flat (c::r)=c.ds++flat r:=rfl
     have e2:flat ((c::r).eraseIdx (i+1))=c.ds++flat (r.eraseIdx i):=rfl
     rw [e1,e2,List.getElem?_cons_succ]
     refine (List.Perm.append_left c.ds h1).trans ?_
     rw [←List.append_assoc,←List.append_assoc]
     exact List.Perm.append_right _ List.perm_append_comm
theorem relQ_good {q:QQ} {N i:Nat} (h:GoodQ q N) (hi:i < q.chains.length):GoodQ (relQ q i) N where
 right:=h.right
 size:=h.size
 base:=h.base
 sorted:=sort_sorted _
 perm:=by
  refine List.Perm.trans ?_ h.perm
  show (relF q i++flat (q.chains.eraseIdx i)).Perm (q.free++flat q.chains)
  refine (List.Perm.append_right _ (sort_perm _)).trans ?_
  rw [List.append_assoc]
  exact List.Perm.append_left _ (flat_erase hi).symm
 chain:=fun c hc=>h.chain c (List.mem_of_mem_eraseIdx hc)
 av:=h.av
 la:=h.la
theorem GoodQ.seen {q:QQ} {N:Nat} (h:GoodQ q N) {t:Nat} (ht:t < 65536):GoodQ { q with last:=t } N :=
 { right:=h.right,size:=h.size,base:=h.base,sorted:=h.sorted,perm:=h.perm,chain:=h.chain,av:=h.av,la:=ht }
def isUsed (a n:Nat) (c:QCh):Bool:=decide ((a:Int)=c.head∧(n:Int)≤c.room)
open Go.RowKit Go.Lib
theorem Zh {p:Prop} (h:p):Hid p:=h
theorem Zf {b:Bool} {p:Prop} (e:b = !b):p:=by cases b <;> cases e
theorem Zz {b:Bool} (h:b=true→false=true):b=false:=by cases b with|false=>rfl|true=>exact absurd (h rfl) (by decide)
theorem Zo {W:World} {g:Nat} {o:Obj} {a:Addr} {r:Value} (h:W.heap[g]? = some o) (n:a.block≠g):(W.setCell a r).heap[g]? = some o:=by simp [World.setCell,Array.getElem?_modify,n,h]
theorem Zn {X:World} {r g:Nat} {cs ds:Array Value} {s t:TypeId} {fr fs:Nat × Nat} (h:X.heap[g]? = some (.cells cs s fr)) (hr:X.heap[r]? = some (.cells ds t fs)) (hne:(t:Nat)≠s:=by decide):r≠g:=by
 intro he
 subst he
 rw [h] at hr
 injection hr with hr
 injection hr with _ h2
 exact hne h2.symm
theorem Zr {X:World} {g:Nat} {cs:Array Value} {t:TypeId} {fr:Nat × Nat} {i:Nat} {v:Value} (h:X.heap[g]? = some (.cells cs t fr)):(X.setCell ⟨g,i,none⟩ v).heap[g]? = some (.cells (cs.setIfInBounds i v) t fr):=by simp [World.setCell,Array.getElem?_modify,h]
section
variable {X:World} {r g i0 i1 i2 i3 i4 i5:Nat} {v0 v1 v2 v3 v4 v5:Value} {o:Obj}
theorem Zp1 (h:X.heap[g]? = some o) (n:r≠g):(X.setCell ⟨r,i0,none⟩ v0).heap[g]? = some o:=Zo h n
theorem Zp2 (h:X.heap[g]? = some o) (n:r≠g):((X.setCell ⟨r,i0,none⟩ v0).setCell ⟨r,i1,none⟩ v1).heap[g]? = some o:=Zp1 (Zp1 h n) n
theorem Zp3 (h:X.heap[g]? = some o) (n:r≠g):(((X.setCell ⟨r,i0,none⟩ v0).setCell ⟨r,i1,none⟩ v1).setCell ⟨r,i2,none⟩ v2).heap[g]? = some o:=Zp1 (Zp2 h n) n
theorem Zp4 (h:X.heap[g]? = some o) (n:r≠g):((((X.setCell ⟨r,i0,none⟩ v0).setCell ⟨r,i1,none⟩ v1).setCell ⟨r,i2,none⟩ v2).setCell ⟨r,i3,none⟩ v3).heap[g]? = some o:=Zp1 (Zp3 h n) n
theorem Zp5 (h:X.heap[g]? = some o) (n:r≠g):(((((X.setCell ⟨r,i0,none⟩ v0).setCell ⟨r,i1,none⟩ v1).setCell ⟨r,i2,none⟩ v2).setCell ⟨r,i3,none⟩ v3).setCell ⟨r,i4,none⟩ v4).heap[g]? = some o:=Zp1 (Zp4 h n) n
theorem Zp6 (h:X.heap[g]? = some o) (n:r≠g):((((((X.setCell ⟨r,i0,none⟩ v0).setCell ⟨r,i1,none⟩ v1).setCell ⟨r,i2,none⟩ v2).setCell ⟨r,i3,none⟩ v3).setCell ⟨r,i4,none⟩ v4).setCell ⟨r,i5,none⟩ v5).heap[g]? = some o:=Zp1 (Zp5 h n) n
variable {w:World} {B:Nat}
theorem Zu1 (h:Below B w X) (l:B≤r):Below B w (X.setCell ⟨r,i0,none⟩ v0):=h.setCell (p:=⟨r,i0,none⟩) l v0
theorem Zu2 (h:Below B w X) (l:B≤r):Below B w ((X.setCell ⟨r,i0,none⟩ v0).setCell ⟨r,i1,none⟩ v1):=Zu1 (Zu1 h l) l
theorem Zu3 (h:Below B w X) (l:B≤r):Below B w (((X.setCell ⟨r,i0,none⟩ v0).setCell ⟨r,i1,none⟩ v1).setCell ⟨r,i2,none⟩ v2):=Zu1 (Zu2 h l) l
theorem Zu4 (h:Below B w X) (l:B≤r):Below B w ((((X.setCell ⟨r,i0,none⟩ v0).setCell ⟨r,i1,none⟩ v1).setCell ⟨r,i2,none⟩ v2).setCell ⟨r,i3,none⟩ v3):=Zu1 (Zu3 h l) l
theorem Zu5 (h:Below B w X) (l:B≤r):Below B w (((((X.setCell ⟨r,i0,none⟩ v0).setCell ⟨r,i1,none⟩ v1).setCell ⟨r,i2,none⟩ v2).setCell ⟨r,i3,none⟩ v3).setCell ⟨r,i4,none⟩ v4):=Zu1 (Zu4 h l) l
theorem Zu6 (h:Below B w X) (l:B≤r):Below B w ((((((X.setCell ⟨r,i0,none⟩ v0).setCell ⟨r,i1,none⟩ v1).setCell ⟨r,i2,none⟩ v2).setCell ⟨r,i3,none⟩ v3).setCell ⟨r,i4,none⟩ v4).setCell ⟨r,i5,none⟩ v5):=Zu1 (Zu5 h l) l
end
theorem Zk {w x:World} {g:Nat} {o:Obj} (h:Hid (w.heap[g]? = some o)) (b:Below w.heap.size w x):Hid (x.heap[g]? = some o):=(b.block g (Array.getElem?_eq_some_iff.1 h.out).1).trans h.out
theorem Zb {u w x:World} (h:Hid (Below u.heap.size u w)) (b:Below w.heap.size w x):Hid (Below u.heap.size u x):=h.out.trans (b.mono h.out.size)
theorem Zx {X:World} {r g:Nat} {cs ds:Array Value} {s t:TypeId} {fr fs:Nat × Nat} (h:Hid (X.heap[g]? = some (.cells cs s fr))) (hr:Hid (X.heap[r]? = some (.cells ds t fs))) (i:Nat) (v:Value) (hne:(t:Nat)≠s:=by decide):Hid ((X.setCell ⟨r,i,none⟩ v).heap[g]? = some (.cells cs s fr)):=Zo h.out (Zn h.out hr.out hne)
theorem Zv (d:Nat) {b:Op} {c:TypeId} {p:String} {e:Array Edge} {f:Option (Nat × Bool)} {P:Program} {ops:Array Oper} {Q:Exit→Act→World→Prop} {i:Nat} {I:Act→World→Prop} {a:Act} {w:World} (h:∀ K':Act→World→Prop,Shut (∀ a w,I a w→K' a w)→if Region.wanted ⟨some d,b,c,p,e,f⟩ (yielded ops a.tmps)=true then Oper.wp P ⟨some d,b,c,p,e,f⟩ a w K' Q else K' (a.put (some d) undef) w) (Zx:ops[i]? = some ⟨some d,b,c,p,e,f⟩:=by exact rfl):wpOp P ops Q i I a w:=wpOp_step Zx (fun K' hK=>h K' hK)
theorem Zd {a b c d r:Prop} (h:a∧b∧c∧d∧r):r:=h.2.2.2.2
theorem Ze {a b c d e f g i r:Prop} (h:a∧b∧c∧d∧e∧f∧g∧i∧r):r:=Zd (Zd h)
theorem Zg {a b c d e f g i j k l m n o p q r:Prop} (h:a∧b∧c∧d∧e∧f∧g∧i∧j∧k∧l∧m∧n∧o∧p∧q∧r):r:=Ze (Ze h)
theorem info8:(Tryz.prog.info? 5).map (fun i=>(i.zero,i.size,i.bytes))=some (some (.int .u8 0),1,1):=by kernel_rfl
theorem below_drewN {B:Nat} {a w:World} (h:Below B a w) (n:Nat):Below B a (w.drewN n):=h.trans ⟨rfl,rfl,rfl,Nat.le_refl _,fun _ _=>rfl⟩
theorem conv_bytes {v:Value} {l:List UInt8} {w:World} (hv:IsBytes w v l):(convert 22 9 v).run Tryz.prog w=.ok (.string ⟨l.toArray⟩) w:=by
 rcases hv with ⟨a0,c0,rfl,rfl⟩|⟨b,off,cap,rfl,hc1,hc2,hb,hcell⟩
 · cases a0 with
   | none=>exact run_convert_bytes_nil w _ _ Tryz.underlying22 Tryz.underlying5 0 c0 _ Tryz.underlying9
   | some a=>exact run_convert_bytes_back w _ _ _ a c0 [] Tryz.underlying22 Tryz.underlying5 Tryz.underlying9 (fun j hj=>by simp at hj)
 · refine run_convert_bytes_back w _ _ _ ⟨b,off,none⟩ cap l Tryz.underlying22 Tryz.underlying5 Tryz.underlying9 (fun j hj=>?_)
   rw [Addr.add_lit,hcell j hj]
   simp [hj]
theorem elemBytes:Tryz.prog.underlying 22=some (.slice (Tryz.prog.elem 22)):=by kernel_rfl
theorem sizeByte (W:World):(sizeOf (Tryz.prog.elem 22)).run Tryz.prog W=.ok 1 W:=by kernel_rfl
theorem slice_to (a:Option Addr) (n c h:Nat) (hh:h≤c) (W:World) :
 (Instr.slice 22 (.slice a n c) none (some (.int .i64 h)) none).run Tryz.prog W=.ok (.slice a h c) W:=by
 rw [run_slice_h (P:=Tryz.prog) W 22 a n c elemBytes .i64 h (by omega) (by omega),sizeByte]
 simp only [Result.andThen,sliced,Int.toNat_natCast,Nat.sub_zero,Nat.zero_mul]
 congr 2
 split
 · rfl
 · cases a with
   | none=>rfl
   | some a=>simp only [Option.map_some]; congr 1
theorem IsBytes.shape {w:World} {v:Value} {l:List UInt8} (h:IsBytes w v l):∃ a c,v=.slice a l.length c:=by
 rcases h with ⟨a,c,rfl,rfl⟩|⟨b,off,cap,rfl,_⟩
 · exact ⟨a,c,rfl⟩
 · exact ⟨_,_,rfl⟩
def IsArg (w:World) (v:Value) (l:List UInt8):Prop :=
 IsBytes w v l∧((v=.slice none 0 0∧l=[])∨∃ ad c,v=.slice (some ad) l.length c∧∀ j u,(byteCells l)[j]? = some u→w.cell? (ad.add j)=some u)
theorem isArg_nil (w:World):IsArg w (.slice none 0 0) []:=⟨.inl ⟨none,0,rfl,rfl⟩,.inl ⟨rfl,rfl⟩⟩
theorem isArg_of_ints {w:World} {x:Addr} {len cap:Nat} {zs:List Int} (hl:len≤cap) (hm:cap≤maxLen) (hz:zs.length=cap)
 (hc:∀ i,i < zs.length→w.cell? (x.add i)=some (.int .u8 (zs.getD i 0))) (hw:∀ n∈zs,(Lit.int .u8 n).wf=true) :
 IsArg w (.slice (some x) len cap) ((zs.take len).map fun z=>UInt8.ofNat z.toNat):=by
 have hlen:((zs.take len).map fun z=>UInt8.ofNat z.toNat).length=len:=by simp; omega
 refine ⟨isBytes_of_ints hl hm hz hc hw,.inr ⟨x,cap,by rw [hlen],fun j u hu=>?_⟩⟩
 have hj:j < len:=by
  have:=(List.getElem?_eq_some_iff.1 hu).1
  rw [byteCells_length,hlen] at this
  exact this
 rw [hc j (by omega),←hu]
 have hz2:j < zs.length:=by omega
 have hb:=bounds_u8 (hw zs[j] (List.getElem_mem hz2))
 simp only [byteCells,List.getD_eq_getElem?_getD,List.getElem?_map,List.getElem?_take,if_pos hj,List.getElem?_eq_getElem hz2,Option.map_some,Option.getD_some]
 congr 2
 rw [UInt8.toNat_ofNat']
 omega
theorem wpList_append_isArg {P:Program} (w:World) {ops:Array Oper} {rest:List Oper} {o:Oper} {a:Act} {Q:Exit→Act→World→Prop} (hgd:o.guard=none) (s x:Operand) (t:TypeId)
 (ho:o.op=.call { callee:=.builtin .append,args:=#[s,x],argTypes:=#[t,t] })
 (base:Nat) (e:TypeId) (i:TypeInfo) (z:Value) (ht:P.underlying t=some (.slice e)) (hi:P.info? e=some i) (hz:i.zero=some z)
 (hsize:i.size=1) (hby:i.bytes=1) (hzs:z.cells.size=1)
 (v:Value) (n:Nat) (xs:List Value) (hs:a.eval s=v) (hown:w.ownsRow base e 1 v n xs)
 (V:Value) (l:List UInt8) (hx:a.eval x=V) (hV:(V=.slice none 0 0∧l=[])∨∃ ad c,V=.slice (some ad) l.length c∧∀ j u,(byteCells l)[j]? = some u→w.cell? (ad.add j)=some u)
 (h63:n+l.length≤140737488355328) (hbase:base≤w.heap.size)
 (h:∀ v' w',w'.ownsRow base e 1 v' (n+l.length) (xs++byteCells l)→w.grownBy w' v.ownBlock→wpList P ops Q rest (a.put o.dst v') w'):wpList P ops Q (o::rest) a w:=by
 rcases hV with ⟨rfl,rfl⟩|⟨ad,c,rfl,hnews⟩
 · refine wpList_append_own_none hgd s x t ho base e i 1 ht hi v n xs hs hown hx ?_
   exact h v w (by simpa [byteCells] using hown) (World.grownBy.refl w _)
 · exact wpList_append_own w hgd s x t ho base e i z 1 1 ht hi hz hsize hby hzs (by decide) v n xs hs hown ad l.length c (byteCells l) hx (by simp [byteCells]) hnews (byteCells_one l)
    (by unfold maxLen; omega) (by omega) hbase (fun v' w' h1 h2 _=>h v' w' h1 h2)
theorem ownsRow_below {w w':World} {base:Nat} {t:TypeId} {size:Nat} {v:Value} {n:Nat} {xs:List Value} (h:w.ownsRow base t size v n xs) (hb:Below w.heap.size w w'):w'.ownsRow base t size v n xs:=by
 refine ⟨h.1,?_⟩
 rcases h.2 with h2|⟨g,cap,cur,hv,hg,hh,r⟩
 · exact .inl h2
 · exact .inr ⟨g,cap,cur,hv,hg,by rw [hb.block g (Array.getElem?_eq_some_iff.1 hh).1]; exact hh,r⟩
theorem IsArg.below {w w':World} {v:Value} {l:List UInt8} (h:IsArg w v l) (hb:Below w.heap.size w w'):IsArg w' v l :=
 ⟨h.1.below hb,by
  rcases h.2 with h|⟨ad,c,h1,h2⟩
  · exact .inl h
  · exact .inr ⟨ad,c,h1,fun i u hu=>by
     have h3:=h2 i u hu
     rw [hb.cell (World.block_lt_of_cell? w _ h3)]; exact h3⟩⟩
theorem isArg_of_owns {w:World} {base:Nat} {t:TypeId} {v:Value} {l:List UInt8} (h:w.ownsRow base t 1 v l.length (byteCells l)):IsArg w v l:=by
 refine ⟨isBytes_of_owns h,?_⟩
 rcases h.2 with ⟨rfl,h0⟩|⟨g,cap,cur,rfl,_⟩
 · exact .inl ⟨rfl,List.length_eq_zero_iff.1 h0⟩
 · exact .inr ⟨⟨g,0,none⟩,cap,rfl,fun j u hu=>World.ownsRow.cells h rfl j u hu⟩
theorem IsBytes.front {w:World} {a:Option Addr} {l:List UInt8} {N c:Nat} (h:IsBytes w (.slice a N c) l) (n:Nat) (hn:n≤l.length):IsBytes w (.slice a n c) (l.take n):=by
 rcases h with ⟨a0,c0,h1,h2⟩|⟨b,off,cap,h1,h2,h3,h4,h5⟩
 · subst h2
   have:n=0:=by simpa using hn
   subst this
   exact .inl ⟨_,_,rfl,by simp⟩
 · cases h1
   have hl:(l.take n).length=n:=by simp; omega
   refine .inr ⟨b,off,c,by rw [hl],by omega,h3,h4,fun i hi=>?_⟩
   rw [hl] at hi
   rw [h5 i (by omega)]
   simp [hi]
theorem IsArg.ahead {w:World} {a:Option Addr} {l:List UInt8} {N c:Nat} (h:IsArg w (.slice a N c) l) (n:Nat) (hn:n≤l.length):IsArg w (.slice a n c) (l.take n):=by
 refine ⟨h.1.front n hn,?_⟩
 rcases h.2 with ⟨h1,h2⟩|⟨ad,c0,h1,h2⟩
 · subst h2
   have:n=0:=by simpa using hn
   subst this
   cases h1
   exact .inl ⟨rfl,by simp⟩
 · cases h1
   have hl:(l.take n).length=n:=by simp; omega
   refine .inr ⟨ad,c,by rw [hl],fun j u hu=>?_⟩
   have hj:j < (l.take n).length:=by have:=(List.getElem?_eq_some_iff.1 hu).1; rwa [byteCells_length] at this
   refine h2 j u ?_
   rw [←hu]
   rw [hl] at hj
   simp [byteCells,hj]
theorem IsBytes.cap {w:World} {a:Option Addr} {l:List UInt8} {N c:Nat} (h:IsBytes w (.slice a N c) l) (h0:l≠[]):l.length≤c∧c≤maxLen:=by
 rcases h with ⟨_,_,_,h2⟩|⟨b,off,cap,h1,h2,h3,_⟩
 · exact absurd h2 h0
 · cases h1; exact ⟨h2,h3⟩
def Clamped (z:Int) (k:Nat):Prop:=(z < 0∧k=0)∨(0≤z∧z≤8∧z=(k:Int))∨(8 < z∧k=8)
theorem clamped_of (k:Nat) (h:k≤8):Clamped (k:Int) k:=.inr (.inl ⟨by omega,by omega,rfl⟩)
theorem clamped_max {z:Int} {k:Nat} (hz:Clamped z k):k≤maxLen:=by
 have:k≤8:=by rcases hz with h|h|h <;> omega
 unfold maxLen; omega
theorem owns_empty {w:World} {g cap:Nat} {cur:Array Value} {t:TypeId} {size:Nat} (hg:w.heap[g]? = some (.cells cur t (0,0))) (hc:cap≤maxLen) (hs:cur.size=cap * size) (base:Nat) (hb:base≤g) :
 w.ownsRow base t size (.slice (some ⟨g,0,none⟩) 0 cap) 0 [] :=
 ⟨by simp,.inr ⟨g,cap,cur,rfl,hb,hg,Nat.zero_le _,hc,hs,by simp⟩⟩
theorem owns_keep {w w':World} {B:Nat} {e:TypeId} {s:Nat} {v:Value} {n:Nat} {xs:List Value} (h:w.ownsRow B e s v n xs)
 (hk:∀ (k:Nat) (cur:Array Value),v.ownBlock=some k→w.heap[k]? = some (.cells cur e (0,0))→w'.heap[k]? = some (.cells cur e (0,0))):w'.ownsRow B e s v n xs:=by
 refine ⟨h.1,?_⟩
 rcases h.2 with hn|⟨g,cap,cur,rfl,hb,hg,rest⟩
 · exact .inl hn
 · exact .inr ⟨g,cap,cur,rfl,hb,hk g cur rfl hg,rest⟩
theorem owns_shape {w:World} {B:Nat} {e:TypeId} {s:Nat} {v:Value} {n:Nat} {xs:List Value} (h:w.ownsRow B e s v n xs) (hn:0 < n):∃ g cap cur,v=.slice (some ⟨g,0,none⟩) n cap∧B≤g∧w.heap[g]? = some (.cells cur e (0,0))∧n≤cap∧cap≤maxLen:=by
 rcases h.2 with ⟨_,h0⟩|⟨g,cap,cur,hv,hb,hh,h1,h2,_⟩
 · omega
 · exact ⟨g,cap,cur,hv,hb,hh,h1,h2⟩
set_option maxHeartbeats 400000 in
theorem between_any (a b c:Int) (r:Bool) (hr:r=decide (a≤b∧b≤c)) (w:World) :
 Calls Tryz.prog 96 #[.int .i64 a,.int .i64 b,.int .i64 c] w fun e w'=>e=.returned (.bool r)∧w'=w:=by
 by_cases h1:a≤b
 · by_cases h2:b≤c
   · obtain rfl:r=true:=by rw [hr]; exact decide_eq_true ⟨h1,h2⟩
     clear hr
     go_enter Tryz.func96,Tryz.ntmps96
     go_wp2
     go_ret
     exact ⟨rfl,rfl⟩
   · obtain rfl:r=false:=by rw [hr]; exact decide_eq_false (fun h=>h2 h.2)
     clear hr
     go_enter Tryz.func96,Tryz.ntmps96
     go_wp2
     go_ret
     exact ⟨rfl,rfl⟩
 · obtain rfl:r=false:=by rw [hr]; exact decide_eq_false (fun h=>h1 h.1)
   clear hr
   go_enter Tryz.func96,Tryz.ntmps96
   go_wp2
   go_ret
   exact ⟨rfl,rfl⟩
set_option maxHeartbeats 400000 in
theorem check_any (a:Option Addr) (n c:Nat) (hn:n≤maxLen) (r:Bool) (hr:r=decide (n≤8192)) (w:World) :
 Calls Tryz.prog 71 #[.agg #[.slice a n c]] w fun e w'=>e=.returned (.bool r)∧Below w.heap.size w w':=by
 unfold maxLen at hn
 have hb:r=decide ((0:Int)≤n∧(n:Int)≤8192):=by
  rw [hr]
  by_cases h:n≤8192
  · rw [decide_eq_true h,decide_eq_true]; omega
  · rw [decide_eq_false h,decide_eq_false]; omega
 have HB:=Zh hb
 clear hb hr
 go_enter Tryz.func71,Tryz.ntmps71
 go_wp2_with (go_at_call 96; refine (between_any _ _ _ r HB.out _).mono ?_; rintro e w' ⟨rfl,rfl⟩)
 go_ret
 exact ⟨rfl,(Below.refl _ _).alloc (Nat.le_refl _) _⟩
theorem box_cell {w w':World} {v:Value} {t:TypeId} {fr:Nat × Nat} (h:Below (w.alloc (.cells #[v] t fr)).heap.size (w.alloc (.cells #[v] t fr)) w'):w'.cell? ⟨w.heap.size,0,none⟩=some v:=by
 rw [h.cell (by simp)]
 have h1:=heap_alloc_new w (.cells #[v] t fr)
 unfold World.cell?
 rw [h1]
 rfl
set_option maxHeartbeats 1000000 in
theorem fault_any (a:Option Addr) (n c:Nat) (hn:n≤maxLen) (x y:Int) (w:World) :
 Calls Tryz.prog 73 #[.agg #[.slice a n c],.int .i64 x,.int .i64 y] w fun e w'=>e=.returned (.int .i64 (faultOf n x y))∧Below w.heap.size w w':=by
 have hn1:=hn
 unfold maxLen at hn1
 have HN:=Zh hn
 clear hn
 rcases fault_cases n x y with ⟨hf,h1⟩|⟨hf,h1,h2⟩|⟨hf,h1,h2,h3,h4,h5⟩
 · rw [hf]
   have HC:=Zh (show false=decide (n≤8192) from (decide_eq_false (by omega)).symm)
   clear hf
   go_enter Tryz.func73,Tryz.ntmps73
   go_wp2_with (go_at_call 71; refine (check_any _ _ _ HN.out _ HC.out _).mono ?_; rintro e w1 ⟨rfl,hb⟩)
   go_ret
   exact ⟨rfl,((Below.refl _ _).alloc (Nat.le_refl _) _).trans (hb.mono (by simp))⟩
 · rw [hf]
   have HC:=Zh (show true=decide (n≤8192) from (decide_eq_true h1).symm)
   clear hf
   by_cases h3:0≤x∧x≤n
   · have HB:=Zh (show true=decide (0≤x∧x≤(n:Int)) from (decide_eq_true h3).symm)
     have HB2:=Zh (show false=decide (0≤y∧y≤(n:Int) - x) from (decide_eq_false (by omega)).symm)
     obtain ⟨h4,h5⟩:=h3
     clear h2
     go_enter Tryz.func73,Tryz.ntmps73
     go_wp2_with fail
     refine (check_any _ _ _ HN.out _ HC.out _).mono ?_
     rintro e w1 ⟨rfl,hb⟩
     have hcl:=box_cell hb
     go_wp2_with fail
     refine (between_any _ _ _ _ HB.out _).mono ?_
     rintro e w2 ⟨rfl,rfl⟩
     go_wp2_with fail
     refine (between_any _ _ _ _ HB2.out _).mono ?_
     rintro e w3 ⟨rfl,rfl⟩
     go_wp2
     go_ret
     exact ⟨rfl,((Below.refl _ _).alloc (Nat.le_refl _) _).trans (hb.mono (by simp))⟩
   · have HB:=Zh (show false=decide (0≤x∧x≤(n:Int)) from (decide_eq_false h3).symm)
     clear h2 h3
     go_enter Tryz.func73,Tryz.ntmps73
     go_wp2_with fail
     refine (check_any _ _ _ HN.out _ HC.out _).mono ?_
     rintro e w1 ⟨rfl,hb⟩
     have hcl:=box_cell hb
     go_wp2_with fail
     refine (between_any _ _ _ _ HB.out _).mono ?_
     rintro e w2 ⟨rfl,rfl⟩
     go_wp2
     go_ret
     exact ⟨rfl,((Below.refl _ _).alloc (Nat.le_refl _) _).trans (hb.mono (by simp))⟩
 · rw [hf]
   have HC:=Zh (show true=decide (n≤8192) from (decide_eq_true h1).symm)
   have HB:=Zh (show true=decide (0≤x∧x≤(n:Int)) from (decide_eq_true ⟨h2,h3⟩).symm)
   have HB2:=Zh (show true=decide (0≤y∧y≤(n:Int) - x) from (decide_eq_true ⟨h4,h5⟩).symm)
   clear hf
   go_enter Tryz.func73,Tryz.ntmps73
   go_wp2_with fail
   refine (check_any _ _ _ HN.out _ HC.out _).mono ?_
   rintro e w1 ⟨rfl,hb⟩
   have hcl:=box_cell hb
   go_wp2_with fail
   refine (between_any _ _ _ _ HB.out _).mono ?_
   rintro e w2 ⟨rfl,rfl⟩
   go_wp2_with fail
   refine (between_any _ _ _ _ HB2.out _).mono ?_
   rintro e w3 ⟨rfl,rfl⟩
   go_wp2
   go_ret
   exact ⟨rfl,((Below.refl _ _).alloc (Nat.le_refl _) _).trans (hb.mono (by simp))⟩
set_option maxHeartbeats 1000000 in
theorem sizeFault_any (a:Option Addr) (n c:Nat) (hn:n≤maxLen) (y:Int) (w:World) :
 Calls Tryz.prog 56 #[.agg #[.slice a n c],.int .i64 y] w fun e w'=>e=.returned (.int .i64 (sizeFaultOf n y))∧Below w.heap.size w w':=by
 have HN:=Zh hn
 clear hn
 rcases size_cases n y with ⟨hf,h1⟩|⟨hf,h1,h2⟩|⟨hf,h1,h2⟩
 · rw [hf]
   have HC:=Zh (show false=decide (n≤8192) from (decide_eq_false (by omega)).symm)
   clear hf
   go_enter Tryz.func56,Tryz.ntmps56
   go_wp2_with (go_at_call 71; refine (check_any _ _ _ HN.out _ HC.out _).mono ?_; rintro e w1 ⟨rfl,hb⟩)
   go_ret
   exact ⟨rfl,((Below.refl _ _).alloc (Nat.le_refl _) _).trans (hb.mono (by simp))⟩
 · rw [hf]
   have HC:=Zh (show true=decide (n≤8192) from (decide_eq_true h1).symm)
   have HB:=Zh (show false=decide (1≤y∧y≤8) from (decide_eq_false h2).symm)
   clear hf h2
   go_enter Tryz.func56,Tryz.ntmps56
   go_wp2_with fail
   refine (check_any _ _ _ HN.out _ HC.out _).mono ?_
   rintro e w1 ⟨rfl,hb⟩
   go_wp2_with fail
   refine (between_any _ _ _ _ HB.out _).mono ?_
   rintro e w2 ⟨rfl,rfl⟩
   go_wp2
   go_ret
   exact ⟨rfl,((Below.refl _ _).alloc (Nat.le_refl _) _).trans (hb.mono (by simp))⟩
 · rw [hf]
   have HC:=Zh (show true=decide (n≤8192) from (decide_eq_true h1).symm)
   have HB:=Zh (show true=decide (1≤y∧y≤8) from (decide_eq_true h2).symm)
   clear hf h2
   go_enter Tryz.func56,Tryz.ntmps56
   go_wp2_with fail
   refine (check_any _ _ _ HN.out _ HC.out _).mono ?_
   rintro e w1 ⟨rfl,hb⟩
   go_wp2_with fail
   refine (between_any _ _ _ _ HB.out _).mono ?_
   rintro e w2 ⟨rfl,rfl⟩
   go_wp2
   go_ret
   exact ⟨rfl,((Below.refl _ _).alloc (Nat.le_refl _) _).trans (hb.mono (by simp))⟩
theorem ownsRow_empty {w:World} {g cap:Nat} {cur:Array Value} {t:TypeId} (hg:w.heap[g]? = some (.cells cur t (0,0))) (hc:cap≤maxLen) (hs:cur.size=cap * 1) (base:Nat) (hb:base≤g) :
 w.ownsRow base t 1 (.slice (some ⟨g,0,none⟩) 0 cap) 0 [] :=
 ⟨rfl,.inr ⟨g,cap,cur,rfl,hb,hg,Nat.zero_le _,hc,hs,rfl⟩⟩
set_option maxHeartbeats 1000000 in
set_option maxRecDepth 100000 in
theorem grow_nil (n:Nat) (hn:n≤140737488355328) (w:World) :
 Calls Tryz.prog 118 #[.slice none 0 0,.int .i64 n] w fun e w'=>∃ v,e=.returned v∧w'.ownsRow w.heap.size 5 1 v 0 []∧Below w.heap.size w w':=by
 by_cases h0:n=0
 · subst h0
   go_enter Tryz.func118,Tryz.ntmps118
   go_wp2
   go_ret
   exact ⟨_,rfl,World.ownsRow_nil w w.heap.size 5 1,Below.refl _ _⟩
 · have hpos:0 < n:=by omega
   obtain ⟨i0,hi,hz0,hz1,hz2⟩:=info_parts info8
   have hr:=fun (W:World)=>run_append_nil_zeros (P:=Tryz.prog) W 22 3 22 5 i0 (.int .u8 0) .i64 .i64 Tryz.underlying22 Tryz.underlying3 hi hz0 n hpos (by omega) (by omega) (by rw [hz2]; omega)
   have HR:=Zh hr
   have hn2:((n:Int) - 0 > 0):=by omega
   clear h0 hr
   have hs1:=slice_to none 0 0 0 (Nat.le_refl _)
   go_enter Tryz.func118,Tryz.ntmps118
   go_wp2_with (at_builtin; refine Lib.wpList_append_run _ rfl _ _ _ _ rfl _ _ rfl rfl _ _ (HR.out _) ?_)
   have hs2:=slice_to (some ⟨w.heap.size,0,none⟩) n (grownCap w n 0 5) 0 (Nat.zero_le _)
   go_wp2
   go_ret
   refine ⟨_,rfl,ownsRow_empty (heap_alloc_new w.drew _) (grownCap_le_maxLen _ _ _ _ (by unfold maxLen; omega)) ?_ _ (Nat.le_refl _),((Below.refl _ _).drew).alloc (Nat.le_refl _) _⟩
   have hg:=grownCap_ge w n 0 5
   simp [size_zeroCells]
   omega
def joined (ps:List (Value × List UInt8)) (k:Nat):List UInt8:=((ps.take k).map Prod.snd).flatten
theorem joined_succ (ps:List (Value × List UInt8)) (k:Nat) (h:k < ps.length):joined ps (k+1)=joined ps k++ps[k].2:=by
 unfold joined
 rw [List.take_succ_eq_append_getElem h,List.map_append,List.flatten_append]
 simp only [List.map_cons,List.map_nil,List.flatten_cons,List.flatten_nil,List.append_nil]
theorem joined_le (ps:List (Value × List UInt8)) (k:Nat):(joined ps k).length≤(joined ps ps.length).length:=by
 unfold joined
 rw [List.take_length]
 have h:((ps.take k++ps.drop k).map Prod.snd).flatten=((ps.take k).map Prod.snd).flatten++((ps.drop k).map Prod.snd).flatten:=by rw [List.map_append,List.flatten_append]
 rw [List.take_append_drop] at h
 rw [h,List.length_append]
 omega
theorem joined_zero (ps:List (Value × List UInt8)):joined ps 0=[]:=by simp [joined]
set_option maxHeartbeats 2000000 in
set_option maxRecDepth 100000 in
theorem concat_any (g n:Nat) (ps:List (Value × List UInt8)) (hn:ps.length=n) (hnm:n≤1000000) (w:World)
 (hcells:∀ j,(h:j < ps.length)→w.cell? ⟨g,j,none⟩=some ps[j].1∧IsArg w ps[j].1 ps[j].2) (hlen:(joined ps ps.length).length≤140737488355328) :
 Calls Tryz.prog 75 #[.slice (some ⟨g,0,none⟩) n n] w fun e w'=>∃ v,e=.returned v∧w'.ownsRow w.heap.size 5 1 v (joined ps ps.length).length (byteCells (joined ps ps.length))∧Below w.heap.size w w':=by
 obtain ⟨i0,hi,hz0,hz1,hz2⟩:=info_parts info8
 obtain ⟨S,hS⟩:∃ S,S=joined ps ps.length:=⟨_,rfl⟩
 rw [←hS] at hlen
 rw [←hS]
 have hle:∀ k,(joined ps k).length≤S.length:=fun k=>by rw [hS]; exact joined_le ps k
 have HLE:=Zh hle
 have HC:=Zh hcells
 have HN:=Zh hn
 have HS:=Zh hS
 clear hcells hle hn hS
 go_enter Tryz.func75,Tryz.ntmps75
 go_wp2
 go_loop [3,11] (fun x c=>∃ k:Nat,k≤n∧c=.int .i64 k∧x=.int .i64 ((joined ps k).length:Nat)) (fun _ c=>n - (intOf c).toNat)
 case atStart=>exact ⟨0,Nat.zero_le _,rfl,rfl⟩
 case round =>
  obtain ⟨k,hk,rfl,rfl⟩:=hrel
  have hjl:=HLE.out k
  obtain ⟨m,hm⟩:∃ m,m=(joined ps k).length:=⟨_,rfl⟩
  rw [←hm] at hjl
  rw [←hm]
  by_cases hlt:k < n
  · have hkp:k < ps.length:=by rw [HN.out]; exact hlt
    obtain ⟨hcl,harg⟩:=HC.out k hkp
    obtain ⟨a,c,hsh⟩:=harg.1.shape
    rw [hsh] at hcl
    have hjs:=joined_succ ps k hkp
    obtain ⟨q,hq⟩:∃ q,q=ps[k].2.length:=⟨_,rfl⟩
    rw [←hq] at hcl
    have hj2:=HLE.out (k+1)
    have hj3:(joined ps (k+1)).length=m+q:=by rw [hjs,List.length_append,←hm,←hq]
    rw [hj3] at hj2
    have HJ:=Zh hj3
    clear hm hjs hq hsh harg hj3
    go_wp2
    go_round
    case rel=>exact ⟨k+1,by omega,by go_num,by rw [HJ.out]; go_num⟩
    case measure=>simp [intOf]; omega
  · obtain rfl:k=n:=by omega
    have hmS:m=S.length:=by rw [hm,←HN.out,HS.out]
    clear hm
    subst hmS
    go_wp2_with fail
    refine (grow_nil S.length hlen _).mono ?_
    rintro e w1 ⟨v0,rfl,hown0,hb0⟩
    have hsz1:=hb0.size
    go_wp2
    go_loopw [6,27] (fun x c wr=>∃ j:Nat,j≤k∧c=.int .i64 j∧wr.ownsRow w.heap.size 5 1 x (joined ps j).length (byteCells (joined ps j))∧Below w.heap.size w wr) (fun _ c _=>k - (intOf c).toNat)
    case atStart=>exact ⟨0,Nat.zero_le _,rfl,by rw [joined_zero]; exact hown0,hb0⟩
    case round =>
     obtain ⟨j,hj,rfl,hown,hbw⟩:=hrel
     have hsz:=hbw.size
     by_cases hlt2:j < k
     · have hjp:j < ps.length:=by rw [HN.out]; exact hlt2
       obtain ⟨hcl0,harg⟩:=HC.out j hjp
       have hcl:wr.cell? ⟨g,j,none⟩=some ps[j].1:=by
        rw [hbw.cell (World.block_lt_of_cell? w _ hcl0)]; exact hcl0
       obtain ⟨vj,hvj⟩:∃ vj,vj=ps[j].1:=⟨_,rfl⟩
       obtain ⟨lj,hlj⟩:∃ lj,lj=ps[j].2:=⟨_,rfl⟩
       rw [←hvj] at hcl harg
       rw [←hlj] at harg
       have hjs:=joined_succ ps j hjp
       rw [←hlj] at hjs
       have hj2:=HLE.out (j+1)
       rw [hjs,List.length_append] at hj2
       have hV:(vj=.slice none 0 0∧lj=[])∨∃ ad c,vj=.slice (some ad) lj.length c∧∀ i u,(byteCells lj)[i]? = some u→wr.cell? (ad.add i)=some u:=by
        rcases harg.2 with h|⟨ad,c,h1,h2⟩
        · exact .inl h
        · exact .inr ⟨ad,c,h1,fun i u hu=>by
           have h3:=h2 i u hu
           rw [hbw.cell (World.block_lt_of_cell? w _ h3)]; exact h3⟩
       have HV:=Zh hV
       have HJ:=Zh hjs
       clear hjs hV hvj hlj harg hcl0
       go_wp2_with (at_builtin; refine wpList_append_isArg _ rfl _ _ 22 rfl w.heap.size 5 i0 (.int .u8 0) Tryz.underlying22 hi hz0 hz1 hz2 rfl _ _ _ rfl hown _ lj rfl ?c1 ?c2 ?c3 ?_)
       case c1=>exact HV.out
       case c2=>omega
       case c3=>exact hsz
       intro v' w2 hown2 hgrow2
       go_wp2
       go_roundw
       case rel =>
        refine ⟨j+1,by omega,by go_num,?_,hbw.grown hgrow2 hsz (fun i hi=>(hown.lt i hi).1)⟩
        rw [HJ.out,List.length_append,byteCells_append]
        exact hown2
       case measure=>simp [intOf]; omega
     · obtain rfl:j=k:=by omega
       have hjS:joined ps j=S:=by rw [HS.out,HN.out]
       rw [hjS] at hown
       clear hjS
       go_wp2
       go_ret
       exact ⟨_,rfl,hown,hbw⟩
theorem concat_three {w:World} {g:Nat} {u v x:Value} {k m q:List UInt8} (c0:w.cell? ⟨g,0,none⟩=some u) (c1:w.cell? ⟨g,1,none⟩=some v) (c2:w.cell? ⟨g,2,none⟩=some x) (hu:IsArg w u k) (hv:IsArg w v m) (hx:IsArg w x q) (hlen:(k++m++q).length≤140737488355328) :
 Calls Tryz.prog 75 #[.slice (some ⟨g,0,none⟩) 3 3] w fun e w'=>∃ r,e=.returned r∧w'.ownsRow w.heap.size 5 1 r (k++m++q).length (byteCells (k++m++q))∧Below w.heap.size w w':=by
 have hj:joined [(u,k),(v,m),(x,q)] 3=k++m++q:=by simp [joined]
 have h:=concat_any g 3 [(u,k),(v,m),(x,q)] rfl (by decide) w (fun j hj=>by
  match j,hj with
  | 0,_=>exact ⟨c0,hu⟩
  | 1,_=>exact ⟨c1,hv⟩
  | 2,_=>exact ⟨c2,hx⟩) (by rw [show [(u,k),(v,m),(x,q)].length=3 from rfl,hj]; exact hlen)
 rw [show [(u,k),(v,m),(x,q)].length=3 from rfl,hj] at h
 exact h
theorem IsArg.part {w:World} {a:Option Addr} {l:List UInt8} {N c:Nat} (h:IsArg w (.slice a N c) l) (lo hi m:Nat) (h1:lo≤hi) (h2:hi≤l.length) (h3:hi≤m) (h4:m≤c) :
 IsArg w (sliced a lo hi m 1) ((l.drop lo).take (hi - lo)):=by
 have hlen:((l.drop lo).take (hi - lo)).length=hi - lo:=by simp; omega
 rcases h.2 with ⟨hv,rfl⟩|⟨ad,c0,hv,hcell⟩
 · cases hv
   obtain rfl:m=0:=by omega
   obtain rfl:hi=0:=by omega
   obtain rfl:lo=0:=by omega
   exact isArg_nil w
 · cases hv
   have hd:∀ j,j < hi - lo→((l.drop lo).take (hi - lo)).getD j 0=l.getD (lo+j) 0:=fun j hj=>by
    simp [List.getD_eq_getElem?_getD,hj]
   unfold sliced
   rw [Nat.mul_one]
   have hadr:(if m=lo then some ad else (some ad:Option Addr).map (·.add lo))=some (if m=lo then ad else ad.add lo):=by split <;> rfl
   rw [hadr]
   have hat:∀ j,j < hi - lo→w.cell? ((if m=lo then ad else ad.add lo).add j)=some (.int .u8 (((l.drop lo).take (hi - lo)).getD j 0).toNat):=fun j hj=>by
    have hm:¬ m=lo:=by omega
    rw [if_neg hm,Addr.add_add,hd j hj]
    refine hcell (lo+j) _ ?_
    simp [byteCells,List.getD_eq_getElem?_getD,List.getElem?_eq_getElem (show lo+j < l.length by omega)]
   refine ⟨?_,.inr ⟨_,m - lo,by rw [hlen],fun j u hu=>?_⟩⟩
   · by_cases h0:hi - lo=0
     · refine .inl ⟨_,_,by rw [h0],?_⟩
       rw [h0]; simp
     · have hne:l≠[]:=by intro h; subst h; simp at h2; omega
       rcases h.1 with ⟨_,_,_,h5⟩|⟨b,off,cap,h5,h6,h7,h8,h9⟩
       · exact absurd h5 hne
       · injection h5 with h5 _ h10
         injection h5 with h5
         subst h5
         have hm:¬ m=lo:=by omega
         have hadd:(Addr.add ⟨b,off,none⟩ lo)=⟨b,off+lo,none⟩:=by rw [Addr.add_lit]
         refine .inr ⟨b,off+lo,m - lo,by rw [if_neg hm,hadd,hlen],by rw [hlen]; omega,by omega,h8,fun i hi'=>?_⟩
         rw [hlen] at hi'
         have:=hat i hi'
         rw [if_neg hm,hadd,Addr.add_lit] at this
         exact this
   · have hj:j < hi - lo:=by have:=(List.getElem?_eq_some_iff.1 hu).1; rwa [byteCells_length,hlen] at this
     rw [hat j hj,←hu]
     simp [byteCells,List.getD_eq_getElem?_getD,hj,List.getElem?_eq_getElem (show lo+j < l.length by omega)]
set_option maxHeartbeats 1000000 in
theorem clone_any (v:Value) (l:List UInt8) (w:World) (hv:IsArg w v l) (hl:l.length≤140737488355328) :
 Calls Tryz.prog 44 #[v] w fun e w'=>∃ r,e=.returned r∧w'.ownsRow w.heap.size 5 1 r l.length (byteCells l)∧Below w.heap.size w w':=by
 have hq:∀ (w:World) (a:Option Addr) (n c n' c':Nat),(binOp .eql 22 (.slice a n c) (.slice none n' c')).run Tryz.prog w=.ok (.bool a.isNone) w:=fun w a n c n' c'=>Lib.run_eql_slice_nil w _ _ a n c n' c' Tryz.underlying22
 rcases hv.2 with ⟨rfl,rfl⟩|⟨ad,c,rfl,hcell⟩
 · go_enter Tryz.func44,Tryz.ntmps44
   go_wp2
   go_ret
   exact ⟨_,rfl,World.ownsRow_nil w w.heap.size 5 1,Below.refl _ _⟩
 · obtain ⟨i0,hi,hz0,hz1,hz2⟩:=info_parts info8
   have hb:Below w.heap.size w (w.alloc (.cells #[] 5)):=(Below.refl _ _).alloc (Nat.le_refl _) _
   have HA:=Zh (hv.below hb).2
   have hown:(w.alloc (.cells #[] 5)).ownsRow w.heap.size 5 1 (.slice (some ⟨w.heap.size,0,none⟩) 0 0) 0 []:=owns_empty (heap_alloc_new w _) (by decide) rfl _ (Nat.le_refl _)
   have HO:=Zh hown
   have HC:=Zh hcell
   clear hcell hown
   go_enter Tryz.func44,Tryz.ntmps44
   go_wp2_with (at_builtin; refine wpList_append_isArg _ rfl _ _ 22 rfl w.heap.size 5 i0 (.int .u8 0) Tryz.underlying22 hi hz0 hz1 hz2 rfl _ _ _ rfl HO.out _ l rfl HA.out ?c2 ?c3 ?_)
   case c2=>omega
   case c3=>simp
   intro v' w1 hown1 hgrow
   have HG:=Zh (hb.grown hgrow (by simp) (fun k hk=>(HO.out.lt k hk).1))
   go_wp2
   go_ret
   exact ⟨_,rfl,hown1,HG.out⟩
theorem IsArg.shape {w:World} {v:Value} {l:List UInt8} (h:IsArg w v l):∃ a c,v=.slice a l.length c∧l.length≤c:=by
 rcases h.2 with ⟨rfl,rfl⟩|⟨ad,c,rfl,_⟩
 · exact ⟨none,0,rfl,Nat.le_refl _⟩
 · refine ⟨some ad,c,rfl,?_⟩
   by_cases h0:l=[]
   · subst h0; exact Nat.zero_le _
   · exact (h.1.cap h0).1
theorem IsArg.shape2 {w:World} {v:Value} {l:List UInt8} (h:IsArg w v l):∃ a n c,v=.slice a n c∧n=l.length:=by
 obtain ⟨a,c,h1,_⟩:=h.shape
 exact ⟨a,_,c,h1,rfl⟩
theorem slice_lhm (a:Option Addr) (n c lo hi m:Nat) (h1:lo≤hi) (h2:hi≤m) (h3:m≤c) (W:World) :
 (Instr.slice 22 (.slice a n c) (some (.int .i64 lo)) (some (.int .i64 hi)) (some (.int .i64 m))).run Tryz.prog W=.ok (sliced a lo hi m 1) W:=by
 rw [run_slice_lhm (P:=Tryz.prog) W 22 a n c elemBytes .i64 .i64 .i64 lo hi m (by omega) (by omega) (by omega) (by omega),sizeByte]
 rfl
theorem slice_hm (a:Option Addr) (n c hi m:Nat) (h2:hi≤m) (h3:m≤c) (W:World) :
 (Instr.slice 22 (.slice a n c) none (some (.int .i64 hi)) (some (.int .i64 m))).run Tryz.prog W=.ok (sliced a 0 hi m 1) W:=by
 rw [run_slice_hm (P:=Tryz.prog) W 22 a n c elemBytes .i64 .i64 hi m (by omega) (by omega) (by omega),sizeByte]
 rfl
set_option maxHeartbeats 1000000 in
theorem parts_any (v:Value) (l:List UInt8) (w:World) (hv:IsArg w v l) (x y:Nat) (hxy:x+y≤l.length) (hl:l.length≤8192) :
 Calls Tryz.prog 74 #[v,.int .i64 x,.int .i64 y] w fun e w'=>∃ p q r,e=.returned (.tuple #[p,q,r])∧IsArg w' p (l.take x)∧IsArg w' q ((l.drop x).take y)∧IsArg w' r (l.drop (x+y))∧Below w.heap.size w w':=by
 obtain ⟨a,c,rfl,hc⟩:=hv.shape
 obtain ⟨n,hn⟩:∃ n,n=l.length:=⟨_,rfl⟩
 rw [←hn] at hc hxy hl hv
 obtain ⟨m,hm⟩:∃ m,m=x+y:=⟨_,rfl⟩
 have HV:=Zh hv
 have HN:=Zh hn
 have HM:=Zh hm
 have hmi:(x:Int)+(y:Int)=(m:Int):=by omega
 rw [←hm] at hxy
 have hxm:x≤m:=by omega
 have s1:=slice_hm a n c x x (Nat.le_refl _) (by omega)
 have s2:=slice_lhm a n c x m m hxm (Nat.le_refl _) (by omega)
 have s3:=slice_lhm a n c m n n hxy (Nat.le_refl _) hc
 rw [←hn]
 obtain ⟨u1,hu1⟩:∃ u,u=sliced a 0 x x 1:=⟨_,rfl⟩
 obtain ⟨u2,hu2⟩:∃ u,u=sliced a x m m 1:=⟨_,rfl⟩
 obtain ⟨u3,hu3⟩:∃ u,u=sliced a m n n 1:=⟨_,rfl⟩
 rw [←hu1] at s1
 rw [←hu2] at s2
 rw [←hu3] at s3
 have HU1:=Zh hu1
 have HU2:=Zh hu2
 have HU3:=Zh hu3
 clear hv hn hm hu1 hu2 hu3
 go_enter Tryz.func74,Tryz.ntmps74
 go_wp2
 go_quiet (fail)
 go_wp2
 go_ret3
 have hb:Below w.heap.size w (w.drewN nq):=below_drewN (Below.refl _ _) nq
 have HV2:=(HV.out).below hb
 have p1:=HV2.part 0 x x (Nat.zero_le _) (by rw [←HN.out]; omega) (Nat.le_refl _) (by omega)
 have p2:=HV2.part x m m hxm (by rw [←HN.out]; omega) (Nat.le_refl _) (by omega)
 have p3:=HV2.part m n n hxy (by rw [←HN.out]; omega) (Nat.le_refl _) hc
 rw [←HU1.out] at p1
 rw [←HU2.out] at p2
 rw [←HU3.out] at p3
 rw [Nat.sub_zero,List.drop_zero] at p1
 rw [show m - x=y by rw [HM.out]; omega] at p2
 rw [List.take_of_length_le (by rw [List.length_drop,←HN.out]; omega),HM.out] at p3
 exact ⟨_,_,_,rfl,p1,p2,p3,hb⟩
set_option maxHeartbeats 1000000 in
theorem get_any (v:Value) (l:List UInt8) (w:World) (hv:IsArg w v l) (x y:Int) (hl:l.length≤maxLen) :
 Calls Tryz.prog 89 #[.agg #[v],.int .i64 x,.int .i64 y] w fun e w'=>∃ r,e=.returned (.tuple #[r,.int .i64 (faultOf l.length x y)])∧w'.ownsRow w.heap.size 5 1 r (getOf l x y).length (byteCells (getOf l x y))∧Below w.heap.size w w':=by
 obtain ⟨a,c,rfl,hc⟩:=hv.shape
 obtain ⟨f,hf⟩:∃ f,f=faultOf l.length x y:=⟨_,rfl⟩
 obtain ⟨g,hg⟩:∃ g,g=getOf l x y:=⟨_,rfl⟩
 rw [←hf,←hg]
 have HL:=Zh hl
 have HV:=Zh hv
 have HF:=Zh hf
 have HG:=Zh hg
 have hbA:Below w.heap.size w (w.alloc (.cells #[.slice a l.length c] 24)):=(Below.refl _ _).alloc (Nat.le_refl _) _
 have HBA:=Zh hbA
 clear hl hv hc hbA
 by_cases h0:f=0
 · subst h0
   obtain ⟨k0,k1,k2,k3,k4⟩:=fault_zero hf.symm
   have hg2:g=(l.drop x.toNat).take y.toNat:=by rw [hg]; exact getOf_some hf.symm
   obtain ⟨x,rfl⟩:=Int.eq_ofNat_of_zero_le k1
   obtain ⟨y,rfl⟩:=Int.eq_ofNat_of_zero_le k3
   have hxy:x+y≤l.length:=by omega
   rw [Int.toNat_natCast,Int.toNat_natCast] at hg2
   have HG2:=Zh hg2
   clear hf hg hg2 k1 k3
   go_enter Tryz.func89,Tryz.ntmps89
   go_wp2_with fail
   refine (fault_any _ _ _ HL.out _ _ _).mono ?_
   rintro e w1 ⟨rfl,hb⟩
   rw [←HF.out]
   have hcl:=box_cell hb
   have hb1:Below w.heap.size w w1:=HBA.out.trans (hb.mono (by simp))
   have HB1:=Zh hb1
   clear hb hb1
   go_wp2_with fail
   refine (parts_any _ _ _ (HV.out.below HB1.out) _ _ hxy k0).mono ?_
   rintro e w2 ⟨p,q,r,rfl,_,hq,_,hb2⟩
   have HB2:=Zh (HB1.out.trans (hb2.mono HB1.out.size))
   clear hb2
   have HQ:=Zh hq
   clear hq
   rw [←HG2.out] at HQ
   go_wp2_with fail
   refine (clone_any _ _ _ HQ.out (by rw [HG2.out]; simp; omega)).mono ?_
   rintro e w3 ⟨s,rfl,hs,hb3⟩
   have HB3:=Zh (HB2.out.trans (hb3.mono HB2.out.size))
   have HS:=Zh (ownsRow_base hs HB2.out.size)
   clear hs hb3
   go_wp2
   go_ret2
   exact ⟨_,rfl,HS.out,HB3.out⟩
 · have hg2:g=[]:=by rw [hg]; exact getOf_none (by rw [←hf]; exact h0)
   subst hg2
   clear hf hg
   go_enter Tryz.func89,Tryz.ntmps89
   go_wp2_with fail
   refine (fault_any _ _ _ HL.out _ _ _).mono ?_
   rintro e w1 ⟨rfl,hb⟩
   rw [←HF.out]
   have hb1:Below w.heap.size w w1:=HBA.out.trans (hb.mono (by simp))
   have HB1:=Zh hb1
   clear hb hb1
   go_wp2
   go_ret2
   exact ⟨_,rfl,World.ownsRow_nil w1 w.heap.size 5 1,HB1.out⟩
theorem ownsRow_set {w:World} {base:Nat} {t:TypeId} {size:Nat} {v:Value} {n:Nat} {xs:List Value} (h:w.ownsRow base t size v n xs) (a:Addr) (x:Value) (ha:a.block < base):(w.setCell a x).ownsRow base t size v n xs:=by
 refine ⟨h.1,?_⟩
 rcases h.2 with h2|⟨g,cap,cur,hv,hg,hh,r⟩
 · exact .inl h2
 · refine .inr ⟨g,cap,cur,hv,hg,?_,r⟩
   have hne:a.block≠g:=by omega
   simp [World.setCell,Array.getElem?_modify,hne,hh]
theorem second_box {w w1:World} {u v:Value} {s t:TypeId} (hb:Below ((w.alloc (.cells #[u] s)).alloc (.cells #[v] t)).heap.size ((w.alloc (.cells #[u] s)).alloc (.cells #[v] t)) w1) :
 w1.cell? ⟨w.heap.size,0,none⟩=some u∧w1.cell? ⟨w.heap.size+1,0,none⟩=some v∧w1.frozen? ⟨w.heap.size+1,0,none⟩=false∧w.heap.size+1 < w1.heap.size:=by
 have h0:=hb.block w.heap.size (by simp; omega)
 have h1:=hb.block (w.heap.size+1) (by simp)
 have h2:((w.alloc (.cells #[u] s)).alloc (.cells #[v] t)).heap[w.heap.size+1]? = some (.cells #[v] t):=by simpa using heap_alloc_new (w.alloc (.cells #[u] s)) (.cells #[v] t)
 have h3:((w.alloc (.cells #[u] s)).alloc (.cells #[v] t)).heap[w.heap.size]? = some (.cells #[u] s):=by
  rw [heap_alloc_old (w.alloc (.cells #[u] s)) _ (by simp)]
  exact heap_alloc_new w _
 rw [h2] at h1
 rw [h3] at h0
 have h4:=hb.size
 simp at h4
 refine ⟨?_,?_,?_,by omega⟩
 · unfold World.cell?; rw [h0]; rfl
 · unfold World.cell?; rw [h1]; rfl
 · unfold World.frozen?; rw [h1]; rfl
set_option maxHeartbeats 1000000 in
theorem same_any (v:Value) (l:List UInt8) (w:World) (hv:IsArg w v l) (hl:l.length≤140737488355328) :
 Calls Tryz.prog 57 #[.agg #[v]] w fun e w'=>∃ r,e=.returned (.agg #[r])∧w'.ownsRow w.heap.size 5 1 r l.length (byteCells l)∧Below w.heap.size w w':=by
 have HV:=Zh hv
 have HB:=Zh (((Below.refl w.heap.size w).alloc (Nat.le_refl _) (.cells #[v] 24)).alloc (by simp) (.cells #[.slice none 0 0] 24))
 obtain ⟨a,c,rfl,_⟩:=hv.shape
 clear hv
 go_enter Tryz.func57,Tryz.ntmps57
 go_wp2_with fail
 refine (clone_any _ _ _ (HV.out.below HB.out) hl).mono ?_
 rintro e w1 ⟨r,rfl,hr,hb⟩
 have HB1:=Zh (HB.out.trans (hb.mono (by simp; omega)))
 have HR:=Zh hr
 obtain ⟨_,hold,hfz,hlt⟩:=second_box hb
 obtain ⟨ra,rc,rfl,_⟩:=(isArg_of_owns hr).shape
 clear hr hb
 go_wp2
 refine bodyPost_ret (v:=.agg #[.slice ra l.length rc]) (by simp [results,Tryz.results57,go_sem,hold]) rfl ⟨_,rfl,?_,?_⟩
 · exact ownsRow_base (ownsRow_set HR.out _ _ (by simp)) (by simp; omega)
 · exact HB1.out.setCell (by simp) _
theorem three_cells (w:World) (a b c:Value) (t:TypeId):(w.alloc (.cells #[a,b,c] t)).cell? ⟨w.heap.size,0,none⟩=some a∧(w.alloc (.cells #[a,b,c] t)).cell? ⟨w.heap.size,1,none⟩=some b∧(w.alloc (.cells #[a,b,c] t)).cell? ⟨w.heap.size,2,none⟩=some c:=by
 have h:=heap_alloc_new w (.cells #[a,b,c] t)
 refine ⟨?_,?_,?_⟩
 all_goals (unfold World.cell?; rw [h]; rfl)
set_option maxHeartbeats 2000000 in
theorem put_any (v:Value) (l:List UInt8) (u:Value) (m:List UInt8) (w:World) (hv:IsArg w v l) (hu:IsArg w u m) (x:Int) (hl:l.length≤140737488355328) (_:m.length≤140737488355328) :
 Calls Tryz.prog 41 #[.agg #[v],.int .i64 x,u] w fun e w'=>∃ r,e=.returned (.tuple #[.agg #[r],.int .i64 (faultOf l.length x m.length)])∧w'.ownsRow w.heap.size 5 1 r (putOf l x m).length (byteCells (putOf l x m))∧Below w.heap.size w w':=by
 have HV:=Zh hv
 have HU:=Zh hu
 have HL:=Zh hl
 have HB:=Zh (((Below.refl w.heap.size w).alloc (Nat.le_refl _) (.cells #[v] 24)).alloc (by simp) (.cells #[.slice none 0 0] 24))
 obtain ⟨a,c,rfl,_⟩:=hv.shape
 obtain ⟨ua,uc,rfl,_⟩:=hu.shape
 obtain ⟨f,hf⟩:∃ f,f=faultOf l.length x m.length:=⟨_,rfl⟩
 obtain ⟨g,hg⟩:∃ g,g=putOf l x m:=⟨_,rfl⟩
 rw [←hf,←hg]
 have HF:=Zh hf
 have HG:=Zh hg
 have hgl:g.length=l.length:=by rw [hg]; exact putOf_length _ _ _
 have HGL:=Zh hgl
 have HMX:=Zh (show l.length≤maxLen by unfold maxLen; omega)
 clear hv hu hgl
 by_cases h0:f=0
 · subst h0
   obtain ⟨k0,k1,k2,k3,k4⟩:=fault_zero hf.symm
   have hg2:g=l.take x.toNat++m++l.drop (x.toNat+m.length):=by rw [hg]; exact putOf_some hf.symm
   obtain ⟨x,rfl⟩:=Int.eq_ofNat_of_zero_le k1
   have hxy:x+m.length≤l.length:=by omega
   rw [Int.toNat_natCast] at hg2
   have HG2:=Zh hg2
   have HXY:=Zh hxy
   clear hf hg hg2 k1 k2 k3 k4 hxy hl
   go_enter Tryz.func41,Tryz.ntmps41
   go_wp2_with fail
   refine (fault_any _ _ _ HMX.out _ _ _).mono ?_
   rintro e w1 ⟨rfl,hb⟩
   rw [←HF.out]
   have HB1:=Zh hb
   obtain ⟨hcl,_,_,_⟩:=second_box hb
   clear hb
   have HB1w:=Zh (HB.out.trans (HB1.out.mono (by simp; omega)))
   go_wp2_with fail
   refine (parts_any _ _ _ (HV.out.below HB1w.out) _ _ HXY.out k0).mono ?_
   rintro e w2 ⟨p,q,r,rfl,hp,_,hr,hb2⟩
   have HB2:=Zh (HB1.out.trans (hb2.mono HB1.out.size))
   have HB2w:=Zh (HB.out.trans (HB2.out.mono (by simp; omega)))
   obtain ⟨pa,pn,pc,rfl,hpn⟩:=hp.shape2
   obtain ⟨ra,rn,rc,rfl,hrn⟩:=hr.shape2
   clear hpn hrn
   have HP:=Zh hp
   have HR:=Zh hr
   clear hp hr hb2 hcl
   have h3:=three_cells w2 (.slice pa pn pc) (.slice ua m.length uc) (.slice ra rn rc) 22
   have H3:=Zh h3
   clear h3
   have HB3:=Zh (HB2w.out.alloc HB2w.out.size (.cells #[.slice pa pn pc,.slice ua m.length uc,.slice ra rn rc] 22))
   have HB3l:=Zh (((Below.refl w2.heap.size w2).alloc (Nat.le_refl _) (.cells #[.slice pa pn pc,.slice ua m.length uc,.slice ra rn rc] 22)))
   go_wp2_with fail
   refine (concat_three H3.out.1 H3.out.2.1 H3.out.2.2 (HP.out.below HB3l.out) (HU.out.below HB3.out) (HR.out.below HB3l.out) (by rw [←HG2.out,HGL.out]; exact HL.out)).mono ?_
   rintro e w3 ⟨s,rfl,hs,hb4⟩
   rw [←HG2.out] at hs
   have HS:=Zh hs
   have HB4:=Zh (HB2.out.trans ((HB3l.out.trans (hb4.mono (by simp))).mono HB2.out.size))
   have HB4w:=Zh (HB.out.trans (HB4.out.mono (by simp; omega)))
   obtain ⟨_,hold,hfz,hlt⟩:=second_box HB4.out
   obtain ⟨sa,sc,rfl,_⟩:=(isArg_of_owns hs).shape
   clear hs hb4
   go_wp2
   refine bodyPost_ret (v:=.tuple #[.agg #[.slice sa g.length sc],.int .i64 0]) (by simp [results,Tryz.results41,go_sem,hold]) rfl ⟨_,rfl,?_,?_⟩
   · exact ownsRow_base (ownsRow_set HS.out _ _ (by have:=HB2.out.size; simp at this ⊢; omega)) (by have:=HB2w.out.size; simp; omega)
   · exact HB4w.out.setCell (by simp) _
 · have hg2:g=l:=by rw [hg]; exact putOf_none (by rw [←hf]; exact h0)
   subst hg2
   clear hf hg
   go_enter Tryz.func41,Tryz.ntmps41
   go_wp2_with fail
   refine (fault_any _ _ _ HMX.out _ _ _).mono ?_
   rintro e w1 ⟨rfl,hb⟩
   rw [←HF.out]
   have HB1:=Zh hb
   obtain ⟨hcl,_,_,_⟩:=second_box hb
   clear hb
   have HB1w:=Zh (HB.out.trans (HB1.out.mono (by simp; omega)))
   go_wp2_with fail
   refine (same_any _ _ _ (HV.out.below HB1w.out) HL.out).mono ?_
   rintro e w2 ⟨r,rfl,hr,hb2⟩
   have HB2:=Zh (HB1.out.trans (hb2.mono HB1.out.size))
   have HB2w:=Zh (HB.out.trans (HB2.out.mono (by simp; omega)))
   have HR:=Zh hr
   obtain ⟨_,hold,hfz,hlt⟩:=second_box HB2.out
   obtain ⟨ra,rc,rfl,_⟩:=(isArg_of_owns hr).shape
   clear hr hb2 hcl
   go_wp2
   refine bodyPost_ret (v:=.tuple #[.agg #[.slice ra g.length rc],.int .i64 f]) (by simp [results,Tryz.results41,go_sem,hold]) rfl ⟨_,rfl,?_,?_⟩
   · exact ownsRow_base (ownsRow_set HR.out _ _ (by have:=HB1.out.size; simp at this ⊢; omega)) HB1w.out.size
   · exact HB2w.out.setCell (by simp) _
theorem zeros_bytes (k:Nat):zeros k=byteCells (List.replicate k 0):=by simp [zeros,byteCells]
def rowAt (l m:List UInt8) (x i:Nat):List UInt8:=l.take x++m.take i++l.drop (x+i)
def Given (W:World) (base:Nat) (v:Value) (l:List UInt8) (r:Value) (G:List UInt8):Prop:=(r=v∧G=l)∨W.ownsRow base 5 1 r G.length (byteCells G)
theorem Given.below {W W1:World} {base:Nat} {v:Value} {l:List UInt8} {r:Value} {G:List UInt8} (h:Given W base v l r G) (hb:Below W.heap.size W W1):Given W1 base v l r G:=by
 rcases h with h|h
 · exact .inl h
 · exact .inr (ownsRow_below h hb)
theorem Given.set {W:World} {base:Nat} {v:Value} {l:List UInt8} {r:Value} {G:List UInt8} (h:Given W base v l r G) (a:Addr) (c:Value) (ha:a.block < base):Given (W.setCell a c) base v l r G:=by
 rcases h with h|h
 · exact .inl h
 · exact .inr (ownsRow_set h a c ha)
theorem Given.base {W:World} {base b2:Nat} {v:Value} {l:List UInt8} {r:Value} {G:List UInt8} (h:Given W base v l r G) (hb:b2≤base):Given W b2 v l r G:=by
 rcases h with h|h
 · exact .inl h
 · exact .inr (ownsRow_base h hb)
theorem Given.arg {w W:World} {base:Nat} {v:Value} {l:List UInt8} {r:Value} {G:List UInt8} (h:Given W base v l r G) (hv:IsArg w v l) (hb:Below w.heap.size w W):IsArg W r G:=by
 rcases h with ⟨rfl,rfl⟩|h
 · exact hv.below hb
 · exact isArg_of_owns h
theorem Given.shape {w W:World} {base:Nat} {v:Value} {l:List UInt8} {r:Value} {G:List UInt8} (h:Given W base v l r G) (hv:IsArg w v l):∃ a n c,r=.slice a n c:=by
 rcases h with ⟨rfl,rfl⟩|h
 · obtain ⟨a,c,h1,_⟩:=hv.shape
   exact ⟨a,_,c,h1⟩
 · obtain ⟨a,c,h1,_⟩:=(isArg_of_owns h).shape
   exact ⟨a,_,c,h1⟩
set_option maxHeartbeats 400000 in
theorem place_lo (i n:Int) (w:World) :
 Calls Tryz.prog 158 #[.agg #[],.int .i64 i,.int .i64 n] w fun e w'=>e=.returned (.int .i64 i)∧w'=w.alloc (.cells #[] 172):=by
 go_enter Tryz.func158,Tryz.ntmps158
 go_wp2
 go_ret
 exact ⟨rfl,rfl⟩
theorem method_lo (w : World) : (method 331 172 (.agg #[]) "phonograph/num.place").run Tryz.prog w = .ok (158, .agg #[]) w := by kernel_rfl
set_option maxHeartbeats 1000000 in
theorem put_lo (n:Nat) (z:Int) (k:Nat) (hz:Clamped z k) (w:World) :

 Calls Tryz.prog 97 #[.agg #[],.int .u64 n,.int .i64 z] w fun e w'=>∃ g,e=.returned (.slice (some ⟨g,0,none⟩) k k)∧w'.heap[g]? = some (.cells (byteCells (leB n k)).toArray 5 (0,0))∧w.heap.size≤g∧Below w.heap.size w w':=by
 have hk:k≤8:=by rcases hz with h|h|h <;> omega
 have hmk:=run_make_row' (P:=Tryz.prog) 22 5 (.int .u8 0) 1 Tryz.underlying22 info8 rfl .i64 .i64 k (by omega) (by omega)
 have hme:=method_lo
 go_enter Tryz.func97,Tryz.ntmps97
 go_upto_region 1 with fail
 go_cut [2] (fun x wx=>x=.int .i64 k∧wx=w.alloc (.cells #[] 172))
 case first =>
  rcases hz with ⟨h,rfl⟩|⟨h1,h2,rfl⟩|⟨h,rfl⟩
  all_goals (go_wp2_with fail; go_meet; exact ⟨rfl,rfl⟩)
 case rest =>
 obtain ⟨rfl,rfl⟩:=hcut
 go_wp2
 go_loopw [15] (fun c wr=>∃ i:Nat,i≤k∧c=.int .i64 i∧wr.heap[w.heap.size+1]? = some (.cells (loRow n k i).toArray 5 (0,0))∧Below w.heap.size w wr) (fun c _=>k - (intOf c).toNat)
 case atStart =>
  refine ⟨0,Nat.zero_le _,rfl,?_,((Below.refl _ _).alloc (Nat.le_refl _) _).alloc (by simp) _⟩
  rw [loRow_zero,←made_zeros,Array.toArray_toList]
  simpa using heap_alloc_new (w.alloc (.cells #[] 172)) (.cells (madeCells #[Value.int .u8 0] k) 5)
 case round =>
  obtain ⟨i,hi,rfl,hrow,hb⟩:=hrel
  by_cases hlt:i < k
  · have hlt':w.heap.size+1 < wr.heap.size:=by have:=(Array.getElem?_eq_some_iff.1 hrow).1; exact this
    have hcell:wr.cell? ⟨w.heap.size+1,i,none⟩=some (.int .u8 0):=by simp [World.cell?,hrow,loRow_at _ _ _ hlt]
    have hfz:wr.frozen? ⟨w.heap.size+1,i,none⟩=false:=by simp [World.frozen?,hrow]
    have hm8:IntKind.i64.wrap (8 * (i:Int))=8 * (i:Int):=IntWalk.i64_in _ (by omega)
    have hm9:0≤8 * (i:Int):=by omega
    have HR:=Zh hrow
    clear hrow
    go_wp2
    go_region_with (go_at_call 158; refine (place_lo _ _ _).mono ?_; rintro e w' ⟨rfl,rfl⟩)
    go_wp2
    go_roundw
    case rel=>exact ⟨i+1,by omega,by go_num,row_drew (row_alloc (by rw [byte_put,←loRow_set _ _ _ hlt]; exact row_set HR.out _) _),((hb.setCell (by simp) _).alloc (by simp; omega) _).drew⟩
    case measure=>simp [intOf]; omega
  · obtain rfl:i=k:=by omega
    have HR:=Zh hrow
    clear hrow
    go_wp2
    go_ret
    exact ⟨_,rfl,by rw [←loRow_all]; exact HR.out,by omega,hb⟩
set_option maxHeartbeats 400000 in
theorem le_row (n:Nat) (z:Int) (k:Nat) (hz:Clamped z k) (w:World) :
 Calls Tryz.prog 58 #[.int .u64 n,.int .i64 z] w fun e w'=>∃ g,e=.returned (.slice (some ⟨g,0,none⟩) k k)∧w'.heap[g]? = some (.cells (byteCells (leB n k)).toArray 5 (0,0))∧w.heap.size≤g∧Below w.heap.size w w':=by
 go_enter Tryz.func58,Tryz.ntmps58
 go_wp2_with (go_at_call 97; refine (put_lo _ _ _ hz _).mono ?_; rintro e w' ⟨g,rfl,ho,hg,hb⟩)
 go_ret
 exact ⟨g,rfl,ho,hg,hb⟩
theorem le_any (n:Nat) (z:Int) (k:Nat) (hz:Clamped z k) (w:World) :
 Calls Tryz.prog 58 #[.int .u64 n,.int .i64 z] w fun e w'=>∃ v,e=.returned v∧w'.ownsRow w.heap.size 5 1 v k (byteCells (leB n k))∧Below w.heap.size w w' :=
 (le_row n z k hz w).mono fun e w' ⟨g,he,ho,hg,hb⟩=>⟨_,he,owns_of_row ho hg (by simp [byteCells]) (clamped_max hz),hb⟩
set_option maxHeartbeats 1000000 in
theorem get_lo (v:Value) (l:List UInt8) (w:World) (hv:IsBytes w v l) :
 Calls Tryz.prog 126 #[.agg #[],v] w fun e w'=>e=.returned (.int .u64 (leN (l.take 8)))∧Below w.heap.size w w':=by
 have hme:=method_lo
 rcases hv with ⟨a0,c0,rfl,rfl⟩|⟨b,off,cap,rfl,hc1,hc2,hb,hcell⟩
 · go_enter Tryz.func126,Tryz.ntmps126
   go_wp2
   go_loopw [6,12] (fun x c wr=>x=.int .u64 0∧c=.int .i64 0∧Below w.heap.size w wr) (fun _ _ _=>0)
   case atStart=>exact ⟨rfl,rfl,(Below.refl _ _).alloc (Nat.le_refl _) _⟩
   case round =>
    obtain ⟨rfl,rfl,hb⟩:=hrel
    go_wp2
    go_ret
    exact ⟨rfl,hb⟩
 · unfold maxLen at hc2
   have HC:=Zh hcell
   clear hcell
   go_enter Tryz.func126,Tryz.ntmps126
   go_upto_region 1 with fail
   go_cut [5] (fun x wx=>x=.int .i64 ((l.take 8).length:Nat)∧wx=w.alloc (.cells #[] 172))
   case first =>
    by_cases h8:8 < l.length
    all_goals (go_wp2_with fail; go_meet; exact ⟨by simp [List.length_take]; omega,rfl⟩)
   case rest =>
   obtain ⟨rfl,rfl⟩:=hcut
   obtain ⟨m,hm⟩:∃ m,m=(l.take 8).length:=⟨_,rfl⟩
   rw [←hm]
   have hm8:m≤8:=by rw [hm]; simp [List.length_take]; omega
   have hml:m≤l.length:=by rw [hm]; simp [List.length_take]; omega
   have Hm:=Zh hm
   clear hm
   go_wp2
   go_loopw [6,12] (fun x c wr=>∃ i:Nat,i≤m∧c=.int .i64 i∧x=.int .u64 (leN (l.take i))∧Below w.heap.size w wr∧w.heap.size < wr.heap.size) (fun _ c _=>m - (intOf c).toNat)
   case atStart=>exact ⟨0,Nat.zero_le _,rfl,rfl,(Below.refl _ _).alloc (Nat.le_refl _) _,by simp⟩
   case round =>
    obtain ⟨i,hi,rfl,rfl,hbw,hsz⟩:=hrel
    by_cases hlt:i < m
    · have hbl:b < wr.heap.size:=by omega
      have hcl:wr.cell? ⟨b,off+i,none⟩=some (.int .u8 (l.getD (i) 0).toNat):=by rw [hbw.cell (by simpa using hb)]; exact HC.out _ (by omega)
      have hi8:IntKind.i64.wrap (8 * (i:Int))=8 * (i:Int):=IntWalk.i64_in _ (by omega)
      have hi9:0≤8 * (i:Int):=by omega
      go_wp2_with (go_at_call 158; refine (place_lo _ _ _).mono ?_; rintro e w' ⟨rfl,rfl⟩)
      go_roundw
      case rel =>
       have hs:=or_step (leN (l.take i)) i (l[i]?.getD 0) (by have:=leN_lt (l.take i); rwa [List.length_take,Nat.min_eq_left (by omega)] at this) (by omega)
       rw [←leN_take l i (by omega)] at hs
       exact ⟨i+1,by omega,by go_num,by rw [hs],hbw.alloc (by omega) _,by simp; omega⟩
      case measure=>simp [intOf]; omega
    · obtain rfl:i=m:=by omega
      go_wp2
      go_ret
      exact ⟨by rw [lo_end l _ Hm.out]; rfl,hbw⟩
set_option maxHeartbeats 400000 in
theorem fromLe_any (v:Value) (l:List UInt8) (w:World) (hv:IsBytes w v l) :
 Calls Tryz.prog 90 #[v] w fun e w'=>e=.returned (.int .u64 (leN (l.take 8)))∧Below w.heap.size w w':=by
 go_enter Tryz.func90,Tryz.ntmps90
 go_wp2_with (go_at_call 126; refine (get_lo _ l _ hv).mono ?_; rintro e w' ⟨rfl,hb⟩)
 go_ret
 exact ⟨rfl,hb⟩
def numFaultOf (L:Nat) (x y:Int):Int:=if sizeFaultOf L y=0 then faultOf L x y else sizeFaultOf L y
def numOf (l:List UInt8) (x y:Int):Nat:=if sizeFaultOf l.length y=0 then leN ((getOf l x y).take 8) else 0
set_option maxHeartbeats 1000000 in
theorem num_any (v:Value) (l:List UInt8) (w:World) (hv:IsArg w v l) (x y:Int) (hl:l.length≤maxLen) :
 Calls Tryz.prog 53 #[.agg #[v],.int .i64 x,.int .i64 y] w fun e w'=>e=.returned (.tuple #[.int .u64 (numOf l x y),.int .i64 (numFaultOf l.length x y)])∧Below w.heap.size w w':=by
 obtain ⟨a,c,rfl,hq1⟩:=hv.shape
 clear hq1
 have HL:=Zh hl
 have HV:=Zh hv
 have HBA:=Zh ((Below.refl w.heap.size w).alloc (Nat.le_refl _) (.cells #[.slice a l.length c] 24))
 obtain ⟨s,hs⟩:∃ s,s=sizeFaultOf l.length y:=⟨_,rfl⟩
 unfold numOf numFaultOf
 rw [←hs]
 have HS:=Zh hs
 clear hl hv
 by_cases h0:s=0
 · rw [if_pos h0,if_pos h0]
   subst h0
   clear hs
   go_enter Tryz.func53,Tryz.ntmps53
   go_wp2_with fail
   refine (sizeFault_any _ _ _ HL.out _ _).mono ?_
   rintro e w1 ⟨rfl,hb⟩
   rw [←HS.out]
   have hcl:=box_cell hb
   have HB1:=Zh (HBA.out.trans (hb.mono (by simp)))
   clear hb
   go_wp2_with fail
   refine (get_any _ _ _ (HV.out.below HB1.out) _ _ HL.out).mono ?_
   rintro e w2 ⟨r,rfl,hr,hb⟩
   have HB2:=Zh (HB1.out.trans (hb.mono HB1.out.size))
   have HR:=Zh (isBytes_of_owns hr)
   clear hr hb hcl
   go_wp2_with fail
   refine (fromLe_any _ _ _ HR.out).mono ?_
   rintro e w3 ⟨rfl,hb⟩
   have HB3:=Zh (HB2.out.trans (hb.mono HB2.out.size))
   clear hb
   go_wp2
   go_ret2
   exact ⟨rfl,HB3.out⟩
 · rw [if_neg h0,if_neg h0]
   clear hs
   go_enter Tryz.func53,Tryz.ntmps53
   go_wp2_with fail
   refine (sizeFault_any _ _ _ HL.out _ _).mono ?_
   rintro e w1 ⟨rfl,hb⟩
   rw [←HS.out]
   have HB1:=Zh (HBA.out.trans (hb.mono (by simp)))
   clear hb
   go_wp2
   go_ret2
   exact ⟨rfl,HB1.out⟩
theorem count_set {l:List Bool} {i:Nat} (h:l[i]? = some false):(l.set i true).count false+1=l.count false:=by
 induction l generalizing i with
 | nil=>simp at h
 | cons b r ih =>
   cases i with
   | zero =>
     simp at h
     subst h
     simp
   | succ i =>
     have h2:=ih (i:=i) (by simpa using h)
     simp only [List.set_cons_succ,List.count_cons]
     omega
theorem ready_false {md:Region.Mode} {ops:Array Oper} {l:Array Bool} {i:Nat} (h:i∈Region.ready md ops l):l.toList[i]? = some false:=by
 rw [Region.ready,List.mem_filter] at h
 have h2:=h.2
 simp only [Bool.and_eq_true,Bool.not_eq_true'] at h2
 have h3:=h2.1
 rw [Array.getD_eq_getD_getElem?] at h3
 rw [Array.getElem?_toList]
 rcases hx:l[i]? with _|b
 · rw [hx] at h3; cases h3
 · rw [hx] at h3; simp at h3; rw [h3]
theorem wpAny_inv {P:Program} {ops:Array Oper} {Q:Exit→Act→World→Prop} {md:Region.Mode} (I:Array Bool→Act→World→Prop)
 (hstep:∀ l a w,I l a w→∀ i∈Region.ready md ops l,wpOp P ops Q i (fun a' w'=>I (l.setIfInBounds i true) a' w') a w)
 (hdone:∀ l a w,I l a w→Region.ready md ops l=[]→Q .normal a w) :
 ∀ (fuel:Nat) (l:Array Bool) (a:Act) (w:World),I l a w→l.toList.count false≤fuel→wpAny P md ops Q fuel l a w
 | 0,l,a,w,hI,hc=>by
   have hr:Region.ready md ops l=[]:=by
    rcases hx:Region.ready md ops l with _|⟨i,r⟩
    · rfl
    · have h1:=count_set (ready_false (md:=md) (ops:=ops) (i:=i) (by rw [hx]; simp))
      omega
   exact ⟨hr,hdone l a w hI hr⟩
 | fuel+1,l,a,w,hI,hc=>⟨fun hr=>hdone l a w hI hr,fun i hi=>by
    have h1:=count_set (ready_false hi)
    refine wpOp_mono (fun a' w' h'=>wpAny_inv I hstep hdone fuel _ a' w' h' ?_) (hstep l a w hI i hi)
    rw [Array.toList_setIfInBounds]
    omega⟩
def earlier (md:Region.Mode) (ops:Array Oper):Bool:=(List.range ops.size).all fun i=>((ops[i]?).map (·.after.all fun e => !Region.binds md e || decide (e.on < i))).getD true
theorem all_done {md:Region.Mode} {ops:Array Oper} {l:Array Bool} (he:earlier md ops=true) (hs:l.size=ops.size) (hr:Region.ready md ops l=[]):∀ i,i < ops.size→l.getD i true=true:=by
 intro i
 induction i using Nat.strongRecOn with
 | ind i ih =>
   intro hi
   rcases hb:l.getD i true with _|_
   · exfalso
     have hmem:i∈Region.ready md ops l:=by
      rw [Region.ready,List.mem_filter,List.mem_range]
      refine ⟨hi,?_⟩
      rw [hb]
      obtain ⟨o,ho⟩:∃ o,ops[i]? = some o:=⟨ops[i],Array.getElem?_eq_getElem hi⟩
      unfold earlier at he
      rw [List.all_eq_true] at he
      have h1:=he i (List.mem_range.2 hi)
      rw [ho] at h1 ⊢
      simp only [Option.map_some,Option.getD_some,Bool.not_false,Bool.true_and] at h1 ⊢
      rw [Array.all_eq_true_iff_forall_mem] at h1 ⊢
      intro e hem
      have h1e:=h1 e hem
      rcases hbd:Region.binds md e with _|_
      · rfl
      rw [hbd] at h1e
      have h2:e.on < i:=of_decide_eq_true (by simpa using h1e)
      have h3:=ih e.on h2 (by omega)
      have h4:l.getD e.on false=l.getD e.on true:=by
       have h5:e.on < l.size:=by omega
       simp [h5]
      rw [h4,h3]
      rfl
     rw [hr] at hmem
     cases hmem
   · rfl
theorem wp_region_inv {P:Program} {ops:Array Oper} {Q:Exit→Act→World→Prop} {id:Nat} {a:Act} {w:World} (hm:P.follows .mixedOrders=true) (he:earlier .any ops=true) (I:Array Bool→Act→World→Prop)
 (h0:I (Array.replicate ops.size false) a w.drew)
 (hsz:∀ l a w,I l a w→l.size=ops.size)
 (hstep:∀ l a w,I l a w→∀ i∈Region.ready .any ops l,wpOp P ops Q i (fun a' w'=>I (l.setIfInBounds i true) a' w') a w)
 (hdone:∀ l a w,I l a w→(∀ i,i < ops.size→l.getD i true=true)→Q .normal a w):(Code.region id ops true).wp P Q a w :=
 wp_region_any hm (wpAny_inv I hstep (fun l a w hI hr=>hdone l a w hI (all_done he (hsz l a w hI) hr)) _ _ _ _ h0 (by simp))
theorem wp_region_rec {X:Type} {P:Program} {ops:Array Oper} {Q:Exit→Act→World→Prop} {id:Nat} {a:Act} {w:World} (hm:P.follows .mixedOrders=true) (he:earlier .any ops=true) (fl:X→Array Bool) (fa:X→Act) (J:X→World→Prop) (x0:X)
 (hl0:Array.replicate ops.size false=fl x0) (ha0:a=fa x0) (h0:J x0 w.drew)
 (hsz:∀ x,(fl x).size=ops.size)
 (hstep:∀ x w,J x w→∀ i∈Region.ready .any ops (fl x),wpOp P ops Q i (fun a' w'=>∃ x',(fl x).setIfInBounds i true=fl x'∧a'=fa x'∧J x' w') (fa x) w)
 (hdone:∀ x w,J x w→(∀ i,i < ops.size→(fl x).getD i true=true)→Q .normal (fa x) w):(Code.region id ops true).wp P Q a w :=
 wp_region_inv hm he (fun l a w=>∃ x,l=fl x∧a=fa x∧J x w) ⟨x0,hl0,ha0,h0⟩
  (fun l a w ⟨x,hl,_,_⟩=>by rw [hl]; exact hsz x)
  (fun l a w ⟨x,hl,ha,hJ⟩ i hi=>by
   subst hl
   subst ha
   exact hstep x w hJ i hi)
  (fun l a w ⟨x,hl,ha,hJ⟩ hall=>by
   subst hl
   subst ha
   exact hdone x w hJ hall)
theorem inv_op {P:Program} {ops:Array Oper} {Q:Exit→Act→World→Prop} {i:Nat} {o:Oper} {I:Act→World→Prop} {a:Act} {w:World} (ho:ops[i]? = some o)
 (h:∀ K':Act→World→Prop,Shut (∀ a w,I a w→K' a w)→if Region.wanted o (yielded ops a.tmps)=true then Oper.wp P o a w K' Q else K' (a.put o.dst undef) w):wpOp P ops Q i I a w :=
 wpOp_step ho (fun K' hK=>h K' hK)
theorem Upd {a b r:Prop} (x:b) (h:a∧r):b∧r:=⟨x,h.2⟩
theorem Nxt {a r s:Prop} (f:r→s) (h:a∧r):a∧s:=⟨h.1,f h.2⟩
theorem Nx4 {a b c d r s:Prop} (f:r→s) (h:a∧b∧c∧d∧r):a∧b∧c∧d∧s:=Nxt (Nxt (Nxt (Nxt f))) h
theorem Nx16 {a0 a1 a2 a3 a4 a5 a6 a7 a8 a9 b0 b1 b2 b3 b4 b5 r s:Prop} (f:r→s) (h:a0∧a1∧a2∧a3∧a4∧a5∧a6∧a7∧a8∧a9∧b0∧b1∧b2∧b3∧b4∧b5∧r):a0∧a1∧a2∧a3∧a4∧a5∧a6∧a7∧a8∧a9∧b0∧b1∧b2∧b3∧b4∧b5∧s:=Nx4 (Nx4 (Nx4 (Nx4 f))) h
theorem one_cell {W:World} {g:Nat} {v:Value} {t:TypeId} (h:W.heap[g]? = some (.cells #[v] t (0,0))):W.cell? ⟨g,0,none⟩=some v∧W.frozen? ⟨g,0,none⟩=false:=by
 refine ⟨?_,?_⟩
 · unfold World.cell?; rw [h]; rfl
 · unfold World.frozen?; rw [h]; rfl
theorem one_set {W:World} {g:Nat} {v:Value} {t:TypeId} {fr:Nat × Nat} (h:W.heap[g]? = some (.cells #[v] t fr)) (r:Value):(W.setCell ⟨g,0,none⟩ r).heap[g]? = some (.cells #[r] t fr):=by
 simp [World.setCell,Array.getElem?_modify,h]
theorem one_other {W:World} {g:Nat} {o:Obj} (h:W.heap[g]? = some o) (a:Addr) (r:Value) (hne:a.block≠g):(W.setCell a r).heap[g]? = some o:=by
 simp [World.setCell,Array.getElem?_modify,hne,h]
theorem second_row {w w1:World} {u v:Value} {s t:TypeId} (hb:Below ((w.alloc (.cells #[u] s)).alloc (.cells #[v] t)).heap.size ((w.alloc (.cells #[u] s)).alloc (.cells #[v] t)) w1) :
 w1.heap[w.heap.size]? = some (.cells #[u] s)∧w1.heap[w.heap.size+1]? = some (.cells #[v] t):=by
 have h0:=hb.block w.heap.size (by simp; omega)
 have h1:=hb.block (w.heap.size+1) (by simp)
 have h2:((w.alloc (.cells #[u] s)).alloc (.cells #[v] t)).heap[w.heap.size+1]? = some (.cells #[v] t):=by simpa using heap_alloc_new (w.alloc (.cells #[u] s)) (.cells #[v] t)
 have h3:((w.alloc (.cells #[u] s)).alloc (.cells #[v] t)).heap[w.heap.size]? = some (.cells #[u] s):=by
  rw [heap_alloc_old (w.alloc (.cells #[u] s)) _ (by simp)]
  exact heap_alloc_new w _
 exact ⟨h0.trans h3,h1.trans h2⟩
structure PutNumX where
 (b0 b1 b2 b3 b4 b5 b6 b7 b8 b9:Bool)
 (s19 s20 s21 s22 s23 s24 s25 s26 s9:Value)
set_option maxHeartbeats 4000000 in
set_option maxRecDepth 100000 in
theorem putNum_in (v:Value) (l:List UInt8) (w:World) (hv:IsArg w v l) (z:Int) (k n:Nat) (hk0:1≤k) (hk8:k≤8) (hl:l.length≤8192) :
 Calls Tryz.prog 27 #[.agg #[v],.int .i64 z,.int .i64 k,.int .u64 n] w fun e w'=>∃ r,e=.returned (.tuple #[.agg #[r],.int .i64 (faultOf l.length z k)])∧Given w' w.heap.size v l r (putOf l z (leB n k))∧Below w.heap.size w w':=by
 obtain ⟨a,c,hsh,_⟩:=hv.shape
 obtain ⟨N,hN⟩:∃ N,N=l.length:=⟨_,rfl⟩
 obtain ⟨F,hF⟩:∃ F,F=faultOf l.length z k:=⟨_,rfl⟩
 obtain ⟨G,hG⟩:∃ G,G=putOf l z (leB n k):=⟨_,rfl⟩
 obtain ⟨B,hB⟩:∃ B,B=w.heap.size:=⟨_,rfl⟩
 rw [←hF,←hG]
 rw [←hN] at hsh
 subst hsh
 have HV:=Zh hv
 have HLE:=Zh (show ∀ W,Calls Tryz.prog 58 #[.int .u64 n,.int .i64 k] W fun e w'=>∃ u,e=.returned u∧IsArg w' u (leB n k)∧Below W.heap.size W w' from
  fun W=>(le_any n k k (clamped_of k hk8) W).mono fun e w' ⟨u,h1,h2,h3⟩=>⟨u,h1,isArg_of_owns (l:=leB n k) (by rw [leB_length]; exact h2),h3⟩)
 have HPUT:=Zh (show ∀ W,Below B w W→B+2≤W.heap.size→∀ u,IsArg W u (leB n k)→Calls Tryz.prog 41 #[.agg #[.slice a N c],.int .i64 z,u] W fun e w'=>∃ r,e=.returned (.tuple #[.agg #[r],.int .i64 F])∧Given w' (B+2) (.slice a N c) l r G∧Below W.heap.size W w' from
  fun W hb hz u hu=>(put_any _ l u (leB n k) W (hv.below (by rw [←hB]; exact hb)) hu z (by omega) (by rw [leB_length]; omega)).mono fun e w' ⟨r,h1,h2,h3⟩=>by
   rw [leB_length,←hF] at h1
   rw [←hG] at h2
   exact ⟨r,h1,.inr (ownsRow_base h2 hz),h3⟩)
 have HBA:=Zh (((Below.refl w.heap.size w).alloc (Nat.le_refl _) (.cells #[.slice a N c] 24)).alloc (by simp) (.cells #[.slice none 0 0] 24))
 have HB:=Zh hB
 have HNL:=Zh (show N≤maxLen by unfold maxLen; omega)
 have HN:=Zh hN
 have HFF:=Zh hF
 have HGG:=Zh hG
 have HS:=Zh (show sizeFaultOf N k=0 from by unfold sizeFaultOf; rw [if_pos (by omega),if_pos (by omega)])
 clear hv hl hN hF hG hk0 hk8 hB
 go_enter Tryz.func27,Tryz.ntmps27
 go_wp2_with fail
 refine (sizeFault_any _ _ _ HNL.out _ _).mono ?_
 rintro e W0 ⟨rfl,hb⟩
 rw [HS.out]
 have hrow:=second_row hb
 have HW:=Zh (show Below B w W0 by rw [HB.out]; exact HBA.out.trans (hb.mono (by simp; omega)))
 have HZ:=Zh (show B+2≤W0.heap.size by have:=hb.size; simp at this; rw [HB.out]; omega)
 rw [←HB.out] at hrow
 have HE:=Zh hrow.1
 have HN2:=Zh hrow.2
 clear hb hrow
 go_upto_region 4 with fail
 rw [←HB.out]
 refine wp_region_rec (X:=PutNumX) (by kernel_rfl) (by kernel_rfl) (fun x=>#[x.b0,x.b1,x.b2,x.b3,x.b4,x.b5,x.b6,x.b7,x.b8,x.b9]) (fun x=>{ tmps:=#[.agg #[.slice a N c],.int .i64 z,.int .i64 k,.int .u64 n,.pointer (some ⟨B,0,none⟩),undef,undef,undef,.pointer (some ⟨B+1,0,none⟩),x.s9,.int .i64 0,.agg #[.slice a N c],.int .i64 k,.int .i64 0,.int .i64 0,.bool false,undef,undef,undef,x.s19,x.s20,x.s21,x.s22,x.s23,x.s24,x.s25,x.s26],defers:=[] }) (fun x W=>(x.b0→x.s19=.agg #[.slice a N c])∧(x.b1→x.s20=.int .i64 z)∧(x.b2→x.s21=.int .u64 n)∧(x.b3→x.s22=.int .i64 k)∧(x.b7→x.s26=.int .i64 F)∧(x.b9→x.s9=.int .i64 F)∧(x.b5=false→x.b4→IsArg W x.s23 (leB n k))∧(x.b5→∃ r,x.s24=.tuple #[.agg #[r],.int .i64 F]∧Given W (B+2) (.slice a N c) l r G)∧(x.b6→∃ r,x.s25=.agg #[r]∧Given W (B+2) (.slice a N c) l r G)∧(W.heap[B]? = some (.cells #[.slice a N c] 24 (0,0)))∧(x.b8=false→W.heap[B+1]? = some (.cells #[.slice none 0 0] 24 (0,0)))∧(x.b8→∃ r,W.heap[B+1]? = some (.cells #[r] 24 (0,0))∧Given W (B+2) (.slice a N c) l r G)∧(Below B w W)∧(B+2≤W.heap.size)) ⟨false,false,false,false,false,false,false,false,false,false,undef,undef,undef,undef,undef,undef,undef,undef,.int .i64 0⟩ rfl rfl ⟨Zf,Zf,Zf,Zf,Zf,Zf,(fun _ h=>by cases h),Zf,Zf,HE.out,(fun _=>HN2.out),Zf,HW.out.drew,HZ.out⟩ (fun _=>rfl) ?hstep ?hdone
 case hstep =>
  rintro ⟨b0,b1,b2,b3,b4,b5,b6,b7,b8,b9,s19,s20,s21,s22,s23,s24,s25,s26,s9⟩ W hI i hi
  dsimp only at hI hi ⊢
  have HI:=Zh hI
  clear hI
  rw [Region.ready,List.mem_filter,List.mem_range] at hi
  obtain ⟨hlt,hp⟩:=hi
  have hi7:i=0∨i=1∨i=2∨i=3∨i=4∨i=5∨i=6∨i=7∨i=8∨i=9:=by simp at hlt; omega
  clear hlt
  rcases hi7 with rfl|rfl|rfl|rfl|rfl|rfl|rfl|rfl|rfl|rfl
  all_goals simp [Region.binds] at hp
  · obtain rfl:b0=false:=by revert hp; cases b0 <;> simp
    clear hp; refine Zv 19 fun K' hK'=>?_
    have gE:=(Ze HI.out).2.1
    obtain ⟨hc1,hc2⟩:=one_cell gE
    go_simp
    exact hK'.out _ _ ⟨.mk ..,rfl,rfl,(Upd (fun _=>rfl)) HI.out⟩
  · obtain rfl:b1=false:=by revert hp; cases b1 <;> simp
    clear hp; refine Zv 20 fun K' hK'=>?_
    go_simp
    exact hK'.out _ _ ⟨.mk ..,rfl,rfl,Nxt (Upd (fun _=>rfl)) HI.out⟩
  · obtain rfl:b2=false:=by revert hp; cases b2 <;> simp
    clear hp; refine Zv 21 fun K' hK'=>?_
    go_simp
    exact hK'.out _ _ ⟨.mk ..,rfl,rfl,Nxt (Nxt (Upd (fun _=>rfl))) HI.out⟩
  · obtain rfl:b3=false:=by revert hp; cases b3 <;> simp
    clear hp; refine Zv 22 fun K' hK'=>?_
    go_simp
    exact hK'.out _ _ ⟨.mk ..,rfl,rfl,Nxt (Nxt (Nxt (Upd (fun _=>rfl)))) HI.out⟩
  · obtain ⟨rfl,e2,e3⟩:b4=false∧b2=true∧b3=true:=by revert hp; cases b4 <;> cases b2 <;> cases b3 <;> simp
    clear hp
    obtain rfl:=(HI.out.2.2.1) e2
    obtain rfl:=(HI.out.2.2.2.1) e3
    refine Zv 23 fun K' hK'=>?_
    go_simp
    refine (HLE.out W).mono ?_
    rintro e w1 ⟨u,rfl,hu,bn⟩
    obtain ⟨h0,h1,h2,h3,h7,h9,gL,gT,gR,gE,gN,gS,gW,gZ⟩:=HI.out
    exact hK'.out _ _ ⟨.mk ..,rfl,rfl,h0,h1,h2,h3,h7,h9,(fun _ _=>hu),(fun h=>by obtain ⟨r,h1,h2⟩:=gT h; exact ⟨r,h1,h2.below bn⟩),(fun h=>by obtain ⟨r,h1,h2⟩:=gR h; exact ⟨r,h1,h2.below bn⟩),((bn.block _ (Array.getElem?_eq_some_iff.1 gE).1).trans gE),(fun h=>(bn.block _ (Array.getElem?_eq_some_iff.1 (gN h)).1).trans (gN h)),(fun h=>by obtain ⟨r,h1,h2⟩:=gS h; exact ⟨r,(bn.block _ (Array.getElem?_eq_some_iff.1 h1).1).trans h1,h2.below bn⟩),(gW.trans (bn.mono (by omega))),(Nat.le_trans gZ bn.size)⟩
  · have hn5:b5=false:=by revert hp; cases b5 <;> simp
    have e0:b0=true:=by revert hp; cases b0 <;> simp
    have e1:b1=true:=by revert hp; cases b1 <;> simp
    have e4:b4=true:=by revert hp; cases b4 <;> simp
    clear hp
    obtain rfl:=(HI.out.1) e0
    obtain rfl:=(HI.out.2.1) e1
    subst hn5
    refine Zv 24 fun K' hK'=>?_
    have gL:=(Zd HI.out).2.2.1
    have gW:=(Zd (Ze HI.out)).1
    have gZ:=(Zd (Ze HI.out)).2
    have hu:=gL rfl e4
    go_simp
    refine (HPUT.out W gW gZ _ hu).mono ?_
    rintro e w1 ⟨r9,rfl,hr9,bn⟩
    obtain ⟨h0,h1,h2,h3,h7,h9,gL,gT,gR,gE,gN,gS,gW,gZ⟩:=HI.out
    exact hK'.out _ _ ⟨.mk ..,rfl,rfl,h0,h1,h2,h3,h7,h9,Zf,(fun _=>⟨r9,rfl,hr9⟩),(fun h=>by obtain ⟨r,h1,h2⟩:=gR h; exact ⟨r,h1,h2.below bn⟩),((bn.block _ (Array.getElem?_eq_some_iff.1 gE).1).trans gE),(fun h=>(bn.block _ (Array.getElem?_eq_some_iff.1 (gN h)).1).trans (gN h)),(fun h=>by obtain ⟨r,h1,h2⟩:=gS h; exact ⟨r,(bn.block _ (Array.getElem?_eq_some_iff.1 h1).1).trans h1,h2.below bn⟩),(gW.trans (bn.mono (by omega))),(Nat.le_trans gZ bn.size)⟩
  · obtain ⟨rfl,e5⟩:b6=false∧b5=true:=by revert hp; cases b6 <;> cases b5 <;> simp
    clear hp; refine Zv 25 fun K' hK'=>?_
    have gT:=(Zd HI.out).2.2.2.1
    obtain ⟨r9,hs9,hr9⟩:=gT e5
    subst hs9
    go_simp
    exact hK'.out _ _ ⟨.mk ..,rfl,rfl,Nx4 (Nx4 (Upd (fun _=>⟨r9,rfl,hr9⟩))) HI.out⟩
  · obtain ⟨rfl,e5⟩:b7=false∧b5=true:=by revert hp; cases b7 <;> cases b5 <;> simp
    clear hp; refine Zv 26 fun K' hK'=>?_
    have gT:=(Zd HI.out).2.2.2.1
    obtain ⟨r9,hs9,hr9⟩:=gT e5
    subst hs9
    go_simp
    exact hK'.out _ _ ⟨.mk ..,rfl,rfl,Nx4 (Upd (fun _=>rfl)) HI.out⟩
  · obtain ⟨rfl,e5,e6⟩:b8=false∧b5=true∧b6=true:=by revert hp; cases b8 <;> cases b5 <;> cases b6 <;> simp
    clear hp
    refine inv_op (o:=⟨none,_,_,_,_,_⟩) rfl (fun K' hK'=>?_)
    have gR:=(Ze HI.out).1
    have gN:=(Ze HI.out).2.2.1
    obtain ⟨r9,hs9,hr9⟩:=gR e6
    subst hs9
    obtain ⟨ra,rn,rc,hsh⟩:=hr9.shape HV.out
    subst hsh
    have hN:=gN rfl
    obtain ⟨hc1,hc2⟩:=one_cell hN
    go_simp
    obtain ⟨h0,h1,h2,h3,h7,h9,gL,gT,gR,gE,gN,gS,gW,gZ⟩:=HI.out
    exact hK'.out _ _ ⟨.mk ..,rfl,rfl,h0,h1,h2,h3,h7,h9,(fun h=>by rw [e5] at h; cases h),(fun h=>by obtain ⟨r,h1,h2⟩:=gT h; exact ⟨r,h1,h2.set _ _ (by show B+1 < B+2; omega)⟩),(fun _=>⟨_,rfl,hr9.set _ _ (by show B+1 < B+2; omega)⟩),(Zp1 gE (by show B+1≠B; omega)),Zf,(fun _=>⟨_,one_set hN _,hr9.set _ _ (by show B+1 < B+2; omega)⟩),(gW.setCell (show B≤B+1 by omega) _),(by simpa [World.setCell] using gZ)⟩
  · obtain ⟨rfl,e7⟩:b9=false∧b7=true:=by revert hp; cases b9 <;> cases b7 <;> simp
    clear hp
    obtain rfl:=((Zd HI.out).1) e7
    refine Zv 9 fun K' hK'=>?_
    go_simp
    exact hK'.out _ _ ⟨.mk ..,rfl,rfl,Nxt (Nx4 (Upd (fun _=>rfl))) HI.out⟩
 case hdone =>
  rintro ⟨b0,b1,b2,b3,b4,b5,b6,b7,b8,b9,s19,s20,s21,s22,s23,s24,s25,s26,s9⟩ W hI hall
  dsimp only at hI hall ⊢
  have HI:=Zh hI
  clear hI
  obtain rfl:b8=true:=hall 8 (by decide)
  obtain rfl:b9=true:=hall 9 (by decide)
  obtain rfl:=((Zd HI.out).2.1) rfl
  have gS:=(Ze HI.out).2.2.2.1
  have gW:=(Zd (Ze HI.out)).1
  clear HI hall
  obtain ⟨r,hr1,hr2⟩:=gS rfl
  have hc:=(one_cell hr1).1
  obtain ⟨ra,rn,rc,hsh⟩:=hr2.shape HV.out
  subst hsh
  have HR2:=Zh (hr2.base (show B≤B+2 by omega))
  have HW2:=Zh gW
  clear gS gW hr1 hr2
  go_wp2
  refine bodyPost_ret (v:=.tuple #[.agg #[.slice ra rn rc],.int .i64 F]) (by simp [results,Tryz.results27,go_sem,hc]) rfl ⟨_,rfl,?_,?_⟩
  · rw [←HB.out]; exact HR2.out
  · rw [←HB.out]; exact HW2.out
structure RefPutNumX where
 (b0 b1 b2 b3 b4 b5 b6 b7 b8 b9:Bool)
 (s21 s22 s23 s24 s25 s26 s27 s28 s9:Value)
def putNumOf (l:List UInt8) (x y:Int) (n:Nat):List UInt8:=if sizeFaultOf l.length y=0 then putOf l x (leB n y.toNat) else l
set_option maxHeartbeats 1000000 in
theorem putNum_any (v:Value) (l:List UInt8) (w:World) (hv:IsArg w v l) (x y:Int) (n:Nat) (hl:l.length≤140737488355328) :
 Calls Tryz.prog 27 #[.agg #[v],.int .i64 x,.int .i64 y,.int .u64 n] w fun e w'=>∃ r,e=.returned (.tuple #[.agg #[r],.int .i64 (numFaultOf l.length x y)])∧Given w' w.heap.size v l r (putNumOf l x y n)∧Below w.heap.size w w':=by
 by_cases h0:sizeFaultOf l.length y=0
 · obtain ⟨h1,h2,h3⟩:l.length≤8192∧1≤y∧y≤8:=by
    rcases size_cases l.length y with ⟨h,_⟩|⟨h,_⟩|⟨_,h⟩
    · omega
    · omega
    · exact h
   obtain ⟨k,rfl⟩:=Int.eq_ofNat_of_zero_le (show 0≤y by omega)
   unfold numFaultOf putNumOf
   rw [if_pos h0,if_pos h0,Int.toNat_natCast]
   exact putNum_in v l w hv x k n (by omega) (by omega) h1
 · unfold numFaultOf putNumOf
   rw [if_neg h0,if_neg h0]
   obtain ⟨a,c,rfl,hq⟩:=hv.shape
   obtain ⟨s,hs⟩:∃ s,s=sizeFaultOf l.length y:=⟨_,rfl⟩
   rw [←hs] at h0
   rw [←hs]
   have HS:=Zh hs
   have HV:=Zh hv
   have HL:=Zh hl
   have HNL:=Zh (show l.length≤maxLen by unfold maxLen; omega)
   have HBA:=Zh (((Below.refl w.heap.size w).alloc (Nat.le_refl _) (.cells #[.slice a l.length c] 24)).alloc (by simp) (.cells #[.slice none 0 0] 24))
   clear hs hv hl hq
   go_enter Tryz.func27,Tryz.ntmps27
   go_wp2_with fail
   refine (sizeFault_any _ _ _ HNL.out _ _).mono ?_
   rintro e w1 ⟨rfl,hb⟩
   rw [←HS.out]
   have HB1:=Zh hb
   have HB1w:=Zh (HBA.out.trans (hb.mono (by simp; omega)))
   have hcl:=(second_box hb).1
   clear hb
   go_wp2_with fail
   refine (same_any _ _ _ (HV.out.below HB1w.out) HL.out).mono ?_
   rintro e w2 ⟨r,rfl,hr,hb⟩
   have HB2:=Zh (HB1.out.trans (hb.mono HB1.out.size))
   have HB2w:=Zh (HBA.out.trans (HB2.out.mono (by simp; omega)))
   have HR:=Zh hr
   obtain ⟨_,hold,hfz,hlt⟩:=second_box HB2.out
   obtain ⟨ra,rc,rfl,_⟩:=(isArg_of_owns hr).shape
   clear hr hb hcl
   go_wp2
   refine bodyPost_ret (v:=.tuple #[.agg #[.slice ra l.length rc],.int .i64 s]) (by simp [results,Tryz.results27,go_sem,hold]) rfl ⟨_,rfl,?_,?_⟩
   · exact .inr (ownsRow_base (ownsRow_set HR.out _ _ (by have:=HB1.out.size; simp at this ⊢; omega)) HB1w.out.size)
   · exact HB2w.out.setCell (by simp) _
theorem row_keep {w w':World} {g:Nat} {o:Obj} (h:w.heap[g]? = some o) (hb:Below w.heap.size w w'):w'.heap[g]? = some o:=(hb.block g (Array.getElem?_eq_some_iff.1 h).1).trans h
theorem cells_two {X:World} {r:Nat} {a b:Value} {t:TypeId} (h:X.heap[r]? = some (.cells #[a,b] t (0,0))):X.cell? ⟨r,0,none⟩=some a∧X.cell? ⟨r,1,none⟩=some b∧X.frozen? ⟨r,0,none⟩=false∧X.frozen? ⟨r,1,none⟩=false:=by
 refine ⟨?_,?_,?_,?_⟩
 · unfold World.cell?; rw [h]; rfl
 · unfold World.cell?; rw [h]; rfl
 · unfold World.frozen?; rw [h]; simp
 · unfold World.frozen?; rw [h]; simp
theorem tne:(148:Nat)≠3:=by decide
theorem row_put2 {X:World} {r g:Nat} {cs ds:Array Value} {s t:TypeId} {fr fs:Nat × Nat} {u v:Value} (h:X.heap[g]? = some (.cells cs s fr)) (hr:X.heap[r]? = some (.cells ds t fs)) (hne:(t:Nat)≠s):((X.setCell ⟨r,0,none⟩ u).setCell ⟨r,1,none⟩ v).heap[g]? = some (.cells cs s fr):=by
 have hgr:r≠g:=by
  intro he
  subst he
  rw [h] at hr
  injection hr with hr
  injection hr with _ hr
  exact hne hr.symm
 exact one_other (one_other h ⟨r,0,none⟩ u hgr) ⟨r,1,none⟩ v hgr
theorem isSize_any (z:Int) (r:Bool) (hr:rightB z=r) (w:World):Calls Tryz.prog 72 #[.int .i64 z] w fun e w'=>e=.returned (.bool r)∧w'=w:=by
 cases r with
 | true =>
   obtain ⟨N,rfl,hN⟩:=right_of hr
   clear hr
   rcases hN with rfl|rfl|rfl|rfl|rfl
   all_goals
    go_enter Tryz.func72,Tryz.ntmps72
    go_wp2
    go_ret
    exact ⟨rfl,rfl⟩
 | false =>
   have h:=of_decide_eq_false hr
   have h1:(z == 1)=false:=by rw [beq_eq_false_iff_ne]; omega
   have h2:(z == 2)=false:=by rw [beq_eq_false_iff_ne]; omega
   have h4:(z == 4)=false:=by rw [beq_eq_false_iff_ne]; omega
   have h8:(z == 8)=false:=by rw [beq_eq_false_iff_ne]; omega
   have h16:(z == 16)=false:=by rw [beq_eq_false_iff_ne]; omega
   clear h hr
   go_enter Tryz.func72,Tryz.ntmps72
   go_wp2
   go_ret
   exact ⟨rfl,rfl⟩
def RowAt (w:World) (a b:Nat) (s k:Int):Prop:=w.heap[a]? = some (.cells #[.int .i64 s] 3 (0,0))∧w.heap[b]? = some (.cells #[.int .i64 k] 3 (0,0))
theorem RowAt.below {w w':World} {a b:Nat} {s k:Int} (h:RowAt w a b s k) (hb:Below w.heap.size w w'):RowAt w' a b s k:=⟨row_keep h.1 hb,row_keep h.2 hb⟩
theorem two_new (w:World) (u v:Value) (s t:TypeId):((w.alloc (.cells #[u] s)).alloc (.cells #[v] t)).heap[w.heap.size]? = some (.cells #[u] s (0,0))∧((w.alloc (.cells #[u] s)).alloc (.cells #[v] t)).heap[w.heap.size+1]? = some (.cells #[v] t (0,0))∧Below w.heap.size w ((w.alloc (.cells #[u] s)).alloc (.cells #[v] t)):=by
 refine ⟨row_keep (heap_alloc_new w _) ((Below.refl _ _).alloc (Nat.le_refl _) _),by simpa using heap_alloc_new (w.alloc (.cells #[u] s)) (.cells #[v] t),((Below.refl _ _).alloc (Nat.le_refl _) _).alloc (by simp) _⟩
theorem row_any (s k:Int) (w:World):Calls Tryz.prog 138 #[.int .i64 s,.int .i64 k] w fun e w'=>∃ a b,e=.returned (.func (.func 142) #[] #[.pointer (some ⟨a,0,none⟩),.pointer (some ⟨b,0,none⟩)])∧RowAt w' a b s k∧Below w.heap.size w w':=by
 obtain ⟨h1,h2,h3⟩:=two_new w (.int .i64 s) (.int .i64 k) 3 3
 have H1:=Zh h1
 have H2:=Zh h2
 have H3:=Zh h3
 clear h1 h2 h3
 go_enter Tryz.func138,Tryz.ntmps138
 go_wp2
 go_ret
 exact ⟨_,_,rfl,⟨H1.out,by simpa using H2.out⟩,H3.out⟩
theorem row1_any (a b:Nat) (s k z q t:Int) (hq:z * k=q) (ht:s+q=t) (hq1 : -9223372036854775808≤q∧q≤9223372036854775807) (ht1 : -9223372036854775808≤t∧t≤9223372036854775807) (w:World) (h:RowAt w a b s k) :
 Calls Tryz.prog 142 #[.int .i64 z,.pointer (some ⟨a,0,none⟩),.pointer (some ⟨b,0,none⟩)] w fun e w'=>e=.returned (.int .i64 t)∧w'=w:=by
 obtain ⟨c1,f1⟩:=one_cell h.1
 obtain ⟨c2,f2⟩:=one_cell h.2
 obtain ⟨q1,q2⟩:=hq1
 have w1:IntKind.i64.wrap q=q:=IntWalk.i64_in _ (by omega)
 have w2:IntKind.i64.wrap t=t:=IntWalk.i64_in _ (by omega)
 clear h f1 f2 q1 q2 ht1
 go_enter Tryz.func142,Tryz.ntmps142
 go_wp2
 go_ret
 exact ⟨rfl,rfl⟩
theorem descs_any (s:Int) (w:World):Calls Tryz.prog 123 #[.int .i64 s] w fun e w'=>∃ a b,e=.returned (.func (.func 142) #[] #[.pointer (some ⟨a,0,none⟩),.pointer (some ⟨b,0,none⟩)])∧RowAt w' a b s 16∧Below w.heap.size w w':=by
 go_enter Tryz.func123,Tryz.ntmps123
 go_wp2_with fail
 refine (row_any _ _ _).mono ?_
 rintro e w1 ⟨a,b,rfl,hr,hb⟩
 have HR:=Zh hr
 have HB:=Zh hb
 clear hr hb
 go_wp2
 go_ret
 exact ⟨_,_,rfl,HR.out,HB.out⟩
theorem partAt_any (s k p q:Int) (hp:s+2=p) (hq:p+2=q) (h1:0≤s) (h2:s≤1000000) (w:World):Calls Tryz.prog 119 #[.int .i64 s,.int .i64 k] w fun e w'=>∃ a b,e=.returned (.agg #[.int .i64 p,.func (.func 142) #[] #[.pointer (some ⟨a,0,none⟩),.pointer (some ⟨b,0,none⟩)]])∧RowAt w' a b q k∧Below w.heap.size w w':=by
 have wp:IntKind.i64.wrap p=p:=IntWalk.i64_in _ (by omega)
 have wq:IntKind.i64.wrap q=q:=IntWalk.i64_in _ (by omega)
 have HB0:=Zh ((Below.refl w.heap.size w).alloc (Nat.le_refl _) (.cells #[.int .i64 0,.nilFunc] 148))
 clear h1 h2
 go_enter Tryz.func119,Tryz.ntmps119
 go_wp2_with fail
 refine (row_any _ _ _).mono ?_
 rintro e w1 ⟨a,b,rfl,hr,hb⟩
 have HR:=Zh hr
 have hrow:=row_keep (heap_alloc_new w (.cells #[.int .i64 0,.nilFunc] 148)) hb
 obtain ⟨hc0,hc1,hz0,hz1⟩:=cells_two hrow
 have HB1:=Zh (HB0.out.trans (hb.mono (by simp)))
 have HROW:=Zh hrow
 clear hr hb hrow
 go_wp2
 refine bodyPost_ret (v:=.agg #[.int .i64 p,.func (.func 142) #[] #[.pointer (some ⟨a,0,none⟩),.pointer (some ⟨b,0,none⟩)]]) (by simp [results,Tryz.results119,go_sem,hc0,hc1]) rfl ⟨_,_,rfl,?_,?_⟩
 · exact ⟨row_put2 HR.out.1 HROW.out tne,row_put2 HR.out.2 HROW.out tne⟩
 · exact (HB1.out.setCell (by simp) _).setCell (by simp) _
theorem field_entry (x:Int) (a b:Nat) (W:World):(Instr.field 148 (.agg #[.int .i64 x,.func (.func 142) #[] #[.pointer (some ⟨a,0,none⟩),.pointer (some ⟨b,0,none⟩)]]) 1).run Tryz.prog W=.ok (.func (.func 142) #[] #[.pointer (some ⟨a,0,none⟩),.pointer (some ⟨b,0,none⟩)]) W:=by kernel_rfl
theorem field_index (x:Int) (a b:Nat) (W:World):(Instr.field 148 (.agg #[.int .i64 x,.func (.func 142) #[] #[.pointer (some ⟨a,0,none⟩),.pointer (some ⟨b,0,none⟩)]]) 0).run Tryz.prog W=.ok (.int .i64 x) W:=by kernel_rfl
theorem availPart_any (B N p q:Nat) (hp:B+16 * N+2=p) (hq:B+16 * N+4=q) (hB:B≤8192) (hN:N≤16) (w:World) :
 Calls Tryz.prog 82 #[.int .i64 (B:Nat),.int .i64 (N:Nat)] w fun e w'=>∃ a b,e=.returned (.agg #[.int .i64 (p:Nat),.func (.func 142) #[] #[.pointer (some ⟨a,0,none⟩),.pointer (some ⟨b,0,none⟩)]])∧RowAt w' a b (q:Nat) 2∧Below w.heap.size w w':=by
 obtain ⟨t,ht⟩:∃ t:Nat,t=B+16 * N:=⟨_,rfl⟩
 have HT:=Zh ht
 have HP:=Zh hp
 have HQ:=Zh hq
 have HBB:=Zh hB
 have HNN:=Zh hN
 have HB0:=Zh ((Below.refl w.heap.size w).alloc (Nat.le_refl _) (.cells #[.int .i64 0,.nilFunc] 148))
 clear ht hp hq hB hN
 go_enter Tryz.func82,Tryz.ntmps82
 go_wp2_with fail
 refine (descs_any _ _).mono ?_
 rintro e w1 ⟨a,b,rfl,hr,hb⟩
 have HR:=Zh hr
 have HROW:=Zh (row_keep (heap_alloc_new w (.cells #[.int .i64 0,.nilFunc] 148)) hb)
 have HB1:=Zh (HB0.out.trans (hb.mono (by simp)))
 clear hr hb
 go_wp2_with fail
 refine (row1_any a b _ _ (N:Nat) ((16 * N:Nat):Int) (t:Nat) (by omega) (by have:=HT.out; omega) (by have:=HNN.out; omega) (by have:=HT.out; have:=HNN.out; have:=HBB.out; omega) _ HR.out).mono ?_
 rintro e w2 ⟨rfl,rfl⟩
 go_wp2_with fail
 refine (partAt_any (t:Nat) 2 (p:Nat) (q:Nat) (by have:=HT.out; have:=HP.out; omega) (by have:=HP.out; have:=HQ.out; omega) (by omega) (by have:=HT.out; have:=HNN.out; have:=HBB.out; omega) _).mono ?_
 rintro e w3 ⟨c,d,rfl,hr,hb⟩
 have HR2:=Zh hr
 have hrow:=row_keep HROW.out hb
 have HROW2:=Zh hrow
 obtain ⟨hc0,hc1,hz0,hz1⟩:=cells_two hrow
 have HB2:=Zh (HB1.out.trans (hb.mono HB1.out.size))
 clear hr hb hrow
 go_wp2
 refine bodyPost_ret (v:=.agg #[.int .i64 (p:Nat),.func (.func 142) #[] #[.pointer (some ⟨c,0,none⟩),.pointer (some ⟨d,0,none⟩)]]) (by simp [results,Tryz.results82,go_sem,hc0,hc1]) rfl ⟨_,_,rfl,?_,?_⟩
 · exact ⟨row_put2 HR2.out.1 HROW2.out tne,row_put2 HR2.out.2 HROW2.out tne⟩
 · exact (HB2.out.setCell (by simp) _).setCell (by simp) _
set_option maxRecDepth 100000 in
theorem usedPart_any (B N p q:Nat) (hp:B+secN N+2=p) (hq:B+secN N+4=q) (hB:B≤8192) (hN:N≤16) (w:World) :
 Calls Tryz.prog 76 #[.int .i64 (B:Nat),.int .i64 (N:Nat)] w fun e w'=>∃ a b,e=.returned (.agg #[.int .i64 (p:Nat),.func (.func 142) #[] #[.pointer (some ⟨a,0,none⟩),.pointer (some ⟨b,0,none⟩)]])∧RowAt w' a b (q:Nat) 8∧Below w.heap.size w w':=by
 obtain ⟨s,hs⟩:∃ s:Nat,s=18 * N+4:=⟨_,rfl⟩
 obtain ⟨x,hx⟩:∃ x:Nat,x=(18 * N+7) / 4:=⟨_,rfl⟩
 obtain ⟨y,hy⟩:∃ y:Nat,y=secN N:=⟨_,rfl⟩
 obtain ⟨t,ht⟩:∃ t:Nat,t=B+y:=⟨_,rfl⟩
 have hxy:y=x * 4:=by rw [hy,hx]; rfl
 rw [←hy] at hp hq
 have HS:=Zh hs
 have HP:=Zh hp
 have HQ:=Zh hq
 have HBB:=Zh hB
 have HNN:=Zh hN
 have HT:=Zh ht
 have hy2:y≤300:=by omega
 have HY:=Zh hy2
 obtain ⟨v,hv⟩:∃ v:Nat,v=s+3:=⟨_,rfl⟩
 have e1:(s:Int)+4 - 1=(v:Nat):=by omega
 have e2:(v:Int) / 4=(x:Nat):=by omega
 have v1:v≤1000:=by omega
 have e3:(x:Int) * 4=(y:Nat):=by omega
 have e4:(B:Int)+(y:Nat)=(t:Nat):=by omega
 have s1:s≤1000:=by omega
 have x1:x≤1000:=by omega
 have t1:t≤10000:=by omega
 have HB0:=Zh ((Below.refl w.heap.size w).alloc (Nat.le_refl _) (.cells #[.int .i64 0,.nilFunc] 148))
 clear hs hx hy ht hv hxy hp hq hB hN hy2
 have hfe:=field_entry
 go_enter Tryz.func76,Tryz.ntmps76
 go_wp2_with fail
 refine (availPart_any 0 N (16 * N+2) (16 * N+4) (by omega) (by omega) (by omega) HNN.out _).mono ?_
 rintro e w1 ⟨a,b,rfl,hr,hb⟩
 have HR:=Zh hr
 have HROW:=Zh (row_keep (heap_alloc_new w (.cells #[.int .i64 0,.nilFunc] 148)) hb)
 have HB1:=Zh (HB0.out.trans (hb.mono (by simp)))
 clear hr hb
 go_wp2_with fail
 refine (row1_any a b _ _ (N:Nat) ((2 * N:Nat):Int) (s:Nat) (by omega) (by have:=HS.out; omega) (by have:=HNN.out; omega) (by omega) _ HR.out).mono ?_
 rintro e w2 ⟨rfl,rfl⟩
 go_wp2_with fail
 refine (partAt_any (t:Nat) 8 (p:Nat) (q:Nat) (by have:=HT.out; have:=HP.out; omega) (by have:=HP.out; have:=HQ.out; omega) (by omega) (by omega) _).mono ?_
 rintro e w3 ⟨c,d,rfl,hr,hb⟩
 have HR2:=Zh hr
 have hrow:=row_keep HROW.out hb
 have HROW2:=Zh hrow
 obtain ⟨hc0,hc1,hz0,hz1⟩:=cells_two hrow
 have HB2:=Zh (HB1.out.trans (hb.mono HB1.out.size))
 clear hr hb hrow
 go_wp2
 refine bodyPost_ret (v:=.agg #[.int .i64 (p:Nat),.func (.func 142) #[] #[.pointer (some ⟨c,0,none⟩),.pointer (some ⟨d,0,none⟩)]]) (by simp [results,Tryz.results76,go_sem,hc0,hc1]) rfl ⟨_,_,rfl,?_,?_⟩
 · exact ⟨row_put2 HR2.out.1 HROW2.out tne,row_put2 HR2.out.2 HROW2.out tne⟩
 · exact (HB2.out.setCell (by simp) _).setCell (by simp) _
set_option maxRecDepth 100000 in
theorem size_any (z r:Int) (hr:sizeZ z=r) (w:World):Calls Tryz.prog 42 #[.int .i64 z] w fun e w'=>e=.returned (.int .i64 r)∧Below w.heap.size w w':=by
 subst hr
 cases h:rightB z with
 | false =>
   have H:=Zh h
   rw [sizeZ_not h]
   clear h
   go_enter Tryz.func42,Tryz.ntmps42
   go_wp2_with fail
   refine (isSize_any _ _ H.out _).mono ?_
   rintro e w1 ⟨rfl,rfl⟩
   go_wp2
   go_ret
   exact ⟨rfl,Below.refl _ _⟩
 | true =>
   have H:=Zh h
   obtain ⟨N,rfl,hN⟩:=right_of h
   rw [sizeZ_of hN]
   obtain ⟨s,hs⟩:∃ s:Nat,s=sizeN N:=⟨_,rfl⟩
   obtain ⟨y,hy⟩:∃ y:Nat,y=secN N:=⟨_,rfl⟩
   have hsy:=sizeN_le N
   rw [←hs,←hy] at hsy
   rw [←hs]
   have HSY:=Zh hsy
   have HY:=Zh hy
   have HN:=Zh hN.le
   clear h hN hs hy hsy
   have hfe:=field_entry
   go_enter Tryz.func42,Tryz.ntmps42
   go_wp2_with fail
   refine (isSize_any _ _ H.out _).mono ?_
   rintro e w1 ⟨rfl,rfl⟩
   go_wp2_with fail
   refine (usedPart_any 0 N (y+2) (y+4) (by have:=HY.out; omega) (by have:=HY.out; omega) (by omega) HN.out.2 _).mono ?_
   rintro e w2 ⟨a,b,rfl,hr,hb⟩
   have HR:=Zh hr
   have HB:=Zh hb
   clear hr hb
   go_wp2_with fail
   refine (row1_any a b _ _ (N:Nat) ((8 * N:Nat):Int) (s:Nat) (by omega) (by have:=HSY.out; omega) (by have:=HN.out; omega) (by have:=HSY.out; have:=HN.out; omega) _ HR.out).mono ?_
   rintro e w3 ⟨rfl,rfl⟩
   go_wp2
   go_ret
   exact ⟨rfl,HB.out⟩
set_option maxRecDepth 100000 in
theorem place_any (x s k q t:Int) (a b N i j:Nat) (hj:i % N=j) (hN:1≤N∧N≤16) (hi:i < 65536) (hq:(j:Int) * k=q) (ht:s+q=t) (hq1 : -9223372036854775808≤q∧q≤9223372036854775807) (ht1 : -9223372036854775808≤t∧t≤9223372036854775807) (w:World) (hr:RowAt w a b s k) :
 Calls Tryz.prog 85 #[.agg #[.int .i64 x,.func (.func 142) #[] #[.pointer (some ⟨a,0,none⟩),.pointer (some ⟨b,0,none⟩)]],.int .i64 (N:Nat),.int .u16 (i:Nat)] w fun e w'=>e=.returned (.int .i64 t)∧Below w.heap.size w w':=by
 have htm:((i:Nat):Int).tmod ((N:Nat):Int)=(j:Nat):=by rw [Int.tmod_eq_emod_of_nonneg (by omega)]; omega
 have hz:¬ (N=0):=by omega
 have hwj:IntKind.i64.wrap ((j:Nat):Int)=(j:Nat):=IntWalk.i64_in _ (by have:=Nat.mod_le i N; omega)
 have hwi:IntKind.i64.wrap ((i:Nat):Int)=(i:Nat):=IntWalk.i64_in _ (by omega)
 have HQ:=Zh hq
 have HT:=Zh ht
 have HQ1:=Zh hq1
 have HT1:=Zh ht1
 have hb:=(Below.refl w.heap.size w).alloc (Nat.le_refl _) (.cells #[.int .i64 x,.func (.func 142) #[] #[.pointer (some ⟨a,0,none⟩),.pointer (some ⟨b,0,none⟩)]] 148)
 have HR:=Zh (fun n=>(hr.below hb).below (below_drewN (Below.refl _ _) n))
 have HB:=Zh hb
 clear hj hq ht hq1 ht1 hb hr
 go_enter Tryz.func85,Tryz.ntmps85
 go_wp2_with fail
 go_quiet ((go_at_call 142; refine Calls.quiet_of_same (row1_any a b s k _ q t HQ.out HT.out HQ1.out HT1.out _ (HR.out _))))
 go_wp2
 go_ret
 exact ⟨rfl,below_drewN HB.out _⟩
theorem mem_box (w:World) (a:Option Addr) (n c:Nat):∀ W,Below (w.alloc (.cells #[.slice a n c] 24)).heap.size (w.alloc (.cells #[.slice a n c] 24)) W→W.cell? ⟨w.heap.size,0,none⟩=some (.slice a n c)∧W.frozen? ⟨w.heap.size,0,none⟩=false:=fun _ h=>one_cell (row_keep (heap_alloc_new w _) h)
structure RngCheck2 where
 (b0 b1 b2 b3 b4 b5 b6 b7 b8 b9 b10 b11 b12 b13 b14 b15 b16 b17 b18 b19 b20:Bool)
 (s7 s8 s9 s10 s11 s12 s13 s14 s15 s16 s17 s18 s19 s20 s21 s22 s23 s24 s25 s26 s6:Value)
structure RngCheck4 where
 (b0 b1 b2 b3 b4 b5 b6 b7 b8 b9 b10 b11 b12 b13 b14 b15 b16 b17 b18 b19 b20:Bool)
 (s7 s8 s9 s10 s11 s12 s13 s14 s15 s16 s17 s18 s19 s20 s21 s22 s23 s24 s25 s26 s6:Value)
structure RngCheck3 where
 (b0 b1 b2 b3 b4 b5 b6 b7 b8 b9 b10 b11 b12 b13 b14 b15 b16 b17 b18 b19 b20:Bool)
 (s7 s8 s9 s10 s11 s12 s13 s14 s15 s16 s17 s18 s19 s20 s21 s22 s23 s24 s25 s26 s6:Value)
structure RngCheck1 where
 (b0 b1 b2 b3 b4 b5 b6 b7 b8 b9 b10 b11 b12 b13 b14 b15 b16 b17 b18 b19 b20:Bool)
 (s7 s8 s9 s10 s11 s12 s13 s14 s15 s16 s17 s18 s19 s20 s21 s22 s23 s24 s25 s26 s6:Value)
structure RefRngCheck2 where
 (b0 b1 b2 b3 b4 b5 b6 b7 b8 b9 b10 b11 b12 b13:Bool)
 (s7 s8 s9 s10 s11 s12 s13 s14 s15 s16 s17 s18 s19 s6:Value)
structure RefRngCheck3 where
 (b0 b1 b2 b3 b4 b5 b6 b7 b8 b9 b10 b11 b12 b13:Bool)
 (s7 s8 s9 s10 s11 s12 s13 s14 s15 s16 s17 s18 s19 s6:Value)
structure RefRngCheck1 where
 (b0 b1 b2 b3 b4 b5 b6 b7 b8 b9 b10 b11 b12 b13:Bool)
 (s7 s8 s9 s10 s11 s12 s13 s14 s15 s16 s17 s18 s19 s6:Value)
set_option maxHeartbeats 4000000 in
set_option maxRecDepth 100000 in
theorem ringCheck_any (a:Option Addr) (n c:Nat) (hn:n≤maxLen) (b z:Int) (r:Bool) (hr:okR n b z=r) (w:World) :
 Calls Tryz.prog 39 #[.agg #[.slice a n c],.int .i64 b,.int .i64 z] w fun e w'=>e=.returned (.bool r)∧Below w.heap.size w w':=by
 unfold maxLen at hn
 have HB:=Zh ((Below.refl w.heap.size w).alloc (Nat.le_refl _) (.cells #[.slice a n c] 24))
 have HM:=Zh (mem_box w a n c)
 have hn9:n≤maxLen:=by unfold maxLen; omega
 have HN:=Zh hn9
 clear hn9
 by_cases h1:n≤8192
 · cases h2:rightB z with
   | false =>
     obtain rfl:r=false:=by rw [←hr,okR,h2,Bool.false_and,Bool.and_false]
     have hd:=decide_eq_true h1
     have HC:=Zh (show ∀ W,Below (w.alloc (.cells #[.slice a n c] 24)).heap.size (w.alloc (.cells #[.slice a n c] 24)) W→Calls Tryz.prog 71 #[.agg #[.slice a n c]] W fun e w'=>e=.returned (.bool true)∧Below W.heap.size W w' from fun W _=>check_any a n c HN.out true (by rw [hd]) W)
     have HS:=Zh (show ∀ W,Calls Tryz.prog 72 #[.int .i64 z] W fun e w'=>e=.returned (.bool false)∧w'=W from fun W=>isSize_any z false h2 W)
     clear hr h1 h2 hn hd
     go_enter Tryz.func39,Tryz.ntmps39
     go_wp2_with fail
     refine wp_region_rec (X:=RngCheck2) (by kernel_rfl) (by kernel_rfl) (fun x=>#[x.b0,x.b1,x.b2,x.b3,x.b4,x.b5,x.b6,x.b7,x.b8,x.b9,x.b10,x.b11,x.b12,x.b13,x.b14,x.b15,x.b16,x.b17,x.b18,x.b19,x.b20]) (fun x=>{ tmps:=#[.agg #[.slice a n c],.int .i64 b,.int .i64 z,.pointer (some ⟨w.heap.size,0,none⟩),undef,undef,x.s6,x.s7,x.s8,x.s9,x.s10,x.s11,x.s12,x.s13,x.s14,x.s15,x.s16,x.s17,x.s18,x.s19,x.s20,x.s21,x.s22,x.s23,x.s24,x.s25,x.s26],defers:=[] }) (fun x W=>(x.b0→x.s7=.agg #[.slice a n c])∧(x.b1→x.s8=.bool true)∧(x.b2→x.s9=.bool true)∧(x.b3→x.s10=.int .i64 z)∧(x.b4→x.s11=.bool false)∧(x.b5→x.s12=.bool false)∧(x.b6→x.s13=.bool false)∧(x.b7→x.s14=undef)∧(x.b8→x.s15=undef)∧(x.b9→x.s16=.bool false)∧(x.b10→x.s17=.bool false)∧(x.b11→x.s18=undef)∧(x.b12→x.s19=undef)∧(x.b13→x.s20=undef)∧(x.b14→x.s21=undef)∧(x.b15→x.s22=undef)∧(x.b16→x.s23=undef)∧(x.b17→x.s24=undef)∧(x.b18→x.s25=undef)∧(x.b19→x.s26=.bool false)∧(x.b20→x.s6=.bool false)∧(Below (w.alloc (.cells #[.slice a n c] 24)).heap.size (w.alloc (.cells #[.slice a n c] 24)) W)) ⟨false,false,false,false,false,false,false,false,false,false,false,false,false,false,false,false,false,false,false,false,false,undef,undef,undef,undef,undef,undef,undef,undef,undef,undef,undef,undef,undef,undef,undef,undef,undef,undef,undef,undef,.bool false⟩ rfl rfl ⟨Zf,Zf,Zf,Zf,Zf,Zf,Zf,Zf,Zf,Zf,Zf,Zf,Zf,Zf,Zf,Zf,Zf,Zf,Zf,Zf,Zf,(Below.refl _ _).drew⟩ (fun _=>rfl) ?hstep ?hdone
     case hstep =>
      rintro ⟨b0,b1,b2,b3,b4,b5,b6,b7,b8,b9,b10,b11,b12,b13,b14,b15,b16,b17,b18,b19,b20,s7,s8,s9,s10,s11,s12,s13,s14,s15,s16,s17,s18,s19,s20,s21,s22,s23,s24,s25,s26,s6⟩ W hI i hi
      dsimp only at hI hi ⊢
      have HI:=Zh hI
      clear hI
      rw [Region.ready,List.mem_filter,List.mem_range] at hi
      obtain ⟨hlt,hp⟩:=hi
      have hi7:i=0∨i=1∨i=2∨i=3∨i=4∨i=5∨i=6∨i=7∨i=8∨i=9∨i=10∨i=11∨i=12∨i=13∨i=14∨i=15∨i=16∨i=17∨i=18∨i=19∨i=20:=by simp at hlt; omega
      clear hlt
      rcases hi7 with rfl|rfl|rfl|rfl|rfl|rfl|rfl|rfl|rfl|rfl|rfl|rfl|rfl|rfl|rfl|rfl|rfl|rfl|rfl|rfl|rfl
      all_goals simp [Region.binds] at hp
      · obtain rfl:b0=false:=by revert hp; cases b0 <;> simp
        clear hp; refine Zv 7 fun K' hK'=>?_
        have gW:=(Zd (Zg HI.out)).2
        obtain ⟨hc1,hc2⟩:=HM.out W gW
        go_simp
        exact hK'.out _ _ ⟨.mk ..,rfl,rfl,(Upd (fun _=>rfl)) HI.out⟩
      · obtain ⟨rfl,e0⟩:b1=false∧b0=true:=by revert hp; cases b1 <;> cases b0 <;> simp
        clear hp
        obtain rfl:=(HI.out.1) e0
        refine Zv 8 fun K' hK'=>?_
        have gW:=(Zd (Zg HI.out)).2
        go_simp
        refine (HC.out W gW).mono ?_
        rintro e w1 ⟨rfl,bn⟩
        obtain ⟨h0,h1,h2,h3,h4,h5,h6,h7,h8,h9,h10,h11,h12,h13,h14,h15,h16,h17,h18,h19,h20,gW⟩:=HI.out
        exact hK'.out _ _ ⟨.mk ..,rfl,rfl,h0,(fun _=>rfl),h2,h3,h4,h5,h6,h7,h8,h9,h10,h11,h12,h13,h14,h15,h16,h17,h18,h19,h20,(gW.trans (bn.mono gW.size))⟩
      · obtain ⟨rfl,e1⟩:b2=false∧b1=true:=by revert hp; cases b2 <;> cases b1 <;> simp
        clear hp
        obtain rfl:=(HI.out.2.1) e1
        refine Zv 9 fun K' hK'=>?_
        go_simp
        exact hK'.out _ _ ⟨.mk ..,rfl,rfl,Nxt (Nxt (Upd (fun _=>rfl))) HI.out⟩
      · obtain ⟨rfl,e2⟩:b3=false∧b2=true:=by revert hp; cases b3 <;> cases b2 <;> simp
        clear hp
        obtain rfl:=(HI.out.2.2.1) e2
        refine Zv 10 fun K' hK'=>?_
        go_simp
        exact hK'.out _ _ ⟨.mk ..,rfl,rfl,Nxt (Nxt (Nxt (Upd (fun _=>rfl)))) HI.out⟩
      · obtain ⟨rfl,e3,e2⟩:b4=false∧b3=true∧b2=true:=by revert hp; cases b4 <;> cases b3 <;> cases b2 <;> simp
        clear hp
        obtain rfl:=(HI.out.2.2.2.1) e3
        obtain rfl:=(HI.out.2.2.1) e2
        refine Zv 11 fun K' hK'=>?_
        go_simp
        refine (HS.out W).mono ?_
        rintro e w1 ⟨rfl,rfl⟩
        exact hK'.out _ _ ⟨.mk ..,rfl,rfl,Nx4 (Upd (fun _=>rfl)) HI.out⟩
      · obtain ⟨rfl,e2,e4⟩:b5=false∧b2=true∧b4=true:=by revert hp; cases b5 <;> cases b2 <;> cases b4 <;> simp
        clear hp
        obtain rfl:=(HI.out.2.2.1) e2
        obtain rfl:=((Zd HI.out).1) e4
        refine Zv 12 fun K' hK'=>?_
        go_simp
        exact hK'.out _ _ ⟨.mk ..,rfl,rfl,Nxt (Nx4 (Upd (fun _=>rfl))) HI.out⟩
      · obtain ⟨rfl,e5⟩:b6=false∧b5=true:=by revert hp; cases b6 <;> cases b5 <;> simp
        clear hp
        obtain rfl:=((Zd HI.out).2.1) e5
        refine Zv 13 fun K' hK'=>?_
        go_simp
        exact hK'.out _ _ ⟨.mk ..,rfl,rfl,Nxt (Nxt (Nx4 (Upd (fun _=>rfl)))) HI.out⟩
      · obtain ⟨rfl,e6⟩:b7=false∧b6=true:=by revert hp; cases b7 <;> cases b6 <;> simp
        clear hp
        obtain rfl:=((Zd HI.out).2.2.1) e6
        refine Zv 14 fun K' hK'=>?_
        go_simp
        exact hK'.out _ _ ⟨.mk ..,rfl,rfl,Nxt (Nxt (Nxt (Nx4 (Upd (fun _=>rfl))))) HI.out⟩
      · obtain ⟨rfl,e7,e6⟩:b8=false∧b7=true∧b6=true:=by revert hp; cases b8 <;> cases b7 <;> cases b6 <;> simp
        clear hp
        obtain rfl:=((Zd HI.out).2.2.2.1) e7
        obtain rfl:=((Zd HI.out).2.2.1) e6
        refine Zv 15 fun K' hK'=>?_
        go_simp
        exact hK'.out _ _ ⟨.mk ..,rfl,rfl,Nx4 (Nx4 (Upd (fun _=>rfl))) HI.out⟩
      · obtain ⟨rfl,e6,e8⟩:b9=false∧b6=true∧b8=true:=by revert hp; cases b9 <;> cases b6 <;> cases b8 <;> simp
        clear hp
        obtain rfl:=((Zd HI.out).2.2.1) e6
        obtain rfl:=((Ze HI.out).1) e8
        refine Zv 16 fun K' hK'=>?_
        go_simp
        exact hK'.out _ _ ⟨.mk ..,rfl,rfl,Nxt (Nx4 (Nx4 (Upd (fun _=>rfl)))) HI.out⟩
      · obtain ⟨rfl,e9⟩:b10=false∧b9=true:=by revert hp; cases b10 <;> cases b9 <;> simp
        clear hp
        obtain rfl:=((Ze HI.out).2.1) e9
        refine Zv 17 fun K' hK'=>?_
        go_simp
        exact hK'.out _ _ ⟨.mk ..,rfl,rfl,Nxt (Nxt (Nx4 (Nx4 (Upd (fun _=>rfl))))) HI.out⟩
      · obtain ⟨rfl,e10⟩:b11=false∧b10=true:=by revert hp; cases b11 <;> cases b10 <;> simp
        clear hp
        obtain rfl:=((Ze HI.out).2.2.1) e10
        refine Zv 18 fun K' hK'=>?_
        go_simp
        exact hK'.out _ _ ⟨.mk ..,rfl,rfl,Nxt (Nxt (Nxt (Nx4 (Nx4 (Upd (fun _=>rfl)))))) HI.out⟩
      · obtain ⟨rfl,e10⟩:b12=false∧b10=true:=by revert hp; cases b12 <;> cases b10 <;> simp
        clear hp
        obtain rfl:=((Ze HI.out).2.2.1) e10
        refine Zv 19 fun K' hK'=>?_
        go_simp
        exact hK'.out _ _ ⟨.mk ..,rfl,rfl,Nx4 (Nx4 (Nx4 (Upd (fun _=>rfl)))) HI.out⟩
      · obtain ⟨rfl,e12,e10⟩:b13=false∧b12=true∧b10=true:=by revert hp; cases b13 <;> cases b12 <;> cases b10 <;> simp
        clear hp
        obtain rfl:=((Zd (Ze HI.out)).1) e12
        obtain rfl:=((Ze HI.out).2.2.1) e10
        refine Zv 20 fun K' hK'=>?_
        go_simp
        exact hK'.out _ _ ⟨.mk ..,rfl,rfl,Nxt (Nx4 (Nx4 (Nx4 (Upd (fun _=>rfl))))) HI.out⟩
      · obtain ⟨rfl,e13,e10⟩:b14=false∧b13=true∧b10=true:=by revert hp; cases b14 <;> cases b13 <;> cases b10 <;> simp
        clear hp
        obtain rfl:=((Zd (Ze HI.out)).2.1) e13
        obtain rfl:=((Ze HI.out).2.2.1) e10
        refine Zv 21 fun K' hK'=>?_
        go_simp
        exact hK'.out _ _ ⟨.mk ..,rfl,rfl,Nxt (Nxt (Nx4 (Nx4 (Nx4 (Upd (fun _=>rfl)))))) HI.out⟩
      · obtain ⟨rfl,e10⟩:b15=false∧b10=true:=by revert hp; cases b15 <;> cases b10 <;> simp
        clear hp
        obtain rfl:=((Ze HI.out).2.2.1) e10
        refine Zv 22 fun K' hK'=>?_
        go_simp
        exact hK'.out _ _ ⟨.mk ..,rfl,rfl,Nxt (Nxt (Nxt (Nx4 (Nx4 (Nx4 (Upd (fun _=>rfl))))))) HI.out⟩
      · obtain ⟨rfl,e15,e10⟩:b16=false∧b15=true∧b10=true:=by revert hp; cases b16 <;> cases b15 <;> cases b10 <;> simp
        clear hp
        obtain rfl:=((Zd (Ze HI.out)).2.2.2.1) e15
        obtain rfl:=((Ze HI.out).2.2.1) e10
        refine Zv 23 fun K' hK'=>?_
        go_simp
        exact hK'.out _ _ ⟨.mk ..,rfl,rfl,Nx16 (Upd (fun _=>rfl)) HI.out⟩
      · have hn17:b17=false:=by revert hp; cases b17 <;> simp
        have e14:b14=true:=by revert hp; cases b14 <;> simp
        have e16:b16=true:=by revert hp; cases b16 <;> simp
        have e10:b10=true:=by revert hp; cases b10 <;> simp
        clear hp
        obtain rfl:=((Zd (Ze HI.out)).2.2.1) e14
        obtain rfl:=((Zg HI.out).1) e16
        obtain rfl:=((Ze HI.out).2.2.1) e10
        subst hn17
        refine Zv 24 fun K' hK'=>?_
        go_simp
        exact hK'.out _ _ ⟨.mk ..,rfl,rfl,Nxt (Nx16 (Upd (fun _=>rfl))) HI.out⟩
      · have hn18:b18=false:=by revert hp; cases b18 <;> simp
        have e11:b11=true:=by revert hp; cases b11 <;> simp
        have e17:b17=true:=by revert hp; cases b17 <;> simp
        have e10:b10=true:=by revert hp; cases b10 <;> simp
        clear hp
        obtain rfl:=((Ze HI.out).2.2.2.1) e11
        obtain rfl:=((Zg HI.out).2.1) e17
        obtain rfl:=((Ze HI.out).2.2.1) e10
        subst hn18
        refine Zv 25 fun K' hK'=>?_
        go_simp
        exact hK'.out _ _ ⟨.mk ..,rfl,rfl,Nxt (Nxt (Nx16 (Upd (fun _=>rfl)))) HI.out⟩
      · obtain ⟨rfl,e10,e18⟩:b19=false∧b10=true∧b18=true:=by revert hp; cases b19 <;> cases b10 <;> cases b18 <;> simp
        clear hp
        obtain rfl:=((Ze HI.out).2.2.1) e10
        obtain rfl:=((Zg HI.out).2.2.1) e18
        refine Zv 26 fun K' hK'=>?_
        go_simp
        exact hK'.out _ _ ⟨.mk ..,rfl,rfl,Nxt (Nxt (Nxt (Nx16 (Upd (fun _=>rfl))))) HI.out⟩
      · obtain ⟨rfl,e19⟩:b20=false∧b19=true:=by revert hp; cases b20 <;> cases b19 <;> simp
        clear hp
        obtain rfl:=((Zg HI.out).2.2.2.1) e19
        refine Zv 6 fun K' hK'=>?_
        go_simp
        exact hK'.out _ _ ⟨.mk ..,rfl,rfl,Nx4 (Nx16 (Upd (fun _=>rfl))) HI.out⟩
     case hdone =>
      rintro ⟨b0,b1,b2,b3,b4,b5,b6,b7,b8,b9,b10,b11,b12,b13,b14,b15,b16,b17,b18,b19,b20,s7,s8,s9,s10,s11,s12,s13,s14,s15,s16,s17,s18,s19,s20,s21,s22,s23,s24,s25,s26,s6⟩ W hI hall
      dsimp only at hI hall ⊢
      have HI:=Zh hI
      clear hI
      obtain rfl:b0=true:=hall 0 (by decide)
      obtain rfl:b1=true:=hall 1 (by decide)
      obtain rfl:b2=true:=hall 2 (by decide)
      obtain rfl:b3=true:=hall 3 (by decide)
      obtain rfl:b4=true:=hall 4 (by decide)
      obtain rfl:b5=true:=hall 5 (by decide)
      obtain rfl:b6=true:=hall 6 (by decide)
      obtain rfl:b7=true:=hall 7 (by decide)
      obtain rfl:b8=true:=hall 8 (by decide)
      obtain rfl:b9=true:=hall 9 (by decide)
      obtain rfl:b10=true:=hall 10 (by decide)
      obtain rfl:b11=true:=hall 11 (by decide)
      obtain rfl:b12=true:=hall 12 (by decide)
      obtain rfl:b13=true:=hall 13 (by decide)
      obtain rfl:b14=true:=hall 14 (by decide)
      obtain rfl:b15=true:=hall 15 (by decide)
      obtain rfl:b16=true:=hall 16 (by decide)
      obtain rfl:b17=true:=hall 17 (by decide)
      obtain rfl:b18=true:=hall 18 (by decide)
      obtain rfl:b19=true:=hall 19 (by decide)
      obtain rfl:b20=true:=hall 20 (by decide)
      obtain rfl:=((Zd (Zg HI.out)).1) rfl
      have gW:=(Zd (Zg HI.out)).2
      clear HI hall
      have GW:=Zh (HB.out.trans (gW.mono HB.out.size))
      clear gW
      go_wp2
      go_ret
      exact ⟨rfl,GW.out⟩
   | true =>
     have hd:=decide_eq_true h1
     have h2':=h2
     have HC:=Zh (show ∀ W,Below (w.alloc (.cells #[.slice a n c] 24)).heap.size (w.alloc (.cells #[.slice a n c] 24)) W→Calls Tryz.prog 71 #[.agg #[.slice a n c]] W fun e w'=>e=.returned (.bool true)∧Below W.heap.size W w' from fun W _=>check_any a n c HN.out true (by rw [hd]) W)
     have HS:=Zh (show ∀ W,Calls Tryz.prog 72 #[.int .i64 z] W fun e w'=>e=.returned (.bool true)∧w'=W from fun W=>isSize_any z true h2' W)
     obtain ⟨q,hq⟩:∃ q,q=sizeZ z:=⟨_,rfl⟩
     have HZ:=Zh (show ∀ W,Below (w.alloc (.cells #[.slice a n c] 24)).heap.size (w.alloc (.cells #[.slice a n c] 24)) W→Calls Tryz.prog 42 #[.int .i64 z] W fun e w'=>e=.returned (.int .i64 q)∧Below W.heap.size W w' from fun W _=>size_any z q hq.symm W)
     have hq2:0≤q∧q≤1000:=by
      obtain ⟨N,rfl,hN⟩:=right_of h2
      have h3:=sizeN_le N
      have h4:=hN.le
      rw [hq,sizeZ_of hN]
      omega
     obtain ⟨d,hd3⟩:∃ d,d=(n:Int) - q:=⟨_,rfl⟩
     have hd4:(n:Int) - q=d:=hd3.symm
     have hwd:IntKind.i64.wrap d=d:=IntWalk.i64_in _ (by omega)
     by_cases h3:0≤b
     · have hb3:decide (0≤b)=true:=decide_eq_true h3
       have hb4:decide (b≤d)=r:=by
        rw [←hr,okR,h2,hd,Bool.true_and,Bool.true_and,hd3,hq]
        congr 1
        exact propext ⟨fun h=>⟨h3,h⟩,fun h=>h.2⟩
       clear hr h1 h2 hn hd hq hq2 hd3 h3 h2'
       go_enter Tryz.func39,Tryz.ntmps39
       go_wp2_with fail
       refine wp_region_rec (X:=RngCheck4) (by kernel_rfl) (by kernel_rfl) (fun x=>#[x.b0,x.b1,x.b2,x.b3,x.b4,x.b5,x.b6,x.b7,x.b8,x.b9,x.b10,x.b11,x.b12,x.b13,x.b14,x.b15,x.b16,x.b17,x.b18,x.b19,x.b20]) (fun x=>{ tmps:=#[.agg #[.slice a n c],.int .i64 b,.int .i64 z,.pointer (some ⟨w.heap.size,0,none⟩),undef,undef,x.s6,x.s7,x.s8,x.s9,x.s10,x.s11,x.s12,x.s13,x.s14,x.s15,x.s16,x.s17,x.s18,x.s19,x.s20,x.s21,x.s22,x.s23,x.s24,x.s25,x.s26],defers:=[] }) (fun x W=>(x.b0→x.s7=.agg #[.slice a n c])∧(x.b1→x.s8=.bool true)∧(x.b2→x.s9=.bool true)∧(x.b3→x.s10=.int .i64 z)∧(x.b4→x.s11=.bool true)∧(x.b5→x.s12=.bool true)∧(x.b6→x.s13=.bool true)∧(x.b7→x.s14=.int .i64 b)∧(x.b8→x.s15=.bool true)∧(x.b9→x.s16=.bool true)∧(x.b10→x.s17=.bool true)∧(x.b11→x.s18=.int .i64 b)∧(x.b12→x.s19=.pointer (some ⟨w.heap.size,0,none⟩))∧(x.b13→x.s20=.slice a n c)∧(x.b14→x.s21=.int .i64 (n:Nat))∧(x.b15→x.s22=.int .i64 z)∧(x.b16→x.s23=.int .i64 q)∧(x.b17→x.s24=.int .i64 d)∧(x.b18→x.s25=.bool r)∧(x.b19→x.s26=.bool r)∧(x.b20→x.s6=.bool r)∧(Below (w.alloc (.cells #[.slice a n c] 24)).heap.size (w.alloc (.cells #[.slice a n c] 24)) W)) ⟨false,false,false,false,false,false,false,false,false,false,false,false,false,false,false,false,false,false,false,false,false,undef,undef,undef,undef,undef,undef,undef,undef,undef,undef,undef,undef,undef,undef,undef,undef,undef,undef,undef,undef,.bool false⟩ rfl rfl ⟨Zf,Zf,Zf,Zf,Zf,Zf,Zf,Zf,Zf,Zf,Zf,Zf,Zf,Zf,Zf,Zf,Zf,Zf,Zf,Zf,Zf,(Below.refl _ _).drew⟩ (fun _=>rfl) ?hstep ?hdone
       case hstep =>
        rintro ⟨b0,b1,b2,b3,b4,b5,b6,b7,b8,b9,b10,b11,b12,b13,b14,b15,b16,b17,b18,b19,b20,s7,s8,s9,s10,s11,s12,s13,s14,s15,s16,s17,s18,s19,s20,s21,s22,s23,s24,s25,s26,s6⟩ W hI i hi
        dsimp only at hI hi ⊢
        have HI:=Zh hI
        clear hI
        rw [Region.ready,List.mem_filter,List.mem_range] at hi
        obtain ⟨hlt,hp⟩:=hi
        have hi7:i=0∨i=1∨i=2∨i=3∨i=4∨i=5∨i=6∨i=7∨i=8∨i=9∨i=10∨i=11∨i=12∨i=13∨i=14∨i=15∨i=16∨i=17∨i=18∨i=19∨i=20:=by simp at hlt; omega
        clear hlt
        rcases hi7 with rfl|rfl|rfl|rfl|rfl|rfl|rfl|rfl|rfl|rfl|rfl|rfl|rfl|rfl|rfl|rfl|rfl|rfl|rfl|rfl|rfl
        all_goals simp [Region.binds] at hp
        · obtain rfl:b0=false:=by revert hp; cases b0 <;> simp
          clear hp; refine Zv 7 fun K' hK'=>?_
          have gW:=(Zd (Zg HI.out)).2
          obtain ⟨hc1,hc2⟩:=HM.out W gW
          go_simp
          exact hK'.out _ _ ⟨.mk ..,rfl,rfl,(Upd (fun _=>rfl)) HI.out⟩
        · obtain ⟨rfl,e0⟩:b1=false∧b0=true:=by revert hp; cases b1 <;> cases b0 <;> simp
          clear hp
          obtain rfl:=(HI.out.1) e0
          refine Zv 8 fun K' hK'=>?_
          have gW:=(Zd (Zg HI.out)).2
          go_simp
          refine (HC.out W gW).mono ?_
          rintro e w1 ⟨rfl,bn⟩
          obtain ⟨h0,h1,h2,h3,h4,h5,h6,h7,h8,h9,h10,h11,h12,h13,h14,h15,h16,h17,h18,h19,h20,gW⟩:=HI.out
          exact hK'.out _ _ ⟨.mk ..,rfl,rfl,h0,(fun _=>rfl),h2,h3,h4,h5,h6,h7,h8,h9,h10,h11,h12,h13,h14,h15,h16,h17,h18,h19,h20,(gW.trans (bn.mono gW.size))⟩
        · obtain ⟨rfl,e1⟩:b2=false∧b1=true:=by revert hp; cases b2 <;> cases b1 <;> simp
          clear hp
          obtain rfl:=(HI.out.2.1) e1
          refine Zv 9 fun K' hK'=>?_
          go_simp
          exact hK'.out _ _ ⟨.mk ..,rfl,rfl,Nxt (Nxt (Upd (fun _=>rfl))) HI.out⟩
        · obtain ⟨rfl,e2⟩:b3=false∧b2=true:=by revert hp; cases b3 <;> cases b2 <;> simp
          clear hp
          obtain rfl:=(HI.out.2.2.1) e2
          refine Zv 10 fun K' hK'=>?_
          go_simp
          exact hK'.out _ _ ⟨.mk ..,rfl,rfl,Nxt (Nxt (Nxt (Upd (fun _=>rfl)))) HI.out⟩
        · obtain ⟨rfl,e3,e2⟩:b4=false∧b3=true∧b2=true:=by revert hp; cases b4 <;> cases b3 <;> cases b2 <;> simp
          clear hp
          obtain rfl:=(HI.out.2.2.2.1) e3
          obtain rfl:=(HI.out.2.2.1) e2
          refine Zv 11 fun K' hK'=>?_
          go_simp
          refine (HS.out W).mono ?_
          rintro e w1 ⟨rfl,rfl⟩
          exact hK'.out _ _ ⟨.mk ..,rfl,rfl,Nx4 (Upd (fun _=>rfl)) HI.out⟩
        · obtain ⟨rfl,e2,e4⟩:b5=false∧b2=true∧b4=true:=by revert hp; cases b5 <;> cases b2 <;> cases b4 <;> simp
          clear hp
          obtain rfl:=(HI.out.2.2.1) e2
          obtain rfl:=((Zd HI.out).1) e4
          refine Zv 12 fun K' hK'=>?_
          go_simp
          exact hK'.out _ _ ⟨.mk ..,rfl,rfl,Nxt (Nx4 (Upd (fun _=>rfl))) HI.out⟩
        · obtain ⟨rfl,e5⟩:b6=false∧b5=true:=by revert hp; cases b6 <;> cases b5 <;> simp
          clear hp
          obtain rfl:=((Zd HI.out).2.1) e5
          refine Zv 13 fun K' hK'=>?_
          go_simp
          exact hK'.out _ _ ⟨.mk ..,rfl,rfl,Nxt (Nxt (Nx4 (Upd (fun _=>rfl)))) HI.out⟩
        · obtain ⟨rfl,e6⟩:b7=false∧b6=true:=by revert hp; cases b7 <;> cases b6 <;> simp
          clear hp
          obtain rfl:=((Zd HI.out).2.2.1) e6
          refine Zv 14 fun K' hK'=>?_
          go_simp
          exact hK'.out _ _ ⟨.mk ..,rfl,rfl,Nxt (Nxt (Nxt (Nx4 (Upd (fun _=>rfl))))) HI.out⟩
        · obtain ⟨rfl,e7,e6⟩:b8=false∧b7=true∧b6=true:=by revert hp; cases b8 <;> cases b7 <;> cases b6 <;> simp
          clear hp
          obtain rfl:=((Zd HI.out).2.2.2.1) e7
          obtain rfl:=((Zd HI.out).2.2.1) e6
          refine Zv 15 fun K' hK'=>?_
          go_simp
          exact hK'.out _ _ ⟨.mk ..,rfl,rfl,Nx4 (Nx4 (Upd (fun _=>rfl))) HI.out⟩
        · obtain ⟨rfl,e6,e8⟩:b9=false∧b6=true∧b8=true:=by revert hp; cases b9 <;> cases b6 <;> cases b8 <;> simp
          clear hp
          obtain rfl:=((Zd HI.out).2.2.1) e6
          obtain rfl:=((Ze HI.out).1) e8
          refine Zv 16 fun K' hK'=>?_
          go_simp
          exact hK'.out _ _ ⟨.mk ..,rfl,rfl,Nxt (Nx4 (Nx4 (Upd (fun _=>rfl)))) HI.out⟩
        · obtain ⟨rfl,e9⟩:b10=false∧b9=true:=by revert hp; cases b10 <;> cases b9 <;> simp
          clear hp
          obtain rfl:=((Ze HI.out).2.1) e9
          refine Zv 17 fun K' hK'=>?_
          go_simp
          exact hK'.out _ _ ⟨.mk ..,rfl,rfl,Nxt (Nxt (Nx4 (Nx4 (Upd (fun _=>rfl))))) HI.out⟩
        · obtain ⟨rfl,e10⟩:b11=false∧b10=true:=by revert hp; cases b11 <;> cases b10 <;> simp
          clear hp
          obtain rfl:=((Ze HI.out).2.2.1) e10
          refine Zv 18 fun K' hK'=>?_
          go_simp
          exact hK'.out _ _ ⟨.mk ..,rfl,rfl,Nxt (Nxt (Nxt (Nx4 (Nx4 (Upd (fun _=>rfl)))))) HI.out⟩
        · obtain ⟨rfl,e10⟩:b12=false∧b10=true:=by revert hp; cases b12 <;> cases b10 <;> simp
          clear hp
          obtain rfl:=((Ze HI.out).2.2.1) e10
          refine Zv 19 fun K' hK'=>?_
          go_simp
          exact hK'.out _ _ ⟨.mk ..,rfl,rfl,Nx4 (Nx4 (Nx4 (Upd (fun _=>rfl)))) HI.out⟩
        · obtain ⟨rfl,e12,e10⟩:b13=false∧b12=true∧b10=true:=by revert hp; cases b13 <;> cases b12 <;> cases b10 <;> simp
          clear hp
          obtain rfl:=((Zd (Ze HI.out)).1) e12
          obtain rfl:=((Ze HI.out).2.2.1) e10
          refine Zv 20 fun K' hK'=>?_
          have gW:=(Zd (Zg HI.out)).2
          obtain ⟨hc1,hc2⟩:=HM.out W gW
          go_simp
          exact hK'.out _ _ ⟨.mk ..,rfl,rfl,Nxt (Nx4 (Nx4 (Nx4 (Upd (fun _=>rfl))))) HI.out⟩
        · obtain ⟨rfl,e13,e10⟩:b14=false∧b13=true∧b10=true:=by revert hp; cases b14 <;> cases b13 <;> cases b10 <;> simp
          clear hp
          obtain rfl:=((Zd (Ze HI.out)).2.1) e13
          obtain rfl:=((Ze HI.out).2.2.1) e10
          refine Zv 21 fun K' hK'=>?_
          go_simp
          exact hK'.out _ _ ⟨.mk ..,rfl,rfl,Nxt (Nxt (Nx4 (Nx4 (Nx4 (Upd (fun _=>rfl)))))) HI.out⟩
        · obtain ⟨rfl,e10⟩:b15=false∧b10=true:=by revert hp; cases b15 <;> cases b10 <;> simp
          clear hp
          obtain rfl:=((Ze HI.out).2.2.1) e10
          refine Zv 22 fun K' hK'=>?_
          go_simp
          exact hK'.out _ _ ⟨.mk ..,rfl,rfl,Nxt (Nxt (Nxt (Nx4 (Nx4 (Nx4 (Upd (fun _=>rfl))))))) HI.out⟩
        · obtain ⟨rfl,e15,e10⟩:b16=false∧b15=true∧b10=true:=by revert hp; cases b16 <;> cases b15 <;> cases b10 <;> simp
          clear hp
          obtain rfl:=((Zd (Ze HI.out)).2.2.2.1) e15
          obtain rfl:=((Ze HI.out).2.2.1) e10
          refine Zv 23 fun K' hK'=>?_
          have gW:=(Zd (Zg HI.out)).2
          go_simp
          refine (HZ.out W gW).mono ?_
          rintro e w1 ⟨rfl,bn⟩
          obtain ⟨h0,h1,h2,h3,h4,h5,h6,h7,h8,h9,h10,h11,h12,h13,h14,h15,h16,h17,h18,h19,h20,gW⟩:=HI.out
          exact hK'.out _ _ ⟨.mk ..,rfl,rfl,h0,h1,h2,h3,h4,h5,h6,h7,h8,h9,h10,h11,h12,h13,h14,h15,(fun _=>rfl),h17,h18,h19,h20,(gW.trans (bn.mono gW.size))⟩
        · have hn17:b17=false:=by revert hp; cases b17 <;> simp
          have e14:b14=true:=by revert hp; cases b14 <;> simp
          have e16:b16=true:=by revert hp; cases b16 <;> simp
          have e10:b10=true:=by revert hp; cases b10 <;> simp
          clear hp
          obtain rfl:=((Zd (Ze HI.out)).2.2.1) e14
          obtain rfl:=((Zg HI.out).1) e16
          obtain rfl:=((Ze HI.out).2.2.1) e10
          subst hn17
          refine Zv 24 fun K' hK'=>?_
          go_simp
          exact hK'.out _ _ ⟨.mk ..,rfl,rfl,Nxt (Nx16 (Upd (fun _=>rfl))) HI.out⟩
        · have hn18:b18=false:=by revert hp; cases b18 <;> simp
          have e11:b11=true:=by revert hp; cases b11 <;> simp
          have e17:b17=true:=by revert hp; cases b17 <;> simp
          have e10:b10=true:=by revert hp; cases b10 <;> simp
          clear hp
          obtain rfl:=((Ze HI.out).2.2.2.1) e11
          obtain rfl:=((Zg HI.out).2.1) e17
          obtain rfl:=((Ze HI.out).2.2.1) e10
          subst hn18
          refine Zv 25 fun K' hK'=>?_
          go_simp
          exact hK'.out _ _ ⟨.mk ..,rfl,rfl,Nxt (Nxt (Nx16 (Upd (fun _=>rfl)))) HI.out⟩
        · obtain ⟨rfl,e10,e18⟩:b19=false∧b10=true∧b18=true:=by revert hp; cases b19 <;> cases b10 <;> cases b18 <;> simp
          clear hp
          obtain rfl:=((Ze HI.out).2.2.1) e10
          obtain rfl:=((Zg HI.out).2.2.1) e18
          refine Zv 26 fun K' hK'=>?_
          go_simp
          exact hK'.out _ _ ⟨.mk ..,rfl,rfl,Nxt (Nxt (Nxt (Nx16 (Upd (fun _=>rfl))))) HI.out⟩
        · obtain ⟨rfl,e19⟩:b20=false∧b19=true:=by revert hp; cases b20 <;> cases b19 <;> simp
          clear hp
          obtain rfl:=((Zg HI.out).2.2.2.1) e19
          refine Zv 6 fun K' hK'=>?_
          go_simp
          exact hK'.out _ _ ⟨.mk ..,rfl,rfl,Nx4 (Nx16 (Upd (fun _=>rfl))) HI.out⟩
       case hdone =>
        rintro ⟨b0,b1,b2,b3,b4,b5,b6,b7,b8,b9,b10,b11,b12,b13,b14,b15,b16,b17,b18,b19,b20,s7,s8,s9,s10,s11,s12,s13,s14,s15,s16,s17,s18,s19,s20,s21,s22,s23,s24,s25,s26,s6⟩ W hI hall
        dsimp only at hI hall ⊢
        have HI:=Zh hI
        clear hI
        obtain rfl:b0=true:=hall 0 (by decide)
        obtain rfl:b1=true:=hall 1 (by decide)
        obtain rfl:b2=true:=hall 2 (by decide)
        obtain rfl:b3=true:=hall 3 (by decide)
        obtain rfl:b4=true:=hall 4 (by decide)
        obtain rfl:b5=true:=hall 5 (by decide)
        obtain rfl:b6=true:=hall 6 (by decide)
        obtain rfl:b7=true:=hall 7 (by decide)
        obtain rfl:b8=true:=hall 8 (by decide)
        obtain rfl:b9=true:=hall 9 (by decide)
        obtain rfl:b10=true:=hall 10 (by decide)
        obtain rfl:b11=true:=hall 11 (by decide)
        obtain rfl:b12=true:=hall 12 (by decide)
        obtain rfl:b13=true:=hall 13 (by decide)
        obtain rfl:b14=true:=hall 14 (by decide)
        obtain rfl:b15=true:=hall 15 (by decide)
        obtain rfl:b16=true:=hall 16 (by decide)
        obtain rfl:b17=true:=hall 17 (by decide)
        obtain rfl:b18=true:=hall 18 (by decide)
        obtain rfl:b19=true:=hall 19 (by decide)
        obtain rfl:b20=true:=hall 20 (by decide)
        obtain rfl:=((Zd (Zg HI.out)).1) rfl
        have gW:=(Zd (Zg HI.out)).2
        clear HI hall
        have GW:=Zh (HB.out.trans (gW.mono HB.out.size))
        clear gW
        go_wp2
        go_ret
        exact ⟨rfl,GW.out⟩
     · obtain rfl:r=false:=by rw [←hr,okR,h2,hd,Bool.true_and,Bool.true_and,decide_eq_false (fun h=>h3 h.1)]
       have hb3:decide (0≤b)=false:=decide_eq_false h3
       clear hr h1 h2 hn hd hq hq2 hd3 h3 h2' hd4 hwd
       go_enter Tryz.func39,Tryz.ntmps39
       go_wp2_with fail
       refine wp_region_rec (X:=RngCheck3) (by kernel_rfl) (by kernel_rfl) (fun x=>#[x.b0,x.b1,x.b2,x.b3,x.b4,x.b5,x.b6,x.b7,x.b8,x.b9,x.b10,x.b11,x.b12,x.b13,x.b14,x.b15,x.b16,x.b17,x.b18,x.b19,x.b20]) (fun x=>{ tmps:=#[.agg #[.slice a n c],.int .i64 b,.int .i64 z,.pointer (some ⟨w.heap.size,0,none⟩),undef,undef,x.s6,x.s7,x.s8,x.s9,x.s10,x.s11,x.s12,x.s13,x.s14,x.s15,x.s16,x.s17,x.s18,x.s19,x.s20,x.s21,x.s22,x.s23,x.s24,x.s25,x.s26],defers:=[] }) (fun x W=>(x.b0→x.s7=.agg #[.slice a n c])∧(x.b1→x.s8=.bool true)∧(x.b2→x.s9=.bool true)∧(x.b3→x.s10=.int .i64 z)∧(x.b4→x.s11=.bool true)∧(x.b5→x.s12=.bool true)∧(x.b6→x.s13=.bool true)∧(x.b7→x.s14=.int .i64 b)∧(x.b8→x.s15=.bool false)∧(x.b9→x.s16=.bool false)∧(x.b10→x.s17=.bool false)∧(x.b11→x.s18=undef)∧(x.b12→x.s19=undef)∧(x.b13→x.s20=undef)∧(x.b14→x.s21=undef)∧(x.b15→x.s22=undef)∧(x.b16→x.s23=undef)∧(x.b17→x.s24=undef)∧(x.b18→x.s25=undef)∧(x.b19→x.s26=.bool false)∧(x.b20→x.s6=.bool false)∧(Below (w.alloc (.cells #[.slice a n c] 24)).heap.size (w.alloc (.cells #[.slice a n c] 24)) W)) ⟨false,false,false,false,false,false,false,false,false,false,false,false,false,false,false,false,false,false,false,false,false,undef,undef,undef,undef,undef,undef,undef,undef,undef,undef,undef,undef,undef,undef,undef,undef,undef,undef,undef,undef,.bool false⟩ rfl rfl ⟨Zf,Zf,Zf,Zf,Zf,Zf,Zf,Zf,Zf,Zf,Zf,Zf,Zf,Zf,Zf,Zf,Zf,Zf,Zf,Zf,Zf,(Below.refl _ _).drew⟩ (fun _=>rfl) ?hstep ?hdone
       case hstep =>
        rintro ⟨b0,b1,b2,b3,b4,b5,b6,b7,b8,b9,b10,b11,b12,b13,b14,b15,b16,b17,b18,b19,b20,s7,s8,s9,s10,s11,s12,s13,s14,s15,s16,s17,s18,s19,s20,s21,s22,s23,s24,s25,s26,s6⟩ W hI i hi
        dsimp only at hI hi ⊢
        have HI:=Zh hI
        clear hI
        rw [Region.ready,List.mem_filter,List.mem_range] at hi
        obtain ⟨hlt,hp⟩:=hi
        have hi7:i=0∨i=1∨i=2∨i=3∨i=4∨i=5∨i=6∨i=7∨i=8∨i=9∨i=10∨i=11∨i=12∨i=13∨i=14∨i=15∨i=16∨i=17∨i=18∨i=19∨i=20:=by simp at hlt; omega
        clear hlt
        rcases hi7 with rfl|rfl|rfl|rfl|rfl|rfl|rfl|rfl|rfl|rfl|rfl|rfl|rfl|rfl|rfl|rfl|rfl|rfl|rfl|rfl|rfl
        all_goals simp [Region.binds] at hp
        · obtain rfl:b0=false:=by revert hp; cases b0 <;> simp
          clear hp; refine Zv 7 fun K' hK'=>?_
          have gW:=(Zd (Zg HI.out)).2
          obtain ⟨hc1,hc2⟩:=HM.out W gW
          go_simp
          exact hK'.out _ _ ⟨.mk ..,rfl,rfl,(Upd (fun _=>rfl)) HI.out⟩
        · obtain ⟨rfl,e0⟩:b1=false∧b0=true:=by revert hp; cases b1 <;> cases b0 <;> simp
          clear hp
          obtain rfl:=(HI.out.1) e0
          refine Zv 8 fun K' hK'=>?_
          have gW:=(Zd (Zg HI.out)).2
          go_simp
          refine (HC.out W gW).mono ?_
          rintro e w1 ⟨rfl,bn⟩
          obtain ⟨h0,h1,h2,h3,h4,h5,h6,h7,h8,h9,h10,h11,h12,h13,h14,h15,h16,h17,h18,h19,h20,gW⟩:=HI.out
          exact hK'.out _ _ ⟨.mk ..,rfl,rfl,h0,(fun _=>rfl),h2,h3,h4,h5,h6,h7,h8,h9,h10,h11,h12,h13,h14,h15,h16,h17,h18,h19,h20,(gW.trans (bn.mono gW.size))⟩
        · obtain ⟨rfl,e1⟩:b2=false∧b1=true:=by revert hp; cases b2 <;> cases b1 <;> simp
          clear hp
          obtain rfl:=(HI.out.2.1) e1
          refine Zv 9 fun K' hK'=>?_
          go_simp
          exact hK'.out _ _ ⟨.mk ..,rfl,rfl,Nxt (Nxt (Upd (fun _=>rfl))) HI.out⟩
        · obtain ⟨rfl,e2⟩:b3=false∧b2=true:=by revert hp; cases b3 <;> cases b2 <;> simp
          clear hp
          obtain rfl:=(HI.out.2.2.1) e2
          refine Zv 10 fun K' hK'=>?_
          go_simp
          exact hK'.out _ _ ⟨.mk ..,rfl,rfl,Nxt (Nxt (Nxt (Upd (fun _=>rfl)))) HI.out⟩
        · obtain ⟨rfl,e3,e2⟩:b4=false∧b3=true∧b2=true:=by revert hp; cases b4 <;> cases b3 <;> cases b2 <;> simp
          clear hp
          obtain rfl:=(HI.out.2.2.2.1) e3
          obtain rfl:=(HI.out.2.2.1) e2
          refine Zv 11 fun K' hK'=>?_
          go_simp
          refine (HS.out W).mono ?_
          rintro e w1 ⟨rfl,rfl⟩
          exact hK'.out _ _ ⟨.mk ..,rfl,rfl,Nx4 (Upd (fun _=>rfl)) HI.out⟩
        · obtain ⟨rfl,e2,e4⟩:b5=false∧b2=true∧b4=true:=by revert hp; cases b5 <;> cases b2 <;> cases b4 <;> simp
          clear hp
          obtain rfl:=(HI.out.2.2.1) e2
          obtain rfl:=((Zd HI.out).1) e4
          refine Zv 12 fun K' hK'=>?_
          go_simp
          exact hK'.out _ _ ⟨.mk ..,rfl,rfl,Nxt (Nx4 (Upd (fun _=>rfl))) HI.out⟩
        · obtain ⟨rfl,e5⟩:b6=false∧b5=true:=by revert hp; cases b6 <;> cases b5 <;> simp
          clear hp
          obtain rfl:=((Zd HI.out).2.1) e5
          refine Zv 13 fun K' hK'=>?_
          go_simp
          exact hK'.out _ _ ⟨.mk ..,rfl,rfl,Nxt (Nxt (Nx4 (Upd (fun _=>rfl)))) HI.out⟩
        · obtain ⟨rfl,e6⟩:b7=false∧b6=true:=by revert hp; cases b7 <;> cases b6 <;> simp
          clear hp
          obtain rfl:=((Zd HI.out).2.2.1) e6
          refine Zv 14 fun K' hK'=>?_
          go_simp
          exact hK'.out _ _ ⟨.mk ..,rfl,rfl,Nxt (Nxt (Nxt (Nx4 (Upd (fun _=>rfl))))) HI.out⟩
        · obtain ⟨rfl,e7,e6⟩:b8=false∧b7=true∧b6=true:=by revert hp; cases b8 <;> cases b7 <;> cases b6 <;> simp
          clear hp
          obtain rfl:=((Zd HI.out).2.2.2.1) e7
          obtain rfl:=((Zd HI.out).2.2.1) e6
          refine Zv 15 fun K' hK'=>?_
          go_simp
          exact hK'.out _ _ ⟨.mk ..,rfl,rfl,Nx4 (Nx4 (Upd (fun _=>rfl))) HI.out⟩
        · obtain ⟨rfl,e6,e8⟩:b9=false∧b6=true∧b8=true:=by revert hp; cases b9 <;> cases b6 <;> cases b8 <;> simp
          clear hp
          obtain rfl:=((Zd HI.out).2.2.1) e6
          obtain rfl:=((Ze HI.out).1) e8
          refine Zv 16 fun K' hK'=>?_
          go_simp
          exact hK'.out _ _ ⟨.mk ..,rfl,rfl,Nxt (Nx4 (Nx4 (Upd (fun _=>rfl)))) HI.out⟩
        · obtain ⟨rfl,e9⟩:b10=false∧b9=true:=by revert hp; cases b10 <;> cases b9 <;> simp
          clear hp
          obtain rfl:=((Ze HI.out).2.1) e9
          refine Zv 17 fun K' hK'=>?_
          go_simp
          exact hK'.out _ _ ⟨.mk ..,rfl,rfl,Nxt (Nxt (Nx4 (Nx4 (Upd (fun _=>rfl))))) HI.out⟩
        · obtain ⟨rfl,e10⟩:b11=false∧b10=true:=by revert hp; cases b11 <;> cases b10 <;> simp
          clear hp
          obtain rfl:=((Ze HI.out).2.2.1) e10
          refine Zv 18 fun K' hK'=>?_
          go_simp
          exact hK'.out _ _ ⟨.mk ..,rfl,rfl,Nxt (Nxt (Nxt (Nx4 (Nx4 (Upd (fun _=>rfl)))))) HI.out⟩
        · obtain ⟨rfl,e10⟩:b12=false∧b10=true:=by revert hp; cases b12 <;> cases b10 <;> simp
          clear hp
          obtain rfl:=((Ze HI.out).2.2.1) e10
          refine Zv 19 fun K' hK'=>?_
          go_simp
          exact hK'.out _ _ ⟨.mk ..,rfl,rfl,Nx4 (Nx4 (Nx4 (Upd (fun _=>rfl)))) HI.out⟩
        · obtain ⟨rfl,e12,e10⟩:b13=false∧b12=true∧b10=true:=by revert hp; cases b13 <;> cases b12 <;> cases b10 <;> simp
          clear hp
          obtain rfl:=((Zd (Ze HI.out)).1) e12
          obtain rfl:=((Ze HI.out).2.2.1) e10
          refine Zv 20 fun K' hK'=>?_
          go_simp
          exact hK'.out _ _ ⟨.mk ..,rfl,rfl,Nxt (Nx4 (Nx4 (Nx4 (Upd (fun _=>rfl))))) HI.out⟩
        · obtain ⟨rfl,e13,e10⟩:b14=false∧b13=true∧b10=true:=by revert hp; cases b14 <;> cases b13 <;> cases b10 <;> simp
          clear hp
          obtain rfl:=((Zd (Ze HI.out)).2.1) e13
          obtain rfl:=((Ze HI.out).2.2.1) e10
          refine Zv 21 fun K' hK'=>?_
          go_simp
          exact hK'.out _ _ ⟨.mk ..,rfl,rfl,Nxt (Nxt (Nx4 (Nx4 (Nx4 (Upd (fun _=>rfl)))))) HI.out⟩
        · obtain ⟨rfl,e10⟩:b15=false∧b10=true:=by revert hp; cases b15 <;> cases b10 <;> simp
          clear hp
          obtain rfl:=((Ze HI.out).2.2.1) e10
          refine Zv 22 fun K' hK'=>?_
          go_simp
          exact hK'.out _ _ ⟨.mk ..,rfl,rfl,Nxt (Nxt (Nxt (Nx4 (Nx4 (Nx4 (Upd (fun _=>rfl))))))) HI.out⟩
        · obtain ⟨rfl,e15,e10⟩:b16=false∧b15=true∧b10=true:=by revert hp; cases b16 <;> cases b15 <;> cases b10 <;> simp
          clear hp
          obtain rfl:=((Zd (Ze HI.out)).2.2.2.1) e15
          obtain rfl:=((Ze HI.out).2.2.1) e10
          refine Zv 23 fun K' hK'=>?_
          go_simp
          exact hK'.out _ _ ⟨.mk ..,rfl,rfl,Nx16 (Upd (fun _=>rfl)) HI.out⟩
        · have hn17:b17=false:=by revert hp; cases b17 <;> simp
          have e14:b14=true:=by revert hp; cases b14 <;> simp
          have e16:b16=true:=by revert hp; cases b16 <;> simp
          have e10:b10=true:=by revert hp; cases b10 <;> simp
          clear hp
          obtain rfl:=((Zd (Ze HI.out)).2.2.1) e14
          obtain rfl:=((Zg HI.out).1) e16
          obtain rfl:=((Ze HI.out).2.2.1) e10
          subst hn17
          refine Zv 24 fun K' hK'=>?_
          go_simp
          exact hK'.out _ _ ⟨.mk ..,rfl,rfl,Nxt (Nx16 (Upd (fun _=>rfl))) HI.out⟩
        · have hn18:b18=false:=by revert hp; cases b18 <;> simp
          have e11:b11=true:=by revert hp; cases b11 <;> simp
          have e17:b17=true:=by revert hp; cases b17 <;> simp
          have e10:b10=true:=by revert hp; cases b10 <;> simp
          clear hp
          obtain rfl:=((Ze HI.out).2.2.2.1) e11
          obtain rfl:=((Zg HI.out).2.1) e17
          obtain rfl:=((Ze HI.out).2.2.1) e10
          subst hn18
          refine Zv 25 fun K' hK'=>?_
          go_simp
          exact hK'.out _ _ ⟨.mk ..,rfl,rfl,Nxt (Nxt (Nx16 (Upd (fun _=>rfl)))) HI.out⟩
        · obtain ⟨rfl,e10,e18⟩:b19=false∧b10=true∧b18=true:=by revert hp; cases b19 <;> cases b10 <;> cases b18 <;> simp
          clear hp
          obtain rfl:=((Ze HI.out).2.2.1) e10
          obtain rfl:=((Zg HI.out).2.2.1) e18
          refine Zv 26 fun K' hK'=>?_
          go_simp
          exact hK'.out _ _ ⟨.mk ..,rfl,rfl,Nxt (Nxt (Nxt (Nx16 (Upd (fun _=>rfl))))) HI.out⟩
        · obtain ⟨rfl,e19⟩:b20=false∧b19=true:=by revert hp; cases b20 <;> cases b19 <;> simp
          clear hp
          obtain rfl:=((Zg HI.out).2.2.2.1) e19
          refine Zv 6 fun K' hK'=>?_
          go_simp
          exact hK'.out _ _ ⟨.mk ..,rfl,rfl,Nx4 (Nx16 (Upd (fun _=>rfl))) HI.out⟩
       case hdone =>
        rintro ⟨b0,b1,b2,b3,b4,b5,b6,b7,b8,b9,b10,b11,b12,b13,b14,b15,b16,b17,b18,b19,b20,s7,s8,s9,s10,s11,s12,s13,s14,s15,s16,s17,s18,s19,s20,s21,s22,s23,s24,s25,s26,s6⟩ W hI hall
        dsimp only at hI hall ⊢
        have HI:=Zh hI
        clear hI
        obtain rfl:b0=true:=hall 0 (by decide)
        obtain rfl:b1=true:=hall 1 (by decide)
        obtain rfl:b2=true:=hall 2 (by decide)
        obtain rfl:b3=true:=hall 3 (by decide)
        obtain rfl:b4=true:=hall 4 (by decide)
        obtain rfl:b5=true:=hall 5 (by decide)
        obtain rfl:b6=true:=hall 6 (by decide)
        obtain rfl:b7=true:=hall 7 (by decide)
        obtain rfl:b8=true:=hall 8 (by decide)
        obtain rfl:b9=true:=hall 9 (by decide)
        obtain rfl:b10=true:=hall 10 (by decide)
        obtain rfl:b11=true:=hall 11 (by decide)
        obtain rfl:b12=true:=hall 12 (by decide)
        obtain rfl:b13=true:=hall 13 (by decide)
        obtain rfl:b14=true:=hall 14 (by decide)
        obtain rfl:b15=true:=hall 15 (by decide)
        obtain rfl:b16=true:=hall 16 (by decide)
        obtain rfl:b17=true:=hall 17 (by decide)
        obtain rfl:b18=true:=hall 18 (by decide)
        obtain rfl:b19=true:=hall 19 (by decide)
        obtain rfl:b20=true:=hall 20 (by decide)
        obtain rfl:=((Zd (Zg HI.out)).1) rfl
        have gW:=(Zd (Zg HI.out)).2
        clear HI hall
        have GW:=Zh (HB.out.trans (gW.mono HB.out.size))
        clear gW
        go_wp2
        go_ret
        exact ⟨rfl,GW.out⟩
 · obtain rfl:r=false:=by rw [←hr,okR,decide_eq_false h1,Bool.false_and]
   have hd:=decide_eq_false h1
   have HC:=Zh (show ∀ W,Below (w.alloc (.cells #[.slice a n c] 24)).heap.size (w.alloc (.cells #[.slice a n c] 24)) W→Calls Tryz.prog 71 #[.agg #[.slice a n c]] W fun e w'=>e=.returned (.bool false)∧Below W.heap.size W w' from fun W _=>check_any a n c HN.out false (by rw [hd]) W)
   clear hr h1 hn hd
   go_enter Tryz.func39,Tryz.ntmps39
   go_wp2_with fail
   refine wp_region_rec (X:=RngCheck1) (by kernel_rfl) (by kernel_rfl) (fun x=>#[x.b0,x.b1,x.b2,x.b3,x.b4,x.b5,x.b6,x.b7,x.b8,x.b9,x.b10,x.b11,x.b12,x.b13,x.b14,x.b15,x.b16,x.b17,x.b18,x.b19,x.b20]) (fun x=>{ tmps:=#[.agg #[.slice a n c],.int .i64 b,.int .i64 z,.pointer (some ⟨w.heap.size,0,none⟩),undef,undef,x.s6,x.s7,x.s8,x.s9,x.s10,x.s11,x.s12,x.s13,x.s14,x.s15,x.s16,x.s17,x.s18,x.s19,x.s20,x.s21,x.s22,x.s23,x.s24,x.s25,x.s26],defers:=[] }) (fun x W=>(x.b0→x.s7=.agg #[.slice a n c])∧(x.b1→x.s8=.bool false)∧(x.b2→x.s9=.bool false)∧(x.b3→x.s10=undef)∧(x.b4→x.s11=undef)∧(x.b5→x.s12=.bool false)∧(x.b6→x.s13=.bool false)∧(x.b7→x.s14=undef)∧(x.b8→x.s15=undef)∧(x.b9→x.s16=.bool false)∧(x.b10→x.s17=.bool false)∧(x.b11→x.s18=undef)∧(x.b12→x.s19=undef)∧(x.b13→x.s20=undef)∧(x.b14→x.s21=undef)∧(x.b15→x.s22=undef)∧(x.b16→x.s23=undef)∧(x.b17→x.s24=undef)∧(x.b18→x.s25=undef)∧(x.b19→x.s26=.bool false)∧(x.b20→x.s6=.bool false)∧(Below (w.alloc (.cells #[.slice a n c] 24)).heap.size (w.alloc (.cells #[.slice a n c] 24)) W)) ⟨false,false,false,false,false,false,false,false,false,false,false,false,false,false,false,false,false,false,false,false,false,undef,undef,undef,undef,undef,undef,undef,undef,undef,undef,undef,undef,undef,undef,undef,undef,undef,undef,undef,undef,.bool false⟩ rfl rfl ⟨Zf,Zf,Zf,Zf,Zf,Zf,Zf,Zf,Zf,Zf,Zf,Zf,Zf,Zf,Zf,Zf,Zf,Zf,Zf,Zf,Zf,(Below.refl _ _).drew⟩ (fun _=>rfl) ?hstep ?hdone
   case hstep =>
    rintro ⟨b0,b1,b2,b3,b4,b5,b6,b7,b8,b9,b10,b11,b12,b13,b14,b15,b16,b17,b18,b19,b20,s7,s8,s9,s10,s11,s12,s13,s14,s15,s16,s17,s18,s19,s20,s21,s22,s23,s24,s25,s26,s6⟩ W hI i hi
    dsimp only at hI hi ⊢
    have HI:=Zh hI
    clear hI
    rw [Region.ready,List.mem_filter,List.mem_range] at hi
    obtain ⟨hlt,hp⟩:=hi
    have hi7:i=0∨i=1∨i=2∨i=3∨i=4∨i=5∨i=6∨i=7∨i=8∨i=9∨i=10∨i=11∨i=12∨i=13∨i=14∨i=15∨i=16∨i=17∨i=18∨i=19∨i=20:=by simp at hlt; omega
    clear hlt
    rcases hi7 with rfl|rfl|rfl|rfl|rfl|rfl|rfl|rfl|rfl|rfl|rfl|rfl|rfl|rfl|rfl|rfl|rfl|rfl|rfl|rfl|rfl
    all_goals simp [Region.binds] at hp
    · obtain rfl:b0=false:=by revert hp; cases b0 <;> simp
      clear hp; refine Zv 7 fun K' hK'=>?_
      have gW:=(Zd (Zg HI.out)).2
      obtain ⟨hc1,hc2⟩:=HM.out W gW
      go_simp
      exact hK'.out _ _ ⟨.mk ..,rfl,rfl,(Upd (fun _=>rfl)) HI.out⟩
    · obtain ⟨rfl,e0⟩:b1=false∧b0=true:=by revert hp; cases b1 <;> cases b0 <;> simp
      clear hp
      obtain rfl:=(HI.out.1) e0
      refine Zv 8 fun K' hK'=>?_
      have gW:=(Zd (Zg HI.out)).2
      go_simp
      refine (HC.out W gW).mono ?_
      rintro e w1 ⟨rfl,bn⟩
      obtain ⟨h0,h1,h2,h3,h4,h5,h6,h7,h8,h9,h10,h11,h12,h13,h14,h15,h16,h17,h18,h19,h20,gW⟩:=HI.out
      exact hK'.out _ _ ⟨.mk ..,rfl,rfl,h0,(fun _=>rfl),h2,h3,h4,h5,h6,h7,h8,h9,h10,h11,h12,h13,h14,h15,h16,h17,h18,h19,h20,(gW.trans (bn.mono gW.size))⟩
    · obtain ⟨rfl,e1⟩:b2=false∧b1=true:=by revert hp; cases b2 <;> cases b1 <;> simp
      clear hp
      obtain rfl:=(HI.out.2.1) e1
      refine Zv 9 fun K' hK'=>?_
      go_simp
      exact hK'.out _ _ ⟨.mk ..,rfl,rfl,Nxt (Nxt (Upd (fun _=>rfl))) HI.out⟩
    · obtain ⟨rfl,e2⟩:b3=false∧b2=true:=by revert hp; cases b3 <;> cases b2 <;> simp
      clear hp
      obtain rfl:=(HI.out.2.2.1) e2
      refine Zv 10 fun K' hK'=>?_
      go_simp
      exact hK'.out _ _ ⟨.mk ..,rfl,rfl,Nxt (Nxt (Nxt (Upd (fun _=>rfl)))) HI.out⟩
    · obtain ⟨rfl,e3,e2⟩:b4=false∧b3=true∧b2=true:=by revert hp; cases b4 <;> cases b3 <;> cases b2 <;> simp
      clear hp
      obtain rfl:=(HI.out.2.2.2.1) e3
      obtain rfl:=(HI.out.2.2.1) e2
      refine Zv 11 fun K' hK'=>?_
      go_simp
      exact hK'.out _ _ ⟨.mk ..,rfl,rfl,Nx4 (Upd (fun _=>rfl)) HI.out⟩
    · obtain ⟨rfl,e2,e4⟩:b5=false∧b2=true∧b4=true:=by revert hp; cases b5 <;> cases b2 <;> cases b4 <;> simp
      clear hp
      obtain rfl:=(HI.out.2.2.1) e2
      obtain rfl:=((Zd HI.out).1) e4
      refine Zv 12 fun K' hK'=>?_
      go_simp
      exact hK'.out _ _ ⟨.mk ..,rfl,rfl,Nxt (Nx4 (Upd (fun _=>rfl))) HI.out⟩
    · obtain ⟨rfl,e5⟩:b6=false∧b5=true:=by revert hp; cases b6 <;> cases b5 <;> simp
      clear hp
      obtain rfl:=((Zd HI.out).2.1) e5
      refine Zv 13 fun K' hK'=>?_
      go_simp
      exact hK'.out _ _ ⟨.mk ..,rfl,rfl,Nxt (Nxt (Nx4 (Upd (fun _=>rfl)))) HI.out⟩
    · obtain ⟨rfl,e6⟩:b7=false∧b6=true:=by revert hp; cases b7 <;> cases b6 <;> simp
      clear hp
      obtain rfl:=((Zd HI.out).2.2.1) e6
      refine Zv 14 fun K' hK'=>?_
      go_simp
      exact hK'.out _ _ ⟨.mk ..,rfl,rfl,Nxt (Nxt (Nxt (Nx4 (Upd (fun _=>rfl))))) HI.out⟩
    · obtain ⟨rfl,e7,e6⟩:b8=false∧b7=true∧b6=true:=by revert hp; cases b8 <;> cases b7 <;> cases b6 <;> simp
      clear hp
      obtain rfl:=((Zd HI.out).2.2.2.1) e7
      obtain rfl:=((Zd HI.out).2.2.1) e6
      refine Zv 15 fun K' hK'=>?_
      go_simp
      exact hK'.out _ _ ⟨.mk ..,rfl,rfl,Nx4 (Nx4 (Upd (fun _=>rfl))) HI.out⟩
    · obtain ⟨rfl,e6,e8⟩:b9=false∧b6=true∧b8=true:=by revert hp; cases b9 <;> cases b6 <;> cases b8 <;> simp
      clear hp
      obtain rfl:=((Zd HI.out).2.2.1) e6
      obtain rfl:=((Ze HI.out).1) e8
      refine Zv 16 fun K' hK'=>?_
      go_simp
      exact hK'.out _ _ ⟨.mk ..,rfl,rfl,Nxt (Nx4 (Nx4 (Upd (fun _=>rfl)))) HI.out⟩
    · obtain ⟨rfl,e9⟩:b10=false∧b9=true:=by revert hp; cases b10 <;> cases b9 <;> simp
      clear hp
      obtain rfl:=((Ze HI.out).2.1) e9
      refine Zv 17 fun K' hK'=>?_
      go_simp
      exact hK'.out _ _ ⟨.mk ..,rfl,rfl,Nxt (Nxt (Nx4 (Nx4 (Upd (fun _=>rfl))))) HI.out⟩
    · obtain ⟨rfl,e10⟩:b11=false∧b10=true:=by revert hp; cases b11 <;> cases b10 <;> simp
      clear hp
      obtain rfl:=((Ze HI.out).2.2.1) e10
      refine Zv 18 fun K' hK'=>?_
      go_simp
      exact hK'.out _ _ ⟨.mk ..,rfl,rfl,Nxt (Nxt (Nxt (Nx4 (Nx4 (Upd (fun _=>rfl)))))) HI.out⟩
    · obtain ⟨rfl,e10⟩:b12=false∧b10=true:=by revert hp; cases b12 <;> cases b10 <;> simp
      clear hp
      obtain rfl:=((Ze HI.out).2.2.1) e10
      refine Zv 19 fun K' hK'=>?_
      go_simp
      exact hK'.out _ _ ⟨.mk ..,rfl,rfl,Nx4 (Nx4 (Nx4 (Upd (fun _=>rfl)))) HI.out⟩
    · obtain ⟨rfl,e12,e10⟩:b13=false∧b12=true∧b10=true:=by revert hp; cases b13 <;> cases b12 <;> cases b10 <;> simp
      clear hp
      obtain rfl:=((Zd (Ze HI.out)).1) e12
      obtain rfl:=((Ze HI.out).2.2.1) e10
      refine Zv 20 fun K' hK'=>?_
      go_simp
      exact hK'.out _ _ ⟨.mk ..,rfl,rfl,Nxt (Nx4 (Nx4 (Nx4 (Upd (fun _=>rfl))))) HI.out⟩
    · obtain ⟨rfl,e13,e10⟩:b14=false∧b13=true∧b10=true:=by revert hp; cases b14 <;> cases b13 <;> cases b10 <;> simp
      clear hp
      obtain rfl:=((Zd (Ze HI.out)).2.1) e13
      obtain rfl:=((Ze HI.out).2.2.1) e10
      refine Zv 21 fun K' hK'=>?_
      go_simp
      exact hK'.out _ _ ⟨.mk ..,rfl,rfl,Nxt (Nxt (Nx4 (Nx4 (Nx4 (Upd (fun _=>rfl)))))) HI.out⟩
    · obtain ⟨rfl,e10⟩:b15=false∧b10=true:=by revert hp; cases b15 <;> cases b10 <;> simp
      clear hp
      obtain rfl:=((Ze HI.out).2.2.1) e10
      refine Zv 22 fun K' hK'=>?_
      go_simp
      exact hK'.out _ _ ⟨.mk ..,rfl,rfl,Nxt (Nxt (Nxt (Nx4 (Nx4 (Nx4 (Upd (fun _=>rfl))))))) HI.out⟩
    · obtain ⟨rfl,e15,e10⟩:b16=false∧b15=true∧b10=true:=by revert hp; cases b16 <;> cases b15 <;> cases b10 <;> simp
      clear hp
      obtain rfl:=((Zd (Ze HI.out)).2.2.2.1) e15
      obtain rfl:=((Ze HI.out).2.2.1) e10
      refine Zv 23 fun K' hK'=>?_
      go_simp
      exact hK'.out _ _ ⟨.mk ..,rfl,rfl,Nx16 (Upd (fun _=>rfl)) HI.out⟩
    · have hn17:b17=false:=by revert hp; cases b17 <;> simp
      have e14:b14=true:=by revert hp; cases b14 <;> simp
      have e16:b16=true:=by revert hp; cases b16 <;> simp
      have e10:b10=true:=by revert hp; cases b10 <;> simp
      clear hp
      obtain rfl:=((Zd (Ze HI.out)).2.2.1) e14
      obtain rfl:=((Zg HI.out).1) e16
      obtain rfl:=((Ze HI.out).2.2.1) e10
      subst hn17
      refine Zv 24 fun K' hK'=>?_
      go_simp
      exact hK'.out _ _ ⟨.mk ..,rfl,rfl,Nxt (Nx16 (Upd (fun _=>rfl))) HI.out⟩
    · have hn18:b18=false:=by revert hp; cases b18 <;> simp
      have e11:b11=true:=by revert hp; cases b11 <;> simp
      have e17:b17=true:=by revert hp; cases b17 <;> simp
      have e10:b10=true:=by revert hp; cases b10 <;> simp
      clear hp
      obtain rfl:=((Ze HI.out).2.2.2.1) e11
      obtain rfl:=((Zg HI.out).2.1) e17
      obtain rfl:=((Ze HI.out).2.2.1) e10
      subst hn18
      refine Zv 25 fun K' hK'=>?_
      go_simp
      exact hK'.out _ _ ⟨.mk ..,rfl,rfl,Nxt (Nxt (Nx16 (Upd (fun _=>rfl)))) HI.out⟩
    · obtain ⟨rfl,e10,e18⟩:b19=false∧b10=true∧b18=true:=by revert hp; cases b19 <;> cases b10 <;> cases b18 <;> simp
      clear hp
      obtain rfl:=((Ze HI.out).2.2.1) e10
      obtain rfl:=((Zg HI.out).2.2.1) e18
      refine Zv 26 fun K' hK'=>?_
      go_simp
      exact hK'.out _ _ ⟨.mk ..,rfl,rfl,Nxt (Nxt (Nxt (Nx16 (Upd (fun _=>rfl))))) HI.out⟩
    · obtain ⟨rfl,e19⟩:b20=false∧b19=true:=by revert hp; cases b20 <;> cases b19 <;> simp
      clear hp
      obtain rfl:=((Zg HI.out).2.2.2.1) e19
      refine Zv 6 fun K' hK'=>?_
      go_simp
      exact hK'.out _ _ ⟨.mk ..,rfl,rfl,Nx4 (Nx16 (Upd (fun _=>rfl))) HI.out⟩
   case hdone =>
    rintro ⟨b0,b1,b2,b3,b4,b5,b6,b7,b8,b9,b10,b11,b12,b13,b14,b15,b16,b17,b18,b19,b20,s7,s8,s9,s10,s11,s12,s13,s14,s15,s16,s17,s18,s19,s20,s21,s22,s23,s24,s25,s26,s6⟩ W hI hall
    dsimp only at hI hall ⊢
    have HI:=Zh hI
    clear hI
    obtain rfl:b0=true:=hall 0 (by decide)
    obtain rfl:b1=true:=hall 1 (by decide)
    obtain rfl:b2=true:=hall 2 (by decide)
    obtain rfl:b3=true:=hall 3 (by decide)
    obtain rfl:b4=true:=hall 4 (by decide)
    obtain rfl:b5=true:=hall 5 (by decide)
    obtain rfl:b6=true:=hall 6 (by decide)
    obtain rfl:b7=true:=hall 7 (by decide)
    obtain rfl:b8=true:=hall 8 (by decide)
    obtain rfl:b9=true:=hall 9 (by decide)
    obtain rfl:b10=true:=hall 10 (by decide)
    obtain rfl:b11=true:=hall 11 (by decide)
    obtain rfl:b12=true:=hall 12 (by decide)
    obtain rfl:b13=true:=hall 13 (by decide)
    obtain rfl:b14=true:=hall 14 (by decide)
    obtain rfl:b15=true:=hall 15 (by decide)
    obtain rfl:b16=true:=hall 16 (by decide)
    obtain rfl:b17=true:=hall 17 (by decide)
    obtain rfl:b18=true:=hall 18 (by decide)
    obtain rfl:b19=true:=hall 19 (by decide)
    obtain rfl:b20=true:=hall 20 (by decide)
    obtain rfl:=((Zd (Zg HI.out)).1) rfl
    have gW:=(Zd (Zg HI.out)).2
    clear HI hall
    have GW:=Zh (HB.out.trans (gW.mono HB.out.size))
    clear gW
    go_wp2
    go_ret
    exact ⟨rfl,GW.out⟩
theorem ringFault_any (a:Option Addr) (n c:Nat) (hn:n≤maxLen) (b z:Int) (F:Int) (hF:ringF n b z=F) (w:World) :
 Calls Tryz.prog 83 #[.agg #[.slice a n c],.int .i64 b,.int .i64 z] w fun e w'=>e=.returned (.int .i64 F)∧Below w.heap.size w w':=by
 have HB0:=Zh ((Below.refl w.heap.size w).alloc (Nat.le_refl _) (.cells #[.slice a n c] 24))
 have HN:=Zh hn
 subst hF
 unfold ringF
 cases h:okR n b z
 all_goals
  have H:=Zh h
  clear h hn
  go_enter Tryz.func83,Tryz.ntmps83
  go_wp2_with fail
  refine (ringCheck_any _ _ _ HN.out _ _ _ H.out _).mono ?_
  rintro e w1 ⟨rfl,hb⟩
  have HB1:=Zh (HB0.out.trans (hb.mono (by simp)))
  clear hb
  go_wp2
  go_ret
  exact ⟨rfl,HB1.out⟩
theorem descFault_any (a:Option Addr) (n c:Nat) (hn:n≤maxLen) (b z i:Int) (F:Int) (hF:descF n b z i=F) (w:World) :
 Calls Tryz.prog 125 #[.agg #[.slice a n c],.int .i64 b,.int .i64 z,.int .i64 i] w fun e w'=>e=.returned (.int .i64 F)∧Below w.heap.size w w':=by
 have HB0:=Zh ((Below.refl w.heap.size w).alloc (Nat.le_refl _) (.cells #[.slice a n c] 24))
 have HN:=Zh hn
 subst hF
 unfold descF
 by_cases h:okR n b z=true
 · rw [if_pos h]
   have HF:=Zh (show ringF n b z=0 by rw [ringF,if_pos h])
   have H:(i < 0∧(if 0≤i∧i < z then (0:Int) else 2)=2)∨(0≤i∧z≤i∧(if 0≤i∧i < z then (0:Int) else 2)=2)∨(0≤i∧i < z∧(if 0≤i∧i < z then (0:Int) else 2)=0):=by
    by_cases h1:0≤i∧i < z
    · exact .inr (.inr ⟨h1.1,h1.2,if_pos h1⟩)
    · by_cases h2:i < 0
      · exact .inl ⟨h2,if_neg h1⟩
      · exact .inr (.inl ⟨by omega,by omega,if_neg h1⟩)
   clear h hn
   rcases H with ⟨h1,hq⟩|⟨h1,h2,hq⟩|⟨h1,h2,hq⟩
   all_goals
    rw [hq]
    clear hq
    go_enter Tryz.func125,Tryz.ntmps125
    go_wp2_with fail
    refine (ringFault_any _ _ _ HN.out _ _ _ HF.out _).mono ?_
    rintro e w1 ⟨rfl,hb⟩
    have HB1:=Zh (HB0.out.trans (hb.mono (by simp)))
    clear hb
    go_wp2
    go_ret
    exact ⟨rfl,HB1.out⟩
 · rw [if_neg h]
   have HF:=Zh (show ringF n b z=70 by rw [ringF,if_neg h])
   clear h hn
   go_enter Tryz.func125,Tryz.ntmps125
   go_wp2_with fail
   refine (ringFault_any _ _ _ HN.out _ _ _ HF.out _).mono ?_
   rintro e w1 ⟨rfl,hb⟩
   have HB1:=Zh (HB0.out.trans (hb.mono (by simp)))
   clear hb
   go_wp2
   go_ret
   exact ⟨rfl,HB1.out⟩
set_option maxHeartbeats 1000000 in
theorem ringSame_any (v:Value) (l:List UInt8) (w:World) (hv:IsArg w v l) (hl:l.length≤140737488355328) :
 Calls Tryz.prog 98 #[.agg #[v]] w fun e w'=>∃ r,e=.returned (.agg #[r])∧w'.ownsRow w.heap.size 5 1 r l.length (byteCells l)∧Below w.heap.size w w':=by
 have HV:=Zh hv
 have HB:=Zh (((Below.refl w.heap.size w).alloc (Nat.le_refl _) (.cells #[v] 24)).alloc (by simp) (.cells #[.slice none 0 0] 24))
 obtain ⟨a,c,rfl,_⟩:=hv.shape
 clear hv
 go_enter Tryz.func98,Tryz.ntmps98
 go_wp2_with fail
 refine (clone_any _ _ _ (HV.out.below HB.out) hl).mono ?_
 rintro e w1 ⟨r,rfl,hr,hb⟩
 have HB1:=Zh (HB.out.trans (hb.mono (by simp; omega)))
 have HR:=Zh hr
 obtain ⟨_,hold,hfz,hlt⟩:=second_box hb
 obtain ⟨ra,rc,rfl,_⟩:=(isArg_of_owns hr).shape
 clear hr hb
 go_wp2
 refine bodyPost_ret (v:=.agg #[.slice ra l.length rc]) (by simp [results,Tryz.results98,go_sem,hold]) rfl ⟨_,rfl,?_,?_⟩
 · exact ownsRow_base (ownsRow_set HR.out _ _ (by simp)) (by simp; omega)
 · exact HB1.out.setCell (by simp) _
theorem numFault_in {L p k:Nat} (hL:L≤8192) (h:p+k≤L) (h1:1≤k) (h8:k≤8):numFaultOf L (p:Nat) (k:Nat)=0∧sizeFaultOf L (k:Nat)=0∧faultOf L (p:Nat) (k:Nat)=0:=by
 have e1:sizeFaultOf L (k:Nat)=0:=by unfold sizeFaultOf; rw [if_pos hL,if_pos (by omega)]
 have e2:faultOf L (p:Nat) (k:Nat)=0:=fault_of hL (by omega) (by omega) (by omega) (by omega)
 exact ⟨by rw [numFaultOf,if_pos e1,e2],e1,e2⟩
theorem numOf_in {l:List UInt8} {p k:Nat} (hL:l.length≤8192) (h:p+k≤l.length) (h1:1≤k) (h8:k≤8):numOf l (p:Nat) (k:Nat)=numAt l p k:=by
 obtain ⟨_,e1,e2⟩:=numFault_in hL h h1 h8
 rw [numOf,if_pos e1,getOf_some e2,Int.toNat_natCast,Int.toNat_natCast,List.take_take,Nat.min_eq_right h8,numAt]
theorem putNumOf_in {l:List UInt8} {p k:Nat} (x:Nat) (hL:l.length≤8192) (h:p+k≤l.length) (h1:1≤k) (h8:k≤8):putNumOf l (p:Nat) (k:Nat) x=putAt l p k x:=by
 obtain ⟨_,e1,e2⟩:=numFault_in hL h h1 h8
 rw [putNumOf,if_pos e1,Int.toNat_natCast,putOf_some (by rw [leB_length]; exact e2),leB_length,Int.toNat_natCast,putAt]
theorem num_in {v:Value} {l:List UInt8} {p k:Nat} (hL:l.length≤8192) (h:p+k≤l.length) (h1:1≤k) (h8:k≤8) (w:World) (hv:IsArg w v l) :
 Calls Tryz.prog 53 #[.agg #[v],.int .i64 (p:Nat),.int .i64 (k:Nat)] w fun e w'=>e=.returned (.tuple #[.int .u64 (numAt l p k:Nat),.int .i64 0])∧Below w.heap.size w w' :=
 (num_any v l w hv p k (by unfold maxLen; omega)).mono fun _ _ ⟨e1,e2⟩=>by
  rw [numOf_in hL h h1 h8,(numFault_in hL h h1 h8).1] at e1
  exact ⟨e1,e2⟩
theorem putNum_at {v:Value} {l:List UInt8} {p k:Nat} (x:Nat) (hL:l.length≤8192) (h:p+k≤l.length) (h1:1≤k) (h8:k≤8) (w:World) (hv:IsArg w v l) :
 Calls Tryz.prog 27 #[.agg #[v],.int .i64 (p:Nat),.int .i64 (k:Nat),.int .u64 (x:Nat)] w fun e w'=>∃ r,e=.returned (.tuple #[.agg #[r],.int .i64 0])∧Given w' w.heap.size v l r (putAt l p k x)∧Below w.heap.size w w' :=
 (putNum_any v l w hv p k x (by omega)).mono fun _ _ ⟨r,e1,e2,e3⟩=>by
  rw [(numFault_in hL h h1 h8).1] at e1
  rw [putNumOf_in x hL h h1 h8] at e2
  exact ⟨r,e1,e2,e3⟩
def GetAt (w:World) (a b:Nat) (v:Value) (p:Nat):Prop:=w.heap[a]? = some (.cells #[v] 24 (0,0))∧w.heap[b]? = some (.cells #[.int .i64 (p:Nat)] 3 (0,0))
theorem GetAt.below {w w':World} {a b:Nat} {v:Value} {p:Nat} (h:GetAt w a b v p) (hb:Below w.heap.size w w'):GetAt w' a b v p:=⟨row_keep h.1 hb,row_keep h.2 hb⟩
theorem tneMI:(24:Nat)≠3:=by decide
theorem tneMU:(24:Nat)≠5:=by decide
theorem tneIU:(3:Nat)≠5:=by decide
theorem tnePM:(203:Nat)≠24:=by decide
theorem tnePI:(203:Nat)≠3:=by decide
theorem blocks_ne {X:World} {r g:Nat} {cs ds:Array Value} {s t:TypeId} {fr fs:Nat × Nat} (h:X.heap[g]? = some (.cells cs s fr)) (hr:X.heap[r]? = some (.cells ds t fs)) (hne:(t:Nat)≠s):r≠g:=by
 intro he
 subst he
 rw [h] at hr
 injection hr with hr
 injection hr with _ hr
 exact hne hr.symm
def Save1 (w w':World) (b:Nat):Prop:=∃ y,Below w.heap.size (w.setCell ⟨b,0,none⟩ y) w'
theorem set_size (w:World) (a:Addr) (y:Value):(w.setCell a y).heap.size=w.heap.size:=by simp [World.setCell]
theorem Save1.below {B b:Nat} {w0 w w':World} (h:Save1 w w' b) (h0:Below B w0 w) (hb:B≤b) (hs:B≤w.heap.size):Below B w0 w':=by
 obtain ⟨y,hy⟩:=h
 exact (h0.setCell hb y).trans (hy.mono hs)
theorem Save1.row {b g:Nat} {w w':World} {o:Obj} (h:Save1 w w' b) (hg:w.heap[g]? = some o) (hne:g≠b):w'.heap[g]? = some o:=by
 obtain ⟨y,hy⟩:=h
 rw [hy.block g (Array.getElem?_eq_some_iff.1 hg).1]
 exact one_other hg _ _ (by simpa using fun e=>hne e.symm)
theorem Save1.size {b:Nat} {w w':World} (h:Save1 w w' b):w.heap.size≤w'.heap.size:=by
 obtain ⟨y,hy⟩:=h
 have:=hy.size
 rwa [set_size] at this
theorem below_set {w w':World} (h:Below w.heap.size w w') (b:Nat) (y:Value):Below w.heap.size (w.setCell ⟨b,0,none⟩ y) (w'.setCell ⟨b,0,none⟩ y):=by
 refine ⟨h.os,h.tape,h.output,by rw [set_size,set_size]; exact h.size,fun k hk=>?_⟩
 have e:=h.block k hk
 simp only [World.setCell,Array.getElem?_modify]
 split
 · rename_i hbk
   subst hbk
   simp only [e]
 · exact e
theorem getter_any (v:Value) (l:List UInt8) (p:Nat) (w:World) (hv:IsArg w v l):Calls Tryz.prog 84 #[.agg #[v],.int .i64 (p:Nat)] w fun e w'=>∃ a b,e=.returned (.func (.func 124) #[] #[.pointer (some ⟨a,0,none⟩),.pointer (some ⟨b,0,none⟩)])∧GetAt w' a b v p∧w.heap.size≤a∧w.heap.size≤b∧Below w.heap.size w w':=by
 obtain ⟨h1,h2,h3⟩:=two_new w v (.int .i64 (p:Nat)) 24 3
 have H1:=Zh h1
 have H2:=Zh h2
 have H3:=Zh h3
 obtain ⟨a,c,rfl,_⟩:=hv.shape
 clear h1 h2 h3 hv
 go_enter Tryz.func84,Tryz.ntmps84
 go_wp2
 go_ret
 exact ⟨_,_,rfl,⟨H1.out,by simpa using H2.out⟩,Nat.le_refl _,by simp,H3.out⟩
set_option maxHeartbeats 1000000 in
theorem get_num (a b:Nat) (v:Value) (l:List UInt8) (p k q:Nat) (hq:p+k=q) (hL:l.length≤8192) (h:p+k≤l.length) (h1:1≤k) (h8:k≤8) (w:World) (hv:IsArg w v l) (hg:GetAt w a b v p) :
 Calls Tryz.prog 124 #[.int .i64 (k:Nat),.pointer (some ⟨a,0,none⟩),.pointer (some ⟨b,0,none⟩)] w fun e w'=>e=.returned (.int .u64 (numAt l p k:Nat))∧GetAt w' a b v q∧Save1 w w' b:=by
 have HN:=Zh (num_in (v:=v) hL h h1 h8 w hv)
 obtain ⟨n,hn⟩:∃ n,n=numAt l p k:=⟨_,rfl⟩
 rw [←hn] at HN
 rw [←hn]
 have hpq:(p:Int)+(k:Nat)=(q:Nat):=by omega
 have hq1:q≤8192:=by omega
 obtain ⟨va,vc,rfl,_⟩:=hv.shape
 have HG:=Zh hg
 have HNE:=Zh (blocks_ne hg.1 hg.2 tneMI.symm)
 obtain ⟨c1,f1⟩:=one_cell hg.1
 obtain ⟨c2,f2⟩:=one_cell hg.2
 clear hq hL h h1 h8 hv hg hn f1
 go_enter Tryz.func124,Tryz.ntmps124
 go_wp2_with fail
 refine (HN.out).mono ?_
 rintro e w1 ⟨rfl,hb⟩
 have HG1:=Zh (HG.out.below hb)
 have HB:=Zh hb
 have g1:=row_keep HG.out.1 hb
 have g2:=row_keep HG.out.2 hb
 have HG1a:=Zh g1
 have HG1b:=Zh g2
 obtain ⟨d1,e1⟩:=one_cell g1
 obtain ⟨d2,e2⟩:=one_cell g2
 clear hb c1 c2 f2 g1 g2 d1 e1
 go_wp2
 go_ret
 exact ⟨rfl,⟨one_other HG1a.out _ _ HNE.out,one_set HG1b.out (.int .i64 (q:Nat))⟩,.int .i64 (q:Nat),below_set HB.out b _⟩
def PutAt (w:World) (a b gm:Nat) (p:Nat):Prop:=w.heap[a]? = some (.cells #[.pointer (some ⟨gm,0,none⟩)] 203 (0,0))∧w.heap[b]? = some (.cells #[.int .i64 (p:Nat)] 3 (0,0))
theorem PutAt.below {w w':World} {a b gm:Nat} {p:Nat} (h:PutAt w a b gm p) (hb:Below w.heap.size w w'):PutAt w' a b gm p:=⟨row_keep h.1 hb,row_keep h.2 hb⟩
def Save2 (w w':World) (g b:Nat):Prop:=∃ x y,Below w.heap.size ((w.setCell ⟨g,0,none⟩ x).setCell ⟨b,0,none⟩ y) w'
theorem Save2.below {B g b:Nat} {w0 w w':World} (h:Save2 w w' g b) (h0:Below B w0 w) (hg:B≤g) (hb:B≤b) (hs:B≤w.heap.size):Below B w0 w':=by
 obtain ⟨x,y,hy⟩:=h
 exact ((h0.setCell hg x).setCell hb y).trans (hy.mono hs)
theorem Save2.row {b g k:Nat} {w w':World} {o:Obj} (h:Save2 w w' g b) (hk:w.heap[k]? = some o) (hg:k≠g) (hb:k≠b):w'.heap[k]? = some o:=by
 obtain ⟨x,y,hy⟩:=h
 rw [hy.block k (Array.getElem?_eq_some_iff.1 hk).1]
 exact one_other (one_other hk _ _ (by simpa using fun e=>hg e.symm)) _ _ (by simpa using fun e=>hb e.symm)
theorem Save2.size {g b:Nat} {w w':World} (h:Save2 w w' g b):w.heap.size≤w'.heap.size:=by
 obtain ⟨x,y,hy⟩:=h
 have:=hy.size
 rwa [set_size,set_size] at this
theorem owns_far {X:World} {B g:Nat} {v:Value} {n:Nat} {xs:List Value} {cs:Array Value} {s:TypeId} {fr:Nat × Nat} (h:X.ownsRow B 5 1 v n xs) (hg:X.heap[g]? = some (.cells cs s fr)) (hne:(s:Nat)≠5) (y:Value):(X.setCell ⟨g,0,none⟩ y).ownsRow B 5 1 v n xs:=by
 refine ⟨h.1,?_⟩
 rcases h.2 with h2|⟨k,cap,cur,hv,hk,hh,r⟩
 · exact .inl h2
 · exact .inr ⟨k,cap,cur,hv,hk,one_other hh _ _ (by simpa using blocks_ne hh hg hne),r⟩
theorem Given.far {X:World} {B g:Nat} {v r:Value} {l G:List UInt8} {cs:Array Value} {s:TypeId} {fr:Nat × Nat} (h:Given X B v l r G) (hg:X.heap[g]? = some (.cells cs s fr)) (hne:(s:Nat)≠5) (y:Value):Given (X.setCell ⟨g,0,none⟩ y) B v l r G:=by
 rcases h with h|h
 · exact .inl h
 · exact .inr (owns_far h hg hne y)
theorem Given.step {w w':World} {B C:Nat} {v r r':Value} {l G H:List UInt8} (h:Given w B v l r G) (h2:Given w' C r G r' H) (hC:B≤C) (hk:Given w B v l r G→Given w' B v l r G):Given w' B v l r' H:=by
 rcases h2 with ⟨rfl,rfl⟩|h2
 · exact hk h
 · exact .inr (ownsRow_base h2 hC)
theorem Save2.given {B g b:Nat} {w w':World} {v r:Value} {l G:List UInt8} {cs ds:Array Value} {s t:TypeId} {fr fs:Nat × Nat} (h:Save2 w w' g b) (hg:w.heap[g]? = some (.cells cs s fr)) (hb:w.heap[b]? = some (.cells ds t fs)) (hs:(s:Nat)≠5) (ht:(t:Nat)≠5) (hv:Given w B v l r G):Given w' B v l r G:=by
 rcases hv with hv|hv
 · exact .inl hv
 · refine .inr ⟨hv.1,?_⟩
   rcases hv.2 with h2|⟨k,cap,cur,e1,e2,hh,e3⟩
   · exact .inl h2
   · exact .inr ⟨k,cap,cur,e1,e2,h.row hh (fun e=>blocks_ne hh hg hs e.symm) (fun e=>blocks_ne hh hb ht e.symm),e3⟩
theorem putter_any (gm p:Nat) (w:World):Calls Tryz.prog 131 #[.pointer (some ⟨gm,0,none⟩),.int .i64 (p:Nat)] w fun e w'=>∃ a b,e=.returned (.func (.func 140) #[] #[.pointer (some ⟨a,0,none⟩),.pointer (some ⟨b,0,none⟩)])∧PutAt w' a b gm p∧w.heap.size≤a∧w.heap.size≤b∧Below w.heap.size w w':=by
 obtain ⟨h1,h2,h3⟩:=two_new w (.pointer (some ⟨gm,0,none⟩)) (.int .i64 (p:Nat)) 203 3
 have H1:=Zh h1
 have H2:=Zh h2
 have H3:=Zh h3
 clear h1 h2 h3
 go_enter Tryz.func131,Tryz.ntmps131
 go_wp2
 go_ret
 exact ⟨_,_,rfl,⟨H1.out,by simpa using H2.out⟩,Nat.le_refl _,by simp,H3.out⟩
theorem kept {w w':World} {a:Addr} {v:Value} (h:w.cell? a=some v) (hb:Below w.heap.size w w'):w'.cell? a=some v:=by
 rw [hb.cell (World.block_lt_of_cell? _ _ h)]; exact h
theorem tuple_two {x y u v:Value} (h:Value.tuple #[x,u]=.tuple #[y,v]):x=y∧u=v:=by
 injection h with h
 injection h with h
 injection h with h1 h
 injection h with h2 _
 exact ⟨h1,h2⟩
structure QSt (w:World) (a b gm p:Nat) (r:Value) (G H:List UInt8) (b3 b7 b8 b9 b12:Bool) (s14 s15:Value) (W:World):Prop where
 out:b12=false→Below w.heap.size w W
 size:w.heap.size≤W.heap.size
 pa:PutAt W a b gm p
 rm:b12=false→W.heap[gm]? = some (.cells #[r] 24 (0,0))
 o1:b7=true→b3=true
 o3:b8=true→b7=true
 o4:b9=true→b8=true
 o8:b12=true→b9=true
 p4:b9=true→∃ v,s14=.tuple #[s15,v]
 g2:b7=true→∃ ra rc,s14=.tuple #[.agg #[.slice ra G.length rc],.int .i64 0]∧Given W w.heap.size r G (.slice ra G.length rc) H
 g7:b12=true→∃ ra rc,W.heap[gm]? = some (.cells #[.slice ra G.length rc] 24 (0,0))∧Given W w.heap.size r G (.slice ra G.length rc) H∧Below w.heap.size (w.setCell ⟨gm,0,none⟩ (.slice ra G.length rc)) W
section
variable {w W W1:World} {a b gm p:Nat} {r:Value} {G H:List UInt8} {b3 b7 b8 b9 b12:Bool} {s14 s15:Value}
theorem QSt.start (hb:Below w.heap.size w W) (pa:PutAt w a b gm p) (rm:w.heap[gm]? = some (.cells #[r] 24 (0,0))):QSt w a b gm p r G H false false false false false s14 s15 W :=
 { out:=fun _=>hb,size:=hb.size,pa:=pa.below hb,rm:=fun _=>row_keep rm hb,o1:=Zf,o3:=Zf,o4:=Zf,o8:=Zf,p4:=Zf,g2:=Zf,g7:=Zf }
theorem QSt.before (h:QSt w a b gm p r G H b3 b7 b8 b9 b12 s14 s15 W) (h3:b3=false∨b7=false):b12=false:=by
 cases b12 with
 | false=>rfl
 | true =>
   have e7:=h.o3 (h.o4 (h.o8 rfl))
   rcases h3 with h3|h3
   · rw [h3] at h; exact absurd (h.o1 e7) (by decide)
   · rw [h3] at e7; cases e7
theorem QSt.one (h:QSt w a b gm p r G H b3 b7 b8 b9 b12 s14 s15 W):QSt w a b gm p r G H true b7 b8 b9 b12 s14 s15 W:={ h with o1:=fun _=>rfl }
theorem QSt.two {ra:Option Addr} {rc:Nat} (h:QSt w a b gm p r G H true false b8 b9 false s14 s15 W) (hb:Below W.heap.size W W1) (hr:Given W1 w.heap.size r G (.slice ra G.length rc) H):QSt w a b gm p r G H true true b8 b9 false (.tuple #[.agg #[.slice ra G.length rc],.int .i64 0]) s15 W1 where
 out:=fun e=>(h.out e).trans (hb.mono (h.out e).size)
 size:=Nat.le_trans h.size hb.size
 pa:=h.pa.below hb
 rm:=fun e=>row_keep (h.rm e) hb
 o1:=fun _=>rfl
 o3:=fun _=>rfl
 o4:=h.o4
 o8:=h.o8
 p4:=(fun e=>absurd (h.o3 (h.o4 e)) (by decide))
 g2:=fun _=>⟨ra,rc,rfl,hr⟩
 g7:=Zf
theorem QSt.three (h:QSt w a b gm p r G H b3 true b8 b9 b12 s14 s15 W):QSt w a b gm p r G H b3 true true b9 b12 s14 s15 W:={ h with o3:=fun _=>rfl,o4:=fun _=>rfl }
theorem QSt.four {x v:Value} (h:QSt w a b gm p r G H b3 b7 true b9 b12 (.tuple #[x,v]) s15 W):QSt w a b gm p r G H b3 b7 true true b12 (.tuple #[x,v]) x W:={ h with o4:=fun _=>rfl,o8:=fun _=>rfl,p4:=fun _=>⟨v,rfl⟩ }
theorem QSt.seven {ra:Option Addr} {rc:Nat} (h:QSt w a b gm p r G H b3 true true true false s14 (.agg #[.slice ra G.length rc]) W) (hr:Given W w.heap.size r G (.slice ra G.length rc) H):QSt w a b gm p r G H b3 true true true true s14 (.agg #[.slice ra G.length rc]) (W.setCell ⟨gm,0,none⟩ (.slice ra G.length rc)) where
 out:=Zf
 size:=by rw [set_size]; exact h.size
 pa:=⟨one_other h.pa.1 _ _ (by simpa using blocks_ne h.pa.1 (h.rm rfl) tnePM.symm),one_other h.pa.2 _ _ (by simpa using blocks_ne h.pa.2 (h.rm rfl) tneMI)⟩
 rm:=Zf
 o1:=h.o1
 o3:=fun _=>rfl
 o4:=fun _=>rfl
 o8:=fun _=>rfl
 p4:=h.p4
 g2:=fun e=>by obtain ⟨q,c,e1,e2⟩:=h.g2 e; exact ⟨q,c,e1,e2.far (h.rm rfl) tneMU _⟩
 g7:=fun _=>⟨ra,rc,one_set (h.rm rfl) _,hr.far (h.rm rfl) tneMU _,below_set (h.out rfl) gm _⟩
end
structure RngPutX where
 (b0 b1 b2 b3 b4 b5 b6 b7 b8 b9 b10 b11 b12:Bool)
 (s7 s8 s9 s10 s11 s12 s13 s14 s6 s15 s16 s17:Value)
set_option maxHeartbeats 4000000 in
set_option maxRecDepth 100000 in
theorem put_num (a b gm:Nat) (r:Value) (G:List UInt8) (p k q y:Nat) (hq:p+k=q) (hL:G.length≤8192) (h:p+k≤G.length) (h1:1≤k) (h8:k≤8) (w:World) (hr:IsArg w r G) (hm:w.heap[gm]? = some (.cells #[r] 24 (0,0))) (hp:PutAt w a b gm p) :
 Calls Tryz.prog 140 #[.int .i64 (k:Nat),.int .u64 (y:Nat),.pointer (some ⟨a,0,none⟩),.pointer (some ⟨b,0,none⟩)] w fun e w'=>e=.returned (.tuple #[])∧∃ ra rc,w'.heap[gm]? = some (.cells #[.slice ra G.length rc] 24 (0,0))∧PutAt w' a b gm q∧Given w' w.heap.size r G (.slice ra G.length rc) (putAt G p k y)∧Save2 w w' gm b:=by
 obtain ⟨H,hH⟩:∃ H,H=putAt G p k y:=⟨_,rfl⟩
 rw [←hH]
 obtain ⟨va,vc,rfl,_⟩:=hr.shape
 have HPN:=Zh (show ∀ W,Below w.heap.size w W→Calls Tryz.prog 27 #[.agg #[.slice va G.length vc],.int .i64 (p:Nat),.int .i64 (k:Nat),.int .u64 (y:Nat)] W fun e w'=>∃ ra rc,e=.returned (.tuple #[.agg #[.slice ra G.length rc],.int .i64 0])∧Given w' w.heap.size (.slice va G.length vc) G (.slice ra G.length rc) H∧Below W.heap.size W w' from
  fun W hb=>(putNum_at y hL h h1 h8 W (hr.below hb)).mono fun e w' ⟨s,g1,g2,g3⟩=>by
   rw [←hH] at g2
   have h5:H.length=G.length:=by rw [hH]; exact putAt_length y h
   obtain ⟨ra,rc,hs,_⟩:=(g2.arg (hr.below hb) g3).shape
   rw [h5] at hs
   subst hs
   exact ⟨ra,rc,g1,g2.base hb.size,g3⟩)
 have hpq:(p:Int)+(k:Nat)=(q:Nat):=by omega
 have hq1:q≤8192:=by omega
 have HM:=Zh hm
 have HP:=Zh hp
 clear hH hq hL h h1 h8 hr hm hp
 go_enter Tryz.func140,Tryz.ntmps140
 go_wp2_with fail
 refine wp_region_rec (X:=RngPutX) (by kernel_rfl) (by kernel_rfl) (fun x=>#[x.b0,x.b1,x.b2,x.b3,x.b4,x.b5,x.b6,x.b7,x.b8,x.b9,x.b10,x.b11,x.b12]) (fun x=>{ tmps:=#[.int .i64 (k:Nat),.int .u64 (y:Nat),.pointer (some ⟨a,0,none⟩),.pointer (some ⟨b,0,none⟩),undef,undef,x.s6,x.s7,x.s8,x.s9,x.s10,x.s11,x.s12,x.s13,x.s14,x.s15,x.s16,x.s17,undef,undef,undef],defers:=[] }) (fun x W=>(x.b0→x.s7=.pointer (some ⟨gm,0,none⟩))∧(x.b1→x.s8=.pointer (some ⟨gm,0,none⟩))∧(x.b2→x.s9=.pointer (some ⟨gm,0,none⟩))∧(x.b3→x.s10=.agg #[.slice va G.length vc])∧(x.b4→x.s11=.int .i64 (p:Nat))∧(x.b5→x.s12=.int .i64 (k:Nat))∧(x.b6→x.s13=.int .u64 (y:Nat))∧(x.b8→x.s6=x.s14)∧(x.b10→x.s16=.int .i64 0)∧(x.b11→x.s17=.pointer (some ⟨gm,0,none⟩))∧(QSt w a b gm p (.slice va G.length vc) G H x.b3 x.b7 x.b8 x.b9 x.b12 x.s14 x.s15 W)) ⟨false,false,false,false,false,false,false,false,false,false,false,false,false,undef,undef,undef,undef,undef,undef,undef,undef,undef,undef,undef,undef⟩ rfl rfl ⟨Zf,Zf,Zf,Zf,Zf,Zf,Zf,Zf,Zf,Zf,(QSt.start (Below.refl _ _).drew HP.out HM.out)⟩ (fun _=>rfl) ?hstep ?hdone
 case hstep =>
  rintro ⟨b0,b1,b2,b3,b4,b5,b6,b7,b8,b9,b10,b11,b12,s7,s8,s9,s10,s11,s12,s13,s14,s6,s15,s16,s17⟩ W hI i hi
  dsimp only at hI hi ⊢
  have HI:=Zh hI
  clear hI
  rw [Region.ready,List.mem_filter,List.mem_range] at hi
  obtain ⟨hlt,hp⟩:=hi
  have hi7:i=0∨i=1∨i=2∨i=3∨i=4∨i=5∨i=6∨i=7∨i=8∨i=9∨i=10∨i=11∨i=12:=by simp at hlt; omega
  clear hlt
  rcases hi7 with rfl|rfl|rfl|rfl|rfl|rfl|rfl|rfl|rfl|rfl|rfl|rfl|rfl
  all_goals simp [Region.binds] at hp
  · obtain rfl:b0=false:=by revert hp; cases b0 <;> simp
    clear hp; refine Zv 7 fun K' hK'=>?_
    have gI:=(Ze HI.out).2.2
    obtain ⟨hc1,hc2⟩:=one_cell (gI.pa.1)
    go_simp
    exact hK'.out _ _ ⟨.mk ..,rfl,rfl,(Upd (fun _=>rfl)) HI.out⟩
  · obtain rfl:b1=false:=by revert hp; cases b1 <;> simp
    clear hp; refine Zv 8 fun K' hK'=>?_
    have gI:=(Ze HI.out).2.2
    obtain ⟨hc1,hc2⟩:=one_cell (gI.pa.1)
    go_simp
    exact hK'.out _ _ ⟨.mk ..,rfl,rfl,Nxt (Upd (fun _=>rfl)) HI.out⟩
  · obtain ⟨rfl,e1⟩:b2=false∧b1=true:=by revert hp; cases b2 <;> cases b1 <;> simp
    clear hp
    obtain rfl:=(HI.out.2.1) e1
    refine Zv 9 fun K' hK'=>?_
    go_simp
    exact hK'.out _ _ ⟨.mk ..,rfl,rfl,Nxt (Nxt (Upd (fun _=>rfl))) HI.out⟩
  · obtain ⟨rfl,e2⟩:b3=false∧b2=true:=by revert hp; cases b3 <;> cases b2 <;> simp
    clear hp
    obtain rfl:=(HI.out.2.2.1) e2
    refine Zv 10 fun K' hK'=>?_
    have gI:=(Ze HI.out).2.2
    have hb12:=gI.before (.inl rfl)
    subst hb12
    obtain ⟨hc1,hc2⟩:=one_cell (gI.rm rfl)
    go_simp
    obtain ⟨h0,h1,h2,h3,h4,h5,h6,h8,h10,h11,gI⟩:=HI.out
    exact hK'.out _ _ ⟨.mk ..,rfl,rfl,h0,h1,h2,(fun _=>rfl),h4,h5,h6,h8,h10,h11,gI.one⟩
  · obtain rfl:b4=false:=by revert hp; cases b4 <;> simp
    clear hp; refine Zv 11 fun K' hK'=>?_
    have gI:=(Ze HI.out).2.2
    obtain ⟨hc1,hc2⟩:=one_cell (gI.pa.2)
    go_simp
    exact hK'.out _ _ ⟨.mk ..,rfl,rfl,Nx4 (Upd (fun _=>rfl)) HI.out⟩
  · obtain rfl:b5=false:=by revert hp; cases b5 <;> simp
    clear hp; refine Zv 12 fun K' hK'=>?_
    go_simp
    exact hK'.out _ _ ⟨.mk ..,rfl,rfl,Nxt (Nx4 (Upd (fun _=>rfl))) HI.out⟩
  · obtain rfl:b6=false:=by revert hp; cases b6 <;> simp
    clear hp; refine Zv 13 fun K' hK'=>?_
    go_simp
    exact hK'.out _ _ ⟨.mk ..,rfl,rfl,Nxt (Nxt (Nx4 (Upd (fun _=>rfl)))) HI.out⟩
  · have hn7:b7=false:=by revert hp; cases b7 <;> simp
    have e3:b3=true:=by revert hp; cases b3 <;> simp
    have e4:b4=true:=by revert hp; cases b4 <;> simp
    have e5:b5=true:=by revert hp; cases b5 <;> simp
    have e6:b6=true:=by revert hp; cases b6 <;> simp
    clear hp
    obtain rfl:=(HI.out.2.2.2.1) e3
    obtain rfl:=((Zd HI.out).1) e4
    obtain rfl:=((Zd HI.out).2.1) e5
    obtain rfl:=((Zd HI.out).2.2.1) e6
    subst hn7
    refine Zv 14 fun K' hK'=>?_
    have gI:=(Ze HI.out).2.2
    have hb12:=gI.before (.inr rfl)
    subst hb12
    subst e3
    go_simp
    refine (HPN.out W (gI.out rfl)).mono ?_
    rintro e w1 ⟨ra,rc,rfl,hr,bn⟩
    obtain ⟨h0,h1,h2,h3,h4,h5,h6,h8,h10,h11,gI⟩:=HI.out
    exact hK'.out _ _ ⟨.mk ..,rfl,rfl,h0,h1,h2,h3,h4,h5,h6,(fun e3=>absurd (gI.o3 e3) (by decide)),h10,h11,(gI.two bn hr)⟩
  · obtain ⟨rfl,e7⟩:b8=false∧b7=true:=by revert hp; cases b8 <;> cases b7 <;> simp
    clear hp; refine Zv 6 fun K' hK'=>?_
    subst e7
    go_simp
    obtain ⟨h0,h1,h2,h3,h4,h5,h6,h8,h10,h11,gI⟩:=HI.out
    exact hK'.out _ _ ⟨.mk ..,rfl,rfl,h0,h1,h2,h3,h4,h5,h6,(fun _=>rfl),h10,h11,gI.three⟩
  · obtain ⟨rfl,e8⟩:b9=false∧b8=true:=by revert hp; cases b9 <;> cases b8 <;> simp
    clear hp
    obtain rfl:=((Zd HI.out).2.2.2.1) e8
    refine Zv 15 fun K' hK'=>?_
    have gI:=(Ze HI.out).2.2
    obtain ⟨ra,rc,rfl,_⟩:=gI.g2 (gI.o3 e8)
    subst e8
    go_simp
    obtain ⟨h0,h1,h2,h3,h4,h5,h6,h8,h10,h11,gI⟩:=HI.out
    exact hK'.out _ _ ⟨.mk ..,rfl,rfl,h0,h1,h2,h3,h4,h5,h6,h8,h10,h11,gI.four⟩
  · obtain ⟨rfl,e8⟩:b10=false∧b8=true:=by revert hp; cases b10 <;> cases b8 <;> simp
    clear hp
    obtain rfl:=((Zd HI.out).2.2.2.1) e8
    refine Zv 16 fun K' hK'=>?_
    have gI:=(Ze HI.out).2.2
    obtain ⟨ra,rc,rfl,_⟩:=gI.g2 (gI.o3 e8)
    go_simp
    exact hK'.out _ _ ⟨.mk ..,rfl,rfl,Nx4 (Nx4 (Upd (fun _=>rfl))) HI.out⟩
  · obtain ⟨rfl,e0⟩:b11=false∧b0=true:=by revert hp; cases b11 <;> cases b0 <;> simp
    clear hp
    obtain rfl:=(HI.out.1) e0
    refine Zv 17 fun K' hK'=>?_
    go_simp
    exact hK'.out _ _ ⟨.mk ..,rfl,rfl,Nxt (Nx4 (Nx4 (Upd (fun _=>rfl)))) HI.out⟩
  · have hn12:b12=false:=by revert hp; cases b12 <;> simp
    have e0:b0=true:=by revert hp; cases b0 <;> simp
    have e1:b1=true:=by revert hp; cases b1 <;> simp
    have e2:b2=true:=by revert hp; cases b2 <;> simp
    have e3:b3=true:=by revert hp; cases b3 <;> simp
    have e4:b4=true:=by revert hp; cases b4 <;> simp
    have e5:b5=true:=by revert hp; cases b5 <;> simp
    have e6:b6=true:=by revert hp; cases b6 <;> simp
    have e7:b7=true:=by revert hp; cases b7 <;> simp
    have e8:b8=true:=by revert hp; cases b8 <;> simp
    have e9:b9=true:=by revert hp; cases b9 <;> simp
    have e11:b11=true:=by revert hp; cases b11 <;> simp
    clear hp
    obtain rfl:=((Ze HI.out).2.1) e11
    subst hn12
    refine inv_op (o:=⟨none,_,_,_,_,_⟩) rfl (fun K' hK'=>?_)
    have gI:=(Ze HI.out).2.2
    obtain ⟨ra,rc,hw,hown⟩:=gI.g2 e7
    obtain ⟨v,hv⟩:=gI.p4 e9
    obtain ⟨rfl,hvv⟩:=tuple_two (hv.symm.trans hw)
    clear hv hw hvv
    obtain ⟨hc1,hc2⟩:=one_cell (gI.rm rfl)
    subst e7
    subst e8
    subst e9
    go_simp
    obtain ⟨h0,h1,h2,h3,h4,h5,h6,h8,h10,h11,gI⟩:=HI.out
    exact hK'.out _ _ ⟨.mk ..,rfl,rfl,h0,h1,h2,h3,h4,h5,h6,h8,h10,h11,(gI.seven hown)⟩
 case hdone =>
  rintro ⟨b0,b1,b2,b3,b4,b5,b6,b7,b8,b9,b10,b11,b12,s7,s8,s9,s10,s11,s12,s13,s14,s6,s15,s16,s17⟩ W hI hall
  dsimp only at hI hall ⊢
  have HI:=Zh hI
  clear hI
  obtain rfl:b0=true:=hall 0 (by decide)
  obtain rfl:b1=true:=hall 1 (by decide)
  obtain rfl:b2=true:=hall 2 (by decide)
  obtain rfl:b3=true:=hall 3 (by decide)
  obtain rfl:b4=true:=hall 4 (by decide)
  obtain rfl:b5=true:=hall 5 (by decide)
  obtain rfl:b6=true:=hall 6 (by decide)
  obtain rfl:b7=true:=hall 7 (by decide)
  obtain rfl:b8=true:=hall 8 (by decide)
  obtain rfl:b9=true:=hall 9 (by decide)
  obtain rfl:b10=true:=hall 10 (by decide)
  obtain rfl:b11=true:=hall 11 (by decide)
  obtain rfl:b12=true:=hall 12 (by decide)
  have gI:=(Ze HI.out).2.2
  clear HI hall
  obtain ⟨w1,hw1⟩:∃ u,u=W:=⟨_,rfl⟩
  subst hw1
  obtain ⟨ra,rc,hm1,hg1,hb1⟩:=gI.g7 rfl
  have hpa:=gI.pa
  have HM1:=Zh hm1
  have HG1:=Zh hg1
  have HB1:=Zh hb1
  have HPA:=Zh hpa
  obtain ⟨d1,d2⟩:=one_cell hpa.2
  clear gI hm1 hg1 hb1 hpa
  go_wp2
  refine bodyPost_end (v:=.tuple #[]) (by simp [results,Tryz.results140]) rfl ⟨rfl,ra,rc,?_,?_,?_,.slice ra G.length rc,.int .i64 (q:Nat),?_⟩
  · exact one_other HM1.out _ _ (by simpa using blocks_ne HM1.out HPA.out.2 tneMI.symm)
  · exact ⟨one_other HPA.out.1 _ _ (by simpa using blocks_ne HPA.out.1 HPA.out.2 tnePI.symm),one_set HPA.out.2 _⟩
  · exact HG1.out.far HPA.out.2 tneIU _
  · have h:=HB1.out
    have h2:Below (w.setCell ⟨gm,0,none⟩ (.slice ra G.length rc)).heap.size (w.setCell ⟨gm,0,none⟩ (.slice ra G.length rc)) w1:=by rw [set_size]; exact h
    have h3:=below_set h2 b (.int .i64 (q:Nat))
    rw [set_size] at h3
    exact h3
theorem tneDI:(159:Nat)≠3:=by decide
theorem tneDM:(159:Nat)≠24:=by decide
theorem tneUI:(126:Nat)≠3:=by decide
theorem tneUM:(126:Nat)≠24:=by decide
theorem at_cell {X:World} {g:Nat} {cs:Array Value} {t:TypeId} (h:X.heap[g]? = some (.cells cs t (0,0))) (i:Nat) (u:Value) (hu:cs[i]? = some u):X.cell? ⟨g,i,none⟩=some u∧X.frozen? ⟨g,i,none⟩=false:=by
 refine ⟨?_,?_⟩
 · unfold World.cell?; rw [h]; exact hu
 · unfold World.frozen?; rw [h]; simp
theorem set_at {X:World} {g:Nat} {cs:Array Value} {t:TypeId} (h:X.heap[g]? = some (.cells cs t (0,0))) (i:Nat) (u:Value):(X.setCell ⟨g,i,none⟩ u).heap[g]? = some (.cells (cs.setIfInBounds i u) t (0,0)):=by
 simp [World.setCell,Array.getElem?_modify,h]
structure GSt (w:World) (ga gb gd gr:Nat) (v:Value) (p:Nat) (cs rs:Array Value) (t:TypeId) (W:World):Prop where
 out:Below w.heap.size w W
 lo:w.heap.size≤gb∧w.heap.size≤gd
 ne:gr≠gd
 ti:(t:Nat)≠3
 tm:(t:Nat)≠24
 get:GetAt W ga gb v p
 box:W.heap[gd]? = some (.cells cs t (0,0))
 res:W.heap[gr]? = some (.cells rs t (0,0))
theorem GSt.call {w W W1:World} {ga gb gd gr p q:Nat} {v:Value} {cs rs:Array Value} {t:TypeId} (h:GSt w ga gb gd gr v p cs rs t W) (hg:GetAt W1 ga gb v q) (hs:Save1 W W1 gb):GSt w ga gb gd gr v q cs rs t W1 where
 out:=hs.below h.out h.lo.1 h.out.size
 lo:=h.lo
 ne:=h.ne
 ti:=h.ti
 tm:=h.tm
 get:=hg
 box:=hs.row h.box (blocks_ne h.get.2 h.box h.ti)
 res:=hs.row h.res (blocks_ne h.get.2 h.res h.ti)
theorem GSt.store {w W:World} {ga gb gd gr p:Nat} {v:Value} {cs rs:Array Value} {t:TypeId} (h:GSt w ga gb gd gr v p cs rs t W) (i:Nat) (u:Value):GSt w ga gb gd gr v p (cs.setIfInBounds i u) rs t (W.setCell ⟨gd,i,none⟩ u) where
 out:=h.out.setCell h.lo.2 u
 lo:=h.lo
 ne:=h.ne
 ti:=h.ti
 tm:=h.tm
 get:=⟨one_other h.get.1 _ _ (blocks_ne h.get.1 h.box h.tm),one_other h.get.2 _ _ (blocks_ne h.get.2 h.box h.ti)⟩
 box:=set_at h.box i u
 res:=one_other h.res _ _ (fun e=>h.ne e.symm)
set_option maxHeartbeats 4000000 in
set_option maxRecDepth 100000 in
theorem desc_in (v:Value) (l:List UInt8) (w:World) (hv:IsArg w v l) (B N i p:Nat) (hok:RingOk l.length B N) (hi:i < N) (hp:B+16 * i=p) (x0 x1 x2 x3:Nat) (h0:numAt l p 8=x0) (h1:numAt l (p+8) 4=x1) (h2:numAt l (p+12) 2=x2) (h3:numAt l (p+14) 2=x3) :
 Calls Tryz.prog 86 #[.agg #[v],.int .i64 (B:Nat),.int .i64 (N:Nat),.int .i64 (i:Nat)] w fun e w'=>e=.returned (.tuple #[.agg #[.int .u64 (x0:Nat),.int .u32 (x1:Nat),.int .u16 (x2:Nat),.int .u16 (x3:Nat)],.int .i64 0])∧Below w.heap.size w w':=by
 have hf:descF l.length (B:Int) (N:Int) (i:Int)=0:=by rw [descF,if_pos hok.ok,if_pos (by omega)]
 have hN:=hok.right.le
 have hsz:=sizeN_le N
 have hfit:=hok.fits
 have hL:=hok.few
 have HL:=Zh hL
 have hpl:p+16≤l.length:=by omega
 have HPL:=Zh hpl
 have HFD:=Zh hf
 have HV:=Zh hv
 have HB0:=Zh (((Below.refl w.heap.size w).alloc (Nat.le_refl _) (.cells #[v] 24)).alloc (by simp) (.cells #[.int .u64 0,.int .u32 0,.int .u16 0,.int .u16 0] 159))
 have HMX:=Zh (show l.length≤maxLen by unfold maxLen; omega)
 have HQ:=Zh (show ((i:Nat):Int) * 16=((16 * i:Nat):Int) by omega)
 have HT:=Zh (show ((B:Nat):Int)+((16 * i:Nat):Int)=(p:Nat) by omega)
 have HQ1:=Zh (show -9223372036854775808≤((16 * i:Nat):Int)∧((16 * i:Nat):Int)≤9223372036854775807 by omega)
 have HT1:=Zh (show -9223372036854775808≤((p:Nat):Int)∧((p:Nat):Int)≤9223372036854775807 by omega)
 have hx0:x0 < 18446744073709551616:=by rw [←h0]; exact numAt_lt l p 8
 have hx1:x1 < 4294967296:=by rw [←h1]; exact numAt_lt l (p+8) 4
 have hx2:x2 < 65536:=by rw [←h2]; exact numAt_lt l (p+12) 2
 have hx3:x3 < 65536:=by rw [←h3]; exact numAt_lt l (p+14) 2
 have H0:=Zh h0
 have H1:=Zh h1
 have H2:=Zh h2
 have H3:=Zh h3
 obtain ⟨va,vc,rfl,_⟩:=hv.shape
 clear hf hok hN hsz hfit hL hpl hv h0 h1 h2 h3 hp hi
 go_enter Tryz.func86,Tryz.ntmps86
 go_wp2_with fail
 refine (descFault_any _ _ _ HMX.out _ _ _ _ HFD.out _).mono ?_
 rintro e w1 ⟨rfl,hb⟩
 have hr0:=row_keep (row_keep (heap_alloc_new w (.cells #[.slice va l.length vc] 24)) ((Below.refl _ _).alloc (Nat.le_refl _) (.cells #[.int .u64 0,.int .u32 0,.int .u16 0,.int .u16 0] 159))) hb
 have hr1:=row_keep (heap_alloc_new (w.alloc (.cells #[.slice va l.length vc] 24)) (.cells #[.int .u64 0,.int .u32 0,.int .u16 0,.int .u16 0] 159)) hb
 have HB1:=Zh (HB0.out.trans (hb.mono (by simp; omega)))
 have HR0:=Zh hr0
 have HR1:=Zh (show w1.heap[w.heap.size+1]? = some (.cells #[.int .u64 0,.int .u32 0,.int .u16 0,.int .u16 0] 159) by simpa using hr1)
 obtain ⟨c1,f1⟩:=one_cell hr0
 clear hb hr0 hr1 f1
 go_wp2_with fail
 go_region_held3 (fun W=>W.cell? ⟨w.heap.size,0,none⟩=some (.slice va l.length vc)) (first|(with_reducible assumption)|go_keep) (first
  | (go_at_call 123; refine (descs_any _ _).mono ?_; rintro e w2 ⟨a,b,rfl,hr2,hb2⟩; have c2:=kept (w:=w1.drew) c1 hb2; have HR2:=Zh hr2; clear hr2)
  | (go_at_call 142; refine (row1_any a b _ 16 _ _ _ HQ.out HT.out HQ1.out HT1.out _ HR2.out).mono ?_; rintro e w3 ⟨rfl,rfl⟩)
  | (go_at_call 84; refine (getter_any _ l _ _ ((HV.out.below (HB1.out.drew)).below hb2)).mono ?_; rintro e w4 ⟨ga,gb,rfl,hg,ha0,hb0,hb4⟩; have c4:=kept c2 hb4; have HG4:=Zh hg; clear hg))
 have hbw:Below w.heap.size w w4:=(HB1.out.drew.trans (hb2.mono HB1.out.drew.size)).trans (hb4.mono (HB1.out.drew.trans (hb2.mono HB1.out.drew.size)).size)
 have hr4:=row_keep (row_keep (w:=w1.drew) HR1.out hb2) hb4
 have hz:w.heap.size+1 < w4.heap.size:=(Array.getElem?_eq_some_iff.1 hr4).1
 have hgb:w.heap.size≤gb:=Nat.le_trans (Nat.le_trans HB1.out.size (show w1.heap.size≤w3.heap.size from hb2.size)) hb0
 have HG:=Zh (show GSt w ga gb w4.heap.size (w.heap.size+1) (.slice va l.length vc) p #[.int .u64 0,.int .u32 0,.int .u16 0,.int .u16 0] #[.int .u64 0,.int .u32 0,.int .u16 0,.int .u16 0] 159 (w4.alloc (.cells #[.int .u64 0,.int .u32 0,.int .u16 0,.int .u16 0] 159)) from
  { out:=hbw.alloc hbw.size _,lo:=⟨hgb,hbw.size⟩,ne:=by omega,ti:=tneDI,tm:=tneDM,get:=HG4.out.below ((Below.refl _ _).alloc (Nat.le_refl _) _),box:=heap_alloc_new w4 _,res:=row_keep hr4 ((Below.refl _ _).alloc (Nat.le_refl _) _) })
 have HGB:=Zh hgb
 have w32:IntKind.u32.wrap ((x1:Nat):Int)=(x1:Nat):=IntWalk.u32_in _ (by omega)
 have w16:IntKind.u16.wrap ((x2:Nat):Int)=(x2:Nat):=IntWalk.u16_in _ (by omega)
 have w17:IntKind.u16.wrap ((x3:Nat):Int)=(x3:Nat):=IntWalk.u16_in _ (by omega)
 have hne1:w4.heap.size≠w.heap.size+1:=by omega
 have hne2:w.heap.size+1≠w4.heap.size:=by omega
 clear hbw hr4 hz hgb hb2 hb4 c1 c2 c4 ha0 hb0
 go_wp2_with fail
 refine (get_num ga gb _ l p 8 (p+8) (by omega) HL.out (by have:=HPL.out; omega) (by decide) (by decide) _ (HV.out.below HG.out.out) HG.out.get).mono ?_
 rintro e w5 ⟨rfl,hg,hs⟩
 rw [H0.out]
 replace HG:=Zh (HG.out.call hg hs)
 obtain ⟨d0,f0⟩:=at_cell HG.out.box 0 _ rfl
 clear hg hs
 replace HG:=Zh (HG.out.store 0 (.int .u64 (x0:Nat)))
 go_wp2_with fail
 refine (get_num ga gb _ l (p+8) 4 (p+12) (by omega) HL.out (by have:=HPL.out; omega) (by decide) (by decide) _ (HV.out.below HG.out.out) HG.out.get).mono ?_
 rintro e w6 ⟨rfl,hg,hs⟩
 rw [H1.out]
 replace HG:=Zh (HG.out.call hg hs)
 obtain ⟨d1,f1⟩:=at_cell HG.out.box 1 _ rfl
 clear hg hs
 replace HG:=Zh (HG.out.store 1 (.int .u32 (x1:Nat)))
 go_wp2_with fail
 refine (get_num ga gb _ l (p+12) 2 (p+14) (by omega) HL.out (by have:=HPL.out; omega) (by decide) (by decide) _ (HV.out.below HG.out.out) HG.out.get).mono ?_
 rintro e w7 ⟨rfl,hg,hs⟩
 rw [H2.out]
 replace HG:=Zh (HG.out.call hg hs)
 obtain ⟨d2,f2⟩:=at_cell HG.out.box 2 _ rfl
 clear hg hs
 replace HG:=Zh (HG.out.store 2 (.int .u16 (x2:Nat)))
 go_wp2_with fail
 refine (get_num ga gb _ l (p+14) 2 (p+16) (by omega) HL.out (by have:=HPL.out; omega) (by decide) (by decide) _ (HV.out.below HG.out.out) HG.out.get).mono ?_
 rintro e w8 ⟨rfl,hg,hs⟩
 rw [H3.out]
 replace HG:=Zh (HG.out.call hg hs)
 obtain ⟨d3,f3⟩:=at_cell HG.out.box 3 _ rfl
 clear hg hs
 clear d0 f0 d1 f1 d2 f2
 obtain ⟨e0,_⟩:=at_cell HG.out.box 0 _ rfl
 obtain ⟨e1,_⟩:=at_cell HG.out.box 1 _ rfl
 obtain ⟨e2,_⟩:=at_cell HG.out.box 2 _ rfl
 obtain ⟨r0,g0⟩:=at_cell HG.out.res 0 _ rfl
 obtain ⟨r1,g1⟩:=at_cell HG.out.res 1 _ rfl
 obtain ⟨r2,g2⟩:=at_cell HG.out.res 2 _ rfl
 obtain ⟨r3,g3⟩:=at_cell HG.out.res 3 _ rfl
 go_wp2
 refine bodyPost_ret (v:=.tuple #[.agg #[.int .u64 (x0:Nat),.int .u32 (x1:Nat),.int .u16 (x2:Nat),.int .u16 (x3:Nat)],.int .i64 0]) (by simp [results,Tryz.results86,go_sem,r0,r1,r2,r3]) rfl ⟨rfl,?_⟩
 exact ((((HG.out.out.setCell HG.out.lo.2 _).setCell (by simp) _).setCell (by simp) _).setCell (by simp) _).setCell (by simp) _
set_option maxHeartbeats 1000000 in
set_option maxRecDepth 100000 in
theorem desc_out (a:Option Addr) (n c:Nat) (hn:n≤maxLen) (b z i:Int) (F:Int) (hF:descF n b z i=F) (h0:F≠0) (w:World) :
 Calls Tryz.prog 86 #[.agg #[.slice a n c],.int .i64 b,.int .i64 z,.int .i64 i] w fun e w'=>e=.returned (.tuple #[.agg #[.int .u64 0,.int .u32 0,.int .u16 0,.int .u16 0],.int .i64 F])∧Below w.heap.size w w':=by
 have HB0:=Zh (((Below.refl w.heap.size w).alloc (Nat.le_refl _) (.cells #[.slice a n c] 24)).alloc (by simp) (.cells #[.int .u64 0,.int .u32 0,.int .u16 0,.int .u16 0] 159))
 have HN:=Zh hn
 have HF:=Zh hF
 clear hn hF
 go_enter Tryz.func86,Tryz.ntmps86
 go_wp2_with fail
 refine (descFault_any _ _ _ HN.out _ _ _ _ HF.out _).mono ?_
 rintro e w1 ⟨rfl,hb⟩
 have hr1:=row_keep (heap_alloc_new (w.alloc (.cells #[.slice a n c] 24)) (.cells #[.int .u64 0,.int .u32 0,.int .u16 0,.int .u16 0] 159)) hb
 have HR1:=Zh (show w1.heap[w.heap.size+1]? = some (.cells #[.int .u64 0,.int .u32 0,.int .u16 0,.int .u16 0] 159) by simpa using hr1)
 have HB1:=Zh (HB0.out.trans (hb.mono (by simp; omega)))
 obtain ⟨r0,g0⟩:=at_cell HR1.out 0 _ rfl
 obtain ⟨r1,g1⟩:=at_cell HR1.out 1 _ rfl
 obtain ⟨r2,g2⟩:=at_cell HR1.out 2 _ rfl
 obtain ⟨r3,g3⟩:=at_cell HR1.out 3 _ rfl
 clear hb hr1
 go_wp2
 refine bodyPost_ret (v:=.tuple #[.agg #[.int .u64 0,.int .u32 0,.int .u16 0,.int .u16 0],.int .i64 F]) (by simp [results,Tryz.results86,go_sem,r0,r1,r2,r3]) rfl ⟨rfl,?_⟩
 exact (((HB1.out.setCell (by simp) _).setCell (by simp) _).setCell (by simp) _).setCell (by simp) _
theorem desc_any (v:Value) (l:List UInt8) (b z i:Int) (F:Int) (x0 x1 x2 x3:Nat) (hF:descF l.length b z i=F) (h0:descX l b z i 0 8=x0) (h1:descX l b z i 8 4=x1) (h2:descX l b z i 12 2=x2) (h3:descX l b z i 14 2=x3) (hl:l.length≤maxLen) (w:World) (hv:IsArg w v l) :
 Calls Tryz.prog 86 #[.agg #[v],.int .i64 b,.int .i64 z,.int .i64 i] w fun e w'=>e=.returned (.tuple #[.agg #[.int .u64 (x0:Nat),.int .u32 (x1:Nat),.int .u16 (x2:Nat),.int .u16 (x3:Nat)],.int .i64 F])∧Below w.heap.size w w':=by
 by_cases hz:F=0
 · subst hz
   rcases desc_cases l.length b z i with ⟨_,h⟩|⟨_,_,h⟩|⟨B,N,I,rfl,rfl,rfl,hI,hok,h⟩
   · omega
   · omega
   · rw [descX,if_pos h,Int.toNat_natCast,Int.toNat_natCast] at h0 h1 h2 h3
     exact desc_in v l w hv B N I (B+16 * I) hok hI rfl x0 x1 x2 x3 h0 h1 h2 h3
 · have hx:∀ o k,descX l b z i o k=0:=fun o k=>by rw [descX,if_neg (by rw [hF]; exact hz)]
   rw [hx] at h0 h1 h2 h3
   subst h0
   subst h1
   subst h2
   subst h3
   obtain ⟨a,c,rfl,_⟩:=hv.shape
   exact desc_out a l.length c hl b z i F hF hz w
set_option maxHeartbeats 4000000 in
set_option maxRecDepth 100000 in
theorem availAt_in (v:Value) (l:List UInt8) (w:World) (hv:IsArg w v l) (B N at_ p:Nat) (hok:RingOk l.length B N) (hi:at_ < 65536) (hp:B+16 * N+4+2 * (at_ % N)=p) (y:Nat) (hy:numAt l p 2=y) :
 Calls Tryz.prog 49 #[.agg #[v],.int .i64 (B:Nat),.int .i64 (N:Nat),.int .u16 (at_:Nat)] w fun e w'=>e=.returned (.tuple #[.int .i64 (y:Nat),.int .i64 0])∧Below w.heap.size w w':=by
 have hN:=hok.right.le
 have hsz:=sizeN_le N
 have hfit:=hok.fits
 have hL:=hok.few
 have HL:=Zh hL
 have HB8:=Zh (show B≤8192 by omega)
 have HN:=Zh hN
 have HMX:=Zh (show l.length≤maxLen by unfold maxLen; omega)
 have HF:=Zh (show ringF l.length (B:Int) (N:Int)=0 by rw [ringF,if_pos hok.ok])
 have HV:=Zh hv
 obtain ⟨j,hj⟩:∃ j,at_ % N=j:=⟨_,rfl⟩
 have hjn:j < N:=by rw [←hj]; exact Nat.mod_lt _ (by omega)
 rw [hj] at hp
 have HJ:=Zh hj
 have HI:=Zh hi
 have HQ:=Zh (show ((j:Nat):Int) * 2=((2 * j:Nat):Int) by omega)
 have HT:=Zh (show ((B+16 * N+4:Nat):Int)+((2 * j:Nat):Int)=(p:Nat) by omega)
 have HQ1:=Zh (show -9223372036854775808≤((2 * j:Nat):Int)∧((2 * j:Nat):Int)≤9223372036854775807 by omega)
 have HT1:=Zh (show -9223372036854775808≤((p:Nat):Int)∧((p:Nat):Int)≤9223372036854775807 by omega)
 have hpl:p+2≤l.length:=by omega
 have HPL:=Zh hpl
 have HB0:=Zh ((Below.refl w.heap.size w).alloc (Nat.le_refl _) (.cells #[v] 24))
 have HY:=Zh hy
 have hy2:y < 65536:=by rw [←hy]; exact numAt_lt l p 2
 have hyw:IntKind.i64.wrap ((y:Nat):Int)=(y:Nat):=IntWalk.i64_in _ (by omega)
 obtain ⟨va,vc,rfl,_⟩:=hv.shape
 clear hN hsz hfit hL hv hj hi hpl hok hy hp hjn
 go_enter Tryz.func49,Tryz.ntmps49
 go_wp2_with fail
 refine (ringFault_any _ _ _ HMX.out _ _ _ HF.out _).mono ?_
 rintro e w1 ⟨rfl,hb⟩
 have hr0:=row_keep (heap_alloc_new w (.cells #[.slice va l.length vc] 24)) hb
 have HB1:=Zh (HB0.out.trans (hb.mono (by simp)))
 obtain ⟨c1,f1⟩:=one_cell hr0
 clear hb hr0 f1
 go_wp2_with fail
 go_region_held3 (fun W=>W.cell? ⟨w.heap.size,0,none⟩=some (.slice va l.length vc)) (first|(with_reducible assumption)|go_keep) (first
  | (go_at_call 82; refine (availPart_any B N _ _ rfl rfl HB8.out HN.out.2 _).mono ?_; rintro e w2 ⟨a,b,rfl,hr2,hb2⟩; have c2:=kept (w:=w1.drew) c1 hb2; have HR2:=Zh hr2; clear hr2)
  | (go_at_call 85; refine (place_any _ _ 2 _ _ a b N at_ j HJ.out HN.out HI.out HQ.out HT.out HQ1.out HT1.out _ HR2.out).mono ?_; rintro e w3 ⟨rfl,hb3⟩; have c3:=kept c2 hb3)
  | (go_at_call 84; refine (getter_any _ l p _ (((HV.out.below (HB1.out.drew)).below hb2).below hb3)).mono ?_; rintro e w4 ⟨ga,gb,rfl,hg,ha0,hb0,hb4⟩; have c4:=kept c3 hb4; have HG4:=Zh hg; clear hg))
 have hbw3:Below w.heap.size w w3:=(HB1.out.drew.trans (hb2.mono HB1.out.drew.size)).trans (hb3.mono (HB1.out.drew.trans (hb2.mono HB1.out.drew.size)).size)
 have hbw:Below w.heap.size w w4:=hbw3.trans (hb4.mono hbw3.size)
 have HGB:=Zh (show w.heap.size≤gb from Nat.le_trans hbw3.size hb0)
 have HBW:=Zh hbw
 clear hbw hbw3 hb2 hb3 hb4 c1 c2 c3 c4 ha0 hb0
 go_wp2_with fail
 refine (get_num ga gb _ l p 2 (p+2) rfl HL.out HPL.out (by decide) (by decide) _ (HV.out.below HBW.out) HG4.out).mono ?_
 rintro e w5 ⟨rfl,hg,hs⟩
 rw [HY.out]
 have HB5:=Zh (hs.below HBW.out HGB.out HBW.out.size)
 clear hg hs
 go_wp2
 go_ret2
 exact ⟨rfl,HB5.out⟩
set_option maxHeartbeats 4000000 in
set_option maxRecDepth 100000 in
theorem usedAt_in (v:Value) (l:List UInt8) (w:World) (hv:IsArg w v l) (B N at_ p:Nat) (hok:RingOk l.length B N) (hi:at_ < 65536) (hp:B+secN N+4+8 * (at_ % N)=p) (x0 x1:Nat) (h0:numAt l p 4=x0) (h1:numAt l (p+4) 4=x1) :
 Calls Tryz.prog 103 #[.agg #[v],.int .i64 (B:Nat),.int .i64 (N:Nat),.int .u16 (at_:Nat)] w fun e w'=>e=.returned (.tuple #[.agg #[.int .u32 (x0:Nat),.int .u32 (x1:Nat)],.int .i64 0])∧Below w.heap.size w w':=by
 have hN:=hok.right.le
 have hsz:=sizeN_le N
 have hfit:=hok.fits
 have hL:=hok.few
 have HL:=Zh hL
 have HB8:=Zh (show B≤8192 by omega)
 have HN:=Zh hN
 have HMX:=Zh (show l.length≤maxLen by unfold maxLen; omega)
 have HF:=Zh (show ringF l.length (B:Int) (N:Int)=0 by rw [ringF,if_pos hok.ok])
 have HV:=Zh hv
 obtain ⟨j,hj⟩:∃ j,at_ % N=j:=⟨_,rfl⟩
 have hjn:j < N:=by rw [←hj]; exact Nat.mod_lt _ (by omega)
 rw [hj] at hp
 have HJ:=Zh hj
 have HI:=Zh hi
 have HQ:=Zh (show ((j:Nat):Int) * 8=((8 * j:Nat):Int) by omega)
 have HT:=Zh (show ((B+secN N+4:Nat):Int)+((8 * j:Nat):Int)=(p:Nat) by omega)
 have HQ1:=Zh (show -9223372036854775808≤((8 * j:Nat):Int)∧((8 * j:Nat):Int)≤9223372036854775807 by omega)
 have HT1:=Zh (show -9223372036854775808≤((p:Nat):Int)∧((p:Nat):Int)≤9223372036854775807 by omega)
 have hpl:p+8≤l.length:=by omega
 have HPL:=Zh hpl
 have HB0:=Zh (((Below.refl w.heap.size w).alloc (Nat.le_refl _) (.cells #[v] 24)).alloc (by simp) (.cells #[.int .u32 0,.int .u32 0] 126))
 have H0:=Zh h0
 have H1:=Zh h1
 have hx0:x0 < 4294967296:=by rw [←h0]; exact numAt_lt l p 4
 have hx1:x1 < 4294967296:=by rw [←h1]; exact numAt_lt l (p+4) 4
 have hyw0:IntKind.u32.wrap ((x0:Nat):Int)=(x0:Nat):=IntWalk.u32_in _ (by omega)
 have hyw1:IntKind.u32.wrap ((x1:Nat):Int)=(x1:Nat):=IntWalk.u32_in _ (by omega)
 obtain ⟨va,vc,rfl,_⟩:=hv.shape
 clear hN hsz hfit hL hv hj hi hpl hok h0 h1 hp hjn
 go_enter Tryz.func103,Tryz.ntmps103
 go_wp2_with fail
 refine (ringFault_any _ _ _ HMX.out _ _ _ HF.out _).mono ?_
 rintro e w1 ⟨rfl,hb⟩
 have hr0:=row_keep (row_keep (heap_alloc_new w (.cells #[.slice va l.length vc] 24)) ((Below.refl _ _).alloc (Nat.le_refl _) (.cells #[.int .u32 0,.int .u32 0] 126))) hb
 have hr1:=row_keep (heap_alloc_new (w.alloc (.cells #[.slice va l.length vc] 24)) (.cells #[.int .u32 0,.int .u32 0] 126)) hb
 have HB1:=Zh (HB0.out.trans (hb.mono (by simp; omega)))
 have HR1:=Zh (show w1.heap[w.heap.size+1]? = some (.cells #[.int .u32 0,.int .u32 0] 126) by simpa using hr1)
 obtain ⟨c1,f1⟩:=one_cell hr0
 clear hb hr0 hr1 f1
 go_wp2_with fail
 go_region_held3 (fun W=>W.cell? ⟨w.heap.size,0,none⟩=some (.slice va l.length vc)) (first|(with_reducible assumption)|go_keep) (first
  | (go_at_call 76; refine (usedPart_any B N _ _ rfl rfl HB8.out HN.out.2 _).mono ?_; rintro e w2 ⟨a,b,rfl,hr2,hb2⟩; have c2:=kept (w:=w1.drew) c1 hb2; have HR2:=Zh hr2; clear hr2)
  | (go_at_call 85; refine (place_any _ _ 8 _ _ a b N at_ j HJ.out HN.out HI.out HQ.out HT.out HQ1.out HT1.out _ HR2.out).mono ?_; rintro e w3 ⟨rfl,hb3⟩; have c3:=kept c2 hb3)
  | (go_at_call 84; refine (getter_any _ l p _ (((HV.out.below (HB1.out.drew)).below hb2).below hb3)).mono ?_; rintro e w4 ⟨ga,gb,rfl,hg,ha0,hb0,hb4⟩; have c4:=kept c3 hb4; have HG4:=Zh hg; clear hg))
 have hbw3:Below w.heap.size w w3:=(HB1.out.drew.trans (hb2.mono HB1.out.drew.size)).trans (hb3.mono (HB1.out.drew.trans (hb2.mono HB1.out.drew.size)).size)
 have hbw:Below w.heap.size w w4:=hbw3.trans (hb4.mono hbw3.size)
 have hr4:=row_keep (row_keep (row_keep (w:=w1.drew) HR1.out hb2) hb3) hb4
 have hz:w.heap.size+1 < w4.heap.size:=(Array.getElem?_eq_some_iff.1 hr4).1
 have hgb:w.heap.size≤gb:=Nat.le_trans hbw3.size hb0
 have HG:=Zh (show GSt w ga gb w4.heap.size (w.heap.size+1) (.slice va l.length vc) p #[.int .u32 0,.int .u32 0] #[.int .u32 0,.int .u32 0] 126 (w4.alloc (.cells #[.int .u32 0,.int .u32 0] 126)) from
  { out:=hbw.alloc hbw.size _,lo:=⟨hgb,hbw.size⟩,ne:=by omega,ti:=tneUI,tm:=tneUM,get:=HG4.out.below ((Below.refl _ _).alloc (Nat.le_refl _) _),box:=heap_alloc_new w4 _,res:=row_keep hr4 ((Below.refl _ _).alloc (Nat.le_refl _) _) })
 have hne1:w4.heap.size≠w.heap.size+1:=by omega
 have hne2:w.heap.size+1≠w4.heap.size:=by omega
 clear hbw hbw3 hr4 hz hgb hb2 hb3 hb4 c1 c2 c3 c4 ha0 hb0
 go_wp2_with fail
 refine (get_num ga gb _ l p 4 (p+4) (by omega) HL.out (by have:=HPL.out; omega) (by decide) (by decide) _ (HV.out.below HG.out.out) HG.out.get).mono ?_
 rintro e w5 ⟨rfl,hg,hs⟩
 rw [H0.out]
 replace HG:=Zh (HG.out.call hg hs)
 obtain ⟨d0,f0⟩:=at_cell HG.out.box 0 _ rfl
 clear hg hs
 replace HG:=Zh (HG.out.store 0 (.int .u32 (x0:Nat)))
 go_wp2_with fail
 refine (get_num ga gb _ l (p+4) 4 (p+8) (by omega) HL.out (by have:=HPL.out; omega) (by decide) (by decide) _ (HV.out.below HG.out.out) HG.out.get).mono ?_
 rintro e w6 ⟨rfl,hg,hs⟩
 rw [H1.out]
 replace HG:=Zh (HG.out.call hg hs)
 obtain ⟨d1,f1⟩:=at_cell HG.out.box 1 _ rfl
 clear hg hs
 clear d0 f0
 obtain ⟨e0,_⟩:=at_cell HG.out.box 0 _ rfl
 obtain ⟨r0,g0⟩:=at_cell HG.out.res 0 _ rfl
 obtain ⟨r1,g1⟩:=at_cell HG.out.res 1 _ rfl
 go_wp2
 refine bodyPost_ret (v:=.tuple #[.agg #[.int .u32 (x0:Nat),.int .u32 (x1:Nat)],.int .i64 0]) (by simp [results,Tryz.results103,go_sem,r0,r1]) rfl ⟨rfl,?_⟩
 exact ((HG.out.out.setCell HG.out.lo.2 _).setCell (by simp) _).setCell (by simp) _
end Go.Proofs.YtcljffcdpjmmbaaGreat
