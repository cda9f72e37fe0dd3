/- How a ring is written to: entries, by functions that are handed in; a descriptor. -/
import Derived.Test.YtofeiheomnpggaaRngG
import Derived.Laws.StructEq
namespace Go.Proofs.Ytofeiheomnpggaa
open Go.RowKit Go.Lib

/-- Memory in a box, that numbers are put into. -/
structure WSt (w : World) (ga gb gm : Nat) (v : Value) (l : List UInt8) (p : Nat) (ra : Option Addr) (rc : Nat) (G : List UInt8) (W : World) : Prop where
  out : Below w.heap.size w W
  lob : w.heap.size ≤ gb
  lom : w.heap.size ≤ gm
  mem : W.heap[gm]? = some (.cells #[.slice ra l.length rc] 28 (0, 0))
  put : PutAt W ga gb gm p
  giv : Given W w.heap.size v l (.slice ra l.length rc) G
  len : G.length = l.length
theorem WSt.below {w W W1 : World} {ga gb gm p : Nat} {v : Value} {l G : List UInt8} {ra : Option Addr} {rc : Nat} (h : WSt w ga gb gm v l p ra rc G W) (hb : Below W.heap.size W W1) : WSt w ga gb gm v l p ra rc G W1 where
  out := h.out.trans (hb.mono h.out.size)
  lob := h.lob
  lom := h.lom
  mem := row_keep h.mem hb
  put := h.put.below hb
  giv := h.giv.below hb
  len := h.len
theorem WSt.call {w W W1 : World} {ga gb gm p q : Nat} {v : Value} {l G H : List UInt8} {ra ra' : Option Addr} {rc rc' : Nat} (h : WSt w ga gb gm v l p ra rc G W) (hm : W1.heap[gm]? = some (.cells #[.slice ra' G.length rc'] 28 (0, 0))) (hp : PutAt W1 ga gb gm q) (hg : Given W1 W.heap.size (.slice ra l.length rc) G (.slice ra' G.length rc') H) (hs : Save2 W W1 gm gb) (hH : H.length = G.length) : WSt w ga gb gm v l q ra' rc' H W1 := by
  rw [h.len] at hm hg
  exact { out := hs.below h.out h.lom h.lob h.out.size, lob := h.lob, lom := h.lom, mem := hm, put := hp, giv := h.giv.step hg h.out.size (fun k => hs.given h.mem h.put.2 tneMU tneIU k), len := hH.trans h.len }
/-- Another place in the same memory. -/
theorem WSt.other {w W : World} {ga gb gc gd gm p q : Nat} {v : Value} {l G : List UInt8} {ra : Option Addr} {rc : Nat} (h : WSt w ga gb gm v l p ra rc G W) (hp : PutAt W gc gd gm q) (hb : w.heap.size ≤ gd) : WSt w gc gd gm v l q ra rc G W :=
  { h with put := hp, lob := hb }
theorem put_step {w0 W : World} {ga gb gm p : Nat} {v : Value} {l G : List UInt8} {ra : Option Addr} {rc : Nat} (hv : IsArg w0 v l) (h : WSt w0 ga gb gm v l p ra rc G W) (k q y : Nat) (hq : p + k = q) (hL : l.length ≤ 8192) (hp : p + k ≤ l.length) (h1 : 1 ≤ k) (h8 : k ≤ 8) :
    Calls Try.prog 57 #[.int .i64 (k : Nat), .int .u64 (y : Nat), .pointer (some ⟨ga, 0, none⟩), .pointer (some ⟨gb, 0, none⟩)] W fun e w' => e = .returned (.tuple #[]) ∧ ∃ ra' rc', WSt w0 ga gb gm v l q ra' rc' (putAt G p k y) w' ∧ Save2 W w' gm gb := by
  have hr : IsArg W (.slice ra l.length rc) G := h.giv.arg hv h.out
  refine (put_num ga gb gm _ G p k q y hq (by rw [h.len]; exact hL) (by rw [h.len]; exact hp) h1 h8 W hr h.mem h.put).mono ?_
  rintro e w' ⟨rfl, ra', rc', hm, hp', hg, hs⟩
  exact ⟨rfl, ra', rc', h.call hm hp' hg hs (putAt_length y (by rw [h.len]; exact hp)), hs⟩

set_option maxHeartbeats 1000000 in
theorem offer1_any {w0 W : World} {ga gb gm gh p : Nat} {v : Value} {l G : List UInt8} {ra : Option Addr} {rc : Nat} (hv : IsArg w0 v l) (h : WSt w0 ga gb gm v l p ra rc G W) (z : Int) (y : Nat) (hy : (z % 65536).toNat = y) (hh : W.heap[gh]? = some (.cells #[.int .i64 z] 3 (0, 0))) (hL : l.length ≤ 8192) (hp : p + 2 ≤ l.length) :
    Calls Try.prog 35 #[.func (.func 57) #[] #[.pointer (some ⟨ga, 0, none⟩), .pointer (some ⟨gb, 0, none⟩)], .pointer (some ⟨gh, 0, none⟩)] W fun e w' => e = .returned (.tuple #[]) ∧ ∃ ra' rc', WSt w0 ga gb gm v l (p + 2) ra' rc' (putAt G p 2 y) w' ∧ Save2 W w' gm gb := by
  have HS := Lib.hid (put_step hv h 2 (p + 2) y rfl hL hp (by decide) (by decide))
  obtain ⟨c1, f1⟩ := one_cell hh
  have hw : IntKind.u16.wrap z = (y : Nat) := by simp [IntKind.wrap, IntKind.bits, IntKind.signed]; omega
  have hw2 : IntKind.u64.wrap ((y : Nat) : Int) = (y : Nat) := IntWalk.u64_in _ (by omega)
  clear hv h hy hh hL hp f1
  go_enter Try.func35, Try.ntmps35
  go_wp2_with fail
  refine (HS.out).mono ?_
  rintro e w1 ⟨rfl, ra', rc', h1, h2⟩
  have H1 := Lib.hid h1
  have H2 := Lib.hid h2
  clear h1 h2
  go_wp2
  exact bodyPost_end (v := .tuple #[]) (by simp [results, Try.results35]) rfl ⟨rfl, ra', rc', H1.out, H2.out⟩

theorem Save2.trans_given {w w1 w2 : World} {g b : Nat} (h : Save2 w w1 g b) (h2 : Save2 w1 w2 g b) : w.heap.size ≤ w2.heap.size ∧ ∀ (k : Nat) (o : Obj), w.heap[k]? = some o → k ≠ g → k ≠ b → w2.heap[k]? = some o :=
  ⟨Nat.le_trans h.size h2.size, fun _ _ hk hg hb => h2.row (h.row hk hg hb) hg hb⟩
/-- Two blocks alone may have turned (of what there was). -/
def Kept2 (w w' : World) (g b : Nat) : Prop := ∀ (k : Nat) (o : Obj), w.heap[k]? = some o → k ≠ g → k ≠ b → w'.heap[k]? = some o
theorem Save2.kept {w w1 : World} {g b : Nat} (h : Save2 w w1 g b) : Kept2 w w1 g b := fun _ _ hk hg hb => h.row hk hg hb

set_option maxHeartbeats 1000000 in
theorem return1_any {w0 W : World} {ga gb gm gh p : Nat} {v : Value} {l G : List UInt8} {ra : Option Addr} {rc : Nat} (hv : IsArg w0 v l) (h : WSt w0 ga gb gm v l p ra rc G W) (y0 y1 : Nat) (hy0 : y0 < 4294967296) (hy1 : y1 < 4294967296) (hh : W.heap[gh]? = some (.cells #[.int .u32 (y0 : Nat), .int .u32 (y1 : Nat)] 25)) (hL : l.length ≤ 8192) (hp : p + 8 ≤ l.length) :
    Calls Try.prog 36 #[.func (.func 57) #[] #[.pointer (some ⟨ga, 0, none⟩), .pointer (some ⟨gb, 0, none⟩)], .pointer (some ⟨gh, 0, none⟩)] W fun e w' => e = .returned (.tuple #[]) ∧ ∃ ra' rc', WSt w0 ga gb gm v l (p + 8) ra' rc' (putAt (putAt G p 4 y0) (p + 4) 4 y1) w' ∧ Kept2 W w' gm gb := by
  have HS := Lib.hid (put_step hv h 4 (p + 4) y0 rfl hL (by omega) (by decide) (by decide))
  have HS2 := Lib.hid (fun (W' : World) (ra' : Option Addr) (rc' : Nat) (G' : List UInt8) (h' : WSt w0 ga gb gm v l (p + 4) ra' rc' G' W') => put_step hv h' 4 (p + 8) y1 (by omega) hL (by omega) (by decide) (by decide))
  obtain ⟨c0, c1, f0, f1⟩ := cells_two hh
  have hw0 : IntKind.u64.wrap ((y0 : Nat) : Int) = (y0 : Nat) := IntWalk.u64_in _ (by omega)
  have hw1 : IntKind.u64.wrap ((y1 : Nat) : Int) = (y1 : Nat) := IntWalk.u64_in _ (by omega)
  have HM := Lib.hid h.mem
  have HP := Lib.hid h.put
  have HH := Lib.hid hh
  clear hv h hy0 hy1 hh hL hp f0 f1
  go_enter Try.func36, Try.ntmps36
  go_wp2_with fail
  refine (HS.out).mono ?_
  rintro e w1 ⟨rfl, ra', rc', h1, h2⟩
  have H1 := Lib.hid h1
  have H2 := Lib.hid h2
  have hr := h2.row HH.out (blocks_ne HM.out HH.out tneUM) (blocks_ne HP.out.2 HH.out tneUI)
  obtain ⟨d0, d1, _, _⟩ := cells_two hr
  clear h1 h2 c0 c1 hr
  go_wp2_with fail
  refine (HS2.out _ _ _ _ H1.out).mono ?_
  rintro e w2 ⟨rfl, ra'', rc'', h1, h2⟩
  have H3 := Lib.hid h1
  have H4 := Lib.hid (show Kept2 W w2 gm gb from (H2.out.trans_given h2).2)
  clear h1 h2 d0 d1
  go_wp2
  exact bodyPost_end (v := .tuple #[]) (by simp [results, Try.results36]) rfl ⟨rfl, ra'', rc'', H3.out, H4.out⟩
end Go.Proofs.Ytofeiheomnpggaa
