/- The law NumSealed returns true for every input, where the listed variables of strconv hold what their initialisers lay. -/
import Derived.Test.YtddimcicajlbgaaDoorNumO
import Derived.Test.YtddimcicajlbgaaDoorNumS
import Derived.Laws.AppendOwnNone
namespace Go.Proofs.YtddimcicajlbgaaDoor
open Go.RowKit Go.Lib

/-- 'append(s, xs...)': s the call's own, xs bytes that came in (nil or not). -/
theorem wpList_append_isArg {P : Program} (w : World) {ops : Array Oper} {rest : List Oper} {o : Oper} {a : Act} {Q : Exit → Act → World → Prop} (hgd : o.guard = none) (s x : Operand) (t : TypeId)
    (ho : o.op = .call { callee := .builtin .append, args := #[s, x], argTypes := #[t, t] })
    (base : Nat) (e : TypeId) (i : TypeInfo) (z : Value) (ht : P.underlying t = some (.slice e)) (hi : P.info? e = some i) (hz : i.zero = some z)
    (hsize : i.size = 1) (hby : i.bytes = 1) (hzs : z.cells.size = 1)
    (v : Value) (n : Nat) (xs : List Value) (hs : a.eval s = v) (hown : w.ownsRow base e 1 v n xs)
    (V : Value) (l : List UInt8) (hx : a.eval x = V) (hV : (V = .slice none 0 0 ∧ l = []) ∨ ∃ ad c, V = .slice (some ad) l.length c ∧ ∀ j u, (byteCells l)[j]? = some u → w.cell? (ad.add j) = some u)
    (h63 : n + l.length ≤ 140737488355328) (hbase : base ≤ w.heap.size)
    (h : ∀ v' w', w'.ownsRow base e 1 v' (n + l.length) (xs ++ byteCells l) → w.grownBy w' v.ownBlock → wpList P ops Q rest (a.put o.dst v') w') : wpList P ops Q (o :: rest) a w := by
  rcases hV with ⟨rfl, rfl⟩ | ⟨ad, c, rfl, hnews⟩
  · refine wpList_append_own_none hgd s x t ho base e i 1 ht hi v n xs hs hown hx ?_
    exact h v w (by simpa [byteCells] using hown) (World.grownBy.refl w _)
  · exact wpList_append_own w hgd s x t ho base e i z 1 1 ht hi hz hsize hby hzs (by decide) v n xs hs hown ad l.length c (byteCells l) hx (by simp [byteCells]) hnews (byteCells_one l)
      (by unfold maxLen; omega) (by omega) hbase (fun v' w' h1 h2 _ => h v' w' h1 h2)

theorem ownsRow_below {w w' : World} {base : Nat} {t : TypeId} {size : Nat} {v : Value} {n : Nat} {xs : List Value} (h : w.ownsRow base t size v n xs) (hb : Below w.heap.size w w') : w'.ownsRow base t size v n xs := by
  refine ⟨h.1, ?_⟩
  rcases h.2 with h2 | ⟨g, cap, cur, hv, hg, hh, r⟩
  · exact .inl h2
  · exact .inr ⟨g, cap, cur, hv, hg, by rw [hb.block g (Array.getElem?_eq_some_iff.1 hh).1]; exact hh, r⟩

/-- One byte of the call's own row is written. -/
theorem isBytes_set {w : World} {g cap : Nat} {cur : Array Value} {t : List UInt8} {ty : TypeId} (h : w.heap[g]? = some (.cells cur ty (0, 0))) (htk : cur.toList.take t.length = byteCells t) (hc : t.length ≤ cap) (hcap : cap ≤ maxLen) (j : Nat) (y : UInt8) :
    IsBytes ((w.setCell ⟨g, j, none⟩ (.int .u8 y.toNat)).drew) (.slice (some ⟨g, 0, none⟩) t.length cap) (t.set j y) := by
  have hg := (Array.getElem?_eq_some_iff.1 h).1
  have hnew : (w.setCell ⟨g, j, none⟩ (.int .u8 y.toNat)).heap[g]? = some (.cells (cur.setIfInBounds j (.int .u8 y.toNat)) ty (0, 0)) := by
    simp [World.setCell, Array.getElem?_modify, h]
  have hsz : (w.setCell ⟨g, j, none⟩ (.int .u8 y.toNat)).heap.size = w.heap.size := by simp [World.setCell]
  refine .inr ⟨g, 0, cap, by rw [List.length_set], by rw [List.length_set]; exact hc, hcap, by show g < (w.setCell _ _).heap.size; omega, fun i hi => ?_⟩
  rw [List.length_set] at hi
  show (w.setCell ⟨g, j, none⟩ (.int .u8 y.toNat)).cell? ⟨g, 0 + i, none⟩ = _
  have hc2 : (w.setCell ⟨g, j, none⟩ (.int .u8 y.toNat)).cell? ⟨g, 0 + i, none⟩ = (cur.setIfInBounds j (.int .u8 y.toNat))[i]? := by
    unfold World.cell?
    rw [hnew, Nat.zero_add]
    rfl
  rw [hc2, Array.getElem?_setIfInBounds]
  have hcur : cur[i]? = some (.int .u8 (t.getD i 0).toNat) := by
    have h1 : (cur.toList.take t.length)[i]? = some (.int .u8 (t.getD i 0).toNat) := by rw [htk]; simp [byteCells, hi]
    rw [List.getElem?_take, if_pos hi] at h1
    simpa using h1
  by_cases hij : j = i
  · subst hij
    have hsz2 : j < cur.size := (Array.getElem?_eq_some_iff.1 hcur).1
    simp [hsz2, hi]
  · rw [if_neg hij, hcur]
    simp [List.getElem?_set_ne hij]

set_option maxHeartbeats 4000000 in
theorem numSealed_in (w : World) (hL : Laid w) (v : Value) (l : List UInt8) (hv : IsArg w v l) (at' : Int) (b : Nat) (hb8 : b < 256) (hlen : l.length ≤ 2000) (hev : l.length % 2 = 0) :
    Calls Tryd.prog 7 #[v, .int .i64 at', .int .u8 b] w fun e w' => e = .returned (.bool true) ∧ Below w.heap.size w w' := by
  obtain ⟨i0, hi, hz0, hz1, hz2⟩ := info_parts info8
  have hev2 : (((l.length : Nat) : Int) % 2 == 0) = true := by rw [beq_iff_eq]; omega
  have hev3 : (((l.length : Nat) : Int) % 2 != 0) = false := by rw [bne, hev2]; rfl
  have hown0 : (w.alloc (.cells #[] 5)).ownsRow w.heap.size 5 1 (.slice (some ⟨w.heap.size, 0, none⟩) 0 0) 0 [] :=
    World.ownsRow_made w #[] 0 (Nat.le_refl _) (by decide) rfl
  obtain ⟨a, c, rfl⟩ := hv.1.shape
  have HV := Lib.hid hv
  have HL := Lib.hid hL
  clear hv hL
  go_enter Tryd.func7, Tryd.ntmps7
  go_wp2_with (at_builtin; refine wpList_append_isArg _ rfl _ _ 24 rfl w.heap.size 5 i0 (.int .u8 0) Tryd.underlying24 hi hz0 hz1 hz2 rfl _ _ _ rfl hown0 _ l rfl ?c1 ?c2 ?c3 ?_)
  case c1 =>
    rcases HV.out.2 with h | ⟨ad, c', h1, h2⟩
    · exact .inl h
    · exact .inr ⟨ad, c', h1, fun j u hu => by
        have h3 := h2 j u hu
        rw [Below.cell ((Below.refl _ _).alloc (Nat.le_refl _) _) (World.block_lt_of_cell? w _ h3)]; exact h3⟩
  case c2 => omega
  case c3 => simp
  intro v1 w1 hown1 hgrow1
  have hB1 : Below w.heap.size w w1 := ((Below.refl _ _).alloc (Nat.le_refl _) _).grown hgrow1 (by simp) (fun k hk => (hown0.lt k hk).1)
  have hib1 := HV.out.1.below hB1
  have HB1 := Lib.hid hB1
  obtain ⟨q, hq⟩ : ∃ q, q = chk l := ⟨_, rfl⟩
  have hq5 : q ≤ 65535 := by rw [hq]; exact chk_le l
  have hck := check_any _ l _ hib1 (by omega)
  rw [← hq] at hck
  have HCK := Lib.hid hck
  have Hq := Lib.hid hq
  clear hgrow1 hown0 hq hck hB1
  go_wp2_with fail
  refine HCK.out.mono ?_
  rintro e w' ⟨rfl, rfl⟩
  go_wp2_with fail
  refine (be_row q 2 2 (clamped_of 2 (by decide)) _).mono ?_
  rintro e w2 ⟨g3, rfl, hr3, hg3, hb2⟩
  have hown2 := ownsRow_below hown1 hb2
  have hib2 := hib1.below hb2
  have HB2 := Lib.hid (HB1.out.trans (hb2.mono HB1.out.size))
  have hz2' := HB2.out.size
  have HR3 := Lib.hid hr3
  clear hown1 hib1 HB1 hb2 hr3 hg3 HCK
  go_wp2_with (at_builtin; refine wpList_append_isArg _ rfl _ _ 24 rfl w.heap.size 5 i0 (.int .u8 0) Tryd.underlying24 hi hz0 hz1 hz2 rfl _ _ _ rfl hown2 _ (beB q 2) rfl ?d1 ?d2 ?d3 ?_)
  case d1 =>
    refine .inr ⟨⟨g3, 0, none⟩, 2, rfl, fun j u hu => ?_⟩
    have hj : j < (beB q 2).length := by have := (List.getElem?_eq_some_iff.1 hu).1; rwa [byteCells_length] at this
    rw [Addr.add_lit, Nat.zero_add, row_cell HR3.out hj, ← hu]
    simp only [byteCells, List.getElem?_map, List.getD_eq_getElem?_getD, List.getElem?_eq_getElem hj, Option.map_some, Option.getD_some]
  case d2 => simp; omega
  case d3 => exact hz2'
  intro v2 w3 hown3 hgrow3
  have HB3 := Lib.hid (HB2.out.grown hgrow3 hz2' (fun k hk => (hown2.lt k hk).1))
  obtain ⟨t, ht⟩ : ∃ t, t = l ++ beB q 2 := ⟨_, rfl⟩
  have htl : t.length = l.length + 2 := by rw [ht]; simp
  rw [← byteCells_append, ← ht, ← htl] at hown3
  have hibs := isBytes_of_owns hown3
  have hcs : ∀ W, IsBytes W v2 t → Calls Tryd.prog 20 #[v2] W fun e w' => e = .returned (.int .u16 0) ∧ W = w' := fun W h => by
    have h1 := check_any v2 t W h (by omega)
    rw [ht, Hq.out, chk_sealed l hev] at h1
    exact h1
  have HCS := Lib.hid hcs
  have Ht := Lib.hid ht
  obtain ⟨g, cap, cur, rfl, hcap, hcapm, hrow⟩ : ∃ g cap cur, v2 = .slice (some ⟨g, 0, none⟩) t.length cap ∧ t.length ≤ cap ∧ cap ≤ maxLen ∧ w.heap.size ≤ g ∧ w3.heap[g]? = some (.cells cur 5 (0, 0)) ∧ cur.toList.take t.length = byteCells t := by
    rcases hown3.2 with ⟨_, h0⟩ | ⟨g, cap, cur, hv2, hbg, hh, hn, hm, _, htk⟩
    · omega
    · exact ⟨g, cap, cur, hv2, hn, hm, hbg, hh, by simpa using htk⟩
  have HR := Lib.hid hrow
  have HCM := Lib.hid hcapm
  have HIB := Lib.hid hibs
  clear hcs ht hown3 hgrow3 hown2 hibs hrow hcapm hib2 HB2 hz2'
  obtain ⟨M, hM⟩ : ∃ M, M = t.length := ⟨_, rfl⟩
  have hM2 : 2 ≤ M := by omega
  have hM3 : M ≤ 2002 := by omega
  have hMe : l.length + 2 = M := by omega
  rw [← hM] at hcap HCS HIB HR
  rw [← hM]
  have hMm : M ≤ maxLen := by unfold maxLen; omega
  have HM := Lib.hid hM
  have HME := Lib.hid hMe
  have HMM := Lib.hid hMm
  clear hM hMe hMm hlen htl
  by_cases hout : at' < 0 ∨ b = 0 ∨ b = 255
  · -- nothing is turned: the sum alone is looked at, twice
    have hout' : at' < 0 ∨ (¬ at' < 0 ∧ b = 0) ∨ (¬ at' < 0 ∧ b = 255) := by omega
    clear hout
    rcases hout' with hneg | ⟨hneg, rfl⟩ | ⟨hneg, rfl⟩
    all_goals
      go_wp2_with fail
      refine (HCS.out _ HIB.out).mono ?_
      rintro e w' ⟨rfl, rfl⟩
      go_wp2_with fail
      refine (HCS.out _ HIB.out).mono ?_
      rintro e w' ⟨rfl, rfl⟩
      go_wp2_with fail
      refine (heads_any _ (HL.out.below HB3.out)).mono ?_
      rintro e w4 ⟨rfl, hb4⟩
      go_wp2
      go_ret
      exact ⟨rfl, HB3.out.trans (hb4.mono HB3.out.size)⟩
  · obtain ⟨A, rfl⟩ := Int.eq_ofNat_of_zero_le (show 0 ≤ at' by omega)
    have hb0 : ((b : Int) == 0) = false := by rw [beq_eq_false_iff_ne]; omega
    have hb255 : ((b : Int) == 255) = false := by rw [beq_eq_false_iff_ne]; omega
    have hbne : UInt8.ofNat b ≠ 0 ∧ UInt8.ofNat b ≠ 255 := by
      have e : (UInt8.ofNat b).toNat = b := by simp; omega
      refine ⟨fun h => hout (.inr (.inl ?_)), fun h => hout (.inr (.inr ?_))⟩ <;> rw [h] at e <;> exact e.symm
    have Hbne := Lib.hid hbne
    clear hout hbne
    obtain ⟨J, hJ⟩ : ∃ J, J = A % M := ⟨_, rfl⟩
    have hJM : J < M := by rw [hJ]; exact Nat.mod_lt _ (by omega)
    have hJi : (A : Int) % (M : Int) = (J : Int) := by rw [hJ, Int.natCast_emod]
    have hMz : ((M : Int) == 0) = false := by rw [beq_eq_false_iff_ne]; omega
    obtain ⟨x, hx⟩ : ∃ x, x = t[J]?.getD 0 := ⟨_, rfl⟩
    obtain ⟨y, hy⟩ : ∃ y, y = x ^^^ UInt8.ofNat b := ⟨_, rfl⟩
    have hcell : w3.cell? ⟨g, J, none⟩ = some (.int .u8 x.toNat) := by
      have h1 : (cur.toList.take t.length)[J]? = some (.int .u8 x.toNat) := by
        rw [← HM.out, HR.out.2.2, hx]
        have hJt : J < t.length := by rw [← HM.out]; exact hJM
        simp [byteCells, hJt]
      rw [← HM.out, List.getElem?_take, if_pos hJM] at h1
      unfold World.cell?
      rw [HR.out.2.1]
      simpa using h1
    have hfz : w3.frozen? ⟨g, J, none⟩ = false := by simp [World.frozen?, HR.out.2.1]
    have hxor : bits BinOp.xor IntKind.u8 ((x.toNat : Nat) : Int) (b : Int) = ((y.toNat : Nat) : Int) := by
      have e : (UInt8.ofNat b).toNat = b := by simp; omega
      rw [u8_xor_nat _ _ (x.toNat_lt) hb8, hy, UInt8.toNat_xor, e]
    have Hx := Lib.hid hx
    have Hy := Lib.hid hy
    clear hJ hx hy
    go_wp2_with fail
    refine (HCS.out _ HIB.out).mono ?_
    rintro e w' ⟨rfl, rfl⟩
    go_wp2_with fail
    go_region
    have hib4 : IsBytes ((w3.setCell ⟨g, J, none⟩ (.int .u8 y.toNat)).drew) (.slice (some ⟨g, 0, none⟩) M cap) (t.set J y) := by
      rw [HM.out]
      exact isBytes_set HR.out.2.1 (by rw [← HM.out]; exact HR.out.2.2) (by rw [← HM.out]; exact hcap) HCM.out J y
    have hb4 : Below w.heap.size w ((w3.setCell ⟨g, J, none⟩ (.int .u8 y.toNat)).drew) := (HB3.out.setCell HR.out.1 _).drew
    have hlt : (t.set J y).length ≤ 1000000 := by rw [List.length_set, ← HM.out]; omega
    have hck4 := check_any _ _ _ hib4 hlt
    obtain ⟨r, hr⟩ : ∃ r, r = chk (t.set J y) := ⟨_, rfl⟩
    have hrne : r ≠ 0 := by
      rw [hr, Hy.out, Hx.out, Ht.out, Hq.out]
      exact chk_differs l hev J (UInt8.ofNat b) (by rw [HME.out]; exact hJM) Hbne.out.1 Hbne.out.2
    rw [← hr] at hck4
    have hr1 : (((r : Nat) : Int) == 0) = false := by rw [beq_eq_false_iff_ne]; omega
    have hr2 : (((r : Nat) : Int) != 0) = true := by rw [bne, hr1]; rfl
    have HCK4 := Lib.hid hck4
    have HB4 := Lib.hid hb4
    clear hr hck4 hib4 hb4 hlt hcell hfz
    go_wp2_with fail
    refine HCK4.out.mono ?_
    rintro e w' ⟨rfl, rfl⟩
    go_wp2_with fail
    refine (heads_any _ (HL.out.below HB4.out)).mono ?_
    rintro e w5 ⟨rfl, hb5⟩
    go_wp2
    go_ret
    exact ⟨rfl, HB4.out.trans (hb5.mono HB4.out.size)⟩

theorem numSealed_out (w : World) (hL : Laid w) (v : Value) (l : List UInt8) (hv : IsArg w v l) (at' : Int) (b : Nat) (h : 2000 < l.length ∨ l.length % 2 ≠ 0) :
    Calls Tryd.prog 7 #[v, .int .i64 at', .int .u8 b] w fun e w' => e = .returned (.bool true) ∧ Below w.heap.size w w' := by
  obtain ⟨a, c, rfl⟩ := hv.1.shape
  clear hv
  by_cases hlen : 2000 < l.length
  · go_enter Tryd.func7, Tryd.ntmps7
    go_wp2_with (go_at_call 8; refine (heads_any _ hL).mono ?_; rintro e w' ⟨rfl, hb⟩)
    go_ret
    exact ⟨rfl, hb⟩
  · have hev2 : (((l.length : Nat) : Int) % 2 == 0) = false := by rw [beq_eq_false_iff_ne]; omega
    have hev3 : (((l.length : Nat) : Int) % 2 != 0) = true := by rw [bne, hev2]; rfl
    clear h
    go_enter Tryd.func7, Tryd.ntmps7
    go_wp2_with (go_at_call 8; refine (heads_any _ hL).mono ?_; rintro e w' ⟨rfl, hb⟩)
    go_ret
    exact ⟨rfl, hb⟩

theorem numSealed_law (w : World) (hL : Laid w) (v : Value) (l : List UInt8) (hv : IsArg w v l) (z : Int) (_hz : -9223372036854775808 ≤ z ∧ z ≤ 9223372036854775807) (b : Nat) (hb : b < 256) :
    Calls Tryd.prog 7 #[v, .int .i64 z, .int .u8 b] w fun e w' => e = .returned (.bool true) ∧ Below w.heap.size w w' := by
  by_cases h : 2000 < l.length ∨ l.length % 2 ≠ 0
  · exact numSealed_out w hL v l hv z b h
  · exact numSealed_in w hL v l hv z b hb (by omega) (by omega)
end Go.Proofs.YtddimcicajlbgaaDoor
