/- What disk.New answers; what was there stays. -/
import Derived.Test.YtaamjpcpdlanhaaDskV
namespace Go.Proofs.Ytaamjpcpdlanhaa
open Go.RowKit Go.Lib

theorem zeros_row (k : Nat) : (madeCells #[Value.int .u8 0] k).toList = byteCells (List.replicate k 0) := by rw [toList_madeCells_one]; simp [byteCells]
theorem newOf_cases (z : Int) : (0 ≤ z ∧ z ≤ 256 ∧ newFault z = 0 ∧ newOf z = List.replicate z.toNat (List.replicate 256 0)) ∨ (¬ (0 ≤ z ∧ z ≤ 256) ∧ newFault z = 2 ∧ newOf z = []) := by
  unfold newFault newOf
  by_cases h : 0 ≤ z ∧ z ≤ 256
  · exact .inl ⟨h.1, h.2, if_pos h, if_pos h⟩
  · exact .inr ⟨h, if_neg h, if_neg h⟩
theorem one_box {w w1 : World} {u v : Value} {t : TypeId} (hb : Below (w.alloc (.cells #[u, v] t)).heap.size (w.alloc (.cells #[u, v] t)) w1) : w1.frozen? ⟨w.heap.size, 0, none⟩ = false ∧ w1.frozen? ⟨w.heap.size, 1, none⟩ = false := by
  have h1 := heap_alloc_new w (.cells #[u, v] t)
  constructor
  all_goals
    rw [hb.frozen (by simp)]
    unfold World.frozen?
    rw [h1]
    simp

set_option maxHeartbeats 4000000 in
set_option maxRecDepth 100000 in
theorem new_any (z : Int) (w : World) :
    Calls Try.prog 22 #[.int .i64 z] w fun e w' => ∃ sv, e = .returned (.tuple #[.agg #[sv, .slice none 0 0], .int .i64 (newFault z)]) ∧ Sects w' sv (newOf z) ∧ Below w.heap.size w w' := by
  rcases newOf_cases z with ⟨z0, z1, h1, h2⟩ | ⟨hz, h1, h2⟩
  · rw [h1, h2]
    obtain ⟨n, rfl⟩ := Int.eq_ofNat_of_zero_le z0
    rw [Int.toNat_natCast]
    obtain ⟨i0, hi, hz0, hz1, hz2⟩ := info_parts infoS
    obtain ⟨j0, ji, jz0, jz1, jz2⟩ := info_parts info8
    have hn : n ≤ 256 := by omega
    have HB0 := Lib.hid ((Below.refl w.heap.size w).alloc (Nat.le_refl _) (.cells #[.slice none 0 0, .slice none 0 0] 25))
    obtain ⟨Z, hZ⟩ : ∃ Z, Z = List.replicate n (List.replicate 256 (0 : UInt8)) := ⟨_, rfl⟩
    rw [← hZ]
    have HZ := Lib.hid hZ
    clear z0 z1 h1 h2 hZ
    go_enter Try.func22, Try.ntmps22
    go_wp2_with (refine wpList_make_full _ rfl _ _ 22 rfl (w.heap.size + 1) 35 i0 (.slice none 0 0) 1 Try.underlying22 hi hz0 hz1 .i64 .i64 _ _ n rfl rfl rfl rfl ?b2 ?b3 ?b4 ?_)
    case b2 => rw [hz2]; omega
    case b3 => unfold maxLen; omega
    case b4 => simp
    intro w1 hown hgrow
    have hb01 : Below (w.alloc (.cells #[.slice none 0 0, .slice none 0 0] 25)).heap.size (w.alloc (.cells #[.slice none 0 0, .slice none 0 0] 25)) w1 := (Below.refl _ _).grown hgrow (Nat.le_refl _) (fun k hk => by cases hk)
    obtain ⟨g, hg⟩ : ∃ g, g = w.heap.size + 1 := ⟨_, rfl⟩
    rw [← hg] at hown ⊢
    have HB1 := Lib.hid (HB0.out.trans (hb01.mono (by simp)))
    have HR := Lib.hid (box2 hb01)
    have HFZ := Lib.hid (one_box hb01)
    have hgl : g < w1.heap.size := (hown.lt g rfl).2
    rw [toList_madeCells_one] at hown
    have HO := Lib.hid hown
    have hgg0 : w.heap.size + 1 ≤ g := by omega
    clear hown hgrow hb01 hg
    go_wp2
    go_loopw [17] (fun i wr => ∃ k : Nat, k ≤ n ∧ i = .int .i64 k ∧ (∃ xs, wr.ownsRow g 35 1 (.slice (some ⟨g, 0, none⟩) n n) n xs ∧ OwnPart g wr Z k xs) ∧ w1.heap.size ≤ wr.heap.size ∧ Below g w1 wr) (fun i _ => n - (intOf i).toNat)
    case atStart => exact ⟨0, Nat.zero_le _, rfl, ⟨_, HO.out, fun i V hi => by omega, fun i j V V' q q' hij hj => by omega⟩, Nat.le_refl _, Below.refl _ _⟩
    case round =>
      obtain ⟨k, hk, rfl, ⟨xs, hxs, hpart⟩, hsz, hbw⟩ := hrel
      have HXS := Lib.hid hxs
      have HP := Lib.hid hpart
      have HBW := Lib.hid hbw
      have HBw := Lib.hid (HB1.out.trans (hbw.mono (by omega)))
      clear hxs hpart hbw
      by_cases hlt : k < n
      · have HZk := Lib.hid (show Z.getD k [] = List.replicate 256 0 by rw [HZ.out, List.getD_eq_getElem?_getD, List.getElem?_replicate, if_pos hlt]; rfl)
        go_wp2_with (refine wpList_make_full _ rfl _ _ 35 rfl wr.heap.size 5 j0 (.int .u8 0) 1 Try.underlying35 ji jz0 jz1 .i64 .i64 _ _ 256 rfl rfl rfl rfl ?d2 ?d3 ?d4 ?_)
        case d2 => rw [jz2]; decide
        case d3 => decide
        case d4 => exact Nat.le_refl _
        intro w3 hr hgrow
        have HBr := Lib.hid (show Below wr.heap.size wr w3 from (Below.refl _ _).grown hgrow (Nat.le_refl _) (fun k hk => by cases hk))
        have HR2 := Lib.hid (show w3.ownsRow wr.heap.size 5 1 (.slice (some ⟨wr.heap.size, 0, none⟩) 256 256) (Z.getD k []).length (byteCells (Z.getD k [])) by
          rw [HZk.out, List.length_replicate, ← zeros_row]
          exact hr)
        have HX2 := Lib.hid (ownsRow_below HXS.out HBr.out)
        obtain ⟨u, hu⟩ : ∃ u, xs[k]? = some u := ⟨xs[k]'(by have := HXS.out.1; omega), List.getElem?_eq_getElem _⟩
        have hcg : w3.cell? ⟨g, k, none⟩ = some u := by rw [HX2.out.cellAt k (by omega)]; exact hu
        have hfg : w3.frozen? ⟨g, k, none⟩ = false := HX2.out.frozenAt k
        have HS2 := Lib.hid HBr.out.size
        clear hr hgrow hu
        go_wp2
        go_roundw
        case rel =>
          refine ⟨k + 1, by omega, by go_num, ⟨_, (HX2.out.stored k _).1, HP.out.put HBr.out HX2.out hlt HR2.out (by omega)⟩, ?_, ?_⟩
          · have := HS2.out
            simp only [World.setCell, Array.size_modify]
            omega
          · exact (HBW.out.trans (HBr.out.mono (by omega))).setCell (Nat.le_refl _) _
        case measure => simp [intOf]; omega
      · obtain rfl : k = n := by omega
        have hr1 : wr.cell? ⟨w.heap.size, 0, none⟩ = some (.slice none 0 0) := (HBW.out.cell (by show w.heap.size < g; omega)).trans HR.out.1
        have hr2 : wr.cell? ⟨w.heap.size, 1, none⟩ = some (.slice none 0 0) := (HBW.out.cell (by show w.heap.size < g; omega)).trans HR.out.2
        have hz1' : wr.frozen? ⟨w.heap.size, 0, none⟩ = false := (HBW.out.frozen (by show w.heap.size < g; omega)).trans HFZ.out.1
        have hz2' : wr.frozen? ⟨w.heap.size, 1, none⟩ = false := (HBW.out.frozen (by show w.heap.size < g; omega)).trans HFZ.out.2
        have hlt1 : w.heap.size < wr.heap.size := by omega
        have HSE := Lib.hid (show OwnSects g wr.heap.size wr (.slice (some ⟨g, 0, none⟩) k k) Z by
          have h1 := HXS.out
          have h2 := HP.out
          have hkl : k = Z.length := by rw [HZ.out, List.length_replicate]
          rw [hkl] at h1 h2 ⊢
          exact ⟨xs, h1, h2, fun i V p hi hV hp => ((h2.1 i V hi hV).lt p hp).2, fun p hp => (h1.lt p hp).2⟩)
        clear HXS HP HBW
        have hgg : w.heap.size < g := by omega
        go_wp2
        refine bodyPost_ret (v := .tuple #[.agg #[.slice (some ⟨g, 0, none⟩) k k, .slice none 0 0], .int .i64 0]) (by simp [results, Try.results22, go_sem, hr1, hr2]) rfl ⟨_, rfl, ?_, ?_⟩
        · exact ((HSE.out.set ⟨w.heap.size, 0, none⟩ _ hgg).set ⟨w.heap.size, 1, none⟩ _ hgg).sects
        · exact (HBw.out.setCell (Nat.le_refl _) _).setCell (Nat.le_refl _) _
  · rw [h1, h2]
    clear h1 h2
    have hB0 := (Below.refl w.heap.size w).alloc (Nat.le_refl _) (.cells #[.slice none 0 0, .slice none 0 0] 25)
    have HB0 := Lib.hid hB0
    clear hB0
    by_cases h1 : z < 0
    · go_enter Try.func22, Try.ntmps22
      go_wp2
      refine bodyPost_ret (v := .tuple #[.agg #[.slice none 0 0, .slice none 0 0], .int .i64 2]) (by simp [results, Try.results22, go_sem]) rfl ⟨_, rfl, rows_nil _, ?_⟩
      exact HB0.out
    · have h3 : 256 < z := by omega
      go_enter Try.func22, Try.ntmps22
      go_wp2
      refine bodyPost_ret (v := .tuple #[.agg #[.slice none 0 0, .slice none 0 0], .int .i64 2]) (by simp [results, Try.results22, go_sem]) rfl ⟨_, rfl, rows_nil _, ?_⟩
      exact HB0.out
end Go.Proofs.Ytaamjpcpdlanhaa
