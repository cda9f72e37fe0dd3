/- What the document's own Of answers, for every bytes of at most 100000. -/
import Derived.Test.YtfaiblngchdpmaaDoorShaRT
import Derived.Test.YtfaiblngchdpmaaDoorShaRP
import Derived.Test.YtfaiblngchdpmaaDoorInv
namespace Go.Proofs.YtfaiblngchdpmaaDoor
open Go.RowKit Go.Lib

def hLit : Array Value := #[.int .u32 1779033703, .int .u32 3144134277, .int .u32 1013904242, .int .u32 2773480762, .int .u32 1359893119, .int .u32 2600822924, .int .u32 528734635, .int .u32 1541459225]
theorem hLit_eq : hLit = (u32s hTab).toArray := by kernel_rfl
/-- The digest when i bytes are laid. -/
def bRow (st : List Nat) (i : Nat) : List Value := byteCells ((digestOf st).take i) ++ zeros (32 - i)
theorem bRow_zero (st : List Nat) : (bRow st 0).toArray = zero32 := by simp [bRow, byteCells, zero32]
theorem bRow_all (st : List Nat) (hs : st.length = 8) : bRow st 32 = byteCells (digestOf st) := by
  have h := digestOf_length st hs
  unfold bRow
  rw [List.take_of_length_le (by omega)]
  simp [zeros]
theorem bRow_at (st : List Nat) (i : Nat) (hs : st.length = 8) (hi : i < 32) : (bRow st i)[i]? = some (.int .u8 0) := by
  have h := digestOf_length st hs
  obtain ⟨m, hm⟩ : ∃ m, 32 - i = m + 1 := ⟨31 - i, by omega⟩
  have hl : (byteCells ((digestOf st).take i)).length = i := by simp [byteCells, h]; omega
  unfold bRow
  rw [hm, zeros_succ, List.getElem?_append_right (by omega), hl, Nat.sub_self]
  rfl
theorem bRow_set (st : List Nat) (i : Nat) (y : UInt8) (hs : st.length = 8) (hi : i < 32) (hy : (digestOf st).getD i 0 = y) : (bRow st i).set i (.int .u8 (y.toNat : Nat)) = bRow st (i + 1) := by
  have h := digestOf_length st hs
  obtain ⟨m, hm⟩ : ∃ m, 32 - i = m + 1 := ⟨31 - i, by omega⟩
  have hm2 : 32 - (i + 1) = m := by omega
  have hl : (byteCells ((digestOf st).take i)).length = i := by simp [byteCells, h]; omega
  have hg : (digestOf st)[i]? = some y := by
    rw [← hy]
    simp [h, hi]
  unfold bRow
  rw [hm, hm2, zeros_succ, List.take_add_one, hg, byteCells_append, List.set_append_right _ _ (by omega), hl, Nat.sub_self, List.set_cons_zero, Option.toList_some, List.append_assoc]
  rfl
theorem digest_at (st : List Nat) (i : Nat) (hs : st.length = 8) (hi : i < 32) : (digestOf st).getD i 0 = (beB (st.getD (i / 4) 0) 4).getD (i % 4) 0 := by
  match st, hs with
  | [a, b, c, d, e, f, g, k], _ =>
    have h : i = 0 ∨ i = 1 ∨ i = 2 ∨ i = 3 ∨ i = 4 ∨ i = 5 ∨ i = 6 ∨ i = 7 ∨ i = 8 ∨ i = 9 ∨ i = 10 ∨ i = 11 ∨ i = 12 ∨ i = 13 ∨ i = 14 ∨ i = 15 ∨ i = 16 ∨ i = 17 ∨ i = 18 ∨ i = 19 ∨ i = 20 ∨ i = 21 ∨ i = 22 ∨ i = 23 ∨ i = 24 ∨ i = 25 ∨ i = 26 ∨ i = 27 ∨ i = 28 ∨ i = 29 ∨ i = 30 ∨ i = 31 := by omega
    rcases h with rfl | rfl | rfl | rfl | rfl | rfl | rfl | rfl | rfl | rfl | rfl | rfl | rfl | rfl | rfl | rfl | rfl | rfl | rfl | rfl | rfl | rfl | rfl | rfl | rfl | rfl | rfl | rfl | rfl | rfl | rfl | rfl
    all_goals rfl
/-- The byte that a round lays, in the walk's spelling. -/
theorem byte_of (x q : Nat) (hq : q < 4) : (((x : Int) / 2 ^ (24 - 8 * q)) % 256) = ((((beB x 4).getD q 0).toNat : Nat) : Int) := by
  have h : q = 0 ∨ q = 1 ∨ q = 2 ∨ q = 3 := by omega
  rcases h with rfl | rfl | rfl | rfl
  · show (x : Int) / 16777216 % 256 = (((UInt8.ofNat (x / 16777216)).toNat : Nat) : Int)
    rw [UInt8.toNat_ofNat']
    omega
  · show (x : Int) / 65536 % 256 = (((UInt8.ofNat (x / 65536)).toNat : Nat) : Int)
    rw [UInt8.toNat_ofNat']
    omega
  · show (x : Int) / 256 % 256 = (((UInt8.ofNat (x / 256)).toNat : Nat) : Int)
    rw [UInt8.toNat_ofNat']
    omega
  · show (x : Int) / 1 % 256 = (((UInt8.ofNat (x / 1)).toNat : Nat) : Int)
    rw [UInt8.toNat_ofNat', Nat.div_one]
    omega
theorem piece_bytes2 {w : World} {g M : Nat} {cur : Array Value} {S : List UInt8} {t : TypeId} (h : w.heap[g]? = some (.cells cur t (0, 0))) (ht : cur.toList.take M = byteCells S) (hS : S.length = M) (off n c : Nat) (ho : off + n ≤ M) (hc : n ≤ c) (hm : c ≤ maxLen) :
    IsBytes w (.slice (some ⟨g, off, none⟩) n c) ((S.drop off).take n) := by
  have hl : ((S.drop off).take n).length = n := by simp; omega
  refine .inr ⟨g, off, c, by rw [hl], by rw [hl]; exact hc, hm, (Array.getElem?_eq_some_iff.1 h).1, fun i hi => ?_⟩
  rw [hl] at hi
  have h1 : (cur.toList.take M)[off + i]? = some (.int .u8 (S.getD (off + i) 0).toNat) := by
    rw [ht]
    have : off + i < S.length := by omega
    simp [byteCells, this]
  rw [List.getElem?_take, if_pos (by omega)] at h1
  rw [cell_of_row w g (off + i) cur t (0, 0) h]
  have h2 : cur[off + i]? = some (.int .u8 (S.getD (off + i) 0).toNat) := by simpa using h1
  rw [h2]
  simp [List.getElem?_drop, hi]
theorem slice_64 (b n cap i : Nat) (hc : n ≤ cap) (hi : 64 * i + 64 ≤ n) (W : World) :
    (Instr.slice 24 (.slice (some ⟨b, 0, none⟩) n cap) (some (.int .i64 (64 * (i : Int)))) (some (.int .i64 (64 * (i : Int) + 64))) none).run Tryd.prog W = .ok (.slice (some ⟨b, 64 * i, none⟩) 64 (cap - 64 * i)) W := by
  rw [run_slice_lh (P := Tryd.prog) W 24 (some ⟨b, 0, none⟩) n cap elemBytes .i64 .i64 (64 * (i : Int)) (64 * (i : Int) + 64) (by omega) (by omega) (by omega), sizeByte]
  have e1 : (64 * (i : Int)).toNat = 64 * i := by omega
  have e2 : (64 * (i : Int) + 64).toNat = 64 * i + 64 := by omega
  simp only [Result.andThen, sliced, e1, e2, Nat.mul_one]
  rw [if_neg (by omega), show 64 * i + 64 - 64 * i = 64 by omega]
  simp only [Option.map_some, Addr.add_lit, Nat.zero_add]
structure RefOfX where
  b0 : Bool
  b1 : Bool
  b2 : Bool
  b3 : Bool
  b4 : Bool
  b5 : Bool
  b6 : Bool
  b7 : Bool
  b8 : Bool
  b9 : Bool
  s23 : Value
  s24 : Value
  s25 : Value
  s26 : Value
  s27 : Value
  s28 : Value
  s29 : Value
  s30 : Value
  s31 : Value
set_option maxRecDepth 100000 in
set_option maxHeartbeats 4000000 in
theorem refOf_any (v : Value) (l : List UInt8) (hl : l.length ≤ 100000) (w : World) (hv : IsArg w v l) :
    Calls Tryd.prog 16 #[v] w fun e w' => e = .returned (.agg (byteCells (shaOf l)).toArray) ∧ Below w.heap.size w w' := by
  obtain ⟨i0, hi, hz0, hz1, hz2⟩ := info_parts info8
  obtain ⟨a, c, hsh⟩ := hv.1.shape
  have HV := Lib.hid hv
  clear hv
  rw [hsh] at HV
  subst hsh
  obtain ⟨N, hN⟩ : ∃ N, N = l.length := ⟨_, rfl⟩
  rw [← hN] at HV hl
  rw [← hN]
  have HN := Lib.hid hN
  clear hN
  go_enter Tryd.func16, Tryd.ntmps16
  go_upto_region 1 with fail
  rw [← zero32_lit]
  go_upto_region 2 with fail
  obtain ⟨B, hB⟩ : ∃ B, B = w.heap.size := ⟨_, rfl⟩
  rw [← hB, show (#[.int .u32 1779033703, .int .u32 3144134277, .int .u32 1013904242, .int .u32 2773480762, .int .u32 1359893119, .int .u32 2600822924, .int .u32 528734635, .int .u32 1541459225] : Array Value) = hLit from rfl, hLit_eq]
  generalize hW1 : (w.alloc (.cells zero32 33)).alloc (.cells (u32s hTab).toArray 23) = W1
  have hd1 : W1.heap[B]? = some (.cells zero32 33 (0, 0)) := by rw [← hW1, hB]; exact heap_alloc2_old w _ _
  have hh1 : W1.heap[B + 1]? = some (.cells (u32s hTab).toArray 23 (0, 0)) := by rw [← hW1, hB]; exact heap_alloc2_new w _ _
  have hb1 : Below B w W1 := by rw [← hW1, hB]; exact ((Below.refl _ _).alloc (Nat.le_refl _) _).alloc (by simp) _
  have hs1 : W1.heap.size = B + 2 := by rw [← hW1, hB]; simp
  have hown0 : (W1.alloc (.cells #[] 5)).ownsRow W1.heap.size 5 1 (.slice (some ⟨W1.heap.size, 0, none⟩) 0 0) 0 [] := World.ownsRow_made W1 #[] 0 (Nat.le_refl _) (by decide) rfl
  have hb01 : Below W1.heap.size W1 (W1.alloc (.cells #[] 5)) := (Below.refl _ _).alloc (Nat.le_refl _) _
  have HV1 := Lib.hid ((HV.out.below (by rw [← hB]; exact hb1)).below hb01)
  obtain ⟨L1, hL1⟩ : ∃ L, L = W1.heap.size := ⟨_, rfl⟩
  have HD1 := Lib.hid hd1
  have HH1 := Lib.hid hh1
  have HB1 := Lib.hid hb1
  have HS1 := Lib.hid hs1
  have HBB := Lib.hid hB
  have HL1 := Lib.hid hL1
  clear hd1 hh1 hb1 hW1 hs1 hB
  rw [← hL1] at hown0 hb01
  clear hL1
  go_wp2_with (at_builtin; refine wpList_append_isArg _ rfl (.tmp 9) (.tmp 10) 24 rfl L1 5 i0 (.int .u8 0) Tryd.underlying24 hi hz0 hz1 hz2 rfl _ _ _ rfl (by rw [← HL1.out]; exact hown0) _ l rfl ?c1 ?c2 ?c3 ?_)
  case c1 => exact HV1.out.2
  case c2 => have := HN.out; omega
  case c3 => have := HL1.out; simp; omega
  intro v2 w2 hown2 hgrow2
  have hB2 : Below L1 W1 w2 := hb01.grown hgrow2 (by have := HL1.out; simp; omega) (fun k hk => (hown0.lt k (by rw [HL1.out]; exact hk)).1)
  clear hown0 hb01 hgrow2
  have HB2 := Lib.hid hB2
  have hs2 := hB2.size
  clear hB2
  go_wp2_with fail
  refine (refPad_any N (by omega) _).mono ?_
  rintro e w3 ⟨p, rfl, hop, hb3⟩
  have hap := isArg_of_owns hop
  have HAP := Lib.hid hap.2
  have hown3 := ownsRow_below hown2 (hb3.mono (Nat.le_refl _))
  have hs3 := hb3.size
  have HB3 := Lib.hid (HB2.out.trans (hb3.mono (by have := HL1.out; omega)))
  clear hop hap hown2 hb3
  go_wp2_with (at_builtin; refine wpList_append_isArg _ rfl (.tmp 11) (.tmp 14) 24 rfl L1 5 i0 (.int .u8 0) Tryd.underlying24 hi hz0 hz1 hz2 rfl _ _ _ rfl hown3 _ (padOf N) rfl ?c1 ?c2 ?c3 ?_)
  case c1 => exact HAP.out
  case c2 => have h1 := HN.out; have h2 := padOf_length N; unfold padZeros at h2; omega
  case c3 => have := HL1.out; omega
  intro v4 w4 hown4 hgrow4
  have hB4 := HB3.out.grown hgrow4 (by have := HL1.out; omega) (fun q hq => (hown3.lt q hq).1)
  have hs4 := hgrow4.size
  clear hgrow4 hown3
  obtain ⟨S, hS⟩ : ∃ S, S = l ++ padOf N := ⟨_, rfl⟩
  obtain ⟨M, hM⟩ : ∃ M, M = l.length + (padOf N).length := ⟨_, rfl⟩
  have hSM : S.length = M := by rw [hS, hM, List.length_append]
  rw [← byteCells_append, ← hS, ← hM] at hown4
  obtain ⟨m, hm⟩ : ∃ m, m = M / 64 := ⟨_, rfl⟩
  have hM64 : M = 64 * m := by
    have h1 := padOf_whole N
    rw [HN.out] at h1
    rw [HN.out] at hM
    omega
  have hMs : M ≤ 100072 := by
    have h1 := padOf_length N
    unfold padZeros at h1
    have h2 := HN.out
    omega
  have hM0 : 0 < M := by
    have h1 := padOf_length N
    omega
  obtain ⟨gb, cap, cur, rfl, hgb, hgh, hncap, hcapm, htk⟩ : ∃ gb cap cur, v4 = .slice (some ⟨gb, 0, none⟩) M cap ∧ L1 ≤ gb ∧ w4.heap[gb]? = some (.cells cur 5 (0, 0)) ∧ M ≤ cap ∧ cap ≤ maxLen ∧ cur.toList.take M = byteCells S := by
    rcases hown4.2 with ⟨_, h0⟩ | ⟨gb, cap, cur, hv2, hbg, hh, hn, hmx, _, htk⟩
    · omega
    · exact ⟨gb, cap, cur, hv2, hbg, hh, hn, hmx, by simpa using htk⟩
  have hd4 := (hB4.block _ (by have h1 := (Array.getElem?_eq_some_iff.1 HD1.out).1; have h2 := HL1.out; omega)).trans HD1.out
  have hh4 := (hB4.block _ (by have h1 := (Array.getElem?_eq_some_iff.1 HH1.out).1; have h2 := HL1.out; omega)).trans HH1.out
  have hLB : L1 = B + 2 := by have h1 := HL1.out; have h2 := HS1.out; omega
  have hw4 := HB1.out.trans (hB4.mono (by omega))
  have hgne : gb ≠ B + 1 := by omega
  have hgne2 : gb ≠ B := by omega
  have HTK := Lib.hid htk
  have HG := Lib.hid hgh
  have HD := Lib.hid hd4
  have HH := Lib.hid hh4
  have HW := Lib.hid hw4
  have HS := Lib.hid hS
  have HSM := Lib.hid hSM
  have HM := Lib.hid hM64
  have HMd := Lib.hid hm
  have HCM := Lib.hid hcapm
  have hmq : (M : Int) / 64 = (m : Int) := by omega
  have hmM : m ≤ 2000 := by omega
  clear htk hgh hd4 hh4 hw4 hS hSM hM hM64 hm hown4 hB4 HD1 HH1 HB1 HB2 HB3 hcapm hMs hLB
  generalize hH8 : (u32s hTab).toArray = H8
  have HH8 := Lib.hid hH8
  rw [hH8] at HH
  clear hH8
  go_wp2_with fail
  go_loopw [5] (fun c wr => ∃ i : Nat, i ≤ m ∧ c = .int .i64 i ∧ wr.heap[B + 1]? = some (.cells (u32s (blocksTo S i)).toArray 23 (0, 0)) ∧ wr.heap[B]? = some (.cells zero32 33 (0, 0)) ∧ wr.heap[gb]? = some (.cells cur 5 (0, 0)) ∧ Below B w wr) (fun c _ => m - (intOf c).toNat)
  case atStart => exact ⟨0, by omega, rfl, HH.out.trans (by rw [← HH8.out]; rfl), HD.out, HG.out, HW.out⟩
  case round =>
    obtain ⟨i, hi', rfl, rH, rD, rC, rW⟩ := hrel
    have RH := Lib.hid rH
    have RD := Lib.hid rD
    have RC := Lib.hid rC
    have RW := Lib.hid rW
    clear rH rD rC rW
    by_cases hlt : i < m
    · obtain ⟨st, hst⟩ : ∃ st, st = blocksTo S i := ⟨_, rfl⟩
      obtain ⟨st1, hst1⟩ : ∃ st1, st1 = turnOf st ((S.drop (64 * i)).take 64) := ⟨_, rfl⟩
      have hst2 : st1 = blocksTo S (i + 1) := by rw [hst1, hst]; rfl
      have hs8 : st.length = 8 := by rw [hst]; exact blocksTo_length _ _
      have hs32 : All32 st := by rw [hst]; exact blocksTo_32 _ _
      have hs18 : st1.length = 8 := by rw [hst2]; exact blocksTo_length _ _
      have HV8 := Lib.hid (show (some 8 : Option Nat) = some (u32s st).toArray.size ∧ (some 8 : Option Nat) = some (u32s st1).toArray.size ∧ (u32s st).toArray.size = (u32s st1).toArray.size from ⟨by simp [hs8], by simp [hs18], by simp [hs8, hs18]⟩)
      have hpl : ((S.drop (64 * i)).take 64).length = 64 := by have := HM.out; have := HSM.out; simp; omega
      have HTN := Lib.hid (show ∀ W : World, W.heap[gb]? = some (.cells cur 5 (0, 0)) → Calls Tryd.prog 11 #[.agg (u32s st).toArray, .slice (some ⟨gb, 64 * i, none⟩) 64 (cap - 64 * i)] W fun z w' => z = .returned (.agg (u32s st1).toArray) ∧ Below W.heap.size W w' from fun W hW => by
        rw [hst1]
        exact refTurn_this _ _ st hs8 hs32 W (piece_bytes2 hW HTK.out HSM.out (64 * i) 64 (cap - 64 * i) (by have := HM.out; omega) (by have := HM.out; omega) (by have := HCM.out; omega)) hpl)
      have HM1 := Lib.hid (show IntKind.i64.wrap (64 * (i : Int)) = 64 * (i : Int) from IntWalk.i64_in _ (by omega))
      have HM2 := Lib.hid (show IntKind.i64.wrap (64 * (i : Int) + 64) = 64 * (i : Int) + 64 from IntWalk.i64_in _ (by omega))
      have HSL := Lib.hid (show ∀ W, (Instr.slice 24 (.slice (some ⟨gb, 0, none⟩) M cap) (some (.int .i64 (64 * (i : Int)))) (some (.int .i64 (64 * (i : Int) + 64))) none).run Tryd.prog W = .ok (.slice (some ⟨gb, 64 * i, none⟩) 64 (cap - 64 * i)) W from fun W => slice_64 gb M cap i hncap (by have := HM.out; omega) W)
      have HS2 := Lib.hid hst2
      rw [← hst] at RH
      clear hst hst1 hst2 hs8 hs32 hs18 hpl
      go_wp2_with fail
      refine wp_region_rec (X := RefOfX) (by kernel_rfl) (by kernel_rfl) (fun x => #[x.b0, x.b1, x.b2, x.b3, x.b4, x.b5, x.b6, x.b7, x.b8, x.b9]) (fun x => { tmps := #[.slice a N c, undef, .pointer (some ⟨B, 0, none⟩), .pointer (some ⟨B + 1, 0, none⟩), .slice (some ⟨gb, 0, none⟩) M cap, .int .i64 i, undef, undef, .agg H8, .slice (some ⟨W1.heap.size, 0, none⟩) 0 0, .slice a N c, v2, .slice a N c, .int .i64 N, p, .slice (some ⟨gb, 0, none⟩) M cap, .int .i64 i, .slice (some ⟨gb, 0, none⟩) M cap, .int .i64 M, .int .i64 m, .bool true, u21, u22, x.s23, x.s24, x.s25, x.s26, x.s27, x.s28, x.s29, x.s30, x.s31, undef, undef, undef, undef, undef, undef, undef, undef, undef, undef, undef, undef, undef, undef, undef, undef, undef, undef], defers := [] }) (fun x W => (x.b0 = true → x.s23 = .agg (u32s st).toArray) ∧ (x.b1 = true → x.s24 = .slice (some ⟨gb, 0, none⟩) M cap) ∧ (x.b2 = true → x.s25 = .int .i64 i) ∧ (x.b3 = true → x.s26 = .int .i64 (64 * (i : Int))) ∧ (x.b4 = true → x.s27 = .int .i64 i) ∧ (x.b5 = true → x.s28 = .int .i64 (64 * (i : Int))) ∧ (x.b6 = true → x.s29 = .int .i64 (64 * (i : Int) + 64)) ∧ (x.b7 = true → x.s30 = .slice (some ⟨gb, 64 * i, none⟩) 64 (cap - 64 * i)) ∧ (x.b8 = true → x.s31 = .agg (u32s st1).toArray) ∧ (x.b9 = true → x.b0 = true) ∧ (W.heap[B + 1]? = some (.cells (if x.b9 then (u32s st1).toArray else (u32s st).toArray) 23 (0, 0))) ∧ (W.heap[B]? = some (.cells zero32 33 (0, 0))) ∧ (W.heap[gb]? = some (.cells cur 5 (0, 0))) ∧ (Below B w W)) ⟨false, false, false, false, false, false, false, false, false, false, u23, u24, u25, u26, u27, u28, u29, u30, u31⟩ rfl rfl ⟨(fun h => by cases h), (fun h => by cases h), (fun h => by cases h), (fun h => by cases h), (fun h => by cases h), (fun h => by cases h), (fun h => by cases h), (fun h => by cases h), (fun h => by cases h), (fun h => by cases h), RH.out, RD.out, RC.out, RW.out.drew⟩ (fun _ => rfl) ?hstep ?hdone
      case hstep =>
        rintro ⟨b0, b1, b2, b3, b4, b5, b6, b7, b8, b9, s23, s24, s25, s26, s27, s28, s29, s30, s31⟩ W hI i hi
        dsimp only at hI hi ⊢
        have HI := Lib.hid hI
        clear hI
        rw [Region.ready, List.mem_filter, List.mem_range] at hi
        obtain ⟨hlt, hp⟩ := hi
        have hi7 : i = 0 ∨ i = 1 ∨ i = 2 ∨ i = 3 ∨ i = 4 ∨ i = 5 ∨ i = 6 ∨ i = 7 ∨ i = 8 ∨ i = 9 := by simp at hlt; omega
        clear hlt
        rcases hi7 with rfl | rfl | rfl | rfl | rfl | rfl | rfl | rfl | rfl | rfl
        all_goals simp [Region.binds] at hp
        · have hn0 : b0 = false := by revert hp; cases b0 <;> simp
          clear hp
          subst hn0
          refine inv_op (o := ⟨some 23, _, _, _, _, _⟩) rfl (fun K' hK' => ?_)
          have g90 := HI.out.2.2.2.2.2.2.2.2.2.1
          have gH := HI.out.2.2.2.2.2.2.2.2.2.2.1
          have b9f : b9 = false := by cases b9 with | false => rfl | true => exact absurd (g90 rfl) (by simp)
          subst b9f
          rw [if_pos (by kernel_rfl)]
          refine wp_load_row 23 _ rfl (B + 1) rfl 23 _ (0, 0) _ gH und8x32 rfl (info8x32.trans HV8.out.1) ?_
          obtain ⟨h0, h1, h2, h3, h4, h5, h6, h7, h8, g90, gH, gD, gC, gW⟩ := HI.out
          exact hK'.out _ _ ⟨⟨true, b1, b2, b3, b4, b5, b6, b7, b8, false, _, s24, s25, s26, s27, s28, s29, s30, s31⟩, rfl, rfl, (fun _ => rfl), h1, h2, h3, h4, h5, h6, h7, h8, (fun h => by cases h), gH, gD, gC, gW⟩
        · have hn1 : b1 = false := by revert hp; cases b1 <;> simp
          clear hp
          subst hn1
          refine inv_op (o := ⟨some 24, _, _, _, _, _⟩) rfl (fun K' hK' => ?_)
          go_simp
          obtain ⟨h0, h1, h2, h3, h4, h5, h6, h7, h8, g90, gH, gD, gC, gW⟩ := HI.out
          exact hK'.out _ _ ⟨⟨b0, true, b2, b3, b4, b5, b6, b7, b8, b9, s23, _, s25, s26, s27, s28, s29, s30, s31⟩, rfl, rfl, h0, (fun _ => rfl), h2, h3, h4, h5, h6, h7, h8, g90, gH, gD, gC, gW⟩
        · have hn2 : b2 = false := by revert hp; cases b2 <;> simp
          clear hp
          subst hn2
          refine inv_op (o := ⟨some 25, _, _, _, _, _⟩) rfl (fun K' hK' => ?_)
          go_simp
          obtain ⟨h0, h1, h2, h3, h4, h5, h6, h7, h8, g90, gH, gD, gC, gW⟩ := HI.out
          exact hK'.out _ _ ⟨⟨b0, b1, true, b3, b4, b5, b6, b7, b8, b9, s23, s24, _, s26, s27, s28, s29, s30, s31⟩, rfl, rfl, h0, h1, (fun _ => rfl), h3, h4, h5, h6, h7, h8, g90, gH, gD, gC, gW⟩
        · have hn3 : b3 = false := by revert hp; cases b3 <;> simp
          have e2 : b2 = true := by revert hp; cases b2 <;> simp
          clear hp
          obtain rfl := (HI.out.2.2.1) e2
          subst hn3
          refine inv_op (o := ⟨some 26, _, _, _, _, _⟩) rfl (fun K' hK' => ?_)
          have hw := HM1.out
          go_simp
          (try rw [hw])
          obtain ⟨h0, h1, h2, h3, h4, h5, h6, h7, h8, g90, gH, gD, gC, gW⟩ := HI.out
          exact hK'.out _ _ ⟨⟨b0, b1, b2, true, b4, b5, b6, b7, b8, b9, s23, s24, _, _, s27, s28, s29, s30, s31⟩, rfl, rfl, h0, h1, h2, (fun _ => rfl), h4, h5, h6, h7, h8, g90, gH, gD, gC, gW⟩
        · have hn4 : b4 = false := by revert hp; cases b4 <;> simp
          clear hp
          subst hn4
          refine inv_op (o := ⟨some 27, _, _, _, _, _⟩) rfl (fun K' hK' => ?_)
          go_simp
          obtain ⟨h0, h1, h2, h3, h4, h5, h6, h7, h8, g90, gH, gD, gC, gW⟩ := HI.out
          exact hK'.out _ _ ⟨⟨b0, b1, b2, b3, true, b5, b6, b7, b8, b9, s23, s24, s25, s26, _, s28, s29, s30, s31⟩, rfl, rfl, h0, h1, h2, h3, (fun _ => rfl), h5, h6, h7, h8, g90, gH, gD, gC, gW⟩
        · have hn5 : b5 = false := by revert hp; cases b5 <;> simp
          have e4 : b4 = true := by revert hp; cases b4 <;> simp
          clear hp
          obtain rfl := (HI.out.2.2.2.2.1) e4
          subst hn5
          refine inv_op (o := ⟨some 28, _, _, _, _, _⟩) rfl (fun K' hK' => ?_)
          have hw := HM1.out
          go_simp
          (try rw [hw])
          obtain ⟨h0, h1, h2, h3, h4, h5, h6, h7, h8, g90, gH, gD, gC, gW⟩ := HI.out
          exact hK'.out _ _ ⟨⟨b0, b1, b2, b3, b4, true, b6, b7, b8, b9, s23, s24, s25, s26, _, _, s29, s30, s31⟩, rfl, rfl, h0, h1, h2, h3, h4, (fun _ => rfl), h6, h7, h8, g90, gH, gD, gC, gW⟩
        · have hn6 : b6 = false := by revert hp; cases b6 <;> simp
          have e5 : b5 = true := by revert hp; cases b5 <;> simp
          clear hp
          obtain rfl := (HI.out.2.2.2.2.2.1) e5
          subst hn6
          refine inv_op (o := ⟨some 29, _, _, _, _, _⟩) rfl (fun K' hK' => ?_)
          have hw := HM2.out
          go_simp
          (try rw [hw])
          obtain ⟨h0, h1, h2, h3, h4, h5, h6, h7, h8, g90, gH, gD, gC, gW⟩ := HI.out
          exact hK'.out _ _ ⟨⟨b0, b1, b2, b3, b4, b5, true, b7, b8, b9, s23, s24, s25, s26, s27, _, _, s30, s31⟩, rfl, rfl, h0, h1, h2, h3, h4, h5, (fun _ => rfl), h7, h8, g90, gH, gD, gC, gW⟩
        · have hn7 : b7 = false := by revert hp; cases b7 <;> simp
          have e1 : b1 = true := by revert hp; cases b1 <;> simp
          have e3 : b3 = true := by revert hp; cases b3 <;> simp
          have e6 : b6 = true := by revert hp; cases b6 <;> simp
          clear hp
          obtain rfl := (HI.out.2.1) e1
          obtain rfl := (HI.out.2.2.2.1) e3
          obtain rfl := (HI.out.2.2.2.2.2.2.1) e6
          subst hn7
          refine inv_op (o := ⟨some 30, _, _, _, _, _⟩) rfl (fun K' hK' => ?_)
          have hs := HSL.out W
          go_simp
          obtain ⟨h0, h1, h2, h3, h4, h5, h6, h7, h8, g90, gH, gD, gC, gW⟩ := HI.out
          exact hK'.out _ _ ⟨⟨b0, b1, b2, b3, b4, b5, b6, true, b8, b9, s23, _, s25, _, s27, s28, _, _, s31⟩, rfl, rfl, h0, h1, h2, h3, h4, h5, h6, (fun _ => rfl), h8, g90, gH, gD, gC, gW⟩
        · have hn8 : b8 = false := by revert hp; cases b8 <;> simp
          have e0 : b0 = true := by revert hp; cases b0 <;> simp
          have e7 : b7 = true := by revert hp; cases b7 <;> simp
          clear hp
          obtain rfl := (HI.out.1) e0
          obtain rfl := (HI.out.2.2.2.2.2.2.2.1) e7
          subst hn8
          refine inv_op (o := ⟨some 31, _, _, _, _, _⟩) rfl (fun K' hK' => ?_)
          have gC := HI.out.2.2.2.2.2.2.2.2.2.2.2.2.1
          go_simp
          refine (HTN.out W gC).mono ?_
          rintro e w1 ⟨rfl, hb1⟩
          have hs1 := hb1.size
          obtain ⟨h0, h1, h2, h3, h4, h5, h6, h7, h8, g90, gH, gD, gC, gW⟩ := HI.out
          exact hK'.out _ _ ⟨⟨b0, b1, b2, b3, b4, b5, b6, b7, true, b9, _, s24, s25, s26, s27, s28, s29, _, _⟩, rfl, rfl, h0, h1, h2, h3, h4, h5, h6, h7, (fun _ => rfl), g90, ((hb1.block _ (Array.getElem?_eq_some_iff.1 gH).1).trans gH), ((hb1.block _ (Array.getElem?_eq_some_iff.1 gD).1).trans gD), ((hb1.block _ (Array.getElem?_eq_some_iff.1 gC).1).trans gC), (gW.trans (hb1.mono (by have h1 := (Array.getElem?_eq_some_iff.1 gD).1; omega)))⟩
        · have hn9 : b9 = false := by revert hp; cases b9 <;> simp
          have e8 : b8 = true := by revert hp; cases b8 <;> simp
          have e0 : b0 = true := by revert hp; cases b0 <;> simp
          clear hp
          obtain rfl := (HI.out.2.2.2.2.2.2.2.2.1) e8
          subst hn9
          refine inv_op (o := ⟨none, _, _, _, _, _⟩) rfl (fun K' hK' => ?_)
          have gH := HI.out.2.2.2.2.2.2.2.2.2.2.1
          rw [if_pos (by kernel_rfl)]
          refine wp_store_row 23 _ _ rfl (B + 1) (u32s st1).toArray rfl rfl 23 (u32s st).toArray gH (info8x32.trans HV8.out.2.1) HV8.out.2.2 (u32s_one _) ?_
          obtain ⟨h0, h1, h2, h3, h4, h5, h6, h7, h8, g90, gH, gD, gC, gW⟩ := HI.out
          exact hK'.out _ _ ⟨⟨b0, b1, b2, b3, b4, b5, b6, b7, b8, true, s23, s24, s25, s26, s27, s28, s29, s30, _⟩, rfl, rfl, h0, h1, h2, h3, h4, h5, h6, h7, h8, (fun _ => e0), (setRow_heap _ _ _ _ _ _ gH), ((setRow_other _ _ _ _ (by omega)).trans gD), ((setRow_other _ _ _ _ hgne).trans gC), (below_setRow gW (by omega) _)⟩
      case hdone =>
        rintro ⟨b0, b1, b2, b3, b4, b5, b6, b7, b8, b9, s23, s24, s25, s26, s27, s28, s29, s30, s31⟩ W hI hall
        dsimp only at hI hall ⊢
        have HI := Lib.hid hI
        clear hI
        obtain rfl : b9 = true := hall 9 (by decide)
        have gH := HI.out.2.2.2.2.2.2.2.2.2.2.1
        have gD := HI.out.2.2.2.2.2.2.2.2.2.2.2.1
        have gC := HI.out.2.2.2.2.2.2.2.2.2.2.2.2.1
        have gW := HI.out.2.2.2.2.2.2.2.2.2.2.2.2.2
        clear HI hall
        rw [if_pos rfl, HS2.out] at gH
        have GH := Lib.hid gH
        have GD := Lib.hid gD
        have GC := Lib.hid gC
        have GW := Lib.hid gW
        clear gH gD gC gW
        go_wp2_with fail
        go_roundw
        case rel => exact ⟨i + 1, by omega, by go_num, GH.out, GD.out, GC.out, GW.out⟩
        case measure => simp [intOf]; omega
    · obtain rfl : i = m := by omega
      obtain ⟨st, hst⟩ : ∃ st, st = blocksTo S i := ⟨_, rfl⟩
      have HSH := Lib.hid (show shaOf l = digestOf st by
        have h6 := HMd.out
        have h7 := HSM.out
        unfold shaOf
        rw [← HN.out, ← HS.out, h7, ← h6, hst])
      have HST8 := Lib.hid (show st.length = 8 by rw [hst]; exact blocksTo_length _ _)
      have HX32 := Lib.hid (show ∀ i, st.getD i 0 < 4294967296 from fun i => by rw [hst]; exact getD_32 (blocksTo_32 _ _) i)
      rw [← hst] at RH
      clear hst
      go_upto_region 8 with fail
      rw [← zero32_lit]
      obtain ⟨g, hg⟩ : ∃ g, g = wr.heap.size := ⟨_, rfl⟩
      rw [← hg]
      have lD := (Array.getElem?_eq_some_iff.1 RD.out).1
      have lH := (Array.getElem?_eq_some_iff.1 RH.out).1
      have H0 := Lib.hid (show (wr.alloc (.cells zero32 33)).heap[g]? = some (.cells (bRow st 0).toArray 33 (0, 0)) by rw [hg, bRow_zero]; exact heap_alloc_new wr _)
      have H1 := Lib.hid (show (wr.alloc (.cells zero32 33)).heap[B + 1]? = some (.cells (u32s st).toArray 23 (0, 0)) from (Below.heap_alloc _ _ _ lH).trans RH.out)
      have H2 := Lib.hid (show (wr.alloc (.cells zero32 33)).heap[B]? = some (.cells zero32 33 (0, 0)) from (Below.heap_alloc _ _ _ lD).trans RD.out)
      have HW5 := Lib.hid (show Below B w (wr.alloc (.cells zero32 33)) from RW.out.alloc (by omega) _)
      have hgB : B + 1 < g := by omega
      clear hg lD lH RH RD RC RW
      go_wp2_with fail
      go_loopw [7] (fun c wr => ∃ j : Nat, j ≤ 32 ∧ c = .int .i64 j ∧ wr.heap[g]? = some (.cells (bRow st j).toArray 33 (0, 0)) ∧ wr.heap[B + 1]? = some (.cells (u32s st).toArray 23 (0, 0)) ∧ wr.heap[B]? = some (.cells zero32 33 (0, 0)) ∧ Below B w wr) (fun c _ => 32 - (intOf c).toNat)
      case atStart => exact ⟨0, by omega, rfl, H0.out, H1.out, H2.out, HW5.out⟩
      case round =>
        obtain ⟨j, hj, rfl, sD, sH, sR, sW⟩ := hrel
        have SD := Lib.hid sD
        have SH := Lib.hid sH
        have SR := Lib.hid sR
        have SW := Lib.hid sW
        clear sD sH sR sW
        by_cases hjt : j < 32
        · obtain ⟨x, hx⟩ : ∃ x, x = st.getD (j / 4) 0 := ⟨_, rfl⟩
          have hx32 : x < 4294967296 := by rw [hx]; exact HX32.out _
          have cx : wr.cell? ⟨B + 1, j / 4, none⟩ = some (.int .u32 (x : Nat)) := row_at SH.out (by have h8 := HST8.out; have : j / 4 < 8 := by omega
                                                                                                    rw [hx]; simp [u32s, h8, this])
          have cd : wr.cell? ⟨g, j, none⟩ = some (.int .u8 0) := row_at SD.out (bRow_at st j HST8.out hjt)
          have fd : wr.frozen? ⟨g, j, none⟩ = false := row_free SD.out
          have hdj : (j : Int) / 4 < 8 := by omega
          have hdt : ((j : Int) / 4).toNat = j / 4 := by omega
          have HSET := Lib.hid (bRow_set st j _ HST8.out hjt rfl)
          rw [digest_at st j HST8.out hjt, ← hx] at HSET
          clear hx
          obtain ⟨q, hq⟩ : ∃ q, q = j % 4 := ⟨_, rfl⟩
          have hq4 : q < 4 := by omega
          have hqi : (j : Int) % 4 = (q : Int) := by omega
          rw [← hq] at HSET
          have hbo := byte_of x q hq4
          have HBO := Lib.hid hbo
          clear hq hbo
          have hqs : q = 0 ∨ q = 1 ∨ q = 2 ∨ q = 3 := by omega
          rcases hqs with rfl | rfl | rfl | rfl
          · have hv : ((x : Int) / 2 ^ (24 - 8 * 0)) % 256 = (x : Int) / 16777216 := by
              show (x : Int) / 16777216 % 256 = (x : Int) / 16777216
              omega
            rw [hv] at HBO
            go_wp2_with fail
            go_roundw
            case rel =>
              refine ⟨j + 1, by omega, by go_num, ?_, (heap_setCell_other wr _ _ _ (by simp; omega)).trans SH.out, (heap_setCell_other wr _ _ _ (by simp; omega)).trans SR.out, SW.out.setCell (by simp; omega) _⟩
              rw [← HSET.out, ← HBO.out]
              exact row_set SD.out _
            case measure => simp [intOf]; omega
          · have hv : ((x : Int) / 2 ^ (24 - 8 * 1)) % 256 = (x : Int) / 65536 % 256 := by
              show (x : Int) / 65536 % 256 = (x : Int) / 65536 % 256
              omega
            rw [hv] at HBO
            go_wp2_with fail
            go_roundw
            case rel =>
              refine ⟨j + 1, by omega, by go_num, ?_, (heap_setCell_other wr _ _ _ (by simp; omega)).trans SH.out, (heap_setCell_other wr _ _ _ (by simp; omega)).trans SR.out, SW.out.setCell (by simp; omega) _⟩
              rw [← HSET.out, ← HBO.out]
              exact row_set SD.out _
            case measure => simp [intOf]; omega
          · have hv : ((x : Int) / 2 ^ (24 - 8 * 2)) % 256 = (x : Int) / 256 % 256 := by
              show (x : Int) / 256 % 256 = (x : Int) / 256 % 256
              omega
            rw [hv] at HBO
            go_wp2_with fail
            go_roundw
            case rel =>
              refine ⟨j + 1, by omega, by go_num, ?_, (heap_setCell_other wr _ _ _ (by simp; omega)).trans SH.out, (heap_setCell_other wr _ _ _ (by simp; omega)).trans SR.out, SW.out.setCell (by simp; omega) _⟩
              rw [← HSET.out, ← HBO.out]
              exact row_set SD.out _
            case measure => simp [intOf]; omega
          · have hv : ((x : Int) / 2 ^ (24 - 8 * 3)) % 256 = (x : Int) % 256 := by
              show (x : Int) / 1 % 256 = (x : Int) % 256
              omega
            rw [hv] at HBO
            go_wp2_with fail
            go_roundw
            case rel =>
              refine ⟨j + 1, by omega, by go_num, ?_, (heap_setCell_other wr _ _ _ (by simp; omega)).trans SH.out, (heap_setCell_other wr _ _ _ (by simp; omega)).trans SR.out, SW.out.setCell (by simp; omega) _⟩
              rw [← HSET.out, ← HBO.out]
              exact row_set SD.out _
            case measure => simp [intOf]; omega
        · obtain rfl : j = 32 := by omega
          have hsd := SD.out
          rw [bRow_all st HST8.out, ← HSH.out] at hsd
          obtain ⟨R, hR⟩ : ∃ R, R = (byteCells (shaOf l)).toArray := ⟨_, rfl⟩
          have HR32 := Lib.hid (show (some 32 : Option Nat) = some R.size ∧ zero32.size = R.size ∧ R.all (·.oneCell') = true from ⟨by rw [hR]; simp [byteCells, shaOf_length], by rw [hR]; simp [byteCells, shaOf_length]; rfl, by rw [hR]; exact all_oneCell_toArray (byteCells_one _)⟩)
          rw [← hR] at hsd
          have SD2 := Lib.hid hsd
          have HR := Lib.hid hR
          clear hsd hR SD
          go_wp2_with (first | (refine wpList_load_row rfl 33 _ rfl g rfl 33 R (0, 0) _ SD2.out und32 rfl (info32.trans HR32.out.1) ?_) | (refine wpList_store_row rfl 33 _ _ rfl B R rfl rfl 33 zero32 SR.out (info32.trans HR32.out.1) HR32.out.2.1 HR32.out.2.2 ?_))
          refine bodyPost_ret (results_cell_row rfl _ _ B 33 _ (0, 0) _ rfl (setRow_heap _ _ _ _ _ _ SR.out) und32 rfl (info32.trans HR32.out.1)) rfl ⟨by rw [HR.out], ?_⟩
          rw [← HBB.out]
          exact below_setRow SW.out (Nat.le_refl _) _
end Go.Proofs.YtfaiblngchdpmaaDoor
