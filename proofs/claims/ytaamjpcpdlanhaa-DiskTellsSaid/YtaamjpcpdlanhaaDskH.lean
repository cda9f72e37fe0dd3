/- What the examples of the law's package come to: true. -/
import Derived.Test.YtaamjpcpdlanhaaDskD
namespace Go.Proofs.Ytaamjpcpdlanhaa
open Go.RowKit Go.Lib

def sZ : List UInt8 := List.replicate 256 0
def sV : List UInt8 := List.replicate 256 5
def sX : List UInt8 := sV.set 3 4
theorem sZ_len : sZ.length = 256 := List.length_replicate
theorem sV_len : sV.length = 256 := List.length_replicate
theorem sX_len : sX.length = 256 := by rw [sX, List.length_set, sV_len]
theorem two_chk {a b : List UInt8} (ha : a.length = 256) (hb : b.length = 256) : chkB [a, b] [] = true := by
  refine chk_true.2 ⟨by simp, by simp, fun l hl => ?_, fun x hx => by simp at hx⟩
  rcases List.mem_cons.1 hl with rfl | hl
  · exact ha
  · obtain rfl : l = b := by simpa using hl
    exact hb
theorem one_chk : chkB [sZ, sZ] [(0, sV)] = true := by
  obtain ⟨h1, h2, h3, _⟩ := chk_true.1 (two_chk sZ_len sZ_len)
  refine chk_true.2 ⟨h1, by simp, h3, fun x hx => ?_⟩
  obtain rfl : x = (0, sV) := by simpa using hx
  exact ⟨by decide, by show (0 : Int) < 2; decide, sV_len⟩
theorem two_few {a b : List UInt8} (ha : a.length = 256) (hb : b.length = 256) : FewD [a, b] [] := by
  obtain ⟨_, _, h3, _⟩ := chk_true.1 (two_chk ha hb)
  exact ⟨by simp, by simp, fun l hl => by rw [h3 l hl]; decide, fun x hx => by simp at hx⟩
theorem one_few : FewD [sZ, sZ] [(0, sV)] := by
  obtain ⟨_, _, h3, h4⟩ := chk_true.1 one_chk
  exact ⟨by simp, by simp, fun l hl => by rw [h3 l hl]; decide, fun x hx => by rw [(h4 x hx).2.2]; decide⟩
theorem fault_in {S : List (List UInt8)} {C : List (Int × List UInt8)} {z : Int} (hk : chkB S C = true) (h0 : 0 ≤ z) (h1 : z < (S.length : Int)) : dFault S C z = 0 := by rw [dFault, if_pos hk, if_pos ⟨h0, h1⟩]
theorem fault_two {a b : List UInt8} (ha : a.length = 256) (hb : b.length = 256) : dFault [a, b] [] 0 = 0 := fault_in (two_chk ha hb) (by decide) (by show (0 : Int) < 2; decide)
theorem fault_one : dFault [sZ, sZ] [(0, sV)] 0 = 0 := fault_in one_chk (by decide) (by show (0 : Int) < 2; decide)
theorem w0_fault : wFault [sZ, sZ] [] 0 sV.length = 0 := by
  rw [wFault, if_pos (fault_two sZ_len sZ_len), if_pos sV_len, if_neg (by simp)]
theorem w0_of : writeOf [sZ, sZ] [] 0 sV = [(0, sV)] := by rw [writeOf, if_pos w0_fault]; rfl
theorem w2_fault0 : dFault [sZ, sZ] [] 2 = 50 := by rw [dFault, if_pos (two_chk sZ_len sZ_len), if_neg (by show ¬ (0 ≤ (2 : Int) ∧ (2 : Int) < 2); decide)]
theorem w2_fault : wFault [sZ, sZ] [] 2 sV.length = 50 := by
  rw [wFault, w2_fault0, if_neg (by decide)]
theorem w2_of : writeOf [sZ, sZ] [] 2 sV = [] := by rw [writeOf, if_neg (by rw [w2_fault]; decide)]
theorem read_one : readOf [sZ, sZ] [(0, sV)] 0 = sV := by rw [readOf, if_pos fault_one]; rfl
theorem read_two {a b : List UInt8} (ha : a.length = 256) (hb : b.length = 256) : readOf [a, b] [] 0 = a := by rw [readOf, if_pos (fault_two ha hb)]; rfl
theorem form_one : formOf [sZ, sZ] [(0, sV)] = 0 := by rw [formOf, if_pos one_chk]
theorem cache_one : cacheOf [sZ, sZ] [(0, sV)] = [] := by rw [cacheOf, if_pos one_chk]
theorem crash_none : flushOf [sZ, sZ] [(0, sV)] (keptT []) = [sZ, sZ] := by rw [flushOf, if_pos one_chk]; rfl
theorem crash_one : flushOf [sZ, sZ] [(0, sV)] (keptT [true]) = [sV, sZ] := by rw [flushOf, if_pos one_chk]; rfl
theorem flush_one : flushOf [sZ, sZ] [(0, sV)] every = [sV, sZ] := by rw [flushOf, if_pos one_chk]; rfl
theorem t_fault : tFault [sV, sZ] [] 0 3 = 0 := by rw [tFault, if_pos (fault_two sV_len sZ_len), if_pos (by decide)]
theorem t_of : tamperOf [sV, sZ] [] 0 3 1 = [sX, sZ] := by rw [tamperOf, if_pos t_fault]; rfl
theorem sector5 (w : World) : Calls Try.prog 25 #[.int .u8 5] w fun e w' => ∃ g, e = .returned (.slice (some ⟨g, 0, none⟩) 256 256) ∧ IsArg w' (.slice (some ⟨g, 0, none⟩) 256 256) sV ∧ Below w.heap.size w w' := sector_any 5 w
theorem sector0 (w : World) : Calls Try.prog 25 #[.int .u8 0] w fun e w' => ∃ g, e = .returned (.slice (some ⟨g, 0, none⟩) 256 256) ∧ IsArg w' (.slice (some ⟨g, 0, none⟩) 256 256) sZ ∧ Below w.heap.size w w' := sector_any 0 w
theorem new2 (w : World) : Calls Try.prog 22 #[.int .i64 2] w (Answers w 0 [sZ, sZ] [] 2 0) := new_this 2 0 [sZ, sZ] 2 rfl rfl rfl w
theorem tamper3 (s c : Value) (w : World) (hd : IsDisk w s c [sV, sZ] []) : Calls Try.prog 20 #[.agg #[s, c], .int .i64 0, .int .i64 3, .int .u8 1] w (Answers w 0 [sX, sZ] [] 2 0) :=
  tamper_this s c [sV, sZ] [] (two_few sV_len sZ_len) 0 3 1 0 [sX, sZ] [] 2 0 t_fault t_of rfl rfl rfl w hd
theorem arg_at {w : World} {a : Option Addr} {n c : Nat} {l : List UInt8} (h : IsArg w (.slice a n c) l) (i : Nat) (hi : i < l.length) : ∃ b off, a = some ⟨b, off, none⟩ ∧ w.cell? ⟨b, off + i, none⟩ = some (.int .u8 (l.getD i 0).toNat) := by
  rcases h.1 with ⟨_, _, _, h0⟩ | ⟨b, off, cap, h1, _, _, _, h5⟩
  · subst h0; simp at hi
  · cases h1
    exact ⟨b, off, rfl, h5 i hi⟩
theorem flags_one (w : World) (t : TypeId) : IsFlags (w.alloc (.cells #[.bool true] t)) (.slice (some ⟨w.heap.size, 0, none⟩) 1 1) [true] := by
  refine .inr ⟨_, _, rfl, Nat.le_refl _, by decide, fun j u hu => ?_⟩
  match j, hu with
  | 0, hu =>
    cases hu
    have h := heap_alloc_new w (.cells #[.bool true] t)
    unfold World.cell?
    rw [Addr.add_zero', h]
    rfl
  | j + 1, hu => simp at hu

structure Headsa where
  b0 : Bool
  b1 : Bool
  b2 : Bool
  b3 : Bool
  b4 : Bool
  b5 : Bool
  b6 : Bool
  b7 : Bool
  b8 : Bool
  s28 : Value
  s29 : Value
  s30 : Value
  s27 : Value
  s31 : Value
  s32 : Value
  s3 : Value
  s4 : Value
structure Headsm where
  b0 : Bool
  b1 : Bool
  b2 : Bool
  b3 : Bool
  b4 : Bool
  b5 : Bool
  b6 : Bool
  b7 : Bool
  b8 : Bool
  s60 : Value
  s61 : Value
  s62 : Value
  s59 : Value
  s63 : Value
  s64 : Value
  s15 : Value
  s16 : Value
set_option maxHeartbeats 8000000 in
set_option maxRecDepth 100000 in
theorem heads_any (w : World) : Calls Try.prog 9 #[] w fun e w' => e = .returned (.bool true) ∧ Below w.heap.size w w' := by
  have BW := Lib.hid (Below.refl w.heap.size w)
  go_enter Try.func9, Try.ntmps9
  go_wp2_with fail
  refine (new2 _).mono ?_
  rintro e w1 ⟨ad, pd, bd, qd, rfl, hd, hb⟩
  replace BW := Lib.hid (BW.out.trans (hb.mono BW.out.size))
  have Dd := Lib.hid hd
  clear hd hb
  have hbx : Below (w1).heap.size (w1) ((w1).alloc (.cells #[.slice ad 2 pd, .slice bd 0 qd] 25)) := (Below.refl _ _).alloc (Nat.le_refl _) _
  replace BW := Lib.hid (BW.out.trans (hbx.mono BW.out.size))
  replace Dd := Lib.hid (Dd.out.below hbx)
  have Rd := Lib.hid (heap_alloc_new (w1) (.cells #[.slice ad 2 pd, .slice bd 0 qd] 25))
  clear hbx
  obtain ⟨⟨lRda, lRdb⟩, lRdc, lRdd⟩ := box_cells Rd.out
  clear lRdc lRdd
  clear lRda lRdb
  have HLD := Lib.hid (show ∀ W, Below ((w1).alloc (.cells #[.slice ad 2 pd, .slice bd 0 qd] 25)).heap.size ((w1).alloc (.cells #[.slice ad 2 pd, .slice bd 0 qd] 25)) W → W.cell? ⟨w1.heap.size, 0, none⟩ = some (.slice ad 2 pd) ∧ W.cell? ⟨w1.heap.size, 1, none⟩ = some (.slice bd 0 qd) from fun W h => kept2 (box_cells Rd.out).1 h)
  go_wp2_with fail
  refine wp_region_rec (X := Headsa) (by kernel_rfl) (by kernel_rfl) (fun x => #[x.b0, x.b1, x.b2, x.b3, x.b4, x.b5, x.b6, x.b7, x.b8]) (fun x => { tmps := List.toArray ((Value.bool false) :: (Value.pointer (some ⟨w1.heap.size, 0, none⟩)) :: (Value.int IntKind.i64 0) :: x.s3 :: x.s4 :: undef :: undef :: undef :: undef :: undef :: undef :: undef :: undef :: undef :: undef :: undef :: undef :: undef :: undef :: undef :: undef :: undef :: undef :: (Value.tuple #[Value.agg #[Value.slice ad 2 pd, Value.slice bd 0 qd], Value.int IntKind.i64 0]) :: (Value.tuple #[Value.agg #[Value.slice ad 2 pd, Value.slice bd 0 qd], Value.int IntKind.i64 0]) :: (Value.agg #[Value.slice ad 2 pd, Value.slice bd 0 qd]) :: (Value.int IntKind.i64 0) :: x.s27 :: x.s28 :: x.s29 :: x.s30 :: x.s31 :: x.s32 :: undef :: undef :: undef :: undef :: undef :: undef :: undef :: undef :: undef :: undef :: undef :: undef :: undef :: undef :: undef :: undef :: undef :: undef :: undef :: undef :: undef :: undef :: undef :: undef :: undef :: undef :: undef :: undef :: undef :: undef :: undef :: undef :: undef :: undef :: undef :: undef :: undef :: undef :: undef :: undef :: undef :: undef :: undef :: undef :: undef :: undef :: undef :: undef :: undef :: undef :: undef :: undef :: undef :: undef :: undef :: undef :: undef :: undef :: undef :: undef :: undef :: undef :: undef :: undef :: undef :: undef :: undef :: undef :: undef :: undef :: undef :: undef :: undef :: undef :: undef :: undef :: undef :: undef :: undef :: undef :: undef :: undef :: undef :: undef :: undef :: undef :: undef :: undef :: undef :: undef :: undef :: undef :: undef :: undef :: undef :: undef :: undef :: undef :: undef :: undef :: undef :: undef :: undef :: undef :: undef :: undef :: undef :: undef :: undef :: undef :: undef :: undef :: undef :: undef :: undef :: undef :: undef :: undef :: undef :: undef :: undef :: undef :: undef :: undef :: undef :: []), defers := [] }) (fun x W => (x.b0 = true → x.s28 = .agg #[.slice ad 2 pd, .slice bd 0 qd]) ∧ (x.b3 = true → x.s27 = x.s30) ∧ (x.b5 = true → x.s32 = .int .i64 0) ∧ (x.b8 = true → x.s4 = .int .i64 0) ∧ (DSt ((w1).alloc (.cells #[.slice ad 2 pd, .slice bd 0 qd] 25)) 0 [sZ, sZ] [(0, sV)] 2 1 sV x.b1 x.b2 x.b3 x.b4 x.b6 x.b7 x.s29 x.s30 x.s31 x.s3 W)) ⟨false, false, false, false, false, false, false, false, false, undef, undef, undef, undef, undef, undef, undef, undef⟩ rfl rfl ⟨(fun h => by cases h), (fun h => by cases h), (fun h => by cases h), (fun h => by cases h), (DSt.start (Below.refl _ _).drew)⟩ (fun _ => rfl) ?hstep ?hdone
  case hstep =>
    rintro ⟨b0, b1, b2, b3, b4, b5, b6, b7, b8, s28, s29, s30, s27, s31, s32, s3, s4⟩ W hI i hi
    dsimp only at hI hi ⊢
    have HI := Lib.hid hI
    clear hI
    rw [Region.ready, List.mem_filter, List.mem_range] at hi
    obtain ⟨hlt, hp⟩ := hi
    have hi7 : i = 0 ∨ i = 1 ∨ i = 2 ∨ i = 3 ∨ i = 4 ∨ i = 5 ∨ i = 6 ∨ i = 7 ∨ i = 8 := by simp at hlt; omega
    clear hlt
    rcases hi7 with rfl | rfl | rfl | rfl | rfl | rfl | rfl | rfl | rfl
    all_goals simp [Region.binds] at hp
    · have hn0 : b0 = false := by revert hp; cases b0 <;> simp
      clear hp
      subst hn0
      refine inv_op (o := ⟨some 28, _, _, _, _, _⟩) rfl (fun K' hK' => ?_)
      have gI := HI.out.2.2.2.2
      obtain ⟨hc1, hc2⟩ := HLD.out W gI.out
      go_simp
      obtain ⟨h0, h3, h5, h8, gI⟩ := HI.out
      exact hK'.out _ _ ⟨⟨true, b1, b2, b3, b4, b5, b6, b7, b8, _, s29, s30, s27, s31, s32, s3, s4⟩, rfl, rfl, (fun _ => rfl), h3, h5, h8, gI⟩
    · have hn1 : b1 = false := by revert hp; cases b1 <;> simp
      clear hp
      subst hn1
      refine inv_op (o := ⟨some 29, _, _, _, _, _⟩) rfl (fun K' hK' => ?_)
      go_simp
      refine (sector5 _).mono ?_
      rintro e w1 ⟨g, rfl, hr, bn⟩
      obtain ⟨h0, h3, h5, h8, gI⟩ := HI.out
      exact hK'.out _ _ ⟨⟨b0, true, b2, b3, b4, b5, b6, b7, b8, s28, _, s30, s27, s31, s32, s3, s4⟩, rfl, rfl, h0, h3, h5, h8, (gI.one bn hr)⟩
    · have hn2 : b2 = false := by revert hp; cases b2 <;> simp
      have e0 : b0 = true := by revert hp; cases b0 <;> simp
      have e1 : b1 = true := by revert hp; cases b1 <;> simp
      clear hp
      obtain rfl := (HI.out.1) e0
      subst hn2
      refine inv_op (o := ⟨some 30, _, _, _, _, _⟩) rfl (fun K' hK' => ?_)
      have gI := HI.out.2.2.2.2
      have hb7 : b7 = false := by cases b7 with | false => rfl | true => exact absurd (gI.o3 (gI.o4 (gI.o8 rfl))) (by decide)
      subst hb7
      obtain ⟨gs, rfl, hs⟩ := gI.g1 e1 rfl
      go_simp
      refine (write_put _ _ [sZ, sZ] [] (two_few sZ_len sZ_len) 0 _ sV (by rw [sV_len]; decide) 0 [sZ, sZ] [(0, sV)] 2 1 w0_fault rfl w0_of rfl rfl _ (Dd.out.below gI.out) hs).mono ?_
      rintro e w1 ⟨a, p, b, q, B, rfl, hr, bn⟩
      obtain ⟨h0, h3, h5, h8, gI⟩ := HI.out
      exact hK'.out _ _ ⟨⟨b0, b1, true, b3, b4, b5, b6, false, b8, _, _, _, s27, s31, s32, s3, s4⟩, rfl, rfl, h0, (fun e3 => absurd (gI.o3 e3) (by decide)), h5, h8, (gI.two bn hr)⟩
    · have hn3 : b3 = false := by revert hp; cases b3 <;> simp
      have e2 : b2 = true := by revert hp; cases b2 <;> simp
      clear hp
      subst hn3
      refine inv_op (o := ⟨some 27, _, _, _, _, _⟩) rfl (fun K' hK' => ?_)
      subst e2
      go_simp
      obtain ⟨h0, h3, h5, h8, gI⟩ := HI.out
      exact hK'.out _ _ ⟨⟨b0, b1, true, true, b4, b5, b6, b7, b8, s28, s29, _, _, s31, s32, s3, s4⟩, rfl, rfl, h0, (fun _ => rfl), h5, h8, gI.three⟩
    · have hn4 : b4 = false := by revert hp; cases b4 <;> simp
      have e3 : b3 = true := by revert hp; cases b3 <;> simp
      clear hp
      obtain rfl := (HI.out.2.1) e3
      subst hn4
      refine inv_op (o := ⟨some 31, _, _, _, _, _⟩) rfl (fun K' hK' => ?_)
      have gI := HI.out.2.2.2.2
      obtain ⟨a, p, b, q, B, rfl, _⟩ := gI.g2 (gI.o3 e3)
      subst e3
      go_simp
      obtain ⟨h0, h3, h5, h8, gI⟩ := HI.out
      exact hK'.out _ _ ⟨⟨b0, b1, b2, true, true, b5, b6, b7, b8, s28, s29, _, _, _, s32, s3, s4⟩, rfl, rfl, h0, h3, h5, h8, gI.four⟩
    · have hn5 : b5 = false := by revert hp; cases b5 <;> simp
      have e3 : b3 = true := by revert hp; cases b3 <;> simp
      clear hp
      obtain rfl := (HI.out.2.1) e3
      subst hn5
      refine inv_op (o := ⟨some 32, _, _, _, _, _⟩) rfl (fun K' hK' => ?_)
      have gI := HI.out.2.2.2.2
      obtain ⟨a, p, b, q, B, rfl, _⟩ := gI.g2 (gI.o3 e3)
      go_simp
      obtain ⟨h0, h3, h5, h8, gI⟩ := HI.out
      exact hK'.out _ _ ⟨⟨b0, b1, b2, b3, b4, true, b6, b7, b8, s28, s29, _, _, s31, _, s3, s4⟩, rfl, rfl, h0, h3, (fun _ => rfl), h8, gI⟩
    · have hn6 : b6 = false := by revert hp; cases b6 <;> simp
      clear hp
      subst hn6
      refine inv_op (o := ⟨some 3, _, _, _, _, _⟩) rfl (fun K' hK' => ?_)
      go_simp
      obtain ⟨h0, h3, h5, h8, gI⟩ := HI.out
      exact hK'.out _ _ ⟨⟨b0, b1, b2, b3, b4, b5, true, b7, b8, s28, s29, s30, s27, s31, s32, _, s4⟩, rfl, rfl, h0, h3, h5, h8, gI.six⟩
    · have hn7 : b7 = false := by revert hp; cases b7 <;> simp
      have e6 : b6 = true := by revert hp; cases b6 <;> simp
      have e4 : b4 = true := by revert hp; cases b4 <;> simp
      clear hp
      subst hn7
      refine inv_op (o := ⟨none, _, _, _, _, _⟩) rfl (fun K' hK' => ?_)
      have gI := HI.out.2.2.2.2
      obtain ⟨gx, rfl, hgx, hrow⟩ := gI.g6 e6 rfl
      obtain ⟨a, p, b, q, B, hw, hown⟩ := gI.g2 (gI.o3 (gI.o4 e4))
      obtain ⟨v, hv⟩ := gI.p4 e4
      obtain ⟨rfl, hvv⟩ := tuple_two (hv.symm.trans hw)
      clear hv hw hvv
      subst e6
      obtain ⟨⟨hc1, hc2⟩, hz1, hz2⟩ := box_cells hrow
      have hlx := (Array.getElem?_eq_some_iff.1 hrow).1
      go_simp
      obtain ⟨h0, h3, h5, h8, gI⟩ := HI.out
      exact hK'.out _ _ ⟨⟨b0, b1, b2, b3, b4, b5, true, true, b8, s28, s29, s30, s27, _, s32, _, s4⟩, rfl, rfl, h0, h3, h5, h8, (gI.seven e4 hown hgx hrow)⟩
    · have hn8 : b8 = false := by revert hp; cases b8 <;> simp
      have e5 : b5 = true := by revert hp; cases b5 <;> simp
      clear hp
      obtain rfl := (HI.out.2.2.1) e5
      subst hn8
      refine inv_op (o := ⟨some 4, _, _, _, _, _⟩) rfl (fun K' hK' => ?_)
      go_simp
      obtain ⟨h0, h3, h5, h8, gI⟩ := HI.out
      exact hK'.out _ _ ⟨⟨b0, b1, b2, b3, b4, b5, b6, b7, true, s28, s29, s30, s27, s31, _, s3, _⟩, rfl, rfl, h0, h3, h5, (fun _ => rfl), gI⟩
  case hdone =>
    rintro ⟨b0, b1, b2, b3, b4, b5, b6, b7, b8, s28, s29, s30, s27, s31, s32, s3, s4⟩ W hI hall
    dsimp only at hI hall ⊢
    have HI := Lib.hid hI
    clear hI
    obtain rfl : b0 = true := hall 0 (by decide)
    obtain rfl : b1 = true := hall 1 (by decide)
    obtain rfl : b2 = true := hall 2 (by decide)
    obtain rfl : b3 = true := hall 3 (by decide)
    obtain rfl : b4 = true := hall 4 (by decide)
    obtain rfl : b5 = true := hall 5 (by decide)
    obtain rfl : b6 = true := hall 6 (by decide)
    obtain rfl : b7 = true := hall 7 (by decide)
    obtain rfl : b8 = true := hall 8 (by decide)
    obtain rfl := (HI.out.1) rfl
    obtain rfl := (HI.out.2.1) rfl
    obtain rfl := (HI.out.2.2.1) rfl
    obtain rfl := (HI.out.2.2.2.1) rfl
    have gI := HI.out.2.2.2.2
    clear HI hall
    obtain ⟨w2, hwN⟩ : ∃ x, x = W := ⟨_, rfl⟩
    subst hwN
    obtain ⟨ga, aa, pa, ba, qa, Ba, rfl, hrw, hdw⟩ := gI.g7 rfl
    have hbW := gI.out
    replace BW := Lib.hid (BW.out.trans (hbW.mono BW.out.size))
    replace Dd := Lib.hid (Dd.out.below hbW)
    replace Rd := Lib.hid (row_keep Rd.out hbW)
    have Ra := Lib.hid hrw
    have Da := Lib.hid hdw.disk
    clear gI hrw hdw hbW
    clear HLD
    obtain ⟨⟨lRaa, lRab⟩, lRac, lRad⟩ := box_cells Ra.out
    clear lRac lRad
    go_wp2_with fail
    refine (read_this _ _ [sZ, sZ] [(0, sV)] 0 0 sV 256 fault_one read_one sV_len _ Da.out).mono ?_
    rintro e w3 ⟨ab, pb, rfl, hd, hb⟩
    clear lRaa lRab
    replace BW := Lib.hid (BW.out.trans (hb.mono BW.out.size))
    replace Dd := Lib.hid (Dd.out.below hb)
    replace Rd := Lib.hid (row_keep Rd.out hb)
    replace Ra := Lib.hid (row_keep Ra.out hb)
    replace Da := Lib.hid (Da.out.below hb)
    have Ab := Lib.hid hd
    clear hd hb
    obtain ⟨⟨lRaa, lRab⟩, lRac, lRad⟩ := box_cells Ra.out
    clear lRac lRad
    go_wp2_with fail
    refine (crash_this _ _ [sZ, sZ] [(0, sV)] one_few _ [] 0 [sZ, sZ] [] 2 0 form_one crash_none cache_one rfl rfl _ Da.out (flags_nil _)).mono ?_
    rintro e w4 ⟨ac, pc, bc, qc, rfl, hd, hb⟩
    clear lRaa lRab
    replace BW := Lib.hid (BW.out.trans (hb.mono BW.out.size))
    replace Dd := Lib.hid (Dd.out.below hb)
    replace Rd := Lib.hid (row_keep Rd.out hb)
    replace Ra := Lib.hid (row_keep Ra.out hb)
    replace Da := Lib.hid (Da.out.below hb)
    replace Ab := Lib.hid (Ab.out.below hb)
    have Dc := Lib.hid hd
    clear hd hb
    have hbx : Below (w4).heap.size (w4) ((w4).alloc (.cells #[.slice ac 2 pc, .slice bc 0 qc] 25)) := (Below.refl _ _).alloc (Nat.le_refl _) _
    replace BW := Lib.hid (BW.out.trans (hbx.mono BW.out.size))
    replace Dd := Lib.hid (Dd.out.below hbx)
    replace Rd := Lib.hid (row_keep Rd.out hbx)
    replace Ra := Lib.hid (row_keep Ra.out hbx)
    replace Da := Lib.hid (Da.out.below hbx)
    replace Ab := Lib.hid (Ab.out.below hbx)
    replace Dc := Lib.hid (Dc.out.below hbx)
    have Rc := Lib.hid (heap_alloc_new (w4) (.cells #[.slice ac 2 pc, .slice bc 0 qc] 25))
    clear hbx
    obtain ⟨⟨lRaa, lRab⟩, lRac, lRad⟩ := box_cells Ra.out
    clear lRac lRad
    have hbx : Below ((w4).alloc (.cells #[.slice ac 2 pc, .slice bc 0 qc] 25)).heap.size ((w4).alloc (.cells #[.slice ac 2 pc, .slice bc 0 qc] 25)) (((w4).alloc (.cells #[.slice ac 2 pc, .slice bc 0 qc] 25)).alloc (.cells #[.bool true] 4)) := (Below.refl _ _).alloc (Nat.le_refl _) _
    replace BW := Lib.hid (BW.out.trans (hbx.mono BW.out.size))
    replace Dd := Lib.hid (Dd.out.below hbx)
    replace Rd := Lib.hid (row_keep Rd.out hbx)
    replace Ra := Lib.hid (row_keep Ra.out hbx)
    replace Da := Lib.hid (Da.out.below hbx)
    replace Ab := Lib.hid (Ab.out.below hbx)
    replace Dc := Lib.hid (Dc.out.below hbx)
    replace Rc := Lib.hid (row_keep Rc.out hbx)
    have hfl := flags_one ((w4).alloc (.cells #[.slice ac 2 pc, .slice bc 0 qc] 25)) 4
    have HFL := Lib.hid hfl
    clear hfl hbx
    go_wp2_with fail
    refine (crash_this _ _ [sZ, sZ] [(0, sV)] one_few _ [true] 0 [sV, sZ] [] 2 0 form_one crash_one cache_one rfl rfl _ Da.out (by simpa using HFL.out)).mono ?_
    rintro e w5 ⟨ak, pk, bk, qk, rfl, hd, hb⟩
    clear lRaa lRab
    replace BW := Lib.hid (BW.out.trans (hb.mono BW.out.size))
    replace Dd := Lib.hid (Dd.out.below hb)
    replace Rd := Lib.hid (row_keep Rd.out hb)
    replace Ra := Lib.hid (row_keep Ra.out hb)
    replace Da := Lib.hid (Da.out.below hb)
    replace Ab := Lib.hid (Ab.out.below hb)
    replace Dc := Lib.hid (Dc.out.below hb)
    replace Rc := Lib.hid (row_keep Rc.out hb)
    have Dk := Lib.hid hd
    clear hd hb
    have hbx : Below (w5).heap.size (w5) ((w5).alloc (.cells #[.slice ak 2 pk, .slice bk 0 qk] 25)) := (Below.refl _ _).alloc (Nat.le_refl _) _
    replace BW := Lib.hid (BW.out.trans (hbx.mono BW.out.size))
    replace Dd := Lib.hid (Dd.out.below hbx)
    replace Rd := Lib.hid (row_keep Rd.out hbx)
    replace Ra := Lib.hid (row_keep Ra.out hbx)
    replace Da := Lib.hid (Da.out.below hbx)
    replace Ab := Lib.hid (Ab.out.below hbx)
    replace Dc := Lib.hid (Dc.out.below hbx)
    replace Rc := Lib.hid (row_keep Rc.out hbx)
    replace Dk := Lib.hid (Dk.out.below hbx)
    have Rk := Lib.hid (heap_alloc_new (w5) (.cells #[.slice ak 2 pk, .slice bk 0 qk] 25))
    clear hbx
    obtain ⟨⟨lRca, lRcb⟩, lRcc, lRcd⟩ := box_cells Rc.out
    clear lRcc lRcd
    go_wp2_with fail
    refine (read_this _ _ [sZ, sZ] [] 0 0 sZ 256 (fault_two sZ_len sZ_len) (read_two sZ_len sZ_len) sZ_len _ Dc.out).mono ?_
    rintro e w6 ⟨ax, px, rfl, hd, hb⟩
    clear lRca lRcb
    replace BW := Lib.hid (BW.out.trans (hb.mono BW.out.size))
    replace Dd := Lib.hid (Dd.out.below hb)
    replace Rd := Lib.hid (row_keep Rd.out hb)
    replace Ra := Lib.hid (row_keep Ra.out hb)
    replace Da := Lib.hid (Da.out.below hb)
    replace Ab := Lib.hid (Ab.out.below hb)
    replace Dc := Lib.hid (Dc.out.below hb)
    replace Rc := Lib.hid (row_keep Rc.out hb)
    replace Dk := Lib.hid (Dk.out.below hb)
    replace Rk := Lib.hid (row_keep Rk.out hb)
    have Ax := Lib.hid hd
    clear hd hb
    obtain ⟨⟨lRka, lRkb⟩, lRkc, lRkd⟩ := box_cells Rk.out
    clear lRkc lRkd
    go_wp2_with fail
    refine (read_this _ _ [sV, sZ] [] 0 0 sV 256 (fault_two sV_len sZ_len) (read_two sV_len sZ_len) sV_len _ Dk.out).mono ?_
    rintro e w7 ⟨ay, py, rfl, hd, hb⟩
    clear lRka lRkb
    replace BW := Lib.hid (BW.out.trans (hb.mono BW.out.size))
    replace Dd := Lib.hid (Dd.out.below hb)
    replace Rd := Lib.hid (row_keep Rd.out hb)
    replace Ra := Lib.hid (row_keep Ra.out hb)
    replace Da := Lib.hid (Da.out.below hb)
    replace Ab := Lib.hid (Ab.out.below hb)
    replace Dc := Lib.hid (Dc.out.below hb)
    replace Rc := Lib.hid (row_keep Rc.out hb)
    replace Dk := Lib.hid (Dk.out.below hb)
    replace Rk := Lib.hid (row_keep Rk.out hb)
    replace Ax := Lib.hid (Ax.out.below hb)
    have Ay := Lib.hid hd
    clear hd hb
    obtain ⟨⟨lRda, lRdb⟩, lRdc, lRdd⟩ := box_cells Rd.out
    clear lRdc lRdd
    clear lRda lRdb
    have HLD := Lib.hid (show ∀ W, Below (w7).heap.size (w7) W → W.cell? ⟨w1.heap.size, 0, none⟩ = some (.slice ad 2 pd) ∧ W.cell? ⟨w1.heap.size, 1, none⟩ = some (.slice bd 0 qd) from fun W h => kept2 (box_cells Rd.out).1 h)
    go_wp2_with fail
    refine wp_region_rec (X := Headsm) (by kernel_rfl) (by kernel_rfl) (fun x => #[x.b0, x.b1, x.b2, x.b3, x.b4, x.b5, x.b6, x.b7, x.b8]) (fun x => { tmps := List.toArray ((Value.bool false) :: (Value.pointer (some ⟨w1.heap.size, 0, none⟩)) :: (Value.int IntKind.i64 0) :: (Value.pointer (some ⟨ga, 0, none⟩)) :: (Value.int IntKind.i64 0) :: (Value.slice ab 256 pb) :: (Value.int IntKind.i64 0) :: (Value.pointer (some ⟨w4.heap.size, 0, none⟩)) :: (Value.int IntKind.i64 0) :: (Value.pointer (some ⟨w5.heap.size, 0, none⟩)) :: (Value.int IntKind.i64 0) :: (Value.slice ax 256 px) :: (Value.int IntKind.i64 0) :: (Value.slice ay 256 py) :: (Value.int IntKind.i64 0) :: x.s15 :: x.s16 :: undef :: undef :: undef :: undef :: undef :: undef :: (Value.tuple #[Value.agg #[Value.slice ad 2 pd, Value.slice bd 0 qd], Value.int IntKind.i64 0]) :: (Value.tuple #[Value.agg #[Value.slice ad 2 pd, Value.slice bd 0 qd], Value.int IntKind.i64 0]) :: (Value.agg #[Value.slice ad 2 pd, Value.slice bd 0 qd]) :: (Value.int IntKind.i64 0) :: s27 :: (Value.agg #[Value.slice ad 2 pd, Value.slice bd 0 qd]) :: s29 :: s27 :: s31 :: (Value.int IntKind.i64 0) :: (Value.tuple #[Value.slice ab 256 pb, Value.int IntKind.i64 0]) :: (Value.agg #[Value.slice aa 2 pa, Value.slice ba 1 qa]) :: (Value.tuple #[Value.slice ab 256 pb, Value.int IntKind.i64 0]) :: (Value.slice ab 256 pb) :: (Value.int IntKind.i64 0) :: (Value.tuple #[Value.agg #[Value.slice ac 2 pc, Value.slice bc 0 qc], Value.int IntKind.i64 0]) :: (Value.agg #[Value.slice aa 2 pa, Value.slice ba 1 qa]) :: (Value.tuple #[Value.agg #[Value.slice ac 2 pc, Value.slice bc 0 qc], Value.int IntKind.i64 0]) :: (Value.agg #[Value.slice ac 2 pc, Value.slice bc 0 qc]) :: (Value.int IntKind.i64 0) :: (Value.tuple #[Value.agg #[Value.slice ak 2 pk, Value.slice bk 0 qk], Value.int IntKind.i64 0]) :: (Value.agg #[Value.slice aa 2 pa, Value.slice ba 1 qa]) :: (Value.slice (some ⟨w4.heap.size + 1, 0, none⟩) 1 1) :: (Value.tuple #[Value.agg #[Value.slice ak 2 pk, Value.slice bk 0 qk], Value.int IntKind.i64 0]) :: (Value.agg #[Value.slice ak 2 pk, Value.slice bk 0 qk]) :: (Value.int IntKind.i64 0) :: (Value.tuple #[Value.slice ax 256 px, Value.int IntKind.i64 0]) :: (Value.agg #[Value.slice ac 2 pc, Value.slice bc 0 qc]) :: (Value.tuple #[Value.slice ax 256 px, Value.int IntKind.i64 0]) :: (Value.slice ax 256 px) :: (Value.int IntKind.i64 0) :: (Value.tuple #[Value.slice ay 256 py, Value.int IntKind.i64 0]) :: (Value.agg #[Value.slice ak 2 pk, Value.slice bk 0 qk]) :: (Value.tuple #[Value.slice ay 256 py, Value.int IntKind.i64 0]) :: (Value.slice ay 256 py) :: (Value.int IntKind.i64 0) :: x.s59 :: x.s60 :: x.s61 :: x.s62 :: x.s63 :: x.s64 :: undef :: undef :: undef :: undef :: undef :: undef :: undef :: undef :: undef :: undef :: undef :: undef :: undef :: undef :: undef :: undef :: undef :: undef :: undef :: undef :: undef :: undef :: undef :: undef :: undef :: undef :: undef :: undef :: undef :: undef :: undef :: undef :: undef :: undef :: undef :: undef :: undef :: undef :: undef :: undef :: undef :: undef :: undef :: undef :: undef :: undef :: undef :: undef :: undef :: undef :: undef :: undef :: undef :: undef :: undef :: undef :: undef :: undef :: undef :: undef :: undef :: undef :: undef :: undef :: undef :: undef :: undef :: undef :: undef :: undef :: undef :: undef :: undef :: undef :: undef :: undef :: undef :: undef :: undef :: undef :: undef :: undef :: undef :: undef :: undef :: undef :: undef :: undef :: undef :: undef :: undef :: undef :: undef :: []), defers := [] }) (fun x W => (x.b0 = true → x.s60 = .agg #[.slice ad 2 pd, .slice bd 0 qd]) ∧ (x.b3 = true → x.s59 = x.s62) ∧ (x.b5 = true → x.s64 = .int .i64 50) ∧ (x.b8 = true → x.s16 = .int .i64 50) ∧ (DSt (w7) 50 [sZ, sZ] [] 2 0 sV x.b1 x.b2 x.b3 x.b4 x.b6 x.b7 x.s61 x.s62 x.s63 x.s15 W)) ⟨false, false, false, false, false, false, false, false, false, undef, undef, undef, undef, undef, undef, undef, undef⟩ rfl rfl ⟨(fun h => by cases h), (fun h => by cases h), (fun h => by cases h), (fun h => by cases h), (DSt.start (Below.refl _ _).drew)⟩ (fun _ => rfl) ?hstep ?hdone
    case hstep =>
      rintro ⟨b0, b1, b2, b3, b4, b5, b6, b7, b8, s60, s61, s62, s59, s63, s64, s15, s16⟩ W hI i hi
      dsimp only at hI hi ⊢
      have HI := Lib.hid hI
      clear hI
      rw [Region.ready, List.mem_filter, List.mem_range] at hi
      obtain ⟨hlt, hp⟩ := hi
      have hi7 : i = 0 ∨ i = 1 ∨ i = 2 ∨ i = 3 ∨ i = 4 ∨ i = 5 ∨ i = 6 ∨ i = 7 ∨ i = 8 := by simp at hlt; omega
      clear hlt
      rcases hi7 with rfl | rfl | rfl | rfl | rfl | rfl | rfl | rfl | rfl
      all_goals simp [Region.binds] at hp
      · have hn0 : b0 = false := by revert hp; cases b0 <;> simp
        clear hp
        subst hn0
        refine inv_op (o := ⟨some 60, _, _, _, _, _⟩) rfl (fun K' hK' => ?_)
        have gI := HI.out.2.2.2.2
        obtain ⟨hc1, hc2⟩ := HLD.out W gI.out
        go_simp
        obtain ⟨h0, h3, h5, h8, gI⟩ := HI.out
        exact hK'.out _ _ ⟨⟨true, b1, b2, b3, b4, b5, b6, b7, b8, _, s61, s62, s59, s63, s64, s15, s16⟩, rfl, rfl, (fun _ => rfl), h3, h5, h8, gI⟩
      · have hn1 : b1 = false := by revert hp; cases b1 <;> simp
        clear hp
        subst hn1
        refine inv_op (o := ⟨some 61, _, _, _, _, _⟩) rfl (fun K' hK' => ?_)
        go_simp
        refine (sector5 _).mono ?_
        rintro e w1 ⟨g, rfl, hr, bn⟩
        obtain ⟨h0, h3, h5, h8, gI⟩ := HI.out
        exact hK'.out _ _ ⟨⟨b0, true, b2, b3, b4, b5, b6, b7, b8, s60, _, s62, s59, s63, s64, s15, s16⟩, rfl, rfl, h0, h3, h5, h8, (gI.one bn hr)⟩
      · have hn2 : b2 = false := by revert hp; cases b2 <;> simp
        have e0 : b0 = true := by revert hp; cases b0 <;> simp
        have e1 : b1 = true := by revert hp; cases b1 <;> simp
        clear hp
        obtain rfl := (HI.out.1) e0
        subst hn2
        refine inv_op (o := ⟨some 62, _, _, _, _, _⟩) rfl (fun K' hK' => ?_)
        have gI := HI.out.2.2.2.2
        have hb7 : b7 = false := by cases b7 with | false => rfl | true => exact absurd (gI.o3 (gI.o4 (gI.o8 rfl))) (by decide)
        subst hb7
        obtain ⟨gs, rfl, hs⟩ := gI.g1 e1 rfl
        go_simp
        refine (write_put _ _ [sZ, sZ] [] (two_few sZ_len sZ_len) 2 _ sV (by rw [sV_len]; decide) 50 [sZ, sZ] [] 2 0 w2_fault rfl w2_of rfl rfl _ (Dd.out.below gI.out) hs).mono ?_
        rintro e w1 ⟨a, p, b, q, B, rfl, hr, bn⟩
        obtain ⟨h0, h3, h5, h8, gI⟩ := HI.out
        exact hK'.out _ _ ⟨⟨b0, b1, true, b3, b4, b5, b6, false, b8, _, _, _, s59, s63, s64, s15, s16⟩, rfl, rfl, h0, (fun e3 => absurd (gI.o3 e3) (by decide)), h5, h8, (gI.two bn hr)⟩
      · have hn3 : b3 = false := by revert hp; cases b3 <;> simp
        have e2 : b2 = true := by revert hp; cases b2 <;> simp
        clear hp
        subst hn3
        refine inv_op (o := ⟨some 59, _, _, _, _, _⟩) rfl (fun K' hK' => ?_)
        subst e2
        go_simp
        obtain ⟨h0, h3, h5, h8, gI⟩ := HI.out
        exact hK'.out _ _ ⟨⟨b0, b1, true, true, b4, b5, b6, b7, b8, s60, s61, _, _, s63, s64, s15, s16⟩, rfl, rfl, h0, (fun _ => rfl), h5, h8, gI.three⟩
      · have hn4 : b4 = false := by revert hp; cases b4 <;> simp
        have e3 : b3 = true := by revert hp; cases b3 <;> simp
        clear hp
        obtain rfl := (HI.out.2.1) e3
        subst hn4
        refine inv_op (o := ⟨some 63, _, _, _, _, _⟩) rfl (fun K' hK' => ?_)
        have gI := HI.out.2.2.2.2
        obtain ⟨a, p, b, q, B, rfl, _⟩ := gI.g2 (gI.o3 e3)
        subst e3
        go_simp
        obtain ⟨h0, h3, h5, h8, gI⟩ := HI.out
        exact hK'.out _ _ ⟨⟨b0, b1, b2, true, true, b5, b6, b7, b8, s60, s61, _, _, _, s64, s15, s16⟩, rfl, rfl, h0, h3, h5, h8, gI.four⟩
      · have hn5 : b5 = false := by revert hp; cases b5 <;> simp
        have e3 : b3 = true := by revert hp; cases b3 <;> simp
        clear hp
        obtain rfl := (HI.out.2.1) e3
        subst hn5
        refine inv_op (o := ⟨some 64, _, _, _, _, _⟩) rfl (fun K' hK' => ?_)
        have gI := HI.out.2.2.2.2
        obtain ⟨a, p, b, q, B, rfl, _⟩ := gI.g2 (gI.o3 e3)
        go_simp
        obtain ⟨h0, h3, h5, h8, gI⟩ := HI.out
        exact hK'.out _ _ ⟨⟨b0, b1, b2, b3, b4, true, b6, b7, b8, s60, s61, _, _, s63, _, s15, s16⟩, rfl, rfl, h0, h3, (fun _ => rfl), h8, gI⟩
      · have hn6 : b6 = false := by revert hp; cases b6 <;> simp
        clear hp
        subst hn6
        refine inv_op (o := ⟨some 15, _, _, _, _, _⟩) rfl (fun K' hK' => ?_)
        go_simp
        obtain ⟨h0, h3, h5, h8, gI⟩ := HI.out
        exact hK'.out _ _ ⟨⟨b0, b1, b2, b3, b4, b5, true, b7, b8, s60, s61, s62, s59, s63, s64, _, s16⟩, rfl, rfl, h0, h3, h5, h8, gI.six⟩
      · have hn7 : b7 = false := by revert hp; cases b7 <;> simp
        have e6 : b6 = true := by revert hp; cases b6 <;> simp
        have e4 : b4 = true := by revert hp; cases b4 <;> simp
        clear hp
        subst hn7
        refine inv_op (o := ⟨none, _, _, _, _, _⟩) rfl (fun K' hK' => ?_)
        have gI := HI.out.2.2.2.2
        obtain ⟨gx, rfl, hgx, hrow⟩ := gI.g6 e6 rfl
        obtain ⟨a, p, b, q, B, hw, hown⟩ := gI.g2 (gI.o3 (gI.o4 e4))
        obtain ⟨v, hv⟩ := gI.p4 e4
        obtain ⟨rfl, hvv⟩ := tuple_two (hv.symm.trans hw)
        clear hv hw hvv
        subst e6
        obtain ⟨⟨hc1, hc2⟩, hz1, hz2⟩ := box_cells hrow
        have hlx := (Array.getElem?_eq_some_iff.1 hrow).1
        go_simp
        obtain ⟨h0, h3, h5, h8, gI⟩ := HI.out
        exact hK'.out _ _ ⟨⟨b0, b1, b2, b3, b4, b5, true, true, b8, s60, s61, s62, s59, _, s64, _, s16⟩, rfl, rfl, h0, h3, h5, h8, (gI.seven e4 hown hgx hrow)⟩
      · have hn8 : b8 = false := by revert hp; cases b8 <;> simp
        have e5 : b5 = true := by revert hp; cases b5 <;> simp
        clear hp
        obtain rfl := (HI.out.2.2.1) e5
        subst hn8
        refine inv_op (o := ⟨some 16, _, _, _, _, _⟩) rfl (fun K' hK' => ?_)
        go_simp
        obtain ⟨h0, h3, h5, h8, gI⟩ := HI.out
        exact hK'.out _ _ ⟨⟨b0, b1, b2, b3, b4, b5, b6, b7, true, s60, s61, s62, s59, s63, _, s15, _⟩, rfl, rfl, h0, h3, h5, (fun _ => rfl), gI⟩
    case hdone =>
      rintro ⟨b0, b1, b2, b3, b4, b5, b6, b7, b8, s60, s61, s62, s59, s63, s64, s15, s16⟩ W hI hall
      dsimp only at hI hall ⊢
      have HI := Lib.hid hI
      clear hI
      obtain rfl : b0 = true := hall 0 (by decide)
      obtain rfl : b1 = true := hall 1 (by decide)
      obtain rfl : b2 = true := hall 2 (by decide)
      obtain rfl : b3 = true := hall 3 (by decide)
      obtain rfl : b4 = true := hall 4 (by decide)
      obtain rfl : b5 = true := hall 5 (by decide)
      obtain rfl : b6 = true := hall 6 (by decide)
      obtain rfl : b7 = true := hall 7 (by decide)
      obtain rfl : b8 = true := hall 8 (by decide)
      obtain rfl := (HI.out.1) rfl
      obtain rfl := (HI.out.2.1) rfl
      obtain rfl := (HI.out.2.2.1) rfl
      obtain rfl := (HI.out.2.2.2.1) rfl
      have gI := HI.out.2.2.2.2
      clear HI hall
      obtain ⟨w8, hwN⟩ : ∃ x, x = W := ⟨_, rfl⟩
      subst hwN
      obtain ⟨gm, am, pm, bm, qm, Bm, rfl, hrw, hdw⟩ := gI.g7 rfl
      have hbW := gI.out
      replace BW := Lib.hid (BW.out.trans (hbW.mono BW.out.size))
      replace Dd := Lib.hid (Dd.out.below hbW)
      replace Rd := Lib.hid (row_keep Rd.out hbW)
      replace Ra := Lib.hid (row_keep Ra.out hbW)
      replace Da := Lib.hid (Da.out.below hbW)
      replace Ab := Lib.hid (Ab.out.below hbW)
      replace Dc := Lib.hid (Dc.out.below hbW)
      replace Rc := Lib.hid (row_keep Rc.out hbW)
      replace Dk := Lib.hid (Dk.out.below hbW)
      replace Rk := Lib.hid (row_keep Rk.out hbW)
      replace Ax := Lib.hid (Ax.out.below hbW)
      replace Ay := Lib.hid (Ay.out.below hbW)
      have Rm := Lib.hid hrw
      have Dm := Lib.hid hdw.disk
      clear gI hrw hdw hbW
      clear HLD
      obtain ⟨⟨lRka, lRkb⟩, lRkc, lRkd⟩ := box_cells Rk.out
      clear lRkc lRkd
      go_wp2_with fail
      refine (tamper3 _ _ _ Dk.out).mono ?_
      rintro e w9 ⟨a_t, pt, bt, qt, rfl, hd, hb⟩
      clear lRka lRkb
      replace BW := Lib.hid (BW.out.trans (hb.mono BW.out.size))
      replace Dd := Lib.hid (Dd.out.below hb)
      replace Rd := Lib.hid (row_keep Rd.out hb)
      replace Ra := Lib.hid (row_keep Ra.out hb)
      replace Da := Lib.hid (Da.out.below hb)
      replace Ab := Lib.hid (Ab.out.below hb)
      replace Dc := Lib.hid (Dc.out.below hb)
      replace Rc := Lib.hid (row_keep Rc.out hb)
      replace Dk := Lib.hid (Dk.out.below hb)
      replace Rk := Lib.hid (row_keep Rk.out hb)
      replace Ax := Lib.hid (Ax.out.below hb)
      replace Ay := Lib.hid (Ay.out.below hb)
      replace Rm := Lib.hid (row_keep Rm.out hb)
      replace Dm := Lib.hid (Dm.out.below hb)
      have Dt := Lib.hid hd
      clear hd hb
      have hbx : Below (w9).heap.size (w9) ((w9).alloc (.cells #[.slice a_t 2 pt, .slice bt 0 qt] 25)) := (Below.refl _ _).alloc (Nat.le_refl _) _
      replace BW := Lib.hid (BW.out.trans (hbx.mono BW.out.size))
      replace Dd := Lib.hid (Dd.out.below hbx)
      replace Rd := Lib.hid (row_keep Rd.out hbx)
      replace Ra := Lib.hid (row_keep Ra.out hbx)
      replace Da := Lib.hid (Da.out.below hbx)
      replace Ab := Lib.hid (Ab.out.below hbx)
      replace Dc := Lib.hid (Dc.out.below hbx)
      replace Rc := Lib.hid (row_keep Rc.out hbx)
      replace Dk := Lib.hid (Dk.out.below hbx)
      replace Rk := Lib.hid (row_keep Rk.out hbx)
      replace Ax := Lib.hid (Ax.out.below hbx)
      replace Ay := Lib.hid (Ay.out.below hbx)
      replace Rm := Lib.hid (row_keep Rm.out hbx)
      replace Dm := Lib.hid (Dm.out.below hbx)
      replace Dt := Lib.hid (Dt.out.below hbx)
      have Rt := Lib.hid (heap_alloc_new (w9) (.cells #[.slice a_t 2 pt, .slice bt 0 qt] 25))
      clear hbx
      obtain ⟨⟨lRta, lRtb⟩, lRtc, lRtd⟩ := box_cells Rt.out
      clear lRtc lRtd
      go_wp2_with fail
      refine (read_this _ _ [sX, sZ] [] 0 0 sX 256 (fault_two sX_len sZ_len) (read_two sX_len sZ_len) sX_len _ Dt.out).mono ?_
      rintro e w10 ⟨az, pz, rfl, hd, hb⟩
      clear lRta lRtb
      replace BW := Lib.hid (BW.out.trans (hb.mono BW.out.size))
      replace Dd := Lib.hid (Dd.out.below hb)
      replace Rd := Lib.hid (row_keep Rd.out hb)
      replace Ra := Lib.hid (row_keep Ra.out hb)
      replace Da := Lib.hid (Da.out.below hb)
      replace Ab := Lib.hid (Ab.out.below hb)
      replace Dc := Lib.hid (Dc.out.below hb)
      replace Rc := Lib.hid (row_keep Rc.out hb)
      replace Dk := Lib.hid (Dk.out.below hb)
      replace Rk := Lib.hid (row_keep Rk.out hb)
      replace Ax := Lib.hid (Ax.out.below hb)
      replace Ay := Lib.hid (Ay.out.below hb)
      replace Rm := Lib.hid (row_keep Rm.out hb)
      replace Dm := Lib.hid (Dm.out.below hb)
      replace Dt := Lib.hid (Dt.out.below hb)
      replace Rt := Lib.hid (row_keep Rt.out hb)
      have Az := Lib.hid hd
      clear hd hb
      obtain ⟨⟨lRaa, lRab⟩, lRac, lRad⟩ := box_cells Ra.out
      clear lRac lRad
      go_wp2_with fail
      refine (flush_this _ _ [sZ, sZ] [(0, sV)] one_few 0 [sV, sZ] [] 2 0 form_one flush_one cache_one rfl rfl _ Da.out).mono ?_
      rintro e w11 ⟨ap, pp, bp, qp, rfl, hd, hb⟩
      clear lRaa lRab
      replace BW := Lib.hid (BW.out.trans (hb.mono BW.out.size))
      replace Dd := Lib.hid (Dd.out.below hb)
      replace Rd := Lib.hid (row_keep Rd.out hb)
      replace Ra := Lib.hid (row_keep Ra.out hb)
      replace Da := Lib.hid (Da.out.below hb)
      replace Ab := Lib.hid (Ab.out.below hb)
      replace Dc := Lib.hid (Dc.out.below hb)
      replace Rc := Lib.hid (row_keep Rc.out hb)
      replace Dk := Lib.hid (Dk.out.below hb)
      replace Rk := Lib.hid (row_keep Rk.out hb)
      replace Ax := Lib.hid (Ax.out.below hb)
      replace Ay := Lib.hid (Ay.out.below hb)
      replace Rm := Lib.hid (row_keep Rm.out hb)
      replace Dm := Lib.hid (Dm.out.below hb)
      replace Dt := Lib.hid (Dt.out.below hb)
      replace Rt := Lib.hid (row_keep Rt.out hb)
      replace Az := Lib.hid (Az.out.below hb)
      have Dp := Lib.hid hd
      clear hd hb
      have hbx : Below (w11).heap.size (w11) ((w11).alloc (.cells #[.slice ap 2 pp, .slice bp 0 qp] 25)) := (Below.refl _ _).alloc (Nat.le_refl _) _
      replace BW := Lib.hid (BW.out.trans (hbx.mono BW.out.size))
      replace Dd := Lib.hid (Dd.out.below hbx)
      replace Rd := Lib.hid (row_keep Rd.out hbx)
      replace Ra := Lib.hid (row_keep Ra.out hbx)
      replace Da := Lib.hid (Da.out.below hbx)
      replace Ab := Lib.hid (Ab.out.below hbx)
      replace Dc := Lib.hid (Dc.out.below hbx)
      replace Rc := Lib.hid (row_keep Rc.out hbx)
      replace Dk := Lib.hid (Dk.out.below hbx)
      replace Rk := Lib.hid (row_keep Rk.out hbx)
      replace Ax := Lib.hid (Ax.out.below hbx)
      replace Ay := Lib.hid (Ay.out.below hbx)
      replace Rm := Lib.hid (row_keep Rm.out hbx)
      replace Dm := Lib.hid (Dm.out.below hbx)
      replace Dt := Lib.hid (Dt.out.below hbx)
      replace Rt := Lib.hid (row_keep Rt.out hbx)
      replace Az := Lib.hid (Az.out.below hbx)
      replace Dp := Lib.hid (Dp.out.below hbx)
      have Rp := Lib.hid (heap_alloc_new (w11) (.cells #[.slice ap 2 pp, .slice bp 0 qp] 25))
      clear hbx
      go_wp2_with fail
      refine (sector5 _).mono ?_
      rintro e w12 ⟨gu, rfl, hd, hb⟩
      replace BW := Lib.hid (BW.out.trans (hb.mono BW.out.size))
      replace Dd := Lib.hid (Dd.out.below hb)
      replace Rd := Lib.hid (row_keep Rd.out hb)
      replace Ra := Lib.hid (row_keep Ra.out hb)
      replace Da := Lib.hid (Da.out.below hb)
      replace Ab := Lib.hid (Ab.out.below hb)
      replace Dc := Lib.hid (Dc.out.below hb)
      replace Rc := Lib.hid (row_keep Rc.out hb)
      replace Dk := Lib.hid (Dk.out.below hb)
      replace Rk := Lib.hid (row_keep Rk.out hb)
      replace Ax := Lib.hid (Ax.out.below hb)
      replace Ay := Lib.hid (Ay.out.below hb)
      replace Rm := Lib.hid (row_keep Rm.out hb)
      replace Dm := Lib.hid (Dm.out.below hb)
      replace Dt := Lib.hid (Dt.out.below hb)
      replace Rt := Lib.hid (row_keep Rt.out hb)
      replace Az := Lib.hid (Az.out.below hb)
      replace Dp := Lib.hid (Dp.out.below hb)
      replace Rp := Lib.hid (row_keep Rp.out hb)
      have Au := Lib.hid hd
      clear hd hb
      go_wp2_with fail
      refine (bytes_same _ _ sV _ Ab.out.1 Au.out.1).mono ?_
      rintro e w0 ⟨rfl, rfl⟩
      go_wp2_with fail
      refine (sector0 _).mono ?_
      rintro e w13 ⟨gv, rfl, hd, hb⟩
      replace BW := Lib.hid (BW.out.trans (hb.mono BW.out.size))
      replace Dd := Lib.hid (Dd.out.below hb)
      replace Rd := Lib.hid (row_keep Rd.out hb)
      replace Ra := Lib.hid (row_keep Ra.out hb)
      replace Da := Lib.hid (Da.out.below hb)
      replace Ab := Lib.hid (Ab.out.below hb)
      replace Dc := Lib.hid (Dc.out.below hb)
      replace Rc := Lib.hid (row_keep Rc.out hb)
      replace Dk := Lib.hid (Dk.out.below hb)
      replace Rk := Lib.hid (row_keep Rk.out hb)
      replace Ax := Lib.hid (Ax.out.below hb)
      replace Ay := Lib.hid (Ay.out.below hb)
      replace Rm := Lib.hid (row_keep Rm.out hb)
      replace Dm := Lib.hid (Dm.out.below hb)
      replace Dt := Lib.hid (Dt.out.below hb)
      replace Rt := Lib.hid (row_keep Rt.out hb)
      replace Az := Lib.hid (Az.out.below hb)
      replace Dp := Lib.hid (Dp.out.below hb)
      replace Rp := Lib.hid (row_keep Rp.out hb)
      replace Au := Lib.hid (Au.out.below hb)
      have Av := Lib.hid hd
      clear hd hb
      go_wp2_with fail
      refine (bytes_same _ _ sZ _ Ax.out.1 Av.out.1).mono ?_
      rintro e w0 ⟨rfl, rfl⟩
      go_wp2_with fail
      refine (sector5 _).mono ?_
      rintro e w14 ⟨go, rfl, hd, hb⟩
      replace BW := Lib.hid (BW.out.trans (hb.mono BW.out.size))
      replace Dd := Lib.hid (Dd.out.below hb)
      replace Rd := Lib.hid (row_keep Rd.out hb)
      replace Ra := Lib.hid (row_keep Ra.out hb)
      replace Da := Lib.hid (Da.out.below hb)
      replace Ab := Lib.hid (Ab.out.below hb)
      replace Dc := Lib.hid (Dc.out.below hb)
      replace Rc := Lib.hid (row_keep Rc.out hb)
      replace Dk := Lib.hid (Dk.out.below hb)
      replace Rk := Lib.hid (row_keep Rk.out hb)
      replace Ax := Lib.hid (Ax.out.below hb)
      replace Ay := Lib.hid (Ay.out.below hb)
      replace Rm := Lib.hid (row_keep Rm.out hb)
      replace Dm := Lib.hid (Dm.out.below hb)
      replace Dt := Lib.hid (Dt.out.below hb)
      replace Rt := Lib.hid (row_keep Rt.out hb)
      replace Az := Lib.hid (Az.out.below hb)
      replace Dp := Lib.hid (Dp.out.below hb)
      replace Rp := Lib.hid (row_keep Rp.out hb)
      replace Au := Lib.hid (Au.out.below hb)
      replace Av := Lib.hid (Av.out.below hb)
      have Ao := Lib.hid hd
      clear hd hb
      go_wp2_with fail
      refine (bytes_same _ _ sV _ Ay.out.1 Ao.out.1).mono ?_
      rintro e w0 ⟨rfl, rfl⟩
      obtain ⟨⟨lRpa, lRpb⟩, lRpc, lRpd⟩ := box_cells Rp.out
      clear lRpc lRpd
      obtain ⟨zb, zo, hzz, hz3⟩ := arg_at Az.out 3 (by rw [sX_len]; decide)
      subst hzz
      have hz4 : sX.getD 3 0 = 4 := by decide
      rw [hz4] at hz3
      clear hz4
      go_wp2_with fail
      refine (check_any _ _ [sV, sZ] [] _ Dp.out true (two_chk sV_len sZ_len)).mono ?_
      rintro e w15 ⟨rfl, hb⟩
      clear lRpa lRpb
      replace BW := Lib.hid (BW.out.trans (hb.mono BW.out.size))
      replace Dd := Lib.hid (Dd.out.below hb)
      replace Rd := Lib.hid (row_keep Rd.out hb)
      replace Ra := Lib.hid (row_keep Ra.out hb)
      replace Da := Lib.hid (Da.out.below hb)
      replace Ab := Lib.hid (Ab.out.below hb)
      replace Dc := Lib.hid (Dc.out.below hb)
      replace Rc := Lib.hid (row_keep Rc.out hb)
      replace Dk := Lib.hid (Dk.out.below hb)
      replace Rk := Lib.hid (row_keep Rk.out hb)
      replace Ax := Lib.hid (Ax.out.below hb)
      replace Ay := Lib.hid (Ay.out.below hb)
      replace Rm := Lib.hid (row_keep Rm.out hb)
      replace Dm := Lib.hid (Dm.out.below hb)
      replace Dt := Lib.hid (Dt.out.below hb)
      replace Rt := Lib.hid (row_keep Rt.out hb)
      replace Az := Lib.hid (Az.out.below hb)
      replace Dp := Lib.hid (Dp.out.below hb)
      replace Rp := Lib.hid (row_keep Rp.out hb)
      replace Au := Lib.hid (Au.out.below hb)
      replace Av := Lib.hid (Av.out.below hb)
      replace Ao := Lib.hid (Ao.out.below hb)
      clear hb
      go_wp2
      go_ret
      exact ⟨rfl, BW.out⟩
end Go.Proofs.Ytaamjpcpdlanhaa
