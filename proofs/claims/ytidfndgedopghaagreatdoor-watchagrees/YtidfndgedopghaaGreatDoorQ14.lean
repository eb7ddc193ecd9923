/-
  Pse.
-/
import Derived.Test.YtidfndgedopghaaGreatDoorQ13
namespace Go.Proofs.YtidfndgedopghaaGreatDoor
set_option linter.unusedVariables false
open Go.ChangeShapes Go.WideShapes Go.ChangeAt Go.RowKit Go.Deep
theorem four_mul (x : BitVec 64) : IntKind.u64.wrap (4 * n64 x) = n64 (x <<< 2) := by rw [Int.mul_comm]; exact n64_shl x 2
theorem spI_in (c : Nat → BitVec 8) (a : Nat → BitVec 64) (k : Nat) (hk : k < 16) : spI c a k = spn c a k := by unfold spI; rw [if_pos (by omega)]; rfl
set_option maxRecDepth 100000 in
set_option maxHeartbeats 2000000 in
theorem rSpan_out (c : Nat → BitVec 8) (a : Nat → BitVec 64) (i : Int) (h : ¬ (0 ≤ i ∧ i < 16)) (w : World) :
    Calls Tryz.prog 160 #[.agg (pc c a), .int .i64 i] w fun e w' => e = .returned (sp3 (spI (PC c) (PA a) i)) ∧ Below w.heap.size w w' := by
  obtain ⟨W0, hW0, r0, b0, s0⟩ := start1 w (pc c a) 28
  have HS : Hid (W0.heap.size = w.heap.size + 1) := s0
  clear s0
  have e9 : spI (PC c) (PA a) i = none := by unfold spI; rw [if_neg h]
  rw [e9]
  clear e9
  go_enter Tryz.func160, Tryz.ntmps160
  go_upto_region 1 with fail
  clear hW0
  go_upto_region 2 with (first | (refine wpList_load_rowG (by rfl) _ _ (by rfl) _ (by rfl) 28 _ (0, 0) _ r0.out Tryz.underlying28 (by rfl) (by rw [pc_size]; kernel_rfl) ?_) | (go_at_call 47; refine (rProper_c c a _).mono ?_; rintro e w1 ⟨rfl, hb1⟩; have HB1 : Hid (Below W0.heap.size W0 w1) := hb1; clear hb1) | (refine wpList_store_row (by rfl) _ _ _ (by rfl) (by rfl) _ _ _ (by rfl) (by rfl) (r0.out.later HB1.out (by rw [HS.out]; omega)) (by rw [pc_size]; kernel_rfl) (by rw [pc_size, pc_size]) (pc_ones _ _) ?_))
  obtain ⟨W2, hW2, r2, b2, s2⟩ := start_p (pc (PC c) (PA a)) r0.out b0.out (by rw [HS.out]; omega) HB1.out
  rw [hW2]
  clear hW2 HB1 r0 b0 HS
  by_cases h0 : i < 0
  · go_wp2
    go_ret3
    exact ⟨rfl, b2.out⟩
  · have h1 : (15 : Int) < i := by omega
    go_wp2
    go_ret3
    exact ⟨rfl, b2.out⟩
set_option maxRecDepth 100000 in
set_option maxHeartbeats 2000000 in
theorem rSpan_0 (c : Nat → BitVec 8) (a : Nat → BitVec 64) (k : Nat) (hk : k < 16) (hq : kd (PC c k) = 0#8) (w : World) :
    Calls Tryz.prog 160 #[.agg (pc c a), .int .i64 k] w fun e w' => e = .returned (sp3 (spI (PC c) (PA a) k)) ∧ Below w.heap.size w w' := by
  obtain ⟨W0, hW0, r0, b0, s0⟩ := start1 w (pc c a) 28
  have HS : Hid (W0.heap.size = w.heap.size + 1) := s0
  clear s0
  obtain ⟨X, hX⟩ : ∃ X, X = spI (PC c) (PA a) k := ⟨_, rfl⟩
  rw [← hX]
  rw [spI_in _ _ _ hk] at hX
  have hk2 : (k : Int) < 16 := by omega
  have hn0 : ¬ (k : Int) < 0 := by omega
  have hn1 : ¬ (15 : Int) < k := by omega
  have HK : Hid (∀ W, Calls Tryz.prog 168 #[.agg (pc (PC c) (PA a)), .int .i64 k] W fun e w' => e = .returned (.int .i64 0) ∧ Below W.heap.size W w') := fun W => by
    have := rkind_c (PC c) (PA a) k hk W
    rw [hq] at this
    exact this
  have e9 : X = none := by rw [hX, spn, if_neg (by rw [hq]; decide), if_neg (by rw [hq]; decide), if_neg (by rw [hq]; decide)]
  subst e9
  clear hX hq
  go_enter Tryz.func160, Tryz.ntmps160
  go_upto_region 1 with fail
  clear hW0
  go_upto_region 2 with (first | (refine wpList_load_rowG (by rfl) _ _ (by rfl) _ (by rfl) 28 _ (0, 0) _ r0.out Tryz.underlying28 (by rfl) (by rw [pc_size]; kernel_rfl) ?_) | (go_at_call 47; refine (rProper_c c a _).mono ?_; rintro e w1 ⟨rfl, hb1⟩; have HB1 : Hid (Below W0.heap.size W0 w1) := hb1; clear hb1) | (refine wpList_store_row (by rfl) _ _ _ (by rfl) (by rfl) _ _ _ (by rfl) (by rfl) (r0.out.later HB1.out (by rw [HS.out]; omega)) (by rw [pc_size]; kernel_rfl) (by rw [pc_size, pc_size]) (pc_ones _ _) ?_))
  obtain ⟨W2, hW2, r2, b2, s2⟩ := start_p (pc (PC c) (PA a)) r0.out b0.out (by rw [HS.out]; omega) HB1.out
  rw [hW2]
  clear hW2 HB1 r0 b0 HS
  have c1 := prow_addr r2.out k hk
  go_wp2_with (first | (refine wpList_load_rowG (by rfl) _ _ (by rfl) _ (by rfl) 28 _ (0, 0) _ r2.out Tryz.underlying28 (by rfl) (by rw [pc_size]; kernel_rfl) ?_) | (go_at_call 168; refine (HK.out _).mono ?_; rintro e w3 ⟨rfl, hb⟩; have HB3 : Hid (Below w.heap.size w w3) := b2.out.trans (hb.mono (Nat.le_of_lt s2.out)); have R3 := r2.out.later hb s2.out; have d1 := prow_addr R3 k hk; clear hb R3))
  go_ret3
  exact ⟨rfl, HB3.out⟩
set_option maxRecDepth 100000 in
set_option maxHeartbeats 2000000 in
theorem rSpan_2 (c : Nat → BitVec 8) (a : Nat → BitVec 64) (k : Nat) (hk : k < 16) (hq : kd (PC c k) = 2#8) (w : World) :
    Calls Tryz.prog 160 #[.agg (pc c a), .int .i64 k] w fun e w' => e = .returned (sp3 (spI (PC c) (PA a) k)) ∧ Below w.heap.size w w' := by
  obtain ⟨W0, hW0, r0, b0, s0⟩ := start1 w (pc c a) 28
  have HS : Hid (W0.heap.size = w.heap.size + 1) := s0
  clear s0
  obtain ⟨X, hX⟩ : ∃ X, X = spI (PC c) (PA a) k := ⟨_, rfl⟩
  rw [← hX]
  rw [spI_in _ _ _ hk] at hX
  have hk2 : (k : Int) < 16 := by omega
  have hn0 : ¬ (k : Int) < 0 := by omega
  have hn1 : ¬ (15 : Int) < k := by omega
  have HK : Hid (∀ W, Calls Tryz.prog 168 #[.agg (pc (PC c) (PA a)), .int .i64 k] W fun e w' => e = .returned (.int .i64 2) ∧ Below W.heap.size W w') := fun W => by
    have := rkind_c (PC c) (PA a) k hk W
    rw [hq] at this
    exact this
  have e9 : X = some (PA a k <<< 2, PA a k <<< 2 + 3#64) := by rw [hX, spn, if_neg (by rw [hq]; decide), if_pos hq]
  subst e9
  clear hX hq
  have m1 := four_mul (PA a k)
  have m2 : IntKind.u64.wrap (n64 (PA a k <<< 2) + 3) = n64 (PA a k <<< 2 + 3#64) := n64_add (PA a k <<< 2) 3#64
  go_enter Tryz.func160, Tryz.ntmps160
  go_upto_region 1 with fail
  clear hW0
  go_upto_region 2 with (first | (refine wpList_load_rowG (by rfl) _ _ (by rfl) _ (by rfl) 28 _ (0, 0) _ r0.out Tryz.underlying28 (by rfl) (by rw [pc_size]; kernel_rfl) ?_) | (go_at_call 47; refine (rProper_c c a _).mono ?_; rintro e w1 ⟨rfl, hb1⟩; have HB1 : Hid (Below W0.heap.size W0 w1) := hb1; clear hb1) | (refine wpList_store_row (by rfl) _ _ _ (by rfl) (by rfl) _ _ _ (by rfl) (by rfl) (r0.out.later HB1.out (by rw [HS.out]; omega)) (by rw [pc_size]; kernel_rfl) (by rw [pc_size, pc_size]) (pc_ones _ _) ?_))
  obtain ⟨W2, hW2, r2, b2, s2⟩ := start_p (pc (PC c) (PA a)) r0.out b0.out (by rw [HS.out]; omega) HB1.out
  rw [hW2]
  clear hW2 HB1 r0 b0 HS
  have c1 := prow_addr r2.out k hk
  go_wp2_with (first | (refine wpList_load_rowG (by rfl) _ _ (by rfl) _ (by rfl) 28 _ (0, 0) _ r2.out Tryz.underlying28 (by rfl) (by rw [pc_size]; kernel_rfl) ?_) | (go_at_call 168; refine (HK.out _).mono ?_; rintro e w3 ⟨rfl, hb⟩; have HB3 : Hid (Below w.heap.size w w3) := b2.out.trans (hb.mono (Nat.le_of_lt s2.out)); have R3 := r2.out.later hb s2.out; have d1 := prow_addr R3 k hk; clear hb R3))
  go_ret3
  exact ⟨by simp_all [sp3, sF, sL], HB3.out⟩
set_option maxRecDepth 100000 in
set_option maxHeartbeats 2000000 in
theorem rSpan_1 (c : Nat → BitVec 8) (a : Nat → BitVec 64) (k : Nat) (hk : k < 16) (hq : kd (PC c k) = 1#8) (w : World) :
    Calls Tryz.prog 160 #[.agg (pc c a), .int .i64 k] w fun e w' => e = .returned (sp3 (spI (PC c) (PA a) k)) ∧ Below w.heap.size w w' := by
  obtain ⟨W0, hW0, r0, b0, s0⟩ := start1 w (pc c a) 28
  have HS : Hid (W0.heap.size = w.heap.size + 1) := s0
  clear s0
  obtain ⟨X, hX⟩ : ∃ X, X = spI (PC c) (PA a) k := ⟨_, rfl⟩
  rw [← hX]
  rw [spI_in _ _ _ hk] at hX
  have hk2 : (k : Int) < 16 := by omega
  have hn0 : ¬ (k : Int) < 0 := by omega
  have hn1 : ¬ (15 : Int) < k := by omega
  have HK : Hid (∀ W, Calls Tryz.prog 168 #[.agg (pc (PC c) (PA a)), .int .i64 k] W fun e w' => e = .returned (.int .i64 1) ∧ Below W.heap.size W w') := fun W => by
    have := rkind_c (PC c) (PA a) k hk W
    rw [hq] at this
    exact this
  have e8 : X = (if n64 (PA a k) ≤ n64 (frm (PA a) k) then none else some (frm (PA a) k <<< 2, PA a k <<< 2 - 1#64)) := by rw [hX, spn, if_pos hq]
  have HE8 : Hid (X = (if n64 (PA a k) ≤ n64 (frm (PA a) k) then none else some (frm (PA a) k <<< 2, PA a k <<< 2 - 1#64))) := e8
  clear hX hq e8
  have m1 := four_mul (PA a k)
  have m2 : IntKind.u64.wrap (n64 (PA a k <<< 2) - 1) = n64 (PA a k <<< 2 - 1#64) := n64_sub (PA a k <<< 2) 1#64
  have m3 := four_mul (frm (PA a) k)
  cases k with
  | zero =>
    have hfr : frm (PA a) 0 = 0#64 := rfl
    have hz : ((0 : Nat) : Int) = 0 := rfl
    rw [hz] at HK ⊢
    by_cases hc : n64 (PA a 0) ≤ n64 (frm (PA a) 0)
    · have e9 : X = none := by rw [HE8.out, if_pos hc]
      subst e9
      have hc2 : n64 (PA a 0) ≤ 0 := hc
      clear hc hfr hz HE8 m3 hk2 hn0 hn1
      go_enter Tryz.func160, Tryz.ntmps160
      go_upto_region 1 with fail
      clear hW0
      go_upto_region 2 with (first | (refine wpList_load_rowG (by rfl) _ _ (by rfl) _ (by rfl) 28 _ (0, 0) _ r0.out Tryz.underlying28 (by rfl) (by rw [pc_size]; kernel_rfl) ?_) | (go_at_call 47; refine (rProper_c c a _).mono ?_; rintro e w1 ⟨rfl, hb1⟩; have HB1 : Hid (Below W0.heap.size W0 w1) := hb1; clear hb1) | (refine wpList_store_row (by rfl) _ _ _ (by rfl) (by rfl) _ _ _ (by rfl) (by rfl) (r0.out.later HB1.out (by rw [HS.out]; omega)) (by rw [pc_size]; kernel_rfl) (by rw [pc_size, pc_size]) (pc_ones _ _) ?_))
      obtain ⟨W2, hW2, r2, b2, s2⟩ := start_p (pc (PC c) (PA a)) r0.out b0.out (by rw [HS.out]; omega) HB1.out
      rw [hW2]
      clear hW2 HB1 r0 b0 HS
      have c1 := prow_addr r2.out 0 hk
      go_wp2_with (first | (refine wpList_load_rowG (by rfl) _ _ (by rfl) _ (by rfl) 28 _ (0, 0) _ r2.out Tryz.underlying28 (by rfl) (by rw [pc_size]; kernel_rfl) ?_) | (go_at_call 168; refine (HK.out _).mono ?_; rintro e w3 ⟨rfl, hb⟩; have HB3 : Hid (Below w.heap.size w w3) := b2.out.trans (hb.mono (Nat.le_of_lt s2.out)); have R3 := r2.out.later hb s2.out; have d1 := prow_addr R3 0 hk; clear hb R3))
      go_ret3
      exact ⟨rfl, HB3.out⟩
    · have e9 : X = some (0#64 <<< 2, PA a 0 <<< 2 - 1#64) := by rw [HE8.out, if_neg hc, hfr]
      subst e9
      have hc2 : ¬ n64 (PA a 0) ≤ 0 := hc
      clear hc hfr hz HE8 m3 hk2 hn0 hn1
      go_enter Tryz.func160, Tryz.ntmps160
      go_upto_region 1 with fail
      clear hW0
      go_upto_region 2 with (first | (refine wpList_load_rowG (by rfl) _ _ (by rfl) _ (by rfl) 28 _ (0, 0) _ r0.out Tryz.underlying28 (by rfl) (by rw [pc_size]; kernel_rfl) ?_) | (go_at_call 47; refine (rProper_c c a _).mono ?_; rintro e w1 ⟨rfl, hb1⟩; have HB1 : Hid (Below W0.heap.size W0 w1) := hb1; clear hb1) | (refine wpList_store_row (by rfl) _ _ _ (by rfl) (by rfl) _ _ _ (by rfl) (by rfl) (r0.out.later HB1.out (by rw [HS.out]; omega)) (by rw [pc_size]; kernel_rfl) (by rw [pc_size, pc_size]) (pc_ones _ _) ?_))
      obtain ⟨W2, hW2, r2, b2, s2⟩ := start_p (pc (PC c) (PA a)) r0.out b0.out (by rw [HS.out]; omega) HB1.out
      rw [hW2]
      clear hW2 HB1 r0 b0 HS
      have c1 := prow_addr r2.out 0 hk
      go_wp2_with (first | (refine wpList_load_rowG (by rfl) _ _ (by rfl) _ (by rfl) 28 _ (0, 0) _ r2.out Tryz.underlying28 (by rfl) (by rw [pc_size]; kernel_rfl) ?_) | (go_at_call 168; refine (HK.out _).mono ?_; rintro e w3 ⟨rfl, hb⟩; have HB3 : Hid (Below w.heap.size w w3) := b2.out.trans (hb.mono (Nat.le_of_lt s2.out)); have R3 := r2.out.later hb s2.out; have d1 := prow_addr R3 0 hk; clear hb R3))
      go_ret3
      exact ⟨by simp_all [sp3, sF, sL, n64], HB3.out⟩
  | succ j =>
    have hfr : frm (PA a) (j + 1) = PA a j := rfl
    have hj : j < 16 := by omega
    rw [hfr] at m3
    have ej : ((j + 1 : Nat) : Int) = (j : Int) + 1 := by omega
    have hj2 : (j : Int) + 1 < 16 := by omega
    have hj3 : (0 : Int) < (j : Int) + 1 := by omega
    have hj4 : ¬ (j : Int) + 1 < 0 := by omega
    have hj5 : ¬ (15 : Int) < (j : Int) + 1 := by omega
    rw [ej] at HK ⊢
    by_cases hc : n64 (PA a (j + 1)) ≤ n64 (frm (PA a) (j + 1))
    · have e9 : X = none := by rw [HE8.out, if_pos hc]
      subst e9
      rw [hfr] at hc
      clear hfr HE8 hk2 hn0 hn1 ej
      go_enter Tryz.func160, Tryz.ntmps160
      go_upto_region 1 with fail
      clear hW0
      go_upto_region 2 with (first | (refine wpList_load_rowG (by rfl) _ _ (by rfl) _ (by rfl) 28 _ (0, 0) _ r0.out Tryz.underlying28 (by rfl) (by rw [pc_size]; kernel_rfl) ?_) | (go_at_call 47; refine (rProper_c c a _).mono ?_; rintro e w1 ⟨rfl, hb1⟩; have HB1 : Hid (Below W0.heap.size W0 w1) := hb1; clear hb1) | (refine wpList_store_row (by rfl) _ _ _ (by rfl) (by rfl) _ _ _ (by rfl) (by rfl) (r0.out.later HB1.out (by rw [HS.out]; omega)) (by rw [pc_size]; kernel_rfl) (by rw [pc_size, pc_size]) (pc_ones _ _) ?_))
      obtain ⟨W2, hW2, r2, b2, s2⟩ := start_p (pc (PC c) (PA a)) r0.out b0.out (by rw [HS.out]; omega) HB1.out
      rw [hW2]
      clear hW2 HB1 r0 b0 HS
      have c1 := prow_addr r2.out (j + 1) hk
      go_wp2_with (first | (refine wpList_load_rowG (by rfl) _ _ (by rfl) _ (by rfl) 28 _ (0, 0) _ r2.out Tryz.underlying28 (by rfl) (by rw [pc_size]; kernel_rfl) ?_) | (go_at_call 168; refine (HK.out _).mono ?_; rintro e w3 ⟨rfl, hb⟩; have HB3 : Hid (Below w.heap.size w w3) := b2.out.trans (hb.mono (Nat.le_of_lt s2.out)); have R3 := r2.out.later hb s2.out; have d2 := prow_addr R3 j hj; clear hb R3))
      go_ret3
      exact ⟨rfl, HB3.out⟩
    · have e9 : X = some (PA a j <<< 2, PA a (j + 1) <<< 2 - 1#64) := by rw [HE8.out, if_neg hc, hfr]
      subst e9
      rw [hfr] at hc
      clear hfr HE8 hk2 hn0 hn1 ej
      go_enter Tryz.func160, Tryz.ntmps160
      go_upto_region 1 with fail
      clear hW0
      go_upto_region 2 with (first | (refine wpList_load_rowG (by rfl) _ _ (by rfl) _ (by rfl) 28 _ (0, 0) _ r0.out Tryz.underlying28 (by rfl) (by rw [pc_size]; kernel_rfl) ?_) | (go_at_call 47; refine (rProper_c c a _).mono ?_; rintro e w1 ⟨rfl, hb1⟩; have HB1 : Hid (Below W0.heap.size W0 w1) := hb1; clear hb1) | (refine wpList_store_row (by rfl) _ _ _ (by rfl) (by rfl) _ _ _ (by rfl) (by rfl) (r0.out.later HB1.out (by rw [HS.out]; omega)) (by rw [pc_size]; kernel_rfl) (by rw [pc_size, pc_size]) (pc_ones _ _) ?_))
      obtain ⟨W2, hW2, r2, b2, s2⟩ := start_p (pc (PC c) (PA a)) r0.out b0.out (by rw [HS.out]; omega) HB1.out
      rw [hW2]
      clear hW2 HB1 r0 b0 HS
      have c1 := prow_addr r2.out (j + 1) hk
      go_wp2_with (first | (refine wpList_load_rowG (by rfl) _ _ (by rfl) _ (by rfl) 28 _ (0, 0) _ r2.out Tryz.underlying28 (by rfl) (by rw [pc_size]; kernel_rfl) ?_) | (go_at_call 168; refine (HK.out _).mono ?_; rintro e w3 ⟨rfl, hb⟩; have HB3 : Hid (Below w.heap.size w w3) := b2.out.trans (hb.mono (Nat.le_of_lt s2.out)); have R3 := r2.out.later hb s2.out; have d2 := prow_addr R3 j hj; clear hb R3))
      go_ret3
      exact ⟨by simp_all [sp3, sF, sL], HB3.out⟩
end Go.Proofs.YtidfndgedopghaaGreatDoor
