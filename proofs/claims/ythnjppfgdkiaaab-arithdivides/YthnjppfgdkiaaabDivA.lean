/- ArithDivides: cases -/
import Derived.Test.YthnjppfgdkiaaabDiv
import Derived.Deep.RegionWith
namespace Go.Proofs.Ythnjppfgdkiaaab.arithDivides
open Go.ChangeShapes Go.WideShapes Go.ChangeAt Go.RowKit
set_option linter.unusedVariables false

set_option maxHeartbeats 1000000 in
theorem div_z (k : Int) (a b : BitVec 64) (i j : Int) (e1 : (n64 (qDivu a b * b + qRemu a b) != n64 a) = false) (e2 : (n64 (qDiv a b * b + qRem a b) != n64 a) = false) (z0 : (n64 b == 0) = true) (f1 : (n64 (qDivu a b) == 18446744073709551615) = true) (f2 : (n64 (qRemu a b) == n64 a) = true) (f3 : (n64 (qDiv a b) == 18446744073709551615) = true) (f4 : (n64 (qRem a b) == n64 a) = true) (w : World) :
    Calls Try.prog 7 #[.agg #[.int .i64 k, .int .u64 (n64 a), .int .u64 (n64 b), .int .i64 i, .int .i64 j]] w fun e w' => e = .returned (.bool true) ∧ Below w.heap.size w w' := by
  have hne := later_nonempty (w.alloc (.cells #[.int .i64 k, .int .u64 (n64 a), .int .u64 (n64 b), .int .i64 i, .int .i64 j] 24))
  have hz : ∀ _ : Later (w.alloc (.cells #[.int .i64 k, .int .u64 (n64 a), .int .u64 (n64 b), .int .i64 i, .int .i64 j] 24)), w.heap.size < (w.alloc (.cells #[.int .i64 k, .int .u64 (n64 a), .int .u64 (n64 b), .int .i64 i, .int .i64 j] 24)).heap.size := fun _ => by simp
  have hc1 : ∀ x : Later (w.alloc (.cells #[.int .i64 k, .int .u64 (n64 a), .int .u64 (n64 b), .int .i64 i, .int .i64 j] 24)), x.1.cell? ⟨w.heap.size, 1, none⟩ = some (.int .u64 (n64 a)) := fun x => by rw [later_cell x (hz x)]; simp
  have hc2 : ∀ x : Later (w.alloc (.cells #[.int .i64 k, .int .u64 (n64 a), .int .u64 (n64 b), .int .i64 i, .int .i64 j] 24)), x.1.cell? ⟨w.heap.size, 2, none⟩ = some (.int .u64 (n64 b)) := fun x => by rw [later_cell x (hz x)]; simp
  clear hz
  have r1 := n64_mul
  have r2 := n64_add
  have r3 := n64_udivw
  go_enter Try.func7, Try.ntmps7
  go_wp2_with fail
  refine (calls_later (x := Later.start (w.alloc (.cells #[.int .i64 k, .int .u64 (n64 a), .int .u64 (n64 b), .int .i64 i, .int .i64 j] 24))) (o_divu _ _ _)).mono ?_
  rintro e w' ⟨rfl, y1, rfl⟩
  go_wp2_with (first
    | (go_at_call_of 9 (Value.int IntKind.i64 67); refine (calls_later (o_divu _ _ _)).mono ?_; rintro e w' ⟨rfl, y, rfl⟩)
    | (go_at_call_of 9 (Value.int IntKind.i64 69); refine (calls_later (o_remu _ _ _)).mono ?_; rintro e w' ⟨rfl, y, rfl⟩)
    | (go_at_call_of 9 (Value.int IntKind.i64 66); refine (calls_later (o_div _ _ _)).mono ?_; rintro e w' ⟨rfl, y, rfl⟩)
    | (go_at_call_of 9 (Value.int IntKind.i64 68); refine (calls_later (o_rem _ _ _)).mono ?_; rintro e w' ⟨rfl, y, rfl⟩)
    | (go_at_call 10; refine (calls_later (live_any _)).mono ?_; rintro e w' ⟨rfl, y, rfl⟩)
    | (go_at_call 17; refine (calls_later_same (size_any _ _)).mono ?_; rintro e w' ⟨rfl, y, rfl⟩)
    | (go_at_call 12; refine (calls_later_same (negative_is _ _ (by assumption) _)).mono ?_; rintro e w' ⟨rfl, y, rfl⟩))
  go_ret
  exact ⟨rfl, ((Below.refl _ _).alloc (Nat.le_refl _) _).trans ((Later.below _).mono (by simp))⟩

set_option maxHeartbeats 1000000 in
theorem div_qz (k : Int) (a b : BitVec 64) (i j : Int) (e1 : (n64 (qDivu a b * b + qRemu a b) != n64 a) = false) (e2 : (n64 (qDiv a b * b + qRem a b) != n64 a) = false) (z0 : (n64 b == 0) = false) (p0 : 0 ≤ n64 a) (g1 : decide (n64 b ≤ n64 (qRemu a b)) = false) (g2 : decide (0 < n64 (qDivu a b)) = true) (g4 : decide (n64 (sz b) ≤ n64 (sz (qRem a b))) = false) (g5 : (n64 (qRem a b) != 0) = false) (p2 : 0 ≤ n64 (sz a)) (p3 : 1 ≤ n64 (sz b)) (p4 : ¬ n64 (sz b) = 0) (g6 : (n64 (sz (qDiv a b)) == n64 (sz a / sz b)) = true) (p1 : 1 ≤ n64 (qDivu a b)) (p5 : ¬ n64 (qDivu a b) = 0) (g3 : decide (n64 (a / qDivu a b) < n64 b) = false) (w : World) :
    Calls Try.prog 7 #[.agg #[.int .i64 k, .int .u64 (n64 a), .int .u64 (n64 b), .int .i64 i, .int .i64 j]] w fun e w' => e = .returned (.bool true) ∧ Below w.heap.size w w' := by
  have hne := later_nonempty (w.alloc (.cells #[.int .i64 k, .int .u64 (n64 a), .int .u64 (n64 b), .int .i64 i, .int .i64 j] 24))
  have hz : ∀ _ : Later (w.alloc (.cells #[.int .i64 k, .int .u64 (n64 a), .int .u64 (n64 b), .int .i64 i, .int .i64 j] 24)), w.heap.size < (w.alloc (.cells #[.int .i64 k, .int .u64 (n64 a), .int .u64 (n64 b), .int .i64 i, .int .i64 j] 24)).heap.size := fun _ => by simp
  have hc1 : ∀ x : Later (w.alloc (.cells #[.int .i64 k, .int .u64 (n64 a), .int .u64 (n64 b), .int .i64 i, .int .i64 j] 24)), x.1.cell? ⟨w.heap.size, 1, none⟩ = some (.int .u64 (n64 a)) := fun x => by rw [later_cell x (hz x)]; simp
  have hc2 : ∀ x : Later (w.alloc (.cells #[.int .i64 k, .int .u64 (n64 a), .int .u64 (n64 b), .int .i64 i, .int .i64 j] 24)), x.1.cell? ⟨w.heap.size, 2, none⟩ = some (.int .u64 (n64 b)) := fun x => by rw [later_cell x (hz x)]; simp
  clear hz
  have r1 := n64_mul
  have r2 := n64_add
  have r3 := n64_udivw
  go_enter Try.func7, Try.ntmps7
  go_wp2_with fail
  refine (calls_later (x := Later.start (w.alloc (.cells #[.int .i64 k, .int .u64 (n64 a), .int .u64 (n64 b), .int .i64 i, .int .i64 j] 24))) (o_divu _ _ _)).mono ?_
  rintro e w' ⟨rfl, y1, rfl⟩
  go_wp2_with (first
    | (go_at_call_of 9 (Value.int IntKind.i64 67); refine (calls_later (o_divu _ _ _)).mono ?_; rintro e w' ⟨rfl, y, rfl⟩)
    | (go_at_call_of 9 (Value.int IntKind.i64 69); refine (calls_later (o_remu _ _ _)).mono ?_; rintro e w' ⟨rfl, y, rfl⟩)
    | (go_at_call_of 9 (Value.int IntKind.i64 66); refine (calls_later (o_div _ _ _)).mono ?_; rintro e w' ⟨rfl, y, rfl⟩)
    | (go_at_call_of 9 (Value.int IntKind.i64 68); refine (calls_later (o_rem _ _ _)).mono ?_; rintro e w' ⟨rfl, y, rfl⟩)
    | (go_at_call 10; refine (calls_later (live_any _)).mono ?_; rintro e w' ⟨rfl, y, rfl⟩)
    | (go_at_call 17; refine (calls_later_same (size_any _ _)).mono ?_; rintro e w' ⟨rfl, y, rfl⟩)
    | (go_at_call 12; refine (calls_later_same (negative_is _ _ (by assumption) _)).mono ?_; rintro e w' ⟨rfl, y, rfl⟩))
  refine wp_region_later (by kernel_rfl) (by kernel_rfl) ?_
  repeat (go_big_quiet_step ((first
    | (go_at_call_of 9 (Value.int IntKind.i64 67); exact calls_later (o_divu _ _ _))
    | (go_at_call_of 9 (Value.int IntKind.i64 69); exact calls_later (o_remu _ _ _))
    | (go_at_call_of 9 (Value.int IntKind.i64 66); exact calls_later (o_div _ _ _))
    | (go_at_call_of 9 (Value.int IntKind.i64 68); exact calls_later (o_rem _ _ _))
    | (go_at_call 10; exact calls_later (live_any _))
    | (go_at_call 17; exact calls_later_same (size_any _ _))
    | (go_at_call 12; exact calls_later_same (negative_is _ _ (by assumption) _)))))
  refine wpQuiet_nil ?_
  rintro _ ⟨yq, rfl⟩
  go_wp2_with (first
    | (go_at_call_of 9 (Value.int IntKind.i64 67); refine (calls_later (o_divu _ _ _)).mono ?_; rintro e w' ⟨rfl, y, rfl⟩)
    | (go_at_call_of 9 (Value.int IntKind.i64 69); refine (calls_later (o_remu _ _ _)).mono ?_; rintro e w' ⟨rfl, y, rfl⟩)
    | (go_at_call_of 9 (Value.int IntKind.i64 66); refine (calls_later (o_div _ _ _)).mono ?_; rintro e w' ⟨rfl, y, rfl⟩)
    | (go_at_call_of 9 (Value.int IntKind.i64 68); refine (calls_later (o_rem _ _ _)).mono ?_; rintro e w' ⟨rfl, y, rfl⟩)
    | (go_at_call 10; refine (calls_later (live_any _)).mono ?_; rintro e w' ⟨rfl, y, rfl⟩)
    | (go_at_call 17; refine (calls_later_same (size_any _ _)).mono ?_; rintro e w' ⟨rfl, y, rfl⟩)
    | (go_at_call 12; refine (calls_later_same (negative_is _ _ (by assumption) _)).mono ?_; rintro e w' ⟨rfl, y, rfl⟩))
  refine wp_region_later (by kernel_rfl) (by kernel_rfl) ?_
  repeat (go_big_quiet_step ((first
    | (go_at_call_of 9 (Value.int IntKind.i64 67); exact calls_later (o_divu _ _ _))
    | (go_at_call_of 9 (Value.int IntKind.i64 69); exact calls_later (o_remu _ _ _))
    | (go_at_call_of 9 (Value.int IntKind.i64 66); exact calls_later (o_div _ _ _))
    | (go_at_call_of 9 (Value.int IntKind.i64 68); exact calls_later (o_rem _ _ _))
    | (go_at_call 10; exact calls_later (live_any _))
    | (go_at_call 17; exact calls_later_same (size_any _ _))
    | (go_at_call 12; exact calls_later_same (negative_is _ _ (by assumption) _)))))
  refine wpQuiet_nil ?_
  rintro _ ⟨yq, rfl⟩
  go_wp2_with (first
    | (go_at_call_of 9 (Value.int IntKind.i64 67); refine (calls_later (o_divu _ _ _)).mono ?_; rintro e w' ⟨rfl, y, rfl⟩)
    | (go_at_call_of 9 (Value.int IntKind.i64 69); refine (calls_later (o_remu _ _ _)).mono ?_; rintro e w' ⟨rfl, y, rfl⟩)
    | (go_at_call_of 9 (Value.int IntKind.i64 66); refine (calls_later (o_div _ _ _)).mono ?_; rintro e w' ⟨rfl, y, rfl⟩)
    | (go_at_call_of 9 (Value.int IntKind.i64 68); refine (calls_later (o_rem _ _ _)).mono ?_; rintro e w' ⟨rfl, y, rfl⟩)
    | (go_at_call 10; refine (calls_later (live_any _)).mono ?_; rintro e w' ⟨rfl, y, rfl⟩)
    | (go_at_call 17; refine (calls_later_same (size_any _ _)).mono ?_; rintro e w' ⟨rfl, y, rfl⟩)
    | (go_at_call 12; refine (calls_later_same (negative_is _ _ (by assumption) _)).mono ?_; rintro e w' ⟨rfl, y, rfl⟩))
  refine wp_region_later (by kernel_rfl) (by kernel_rfl) ?_
  repeat (go_big_quiet_step ((first
    | (go_at_call_of 9 (Value.int IntKind.i64 67); exact calls_later (o_divu _ _ _))
    | (go_at_call_of 9 (Value.int IntKind.i64 69); exact calls_later (o_remu _ _ _))
    | (go_at_call_of 9 (Value.int IntKind.i64 66); exact calls_later (o_div _ _ _))
    | (go_at_call_of 9 (Value.int IntKind.i64 68); exact calls_later (o_rem _ _ _))
    | (go_at_call 10; exact calls_later (live_any _))
    | (go_at_call 17; exact calls_later_same (size_any _ _))
    | (go_at_call 12; exact calls_later_same (negative_is _ _ (by assumption) _)))))
  refine wpQuiet_nil ?_
  rintro _ ⟨yq, rfl⟩
  go_wp2_with (first
    | (go_at_call_of 9 (Value.int IntKind.i64 67); refine (calls_later (o_divu _ _ _)).mono ?_; rintro e w' ⟨rfl, y, rfl⟩)
    | (go_at_call_of 9 (Value.int IntKind.i64 69); refine (calls_later (o_remu _ _ _)).mono ?_; rintro e w' ⟨rfl, y, rfl⟩)
    | (go_at_call_of 9 (Value.int IntKind.i64 66); refine (calls_later (o_div _ _ _)).mono ?_; rintro e w' ⟨rfl, y, rfl⟩)
    | (go_at_call_of 9 (Value.int IntKind.i64 68); refine (calls_later (o_rem _ _ _)).mono ?_; rintro e w' ⟨rfl, y, rfl⟩)
    | (go_at_call 10; refine (calls_later (live_any _)).mono ?_; rintro e w' ⟨rfl, y, rfl⟩)
    | (go_at_call 17; refine (calls_later_same (size_any _ _)).mono ?_; rintro e w' ⟨rfl, y, rfl⟩)
    | (go_at_call 12; refine (calls_later_same (negative_is _ _ (by assumption) _)).mono ?_; rintro e w' ⟨rfl, y, rfl⟩))
  go_ret
  exact ⟨rfl, ((Below.refl _ _).alloc (Nat.le_refl _) _).trans ((Later.below _).mono (by simp))⟩

set_option maxHeartbeats 1000000 in
theorem div_qn (k : Int) (a b : BitVec 64) (i j : Int) (e1 : (n64 (qDivu a b * b + qRemu a b) != n64 a) = false) (e2 : (n64 (qDiv a b * b + qRem a b) != n64 a) = false) (z0 : (n64 b == 0) = false) (p0 : 0 ≤ n64 a) (g1 : decide (n64 b ≤ n64 (qRemu a b)) = false) (g2 : decide (0 < n64 (qDivu a b)) = true) (g4 : decide (n64 (sz b) ≤ n64 (sz (qRem a b))) = false) (g5 : (n64 (qRem a b) != 0) = true) (p2 : 0 ≤ n64 (sz a)) (p3 : 1 ≤ n64 (sz b)) (p4 : ¬ n64 (sz b) = 0) (g6 : (n64 (sz (qDiv a b)) == n64 (sz a / sz b)) = true) (p1 : 1 ≤ n64 (qDivu a b)) (p5 : ¬ n64 (qDivu a b) = 0) (g3 : decide (n64 (a / qDivu a b) < n64 b) = false) (ha : ng a = true) (ht : ng (qRem a b) = true) (w : World) :
    Calls Try.prog 7 #[.agg #[.int .i64 k, .int .u64 (n64 a), .int .u64 (n64 b), .int .i64 i, .int .i64 j]] w fun e w' => e = .returned (.bool true) ∧ Below w.heap.size w w' := by
  have hne := later_nonempty (w.alloc (.cells #[.int .i64 k, .int .u64 (n64 a), .int .u64 (n64 b), .int .i64 i, .int .i64 j] 24))
  have hz : ∀ _ : Later (w.alloc (.cells #[.int .i64 k, .int .u64 (n64 a), .int .u64 (n64 b), .int .i64 i, .int .i64 j] 24)), w.heap.size < (w.alloc (.cells #[.int .i64 k, .int .u64 (n64 a), .int .u64 (n64 b), .int .i64 i, .int .i64 j] 24)).heap.size := fun _ => by simp
  have hc1 : ∀ x : Later (w.alloc (.cells #[.int .i64 k, .int .u64 (n64 a), .int .u64 (n64 b), .int .i64 i, .int .i64 j] 24)), x.1.cell? ⟨w.heap.size, 1, none⟩ = some (.int .u64 (n64 a)) := fun x => by rw [later_cell x (hz x)]; simp
  have hc2 : ∀ x : Later (w.alloc (.cells #[.int .i64 k, .int .u64 (n64 a), .int .u64 (n64 b), .int .i64 i, .int .i64 j] 24)), x.1.cell? ⟨w.heap.size, 2, none⟩ = some (.int .u64 (n64 b)) := fun x => by rw [later_cell x (hz x)]; simp
  clear hz
  have r1 := n64_mul
  have r2 := n64_add
  have r3 := n64_udivw
  go_enter Try.func7, Try.ntmps7
  go_wp2_with fail
  refine (calls_later (x := Later.start (w.alloc (.cells #[.int .i64 k, .int .u64 (n64 a), .int .u64 (n64 b), .int .i64 i, .int .i64 j] 24))) (o_divu _ _ _)).mono ?_
  rintro e w' ⟨rfl, y1, rfl⟩
  go_wp2_with (first
    | (go_at_call_of 9 (Value.int IntKind.i64 67); refine (calls_later (o_divu _ _ _)).mono ?_; rintro e w' ⟨rfl, y, rfl⟩)
    | (go_at_call_of 9 (Value.int IntKind.i64 69); refine (calls_later (o_remu _ _ _)).mono ?_; rintro e w' ⟨rfl, y, rfl⟩)
    | (go_at_call_of 9 (Value.int IntKind.i64 66); refine (calls_later (o_div _ _ _)).mono ?_; rintro e w' ⟨rfl, y, rfl⟩)
    | (go_at_call_of 9 (Value.int IntKind.i64 68); refine (calls_later (o_rem _ _ _)).mono ?_; rintro e w' ⟨rfl, y, rfl⟩)
    | (go_at_call 10; refine (calls_later (live_any _)).mono ?_; rintro e w' ⟨rfl, y, rfl⟩)
    | (go_at_call 17; refine (calls_later_same (size_any _ _)).mono ?_; rintro e w' ⟨rfl, y, rfl⟩)
    | (go_at_call 12; refine (calls_later_same (negative_is _ _ (by assumption) _)).mono ?_; rintro e w' ⟨rfl, y, rfl⟩))
  refine wp_region_later (by kernel_rfl) (by kernel_rfl) ?_
  repeat (go_big_quiet_step ((first
    | (go_at_call_of 9 (Value.int IntKind.i64 67); exact calls_later (o_divu _ _ _))
    | (go_at_call_of 9 (Value.int IntKind.i64 69); exact calls_later (o_remu _ _ _))
    | (go_at_call_of 9 (Value.int IntKind.i64 66); exact calls_later (o_div _ _ _))
    | (go_at_call_of 9 (Value.int IntKind.i64 68); exact calls_later (o_rem _ _ _))
    | (go_at_call 10; exact calls_later (live_any _))
    | (go_at_call 17; exact calls_later_same (size_any _ _))
    | (go_at_call 12; exact calls_later_same (negative_is _ _ (by assumption) _)))))
  refine wpQuiet_nil ?_
  rintro _ ⟨yq, rfl⟩
  go_wp2_with (first
    | (go_at_call_of 9 (Value.int IntKind.i64 67); refine (calls_later (o_divu _ _ _)).mono ?_; rintro e w' ⟨rfl, y, rfl⟩)
    | (go_at_call_of 9 (Value.int IntKind.i64 69); refine (calls_later (o_remu _ _ _)).mono ?_; rintro e w' ⟨rfl, y, rfl⟩)
    | (go_at_call_of 9 (Value.int IntKind.i64 66); refine (calls_later (o_div _ _ _)).mono ?_; rintro e w' ⟨rfl, y, rfl⟩)
    | (go_at_call_of 9 (Value.int IntKind.i64 68); refine (calls_later (o_rem _ _ _)).mono ?_; rintro e w' ⟨rfl, y, rfl⟩)
    | (go_at_call 10; refine (calls_later (live_any _)).mono ?_; rintro e w' ⟨rfl, y, rfl⟩)
    | (go_at_call 17; refine (calls_later_same (size_any _ _)).mono ?_; rintro e w' ⟨rfl, y, rfl⟩)
    | (go_at_call 12; refine (calls_later_same (negative_is _ _ (by assumption) _)).mono ?_; rintro e w' ⟨rfl, y, rfl⟩))
  refine wp_region_later (by kernel_rfl) (by kernel_rfl) ?_
  repeat (go_big_quiet_step ((first
    | (go_at_call_of 9 (Value.int IntKind.i64 67); exact calls_later (o_divu _ _ _))
    | (go_at_call_of 9 (Value.int IntKind.i64 69); exact calls_later (o_remu _ _ _))
    | (go_at_call_of 9 (Value.int IntKind.i64 66); exact calls_later (o_div _ _ _))
    | (go_at_call_of 9 (Value.int IntKind.i64 68); exact calls_later (o_rem _ _ _))
    | (go_at_call 10; exact calls_later (live_any _))
    | (go_at_call 17; exact calls_later_same (size_any _ _))
    | (go_at_call 12; exact calls_later_same (negative_is _ _ (by assumption) _)))))
  refine wpQuiet_nil ?_
  rintro _ ⟨yq, rfl⟩
  go_wp2_with (first
    | (go_at_call_of 9 (Value.int IntKind.i64 67); refine (calls_later (o_divu _ _ _)).mono ?_; rintro e w' ⟨rfl, y, rfl⟩)
    | (go_at_call_of 9 (Value.int IntKind.i64 69); refine (calls_later (o_remu _ _ _)).mono ?_; rintro e w' ⟨rfl, y, rfl⟩)
    | (go_at_call_of 9 (Value.int IntKind.i64 66); refine (calls_later (o_div _ _ _)).mono ?_; rintro e w' ⟨rfl, y, rfl⟩)
    | (go_at_call_of 9 (Value.int IntKind.i64 68); refine (calls_later (o_rem _ _ _)).mono ?_; rintro e w' ⟨rfl, y, rfl⟩)
    | (go_at_call 10; refine (calls_later (live_any _)).mono ?_; rintro e w' ⟨rfl, y, rfl⟩)
    | (go_at_call 17; refine (calls_later_same (size_any _ _)).mono ?_; rintro e w' ⟨rfl, y, rfl⟩)
    | (go_at_call 12; refine (calls_later_same (negative_is _ _ (by assumption) _)).mono ?_; rintro e w' ⟨rfl, y, rfl⟩))
  refine wp_region_later (by kernel_rfl) (by kernel_rfl) ?_
  repeat (go_big_quiet_step ((first
    | (go_at_call_of 9 (Value.int IntKind.i64 67); exact calls_later (o_divu _ _ _))
    | (go_at_call_of 9 (Value.int IntKind.i64 69); exact calls_later (o_remu _ _ _))
    | (go_at_call_of 9 (Value.int IntKind.i64 66); exact calls_later (o_div _ _ _))
    | (go_at_call_of 9 (Value.int IntKind.i64 68); exact calls_later (o_rem _ _ _))
    | (go_at_call 10; exact calls_later (live_any _))
    | (go_at_call 17; exact calls_later_same (size_any _ _))
    | (go_at_call 12; exact calls_later_same (negative_is _ _ (by assumption) _)))))
  refine wpQuiet_nil ?_
  rintro _ ⟨yq, rfl⟩
  go_wp2_with (first
    | (go_at_call_of 9 (Value.int IntKind.i64 67); refine (calls_later (o_divu _ _ _)).mono ?_; rintro e w' ⟨rfl, y, rfl⟩)
    | (go_at_call_of 9 (Value.int IntKind.i64 69); refine (calls_later (o_remu _ _ _)).mono ?_; rintro e w' ⟨rfl, y, rfl⟩)
    | (go_at_call_of 9 (Value.int IntKind.i64 66); refine (calls_later (o_div _ _ _)).mono ?_; rintro e w' ⟨rfl, y, rfl⟩)
    | (go_at_call_of 9 (Value.int IntKind.i64 68); refine (calls_later (o_rem _ _ _)).mono ?_; rintro e w' ⟨rfl, y, rfl⟩)
    | (go_at_call 10; refine (calls_later (live_any _)).mono ?_; rintro e w' ⟨rfl, y, rfl⟩)
    | (go_at_call 17; refine (calls_later_same (size_any _ _)).mono ?_; rintro e w' ⟨rfl, y, rfl⟩)
    | (go_at_call 12; refine (calls_later_same (negative_is _ _ (by assumption) _)).mono ?_; rintro e w' ⟨rfl, y, rfl⟩))
  go_ret
  exact ⟨rfl, ((Below.refl _ _).alloc (Nat.le_refl _) _).trans ((Later.below _).mono (by simp))⟩

set_option maxHeartbeats 1000000 in
theorem div_qm (k : Int) (a b : BitVec 64) (i j : Int) (e1 : (n64 (qDivu a b * b + qRemu a b) != n64 a) = false) (e2 : (n64 (qDiv a b * b + qRem a b) != n64 a) = false) (z0 : (n64 b == 0) = false) (p0 : 0 ≤ n64 a) (g1 : decide (n64 b ≤ n64 (qRemu a b)) = false) (g2 : decide (0 < n64 (qDivu a b)) = true) (g4 : decide (n64 (sz b) ≤ n64 (sz (qRem a b))) = false) (g5 : (n64 (qRem a b) != 0) = true) (p2 : 0 ≤ n64 (sz a)) (p3 : 1 ≤ n64 (sz b)) (p4 : ¬ n64 (sz b) = 0) (g6 : (n64 (sz (qDiv a b)) == n64 (sz a / sz b)) = true) (p1 : 1 ≤ n64 (qDivu a b)) (p5 : ¬ n64 (qDivu a b) = 0) (g3 : decide (n64 (a / qDivu a b) < n64 b) = false) (ha : ng a = false) (ht : ng (qRem a b) = false) (w : World) :
    Calls Try.prog 7 #[.agg #[.int .i64 k, .int .u64 (n64 a), .int .u64 (n64 b), .int .i64 i, .int .i64 j]] w fun e w' => e = .returned (.bool true) ∧ Below w.heap.size w w' := by
  have hne := later_nonempty (w.alloc (.cells #[.int .i64 k, .int .u64 (n64 a), .int .u64 (n64 b), .int .i64 i, .int .i64 j] 24))
  have hz : ∀ _ : Later (w.alloc (.cells #[.int .i64 k, .int .u64 (n64 a), .int .u64 (n64 b), .int .i64 i, .int .i64 j] 24)), w.heap.size < (w.alloc (.cells #[.int .i64 k, .int .u64 (n64 a), .int .u64 (n64 b), .int .i64 i, .int .i64 j] 24)).heap.size := fun _ => by simp
  have hc1 : ∀ x : Later (w.alloc (.cells #[.int .i64 k, .int .u64 (n64 a), .int .u64 (n64 b), .int .i64 i, .int .i64 j] 24)), x.1.cell? ⟨w.heap.size, 1, none⟩ = some (.int .u64 (n64 a)) := fun x => by rw [later_cell x (hz x)]; simp
  have hc2 : ∀ x : Later (w.alloc (.cells #[.int .i64 k, .int .u64 (n64 a), .int .u64 (n64 b), .int .i64 i, .int .i64 j] 24)), x.1.cell? ⟨w.heap.size, 2, none⟩ = some (.int .u64 (n64 b)) := fun x => by rw [later_cell x (hz x)]; simp
  clear hz
  have r1 := n64_mul
  have r2 := n64_add
  have r3 := n64_udivw
  go_enter Try.func7, Try.ntmps7
  go_wp2_with fail
  refine (calls_later (x := Later.start (w.alloc (.cells #[.int .i64 k, .int .u64 (n64 a), .int .u64 (n64 b), .int .i64 i, .int .i64 j] 24))) (o_divu _ _ _)).mono ?_
  rintro e w' ⟨rfl, y1, rfl⟩
  go_wp2_with (first
    | (go_at_call_of 9 (Value.int IntKind.i64 67); refine (calls_later (o_divu _ _ _)).mono ?_; rintro e w' ⟨rfl, y, rfl⟩)
    | (go_at_call_of 9 (Value.int IntKind.i64 69); refine (calls_later (o_remu _ _ _)).mono ?_; rintro e w' ⟨rfl, y, rfl⟩)
    | (go_at_call_of 9 (Value.int IntKind.i64 66); refine (calls_later (o_div _ _ _)).mono ?_; rintro e w' ⟨rfl, y, rfl⟩)
    | (go_at_call_of 9 (Value.int IntKind.i64 68); refine (calls_later (o_rem _ _ _)).mono ?_; rintro e w' ⟨rfl, y, rfl⟩)
    | (go_at_call 10; refine (calls_later (live_any _)).mono ?_; rintro e w' ⟨rfl, y, rfl⟩)
    | (go_at_call 17; refine (calls_later_same (size_any _ _)).mono ?_; rintro e w' ⟨rfl, y, rfl⟩)
    | (go_at_call 12; refine (calls_later_same (negative_is _ _ (by assumption) _)).mono ?_; rintro e w' ⟨rfl, y, rfl⟩))
  refine wp_region_later (by kernel_rfl) (by kernel_rfl) ?_
  repeat (go_big_quiet_step ((first
    | (go_at_call_of 9 (Value.int IntKind.i64 67); exact calls_later (o_divu _ _ _))
    | (go_at_call_of 9 (Value.int IntKind.i64 69); exact calls_later (o_remu _ _ _))
    | (go_at_call_of 9 (Value.int IntKind.i64 66); exact calls_later (o_div _ _ _))
    | (go_at_call_of 9 (Value.int IntKind.i64 68); exact calls_later (o_rem _ _ _))
    | (go_at_call 10; exact calls_later (live_any _))
    | (go_at_call 17; exact calls_later_same (size_any _ _))
    | (go_at_call 12; exact calls_later_same (negative_is _ _ (by assumption) _)))))
  refine wpQuiet_nil ?_
  rintro _ ⟨yq, rfl⟩
  go_wp2_with (first
    | (go_at_call_of 9 (Value.int IntKind.i64 67); refine (calls_later (o_divu _ _ _)).mono ?_; rintro e w' ⟨rfl, y, rfl⟩)
    | (go_at_call_of 9 (Value.int IntKind.i64 69); refine (calls_later (o_remu _ _ _)).mono ?_; rintro e w' ⟨rfl, y, rfl⟩)
    | (go_at_call_of 9 (Value.int IntKind.i64 66); refine (calls_later (o_div _ _ _)).mono ?_; rintro e w' ⟨rfl, y, rfl⟩)
    | (go_at_call_of 9 (Value.int IntKind.i64 68); refine (calls_later (o_rem _ _ _)).mono ?_; rintro e w' ⟨rfl, y, rfl⟩)
    | (go_at_call 10; refine (calls_later (live_any _)).mono ?_; rintro e w' ⟨rfl, y, rfl⟩)
    | (go_at_call 17; refine (calls_later_same (size_any _ _)).mono ?_; rintro e w' ⟨rfl, y, rfl⟩)
    | (go_at_call 12; refine (calls_later_same (negative_is _ _ (by assumption) _)).mono ?_; rintro e w' ⟨rfl, y, rfl⟩))
  refine wp_region_later (by kernel_rfl) (by kernel_rfl) ?_
  repeat (go_big_quiet_step ((first
    | (go_at_call_of 9 (Value.int IntKind.i64 67); exact calls_later (o_divu _ _ _))
    | (go_at_call_of 9 (Value.int IntKind.i64 69); exact calls_later (o_remu _ _ _))
    | (go_at_call_of 9 (Value.int IntKind.i64 66); exact calls_later (o_div _ _ _))
    | (go_at_call_of 9 (Value.int IntKind.i64 68); exact calls_later (o_rem _ _ _))
    | (go_at_call 10; exact calls_later (live_any _))
    | (go_at_call 17; exact calls_later_same (size_any _ _))
    | (go_at_call 12; exact calls_later_same (negative_is _ _ (by assumption) _)))))
  refine wpQuiet_nil ?_
  rintro _ ⟨yq, rfl⟩
  go_wp2_with (first
    | (go_at_call_of 9 (Value.int IntKind.i64 67); refine (calls_later (o_divu _ _ _)).mono ?_; rintro e w' ⟨rfl, y, rfl⟩)
    | (go_at_call_of 9 (Value.int IntKind.i64 69); refine (calls_later (o_remu _ _ _)).mono ?_; rintro e w' ⟨rfl, y, rfl⟩)
    | (go_at_call_of 9 (Value.int IntKind.i64 66); refine (calls_later (o_div _ _ _)).mono ?_; rintro e w' ⟨rfl, y, rfl⟩)
    | (go_at_call_of 9 (Value.int IntKind.i64 68); refine (calls_later (o_rem _ _ _)).mono ?_; rintro e w' ⟨rfl, y, rfl⟩)
    | (go_at_call 10; refine (calls_later (live_any _)).mono ?_; rintro e w' ⟨rfl, y, rfl⟩)
    | (go_at_call 17; refine (calls_later_same (size_any _ _)).mono ?_; rintro e w' ⟨rfl, y, rfl⟩)
    | (go_at_call 12; refine (calls_later_same (negative_is _ _ (by assumption) _)).mono ?_; rintro e w' ⟨rfl, y, rfl⟩))
  refine wp_region_later (by kernel_rfl) (by kernel_rfl) ?_
  repeat (go_big_quiet_step ((first
    | (go_at_call_of 9 (Value.int IntKind.i64 67); exact calls_later (o_divu _ _ _))
    | (go_at_call_of 9 (Value.int IntKind.i64 69); exact calls_later (o_remu _ _ _))
    | (go_at_call_of 9 (Value.int IntKind.i64 66); exact calls_later (o_div _ _ _))
    | (go_at_call_of 9 (Value.int IntKind.i64 68); exact calls_later (o_rem _ _ _))
    | (go_at_call 10; exact calls_later (live_any _))
    | (go_at_call 17; exact calls_later_same (size_any _ _))
    | (go_at_call 12; exact calls_later_same (negative_is _ _ (by assumption) _)))))
  refine wpQuiet_nil ?_
  rintro _ ⟨yq, rfl⟩
  go_wp2_with (first
    | (go_at_call_of 9 (Value.int IntKind.i64 67); refine (calls_later (o_divu _ _ _)).mono ?_; rintro e w' ⟨rfl, y, rfl⟩)
    | (go_at_call_of 9 (Value.int IntKind.i64 69); refine (calls_later (o_remu _ _ _)).mono ?_; rintro e w' ⟨rfl, y, rfl⟩)
    | (go_at_call_of 9 (Value.int IntKind.i64 66); refine (calls_later (o_div _ _ _)).mono ?_; rintro e w' ⟨rfl, y, rfl⟩)
    | (go_at_call_of 9 (Value.int IntKind.i64 68); refine (calls_later (o_rem _ _ _)).mono ?_; rintro e w' ⟨rfl, y, rfl⟩)
    | (go_at_call 10; refine (calls_later (live_any _)).mono ?_; rintro e w' ⟨rfl, y, rfl⟩)
    | (go_at_call 17; refine (calls_later_same (size_any _ _)).mono ?_; rintro e w' ⟨rfl, y, rfl⟩)
    | (go_at_call 12; refine (calls_later_same (negative_is _ _ (by assumption) _)).mono ?_; rintro e w' ⟨rfl, y, rfl⟩))
  go_ret
  exact ⟨rfl, ((Below.refl _ _).alloc (Nat.le_refl _) _).trans ((Later.below _).mono (by simp))⟩
end Go.Proofs.Ythnjppfgdkiaaab.arithDivides
