/-
  The reference: Taken.
-/
import Derived.Test.YthnjppfgdkiaaaaRef2
import Derived.Test.YthnjppfgdkiaaaaKnN
namespace Go.Proofs.Ythnjppfgdkiaaaa
open Go.ChangeShapes Go.WideShapes Go.ChangeAt Go.RowKit
theorem split_64 (x : BitVec 64) (w : World) : Calls Try.prog 32 #[.int .u64 (n64 x), .int .i64 64] w fun e w' => ∃ v, e = .returned v ∧ Lst w' v (bl x.toNat 64) ∧ Below w.heap.size w w' := split_any x 64 (by decide) (by decide) w
theorem less_u (x y : BitVec 64) : decide (x.toNat < y.toNat) = uLt x y := by unfold uLt n64; rw [Bool.eq_iff_iff]; simp only [decide_eq_true_eq]; omega
theorem less_s (x y : BitVec 64) : decide (sval 64 x.toNat < sval 64 y.toNat) = sLt x y := by
  have h : ∀ z : BitVec 64, sval 64 z.toNat = z.toInt := fun z => by
    unfold sval; rw [BitVec.toInt_eq_toNat_cond]; have := z.isLt; simp only [Nat.reduceSub, Nat.reducePow] at *; split <;> split <;> omega
  unfold sLt; rw [h, h]
theorem ret_bb {a b c d : Bool} (h : a = b) (g : c = d) : Ending.returned (.tuple #[.bool a, .bool c]) = .returned (.tuple #[.bool b, .bool d]) := by rw [h, g]

set_option maxHeartbeats 400000 in
theorem rt_5 (x y : BitVec 64) (w : World) : Calls Try.prog 10 #[.int .i64 5, .int .u64 (n64 x), .int .u64 (n64 y)] w fun e w' => e = .returned (.tuple #[.bool (eqB x y), .bool true]) ∧ Below w.heap.size w w' := by
  go_enter Try.func10, Try.ntmps10
  go_wp2_with fail
  refine (split_64 x _).mono ?_
  rintro e w1 ⟨v1, rfl, l1, b1⟩
  have L1 : Hid (Lst w1 v1 (bl x.toNat 64)) := l1
  have B1 : Hid (Below w.heap.size w w1) := b1
  clear l1 b1
  go_wp2_with fail
  refine (split_64 y _).mono ?_
  rintro e w2 ⟨v2, rfl, l2, b2⟩
  have L2 : Hid (Lst w2 v2 (bl y.toNat 64)) := l2
  have B2 : Hid (Below w1.heap.size w1 w2) := b2
  clear l2 b2
  go_wp2_with fail
  go_ret2
  exact ⟨rfl, B1.out.trans (B2.out.mono B1.out.size)⟩

set_option maxHeartbeats 400000 in
theorem rt_6 (x y : BitVec 64) (w : World) : Calls Try.prog 10 #[.int .i64 6, .int .u64 (n64 x), .int .u64 (n64 y)] w fun e w' => e = .returned (.tuple #[.bool (!eqB x y), .bool true]) ∧ Below w.heap.size w w' := by
  go_enter Try.func10, Try.ntmps10
  go_wp2_with fail
  refine (split_64 x _).mono ?_
  rintro e w1 ⟨v1, rfl, l1, b1⟩
  have L1 : Hid (Lst w1 v1 (bl x.toNat 64)) := l1
  have B1 : Hid (Below w.heap.size w w1) := b1
  clear l1 b1
  go_wp2_with fail
  refine (split_64 y _).mono ?_
  rintro e w2 ⟨v2, rfl, l2, b2⟩
  have L2 : Hid (Lst w2 v2 (bl y.toNat 64)) := l2
  have B2 : Hid (Below w1.heap.size w1 w2) := b2
  clear l2 b2
  go_wp2_with fail
  go_ret2
  exact ⟨rfl, B1.out.trans (B2.out.mono B1.out.size)⟩

set_option maxHeartbeats 400000 in
theorem rt_7 (x y : BitVec 64) (w : World) : Calls Try.prog 10 #[.int .i64 7, .int .u64 (n64 x), .int .u64 (n64 y)] w fun e w' => e = .returned (.tuple #[.bool (sLt x y), .bool true]) ∧ Below w.heap.size w w' := by
  go_enter Try.func10, Try.ntmps10
  go_wp2_with fail
  refine (split_64 x _).mono ?_
  rintro e w1 ⟨v1, rfl, l1, b1⟩
  have L1 : Hid (Lst w1 v1 (bl x.toNat 64)) := l1
  have B1 : Hid (Below w.heap.size w w1) := b1
  clear l1 b1
  go_wp2_with fail
  refine (split_64 y _).mono ?_
  rintro e w2 ⟨v2, rfl, l2, b2⟩
  have L2 : Hid (Lst w2 v2 (bl y.toNat 64)) := l2
  have B2 : Hid (Below w1.heap.size w1 w2) := b2
  clear l2 b2
  go_wp2_with fail
  refine (lessSigned_any x.toNat y.toNat 64 (by decide) (by decide) x.isLt y.isLt v1 v2 _ (L1.out.later B2.out) L2.out).mono ?_
  rintro e w3 ⟨rfl, b3⟩
  have B3 : Hid (Below w2.heap.size w2 w3) := b3
  clear b3
  go_wp2
  go_ret2
  exact ⟨ret_bb (less_s x y) rfl, (B1.out.trans (B2.out.mono B1.out.size)).trans (B3.out.mono (B1.out.trans (B2.out.mono B1.out.size)).size)⟩

set_option maxHeartbeats 400000 in
theorem rt_8 (x y : BitVec 64) (w : World) : Calls Try.prog 10 #[.int .i64 8, .int .u64 (n64 x), .int .u64 (n64 y)] w fun e w' => e = .returned (.tuple #[.bool (!sLt x y), .bool true]) ∧ Below w.heap.size w w' := by
  go_enter Try.func10, Try.ntmps10
  go_wp2_with fail
  refine (split_64 x _).mono ?_
  rintro e w1 ⟨v1, rfl, l1, b1⟩
  have L1 : Hid (Lst w1 v1 (bl x.toNat 64)) := l1
  have B1 : Hid (Below w.heap.size w w1) := b1
  clear l1 b1
  go_wp2_with fail
  refine (split_64 y _).mono ?_
  rintro e w2 ⟨v2, rfl, l2, b2⟩
  have L2 : Hid (Lst w2 v2 (bl y.toNat 64)) := l2
  have B2 : Hid (Below w1.heap.size w1 w2) := b2
  clear l2 b2
  go_wp2_with fail
  refine (lessSigned_any x.toNat y.toNat 64 (by decide) (by decide) x.isLt y.isLt v1 v2 _ (L1.out.later B2.out) L2.out).mono ?_
  rintro e w3 ⟨rfl, b3⟩
  have B3 : Hid (Below w2.heap.size w2 w3) := b3
  clear b3
  go_wp2
  go_ret2
  exact ⟨ret_bb (congrArg not (less_s x y)) rfl, (B1.out.trans (B2.out.mono B1.out.size)).trans (B3.out.mono (B1.out.trans (B2.out.mono B1.out.size)).size)⟩

set_option maxHeartbeats 400000 in
theorem rt_9 (x y : BitVec 64) (w : World) : Calls Try.prog 10 #[.int .i64 9, .int .u64 (n64 x), .int .u64 (n64 y)] w fun e w' => e = .returned (.tuple #[.bool (uLt x y), .bool true]) ∧ Below w.heap.size w w' := by
  go_enter Try.func10, Try.ntmps10
  go_wp2_with fail
  refine (split_64 x _).mono ?_
  rintro e w1 ⟨v1, rfl, l1, b1⟩
  have L1 : Hid (Lst w1 v1 (bl x.toNat 64)) := l1
  have B1 : Hid (Below w.heap.size w w1) := b1
  clear l1 b1
  go_wp2_with fail
  refine (split_64 y _).mono ?_
  rintro e w2 ⟨v2, rfl, l2, b2⟩
  have L2 : Hid (Lst w2 v2 (bl y.toNat 64)) := l2
  have B2 : Hid (Below w1.heap.size w1 w2) := b2
  clear l2 b2
  go_wp2_with fail
  refine (less_any x.toNat y.toNat 64 (by decide) (by decide) x.isLt y.isLt v1 v2 _ (L1.out.later B2.out) L2.out).mono ?_
  rintro e w3 ⟨rfl, b3⟩
  have B3 : Hid (Below w2.heap.size w2 w3) := b3
  clear b3
  go_wp2
  go_ret2
  exact ⟨ret_bb (less_u x y) rfl, (B1.out.trans (B2.out.mono B1.out.size)).trans (B3.out.mono (B1.out.trans (B2.out.mono B1.out.size)).size)⟩

set_option maxHeartbeats 400000 in
theorem rt_10 (x y : BitVec 64) (w : World) : Calls Try.prog 10 #[.int .i64 10, .int .u64 (n64 x), .int .u64 (n64 y)] w fun e w' => e = .returned (.tuple #[.bool (!uLt x y), .bool true]) ∧ Below w.heap.size w w' := by
  go_enter Try.func10, Try.ntmps10
  go_wp2_with fail
  refine (split_64 x _).mono ?_
  rintro e w1 ⟨v1, rfl, l1, b1⟩
  have L1 : Hid (Lst w1 v1 (bl x.toNat 64)) := l1
  have B1 : Hid (Below w.heap.size w w1) := b1
  clear l1 b1
  go_wp2_with fail
  refine (split_64 y _).mono ?_
  rintro e w2 ⟨v2, rfl, l2, b2⟩
  have L2 : Hid (Lst w2 v2 (bl y.toNat 64)) := l2
  have B2 : Hid (Below w1.heap.size w1 w2) := b2
  clear l2 b2
  go_wp2_with fail
  refine (less_any x.toNat y.toNat 64 (by decide) (by decide) x.isLt y.isLt v1 v2 _ (L1.out.later B2.out) L2.out).mono ?_
  rintro e w3 ⟨rfl, b3⟩
  have B3 : Hid (Below w2.heap.size w2 w3) := b3
  clear b3
  go_wp2
  go_ret2
  exact ⟨ret_bb (congrArg not (less_u x y)) rfl, (B1.out.trans (B2.out.mono B1.out.size)).trans (B3.out.mono (B1.out.trans (B2.out.mono B1.out.size)).size)⟩

set_option maxHeartbeats 400000 in
theorem rt_none (k : Int) (h : tK k = false) (x y : BitVec 64) (w : World) : Calls Try.prog 10 #[.int .i64 k, .int .u64 (n64 x), .int .u64 (n64 y)] w fun e w' => e = .returned (.tuple #[.bool false, .bool false]) ∧ Below w.heap.size w w' := by
  have hk : ¬ (5 ≤ k ∧ k ≤ 10) := by unfold tK at h; simpa using h
  have t5 : (k == 5) = false := by simp; omega
  have t6 : (k == 6) = false := by simp; omega
  have t7 : (k == 7) = false := by simp; omega
  have t8 : (k == 8) = false := by simp; omega
  have t9 : (k == 9) = false := by simp; omega
  have t10 : (k == 10) = false := by simp; omega
  clear h hk
  go_enter Try.func10, Try.ntmps10
  go_wp2_with fail
  refine (split_64 x _).mono ?_
  rintro e w1 ⟨v1, rfl, l1, b1⟩
  have L1 : Hid (Lst w1 v1 (bl x.toNat 64)) := l1
  have B1 : Hid (Below w.heap.size w w1) := b1
  clear l1 b1
  go_wp2_with fail
  refine (split_64 y _).mono ?_
  rintro e w2 ⟨v2, rfl, l2, b2⟩
  have L2 : Hid (Lst w2 v2 (bl y.toNat 64)) := l2
  have B2 : Hid (Below w1.heap.size w1 w2) := b2
  clear l2 b2
  go_wp2_with fail
  go_ret2
  exact ⟨rfl, B1.out.trans (B2.out.mono B1.out.size)⟩
end Go.Proofs.Ythnjppfgdkiaaaa
