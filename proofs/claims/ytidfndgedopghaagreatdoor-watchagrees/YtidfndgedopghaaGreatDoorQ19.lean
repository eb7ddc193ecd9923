/-
  Cms.
-/
import Derived.Test.YtidfndgedopghaaGreatDoorQ18
import Derived.Test.YtidfndgedopghaaGreatDoorQ07
namespace Go.Proofs.YtidfndgedopghaaGreatDoor
set_option linter.unusedVariables false
open Go.ChangeShapes Go.WideShapes Go.ChangeAt Go.RowKit Go.Deep
theorem bits6144 : ∀ i, i < 11 → (6144#64).getLsbD i = false := by decide
theorem and6144 (v : BitVec 64) : v &&& 6144#64 = (v >>> 11 &&& 3#64) <<< 11 := by
  rw [BitVec.shiftLeft_and_distrib, show (3#64 <<< 11 : BitVec 64) = 6144#64 by decide]
  apply BitVec.eq_of_getLsbD_eq
  intro i hi
  by_cases h : i < 11
  · simp [bits6144 i h]
  · simp [hi, h, Nat.add_sub_cancel' (Nat.le_of_not_lt h)]
theorem mask6144 (v : BitVec 64) : (v &&& 2234504#64) >>> 11 &&& 3#64 = v >>> 11 &&& 3#64 := by
  rw [BitVec.ushiftRight_and_distrib, BitVec.and_assoc, show ((2234504#64) >>> 11 &&& 3#64 : BitVec 64) = 3#64 by decide]
theorem four {z : BitVec 64} (h : z.toNat ≤ 3) : z = 0#64 ∨ z = 1#64 ∨ z = 2#64 ∨ z = 3#64 := by
  have : z.toNat = 0 ∨ z.toNat = 1 ∨ z.toNat = 2 ∨ z.toNat = 3 := by omega
  rcases this with e | e | e | e
  · exact Or.inl (BitVec.eq_of_toNat_eq e)
  · exact Or.inr (Or.inl (BitVec.eq_of_toNat_eq e))
  · exact Or.inr (Or.inr (Or.inl (BitVec.eq_of_toNat_eq e)))
  · exact Or.inr (Or.inr (Or.inr (BitVec.eq_of_toNat_eq e)))
theorem and3_le (v : BitVec 64) : (v &&& 3#64).toNat ≤ 3 := by rw [BitVec.toNat_and]; exact Nat.le_trans Nat.and_le_right (by decide)
/-- MPP is 1 or 2: just where it is neither 0 nor all ones. -/
theorem mq_iff (v : BitVec 64) : mq v ↔ ¬ (v &&& 6144#64 = 0#64 ∨ v &&& 6144#64 = 6144#64) := by
  unfold mq
  rw [and6144]
  rcases four (and3_le (v >>> 11)) with e | e | e | e <;> rw [e] <;> decide
theorem mq_mask (v : BitVec 64) : mq (v &&& 2234504#64) ↔ mq v := by unfold mq; rw [mask6144]
/-- Does MPP name a mode? -/
def nm (v : BitVec 64) : Bool := decide (¬ mq v)
/-- MPP. -/
def bfB (v : BitVec 64) : BitVec 64 := v >>> 11 &&& 3#64
theorem bf_alt (v : BitVec 64) : (v &&& 6144#64) >>> 11 = bfB v := by
  unfold bfB
  rw [BitVec.ushiftRight_and_distrib, show ((6144#64) >>> 11 : BitVec 64) = 3#64 by decide]
theorem bf_le (v : BitVec 64) : n64 (bfB v) ≤ 3 := by
  have h := and3_le (v >>> 11)
  unfold bfB n64; omega
theorem nm_alt (v : BitVec 64) : nm v = (n64 (bfB v) == 0 || n64 (bfB v) == 3) := by
  unfold nm mq bfB
  rcases four (and3_le (v >>> 11)) with e | e | e | e <;> rw [e] <;> decide
set_option maxRecDepth 100000 in
theorem before_c (v : BitVec 64) (w : World) : Calls Tryz.prog 143 #[.int .u64 (n64 v)] w fun e w' => e = .returned (.int .i64 (n64 (bfB v))) ∧ w' = w := by
  have b0 : bits .and .u64 (n64 v) 6144 = n64 (v &&& 6144#64) := n64_and v 6144#64
  have b1 : n64 (v &&& 6144#64) / (2048 : Int) = n64 ((v &&& 6144#64) >>> 11) := n64_shr _ 11
  rw [bf_alt] at b1
  have hlo := n64_lo (bfB v)
  have hhi := bf_le v
  generalize n64 (bfB v) = z at b1 hlo hhi ⊢
  generalize n64 (v &&& 6144#64) = y at b0 b1
  go_enter Tryz.func143, Tryz.ntmps143
  go_wp2
  go_ret
  exact ⟨by rfl, rfl⟩
set_option maxRecDepth 100000 in
theorem withBefore_c (v z : BitVec 64) (hz : n64 z ≤ 3) (w : World) : Calls Tryz.prog 163 #[.int .u64 (n64 v), .int .i64 (n64 z)] w fun e w' => e = .returned (.int .u64 (n64 (v &&& ~~~6144#64 ||| z <<< 11 &&& 6144#64))) ∧ w' = w := by
  have b0 : bits .andNot .u64 (n64 v) 6144 = n64 (v &&& ~~~6144#64) := n64_andNot v 6144#64
  have b1 : IntKind.u64.wrap (n64 z * 2048) = n64 (z <<< 11) := n64_shl z 11
  have b2 : bits .and .u64 (n64 (z <<< 11)) 6144 = n64 (z <<< 11 &&& 6144#64) := n64_and _ 6144#64
  have b3 := n64_or (v &&& ~~~6144#64) (z <<< 11 &&& 6144#64)
  have hlo := n64_lo z
  generalize n64 (v &&& ~~~6144#64 ||| z <<< 11 &&& 6144#64) = y3 at b3 ⊢
  generalize n64 (z <<< 11 &&& 6144#64) = y2 at b2 b3
  generalize n64 (z <<< 11) = y1 at b1 b2
  generalize n64 (v &&& ~~~6144#64) = y0 at b0 b3
  generalize n64 z = zz at b1 hz hlo ⊢
  go_enter Tryz.func163, Tryz.ntmps163
  go_wp2
  go_ret
  exact ⟨by rfl, rfl⟩
set_option maxRecDepth 100000 in
theorem namesMode_c (v : BitVec 64) (w : World) : Calls Tryz.prog 128 #[.int .u64 (n64 v)] w fun e w' => e = .returned (.bool (nm v)) ∧ w' = w := by
  have HB : Hid (∀ W, Calls Tryz.prog 143 #[.int .u64 (n64 v)] W fun e w' => e = .returned (.int .i64 (n64 (bfB v))) ∧ w' = W) := before_c v
  rw [nm_alt]
  generalize n64 (bfB v) = z at HB ⊢
  by_cases h0 : z = 0
  · subst h0
    go_enter Tryz.func128, Tryz.ntmps128
    go_wp2_with (go_at_call 143; refine (HB.out _).mono ?_; rintro e w1 ⟨rfl, hw1⟩; subst hw1)
    go_ret
    exact ⟨rfl, rfl⟩
  · have e0 : (z == 0) = false := by simp [h0]
    rw [e0, Bool.false_or]
    go_enter Tryz.func128, Tryz.ntmps128
    go_wp2_with (go_at_call 143; refine (HB.out _).mono ?_; rintro e w1 ⟨rfl, hw1⟩; subst hw1)
    go_ret
    exact ⟨by rfl, rfl⟩
end Go.Proofs.YtidfndgedopghaaGreatDoor
