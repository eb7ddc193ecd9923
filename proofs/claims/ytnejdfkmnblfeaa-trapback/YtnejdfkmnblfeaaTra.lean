/-
  Bits of a word, taken out and put in: bit, power, set, before, withBefore of the reference.
-/
import Derived.Test.YtnejdfkmnblfeaaTrm
namespace Go.Proofs.Ytnejdfkmnblfeaa
set_option linter.unusedVariables false
open Go.ChangeShapes Go.WideShapes Go.ChangeAt Go.RowKit Go.Deep
/-- A power of two. -/
def tp (n : Nat) : BitVec 64 := BitVec.twoPow 64 n
theorem tp_bit (n i : Nat) (hn : n < 64) (hi : i < 64) : (tp n).getLsbD i = decide (i = n) := by
  unfold tp
  rw [BitVec.getLsbD_twoPow]
  by_cases h : i = n
  · subst h; simp [hi]
  · simp [h, Ne.symm h]
/-- A word with a bit so. -/
def sB (v : BitVec 64) (n : Nat) (on : Bool) : BitVec 64 := if on then v ||| tp n else v &&& ~~~tp n
theorem sB_bit (v : BitVec 64) (n i : Nat) (hn : n < 64) (hi : i < 64) (on : Bool) : (sB v n on).getLsbD i = if i = n then on else v.getLsbD i := by
  unfold sB
  cases on with
  | true =>
    rw [if_pos rfl, BitVec.getLsbD_or, tp_bit n i hn hi]
    by_cases h : i = n <;> simp [h]
  | false =>
    rw [if_neg (by decide), BitVec.getLsbD_and, BitVec.getLsbD_not, tp_bit n i hn hi]
    by_cases h : i = n <;> simp [h, hi]
/-- A bit that is there already. -/
theorem sB_is (v : BitVec 64) (n : Nat) (hn : n < 64) (on : Bool) (h : v.getLsbD n = on) : sB v n on = v := by
  apply BitVec.eq_of_getLsbD_eq
  intro i hi
  rw [sB_bit v n i hn hi]
  by_cases e : i = n
  · subst e; rw [if_pos rfl, h]
  · rw [if_neg e]
theorem sB_add (v : BitVec 64) (n : Nat) (hn : n < 64) (h : v.getLsbD n = false) : v + tp n = sB v n true := by
  unfold sB
  rw [if_pos rfl]
  refine BitVec.add_eq_or_of_and_eq_zero v (tp n) ?_
  apply BitVec.eq_of_getLsbD_eq
  intro i hi
  rw [BitVec.getLsbD_and, tp_bit n i hn hi]
  by_cases e : i = n
  · subst e; simp [h]
  · simp [e]
theorem sB_sub (v : BitVec 64) (n : Nat) (hn : n < 64) (h : v.getLsbD n = true) : v - tp n = sB v n false := by
  have e : sB v n false + tp n = v := by
    rw [sB_add _ n hn (by rw [sB_bit v n n hn hn, if_pos rfl])]
    apply BitVec.eq_of_getLsbD_eq
    intro i hi
    rw [sB_bit _ n i hn hi, sB_bit _ n i hn hi]
    by_cases e : i = n
    · subst e; rw [if_pos rfl, h]
    · rw [if_neg e, if_neg e]
  calc v - tp n = sB v n false + tp n - tp n := by rw [e]
    _ = sB v n false := by rw [BitVec.add_sub_cancel]
theorem n64_half (v : BitVec 64) (i : Nat) : n64 (v >>> i) / 2 = n64 (v >>> (i + 1)) := by
  rw [show (2 : Int) = 2 ^ 1 from rfl, n64_shr, ← BitVec.shiftRight_add]
theorem n64_odd (v : BitVec 64) (n : Nat) : (n64 (v >>> n) % 2 == 1) = v.getLsbD n := by
  have h1 : v.getLsbD n = decide (v.toNat / 2 ^ n % 2 = 1) := by
    rw [BitVec.getLsbD, Nat.testBit_eq_decide_div_mod_eq]
  rw [h1]
  have h2 : n64 (v >>> n) = ((v.toNat / 2 ^ n : Nat) : Int) := by
    unfold n64
    rw [BitVec.toNat_ushiftRight, Nat.shiftRight_eq_div_pow]
  rw [h2, Bool.eq_iff_iff, beq_iff_eq, decide_eq_true_iff]
  omega
theorem tp_dbl (i : Nat) (h : i < 63) : tp i * 2#64 = tp (i + 1) := by
  unfold tp
  apply BitVec.eq_of_toNat_eq
  rw [BitVec.toNat_mul, BitVec.toNat_twoPow, BitVec.toNat_twoPow]
  rw [Nat.mod_eq_of_lt (Nat.pow_lt_pow_right (by decide) (by omega)), Nat.pow_succ]
  rfl
set_option maxRecDepth 100000 in
theorem rbit_c (v : BitVec 64) (n : Nat) (hn : n < 64) (w : World) : Calls Try.prog 21 #[.int .u64 (n64 v), .int .i64 (n : Int)] w fun e w' => e = .returned (.bool (v.getLsbD n)) ∧ w' = w := by
  go_enter Try.func21, Try.ntmps21
  go_wp2
  go_loopw [0, 5] (fun x i wr => ∃ k : Nat, k ≤ n ∧ i = .int .i64 k ∧ x = .int .u64 (n64 (v >>> k)) ∧ wr = w) (fun _ i _ => n - (intOf i).toNat)
  case atStart => exact ⟨0, Nat.zero_le _, rfl, by rw [BitVec.ushiftRight_zero], rfl⟩
  case round =>
    obtain ⟨k, hk, rfl, rfl, hwr⟩ := hrel
    subst hwr
    by_cases hlt : k < n
    · have hlt2 : (k : Int) < n := by omega
      have hd := n64_half v k
      have hlo := n64_lo (v >>> k)
      have hhi := n64_hi (v >>> k)
      obtain ⟨z, hz⟩ : ∃ z, z = n64 (v >>> (k + 1)) := ⟨_, rfl⟩
      rw [← hz] at hd
      have HZ : Hid (z = n64 (v >>> (k + 1))) := hz
      clear hz
      generalize n64 (v >>> k) = y at hd hlo hhi ⊢
      go_wp2
      go_roundw
      case rel => exact ⟨k + 1, hlt, by go_num, by rw [hd, HZ.out], trivial⟩
      case measure => simp [intOf]; omega
    · obtain rfl : k = n := by omega
      have ho := n64_odd v k
      have hlo := n64_lo (v >>> k)
      generalize n64 (v >>> k) = y at ho hlo ⊢
      have HO : Hid ((y % 2 == 1) = v.getLsbD k) := ho
      clear ho
      go_wp2
      go_ret
      exact ⟨by rw [← HO.out]; rfl, rfl⟩
/-- MPP as a mode; a word with MPP a mode. -/
def mpB (v : BitVec 64) : Int := if v.getLsbD 11 then 3 else 0
def wB (v : BitVec 64) (m : Int) : BitVec 64 := sB (sB v 11 (m == 3)) 12 (m == 3)
end Go.Proofs.Ytnejdfkmnblfeaa
