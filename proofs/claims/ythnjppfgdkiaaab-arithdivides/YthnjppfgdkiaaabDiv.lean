/-
  Quotients and what is left: the numbers.
-/
import Derived.Test.YthnjppfgdkiaaabLeafN
namespace Go.Proofs.Ythnjppfgdkiaaab
open Go.ChangeShapes Go.WideShapes Go.ChangeAt Go.RowKit

def sz (x : BitVec 64) : BitVec 64 := if ng x then -x else x
theorem sz_abs (x : BitVec 64) : n64 (sz x) = (x.toInt.natAbs : Int) := by
  have h1 := BitVec.toInt_eq_toNat_cond x
  have h2 := x.isLt
  unfold sz ng n64
  by_cases h : x.toInt < 0
  · simp only [h, decide_true, if_true]
    rw [BitVec.toNat_neg]
    split at h1 <;> omega
  · simp only [h, decide_false]
    split at h1 <;> simp <;> omega
theorem m1 (a b : BitVec 64) : qDivu a b * b + qRemu a b = a := by
  unfold qDivu qRemu
  by_cases h : b = 0#64
  · simp [h]
  · rw [if_neg h, if_neg h]
    apply BitVec.eq_of_toNat_eq
    have hd := Nat.div_add_mod a.toNat b.toNat
    have ha := a.isLt
    rw [BitVec.toNat_add, BitVec.toNat_mul, BitVec.toNat_udiv, BitVec.toNat_umod, Nat.mod_add_mod, Nat.mul_comm, hd, Nat.mod_eq_of_lt ha]
theorem sdiv_ofInt (a b : BitVec 64) : a.sdiv b = BitVec.ofInt 64 (a.toInt.tdiv b.toInt) := by
  apply BitVec.eq_of_toInt_eq; rw [BitVec.toInt_sdiv, BitVec.toInt_ofInt]
theorem srem_ofInt (a b : BitVec 64) : a.srem b = BitVec.ofInt 64 (a.toInt.tmod b.toInt) := by
  rw [← BitVec.toInt_srem, BitVec.ofInt_toInt]
theorem m2 (a b : BitVec 64) : qDiv a b * b + qRem a b = a := by
  unfold qDiv qRem
  by_cases h : b = 0#64
  · simp [h]
  · rw [if_neg h, if_neg h, sdiv_ofInt, srem_ofInt]
    have hb : b = BitVec.ofInt 64 b.toInt := BitVec.ofInt_toInt.symm
    have hd := Int.tdiv_mul_add_tmod a.toInt b.toInt
    conv => lhs; lhs; rhs; rw [hb]
    rw [← BitVec.ofInt_mul, ← BitVec.ofInt_add, hd, BitVec.ofInt_toInt]
theorem pos_of {b : BitVec 64} (h : ¬ b = 0#64) : 0 < b.toNat := by
  rcases Nat.eq_zero_or_pos b.toNat with h0 | h0
  · exact absurd (BitVec.eq_of_toNat_eq (by simpa using h0)) h
  · exact h0
theorem m3 {a b : BitVec 64} (h : ¬ b = 0#64) : n64 (qRemu a b) < n64 b := by
  unfold qRemu; rw [if_neg h]; unfold n64; rw [BitVec.toNat_umod]
  have := Nat.mod_lt a.toNat (pos_of h); omega
theorem m4 {a b : BitVec 64} (h : ¬ b = 0#64) (hq : 0 < n64 (qDivu a b)) : ¬ n64 a / n64 (qDivu a b) < n64 b := by
  unfold qDivu at *; rw [if_neg h] at *; unfold n64 at *; rw [BitVec.toNat_udiv] at *
  have h1 : b.toNat ≤ a.toNat / (a.toNat / b.toNat) := (Nat.le_div_iff_mul_le (by omega)).2 (Nat.mul_div_le _ _)
  intro hc
  rw [← Int.natCast_ediv] at hc
  omega
theorem toInt_ne {b : BitVec 64} (h : ¬ b = 0#64) : b.toInt ≠ 0 := fun hc => h (toInt_zero hc)
theorem m5 {a b : BitVec 64} (h : ¬ b = 0#64) : n64 (sz (qRem a b)) < n64 (sz b) := by
  unfold qRem; rw [if_neg h, sz_abs, sz_abs, BitVec.toInt_srem, Int.natAbs_tmod]
  have := Nat.mod_lt a.toInt.natAbs (Int.natAbs_pos.2 (toInt_ne h)); omega
theorem m6 {a b : BitVec 64} (h : ¬ b = 0#64) (ht : ¬ qRem a b = 0#64) : ng (qRem a b) = ng a := by
  have h0 := toInt_ne ht
  revert h0
  unfold ng qRem; rw [if_neg h, BitVec.toInt_srem]
  intro h0
  rw [Bool.eq_iff_iff]; simp only [decide_eq_true_eq]
  constructor
  · intro hl
    rcases Int.lt_or_le a.toInt 0 with h1 | h1
    · exact h1
    · have := Int.tmod_nonneg b.toInt h1; omega
  · intro hl
    rcases Int.lt_or_le (a.toInt.tmod b.toInt) 0 with h1 | h1
    · exact h1
    · have h2 := Int.tmod_nonneg (a := -a.toInt) b.toInt (by omega)
      rw [Int.neg_tmod] at h2; omega
theorem m7 {a b : BitVec 64} (h : ¬ b = 0#64) : n64 (sz (qDiv a b)) = n64 (sz a) / n64 (sz b) := by
  unfold qDiv; rw [if_neg h, sz_abs, sz_abs, sz_abs, BitVec.toInt_sdiv, ← Int.natCast_ediv]
  have he : (a.toInt.tdiv b.toInt).natAbs = a.toInt.natAbs / b.toInt.natAbs := Int.natAbs_tdiv _ _
  rw [← he]
  have h1 : (a.toInt.tdiv b.toInt).natAbs ≤ 9223372036854775808 := by
    rw [he]
    have h2 := BitVec.le_toInt a; have h3 := BitVec.toInt_lt (x := a)
    simp at h2 h3
    exact Nat.le_trans (Nat.div_le_self _ _) (by omega)
  rw [Int.bmod_def]
  generalize a.toInt.tdiv b.toInt = z at *
  split <;> omega

theorem unary_neg_n64 (x : BitVec 64) : Op.unary .neg (.int .u64 (n64 x)) = pure (.int .u64 (n64 (-x))) := by
  show (pure (Value.int IntKind.u64 (IntKind.u64.wrap (0 - n64 x))) : Sem Value) = _
  have h : IntKind.u64.wrap (0 - n64 x) = n64 (-x) := by
    rw [IntKind.wrap_u64]; unfold n64; rw [BitVec.toNat_neg]; have := x.isLt; omega
  rw [h]
theorem size_any (x : BitVec 64) (w : World) : Calls Try.prog 17 #[.int .u64 (n64 x)] w fun e w' => e = .returned (.int .u64 (n64 (sz x))) ∧ w' = w := by
  have r := unary_neg_n64
  unfold sz
  cases h : ng x
  all_goals
    simp only [Bool.false_eq_true, if_false, if_true]
    go_enter Try.func17, Try.ntmps17
    go_wp2_with (go_at_call 12; refine (negative_is x _ h _).mono ?_; rintro e w' ⟨rfl, rfl⟩)
    go_ret
    exact ⟨rfl, rfl⟩
end Go.Proofs.Ythnjppfgdkiaaab
