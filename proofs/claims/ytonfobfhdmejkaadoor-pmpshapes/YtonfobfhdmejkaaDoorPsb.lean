/-
  A range of a power of two: numbers, and the program's napot.
-/
import Derived.Test.YtonfobfhdmejkaaDoorPsa
namespace Go.Proofs.YtonfobfhdmejkaaDoor
set_option linter.unusedVariables false
open Go.ChangeShapes Go.WideShapes Go.ChangeAt Go.RowKit Go.Deep
/-- The trailing ones of an Addr. -/
def on (a : BitVec 64) : Nat := tz (~~~a)
theorem on_rep (a : BitVec 64) (h : a.toNat < 2 ^ 54) : (∃ r, a.toNat = 2 ^ (on a + 1) * r + (2 ^ on a - 1)) ∧ on a ≤ 54 := by
  have hx : (~~~a).toNat = 2 ^ 64 - 1 - a.toNat := BitVec.toNat_not
  have h0 : (~~~a).toNat ≠ 0 := by rw [hx]; omega
  have e : on a = Lib.ctzFrom 64 (~~~a).toNat := by unfold on tz Lib.ctz; rw [if_neg h0]
  obtain ⟨m, hm, hk⟩ := Lib.ctzFrom_spec 64 (~~~a).toNat (by omega) (~~~a).isLt
  rw [← e] at hm hk
  rw [hx] at hm
  generalize on a = n at *
  have hp : 0 < 2 ^ n := Nat.pow_pos (by omega)
  obtain ⟨d, hd⟩ : ∃ d, 64 = n + (d + 1) := ⟨63 - n, by omega⟩
  have h64 : (2 : Nat) ^ 64 = 2 ^ n * (2 * 2 ^ d) := by rw [hd, Nat.pow_add, Nat.pow_succ, Nat.mul_comm (2 ^ d) 2]
  have hA : a.toNat + 2 ^ n * (2 * m + 1) + 1 = 2 ^ n * (2 * 2 ^ d) := by rw [← h64]; omega
  have hmd : m < 2 ^ d := by
    apply Nat.lt_of_not_le
    intro hle
    have : 2 ^ n * (2 * 2 ^ d) ≤ 2 ^ n * (2 * m + 1) := Nat.mul_le_mul_left _ (by omega)
    omega
  obtain ⟨r, hr⟩ : ∃ r, 2 ^ d = m + r + 1 := ⟨2 ^ d - m - 1, by omega⟩
  have hA2 : a.toNat = 2 ^ (n + 1) * r + (2 ^ n - 1) := by
    rw [hr] at hA
    have e2 : 2 ^ n * (2 * (m + r + 1)) = 2 ^ n * (2 * m + 1) + 2 ^ n * (2 * r) + 2 ^ n := by
      rw [show 2 * (m + r + 1) = (2 * m + 1) + 2 * r + 1 by omega, Nat.mul_add, Nat.mul_add, Nat.mul_one]
    have e3 : 2 ^ (n + 1) * r = 2 ^ n * (2 * r) := by rw [Nat.pow_succ, Nat.mul_assoc]
    rw [e3]
    omega
  refine ⟨⟨r, hA2⟩, ?_⟩
  apply Nat.le_of_not_lt
  intro hlt
  have h1 : (2 : Nat) ^ 55 ≤ 2 ^ n := Nat.pow_le_pow_right (by omega) (by omega)
  have h2 : (2 : Nat) ^ 55 = 2 * 2 ^ 54 := by decide
  have h3 : 2 ^ n - 1 ≤ a.toNat := by rw [hA2]; omega
  omega
theorem on_div (a : BitVec 64) (h : a.toNat < 2 ^ 54) : a.toNat = 2 ^ (on a + 1) * (a.toNat / 2 ^ (on a + 1)) + (2 ^ on a - 1) := by
  obtain ⟨⟨r, hr⟩, _⟩ := on_rep a h
  have hp : 0 < 2 ^ on a := Nat.pow_pos (by omega)
  have hq : 2 ^ on a - 1 < 2 ^ (on a + 1) := by rw [Nat.pow_succ]; omega
  have : a.toNat / 2 ^ (on a + 1) = r := by
    rw [hr, Nat.mul_add_div (Nat.pow_pos (by omega)), Nat.div_eq_of_lt hq, Nat.add_zero]
  rw [this]
  exact hr
/-- The first and the last address. -/
def npF (a : BitVec 64) : BitVec 64 := if on a = 54 then 0#64 else BitVec.ofNat 64 (2 ^ (on a + 3) * (a.toNat / 2 ^ (on a + 1)))
def npL (a : BitVec 64) : BitVec 64 := if on a = 54 then ~~~0#64 else BitVec.ofNat 64 (2 ^ (on a + 3) * (a.toNat / 2 ^ (on a + 1)) + (2 ^ (on a + 3) - 1))
theorem np_bound (a : BitVec 64) (h : a.toNat < 2 ^ 54) (hn : on a < 54) : 2 ^ (on a + 3) * (a.toNat / 2 ^ (on a + 1)) + (2 ^ (on a + 3) - 1) < 2 ^ 58 := by
  have hd := on_div a h
  have e : 2 ^ (on a + 3) * (a.toNat / 2 ^ (on a + 1)) = 4 * (2 ^ (on a + 1) * (a.toNat / 2 ^ (on a + 1))) := by
    rw [show on a + 3 = (on a + 1) + 2 by omega, Nat.pow_add (m := on a + 1)]
    rw [Nat.mul_comm (2 ^ (on a + 1)) (2 ^ 2), Nat.mul_assoc]
  have hp : 2 ^ (on a + 3) ≤ 2 ^ 56 := Nat.pow_le_pow_right (by omega) (by omega)
  rw [e]
  omega
theorem four_div (a : BitVec 64) (h : a.toNat < 2 ^ 54) (hn : on a < 54) : 4 * a.toNat / 2 ^ (on a + 3) = a.toNat / 2 ^ (on a + 1) := by
  rw [show on a + 3 = 2 + (on a + 1) by omega, Nat.pow_add]
  rw [show (2 : Nat) ^ 2 = 4 from rfl, Nat.mul_div_mul_left _ _ (by omega)]
theorem clear_low (x : BitVec 64) (k : Nat) (hk : k < 64) : (x &&& ~~~(1#64 <<< k - 1#64)).toNat = 2 ^ k * (x.toNat / 2 ^ k) := by
  have hm : (1#64 <<< k - 1#64).toNat = 2 ^ k - 1 := by
    have h1 : 2 ^ k < 2 ^ 64 := Nat.pow_lt_pow_right (by omega) hk
    have h2 : 0 < 2 ^ k := Nat.pow_pos (by omega)
    have e1 : (1#64 <<< k).toNat = 2 ^ k := by
      rw [BitVec.toNat_shiftLeft, Nat.shiftLeft_eq, show (1#64 : BitVec 64).toNat = 1 from rfl, Nat.one_mul, Nat.mod_eq_of_lt h1]
    rw [BitVec.toNat_sub, e1, show (1#64 : BitVec 64).toNat = 1 from rfl]
    omega
  apply Nat.eq_of_testBit_eq
  intro i
  rw [← BitVec.getLsbD, BitVec.getLsbD_and, BitVec.getLsbD_not, BitVec.getLsbD, BitVec.getLsbD, hm, Nat.testBit_two_pow_sub_one, Nat.mul_comm, Nat.testBit_mul_two_pow, Nat.testBit_div_two_pow]
  by_cases h1 : k ≤ i
  · rw [Nat.sub_add_cancel h1]
    by_cases h2 : i < 64
    · simp [h1, h2, show ¬ i < k by omega]
    · have : x.toNat.testBit i = false := Nat.testBit_lt_two_pow (Nat.lt_of_lt_of_le x.isLt (Nat.pow_le_pow_right (by omega) (by omega)))
      simp [this]
  · simp [h1, show i < k by omega]
theorem unary_com (x : BitVec 64) : Op.unary .xor (.int .u64 (n64 x)) = pure (.int .u64 (n64 (~~~x))) := by
  have h : bits .xor .u64 (n64 (~~~0#64)) (n64 x) = n64 (~~~x) := by
    rw [n64_xor]; congr 1
  show pure (Value.int IntKind.u64 (bits .xor .u64 (n64 (~~~0#64)) (n64 x))) = _
  rw [h]
set_option maxRecDepth 100000 in
set_option maxHeartbeats 1000000 in
theorem napot_54 (a : BitVec 64) (h : on a = 54) (w : World) (hT : Tb w) : Calls Tryd.prog 27 #[.int .u64 (n64 a)] w fun e w' => e = .returned (.agg #[.int .u64 (n64 (npF a)), .int .u64 (n64 (npL a))]) ∧ Below w.heap.size w w' := by
  have e1 : npF a = 0#64 := by unfold npF; rw [if_pos h]
  have e2 : npL a = ~~~0#64 := by unfold npL; rw [if_pos h]
  have f1 : n64 (npF a) = 0 := by rw [e1]; rfl
  have f2 : n64 (npL a) = 18446744073709551615 := by rw [e2]; rfl
  rw [f1, f2]
  have HC : Hid (∀ W, Tb W → Calls Tryd.prog 29 #[.int .u64 (n64 (~~~a))] W fun e w' => e = .returned (.int .i64 54) ∧ w' = W) := fun W hW => by
    have := tz_c (~~~a) W hW
    rw [show tz (~~~a) = 54 from h] at this
    exact this
  have HT : Hid (Tb w) := hT
  have hu := unary_com a
  clear e1 e2 f1 f2 hT h
  generalize ~~~a = a2 at hu HC
  go_enter Tryd.func27, Tryd.ntmps27
  go_wp2_with (go_at_call 29; refine (HC.out _ (HT.out.alloc _)).mono ?_; rintro e w1 ⟨rfl, hw⟩; have hw2 := hw.symm; subst hw2)
  exact bodyPost_ret (v := .agg #[.int .u64 0, .int .u64 18446744073709551615]) (results_cell_row Tryd.results27 _ _ w.heap.size 44 _ (0, 0) _ (by rfl) (heap_alloc_last w _) Tryd.underlying44 (by rfl) (by kernel_rfl)) rfl ⟨rfl, (Below.refl _ _).alloc (Nat.le_refl _) _⟩
theorem one_shl (k : Nat) (hk : k < 64) : (1#64 <<< k).toNat = 2 ^ k := by
  rw [BitVec.toNat_shiftLeft, Nat.shiftLeft_eq, show (1#64 : BitVec 64).toNat = 1 from rfl, Nat.one_mul, Nat.mod_eq_of_lt (Nat.pow_lt_pow_right (by omega) hk)]
theorem mask_toNat (k : Nat) (hk : k < 64) : (1#64 <<< k - 1#64).toNat = 2 ^ k - 1 := by
  have h1 : 2 ^ k < 2 ^ 64 := Nat.pow_lt_pow_right (by omega) hk
  have h2 : 0 < 2 ^ k := Nat.pow_pos (by omega)
  rw [BitVec.toNat_sub, one_shl k hk, show (1#64 : BitVec 64).toNat = 1 from rfl]
  omega
theorem mask_int (k : Nat) : IntKind.u64.wrap (IntKind.u64.wrap (2 ^ k) - 1) = n64 (1#64 <<< k - 1#64) := by
  have h1 : IntKind.u64.wrap ((2 : Int) ^ k) = n64 (1#64 <<< k) := by
    have := n64_shl 1#64 k
    rw [show n64 1#64 = 1 from rfl, Int.one_mul] at this
    exact this
  rw [h1]
  exact n64_sub (1#64 <<< k) 1#64
theorem four_toNat (a : BitVec 64) (h : a.toNat < 2 ^ 54) : (a <<< 2).toNat = 4 * a.toNat := by
  rw [BitVec.toNat_shiftLeft, Nat.shiftLeft_eq]
  omega
theorem np_first (a : BitVec 64) (h54 : a.toNat < 2 ^ 54) (h : on a < 54) : bits .andNot .u64 (IntKind.u64.wrap (n64 a * 4)) (IntKind.u64.wrap (IntKind.u64.wrap (2 ^ (on a + 1 + 2)) - 1)) = n64 (npF a) := by
  rw [mask_int, show n64 a * (4 : Int) = n64 a * 2 ^ 2 from rfl, n64_shl, n64_andNot]
  congr 1
  apply BitVec.eq_of_toNat_eq
  have hb := np_bound a h54 h
  rw [clear_low _ _ (by omega), four_toNat a h54, show on a + 1 + 2 = on a + 3 by omega, four_div a h54 h, npF, if_neg (by omega), BitVec.toNat_ofNat, Nat.mod_eq_of_lt (by omega)]
theorem np_last (a : BitVec 64) (h54 : a.toNat < 2 ^ 54) (h : on a < 54) : bits .or .u64 (n64 (npF a)) (IntKind.u64.wrap (IntKind.u64.wrap (2 ^ (on a + 1 + 2)) - 1)) = n64 (npL a) := by
  rw [mask_int, n64_or]
  congr 1
  apply BitVec.eq_of_toNat_eq
  have hb := np_bound a h54 h
  have hp : 0 < 2 ^ (on a + 3) := Nat.pow_pos (by omega)
  rw [BitVec.toNat_or, mask_toNat _ (by omega), show on a + 1 + 2 = on a + 3 by omega, npF, if_neg (by omega), npL, if_neg (by omega), BitVec.toNat_ofNat, BitVec.toNat_ofNat, Nat.mod_eq_of_lt (by omega), Nat.mod_eq_of_lt (by omega)]
  exact (Nat.two_pow_add_eq_or_of_lt (show 2 ^ (on a + 3) - 1 < 2 ^ (on a + 3) by omega) _).symm
set_option maxRecDepth 100000 in
set_option maxHeartbeats 1000000 in
theorem napot_lt (a : BitVec 64) (h54 : a.toNat < 2 ^ 54) (h : on a < 54) (w : World) (hT : Tb w) : Calls Tryd.prog 27 #[.int .u64 (n64 a)] w fun e w' => e = .returned (.agg #[.int .u64 (n64 (npF a)), .int .u64 (n64 (npL a))]) ∧ Below w.heap.size w w' := by
  have HC : Hid (∀ W, Tb W → Calls Tryd.prog 29 #[.int .u64 (n64 (~~~a))] W fun e w' => e = .returned (.int .i64 (on a : Nat)) ∧ w' = W) := fun W hW => tz_c (~~~a) W hW
  have HT : Hid (Tb w) := hT
  have hu := unary_com a
  obtain ⟨n, hn⟩ : ∃ n, n = on a := ⟨_, rfl⟩
  rw [← hn] at HC
  have hnn : ((n : Int) == 54) = false := by
    have : ¬ (n : Int) = 54 := by omega
    simpa using this
  have hn54 : (n : Int) < 54 := by omega
  have HX1 := np_first a h54 h
  have HX2 := np_last a h54 h
  generalize n64 (npF a) = x1 at HX1 HX2 ⊢
  generalize n64 (npL a) = x2 at HX2 ⊢
  clear hT h54
  generalize ~~~a = a2 at hu HC
  go_enter Tryd.func27, Tryd.ntmps27
  go_wp2_with (go_at_call 29; refine (HC.out _ (HT.out.alloc _)).mono ?_; rintro e w1 ⟨rfl, hw⟩; have hw2 := hw.symm; subst hw2)
  refine bodyPost_ret (results_cell_row Tryd.results27 _ _ w.heap.size 44 _ (0, 0) _ (by rfl) (heap_alloc_last w _) Tryd.underlying44 (by rfl) (by kernel_rfl)) rfl ⟨?_, (Below.refl _ _).alloc (Nat.le_refl _) _⟩
  simp_all
theorem napot_c (a : BitVec 64) (h54 : a.toNat < 2 ^ 54) (w : World) (hT : Tb w) : Calls Tryd.prog 27 #[.int .u64 (n64 a)] w fun e w' => e = .returned (.agg #[.int .u64 (n64 (npF a)), .int .u64 (n64 (npL a))]) ∧ Below w.heap.size w w' := by
  by_cases h : on a = 54
  · exact napot_54 a h w hT
  · exact napot_lt a h54 (by have := (on_rep a h54).2; omega) w hT
end Go.Proofs.YtonfobfhdmejkaaDoor
