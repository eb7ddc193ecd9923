/-
  Bytes as numbers: a number's bytes, and the number of bytes.
-/
import Derived.Test.YtjdlbkjkooeceabNum
namespace Go.Proofs.Ytjdlbkjkooeceab
open Go.ChangeShapes Go.WideShapes Go.ChangeAt Go.RowKit
/-- The number whose lowest k bytes these are. -/
def tkN (l : List Int) : Nat → Nat
  | 0 => 0
  | k + 1 => tkN l k + (l.getD k 0).toNat * 256 ^ k
def tk (l : List Int) : Nat := tkN l (min l.length 8)
/-- The lowest n bytes of a number. -/
def ptL (N n : Nat) : List Int := (List.range n).map fun j => ((N / 256 ^ j % 256 : Nat) : Int)
def AllB (l : List Int) : Prop := ∀ x ∈ l, 0 ≤ x ∧ x ≤ 255
theorem getD_byte {l : List Int} (h : AllB l) (j : Nat) : 0 ≤ l.getD j 0 ∧ l.getD j 0 ≤ 255 := by
  by_cases hj : j < l.length
  · have : l.getD j 0 ∈ l := by simp [hj]
    exact h _ this
  · have e : l.getD j 0 = 0 := by simp [List.getD, List.getElem?_eq_none (show l.length ≤ j by omega)]
    omega
theorem ptL_length (N n : Nat) : (ptL N n).length = n := by simp [ptL]
theorem ptL_get (N n j : Nat) (h : j < n) : (ptL N n).getD j 0 = ((N / 256 ^ j % 256 : Nat) : Int) := by simp [ptL, h]
theorem ptL_succ (N n : Nat) : ptL N (n + 1) = ptL N n ++ [((N / 256 ^ n % 256 : Nat) : Int)] := by simp [ptL, List.range_succ]
theorem ptL_all (N n : Nat) : AllB (ptL N n) := by
  intro x hx
  simp only [ptL, List.mem_map] at hx
  obtain ⟨j, _, rfl⟩ := hx
  omega
theorem tkN_lt {l : List Int} (h : AllB l) : ∀ k, tkN l k < 256 ^ k
  | 0 => by simp [tkN]
  | k + 1 => by
    have ih := tkN_lt h k
    have hb := getD_byte h k
    have h2 : (l.getD k 0).toNat * 256 ^ k ≤ 255 * 256 ^ k := Nat.mul_le_mul_right _ (by omega)
    simp only [tkN, Nat.pow_succ]
    omega
theorem tkN_pt (N n : Nat) : ∀ k, k ≤ n → tkN (ptL N n) k = N % 256 ^ k
  | 0, _ => by simp [tkN, Nat.mod_one]
  | k + 1, hk => by
    rw [tkN, tkN_pt N n k (by omega), ptL_get N n k (by omega), Int.toNat_natCast, Nat.pow_succ, Nat.mod_mul]
    rw [Nat.mul_comm]
theorem tk_pt8 (N n : Nat) (hn : n = 8) (h : N < 18446744073709551616) : tk (ptL N n) = N := by
  subst hn
  unfold tk
  rw [ptL_length, show min 8 8 = 8 from rfl, tkN_pt N 8 8 (Nat.le_refl _)]
  exact Nat.mod_eq_of_lt h
theorem pt_tkN {l : List Int} (h : AllB l) : ∀ n, ∀ j, j < n → ((tkN l n / 256 ^ j % 256 : Nat) : Int) = l.getD j 0
  | 0, j, hj => by omega
  | n + 1, j, hj => by
    have hb := getD_byte h n
    have hlt := tkN_lt h n
    rw [tkN]
    by_cases hjn : j = n
    · subst hjn
      rw [Nat.add_mul_div_right _ _ (Nat.pow_pos (by decide)), Nat.div_eq_of_lt hlt, Nat.zero_add, Nat.mod_eq_of_lt (by omega)]
      omega
    · rw [← pt_tkN h n j (by omega)]
      congr 1
      obtain ⟨d, rfl⟩ : ∃ d, n = j + 1 + d := ⟨n - (j + 1), by omega⟩
      rw [show (l.getD (j + 1 + d) 0).toNat * 256 ^ (j + 1 + d) = 256 ^ j * (256 * ((l.getD (j + 1 + d) 0).toNat * 256 ^ d)) by
        rw [Nat.pow_add, Nat.pow_add, Nat.pow_one]; simp only [Nat.mul_comm, Nat.mul_left_comm, Nat.mul_assoc]]
      rw [Nat.add_mul_div_left _ _ (Nat.pow_pos (by decide)), Nat.add_mul_mod_self_left]
theorem pt_tk {l : List Int} (h : AllB l) (hl : l.length ≤ 8) : ptL (tk l) l.length = l := by
  have e0 : tk l = tkN l l.length := by unfold tk; rw [Nat.min_eq_left hl]
  rw [e0]
  apply List.ext_getElem
  · rw [ptL_length]
  · intro j h1 h2
    have e1 := ptL_get (tkN l l.length) l.length j h2
    have e2 := pt_tkN h l.length j h2
    rw [e2] at e1
    simp only [List.getD, List.getElem?_eq_getElem h2, List.getElem?_eq_getElem h1, Option.getD_some] at e1
    exact e1
theorem tk_lt {l : List Int} (h : AllB l) : tk l < 18446744073709551616 := by
  have h1 := tkN_lt h (min l.length 8)
  have h2 : 256 ^ min l.length 8 ≤ 256 ^ 8 := Nat.pow_le_pow_right (by decide) (by omega)
  unfold tk
  exact Nat.lt_of_lt_of_le h1 h2
end Go.Proofs.Ytjdlbkjkooeceab
