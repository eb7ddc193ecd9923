/-
  Small functions on one entry.
-/
import Derived.Test.YtnnkeodiacdmaabPba
namespace Go.Proofs.Ytnnkeodiacdmaab
set_option linter.unusedVariables false
open Go.ChangeShapes Go.WideShapes Go.ChangeAt Go.RowKit Go.Deep
theorem n8_eq0 (x : BitVec 8) : (n8 x == 0) = decide (x = 0#8) := by
  by_cases h : x = 0#8
  · subst h; rfl
  · have : ¬ n8 x = 0 := fun e => h (n8_inj.1 (e.trans rfl))
    simp [h, this]
theorem pcl_even (x : BitVec 8) (h : x &&& 1#8 = 0#8) : pcl x = x &&& ~~~2#8 &&& 159#8 := by
  unfold pcl; rw [if_pos h, BitVec.and_assoc]; rfl
theorem pcl_odd (x : BitVec 8) (h : ¬ x &&& 1#8 = 0#8) : pcl x = x &&& 159#8 := by
  unfold pcl; rw [if_neg h]
theorem odd_159 : ∀ x : BitVec 8, x &&& 159#8 &&& 1#8 = x &&& 1#8 := by decide +kernel
theorem pcl_even' (x : BitVec 8) (h : x &&& 1#8 = 0#8) : pcl x = x &&& 159#8 &&& ~~~2#8 := by
  unfold pcl; rw [if_pos h, BitVec.and_assoc]; rfl
theorem properCfg_c (x : BitVec 8) (w : World) : Calls Try.prog 44 #[.int .u8 (n8 x)] w fun e w' => e = .returned (.int .u8 (n8 (pcl x))) ∧ w' = w := by
  have b1 : bits .and .u8 (n8 x) 1 = n8 (x &&& 1#8) := n8_and x 1#8
  by_cases h : x &&& 1#8 = 0#8
  · have b2 : bits .andNot .u8 (n8 x) 2 = n8 (x &&& ~~~2#8) := n8_andNot x 2#8
    have b3 : bits .and .u8 (n8 (x &&& ~~~2#8)) 159 = n8 (x &&& ~~~2#8 &&& 159#8) := n8_and _ 159#8
    have e0 : (n8 (x &&& 1#8) == 0) = true := by rw [h]; rfl
    rw [pcl_even x h]
    generalize x &&& ~~~2#8 = y at b2 b3 ⊢
    generalize x &&& 1#8 = z at b1 e0
    clear h
    go_enter Try.func44, Try.ntmps44
    go_wp2
    go_ret
    exact ⟨rfl, rfl⟩
  · have b3 : bits .and .u8 (n8 x) 159 = n8 (x &&& 159#8) := n8_and _ 159#8
    have e0 : (n8 (x &&& 1#8) == 0) = false := by rw [n8_eq0]; simpa using h
    rw [pcl_odd x h]
    generalize x &&& 1#8 = z at b1 e0
    clear h
    go_enter Try.func44, Try.ntmps44
    go_wp2
    go_ret
    exact ⟨rfl, rfl⟩
theorem cleaned_c (x : BitVec 8) (w : World) : Calls Try.prog 42 #[.int .u8 (n8 x)] w fun e w' => e = .returned (.int .u8 (n8 (pcl x))) ∧ w' = w := by
  have b0 : bits .and .u8 (n8 x) 159 = n8 (x &&& 159#8) := n8_and x 159#8
  have b1 : bits .and .u8 (n8 (x &&& 159#8)) 1 = n8 (x &&& 1#8) := by rw [← odd_159 x]; exact n8_and _ 1#8
  by_cases h : x &&& 1#8 = 0#8
  · have b2 : bits .andNot .u8 (n8 (x &&& 159#8)) 2 = n8 (x &&& 159#8 &&& ~~~2#8) := n8_andNot _ 2#8
    have e0 : (n8 (x &&& 1#8) == 0) = true := by rw [h]; rfl
    rw [pcl_even' x h]
    generalize x &&& 159#8 &&& ~~~2#8 = y at b2 ⊢
    generalize x &&& 159#8 = y' at b0 b1 b2
    generalize x &&& 1#8 = z at b1 e0
    clear h
    go_enter Try.func42, Try.ntmps42
    go_wp2
    go_ret
    exact ⟨rfl, rfl⟩
  · have e0 : (n8 (x &&& 1#8) == 0) = false := by rw [n8_eq0]; simpa using h
    rw [pcl_odd x h]
    generalize x &&& 159#8 = y' at b0 b1 ⊢
    generalize x &&& 1#8 = z at b1 e0
    clear h
    go_enter Try.func42, Try.ntmps42
    go_wp2
    go_ret
    exact ⟨rfl, rfl⟩
theorem isEntry_c (i : Int) (w : World) : Calls Try.prog 70 #[.int .i64 i] w fun e w' => e = .returned (.bool (decide (0 ≤ i ∧ i < 16))) ∧ w' = w := by
  by_cases h0 : 0 ≤ i
  · by_cases h1 : i < 16
    · go_enter Try.func70, Try.ntmps70
      go_wp2
      go_ret
      exact ⟨by simp_all, rfl⟩
    · go_enter Try.func70, Try.ntmps70
      go_wp2
      go_ret
      exact ⟨by simp_all, rfl⟩
  · have h1 : i < 16 := by omega
    go_enter Try.func70, Try.ntmps70
    go_wp2
    go_ret
    exact ⟨by simp_all, rfl⟩
theorem firstOf_0 (w : World) : Calls Try.prog 67 #[.int .i64 0] w fun e w' => e = .returned (.tuple #[.int .i64 0, .bool true]) ∧ w' = w := by
  go_enter Try.func67, Try.ntmps67
  go_wp2
  go_ret2
  exact ⟨rfl, rfl⟩
theorem firstOf_2 (w : World) : Calls Try.prog 67 #[.int .i64 2] w fun e w' => e = .returned (.tuple #[.int .i64 8, .bool true]) ∧ w' = w := by
  go_enter Try.func67, Try.ntmps67
  go_wp2
  go_ret2
  exact ⟨rfl, rfl⟩
theorem firstOf_n (i : Int) (h0 : ¬ i = 0) (h2 : ¬ i = 2) (w : World) : Calls Try.prog 67 #[.int .i64 i] w fun e w' => e = .returned (.tuple #[.int .i64 0, .bool false]) ∧ w' = w := by
  go_enter Try.func67, Try.ntmps67
  go_wp2
  go_ret2
  exact ⟨rfl, rfl⟩
/-- An entry's lock, kind, rights. -/
def lk (x : BitVec 8) : Bool := decide (¬ x &&& 128#8 = 0#8)
def kd (x : BitVec 8) : BitVec 8 := x >>> 3 &&& 3#8
def rts (x : BitVec 8) : BitVec 8 := x &&& 7#8
theorem elocked_c (x : BitVec 8) (y : Value) (w : World) : Calls Try.prog 71 #[.agg #[.int .u8 (n8 x), y]] w fun e w' => e = .returned (.bool (lk x)) ∧ Below w.heap.size w w' := by
  have b1 : bits .and .u8 (n8 x) 128 = n8 (x &&& 128#8) := n8_and x 128#8
  have b2 : (n8 (x &&& 128#8) != 0) = lk x := by unfold bne; rw [n8_eq0]; unfold lk; simp
  generalize x &&& 128#8 = z at b1 b2
  generalize lk x = q at b2 ⊢
  go_enter Try.func71, Try.ntmps71
  go_wp2
  go_ret
  exact ⟨by simp_all, (Below.refl _ _).alloc (Nat.le_refl _) _⟩
theorem ekind_c (x : BitVec 8) (y : Value) (w : World) : Calls Try.prog 72 #[.agg #[.int .u8 (n8 x), y]] w fun e w' => e = .returned (.int .u8 (n8 (kd x))) ∧ Below w.heap.size w w' := by
  have b0 : n8 x / 8 = n8 (x >>> 3) := n8_shr x 3
  have b1 : bits .and .u8 (n8 (x >>> 3)) 3 = n8 (kd x) := n8_and (x >>> 3) 3#8
  generalize kd x = z at b1 ⊢
  generalize x >>> 3 = z' at b0 b1
  go_enter Try.func72, Try.ntmps72
  go_wp2
  go_ret
  exact ⟨by simp_all, (Below.refl _ _).alloc (Nat.le_refl _) _⟩
end Go.Proofs.Ytnnkeodiacdmaab
