/-
  Pbl.
-/
import Derived.Test.YtnlkamfoopikhaaPba
namespace Go.Proofs.Ytnlkamfoopikhaa
set_option linter.unusedVariables false
open Go.ChangeShapes Go.WideShapes Go.ChangeAt Go.RowKit Go.Deep
theorem n8_eq0 (x : BitVec 8) : (n8 x == 0) = decide (x = 0#8) := by
  by_cases h : x = 0#8
  · subst h; rfl
  · have : ¬ n8 x = 0 := fun e => h (n8_inj.1 (e.trans rfl))
    simp [h, this]
theorem pcl_even (x : BitVec 8) (h : x &&& 1#8 = 0#8) : pcl x = x &&& ~~~2#8 &&& 159#8 := by
  unfold pcl; rw [if_pos h, BitVec.and_assoc]; rfl
theorem pcl_odd (x : BitVec 8) (h : ¬ x &&& 1#8 = 0#8) : pcl x = x &&& 159#8 := by
  unfold pcl; rw [if_neg h]
theorem odd_159 : ∀ x : BitVec 8, x &&& 159#8 &&& 1#8 = x &&& 1#8 := by decide +kernel
theorem pcl_even' (x : BitVec 8) (h : x &&& 1#8 = 0#8) : pcl x = x &&& 159#8 &&& ~~~2#8 := by
  unfold pcl; rw [if_pos h, BitVec.and_assoc]; rfl
theorem properCfg_c (x : BitVec 8) (w : World) : Calls Try.prog 80 #[.int .u8 (n8 x)] w fun e w' => e = .returned (.int .u8 (n8 (pcl x))) ∧ w' = w := by
  have b1 : bits .and .u8 (n8 x) 1 = n8 (x &&& 1#8) := n8_and x 1#8
  by_cases h : x &&& 1#8 = 0#8
  · have b2 : bits .andNot .u8 (n8 x) 2 = n8 (x &&& ~~~2#8) := n8_andNot x 2#8
    have b3 : bits .and .u8 (n8 (x &&& ~~~2#8)) 159 = n8 (x &&& ~~~2#8 &&& 159#8) := n8_and _ 159#8
    have e0 : (n8 (x &&& 1#8) == 0) = true := by rw [h]; rfl
    rw [pcl_even x h]
    generalize x &&& ~~~2#8 = y at b2 b3 ⊢
    generalize x &&& 1#8 = z at b1 e0
    clear h
    go_enter Try.func80, Try.ntmps80
    go_wp2
    go_ret
    exact ⟨rfl, rfl⟩
  · have b3 : bits .and .u8 (n8 x) 159 = n8 (x &&& 159#8) := n8_and _ 159#8
    have e0 : (n8 (x &&& 1#8) == 0) = false := by rw [n8_eq0]; simpa using h
    rw [pcl_odd x h]
    generalize x &&& 1#8 = z at b1 e0
    clear h
    go_enter Try.func80, Try.ntmps80
    go_wp2
    go_ret
    exact ⟨rfl, rfl⟩
theorem cleaned_c (x : BitVec 8) (w : World) : Calls Try.prog 70 #[.int .u8 (n8 x)] w fun e w' => e = .returned (.int .u8 (n8 (pcl x))) ∧ w' = w := by
  have b0 : bits .and .u8 (n8 x) 159 = n8 (x &&& 159#8) := n8_and x 159#8
  have b1 : bits .and .u8 (n8 (x &&& 159#8)) 1 = n8 (x &&& 1#8) := by rw [← odd_159 x]; exact n8_and _ 1#8
  by_cases h : x &&& 1#8 = 0#8
  · have b2 : bits .andNot .u8 (n8 (x &&& 159#8)) 2 = n8 (x &&& 159#8 &&& ~~~2#8) := n8_andNot _ 2#8
    have e0 : (n8 (x &&& 1#8) == 0) = true := by rw [h]; rfl
    rw [pcl_even' x h]
    generalize x &&& 159#8 &&& ~~~2#8 = y at b2 ⊢
    generalize x &&& 159#8 = y' at b0 b1 b2
    generalize x &&& 1#8 = z at b1 e0
    clear h
    go_enter Try.func70, Try.ntmps70
    go_wp2
    go_ret
    exact ⟨rfl, rfl⟩
  · have e0 : (n8 (x &&& 1#8) == 0) = false := by rw [n8_eq0]; simpa using h
    rw [pcl_odd x h]
    generalize x &&& 159#8 = y' at b0 b1 ⊢
    generalize x &&& 1#8 = z at b1 e0
    clear h
    go_enter Try.func70, Try.ntmps70
    go_wp2
    go_ret
    exact ⟨rfl, rfl⟩
/-- An entry's lock, kind, rights. -/
def lk (x : BitVec 8) : Bool := decide (¬ x &&& 128#8 = 0#8)
def kd (x : BitVec 8) : BitVec 8 := x >>> 3 &&& 3#8
def rts (x : BitVec 8) : BitVec 8 := x &&& 7#8
end Go.Proofs.Ytnlkamfoopikhaa
