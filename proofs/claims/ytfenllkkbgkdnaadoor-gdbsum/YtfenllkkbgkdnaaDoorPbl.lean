/-
  Pbl.
-/
import Derived.Test.YtfenllkkbgkdnaaDoorPba
namespace Go.Proofs.YtfenllkkbgkdnaaDoor
set_option linter.unusedVariables false
open Go.ChangeShapes Go.WideShapes Go.ChangeAt Go.RowKit Go.Deep
theorem n8_eq0 (x : BitVec 8) : (n8 x == 0) = decide (x = 0#8) := by
  by_cases h : x = 0#8
  · subst h; rfl
  · have : ¬ n8 x = 0 := fun e => h (n8_inj.1 (e.trans rfl))
    simp [h, this]
theorem pcl_even (x : BitVec 8) (h : x &&& 1#8 = 0#8) : pcl x = x &&& ~~~2#8 &&& 159#8 := by
  unfold pcl; rw [if_pos h, BitVec.and_assoc]; rfl
theorem pcl_odd (x : BitVec 8) (h : ¬ x &&& 1#8 = 0#8) : pcl x = x &&& 159#8 := by
  unfold pcl; rw [if_neg h]
theorem odd_159 : ∀ x : BitVec 8, x &&& 159#8 &&& 1#8 = x &&& 1#8 := by decide +kernel
theorem pcl_even' (x : BitVec 8) (h : x &&& 1#8 = 0#8) : pcl x = x &&& 159#8 &&& ~~~2#8 := by
  unfold pcl; rw [if_pos h, BitVec.and_assoc]; rfl
/-- An entry's lock, kind, rights. -/
def lk (x : BitVec 8) : Bool := decide (¬ x &&& 128#8 = 0#8)
def kd (x : BitVec 8) : BitVec 8 := x >>> 3 &&& 3#8
def rts (x : BitVec 8) : BitVec 8 := x &&& 7#8
end Go.Proofs.YtfenllkkbgkdnaaDoor
