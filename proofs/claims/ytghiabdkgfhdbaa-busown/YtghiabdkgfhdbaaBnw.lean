/-
  New of both.
-/
import Derived.Test.YtghiabdkgfhdbaaBsn
namespace Go.Proofs.Ytghiabdkgfhdbaa
set_option linter.unusedVariables false
open Go.ChangeShapes Go.WideShapes Go.ChangeAt Go.RowKit Go.Deep
/-- The state of a new bus. -/
def St.zero (n : Nat) : St := ⟨List.replicate n 0, 0, 18446744073709551615, 0, false, false, 0, 0, 0, 0, false, [], [], 0, 0⟩
theorem St.zero_ok {n : Nat} (h : ramOk n = true) : (St.zero n).ok = true := by
  simp [St.ok, St.zero, h, powOk]
def ramOkZ (z : Int) : Bool := decide (8 ≤ z) && decide (z ≤ 65536) && (z % 8 == 0)
theorem ramOkZ_nat (n : Nat) : ramOkZ n = ramOk n := rfl
theorem isRamSize_z (z : Int) (w : World) : Calls Try.prog 62 #[.int .i64 z] w fun e w' => e = .returned (.bool (ramOkZ z)) ∧ w' = w := by
  rcases Int.lt_or_le z 0 with h | h
  · have h1 : z < 8 := by omega
    have HX : Hid (ramOkZ z = false) := by unfold Hid ramOkZ; simp; omega
    generalize ramOkZ z = b at HX ⊢
    go_enter Try.func62, Try.ntmps62
    go_wp2
    go_ret
    exact ⟨by cases HX.out; rfl, rfl⟩
  · have := isRamSize_c z.toNat w
    rw [← ramOkZ_nat, Int.toNat_of_nonneg h] at this
    exact this
end Go.Proofs.Ytghiabdkgfhdbaa
