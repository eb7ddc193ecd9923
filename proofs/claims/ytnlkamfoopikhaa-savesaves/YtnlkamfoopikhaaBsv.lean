/-
  Bsv.
-/
import Derived.Test.YtnlkamfoopikhaaBsu
namespace Go.Proofs.Ytnlkamfoopikhaa
set_option linter.unusedVariables false
open Go.ChangeShapes Go.WideShapes Go.ChangeAt Go.RowKit Go.Deep Go.MuLone
theorem su_mem {L : Lay} {S : St} {vr ui : Value} {g : Nat} (j : Nat) (hj : j ≠ 84) : ∀ f, suKd L S vr ui g j ≠ .mem f := by
  intro f
  unfold suKd
  split <;> first | exact absurd rfl hj | simp
theorem su_fin : ∀ k, k < 85 → k ≠ 84 → k ∈ suNeed 84 := by decide
end Go.Proofs.Ytnlkamfoopikhaa
