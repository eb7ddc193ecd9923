/-
  What the laws ask of the program.
-/
import Derived.Test.YtnejdfkmnblfeaaCpn
import Derived.Test.YtnejdfkmnblfeaaCpw
import Derived.Test.YtnejdfkmnblfeaaCoq
import Derived.ShutString
import Derived.ChangeOld
import Derived.BigRegion
import Derived.BigQuiet
import Derived.Deep.QuietTactic
namespace Go.Proofs.Ytnejdfkmnblfeaa
set_option linter.unusedVariables false
open Go.ChangeShapes Go.WideShapes Go.ChangeAt Go.RowKit Go.Deep
def CPr : Prop := ∀ (k : Cp) (W : World), Calls Try.prog 12 #[.agg (cpc k)] W fun e w' => e = .returned (.agg (cpc (PR k))) ∧ Below W.heap.size W w'
theorem later_at {W : World} {g j : Nat} {v : Value} (hg : g < W.heap.size) (h : W.cell? ⟨g, j, none⟩ = some v) : ∀ x : Later W, x.1.cell? ⟨g, j, none⟩ = some v := fun x => (later_cell x (by exact hg)).trans h
end Go.Proofs.Ytnejdfkmnblfeaa
