import Derived.Test.YtddlmenfcbjoaaaGreatDoorK20
import Derived.Test.YtddlmenfcbjoaaaGreatDoorK24
import Derived.Test.YtddlmenfcbjoaaaGreatDoorK25
namespace Go.Proofs.YtddlmenfcbjoaaaGreatDoor
set_option linter.unusedVariables false
set_option maxRecDepth 100000
set_option maxHeartbeats 8000000
open Go.ChangeShapes Go.WideShapes Go.ChangeAt Go.RowKit Go.Deep _root_.Go.Proofs.Tryz
def cM : Cp := { cz with pc := 2147483648#64, md := 3 }
theorem nU : Sok (St.zero 64) := by
 refine ⟨St.zero_ok rfl, ?_⟩
 have hr : fQ (St.zero 64).ram := fun x hx => by
  have q : x = 0 := by simp [St.zero] at hx; exact hx
  subst q; decide
 exact ⟨hr, fun x hx => (by simp [St.zero] at hx), fun x hx => (by simp [St.zero] at hx), by decide, by decide, by decide, by decide, by decide, by decide, by decide, by decide, by decide⟩
end Go.Proofs.YtddlmenfcbjoaaaGreatDoor
