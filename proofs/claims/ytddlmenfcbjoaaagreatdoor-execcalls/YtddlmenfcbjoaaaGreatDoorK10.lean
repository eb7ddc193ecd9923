import Derived.Test.YtddlmenfcbjoaaaGreatDoorK07
import Derived.Test.YtddlmenfcbjoaaaGreatDoorK08
import Derived.Test.YtddlmenfcbjoaaaGreatDoorK09
import Derived.Deep.RegionWith
import Derived.Deep.RegionHeld3
namespace Go.Proofs.YtddlmenfcbjoaaaGreatDoor
set_option linter.unusedVariables false
set_option maxRecDepth 100000
set_option maxHeartbeats 8000000
open Go.ChangeShapes Go.WideShapes Go.ChangeAt Go.RowKit Go.Deep Go.MuLone _root_.Go.Proofs.Tryz





theorem qS {α : Type} (l cs : List α) (k : Nat) (h : k + cs.length ≤ l.length) : (splice l k cs).length = l.length := by
 unfold splice
 simp only [List.length_append, List.length_take, List.length_drop]
 omega
end Go.Proofs.YtddlmenfcbjoaaaGreatDoor
