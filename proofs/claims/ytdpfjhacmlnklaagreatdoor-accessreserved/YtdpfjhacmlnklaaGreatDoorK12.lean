import Derived.Test.YtdpfjhacmlnklaaGreatDoorK07
import Derived.Test.YtdpfjhacmlnklaaGreatDoorK08
import Derived.Test.YtdpfjhacmlnklaaGreatDoorK09
import Derived.Test.YtdpfjhacmlnklaaGreatDoorK10
import Derived.Test.YtdpfjhacmlnklaaGreatDoorK11
import Derived.Deep.RegionWith
namespace Go.Proofs.YtdpfjhacmlnklaaGreatDoor
set_option linter.unusedVariables false
set_option maxRecDepth 100000
set_option maxHeartbeats 8000000
open Go.ChangeShapes Go.WideShapes Go.ChangeAt Go.RowKit Go.Deep Go.MuLone _root_.Go.Proofs.Tryz





theorem nW {α : Type} (l cs : List α) (k : Nat) (h : k + cs.length ≤ l.length) : (splice l k cs).length = l.length := by
 unfold splice
 simp only [List.length_append, List.length_take, List.length_drop]
 omega
end Go.Proofs.YtdpfjhacmlnklaaGreatDoor
