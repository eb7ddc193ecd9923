import Derived.Test.YtlhgphokfpnfeaaGreatDoorK06
import Derived.Test.YtlhgphokfpnfeaaGreatDoorK07
import Derived.Test.YtlhgphokfpnfeaaGreatDoorK08
import Derived.Deep.RegionWith
namespace Go.Proofs.YtlhgphokfpnfeaaGreatDoor
set_option linter.unusedVariables false
open Go.ChangeShapes Go.WideShapes Go.ChangeAt Go.RowKit Go.Deep
/-- The blocks of the document's bus. -/
def Rown (c : Nat) (vr vi vo : Value) (k : Nat) : Prop := k = c ∨ vr.ownBlock = some k ∨ vi.ownBlock = some k ∨ vo.ownBlock = some k
end Go.Proofs.YtlhgphokfpnfeaaGreatDoor
