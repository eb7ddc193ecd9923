/-
  Span of the reference.
-/
import Derived.Test.YtonfobfhdmejkaaDoorPsd
namespace Go.Proofs.YtonfobfhdmejkaaDoor
set_option linter.unusedVariables false
open Go.ChangeShapes Go.WideShapes Go.ChangeAt Go.RowKit Go.Deep
end Go.Proofs.YtonfobfhdmejkaaDoor
