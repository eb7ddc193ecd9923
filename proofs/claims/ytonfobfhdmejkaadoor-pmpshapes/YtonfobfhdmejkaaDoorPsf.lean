/-
  Span of the reference: a range of a power of two.
-/
import Derived.Test.YtonfobfhdmejkaaDoorPse
namespace Go.Proofs.YtonfobfhdmejkaaDoor
set_option linter.unusedVariables false
open Go.ChangeShapes Go.WideShapes Go.ChangeAt Go.RowKit Go.Deep
end Go.Proofs.YtonfobfhdmejkaaDoor
