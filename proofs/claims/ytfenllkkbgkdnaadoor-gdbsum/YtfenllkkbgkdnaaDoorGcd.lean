/-
  Layer 17 (gdb): what the rows lay: strconv.ErrSyntax.
-/
import Derived.Test.YtfenllkkbgkdnaaDoorGi
import Derived.Test.YtfenllkkbgkdnaaDoorCards
import Derived.Test.YtfenllkkbgkdnaaDoorTie
import Derived.PinnedBridge
import Derived.Lay
import Derived.LaidOnce
import Derived.SevenTiedAt
import Derived.Lib.LaidU8T
import Derived.LaidLaws
namespace Go.Proofs.YtfenllkkbgkdnaaDoor
set_option linter.unusedVariables false
set_option maxRecDepth 100000
open Go.ChangeShapes Go.WideShapes Go.ChangeAt Go.RowKit Go.Deep
theorem es_of_reads {W : World} {nm : String} {d : DataW Unit} (h : Lib.VarReads Tryd.prog W "strconv.ErrSyntax" (.iface nm d)) : Es W := by
  obtain ⟨g, t, cs, fuel, p, hg, ht, hv, hd⟩ := h
  have hg0 : Tryd.prog.globalNamed "strconv.ErrSyntax" = some 1 := by kernel_rfl
  have ht0 : (Tryd.prog.globals[1]?).map (·.type) = some 52 := by kernel_rfl
  obtain rfl := Option.some.inj (hg0.symm.trans hg)
  obtain rfl := Option.some.inj (ht0.symm.trans ht)
  obtain ⟨f1, u, v, e, _, _⟩ := iface_of_trod Tryd.underlying52 hd
  refine ⟨u, v, ?_⟩
  have q := World.var?_cell hg0 hv 0
  rw [q, ← Array.getElem?_toList, e]
  rfl
end Go.Proofs.YtfenllkkbgkdnaaDoor
