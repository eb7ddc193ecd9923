/-
  Wait, Effective, Return of the reference.
-/
import Derived.Test.YtnejdfkmnblfeaaTra
namespace Go.Proofs.Ytnejdfkmnblfeaa
set_option linter.unusedVariables false
open Go.ChangeShapes Go.WideShapes Go.ChangeAt Go.RowKit Go.Deep
/-- Does WFI stop here? -/
def stp (K : Cp) : Bool := decide (K.md = 0) && (K.s 0).getLsbD 21
def WTc (k : Cp) : Cp := if stp (PR k) then PR k else { PR k with wt := true }
def WTk (k : Cp) : Bool := !stp (PR k)
/-- The mode that counts. -/
def EF (k : Cp) : Int := if (PR k).md = 3 ∧ ((PR k).s 0).getLsbD 17 = true then mpB ((PR k).s 0) else (PR k).md
/-- mstatus behind a return. -/
def rtS (v : BitVec 64) : BitVec 64 := if mpB v = 0 then sB (wB (sB (sB v 3 (v.getLsbD 7)) 7 true) 0) 17 false else wB (sB (sB v 3 (v.getLsbD 7)) 7 true) 0
def RTk (k : Cp) : Bool := decide ((PR k).md = 3)
def RTc (k : Cp) : Cp := if (PR k).md = 3 then { PR k with pc := (PR k).s 7, md := mpB ((PR k).s 0), s := upd (PR k).s 0 (rtS ((PR k).s 0)), rv := false, ra := 0#64, rs := 0 } else PR k
end Go.Proofs.Ytnejdfkmnblfeaa
