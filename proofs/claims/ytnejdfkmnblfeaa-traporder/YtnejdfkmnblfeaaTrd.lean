/-
  Enter of the reference.
-/
import Derived.Test.YtnejdfkmnblfeaaTrc
import Derived.Test.YtnejdfkmnblfeaaQtl
namespace Go.Proofs.Ytnejdfkmnblfeaa
set_option linter.unusedVariables false
open Go.ChangeShapes Go.WideShapes Go.ChangeAt Go.RowKit Go.Deep
/-- mstatus behind an entry; the handler's address; the Cpu behind an entry. -/
def enS (v : BitVec 64) (md : Int) : BitVec 64 := wB (sB (sB v 7 (v.getLsbD 3)) 3 false) md
def hbs (tv : BitVec 64) : BitVec 64 := tv - tv % 4#64
def hdl (tv cause : BitVec 64) : BitVec 64 := if (cause.getLsbD 63 && tv.getLsbD 0) = true then hbs tv + 4#64 * (cause - tp 63) else hbs tv
def ENc (k : Cp) (cause tval : BitVec 64) : Cp := { PR k with pc := hdl ((PR k).s 1) cause, md := 3, wt := false, s := upd (upd (upd (upd (PR k).s 7 (PR k).pc) 8 cause) 9 tval) 0 (enS ((PR k).s 0) (PR k).md), rv := false, ra := 0#64, rs := 0 }
theorem hbs_n (tv : BitVec 64) : n64 tv - n64 tv % 4 = n64 (hbs tv) := by
  have h1 : n64 tv % 4 = n64 (tv % 4#64) := n64_mod tv 4#64
  have h2 : (tv % 4#64).toNat ≤ tv.toNat := by rw [BitVec.toNat_umod]; exact Nat.mod_le _ _
  rw [h1]
  unfold hbs n64
  rw [BitVec.toNat_sub_of_le (by rw [BitVec.le_def]; exact h2)]
  omega
end Go.Proofs.Ytnejdfkmnblfeaa
