/-
  Bsm.
-/
import Derived.Test.YtnlkamfoopikhaaBcp
import Derived.Test.YtnlkamfoopikhaaBra
namespace Go.Proofs.Ytnlkamfoopikhaa
set_option linter.unusedVariables false
open Go.ChangeShapes Go.WideShapes Go.ChangeAt Go.RowKit Go.Deep
/-- The cells of a state whose lists lie in this world. -/
structure Bs (S : St) (vr vi vo : Value) (w : World) : Prop where
  r : Byt w vr S.ram
  i : Byt w vi S.inp
  o : Byt w vo S.out
theorem Bs.later {S : St} {vr vi vo : Value} {w w' : World} (h : Bs S vr vi vo w) (hb : Below w.heap.size w w') : Bs S vr vi vo w' := ⟨h.r.later hb rfl, h.i.later hb rfl, h.o.later hb rfl⟩
theorem Sv.bs {B : Nat} {S : St} {vr vi vo : Value} {w : World} (h : Sv B S vr vi vo w) : Bs S vr vi vo w := ⟨Byt.of_own h.r, Byt.of_own h.i, Byt.of_own h.o⟩
theorem Sv.later {B : Nat} {S : St} {vr vi vo : Value} {w w' : World} (h : Sv B S vr vi vo w) (hb : Below w.heap.size w w') : Sv B S vr vi vo w' := ⟨own_later h.r hb rfl, own_later h.i hb rfl, own_later h.o hb rfl, h.ri, h.ro, h.io⟩
end Go.Proofs.Ytnlkamfoopikhaa
