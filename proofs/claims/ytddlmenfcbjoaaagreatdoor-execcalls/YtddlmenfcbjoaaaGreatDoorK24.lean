import Derived.Test.YtddlmenfcbjoaaaGreatDoorK13
import Derived.Test.YtddlmenfcbjoaaaGreatDoorK20
namespace Go.Proofs.YtddlmenfcbjoaaaGreatDoor
set_option linter.unusedVariables false
set_option maxRecDepth 100000
set_option maxHeartbeats 8000000
open Go.ChangeShapes Go.WideShapes Go.ChangeAt Go.RowKit Go.Deep _root_.Go.Proofs.Tryz
theorem EO {S : St} {k : Wy} {sz : Int} {z : Nat} {f : Option (BitVec 64 → BitVec 64)} (hz : cW z) (e : sz = z) : PL S k sz f = MV S k z f := by
 subst e
 rcases hz with rfl | rfl | rfl | rfl
 ·rfl
 ·rfl
 ·rfl
 ·rfl
theorem MZ {S : St} {k : Wy} {z : Nat} (h : fbd S k z = tN) : MV S k z none = ⟨mvB S k z, 0#64, tN, mvT S k z⟩ := by simp only [MV, h]; rfl
theorem NA {S : St} {k : Wy} {z : Nat} {f : BitVec 64 → BitVec 64} (h : fbd S k z = tN) : MV S k z (some f) = ⟨mvB S k z, bS z (f (mvB S k z)), tN, ((mvT S k z).sto2 (n64 k.ad) z (n64 (bS z (f (mvB S k z))))).2⟩ := by simp only [MV, h]; rfl
theorem uN {S : St} {k : Wy} {sz : Int} {z : Nat} {f : Option (BitVec 64 → BitVec 64)} (hz : cW z) (e : sz = z) (h4 : 4 ≤ z) : AT S k sz f = MV S { k with ra := true } z f := by
 unfold AT
 rw [if_pos (by unfold cW at hz; omega)]
 exact EO hz e
section
variable {w W W' : World} {B c : Nat} {vr vi vo ur ui uo : Value} {S S1 : St} {g : Nat} {cs : Array Value} {t : TypeId}
end
end Go.Proofs.YtddlmenfcbjoaaaGreatDoor
