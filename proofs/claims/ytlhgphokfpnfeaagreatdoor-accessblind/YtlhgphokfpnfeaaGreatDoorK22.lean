import Derived.Test.YtlhgphokfpnfeaaGreatDoorK13
import Derived.Test.YtlhgphokfpnfeaaGreatDoorK21
namespace Go.Proofs.YtlhgphokfpnfeaaGreatDoor
set_option linter.unusedVariables false
open Go.ChangeShapes Go.WideShapes Go.ChangeAt Go.RowKit Go.Deep
theorem PL_at {S : St} {k : Wy} {sz : Int} {z : Nat} {f : Option (BitVec 64 → BitVec 64)} (hz : wid4 z) (e : sz = z) : PL S k sz f = MV S k z f := by
  subst e
  rcases hz with rfl | rfl | rfl | rfl
  · rfl
  · rfl
  · rfl
  · rfl
theorem MV_mis {S : St} {k : Wy} {z : Nat} {f : Option (BitVec 64 → BitVec 64)} (h : ¬ n64 k.ad % (z : Int) = 0) : MV S k z f = ⟨0#64, 0#64, tS k.mi k.ad, S⟩ := by
  have e : fbd S k z = tS k.mi k.ad := by unfold fbd; rw [if_neg h]
  cases f with
  | none => simp only [MV, e]; rfl
  | some f => simp only [MV, e]; rfl
theorem AT_at {S : St} {k : Wy} {sz : Int} {z : Nat} {f : Option (BitVec 64 → BitVec 64)} (hz : wid4 z) (e : sz = z) (h4 : 4 ≤ z) : AT S k sz f = MV S { k with ra := true } z f := by
  unfold AT
  rw [if_pos (by unfold wid4 at hz; omega)]
  exact PL_at hz e
structure ROw (w : World) (c : Nat) (vr vi vo : Value) (W : World) (g : Nat) (cs : Array Value) (t : TypeId) : Prop where
  r : Row W g cs t
  n : ¬ Rown c vr vi vo g
  ge : w.heap.size ≤ g
section
variable {w W W' : World} {B c : Nat} {vr vi vo ur ui uo : Value} {S S1 : St} {g : Nat} {cs : Array Value} {t : TypeId}
theorem ROw.post (h : ROw w c vr vi vo W g cs t) (hb : Below W.heap.size W W') : ROw w c vr vi vo W' g cs t := ⟨h.r.later hb h.r.lt, h.n, h.ge⟩
end
end Go.Proofs.YtlhgphokfpnfeaaGreatDoor
namespace Go.Proofs.YtlhgphokfpnfeaaGreatDoor
set_option linter.unusedVariables false
open Go.ChangeShapes Go.WideShapes Go.ChangeAt Go.RowKit Go.Deep
/-- A reservation as it can be. -/
def rsOk (K : Cp) : Prop := (K.rv = false ∧ K.ra = 0#64 ∧ K.rs = 0) ∨ (K.rv = true ∧ (K.rs = 4 ∨ K.rs = 8))
theorem PR_rsOk (k : Cp) : rsOk (PR k) := by
  have e1 : (PR k).rv = rok k.rv k.ra k.rs := rfl
  have e2 : (PR k).ra = if rok k.rv k.ra k.rs = true then k.ra else 0#64 := rfl
  have e3 : (PR k).rs = if rok k.rv k.ra k.rs = true then k.rs else 0 := rfl
  unfold rsOk
  rw [e1, e2, e3]
  cases h : rok k.rv k.ra k.rs with
  | false => exact .inl ⟨rfl, by rw [if_neg (by decide)], by rw [if_neg (by decide)]⟩
  | true =>
    refine .inr ⟨rfl, ?_⟩
    rw [if_pos rfl]
    unfold rok at h
    simp only [Bool.and_eq_true, Bool.or_eq_true, beq_iff_eq] at h
    rcases h.2 with q | q
    · exact .inl q.1
    · exact .inr q.1
end Go.Proofs.YtlhgphokfpnfeaaGreatDoor
