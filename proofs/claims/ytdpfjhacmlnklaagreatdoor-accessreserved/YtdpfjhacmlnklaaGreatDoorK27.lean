import Derived.Test.YtdpfjhacmlnklaaGreatDoorK15
import Derived.Test.YtdpfjhacmlnklaaGreatDoorK26
namespace Go.Proofs.YtdpfjhacmlnklaaGreatDoor
set_option linter.unusedVariables false
set_option maxRecDepth 100000
set_option maxHeartbeats 8000000
open Go.ChangeShapes Go.WideShapes Go.ChangeAt Go.RowKit Go.Deep _root_.Go.Proofs.Tryz
theorem yG {S : St} {k : Wy} {sz : Int} {z : Nat} {f : Option (BitVec 64 → BitVec 64)} (hz : bV z) (e : sz = z) : PL S k sz f = MV S k z f := by
 subst e
 rcases hz with rfl | rfl | rfl | rfl
 ·rfl
 ·rfl
 ·rfl
 ·rfl
theorem yQ {S : St} {k : Wy} {z : Nat} {f : Option (BitVec 64 → BitVec 64)} (h : ¬ n64 k.ad % (z : Int) = 0) : MV S k z f = ⟨0#64, 0#64, tS k.mi k.ad, S⟩ := by
 have e : fbd S k z = tS k.mi k.ad := by unfold fbd; rw [if_neg h]
 cases f with
 | none => simp only [MV, e]; rfl
 | some f => simp only [MV, e]; rfl
theorem CP {S : St} {k : Wy} {sz : Int} {z : Nat} {f : Option (BitVec 64 → BitVec 64)} (hz : bV z) (e : sz = z) (h4 : 4 ≤ z) : AT S k sz f = MV S { k with ra := true } z f := by
 unfold AT
 rw [if_pos (by unfold bV at hz; omega)]
 exact yG hz e
section
variable {w W W' : World} {B c : Nat} {vr vi vo ur ui uo : Value} {S S1 : St} {g : Nat} {cs : Array Value} {t : TypeId}
end
def CG (K : Cp) : Prop := (K.rv = false ∧ K.ra = 0#64 ∧ K.rs = 0) ∨ (K.rv = true ∧ (K.rs = 4 ∨ K.rs = 8))
theorem vE (k : Cp) : CG (PR k) := by
 have e1 : (PR k).rv = rok k.rv k.ra k.rs := rfl
 have e2 : (PR k).ra = if rok k.rv k.ra k.rs = true then k.ra else 0#64 := rfl
 have e3 : (PR k).rs = if rok k.rv k.ra k.rs = true then k.rs else 0 := rfl
 unfold CG
 rw [e1, e2, e3]
 cases h : rok k.rv k.ra k.rs with
 | false => exact .inl ⟨rfl, by rw [if_neg (by decide)], by rw [if_neg (by decide)]⟩
 | true =>
  refine .inr ⟨rfl, ?_⟩
  rw [if_pos rfl]
  unfold rok at h
  simp only [Bool.and_eq_true, Bool.or_eq_true, beq_iff_eq] at h
  rcases h.2 with q | q
  ·exact .inl q.1
  ·exact .inr q.1
theorem dH {s : Int} (h0 : 0 ≤ s) (h1 : s ≤ 8) : IntKind.u64.wrap s = s := by
 unfold IntKind.wrap
 simp [IntKind.bits, IntKind.signed]
 omega
theorem tL {K : Cp} (h : K.rv = false ∧ K.ra = 0#64 ∧ K.rs = 0) : bL K = K := by
 obtain ⟨pc, x, md, wt, s, c, a, rv, ra, rs⟩ := K
 simp only at h
 obtain ⟨h1, h2, h3⟩ := h
 subst h1 h2 h3
 rfl
end Go.Proofs.YtdpfjhacmlnklaaGreatDoor
