import Derived.Test.YtdpfjhacmlnklaaGreatDoorK08
import Derived.Deep.RegionHeld3
namespace Go.Proofs.YtdpfjhacmlnklaaGreatDoor
set_option linter.unusedVariables false
set_option maxRecDepth 100000
set_option maxHeartbeats 8000000
open Go.ChangeShapes Go.WideShapes Go.ChangeAt Go.RowKit Go.Deep _root_.Go.Proofs.Tryz
theorem PB.drew {B : Nat} {L : Lay} {S : St} {w : World} (h : PB B L S w) : PB B L S w.drew := ⟨h.hb, h.hm, h.hp, h.hs, h.hc, h.hk, h.hu, h.hq, h.wr, h.wi, h.wo, h.ri, h.ro, h.io, h.lb, h.lm, h.lp, h.ls, h.lc, h.lk, h.lu, h.lq⟩
section
variable {H : Type} {enc : TypeId × Value → H} {w : World} {base : Nat} {held : Bool}
theorem lZ {α : Type} (d : α) {P : Nat → α → Prop} (n : Nat) : (∀ i, i < n → ∃ x, P i x) → ∃ L : List α, L.length = n ∧ ∀ i, i < n → P i (L.getD i d) := by
 induction n with
 | zero => intro _; exact ⟨[], rfl, fun i hi => by omega⟩
 | succ n ih =>
  intro h
  obtain ⟨L, hl, hp⟩ := ih (fun i hi => h i (by omega))
  obtain ⟨x, hx⟩ := h n (by omega)
  refine ⟨L ++ [x], by rw [List.length_append, hl]; rfl, fun i hi => ?_⟩
  by_cases e : i = n
  ·subst e
   have : (L ++ [x]).getD i d = x := by unfold List.getD; rw [List.getElem?_append_right (by omega), hl, Nat.sub_self]; rfl
   rw [this]; exact hx
  ·have : (L ++ [x]).getD i d = L.getD i d := by unfold List.getD; rw [List.getElem?_append_left (by omega)]
   rw [this]; exact hp i (by omega)
end
end Go.Proofs.YtdpfjhacmlnklaaGreatDoor
