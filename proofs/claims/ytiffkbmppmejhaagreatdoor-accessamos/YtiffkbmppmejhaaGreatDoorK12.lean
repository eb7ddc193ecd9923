import Derived.Test.YtiffkbmppmejhaaGreatDoorK08
import Derived.Test.YtiffkbmppmejhaaGreatDoorK10
import Derived.Test.YtiffkbmppmejhaaGreatDoorK09
import Derived.Deep.RegionHeld3
import Derived.Deep.RegionWith
namespace Go.Proofs.YtiffkbmppmejhaaGreatDoor
set_option linter.unusedVariables false
set_option maxRecDepth 100000
set_option maxHeartbeats 8000000
open Go.ChangeShapes Go.WideShapes Go.ChangeAt Go.RowKit Go.Deep _root_.Go.Proofs.Tryz
theorem RB.ram {B c : Nat} {S : St} {vr vi vo : Value} {w : World} (h : RB B c S vr vi vo w) (h0 : 0 < S.ram.length) : ∃ g cap, vr = .slice (some ⟨g, 0, none⟩) S.ram.length cap := Go.Joins.ownsRow_form h.s.r h0
theorem xM {l : List Int} {i : Nat} (h : i < l.length) : l.take (i + 1) = l.take i ++ [l.getD i 0] := by
 rw [List.take_add_one, List.getD, List.getElem?_eq_getElem h]; rfl
def IT (S : St) : Prop := ∀ vr vi vo ur ui uo w1, Bs S vr vi vo w1 → Bs S ur ui uo w1 → Calls prog 15 #[.agg (stc S vr vi vo), .agg (stc S ur ui uo)] w1 fun e w' => e = .returned (.bool true) ∧ Below w1.heap.size w1 w'
theorem BW (S : St) : IT S := fun vr vi vo ur ui uo w1 h1 h2 => NN S vr vi vo ur ui uo w1 h1 h2
theorem PB.drew {B : Nat} {L : Lay} {S : St} {w : World} (h : PB B L S w) : PB B L S w.drew := ⟨h.hb, h.hm, h.hp, h.hs, h.hc, h.hk, h.hu, h.hq, h.wr, h.wi, h.wo, h.ri, h.ro, h.io, h.lb, h.lm, h.lp, h.ls, h.lc, h.lk, h.lu, h.lq⟩
section
variable {H : Type} {enc : TypeId × Value → H} {w : World} {base : Nat} {held : Bool}
theorem qF {α : Type} (d : α) {P : Nat → α → Prop} (n : Nat) : (∀ i, i < n → ∃ x, P i x) → ∃ L : List α, L.length = n ∧ ∀ i, i < n → P i (L.getD i d) := by
 induction n with
 | zero => intro _; exact ⟨[], rfl, fun i hi => by omega⟩
 | succ n ih =>
  intro h
  obtain ⟨L, hl, hp⟩ := ih (fun i hi => h i (by omega))
  obtain ⟨x, hx⟩ := h n (by omega)
  refine ⟨L ++ [x], by rw [List.length_append, hl]; rfl, fun i hi => ?_⟩
  by_cases e : i = n
  ·subst e
   have : (L ++ [x]).getD i d = x := by unfold List.getD; rw [List.getElem?_append_right (by omega), hl, Nat.sub_self]; rfl
   rw [this]; exact hx
  ·have : (L ++ [x]).getD i d = L.getD i d := by unfold List.getD; rw [List.getElem?_append_left (by omega)]
   rw [this]; exact hp i (by omega)
end
def eU (c : Nat) (vr vi vo : Value) (k : Nat) : Prop := k = c ∨ vr.ownBlock = some k ∨ vi.ownBlock = some k ∨ vo.ownBlock = some k
structure Tw (B M : Nat) (L : Lay) (c : Nat) (S : St) (vr vi vo : Value) (w : World) : Prop where
 p : PB B L S w
 r : RB M c S vr vi vo w
 ap : ∀ k, L.own k → ¬ eU c vr vi vo k
theorem Two.tw {B M : Nat} {L : Lay} {c : Nat} {S : St} {vr vi vo : Value} {w : World} (h : Two B M L c S vr vi vo w) : Tw B M L c S vr vi vo w :=
 ⟨h.p, h.r, fun k hk hr => by
  have h1 : k < M := by
   have hl := h.lt
   unfold Lay.own at hk
   rcases hk with e | e | e | e | e | e | e | e | e | e | e
   ·rw [e]; exact hl.b
   ·rw [e]; exact hl.m
   ·rw [e]; exact hl.pw
   ·rw [e]; exact hl.sw
   ·rw [e]; exact hl.cm
   ·rw [e]; exact hl.ck
   ·rw [e]; exact hl.u
   ·rw [e]; exact hl.q
   ·exact hl.vr _ e
   ·exact hl.vi _ e
   ·exact hl.vo _ e
  have h2 : M ≤ k := by
   rcases hr with e | e | e | e
   ·rw [e]; exact h.r.l
   ·exact (h.r.s.r.lt k e).1
   ·exact (h.r.s.i.lt k e).1
   ·exact (h.r.s.o.lt k e).1
  omega⟩
end Go.Proofs.YtiffkbmppmejhaaGreatDoor
