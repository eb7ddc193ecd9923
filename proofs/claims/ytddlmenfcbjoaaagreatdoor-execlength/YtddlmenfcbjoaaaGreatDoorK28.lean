import Derived.Test.YtddlmenfcbjoaaaGreatDoorK27
namespace Go.Proofs.YtddlmenfcbjoaaaGreatDoor
set_option linter.unusedVariables false
set_option maxRecDepth 100000
set_option maxHeartbeats 8000000
open Go.ChangeShapes Go.WideShapes Go.ChangeAt Go.RowKit Go.Deep _root_.Go.Proofs.Tryz
structure Kz (w0 : World) (b d : Nat) (L M : Lay) (S T : St) (w : World) : Prop where
 l : Ky w0 b L S w
 m : Ky w0 d M T w
 ap : ∀ k, L.own k → ¬ M.own k
structure Kt (w0 : World) (L M : Lay) (w : World) (g : Nat) (cs : Array Value) (t : TypeId) : Prop where
 r : Row w g cs t
 n : ¬ L.own g
 o : ¬ M.own g
 ge : w0.heap.size ≤ g
section
variable {w0 : World} {b d g g' : Nat} {L M L1 M1 : Lay} {S T S1 T1 : St} {w w' : World} {cs cs' : Array Value} {t t' : TypeId}
theorem Kz.symm (h : Kz w0 b d L M S T w) : Kz w0 d b M L T S w := ⟨h.m, h.l, fun k hk hl => h.ap k hl hk⟩
theorem Kt.symm (h : Kt w0 L M w g cs t) : Kt w0 M L w g cs t := ⟨h.r, h.o, h.n, h.ge⟩
theorem Kt.ks (h : Kt w0 L M w g cs t) : Ks w0 L w g cs t := ⟨h.r, h.n, h.ge⟩
theorem Kz.later (h : Kz w0 b d L M S T w) (hb : Below w.heap.size w w') : Kz w0 b d L M S T w' := ⟨h.l.later hb, h.m.later hb, h.ap⟩
theorem Kt.later (h : Kt w0 L M w g cs t) (hb : Below w.heap.size w w') : Kt w0 L M w' g cs t := ⟨h.r.later hb h.r.lt, h.n, h.o, h.ge⟩
theorem Kz.stepL (h : Kz w0 b d L M S T w) (hs : PSt w0.heap.size L w L1 S1 w') : Kz w0 b d L1 M S1 T w' :=
 ⟨h.l.step hs, ⟨h.m.p.exo hs.x (fun k hk hG => h.ap k hG hk), h.m.e, (h.l.step hs).be⟩, fun k hk hm => by
  rcases hs.o k hk with q | q
  ·exact h.ap k q hm
  ·have := h.m.p.own_hi k hm; omega⟩
theorem Kz.stepM (h : Kz w0 b d L M S T w) (hs : PSt w0.heap.size M w M1 T1 w') : Kz w0 b d L M1 S T1 w' := (h.symm.stepL hs).symm
theorem Kt.stepL (h : Kt w0 L M w g cs t) (hs : PSt w0.heap.size L w L1 S1 w') : Kt w0 L1 M w' g cs t :=
 ⟨(hs.x.block g h.r.lt h.n).trans h.r, fun e => by rcases hs.o g e with q | q; exact h.n q; have := h.r.lt; omega, h.o, h.ge⟩
theorem Kt.stepM (h : Kt w0 L M w g cs t) (hs : PSt w0.heap.size M w M1 T1 w') : Kt w0 L M1 w' g cs t := (h.symm.stepL hs).symm
theorem Kt.new (h : Kz w0 b d L M S T w) (cs : Array Value) (t : TypeId) : Kt w0 L M (w.alloc (.cells cs t)) w.heap.size cs t :=
 ⟨Row.new w cs t, fun e => by have := h.l.p.own_hi _ e; omega, fun e => by have := h.m.p.own_hi _ e; omega, h.l.be.size⟩
theorem Kz.lay (h : Kz w0 b d L M S T w) (k : Kt w0 L M w g cs t) (o : Nat) (l : List Value) : Kz w0 b d L M S T (w.setCells g o l) := ⟨h.l.lay k.ks o l, h.m.lay k.symm.ks o l, h.ap⟩
theorem Kt.lays (k : Kt w0 L M w g cs t) (hne : g ≠ g') (l : List Value) (o : Nat) : Kt w0 L M (w.setCells g' o l) g cs t := ⟨k.r.lays hne l o, k.n, k.o, k.ge⟩
theorem Kt.lay (k : Kt w0 L M w g cs t) (l : List Value) (o : Nat) : Kt w0 L M (w.setCells g o l) g (gQ cs o l) t := ⟨k.r.lay l o, k.n, k.o, k.ge⟩
theorem Kt.eqs (k : Kt w0 L M w g cs t) (e : cs = cs') : Kt w0 L M w g cs' t := e ▸ k
end
section
variable {K U : Cp}
end
end Go.Proofs.YtddlmenfcbjoaaaGreatDoor
