/-
  Count of the reference.
-/
import Derived.Test.YtnnkeodiacdmaabCpw
namespace Go.Proofs.Ytnnkeodiacdmaab
set_option linter.unusedVariables false
set_option linter.unusedSimpArgs false
open Go.ChangeShapes Go.WideShapes Go.ChangeAt Go.RowKit Go.Deep
theorem upd_10_11 (f : Nat → BitVec 64) (x : BitVec 64) : upd f 10 x 11 = f 11 := rfl
/-- A counter that goes up or stays. -/
def up1 (b : Bool) (k : Cp) (i : Nat) : Cp := if b then { k with s := upd k.s i (k.s i + 1#64) } else k
/-- The Cpu behind Count. -/
def CO (k u : Cp) (ret wc wn : Bool) : Cp := up1 (ret && !wn && decide ((PR u).s 4 &&& 4#64 = 0#64)) (up1 (!wc && decide ((PR u).s 4 &&& 1#64 = 0#64)) (PR k) 10) 11
theorem start3 (w : World) (cs cs' cs'' : Array Value) (t t' t'' : TypeId) : ∃ W, ((w.alloc (.cells cs t)).alloc (.cells cs' t')).alloc (.cells cs'' t'') = W ∧ Hid (Row W w.heap.size cs t) ∧ Hid (Row W (w.heap.size + 1) cs' t') ∧ Hid (Row W (w.heap.size + 2) cs'' t'') ∧ Hid (Below w.heap.size w W) ∧ W.heap.size = w.heap.size + 3 := by
  obtain ⟨W, hW, r0, r1, b, s⟩ := start2 w cs cs' t t'
  refine ⟨_, rfl, ?_, ?_, ?_, ?_, ?_⟩
  · rw [hW]; exact r0.out.old r0.out.lt _
  · rw [hW]; exact r1.out.old r1.out.lt _
  · rw [hW, ← s]; exact Row.new _ _ _
  · rw [hW]; exact b.out.alloc (by rw [s]; omega) _
  · rw [hW]; simp [s]
end Go.Proofs.Ytnnkeodiacdmaab
