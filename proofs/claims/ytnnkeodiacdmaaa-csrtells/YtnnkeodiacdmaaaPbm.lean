/-
  Locked of the program and of the reference.
-/
import Derived.Test.YtnnkeodiacdmaaaPbk
namespace Go.Proofs.Ytnnkeodiacdmaaa
set_option linter.unusedVariables false
open Go.ChangeShapes Go.WideShapes Go.ChangeAt Go.RowKit Go.Deep
theorem lk_shr : ∀ x : BitVec 8, (n8 (x >>> 7) == 1) = lk x := by decide +kernel
theorem kd_i64 : ∀ x : BitVec 8, bits .and .i64 (n8 (x >>> 3)) 3 = n8 (kd x) := by decide +kernel
theorem n8_wrap64 (x : BitVec 8) : wrap64 (n8 x) = n8 x := by have := n8_lo x; have := n8_hi x; unfold wrap64; omega
theorem n8_div128 (x : BitVec 8) : n8 x / (128 : Int) = n8 (x >>> 7) := n8_shr x 7
theorem n8_div8 (x : BitVec 8) : n8 x / (8 : Int) = n8 (x >>> 3) := n8_shr x 3
theorem wpList_load_rowG {P : Program} {ops : Array Oper} {rest : List Oper} {o : Oper} {a : Act} {w : World} {Q : Exit → Act → World → Prop} (hw : Region.wanted o (yielded ops a.tmps) = true) (ty : TypeId) (x : Operand) (ho : o.op = .load ty x)
    (g : Nat) (hx : a.eval x = .pointer (some ⟨g, 0, none⟩)) (t : TypeId) (cs : Array Value) (fr : Nat × Nat) (d : TypeDesc) (hg : w.heap[g]? = some (.cells cs t fr))
    (hu : P.underlying ty = some d) (hd : (match d with | .struct _ | .array _ _ => true | _ => false) = true) (hi : (P.info? ty).map (·.size) = some cs.size)
    (h : wpList P ops Q rest (a.put o.dst (.agg cs)) w) : wpList P ops Q (o :: rest) a w :=
  BigFrame.wpList_want hw fun _ hK => wp_load_row ty x ho g hx t cs fr d hg hu hd hi (hK _ _ h)
/-- A boxed api.Pmp made proper in its place. -/
theorem start_p {w W0 w1 : World} {c : Nat → BitVec 8} {a : Nat → BitVec 64} {T : TypeId} (q : Array Value) (r0 : Row W0 w.heap.size (pc c a) T) (b0 : Below w.heap.size w W0) (hs : w.heap.size < W0.heap.size) (b1 : Below W0.heap.size W0 w1) :
    ∃ W, w1.setRow w.heap.size q = W ∧ Hid (Row W w.heap.size q T) ∧ Hid (Below w.heap.size w W) ∧ Hid (w.heap.size < W.heap.size) :=
  ⟨_, rfl, setRow_heap _ _ _ _ _ _ (r0.later b1 hs), below_row (b0.trans (b1.mono (by omega))) (Nat.le_refl _) _, by unfold Hid; rw [size_setRow]; exact Nat.lt_of_lt_of_le hs b1.size⟩
end Go.Proofs.Ytnnkeodiacdmaaa
