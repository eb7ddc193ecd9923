/-
  longForms: the loops.
-/
import Derived.Test.YtechkhlibdkmpacEn
import Derived.Deep.RegionLaw
import Derived.Deep.RegionHeld3
namespace Go.Proofs.Ytechkhlibdkmpac
set_option linter.unusedVariables false
open Go.ChangeShapes Go.WideShapes Go.ChangeAt Go.RowKit Go.Deep
def LL : List (List Fy) := [L_jumps, L_memory, L_immediates, L_registers, L_systems, L_atomics]
/-- The bits of a family's k-th part. -/
def eb (x : Fy) (k : Nat) : Int := bits .or .u32 x.bits ((k : Int) * 2 ^ x.pl.toNat % 4294967296)
def inN (x : Fy) (T : List (Int × Int × Nat)) : Nat → List (Int × Int × Nat)
  | 0 => T
  | k + 1 => if x.ops.getD k 0 = 0 then inN x T k else (x.ops.getD k 0, eb x k, x.fn) :: inN x T k
def miN (L : List Fy) (T : List (Int × Int × Nat)) : Nat → List (Int × Int × Nat)
  | 0 => T
  | j + 1 => match L[j]? with | some x => inN x (miN L T j) x.ops.length | none => miN L T j
def ouN : Nat → List (Int × Int × Nat)
  | 0 => []
  | i + 1 => match LL[i]? with | some L => miN L (ouN i) L.length | none => ouN i
/-- The whole table, the latest entry first. -/
def TB : List (Int × Int × Nat) := ouN 6
structure Lf (w0 : World) (gA : Nat) (V : Nat → Value) (T : List (Int × Int × Nat)) (bm n : Nat) (w : World) : Prop where
  m : Mp T bm n w
  r : w.heap[gA]? = some (.cells #[V 0, V 1, V 2, V 3, V 4, V 5] 64 (0, 0))
  f : ∀ i L, LL[i]? = some L → Fys w (V i) L
  be : Below w0.heap.size w0 w
  lb : w0.heap.size ≤ bm
  le : w0.heap.size ≤ w.heap.size
section
variable {w0 w w' : World} {gA bm n gf : Nat} {V : Nat → Value} {T T' : List (Int × Int × Nat)} {C : Array Value} {U : TypeId}
theorem Lf.alloc (h : Lf w0 gA V T bm n w) (o : Obj) : Lf w0 gA V T bm n (w.alloc o) := by
  have hb := below_al w o
  exact ⟨h.m.kept (World.grownBy_alloc w o none) (by simp), (hb.block _ (Array.getElem?_eq_some_iff.1 h.r).1).trans h.r, fun i L hi => (h.f i L hi).later hb, h.be.trans (hb.mono h.le), h.lb, Nat.le_trans h.le hb.size⟩
theorem cells_kept {b : Nat} (hg : w.grownBy w' (some b)) (hb : ∃ es ck, w.heap[b]? = some (.map es ck)) (k : Nat) (C : Array Value) (U : TypeId) (hr : w.heap[k]? = some (Obj.cells C U (0, 0))) : w'.heap[k]? = some (Obj.cells C U (0, 0)) := by
  refine (hg.block k (Array.getElem?_eq_some_iff.1 hr).1 (fun e => ?_)).trans hr
  injection e with e
  subst e
  obtain ⟨es, ck, h⟩ := hb
  rw [hr] at h
  cases h
theorem Lf.put (h : Lf w0 gA V T bm n w) (hm : Mp T' bm (n + 1) w') (hg : w.grownBy w' (some bm)) : Lf w0 gA V T' bm (n + 1) w' :=
  ⟨hm, cells_kept hg h.m.row _ _ _ h.r, fun i L hi => (h.f i L hi).keep (cells_kept hg h.m.row), h.be.grown hg h.le (fun k hk => by cases hk; exact h.lb), h.lb, Nat.le_trans h.le hg.size⟩
end
end Go.Proofs.Ytechkhlibdkmpac
