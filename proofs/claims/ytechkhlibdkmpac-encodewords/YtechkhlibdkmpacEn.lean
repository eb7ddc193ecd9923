/-
  The map of the long forms.
-/
import Derived.Test.YtechkhlibdkmpacEm
import Derived.Maps.Own
import Derived.Maps.OwnSet
import Derived.Maps.Views
namespace Go.Proofs.Ytechkhlibdkmpac
set_option linter.unusedVariables false
open Go.ChangeShapes Go.WideShapes Go.ChangeAt Go.RowKit Go.Deep
open Go.ChangeMaps Go.MapKept
/-- How a form reads: its bits, its shape's number. -/
def dF (b : Int) (f : Nat) : DataW Nat := .agg [.lit (.int .i64 b), .lit (.int .i64 (f : Int))]
def frR (v : Value) : Option (DataW Nat × List MemPlace) :=
  match v with
  | .agg ⟨[.int .u32 b, .func (.func f) ⟨[]⟩ ⟨[]⟩]⟩ => some (dF b f, [])
  | .agg ⟨[.int .u32 b, .nilFunc]⟩ => if b = 0 then some (.agg [], []) else none
  | _ => none
theorem frR_mk (b : Int) (f : Nat) : frR (.agg #[.int .u32 b, fv f]) = some (dF b f, []) := rfl
theorem frR_zero : frR (.agg #[.int .u32 0, .nilFunc]) = some (.agg [], []) := rfl
theorem frR_inv {v : Value} {b : Int} {f : Nat} {ps : List MemPlace} (h : frR v = some (dF b f, ps)) : v = .agg #[.int .u32 b, fv f] := by
  unfold frR at h
  split at h
  · simp only [dF, Option.some.injEq, Prod.mk.injEq, DataW.agg.injEq, List.cons.injEq, DataW.lit.injEq, Lit.int.injEq, and_true, true_and] at h
    obtain ⟨⟨rfl, h2⟩, _⟩ := h
    have : _ = f := Int.ofNat.inj h2
    subst this
    rfl
  · split at h
    · simp [dF] at h
    · cases h
  · cases h
theorem frR_none {v : Value} {ps : List MemPlace} (h : frR v = some (.agg [], ps)) : v = .agg #[.int .u32 0, .nilFunc] := by
  unfold frR at h
  split at h
  · simp [dF] at h
  · split at h
    · rename_i e; subst e; rfl
    · cases h
  · cases h
def lk (T : List (Int × Int × Nat)) (op : Int) : Option (Int × Nat) := (T.find? (fun x => x.1 == op)).map (·.2)
def Mp (T : List (Int × Int × Nat)) (b n : Nat) (w : World) : Prop :=
  ∃ D, w.ownsMap Try.prog 3 frR b n D ∧ ∀ op, (Lit.int .i64 op).wf = true → (match lk T op with | some (x, f) => Maps.has D (.int .i64 op) = true ∧ D.atKey (.int .i64 op) (.agg []) = dF x f | none => Maps.has D (.int .i64 op) = false ∧ D.atKey (.int .i64 op) (.agg []) = .agg [])
theorem Mp.made (w : World) : Mp [] w.heap.size 0 (w.alloc (.map #[] 0)) := ⟨_, World.ownsMap_made w _ _ _, fun op _ => ⟨rfl, rfl⟩⟩
theorem Mp.update {T : List (Int × Int × Nat)} {b n : Nat} {w : World} (h : Mp T b n w) (hn : n < 100000) (op x : Int) (f : Nat) (hop : (Lit.int .i64 op).wf = true) :
    ∃ w', (Instr.mapUpdate 49 (.map (some b)) (.int .i64 op) (.agg #[.int .u32 x, fv f])).run Try.prog w = .ok () w' ∧ Mp ((op, x, f) :: T) b (n + 1) w' ∧ w.grownBy w' (some b) := by
  have hkk : WideAt.IsKeyLit (Lit.int .i64 op) := by first | trivial | exact rfl | simp [WideAt.IsKeyLit]
  obtain ⟨D, hD, hl⟩ := h
  obtain ⟨w', hrun, h1, h2⟩ := hD.update (Maps.int_keyed Try.underlying3) Try.underlying49 (by unfold maxLen; omega) (Maps.keyOf_int_mk Try.underlying3 hop) (frR_mk x f)
  refine ⟨w', hrun, ⟨_, h1, fun q hq => ?_⟩, h2⟩
  by_cases e : op = q
  · subst e
    have : lk ((op, x, f) :: T) op = some (x, f) := by simp [lk]
    rw [this]
    exact ⟨Maps.has_put_same hD.isMap hkk _, Maps.atKey_put_same hD.isMap hkk _ _⟩
  · have : lk ((op, x, f) :: T) q = lk T q := by unfold lk; rw [List.find?_cons_of_neg (by simpa using e)]
    rw [this]
    have hne : (Lit.int .i64 q) ≠ Lit.int .i64 op := fun h => e (by injection h with _ h; exact h.symm)
    rw [Maps.has_put_other hne, Maps.atKey_put_other hne]
    exact hl q hq
theorem formZero (w : World) : (zeroValue 36).run Try.prog w = .ok (.agg #[.int .u32 0, .nilFunc]) w := by kernel_rfl
theorem Mp.look {T : List (Int × Int × Nat)} {b n : Nat} {w : World} (h : Mp T b n w) (op : Int) (hop : (Lit.int .i64 op).wf = true) :
    ∃ v ok, (Instr.lookup 49 (.map (some b)) (.int .i64 op) true).run Try.prog w = .ok (.tuple #[v, .bool ok]) w ∧ (match lk T op with | some (x, f) => ok = true ∧ v = .agg #[.int .u32 x, fv f] | none => ok = false ∧ v = .agg #[.int .u32 0, .nilFunc]) := by
  obtain ⟨D, hD, hl⟩ := h
  obtain ⟨v, ps, hrun, hv⟩ := hD.look_ok (Maps.int_keyed Try.underlying3) Try.underlying49 (formZero w) frR_zero (Maps.keyOf_int_mk Try.underlying3 hop)
  refine ⟨v, _, hrun, ?_⟩
  have q := hl op hop
  cases e : lk T op with
  | none =>
    rw [e] at q
    rw [q.2] at hv
    exact ⟨q.1, frR_none hv⟩
  | some y =>
    rw [e] at q
    rw [q.2] at hv
    exact ⟨q.1, frR_inv hv⟩
theorem Mp.kept {T : List (Int × Int × Nat)} {b n : Nat} {w w' : World} (h : Mp T b n w) {row : Option Nat} (hg : w.grownBy w' row) (hne : some b ≠ row) : Mp T b n w' := by
  obtain ⟨D, hD, hl⟩ := h
  exact ⟨D, hD.kept hg hne, hl⟩
theorem Mp.row {T : List (Int × Int × Nat)} {b n : Nat} {w : World} (h : Mp T b n w) : ∃ es ck, w.heap[b]? = some (.map es ck) := by
  obtain ⟨D, ⟨es, ck, hb, _⟩, _⟩ := h
  exact ⟨es, ck, hb⟩
end Go.Proofs.Ytechkhlibdkmpac
