/-
  Ixa.
-/
import Derived.Test.YtopddflnahfomaaGreatDoorM22
import Derived.Test.YtopddflnahfomaaGreatDoorM18
import Derived.Deep.RegionLaw
namespace Go.Proofs.YtopddflnahfomaaGreatDoor
set_option linter.unusedVariables false
set_option maxRecDepth 100000
open Go.ChangeShapes Go.WideShapes Go.ChangeAt Go.RowKit Go.Deep
theorem slice_U (W : World) (a : Option Addr) (len cap l n : Nat) (hI : Int) (hh : hI = (l : Int) + n) (hc : l + n ≤ cap) :
    (Instr.slice 29 (.slice a len cap) (some (.int .u64 (l : Int))) (some (.int .u64 hI)) none).run Tryz.prog W = .ok (.slice (if cap = l then a else a.map (fun x => x.add l)) n (cap - l)) W := by
  have he : Tryz.prog.elem 29 = 5 := by kernel_rfl
  have ht' : Tryz.prog.underlying 29 = some (.slice (Tryz.prog.elem 29)) := by rw [he]; exact Tryz.underlying29
  have hz : ∀ w, (Go.sizeOf 5).run Tryz.prog w = .ok 1 w := fun w => by kernel_rfl
  subst hh
  rw [run_slice_lh W _ _ _ _ ht' .u64 .u64 _ _ (by omega) (by omega) (by omega), he, hz]
  have e1 : ((l : Int)).toNat = l := by omega
  have e2 : ((l : Int) + n).toNat = l + n := by omega
  rw [e1, e2]
  simp [Result.andThen, sliced]
theorem bv_len (l : List Int) : (bv l).length = l.length := by simp [bv]
/-- A copy by append, in a region that draws. -/
theorem step_appN {ops : Array Oper} {o : Oper} {a : Act} {w : World} {K : Act → World → Prop} {Q : Exit → Act → World → Prop} {E : Prop} (hgd : o.guard = none) (s x : Operand) (ho : o.op = .call { callee := .builtin .append, args := #[s, x], argTypes := #[29, 29] })
    (u : Value) (l : List Int) (hs : a.eval s = .slice none 0 0) (hx : a.eval x = u) (hu : Byt w u l) (hl : l.length ≤ 140737488355328)
    (h : ∀ v' w', w'.ownsRow w.heap.size 5 1 v' l.length (bv l) → Below w.heap.size w w' → K (a.put o.dst v') w') :
    if Region.wanted o (yielded ops a.tmps) = true then Oper.wp Tryz.prog o a w K Q else E := by
  obtain ⟨i0, hi, hz0, hz1, hz2⟩ := info_parts info5
  have hw : Region.wanted o (yielded ops a.tmps) = true := by simp [Region.wanted, hgd]
  rw [if_pos hw]
  obtain ⟨ao, cap, rfl, h1, h1', h2⟩ := hu
  cases ao with
  | none =>
    have hc := h1' rfl
    have hl0 : l = [] := List.eq_nil_of_length_eq_zero (by omega)
    subst hl0; subst hc
    have hr := run_append_owned_none (P := Tryz.prog) (w := w) w.heap.size 29 o.type 5 i0 1 Tryz.underlying29 hi (.slice none 0 0) 0 [] (World.ownsRow_nil _ _ _ _)
    unfold Oper.wp
    simp [execOp, ho, resolve, invoke, builtin, hs, hx, hr, Result.andThen]
    exact h _ _ (World.ownsRow_nil _ _ _ _) (Below.refl _ _)
  | some ad =>
    obtain ⟨v', w', hr, g1, g2, _⟩ := run_append_own (P := Tryz.prog) w w.heap.size 29 o.type 5 i0 (.int .u8 0) 1 1 Tryz.underlying29 hi hz0 hz1 hz2 rfl (by decide) (.slice none 0 0) 0 [] (World.ownsRow_nil _ _ _ _) ad l.length cap (bv l) (by rw [bv_len, Nat.mul_one]) (fun j u hj => by
      have hjl : j < l.length := by have := (List.getElem?_eq_some_iff.1 hj).1; simpa [bv] using this
      obtain ⟨g, off, he, h3, h4⟩ := h2 (by intro e; rw [e] at hjl; simp at hjl)
      cases he
      rw [bv_get _ _ hjl] at hj
      cases hj
      rw [addAt]
      exact h4 j hjl) (fun u hu => by simp [bv] at hu; obtain ⟨q, _, rfl⟩ := hu; rfl) (by unfold maxLen; omega) (by omega) (Nat.le_refl _)
    unfold Oper.wp
    simp [execOp, ho, resolve, invoke, builtin, hs, hx, hr, Result.andThen]
    exact h v' w' (by simpa using g1) ((Below.refl _ _).grown g2 (Nat.le_refl _) (fun k hk => by cases hk))
theorem anyM_iff {L : List Sg} {x y : BitVec 64} : ∀ {m : Nat}, anyM L x y m = true ↔ ∃ j, j < m ∧ meetB x y (sg L j).a (sg L j).s = true
  | 0 => by simp [anyM]
  | m + 1 => by
    rw [anyM, Bool.or_eq_true, anyM_iff]
    constructor
    · rintro (⟨j, h1, h2⟩ | h)
      · exact ⟨j, by omega, h2⟩
      · exact ⟨m, by omega, h⟩
    · rintro ⟨j, h1, h2⟩
      by_cases e : j = m
      · subst e; exact .inr h2
      · exact .inl ⟨j, by omega, h2⟩
theorem ownS_lt {w : World} {B e n : Nat} {v : Value} {xs : List Value} (h : w.ownsRow B e 4 v n xs) : ∀ k, v.ownBlock = some k → k < w.heap.size := fun k hk => (h.lt k hk).2
theorem ownS_other {w w' : World} {B e size n g : Nat} {v : Value} {xs : List Value} (h : w.ownsRow B e size v n xs) (hg : ∀ k, v.ownBlock = some k → k ≠ g) (hk : ∀ k, k ≠ g → w'.heap[k]? = w.heap[k]?) : w'.ownsRow B e size v n xs := by
  refine ⟨h.1, ?_⟩
  rcases h.2 with h' | ⟨gg, cap, cur, rfl, h1, h2, h3⟩
  · exact .inl h'
  · exact .inr ⟨gg, cap, cur, rfl, h1, by rw [hk gg (hg gg rfl)]; exact h2, h3⟩
/-- What program answers. -/
def PgP (b : List Int) (r : List Pt × Flt) (w : World) (e : Ending) (w' : World) : Prop :=
  (r.2 = none ∧ ∃ um un uc L, e = .returned (.tuple #[.slice um un uc, .agg #[.int .i64 0, .int .i64 0]]) ∧ w'.ownsRow w.heap.size 42 4 (.slice um un uc) L.length (sgl L) ∧ Dts b w.heap.size w' L r.1 ∧ Below w.heap.size w w')
  ∨ (∃ F, r.2 = some F ∧ e = .returned (.tuple #[.slice none 0 0, .agg #[.int .i64 F.1, .int .i64 F.2]]) ∧ Below w.heap.size w w')
end Go.Proofs.YtopddflnahfomaaGreatDoor
