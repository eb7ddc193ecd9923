/-
  Rows of calls, appended.
-/
import Derived.Test.YtghiabdkgfhdbaaBxv
namespace Go.Proofs.Ytghiabdkgfhdbaa
set_option linter.unusedVariables false
open Go.ChangeShapes Go.WideShapes Go.ChangeAt Go.RowKit Go.Deep Go.MuLone
def zeroOp : Value := .agg (calv cal0).toArray
theorem infoOp : (Try.prog.info? 45).map (fun i => (i.zero, i.size, i.bytes)) = some (some zeroOp, 9, 88) := by kernel_rfl
def calL : List Cal → List Value
  | [] => []
  | x :: xs => calv x ++ calL xs
theorem calL_len (O : List Cal) : (calL O).length = O.length * 9 := by
  induction O with
  | nil => rfl
  | cons x xs ih => simp only [calL, List.length_append, ih, calv, List.length_cons, List.length_nil]; omega
theorem calL_app (O P : List Cal) : calL (O ++ P) = calL O ++ calL P := by
  induction O with
  | nil => rfl
  | cons x xs ih => simp only [List.cons_append, calL, ih, List.append_assoc]
theorem calL_get (O : List Cal) : ∀ j, j < O.length → ∀ c, c < 9 → (calL O)[j * 9 + c]? = (calv (O.getD j cal0))[c]? := by
  induction O with
  | nil => intro j hj; simp at hj
  | cons x xs ih =>
    intro j hj c hc
    have hl : (calv x).length = 9 := rfl
    cases j with
    | zero =>
      simp only [calL, Nat.zero_mul, Nat.zero_add, List.getD_cons_zero]
      rw [List.getElem?_append_left (by omega)]
    | succ j =>
      simp only [calL, List.getD_cons_succ]
      rw [List.getElem?_append_right (by omega), hl, show (j + 1) * 9 + c - 9 = j * 9 + c by omega]
      exact ih j (by simpa using hj) c hc
theorem calv_one (x : Cal) : ∀ u ∈ calv x, u.oneCell' = true := by
  intro u hu
  simp only [calv, List.mem_cons, List.not_mem_nil, or_false] at hu
  rcases hu with rfl | rfl | rfl | rfl | rfl | rfl | rfl | rfl | rfl <;> rfl
theorem calL_one (O : List Cal) : ∀ u ∈ calL O, u.oneCell' = true := by
  induction O with
  | nil => intro u hu; cases hu
  | cons x xs ih =>
    intro u hu
    rcases List.mem_append.1 hu with h | h
    · exact calv_one x u h
    · exact ih u h
theorem own_cals {w : World} {B : Nat} {v : Value} {O : List Cal} (h : w.ownsRow B 45 9 v O.length (calL O)) : Cals w v O := by
  obtain ⟨hl, h | ⟨g, cap, cur, rfl, _, hg, hc, _, hcs, ht⟩⟩ := h
  · obtain ⟨rfl, h0⟩ := h
    have : O = [] := List.eq_nil_of_length_eq_zero h0
    subst this
    exact ⟨none, 0, rfl, Nat.le_refl _, fun hn => absurd rfl hn⟩
  · refine ⟨some ⟨g, 0, none⟩, cap, rfl, hc, fun _ => ⟨g, 0, rfl, (Array.getElem?_eq_some_iff.1 hg).1, fun j hj c hc9 => ?_⟩⟩
    rw [cell_of_row w g (0 + j * 9 + c) _ _ _ hg, ← calL_get O j hj c hc9, ← ht, List.getElem?_take_of_lt (by omega), Nat.zero_add, ← Array.getElem?_toList]
theorem appC {ops : Array Oper} {rest : List Oper} {o : Oper} {a : Act} {w : World} {Q : Exit → Act → World → Prop} (hgd : o.guard = none) (s x : Operand) (ho : o.op = .call { callee := .builtin .append, args := #[s, x], argTypes := #[27, 27] })
    (B : Nat) (v u : Value) (m l : List Cal) (hs : a.eval s = v) (hown : w.ownsRow B 45 9 v m.length (calL m)) (hx : a.eval x = u) (hu : Cals w u l) (hu0 : ∀ n cap, u = .slice none n cap → cap = 0) (hl : (m.length + l.length) * 88 ≤ 140737488355328) (hB : B ≤ w.heap.size)
    (h : ∀ v' w', w'.ownsRow B 45 9 v' (m ++ l).length (calL (m ++ l)) → w.grownBy w' v.ownBlock → wpList Try.prog ops Q rest (a.put o.dst v') w') :
    wpList Try.prog ops Q (o :: rest) a w := by
  obtain ⟨i0, hi, hz0, hz1, hz2⟩ := info_parts infoOp
  obtain ⟨ao, cap, rfl, h1, h2⟩ := hu
  cases ao with
  | none =>
    have hc := hu0 _ _ rfl
    have hl0 : l = [] := List.eq_nil_of_length_eq_zero (by omega)
    subst hl0; subst hc
    refine wpList_append_own_none hgd s x 27 ho B 45 i0 9 Try.underlying27 hi v m.length (calL m) hs hown hx ?_
    exact h _ _ (by simpa using hown) (World.grownBy.refl _ _)
  | some ad =>
    refine wpList_append_own_at _ hgd s x 27 ho B 45 i0 zeroOp 9 88 Try.underlying27 hi hz0 hz1 hz2 rfl (by decide) v m.length (calL m) hs hown ad l.length cap (calL l) hx (calL_len l) ?_ (calL_one l) (by unfold maxLen; omega) hl hB ?_
    · intro j w2 hj
      have hjl : j < l.length * 9 := by have := (List.getElem?_eq_some_iff.1 hj).1; rw [calL_len] at this; exact this
      obtain ⟨g, off, he, h3, h4⟩ := h2 (by intro e; rw [e] at hjl; simp at hjl)
      cases he
      have e1 : j = j / 9 * 9 + j % 9 := by omega
      rw [addAt, ← hj]
      have q1 := h4 (j / 9) (by omega) (j % 9) (by omega)
      have q2 := calL_get l (j / 9) (by omega) (j % 9) (by omega)
      rw [← e1] at q2
      rw [q2, ← q1, Nat.add_assoc, ← e1]
    · intro v' w' g1 g2 g3 g4
      exact h v' w' (by rw [List.length_append, calL_app]; exact g1) g2
section
variable {H : Type} {enc : TypeId × Value → H} {w : World} {base : Nat} {held : Bool}
theorem open_none {fuel : Nat} {S : St} {vr vi vo vO : Value} {y : DataW H × List MemPlace} (h : DataW.trod enc Try.prog w base (fun _ => true) held fuel 29 (stoc S vr vi vo vO).toList = some y) : ∀ n cap, vO = .slice none n cap → cap = 0 := by
  obtain ⟨xs, n, _, rfl, hl, hlen, hf⟩ := DataW.trod_struct Try.underlying29 h
  obtain ⟨y0, y1, rfl⟩ := list2 (show xs.length = 2 from hlen)
  have g1 : DataW.trod enc Try.prog w base (fun _ => true) held n 27 [vO] = some y1 := by
    have := hf 1 _ rfl
    simpa [cellsOps, cellsSt, stoc, stc] using this
  rintro n2 cap rfl
  rcases DataW.trod_slice Try.underlying27 g1 with ⟨e, _⟩ | ⟨a, len, cap2, elems, rest, n, _, e, _⟩
  · simp at e; exact e.2
  · simp at e
end
end Go.Proofs.Ytghiabdkgfhdbaa
