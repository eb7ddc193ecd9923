/-
  BusOwn: rows of bytes of one's own, each apart from the others.
-/
import Derived.Test.YtghiabdkgfhdbaaBqa
namespace Go.Proofs.Ytghiabdkgfhdbaa
set_option linter.unusedVariables false
open Go.ChangeShapes Go.WideShapes Go.ChangeAt Go.RowKit Go.Deep Go.MuLone
theorem own_kind_ne {w : World} {B e n T : Nat} {v : Value} {xs : List Value} {q : Nat} {cs : Array Value} {fr : Nat × Nat} (h : w.ownsRow B e 1 v n xs) (hq : w.heap[q]? = some (.cells cs T fr)) (hT : T ≠ e) : ∀ g, v.ownBlock = some g → g ≠ q := by
  intro g hg e
  subst e
  obtain ⟨c, fz, h1⟩ := Go.Lib.ownsRow_kind h g hg
  rw [hq] at h1
  simp at h1
  exact hT h1.2.1
theorem own_kinds {w : World} {B B' e e' n n' : Nat} {v v' : Value} {xs xs' : List Value} (h : w.ownsRow B e 1 v n xs) (h' : w.ownsRow B' e' 1 v' n' xs') (hne : e ≠ e') : ∀ g, v.ownBlock = some g → v'.ownBlock ≠ some g := by
  intro g hg hg'
  obtain ⟨c, fz, h1⟩ := Go.Lib.ownsRow_kind h g hg
  obtain ⟨c', fz', h2⟩ := Go.Lib.ownsRow_kind h' g hg'
  rw [h1] at h2
  simp at h2
  exact hne h2.2.1
theorem take_set_snoc {α : Type} : ∀ (l : List α) (n : Nat) (x : α), n < l.length → (l.set n x).take (n + 1) = l.take n ++ [x]
  | [], n, x, h => by simp at h
  | a :: l, 0, x, h => by simp
  | a :: l, n + 1, x, h => by simp [take_set_snoc l n x (by simpa using h)]
/-- One byte appended to a row of one's own: in place, or a new row; the old one's bytes stay. -/
theorem appO {ops : Array Oper} {rest : List Oper} {o : Oper} {a : Act} {w : World} {Q : Exit → Act → World → Prop} (hgd : o.guard = none) (s x : Operand) (ho : o.op = .call { callee := .builtin .append, args := #[s, x], argTypes := #[22, 22] })
    (B : Nat) (v : Value) (n : Nat) (q : List Int) (y : Int) (hs : a.eval s = v) (hown : w.ownsRow B 5 1 v n (bv q)) (ad : Addr) (hx : a.eval x = .slice (some ad) 1 1) (had : ad.add 0 = ad) (hy : w.cell? ad = some (.int .u8 y)) (hl : n ≤ 1000000) (hB : B ≤ w.heap.size)
    (h : ∀ v' w', w'.ownsRow B 5 1 v' (n + 1) (bv (q ++ [y])) → Exc (fun k => v.ownBlock = some k) w w' → (v'.ownBlock = v.ownBlock ∨ ∃ g, v'.ownBlock = some g ∧ w.heap.size ≤ g) → (∀ g j, g < w.heap.size → (v.ownBlock = some g → j < n) → w'.cell? ⟨g, j, none⟩ = w.cell? ⟨g, j, none⟩) → wpList Try.prog ops Q rest (a.put o.dst v') w') :
    wpList Try.prog ops Q (o :: rest) a w := by
  obtain ⟨i0, hi, hz0, hz1, hz2⟩ := info_parts info5
  have hql : q.length = n := by have := hown.1; rw [bv_length] at this; omega
  have hc : ∀ j u, [Value.int .u8 y][j]? = some u → w.cell? (ad.add j) = some u := by
    intro j u hj
    cases j with
    | zero => simp only [List.getElem?_cons_zero, Option.some.injEq] at hj; subst hj; rw [had]; exact hy
    | succ j => simp at hj
  have h1c : ∀ u ∈ [Value.int .u8 y], u.oneCell' = true := by intro u hu; simp only [List.mem_singleton] at hu; subst hu; rfl
  have e0 : bv q ++ [.int .u8 y] = bv (q ++ [y]) := by simp [bv]
  have hgrow : ∀ v' w', w'.ownsRow w.heap.size 5 1 v' (n + 1) (bv q ++ [.int .u8 y]) → w.grownBy w' none → wpList Try.prog ops Q rest (a.put o.dst v') w' := fun v' w' hw hg => by
    have hb : Below w.heap.size w w' := (Below.refl _ _).grown hg (Nat.le_refl _) (fun k hk => by cases hk)
    rw [e0] at hw
    refine h v' w' (own_le hw hB) (Exc.of_below hb rfl) (.inr ?_) (fun g j hg _ => hb.cell hg)
    rcases Go.Joins.ownsRow_forms hw with ⟨_, h0⟩ | ⟨g, cap, rfl⟩
    · omega
    · exact ⟨g, rfl, (hw.lt g rfl).1⟩
  rcases hown.2 with ⟨rfl, h0⟩ | ⟨g, cap, cur, rfl, h1, h2, h3, h4, h5, h6⟩
  · subst h0
    have hq0 : q = [] := List.eq_nil_of_length_eq_zero hql
    subst hq0
    exact wpList_append_grows w hgd s x 22 ho 5 i0 (.int .u8 0) 1 1 Try.underlying22 hi hz0 hz1 hz2 rfl (by decide) none 0 0 [] hs (fun _ => ⟨rfl, rfl⟩) rfl (fun b e => by cases e) ad 1 1 [.int .u8 y] hx rfl hc h1c (by omega) (by unfold maxLen; omega) (by omega) hgrow
  · have hcell : ∀ j, w.cell? ⟨g, j, none⟩ = cur[j]? := fun j => cell_of_row w g j cur _ _ h2
    refine wpList_append_arg w hgd s x 22 ho 5 i0 (.int .u8 0) 1 1 Try.underlying22 hi hz0 hz1 hz2 rfl (by decide) g 0 n cap (bv q) hs (by rw [bv_length, Nat.mul_one]; exact hql) (fun j u hj => ?_) ad 1 1 [.int .u8 y] hx rfl hc h1c (fun hr j hj => ?_) (by unfold maxLen; omega) (by omega) (fun hr => ?_) (fun _ => hgrow)
    · have hjl : j < q.length := by have := (List.getElem?_eq_some_iff.1 hj).1; simpa [bv] using this
      rw [Nat.zero_add, hcell, ← hj, ← h6, List.getElem?_take_of_lt (by omega), ← Array.getElem?_toList]
    · simp only [List.length_singleton] at hj
      obtain rfl : j = 0 := by omega
      exact ⟨by rw [hcell, Array.getElem?_eq_getElem (by omega)]; rfl, frozen_of_row w g _ _ _ h2⟩
    · have hx : Exc (fun k => (Value.slice (some ⟨g, 0, none⟩) n cap).ownBlock = some k) w (w.setCell ⟨g, 0 + n * 1, none⟩ (.int .u8 y)) := (Exc.refl _ w).set g _ _ rfl
      refine h _ (w.setCell ⟨g, 0 + n * 1, none⟩ (.int .u8 y)) ⟨by simp [bv, hql], .inr ⟨g, cap, _, rfl, h1, heap_setCell_same w g _ _ _ _ h2, hr, h4, by rw [Array.size_setIfInBounds]; exact h5, ?_⟩⟩ hx (.inl rfl) (fun g' j hg' hj => ?_)
      · rw [Array.toList_setIfInBounds, Nat.zero_add, Nat.mul_one, Nat.mul_one, take_set_snoc _ _ _ (by rw [Array.length_toList]; omega), ← e0, ← h6, Nat.mul_one]
      · refine World.cell?_setCell_other _ _ _ _ (fun e => ?_)
        injection e with e1 e2
        have := hj (by rw [e1]; rfl)
        omega
def Apt (a b : Value × List Int) : Prop := ∀ g, a.1.ownBlock = some g → b.1.ownBlock ≠ some g
structure Rws (M : Nat) (P : List (Value × List Int)) (w : World) : Prop where
  own : ∀ x ∈ P, w.ownsRow M 5 1 x.1 x.2.length (bv x.2)
  dj : P.Pairwise Apt
  len : ∀ x ∈ P, x.2.length ≤ 65536
theorem Rws.keep {M : Nat} {P : List (Value × List Int)} {w w' : World} {X : Nat → Prop} (h : Rws M P w) (hx : Exc X w w') (hX : ∀ x ∈ P, ∀ g, x.1.ownBlock = some g → ¬ X g) : Rws M P w' :=
  ⟨fun x hm => own_exc (h.own x hm) hx (hX x hm), h.dj, h.len⟩
theorem Rws.add {M : Nat} {P : List (Value × List Int)} {w : World} (h : Rws M P w) (v : Value) (l : List Int) (ho : w.ownsRow M 5 1 v l.length (bv l)) (hl : l.length ≤ 65536) (hd : ∀ x ∈ P, Apt x (v, l)) : Rws M (P ++ [(v, l)]) w := by
  refine ⟨fun x hx => ?_, List.pairwise_append.2 ⟨h.dj, by simp, fun a ha b hb => ?_⟩, fun x hx => ?_⟩
  · rcases List.mem_append.1 hx with hx | hx
    · exact h.own x hx
    · simp only [List.mem_singleton] at hx; subst hx; exact ho
  · simp only [List.mem_singleton] at hb; subst hb; exact hd a ha
  · rcases List.mem_append.1 hx with hx | hx
    · exact h.len x hx
    · simp only [List.mem_singleton] at hx; subst hx; exact hl
/-- The bus, the rows P, the first m of them in the list of lists. -/
structure Pow (B : Nat) (w0 : World) (L : Lay) (S : St) (M : Nat) (P : List (Value × List Int)) (m : Nat) (vl : Value) (w : World) : Prop where
  p : PB B L S w
  oM : ∀ k, L.own k → k < M
  rows : Rws M P w
  ls : w.ownsRow M 22 1 vl m ((P.take m).map Prod.fst)
  be : Below B w0 w
  le : B ≤ M
  hM : M ≤ w.heap.size
section
variable {B : Nat} {w0 : World} {L : Lay} {S : St} {M m : Nat} {P : List (Value × List Int)} {vl vl' : Value} {w w' : World}
theorem Pow.later (h : Pow B w0 L S M P m vl w) (hb : Below w.heap.size w w') : Pow B w0 L S M P m vl w' :=
  ⟨h.p.later hb, h.oM, h.rows.keep (X := fun _ => False) (Exc.of_below hb rfl) (fun _ _ _ _ e => e), own_later h.ls hb rfl, h.be.trans (hb.mono (Nat.le_trans h.le h.hM)), h.le, Nat.le_trans h.hM hb.size⟩
theorem Pow.apt (h : Pow B w0 L S M P m vl w) {v : Value} {l : List Int} {n : Nat} (ho : w'.ownsRow w.heap.size 5 1 v n (bv l)) : ∀ x ∈ P, Apt x (v, l) := fun x hx g hg e => by
  have h1 := ((h.rows.own x hx).lt g hg).2
  have h2 := (ho.lt g e).1
  omega
/-- A new row. -/
theorem Pow.one (h : Pow B w0 L S M P m vl w) (hm : m ≤ P.length) (hb : Below w.heap.size w w') (v : Value) (l : List Int) (ho : w'.ownsRow w.heap.size 5 1 v l.length (bv l)) (hl : l.length ≤ 65536) : Pow B w0 L S M (P ++ [(v, l)]) m vl w' := by
  have h' := h.later hb
  refine ⟨h'.p, h'.oM, h'.rows.add v l (own_le ho h.hM) hl (h.apt ho), ?_, h'.be, h'.le, h'.hM⟩
  rw [List.take_append_of_le_length hm]
  exact h'.ls
/-- A state's three rows. -/
theorem Pow.three (h : Pow B w0 L S M P m vl w) (hm : m ≤ P.length) (hb : Below w.heap.size w w') {ur ui uo : Value} (hs : Sv w.heap.size S ur ui uo w') (hk : Sok S) : Pow B w0 L S M (P ++ [(ur, S.ram), (ui, S.inp), (uo, S.out)]) m vl w' := by
  have h' := h.later hb
  have hn := hk.n
  have r1 := h'.rows.add ur S.ram (own_le hs.r h.hM) (by omega) (h.apt hs.r)
  have r2 := r1.add ui S.inp (own_le hs.i h.hM) (by omega) (fun x hx => by
    rcases List.mem_append.1 hx with hx | hx
    · exact h.apt hs.i x hx
    · simp only [List.mem_singleton] at hx; subst hx; exact hs.ri)
  have r3 := r2.add uo S.out (own_le hs.o h.hM) (by omega) (fun x hx => by
    rcases List.mem_append.1 hx with hx | hx
    · rcases List.mem_append.1 hx with hx | hx
      · exact h.apt hs.o x hx
      · simp only [List.mem_singleton] at hx; subst hx; exact hs.ro
    · simp only [List.mem_singleton] at hx; subst hx; exact hs.io)
  have e : P ++ [(ur, S.ram), (ui, S.inp), (uo, S.out)] = P ++ [(ur, S.ram)] ++ [(ui, S.inp)] ++ [(uo, S.out)] := by simp
  refine ⟨h'.p, h'.oM, by rw [e]; exact r3, ?_, h'.be, h'.le, h'.hM⟩
  rw [List.take_append_of_le_length hm]
  exact h'.ls
/-- The next row joins the list of lists. -/
theorem Pow.app (h : Pow B w0 L S M P m vl w) (v : Value) (hv : (P.map Prod.fst)[m]? = some v) (ho : w'.ownsRow M 22 1 vl' (m + 1) ((P.take m).map Prod.fst ++ [v])) (hg : w.grownBy w' vl.ownBlock) : Pow B w0 L S M P (m + 1) vl' w' := by
  have hx : Exc (fun k => vl.ownBlock = some k) w w' := ⟨hg.os, hg.tape, hg.output, hg.size, fun k hk hne => hg.block k hk (fun e => hne e.symm)⟩
  have hlo : ∀ k, vl.ownBlock = some k → M ≤ k := fun k e => (h.ls.lt k e).1
  refine ⟨h.p.exo hx (fun k hk e => by have := h.oM k hk; have := hlo k e; omega), h.oM, h.rows.keep hx (fun x hm g hgx e => own_kinds (h.rows.own x hm) h.ls (by decide) g hgx e), ?_, h.be.trans (hx.below (Nat.le_trans h.le h.hM) (fun k e => Nat.le_trans h.le (hlo k e))), h.le, Nat.le_trans h.hM hx.size⟩
  rw [List.map_take] at ho ⊢
  rw [List.take_add_one, hv]
  exact ho
theorem Pow.row (h : Pow B w0 L S M P m vl w) (hg : w.grownBy w' vl.ownBlock) {k : Nat} {C : Array Value} (hr : w.heap[k]? = some (.cells C 26 (0, 0))) : w'.heap[k]? = some (.cells C 26 (0, 0)) :=
  (hg.block k (Array.getElem?_eq_some_iff.1 hr).1 (fun e => own_kind_ne h.ls hr (by decide) k e.symm rfl)).trans hr
end
end Go.Proofs.Ytghiabdkgfhdbaa
