/-
  Worlds in which some rows have turned; rows that hold one mark; a list of lists that is appended to.
-/
import Derived.Test.YtjdlbkjkooeceabMe
import Derived.ArgAppend
import Derived.Lib.OwnKind
namespace Go.Proofs.Ytjdlbkjkooeceab
set_option linter.unusedVariables false
open Go.ChangeShapes Go.WideShapes Go.ChangeAt Go.RowKit
/-- But for the blocks of 'S' the world w' has all that w had, as it was. -/
structure Exc (S : Nat → Prop) (w w' : World) : Prop where
  os : w'.os = w.os
  tape : w'.tape = w.tape
  output : w'.output = w.output
  size : w.heap.size ≤ w'.heap.size
  block : ∀ k, k < w.heap.size → ¬ S k → w'.heap[k]? = w.heap[k]?
theorem Exc.refl (S : Nat → Prop) (w : World) : Exc S w w := ⟨rfl, rfl, rfl, Nat.le_refl _, fun _ _ _ => rfl⟩
theorem Exc.trans {S : Nat → Prop} {a b c : World} (h : Exc S a b) (k : Exc S b c) : Exc S a c :=
  ⟨k.os.trans h.os, k.tape.trans h.tape, k.output.trans h.output, Nat.le_trans h.size k.size, fun i hi hs => (k.block i (Nat.lt_of_lt_of_le hi h.size) hs).trans (h.block i hi hs)⟩
theorem Exc.mono {S T : Nat → Prop} {a b : World} (h : Exc S a b) (hst : ∀ k, S k → T k) : Exc T a b := ⟨h.os, h.tape, h.output, h.size, fun i hi hs => h.block i hi (fun e => hs (hst i e))⟩
theorem Exc.of_below {S : Nat → Prop} {a b : World} {B : Nat} (h : Below B a b) (hB : B = a.heap.size) : Exc S a b := ⟨h.os, h.tape, h.output, h.size, fun i hi _ => h.block i (by omega)⟩
theorem Exc.below {S : Nat → Prop} {a b : World} (h : Exc S a b) {B : Nat} (hB : B ≤ a.heap.size) (hS : ∀ k, S k → B ≤ k) : Below B a b :=
  ⟨h.os, h.tape, h.output, h.size, fun i hi => h.block i (by omega) (fun e => by have := hS i e; omega)⟩
theorem Exc.set {S : Nat → Prop} {a b : World} (h : Exc S a b) (g j : Nat) (u : Value) (hg : S g) : Exc S a (b.setCell ⟨g, j, none⟩ u) :=
  h.trans ⟨rfl, rfl, rfl, by simp [World.setCell], fun i hi hs => Below.heap_setCell b ⟨g, j, none⟩ u i (fun e => hs (by have e' : i = g := e; rw [e']; exact hg))⟩
theorem Exc.cell {S : Nat → Prop} {a b : World} (h : Exc S a b) {p : Addr} (hp : p.block < a.heap.size) (hs : ¬ S p.block) : b.cell? p = a.cell? p := World.cell?_of_block (w := a) (h.block p.block hp hs)
/-- A row of n bytes of which the first k are c. -/
def Row (w : World) (g n k : Nat) (c : Int) : Prop := ∃ cur : Array Value, w.heap[g]? = some (.cells cur 5 (0, 0)) ∧ cur.size = n ∧ (∀ t, t < n → ∃ z, cur[t]? = some (.int .u8 z)) ∧ ∀ t, t < k → cur[t]? = some (.int .u8 c)
theorem Row.cell {w : World} {g n k t : Nat} {c : Int} (h : Row w g n k c) (ht : t < n) : ∃ z, w.cell? ⟨g, t, none⟩ = some (.int .u8 z) := by
  obtain ⟨cur, h1, h2, h3, h4⟩ := h
  obtain ⟨z, hz⟩ := h3 t ht
  exact ⟨z, by rw [cell_of_row w g t cur 5 (0, 0) h1]; exact hz⟩
theorem Row.at_ {w : World} {g n k t : Nat} {c : Int} (h : Row w g n k c) (ht : t < k) : w.cell? ⟨g, t, none⟩ = some (.int .u8 c) := by
  obtain ⟨cur, h1, h2, h3, h4⟩ := h
  rw [cell_of_row w g t cur 5 (0, 0) h1]; exact h4 t ht
theorem Row.frozen {w : World} {g n k t : Nat} {c : Int} (h : Row w g n k c) : w.frozen? ⟨g, t, none⟩ = false := by
  obtain ⟨cur, h1, h2, h3, h4⟩ := h
  exact frozen_of_row w g t cur 5 h1
theorem Row.start {w : World} {g n k : Nat} {c d : Int} (h : Row w g n k c) : Row w g n 0 d := by
  obtain ⟨cur, h1, h2, h3, h4⟩ := h
  exact ⟨cur, h1, h2, h3, fun t ht => by omega⟩
theorem Row.lt {w : World} {g n k : Nat} {c : Int} (h : Row w g n k c) : g < w.heap.size := by
  obtain ⟨cur, h1, _⟩ := h
  exact (Array.getElem?_eq_some_iff.1 h1).1
theorem Row.set {w : World} {g n k : Nat} {c : Int} (h : Row w g n k c) (hk : k < n) : Row (w.setCell ⟨g, k, none⟩ (.int .u8 c)) g n (k + 1) c := by
  obtain ⟨cur, h1, h2, h3, h4⟩ := h
  refine ⟨cur.setIfInBounds k (.int .u8 c), heap_setCell_same w g k cur 5 _ h1, by simpa using h2, fun t ht => ?_, fun t ht => ?_⟩
  · by_cases e : k = t
    · subst e; exact ⟨c, by simp [h2, hk]⟩
    · obtain ⟨z, hz⟩ := h3 t ht
      exact ⟨z, by rw [Array.getElem?_setIfInBounds_ne e]; exact hz⟩
  · by_cases e : k = t
    · subst e; simp [h2, hk]
    · rw [Array.getElem?_setIfInBounds_ne e]; exact h4 t (by omega)
theorem Row.keep {S : Nat → Prop} {a b : World} {g n k : Nat} {c : Int} (h : Row a g n k c) (he : Exc S a b) (hs : ¬ S g) : Row b g n k c := by
  have hl := h.lt
  obtain ⟨cur, h1, h2, h3, h4⟩ := h
  exact ⟨cur, by rw [he.block g hl hs]; exact h1, h2, h3, h4⟩
theorem Row.of_own {w : World} {B g n : Nat} {l : List Int} (h : w.ownsRow B 5 1 (.slice (some ⟨g, 0, none⟩) n n) n (bv l)) : Row w g n 0 0 := by
  have hlen := h.1
  rcases h.2 with ⟨h', _⟩ | ⟨g', cap', cur, h', _, hg, hn, _, hs, ht⟩
  · simp at h'
  · simp only [Value.slice.injEq, Option.some.injEq, Addr.mk.injEq, and_true, true_and] at h'
    obtain ⟨rfl, rfl⟩ := h'
    refine ⟨cur, hg, by omega, fun t htn => ?_, fun t ht => by omega⟩
    have hl : t < l.length := by rw [bv_length] at hlen; omega
    refine ⟨l.getD t 0, ?_⟩
    have e : (bv l)[t]? = some (.int .u8 (l.getD t 0)) := bv_get l t hl
    rw [← ht, List.getElem?_take, if_pos (by omega)] at e
    simpa using e
/-- What a world owns stays owned in a later one. -/
theorem own_later {w w' : World} {B e size n : Nat} {v : Value} {xs : List Value} (h : w.ownsRow B e size v n xs) {B' : Nat} (hb : Below B' w w') (hB : B' = w.heap.size) : w'.ownsRow B e size v n xs := by
  have hl := h.lt
  refine ⟨h.1, ?_⟩
  rcases h.2 with h' | ⟨g, cap, cur, rfl, h1, h2, h3⟩
  · exact .inl h'
  · exact .inr ⟨g, cap, cur, rfl, h1, by rw [hb.block g (by rw [hB]; exact (hl g rfl).2)]; exact h2, h3⟩
theorem own_le {w : World} {B B' e size n : Nat} {v : Value} {xs : List Value} (h : w.ownsRow B e size v n xs) (hb : B' ≤ B) : w.ownsRow B' e size v n xs := by
  refine ⟨h.1, ?_⟩
  rcases h.2 with h' | ⟨g, cap, cur, rfl, h1, h2, h3⟩
  · exact .inl h'
  · exact .inr ⟨g, cap, cur, rfl, Nat.le_trans hb h1, h2, h3⟩
theorem own_ne {w : World} {B B' e e' n n' : Nat} {v v' : Value} {xs xs' : List Value} (h : w.ownsRow B e 1 v n xs) (h' : w.ownsRow B' e' 1 v' n' xs') (hne : e ≠ e') : v.ownBlock = none ∨ v.ownBlock ≠ v'.ownBlock := by
  cases hv : v.ownBlock with
  | none => exact .inl rfl
  | some g =>
    right
    intro hv'
    obtain ⟨c, fz, h1⟩ := Go.Lib.ownsRow_kind h g hv
    obtain ⟨c', fz', h2⟩ := Go.Lib.ownsRow_kind h' g hv'.symm
    rw [h1] at h2
    simp at h2
    exact hne h2.2.1
theorem info22 : (Try.prog.info? 22).map (fun i => (i.zero, i.size, i.bytes)) = some (some (.slice none 0 0), 1, 24) := by kernel_rfl
/-- One list appended to a row of lists of the call's own. -/
theorem appS {ops : Array Oper} {rest : List Oper} {o : Oper} {a : Act} {w : World} {Q : Exit → Act → World → Prop} (hgd : o.guard = none) (s x : Operand) (ho : o.op = .call { callee := .builtin .append, args := #[s, x], argTypes := #[29, 29] })
    (B : Nat) (v : Value) (n : Nat) (l : List Value) (b : Value) (hb1 : b.oneCell' = true) (hs : a.eval s = v) (hown : w.ownsRow B 22 1 v n l) (hx : a.eval x = .slice (some ⟨w.heap.size, 0, none⟩) 1 1) (hl : n ≤ 1000) (hB : B ≤ w.heap.size)
    (h : ∀ v' w', w'.ownsRow B 22 1 v' (n + 1) (l ++ [b]) → w.grownBy w' v.ownBlock → wpList Try.prog ops Q rest (a.put o.dst v') w') :
    wpList Try.prog ops Q (o :: rest) a (w.alloc (.cells #[b] 22)) := by
  obtain ⟨i0, hi, hz0, hz1, hz2⟩ := info_parts info22
  refine wpList_append_own _ hgd s x 29 ho B 22 i0 (.slice none 0 0) 1 24 Try.underlying29 hi hz0 hz1 hz2 rfl (by decide) v n l hs (hown.alloc _) ⟨w.heap.size, 0, none⟩ 1 1 [b] hx rfl ?_ ?_ (by unfold maxLen; omega) (by omega) (by simp; omega) ?_
  · intro j u hj
    match j, hj with
    | 0, hj => simp at hj; subst hj; simp [Addr.add]
  · intro u hu; simp at hu; subst hu; exact hb1
  · intro v' w' h1 h2 _
    refine h v' w' h1 ?_
    exact ⟨h2.os, h2.tape, h2.output, Nat.le_trans (by simp) h2.size, fun k hk hne => (h2.block k (by simp; omega) hne).trans (Below.heap_alloc w _ k hk)⟩
/-- One byte appended to a full row that is not the call's own: a new row. -/
theorem appG {ops : Array Oper} {rest : List Oper} {o : Oper} {a : Act} {w : World} {Q : Exit → Act → World → Prop} (hgd : o.guard = none) (s x : Operand) (ho : o.op = .call { callee := .builtin .append, args := #[s, x], argTypes := #[22, 22] })
    (g n : Nat) (c : Int) (hs : a.eval s = .slice (some ⟨g, 0, none⟩) n n) (hr : Row w g n n c) (hx : a.eval x = .slice (some ⟨w.heap.size, 0, none⟩) 1 1) (hl : n ≤ 1000)
    (h : ∀ v' w', w'.ownsRow w.heap.size 5 1 v' (n + 1) (bv (List.replicate (n + 1) c)) → Below w.heap.size w w' → wpList Try.prog ops Q rest (a.put o.dst v') w') :
    wpList Try.prog ops Q (o :: rest) a (w.alloc (.cells #[.int .u8 c] 5)) := by
  obtain ⟨i0, hi, hz0, hz1, hz2⟩ := info_parts info5
  have hg := hr.lt
  refine wpList_append_grows _ hgd s x 22 ho 5 i0 (.int .u8 0) 1 1 Try.underlying22 hi hz0 hz1 hz2 rfl (by decide) (some ⟨g, 0, none⟩) n n (bv (List.replicate n c)) hs (fun e => by cases e) (by simp [bv]) ?_ ⟨w.heap.size, 0, none⟩ 1 1 [.int .u8 c] hx rfl ?_ ?_ (by omega) (by unfold maxLen; omega) (by omega) ?_
  · intro b hb j u hj
    cases hb
    have hjl : j < n := by have := (List.getElem?_eq_some_iff.1 hj).1; simpa [bv] using this
    have hadd : (⟨g, 0, none⟩ : Addr).add j = ⟨g, j, none⟩ := by unfold Addr.add; split <;> simp_all
    rw [hadd, World.cell?_alloc_past _ _ _ (show g < _ by omega), hr.at_ hjl]
    simp [bv, hjl] at hj
    rw [← hj]
  · intro j u hj
    match j, hj with
    | 0, hj => simp at hj; subst hj; simp [Addr.add]
  · intro u hu; simp at hu; subst hu; rfl
  · intro v' w' h1 h2
    refine h v' w' ?_ ?_
    · have h1' := own_le h1 (show w.heap.size ≤ _ by simp)
      rw [show bv (List.replicate n c) ++ [Value.int .u8 c] = bv (List.replicate (n + 1) c) by rw [List.replicate_succ']; simp [bv]] at h1'
      exact h1'
    · exact ((Below.refl _ _).alloc (Nat.le_refl _) _).grown h2 (by simp) (fun k hk => by cases hk)
end Go.Proofs.Ytjdlbkjkooeceab
