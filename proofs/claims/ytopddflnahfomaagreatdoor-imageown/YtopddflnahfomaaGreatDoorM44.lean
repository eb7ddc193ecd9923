/-
  Iua.
-/
import Derived.Test.YtopddflnahfomaaGreatDoorM43
import Derived.Test.YtopddflnahfomaaGreatDoorM40
import Derived.ArgAppend
import Derived.OneCell
import Derived.Lib.OwnKind
import Derived.Lib.SmallJoins
namespace Go.Proofs.YtopddflnahfomaaGreatDoor
set_option linter.unusedVariables false
set_option maxRecDepth 100000
open Go.ChangeShapes Go.WideShapes Go.ChangeAt Go.RowKit Go.Deep
theorem bv_length (l : List Int) : (bv l).length = l.length := by simp [bv]
theorem bv_set (l : List Int) (k : Nat) (z : Int) : (bv l).set k (.int .u8 z) = bv (l.set k z) := by simp [bv, List.map_set]
/-- But for the blocks of 'S' the world w' has all that w had, as it was. -/
structure Exc (S : Nat → Prop) (w w' : World) : Prop where
  os : w'.os = w.os
  tape : w'.tape = w.tape
  output : w'.output = w.output
  size : w.heap.size ≤ w'.heap.size
  block : ∀ k, k < w.heap.size → ¬ S k → w'.heap[k]? = w.heap[k]?
theorem Exc.refl (S : Nat → Prop) (w : World) : Exc S w w := ⟨rfl, rfl, rfl, Nat.le_refl _, fun _ _ _ => rfl⟩
theorem Exc.trans {S : Nat → Prop} {a b c : World} (h : Exc S a b) (k : Exc S b c) : Exc S a c :=
  ⟨k.os.trans h.os, k.tape.trans h.tape, k.output.trans h.output, Nat.le_trans h.size k.size, fun i hi hs => (k.block i (Nat.lt_of_lt_of_le hi h.size) hs).trans (h.block i hi hs)⟩
theorem Exc.mono {S T : Nat → Prop} {a b : World} (h : Exc S a b) (hst : ∀ k, S k → T k) : Exc T a b := ⟨h.os, h.tape, h.output, h.size, fun i hi hs => h.block i hi (fun e => hs (hst i e))⟩
theorem Exc.of_below {S : Nat → Prop} {a b : World} {B : Nat} (h : Below B a b) (hB : B = a.heap.size) : Exc S a b := ⟨h.os, h.tape, h.output, h.size, fun i hi _ => h.block i (by omega)⟩
theorem Exc.below {S : Nat → Prop} {a b : World} (h : Exc S a b) {B : Nat} (hB : B ≤ a.heap.size) (hS : ∀ k, S k → B ≤ k) : Below B a b :=
  ⟨h.os, h.tape, h.output, h.size, fun i hi => h.block i (by omega) (fun e => by have := hS i e; omega)⟩
theorem Exc.set {S : Nat → Prop} {a b : World} (h : Exc S a b) (g j : Nat) (u : Value) (hg : S g) : Exc S a (b.setCell ⟨g, j, none⟩ u) :=
  h.trans ⟨rfl, rfl, rfl, by simp [World.setCell], fun i hi hs => Below.heap_setCell b ⟨g, j, none⟩ u i (fun e => hs (by have e' : i = g := e; rw [e']; exact hg))⟩
theorem Exc.cell {S : Nat → Prop} {a b : World} (h : Exc S a b) {p : Addr} (hp : p.block < a.heap.size) (hs : ¬ S p.block) : b.cell? p = a.cell? p := World.cell?_of_block (w := a) (h.block p.block hp hs)
/-- Bytes that lie beside what has turned. -/
theorem Byt.exc {S : Nat → Prop} {w w' : World} {v : Value} {l : List Int} (h : Byt w v l) (he : Exc S w w') (hS : ∀ g off n c, v = .slice (some ⟨g, off, none⟩) n c → ¬ S g) : Byt w' v l := by
  obtain ⟨a, cap, rfl, h1, h1', h2⟩ := h
  refine ⟨a, cap, rfl, h1, h1', fun hn => ?_⟩
  obtain ⟨g, off, rfl, h3, h4⟩ := h2 hn
  exact ⟨g, off, rfl, Nat.lt_of_lt_of_le h3 he.size, fun j hj => by rw [he.cell h3 (hS g off _ _ rfl)]; exact h4 j hj⟩
theorem own_exc {S : Nat → Prop} {w w' : World} {B e size n : Nat} {v : Value} {xs : List Value} (h : w.ownsRow B e size v n xs) (he : Exc S w w') (hS : ∀ k, v.ownBlock = some k → ¬ S k) : w'.ownsRow B e size v n xs := by
  have hl := h.lt
  refine ⟨h.1, ?_⟩
  rcases h.2 with h' | ⟨g, cap, cur, rfl, h1, h2, h3⟩
  · exact .inl h'
  · exact .inr ⟨g, cap, cur, rfl, h1, by rw [he.block g (hl g rfl).2 (hS g rfl)]; exact h2, h3⟩
theorem own_le {w : World} {B B' e size n : Nat} {v : Value} {xs : List Value} (h : w.ownsRow B e size v n xs) (hb : B' ≤ B) : w.ownsRow B' e size v n xs := by
  refine ⟨h.1, ?_⟩
  rcases h.2 with h' | ⟨g, cap, cur, rfl, h1, h2, h3⟩
  · exact .inl h'
  · exact .inr ⟨g, cap, cur, rfl, Nat.le_trans hb h1, h2, h3⟩
theorem own_put {w : World} {B g n cap : Nat} {l : List Int} (h : w.ownsRow B 5 1 (.slice (some ⟨g, 0, none⟩) n cap) n (bv l)) (j : Nat) (hj : j < n) (x : Int) : (w.setCell ⟨g, j, none⟩ (.int .u8 x)).ownsRow B 5 1 (.slice (some ⟨g, 0, none⟩) n cap) n (bv (l.set j x)) := by
  have hl := h.1
  rw [bv_length] at hl
  rcases h.2 with ⟨h0, _⟩ | ⟨g', cap', cur, ev, h1, hrow, h3, h4, h5, h6⟩
  · cases h0
  · cases ev
    refine ⟨by rw [bv_length, List.length_set]; exact hl, .inr ⟨g, cap, _, rfl, h1, heap_setCell_same w g j _ _ _ hrow, h3, h4, by rw [Array.size_setIfInBounds]; exact h5, ?_⟩⟩
    rw [Array.toList_setIfInBounds, List.take_set, h6, bv_set]
theorem ownBlock_slice {v : Value} {g off n c : Nat} (h : v = .slice (some ⟨g, off, none⟩) n c) : v.ownBlock = some g := by subst h; rfl
theorem own_kinds {w : World} {B B' e e' s s' n n' : Nat} {v v' : Value} {xs xs' : List Value} (h : w.ownsRow B e s v n xs) (h' : w.ownsRow B' e' s' v' n' xs') (hne : e ≠ e') : ∀ g, v.ownBlock = some g → v'.ownBlock ≠ some g := by
  intro g hg hg'
  obtain ⟨c, fz, h1⟩ := Go.Lib.ownsRow_kind h g hg
  obtain ⟨c', fz', h2⟩ := Go.Lib.ownsRow_kind h' g hg'
  rw [h1] at h2
  simp at h2
  exact hne h2.2.1
theorem own_kind_ne {w : World} {B e s n T : Nat} {v : Value} {xs : List Value} {q : Nat} {cs : Array Value} {fr : Nat × Nat} (h : w.ownsRow B e s v n xs) (hq : w.heap[q]? = some (.cells cs T fr)) (hT : T ≠ e) : ∀ g, v.ownBlock = some g → g ≠ q := by
  intro g hg e
  subst e
  obtain ⟨c, fz, h1⟩ := Go.Lib.ownsRow_kind h g hg
  rw [hq] at h1
  simp at h1
  exact hT h1.2.1
theorem take_set_snoc {α : Type} : ∀ (l : List α) (n : Nat) (x : α), n < l.length → (l.set n x).take (n + 1) = l.take n ++ [x]
  | [], n, x, h => by simp at h
  | a :: l, 0, x, h => by simp
  | a :: l, n + 1, x, h => by simp [take_set_snoc l n x (by simpa using h)]
/-- One byte appended to a row of one's own: in place, or a new row; the old one's bytes stay. -/
theorem appO {ops : Array Oper} {rest : List Oper} {o : Oper} {a : Act} {w : World} {Q : Exit → Act → World → Prop} (hgd : o.guard = none) (s x : Operand) (ho : o.op = .call { callee := .builtin .append, args := #[s, x], argTypes := #[29, 29] })
    (B : Nat) (v : Value) (n : Nat) (q : List Int) (y : Int) (hs : a.eval s = v) (hown : w.ownsRow B 5 1 v n (bv q)) (ad : Addr) (hx : a.eval x = .slice (some ad) 1 1) (had : ad.add 0 = ad) (hy : w.cell? ad = some (.int .u8 y)) (hl : n ≤ 1000000) (hB : B ≤ w.heap.size)
    (h : ∀ v' w', w'.ownsRow B 5 1 v' (n + 1) (bv (q ++ [y])) → Exc (fun k => v.ownBlock = some k) w w' → (v'.ownBlock = v.ownBlock ∨ ∃ g, v'.ownBlock = some g ∧ w.heap.size ≤ g) → (∀ g j, g < w.heap.size → (v.ownBlock = some g → j < n) → w'.cell? ⟨g, j, none⟩ = w.cell? ⟨g, j, none⟩) → wpList Tryz.prog ops Q rest (a.put o.dst v') w') :
    wpList Tryz.prog ops Q (o :: rest) a w := by
  obtain ⟨i0, hi, hz0, hz1, hz2⟩ := info_parts info5
  have hql : q.length = n := by have := hown.1; rw [bv_length] at this; omega
  have hc : ∀ j u, [Value.int .u8 y][j]? = some u → w.cell? (ad.add j) = some u := by
    intro j u hj
    cases j with
    | zero => simp only [List.getElem?_cons_zero, Option.some.injEq] at hj; subst hj; rw [had]; exact hy
    | succ j => simp at hj
  have h1c : ∀ u ∈ [Value.int .u8 y], u.oneCell' = true := by intro u hu; simp only [List.mem_singleton] at hu; subst hu; rfl
  have e0 : bv q ++ [.int .u8 y] = bv (q ++ [y]) := by simp [bv]
  have hgrow : ∀ v' w', w'.ownsRow w.heap.size 5 1 v' (n + 1) (bv q ++ [.int .u8 y]) → w.grownBy w' none → wpList Tryz.prog ops Q rest (a.put o.dst v') w' := fun v' w' hw hg => by
    have hb : Below w.heap.size w w' := (Below.refl _ _).grown hg (Nat.le_refl _) (fun k hk => by cases hk)
    rw [e0] at hw
    refine h v' w' (own_le hw hB) (Exc.of_below hb rfl) (.inr ?_) (fun g j hg _ => hb.cell hg)
    rcases Go.Joins.ownsRow_forms hw with ⟨_, h0⟩ | ⟨g, cap, rfl⟩
    · omega
    · exact ⟨g, rfl, (hw.lt g rfl).1⟩
  rcases hown.2 with ⟨rfl, h0⟩ | ⟨g, cap, cur, rfl, h1, h2, h3, h4, h5, h6⟩
  · subst h0
    have hq0 : q = [] := List.eq_nil_of_length_eq_zero hql
    subst hq0
    exact wpList_append_grows w hgd s x 29 ho 5 i0 (.int .u8 0) 1 1 Tryz.underlying29 hi hz0 hz1 hz2 rfl (by decide) none 0 0 [] hs (fun _ => ⟨rfl, rfl⟩) rfl (fun b e => by cases e) ad 1 1 [.int .u8 y] hx rfl hc h1c (by omega) (by unfold maxLen; omega) (by omega) hgrow
  · have hcell : ∀ j, w.cell? ⟨g, j, none⟩ = cur[j]? := fun j => cell_of_row w g j cur _ _ h2
    refine wpList_append_arg w hgd s x 29 ho 5 i0 (.int .u8 0) 1 1 Tryz.underlying29 hi hz0 hz1 hz2 rfl (by decide) g 0 n cap (bv q) hs (by rw [bv_length, Nat.mul_one]; exact hql) (fun j u hj => ?_) ad 1 1 [.int .u8 y] hx rfl hc h1c (fun hr j hj => ?_) (by unfold maxLen; omega) (by omega) (fun hr => ?_) (fun _ => hgrow)
    · have hjl : j < q.length := by have := (List.getElem?_eq_some_iff.1 hj).1; simpa [bv] using this
      rw [Nat.zero_add, hcell, ← hj, ← h6, List.getElem?_take_of_lt (by omega), ← Array.getElem?_toList]
    · simp only [List.length_singleton] at hj
      obtain rfl : j = 0 := by omega
      exact ⟨by rw [hcell, Array.getElem?_eq_getElem (by omega)]; rfl, frozen_of_row w g _ _ _ h2⟩
    · have hx : Exc (fun k => (Value.slice (some ⟨g, 0, none⟩) n cap).ownBlock = some k) w (w.setCell ⟨g, 0 + n * 1, none⟩ (.int .u8 y)) := (Exc.refl _ w).set g _ _ rfl
      refine h _ (w.setCell ⟨g, 0 + n * 1, none⟩ (.int .u8 y)) ⟨by simp [bv, hql], .inr ⟨g, cap, _, rfl, h1, heap_setCell_same w g _ _ _ _ h2, hr, h4, by rw [Array.size_setIfInBounds]; exact h5, ?_⟩⟩ hx (.inl rfl) (fun g' j hg' hj => ?_)
      · rw [Array.toList_setIfInBounds, Nat.zero_add, Nat.mul_one, Nat.mul_one, take_set_snoc _ _ _ (by rw [Array.length_toList]; omega), ← e0, ← h6, Nat.mul_one]
      · refine World.cell?_setCell_other _ _ _ _ (fun e => ?_)
        injection e with e1 e2
        have := hj (by rw [e1]; rfl)
        omega
theorem info22 : (Tryz.prog.info? 29).map (fun i => (i.zero, i.size, i.bytes)) = some (some (.slice none 0 0), 1, 24) := by kernel_rfl
/-- One list appended to a row of lists of the call's own. -/
theorem appVV {ops : Array Oper} {rest : List Oper} {o : Oper} {a : Act} {w : World} {Q : Exit → Act → World → Prop} (hgd : o.guard = none) (s x : Operand) (ho : o.op = .call { callee := .builtin .append, args := #[s, x], argTypes := #[40, 40] })
    (B : Nat) (v : Value) (n : Nat) (l : List Value) (b : Value) (hb1 : b.oneCell' = true) (hs : a.eval s = v) (hown : w.ownsRow B 29 1 v n l) (hx : a.eval x = .slice (some ⟨w.heap.size, 0, none⟩) 1 1) (hl : n ≤ 1000) (hB : B ≤ w.heap.size)
    (h : ∀ v' w', w'.ownsRow B 29 1 v' (n + 1) (l ++ [b]) → w.grownBy w' v.ownBlock → wpList Tryz.prog ops Q rest (a.put o.dst v') w') :
    wpList Tryz.prog ops Q (o :: rest) a (w.alloc (.cells #[b] 29)) := by
  obtain ⟨i0, hi, hz0, hz1, hz2⟩ := info_parts info22
  refine wpList_append_own _ hgd s x 40 ho B 29 i0 (.slice none 0 0) 1 24 Tryz.underlying40 hi hz0 hz1 hz2 rfl (by decide) v n l hs (hown.alloc _) ⟨w.heap.size, 0, none⟩ 1 1 [b] hx rfl ?_ ?_ (by unfold maxLen; omega) (by omega) (by simp; omega) ?_
  · intro j u hj
    match j, hj with
    | 0, hj => simp at hj; subst hj; simp [Addr.add]
  · intro u hu; simp at hu; subst hu; exact hb1
  · intro v' w' h1 h2 _
    refine h v' w' h1 ?_
    exact ⟨h2.os, h2.tape, h2.output, Nat.le_trans (by simp) h2.size, fun k hk hne => (h2.block k (by simp; omega) hne).trans (Below.heap_alloc w _ k hk)⟩
theorem set_getD {l : List Int} {t n : Nat} {c : Int} (hl : l.length = n) (ht : t < n) (h : ∀ t', t' < t → l.getD t' 0 = c) : ∀ t', t' < t + 1 → (l.set t c).getD t' 0 = c := by
  intro t' ht'
  simp only [List.getD]
  by_cases e : t = t'
  · subst e; rw [List.getElem?_set_self (by omega)]; rfl
  · rw [List.getElem?_set_ne e]; exact h t' (by omega)
def upd {α : Type} (f : Nat → α) (n : Nat) (x : α) : Nat → α := fun q => if q = n then x else f q
theorem upd_at {α : Type} (f : Nat → α) (n : Nat) (x : α) : upd f n x n = x := by unfold upd; rw [if_pos rfl]
theorem upd_ne {α : Type} (f : Nat → α) (n : Nat) (x : α) (q : Nat) (h : q ≠ n) : upd f n x q = f q := by unfold upd; rw [if_neg h]
theorem all_rep {l : List Int} {n : Nat} {c : Int} (hl : l.length = n) (h : ∀ t, t < n → l.getD t 0 = c) : l = List.replicate n c := by
  apply List.ext_getElem?
  intro j
  by_cases hj : j < n
  · have e := h j hj
    simp only [List.getD, List.getElem?_eq_getElem (show j < l.length by omega), Option.getD_some] at e
    rw [List.getElem?_eq_getElem (by omega), e, List.getElem?_replicate, if_pos hj]
  · rw [List.getElem?_eq_none (by omega), List.getElem?_eq_none (by simp; omega)]
theorem own_off {w : World} {B n : Nat} {v : Value} {xs : List Value} (h : w.ownsRow B 5 1 v n xs) : ∀ g off m c, v = .slice (some ⟨g, off, none⟩) m c → off = 0 := by
  intro g off m c e
  rcases Go.Joins.ownsRow_forms h with ⟨e9, _⟩ | ⟨g9, cap9, e9⟩
  · rw [e9] at e; cases e
  · rw [e9] at e; cases e; rfl
theorem rep_getD {n t : Nat} {c : Int} (h : t < n) : (List.replicate n c).getD t 0 = c := by simp [List.getD, h]
def m1 (q : Nat) : Int := (q : Int) + 1
def m2 (q : Nat) : Int := (q : Int) + 101
/-- The parts' blocks. -/
def Vbl (nl : Nat) (V : Nat → Value) (g : Nat) : Prop := ∃ q, q < nl ∧ (V q).ownBlock = some g
/-- The parts while they are written full. -/
structure Iw2 (M nl : Nat) (V : Nat → Value) (len : Nat → Nat) (l : Nat → List Int) (w0 w : World) : Prop where
  x : Exc (Vbl nl V) w0 w
  hM : M ≤ w0.heap.size
  vb : ∀ q, q < nl → ∀ g, (V q).ownBlock = some g → g < w0.heap.size
  own : ∀ q, q < nl → w.ownsRow M 5 1 (V q) (len q) (bv (l q))
  dj : ∀ q r, q < nl → r < nl → q ≠ r → ∀ g, (V q).ownBlock = some g → (V r).ownBlock ≠ some g
  len : ∀ q, q < nl → len q ≤ 200000
section
variable {M nl : Nat} {V : Nat → Value} {len : Nat → Nat} {l : Nat → List Int} {w0 w w' : World}
theorem Iw2.ll (h : Iw2 M nl V len l w0 w) (q : Nat) (hq : q < nl) : (l q).length = len q := by have := (h.own q hq).1; rw [bv_length] at this; omega
theorem Iw2.form (h : Iw2 M nl V len l w0 w) (q : Nat) (hq : q < nl) : ∃ a cap, V q = .slice a (len q) cap := by
  rcases Go.Joins.ownsRow_forms (h.own q hq) with ⟨e, h0⟩ | ⟨g, cap, e⟩
  · exact ⟨none, 0, by rw [e, h0]⟩
  · exact ⟨_, cap, e⟩
theorem Iw2.sm (h : Iw2 M nl V len l w0 w) (q : Nat) (hq : q < nl) (h0 : 0 < len q) : ∃ g cap, V q = .slice (some ⟨g, 0, none⟩) (len q) cap := by
  rcases Go.Joins.ownsRow_forms (h.own q hq) with ⟨e, h1⟩ | ⟨g, cap, e⟩
  · omega
  · exact ⟨g, cap, e⟩
theorem Iw2.put (h : Iw2 M nl V len l w0 w) (q : Nat) (hq : q < nl) (t : Nat) (ht : t < len q) (z : Int) {g cap : Nat} (hv : V q = .slice (some ⟨g, 0, none⟩) (len q) cap) :
    Iw2 M nl V len (upd l q ((l q).set t z)) w0 (w.setCell ⟨g, t, none⟩ (.int .u8 z)) := by
  have hg : (V q).ownBlock = some g := by rw [hv]; rfl
  refine ⟨h.x.set g t _ ⟨q, hq, hg⟩, h.hM, h.vb, fun r hr => ?_, h.dj, h.len⟩
  by_cases e : r = q
  · subst e
    rw [upd_at]
    have ho := h.own r hr
    rw [hv] at ho ⊢
    exact own_put ho t ht z
  · rw [upd_ne _ _ _ _ e]
    exact ownsRow_setCell_other (h.own r hr) (h.dj q r hq hr (fun e' => e e'.symm) g hg) _
end
/-- The parts while they are grown: the first i have been. -/
structure Iw3 (M N nl : Nat) (V : Nat → Value) (len : Nat → Nat) (i : Nat) (G : Nat → Value) (vg : Value) (w0 w : World) : Prop where
  x : Exc (Vbl nl V) w0 w
  hM : M ≤ N
  hN : N = w0.heap.size
  rem : ∀ q, i ≤ q → q < nl → w.ownsRow M 5 1 (V q) (len q) (bv (List.replicate (len q) (m1 q)))
  vb : ∀ q, q < nl → ∀ g, (V q).ownBlock = some g → g < N
  vz : ∀ q, q < nl → ∀ g off n c, V q = .slice (some ⟨g, off, none⟩) n c → off = 0
  old : ∀ q, q < nl → Byt w (V q) (List.replicate (len q) (m1 q))
  new : ∀ q, q < i → w.ownsRow M 5 1 (G q) (len q + 64) (bv (List.replicate (len q) (m1 q) ++ List.replicate 64 (m2 q)))
  dn : ∀ q, q < i → ∀ r, i ≤ r → r < nl → ∀ g, (G q).ownBlock = some g → (V r).ownBlock ≠ some g
  dj : ∀ q r, q < nl → r < nl → q ≠ r → ∀ g, (V q).ownBlock = some g → (V r).ownBlock ≠ some g
  gs : w.ownsRow N 29 1 vg i ((List.range i).map G)
  len : ∀ q, q < nl → len q ≤ 200000
/-- One part while it is grown. -/
structure Iw4 (M : Nat) (V : Nat → Value) (len : Nat → Nat) (i k : Nat) (gv : Value) (wa wr : World) : Prop where
  x : Exc (fun g => (V i).ownBlock = some g) wa wr
  own : wr.ownsRow M 5 1 gv (len i + k) (bv (List.replicate (len i) (m1 i) ++ List.replicate k (m2 i)))
  blk : gv.ownBlock = (V i).ownBlock ∨ ∃ g, gv.ownBlock = some g ∧ wa.heap.size ≤ g
  old : Byt wr (V i) (List.replicate (len i) (m1 i))
section
variable {M N nl i k : Nat} {V G : Nat → Value} {len : Nat → Nat} {l : Nat → List Int} {vg vg' gv gv' : Value} {w0 w w' wa wr : World}
theorem Iw2.iw3 (h : Iw2 M nl V len l w0 w) (hf : ∀ q, q < nl → ∀ t, t < len q → (l q).getD t 0 = m1 q) : Iw3 M w0.heap.size nl V len 0 V (.slice none 0 0) w0 w := by
  have e : ∀ q, q < nl → l q = List.replicate (len q) (m1 q) := fun q hq => all_rep (h.ll q hq) (hf q hq)
  have ho : ∀ q, q < nl → w.ownsRow M 5 1 (V q) (len q) (bv (List.replicate (len q) (m1 q))) := fun q hq => by rw [← e q hq]; exact h.own q hq
  exact ⟨h.x, h.hM, rfl, fun q _ hq => ho q hq, h.vb, fun q hq => own_off (h.own q hq), fun q hq => Byt.of_own (by have := ho q hq; exact this), fun q hq => by omega, fun q hq => by omega, h.dj, World.ownsRow_nil _ _ _ _, h.len⟩
theorem Iw3.start (h : Iw3 M N nl V len i G vg w0 w) (hi : i < nl) : Iw4 M V len i 0 (V i) w w := ⟨Exc.refl _ _, by have := h.rem i (Nat.le_refl _) hi; simpa using this, .inl rfl, h.old i hi⟩
theorem Iw4.next (h : Iw4 M V len i k gv wa wr) (hM : M ≤ wa.heap.size) (hvb : ∀ g, (V i).ownBlock = some g → g < wa.heap.size) (hv0 : ∀ g off n c, V i = .slice (some ⟨g, off, none⟩) n c → off = 0) {w1 : World} (hb : Below wr.heap.size wr w1) (ho : w'.ownsRow M 5 1 gv' (len i + k + 1) (bv (List.replicate (len i) (m1 i) ++ List.replicate k (m2 i) ++ [m2 i]))) (hx : Exc (fun g => gv.ownBlock = some g) w1 w')
    (hbl : gv'.ownBlock = gv.ownBlock ∨ ∃ g, gv'.ownBlock = some g ∧ w1.heap.size ≤ g) (hc : ∀ g j, g < w1.heap.size → (gv.ownBlock = some g → j < len i + k) → w'.cell? ⟨g, j, none⟩ = w1.cell? ⟨g, j, none⟩) : Iw4 M V len i (k + 1) gv' wa w' := by
  have z1 := h.x.size
  have z2 := hb.size
  refine ⟨⟨hx.os.trans (hb.os.trans h.x.os), hx.tape.trans (hb.tape.trans h.x.tape), hx.output.trans (hb.output.trans h.x.output), Nat.le_trans z1 (Nat.le_trans z2 hx.size), fun g hg hs => ?_⟩, ?_, ?_, ?_⟩
  · refine (hx.block g (by omega) (fun e => ?_)).trans ((hb.block g (by omega)).trans (h.x.block g hg hs))
    rcases h.blk with q | ⟨g', q, q2⟩
    · exact hs (q.symm.trans e)
    · rw [e] at q; injection q with q; omega
  · rw [← Nat.add_assoc, List.replicate_succ', ← List.append_assoc]; exact ho
  · rcases hbl with e | ⟨g, e, e2⟩
    · rw [e]; exact h.blk
    · exact .inr ⟨g, e, by omega⟩
  · obtain ⟨a, cap, e1, e2, e3, e4⟩ := h.old
    refine ⟨a, cap, e1, e2, e3, fun hne => ?_⟩
    obtain ⟨g, off, ea, q1, q2⟩ := e4 hne
    have hg : (V i).ownBlock = some g := by rw [e1, ea]; rfl
    have hlt := hvb g hg
    refine ⟨g, off, ea, by have := hx.size; omega, fun j hj => ?_⟩
    rw [← q2 j hj]
    have hj' : j < len i := by simpa using hj
    have hbc : w1.cell? ⟨g, off + j, none⟩ = wr.cell? ⟨g, off + j, none⟩ := hb.cell (by show g < _; omega)
    rw [← hbc]
    refine hc g (off + j) (by omega) (fun e => ?_)
    have h0 := hv0 g off _ cap (by rw [e1, ea])
    omega
theorem Iw3.next (h : Iw3 M N nl V len i G vg w0 wa) (hi : i < nl) (k : Iw4 M V len i 64 gv wa wr) (ho : w'.ownsRow N 29 1 vg' (i + 1) ((List.range i).map G ++ [gv])) (hg : wr.grownBy w' vg.ownBlock) :
    Iw3 M N nl V len (i + 1) (upd G i gv) vg' w0 w' := by
  have hN : N ≤ wa.heap.size := by rw [h.hN]; exact h.x.size
  have hM := h.hM
  have hx : Exc (fun g => (V i).ownBlock = some g ∨ vg.ownBlock = some g) wa w' := by
    refine ⟨hg.os.trans k.x.os, hg.tape.trans k.x.tape, hg.output.trans k.x.output, Nat.le_trans k.x.size hg.size, fun g hg2 hs => ?_⟩
    exact (hg.block g (Nat.lt_of_lt_of_le hg2 k.x.size) (fun e => hs (.inr e.symm))).trans (k.x.block g hg2 (fun e => hs (.inl e)))
  have hy : Exc (fun g => vg.ownBlock = some g) wr w' := ⟨hg.os, hg.tape, hg.output, hg.size, fun g hg2 hs => hg.block g hg2 (fun e => hs e.symm)⟩
  have gsr : wr.ownsRow N 29 1 vg i ((List.range i).map G) := own_exc h.gs k.x (fun g e q => by have := h.vb i hi g q; have := (h.gs.lt g e).1; omega)
  have glo : ∀ g, vg.ownBlock = some g → N ≤ g := fun g e => (h.gs.lt g e).1
  refine ⟨⟨hx.os.trans h.x.os, hx.tape.trans h.x.tape, hx.output.trans h.x.output, Nat.le_trans h.x.size hx.size, fun g hg2 hs => (hx.block g (Nat.lt_of_lt_of_le hg2 h.x.size) (fun e => ?_)).trans (h.x.block g hg2 hs)⟩, h.hM, h.hN, fun q hq hq2 => ?_, h.vb, h.vz, fun q hq => ?_, fun q hq => ?_, fun q hq r hr hr2 g e => ?_, h.dj, ?_, h.len⟩
  · rcases e with e | e
    · exact hs ⟨i, hi, e⟩
    · have := glo g e; have := h.hN; omega
  · refine own_exc (h.rem q (by omega) hq2) hx (fun g e q2 => ?_)
    rcases q2 with q2 | q2
    · exact h.dj i q hi hq2 (by omega) g q2 e
    · have := h.vb q hq2 g e; have := glo g q2; omega
  · by_cases e : q = i
    · subst e
      exact k.old.exc hy (fun g off n c e q2 => by have := h.vb q hq g (ownBlock_slice e); have := glo g q2; omega)
    · refine (h.old q hq).exc hx (fun g off n c e2 q2 => ?_)
      rcases q2 with q2 | q2
      · exact h.dj i q hi hq (fun e' => e e'.symm) g q2 (ownBlock_slice e2)
      · have := h.vb q hq g (ownBlock_slice e2); have := glo g q2; omega
  · by_cases e : q = i
    · subst e
      rw [upd_at]
      exact own_exc k.own hy (fun g e q2 => own_kinds k.own gsr (by decide) g e q2)
    · rw [upd_ne _ _ _ _ e]
      refine own_exc (h.new q (by omega)) hx (fun g e2 q2 => ?_)
      rcases q2 with q2 | q2
      · exact h.dn q (by omega) i (Nat.le_refl _) hi g e2 q2
      · exact own_kinds (h.new q (by omega)) h.gs (by decide) g e2 q2
  · by_cases e9 : q = i
    · subst e9
      rw [upd_at] at e
      rcases k.blk with e2 | ⟨g', e2, e3⟩
      · rw [e2] at e
        exact h.dj q r hi hr2 (by omega) g e
      · rw [e2] at e
        injection e with e
        intro q2
        have := h.vb r hr2 g q2
        omega
    · rw [upd_ne _ _ _ _ e9] at e
      exact h.dn q (by omega) r (by omega) hr2 g e
  · have e : (List.range (i + 1)).map (upd G i gv) = (List.range i).map G ++ [gv] := by
      rw [List.range_succ, List.map_append]
      congr 1
      · apply List.map_congr_left
        intro q hq
        have := List.mem_range.1 hq
        exact upd_ne _ _ _ _ (by omega)
      · simp [upd_at]
    rw [e]; exact ho
theorem Iw3.gt (h : Iw3 M N nl V len nl G vg w0 w) (hn : 0 < nl) : ∃ gl cl, vg = .slice (some ⟨gl, 0, none⟩) nl cl ∧ ∀ q, q < nl → w.cell? ⟨gl, q, none⟩ = some (G q) := by
  have hls := h.gs
  rcases Go.Joins.ownsRow_forms hls with ⟨_, h1⟩ | ⟨g, cap, rfl⟩
  · omega
  · refine ⟨g, cap, rfl, fun q hq => ?_⟩
    rw [hls.cellAt q (by omega), List.getElem?_map, List.getElem?_range hq]
    rfl
theorem Iw3.old_ (h : Iw3 M N nl V len i G vg w0 w) (q : Nat) (hq : q < nl) : ∃ a cap, V q = .slice a (len q) cap ∧ (0 < len q → ∃ g off, a = some ⟨g, off, none⟩ ∧ ∀ t, t < len q → w.cell? ⟨g, off + t, none⟩ = some (.int .u8 (m1 q))) := by
  obtain ⟨a, cap, e1, _, _, e4⟩ := h.old q hq
  rw [List.length_replicate] at e1
  refine ⟨a, cap, e1, fun h0 => ?_⟩
  obtain ⟨g, off, ea, _, q2⟩ := e4 (by simp; omega)
  refine ⟨g, off, ea, fun t ht => ?_⟩
  rw [q2 t (by simpa using ht), rep_getD ht]
theorem Iw3.new_ (h : Iw3 M N nl V len nl G vg w0 w) (q : Nat) (hq : q < nl) : ∃ g cap, G q = .slice (some ⟨g, 0, none⟩) (len q + 64) cap ∧ ∀ t, t < len q + 64 → w.cell? ⟨g, t, none⟩ = some (.int .u8 (if t < len q then m1 q else m2 q)) := by
  have ho := h.new q hq
  rcases Go.Joins.ownsRow_forms ho with ⟨_, h1⟩ | ⟨g, cap, e⟩
  · omega
  · refine ⟨g, cap, e, fun t ht => ?_⟩
    rw [e] at ho
    rw [ho.cellAt t (by omega), bv_get _ _ (by simpa using ht)]
    by_cases hlt : t < len q
    · rw [if_pos hlt, List.getD_eq_getElem?_getD, List.getElem?_append_left (by simpa using hlt), ← List.getD_eq_getElem?_getD, rep_getD hlt]
    · rw [if_neg hlt, List.getD_eq_getElem?_getD, List.getElem?_append_right (by simp; omega), ← List.getD_eq_getElem?_getD, List.length_replicate, rep_getD (by omega)]
end
/-- What Read made: the parts, as rows apart. -/
theorem sg_apx {L : List Sg} (h : L.Pairwise Apx) (q r : Nat) (hq : q < L.length) (hr : r < L.length) (hne : q ≠ r) : Apx (sg L q) (sg L r) := by
  have e : ∀ j (hj : j < L.length), sg L j = L[j] := fun j hj => by unfold sg; rw [List.getD_eq_getElem?_getD, List.getElem?_eq_getElem hj]; rfl
  have hpw := List.pairwise_iff_getElem.1 h
  rw [e q hq, e r hr]
  rcases Nat.lt_or_gt_of_ne hne with hlt | hlt
  · exact hpw q r hq hr hlt
  · exact (hpw r q hr hq hlt).symm
theorem ImO.iw2 {b : List Int} {B : Nat} {w w0 : World} {u v : Value} {L : List Sg} (h : ImO b B w u v L) (hb : b.length ≤ 200000) (hM : B ≤ w.heap.size) : ∃ l, Iw2 B L.length (fun q => .slice (sg L q).m (sg L q).n (sg L q).c) (fun q => (sg L q).n) l w w := by
  refine ⟨fun q => ptD b (paL b) q, Exc.refl _ _, hM, fun q hq g hg => ((h.data.at q hq).2.2.2.lt g hg).2, fun q hq => ?_, fun q r hq hr hne => sg_apx h.data.apx q r hq hr hne, fun q hq => ?_⟩
  · have o := (h.data.at q hq).2.2.2
    have e := own_n o
    show w.ownsRow B 5 1 (.slice (sg L q).m (sg L q).n (sg L q).c) (sg L q).n (bv (ptD b (paL b) q))
    unfold ptD
    generalize (sg L q).n = k at o e ⊢
    subst e
    exact o
  · have e := (h.data.dta q hq).1
    have e2 : (ptD b (paL b) q).length ≤ b.length := by unfold ptD; rw [List.length_take, List.length_drop]; omega
    show (sg L q).n ≤ 200000
    omega
theorem Arg.write_o {w0 w : World} {vs vn : Value} {L M : List Sg} {N : List Sy} {D : Nat → List Int} (h : Arg w0 vs vn L N D) (E : BitVec 64) {us un : Value} (ha : Alike L M) (hi : Img w us un M N) (hd : Dta w M D) (hT : Tabs w) (hc : ck E L N = 0) :
    Calls Tryz.prog 6 #[.agg #[.int .u64 (n64 E), us, un]] w fun e w' => ∃ f n, w.heap.size ≤ f ∧ e = .returned (.tuple #[.slice (some ⟨f, 0, none⟩) n n, .int .i64 0]) ∧ Byo w' f n (ans E L N D) ∧ Below w.heap.size w w' := by
  have h1 := h.nL
  have h2 := h.nN
  have q := pwrite_o E us un M N D (by rw [ha.len]; omega) (by omega) w hi hd hT ((ck_alike ha E N).trans hc)
  rw [ans_alike ha E N] at q
  exact q
/-- Read of a file of an image: what it made, with its rows. -/
theorem nd_reado {b : List Int} {E : BitVec 64} {L : List Sg} {N : List Sy} {D : Nat → List Int} (h : Nd b E.toNat L N D) (hc : ck E L N = 0) (hB : AllB b) (vb : Value) (w : World) (hv : Byt w vb b) (hT : Tabs w) (hE : EtW w) :
    Calls Tryz.prog 9 #[vb] w fun e w' => ∃ um un uc vm vn vc L', e = .returned (.tuple #[.agg #[.int .u64 (n64 E), .slice um un uc, .slice vm vn vc], .nilIface]) ∧ Alike L L' ∧ ImO b w.heap.size w' (.slice um un uc) (.slice vm vn vc) L' ∧ Below w.heap.size w w' := by
  obtain ⟨_, _, _, _, _, hz⟩ := ck_all hc
  have hlen := h.len
  obtain ⟨hr, he, _, _⟩ := nd_rd h hc
  refine (read_c hB (by omega) vb w hv hT hE).mono ?_
  rintro e w' (⟨_, u, v, L', rfl, hi, hb⟩ | ⟨F, g, hF, _⟩)
  · obtain ⟨q1, q2, q3⟩ := rd_alike h hc hi
    obtain ⟨um, un, uc, rfl⟩ := own_slice hi.segs
    obtain ⟨vm, vn, vc, rfl⟩ := own_slice hi.syms
    exact ⟨um, un, uc, vm, vn, vc, L', by rw [he]; rfl, q1, hi, hb⟩
  · rw [hr] at hF; cases hF
/-- alike of what Read made and the image. -/
theorem Arg.alike_o {w : World} {vs vn : Value} {L L' : List Sg} {N : List Sy} {D : Nat → List Int} (h : Arg w vs vn L N D) (E : BitVec 64) (hc : ck E L N = 0) {B : Nat} {u v : Value} (hi : ImO (ans E L N D) B w u v L') :
    Calls Tryz.prog 10 #[.agg #[.int .u64 (n64 E), u, v], .agg #[.int .u64 (n64 E), vs, vn]] w fun e w' => e = .returned (.bool true) ∧ Below w.heap.size w w' := by
  obtain ⟨q1, q2, q3⟩ := rd_alike (h.nd E hc).1 hc hi
  exact h.alike E q1 q2 q3
end Go.Proofs.YtopddflnahfomaaGreatDoor
