/-
  More appends to two lists of bytes that lie apart; the lists that symbols makes.
-/
import Derived.Test.YtjjdpfmkbaaapaaDoorIwb
namespace Go.Proofs.YtjjdpfmkbaaapaaDoor
set_option linter.unusedVariables false
open Go.ChangeShapes Go.WideShapes Go.ChangeAt Go.RowKit Go.Deep
/-- A text's bytes. -/
def sb (s : ByteArray) : List Int := s.data.toList.map fun b => (b.toNat : Int)
theorem sb_length (s : ByteArray) : (sb s).length = s.size := by rw [sb, List.length_map, Array.length_toList]; rfl
theorem strCells_bv (s : ByteArray) : Go.Lib.strCells s = bv (sb s) := by simp [Go.Lib.strCells, bv, sb]
theorem Byt.of_own {B : Nat} {w : World} {v : Value} {l : List Int} (h : w.ownsRow B 5 1 v l.length (bv l)) : Byt w v l := by
  rcases Go.Joins.ownsRow_forms h with ⟨rfl, h0⟩ | ⟨g, cap, rfl⟩
  · have hl0 : l = [] := List.eq_nil_of_length_eq_zero h0
    subst hl0
    exact ⟨none, 0, rfl, Nat.le_refl _, fun _ => rfl, fun hn => absurd rfl hn⟩
  · have hcap : l.length ≤ cap := by
      rcases h.2 with ⟨h', _⟩ | ⟨g', cap', cur, h', _, _, hn, _⟩
      · simp at h'
      · simp only [Value.slice.injEq] at h'; obtain ⟨_, _, rfl⟩ := h'; exact hn
    refine ⟨_, cap, rfl, hcap, fun e => by simp at e, fun hn => ⟨g, 0, rfl, (h.lt g rfl).2, fun j hj => ?_⟩⟩
    have := h.cells (g := g) rfl j _ (bv_get l j hj)
    rw [addAt] at this
    exact this
/-- A text appended to the first list. -/
theorem appPbs {ops : Array Oper} {rest : List Oper} {o : Oper} {a : Act} {w : World} {Q : Exit → Act → World → Prop} (hgd : o.guard = none) (s x : Operand) (ho : o.op = .call { callee := .builtin .append, args := #[s, x], argTypes := #[28, 9] })
    (B : Nat) (vb vt : Value) (lb lt : List Int) (st : ByteArray) (hs : a.eval s = vb) (hp : Pr B w vb lb vt lt) (hx : a.eval x = .string st) (hl : lb.length + st.size < 1000000) (hB : B ≤ w.heap.size)
    (h : ∀ v' w', Pr B w' v' (lb ++ sb st) vt lt → Fr B w w' → wpList Tryd.prog ops Q rest (a.put o.dst v') w') :
    wpList Tryd.prog ops Q (o :: rest) a w := by
  obtain ⟨i0, hi, hz0, hz1, hz2⟩ := info_parts info5
  refine Go.Lib.wpList_append_own_string _ hgd s x 28 9 ho B 5 i0 Tryd.underlying28 Tryd.underlying9 hi hz0 hz1 hz2 vb lb.length (bv lb) hs hp.b st hx (by unfold maxLen; omega) (by omega) hB ?_
  intro v' w' h1 h2 _
  rw [strCells_bv] at h1
  exact h v' w' (hp.growB h2 (by rw [List.length_append, sb_length]; simpa [bv] using h1)) (Fr.grown hp.b hB h2)
/-- A text appended to the second list. -/
theorem appPts {ops : Array Oper} {rest : List Oper} {o : Oper} {a : Act} {w : World} {Q : Exit → Act → World → Prop} (hgd : o.guard = none) (s x : Operand) (ho : o.op = .call { callee := .builtin .append, args := #[s, x], argTypes := #[28, 9] })
    (B : Nat) (vb vt : Value) (lb lt : List Int) (st : ByteArray) (hs : a.eval s = vt) (hp : Pr B w vb lb vt lt) (h0 : lt.head? = some 0) (hx : a.eval x = .string st) (hl : lt.length + st.size < 1000000) (hB : B ≤ w.heap.size)
    (h : ∀ v' w', Pr B w' vb lb v' (lt ++ sb st) → Fr B w w' → wpList Tryd.prog ops Q rest (a.put o.dst v') w') :
    wpList Tryd.prog ops Q (o :: rest) a w := by
  obtain ⟨i0, hi, hz0, hz1, hz2⟩ := info_parts info5
  refine Go.Lib.wpList_append_own_string _ hgd s x 28 9 ho B 5 i0 Tryd.underlying28 Tryd.underlying9 hi hz0 hz1 hz2 vt lt.length (bv lt) hs hp.t st hx (by unfold maxLen; omega) (by omega) hB ?_
  intro v' w' h1 h2 _
  rw [strCells_bv] at h1
  exact h v' w' (hp.growT h0 h2 (by rw [List.length_append, sb_length]; simpa [bv] using h1)) (Fr.grown hp.t hB h2)
/-- One byte appended to the second list. -/
theorem appPt {ops : Array Oper} {rest : List Oper} {o : Oper} {a : Act} {w : World} {Q : Exit → Act → World → Prop} (hgd : o.guard = none) (s x : Operand) (ho : o.op = .call { callee := .builtin .append, args := #[s, x], argTypes := #[28, 28] })
    (B : Nat) (vb vt : Value) (lb lt : List Int) (b : Int) (hs : a.eval s = vt) (hp : Pr B w vb lb vt lt) (hz : lt.head? = some 0) (h0 : Nat) (hx : a.eval x = .slice (some ⟨h0, 0, none⟩) 1 1) (hh0 : h0 = w.heap.size) (hl : lt.length < 1000000) (hB : B ≤ w.heap.size)
    (h : ∀ v' w', Pr B w' vb lb v' (lt ++ [b]) → Fr B w w' → wpList Tryd.prog ops Q rest (a.put o.dst v') w') :
    wpList Tryd.prog ops Q (o :: rest) a (w.alloc (.cells #[.int .u8 b] 5)) := by
  subst hh0
  obtain ⟨i0, hi, hz0, hz1, hz2⟩ := info_parts info5
  refine wpList_append_own _ hgd s x 28 ho B 5 i0 (.int .u8 0) 1 1 Tryd.underlying28 hi hz0 hz1 hz2 rfl (by decide) vt lt.length (bv lt) hs (hp.t.alloc _) ⟨w.heap.size, 0, none⟩ 1 1 [.int .u8 b] hx rfl ?_ ?_ (by unfold maxLen; omega) (by omega) (by simp; omega) ?_
  · intro j u hj
    match j, hj with
    | 0, hj => simp at hj; subst hj; simp [Addr.add]
  · intro u hu; simp at hu; subst hu; rfl
  · intro v' w' h1 h2 _
    have hg : w.grownBy w' vt.ownBlock := ⟨h2.os, h2.tape, h2.output, Nat.le_trans (by simp) h2.size, fun k hk hne => (h2.block k (by simp; omega) hne).trans (Below.heap_alloc w _ k hk)⟩
    exact h v' w' (hp.growT hz hg (by simpa [bv] using h1)) (Fr.grown hp.t hB hg)
/-- Bytes appended to the first list. -/
theorem appPbd {ops : Array Oper} {rest : List Oper} {o : Oper} {a : Act} {w : World} {Q : Exit → Act → World → Prop} (hgd : o.guard = none) (s x : Operand) (ho : o.op = .call { callee := .builtin .append, args := #[s, x], argTypes := #[28, 28] })
    (B : Nat) (vb vt : Value) (lb lt : List Int) (u : Value) (m : List Int) (hs : a.eval s = vb) (hp : Pr B w vb lb vt lt) (hx : a.eval x = u) (hu : Byt w u m) (hl : lb.length + m.length < 1000000) (hB : B ≤ w.heap.size)
    (h : ∀ v' w', Pr B w' v' (lb ++ m) vt lt → Fr B w w' → wpList Tryd.prog ops Q rest (a.put o.dst v') w') :
    wpList Tryd.prog ops Q (o :: rest) a w := by
  obtain ⟨i0, hi, hz0, hz1, hz2⟩ := info_parts info5
  obtain ⟨ao, cap, rfl, h1, h1', h2⟩ := hu
  cases ao with
  | none =>
    have hc := h1' rfl
    have hl0 : m = [] := List.eq_nil_of_length_eq_zero (by omega)
    subst hl0; subst hc
    refine wpList_append_own_none hgd s x 28 ho B 5 i0 1 Tryd.underlying28 hi _ lb.length (bv lb) hs hp.b hx ?_
    exact h _ _ (by rw [List.append_nil]; exact hp) (Fr.refl _ _)
  | some ad =>
    refine wpList_append_own _ hgd s x 28 ho B 5 i0 (.int .u8 0) 1 1 Tryd.underlying28 hi hz0 hz1 hz2 rfl (by decide) vb lb.length (bv lb) hs hp.b ad m.length cap (bv m) hx (by simp [bv]) ?_ ?_ (by unfold maxLen; omega) (by omega) hB ?_
    · intro j w2 hj
      have hjl : j < m.length := by have := (List.getElem?_eq_some_iff.1 hj).1; simpa [bv] using this
      obtain ⟨g, off, he, h3, h4⟩ := h2 (by intro e; rw [e] at hjl; simp at hjl)
      cases he
      rw [bv_get _ _ hjl] at hj
      cases hj
      rw [addAt]
      exact h4 j hjl
    · intro w2 hw2; simp [bv] at hw2; obtain ⟨q, _, rfl⟩ := hw2; rfl
    · intro v' w' g1 g2 g3
      exact h v' w' (hp.growB g2 (by simpa [bv] using g1)) (Fr.grown hp.b hB g2)
/-- A second list that was just made. -/
theorem Pr.newT {B : Nat} {w : World} {vb vt : Value} {lb lt : List Int} (h : Pr B w vb lb vt lt) (hB : B ≤ w.heap.size) : Pr B (w.alloc (.cells #[.int .u8 0] 5)) vb lb (.slice (some ⟨w.heap.size, 0, none⟩) 1 1) [0] :=
  ⟨h.b.alloc _, ⟨by simp [bv], .inr ⟨w.heap.size, 1, #[.int .u8 0], rfl, hB, heap_alloc_new w _, Nat.le_refl _, by unfold maxLen; omega, rfl, rfl⟩⟩, h.h, .inr rfl⟩
theorem lenOwn {B : Nat} {w : World} {v : Value} {l : List Int} (h : w.ownsRow B 5 1 v l.length (bv l)) : ∃ a c T, v = .slice a T c ∧ Hid (T = l.length) := by
  obtain ⟨a, c, e⟩ := lenInt_own h
  exact ⟨a, c, _, e, rfl⟩
/-- An entry of the table. -/
def entL (o : Nat) (x : Sy) : List Int := ptL o 4 ++ (ptL 16 2 ++ (ptL 65521 2 ++ (ptL x.v.toNat 8 ++ ptL 0 8)))
theorem entL_length (o : Nat) (x : Sy) : (entL o x).length = 24 := by simp [entL, ptL_length]
/-- The texts of the first k names. -/
def txL (N : List Sy) : Nat → List Int
  | 0 => [0]
  | k + 1 => txL N k ++ (sb (sy N k).s ++ [0])
/-- The entries of the first k names. -/
def tbL (N : List Sy) : Nat → List Int
  | 0 => []
  | k + 1 => tbL N k ++ entL (1 + nk N k) (sy N k)
theorem txL_length (N : List Sy) (k : Nat) : (txL N k).length = 1 + nk N k := by
  induction k with
  | zero => rfl
  | succ k ih => simp only [txL, nk, List.length_append, ih, sb_length, List.length_cons, List.length_nil]; omega
theorem tbL_length (N : List Sy) (k : Nat) : (tbL N k).length = 24 * k := by
  induction k with
  | zero => rfl
  | succ k ih => simp only [tbL, List.length_append, ih, entL_length]; omega
theorem txL_head (N : List Sy) (k : Nat) : (txL N k).head? = some 0 := by
  induction k with
  | zero => rfl
  | succ k ih =>
    simp only [txL]
    cases h : txL N k with
    | nil => rw [h] at ih; simp at ih
    | cons x l => rw [h] at ih; exact ih
theorem nk_mono (N : List Sy) {j k : Nat} (h : j ≤ k) : nk N j ≤ nk N k := by
  induction k with
  | zero => rw [Nat.le_zero.1 h]; exact Nat.le_refl _
  | succ k ih =>
    by_cases e : j = k + 1
    · subst e; exact Nat.le_refl _
    · have := ih (by omega)
      have e2 : nk N (k + 1) = nk N k + ((sy N k).s.size + 1) := rfl
      omega
end Go.Proofs.YtjjdpfmkbaaapaaDoor
