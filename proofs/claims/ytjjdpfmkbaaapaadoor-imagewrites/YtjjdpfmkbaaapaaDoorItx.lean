/-
  twin.
-/
import Derived.Test.YtjjdpfmkbaaapaaDoorItw
import Derived.Test.YtjjdpfmkbaaapaaDoorMem
namespace Go.Proofs.YtjjdpfmkbaaapaaDoor
set_option linter.unusedVariables false
open Go.ChangeShapes Go.WideShapes Go.ChangeAt Go.RowKit Go.Deep
/-- Parts that differ at most in where their bytes lie. -/
structure Alike (L M : List Sg) : Prop where
  len : M.length = L.length
  a : ∀ j, j < L.length → (sg M j).a = (sg L j).a
  s : ∀ j, j < L.length → (sg M j).s = (sg L j).s
  f : ∀ j, j < L.length → (sg M j).f = (sg L j).f
  n : ∀ j, j < L.length → (sg M j).n = (sg L j).n
/-- The cells of names, one behind the other. -/
def syv (x : Sy) : List Value := [.string x.s, .int .u64 (n64 x.v)]
def syl (N : List Sy) : List Value := N.flatMap syv
theorem syl_length (N : List Sy) : (syl N).length = N.length * 2 := by
  induction N with
  | nil => rfl
  | cons x N ih => simp only [syl, List.flatMap_cons, List.length_append, List.length_cons] at *; rw [ih]; simp [syv]; omega
theorem syl_get (N : List Sy) (j c : Nat) (hj : j < N.length) (hc : c < 2) : (syl N)[j * 2 + c]? = (syv (sy N j))[c]? := by
  induction N generalizing j with
  | nil => simp at hj
  | cons x N ih =>
    have e : syl (x :: N) = syv x ++ syl N := rfl
    rw [e]
    cases j with
    | zero => rw [Nat.zero_mul, Nat.zero_add, List.getElem?_append_left (by simp [syv]; exact hc)]; rfl
    | succ j =>
      rw [List.getElem?_append_right (by simp [syv]; omega), show (j + 1) * 2 + c - (syv x).length = j * 2 + c by simp [syv]; omega, ih j (by simpa using hj)]
      rfl
theorem Sys.of_own {w : World} {B : Nat} {v : Value} {N : List Sy} (h : w.ownsRow B 60 2 v N.length (syl N)) : Sys w v N := by
  rcases Go.Joins.ownsRow_forms h with ⟨rfl, h0⟩ | ⟨g, cap, rfl⟩
  · have hl0 : N = [] := List.eq_nil_of_length_eq_zero h0
    subst hl0
    exact ⟨none, 0, rfl, Nat.le_refl _, fun hn => absurd rfl hn⟩
  · have hcap : N.length ≤ cap := by
      rcases h.2 with ⟨h', _⟩ | ⟨g', cap', cur, h', _, _, hn, _⟩
      · simp at h'
      · simp only [Value.slice.injEq] at h'; obtain ⟨_, _, rfl⟩ := h'; exact hn
    refine ⟨_, cap, rfl, hcap, fun hn => ⟨g, 0, rfl, (h.lt g rfl).2, fun j hj => ?_⟩⟩
    have k : ∀ c, c < 2 → w.cell? ⟨g, j * 2 + c, none⟩ = (syv (sy N j))[c]? := fun c hc => by
      rw [h.cellAt (j * 2 + c) (by omega)]; exact syl_get N j c hj hc
    rw [Nat.zero_add]
    exact ⟨k 0 (by omega), k 1 (by omega)⟩
/-- Names appended to none. -/
theorem appN {ops : Array Oper} {rest : List Oper} {o : Oper} {a : Act} {w : World} {Q : Exit → Act → World → Prop} (hgd : o.guard = none) (s x : Operand) (ho : o.op = .call { callee := .builtin .append, args := #[s, x], argTypes := #[24, 24] })
    (u : Value) (N : List Sy) (hs : a.eval s = .slice none 0 0) (hx : a.eval x = u) (hu : Sys w u N) (hnil : Hid (∀ c k, u = .slice none k c → k = 0 ∧ c = 0)) (hl : N.length * 24 ≤ 140737488355328)
    (h : ∀ ad c' w', Below w.heap.size w w' → w'.ownsRow w.heap.size 60 2 (.slice ad N.length c') N.length (syl N) → wpList Tryd.prog ops Q rest (a.put o.dst (.slice ad N.length c')) w') :
    wpList Tryd.prog ops Q (o :: rest) a w := by
  obtain ⟨i0, hi, hz0, hz1, hz2⟩ := info_parts info51
  obtain ⟨ao, cap, rfl, h1, h2⟩ := hu
  cases ao with
  | none =>
    obtain ⟨hl0, hc0⟩ := hnil.out _ _ rfl
    have hN : N = [] := List.eq_nil_of_length_eq_zero hl0
    subst hN; subst hc0
    have hown := World.ownsRow_nil w w.heap.size 60 2
    refine wpList_append_own_none hgd s x 24 ho w.heap.size 60 i0 2 Tryd.underlying24 hi _ 0 [] hs hown hx ?_
    exact h _ _ _ (Below.refl _ _) hown
  | some ad =>
    refine wpList_append_own _ hgd s x 24 ho w.heap.size 60 i0 (.agg #[.string ⟨#[]⟩, .int .u64 0]) 2 24 Tryd.underlying24 hi hz0 hz1 hz2 rfl (by decide) _ 0 [] hs (World.ownsRow_nil _ _ _ _) ad N.length cap (syl N) hx (syl_length N) ?_ ?_ (by unfold maxLen; omega) (by omega) (Nat.le_refl _) ?_
    · intro j w2 hj
      have hjl : j < N.length * 2 := by have := (List.getElem?_eq_some_iff.1 hj).1; rw [syl_length] at this; exact this
      obtain ⟨g, off, he, h3, h4⟩ := h2 (by intro e; rw [e] at hjl; simp at hjl)
      cases he
      rw [addAt]
      obtain ⟨c0, c1⟩ := h4 (j / 2) (by omega)
      rcases Nat.mod_two_eq_zero_or_one j with hm | hm
      · have ej : j = j / 2 * 2 + 0 := by omega
        rw [ej, syl_get N (j / 2) 0 (by omega) (by omega)] at hj
        have hw2 : w2 = .string (sy N (j / 2)).s := (Option.some.inj hj).symm
        have eo : off + j = off + j / 2 * 2 := by omega
        rw [hw2, eo]; exact c0
      · have ej : j = j / 2 * 2 + 1 := by omega
        rw [ej, syl_get N (j / 2) 1 (by omega) (by omega)] at hj
        have hw2 : w2 = .int .u64 (n64 (sy N (j / 2)).v) := (Option.some.inj hj).symm
        have eo : off + j = off + j / 2 * 2 + 1 := by omega
        rw [hw2, eo]; exact c1
    · intro w2 hw2
      simp only [syl, List.mem_flatMap] at hw2
      obtain ⟨y, _, hy⟩ := hw2
      simp [syv] at hy
      rcases hy with rfl | rfl <;> rfl
    · intro v' w' g1 g2 _
      have hbl : Below w.heap.size w w' := (Below.refl _ _).grown g2 (Nat.le_refl _) (fun k hk => by cases hk)
      have g1' : w'.ownsRow w.heap.size 60 2 v' N.length (syl N) := by simpa using g1
      rcases Go.Joins.ownsRow_forms g1' with ⟨rfl, h0⟩ | ⟨g', c', rfl⟩
      · have := h none 0 w' hbl (by rw [h0] at g1' ⊢; exact g1')
        rw [h0] at this; exact this
      · exact h _ c' w' hbl g1'
/-- Where twin stands behind the first k parts. -/
structure TW (E : BitVec 64) (L : List Sg) (k Pb : Nat) (sv : Value) (w1 wr : World) : Prop where
  blk : wr.heap[Pb]? = some (.cells #[.int .u64 (n64 E), sv, .slice none 0 0] 26 (0, 0))
  own : ∃ M : List Sg, M.length = k ∧ (∀ j, j < k → (sg M j).a = (sg L j).a ∧ (sg M j).s = (sg L j).s ∧ (sg M j).f = (sg L j).f ∧ (sg M j).n = (sg L j).n) ∧ wr.ownsRow (Pb + 1) 38 4 sv M.length (sgl M)
  below : Below Pb w1 wr
end Go.Proofs.YtjjdpfmkbaaapaaDoor
