/-
  Iwa Iwb Iwc.
-/
import Derived.Test.YtheeogbmljjbdaaGreatDoorN26
import Derived.Test.YtheeogbmljjbdaaGreatDoorN08
import Derived.Lib.AppendStr
import Derived.Lib.SmallJoins
import Derived.Lib.OwnKind
import Derived.Test.YtheeogbmljjbdaaGreatDoorN01
namespace Go.Proofs.YtheeogbmljjbdaaGreatDoor
set_option linter.unusedVariables false
open Go.ChangeShapes Go.WideShapes Go.ChangeAt Go.RowKit Go.Deep
/-- The lowest n bytes of a number. -/
def ptL (N n : Nat) : List Int := (List.range n).map fun j => ((N / 256 ^ j % 256 : Nat) : Int)
theorem ptL_length (N n : Nat) : (ptL N n).length = n := by simp [ptL]
theorem ptL_get (N n j : Nat) (h : j < n) : (ptL N n).getD j 0 = ((N / 256 ^ j % 256 : Nat) : Int) := by simp [ptL, h]
theorem ptL_succ (N n : Nat) : ptL N (n + 1) = ptL N n ++ [((N / 256 ^ n % 256 : Nat) : Int)] := by simp [ptL, List.range_succ]
/-- The first list begins with 127; the second is none or begins with 0: so they lie apart. -/
structure Pr (B : Nat) (w : World) (vb : Value) (lb : List Int) (vt : Value) (lt : List Int) : Prop where
  b : w.ownsRow B 5 1 vb lb.length (bv lb)
  t : w.ownsRow B 5 1 vt lt.length (bv lt)
  h : lb.head? = some 127
  k : vt = .slice none 0 0 ∨ lt.head? = some 0
theorem Pr.first {B : Nat} {w : World} {v : Value} {l : List Int} (h : w.ownsRow B 5 1 v l.length (bv l)) {x : Int} (hx : l.head? = some x) {g : Nat} (hg : v.ownBlock = some g) : w.cell? ⟨g, 0, none⟩ = some (.int .u8 x) := by
  have := h.cells hg 0 (.int .u8 x) (by cases l with | nil => simp at hx | cons y l => simp at hx; subst hx; rfl)
  simpa [addAt] using this
theorem Pr.ne {B : Nat} {w : World} {vb vt : Value} {lb lt : List Int} (h : Pr B w vb lb vt lt) : vt.ownBlock = none ∨ vt.ownBlock ≠ vb.ownBlock := by
  rcases h.k with rfl | hk
  · exact .inl rfl
  · cases hv : vt.ownBlock with
    | none => exact .inl rfl
    | some g =>
      right
      intro e
      have h1 := Pr.first h.t hk hv
      have h2 := Pr.first h.b h.h e.symm
      rw [h1] at h2
      simp at h2
theorem Pr.ne' {B : Nat} {w : World} {vb vt : Value} {lb lt : List Int} (h : Pr B w vb lb vt lt) : vb.ownBlock = none ∨ vb.ownBlock ≠ vt.ownBlock := by
  rcases h.ne with e | e
  · cases hb : vb.ownBlock with
    | none => exact .inl rfl
    | some g => exact .inr (by rw [e]; simp)
  · exact .inr (Ne.symm e)
theorem Pr.growB {B : Nat} {w w' : World} {vb vt vb' : Value} {lb lt m : List Int} (h : Pr B w vb lb vt lt) (hg : w.grownBy w' vb.ownBlock) (ho : w'.ownsRow B 5 1 vb' (lb ++ m).length (bv (lb ++ m))) : Pr B w' vb' (lb ++ m) vt lt :=
  ⟨ho, h.t.kept hg h.ne, by cases lb with | nil => exact absurd h.h (by simp) | cons x lb => exact h.h, h.k⟩
theorem Pr.growT {B : Nat} {w w' : World} {vb vt vt' : Value} {lb lt m : List Int} (h : Pr B w vb lb vt lt) (hl : lt.head? = some 0) (hg : w.grownBy w' vt.ownBlock) (ho : w'.ownsRow B 5 1 vt' (lt ++ m).length (bv (lt ++ m))) : Pr B w' vb lb vt' (lt ++ m) :=
  ⟨h.b.kept hg h.ne', ho, h.h, .inr (by cases lt with | nil => exact absurd hl (by simp) | cons x lt => exact hl)⟩
/-- One byte appended to the first list. -/
theorem appPb {ops : Array Oper} {rest : List Oper} {o : Oper} {a : Act} {w : World} {Q : Exit → Act → World → Prop} (hgd : o.guard = none) (s x : Operand) (ho : o.op = .call { callee := .builtin .append, args := #[s, x], argTypes := #[31, 31] })
    (B : Nat) (vb vt : Value) (lb lt : List Int) (b : Int) (hs : a.eval s = vb) (hp : Pr B w vb lb vt lt) (h0 : Nat) (hx : a.eval x = .slice (some ⟨h0, 0, none⟩) 1 1) (hh0 : h0 = w.heap.size) (hl : lb.length < 1000000) (hB : B ≤ w.heap.size)
    (h : ∀ v' w', Pr B w' v' (lb ++ [b]) vt lt → Fr B w w' → wpList Tryz.prog ops Q rest (a.put o.dst v') w') :
    wpList Tryz.prog ops Q (o :: rest) a (w.alloc (.cells #[.int .u8 b] 5)) := by
  subst hh0
  obtain ⟨i0, hi, hz0, hz1, hz2⟩ := info_parts info5
  refine wpList_append_own _ hgd s x 31 ho B 5 i0 (.int .u8 0) 1 1 Tryz.underlying31 hi hz0 hz1 hz2 rfl (by decide) vb lb.length (bv lb) hs (hp.b.alloc _) ⟨w.heap.size, 0, none⟩ 1 1 [.int .u8 b] hx rfl ?_ ?_ (by unfold maxLen; omega) (by omega) (by simp; omega) ?_
  · intro j u hj
    match j, hj with
    | 0, hj => simp at hj; subst hj; simp [Addr.add]
  · intro u hu; simp at hu; subst hu; rfl
  · intro v' w' h1 h2 _
    have hg : w.grownBy w' vb.ownBlock := ⟨h2.os, h2.tape, h2.output, Nat.le_trans (by simp) h2.size, fun k hk hne => (h2.block k (by simp; omega) hne).trans (Below.heap_alloc w _ k hk)⟩
    exact h v' w' (hp.growB hg (by simpa [bv] using h1)) (Fr.grown hp.b hB hg)
theorem rnum_fin {w wr : World} {B N k n : Nat} {v vt : Value} {lb lt : List Int} (hk : k = n) (hp : Pr B wr v (lb ++ ptL N k) vt lt) (hb : Fr B w wr) :
    ∃ u, Ending.returned v = .returned u ∧ Pr B wr u (lb ++ ptL N n) vt lt ∧ Fr B w wr := by
  subst hk
  exact ⟨v, rfl, hp, hb⟩
end Go.Proofs.YtheeogbmljjbdaaGreatDoor
namespace Go.Proofs.YtheeogbmljjbdaaGreatDoor
set_option linter.unusedVariables false
open Go.ChangeShapes Go.WideShapes Go.ChangeAt Go.RowKit Go.Deep
def zs (n : Nat) : List Int := List.replicate n 0
theorem zs_length (n : Nat) : (zs n).length = n := by simp [zs]
theorem zs_succ (n : Nat) : zs (n + 1) = zs n ++ [0] := by simp [zs, List.replicate_succ']
theorem lenInt_own {B : Nat} {w : World} {v : Value} {l : List Int} (h : w.ownsRow B 5 1 v l.length (bv l)) : ∃ a c, v = .slice a l.length c := by
  rcases h.2 with ⟨h1, h2⟩ | ⟨g, cap, cur, h1, _⟩
  · exact ⟨none, 0, by rw [h1, h2]⟩
  · exact ⟨_, cap, h1⟩
theorem pad_fin {w wr : World} {B k n : Nat} {v vt : Value} {lb lt : List Int} (hk : k = n) (hp : Pr B wr v (lb ++ zs k) vt lt) (hb : Fr B w wr) :
    ∃ u, Ending.returned v = .returned u ∧ Pr B wr u (lb ++ zs n) vt lt ∧ Fr B w wr := by
  subst hk
  exact ⟨v, rfl, hp, hb⟩
/-- A section header of 64 bytes. -/
def secL (name kind at_ size link info align entry : Nat) : List Int :=
  ptL name 4 ++ (ptL kind 4 ++ (ptL 0 8 ++ (ptL 0 8 ++ (ptL at_ 8 ++ (ptL size 8 ++ (ptL link 4 ++ (ptL info 4 ++ (ptL align 8 ++ ptL entry 8))))))))
theorem secL_length (name kind at_ size link info align entry : Nat) : (secL name kind at_ size link info align entry).length = 64 := by simp [secL, ptL_length]
end Go.Proofs.YtheeogbmljjbdaaGreatDoor
namespace Go.Proofs.YtheeogbmljjbdaaGreatDoor
set_option linter.unusedVariables false
open Go.ChangeShapes Go.WideShapes Go.ChangeAt Go.RowKit Go.Deep
/-- A text's bytes. -/
def sb (s : ByteArray) : List Int := s.data.toList.map fun b => (b.toNat : Int)
theorem sb_length (s : ByteArray) : (sb s).length = s.size := by rw [sb, List.length_map, Array.length_toList]; rfl
theorem strCells_bv (s : ByteArray) : Go.Lib.strCells s = bv (sb s) := by simp [Go.Lib.strCells, bv, sb]
/-- A text appended to the first list. -/
theorem appPbs {ops : Array Oper} {rest : List Oper} {o : Oper} {a : Act} {w : World} {Q : Exit → Act → World → Prop} (hgd : o.guard = none) (s x : Operand) (ho : o.op = .call { callee := .builtin .append, args := #[s, x], argTypes := #[31, 9] })
    (B : Nat) (vb vt : Value) (lb lt : List Int) (st : ByteArray) (hs : a.eval s = vb) (hp : Pr B w vb lb vt lt) (hx : a.eval x = .string st) (hl : lb.length + st.size < 1000000) (hB : B ≤ w.heap.size)
    (h : ∀ v' w', Pr B w' v' (lb ++ sb st) vt lt → Fr B w w' → wpList Tryz.prog ops Q rest (a.put o.dst v') w') :
    wpList Tryz.prog ops Q (o :: rest) a w := by
  obtain ⟨i0, hi, hz0, hz1, hz2⟩ := info_parts info5
  refine Go.Lib.wpList_append_own_string _ hgd s x 31 9 ho B 5 i0 Tryz.underlying31 Tryz.underlying9 hi hz0 hz1 hz2 vb lb.length (bv lb) hs hp.b st hx (by unfold maxLen; omega) (by omega) hB ?_
  intro v' w' h1 h2 _
  rw [strCells_bv] at h1
  exact h v' w' (hp.growB h2 (by rw [List.length_append, sb_length]; simpa [bv] using h1)) (Fr.grown hp.b hB h2)
/-- A text appended to the second list. -/
theorem appPts {ops : Array Oper} {rest : List Oper} {o : Oper} {a : Act} {w : World} {Q : Exit → Act → World → Prop} (hgd : o.guard = none) (s x : Operand) (ho : o.op = .call { callee := .builtin .append, args := #[s, x], argTypes := #[31, 9] })
    (B : Nat) (vb vt : Value) (lb lt : List Int) (st : ByteArray) (hs : a.eval s = vt) (hp : Pr B w vb lb vt lt) (h0 : lt.head? = some 0) (hx : a.eval x = .string st) (hl : lt.length + st.size < 1000000) (hB : B ≤ w.heap.size)
    (h : ∀ v' w', Pr B w' vb lb v' (lt ++ sb st) → Fr B w w' → wpList Tryz.prog ops Q rest (a.put o.dst v') w') :
    wpList Tryz.prog ops Q (o :: rest) a w := by
  obtain ⟨i0, hi, hz0, hz1, hz2⟩ := info_parts info5
  refine Go.Lib.wpList_append_own_string _ hgd s x 31 9 ho B 5 i0 Tryz.underlying31 Tryz.underlying9 hi hz0 hz1 hz2 vt lt.length (bv lt) hs hp.t st hx (by unfold maxLen; omega) (by omega) hB ?_
  intro v' w' h1 h2 _
  rw [strCells_bv] at h1
  exact h v' w' (hp.growT h0 h2 (by rw [List.length_append, sb_length]; simpa [bv] using h1)) (Fr.grown hp.t hB h2)
/-- One byte appended to the second list. -/
theorem appPt {ops : Array Oper} {rest : List Oper} {o : Oper} {a : Act} {w : World} {Q : Exit → Act → World → Prop} (hgd : o.guard = none) (s x : Operand) (ho : o.op = .call { callee := .builtin .append, args := #[s, x], argTypes := #[31, 31] })
    (B : Nat) (vb vt : Value) (lb lt : List Int) (b : Int) (hs : a.eval s = vt) (hp : Pr B w vb lb vt lt) (hz : lt.head? = some 0) (h0 : Nat) (hx : a.eval x = .slice (some ⟨h0, 0, none⟩) 1 1) (hh0 : h0 = w.heap.size) (hl : lt.length < 1000000) (hB : B ≤ w.heap.size)
    (h : ∀ v' w', Pr B w' vb lb v' (lt ++ [b]) → Fr B w w' → wpList Tryz.prog ops Q rest (a.put o.dst v') w') :
    wpList Tryz.prog ops Q (o :: rest) a (w.alloc (.cells #[.int .u8 b] 5)) := by
  subst hh0
  obtain ⟨i0, hi, hz0, hz1, hz2⟩ := info_parts info5
  refine wpList_append_own _ hgd s x 31 ho B 5 i0 (.int .u8 0) 1 1 Tryz.underlying31 hi hz0 hz1 hz2 rfl (by decide) vt lt.length (bv lt) hs (hp.t.alloc _) ⟨w.heap.size, 0, none⟩ 1 1 [.int .u8 b] hx rfl ?_ ?_ (by unfold maxLen; omega) (by omega) (by simp; omega) ?_
  · intro j u hj
    match j, hj with
    | 0, hj => simp at hj; subst hj; simp [Addr.add]
  · intro u hu; simp at hu; subst hu; rfl
  · intro v' w' h1 h2 _
    have hg : w.grownBy w' vt.ownBlock := ⟨h2.os, h2.tape, h2.output, Nat.le_trans (by simp) h2.size, fun k hk hne => (h2.block k (by simp; omega) hne).trans (Below.heap_alloc w _ k hk)⟩
    exact h v' w' (hp.growT hz hg (by simpa [bv] using h1)) (Fr.grown hp.t hB hg)
/-- Bytes appended to the first list. -/
theorem appPbd {ops : Array Oper} {rest : List Oper} {o : Oper} {a : Act} {w : World} {Q : Exit → Act → World → Prop} (hgd : o.guard = none) (s x : Operand) (ho : o.op = .call { callee := .builtin .append, args := #[s, x], argTypes := #[31, 31] })
    (B : Nat) (vb vt : Value) (lb lt : List Int) (u : Value) (m : List Int) (hs : a.eval s = vb) (hp : Pr B w vb lb vt lt) (hx : a.eval x = u) (hu : Byt w u m) (hl : lb.length + m.length < 1000000) (hB : B ≤ w.heap.size)
    (h : ∀ v' w', Pr B w' v' (lb ++ m) vt lt → Fr B w w' → wpList Tryz.prog ops Q rest (a.put o.dst v') w') :
    wpList Tryz.prog ops Q (o :: rest) a w := by
  obtain ⟨i0, hi, hz0, hz1, hz2⟩ := info_parts info5
  obtain ⟨ao, cap, rfl, h1, h1', h2⟩ := hu
  cases ao with
  | none =>
    have hc := h1' rfl
    have hl0 : m = [] := List.eq_nil_of_length_eq_zero (by omega)
    subst hl0; subst hc
    refine wpList_append_own_none hgd s x 31 ho B 5 i0 1 Tryz.underlying31 hi _ lb.length (bv lb) hs hp.b hx ?_
    exact h _ _ (by rw [List.append_nil]; exact hp) (Fr.refl _ _)
  | some ad =>
    refine wpList_append_own _ hgd s x 31 ho B 5 i0 (.int .u8 0) 1 1 Tryz.underlying31 hi hz0 hz1 hz2 rfl (by decide) vb lb.length (bv lb) hs hp.b ad m.length cap (bv m) hx (by simp [bv]) ?_ ?_ (by unfold maxLen; omega) (by omega) hB ?_
    · intro j w2 hj
      have hjl : j < m.length := by have := (List.getElem?_eq_some_iff.1 hj).1; simpa [bv] using this
      obtain ⟨g, off, he, h3, h4⟩ := h2 (by intro e; rw [e] at hjl; simp at hjl)
      cases he
      rw [bv_get _ _ hjl] at hj
      cases hj
      rw [addAt]
      exact h4 j hjl
    · intro w2 hw2; simp [bv] at hw2; obtain ⟨q, _, rfl⟩ := hw2; rfl
    · intro v' w' g1 g2 g3
      exact h v' w' (hp.growB g2 (by simpa [bv] using g1)) (Fr.grown hp.b hB g2)
/-- A second list that was just made. -/
theorem Pr.newT {B : Nat} {w : World} {vb vt : Value} {lb lt : List Int} (h : Pr B w vb lb vt lt) (hB : B ≤ w.heap.size) : Pr B (w.alloc (.cells #[.int .u8 0] 5)) vb lb (.slice (some ⟨w.heap.size, 0, none⟩) 1 1) [0] :=
  ⟨h.b.alloc _, ⟨by simp [bv], .inr ⟨w.heap.size, 1, #[.int .u8 0], rfl, hB, heap_alloc_new w _, Nat.le_refl _, by unfold maxLen; omega, rfl, rfl⟩⟩, h.h, .inr rfl⟩
theorem lenOwn {B : Nat} {w : World} {v : Value} {l : List Int} (h : w.ownsRow B 5 1 v l.length (bv l)) : ∃ a c T, v = .slice a T c ∧ Hid (T = l.length) := by
  obtain ⟨a, c, e⟩ := lenInt_own h
  exact ⟨a, c, _, e, rfl⟩
/-- An entry of the table. -/
def entL (o : Nat) (x : Sy) : List Int := ptL o 4 ++ (ptL 16 2 ++ (ptL 65521 2 ++ (ptL x.v.toNat 8 ++ ptL 0 8)))
theorem entL_length (o : Nat) (x : Sy) : (entL o x).length = 24 := by simp [entL, ptL_length]
/-- The texts of the first k names. -/
def txL (N : List Sy) : Nat → List Int
  | 0 => [0]
  | k + 1 => txL N k ++ (sb (sy N k).s ++ [0])
/-- The entries of the first k names. -/
def tbL (N : List Sy) : Nat → List Int
  | 0 => []
  | k + 1 => tbL N k ++ entL (1 + nk N k) (sy N k)
theorem txL_length (N : List Sy) (k : Nat) : (txL N k).length = 1 + nk N k := by
  induction k with
  | zero => rfl
  | succ k ih => simp only [txL, nk, List.length_append, ih, sb_length, List.length_cons, List.length_nil]; omega
theorem tbL_length (N : List Sy) (k : Nat) : (tbL N k).length = 24 * k := by
  induction k with
  | zero => rfl
  | succ k ih => simp only [tbL, List.length_append, ih, entL_length]; omega
theorem txL_head (N : List Sy) (k : Nat) : (txL N k).head? = some 0 := by
  induction k with
  | zero => rfl
  | succ k ih =>
    simp only [txL]
    cases h : txL N k with
    | nil => rw [h] at ih; simp at ih
    | cons x l => rw [h] at ih; exact ih
theorem nk_mono (N : List Sy) {j k : Nat} (h : j ≤ k) : nk N j ≤ nk N k := by
  induction k with
  | zero => rw [Nat.le_zero.1 h]; exact Nat.le_refl _
  | succ k ih =>
    by_cases e : j = k + 1
    · subst e; exact Nat.le_refl _
    · have := ih (by omega)
      have e2 : nk N (k + 1) = nk N k + ((sy N k).s.size + 1) := rfl
      omega
end Go.Proofs.YtheeogbmljjbdaaGreatDoor
