/-
  Iwc Iwd Iwk.
-/
import Derived.Test.YtopddflnahfomaaGreatDoorM25
import Derived.Test.YtopddflnahfomaaGreatDoorM02
namespace Go.Proofs.YtopddflnahfomaaGreatDoor
set_option linter.unusedVariables false
open Go.ChangeShapes Go.WideShapes Go.ChangeAt Go.RowKit Go.Deep
/-- A text's bytes. -/
def sb (s : ByteArray) : List Int := s.data.toList.map fun b => (b.toNat : Int)
theorem sb_length (s : ByteArray) : (sb s).length = s.size := by rw [sb, List.length_map, Array.length_toList]; rfl
theorem strCells_bv (s : ByteArray) : Go.Lib.strCells s = bv (sb s) := by simp [Go.Lib.strCells, bv, sb]
/-- A text appended to the first list. -/
theorem appPbs {ops : Array Oper} {rest : List Oper} {o : Oper} {a : Act} {w : World} {Q : Exit → Act → World → Prop} (hgd : o.guard = none) (s x : Operand) (ho : o.op = .call { callee := .builtin .append, args := #[s, x], argTypes := #[29, 9] })
    (B : Nat) (vb vt : Value) (lb lt : List Int) (st : ByteArray) (hs : a.eval s = vb) (hp : Pr B w vb lb vt lt) (hx : a.eval x = .string st) (hl : lb.length + st.size < 1000000) (hB : B ≤ w.heap.size)
    (h : ∀ v' w', Pr B w' v' (lb ++ sb st) vt lt → Fr B w w' → wpList Tryz.prog ops Q rest (a.put o.dst v') w') :
    wpList Tryz.prog ops Q (o :: rest) a w := by
  obtain ⟨i0, hi, hz0, hz1, hz2⟩ := info_parts info5
  refine Go.Lib.wpList_append_own_string _ hgd s x 29 9 ho B 5 i0 Tryz.underlying29 Tryz.underlying9 hi hz0 hz1 hz2 vb lb.length (bv lb) hs hp.b st hx (by unfold maxLen; omega) (by omega) hB ?_
  intro v' w' h1 h2 _
  rw [strCells_bv] at h1
  exact h v' w' (hp.growB h2 (by rw [List.length_append, sb_length]; simpa [bv] using h1)) (Fr.grown hp.b hB h2)
/-- A text appended to the second list. -/
theorem appPts {ops : Array Oper} {rest : List Oper} {o : Oper} {a : Act} {w : World} {Q : Exit → Act → World → Prop} (hgd : o.guard = none) (s x : Operand) (ho : o.op = .call { callee := .builtin .append, args := #[s, x], argTypes := #[29, 9] })
    (B : Nat) (vb vt : Value) (lb lt : List Int) (st : ByteArray) (hs : a.eval s = vt) (hp : Pr B w vb lb vt lt) (h0 : lt.head? = some 0) (hx : a.eval x = .string st) (hl : lt.length + st.size < 1000000) (hB : B ≤ w.heap.size)
    (h : ∀ v' w', Pr B w' vb lb v' (lt ++ sb st) → Fr B w w' → wpList Tryz.prog ops Q rest (a.put o.dst v') w') :
    wpList Tryz.prog ops Q (o :: rest) a w := by
  obtain ⟨i0, hi, hz0, hz1, hz2⟩ := info_parts info5
  refine Go.Lib.wpList_append_own_string _ hgd s x 29 9 ho B 5 i0 Tryz.underlying29 Tryz.underlying9 hi hz0 hz1 hz2 vt lt.length (bv lt) hs hp.t st hx (by unfold maxLen; omega) (by omega) hB ?_
  intro v' w' h1 h2 _
  rw [strCells_bv] at h1
  exact h v' w' (hp.growT h0 h2 (by rw [List.length_append, sb_length]; simpa [bv] using h1)) (Fr.grown hp.t hB h2)
/-- One byte appended to the second list. -/
theorem appPt {ops : Array Oper} {rest : List Oper} {o : Oper} {a : Act} {w : World} {Q : Exit → Act → World → Prop} (hgd : o.guard = none) (s x : Operand) (ho : o.op = .call { callee := .builtin .append, args := #[s, x], argTypes := #[29, 29] })
    (B : Nat) (vb vt : Value) (lb lt : List Int) (b : Int) (hs : a.eval s = vt) (hp : Pr B w vb lb vt lt) (hz : lt.head? = some 0) (h0 : Nat) (hx : a.eval x = .slice (some ⟨h0, 0, none⟩) 1 1) (hh0 : h0 = w.heap.size) (hl : lt.length < 1000000) (hB : B ≤ w.heap.size)
    (h : ∀ v' w', Pr B w' vb lb v' (lt ++ [b]) → Fr B w w' → wpList Tryz.prog ops Q rest (a.put o.dst v') w') :
    wpList Tryz.prog ops Q (o :: rest) a (w.alloc (.cells #[.int .u8 b] 5)) := by
  subst hh0
  obtain ⟨i0, hi, hz0, hz1, hz2⟩ := info_parts info5
  refine wpList_append_own _ hgd s x 29 ho B 5 i0 (.int .u8 0) 1 1 Tryz.underlying29 hi hz0 hz1 hz2 rfl (by decide) vt lt.length (bv lt) hs (hp.t.alloc _) ⟨w.heap.size, 0, none⟩ 1 1 [.int .u8 b] hx rfl ?_ ?_ (by unfold maxLen; omega) (by omega) (by simp; omega) ?_
  · intro j u hj
    match j, hj with
    | 0, hj => simp at hj; subst hj; simp [Addr.add]
  · intro u hu; simp at hu; subst hu; rfl
  · intro v' w' h1 h2 _
    have hg : w.grownBy w' vt.ownBlock := ⟨h2.os, h2.tape, h2.output, Nat.le_trans (by simp) h2.size, fun k hk hne => (h2.block k (by simp; omega) hne).trans (Below.heap_alloc w _ k hk)⟩
    exact h v' w' (hp.growT hz hg (by simpa [bv] using h1)) (Fr.grown hp.t hB hg)
/-- Bytes appended to the first list. -/
theorem appPbd {ops : Array Oper} {rest : List Oper} {o : Oper} {a : Act} {w : World} {Q : Exit → Act → World → Prop} (hgd : o.guard = none) (s x : Operand) (ho : o.op = .call { callee := .builtin .append, args := #[s, x], argTypes := #[29, 29] })
    (B : Nat) (vb vt : Value) (lb lt : List Int) (u : Value) (m : List Int) (hs : a.eval s = vb) (hp : Pr B w vb lb vt lt) (hx : a.eval x = u) (hu : Byt w u m) (hl : lb.length + m.length < 1000000) (hB : B ≤ w.heap.size)
    (h : ∀ v' w', Pr B w' v' (lb ++ m) vt lt → Fr B w w' → wpList Tryz.prog ops Q rest (a.put o.dst v') w') :
    wpList Tryz.prog ops Q (o :: rest) a w := by
  obtain ⟨i0, hi, hz0, hz1, hz2⟩ := info_parts info5
  obtain ⟨ao, cap, rfl, h1, h1', h2⟩ := hu
  cases ao with
  | none =>
    have hc := h1' rfl
    have hl0 : m = [] := List.eq_nil_of_length_eq_zero (by omega)
    subst hl0; subst hc
    refine wpList_append_own_none hgd s x 29 ho B 5 i0 1 Tryz.underlying29 hi _ lb.length (bv lb) hs hp.b hx ?_
    exact h _ _ (by rw [List.append_nil]; exact hp) (Fr.refl _ _)
  | some ad =>
    refine wpList_append_own _ hgd s x 29 ho B 5 i0 (.int .u8 0) 1 1 Tryz.underlying29 hi hz0 hz1 hz2 rfl (by decide) vb lb.length (bv lb) hs hp.b ad m.length cap (bv m) hx (by simp [bv]) ?_ ?_ (by unfold maxLen; omega) (by omega) hB ?_
    · intro j w2 hj
      have hjl : j < m.length := by have := (List.getElem?_eq_some_iff.1 hj).1; simpa [bv] using this
      obtain ⟨g, off, he, h3, h4⟩ := h2 (by intro e; rw [e] at hjl; simp at hjl)
      cases he
      rw [bv_get _ _ hjl] at hj
      cases hj
      rw [addAt]
      exact h4 j hjl
    · intro w2 hw2; simp [bv] at hw2; obtain ⟨q, _, rfl⟩ := hw2; rfl
    · intro v' w' g1 g2 g3
      exact h v' w' (hp.growB g2 (by simpa [bv] using g1)) (Fr.grown hp.b hB g2)
/-- A second list that was just made. -/
theorem Pr.newT {B : Nat} {w : World} {vb vt : Value} {lb lt : List Int} (h : Pr B w vb lb vt lt) (hB : B ≤ w.heap.size) : Pr B (w.alloc (.cells #[.int .u8 0] 5)) vb lb (.slice (some ⟨w.heap.size, 0, none⟩) 1 1) [0] :=
  ⟨h.b.alloc _, ⟨by simp [bv], .inr ⟨w.heap.size, 1, #[.int .u8 0], rfl, hB, heap_alloc_new w _, Nat.le_refl _, by unfold maxLen; omega, rfl, rfl⟩⟩, h.h, .inr rfl⟩
theorem lenOwn {B : Nat} {w : World} {v : Value} {l : List Int} (h : w.ownsRow B 5 1 v l.length (bv l)) : ∃ a c T, v = .slice a T c ∧ Hid (T = l.length) := by
  obtain ⟨a, c, e⟩ := lenInt_own h
  exact ⟨a, c, _, e, rfl⟩
/-- An entry of the table. -/
def entL (o : Nat) (x : Sy) : List Int := ptL o 4 ++ (ptL 16 2 ++ (ptL 65521 2 ++ (ptL x.v.toNat 8 ++ ptL 0 8)))
theorem entL_length (o : Nat) (x : Sy) : (entL o x).length = 24 := by simp [entL, ptL_length]
/-- The texts of the first k names. -/
def txL (N : List Sy) : Nat → List Int
  | 0 => [0]
  | k + 1 => txL N k ++ (sb (sy N k).s ++ [0])
/-- The entries of the first k names. -/
def tbL (N : List Sy) : Nat → List Int
  | 0 => []
  | k + 1 => tbL N k ++ entL (1 + nk N k) (sy N k)
theorem txL_length (N : List Sy) (k : Nat) : (txL N k).length = 1 + nk N k := by
  induction k with
  | zero => rfl
  | succ k ih => simp only [txL, nk, List.length_append, ih, sb_length, List.length_cons, List.length_nil]; omega
theorem tbL_length (N : List Sy) (k : Nat) : (tbL N k).length = 24 * k := by
  induction k with
  | zero => rfl
  | succ k ih => simp only [tbL, List.length_append, ih, entL_length]; omega
theorem txL_head (N : List Sy) (k : Nat) : (txL N k).head? = some 0 := by
  induction k with
  | zero => rfl
  | succ k ih =>
    simp only [txL]
    cases h : txL N k with
    | nil => rw [h] at ih; simp at ih
    | cons x l => rw [h] at ih; exact ih
theorem nk_mono (N : List Sy) {j k : Nat} (h : j ≤ k) : nk N j ≤ nk N k := by
  induction k with
  | zero => rw [Nat.le_zero.1 h]; exact Nat.le_refl _
  | succ k ih =>
    by_cases e : j = k + 1
    · subst e; exact Nat.le_refl _
    · have := ih (by omega)
      have e2 : nk N (k + 1) = nk N k + ((sy N k).s.size + 1) := rfl
      omega
end Go.Proofs.YtopddflnahfomaaGreatDoor
namespace Go.Proofs.YtopddflnahfomaaGreatDoor
set_option linter.unusedVariables false
open Go.ChangeShapes Go.WideShapes Go.ChangeAt Go.RowKit Go.Deep
/-- The sections' own texts. -/
def ownT : ByteArray := ⟨#[0, 46, 115, 121, 109, 116, 97, 98, 0, 46, 115, 116, 114, 116, 97, 98, 0, 46, 115, 104, 115, 116, 114, 116, 97, 98, 0]⟩
theorem ownT_size : ownT.size = 27 := rfl
/-- What stands behind the parts, from the place p of the table on. -/
def symL (p : Nat) (N : List Sy) : List Int :=
  ptL 0 24 ++ (tbL N N.length ++ (txL N N.length ++ (sb ownT ++ (zs (al (p + 24 + 24 * N.length + 1 + nk N N.length + 27) - (p + 24 + 24 * N.length + 1 + nk N N.length + 27)) ++
    (secL 0 0 0 0 0 0 0 0 ++ (secL 1 2 p (24 + 24 * N.length) 2 1 8 24 ++ (secL 9 3 (p + 24 + 24 * N.length) (1 + nk N N.length) 0 0 1 0 ++
      secL 17 3 (p + 24 + 24 * N.length + 1 + nk N N.length) 27 0 0 1 0)))))))
theorem sym_fin {w wr : World} {B : Nat} {v vt : Value} {lb l l' lt : List Int} (hp : Pr B wr v l vt lt) (he : l = l') (hb : Fr B w wr) :
    ∃ u t s, Ending.returned v = .returned u ∧ Pr B wr u l' t s ∧ Fr B w wr := by
  subst he
  exact ⟨v, _, _, rfl, hp, hb⟩
end Go.Proofs.YtopddflnahfomaaGreatDoor
namespace Go.Proofs.YtopddflnahfomaaGreatDoor
set_option linter.unusedVariables false
open Go.ChangeShapes Go.WideShapes Go.ChangeAt Go.RowKit Go.Deep
theorem getD_left (a b : List Int) (i : Nat) (h : i < a.length) : (a ++ b).getD i 0 = a.getD i 0 := by
  rw [List.getD_eq_getElem?_getD, List.getD_eq_getElem?_getD, List.getElem?_append_left h]
theorem getD_right (a b : List Int) (i : Nat) (h : a.length ≤ i) : (a ++ b).getD i 0 = b.getD (i - a.length) 0 := by
  rw [List.getD_eq_getElem?_getD, List.getD_eq_getElem?_getD, List.getElem?_append_right h]
/-- A list stands in T from a place on. -/
def Sub (T : Nat → Int) (pos : Nat) (l : List Int) : Prop := ∀ i, i < l.length → T (pos + i) = l.getD i 0
theorem Sub.left {T : Nat → Int} {pos : Nat} {a b : List Int} (h : Sub T pos (a ++ b)) : Sub T pos a := fun i hi => by
  rw [h i (by rw [List.length_append]; omega), getD_left _ _ _ hi]
theorem Sub.right {T : Nat → Int} {pos : Nat} {a b : List Int} (h : Sub T pos (a ++ b)) : Sub T (pos + a.length) b := fun i hi => by
  rw [Nat.add_assoc, h (a.length + i) (by rw [List.length_append]; omega), getD_right _ _ _ (by omega), show a.length + i - a.length = i by omega]
theorem Sub.at {T : Nat → Int} {pos q : Nat} {l : List Int} (h : Sub T pos l) (e : pos = q) : Sub T q l := e ▸ h
theorem Sub.nil {T : Nat → Int} {pos : Nat} : Sub T pos [] := fun i hi => absurd hi (Nat.not_lt_zero _)
/-- Numbers of sz bytes each. -/
def nbs (sz : Nat) : List Nat → List Int
  | [] => []
  | v :: r => ptL v sz ++ nbs sz r
theorem nbs_length (sz : Nat) (vs : List Nat) : (nbs sz vs).length = sz * vs.length := by
  induction vs with
  | nil => rfl
  | cons v r ih => simp only [nbs, List.length_append, ptL_length, ih, List.length_cons, Nat.mul_succ]; omega
theorem nbs_get (sz : Nat) (vs : List Nat) (j i : Nat) (hj : j < vs.length) (hi : i < sz) : (nbs sz vs).getD (sz * j + i) 0 = ((vs.getD j 0 / 256 ^ i % 256 : Nat) : Int) := by
  induction vs generalizing j with
  | nil => exact absurd hj (Nat.not_lt_zero _)
  | cons v r ih =>
    cases j with
    | zero =>
      rw [nbs, Nat.mul_zero, Nat.zero_add, getD_left _ _ _ (by rw [ptL_length]; exact hi), ptL_get _ _ _ hi]
      rfl
    | succ j =>
      rw [nbs, getD_right _ _ _ (by rw [ptL_length, Nat.mul_succ]; omega), ptL_length, show sz * (j + 1) + i - sz = sz * j + i by rw [Nat.mul_succ]; omega, ih j (by simpa using hj)]
      rfl
theorem sub_nbs {T : Nat → Int} {pos sz : Nat} {vs : List Nat} (h : Sub T pos (nbs sz vs)) (j : Nat) (hj : j < vs.length) (i : Nat) (hi : i < sz) : T (pos + sz * j + i) = ((vs.getD j 0 / 256 ^ i % 256 : Nat) : Int) := by
  have h1 : sz * j + i < sz * vs.length := by
    have := Nat.mul_le_mul_left sz (show j + 1 ≤ vs.length by omega)
    rw [Nat.mul_succ] at this
    omega
  rw [Nat.add_assoc, h (sz * j + i) (by rw [nbs_length]; exact h1), nbs_get sz vs j i hj hi]
theorem n64_nat (v : Nat) (h : v < 18446744073709551616) : n64 (BitVec.ofNat 64 v) = (v : Int) := by unfold n64; rw [BitVec.toNat_ofNat, Nat.mod_eq_of_lt (by omega)]
theorem map_getD (vs : List Nat) (j : Nat) (hj : j < vs.length) : (vs.map (BitVec.ofNat 64)).getD j 0 = BitVec.ofNat 64 (vs.getD j 0) := by
  simp [List.getD_eq_getElem?_getD, List.getElem?_map, List.getElem?_eq_getElem hj]
theorem byte_of (v i : Nat) : ((v / 256 ^ i % 256 : Nat) : Int) = (v : Int) / 2 ^ (8 * i) % 256 := by
  rw [show (256 : Nat) ^ i = 2 ^ (8 * i) by rw [Nat.pow_mul]]
  simp
theorem Fil.wide {f n : Nat} {T : Nat → Int} {D D' : Nat → Prop} {w : World} (h : Fil f n T D w) (h1 : ∀ i, i < n → D i → D' i) (h2 : ∀ i, i < n → D' i → ¬ D i → T i = 0) : Fil f n T D' w := by
  obtain ⟨C, hC, hr, hd⟩ := h
  refine ⟨C, hC, hr, fun i hi => ⟨fun q => ?_, fun q => (hd i hi).2 (fun z => q (h1 i hi z))⟩⟩
  by_cases e : D i
  · exact (hd i hi).1 e
  · rw [(hd i hi).2 e, h2 i hi q e]
/-- A pen in hand: it has written from b up to a, and has R still to write; the rows of X stay. -/
structure Pn (f n : Nat) (T : Nat → Int) (X : List (Nat × Array Value × TypeId)) (w0 : World) (g : Nat) (D : Nat → Prop) (b a : Nat) (R : List Int) (w : World) : Prop where
  bx : ∀ x, x ∈ X → ¬ x.1 = g ∧ ¬ x.1 = f ∧ w.heap[x.1]? = some (.cells x.2.1 x.2.2 (0, 0))
  pen : Pen g f n a w
  fil : Fil f n T (fun i => D i ∨ (b ≤ i ∧ i < a)) w
  kp : Kp f f w0 w
  gl : w0.heap.size ≤ g
  fl : f < w0.heap.size
  ba : b ≤ a
  rest : Sub T a R
theorem Pn.gf {f n : Nat} {T : Nat → Int} {X : List (Nat × Array Value × TypeId)} {w0 : World} {g : Nat} {D : Nat → Prop} {b a : Nat} {R : List Int} {w : World} (h : Pn f n T X w0 g D b a R w) : ¬ g = f := by
  have := h.gl
  have := h.fl
  omega
theorem Kp.fresh {p f : Nat} {w0 w w' : World} (h : Kp f f w0 w) (k : Kp p f w w') (hp : w0.heap.size ≤ p) : Kp f f w0 w' := ⟨k.os.trans h.os, k.tape.trans h.tape, k.output.trans h.output, Nat.le_trans h.size k.size, fun q h1 h2 h3 => (k.block q (Nat.lt_of_lt_of_le h1 h.size) (by omega) h2).trans (h.block q h1 h2 h3)⟩
theorem Pn.next {f n : Nat} {T : Nat → Int} {X : List (Nat × Array Value × TypeId)} {w0 : World} {g : Nat} {D : Nat → Prop} {b a c : Nat} {R R' : List Int} {w w' : World} (h : Pn f n T X w0 g D b a R w) (hp : Pen g f n c w') (hac : a ≤ c) (hf : Fil f n T (fun i => (D i ∨ (b ≤ i ∧ i < a)) ∨ (a ≤ i ∧ i < c)) w') (hk : Kp g f w w') (hr : Sub T c R') : Pn f n T X w0 g D b c R' w' := by
  refine ⟨fun x hx => ?_, hp, hf.set (fun i _ => ?_), h.kp.fresh hk h.gl, h.gl, h.fl, Nat.le_trans h.ba hac, hr⟩
  · obtain ⟨h1, h2, h3⟩ := h.bx x hx
    exact ⟨h1, h2, (hk.block _ (Array.getElem?_eq_some_iff.1 h3).1 h1 h2).trans h3⟩
  · have := h.ba
    constructor
    · rintro ((h | h) | h)
      · exact .inl h
      · exact .inr (by omega)
      · exact .inr (by omega)
    · rintro (h | h)
      · exact .inl (.inl h)
      · by_cases e : i < a
        · exact .inl (.inr (by omega))
        · exact .inr (by omega)
theorem Pn.put {f n : Nat} {T : Nat → Int} {X : List (Nat × Array Value × TypeId)} {w0 : World} {g : Nat} {D : Nat → Prop} {b a sz : Nat} {vs : List Nat} {R : List Int} {w : World} (h : Pn f n T X w0 g D b a (nbs sz vs ++ R) w)
    (szI : Int) (m : Nat) (cs : Array Value) (hsz : szI = sz) (hvm : vs.length = m) (hv : ∀ v, v ∈ vs → v < 18446744073709551616) (hcs : cs = (vs.map fun (v : Nat) => Value.int .u64 (v : Int)).toArray) (hs : 1 ≤ sz ∧ sz ≤ 8) (c : Nat) (hc : c = a + sz * m) (hn : c ≤ n) (hnb : n ≤ 1000000) (hm : m ≤ 100) :
    Calls Tryz.prog 39 #[.pointer (some ⟨g, 0, none⟩), .int .i64 szI, .slice (some ⟨w.heap.size, 0, none⟩) m m] (w.alloc (.cells cs 22)) fun e w' => e = .returned (.tuple #[]) ∧ Pn f n T X w0 g D b c R w' := by
  subst hcs hvm hc
  refine (put_v g f n a sz vs.length szI (vs.map (BitVec.ofNat 64)) _ T _ w h.pen h.fil h.gf hsz (by simp) (fun j hj => ?_) hs hn hnb hm (fun j hj i hi => ?_)).mono ?_
  · rw [map_getD vs j hj, n64_nat _ (hv _ (by rw [List.getD_eq_getElem?_getD, List.getElem?_eq_getElem hj]; exact List.getElem_mem hj))]
    simp [List.getD_eq_getElem?_getD, hj]
  · rw [sub_nbs h.rest.left j hj i hi, map_getD vs j hj, n64_nat _ (hv _ (by rw [List.getD_eq_getElem?_getD, List.getElem?_eq_getElem hj]; exact List.getElem_mem hj)), byte_of]
  · rintro e w' ⟨rfl, h1, h2, h3⟩
    exact ⟨rfl, h.next h1 (by omega) h2 h3 (h.rest.right.at (by rw [nbs_length]))⟩
theorem sb_get (t : ByteArray) (i : Nat) (hi : i < t.size) : (sb t).getD i 0 = ((t[i]'hi).toNat : Int) := by
  have h2 : i < t.data.toList.length := by rw [← Go.Lib.size_eq]; exact hi
  unfold sb
  rw [List.getD_eq_getElem?_getD, List.getElem?_map, List.getElem?_eq_getElem h2]
  rfl
theorem Pn.text {f n : Nat} {T : Nat → Int} {X : List (Nat × Array Value × TypeId)} {w0 : World} {g : Nat} {D : Nat → Prop} {b a : Nat} {t : ByteArray} {R : List Int} {w : World} (h : Pn f n T X w0 g D b a (sb t ++ R) w)
    (c : Nat) (hc : c = a + t.size) (hn : c < n) (hnb : n ≤ 1000000) :
    Calls Tryz.prog 38 #[.pointer (some ⟨g, 0, none⟩), .string t] w fun e w' => e = .returned (.tuple #[]) ∧ Pn f n T X w0 g D b c R w' := by
  subst hc
  refine (text_c g f n a t T _ w h.pen h.fil h.gf hn hnb (fun i hi => ?_)).mono ?_
  · rw [h.rest.left i (by rw [sb_length]; exact hi), sb_get t i hi]
  · rintro e w' ⟨rfl, h1, h2, h3⟩
    exact ⟨rfl, h.next h1 (by omega) h2 h3 (h.rest.right.at (by rw [sb_length]))⟩
theorem Pn.sect {f n : Nat} {T : Nat → Int} {X : List (Nat × Array Value × TypeId)} {w0 : World} {g : Nat} {D : Nat → Prop} {b a tx kd fr sz : Nat} {R : List Int} {w : World} (h : Pn f n T X w0 g D b a (nbs 4 [tx, kd] ++ (nbs 8 [0, 0, fr, sz] ++ R)) w)
    (txI kdI frI toI : Int) (h1 : txI = tx) (h2 : kdI = kd) (h3 : frI = fr) (h4 : toI = (fr + sz : Nat)) (hb : tx < 1000000 ∧ kd < 1000000) (hto : fr + sz ≤ 1000000) (c : Nat) (hc : c = a + 40) (hn : c ≤ n) (hnb : n ≤ 1000000) :
    Calls Tryz.prog 41 #[.pointer (some ⟨g, 0, none⟩), .int .u64 txI, .int .u64 kdI, .int .i64 frI, .int .i64 toI] w fun e w' => e = .returned (.tuple #[]) ∧ Pn f n T X w0 g D b c R w' := by
  subst h1 h2 h3 h4 hc
  have e1 := n64_nat tx (by omega)
  have e2 := n64_nat kd (by omega)
  have q := section_c g f n a (BitVec.ofNat 64 tx) (BitVec.ofNat 64 kd) fr (fr + sz) T _ w h.pen h.fil h.gf hn hnb (by omega) hto (fun j hj i hi => ?_) (fun j hj i hi => ?_)
  · rw [e1, e2] at q
    refine q.mono ?_
    rintro e w' ⟨rfl, h1, h2, h3⟩
    exact ⟨rfl, h.next h1 (by omega) h2 h3 (h.rest.right.right.at (by rw [nbs_length, nbs_length]; simp))⟩
  · rw [sub_nbs h.rest.left j hj i hi, byte_of]
    rcases j with _ | _ | j
    · show _ = n64 (BitVec.ofNat 64 tx) / _ % 256
      rw [e1]
      rfl
    · show _ = n64 (BitVec.ofNat 64 kd) / _ % 256
      rw [e2]
      rfl
    · omega
  · have hR : Sub T (a + 8) (nbs 8 [0, 0, fr, sz]) := h.rest.right.left.at (by rw [nbs_length]; rfl)
    rw [sub_nbs hR j hj i hi, byte_of, show fr + sz - fr = sz by omega]
    rcases j with _ | _ | _ | _ | j
    · rfl
    · rfl
    · show _ = n64 (BitVec.ofNat 64 fr) / _ % 256
      rw [n64_nat fr (by omega)]
      rfl
    · show _ = n64 (BitVec.ofNat 64 sz) / _ % 256
      rw [n64_nat sz (by omega)]
      rfl
    · omega
/-- Another pen is taken in hand. -/
theorem Pn.fresh {f n : Nat} {T : Nat → Int} {X : List (Nat × Array Value × TypeId)} {w0 : World} {g : Nat} {D : Nat → Prop} {b a : Nat} {R : List Int} {w : World} (h : Pn f n T X w0 g D b a R w) (hX : ∀ x, x ∈ X → x.1 < w.heap.size) (bI : Int) (c : Nat) (hb : bI = (c : Int)) (R' : List Int) (hR : Sub T c R') :
    Pn f n T ((g, #[.slice (some ⟨f, 0, none⟩) n n, .int .i64 a], 78) :: X) w0 w.heap.size (fun i => D i ∨ (b ≤ i ∧ i < a)) c c R' (w.alloc (.cells #[.slice (some ⟨f, 0, none⟩) n n, .int .i64 bI] 78)) := by
  subst hb
  have hb : Below w.heap.size w (w.alloc (.cells #[.slice (some ⟨f, 0, none⟩) n n, .int .i64 (c : Int)] 78)) := (Below.refl _ _).alloc (Nat.le_refl _) _
  have hgs : g < w.heap.size := (Array.getElem?_eq_some_iff.1 h.pen).1
  have hfs : f < w.heap.size := Nat.lt_of_lt_of_le h.fl h.kp.size
  refine ⟨fun x hx => ?_, heap_alloc_new w _, (h.fil.other (hb.5 _ hfs)).set (fun i _ => ⟨.inl, fun h => h.elim id (fun h => by omega)⟩), ⟨hb.os.trans h.kp.os, hb.tape.trans h.kp.tape, hb.output.trans h.kp.output, Nat.le_trans h.kp.size hb.size, fun k q1 q2 q3 => (hb.5 k (Nat.lt_of_lt_of_le q1 h.kp.size)).trans (h.kp.block k q1 q2 q3)⟩, h.kp.size, h.fl, Nat.le_refl _, hR⟩
  rcases List.mem_cons.1 hx with rfl | hx
  · exact ⟨by show ¬ g = w.heap.size; omega, h.gf, (hb.5 _ hgs).trans h.pen⟩
  · obtain ⟨h1, h2, h3⟩ := h.bx x hx
    exact ⟨by have := hX x hx; omega, h2, (hb.5 _ (hX x hx)).trans h3⟩
/-- The first pen. -/
theorem Pn.start {f n : Nat} {T : Nat → Int} {X : List (Nat × Array Value × TypeId)} {w0 w : World} {D : Nat → Prop} (hF : Fil f n T D w0) (hk : Below w0.heap.size w0 w) (g : Nat) (hg : g = w.heap.size) (hX : ∀ x, x ∈ X → x.1 < g ∧ ¬ x.1 = f ∧ w.heap[x.1]? = some (.cells x.2.1 x.2.2 (0, 0))) (bI : Int) (c : Nat) (hb : bI = (c : Int)) (R : List Int) (hR : Sub T c R) :
    Pn f n T X w0 g D c c R (w.alloc (.cells #[.slice (some ⟨f, 0, none⟩) n n, .int .i64 bI] 78)) := by
  subst hb hg
  have hfs : f < w0.heap.size := by obtain ⟨C, _, hr, _⟩ := hF; exact (Array.getElem?_eq_some_iff.1 hr).1
  have hb : Below w.heap.size w (w.alloc (.cells #[.slice (some ⟨f, 0, none⟩) n n, .int .i64 (c : Int)] 78)) := (Below.refl _ _).alloc (Nat.le_refl _) _
  have hs := hk.size
  have hbt := hk.trans (hb.mono hs)
  refine ⟨fun x hx => ?_, heap_alloc_new w _, (hF.other (hbt.5 _ hfs)).set (fun i _ => ⟨.inl, fun h => h.elim id (fun h => by omega)⟩), ⟨hbt.os, hbt.tape, hbt.output, hbt.size, fun k q1 q2 q3 => hbt.5 k q1⟩, hs, hfs, Nat.le_refl _, hR⟩
  obtain ⟨h1, h2, h3⟩ := hX x hx
  exact ⟨by omega, h2, (hb.5 _ h1).trans h3⟩
end Go.Proofs.YtopddflnahfomaaGreatDoor
