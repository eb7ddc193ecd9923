/-
  Isa Ipb Itw.
-/
import Derived.Test.YtheeogbmljjbdaaGreatDoorM01
import Derived.WalkSmall
import Derived.StillTailTactics
import Derived.Laws.AppendOwnNone
namespace Go.Proofs.YtheeogbmljjbdaaGreatDoor
set_option linter.unusedVariables false
open Go.ChangeShapes Go.WideShapes Go.ChangeAt Go.RowKit
/-- A part as it lies in memory. -/
structure Sg where
  a : BitVec 64
  s : BitVec 64
  f : Int
  d : Value
  n : Nat
  m : Option Addr
  c : Nat
def sgz : Sg := ⟨0, 0, 0, .slice none 0 0, 0, none, 0⟩
def sg (L : List Sg) (j : Nat) : Sg := L.getD j sgz
def Sgs (w : World) (v : Value) (L : List Sg) : Prop :=
  ∃ ad cap, v = .slice ad L.length cap ∧ L.length ≤ cap ∧ (L ≠ [] → ∃ g off, ad = some ⟨g, off, none⟩ ∧ g < w.heap.size ∧ ∀ j, j < L.length →
    w.cell? ⟨g, off + j * 4, none⟩ = some (.int .u64 (n64 (sg L j).a)) ∧ w.cell? ⟨g, off + j * 4 + 1, none⟩ = some (.int .u64 (n64 (sg L j).s)) ∧ w.cell? ⟨g, off + j * 4 + 2, none⟩ = some (.int .i64 (sg L j).f) ∧ w.cell? ⟨g, off + j * 4 + 3, none⟩ = some (.slice (sg L j).m (sg L j).n (sg L j).c))
theorem Sgs.later {w w' : World} {v : Value} {L : List Sg} (h : Sgs w v L) {B : Nat} (hb : Below B w w') (hB : B = w.heap.size) : Sgs w' v L := by
  obtain ⟨ad, cap, rfl, h1, h2⟩ := h
  refine ⟨ad, cap, rfl, h1, fun hne => ?_⟩
  obtain ⟨g, off, rfl, h3, h4⟩ := h2 hne
  refine ⟨g, off, rfl, Nat.lt_of_lt_of_le h3 hb.size, fun j hj => ?_⟩
  obtain ⟨c0, c1, c2, c3⟩ := h4 j hj
  rw [hb.cell (by rw [hB]; exact h3), hb.cell (by rw [hB]; exact h3), hb.cell (by rw [hB]; exact h3), hb.cell (by rw [hB]; exact h3)]
  exact ⟨c0, c1, c2, c3⟩
/-- A part's last address, as words wrap. -/
def lastB (x : Sg) : BitVec 64 := x.a + (x.s - 1#64)
/-- The first number that is not 0. -/
def ff (f : Nat → Int) : Nat → Nat → Int
  | 0, _ => 0
  | r + 1, i => if f i = 0 then ff f r (i + 1) else f i
theorem ff_end (f : Nat → Int) (r i : Nat) (h : r = 0) : ff f r i = 0 := by subst h; rfl
theorem ff_go {f : Nat → Int} {n i : Nat} (h : i < n) (h0 : f i = 0) : ff f (n - i) i = ff f (n - (i + 1)) (i + 1) := by
  obtain ⟨r, hr⟩ : ∃ r, n - i = r + 1 := ⟨n - i - 1, by omega⟩
  rw [hr, ff, if_pos h0, show n - (i + 1) = r by omega]
theorem ff_hit {f : Nat → Int} {n i : Nat} (h : i < n) (h0 : f i ≠ 0) : ff f (n - i) i = f i := by
  obtain ⟨r, hr⟩ : ∃ r, n - i = r + 1 := ⟨n - i - 1, by omega⟩
  rw [hr, ff, if_neg h0]
/-- A part's own fault. -/
def pf (L : List Sg) (i : Nat) : Int :=
  if (sg L i).s = 0#64 ∨ (sg L i).f < 0 ∨ 7 < (sg L i).f ∨ (sg L i).s.toNat < (sg L i).n ∨ (lastB (sg L i)).toNat < (sg L i).a.toNat then 23
  else if 0 < i ∧ (sg L i).a.toNat ≤ (lastB (sg L (i - 1))).toNat then 24 else 0
theorem n64_one : n64 1#64 = 1 := rfl
theorem lastB_n (x y : BitVec 64) : IntKind.u64.wrap (n64 x + IntKind.u64.wrap (n64 y - 1)) = n64 (x + (y - 1#64)) := by
  rw [← n64_one, n64_sub, n64_add]
theorem passes_n (x y : BitVec 64) : n64 (18446744073709551615#64 - x) < n64 (y - 1#64) ↔ (x + (y - 1#64)).toNat < x.toNat := by
  unfold n64
  generalize y - 1#64 = t
  rw [BitVec.toNat_sub, BitVec.toNat_add]
  have := x.isLt; have := t.isLt
  simp only [BitVec.toNat_ofNat, Nat.reducePow] at *
  omega
set_option maxHeartbeats 1000000 in
theorem last_c (x y : BitVec 64) (f : Int) (d : Value) (hd : d.oneCell' = true) (w : World) :
    Calls Tryz.prog 43 #[.agg #[.int .u64 (n64 x), .int .u64 (n64 y), .int .i64 f, d]] w fun e w' => e = .returned (.int .u64 (n64 (x + (y - 1#64)))) ∧ Below w.heap.size w w' := by
  have H := lastB_n x y
  have HH : Hid (IntKind.u64.wrap (n64 x + IntKind.u64.wrap (n64 y - 1)) = n64 (x + (y - 1#64))) := H
  clear H
  go_enter Tryz.func43, Tryz.ntmps43
  go_wp2
  go_ret
  exact ⟨ret_int HH.out, (Below.refl _ _).alloc (Nat.le_refl _) _⟩
set_option maxHeartbeats 1000000 in
theorem passes_c (x y : BitVec 64) (w : World) (b : Bool) (hb : Hid (b = decide ((x + (y - 1#64)).toNat < x.toNat))) :
    Calls Tryz.prog 42 #[.int .u64 (n64 x), .int .u64 (n64 y)] w fun e w' => e = .returned (.bool b) ∧ w = w' := by
  go_enter Tryz.func42, Tryz.ntmps42
  go_wp2
  go_ret
  refine ⟨?_, rfl⟩
  have e : decide (IntKind.u64.wrap (18446744073709551615 - n64 x) < IntKind.u64.wrap (n64 y - 1)) = b := by
    rw [hb.out, ← n64_one, n64_sub, show (18446744073709551615 : Int) = n64 18446744073709551615#64 from rfl, n64_sub]
    exact decide_eq_decide.2 (passes_n x y)
  rw [← e]; rfl
set_option maxHeartbeats 1000000 in
theorem rlast_c (x y : BitVec 64) (w : World) (b : Bool) (hb : Hid (b = decide ((x + (y - 1#64)).toNat < x.toNat))) :
    Calls Tryz.prog 59 #[.int .u64 (n64 x), .int .u64 (n64 y)] w fun e w' => e = .returned (.tuple #[.int .u64 (n64 (x + (y - 1#64))), .bool (!b)]) ∧ w = w' := by
  go_enter Tryz.func59, Tryz.ntmps59
  go_wp2
  go_ret2
  refine ⟨?_, rfl⟩
  have e1 := lastB_n x y
  have e2 : decide (n64 x ≤ n64 (x + (y - 1#64))) = !b := by
    rw [hb.out]; unfold n64
    rw [← decide_not]
    exact decide_eq_decide.2 (by omega)
  rw [e1]
  rw [e2]
  rfl
end Go.Proofs.YtheeogbmljjbdaaGreatDoor
namespace Go.Proofs.YtheeogbmljjbdaaGreatDoor
set_option linter.unusedVariables false
open Go.ChangeShapes Go.WideShapes Go.ChangeAt Go.RowKit Go.Deep
/-- A name as it lies in memory. -/
structure Sy where
  s : ByteArray
  v : BitVec 64
def syz : Sy := ⟨⟨#[]⟩, 0⟩
def sy (N : List Sy) (j : Nat) : Sy := N.getD j syz
def Sys (w : World) (v : Value) (N : List Sy) : Prop :=
  ∃ ad cap, v = .slice ad N.length cap ∧ N.length ≤ cap ∧ (N ≠ [] → ∃ g off, ad = some ⟨g, off, none⟩ ∧ g < w.heap.size ∧ ∀ j, j < N.length →
    w.cell? ⟨g, off + j * 2, none⟩ = some (.string (sy N j).s) ∧ w.cell? ⟨g, off + j * 2 + 1, none⟩ = some (.int .u64 (n64 (sy N j).v)))
theorem Sys.later {w w' : World} {v : Value} {N : List Sy} (h : Sys w v N) {B : Nat} (hb : Below B w w') (hB : B = w.heap.size) : Sys w' v N := by
  obtain ⟨ad, cap, rfl, h1, h2⟩ := h
  refine ⟨ad, cap, rfl, h1, fun hne => ?_⟩
  obtain ⟨g, off, rfl, h3, h4⟩ := h2 hne
  refine ⟨g, off, rfl, Nat.lt_of_lt_of_le h3 hb.size, fun j hj => ?_⟩
  obtain ⟨c0, c1⟩ := h4 j hj
  rw [hb.cell (by rw [hB]; exact h3), hb.cell (by rw [hB]; exact h3)]
  exact ⟨c0, c1⟩
/-- Where the file ends behind the first k parts. -/
def sk (L : List Sg) : Nat → Nat
  | 0 => 64 + 56 * L.length
  | k + 1 => if 0 < (sg L k).n then al (sk L k) + (sg L k).n else sk L k
/-- How many bytes the first k texts take. -/
def nk (N : List Sy) : Nat → Nat
  | 0 => 0
  | k + 1 => nk N k + ((sy N k).s.size + 1)
def tabAt (L : List Sg) : Nat := al (sk L L.length)
def szz (L : List Sg) (N : List Sy) : Nat := if N.length = 0 then sk L L.length else al (tabAt L + 24 + 24 * N.length + 1 + nk N N.length + 27) + 256
theorem sk_le {L : List Sg} (M : Nat) (hb : ∀ j, j < L.length → (sg L j).n ≤ M) (k : Nat) : k ≤ L.length → sk L k ≤ 64 + 56 * L.length + k * (M + 8) := by
  induction k with
  | zero =>
    intro _
    have e : sk L 0 = 64 + 56 * L.length := rfl
    rw [e]; omega
  | succ k ih =>
    intro hk
    have ih := ih (by omega)
    have h := hb k (by omega)
    have ha := al_hi (sk L k)
    have e : sk L (k + 1) = if 0 < (sg L k).n then al (sk L k) + (sg L k).n else sk L k := rfl
    rw [e, Nat.add_mul, Nat.one_mul]
    split <;> omega
theorem nk_le {N : List Sy} (M : Nat) (hb : ∀ j, j < N.length → (sy N j).s.size ≤ M) (k : Nat) : k ≤ N.length → nk N k ≤ k * (M + 1) := by
  induction k with
  | zero => intro _; exact Nat.zero_le _
  | succ k ih =>
    intro hk
    have ih := ih (by omega)
    have h := hb k (by omega)
    have e : nk N (k + 1) = nk N k + ((sy N k).s.size + 1) := rfl
    rw [e, Nat.add_mul, Nat.one_mul]
    omega
/-- An image as it is handed over. -/
structure Img (w : World) (vs vn : Value) (L : List Sg) (N : List Sy) : Prop where
  segs : Sgs w vs L
  syms : Sys w vn N
  lens : ∀ j, j < L.length → (sg L j).n ≤ 140737488355328
  texts : ∀ j, j < N.length → (sy N j).s.size ≤ 140737488355328
end Go.Proofs.YtheeogbmljjbdaaGreatDoor
namespace Go.Proofs.YtheeogbmljjbdaaGreatDoor
set_option linter.unusedVariables false
open Go.ChangeShapes Go.WideShapes Go.ChangeAt Go.RowKit Go.Deep
theorem info5 : (Tryz.prog.info? 5).map (fun i => (i.zero, i.size, i.bytes)) = some (some (.int .u8 0), 1, 1) := by kernel_rfl
theorem info41 : (Tryz.prog.info? 61).map (fun i => (i.zero, i.size, i.bytes)) = some (some (.agg #[.int .u64 0, .int .u64 0, .int .i64 0, .slice none 0 0]), 4, 48) := by kernel_rfl
theorem info51 : (Tryz.prog.info? 87).map (fun i => (i.zero, i.size, i.bytes)) = some (some (.agg #[.string ⟨#[]⟩, .int .u64 0]), 2, 24) := by kernel_rfl
def bv (l : List Int) : List Value := l.map (Value.int .u8)
theorem bv_get (l : List Int) (k : Nat) (h : k < l.length) : (bv l)[k]? = some (.int .u8 (l.getD k 0)) := by simp [bv, h]
/-- A list of bytes in memory, wherever it lies. -/
def Byt (w : World) (v : Value) (l : List Int) : Prop :=
  ∃ a cap, v = .slice a l.length cap ∧ l.length ≤ cap ∧ (a = none → cap = 0) ∧ (l ≠ [] → ∃ g off, a = some ⟨g, off, none⟩ ∧ g < w.heap.size ∧ ∀ j, j < l.length → w.cell? ⟨g, off + j, none⟩ = some (.int .u8 (l.getD j 0)))
theorem Byt.later {w w' : World} {v : Value} {l : List Int} (h : Byt w v l) {B : Nat} (hb : Below B w w') (hB : B = w.heap.size) : Byt w' v l := by
  obtain ⟨a, cap, rfl, h1, h1', h2⟩ := h
  refine ⟨a, cap, rfl, h1, h1', fun hn => ?_⟩
  obtain ⟨g, off, rfl, h3, h4⟩ := h2 hn
  exact ⟨g, off, rfl, Nat.lt_of_lt_of_le h3 hb.size, fun j hj => by rw [hb.cell (by rw [hB]; exact h3)]; exact h4 j hj⟩
theorem addAt (g off j : Nat) : (⟨g, off, none⟩ : Addr).add j = ⟨g, off + j, none⟩ := by unfold Addr.add; split <;> simp_all
/-- Bytes appended to an empty list that was just made. -/
theorem appD {ops : Array Oper} {rest : List Oper} {o : Oper} {a : Act} {w : World} {Q : Exit → Act → World → Prop} (hgd : o.guard = none) (s x : Operand) (ho : o.op = .call { callee := .builtin .append, args := #[s, x], argTypes := #[31, 31] })
    (h0 : Nat) (u : Value) (l : List Int) (hs : a.eval s = .slice (some ⟨h0, 0, none⟩) 0 0) (hh0 : h0 = w.heap.size) (hx : a.eval x = u) (hu : Byt w u l) (hl : l.length ≤ 140737488355328)
    (h : ∀ g' c' w', Below w.heap.size w w' → w'.ownsRow w.heap.size 5 1 (.slice (some ⟨g', 0, none⟩) l.length c') l.length (bv l) → wpList Tryz.prog ops Q rest (a.put o.dst (.slice (some ⟨g', 0, none⟩) l.length c')) w') :
    wpList Tryz.prog ops Q (o :: rest) a (w.alloc (.cells #[] 5)) := by
  subst hh0
  obtain ⟨i0, hi, hz0, hz1, hz2⟩ := info_parts info5
  have hown : (w.alloc (.cells #[] 5)).ownsRow w.heap.size 5 1 (.slice (some ⟨w.heap.size, 0, none⟩) 0 0) 0 (bv []) := World.ownsRow_made w #[] 0 (Nat.le_refl _) (Nat.zero_le _) rfl
  have hb1 : Below w.heap.size w (w.alloc (.cells #[] 5)) := (Below.refl _ _).alloc (Nat.le_refl _) _
  have hu' := hu.later hb1 rfl
  obtain ⟨ao, cap, rfl, h1, h1', h2⟩ := hu'
  cases ao with
  | none =>
    have hc := h1' rfl
    have hl0 : l = [] := List.eq_nil_of_length_eq_zero (by omega)
    subst hl0; subst hc
    refine wpList_append_own_none hgd s x 31 ho w.heap.size 5 i0 1 Tryz.underlying31 hi _ 0 (bv []) hs hown hx ?_
    exact h _ _ _ hb1 hown
  | some ad =>
    refine wpList_append_own _ hgd s x 31 ho w.heap.size 5 i0 (.int .u8 0) 1 1 Tryz.underlying31 hi hz0 hz1 hz2 rfl (by decide) _ 0 (bv []) hs hown ad l.length cap (bv l) hx (by simp [bv]) ?_ ?_ (by unfold maxLen; omega) (by omega) (by simp) ?_
    · intro j w2 hj
      have hjl : j < l.length := by have := (List.getElem?_eq_some_iff.1 hj).1; simpa [bv] using this
      obtain ⟨g, off, he, h3, h4⟩ := h2 (by intro e; rw [e] at hjl; simp at hjl)
      cases he
      rw [bv_get _ _ hjl] at hj
      cases hj
      rw [addAt]
      exact h4 j hjl
    · intro w2 hw2; simp [bv] at hw2; obtain ⟨q, _, rfl⟩ := hw2; rfl
    · intro v' w' g1 g2 g3
      have hbl : Below w.heap.size w w' := hb1.grown g2 (by simp) (fun k hk => (hown.lt k hk).1)
      have g1' : w'.ownsRow w.heap.size 5 1 v' l.length (bv l) := by simpa [bv] using g1
      rcases Go.Joins.ownsRow_forms g1' with ⟨rfl, _⟩ | ⟨g', c', rfl⟩
      · exact absurd (g3.1 rfl).1 (by simp)
      · exact h g' c' w' hbl g1'
/-- The cells of parts, one behind the other. -/
def sgv (x : Sg) : List Value := [.int .u64 (n64 x.a), .int .u64 (n64 x.s), .int .i64 x.f, .slice x.m x.n x.c]
def sgl (L : List Sg) : List Value := L.flatMap sgv
theorem sgl_length (L : List Sg) : (sgl L).length = L.length * 4 := by
  induction L with
  | nil => rfl
  | cons x L ih => simp only [sgl, List.flatMap_cons, List.length_append, List.length_cons] at *; rw [ih]; simp [sgv]; omega
theorem sgl_get (L : List Sg) (j c : Nat) (hj : j < L.length) (hc : c < 4) : (sgl L)[j * 4 + c]? = (sgv (sg L j))[c]? := by
  induction L generalizing j with
  | nil => simp at hj
  | cons x L ih =>
    have e : sgl (x :: L) = sgv x ++ sgl L := rfl
    rw [e]
    cases j with
    | zero => rw [Nat.zero_mul, Nat.zero_add, List.getElem?_append_left (by simp [sgv]; exact hc)]; rfl
    | succ j =>
      rw [List.getElem?_append_right (by simp [sgv]; omega), show (j + 1) * 4 + c - (sgv x).length = j * 4 + c by simp [sgv]; omega, ih j (by simpa using hj)]
      rfl
theorem sgl_snoc (L : List Sg) (x : Sg) : sgl (L ++ [x]) = sgl L ++ sgv x := by simp [sgl]
/-- A row of parts of the call's own. -/
theorem Sgs.of_own {w : World} {B : Nat} {v : Value} {L : List Sg} (h : w.ownsRow B 61 4 v L.length (sgl L)) : Sgs w v L := by
  rcases Go.Joins.ownsRow_forms h with ⟨rfl, h0⟩ | ⟨g, cap, rfl⟩
  · have hl0 : L = [] := List.eq_nil_of_length_eq_zero h0
    subst hl0
    exact ⟨none, 0, rfl, Nat.le_refl _, fun hn => absurd rfl hn⟩
  · have hcap : L.length ≤ cap := by
      rcases h.2 with ⟨h', _⟩ | ⟨g', cap', cur, h', _, _, hn, _⟩
      · simp at h'
      · simp only [Value.slice.injEq] at h'; obtain ⟨_, _, rfl⟩ := h'; exact hn
    refine ⟨_, cap, rfl, hcap, fun hn => ⟨g, 0, rfl, (h.lt g rfl).2, fun j hj => ?_⟩⟩
    have k : ∀ c, c < 4 → w.cell? ⟨g, j * 4 + c, none⟩ = (sgv (sg L j))[c]? := fun c hc => by
      rw [h.cellAt (j * 4 + c) (by omega)]; exact sgl_get L j c hj hc
    rw [Nat.zero_add]
    exact ⟨k 0 (by omega), k 1 (by omega), k 2 (by omega), k 3 (by omega)⟩
/-- One part appended to a row of the call's own, a struct beside it. -/
theorem appQ {ops : Array Oper} {rest : List Oper} {o : Oper} {a : Act} {w : World} {Q : Exit → Act → World → Prop} (hgd : o.guard = none) (s x : Operand) (ho : o.op = .call { callee := .builtin .append, args := #[s, x], argTypes := #[23, 23] })
    (B Pb : Nat) (cur : Array Value) (v : Value) (L : List Sg) (y : Sg) (hs : a.eval s = v) (hP : w.heap[Pb]? = some (.cells cur 26 (0, 0))) (hPB : Pb < B) (hown : w.ownsRow B 61 4 v L.length (sgl L))
    (h0 : Nat) (hx : a.eval x = .slice (some ⟨h0, 0, none⟩) 1 1) (hh0 : h0 = w.heap.size) (hl : (L.length + 1) * 48 ≤ 140737488355328) (hB : B ≤ w.heap.size)
    (h : ∀ g' c' w', w'.ownsRow B 61 4 (.slice (some ⟨g', 0, none⟩) (L.length + 1) c') (L ++ [y]).length (sgl (L ++ [y])) → w'.heap[Pb]? = some (.cells cur 26 (0, 0)) → w'.cell? ⟨Pb, 1, none⟩ = cur[1]? → w'.frozen? ⟨Pb, 1, none⟩ = false → Below B w w' → wpList Tryz.prog ops Q rest (a.put o.dst (.slice (some ⟨g', 0, none⟩) (L.length + 1) c')) w') :
    wpList Tryz.prog ops Q (o :: rest) a (w.alloc (.cells #[.int .u64 (n64 y.a), .int .u64 (n64 y.s), .int .i64 y.f, .slice y.m y.n y.c] 61)) := by
  subst hh0
  obtain ⟨i0, hi, hz0, hz1, hz2⟩ := info_parts info41
  refine wpList_append_own _ hgd s x 23 ho B 61 i0 (.agg #[.int .u64 0, .int .u64 0, .int .i64 0, .slice none 0 0]) 4 48 Tryz.underlying23 hi hz0 hz1 hz2 rfl (by decide) v L.length (sgl L) hs (hown.alloc _) ⟨w.heap.size, 0, none⟩ 1 1 (sgv y) hx rfl ?_ ?_ (by unfold maxLen; omega) (by omega) (by simp; omega) ?_
  · intro j u hj
    have hj4 : j < 4 := by have := (List.getElem?_eq_some_iff.1 hj).1; simpa [sgv] using this
    rw [addAt, Nat.zero_add, World.cell?_alloc_at _ _ _ _ rfl]
    match j, hj4, hj with
    | 0, _, hj => exact hj
    | 1, _, hj => exact hj
    | 2, _, hj => exact hj
    | 3, _, hj => exact hj
  · intro u hu; simp [sgv] at hu; rcases hu with rfl | rfl | rfl | rfl <;> rfl
  · intro v' w' h1 h2 _
    have hbl : Below B w w' := ((Below.refl _ _).alloc hB _).grown h2 (by simp; omega) (fun k hk => (hown.lt k hk).1)
    have hP' : w'.heap[Pb]? = some (.cells cur 26 (0, 0)) := by rw [hbl.block Pb hPB]; exact hP
    obtain ⟨g', c', rfl⟩ := Go.Joins.ownsRow_form h1 (by omega)
    exact h g' c' w' (by rw [sgl_snoc, List.length_append]; exact h1) hP' (cell_of_row w' Pb 1 cur 26 (0, 0) hP') (frozen_of_row w' Pb 1 cur 26 hP') hbl
end Go.Proofs.YtheeogbmljjbdaaGreatDoor
