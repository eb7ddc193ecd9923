/-
  Irt Mem.
-/
import Derived.Test.YtheeogbmljjbdaaGreatDoorM08
import Derived.Shelf.SlSortCmp.NoneTotal
import Derived.Test.YtheeogbmljjbdaaGreatDoorM01
namespace Go.Proofs.YtheeogbmljjbdaaGreatDoor
set_option linter.unusedVariables false
open Go.ChangeShapes Go.WideShapes Go.ChangeAt Go.RowKit Go.Deep
section
open Go.Sort
theorem fm_len {α : Type} (enc : α → List Value) (k : Nat) (hk : ∀ x, (enc x).length = k) : ∀ L : List α, (L.flatMap enc).length = L.length * k
  | [] => by simp
  | x :: L => by rw [List.flatMap_cons, List.length_append, hk, fm_len enc k hk L, List.length_cons, Nat.add_mul]; omega
theorem fm_get {α : Type} [Inhabited α] (enc : α → List Value) (k : Nat) (hk : ∀ x, (enc x).length = k) : ∀ (L : List α) (j c : Nat), j < L.length → c < k → (L.flatMap enc)[j * k + c]? = (enc L.toArray[j]!)[c]?
  | [], j, c, h, _ => by simp at h
  | x :: L, 0, c, _, hc => by rw [List.flatMap_cons, Nat.zero_mul, Nat.zero_add, List.getElem?_append_left (by rw [hk]; exact hc)]; simp
  | x :: L, j + 1, c, hj, hc => by
    have ih := fm_get enc k hk L j c (by simpa using hj) hc
    rw [List.flatMap_cons, List.getElem?_append_right (by rw [hk, Nat.add_mul]; omega), hk, show (j + 1) * k + c - k = j * k + c by rw [Nat.add_mul]; omega, ih]
    have hj' : j < L.length := by simpa using hj
    simp [hj']
/-- The row's cells, flat, are the elements' cells one behind the other. -/
theorem flat_fm {α : Type} [Inhabited α] (enc : α → List Value) (k : Nat) (hk : ∀ x, (enc x).length = k) (d : Array α) (t : Nat) (h : t < d.size * k) : (d.toList.flatMap enc)[t]? = some (flatK enc k d)[t]! := by
  have k0 : 0 < k := by rcases Nat.eq_zero_or_pos k with h' | h'; · subst h'; simp at h
                        · exact h'
  have h1 : t / k < d.size := (Nat.div_lt_iff_lt_mul k0).2 h
  have h2 : t % k < k := Nat.mod_lt _ k0
  have e := fm_get enc k hk d.toList (t / k) (t % k) (by simpa using h1) h2
  rw [show t / k * k + t % k = t by rw [Nat.mul_comm]; exact Nat.div_add_mod t k] at e
  rw [e, get_flatK enc k d t h]
  generalize hx : d.toList.toArray[t / k]! = x
  rw [List.getElem?_eq_getElem (by rw [hk]; exact h2), getElem!_pos (enc x) (t % k) (by rw [hk]; exact h2)]
/-- DOWN: a row of elements of k cells that the call owns. -/
theorem own_holdsK {α : Type} [Inhabited α] {enc : α → List Value} {k : Nat} (hk : ∀ x, (enc x).length = k) {w : World} {B e g n cap : Nat} {L : List α} (h : w.ownsRow B e k (.slice (some ⟨g, 0, none⟩) n cap) n (L.flatMap enc)) (hn : L.length = n) : HoldsK enc k w g 0 L.toArray ∧ B ≤ g ∧ g < w.heap.size := by
  rcases h.2 with ⟨e0, _⟩ | ⟨g', cap', cur, e0, hb, hg, h1, hm, hs, ht⟩
  · cases e0
  · injection e0 with e1 _ e3
    injection e1 with e1
    injection e1 with e1
    subst e1; subst e3
    have hlt : g < w.heap.size := by
      rcases Nat.lt_or_ge g w.heap.size with h' | h'
      · exact h'
      · rw [Array.getElem?_eq_none h'] at hg; cases hg
    refine ⟨fun j hj => ?_, hb, hlt⟩
    have hj' : j < L.toArray.size * k := by simpa using hj
    have hj2 : j < n * k := by simpa [hn] using hj'
    have q := flat_fm enc k hk L.toArray j hj'
    refine ⟨?_, by simp [World.frozen?, hg]⟩
    have e1 : (cur.toList.take (n * k))[j]? = (L.flatMap enc)[j]? := by rw [ht]
    rw [List.getElem?_take, if_pos hj2, Array.getElem?_toList] at e1
    simp only [World.cell?, hg, Nat.zero_add, Option.isSome_none, Bool.false_eq_true, if_false]
    rw [e1]; exact q
/-- UP: behind the sort. -/
theorem own_sortWorldK {α : Type} [Inhabited α] {enc : α → List Value} {k : Nat} (hk : ∀ x, (enc x).length = k) {w : World} {B e g n cap m : Nat} {xs : List Value} {d : Array α} {os : Array Obj} (h : w.ownsRow B e k (.slice (some ⟨g, 0, none⟩) n cap) n xs) (hn : d.size = n) : (sortWorldK enc k w g 0 m d os).ownsRow B e k (.slice (some ⟨g, 0, none⟩) n cap) n (d.toList.flatMap enc) := by
  rcases h.2 with ⟨e0, _⟩ | ⟨g', cap', cur, e0, hb, hg, h1, hm, hs, ht⟩
  · cases e0
  · injection e0 with e1 _ e3
    injection e1 with e1
    injection e1 with e1
    subst e1; subst e3
    have hlt : g < w.heap.size := by
      rcases Nat.lt_or_ge g w.heap.size with h' | h'
      · exact h'
      · rw [Array.getElem?_eq_none h'] at hg; cases hg
    have hc : n * k ≤ cur.size := by rw [hs]; exact Nat.mul_le_mul_right _ h1
    refine ⟨by rw [fm_len enc k hk]; simp [hn], .inr ⟨g, cap, putCells id 0 (flatK enc k d) cur, rfl, hb, ?_, h1, hm, by simpa [putCells] using hs, ?_⟩⟩
    · have hq : (w.heap.modify g (onCells (putCells id 0 (flatK enc k d))))[g]? = some (Obj.cells (putCells id 0 (flatK enc k d) cur) e (0, 0)) := by rw [Array.getElem?_modify, if_pos rfl, hg]; rfl
      show (w.heap.modify g (onCells (putCells id 0 (flatK enc k d))) ++ os)[g]? = _
      rw [Array.getElem?_append_left (by simpa using hlt)]; exact hq
    · apply List.ext_getElem?
      intro j
      rw [List.getElem?_take, Array.getElem?_toList]
      by_cases hj : j < n * k
      · have hjc : j < cur.size := by omega
        rw [if_pos hj, flat_fm enc k hk d j (by rw [hn]; exact hj)]
        simp only [putCells, Array.getElem?_mapIdx, Array.getElem?_eq_getElem hjc, Option.map_some]
        rw [if_pos (by rw [size_flatK, hn]; omega)]
        simp
      · rw [if_neg hj, List.getElem?_eq_none (by rw [fm_len enc k hk]; simp [hn]; omega)]
theorem below_sortWorldK {α : Type} [Inhabited α] {enc : α → List Value} {k B m g : Nat} {w : World} {d : Array α} {os : Array Obj} (hg : B ≤ g) (hB : B ≤ w.heap.size) : Go.RowKit.Below B w (sortWorldK enc k w g 0 m d os) :=
  ⟨rfl, rfl, rfl, by simp [sortWorldK, grow, putRowK, putRow, mapBlock, Sort.ahead], fun j hj => by
    show (w.heap.modify g (onCells (putCells id 0 (flatK enc k d))) ++ os)[j]? = _
    rw [Array.getElem?_append_left (by simp; omega), Array.getElem?_modify, if_neg (by omega)]⟩
theorem sortWorldK_other {α : Type} [Inhabited α] {enc : α → List Value} {k m g j : Nat} {w : World} {d : Array α} {os : Array Obj} (hg : j ≠ g) (hj : j < w.heap.size) : (sortWorldK enc k w g 0 m d os).heap[j]? = w.heap[j]? := by
  show (w.heap.modify g (onCells (putCells id 0 (flatK enc k d))) ++ os)[j]? = _
  rw [Array.getElem?_append_left (by simp; omega), Array.getElem?_modify, if_neg (by omega)]
/-- A permutation in words of lists; sorted likewise. -/
theorem permIn_list {α : Type} [Inhabited α] {L : List α} {d : Array α} (h : PermIn 0 L.toArray.size L.toArray d) : d.toList.Perm L ∧ d.size = L.length := by
  obtain ⟨h1, _, h3⟩ := h
  have e1 : d.size = L.length := by simpa using h1
  refine ⟨?_, e1⟩
  have e2 : d.extract 0 L.toArray.size = d := by simp [← e1]
  rw [e2] at h3
  simpa using h3
theorem sortedIn_list {α : Type} [Inhabited α] {lt : α → α → Bool} {d : Array α} {n : Nat} (hn : d.size = n) (h : SortedIn lt 0 n d) : d.toList.Pairwise (fun x y => lt y x = false) := by
  rw [List.pairwise_iff_getElem]
  intro i j hi hj hij
  have q := h i j (Nat.zero_le _) hij (by simpa [hn] using hj)
  rw [getElem!_pos d j (by simpa using hj), getElem!_pos d i (by simpa using hi)] at q
  simpa using q
end
/-- Rows of bytes stay. -/
def KeepU (w w' : World) : Prop := ∀ (k : Nat) (c : Array Value), w.heap[k]? = some (.cells c 5 (0, 0)) → w'.heap[k]? = some (.cells c 5 (0, 0))
theorem KeepU.refl (w : World) : KeepU w w := fun _ _ h => h
theorem KeepU.trans {a b c : World} (h : KeepU a b) (g : KeepU b c) : KeepU a c := fun k x e => g k x (h k x e)
theorem heap_lt {w : World} {k : Nat} {o : Obj} (h : w.heap[k]? = some o) : k < w.heap.size := by
  rcases Nat.lt_or_ge k w.heap.size with h' | h'
  · exact h'
  · rw [Array.getElem?_eq_none h'] at h; cases h
theorem KeepU.below {w w' : World} (h : Below w.heap.size w w') : KeepU w w' := fun k c e => by rw [h.block k (heap_lt e)]; exact e
theorem KeepU.own {w w' : World} (h : KeepU w w') {B n : Nat} {v : Value} {xs : List Value} (ho : w.ownsRow B 5 1 v n xs) : w'.ownsRow B 5 1 v n xs := by
  refine ⟨ho.1, ?_⟩
  rcases ho.2 with h' | ⟨g, cap, cur, rfl, h1, h2, h3⟩
  · exact .inl h'
  · exact .inr ⟨g, cap, cur, rfl, h1, h _ _ h2, h3⟩
theorem own_block {w : World} {B e size n g : Nat} {v : Value} {xs : List Value} (h : w.ownsRow B e size v n xs) (hg : v.ownBlock = some g) : ∃ c, w.heap[g]? = some (.cells c e (0, 0)) := by
  rcases h.2 with ⟨rfl, _⟩ | ⟨g', cap, cur, rfl, _, h2, _⟩
  · simp [Value.ownBlock] at hg
  · simp only [Value.ownBlock, Option.some.injEq] at hg; subst hg; exact ⟨_, h2⟩
theorem KeepU.grown {w w' : World} {B size n : Nat} {v : Value} {xs : List Value} (ho : w.ownsRow B 61 size v n xs) (hg : w.grownBy w' v.ownBlock) : KeepU w w' := fun k c e => by
  rw [hg.block k (heap_lt e) (fun q => ?_)]
  · exact e
  · obtain ⟨c', e'⟩ := own_block ho q.symm
    rw [e] at e'
    simp only [Option.some.injEq, Obj.cells.injEq] at e'
    exact absurd e'.2.1 (by decide)
theorem KeepU.other {w w' : World} {B size n g cap : Nat} {xs : List Value} (ho : w.ownsRow B 61 size (.slice (some ⟨g, 0, none⟩) n cap) n xs) (hg : ∀ j, j ≠ g → j < w.heap.size → w'.heap[j]? = w.heap[j]?) : KeepU w w' := fun k c e => by
  rw [hg k (fun q => ?_) (heap_lt e)]
  · exact e
  · obtain ⟨c', e'⟩ := own_block ho (show (Value.slice (some ⟨g, 0, none⟩) n cap).ownBlock = some g from rfl)
    rw [q, e'] at e
    simp only [Option.some.injEq, Obj.cells.injEq] at e
    exact absurd e.2.1 (by decide)
/-- One part appended to a row of the call's own. -/
theorem appR {ops : Array Oper} {rest : List Oper} {o : Oper} {a : Act} {w : World} {Q : Exit → Act → World → Prop} (hgd : o.guard = none) (s x : Operand) (ho : o.op = .call { callee := .builtin .append, args := #[s, x], argTypes := #[23, 23] })
    (B : Nat) (v : Value) (L : List Sg) (y : Sg) (hs : a.eval s = v) (hown : w.ownsRow B 61 4 v L.length (sgl L))
    (h0 : Nat) (hx : a.eval x = .slice (some ⟨h0, 0, none⟩) 1 1) (hy : w.heap[h0]? = some (.cells #[.int .u64 (n64 y.a), .int .u64 (n64 y.s), .int .i64 y.f, .slice y.m y.n y.c] 61 (0, 0))) (hl : (L.length + 1) * 48 ≤ 140737488355328) (hB : B ≤ w.heap.size)
    (h : ∀ v' w', w'.ownsRow B 61 4 v' (L ++ [y]).length (sgl (L ++ [y])) → Below B w w' → KeepU w w' → wpList Tryz.prog ops Q rest (a.put o.dst v') w') :
    wpList Tryz.prog ops Q (o :: rest) a w := by
  obtain ⟨i0, hi, hz0, hz1, hz2⟩ := info_parts info41
  refine wpList_append_own _ hgd s x 23 ho B 61 i0 (.agg #[.int .u64 0, .int .u64 0, .int .i64 0, .slice none 0 0]) 4 48 Tryz.underlying23 hi hz0 hz1 hz2 rfl (by decide) v L.length (sgl L) hs hown ⟨h0, 0, none⟩ 1 1 (sgv y) hx rfl ?_ ?_ (by unfold maxLen; omega) (by omega) hB ?_
  · intro j u hj
    have hj4 : j < 4 := by have := (List.getElem?_eq_some_iff.1 hj).1; simpa [sgv] using this
    rw [addAt, Nat.zero_add, cell_of_row w h0 j _ _ _ hy]
    match j, hj4, hj with
    | 0, _, hj => exact hj
    | 1, _, hj => exact hj
    | 2, _, hj => exact hj
    | 3, _, hj => exact hj
  · intro u hu; simp [sgv] at hu; rcases hu with rfl | rfl | rfl | rfl <;> rfl
  · intro v' w' h1 h2 _
    have hbl : Below B w w' := (Below.refl _ _).grown h2 hB (fun k hk => (hown.lt k hk).1)
    exact h v' w' (by rw [sgl_snoc, List.length_append]; exact h1) hbl (KeepU.grown hown h2)
/-- A part in memory is a part of the file. -/
def SgPt (b : List Int) (B : Nat) (w : World) (x : Sg) (p : Pt) : Prop :=
  x.a = BitVec.ofNat 64 p.a ∧ x.s = BitVec.ofNat 64 p.s ∧ x.f = (p.f : Int) ∧ w.ownsRow B 5 1 (.slice x.m x.n x.c) p.n (bv ((b.drop p.p).take p.n))
theorem SgPt.keep {b : List Int} {B : Nat} {w w' : World} {x : Sg} {p : Pt} (h : SgPt b B w x p) (k : KeepU w w') : SgPt b B w' x p := ⟨h.1, h.2.1, h.2.2.1, k.own h.2.2.2⟩
/-- Parts in memory, one for each of the file's. -/
inductive Dts (b : List Int) (B : Nat) (w : World) : List Sg → List Pt → Prop
  | nil : Dts b B w [] []
  | cons {x : Sg} {p : Pt} {L : List Sg} {l : List Pt} : SgPt b B w x p → Dts b B w L l → Dts b B w (x :: L) (p :: l)
theorem Dts.keep {b : List Int} {B : Nat} {w w' : World} {L : List Sg} {l : List Pt} (h : Dts b B w L l) (k : KeepU w w') : Dts b B w' L l := by
  induction h with
  | nil => exact .nil
  | cons h1 _ ih => exact .cons (h1.keep k) ih
theorem Dts.snoc {b : List Int} {B : Nat} {w : World} {L : List Sg} {l : List Pt} {x : Sg} {p : Pt} (h : Dts b B w L l) (h1 : SgPt b B w x p) : Dts b B w (L ++ [x]) (l ++ [p]) := by
  induction h with
  | nil => exact .cons h1 .nil
  | cons h2 _ ih => exact .cons h2 ih
theorem Dts.len {b : List Int} {B : Nat} {w : World} {L : List Sg} {l : List Pt} (h : Dts b B w L l) : L.length = l.length := by
  induction h with
  | nil => rfl
  | cons _ _ ih => simp [ih]
/-- A permutation of the one goes with a permutation of the other. -/
theorem Dts.perm {b : List Int} {B : Nat} {w : World} {L L' : List Sg} (hp : L'.Perm L) : ∀ {l : List Pt}, Dts b B w L l → ∃ l', l'.Perm l ∧ Dts b B w L' l' := by
  induction hp with
  | nil => intro l h; cases h; exact ⟨[], .nil, .nil⟩
  | cons x _ ih =>
    intro l h
    cases h with
    | cons h1 h2 => obtain ⟨l', q, d⟩ := ih h2; exact ⟨_ :: l', q.cons _, .cons h1 d⟩
  | swap x y L =>
    intro l h
    cases h with
    | cons h1 h2 =>
      cases h2 with
      | cons h3 h4 => exact ⟨_, .swap _ _ _, .cons h3 (.cons h1 h4)⟩
  | trans _ _ ih1 ih2 =>
    intro l h
    obtain ⟨l1, q1, d1⟩ := ih2 h
    obtain ⟨l2, q2, d2⟩ := ih1 d1
    exact ⟨l2, q2.trans q1, d2⟩
/-- What part asks of the parts ahead, as prL says it. -/
theorem any_mt {b : List Int} {B : Nat} {w : World} {L : List Sg} {l : List Pt} (h : Dts b B w L l) (p : Pt) : (l.any (mtB p) = true) ↔ ∃ j, j < L.length ∧ meetB (BitVec.ofNat 64 p.a) (BitVec.ofNat 64 p.s) (sg L j).a (sg L j).s = true := by
  induction h with
  | nil => simp
  | @cons x q L l h1 _ ih =>
    rw [List.any_cons, Bool.or_eq_true, ih]
    constructor
    · rintro (e | ⟨j, hj, e⟩)
      · refine ⟨0, by simp, ?_⟩
        show meetB _ _ x.a x.s = true
        rw [h1.1, h1.2.1]; exact e
      · exact ⟨j + 1, by simpa using hj, e⟩
    · rintro ⟨j, hj, e⟩
      cases j with
      | zero =>
        have e' : meetB (BitVec.ofNat 64 p.a) (BitVec.ofNat 64 p.s) x.a x.s = true := e
        rw [h1.1, h1.2.1] at e'
        exact .inl e'
      | succ j => exact .inr ⟨j, by simpa using hj, e⟩
end Go.Proofs.YtheeogbmljjbdaaGreatDoor
namespace Go.Proofs.YtheeogbmljjbdaaGreatDoor
open Go.ChangeShapes Go.WideShapes Go.ChangeAt Go.RowKit
theorem alloc2_0 (w : World) (A B : Array Value) (ta tb : TypeId) (i : Nat) : ((w.alloc (.cells A ta)).alloc (.cells B tb)).cell? ⟨w.heap.size, i, none⟩ = A[i]? := by
  rw [World.cell?_alloc_past _ _ _ (by simp only [World.size_alloc]; omega), World.cell?_alloc_at _ _ _ _ rfl]
theorem alloc2_1 (w : World) (A B : Array Value) (ta tb : TypeId) (i : Nat) : ((w.alloc (.cells A ta)).alloc (.cells B tb)).cell? ⟨w.heap.size + 1, i, none⟩ = B[i]? := by
  rw [World.cell?_alloc_at _ _ _ _ (by simp only [World.size_alloc])]
theorem alloc3_0 (w : World) (A B C : Array Value) (ta tb tc : TypeId) (i : Nat) : (((w.alloc (.cells A ta)).alloc (.cells B tb)).alloc (.cells C tc)).cell? ⟨w.heap.size, i, none⟩ = A[i]? := by
  rw [World.cell?_alloc_past _ _ _ (by simp only [World.size_alloc]; omega), alloc2_0]
theorem alloc3_1 (w : World) (A B C : Array Value) (ta tb tc : TypeId) (i : Nat) : (((w.alloc (.cells A ta)).alloc (.cells B tb)).alloc (.cells C tc)).cell? ⟨w.heap.size + 1, i, none⟩ = B[i]? := by
  rw [World.cell?_alloc_past _ _ _ (by simp only [World.size_alloc]; omega), alloc2_1]
theorem alloc3_2 (w : World) (A B C : Array Value) (ta tb tc : TypeId) (i : Nat) : (((w.alloc (.cells A ta)).alloc (.cells B tb)).alloc (.cells C tc)).cell? ⟨w.heap.size + 1 + 1, i, none⟩ = C[i]? := by
  rw [World.cell?_alloc_at _ _ _ _ (by simp only [World.size_alloc])]
theorem alloc4_0 (w : World) (A B C D : Array Value) (ta tb tc td : TypeId) (i : Nat) : ((((w.alloc (.cells A ta)).alloc (.cells B tb)).alloc (.cells C tc)).alloc (.cells D td)).cell? ⟨w.heap.size, i, none⟩ = A[i]? := by
  rw [World.cell?_alloc_past _ _ _ (by simp only [World.size_alloc]; omega), alloc3_0]
theorem alloc4_1 (w : World) (A B C D : Array Value) (ta tb tc td : TypeId) (i : Nat) : ((((w.alloc (.cells A ta)).alloc (.cells B tb)).alloc (.cells C tc)).alloc (.cells D td)).cell? ⟨w.heap.size + 1, i, none⟩ = B[i]? := by
  rw [World.cell?_alloc_past _ _ _ (by simp only [World.size_alloc]; omega), alloc3_1]
theorem alloc4_2 (w : World) (A B C D : Array Value) (ta tb tc td : TypeId) (i : Nat) : ((((w.alloc (.cells A ta)).alloc (.cells B tb)).alloc (.cells C tc)).alloc (.cells D td)).cell? ⟨w.heap.size + 1 + 1, i, none⟩ = C[i]? := by
  rw [World.cell?_alloc_past _ _ _ (by simp only [World.size_alloc]; omega), alloc3_2]
theorem alloc4_3 (w : World) (A B C D : Array Value) (ta tb tc td : TypeId) (i : Nat) : ((((w.alloc (.cells A ta)).alloc (.cells B tb)).alloc (.cells C tc)).alloc (.cells D td)).cell? ⟨w.heap.size + 1 + 1 + 1, i, none⟩ = D[i]? := by
  rw [World.cell?_alloc_at _ _ _ _ (by simp only [World.size_alloc])]
end Go.Proofs.YtheeogbmljjbdaaGreatDoor
