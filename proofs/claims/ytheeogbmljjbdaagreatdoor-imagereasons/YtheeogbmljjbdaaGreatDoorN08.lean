/-
  Irt Mem Itx Ind Ine Iry Irz.
-/
import Derived.Test.YtheeogbmljjbdaaGreatDoorN06
import Derived.Shelf.SlSortCmp.NoneTotal
import Derived.Test.YtheeogbmljjbdaaGreatDoorN01
import Derived.WalkSmall
import Derived.Deep.RegionWith
import Derived.StillTailTactics
import Derived.Test.YtheeogbmljjbdaaGreatDoorN07
namespace Go.Proofs.YtheeogbmljjbdaaGreatDoor
set_option linter.unusedVariables false
open Go.ChangeShapes Go.WideShapes Go.ChangeAt Go.RowKit Go.Deep
section
open Go.Sort
theorem fm_len {α : Type} (enc : α → List Value) (k : Nat) (hk : ∀ x, (enc x).length = k) : ∀ L : List α, (L.flatMap enc).length = L.length * k
  | [] => by simp
  | x :: L => by rw [List.flatMap_cons, List.length_append, hk, fm_len enc k hk L, List.length_cons, Nat.add_mul]; omega
theorem fm_get {α : Type} [Inhabited α] (enc : α → List Value) (k : Nat) (hk : ∀ x, (enc x).length = k) : ∀ (L : List α) (j c : Nat), j < L.length → c < k → (L.flatMap enc)[j * k + c]? = (enc L.toArray[j]!)[c]?
  | [], j, c, h, _ => by simp at h
  | x :: L, 0, c, _, hc => by rw [List.flatMap_cons, Nat.zero_mul, Nat.zero_add, List.getElem?_append_left (by rw [hk]; exact hc)]; simp
  | x :: L, j + 1, c, hj, hc => by
    have ih := fm_get enc k hk L j c (by simpa using hj) hc
    rw [List.flatMap_cons, List.getElem?_append_right (by rw [hk, Nat.add_mul]; omega), hk, show (j + 1) * k + c - k = j * k + c by rw [Nat.add_mul]; omega, ih]
    have hj' : j < L.length := by simpa using hj
    simp [hj']
/-- The row's cells, flat, are the elements' cells one behind the other. -/
theorem flat_fm {α : Type} [Inhabited α] (enc : α → List Value) (k : Nat) (hk : ∀ x, (enc x).length = k) (d : Array α) (t : Nat) (h : t < d.size * k) : (d.toList.flatMap enc)[t]? = some (flatK enc k d)[t]! := by
  have k0 : 0 < k := by rcases Nat.eq_zero_or_pos k with h' | h'; · subst h'; simp at h
                        · exact h'
  have h1 : t / k < d.size := (Nat.div_lt_iff_lt_mul k0).2 h
  have h2 : t % k < k := Nat.mod_lt _ k0
  have e := fm_get enc k hk d.toList (t / k) (t % k) (by simpa using h1) h2
  rw [show t / k * k + t % k = t by rw [Nat.mul_comm]; exact Nat.div_add_mod t k] at e
  rw [e, get_flatK enc k d t h]
  generalize hx : d.toList.toArray[t / k]! = x
  rw [List.getElem?_eq_getElem (by rw [hk]; exact h2), getElem!_pos (enc x) (t % k) (by rw [hk]; exact h2)]
/-- DOWN: a row of elements of k cells that the call owns. -/
theorem own_holdsK {α : Type} [Inhabited α] {enc : α → List Value} {k : Nat} (hk : ∀ x, (enc x).length = k) {w : World} {B e g n cap : Nat} {L : List α} (h : w.ownsRow B e k (.slice (some ⟨g, 0, none⟩) n cap) n (L.flatMap enc)) (hn : L.length = n) : HoldsK enc k w g 0 L.toArray ∧ B ≤ g ∧ g < w.heap.size := by
  rcases h.2 with ⟨e0, _⟩ | ⟨g', cap', cur, e0, hb, hg, h1, hm, hs, ht⟩
  · cases e0
  · injection e0 with e1 _ e3
    injection e1 with e1
    injection e1 with e1
    subst e1; subst e3
    have hlt : g < w.heap.size := by
      rcases Nat.lt_or_ge g w.heap.size with h' | h'
      · exact h'
      · rw [Array.getElem?_eq_none h'] at hg; cases hg
    refine ⟨fun j hj => ?_, hb, hlt⟩
    have hj' : j < L.toArray.size * k := by simpa using hj
    have hj2 : j < n * k := by simpa [hn] using hj'
    have q := flat_fm enc k hk L.toArray j hj'
    refine ⟨?_, by simp [World.frozen?, hg]⟩
    have e1 : (cur.toList.take (n * k))[j]? = (L.flatMap enc)[j]? := by rw [ht]
    rw [List.getElem?_take, if_pos hj2, Array.getElem?_toList] at e1
    simp only [World.cell?, hg, Nat.zero_add, Option.isSome_none, Bool.false_eq_true, if_false]
    rw [e1]; exact q
/-- UP: behind the sort. -/
theorem own_sortWorldK {α : Type} [Inhabited α] {enc : α → List Value} {k : Nat} (hk : ∀ x, (enc x).length = k) {w : World} {B e g n cap m : Nat} {xs : List Value} {d : Array α} {os : Array Obj} (h : w.ownsRow B e k (.slice (some ⟨g, 0, none⟩) n cap) n xs) (hn : d.size = n) : (sortWorldK enc k w g 0 m d os).ownsRow B e k (.slice (some ⟨g, 0, none⟩) n cap) n (d.toList.flatMap enc) := by
  rcases h.2 with ⟨e0, _⟩ | ⟨g', cap', cur, e0, hb, hg, h1, hm, hs, ht⟩
  · cases e0
  · injection e0 with e1 _ e3
    injection e1 with e1
    injection e1 with e1
    subst e1; subst e3
    have hlt : g < w.heap.size := by
      rcases Nat.lt_or_ge g w.heap.size with h' | h'
      · exact h'
      · rw [Array.getElem?_eq_none h'] at hg; cases hg
    have hc : n * k ≤ cur.size := by rw [hs]; exact Nat.mul_le_mul_right _ h1
    refine ⟨by rw [fm_len enc k hk]; simp [hn], .inr ⟨g, cap, putCells id 0 (flatK enc k d) cur, rfl, hb, ?_, h1, hm, by simpa [putCells] using hs, ?_⟩⟩
    · have hq : (w.heap.modify g (onCells (putCells id 0 (flatK enc k d))))[g]? = some (Obj.cells (putCells id 0 (flatK enc k d) cur) e (0, 0)) := by rw [Array.getElem?_modify, if_pos rfl, hg]; rfl
      show (w.heap.modify g (onCells (putCells id 0 (flatK enc k d))) ++ os)[g]? = _
      rw [Array.getElem?_append_left (by simpa using hlt)]; exact hq
    · apply List.ext_getElem?
      intro j
      rw [List.getElem?_take, Array.getElem?_toList]
      by_cases hj : j < n * k
      · have hjc : j < cur.size := by omega
        rw [if_pos hj, flat_fm enc k hk d j (by rw [hn]; exact hj)]
        simp only [putCells, Array.getElem?_mapIdx, Array.getElem?_eq_getElem hjc, Option.map_some]
        rw [if_pos (by rw [size_flatK, hn]; omega)]
        simp
      · rw [if_neg hj, List.getElem?_eq_none (by rw [fm_len enc k hk]; simp [hn]; omega)]
theorem below_sortWorldK {α : Type} [Inhabited α] {enc : α → List Value} {k B m g : Nat} {w : World} {d : Array α} {os : Array Obj} (hg : B ≤ g) (hB : B ≤ w.heap.size) : Go.RowKit.Below B w (sortWorldK enc k w g 0 m d os) :=
  ⟨rfl, rfl, rfl, by simp [sortWorldK, grow, putRowK, putRow, mapBlock, Sort.ahead], fun j hj => by
    show (w.heap.modify g (onCells (putCells id 0 (flatK enc k d))) ++ os)[j]? = _
    rw [Array.getElem?_append_left (by simp; omega), Array.getElem?_modify, if_neg (by omega)]⟩
theorem sortWorldK_other {α : Type} [Inhabited α] {enc : α → List Value} {k m g j : Nat} {w : World} {d : Array α} {os : Array Obj} (hg : j ≠ g) (hj : j < w.heap.size) : (sortWorldK enc k w g 0 m d os).heap[j]? = w.heap[j]? := by
  show (w.heap.modify g (onCells (putCells id 0 (flatK enc k d))) ++ os)[j]? = _
  rw [Array.getElem?_append_left (by simp; omega), Array.getElem?_modify, if_neg (by omega)]
/-- A permutation in words of lists; sorted likewise. -/
theorem permIn_list {α : Type} [Inhabited α] {L : List α} {d : Array α} (h : PermIn 0 L.toArray.size L.toArray d) : d.toList.Perm L ∧ d.size = L.length := by
  obtain ⟨h1, _, h3⟩ := h
  have e1 : d.size = L.length := by simpa using h1
  refine ⟨?_, e1⟩
  have e2 : d.extract 0 L.toArray.size = d := by simp [← e1]
  rw [e2] at h3
  simpa using h3
theorem sortedIn_list {α : Type} [Inhabited α] {lt : α → α → Bool} {d : Array α} {n : Nat} (hn : d.size = n) (h : SortedIn lt 0 n d) : d.toList.Pairwise (fun x y => lt y x = false) := by
  rw [List.pairwise_iff_getElem]
  intro i j hi hj hij
  have q := h i j (Nat.zero_le _) hij (by simpa [hn] using hj)
  rw [getElem!_pos d j (by simpa using hj), getElem!_pos d i (by simpa using hi)] at q
  simpa using q
end
/-- Rows of bytes stay. -/
def KeepU (w w' : World) : Prop := ∀ (k : Nat) (c : Array Value), w.heap[k]? = some (.cells c 5 (0, 0)) → w'.heap[k]? = some (.cells c 5 (0, 0))
theorem KeepU.refl (w : World) : KeepU w w := fun _ _ h => h
theorem KeepU.trans {a b c : World} (h : KeepU a b) (g : KeepU b c) : KeepU a c := fun k x e => g k x (h k x e)
theorem heap_lt {w : World} {k : Nat} {o : Obj} (h : w.heap[k]? = some o) : k < w.heap.size := by
  rcases Nat.lt_or_ge k w.heap.size with h' | h'
  · exact h'
  · rw [Array.getElem?_eq_none h'] at h; cases h
theorem KeepU.below {w w' : World} (h : Below w.heap.size w w') : KeepU w w' := fun k c e => by rw [h.block k (heap_lt e)]; exact e
theorem KeepU.own {w w' : World} (h : KeepU w w') {B n : Nat} {v : Value} {xs : List Value} (ho : w.ownsRow B 5 1 v n xs) : w'.ownsRow B 5 1 v n xs := by
  refine ⟨ho.1, ?_⟩
  rcases ho.2 with h' | ⟨g, cap, cur, rfl, h1, h2, h3⟩
  · exact .inl h'
  · exact .inr ⟨g, cap, cur, rfl, h1, h _ _ h2, h3⟩
theorem own_block {w : World} {B e size n g : Nat} {v : Value} {xs : List Value} (h : w.ownsRow B e size v n xs) (hg : v.ownBlock = some g) : ∃ c, w.heap[g]? = some (.cells c e (0, 0)) := by
  rcases h.2 with ⟨rfl, _⟩ | ⟨g', cap, cur, rfl, _, h2, _⟩
  · simp [Value.ownBlock] at hg
  · simp only [Value.ownBlock, Option.some.injEq] at hg; subst hg; exact ⟨_, h2⟩
theorem KeepU.grown {w w' : World} {B size n : Nat} {v : Value} {xs : List Value} (ho : w.ownsRow B 61 size v n xs) (hg : w.grownBy w' v.ownBlock) : KeepU w w' := fun k c e => by
  rw [hg.block k (heap_lt e) (fun q => ?_)]
  · exact e
  · obtain ⟨c', e'⟩ := own_block ho q.symm
    rw [e] at e'
    simp only [Option.some.injEq, Obj.cells.injEq] at e'
    exact absurd e'.2.1 (by decide)
theorem KeepU.other {w w' : World} {B size n g cap : Nat} {xs : List Value} (ho : w.ownsRow B 61 size (.slice (some ⟨g, 0, none⟩) n cap) n xs) (hg : ∀ j, j ≠ g → j < w.heap.size → w'.heap[j]? = w.heap[j]?) : KeepU w w' := fun k c e => by
  rw [hg k (fun q => ?_) (heap_lt e)]
  · exact e
  · obtain ⟨c', e'⟩ := own_block ho (show (Value.slice (some ⟨g, 0, none⟩) n cap).ownBlock = some g from rfl)
    rw [q, e'] at e
    simp only [Option.some.injEq, Obj.cells.injEq] at e
    exact absurd e.2.1 (by decide)
/-- One part appended to a row of the call's own. -/
theorem appR {ops : Array Oper} {rest : List Oper} {o : Oper} {a : Act} {w : World} {Q : Exit → Act → World → Prop} (hgd : o.guard = none) (s x : Operand) (ho : o.op = .call { callee := .builtin .append, args := #[s, x], argTypes := #[23, 23] })
    (B : Nat) (v : Value) (L : List Sg) (y : Sg) (hs : a.eval s = v) (hown : w.ownsRow B 61 4 v L.length (sgl L))
    (h0 : Nat) (hx : a.eval x = .slice (some ⟨h0, 0, none⟩) 1 1) (hy : w.heap[h0]? = some (.cells #[.int .u64 (n64 y.a), .int .u64 (n64 y.s), .int .i64 y.f, .slice y.m y.n y.c] 61 (0, 0))) (hl : (L.length + 1) * 48 ≤ 140737488355328) (hB : B ≤ w.heap.size)
    (h : ∀ v' w', w'.ownsRow B 61 4 v' (L ++ [y]).length (sgl (L ++ [y])) → Below B w w' → KeepU w w' → wpList Tryz.prog ops Q rest (a.put o.dst v') w') :
    wpList Tryz.prog ops Q (o :: rest) a w := by
  obtain ⟨i0, hi, hz0, hz1, hz2⟩ := info_parts info41
  refine wpList_append_own _ hgd s x 23 ho B 61 i0 (.agg #[.int .u64 0, .int .u64 0, .int .i64 0, .slice none 0 0]) 4 48 Tryz.underlying23 hi hz0 hz1 hz2 rfl (by decide) v L.length (sgl L) hs hown ⟨h0, 0, none⟩ 1 1 (sgv y) hx rfl ?_ ?_ (by unfold maxLen; omega) (by omega) hB ?_
  · intro j u hj
    have hj4 : j < 4 := by have := (List.getElem?_eq_some_iff.1 hj).1; simpa [sgv] using this
    rw [addAt, Nat.zero_add, cell_of_row w h0 j _ _ _ hy]
    match j, hj4, hj with
    | 0, _, hj => exact hj
    | 1, _, hj => exact hj
    | 2, _, hj => exact hj
    | 3, _, hj => exact hj
  · intro u hu; simp [sgv] at hu; rcases hu with rfl | rfl | rfl | rfl <;> rfl
  · intro v' w' h1 h2 _
    have hbl : Below B w w' := (Below.refl _ _).grown h2 hB (fun k hk => (hown.lt k hk).1)
    exact h v' w' (by rw [sgl_snoc, List.length_append]; exact h1) hbl (KeepU.grown hown h2)
/-- A part in memory is a part of the file. -/
def SgPt (b : List Int) (B : Nat) (w : World) (x : Sg) (p : Pt) : Prop :=
  x.a = BitVec.ofNat 64 p.a ∧ x.s = BitVec.ofNat 64 p.s ∧ x.f = (p.f : Int) ∧ w.ownsRow B 5 1 (.slice x.m x.n x.c) p.n (bv ((b.drop p.p).take p.n))
theorem SgPt.keep {b : List Int} {B : Nat} {w w' : World} {x : Sg} {p : Pt} (h : SgPt b B w x p) (k : KeepU w w') : SgPt b B w' x p := ⟨h.1, h.2.1, h.2.2.1, k.own h.2.2.2⟩
/-- Parts in memory, one for each of the file's. -/
inductive Dts (b : List Int) (B : Nat) (w : World) : List Sg → List Pt → Prop
  | nil : Dts b B w [] []
  | cons {x : Sg} {p : Pt} {L : List Sg} {l : List Pt} : SgPt b B w x p → Dts b B w L l → Dts b B w (x :: L) (p :: l)
theorem Dts.keep {b : List Int} {B : Nat} {w w' : World} {L : List Sg} {l : List Pt} (h : Dts b B w L l) (k : KeepU w w') : Dts b B w' L l := by
  induction h with
  | nil => exact .nil
  | cons h1 _ ih => exact .cons (h1.keep k) ih
theorem Dts.snoc {b : List Int} {B : Nat} {w : World} {L : List Sg} {l : List Pt} {x : Sg} {p : Pt} (h : Dts b B w L l) (h1 : SgPt b B w x p) : Dts b B w (L ++ [x]) (l ++ [p]) := by
  induction h with
  | nil => exact .cons h1 .nil
  | cons h2 _ ih => exact .cons h2 ih
theorem Dts.len {b : List Int} {B : Nat} {w : World} {L : List Sg} {l : List Pt} (h : Dts b B w L l) : L.length = l.length := by
  induction h with
  | nil => rfl
  | cons _ _ ih => simp [ih]
/-- A permutation of the one goes with a permutation of the other. -/
theorem Dts.perm {b : List Int} {B : Nat} {w : World} {L L' : List Sg} (hp : L'.Perm L) : ∀ {l : List Pt}, Dts b B w L l → ∃ l', l'.Perm l ∧ Dts b B w L' l' := by
  induction hp with
  | nil => intro l h; cases h; exact ⟨[], .nil, .nil⟩
  | cons x _ ih =>
    intro l h
    cases h with
    | cons h1 h2 => obtain ⟨l', q, d⟩ := ih h2; exact ⟨_ :: l', q.cons _, .cons h1 d⟩
  | swap x y L =>
    intro l h
    cases h with
    | cons h1 h2 =>
      cases h2 with
      | cons h3 h4 => exact ⟨_, .swap _ _ _, .cons h3 (.cons h1 h4)⟩
  | trans _ _ ih1 ih2 =>
    intro l h
    obtain ⟨l1, q1, d1⟩ := ih2 h
    obtain ⟨l2, q2, d2⟩ := ih1 d1
    exact ⟨l2, q2.trans q1, d2⟩
/-- What part asks of the parts ahead, as prL says it. -/
theorem any_mt {b : List Int} {B : Nat} {w : World} {L : List Sg} {l : List Pt} (h : Dts b B w L l) (p : Pt) : (l.any (mtB p) = true) ↔ ∃ j, j < L.length ∧ meetB (BitVec.ofNat 64 p.a) (BitVec.ofNat 64 p.s) (sg L j).a (sg L j).s = true := by
  induction h with
  | nil => simp
  | @cons x q L l h1 _ ih =>
    rw [List.any_cons, Bool.or_eq_true, ih]
    constructor
    · rintro (e | ⟨j, hj, e⟩)
      · refine ⟨0, by simp, ?_⟩
        show meetB _ _ x.a x.s = true
        rw [h1.1, h1.2.1]; exact e
      · exact ⟨j + 1, by simpa using hj, e⟩
    · rintro ⟨j, hj, e⟩
      cases j with
      | zero =>
        have e' : meetB (BitVec.ofNat 64 p.a) (BitVec.ofNat 64 p.s) x.a x.s = true := e
        rw [h1.1, h1.2.1] at e'
        exact .inl e'
      | succ j => exact .inr ⟨j, by simpa using hj, e⟩
end Go.Proofs.YtheeogbmljjbdaaGreatDoor
namespace Go.Proofs.YtheeogbmljjbdaaGreatDoor
open Go.ChangeShapes Go.WideShapes Go.ChangeAt Go.RowKit
theorem alloc2_0 (w : World) (A B : Array Value) (ta tb : TypeId) (i : Nat) : ((w.alloc (.cells A ta)).alloc (.cells B tb)).cell? ⟨w.heap.size, i, none⟩ = A[i]? := by
  rw [World.cell?_alloc_past _ _ _ (by simp only [World.size_alloc]; omega), World.cell?_alloc_at _ _ _ _ rfl]
theorem alloc2_1 (w : World) (A B : Array Value) (ta tb : TypeId) (i : Nat) : ((w.alloc (.cells A ta)).alloc (.cells B tb)).cell? ⟨w.heap.size + 1, i, none⟩ = B[i]? := by
  rw [World.cell?_alloc_at _ _ _ _ (by simp only [World.size_alloc])]
theorem alloc3_0 (w : World) (A B C : Array Value) (ta tb tc : TypeId) (i : Nat) : (((w.alloc (.cells A ta)).alloc (.cells B tb)).alloc (.cells C tc)).cell? ⟨w.heap.size, i, none⟩ = A[i]? := by
  rw [World.cell?_alloc_past _ _ _ (by simp only [World.size_alloc]; omega), alloc2_0]
theorem alloc3_1 (w : World) (A B C : Array Value) (ta tb tc : TypeId) (i : Nat) : (((w.alloc (.cells A ta)).alloc (.cells B tb)).alloc (.cells C tc)).cell? ⟨w.heap.size + 1, i, none⟩ = B[i]? := by
  rw [World.cell?_alloc_past _ _ _ (by simp only [World.size_alloc]; omega), alloc2_1]
theorem alloc3_2 (w : World) (A B C : Array Value) (ta tb tc : TypeId) (i : Nat) : (((w.alloc (.cells A ta)).alloc (.cells B tb)).alloc (.cells C tc)).cell? ⟨w.heap.size + 1 + 1, i, none⟩ = C[i]? := by
  rw [World.cell?_alloc_at _ _ _ _ (by simp only [World.size_alloc])]
theorem alloc4_0 (w : World) (A B C D : Array Value) (ta tb tc td : TypeId) (i : Nat) : ((((w.alloc (.cells A ta)).alloc (.cells B tb)).alloc (.cells C tc)).alloc (.cells D td)).cell? ⟨w.heap.size, i, none⟩ = A[i]? := by
  rw [World.cell?_alloc_past _ _ _ (by simp only [World.size_alloc]; omega), alloc3_0]
theorem alloc4_1 (w : World) (A B C D : Array Value) (ta tb tc td : TypeId) (i : Nat) : ((((w.alloc (.cells A ta)).alloc (.cells B tb)).alloc (.cells C tc)).alloc (.cells D td)).cell? ⟨w.heap.size + 1, i, none⟩ = B[i]? := by
  rw [World.cell?_alloc_past _ _ _ (by simp only [World.size_alloc]; omega), alloc3_1]
theorem alloc4_2 (w : World) (A B C D : Array Value) (ta tb tc td : TypeId) (i : Nat) : ((((w.alloc (.cells A ta)).alloc (.cells B tb)).alloc (.cells C tc)).alloc (.cells D td)).cell? ⟨w.heap.size + 1 + 1, i, none⟩ = C[i]? := by
  rw [World.cell?_alloc_past _ _ _ (by simp only [World.size_alloc]; omega), alloc3_2]
theorem alloc4_3 (w : World) (A B C D : Array Value) (ta tb tc td : TypeId) (i : Nat) : ((((w.alloc (.cells A ta)).alloc (.cells B tb)).alloc (.cells C tc)).alloc (.cells D td)).cell? ⟨w.heap.size + 1 + 1 + 1, i, none⟩ = D[i]? := by
  rw [World.cell?_alloc_at _ _ _ _ (by simp only [World.size_alloc])]
end Go.Proofs.YtheeogbmljjbdaaGreatDoor
namespace Go.Proofs.YtheeogbmljjbdaaGreatDoor
set_option linter.unusedVariables false
open Go.ChangeShapes Go.WideShapes Go.ChangeAt Go.RowKit Go.Deep
/-- Parts that differ at most in where their bytes lie. -/
structure Alike (L M : List Sg) : Prop where
  len : M.length = L.length
  a : ∀ j, j < L.length → (sg M j).a = (sg L j).a
  s : ∀ j, j < L.length → (sg M j).s = (sg L j).s
  f : ∀ j, j < L.length → (sg M j).f = (sg L j).f
  n : ∀ j, j < L.length → (sg M j).n = (sg L j).n
/-- The cells of names, one behind the other. -/
def syv (x : Sy) : List Value := [.string x.s, .int .u64 (n64 x.v)]
def syl (N : List Sy) : List Value := N.flatMap syv
theorem syl_length (N : List Sy) : (syl N).length = N.length * 2 := by
  induction N with
  | nil => rfl
  | cons x N ih => simp only [syl, List.flatMap_cons, List.length_append, List.length_cons] at *; rw [ih]; simp [syv]; omega
theorem syl_get (N : List Sy) (j c : Nat) (hj : j < N.length) (hc : c < 2) : (syl N)[j * 2 + c]? = (syv (sy N j))[c]? := by
  induction N generalizing j with
  | nil => simp at hj
  | cons x N ih =>
    have e : syl (x :: N) = syv x ++ syl N := rfl
    rw [e]
    cases j with
    | zero => rw [Nat.zero_mul, Nat.zero_add, List.getElem?_append_left (by simp [syv]; exact hc)]; rfl
    | succ j =>
      rw [List.getElem?_append_right (by simp [syv]; omega), show (j + 1) * 2 + c - (syv x).length = j * 2 + c by simp [syv]; omega, ih j (by simpa using hj)]
      rfl
theorem Sys.of_own {w : World} {B : Nat} {v : Value} {N : List Sy} (h : w.ownsRow B 87 2 v N.length (syl N)) : Sys w v N := by
  rcases Go.Joins.ownsRow_forms h with ⟨rfl, h0⟩ | ⟨g, cap, rfl⟩
  · have hl0 : N = [] := List.eq_nil_of_length_eq_zero h0
    subst hl0
    exact ⟨none, 0, rfl, Nat.le_refl _, fun hn => absurd rfl hn⟩
  · have hcap : N.length ≤ cap := by
      rcases h.2 with ⟨h', _⟩ | ⟨g', cap', cur, h', _, _, hn, _⟩
      · simp at h'
      · simp only [Value.slice.injEq] at h'; obtain ⟨_, _, rfl⟩ := h'; exact hn
    refine ⟨_, cap, rfl, hcap, fun hn => ⟨g, 0, rfl, (h.lt g rfl).2, fun j hj => ?_⟩⟩
    have k : ∀ c, c < 2 → w.cell? ⟨g, j * 2 + c, none⟩ = (syv (sy N j))[c]? := fun c hc => by
      rw [h.cellAt (j * 2 + c) (by omega)]; exact syl_get N j c hj hc
    rw [Nat.zero_add]
    exact ⟨k 0 (by omega), k 1 (by omega)⟩
/-- Names appended to none. -/
theorem appN {ops : Array Oper} {rest : List Oper} {o : Oper} {a : Act} {w : World} {Q : Exit → Act → World → Prop} (hgd : o.guard = none) (s x : Operand) (ho : o.op = .call { callee := .builtin .append, args := #[s, x], argTypes := #[24, 24] })
    (u : Value) (N : List Sy) (hs : a.eval s = .slice none 0 0) (hx : a.eval x = u) (hu : Sys w u N) (hnil : Hid (∀ c k, u = .slice none k c → k = 0 ∧ c = 0)) (hl : N.length * 24 ≤ 140737488355328)
    (h : ∀ ad c' w', Below w.heap.size w w' → w'.ownsRow w.heap.size 87 2 (.slice ad N.length c') N.length (syl N) → wpList Tryz.prog ops Q rest (a.put o.dst (.slice ad N.length c')) w') :
    wpList Tryz.prog ops Q (o :: rest) a w := by
  obtain ⟨i0, hi, hz0, hz1, hz2⟩ := info_parts info51
  obtain ⟨ao, cap, rfl, h1, h2⟩ := hu
  cases ao with
  | none =>
    obtain ⟨hl0, hc0⟩ := hnil.out _ _ rfl
    have hN : N = [] := List.eq_nil_of_length_eq_zero hl0
    subst hN; subst hc0
    have hown := World.ownsRow_nil w w.heap.size 87 2
    refine wpList_append_own_none hgd s x 24 ho w.heap.size 87 i0 2 Tryz.underlying24 hi _ 0 [] hs hown hx ?_
    exact h _ _ _ (Below.refl _ _) hown
  | some ad =>
    refine wpList_append_own _ hgd s x 24 ho w.heap.size 87 i0 (.agg #[.string ⟨#[]⟩, .int .u64 0]) 2 24 Tryz.underlying24 hi hz0 hz1 hz2 rfl (by decide) _ 0 [] hs (World.ownsRow_nil _ _ _ _) ad N.length cap (syl N) hx (syl_length N) ?_ ?_ (by unfold maxLen; omega) (by omega) (Nat.le_refl _) ?_
    · intro j w2 hj
      have hjl : j < N.length * 2 := by have := (List.getElem?_eq_some_iff.1 hj).1; rw [syl_length] at this; exact this
      obtain ⟨g, off, he, h3, h4⟩ := h2 (by intro e; rw [e] at hjl; simp at hjl)
      cases he
      rw [addAt]
      obtain ⟨c0, c1⟩ := h4 (j / 2) (by omega)
      rcases Nat.mod_two_eq_zero_or_one j with hm | hm
      · have ej : j = j / 2 * 2 + 0 := by omega
        rw [ej, syl_get N (j / 2) 0 (by omega) (by omega)] at hj
        have hw2 : w2 = .string (sy N (j / 2)).s := (Option.some.inj hj).symm
        have eo : off + j = off + j / 2 * 2 := by omega
        rw [hw2, eo]; exact c0
      · have ej : j = j / 2 * 2 + 1 := by omega
        rw [ej, syl_get N (j / 2) 1 (by omega) (by omega)] at hj
        have hw2 : w2 = .int .u64 (n64 (sy N (j / 2)).v) := (Option.some.inj hj).symm
        have eo : off + j = off + j / 2 * 2 + 1 := by omega
        rw [hw2, eo]; exact c1
    · intro w2 hw2
      simp only [syl, List.mem_flatMap] at hw2
      obtain ⟨y, _, hy⟩ := hw2
      simp [syv] at hy
      rcases hy with rfl | rfl <;> rfl
    · intro v' w' g1 g2 _
      have hbl : Below w.heap.size w w' := (Below.refl _ _).grown g2 (Nat.le_refl _) (fun k hk => by cases hk)
      have g1' : w'.ownsRow w.heap.size 87 2 v' N.length (syl N) := by simpa using g1
      rcases Go.Joins.ownsRow_forms g1' with ⟨rfl, h0⟩ | ⟨g', c', rfl⟩
      · have := h none 0 w' hbl (by rw [h0] at g1' ⊢; exact g1')
        rw [h0] at this; exact this
      · exact h _ c' w' hbl g1'
/-- Where twin stands behind the first k parts. -/
structure TW (E : BitVec 64) (L : List Sg) (k Pb : Nat) (sv : Value) (w1 wr : World) : Prop where
  blk : wr.heap[Pb]? = some (.cells #[.int .u64 (n64 E), sv, .slice none 0 0] 26 (0, 0))
  own : ∃ M : List Sg, M.length = k ∧ (∀ j, j < k → (sg M j).a = (sg L j).a ∧ (sg M j).s = (sg L j).s ∧ (sg M j).f = (sg L j).f ∧ (sg M j).n = (sg L j).n) ∧ wr.ownsRow (Pb + 1) 61 4 sv M.length (sgl M)
  below : Below Pb w1 wr
end Go.Proofs.YtheeogbmljjbdaaGreatDoor
namespace Go.Proofs.YtheeogbmljjbdaaGreatDoor
set_option linter.unusedVariables false
open Go.ChangeShapes Go.WideShapes Go.ChangeAt Go.RowKit Go.Deep
/-- The order of texts, as Go has it. -/
def lS (s t : ByteArray) : Bool := Op.bytesLess s.toList t.toList
theorem less_tri : ∀ x y : List UInt8, Op.bytesLess x y = (!Op.bytesLess y x && !(y == x))
  | [], [] => rfl
  | [], _ :: _ => rfl
  | _ :: _, [] => rfl
  | a :: x, b :: y => by
    have ih := less_tri x y
    have e0 : ((b :: y) == (a :: x)) = ((b == a) && (y == x)) := rfl
    rw [e0]
    unfold Op.bytesLess
    rcases Nat.lt_trichotomy a.toNat b.toNat with h | h | h
    · have h1 : a < b := UInt8.lt_iff_toNat_lt.2 h
      have h2 : ¬ b < a := fun q => by have := UInt8.lt_iff_toNat_lt.1 q; omega
      have h3 : (b == a) = false := by rw [Bool.eq_false_iff]; intro q; have := eq_of_beq q; rw [this] at h; omega
      simp [h1, h2, h3]
    · have h0 : a = b := UInt8.toNat_inj.1 h
      subst h0
      have h1 : ¬ a < a := fun q => by have := UInt8.lt_iff_toNat_lt.1 q; omega
      simp [h1]
      exact ih
    · have h1 : b < a := UInt8.lt_iff_toNat_lt.2 h
      have h2 : ¬ a < b := fun q => by have := UInt8.lt_iff_toNat_lt.1 q; omega
      have h3 : (a == b) = false := by rw [Bool.eq_false_iff]; intro q; have := eq_of_beq q; rw [this] at h; omega
      simp [h1, h2, h3]
theorem cmpU_c (x y : BitVec 64) (w : World) (z : Int) (hz : Hid (z = if x.toNat < y.toNat then -1 else if y.toNat < x.toNat then 1 else 0)) :
    Calls Tryz.prog 75 #[.int .u64 (n64 x), .int .u64 (n64 y)] w fun e w' => e = .returned (.int .i64 z) ∧ w' = w := by
  have hzz := hz.out
  by_cases h1 : x.toNat < y.toNat
  · rw [if_pos h1] at hzz
    subst hzz
    have g : n64 x < n64 y := by unfold n64; omega
    clear hz h1
    go_enter Tryz.func75, Tryz.ntmps75
    go_wp2
    go_ret
    exact ⟨rfl, rfl⟩
  · rw [if_neg h1] at hzz
    have g : n64 y ≤ n64 x := by unfold n64; omega
    by_cases h2 : y.toNat < x.toNat
    · rw [if_pos h2] at hzz
      subst hzz
      have g2 : n64 y < n64 x := by unfold n64; omega
      clear hz h1 h2 g
      go_enter Tryz.func75, Tryz.ntmps75
      go_wp2
      go_ret
      exact ⟨rfl, rfl⟩
    · rw [if_neg h2] at hzz
      subst hzz
      have g2 : n64 x ≤ n64 y := by unfold n64; omega
      clear hz h1 h2
      go_enter Tryz.func75, Tryz.ntmps75
      go_wp2
      go_ret
      exact ⟨rfl, rfl⟩
theorem cmpS_c (s t : ByteArray) (w : World) (z : Int) (hz : Hid (z = if lS s t then -1 else if s.toList == t.toList then 0 else 1)) :
    Calls Tryz.prog 76 #[.string s, .string t] w fun e w' => e = .returned (.int .i64 z) ∧ w' = w := by
  have hzz := hz.out
  unfold lS at hzz
  cases h1 : Op.bytesLess s.toList t.toList with
  | true =>
    rw [h1] at hzz
    simp only [if_true] at hzz
    subst hzz
    clear hz
    go_enter Tryz.func76, Tryz.ntmps76
    go_wp2
    go_ret
    exact ⟨rfl, rfl⟩
  | false =>
    rw [h1] at hzz
    cases h2 : (s.toList == t.toList) with
    | true =>
      rw [h2] at hzz
      simp only [if_true, Bool.false_eq_true, if_false] at hzz
      subst hzz
      clear hz
      go_enter Tryz.func76, Tryz.ntmps76
      go_wp2
      go_ret
      exact ⟨rfl, rfl⟩
    | false =>
      rw [h2] at hzz
      simp only [Bool.false_eq_true, if_false] at hzz
      subst hzz
      clear hz
      go_enter Tryz.func76, Tryz.ntmps76
      go_wp2
      go_ret
      exact ⟨rfl, rfl⟩
set_option maxHeartbeats 1000000 in
theorem or_c (g : Nat) (a b z : Int) (hz : Hid (z = if a = 0 then b else a)) (w : World) (h0 : w.cell? ⟨g, 0, none⟩ = some (.int .i64 a)) (h1 : w.cell? ⟨g, 1, none⟩ = some (.int .i64 b)) :
    Calls Tryz.prog 74 #[.slice (some ⟨g, 0, none⟩) 2 2] w fun e w' => e = .returned (.int .i64 z) ∧ w' = w := by
  go_enter Tryz.func74, Tryz.ntmps74
  go_wp2
  go_loopw [8] (fun i wr => Hid (i = .int .i64 0 ∨ (i = .int .i64 1 ∧ a = 0) ∨ (i = .int .i64 2 ∧ a = 0 ∧ b = 0)) ∧ wr = w) (fun i _ => 2 - (intOf i).toNat)
  case atStart => exact ⟨.inl rfl, rfl⟩
  case round =>
    obtain ⟨hi, rfl⟩ := hrel
    rcases hi.out with rfl | ⟨rfl, ha⟩ | ⟨rfl, ha, hb⟩
    · clear hi
      by_cases ha : a = 0
      · have HA : Hid (a = 0) := ha
        have ha' : (a != 0) = false := by simp [ha]
        clear ha
        go_wp2
        go_roundw
        case rel => exact ⟨.inr (.inl ⟨rfl, HA.out⟩), trivial⟩
        case measure => simp [intOf]
      · have HA : Hid (z = a) := by unfold Hid; rw [hz.out, if_neg ha]
        have ha' : (a != 0) = true := by simp [ha]
        clear ha
        go_wp2
        go_ret
        exact ⟨by rw [HA.out]; rfl, rfl⟩
    · have HA : Hid (a = 0) := ha
      clear hi ha
      by_cases hb : b = 0
      · have HB : Hid (b = 0) := hb
        have hb' : (b != 0) = false := by simp [hb]
        clear hb
        go_wp2
        go_roundw
        case rel => exact ⟨.inr (.inr ⟨rfl, HA.out, HB.out⟩), trivial⟩
        case measure => simp [intOf]
      · have HB : Hid (z = b) := by unfold Hid; rw [hz.out, if_pos HA.out]
        have hb' : (b != 0) = true := by simp [hb]
        clear hb
        go_wp2
        go_ret
        exact ⟨by rw [HB.out]; rfl, rfl⟩
    · have HB : Hid (z = 0) := by unfold Hid; rw [hz.out, if_pos ha, hb]
      clear hi ha hb
      go_wp2
      go_ret
      exact ⟨by rw [HB.out]; rfl, rfl⟩
/-- A name that stands ahead of another. -/
def ahead (s : ByteArray) (x : BitVec 64) (t : ByteArray) (y : BitVec 64) : Bool := decide (x.toNat < y.toNat) || (decide (x.toNat = y.toNat) && lS s t)
end Go.Proofs.YtheeogbmljjbdaaGreatDoor
namespace Go.Proofs.YtheeogbmljjbdaaGreatDoor
set_option linter.unusedVariables false
open Go.ChangeShapes Go.WideShapes Go.ChangeAt Go.RowKit Go.Deep
/-- What compareNames tells. -/
def cz (s t : ByteArray) (x y : BitVec 64) : Int :=
  if (if x.toNat < y.toNat then (-1 : Int) else if y.toNat < x.toNat then 1 else 0) = 0 then (if lS s t then -1 else if s.toList == t.toList then 0 else 1) else (if x.toNat < y.toNat then (-1 : Int) else if y.toNat < x.toNat then 1 else 0)
theorem or_b (g : Nat) (a b z : Int) (hz : Hid (z = if a = 0 then b else a)) (w : World) (h0 : w.cell? ⟨g, 0, none⟩ = some (.int .i64 a)) (h1 : w.cell? ⟨g, 1, none⟩ = some (.int .i64 b)) :
    Calls Tryz.prog 74 #[.slice (some ⟨g, 0, none⟩) 2 2] w fun e w' => e = .returned (.int .i64 z) ∧ Hid (Below w.heap.size w w') :=
  (or_c g a b z hz w h0 h1).mono fun e w' ⟨h1, h2⟩ => ⟨h1, by rw [h2]; exact Below.refl _ _⟩
set_option maxHeartbeats 2000000 in
set_option maxRecDepth 100000 in
theorem compare_c (s t : ByteArray) (x y : BitVec 64) (w : World) :
    Calls Tryz.prog 45 #[.agg #[.string s, .int .u64 (n64 x)], .agg #[.string t, .int .u64 (n64 y)]] w fun e w' => ∃ z, e = .returned (.int .i64 z) ∧ decide (0 ≤ z) = !ahead s x t y ∧ Hid (z = cz s t x y) ∧ Below w.heap.size w w' := by
  obtain ⟨a, ha⟩ : ∃ a : Int, a = if x.toNat < y.toNat then -1 else if y.toNat < x.toNat then 1 else 0 := ⟨_, rfl⟩
  obtain ⟨b, hb⟩ : ∃ b : Int, b = if lS s t then -1 else if s.toList == t.toList then 0 else 1 := ⟨_, rfl⟩
  obtain ⟨z, hz⟩ : ∃ z : Int, z = if a = 0 then b else a := ⟨_, rfl⟩
  have HA : Hid (a = if x.toNat < y.toNat then -1 else if y.toNat < x.toNat then 1 else 0) := ha
  have HB : Hid (b = if lS s t then -1 else if s.toList == t.toList then 0 else 1) := hb
  have HZ : Hid (z = if a = 0 then b else a) := hz
  have HE : Hid (decide (0 ≤ z) = !ahead s x t y) := by
    unfold Hid ahead
    rw [hz, ha, hb]
    by_cases h1 : x.toNat < y.toNat
    · simp [h1]
    · by_cases h2 : y.toNat < x.toNat
      · have : ¬ x.toNat = y.toNat := by omega
        simp [h1, h2, this]
      · have : x.toNat = y.toNat := by omega
        cases lS s t
        · simp [this]; split <;> simp
        · simp [this]
  have HZC : Hid (z = cz s t x y) := by unfold Hid cz; rw [hz, ha, hb]
  clear ha hb hz
  go_enter Tryz.func45, Tryz.ntmps45
  go_wp2_with fail
  have k0 : ((w.alloc (.cells #[.string s, .int .u64 (n64 x)] 87)).alloc (.cells #[.string t, .int .u64 (n64 y)] 87)).cell? ⟨w.heap.size, 0, none⟩ = some (.string s) := by rw [alloc2_0]; rfl
  have k1 : ((w.alloc (.cells #[.string s, .int .u64 (n64 x)] 87)).alloc (.cells #[.string t, .int .u64 (n64 y)] 87)).cell? ⟨w.heap.size, 1, none⟩ = some (.int .u64 (n64 x)) := by rw [alloc2_0]; rfl
  have k2 : ((w.alloc (.cells #[.string s, .int .u64 (n64 x)] 87)).alloc (.cells #[.string t, .int .u64 (n64 y)] 87)).cell? ⟨w.heap.size + 1, 0, none⟩ = some (.string t) := by rw [alloc2_1]; rfl
  have k3 : ((w.alloc (.cells #[.string s, .int .u64 (n64 x)] 87)).alloc (.cells #[.string t, .int .u64 (n64 y)] 87)).cell? ⟨w.heap.size + 1, 1, none⟩ = some (.int .u64 (n64 y)) := by rw [alloc2_1]; rfl
  have HB2 : Hid (Below w.heap.size w ((w.alloc (.cells #[.string s, .int .u64 (n64 x)] 87)).alloc (.cells #[.string t, .int .u64 (n64 y)] 87))) := ((Below.refl _ _).alloc (Nat.le_refl _) _).alloc (by simp) _
  generalize (w.alloc (.cells #[.string s, .int .u64 (n64 x)] 87)).alloc (.cells #[.string t, .int .u64 (n64 y)] 87) = W2 at *
  refine wp_region_still_tail 10 (by kernel_rfl) (by kernel_rfl) ?_
  change wpStill _ _ W2.drew (fun a' => wpList _ _ _ _ a' W2.drew) _ _
  simp only [List.take_succ_cons, List.take_zero, List.drop_succ_cons, List.drop_zero]
  still_step
  still_step
  still_step
  still_step
  still_call (cmpU_c x y _ a HA)
  still_step
  still_step
  still_step
  still_step
  still_call (cmpS_c s t _ b HB)
  refine wpStill_nil ?_
  go_wp2_with (go_at_call 74; refine (or_b W2.heap.size a b z HZ _ (by simp) (by simp)).mono ?_; rintro e w' ⟨rfl, hbl⟩)
  go_ret
  have h0 := HB2.out.alloc HB2.out.size (.cells #[.int .i64 a, .int .i64 b] 3)
  exact ⟨z, rfl, HE.out, HZC, h0.drew.trans ((show Below _ _ _ from hbl.out).mono (Nat.le_trans HB2.out.size (by simp)))⟩
theorem compare_z (s t : ByteArray) (x y : BitVec 64) (w : World) :
    Calls Tryz.prog 45 #[.agg #[.string s, .int .u64 (n64 x)], .agg #[.string t, .int .u64 (n64 y)]] w fun e w' => e = .returned (.int .i64 (cz s t x y)) ∧ Below w.heap.size w w' := by
  refine (compare_c s t x y w).mono ?_
  rintro e w' ⟨z, rfl, _, h, hb⟩
  exact ⟨by rw [h.out], hb⟩
theorem cz_ahead (s t : ByteArray) (x y : BitVec 64) : decide (0 ≤ cz s t x y) = !ahead s x t y := by
  unfold cz ahead
  by_cases h1 : x.toNat < y.toNat
  · simp [h1]
  · by_cases h2 : y.toNat < x.toNat
    · have : ¬ x.toNat = y.toNat := by omega
      simp [h1, h2, this]
    · have : x.toNat = y.toNat := by omega
      cases lS s t
      · simp [this]; split <;> simp
      · simp [this]
end Go.Proofs.YtheeogbmljjbdaaGreatDoor
namespace Go.Proofs.YtheeogbmljjbdaaGreatDoor
set_option linter.unusedVariables false
open Go.ChangeShapes Go.WideShapes Go.ChangeAt Go.RowKit Go.Deep
set_option maxHeartbeats 2000000 in
set_option maxRecDepth 100000 in
/-- compareNames, and that it makes blocks alone. -/
theorem compare_g (s t : ByteArray) (x y : BitVec 64) (w : World) :
    Calls Tryz.prog 45 #[.agg #[.string s, .int .u64 (n64 x)], .agg #[.string t, .int .u64 (n64 y)]] w fun e w' => e = .returned (.int .i64 (cz s t x y)) ∧ ∃ q os', w' = Go.Sort.grow (w.drewN q) os' := by
  obtain ⟨a, ha⟩ : ∃ a : Int, a = if x.toNat < y.toNat then -1 else if y.toNat < x.toNat then 1 else 0 := ⟨_, rfl⟩
  obtain ⟨b, hb⟩ : ∃ b : Int, b = if lS s t then -1 else if s.toList == t.toList then 0 else 1 := ⟨_, rfl⟩
  obtain ⟨z, hz⟩ : ∃ z : Int, z = if a = 0 then b else a := ⟨_, rfl⟩
  have HA : Hid (a = if x.toNat < y.toNat then -1 else if y.toNat < x.toNat then 1 else 0) := ha
  have HB : Hid (b = if lS s t then -1 else if s.toList == t.toList then 0 else 1) := hb
  have HZ : Hid (z = if a = 0 then b else a) := hz
  have HZC : Hid (z = cz s t x y) := by unfold Hid cz; rw [hz, ha, hb]
  clear ha hb hz
  go_enter Tryz.func45, Tryz.ntmps45
  go_wp2_with fail
  have k0 : ((w.alloc (.cells #[.string s, .int .u64 (n64 x)] 87)).alloc (.cells #[.string t, .int .u64 (n64 y)] 87)).cell? ⟨w.heap.size, 0, none⟩ = some (.string s) := by rw [alloc2_0]; rfl
  have k1 : ((w.alloc (.cells #[.string s, .int .u64 (n64 x)] 87)).alloc (.cells #[.string t, .int .u64 (n64 y)] 87)).cell? ⟨w.heap.size, 1, none⟩ = some (.int .u64 (n64 x)) := by rw [alloc2_0]; rfl
  have k2 : ((w.alloc (.cells #[.string s, .int .u64 (n64 x)] 87)).alloc (.cells #[.string t, .int .u64 (n64 y)] 87)).cell? ⟨w.heap.size + 1, 0, none⟩ = some (.string t) := by rw [alloc2_1]; rfl
  have k3 : ((w.alloc (.cells #[.string s, .int .u64 (n64 x)] 87)).alloc (.cells #[.string t, .int .u64 (n64 y)] 87)).cell? ⟨w.heap.size + 1, 1, none⟩ = some (.int .u64 (n64 y)) := by rw [alloc2_1]; rfl
  have HG2 : Hid (∃ os : Array Obj, (w.alloc (.cells #[.string s, .int .u64 (n64 x)] 87)).alloc (.cells #[.string t, .int .u64 (n64 y)] 87) = Go.Sort.grow w os) := ⟨_, by rw [Go.Sort.alloc_eq_grow, Go.Sort.alloc_eq_grow, Go.Sort.grow_grow]⟩
  generalize (w.alloc (.cells #[.string s, .int .u64 (n64 x)] 87)).alloc (.cells #[.string t, .int .u64 (n64 y)] 87) = W2 at *
  refine wp_region_still_tail 10 (by kernel_rfl) (by kernel_rfl) ?_
  change wpStill _ _ W2.drew (fun a' => wpList _ _ _ _ a' W2.drew) _ _
  simp only [List.take_succ_cons, List.take_zero, List.drop_succ_cons, List.drop_zero]
  still_step
  still_step
  still_step
  still_step
  still_call (cmpU_c x y _ a HA)
  still_step
  still_step
  still_step
  still_step
  still_call (cmpS_c s t _ b HB)
  refine wpStill_nil ?_
  go_wp2_with (go_at_call 74; refine (or_c W2.heap.size a b z HZ _ (by simp) (by simp)).mono ?_; rintro e w' ⟨rfl, hw⟩; rw [hw])
  go_ret
  refine ⟨by rw [← HZC.out]; rfl, ?_⟩
  obtain ⟨os, ho⟩ := HG2.out
  rw [ho]
  exact ⟨1, _, by rw [Go.Sort.alloc_eq_grow, Go.Sort.grow_grow]; rfl⟩
theorem lS_lt (s t : ByteArray) : lS s t = decide (s.toList < t.toList) := bytesLess_eq _ _
/-- A name comes ahead of another. -/
def ahS (x y : Sy) : Bool := ahead x.s x.v y.s y.v
theorem ahS_iff (x y : Sy) : ahS x y = true ↔ x.v.toNat < y.v.toNat ∨ (x.v.toNat = y.v.toNat ∧ x.s.toList < y.s.toList) := by
  unfold ahS ahead; rw [lS_lt]; simp
theorem lt_nm (x y : Sy) : ltOf (fun x y : Sy => cz x.s y.s x.v y.v) x y = ahS x y := by
  have q := cz_ahead x.s y.s x.v y.v
  unfold ltOf ahS
  cases h : ahead x.s x.v y.s y.v
  · rw [h] at q; simp at q; simp; omega
  · rw [h] at q; simp at q; simp; omega
theorem ahS_no {x y : Sy} : ahS x y = false ↔ y.v.toNat < x.v.toNat ∨ (x.v.toNat = y.v.toNat ∧ ¬ x.s.toList < y.s.toList) := by
  rw [Bool.eq_false_iff, Ne, ahS_iff]
  constructor
  · intro h
    rcases Nat.lt_trichotomy x.v.toNat y.v.toNat with q | q | q
    · exact absurd (.inl q) h
    · exact .inr ⟨q, fun r => h (.inr ⟨q, r⟩)⟩
    · exact .inl q
  · rintro (q | ⟨q, r⟩) (h | ⟨h, g⟩)
    · omega
    · omega
    · omega
    · exact r g
theorem swo_nm : Go.Sort.SWO (ltOf fun x y : Sy => cz x.s y.s x.v y.v) := by
  refine ⟨fun x => ?_, fun x y z h1 h2 => ?_, fun x y z h1 h2 => ?_⟩
  · rw [lt_nm, ahS_no]; exact .inr ⟨rfl, List.lt_irrefl _⟩
  · rw [lt_nm, ahS_iff] at *
    rcases h1 with h1 | ⟨h1, g1⟩ <;> rcases h2 with h2 | ⟨h2, g2⟩
    · left; omega
    · left; omega
    · left; omega
    · exact .inr ⟨by omega, List.lt_trans g1 g2⟩
  · rw [lt_nm, ahS_no] at *
    rcases h1 with h1 | ⟨h1, g1⟩ <;> rcases h2 with h2 | ⟨h2, g2⟩
    · left; omega
    · left; omega
    · left; omega
    · refine .inr ⟨by omega, ?_⟩
      rw [List.not_lt] at *; exact List.le_trans g2 g1
set_option maxHeartbeats 1000000 in
theorem sortN_c (w : World) (B : Nat) (v : Value) (L : List Sy) (hown : w.ownsRow B 87 2 v L.length (syl L)) (hB : B ≤ w.heap.size) (hl : L.length ≤ 400) :
    Calls Tryz.prog 105 #[v, .func (.func 45) #[] #[]] w fun e w' => e = .returned (.tuple #[]) ∧ ∃ L' : List Sy, L'.Perm L ∧ L'.Pairwise (fun x y => ahS y x = false) ∧ w'.ownsRow B 87 2 v L'.length (syl L') ∧ Below B w w' := by
  by_cases h0 : L = []
  · subst h0
    obtain ⟨p, cap, rfl⟩ : ∃ p cap, v = .slice p 0 cap := by
      rcases Go.Joins.ownsRow_forms hown with ⟨rfl, _⟩ | ⟨g, cap, rfl⟩
      · exact ⟨_, _, rfl⟩
      · exact ⟨_, _, rfl⟩
    have hcon := AnyF.slices_SortFunc_none { Tryz.sortSym with } p cap (.func (.func 45) #[] #[]) w
    change Calls Tryz.prog 105 _ _ _ at hcon
    refine hcon.mono ?_
    rintro e w' ⟨rfl, rfl⟩
    exact ⟨rfl, [], .nil, .nil, hown, Below.refl _ _⟩
  · have hne : 0 < L.length := List.length_pos_iff.2 h0
    obtain ⟨g, cap, rfl⟩ := Go.Joins.ownsRow_form hown hne
    haveI : Inhabited Sy := ⟨syz⟩
    obtain ⟨hH, hBg, hg⟩ := own_holdsK (enc := syv) (fun _ => rfl) hown rfl
    have eg : ∀ args w, (callFunc 45 args).run Tryz.prog w = .ok (.enter 45 args) w := enters_of Tryz.func45 (by kernel_rfl) rfl
    have hcon := AnyQ.slices_SortFunc Tryz.sortSym 2 (fun w => by kernel_rfl) (fun w => by kernel_rfl) syv (fun _ => rfl) (fun x u hu => by simp [syv] at hu; rcases hu with rfl | rfl <;> rfl) (fun x y : Sy => cz x.s y.s x.v y.v) swo_nm 45 #[] g 0 cap L.toArray w eg (fun _ _ _ _ x y => compare_g x.s y.s x.v y.v _) hH hg (by simp; omega)
    change Calls Tryz.prog 105 #[.slice (some ⟨g, 0, none⟩) L.length cap, .func (.func 45) #[] #[]] _ _ at hcon
    refine hcon.mono ?_
    rintro e w' ⟨rfl, d, n, os, hp, hs, rfl⟩
    obtain ⟨p1, p2⟩ := permIn_list hp
    have s1 := sortedIn_list p2 (by simpa using hs)
    refine ⟨rfl, d.toList, p1, s1.imp (fun {x y} q => by rw [← lt_nm]; exact q), ?_, below_sortWorldK hBg hB⟩
    have e1 : d.toList.length = L.length := by simpa using p2
    rw [e1]
    exact own_sortWorldK (enc := syv) (fun _ => rfl) hown p2
end Go.Proofs.YtheeogbmljjbdaaGreatDoor
namespace Go.Proofs.YtheeogbmljjbdaaGreatDoor
set_option linter.unusedVariables false
open Go.ChangeShapes Go.WideShapes Go.ChangeAt Go.RowKit Go.Deep
/-- Two names are one. -/
def eqS (x y : Sy) : Bool := x.s.toList == y.s.toList && n64 x.v == n64 y.v
theorem eq_sym : EqlAt Tryz.prog 87 (fun x : Sy => .agg (syv x).toArray) eqS := by
  refine ⟨fun x y w => ?_, GuardAt.agg _ (by kernel_rfl)⟩
  have u3 := Tryz.underlying9
  have a3 := Tryz.isAgg9
  have z3 := Tryz.sizeOf9
  have u4 := Tryz.underlying22
  have a4 := Tryz.isAgg22
  have z4 := Tryz.sizeOf22
  have hS : Tryz.prog.underlying 87 = some (.struct (Tryz.prog.fieldsOf 87)) := by kernel_rfl
  have hp : Tryz.prog.stoodInHeld 87 = false := by kernel_rfl
  simp only [syv, eqS]
  rw [run_eql_struct, show (10000 : Nat) = 9999 + 1 from rfl, run_equalIn_agg w 9999 87 _ _ hS hp]
  simp only [Program.fieldsOf, Tryz.underlying87]
  go_simp
  by_cases h1 : x.s.toList = y.s.toList <;> by_cases h2 : n64 x.v = n64 y.v <;> simp [h1, h2]
set_option maxHeartbeats 1000000 in
theorem index0_c (p : Option Addr) (c : Nat) (s : ByteArray) (v : Int) (w : World) :
    Calls Tryz.prog 118 #[.slice p 0 c, .agg #[.string s, .int .u64 v]] w fun e w' => e = .returned (.int .i64 (-1)) ∧ Below w.heap.size w w' := by
  have HB : Hid (Below w.heap.size w (w.alloc (.cells #[.string s, .int .u64 v] 87))) := (Below.refl _ _).alloc (Nat.le_refl _) _
  go_enter Tryz.func118, Tryz.ntmps118
  go_wp2
  refine wp_loop_rounds 1 ?_
  rw [rounds_succ]
  go_wp2
  go_ret
  exact ⟨rfl, HB.out⟩
set_option maxHeartbeats 1000000 in
theorem hasN_c (v : Value) (N : List Sy) (x : Sy) (w : World) (hs : Sys w v N) (hl : N.length ≤ 400) :
    Calls Tryz.prog 104 #[v, .agg #[.string x.s, .int .u64 (n64 x.v)]] w fun e w' => e = .returned (.bool (N.any (eqS x))) ∧ Below w.heap.size w w' := by
  obtain ⟨ad, cap, rfl, h1, h2⟩ := hs
  by_cases h0 : N = []
  · subst h0
    have HI := fun W => index0_c ad cap x.s (n64 x.v) W
    have HB : Hid (Below w.heap.size w (w.alloc (.cells #[.string x.s, .int .u64 (n64 x.v)] 87))) := (Below.refl _ _).alloc (Nat.le_refl _) _
    have hk0 : (w.alloc (.cells #[.string x.s, .int .u64 (n64 x.v)] 87)).cell? ⟨w.heap.size, 0, none⟩ = some (.string x.s) := by simp
    have hk1 : (w.alloc (.cells #[.string x.s, .int .u64 (n64 x.v)] 87)).cell? ⟨w.heap.size, 1, none⟩ = some (.int .u64 (n64 x.v)) := by simp
    change Calls Tryz.prog 104 #[.slice ad 0 cap, .agg #[.string x.s, .int .u64 (n64 x.v)]] w fun e w' => e = .returned (.bool false) ∧ Below w.heap.size w w'
    go_enter Tryz.func104, Tryz.ntmps104
    go_wp2_with (go_at_call 118; refine (HI _).mono ?_; rintro e w2 ⟨rfl, hb⟩; have HB2 : Hid (Below w.heap.size w w2) := HB.out.trans (hb.mono HB.out.size); clear hb)
    go_ret
    exact ⟨rfl, HB2.out⟩
  · obtain ⟨g, off, rfl, hg, hc⟩ := h2 h0
    haveI : Inhabited Sy := ⟨syz⟩
    have hcon := AnyQ.slices_Contains Tryz.hasSym 2 (fun w => by kernel_rfl) (fun w => by kernel_rfl) syv (fun _ => rfl) eqS eq_sym g off N.length cap N x w (Nat.le_refl _) (by omega) (fun j hj i u hu => by
      obtain ⟨c0, c1⟩ := hc j hj
      have e : N[j]! = sy N j := by unfold sy; simp [hj]
      rw [e] at hu
      match i, hu with
      | 0, hu => rw [Nat.add_zero, c0]; exact hu
      | 1, hu => rw [c1]; exact hu
      | i + 2, hu => simp [syv] at hu)
    rw [List.take_length] at hcon
    exact hcon
end Go.Proofs.YtheeogbmljjbdaaGreatDoor
