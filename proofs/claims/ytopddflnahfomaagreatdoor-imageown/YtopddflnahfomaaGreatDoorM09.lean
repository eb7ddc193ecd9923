/-
  Irq Irt Mem Itx.
-/
import Derived.Test.YtopddflnahfomaaGreatDoorM08
import Derived.Test.YtopddflnahfomaaGreatDoorM07
import Derived.Shelf.SlSortCmp.NoneTotal
import Derived.Test.YtopddflnahfomaaGreatDoorM01
import Derived.Test.YtopddflnahfomaaGreatDoorM02
namespace Go.Proofs.YtopddflnahfomaaGreatDoor
set_option linter.unusedVariables false
open Go.ChangeShapes Go.WideShapes Go.ChangeAt Go.RowKit Go.Deep
/-- Where the first byte 0 stands, or -1. -/
def fz (xs : List Int) : Int := Lib.indexByte (Lib.bytesOf xs) 0
theorem fz_room (xs : List Int) (h : 0 ≤ fz xs) : fz xs + 1 ≤ xs.length := by
  unfold fz at *
  rw [← Lib.index_one] at h ⊢
  have q := Lib.index_room _ _ h
  rw [Lib.bytesOf_length] at q
  simpa using q
theorem cutZ_c (g o n c g2 : Nat) (xs : List Int) (w : World) (hx : xs.length = n) (hcap : n ≤ c) (hn : n ≤ 200000) (hc : ∀ i, i < n → w.cell? ⟨g, o + i, none⟩ = some (.int .u8 (xs.getD i 0))) (h2 : w.cell? ⟨g2, 0, none⟩ = some (.int .u8 0)) :
    Calls Tryz.prog 89 #[.slice (some ⟨g, o, none⟩) n c, .slice (some ⟨g2, 0, none⟩) 1 1] w fun e w' => e = .returned (Lib.cutV (some ⟨g, o, none⟩) n c 1 (fz xs)) ∧ ∃ q, w' = w.drewN q := by
  have hi := Any.bytes_Index_one Tryz.laysCutB.index g o n c g2 0 1 xs 0 w hx hc h2
  have hcon := Any.bytes_Cut_of Tryz.laysCutB (some ⟨g, o, none⟩) (some ⟨g2, 0, none⟩) n c 1 1 (fz xs) w hcap (Lib.indexByte_ge _ _) (fun h => by have := fz_room xs h; rw [hx] at this; exact this) (by omega) (hi.mono fun e w' h => ⟨h.1, 0, h.2⟩)
  exact hcon
/-- .. found: the text ahead of it. -/
theorem cutZ_t (g o n c g2 i : Nat) (xs : List Int) (hi : fz xs = i) (w : World) (hx : xs.length = n) (hcap : n ≤ c) (hn : n ≤ 200000) (hc : ∀ i, i < n → w.cell? ⟨g, o + i, none⟩ = some (.int .u8 (xs.getD i 0))) (h2 : w.cell? ⟨g2, 0, none⟩ = some (.int .u8 0)) :
    Calls Tryz.prog 89 #[.slice (some ⟨g, o, none⟩) n c, .slice (some ⟨g2, 0, none⟩) 1 1] w fun e w' => (∃ r, e = .returned (.tuple #[.slice (some ⟨g, o, none⟩) i c, r, .bool true])) ∧ ∃ q, w' = w.drewN q :=
  (cutZ_c g o n c g2 xs w hx hcap hn hc h2).mono fun e w' h => ⟨⟨Lib.fromV (some ⟨g, o, none⟩) n c ((i : Int).toNat + 1), by rw [h.1, hi]; unfold Lib.cutV; rw [if_pos (by omega)]; rfl⟩, h.2⟩
/-- .. not found. -/
theorem cutZ_f (g o n c g2 : Nat) (xs : List Int) (hi : fz xs < 0) (w : World) (hx : xs.length = n) (hcap : n ≤ c) (hn : n ≤ 200000) (hc : ∀ i, i < n → w.cell? ⟨g, o + i, none⟩ = some (.int .u8 (xs.getD i 0))) (h2 : w.cell? ⟨g2, 0, none⟩ = some (.int .u8 0)) :
    Calls Tryz.prog 89 #[.slice (some ⟨g, o, none⟩) n c, .slice (some ⟨g2, 0, none⟩) 1 1] w fun e w' => e = .returned (.tuple #[.slice (some ⟨g, o, none⟩) n c, .slice none 0 0, .bool false]) ∧ ∃ q, w' = w.drewN q :=
  (cutZ_c g o n c g2 xs w hx hcap hn hc h2).mono fun e w' h => ⟨by rw [h.1]; unfold Lib.cutV; rw [if_neg (by omega)], h.2⟩
end Go.Proofs.YtopddflnahfomaaGreatDoor
namespace Go.Proofs.YtopddflnahfomaaGreatDoor
set_option linter.unusedVariables false
open Go.ChangeShapes Go.WideShapes Go.ChangeAt Go.RowKit Go.Deep
section
open Go.Sort
theorem fm_len {α : Type} (enc : α → List Value) (k : Nat) (hk : ∀ x, (enc x).length = k) : ∀ L : List α, (L.flatMap enc).length = L.length * k
  | [] => by simp
  | x :: L => by rw [List.flatMap_cons, List.length_append, hk, fm_len enc k hk L, List.length_cons, Nat.add_mul]; omega
theorem fm_get {α : Type} [Inhabited α] (enc : α → List Value) (k : Nat) (hk : ∀ x, (enc x).length = k) : ∀ (L : List α) (j c : Nat), j < L.length → c < k → (L.flatMap enc)[j * k + c]? = (enc L.toArray[j]!)[c]?
  | [], j, c, h, _ => by simp at h
  | x :: L, 0, c, _, hc => by rw [List.flatMap_cons, Nat.zero_mul, Nat.zero_add, List.getElem?_append_left (by rw [hk]; exact hc)]; simp
  | x :: L, j + 1, c, hj, hc => by
    have ih := fm_get enc k hk L j c (by simpa using hj) hc
    rw [List.flatMap_cons, List.getElem?_append_right (by rw [hk, Nat.add_mul]; omega), hk, show (j + 1) * k + c - k = j * k + c by rw [Nat.add_mul]; omega, ih]
    have hj' : j < L.length := by simpa using hj
    simp [hj']
/-- The row's cells, flat, are the elements' cells one behind the other. -/
theorem flat_fm {α : Type} [Inhabited α] (enc : α → List Value) (k : Nat) (hk : ∀ x, (enc x).length = k) (d : Array α) (t : Nat) (h : t < d.size * k) : (d.toList.flatMap enc)[t]? = some (flatK enc k d)[t]! := by
  have k0 : 0 < k := by rcases Nat.eq_zero_or_pos k with h' | h'; · subst h'; simp at h
                        · exact h'
  have h1 : t / k < d.size := (Nat.div_lt_iff_lt_mul k0).2 h
  have h2 : t % k < k := Nat.mod_lt _ k0
  have e := fm_get enc k hk d.toList (t / k) (t % k) (by simpa using h1) h2
  rw [show t / k * k + t % k = t by rw [Nat.mul_comm]; exact Nat.div_add_mod t k] at e
  rw [e, get_flatK enc k d t h]
  generalize hx : d.toList.toArray[t / k]! = x
  rw [List.getElem?_eq_getElem (by rw [hk]; exact h2), getElem!_pos (enc x) (t % k) (by rw [hk]; exact h2)]
/-- DOWN: a row of elements of k cells that the call owns. -/
theorem own_holdsK {α : Type} [Inhabited α] {enc : α → List Value} {k : Nat} (hk : ∀ x, (enc x).length = k) {w : World} {B e g n cap : Nat} {L : List α} (h : w.ownsRow B e k (.slice (some ⟨g, 0, none⟩) n cap) n (L.flatMap enc)) (hn : L.length = n) : HoldsK enc k w g 0 L.toArray ∧ B ≤ g ∧ g < w.heap.size := by
  rcases h.2 with ⟨e0, _⟩ | ⟨g', cap', cur, e0, hb, hg, h1, hm, hs, ht⟩
  · cases e0
  · injection e0 with e1 _ e3
    injection e1 with e1
    injection e1 with e1
    subst e1; subst e3
    have hlt : g < w.heap.size := by
      rcases Nat.lt_or_ge g w.heap.size with h' | h'
      · exact h'
      · rw [Array.getElem?_eq_none h'] at hg; cases hg
    refine ⟨fun j hj => ?_, hb, hlt⟩
    have hj' : j < L.toArray.size * k := by simpa using hj
    have hj2 : j < n * k := by simpa [hn] using hj'
    have q := flat_fm enc k hk L.toArray j hj'
    refine ⟨?_, by simp [World.frozen?, hg]⟩
    have e1 : (cur.toList.take (n * k))[j]? = (L.flatMap enc)[j]? := by rw [ht]
    rw [List.getElem?_take, if_pos hj2, Array.getElem?_toList] at e1
    simp only [World.cell?, hg, Nat.zero_add, Option.isSome_none, Bool.false_eq_true, if_false]
    rw [e1]; exact q
/-- UP: behind the sort. -/
theorem own_sortWorldK {α : Type} [Inhabited α] {enc : α → List Value} {k : Nat} (hk : ∀ x, (enc x).length = k) {w : World} {B e g n cap m : Nat} {xs : List Value} {d : Array α} {os : Array Obj} (h : w.ownsRow B e k (.slice (some ⟨g, 0, none⟩) n cap) n xs) (hn : d.size = n) : (sortWorldK enc k w g 0 m d os).ownsRow B e k (.slice (some ⟨g, 0, none⟩) n cap) n (d.toList.flatMap enc) := by
  rcases h.2 with ⟨e0, _⟩ | ⟨g', cap', cur, e0, hb, hg, h1, hm, hs, ht⟩
  · cases e0
  · injection e0 with e1 _ e3
    injection e1 with e1
    injection e1 with e1
    subst e1; subst e3
    have hlt : g < w.heap.size := by
      rcases Nat.lt_or_ge g w.heap.size with h' | h'
      · exact h'
      · rw [Array.getElem?_eq_none h'] at hg; cases hg
    have hc : n * k ≤ cur.size := by rw [hs]; exact Nat.mul_le_mul_right _ h1
    refine ⟨by rw [fm_len enc k hk]; simp [hn], .inr ⟨g, cap, putCells id 0 (flatK enc k d) cur, rfl, hb, ?_, h1, hm, by simpa [putCells] using hs, ?_⟩⟩
    · have hq : (w.heap.modify g (onCells (putCells id 0 (flatK enc k d))))[g]? = some (Obj.cells (putCells id 0 (flatK enc k d) cur) e (0, 0)) := by rw [Array.getElem?_modify, if_pos rfl, hg]; rfl
      show (w.heap.modify g (onCells (putCells id 0 (flatK enc k d))) ++ os)[g]? = _
      rw [Array.getElem?_append_left (by simpa using hlt)]; exact hq
    · apply List.ext_getElem?
      intro j
      rw [List.getElem?_take, Array.getElem?_toList]
      by_cases hj : j < n * k
      · have hjc : j < cur.size := by omega
        rw [if_pos hj, flat_fm enc k hk d j (by rw [hn]; exact hj)]
        simp only [putCells, Array.getElem?_mapIdx, Array.getElem?_eq_getElem hjc, Option.map_some]
        rw [if_pos (by rw [size_flatK, hn]; omega)]
        simp
      · rw [if_neg hj, List.getElem?_eq_none (by rw [fm_len enc k hk]; simp [hn]; omega)]
theorem below_sortWorldK {α : Type} [Inhabited α] {enc : α → List Value} {k B m g : Nat} {w : World} {d : Array α} {os : Array Obj} (hg : B ≤ g) (hB : B ≤ w.heap.size) : Go.RowKit.Below B w (sortWorldK enc k w g 0 m d os) :=
  ⟨rfl, rfl, rfl, by simp [sortWorldK, grow, putRowK, putRow, mapBlock, Sort.ahead], fun j hj => by
    show (w.heap.modify g (onCells (putCells id 0 (flatK enc k d))) ++ os)[j]? = _
    rw [Array.getElem?_append_left (by simp; omega), Array.getElem?_modify, if_neg (by omega)]⟩
theorem sortWorldK_other {α : Type} [Inhabited α] {enc : α → List Value} {k m g j : Nat} {w : World} {d : Array α} {os : Array Obj} (hg : j ≠ g) (hj : j < w.heap.size) : (sortWorldK enc k w g 0 m d os).heap[j]? = w.heap[j]? := by
  show (w.heap.modify g (onCells (putCells id 0 (flatK enc k d))) ++ os)[j]? = _
  rw [Array.getElem?_append_left (by simp; omega), Array.getElem?_modify, if_neg (by omega)]
/-- A permutation in words of lists; sorted likewise. -/
theorem permIn_list {α : Type} [Inhabited α] {L : List α} {d : Array α} (h : PermIn 0 L.toArray.size L.toArray d) : d.toList.Perm L ∧ d.size = L.length := by
  obtain ⟨h1, _, h3⟩ := h
  have e1 : d.size = L.length := by simpa using h1
  refine ⟨?_, e1⟩
  have e2 : d.extract 0 L.toArray.size = d := by simp [← e1]
  rw [e2] at h3
  simpa using h3
theorem sortedIn_list {α : Type} [Inhabited α] {lt : α → α → Bool} {d : Array α} {n : Nat} (hn : d.size = n) (h : SortedIn lt 0 n d) : d.toList.Pairwise (fun x y => lt y x = false) := by
  rw [List.pairwise_iff_getElem]
  intro i j hi hj hij
  have q := h i j (Nat.zero_le _) hij (by simpa [hn] using hj)
  rw [getElem!_pos d j (by simpa using hj), getElem!_pos d i (by simpa using hi)] at q
  simpa using q
end
/-- Rows of bytes stay. -/
def KeepU (w w' : World) : Prop := ∀ (k : Nat) (c : Array Value), w.heap[k]? = some (.cells c 5 (0, 0)) → w'.heap[k]? = some (.cells c 5 (0, 0))
theorem KeepU.refl (w : World) : KeepU w w := fun _ _ h => h
theorem KeepU.trans {a b c : World} (h : KeepU a b) (g : KeepU b c) : KeepU a c := fun k x e => g k x (h k x e)
theorem heap_lt {w : World} {k : Nat} {o : Obj} (h : w.heap[k]? = some o) : k < w.heap.size := by
  rcases Nat.lt_or_ge k w.heap.size with h' | h'
  · exact h'
  · rw [Array.getElem?_eq_none h'] at h; cases h
theorem KeepU.below {w w' : World} (h : Below w.heap.size w w') : KeepU w w' := fun k c e => by rw [h.block k (heap_lt e)]; exact e
theorem KeepU.own {w w' : World} (h : KeepU w w') {B n : Nat} {v : Value} {xs : List Value} (ho : w.ownsRow B 5 1 v n xs) : w'.ownsRow B 5 1 v n xs := by
  refine ⟨ho.1, ?_⟩
  rcases ho.2 with h' | ⟨g, cap, cur, rfl, h1, h2, h3⟩
  · exact .inl h'
  · exact .inr ⟨g, cap, cur, rfl, h1, h _ _ h2, h3⟩
theorem own_block {w : World} {B e size n g : Nat} {v : Value} {xs : List Value} (h : w.ownsRow B e size v n xs) (hg : v.ownBlock = some g) : ∃ c, w.heap[g]? = some (.cells c e (0, 0)) := by
  rcases h.2 with ⟨rfl, _⟩ | ⟨g', cap, cur, rfl, _, h2, _⟩
  · simp [Value.ownBlock] at hg
  · simp only [Value.ownBlock, Option.some.injEq] at hg; subst hg; exact ⟨_, h2⟩
theorem KeepU.grown {w w' : World} {B size n : Nat} {v : Value} {xs : List Value} (ho : w.ownsRow B 42 size v n xs) (hg : w.grownBy w' v.ownBlock) : KeepU w w' := fun k c e => by
  rw [hg.block k (heap_lt e) (fun q => ?_)]
  · exact e
  · obtain ⟨c', e'⟩ := own_block ho q.symm
    rw [e] at e'
    simp only [Option.some.injEq, Obj.cells.injEq] at e'
    exact absurd e'.2.1 (by decide)
theorem KeepU.other {w w' : World} {B size n g cap : Nat} {xs : List Value} (ho : w.ownsRow B 42 size (.slice (some ⟨g, 0, none⟩) n cap) n xs) (hg : ∀ j, j ≠ g → j < w.heap.size → w'.heap[j]? = w.heap[j]?) : KeepU w w' := fun k c e => by
  rw [hg k (fun q => ?_) (heap_lt e)]
  · exact e
  · obtain ⟨c', e'⟩ := own_block ho (show (Value.slice (some ⟨g, 0, none⟩) n cap).ownBlock = some g from rfl)
    rw [q, e'] at e
    simp only [Option.some.injEq, Obj.cells.injEq] at e
    exact absurd e.2.1 (by decide)
/-- One part appended to a row of the call's own. -/
theorem appR {ops : Array Oper} {rest : List Oper} {o : Oper} {a : Act} {w : World} {Q : Exit → Act → World → Prop} (hgd : o.guard = none) (s x : Operand) (ho : o.op = .call { callee := .builtin .append, args := #[s, x], argTypes := #[23, 23] })
    (B : Nat) (v : Value) (L : List Sg) (y : Sg) (hs : a.eval s = v) (hown : w.ownsRow B 42 4 v L.length (sgl L))
    (h0 : Nat) (hx : a.eval x = .slice (some ⟨h0, 0, none⟩) 1 1) (hy : w.heap[h0]? = some (.cells #[.int .u64 (n64 y.a), .int .u64 (n64 y.s), .int .i64 y.f, .slice y.m y.n y.c] 42 (0, 0))) (hl : (L.length + 1) * 48 ≤ 140737488355328) (hB : B ≤ w.heap.size)
    (h : ∀ v' w', w'.ownsRow B 42 4 v' (L ++ [y]).length (sgl (L ++ [y])) → Below B w w' → KeepU w w' → wpList Tryz.prog ops Q rest (a.put o.dst v') w') :
    wpList Tryz.prog ops Q (o :: rest) a w := by
  obtain ⟨i0, hi, hz0, hz1, hz2⟩ := info_parts info41
  refine wpList_append_own _ hgd s x 23 ho B 42 i0 (.agg #[.int .u64 0, .int .u64 0, .int .i64 0, .slice none 0 0]) 4 48 Tryz.underlying23 hi hz0 hz1 hz2 rfl (by decide) v L.length (sgl L) hs hown ⟨h0, 0, none⟩ 1 1 (sgv y) hx rfl ?_ ?_ (by unfold maxLen; omega) (by omega) hB ?_
  · intro j u hj
    have hj4 : j < 4 := by have := (List.getElem?_eq_some_iff.1 hj).1; simpa [sgv] using this
    rw [addAt, Nat.zero_add, cell_of_row w h0 j _ _ _ hy]
    match j, hj4, hj with
    | 0, _, hj => exact hj
    | 1, _, hj => exact hj
    | 2, _, hj => exact hj
    | 3, _, hj => exact hj
  · intro u hu; simp [sgv] at hu; rcases hu with rfl | rfl | rfl | rfl <;> rfl
  · intro v' w' h1 h2 _
    have hbl : Below B w w' := (Below.refl _ _).grown h2 hB (fun k hk => (hown.lt k hk).1)
    exact h v' w' (by rw [sgl_snoc, List.length_append]; exact h1) hbl (KeepU.grown hown h2)
/-- A part in memory is a part of the file. -/
def SgPt (b : List Int) (B : Nat) (w : World) (x : Sg) (p : Pt) : Prop :=
  x.a = BitVec.ofNat 64 p.a ∧ x.s = BitVec.ofNat 64 p.s ∧ x.f = (p.f : Int) ∧ w.ownsRow B 5 1 (.slice x.m x.n x.c) p.n (bv ((b.drop p.p).take p.n))
theorem SgPt.keep {b : List Int} {B : Nat} {w w' : World} {x : Sg} {p : Pt} (h : SgPt b B w x p) (k : KeepU w w') : SgPt b B w' x p := ⟨h.1, h.2.1, h.2.2.1, k.own h.2.2.2⟩
/-- Two parts whose bytes lie in different blocks. -/
def Apx (x y : Sg) : Prop := ∀ g, (Value.slice x.m x.n x.c).ownBlock = some g → (Value.slice y.m y.n y.c).ownBlock ≠ some g
theorem Apx.symm {x y : Sg} (h : Apx x y) : Apx y x := fun g e1 e2 => h g e2 e1
/-- Parts in memory, one for each of the file's. -/
inductive Dts (b : List Int) (B : Nat) (w : World) : List Sg → List Pt → Prop
  | nil : Dts b B w [] []
  | cons {x : Sg} {p : Pt} {L : List Sg} {l : List Pt} : SgPt b B w x p → Dts b B w L l → (∀ y ∈ L, Apx x y) → Dts b B w (x :: L) (p :: l)
theorem Dts.keep {b : List Int} {B : Nat} {w w' : World} {L : List Sg} {l : List Pt} (h : Dts b B w L l) (k : KeepU w w') : Dts b B w' L l := by
  induction h with
  | nil => exact .nil
  | cons h1 _ ha ih => exact .cons (h1.keep k) ih ha
theorem Dts.snoc {b : List Int} {B : Nat} {w : World} {L : List Sg} {l : List Pt} {x : Sg} {p : Pt} (h : Dts b B w L l) (h1 : SgPt b B w x p) (hx : ∀ y ∈ L, Apx y x) : Dts b B w (L ++ [x]) (l ++ [p]) := by
  induction h with
  | nil => exact .cons h1 .nil (fun y hy => by cases hy)
  | cons h2 _ ha ih => exact .cons h2 (ih (fun y hy => hx y (List.mem_cons_of_mem _ hy))) (fun y hy => (List.mem_append.1 hy).elim (ha y) (fun e => by rw [List.mem_singleton.1 e]; exact hx _ List.mem_cons_self))
theorem Dts.len {b : List Int} {B : Nat} {w : World} {L : List Sg} {l : List Pt} (h : Dts b B w L l) : L.length = l.length := by
  induction h with
  | nil => rfl
  | cons _ _ _ ih => simp [ih]
/-- A permutation of the one goes with a permutation of the other. -/
theorem Dts.perm {b : List Int} {B : Nat} {w : World} {L L' : List Sg} (hp : L'.Perm L) : ∀ {l : List Pt}, Dts b B w L l → ∃ l', l'.Perm l ∧ Dts b B w L' l' := by
  induction hp with
  | nil => intro l h; cases h; exact ⟨[], .nil, .nil⟩
  | cons x hq ih =>
    intro l h
    cases h with
    | cons h1 h2 h3 => obtain ⟨l', q, d⟩ := ih h2; exact ⟨_ :: l', q.cons _, .cons h1 d (fun y hy => h3 y (hq.mem_iff.1 hy))⟩
  | swap x y L =>
    intro l h
    cases h with
    | cons h1 h2 a1 =>
      cases h2 with
      | cons h3 h4 a3 => exact ⟨_, .swap _ _ _, .cons h3 (.cons h1 h4 (fun z hz => a1 z (List.mem_cons_of_mem _ hz))) (fun z hz => (List.mem_cons.1 hz).elim (fun e => by rw [e]; exact (a1 _ List.mem_cons_self).symm) (a3 z))⟩
  | trans _ _ ih1 ih2 =>
    intro l h
    obtain ⟨l1, q1, d1⟩ := ih2 h
    obtain ⟨l2, q2, d2⟩ := ih1 d1
    exact ⟨l2, q2.trans q1, d2⟩
theorem Dts.fresh {b : List Int} {B : Nat} {w : World} {L : List Sg} {l : List Pt} (h : Dts b B w L l) {w' : World} {n : Nat} {x : Sg} {xs : List Value} (ho : w'.ownsRow w.heap.size 5 1 (.slice x.m x.n x.c) n xs) : ∀ y ∈ L, Apx y x := by
  induction h with
  | nil => intro y hy; cases hy
  | cons h1 _ _ ih =>
    intro y hy
    rcases List.mem_cons.1 hy with rfl | hy
    · intro g e1 e2
      have q1 := (h1.2.2.2.lt g e1).2
      have q2 := (ho.lt g e2).1
      omega
    · exact ih y hy
theorem Dts.apx {b : List Int} {B : Nat} {w : World} {L : List Sg} {l : List Pt} (h : Dts b B w L l) : L.Pairwise Apx := by
  induction h with
  | nil => exact .nil
  | cons _ _ ha ih => exact .cons ha ih
/-- What part asks of the parts ahead, as prL says it. -/
theorem any_mt {b : List Int} {B : Nat} {w : World} {L : List Sg} {l : List Pt} (h : Dts b B w L l) (p : Pt) : (l.any (mtB p) = true) ↔ ∃ j, j < L.length ∧ meetB (BitVec.ofNat 64 p.a) (BitVec.ofNat 64 p.s) (sg L j).a (sg L j).s = true := by
  induction h with
  | nil => simp
  | @cons x q L l h1 _ _ ih =>
    rw [List.any_cons, Bool.or_eq_true, ih]
    constructor
    · rintro (e | ⟨j, hj, e⟩)
      · refine ⟨0, by simp, ?_⟩
        show meetB _ _ x.a x.s = true
        rw [h1.1, h1.2.1]; exact e
      · exact ⟨j + 1, by simpa using hj, e⟩
    · rintro ⟨j, hj, e⟩
      cases j with
      | zero =>
        have e' : meetB (BitVec.ofNat 64 p.a) (BitVec.ofNat 64 p.s) x.a x.s = true := e
        rw [h1.1, h1.2.1] at e'
        exact .inl e'
      | succ j => exact .inr ⟨j, by simpa using hj, e⟩
end Go.Proofs.YtopddflnahfomaaGreatDoor
namespace Go.Proofs.YtopddflnahfomaaGreatDoor
open Go.ChangeShapes Go.WideShapes Go.ChangeAt Go.RowKit
theorem alloc2_0 (w : World) (A B : Array Value) (ta tb : TypeId) (i : Nat) : ((w.alloc (.cells A ta)).alloc (.cells B tb)).cell? ⟨w.heap.size, i, none⟩ = A[i]? := by
  rw [World.cell?_alloc_past _ _ _ (by simp only [World.size_alloc]; omega), World.cell?_alloc_at _ _ _ _ rfl]
theorem alloc2_1 (w : World) (A B : Array Value) (ta tb : TypeId) (i : Nat) : ((w.alloc (.cells A ta)).alloc (.cells B tb)).cell? ⟨w.heap.size + 1, i, none⟩ = B[i]? := by
  rw [World.cell?_alloc_at _ _ _ _ (by simp only [World.size_alloc])]
theorem alloc3_0 (w : World) (A B C : Array Value) (ta tb tc : TypeId) (i : Nat) : (((w.alloc (.cells A ta)).alloc (.cells B tb)).alloc (.cells C tc)).cell? ⟨w.heap.size, i, none⟩ = A[i]? := by
  rw [World.cell?_alloc_past _ _ _ (by simp only [World.size_alloc]; omega), alloc2_0]
theorem alloc3_1 (w : World) (A B C : Array Value) (ta tb tc : TypeId) (i : Nat) : (((w.alloc (.cells A ta)).alloc (.cells B tb)).alloc (.cells C tc)).cell? ⟨w.heap.size + 1, i, none⟩ = B[i]? := by
  rw [World.cell?_alloc_past _ _ _ (by simp only [World.size_alloc]; omega), alloc2_1]
theorem alloc3_2 (w : World) (A B C : Array Value) (ta tb tc : TypeId) (i : Nat) : (((w.alloc (.cells A ta)).alloc (.cells B tb)).alloc (.cells C tc)).cell? ⟨w.heap.size + 1 + 1, i, none⟩ = C[i]? := by
  rw [World.cell?_alloc_at _ _ _ _ (by simp only [World.size_alloc])]
theorem alloc4_0 (w : World) (A B C D : Array Value) (ta tb tc td : TypeId) (i : Nat) : ((((w.alloc (.cells A ta)).alloc (.cells B tb)).alloc (.cells C tc)).alloc (.cells D td)).cell? ⟨w.heap.size, i, none⟩ = A[i]? := by
  rw [World.cell?_alloc_past _ _ _ (by simp only [World.size_alloc]; omega), alloc3_0]
theorem alloc4_1 (w : World) (A B C D : Array Value) (ta tb tc td : TypeId) (i : Nat) : ((((w.alloc (.cells A ta)).alloc (.cells B tb)).alloc (.cells C tc)).alloc (.cells D td)).cell? ⟨w.heap.size + 1, i, none⟩ = B[i]? := by
  rw [World.cell?_alloc_past _ _ _ (by simp only [World.size_alloc]; omega), alloc3_1]
theorem alloc4_2 (w : World) (A B C D : Array Value) (ta tb tc td : TypeId) (i : Nat) : ((((w.alloc (.cells A ta)).alloc (.cells B tb)).alloc (.cells C tc)).alloc (.cells D td)).cell? ⟨w.heap.size + 1 + 1, i, none⟩ = C[i]? := by
  rw [World.cell?_alloc_past _ _ _ (by simp only [World.size_alloc]; omega), alloc3_2]
theorem alloc4_3 (w : World) (A B C D : Array Value) (ta tb tc td : TypeId) (i : Nat) : ((((w.alloc (.cells A ta)).alloc (.cells B tb)).alloc (.cells C tc)).alloc (.cells D td)).cell? ⟨w.heap.size + 1 + 1 + 1, i, none⟩ = D[i]? := by
  rw [World.cell?_alloc_at _ _ _ _ (by simp only [World.size_alloc])]
end Go.Proofs.YtopddflnahfomaaGreatDoor
namespace Go.Proofs.YtopddflnahfomaaGreatDoor
set_option linter.unusedVariables false
open Go.ChangeShapes Go.WideShapes Go.ChangeAt Go.RowKit Go.Deep
/-- Parts that differ at most in where their bytes lie. -/
structure Alike (L M : List Sg) : Prop where
  len : M.length = L.length
  a : ∀ j, j < L.length → (sg M j).a = (sg L j).a
  s : ∀ j, j < L.length → (sg M j).s = (sg L j).s
  f : ∀ j, j < L.length → (sg M j).f = (sg L j).f
  n : ∀ j, j < L.length → (sg M j).n = (sg L j).n
/-- The cells of names, one behind the other. -/
def syv (x : Sy) : List Value := [.string x.s, .int .u64 (n64 x.v)]
def syl (N : List Sy) : List Value := N.flatMap syv
theorem syl_length (N : List Sy) : (syl N).length = N.length * 2 := by
  induction N with
  | nil => rfl
  | cons x N ih => simp only [syl, List.flatMap_cons, List.length_append, List.length_cons] at *; rw [ih]; simp [syv]; omega
theorem syl_get (N : List Sy) (j c : Nat) (hj : j < N.length) (hc : c < 2) : (syl N)[j * 2 + c]? = (syv (sy N j))[c]? := by
  induction N generalizing j with
  | nil => simp at hj
  | cons x N ih =>
    have e : syl (x :: N) = syv x ++ syl N := rfl
    rw [e]
    cases j with
    | zero => rw [Nat.zero_mul, Nat.zero_add, List.getElem?_append_left (by simp [syv]; exact hc)]; rfl
    | succ j =>
      rw [List.getElem?_append_right (by simp [syv]; omega), show (j + 1) * 2 + c - (syv x).length = j * 2 + c by simp [syv]; omega, ih j (by simpa using hj)]
      rfl
theorem Sys.of_own {w : World} {B : Nat} {v : Value} {N : List Sy} (h : w.ownsRow B 45 2 v N.length (syl N)) : Sys w v N := by
  rcases Go.Joins.ownsRow_forms h with ⟨rfl, h0⟩ | ⟨g, cap, rfl⟩
  · have hl0 : N = [] := List.eq_nil_of_length_eq_zero h0
    subst hl0
    exact ⟨none, 0, rfl, Nat.le_refl _, fun hn => absurd rfl hn⟩
  · have hcap : N.length ≤ cap := by
      rcases h.2 with ⟨h', _⟩ | ⟨g', cap', cur, h', _, _, hn, _⟩
      · simp at h'
      · simp only [Value.slice.injEq] at h'; obtain ⟨_, _, rfl⟩ := h'; exact hn
    refine ⟨_, cap, rfl, hcap, fun hn => ⟨g, 0, rfl, (h.lt g rfl).2, fun j hj => ?_⟩⟩
    have k : ∀ c, c < 2 → w.cell? ⟨g, j * 2 + c, none⟩ = (syv (sy N j))[c]? := fun c hc => by
      rw [h.cellAt (j * 2 + c) (by omega)]; exact syl_get N j c hj hc
    rw [Nat.zero_add]
    exact ⟨k 0 (by omega), k 1 (by omega)⟩
/-- Names appended to none. -/
theorem appN {ops : Array Oper} {rest : List Oper} {o : Oper} {a : Act} {w : World} {Q : Exit → Act → World → Prop} (hgd : o.guard = none) (s x : Operand) (ho : o.op = .call { callee := .builtin .append, args := #[s, x], argTypes := #[24, 24] })
    (u : Value) (N : List Sy) (hs : a.eval s = .slice none 0 0) (hx : a.eval x = u) (hu : Sys w u N) (hnil : Hid (∀ c k, u = .slice none k c → k = 0 ∧ c = 0)) (hl : N.length * 24 ≤ 140737488355328)
    (h : ∀ ad c' w', Below w.heap.size w w' → w'.ownsRow w.heap.size 45 2 (.slice ad N.length c') N.length (syl N) → wpList Tryz.prog ops Q rest (a.put o.dst (.slice ad N.length c')) w') :
    wpList Tryz.prog ops Q (o :: rest) a w := by
  obtain ⟨i0, hi, hz0, hz1, hz2⟩ := info_parts info51
  obtain ⟨ao, cap, rfl, h1, h2⟩ := hu
  cases ao with
  | none =>
    obtain ⟨hl0, hc0⟩ := hnil.out _ _ rfl
    have hN : N = [] := List.eq_nil_of_length_eq_zero hl0
    subst hN; subst hc0
    have hown := World.ownsRow_nil w w.heap.size 45 2
    refine wpList_append_own_none hgd s x 24 ho w.heap.size 45 i0 2 Tryz.underlying24 hi _ 0 [] hs hown hx ?_
    exact h _ _ _ (Below.refl _ _) hown
  | some ad =>
    refine wpList_append_own _ hgd s x 24 ho w.heap.size 45 i0 (.agg #[.string ⟨#[]⟩, .int .u64 0]) 2 24 Tryz.underlying24 hi hz0 hz1 hz2 rfl (by decide) _ 0 [] hs (World.ownsRow_nil _ _ _ _) ad N.length cap (syl N) hx (syl_length N) ?_ ?_ (by unfold maxLen; omega) (by omega) (Nat.le_refl _) ?_
    · intro j w2 hj
      have hjl : j < N.length * 2 := by have := (List.getElem?_eq_some_iff.1 hj).1; rw [syl_length] at this; exact this
      obtain ⟨g, off, he, h3, h4⟩ := h2 (by intro e; rw [e] at hjl; simp at hjl)
      cases he
      rw [addAt]
      obtain ⟨c0, c1⟩ := h4 (j / 2) (by omega)
      rcases Nat.mod_two_eq_zero_or_one j with hm | hm
      · have ej : j = j / 2 * 2 + 0 := by omega
        rw [ej, syl_get N (j / 2) 0 (by omega) (by omega)] at hj
        have hw2 : w2 = .string (sy N (j / 2)).s := (Option.some.inj hj).symm
        have eo : off + j = off + j / 2 * 2 := by omega
        rw [hw2, eo]; exact c0
      · have ej : j = j / 2 * 2 + 1 := by omega
        rw [ej, syl_get N (j / 2) 1 (by omega) (by omega)] at hj
        have hw2 : w2 = .int .u64 (n64 (sy N (j / 2)).v) := (Option.some.inj hj).symm
        have eo : off + j = off + j / 2 * 2 + 1 := by omega
        rw [hw2, eo]; exact c1
    · intro w2 hw2
      simp only [syl, List.mem_flatMap] at hw2
      obtain ⟨y, _, hy⟩ := hw2
      simp [syv] at hy
      rcases hy with rfl | rfl <;> rfl
    · intro v' w' g1 g2 _
      have hbl : Below w.heap.size w w' := (Below.refl _ _).grown g2 (Nat.le_refl _) (fun k hk => by cases hk)
      have g1' : w'.ownsRow w.heap.size 45 2 v' N.length (syl N) := by simpa using g1
      rcases Go.Joins.ownsRow_forms g1' with ⟨rfl, h0⟩ | ⟨g', c', rfl⟩
      · have := h none 0 w' hbl (by rw [h0] at g1' ⊢; exact g1')
        rw [h0] at this; exact this
      · exact h _ c' w' hbl g1'
/-- Where twin stands behind the first k parts. -/
structure TW (E : BitVec 64) (L : List Sg) (k Pb : Nat) (sv : Value) (w1 wr : World) : Prop where
  blk : wr.heap[Pb]? = some (.cells #[.int .u64 (n64 E), sv, .slice none 0 0] 26 (0, 0))
  own : ∃ M : List Sg, M.length = k ∧ (∀ j, j < k → (sg M j).a = (sg L j).a ∧ (sg M j).s = (sg L j).s ∧ (sg M j).f = (sg L j).f ∧ (sg M j).n = (sg L j).n) ∧ wr.ownsRow (Pb + 1) 42 4 sv M.length (sgl M)
  below : Below Pb w1 wr
end Go.Proofs.YtopddflnahfomaaGreatDoor
