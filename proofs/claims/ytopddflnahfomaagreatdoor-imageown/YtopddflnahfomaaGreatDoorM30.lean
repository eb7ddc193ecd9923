/-
  Ipc.
-/
import Derived.Test.YtopddflnahfomaaGreatDoorM25
import Derived.Test.YtopddflnahfomaaGreatDoorM02
namespace Go.Proofs.YtopddflnahfomaaGreatDoor
set_option linter.unusedVariables false
open Go.ChangeShapes Go.WideShapes Go.ChangeAt Go.RowKit Go.Deep
theorem infoI : (Tryz.prog.info? 3).map (fun i => (i.zero, i.size, i.bytes)) = some (some (.int .i64 0), 1, 8) := by kernel_rfl
def iv (l : List Int) : List Value := l.map (Value.int .i64)
/-- The places of the first k parts' bytes. -/
def pls (L : List Sg) : Nat → List Int
  | 0 => []
  | k + 1 => pls L k ++ [if 0 < (sg L k).n then ((al (sk L k) : Nat) : Int) else 0]
theorem pls_length (L : List Sg) (k : Nat) : (pls L k).length = k := by
  induction k with
  | zero => rfl
  | succ k ih => show (pls L k ++ [_]).length = _; rw [List.length_append, ih]; rfl
/-- One int appended to a row of the call's own, a struct beside it. -/
theorem appP {ops : Array Oper} {rest : List Oper} {o : Oper} {a : Act} {w : World} {Q : Exit → Act → World → Prop} (hgd : o.guard = none) (s x : Operand) (ho : o.op = .call { callee := .builtin .append, args := #[s, x], argTypes := #[48, 48] })
    (B Pb : Nat) (cur : Array Value) (v : Value) (l : List Int) (b : Int) (hs : a.eval s = v) (hP : w.heap[Pb]? = some (.cells cur 50 (0, 0))) (hPB : Pb < B) (hown : w.ownsRow B 3 1 v l.length (iv l))
    (h0 : Nat) (hx : a.eval x = .slice (some ⟨h0, 0, none⟩) 1 1) (hh0 : h0 = w.heap.size) (hl : l.length ≤ 1000) (hB : B ≤ w.heap.size)
    (h : ∀ g' cap' w', w'.ownsRow B 3 1 (.slice (some ⟨g', 0, none⟩) (l.length + 1) cap') (l ++ [b]).length (iv (l ++ [b])) → w'.heap[Pb]? = some (.cells cur 50 (0, 0)) → w'.cell? ⟨Pb, 0, none⟩ = cur[0]? → w'.frozen? ⟨Pb, 0, none⟩ = false → Below B w w' → wpList Tryz.prog ops Q rest (a.put o.dst (.slice (some ⟨g', 0, none⟩) (l.length + 1) cap')) w') :
    wpList Tryz.prog ops Q (o :: rest) a (w.alloc (.cells #[.int .i64 b] 3)) := by
  subst hh0
  obtain ⟨i0, hi, hz0, hz1, hz2⟩ := info_parts infoI
  refine wpList_append_own _ hgd s x 48 ho B 3 i0 (.int .i64 0) 1 8 Tryz.underlying48 hi hz0 hz1 hz2 rfl (by decide) v l.length (iv l) hs (hown.alloc _) ⟨w.heap.size, 0, none⟩ 1 1 [.int .i64 b] hx rfl ?_ ?_ (by unfold maxLen; omega) (by omega) (by simp; omega) ?_
  · intro j u hj
    match j, hj with
    | 0, hj => simp at hj; subst hj; simp [Addr.add]
  · intro u hu; simp at hu; subst hu; rfl
  · intro v' w' h1 h2 _
    have hbl : Below B w w' := ((Below.refl _ _).alloc hB _).grown h2 (by simp; omega) (fun k hk => (hown.lt k hk).1)
    have hP' : w'.heap[Pb]? = some (.cells cur 50 (0, 0)) := by rw [hbl.block Pb hPB]; exact hP
    obtain ⟨g', cap', rfl⟩ := Go.Joins.ownsRow_form h1 (by omega)
    exact h g' cap' w' (by simpa [iv] using h1) hP' (cell_of_row w' Pb 0 cur 50 (0, 0) hP') (frozen_of_row w' Pb 0 cur 50 hP') hbl
/-- Where planOf stands behind the first k parts. -/
structure PL (L : List Sg) (k Pb : Nat) (dv : Value) (w1 wr : World) : Prop where
  blk : wr.heap[Pb]? = some (.cells #[dv, .int .i64 0, .int .i64 0, .int .i64 0, .int .i64 0, .int .i64 ((sk L k : Nat) : Int)] 50 (0, 0))
  own : wr.ownsRow (Pb + 1) 3 1 dv k (iv (pls L k))
  below : Below Pb w1 wr
theorem PL.cell {L : List Sg} {k Pb : Nat} {dv : Value} {w1 wr : World} (h : PL L k Pb dv w1 wr) (i : Nat) : wr.cell? ⟨Pb, i, none⟩ = #[dv, .int .i64 0, .int .i64 0, .int .i64 0, .int .i64 0, .int .i64 ((sk L k : Nat) : Int)][i]? :=
  cell_of_row wr Pb i _ 50 (0, 0) h.blk
theorem PL.frozen {L : List Sg} {k Pb : Nat} {dv : Value} {w1 wr : World} (h : PL L k Pb dv w1 wr) (i : Nat) : wr.frozen? ⟨Pb, i, none⟩ = false :=
  frozen_of_row wr Pb i _ 50 h.blk
theorem PL.lt {L : List Sg} {k Pb : Nat} {dv : Value} {w1 wr : World} (h : PL L k Pb dv w1 wr) : Pb < wr.heap.size := (Array.getElem?_eq_some_iff.1 h.blk).1
theorem blk_alloc {w : World} {Pb : Nat} {cur : Array Value} (h : w.heap[Pb]? = some (.cells cur 50 (0, 0))) (o : Obj) : (w.alloc o).heap[Pb]? = some (.cells cur 50 (0, 0)) := by
  rw [Below.heap_alloc _ _ _ (Array.getElem?_eq_some_iff.1 h).1]; exact h
theorem PL.set5 {L : List Sg} {k Pb : Nat} {dv : Value} {w1 wr : World} (h : PL L k Pb dv w1 wr) (o : Obj) (v : Value) : ((wr.alloc o).setCell ⟨Pb, 5, none⟩ v).heap[Pb]? = some (.cells #[dv, .int .i64 0, .int .i64 0, .int .i64 0, .int .i64 0, v] 50 (0, 0)) := by
  rw [heap_setCell_same (wr.alloc o) Pb 5 _ 50 v (blk_alloc h.blk o)]; rfl
theorem PL.own5 {L : List Sg} {k Pb : Nat} {dv : Value} {w1 wr : World} (h : PL L k Pb dv w1 wr) (o : Obj) (v : Value) : ((wr.alloc o).setCell ⟨Pb, 5, none⟩ v).ownsRow (Pb + 1) 3 1 dv (pls L k).length (iv (pls L k)) := by
  rw [pls_length]; exact ownsRow_setCell_below (h.own.alloc _) (show Pb < Pb + 1 by omega) _
theorem PL.bel5 {L : List Sg} {k Pb : Nat} {dv : Value} {w1 wr : World} (h : PL L k Pb dv w1 wr) (o : Obj) (v : Value) : Below Pb w1 ((wr.alloc o).setCell ⟨Pb, 5, none⟩ v) :=
  (h.below.alloc (Nat.le_of_lt h.lt) _).setCell (Nat.le_refl _) _
theorem PL.own0 {L : List Sg} {k Pb : Nat} {dv : Value} {w1 wr : World} (h : PL L k Pb dv w1 wr) (o : Obj) : (wr.alloc o).ownsRow (Pb + 1) 3 1 dv (pls L k).length (iv (pls L k)) := by
  rw [pls_length]; exact h.own.alloc _
/-- The round's end: the row has grown, and its new head is stored. -/
theorem PL.next {L : List Sg} {k Pb : Nat} {v' : Value} {w1 w w' : World} {cur : Array Value} (hb1 : Below Pb w1 w) (hP : w'.heap[Pb]? = some (.cells cur 50 (0, 0)))
    (hc : cur.setIfInBounds 0 v' = #[v', .int .i64 0, .int .i64 0, .int .i64 0, .int .i64 0, .int .i64 ((sk L (k + 1) : Nat) : Int)])
    (ho : w'.ownsRow (Pb + 1) 3 1 v' (k + 1) (iv (pls L (k + 1)))) (hb : Below (Pb + 1) w w') : PL L (k + 1) Pb v' w1 (w'.setCell ⟨Pb, 0, none⟩ v') := by
  refine ⟨?_, ownsRow_setCell_below ho (show Pb < Pb + 1 by omega) _, (hb1.trans (hb.mono (by omega))).setCell (Nat.le_refl _) _⟩
  rw [heap_setCell_same w' Pb 0 cur 50 v' hP, hc]
theorem set6_blk {w : World} {R : Nat} {o0 o1 o2 o3 o4 o5 : Value} (h : w.heap[R]? = some (.cells #[o0, o1, o2, o3, o4, o5] 50 (0, 0))) (a b c d e f : Value) : ((((((w.setCell ⟨R, 0, none⟩ a).setCell ⟨R, 1, none⟩ b).setCell ⟨R, 2, none⟩ c).setCell ⟨R, 3, none⟩ d).setCell ⟨R, 4, none⟩ e).setCell ⟨R, 5, none⟩ f).heap[R]? = some (.cells #[a, b, c, d, e, f] 50 (0, 0)) := by
  have h0 : (w.setCell ⟨R, 0, none⟩ a).heap[R]? = some (.cells #[a, o1, o2, o3, o4, o5] 50 (0, 0)) := heap_setCell_same w R 0 _ 50 a h
  generalize w.setCell ⟨R, 0, none⟩ a = w0 at *
  have h1 : (w0.setCell ⟨R, 1, none⟩ b).heap[R]? = some (.cells #[a, b, o2, o3, o4, o5] 50 (0, 0)) := heap_setCell_same w0 R 1 _ 50 b h0
  generalize w0.setCell ⟨R, 1, none⟩ b = w1 at *
  have h2 : (w1.setCell ⟨R, 2, none⟩ c).heap[R]? = some (.cells #[a, b, c, o3, o4, o5] 50 (0, 0)) := heap_setCell_same w1 R 2 _ 50 c h1
  generalize w1.setCell ⟨R, 2, none⟩ c = w2 at *
  have h3 : (w2.setCell ⟨R, 3, none⟩ d).heap[R]? = some (.cells #[a, b, c, d, o4, o5] 50 (0, 0)) := heap_setCell_same w2 R 3 _ 50 d h2
  generalize w2.setCell ⟨R, 3, none⟩ d = w3 at *
  have h4 : (w3.setCell ⟨R, 4, none⟩ e).heap[R]? = some (.cells #[a, b, c, d, e, o5] 50 (0, 0)) := heap_setCell_same w3 R 4 _ 50 e h3
  generalize w3.setCell ⟨R, 4, none⟩ e = w4 at *
  exact heap_setCell_same w4 R 5 _ 50 f h4
theorem set6_own {w : World} {R B n : Nat} {v : Value} {xs : List Value} (h : w.ownsRow B 3 1 v n xs) (hR : R < B) (a b c d e f : Value) : ((((((w.setCell ⟨R, 0, none⟩ a).setCell ⟨R, 1, none⟩ b).setCell ⟨R, 2, none⟩ c).setCell ⟨R, 3, none⟩ d).setCell ⟨R, 4, none⟩ e).setCell ⟨R, 5, none⟩ f).ownsRow B 3 1 v n xs :=
  ownsRow_setCell_below (ownsRow_setCell_below (ownsRow_setCell_below (ownsRow_setCell_below (ownsRow_setCell_below (ownsRow_setCell_below h hR _) hR _) hR _) hR _) hR _) hR _
theorem set6_below {w0 w : World} {R B : Nat} (h : Below B w0 w) (hR : B ≤ R) (a b c d e f : Value) : Below B w0 ((((((w.setCell ⟨R, 0, none⟩ a).setCell ⟨R, 1, none⟩ b).setCell ⟨R, 2, none⟩ c).setCell ⟨R, 3, none⟩ d).setCell ⟨R, 4, none⟩ e).setCell ⟨R, 5, none⟩ f) :=
  (((((h.setCell hR a).setCell hR b).setCell hR c).setCell hR d).setCell hR e).setCell hR f
theorem size46 : (Tryz.prog.info? 50).map (·.size) = some 6 := by kernel_rfl
theorem own_leB {w : World} {B B' e size n : Nat} {v : Value} {xs : List Value} (h : w.ownsRow B e size v n xs) (hb : B' ≤ B) : w.ownsRow B' e size v n xs := by
  refine ⟨h.1, ?_⟩
  rcases h.2 with h' | ⟨g, cap, cur, rfl, h1, h2, h3⟩
  · exact .inl h'
  · exact .inr ⟨g, cap, cur, rfl, Nat.le_trans hb h1, h2, h3⟩
/-- The struct with given cells, its row, and all ahead of it. -/
structure PQ (a b c d e f : Value) (Pb n : Nat) (xs : List Value) (w1 wr : World) : Prop where
  blk : wr.heap[Pb]? = some (.cells #[a, b, c, d, e, f] 50 (0, 0))
  own : wr.ownsRow (Pb + 1) 3 1 a n xs
  below : Below Pb w1 wr
theorem PQ.lt {a b c d e f : Value} {Pb n : Nat} {xs : List Value} {w1 wr : World} (h : PQ a b c d e f Pb n xs w1 wr) : Pb < wr.heap.size := (Array.getElem?_eq_some_iff.1 h.blk).1
theorem PQ.cell {a b c d e f : Value} {Pb n : Nat} {xs : List Value} {w1 wr : World} (h : PQ a b c d e f Pb n xs w1 wr) (i : Nat) : wr.cell? ⟨Pb, i, none⟩ = #[a, b, c, d, e, f][i]? := cell_of_row wr Pb i _ 50 (0, 0) h.blk
theorem PQ.frozen {a b c d e f : Value} {Pb n : Nat} {xs : List Value} {w1 wr : World} (h : PQ a b c d e f Pb n xs w1 wr) (i : Nat) : wr.frozen? ⟨Pb, i, none⟩ = false := frozen_of_row wr Pb i _ 50 h.blk
theorem PQ.alloc {a b c d e f : Value} {Pb n : Nat} {xs : List Value} {w1 wr : World} (h : PQ a b c d e f Pb n xs w1 wr) (o : Obj) : PQ a b c d e f Pb n xs w1 (wr.alloc o) :=
  ⟨blk_alloc h.blk o, h.own.alloc o, h.below.alloc (Nat.le_of_lt h.lt) o⟩
theorem PQ.set1 {a b c d e f : Value} {Pb n : Nat} {xs : List Value} {w1 wr : World} (h : PQ a b c d e f Pb n xs w1 wr) (v : Value) : PQ a v c d e f Pb n xs w1 (wr.setCell ⟨Pb, 1, none⟩ v) :=
  ⟨heap_setCell_same wr Pb 1 _ 50 v h.blk, ownsRow_setCell_below h.own (show Pb < Pb + 1 by omega) _, h.below.setCell (Nat.le_refl _) _⟩
theorem PQ.set2 {a b c d e f : Value} {Pb n : Nat} {xs : List Value} {w1 wr : World} (h : PQ a b c d e f Pb n xs w1 wr) (v : Value) : PQ a b v d e f Pb n xs w1 (wr.setCell ⟨Pb, 2, none⟩ v) :=
  ⟨heap_setCell_same wr Pb 2 _ 50 v h.blk, ownsRow_setCell_below h.own (show Pb < Pb + 1 by omega) _, h.below.setCell (Nat.le_refl _) _⟩
theorem PQ.set3 {a b c d e f : Value} {Pb n : Nat} {xs : List Value} {w1 wr : World} (h : PQ a b c d e f Pb n xs w1 wr) (v : Value) : PQ a b c v e f Pb n xs w1 (wr.setCell ⟨Pb, 3, none⟩ v) :=
  ⟨heap_setCell_same wr Pb 3 _ 50 v h.blk, ownsRow_setCell_below h.own (show Pb < Pb + 1 by omega) _, h.below.setCell (Nat.le_refl _) _⟩
theorem PQ.set4 {a b c d e f : Value} {Pb n : Nat} {xs : List Value} {w1 wr : World} (h : PQ a b c d e f Pb n xs w1 wr) (v : Value) : PQ a b c d v f Pb n xs w1 (wr.setCell ⟨Pb, 4, none⟩ v) :=
  ⟨heap_setCell_same wr Pb 4 _ 50 v h.blk, ownsRow_setCell_below h.own (show Pb < Pb + 1 by omega) _, h.below.setCell (Nat.le_refl _) _⟩
theorem PQ.set5 {a b c d e f : Value} {Pb n : Nat} {xs : List Value} {w1 wr : World} (h : PQ a b c d e f Pb n xs w1 wr) (v : Value) : PQ a b c d e v Pb n xs w1 (wr.setCell ⟨Pb, 5, none⟩ v) :=
  ⟨heap_setCell_same wr Pb 5 _ 50 v h.blk, ownsRow_setCell_below h.own (show Pb < Pb + 1 by omega) _, h.below.setCell (Nat.le_refl _) _⟩
end Go.Proofs.YtopddflnahfomaaGreatDoor
