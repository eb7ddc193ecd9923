/-
  The program's shapes: names, signed, unsigned, the registers' layouts.
-/
import Derived.Test.YtechkhlibdkmpacEg
import Derived.Lib.SliceRun
namespace Go.Proofs.Ytechkhlibdkmpac
set_option linter.unusedVariables false
open Go.ChangeShapes Go.WideShapes Go.ChangeAt Go.RowKit Go.Deep
/-- A layout's pieces. -/
structure Pc where
  hi : Int
  lo : Int
  pt : Int
def pcv : List Pc → List Value
  | [] => []
  | x :: xs => [.int .u8 x.hi, .int .u8 x.lo, .int .u8 x.pt] ++ pcv xs
/-- A layout in memory: nil, or a row of pieces. -/
def Lyt (w : World) (v : Value) (l : List Pc) : Prop := (l = [] ∧ v = .slice none 0 0) ∨ (l ≠ [] ∧ ∃ g, v = .slice (some ⟨g, 0, none⟩) l.length l.length ∧ w.heap[g]? = some (.cells (pcv l).toArray 75 (0, 0)))
theorem Lyt.later {w w' : World} {v : Value} {l : List Pc} (h : Lyt w v l) (hb : Below w.heap.size w w') : Lyt w' v l := by
  rcases h with h | ⟨h1, g, h2, h3⟩
  · exact .inl h
  · exact .inr ⟨h1, g, h2, (hb.block _ (Array.getElem?_eq_some_iff.1 h3).1).trans h3⟩
theorem Lyt.new (w : World) (l : List Pc) (h : l ≠ []) : Lyt (w.alloc (.cells (pcv l).toArray 75)) (.slice (some ⟨w.heap.size, 0, none⟩) l.length l.length) l := .inr ⟨h, w.heap.size, rfl, heap_alloc_new w _⟩
theorem Lyt.nil (w : World) : Lyt w (.slice none 0 0) [] := .inl ⟨rfl, rfl⟩
def nmB (l : List Pc) (r : Int) : Bool := if l = [] then r == 0 else (decide (0 ≤ r) && decide (r < 32))
theorem eqlNil (w : World) (a : Option Addr) (n c n' c' : Nat) : (binOp .eql 52 (.slice a n c) (.slice none n' c')).run Try.prog w = .ok (.bool a.isNone) w := Lib.run_eql_slice_nil w _ _ a n c n' c' Try.underlying52
theorem names_c (v : Value) (l : List Pc) (r : Int) (w : World) (hv : Lyt w v l) (hr : -9223372036854775808 ≤ r ∧ r ≤ 9223372036854775807) :
    Calls Try.prog 30 #[v, .int .i64 r] w fun e w' => e = .returned (.bool (nmB l r)) ∧ w' = w := by
  have qT : ∀ (w : World) (a : Option Addr) (n c n' c' : Nat), (binOp .eql 52 (.slice a n c) (.slice none n' c')).run Try.prog w = .ok (.bool a.isNone) w := eqlNil
  obtain ⟨b, hb⟩ : ∃ b, b = nmB l r := ⟨_, rfl⟩
  rw [← hb]
  unfold nmB at hb
  rcases hv with ⟨h1, rfl⟩ | ⟨h1, g, rfl, h3⟩
  · rw [if_pos h1] at hb
    have HE : Hid (b = (r == 0)) := hb
    clear hb
    go_enter Try.func30, Try.ntmps30
    go_wp2
    go_ret
    exact ⟨by rw [HE.out]; rfl, rfl⟩
  · rw [if_neg h1] at hb
    clear h3
    by_cases h2 : 0 ≤ r
    · rw [decide_eq_true h2] at hb
      have HE : Hid (b = decide (r < 32)) := by unfold Hid; rw [hb]; simp
      clear hb
      go_enter Try.func30, Try.ntmps30
      go_wp2
      go_ret
      exact ⟨by rw [HE.out]; rfl, rfl⟩
    · rw [decide_eq_false h2] at hb
      have HE : Hid (b = false) := by unfold Hid; rw [hb]; simp
      clear hb
      go_enter Try.func30, Try.ntmps30
      go_wp2
      go_ret
      exact ⟨by rw [HE.out]; rfl, rfl⟩
/-- What the reference asks of a register is what the program asks. -/
theorem nm_reg (l : List Pc) (r : Int) : nmB l r = regB r (!l.isEmpty) := by
  unfold nmB regB
  cases l with
  | nil =>
    rw [if_pos rfl, Bool.eq_iff_iff]
    simp
    omega
  | cons x xs =>
    rw [if_neg (by simp)]
    simp
theorem reachSize : (Try.prog.info? 56).map (·.size) = some 3 := by kernel_rfl
theorem reachOne (a b c : Int) : (#[Value.int .i64 a, Value.int .i64 b, Value.int .i64 c] : Array Value).all (·.oneCell') = true := by simp [Value.oneCell']
theorem layoutRd_c (w : World) : Calls Try.prog 46 #[] w fun e w' => ∃ v, e = .returned v ∧ Lyt w' v [⟨4, 0, 7⟩] ∧ Below w.heap.size w w' := by
  go_enter Try.func46, Try.ntmps46
  go_wp2
  go_ret
  exact ⟨_, rfl, Lyt.new w [⟨4, 0, 7⟩] (by simp), below_al w _⟩
theorem layoutRs1_c (w : World) : Calls Try.prog 48 #[] w fun e w' => ∃ v, e = .returned v ∧ Lyt w' v [⟨4, 0, 15⟩] ∧ Below w.heap.size w w' := by
  go_enter Try.func48, Try.ntmps48
  go_wp2
  go_ret
  exact ⟨_, rfl, Lyt.new w [⟨4, 0, 15⟩] (by simp), below_al w _⟩
theorem layoutRs2_c (w : World) : Calls Try.prog 49 #[] w fun e w' => ∃ v, e = .returned v ∧ Lyt w' v [⟨4, 0, 20⟩] ∧ Below w.heap.size w w' := by
  go_enter Try.func49, Try.ntmps49
  go_wp2
  go_ret
  exact ⟨_, rfl, Lyt.new w [⟨4, 0, 20⟩] (by simp), below_al w _⟩
set_option maxHeartbeats 2000000 in
theorem unsigned_12 (w : World) : Calls Try.prog 50 #[.int .i64 12] w fun e w' => e = .returned (.agg #[.int .i64 0, .int .i64 4095, .int .i64 1]) ∧ Below w.heap.size w w' := by
  have r0 : (w.alloc (.cells #[.int .i64 0, .int .i64 0, .int .i64 0] 56)).heap[w.heap.size]? = some (.cells #[.int .i64 0, .int .i64 0, .int .i64 0] 56 (0, 0)) := heap_alloc_new w _
  have HR : Hid _ := r0
  clear r0
  go_enter Try.func50, Try.ntmps50
  go_wp2_with (refine wpList_store_row (by rfl) 56 _ _ (by rfl) w.heap.size #[.int .i64 0, .int .i64 4095, .int .i64 1] (by rfl) (by rfl) 56 _ HR.out reachSize (by rfl) (reachOne _ _ _) ?_)
  refine bodyPost_ret (v := .agg #[.int .i64 0, .int .i64 4095, .int .i64 1]) (results_cell_row Try.results50 _ _ w.heap.size 56 _ (0, 0) _ (by rfl) (setRow_heap _ w.heap.size _ _ _ _ HR.out) Try.underlying56 (by rfl) reachSize) rfl ?_
  exact ⟨rfl, below_setRow (below_al w _) (Nat.le_refl _)⟩
set_option maxHeartbeats 2000000 in
theorem unsigned_6 (w : World) : Calls Try.prog 50 #[.int .i64 6] w fun e w' => e = .returned (.agg #[.int .i64 0, .int .i64 63, .int .i64 1]) ∧ Below w.heap.size w w' := by
  have r0 : (w.alloc (.cells #[.int .i64 0, .int .i64 0, .int .i64 0] 56)).heap[w.heap.size]? = some (.cells #[.int .i64 0, .int .i64 0, .int .i64 0] 56 (0, 0)) := heap_alloc_new w _
  have HR : Hid _ := r0
  clear r0
  go_enter Try.func50, Try.ntmps50
  go_wp2_with (refine wpList_store_row (by rfl) 56 _ _ (by rfl) w.heap.size #[.int .i64 0, .int .i64 63, .int .i64 1] (by rfl) (by rfl) 56 _ HR.out reachSize (by rfl) (reachOne _ _ _) ?_)
  refine bodyPost_ret (v := .agg #[.int .i64 0, .int .i64 63, .int .i64 1]) (results_cell_row Try.results50 _ _ w.heap.size 56 _ (0, 0) _ (by rfl) (setRow_heap _ w.heap.size _ _ _ _ HR.out) Try.underlying56 (by rfl) reachSize) rfl ?_
  exact ⟨rfl, below_setRow (below_al w _) (Nat.le_refl _)⟩
set_option maxHeartbeats 2000000 in
theorem unsigned_5 (w : World) : Calls Try.prog 50 #[.int .i64 5] w fun e w' => e = .returned (.agg #[.int .i64 0, .int .i64 31, .int .i64 1]) ∧ Below w.heap.size w w' := by
  have r0 : (w.alloc (.cells #[.int .i64 0, .int .i64 0, .int .i64 0] 56)).heap[w.heap.size]? = some (.cells #[.int .i64 0, .int .i64 0, .int .i64 0] 56 (0, 0)) := heap_alloc_new w _
  have HR : Hid _ := r0
  clear r0
  go_enter Try.func50, Try.ntmps50
  go_wp2_with (refine wpList_store_row (by rfl) 56 _ _ (by rfl) w.heap.size #[.int .i64 0, .int .i64 31, .int .i64 1] (by rfl) (by rfl) 56 _ HR.out reachSize (by rfl) (reachOne _ _ _) ?_)
  refine bodyPost_ret (v := .agg #[.int .i64 0, .int .i64 31, .int .i64 1]) (results_cell_row Try.results50 _ _ w.heap.size 56 _ (0, 0) _ (by rfl) (setRow_heap _ w.heap.size _ _ _ _ HR.out) Try.underlying56 (by rfl) reachSize) rfl ?_
  exact ⟨rfl, below_setRow (below_al w _) (Nat.le_refl _)⟩
end Go.Proofs.Ytechkhlibdkmpac
