/-
  The atomics' table, Amo at each number.
-/
import Derived.Test.YthnjppfgdkiaaacBrs
import Derived.Laws.EntriesVeiled
namespace Go.Proofs.Ythnjppfgdkiaaac
open Go.ChangeShapes Go.WideShapes Go.ChangeAt Go.RowKit

def amosTab : Array Value := #[.nilFunc, .bool false, .nilFunc, .bool false, .nilFunc, .bool false, .nilFunc, .bool false, .nilFunc, .bool false, .nilFunc, .bool false, .nilFunc, .bool false, .nilFunc, .bool false, .nilFunc, .bool false, .nilFunc, .bool false, .nilFunc, .bool false, .nilFunc, .bool false, .nilFunc, .bool false, .nilFunc, .bool false, .nilFunc, .bool false, .nilFunc, .bool false, .nilFunc, .bool false, .nilFunc, .bool false, .nilFunc, .bool false, .nilFunc, .bool false, .nilFunc, .bool false, .nilFunc, .bool false, .nilFunc, .bool false, .nilFunc, .bool false, .nilFunc, .bool false, .nilFunc, .bool false, .nilFunc, .bool false, .nilFunc, .bool false, .nilFunc, .bool false, .nilFunc, .bool false, .nilFunc, .bool false, .nilFunc, .bool false, .nilFunc, .bool false, .nilFunc, .bool false, .nilFunc, .bool false, .nilFunc, .bool false, .nilFunc, .bool false, .nilFunc, .bool false, .nilFunc, .bool false, .nilFunc, .bool false, .nilFunc, .bool false, .nilFunc, .bool false, .nilFunc, .bool false, .nilFunc, .bool false, .nilFunc, .bool false, .nilFunc, .bool false, .nilFunc, .bool false, .nilFunc, .bool false, .nilFunc, .bool false, .nilFunc, .bool false, .nilFunc, .bool false, .nilFunc, .bool false, .nilFunc, .bool false, .nilFunc, .bool false, .nilFunc, .bool false, .nilFunc, .bool false, .nilFunc, .bool false, .nilFunc, .bool false, .nilFunc, .bool false, .nilFunc, .bool false, .nilFunc, .bool false, .nilFunc, .bool false, .nilFunc, .bool false, .nilFunc, .bool false, .nilFunc, .bool false, .nilFunc, .bool false, .nilFunc, .bool false, .nilFunc, .bool false, .nilFunc, .bool false, .nilFunc, .bool false, .nilFunc, .bool false, .nilFunc, .bool false, .nilFunc, .bool false, .nilFunc, .bool false, .nilFunc, .bool false, .nilFunc, .bool false, .nilFunc, .bool false, fv 63, .bool true, fv 29, .bool true, fv 36, .bool true, fv 38, .bool true, fv 37, .bool true, fv 64, .bool true, fv 65, .bool true, fv 66, .bool true, fv 67, .bool true, .nilFunc, .bool false, .nilFunc, .bool false, fv 63, .bool false, fv 29, .bool false, fv 36, .bool false, fv 38, .bool false, fv 37, .bool false, fv 64, .bool false, fv 65, .bool false, fv 66, .bool false, fv 67, .bool false]
theorem amosSize : (Try.prog.info? 50).map (·.size) = some amosTab.size := by kernel_rfl
theorem amosZero : Try.zeroCells50.size = amosTab.size := by kernel_rfl
theorem amosOne : amosTab.all (·.oneCell') = true := by kernel_rfl
theorem amos_any (w : World) : Calls Try.prog 20 #[] w fun e w' => e = .returned (.agg amosTab) ∧ w' = w.alloc (.cells amosTab 50) := by
  go_enter Try.func20, Try.ntmps20
  go_wp2_with (first
    | (refine wpList_build_tab (by rfl) 50 _ (by rfl) amosTab (by kernel_rfl) ?_)
    | (refine wpList_store_new (by rfl) 50 _ _ (by rfl) (by rfl) Try.zeroCells50 amosTab (by rfl) (by rfl) amosSize amosZero amosOne ?_))
  exact bodyPost_ret (v := .agg amosTab) (results_cell_row Try.results20 _ _ w.heap.size 50 amosTab (0, 0) _ (by rfl) (heap_alloc_last w _) Try.underlying50 (by rfl) amosSize) rfl ⟨rfl, rfl⟩
theorem amosNotNil (f : Nat) (w : World) : (binOp .eql 38 (.func (.func f) #[] #[]) .nilFunc).run Try.prog w = .ok (.bool false) w := by kernel_rfl

/-- Amo at a number of words. -/
theorem amo_long (k : Int) (f : Nat) (a b r : Int) (w : World) (h0 : 0 ≤ k) (h1 : k < 97)
    (hidx : ∀ w, (Instr.index 50 (.agg amosTab) (.int .i64 k)).run Try.prog w = .ok (.agg #[.func (.func f) #[] #[], .bool false]) w)
    (hcf : ∀ w, (callFunc f #[.int .u64 a, .int .u64 b]).run Try.prog w = .ok (.enter f #[.int .u64 a, .int .u64 b]) w)
    (hf : ∀ w, Calls Try.prog f #[.int .u64 a, .int .u64 b] w fun e w' => e = .returned (.int .u64 r) ∧ w' = w) :
    Calls Try.prog 14 #[.int .i64 k, .int .u64 a, .int .u64 b] w fun e w' => e = .returned (.tuple #[.int .u64 r, .bool true]) ∧ Below w.heap.size w w' := by
  have hnil := amosNotNil f
  go_enter Try.func14, Try.ntmps14
  go_wp2_with fail
  refine (amos_any _).mono ?_
  rintro e w' ⟨rfl, rfl⟩
  go_wp2_with fail
  refine (hf _).mono ?_
  rintro e w' ⟨rfl, rfl⟩
  go_wp2_with fail
  go_ret2
  exact ⟨rfl, ((Below.refl _ _).alloc (Nat.le_refl _) _).alloc (by simp) _⟩

/-- Amo at a number of halves. -/
theorem amo_word (k : Int) (f : Nat) (x y r : BitVec 64) (w : World) (h0 : 0 ≤ k) (h1 : k < 97)
    (hidx : ∀ w, (Instr.index 50 (.agg amosTab) (.int .i64 k)).run Try.prog w = .ok (.agg #[.func (.func f) #[] #[], .bool true]) w)
    (hcf : ∀ w, (callFunc f #[.int .u64 (n64 (wid x)), .int .u64 (n64 (wid y))]).run Try.prog w = .ok (.enter f #[.int .u64 (n64 (wid x)), .int .u64 (n64 (wid y))]) w)
    (hf : ∀ w, Calls Try.prog f #[.int .u64 (n64 (wid x)), .int .u64 (n64 (wid y))] w fun e w' => e = .returned (.int .u64 (n64 r)) ∧ w' = w) :
    Calls Try.prog 14 #[.int .i64 k, .int .u64 (n64 x), .int .u64 (n64 y)] w fun e w' => e = .returned (.tuple #[.int .u64 (n64 (wid r)), .bool true]) ∧ Below w.heap.size w w' := by
  have hnil := amosNotNil f
  go_enter Try.func14, Try.ntmps14
  go_wp2_with fail
  refine (amos_any _).mono ?_
  rintro e w' ⟨rfl, rfl⟩
  go_wp2_with fail
  go_quiet ((first
    | (go_at_call 21; exact Calls.quiet_of_same (widen_any _ _))
    | exact Calls.quiet_of_same (hf _)))
  go_wp2
  go_ret2
  exact ⟨rfl, below_drewN (((Below.refl _ _).alloc (Nat.le_refl _) _).alloc (by simp) _) _⟩

theorem swap_any (x y : BitVec 64) (w : World) : Calls Try.prog 63 #[.int .u64 (n64 x), .int .u64 (n64 y)] w fun e w' => e = .returned (.int .u64 (n64 y)) ∧ w' = w := by
  go_enter Try.func63, Try.ntmps63
  go_wp2
  go_ret
  exact ⟨rfl, rfl⟩
def sMin (x y : BitVec 64) : BitVec 64 := if sLt y x then y else x
def sMax (x y : BitVec 64) : BitVec 64 := if sLt x y then y else x
def uMin (x y : BitVec 64) : BitVec 64 := if uLt y x then y else x
def uMax (x y : BitVec 64) : BitVec 64 := if uLt x y then y else x
theorem lesser_any (x y : BitVec 64) (w : World) : Calls Try.prog 64 #[.int .u64 (n64 x), .int .u64 (n64 y)] w fun e w' => e = .returned (.int .u64 (n64 (sMin x y))) ∧ w' = w := by
  unfold sMin
  have he : sLt y x = decide (wrap64 (n64 y) < wrap64 (n64 x)) := by unfold sLt; rw [wrap64_n64, wrap64_n64]
  rw [he]
  clear he
  by_cases h : wrap64 (n64 y) < wrap64 (n64 x)
  · simp only [h, decide_true, if_true]
    go_enter Try.func64, Try.ntmps64
    go_wp2
    go_ret
    exact ⟨ret_int (by rw [wrap64_n64]; exact n64_toInt _), rfl⟩
  · simp only [h, decide_false, Bool.false_eq_true, if_false]
    go_enter Try.func64, Try.ntmps64
    go_wp2
    go_ret
    exact ⟨ret_int (by rw [wrap64_n64]; exact n64_toInt _), rfl⟩
theorem greater_any (x y : BitVec 64) (w : World) : Calls Try.prog 65 #[.int .u64 (n64 x), .int .u64 (n64 y)] w fun e w' => e = .returned (.int .u64 (n64 (sMax x y))) ∧ w' = w := by
  unfold sMax
  have he : sLt x y = decide (wrap64 (n64 x) < wrap64 (n64 y)) := by unfold sLt; rw [wrap64_n64, wrap64_n64]
  rw [he]
  clear he
  by_cases h : wrap64 (n64 x) < wrap64 (n64 y)
  · simp only [h, decide_true, if_true]
    go_enter Try.func65, Try.ntmps65
    go_wp2
    go_ret
    exact ⟨ret_int (by rw [wrap64_n64]; exact n64_toInt _), rfl⟩
  · simp only [h, decide_false, Bool.false_eq_true, if_false]
    go_enter Try.func65, Try.ntmps65
    go_wp2
    go_ret
    exact ⟨ret_int (by rw [wrap64_n64]; exact n64_toInt _), rfl⟩
theorem lesserPlain_any (x y : BitVec 64) (w : World) : Calls Try.prog 66 #[.int .u64 (n64 x), .int .u64 (n64 y)] w fun e w' => e = .returned (.int .u64 (n64 (uMin x y))) ∧ w' = w := by
  unfold uMin
  have he : uLt y x = decide (n64 y < n64 x) := rfl
  rw [he]
  clear he
  by_cases h : n64 y < n64 x
  · simp only [h, decide_true, if_true]
    go_enter Try.func66, Try.ntmps66
    go_wp2
    go_ret
    exact ⟨rfl, rfl⟩
  · simp only [h, decide_false, Bool.false_eq_true, if_false]
    go_enter Try.func66, Try.ntmps66
    go_wp2
    go_ret
    exact ⟨rfl, rfl⟩
theorem greaterPlain_any (x y : BitVec 64) (w : World) : Calls Try.prog 67 #[.int .u64 (n64 x), .int .u64 (n64 y)] w fun e w' => e = .returned (.int .u64 (n64 (uMax x y))) ∧ w' = w := by
  unfold uMax
  have he : uLt x y = decide (n64 x < n64 y) := rfl
  rw [he]
  clear he
  by_cases h : n64 x < n64 y
  · simp only [h, decide_true, if_true]
    go_enter Try.func67, Try.ntmps67
    go_wp2
    go_ret
    exact ⟨rfl, rfl⟩
  · simp only [h, decide_false, Bool.false_eq_true, if_false]
    go_enter Try.func67, Try.ntmps67
    go_wp2
    go_ret
    exact ⟨rfl, rfl⟩
theorem m_swapW (x y : BitVec 64) (w : World) : Calls Try.prog 14 #[.int .i64 77, .int .u64 (n64 x), .int .u64 (n64 y)] w fun e w' => e = .returned (.tuple #[.int .u64 (n64 (wid (wid y))), .bool true]) ∧ Below w.heap.size w w' :=
  amo_word 77 63 x y _ w (by decide) (by decide) (fun _ => by kernel_rfl) (fun _ => by kernel_rfl) (fun w => swap_any (wid x) (wid y) w)
theorem m_swapD (x y : BitVec 64) (w : World) : Calls Try.prog 14 #[.int .i64 88, .int .u64 (n64 x), .int .u64 (n64 y)] w fun e w' => e = .returned (.tuple #[.int .u64 (n64 (y)), .bool true]) ∧ Below w.heap.size w w' :=
  amo_long 88 63 _ _ _ w (by decide) (by decide) (fun _ => by kernel_rfl) (fun _ => by kernel_rfl) (fun w => swap_any x y w)
theorem m_addW (x y : BitVec 64) (w : World) : Calls Try.prog 14 #[.int .i64 78, .int .u64 (n64 x), .int .u64 (n64 y)] w fun e w' => e = .returned (.tuple #[.int .u64 (n64 (wid (wid x + wid y))), .bool true]) ∧ Below w.heap.size w w' :=
  amo_word 78 29 x y _ w (by decide) (by decide) (fun _ => by kernel_rfl) (fun _ => by kernel_rfl) (fun w => add_any (wid x) (wid y) w)
theorem m_addD (x y : BitVec 64) (w : World) : Calls Try.prog 14 #[.int .i64 89, .int .u64 (n64 x), .int .u64 (n64 y)] w fun e w' => e = .returned (.tuple #[.int .u64 (n64 (x + y)), .bool true]) ∧ Below w.heap.size w w' :=
  amo_long 89 29 _ _ _ w (by decide) (by decide) (fun _ => by kernel_rfl) (fun _ => by kernel_rfl) (fun w => add_any x y w)
theorem m_xorW (x y : BitVec 64) (w : World) : Calls Try.prog 14 #[.int .i64 79, .int .u64 (n64 x), .int .u64 (n64 y)] w fun e w' => e = .returned (.tuple #[.int .u64 (n64 (wid (wid x ^^^ wid y))), .bool true]) ∧ Below w.heap.size w w' :=
  amo_word 79 36 x y _ w (by decide) (by decide) (fun _ => by kernel_rfl) (fun _ => by kernel_rfl) (fun w => xor_any (wid x) (wid y) w)
theorem m_xorD (x y : BitVec 64) (w : World) : Calls Try.prog 14 #[.int .i64 90, .int .u64 (n64 x), .int .u64 (n64 y)] w fun e w' => e = .returned (.tuple #[.int .u64 (n64 (x ^^^ y)), .bool true]) ∧ Below w.heap.size w w' :=
  amo_long 90 36 _ _ _ w (by decide) (by decide) (fun _ => by kernel_rfl) (fun _ => by kernel_rfl) (fun w => xor_any x y w)
theorem m_andW (x y : BitVec 64) (w : World) : Calls Try.prog 14 #[.int .i64 80, .int .u64 (n64 x), .int .u64 (n64 y)] w fun e w' => e = .returned (.tuple #[.int .u64 (n64 (wid (wid x &&& wid y))), .bool true]) ∧ Below w.heap.size w w' :=
  amo_word 80 38 x y _ w (by decide) (by decide) (fun _ => by kernel_rfl) (fun _ => by kernel_rfl) (fun w => and_any (wid x) (wid y) w)
theorem m_andD (x y : BitVec 64) (w : World) : Calls Try.prog 14 #[.int .i64 91, .int .u64 (n64 x), .int .u64 (n64 y)] w fun e w' => e = .returned (.tuple #[.int .u64 (n64 (x &&& y)), .bool true]) ∧ Below w.heap.size w w' :=
  amo_long 91 38 _ _ _ w (by decide) (by decide) (fun _ => by kernel_rfl) (fun _ => by kernel_rfl) (fun w => and_any x y w)
theorem m_orW (x y : BitVec 64) (w : World) : Calls Try.prog 14 #[.int .i64 81, .int .u64 (n64 x), .int .u64 (n64 y)] w fun e w' => e = .returned (.tuple #[.int .u64 (n64 (wid (wid x ||| wid y))), .bool true]) ∧ Below w.heap.size w w' :=
  amo_word 81 37 x y _ w (by decide) (by decide) (fun _ => by kernel_rfl) (fun _ => by kernel_rfl) (fun w => or_any (wid x) (wid y) w)
theorem m_orD (x y : BitVec 64) (w : World) : Calls Try.prog 14 #[.int .i64 92, .int .u64 (n64 x), .int .u64 (n64 y)] w fun e w' => e = .returned (.tuple #[.int .u64 (n64 (x ||| y)), .bool true]) ∧ Below w.heap.size w w' :=
  amo_long 92 37 _ _ _ w (by decide) (by decide) (fun _ => by kernel_rfl) (fun _ => by kernel_rfl) (fun w => or_any x y w)
theorem m_lesserW (x y : BitVec 64) (w : World) : Calls Try.prog 14 #[.int .i64 82, .int .u64 (n64 x), .int .u64 (n64 y)] w fun e w' => e = .returned (.tuple #[.int .u64 (n64 (wid (sMin (wid x) (wid y)))), .bool true]) ∧ Below w.heap.size w w' :=
  amo_word 82 64 x y _ w (by decide) (by decide) (fun _ => by kernel_rfl) (fun _ => by kernel_rfl) (fun w => lesser_any (wid x) (wid y) w)
theorem m_lesserD (x y : BitVec 64) (w : World) : Calls Try.prog 14 #[.int .i64 93, .int .u64 (n64 x), .int .u64 (n64 y)] w fun e w' => e = .returned (.tuple #[.int .u64 (n64 (sMin x y)), .bool true]) ∧ Below w.heap.size w w' :=
  amo_long 93 64 _ _ _ w (by decide) (by decide) (fun _ => by kernel_rfl) (fun _ => by kernel_rfl) (fun w => lesser_any x y w)
theorem m_greaterW (x y : BitVec 64) (w : World) : Calls Try.prog 14 #[.int .i64 83, .int .u64 (n64 x), .int .u64 (n64 y)] w fun e w' => e = .returned (.tuple #[.int .u64 (n64 (wid (sMax (wid x) (wid y)))), .bool true]) ∧ Below w.heap.size w w' :=
  amo_word 83 65 x y _ w (by decide) (by decide) (fun _ => by kernel_rfl) (fun _ => by kernel_rfl) (fun w => greater_any (wid x) (wid y) w)
theorem m_greaterD (x y : BitVec 64) (w : World) : Calls Try.prog 14 #[.int .i64 94, .int .u64 (n64 x), .int .u64 (n64 y)] w fun e w' => e = .returned (.tuple #[.int .u64 (n64 (sMax x y)), .bool true]) ∧ Below w.heap.size w w' :=
  amo_long 94 65 _ _ _ w (by decide) (by decide) (fun _ => by kernel_rfl) (fun _ => by kernel_rfl) (fun w => greater_any x y w)
theorem m_lesserPlainW (x y : BitVec 64) (w : World) : Calls Try.prog 14 #[.int .i64 84, .int .u64 (n64 x), .int .u64 (n64 y)] w fun e w' => e = .returned (.tuple #[.int .u64 (n64 (wid (uMin (wid x) (wid y)))), .bool true]) ∧ Below w.heap.size w w' :=
  amo_word 84 66 x y _ w (by decide) (by decide) (fun _ => by kernel_rfl) (fun _ => by kernel_rfl) (fun w => lesserPlain_any (wid x) (wid y) w)
theorem m_lesserPlainD (x y : BitVec 64) (w : World) : Calls Try.prog 14 #[.int .i64 95, .int .u64 (n64 x), .int .u64 (n64 y)] w fun e w' => e = .returned (.tuple #[.int .u64 (n64 (uMin x y)), .bool true]) ∧ Below w.heap.size w w' :=
  amo_long 95 66 _ _ _ w (by decide) (by decide) (fun _ => by kernel_rfl) (fun _ => by kernel_rfl) (fun w => lesserPlain_any x y w)
theorem m_greaterPlainW (x y : BitVec 64) (w : World) : Calls Try.prog 14 #[.int .i64 85, .int .u64 (n64 x), .int .u64 (n64 y)] w fun e w' => e = .returned (.tuple #[.int .u64 (n64 (wid (uMax (wid x) (wid y)))), .bool true]) ∧ Below w.heap.size w w' :=
  amo_word 85 67 x y _ w (by decide) (by decide) (fun _ => by kernel_rfl) (fun _ => by kernel_rfl) (fun w => greaterPlain_any (wid x) (wid y) w)
theorem m_greaterPlainD (x y : BitVec 64) (w : World) : Calls Try.prog 14 #[.int .i64 96, .int .u64 (n64 x), .int .u64 (n64 y)] w fun e w' => e = .returned (.tuple #[.int .u64 (n64 (uMax x y)), .bool true]) ∧ Below w.heap.size w w' :=
  amo_long 96 67 _ _ _ w (by decide) (by decide) (fun _ => by kernel_rfl) (fun _ => by kernel_rfl) (fun w => greaterPlain_any x y w)
end Go.Proofs.Ythnjppfgdkiaaac
