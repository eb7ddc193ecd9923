import Derived.Test.YtlhgphokfpnfeaaGreatDoorK01
import Derived.Laws.EntriesVeiled
import Derived.StillTailTactics
namespace Go.Proofs.YtlhgphokfpnfeaaGreatDoor
set_option maxRecDepth 100000
open Go.ChangeShapes Go.WideShapes Go.ChangeAt Go.RowKit
def amosTab : Array Value := #[.nilFunc, .bool false, .nilFunc, .bool false, .nilFunc, .bool false, .nilFunc, .bool false, .nilFunc, .bool false, .nilFunc, .bool false, .nilFunc, .bool false, .nilFunc, .bool false, .nilFunc, .bool false, .nilFunc, .bool false, .nilFunc, .bool false, .nilFunc, .bool false, .nilFunc, .bool false, .nilFunc, .bool false, .nilFunc, .bool false, .nilFunc, .bool false, .nilFunc, .bool false, .nilFunc, .bool false, .nilFunc, .bool false, .nilFunc, .bool false, .nilFunc, .bool false, .nilFunc, .bool false, .nilFunc, .bool false, .nilFunc, .bool false, .nilFunc, .bool false, .nilFunc, .bool false, .nilFunc, .bool false, .nilFunc, .bool false, .nilFunc, .bool false, .nilFunc, .bool false, .nilFunc, .bool false, .nilFunc, .bool false, .nilFunc, .bool false, .nilFunc, .bool false, .nilFunc, .bool false, .nilFunc, .bool false, .nilFunc, .bool false, .nilFunc, .bool false, .nilFunc, .bool false, .nilFunc, .bool false, .nilFunc, .bool false, .nilFunc, .bool false, .nilFunc, .bool false, .nilFunc, .bool false, .nilFunc, .bool false, .nilFunc, .bool false, .nilFunc, .bool false, .nilFunc, .bool false, .nilFunc, .bool false, .nilFunc, .bool false, .nilFunc, .bool false, .nilFunc, .bool false, .nilFunc, .bool false, .nilFunc, .bool false, .nilFunc, .bool false, .nilFunc, .bool false, .nilFunc, .bool false, .nilFunc, .bool false, .nilFunc, .bool false, .nilFunc, .bool false, .nilFunc, .bool false, .nilFunc, .bool false, .nilFunc, .bool false, .nilFunc, .bool false, .nilFunc, .bool false, .nilFunc, .bool false, .nilFunc, .bool false, .nilFunc, .bool false, .nilFunc, .bool false, .nilFunc, .bool false, .nilFunc, .bool false, .nilFunc, .bool false, .nilFunc, .bool false, .nilFunc, .bool false, .nilFunc, .bool false, .nilFunc, .bool false, .nilFunc, .bool false, fv 92, .bool true, fv 93, .bool true, fv 94, .bool true, fv 95, .bool true, fv 96, .bool true, fv 97, .bool true, fv 98, .bool true, fv 99, .bool true, fv 100, .bool true, .nilFunc, .bool false, .nilFunc, .bool false, fv 92, .bool false, fv 93, .bool false, fv 94, .bool false, fv 95, .bool false, fv 96, .bool false, fv 97, .bool false, fv 98, .bool false, fv 99, .bool false, fv 100, .bool false]
theorem amosSize : (Tryz.prog.info? 164).map (·.size) = some amosTab.size := by kernel_rfl
theorem amosZero : Tryz.zeroCells164.size = amosTab.size := by kernel_rfl
theorem amosOne : amosTab.all (·.oneCell') = true := by kernel_rfl
theorem amos_any (w : World) : Calls Tryz.prog 80 #[] w fun e w' => e = .returned (.agg amosTab) ∧ w' = w.alloc (.cells amosTab 164) := by
  go_enter Tryz.func80, Tryz.ntmps80
  go_wp2_with (first
    | (refine wpList_build_tab (by rfl) 164 _ (by rfl) amosTab (by kernel_rfl) ?_)
    | (refine wpList_store_new (by rfl) 164 _ _ (by rfl) (by rfl) Tryz.zeroCells164 amosTab (by rfl) (by rfl) amosSize amosZero amosOne ?_))
  exact bodyPost_ret (v := .agg amosTab) (results_cell_row Tryz.results80 _ _ w.heap.size 164 amosTab (0, 0) _ (by rfl) (heap_alloc_last w _) Tryz.underlying164 (by rfl) amosSize) rfl ⟨rfl, rfl⟩
theorem amosNotNil (f : Nat) (w : World) : (binOp .eql 161 (.func (.func f) #[] #[]) .nilFunc).run Tryz.prog w = .ok (.bool false) w := by kernel_rfl

/-- Amo at a number of words. -/
theorem amo_long (k : Int) (f : Nat) (a b r : Int) (w : World) (h0 : 0 ≤ k) (h1 : k < 97)
    (hidx : ∀ w, (Instr.index 164 (.agg amosTab) (.int .i64 k)).run Tryz.prog w = .ok (.agg #[.func (.func f) #[] #[], .bool false]) w)
    (hcf : ∀ w, (callFunc f #[.int .u64 a, .int .u64 b]).run Tryz.prog w = .ok (.enter f #[.int .u64 a, .int .u64 b]) w)
    (hf : ∀ w, Calls Tryz.prog f #[.int .u64 a, .int .u64 b] w fun e w' => e = .returned (.int .u64 r) ∧ w' = w) :
    Calls Tryz.prog 62 #[.int .i64 k, .int .u64 a, .int .u64 b] w fun e w' => e = .returned (.tuple #[.int .u64 r, .bool true]) ∧ Below w.heap.size w w' := by
  have hnil := amosNotNil f
  go_enter Tryz.func62, Tryz.ntmps62
  go_wp2_with fail
  refine (amos_any _).mono ?_
  rintro e w' ⟨rfl, rfl⟩
  go_wp2_with fail
  refine (hf _).mono ?_
  rintro e w' ⟨rfl, rfl⟩
  go_wp2_with fail
  go_ret2
  exact ⟨rfl, ((Below.refl _ _).alloc (Nat.le_refl _) _).alloc (by simp) _⟩

/-- Amo at a number of halves. -/
theorem amo_word (k : Int) (f : Nat) (x y r : BitVec 64) (w : World) (h0 : 0 ≤ k) (h1 : k < 97)
    (hidx : ∀ w, (Instr.index 164 (.agg amosTab) (.int .i64 k)).run Tryz.prog w = .ok (.agg #[.func (.func f) #[] #[], .bool true]) w)
    (hcf : ∀ w, (callFunc f #[.int .u64 (n64 (wid x)), .int .u64 (n64 (wid y))]).run Tryz.prog w = .ok (.enter f #[.int .u64 (n64 (wid x)), .int .u64 (n64 (wid y))]) w)
    (hf : ∀ w, Calls Tryz.prog f #[.int .u64 (n64 (wid x)), .int .u64 (n64 (wid y))] w fun e w' => e = .returned (.int .u64 (n64 r)) ∧ w' = w) :
    Calls Tryz.prog 62 #[.int .i64 k, .int .u64 (n64 x), .int .u64 (n64 y)] w fun e w' => e = .returned (.tuple #[.int .u64 (n64 (wid r)), .bool true]) ∧ Below w.heap.size w w' := by
  have hnil := amosNotNil f
  go_enter Tryz.func62, Tryz.ntmps62
  go_wp2_with fail
  refine (amos_any _).mono ?_
  rintro e w' ⟨rfl, rfl⟩
  go_wp2_with fail
  go_quiet ((first
    | (go_at_call 81; exact Calls.quiet_of_same (widen_any _ _))
    | exact Calls.quiet_of_same (hf _)))
  go_wp2
  go_ret2
  exact ⟨rfl, below_drewN (((Below.refl _ _).alloc (Nat.le_refl _) _).alloc (by simp) _) _⟩

theorem swap_any (x y : BitVec 64) (w : World) : Calls Tryz.prog 92 #[.int .u64 (n64 x), .int .u64 (n64 y)] w fun e w' => e = .returned (.int .u64 (n64 y)) ∧ w' = w := by
  go_enter Tryz.func92, Tryz.ntmps92
  go_wp2
  go_ret
  exact ⟨rfl, rfl⟩
def sMin (x y : BitVec 64) : BitVec 64 := if sLt y x then y else x
def sMax (x y : BitVec 64) : BitVec 64 := if sLt x y then y else x
def uMin (x y : BitVec 64) : BitVec 64 := if uLt y x then y else x
def uMax (x y : BitVec 64) : BitVec 64 := if uLt x y then y else x
theorem lesser_any (x y : BitVec 64) (w : World) : Calls Tryz.prog 97 #[.int .u64 (n64 x), .int .u64 (n64 y)] w fun e w' => e = .returned (.int .u64 (n64 (sMin x y))) ∧ w' = w := by
  unfold sMin
  have he : sLt y x = decide (wrap64 (n64 y) < wrap64 (n64 x)) := by unfold sLt; rw [wrap64_n64, wrap64_n64]
  rw [he]
  clear he
  by_cases h : wrap64 (n64 y) < wrap64 (n64 x)
  · simp only [h, decide_true, if_true]
    go_enter Tryz.func97, Tryz.ntmps97
    go_wp2
    go_ret
    exact ⟨ret_int (by rw [wrap64_n64]; exact n64_toInt _), rfl⟩
  · simp only [h, decide_false, Bool.false_eq_true, if_false]
    go_enter Tryz.func97, Tryz.ntmps97
    go_wp2
    go_ret
    exact ⟨ret_int (by rw [wrap64_n64]; exact n64_toInt _), rfl⟩
theorem greater_any (x y : BitVec 64) (w : World) : Calls Tryz.prog 98 #[.int .u64 (n64 x), .int .u64 (n64 y)] w fun e w' => e = .returned (.int .u64 (n64 (sMax x y))) ∧ w' = w := by
  unfold sMax
  have he : sLt x y = decide (wrap64 (n64 x) < wrap64 (n64 y)) := by unfold sLt; rw [wrap64_n64, wrap64_n64]
  rw [he]
  clear he
  by_cases h : wrap64 (n64 x) < wrap64 (n64 y)
  · simp only [h, decide_true, if_true]
    go_enter Tryz.func98, Tryz.ntmps98
    go_wp2
    go_ret
    exact ⟨ret_int (by rw [wrap64_n64]; exact n64_toInt _), rfl⟩
  · simp only [h, decide_false, Bool.false_eq_true, if_false]
    go_enter Tryz.func98, Tryz.ntmps98
    go_wp2
    go_ret
    exact ⟨ret_int (by rw [wrap64_n64]; exact n64_toInt _), rfl⟩
theorem lesserPlain_any (x y : BitVec 64) (w : World) : Calls Tryz.prog 99 #[.int .u64 (n64 x), .int .u64 (n64 y)] w fun e w' => e = .returned (.int .u64 (n64 (uMin x y))) ∧ w' = w := by
  unfold uMin
  have he : uLt y x = decide (n64 y < n64 x) := rfl
  rw [he]
  clear he
  by_cases h : n64 y < n64 x
  · simp only [h, decide_true, if_true]
    go_enter Tryz.func99, Tryz.ntmps99
    go_wp2
    go_ret
    exact ⟨rfl, rfl⟩
  · simp only [h, decide_false, Bool.false_eq_true, if_false]
    go_enter Tryz.func99, Tryz.ntmps99
    go_wp2
    go_ret
    exact ⟨rfl, rfl⟩
theorem greaterPlain_any (x y : BitVec 64) (w : World) : Calls Tryz.prog 100 #[.int .u64 (n64 x), .int .u64 (n64 y)] w fun e w' => e = .returned (.int .u64 (n64 (uMax x y))) ∧ w' = w := by
  unfold uMax
  have he : uLt x y = decide (n64 x < n64 y) := rfl
  rw [he]
  clear he
  by_cases h : n64 x < n64 y
  · simp only [h, decide_true, if_true]
    go_enter Tryz.func100, Tryz.ntmps100
    go_wp2
    go_ret
    exact ⟨rfl, rfl⟩
  · simp only [h, decide_false, Bool.false_eq_true, if_false]
    go_enter Tryz.func100, Tryz.ntmps100
    go_wp2
    go_ret
    exact ⟨rfl, rfl⟩
theorem m_swapW (x y : BitVec 64) (w : World) : Calls Tryz.prog 62 #[.int .i64 77, .int .u64 (n64 x), .int .u64 (n64 y)] w fun e w' => e = .returned (.tuple #[.int .u64 (n64 (wid (wid y))), .bool true]) ∧ Below w.heap.size w w' :=
  amo_word 77 92 x y _ w (by decide) (by decide) (fun _ => by kernel_rfl) (fun _ => by kernel_rfl) (fun w => swap_any (wid x) (wid y) w)
theorem m_swapD (x y : BitVec 64) (w : World) : Calls Tryz.prog 62 #[.int .i64 88, .int .u64 (n64 x), .int .u64 (n64 y)] w fun e w' => e = .returned (.tuple #[.int .u64 (n64 (y)), .bool true]) ∧ Below w.heap.size w w' :=
  amo_long 88 92 _ _ _ w (by decide) (by decide) (fun _ => by kernel_rfl) (fun _ => by kernel_rfl) (fun w => swap_any x y w)
theorem m_addW (x y : BitVec 64) (w : World) : Calls Tryz.prog 62 #[.int .i64 78, .int .u64 (n64 x), .int .u64 (n64 y)] w fun e w' => e = .returned (.tuple #[.int .u64 (n64 (wid (wid x + wid y))), .bool true]) ∧ Below w.heap.size w w' :=
  amo_word 78 93 x y _ w (by decide) (by decide) (fun _ => by kernel_rfl) (fun _ => by kernel_rfl) (fun w => add_any (wid x) (wid y) w)
theorem m_addD (x y : BitVec 64) (w : World) : Calls Tryz.prog 62 #[.int .i64 89, .int .u64 (n64 x), .int .u64 (n64 y)] w fun e w' => e = .returned (.tuple #[.int .u64 (n64 (x + y)), .bool true]) ∧ Below w.heap.size w w' :=
  amo_long 89 93 _ _ _ w (by decide) (by decide) (fun _ => by kernel_rfl) (fun _ => by kernel_rfl) (fun w => add_any x y w)
theorem m_xorW (x y : BitVec 64) (w : World) : Calls Tryz.prog 62 #[.int .i64 79, .int .u64 (n64 x), .int .u64 (n64 y)] w fun e w' => e = .returned (.tuple #[.int .u64 (n64 (wid (wid x ^^^ wid y))), .bool true]) ∧ Below w.heap.size w w' :=
  amo_word 79 94 x y _ w (by decide) (by decide) (fun _ => by kernel_rfl) (fun _ => by kernel_rfl) (fun w => xor_any (wid x) (wid y) w)
theorem m_xorD (x y : BitVec 64) (w : World) : Calls Tryz.prog 62 #[.int .i64 90, .int .u64 (n64 x), .int .u64 (n64 y)] w fun e w' => e = .returned (.tuple #[.int .u64 (n64 (x ^^^ y)), .bool true]) ∧ Below w.heap.size w w' :=
  amo_long 90 94 _ _ _ w (by decide) (by decide) (fun _ => by kernel_rfl) (fun _ => by kernel_rfl) (fun w => xor_any x y w)
theorem m_andW (x y : BitVec 64) (w : World) : Calls Tryz.prog 62 #[.int .i64 80, .int .u64 (n64 x), .int .u64 (n64 y)] w fun e w' => e = .returned (.tuple #[.int .u64 (n64 (wid (wid x &&& wid y))), .bool true]) ∧ Below w.heap.size w w' :=
  amo_word 80 95 x y _ w (by decide) (by decide) (fun _ => by kernel_rfl) (fun _ => by kernel_rfl) (fun w => and_any (wid x) (wid y) w)
theorem m_andD (x y : BitVec 64) (w : World) : Calls Tryz.prog 62 #[.int .i64 91, .int .u64 (n64 x), .int .u64 (n64 y)] w fun e w' => e = .returned (.tuple #[.int .u64 (n64 (x &&& y)), .bool true]) ∧ Below w.heap.size w w' :=
  amo_long 91 95 _ _ _ w (by decide) (by decide) (fun _ => by kernel_rfl) (fun _ => by kernel_rfl) (fun w => and_any x y w)
theorem m_orW (x y : BitVec 64) (w : World) : Calls Tryz.prog 62 #[.int .i64 81, .int .u64 (n64 x), .int .u64 (n64 y)] w fun e w' => e = .returned (.tuple #[.int .u64 (n64 (wid (wid x ||| wid y))), .bool true]) ∧ Below w.heap.size w w' :=
  amo_word 81 96 x y _ w (by decide) (by decide) (fun _ => by kernel_rfl) (fun _ => by kernel_rfl) (fun w => or_any (wid x) (wid y) w)
theorem m_orD (x y : BitVec 64) (w : World) : Calls Tryz.prog 62 #[.int .i64 92, .int .u64 (n64 x), .int .u64 (n64 y)] w fun e w' => e = .returned (.tuple #[.int .u64 (n64 (x ||| y)), .bool true]) ∧ Below w.heap.size w w' :=
  amo_long 92 96 _ _ _ w (by decide) (by decide) (fun _ => by kernel_rfl) (fun _ => by kernel_rfl) (fun w => or_any x y w)
theorem m_lesserW (x y : BitVec 64) (w : World) : Calls Tryz.prog 62 #[.int .i64 82, .int .u64 (n64 x), .int .u64 (n64 y)] w fun e w' => e = .returned (.tuple #[.int .u64 (n64 (wid (sMin (wid x) (wid y)))), .bool true]) ∧ Below w.heap.size w w' :=
  amo_word 82 97 x y _ w (by decide) (by decide) (fun _ => by kernel_rfl) (fun _ => by kernel_rfl) (fun w => lesser_any (wid x) (wid y) w)
theorem m_lesserD (x y : BitVec 64) (w : World) : Calls Tryz.prog 62 #[.int .i64 93, .int .u64 (n64 x), .int .u64 (n64 y)] w fun e w' => e = .returned (.tuple #[.int .u64 (n64 (sMin x y)), .bool true]) ∧ Below w.heap.size w w' :=
  amo_long 93 97 _ _ _ w (by decide) (by decide) (fun _ => by kernel_rfl) (fun _ => by kernel_rfl) (fun w => lesser_any x y w)
theorem m_greaterW (x y : BitVec 64) (w : World) : Calls Tryz.prog 62 #[.int .i64 83, .int .u64 (n64 x), .int .u64 (n64 y)] w fun e w' => e = .returned (.tuple #[.int .u64 (n64 (wid (sMax (wid x) (wid y)))), .bool true]) ∧ Below w.heap.size w w' :=
  amo_word 83 98 x y _ w (by decide) (by decide) (fun _ => by kernel_rfl) (fun _ => by kernel_rfl) (fun w => greater_any (wid x) (wid y) w)
theorem m_greaterD (x y : BitVec 64) (w : World) : Calls Tryz.prog 62 #[.int .i64 94, .int .u64 (n64 x), .int .u64 (n64 y)] w fun e w' => e = .returned (.tuple #[.int .u64 (n64 (sMax x y)), .bool true]) ∧ Below w.heap.size w w' :=
  amo_long 94 98 _ _ _ w (by decide) (by decide) (fun _ => by kernel_rfl) (fun _ => by kernel_rfl) (fun w => greater_any x y w)
theorem m_lesserPlainW (x y : BitVec 64) (w : World) : Calls Tryz.prog 62 #[.int .i64 84, .int .u64 (n64 x), .int .u64 (n64 y)] w fun e w' => e = .returned (.tuple #[.int .u64 (n64 (wid (uMin (wid x) (wid y)))), .bool true]) ∧ Below w.heap.size w w' :=
  amo_word 84 99 x y _ w (by decide) (by decide) (fun _ => by kernel_rfl) (fun _ => by kernel_rfl) (fun w => lesserPlain_any (wid x) (wid y) w)
theorem m_lesserPlainD (x y : BitVec 64) (w : World) : Calls Tryz.prog 62 #[.int .i64 95, .int .u64 (n64 x), .int .u64 (n64 y)] w fun e w' => e = .returned (.tuple #[.int .u64 (n64 (uMin x y)), .bool true]) ∧ Below w.heap.size w w' :=
  amo_long 95 99 _ _ _ w (by decide) (by decide) (fun _ => by kernel_rfl) (fun _ => by kernel_rfl) (fun w => lesserPlain_any x y w)
theorem m_greaterPlainW (x y : BitVec 64) (w : World) : Calls Tryz.prog 62 #[.int .i64 85, .int .u64 (n64 x), .int .u64 (n64 y)] w fun e w' => e = .returned (.tuple #[.int .u64 (n64 (wid (uMax (wid x) (wid y)))), .bool true]) ∧ Below w.heap.size w w' :=
  amo_word 85 100 x y _ w (by decide) (by decide) (fun _ => by kernel_rfl) (fun _ => by kernel_rfl) (fun w => greaterPlain_any (wid x) (wid y) w)
theorem m_greaterPlainD (x y : BitVec 64) (w : World) : Calls Tryz.prog 62 #[.int .i64 96, .int .u64 (n64 x), .int .u64 (n64 y)] w fun e w' => e = .returned (.tuple #[.int .u64 (n64 (uMax x y)), .bool true]) ∧ Below w.heap.size w w' :=
  amo_long 96 100 _ _ _ w (by decide) (by decide) (fun _ => by kernel_rfl) (fun _ => by kernel_rfl) (fun w => greaterPlain_any x y w)
end Go.Proofs.YtlhgphokfpnfeaaGreatDoor
namespace Go.Proofs.YtlhgphokfpnfeaaGreatDoor
open Go.ChangeShapes Go.WideShapes Go.ChangeAt Go.RowKit
theorem Lst.part {w : World} {v : Value} {N m lo n : Nat} (h : Lst w v (bl N m)) (hm : lo + n ≤ m) : ∃ g off cap, v = .slice (some ⟨g, off, none⟩) m cap ∧ m ≤ cap ∧ Lst w (.slice (some ⟨g, off + lo, none⟩) n (cap - lo)) (bl (N / 2 ^ lo) n) := by
  obtain ⟨g, off, cap, rfl, h1, h2, h3⟩ := h
  rw [bl_length] at h1 h3
  refine ⟨g, off, cap, by rw [bl_length], h1, g, off + lo, cap - lo, by rw [bl_length], by rw [bl_length]; omega, h2, fun j hj => ?_⟩
  rw [bl_length] at hj
  have := h3 (lo + j) (by omega)
  rw [bl_get _ _ _ (by omega)] at this
  rw [bl_get _ _ _ hj, show off + lo + j = off + (lo + j) by omega, this]
  unfold bt; rw [Nat.div_div_eq_div_mul, ← Nat.pow_add]

/-! Extend -/
end Go.Proofs.YtlhgphokfpnfeaaGreatDoor
namespace Go.Proofs.YtlhgphokfpnfeaaGreatDoor
open Go.ChangeShapes Go.WideShapes Go.ChangeAt Go.RowKit
def mW (i : Nat) (x y : BitVec 64) : BitVec 64 := ([wid (wid y), wid (wid x + wid y), wid (wid x ^^^ wid y), wid (wid x &&& wid y), wid (wid x ||| wid y), wid (sMin (wid x) (wid y)), wid (sMax (wid x) (wid y)), wid (uMin (wid x) (wid y)), wid (uMax (wid x) (wid y))] : List (BitVec 64)).getD i 0#64
def mD (i : Nat) (x y : BitVec 64) : BitVec 64 := ([y, x + y, x ^^^ y, x &&& y, x ||| y, sMin x y, sMax x y, uMin x y, uMax x y] : List (BitVec 64)).getD i 0#64
theorem arith_mW (i : Nat) (hi : i < 9) (x y : BitVec 64) (w : World) : Calls Tryz.prog 62 #[.int .i64 (77 + (i : Int)), .int .u64 (n64 x), .int .u64 (n64 y)] w fun e w' => e = .returned (.tuple #[.int .u64 (n64 (mW i x y)), .bool true]) ∧ Below w.heap.size w w' := by
  match i, hi with
  | 0, _ => exact m_swapW x y w
  | 1, _ => exact m_addW x y w
  | 2, _ => exact m_xorW x y w
  | 3, _ => exact m_andW x y w
  | 4, _ => exact m_orW x y w
  | 5, _ => exact m_lesserW x y w
  | 6, _ => exact m_greaterW x y w
  | 7, _ => exact m_lesserPlainW x y w
  | 8, _ => exact m_greaterPlainW x y w
theorem arith_mD (i : Nat) (hi : i < 9) (x y : BitVec 64) (w : World) : Calls Tryz.prog 62 #[.int .i64 (88 + (i : Int)), .int .u64 (n64 x), .int .u64 (n64 y)] w fun e w' => e = .returned (.tuple #[.int .u64 (n64 (mD i x y)), .bool true]) ∧ Below w.heap.size w w' := by
  match i, hi with
  | 0, _ => exact m_swapD x y w
  | 1, _ => exact m_addD x y w
  | 2, _ => exact m_xorD x y w
  | 3, _ => exact m_andD x y w
  | 4, _ => exact m_orD x y w
  | 5, _ => exact m_lesserD x y w
  | 6, _ => exact m_greaterD x y w
  | 7, _ => exact m_lesserPlainD x y w
  | 8, _ => exact m_greaterPlainD x y w
end Go.Proofs.YtlhgphokfpnfeaaGreatDoor
namespace Go.Proofs.YtlhgphokfpnfeaaGreatDoor
open Go.ChangeShapes Go.WideShapes Go.ChangeAt Go.RowKit Go.Deep
section
variable {P : Program} {ops : Array Oper} {md : Region.Mode} {C : World → Prop}
def wpAnyM (P : Program) (md : Region.Mode) (ops : Array Oper) (C : World → Prop) (n : Nat) (L : Array Bool → Act → Prop) : Nat → Array Bool → Act → Prop
  | 0, listed, a => L listed a
  | f + 1, listed, a => Region.ready md ops listed ≠ [] ∧ ∀ i ∈ Region.ready md ops listed, i < n ∧ qOp P ops C i (wpAnyM P md ops C n L f (listed.setIfInBounds i true)) a
theorem wpAny_of_M {n g : Nat} {L : Array Bool → Act → Prop} {Q' : Exit → Act → World → Prop} (hL : ∀ listed a w, C w → L listed a → wpAny P md ops Q' g listed a w) :
    ∀ (f : Nat) (listed : Array Bool) (a : Act) (w : World), C w → wpAnyM P md ops C n L f listed a → wpAny P md ops Q' (f + g) listed a w
  | 0, listed, a, w, hw, h => by rw [Nat.zero_add]; exact hL _ _ _ hw h
  | f + 1, listed, a, w, hw, h => by
    rw [Nat.add_right_comm f 1 g]
    exact ⟨fun h0 => absurd h0 h.1, fun i hi => wpOp_of_qOp hw (fun a' w' hw' h' => wpAny_of_M hL f _ a' w' hw' h') (h.2 i hi).2⟩
/-- While an operation of the head has not come up nothing behind the head is ready. -/
theorem head_only {n i : Nat} {listed : Array Bool} (hs : Region.sinkB md ops n = true) (hc : Region.chainB md ops n = true) (hn : n < ops.size) (inv : HeadInv md ops n listed) (hin : i < n) (hr : i ∈ Region.ready md ops listed) :
    ∀ j ∈ Region.ready md ops listed, j < n := fun j hj => by
  rcases Nat.lt_or_ge j n with h | h
  · exact h
  · exact absurd hj (tail_waits hs hc hn inv _ i rfl hin (mem_ready.1 hr).1 j h)
theorem wpAnyM_first {n i : Nat} {oi : Oper} {v : Value} {L : Array Bool → Act → Prop} (hi : ops[i]? = some oi) (hsel : ∀ (j : Nat) (o : Oper) cs b, ops[j]? = some o → o.op ≠ .select cs b)
    (hs : Region.sinkB md ops n = true) (hc : Region.chainB md ops n = true) (hn : n < ops.size) (hin : i < n) (hdone : ∀ listed a, L listed a → ∀ j ∈ Region.ready md ops listed, n ≤ j) :
    ∀ (f : Nat) (listed : Array Bool) (a : Act), HeadInv md ops n listed →
      (∀ j oj, ops[j]? = some oj → j ≠ i → listed.getD j true = false → (∀ e ∈ oj.after, Region.binds md e = true → e.on ≠ i) → oi.apart ops oj = true) →
      i ∈ Region.ready md ops listed → YieldsIn P ops C oi v a →
      wpAnyM P md ops C n L f (listed.setIfInBounds i true) (a.put oi.dst v) → wpAnyM P md ops C n L (f + 1) listed a := by
  intro f
  induction f with
  | zero =>
    intro listed a inv _ hr hy H
    refine ⟨List.ne_nil_of_mem hr, fun j hj => ⟨head_only hs hc hn inv hin hr j hj, ?_⟩⟩
    by_cases e : j = i
    · subst e; exact hy.qOp hi H
    · have h1 := hdone _ _ H j (ready_mono hj e)
      have h2 := head_only hs hc hn inv hin hr j hj
      omega
  | succ f ih =>
    intro listed a inv hfree hr hy H
    refine ⟨List.ne_nil_of_mem hr, fun j hj => ⟨head_only hs hc hn inv hin hr j hj, ?_⟩⟩
    by_cases e : j = i
    · subst e; exact hy.qOp hi H
    · obtain ⟨hun, oj, hoj, hall⟩ := mem_ready.1 hj
      have hap : oi.apart ops oj = true := hfree j oj hoj e hun fun q hq hb heq => by
        have h1 := hall q hq hb
        rw [heq, getD_both (mem_ready.1 hr).1] at h1
        cases h1
      refine qOp_mono (fun a' h3 => ih (listed.setIfInBounds j true) a' (inv.set hj (head_only hs hc hn inv hin hr j hj)) (fun k ok hk hki hunk hno => ?_) (ready_mono hr (Ne.symm e)) h3.1 ?_)
        (qOp_put hoj hap (fun cs b => hsel i oi cs b hi) (fun cs b => hsel j oj cs b hoj) hy (H.2 j (ready_mono hj e)).2)
      · refine hfree k ok hk hki ?_ hno
        by_cases e2 : j = k
        · subst e2; exact hun
        · rwa [getD_set_ne true e2] at hunk
      · rw [Array.setIfInBounds_comm _ _ e]; exact h3.2
theorem wpAnyM_lex {n g : Nat} {Lq : Act → Prop} (hsel : Region.noSelect ops = true) (hs : Region.sinkB md ops n = true) (hc : Region.chainB md ops n = true) (hn : n < ops.size) :
    ∀ (l : List Oper) (k : Nat) (listed : Array Bool) (a : Act), (∀ j, j < l.length → l[j]? = ops[k + j]?) → k + l.length = n → HeadInv md ops n listed →
    Region.lexHead md ops g l.length k listed = true → wpQuiet P ops C Lq l a → wpAnyM P md ops C n (fun listed' a' => Region.seqB md ops g n listed' = true ∧ Lq a') l.length listed a
  | [], k, listed, a, _, hk, _, hB, h => by
    obtain rfl : k = n := by simpa using hk
    exact ⟨by simpa [Region.lexHead] using hB, h⟩
  | o :: l, k, listed, a, hl, hk, inv, hB, h => by
    simp only [List.length_cons] at hk
    have h0 : ops[k]? = some o := by simpa using (hl 0 (by simp)).symm
    simp only [List.length_cons, Region.lexHead, Bool.and_eq_true] at hB
    have hr : k ∈ Region.ready md ops listed := by simpa using hB.1.1
    obtain ⟨v, hy, hK⟩ := yieldsIn_of_qOp (K := wpQuiet P ops C Lq l) h0 (by unfold qOp; simp only [h0]; exact h)
    refine wpAnyM_first h0 (Region.noSelect_spec hsel) hs hc hn (by omega) (fun listed' a' hL => seqB_ready hL.1) l.length listed a inv (Region.free_spec h0 hB.1.2) hr hy ?_
    refine wpAnyM_lex hsel hs hc hn l (k + 1) _ _ (fun j hj => ?_) (by omega) (inv.set hr (by omega)) hB.2 hK
    have := hl (j + 1) (by simp; omega)
    simpa [Nat.add_assoc, Nat.add_comm 1 j] using this
theorem wp_region_quiet_tail {id : Nat} {Q : Exit → Act → World → Prop} {a : Act} {w : World} {l : List Oper} (n : Nat) (hm : P.follows .mixedOrders = true) (hB : Region.lexTailB .any l.toArray n = true) (hC : C { w with drawn := w.drawn + 1 })
    (h : wpQuiet P l.toArray C (fun a' => ∀ w', C w' → wpList P l.toArray Q (l.drop n) a' w') (l.take n) a) : (Code.region id l.toArray true).wp P Q a w := by
  simp only [Region.lexTailB, Bool.and_eq_true, decide_eq_true_eq] at hB
  obtain ⟨⟨⟨⟨hsel, hn⟩, hs⟩, hc⟩, hlex⟩ := hB
  have hn' : n < l.length := by simpa using hn
  have ht : (l.take n).length = n := by simp; omega
  have hd : (l.drop n).length = l.toArray.size - n := by simp
  have H := wpAnyM_lex (md := .any) (g := l.toArray.size - n) hsel hs hc hn (l.take n) 0 (Array.replicate l.toArray.size false) a (fun j hj => by
    rw [ht] at hj
    simp [hj]) (by simpa using ht) ⟨by simp, fun j oj _ hl => (by rw [getD_replicate_false] at hl; cases hl), fun t _ ht' => getD_in (by simpa using ht') (getD_replicate_false _ _)⟩ (by rw [ht]; exact hlex) h
  have G := wpAny_of_M (Q' := Q) (g := l.toArray.size - n) (fun listed a' w' hw' hL => by
    have := wpAny_of_seq (md := .any) (Q' := Q) (l.drop n) n listed a' w' (fun j => by simp [List.getElem?_drop]) (by rw [hd]; exact hL.1) (hL.2 w' hw')
    rwa [hd] at this) _ _ _ _ hC H
  rw [ht, show n + (l.toArray.size - n) = l.toArray.size by omega] at G
  exact wp_region_any hm G
end
/-- So, at the class of later worlds. -/
theorem wp_region_later_tail {P : Program} {id : Nat} {Q : Exit → Act → World → Prop} {a : Act} {W : World} {x0 : Later W} {l : List Oper} (n : Nat) (hm : P.follows .mixedOrders = true) (hB : Region.lexTailB .any l.toArray n = true)
    (h : wpQuiet P l.toArray (fun w' => ∃ x : Later W, w' = x.1) (fun a' => ∀ w', (∃ x : Later W, w' = x.1) → wpList P l.toArray Q (l.drop n) a' w') (l.take n) a) : (Code.region id l.toArray true).wp P Q a x0.1 :=
  wp_region_quiet_tail (C := fun w' => ∃ x : Later W, w' = x.1) n hm hB ⟨⟨_, x0.2.drew⟩, rfl⟩ h
end Go.Proofs.YtlhgphokfpnfeaaGreatDoor
