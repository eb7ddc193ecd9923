/-
  The branches' table, Taken at each number, and the law's own 'taken'.
-/
import Derived.Test.YthnjppfgdkiaaacLeaf2
namespace Go.Proofs.Ythnjppfgdkiaaac
open Go.ChangeShapes Go.WideShapes Go.ChangeAt Go.RowKit

def brsTab : Array Value := #[.nilFunc, .nilFunc, .nilFunc, .nilFunc, .nilFunc, fv 57, fv 58, fv 59, fv 60, fv 61, fv 62, .nilFunc, .nilFunc, .nilFunc, .nilFunc, .nilFunc, .nilFunc, .nilFunc, .nilFunc, .nilFunc, .nilFunc, .nilFunc, .nilFunc, .nilFunc, .nilFunc, .nilFunc, .nilFunc, .nilFunc, .nilFunc, .nilFunc, .nilFunc, .nilFunc, .nilFunc, .nilFunc, .nilFunc, .nilFunc, .nilFunc, .nilFunc, .nilFunc, .nilFunc, .nilFunc, .nilFunc, .nilFunc, .nilFunc, .nilFunc, .nilFunc, .nilFunc, .nilFunc, .nilFunc, .nilFunc, .nilFunc, .nilFunc, .nilFunc, .nilFunc, .nilFunc, .nilFunc, .nilFunc, .nilFunc, .nilFunc, .nilFunc, .nilFunc, .nilFunc, .nilFunc, .nilFunc, .nilFunc, .nilFunc, .nilFunc, .nilFunc, .nilFunc, .nilFunc, .nilFunc, .nilFunc, .nilFunc, .nilFunc, .nilFunc, .nilFunc, .nilFunc, .nilFunc, .nilFunc, .nilFunc, .nilFunc, .nilFunc, .nilFunc, .nilFunc, .nilFunc, .nilFunc, .nilFunc, .nilFunc, .nilFunc, .nilFunc, .nilFunc, .nilFunc, .nilFunc, .nilFunc, .nilFunc, .nilFunc, .nilFunc]
theorem brsSize : (Try.prog.info? 46).map (·.size) = some brsTab.size := by kernel_rfl
theorem brsZero : Try.zeroCells46.size = brsTab.size := by kernel_rfl
theorem brsOne : brsTab.all (·.oneCell') = true := by kernel_rfl
theorem branches_any (w : World) : Calls Try.prog 19 #[] w fun e w' => e = .returned (.agg brsTab) ∧ w' = w.alloc (.cells brsTab 46) := by
  go_enter Try.func19, Try.ntmps19
  go_wp2_with (first
    | (refine wpList_build_tab (by rfl) 46 _ (by rfl) brsTab (by kernel_rfl) ?_)
    | (refine wpList_store_new (by rfl) 46 _ _ (by rfl) (by rfl) Try.zeroCells46 brsTab (by rfl) (by rfl) brsSize brsZero brsOne ?_))
  exact bodyPost_ret (v := .agg brsTab) (results_cell_row Try.results19 _ _ w.heap.size 46 brsTab (0, 0) _ (by rfl) (heap_alloc_last w _) Try.underlying46 (by rfl) brsSize) rfl ⟨rfl, rfl⟩
theorem brsField (f : Nat) (w : World) : (Instr.field 45 (.agg #[.func (.func f) #[] #[]]) 0).run Try.prog w = .ok (.func (.func f) #[] #[]) w := by kernel_rfl
theorem brsNotNil (f : Nat) (w : World) : (binOp .eql 43 (.func (.func f) #[] #[]) .nilFunc).run Try.prog w = .ok (.bool false) w := by kernel_rfl

theorem taken_of (k : Int) (f : Nat) (a b : Int) (r : Bool) (w : World) (h0 : 0 ≤ k) (h1 : k < 97)
    (hidx : ∀ w, (Instr.index 46 (.agg brsTab) (.int .i64 k)).run Try.prog w = .ok (.agg #[.func (.func f) #[] #[]]) w)
    (hcf : ∀ w, (callFunc f #[.int .u64 a, .int .u64 b]).run Try.prog w = .ok (.enter f #[.int .u64 a, .int .u64 b]) w)
    (hf : ∀ w, Calls Try.prog f #[.int .u64 a, .int .u64 b] w fun e w' => e = .returned (.bool r) ∧ w' = w) :
    Calls Try.prog 13 #[.int .i64 k, .int .u64 a, .int .u64 b] w fun e w' => e = .returned (.tuple #[.bool r, .bool true]) ∧ Below w.heap.size w w' := by
  have hfld := brsField f
  have hnil := brsNotNil f
  go_enter Try.func13, Try.ntmps13
  go_wp2_with fail
  refine (branches_any _).mono ?_
  rintro e w' ⟨rfl, rfl⟩
  go_wp2_with fail
  refine (hf _).mono ?_
  rintro e w' ⟨rfl, rfl⟩
  go_wp2_with fail
  go_ret2
  exact ⟨rfl, (Below.refl _ _).alloc (Nat.le_refl _) _⟩

def uLt (x y : BitVec 64) : Bool := decide (n64 x < n64 y)
def sLt (x y : BitVec 64) : Bool := decide (x.toInt < y.toInt)
def eqB (x y : BitVec 64) : Bool := n64 x == n64 y
theorem ret_bool {a b : Bool} (h : a = b) : Ending.returned (.bool a) = .returned (.bool b) := by rw [h]

theorem br1 (x y : BitVec 64) (w : World) : Calls Try.prog 57 #[.int .u64 (n64 x), .int .u64 (n64 y)] w fun e w' => e = .returned (.bool (eqB x y)) ∧ w' = w := by
  go_enter Try.func57, Try.ntmps57
  go_wp2
  go_ret
  exact ⟨rfl, rfl⟩
theorem br2 (x y : BitVec 64) (w : World) : Calls Try.prog 58 #[.int .u64 (n64 x), .int .u64 (n64 y)] w fun e w' => e = .returned (.bool (!eqB x y)) ∧ w' = w := by
  go_enter Try.func58, Try.ntmps58
  go_wp2
  go_ret
  exact ⟨rfl, rfl⟩
theorem br3 (x y : BitVec 64) (w : World) : Calls Try.prog 59 #[.int .u64 (n64 x), .int .u64 (n64 y)] w fun e w' => e = .returned (.bool (sLt x y)) ∧ w' = w := by
  go_enter Try.func59, Try.ntmps59
  go_wp2
  go_ret
  exact ⟨ret_bool (by unfold sLt; rw [wrap64_n64, wrap64_n64]), rfl⟩
theorem br4 (x y : BitVec 64) (w : World) : Calls Try.prog 60 #[.int .u64 (n64 x), .int .u64 (n64 y)] w fun e w' => e = .returned (.bool (!sLt x y)) ∧ w' = w := by
  go_enter Try.func60, Try.ntmps60
  go_wp2
  go_ret
  exact ⟨ret_bool (by unfold sLt; rw [wrap64_n64, wrap64_n64, Bool.eq_iff_iff]; simp), rfl⟩
theorem br5 (x y : BitVec 64) (w : World) : Calls Try.prog 61 #[.int .u64 (n64 x), .int .u64 (n64 y)] w fun e w' => e = .returned (.bool (uLt x y)) ∧ w' = w := by
  go_enter Try.func61, Try.ntmps61
  go_wp2
  go_ret
  exact ⟨rfl, rfl⟩
theorem br6 (x y : BitVec 64) (w : World) : Calls Try.prog 62 #[.int .u64 (n64 x), .int .u64 (n64 y)] w fun e w' => e = .returned (.bool (!uLt x y)) ∧ w' = w := by
  go_enter Try.func62, Try.ntmps62
  go_wp2
  go_ret
  exact ⟨ret_bool (by unfold uLt; rw [Bool.eq_iff_iff]; simp), rfl⟩

theorem t_1 (x y : BitVec 64) (w : World) : Calls Try.prog 13 #[.int .i64 5, .int .u64 (n64 x), .int .u64 (n64 y)] w fun e w' => e = .returned (.tuple #[.bool (eqB x y), .bool true]) ∧ Below w.heap.size w w' :=
  taken_of 5 57 _ _ _ w (by decide) (by decide) (fun _ => by kernel_rfl) (fun _ => by kernel_rfl) (fun w => br1 x y w)
theorem t_2 (x y : BitVec 64) (w : World) : Calls Try.prog 13 #[.int .i64 6, .int .u64 (n64 x), .int .u64 (n64 y)] w fun e w' => e = .returned (.tuple #[.bool (!eqB x y), .bool true]) ∧ Below w.heap.size w w' :=
  taken_of 6 58 _ _ _ w (by decide) (by decide) (fun _ => by kernel_rfl) (fun _ => by kernel_rfl) (fun w => br2 x y w)
theorem t_3 (x y : BitVec 64) (w : World) : Calls Try.prog 13 #[.int .i64 7, .int .u64 (n64 x), .int .u64 (n64 y)] w fun e w' => e = .returned (.tuple #[.bool (sLt x y), .bool true]) ∧ Below w.heap.size w w' :=
  taken_of 7 59 _ _ _ w (by decide) (by decide) (fun _ => by kernel_rfl) (fun _ => by kernel_rfl) (fun w => br3 x y w)
theorem t_4 (x y : BitVec 64) (w : World) : Calls Try.prog 13 #[.int .i64 8, .int .u64 (n64 x), .int .u64 (n64 y)] w fun e w' => e = .returned (.tuple #[.bool (!sLt x y), .bool true]) ∧ Below w.heap.size w w' :=
  taken_of 8 60 _ _ _ w (by decide) (by decide) (fun _ => by kernel_rfl) (fun _ => by kernel_rfl) (fun w => br4 x y w)
theorem t_5 (x y : BitVec 64) (w : World) : Calls Try.prog 13 #[.int .i64 9, .int .u64 (n64 x), .int .u64 (n64 y)] w fun e w' => e = .returned (.tuple #[.bool (uLt x y), .bool true]) ∧ Below w.heap.size w w' :=
  taken_of 9 61 _ _ _ w (by decide) (by decide) (fun _ => by kernel_rfl) (fun _ => by kernel_rfl) (fun w => br5 x y w)
theorem t_6 (x y : BitVec 64) (w : World) : Calls Try.prog 13 #[.int .i64 10, .int .u64 (n64 x), .int .u64 (n64 y)] w fun e w' => e = .returned (.tuple #[.bool (!uLt x y), .bool true]) ∧ Below w.heap.size w w' :=
  taken_of 10 62 _ _ _ w (by decide) (by decide) (fun _ => by kernel_rfl) (fun _ => by kernel_rfl) (fun w => br6 x y w)
end Go.Proofs.Ythnjppfgdkiaaac
