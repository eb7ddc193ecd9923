/-
  Compute, Taken and Amo at every number, known or not.
-/
import Derived.Test.YthnjppfgdkiaaacAmo
namespace Go.Proofs.Ythnjppfgdkiaaac
open Go.ChangeShapes Go.WideShapes Go.ChangeAt Go.RowKit

theorem cp_out (k : Int) (a b : Int) (w : World) (h : k < 0 ∨ 97 ≤ k) :
    Calls Try.prog 12 #[.int .i64 k, .int .u64 a, .int .u64 b] w fun e w' => e = .returned (.tuple #[.int .u64 0, .bool false]) ∧ Below w.heap.size w w' := by
  rcases h with h | h
  · go_enter Try.func12, Try.ntmps12
    go_wp2
    go_ret2
    exact ⟨rfl, Below.refl _ _⟩
  · have h0 : 0 ≤ k := by omega
    go_enter Try.func12, Try.ntmps12
    go_wp2
    go_ret2
    exact ⟨rfl, Below.refl _ _⟩
theorem cp_isNil (w : World) : (binOp .eql 38 .nilFunc .nilFunc).run Try.prog w = .ok (.bool true) w := by kernel_rfl
theorem cp_nilField (w : World) : (Instr.field 40 (.agg #[.nilFunc]) 0).run Try.prog w = .ok .nilFunc w := by kernel_rfl
theorem cp_nil (k : Int) (a b : Int) (w : World) (h0 : 0 ≤ k) (h1 : k < 97)
    (hidx : ∀ w, (Instr.index 41 (.agg opsTab) (.int .i64 k)).run Try.prog w = .ok (.agg #[.nilFunc]) w) :
    Calls Try.prog 12 #[.int .i64 k, .int .u64 a, .int .u64 b] w fun e w' => e = .returned (.tuple #[.int .u64 0, .bool false]) ∧ Below w.heap.size w w' := by
  have hn := cp_isNil
  have hfl := cp_nilField
  go_enter Try.func12, Try.ntmps12
  go_wp2_with fail
  refine (operations_any _).mono ?_
  rintro e w' ⟨rfl, rfl⟩
  go_wp2_with fail
  go_ret2
  exact ⟨rfl, (Below.refl _ _).alloc (Nat.le_refl _) _⟩

theorem tn_out (k : Int) (a b : Int) (w : World) (h : k < 0 ∨ 97 ≤ k) :
    Calls Try.prog 13 #[.int .i64 k, .int .u64 a, .int .u64 b] w fun e w' => e = .returned (.tuple #[.bool false, .bool false]) ∧ Below w.heap.size w w' := by
  rcases h with h | h
  · go_enter Try.func13, Try.ntmps13
    go_wp2
    go_ret2
    exact ⟨rfl, Below.refl _ _⟩
  · have h0 : 0 ≤ k := by omega
    go_enter Try.func13, Try.ntmps13
    go_wp2
    go_ret2
    exact ⟨rfl, Below.refl _ _⟩
theorem tn_isNil (w : World) : (binOp .eql 43 .nilFunc .nilFunc).run Try.prog w = .ok (.bool true) w := by kernel_rfl
theorem tn_nilField (w : World) : (Instr.field 45 (.agg #[.nilFunc]) 0).run Try.prog w = .ok .nilFunc w := by kernel_rfl
theorem tn_nil (k : Int) (a b : Int) (w : World) (h0 : 0 ≤ k) (h1 : k < 97)
    (hidx : ∀ w, (Instr.index 46 (.agg brsTab) (.int .i64 k)).run Try.prog w = .ok (.agg #[.nilFunc]) w) :
    Calls Try.prog 13 #[.int .i64 k, .int .u64 a, .int .u64 b] w fun e w' => e = .returned (.tuple #[.bool false, .bool false]) ∧ Below w.heap.size w w' := by
  have hn := tn_isNil
  have hfl := tn_nilField
  go_enter Try.func13, Try.ntmps13
  go_wp2_with fail
  refine (branches_any _).mono ?_
  rintro e w' ⟨rfl, rfl⟩
  go_wp2_with fail
  go_ret2
  exact ⟨rfl, (Below.refl _ _).alloc (Nat.le_refl _) _⟩

theorem mo_out (k : Int) (a b : Int) (w : World) (h : k < 0 ∨ 97 ≤ k) :
    Calls Try.prog 14 #[.int .i64 k, .int .u64 a, .int .u64 b] w fun e w' => e = .returned (.tuple #[.int .u64 0, .bool false]) ∧ Below w.heap.size w w' := by
  rcases h with h | h
  · go_enter Try.func14, Try.ntmps14
    go_wp2
    go_ret2
    exact ⟨rfl, Below.refl _ _⟩
  · have h0 : 0 ≤ k := by omega
    go_enter Try.func14, Try.ntmps14
    go_wp2
    go_ret2
    exact ⟨rfl, Below.refl _ _⟩
theorem mo_isNil (w : World) : (binOp .eql 38 .nilFunc .nilFunc).run Try.prog w = .ok (.bool true) w := by kernel_rfl
theorem mo_nil (k : Int) (a b : Int) (w : World) (h0 : 0 ≤ k) (h1 : k < 97)
    (hidx : ∀ w, (Instr.index 50 (.agg amosTab) (.int .i64 k)).run Try.prog w = .ok (.agg #[.nilFunc, .bool false]) w) :
    Calls Try.prog 14 #[.int .i64 k, .int .u64 a, .int .u64 b] w fun e w' => e = .returned (.tuple #[.int .u64 0, .bool false]) ∧ Below w.heap.size w w' := by
  have hn := mo_isNil
  go_enter Try.func14, Try.ntmps14
  go_wp2_with fail
  refine (amos_any _).mono ?_
  rintro e w' ⟨rfl, rfl⟩
  go_wp2_with fail
  go_ret2
  exact ⟨rfl, ((Below.refl _ _).alloc (Nat.le_refl _) _).alloc (by simp) _⟩

def cK (k : Int) : Bool := decide ((22 ≤ k ∧ k < 50) ∨ (62 ≤ k ∧ k < 75))
def tK (k : Int) : Bool := decide (5 ≤ k ∧ k ≤ 10)
def mK (k : Int) : Bool := decide ((77 ≤ k ∧ k ≤ 85) ∨ (88 ≤ k ∧ k ≤ 96))
theorem cp_at (n : Nat) (hn : n < 97) : ∃ r : Int, ∀ w : World, Calls Try.prog 12 #[.int .i64 (n : Int), .int .u64 5, .int .u64 3] w fun e w' => e = .returned (.tuple #[.int .u64 r, .bool (cK n)]) ∧ Below w.heap.size w w' := by
  match n, hn with
  | 0, _ => exact ⟨_, fun w => cp_nil 0 5 3 w (by decide) (by decide) (fun _ => by kernel_rfl)⟩
  | 1, _ => exact ⟨_, fun w => cp_nil 1 5 3 w (by decide) (by decide) (fun _ => by kernel_rfl)⟩
  | 2, _ => exact ⟨_, fun w => cp_nil 2 5 3 w (by decide) (by decide) (fun _ => by kernel_rfl)⟩
  | 3, _ => exact ⟨_, fun w => cp_nil 3 5 3 w (by decide) (by decide) (fun _ => by kernel_rfl)⟩
  | 4, _ => exact ⟨_, fun w => cp_nil 4 5 3 w (by decide) (by decide) (fun _ => by kernel_rfl)⟩
  | 5, _ => exact ⟨_, fun w => cp_nil 5 5 3 w (by decide) (by decide) (fun _ => by kernel_rfl)⟩
  | 6, _ => exact ⟨_, fun w => cp_nil 6 5 3 w (by decide) (by decide) (fun _ => by kernel_rfl)⟩
  | 7, _ => exact ⟨_, fun w => cp_nil 7 5 3 w (by decide) (by decide) (fun _ => by kernel_rfl)⟩
  | 8, _ => exact ⟨_, fun w => cp_nil 8 5 3 w (by decide) (by decide) (fun _ => by kernel_rfl)⟩
  | 9, _ => exact ⟨_, fun w => cp_nil 9 5 3 w (by decide) (by decide) (fun _ => by kernel_rfl)⟩
  | 10, _ => exact ⟨_, fun w => cp_nil 10 5 3 w (by decide) (by decide) (fun _ => by kernel_rfl)⟩
  | 11, _ => exact ⟨_, fun w => cp_nil 11 5 3 w (by decide) (by decide) (fun _ => by kernel_rfl)⟩
  | 12, _ => exact ⟨_, fun w => cp_nil 12 5 3 w (by decide) (by decide) (fun _ => by kernel_rfl)⟩
  | 13, _ => exact ⟨_, fun w => cp_nil 13 5 3 w (by decide) (by decide) (fun _ => by kernel_rfl)⟩
  | 14, _ => exact ⟨_, fun w => cp_nil 14 5 3 w (by decide) (by decide) (fun _ => by kernel_rfl)⟩
  | 15, _ => exact ⟨_, fun w => cp_nil 15 5 3 w (by decide) (by decide) (fun _ => by kernel_rfl)⟩
  | 16, _ => exact ⟨_, fun w => cp_nil 16 5 3 w (by decide) (by decide) (fun _ => by kernel_rfl)⟩
  | 17, _ => exact ⟨_, fun w => cp_nil 17 5 3 w (by decide) (by decide) (fun _ => by kernel_rfl)⟩
  | 18, _ => exact ⟨_, fun w => cp_nil 18 5 3 w (by decide) (by decide) (fun _ => by kernel_rfl)⟩
  | 19, _ => exact ⟨_, fun w => cp_nil 19 5 3 w (by decide) (by decide) (fun _ => by kernel_rfl)⟩
  | 20, _ => exact ⟨_, fun w => cp_nil 20 5 3 w (by decide) (by decide) (fun _ => by kernel_rfl)⟩
  | 21, _ => exact ⟨_, fun w => cp_nil 21 5 3 w (by decide) (by decide) (fun _ => by kernel_rfl)⟩
  | 22, _ => exact ⟨_, fun w => c_addi 5#64 3#64 w⟩
  | 23, _ => exact ⟨_, fun w => c_slti 5#64 3#64 w⟩
  | 24, _ => exact ⟨_, fun w => c_sltui 5#64 3#64 w⟩
  | 25, _ => exact ⟨_, fun w => c_xori 5#64 3#64 w⟩
  | 26, _ => exact ⟨_, fun w => c_ori 5#64 3#64 w⟩
  | 27, _ => exact ⟨_, fun w => c_andi 5#64 3#64 w⟩
  | 28, _ => exact ⟨_, fun w => c_slli 5#64 3#64 w⟩
  | 29, _ => exact ⟨_, fun w => c_srli 5#64 3#64 w⟩
  | 30, _ => exact ⟨_, fun w => c_srai 5#64 3#64 w⟩
  | 31, _ => exact ⟨_, fun w => c_addwi 5#64 3#64 w⟩
  | 32, _ => exact ⟨_, fun w => c_sllwi 5#64 3#64 w⟩
  | 33, _ => exact ⟨_, fun w => c_srlwi 5#64 3#64 w⟩
  | 34, _ => exact ⟨_, fun w => c_srawi 5#64 3#64 w⟩
  | 35, _ => exact ⟨_, fun w => c_add 5#64 3#64 w⟩
  | 36, _ => exact ⟨_, fun w => c_sub 5#64 3#64 w⟩
  | 37, _ => exact ⟨_, fun w => c_sll 5#64 3#64 w⟩
  | 38, _ => exact ⟨_, fun w => c_slt 5#64 3#64 w⟩
  | 39, _ => exact ⟨_, fun w => c_sltu 5#64 3#64 w⟩
  | 40, _ => exact ⟨_, fun w => c_xor 5#64 3#64 w⟩
  | 41, _ => exact ⟨_, fun w => c_srl 5#64 3#64 w⟩
  | 42, _ => exact ⟨_, fun w => c_sra 5#64 3#64 w⟩
  | 43, _ => exact ⟨_, fun w => c_or 5#64 3#64 w⟩
  | 44, _ => exact ⟨_, fun w => c_and 5#64 3#64 w⟩
  | 45, _ => exact ⟨_, fun w => c_addw 5#64 3#64 w⟩
  | 46, _ => exact ⟨_, fun w => c_subw 5#64 3#64 w⟩
  | 47, _ => exact ⟨_, fun w => c_sllw 5#64 3#64 w⟩
  | 48, _ => exact ⟨_, fun w => c_srlw 5#64 3#64 w⟩
  | 49, _ => exact ⟨_, fun w => c_sraw 5#64 3#64 w⟩
  | 50, _ => exact ⟨_, fun w => cp_nil 50 5 3 w (by decide) (by decide) (fun _ => by kernel_rfl)⟩
  | 51, _ => exact ⟨_, fun w => cp_nil 51 5 3 w (by decide) (by decide) (fun _ => by kernel_rfl)⟩
  | 52, _ => exact ⟨_, fun w => cp_nil 52 5 3 w (by decide) (by decide) (fun _ => by kernel_rfl)⟩
  | 53, _ => exact ⟨_, fun w => cp_nil 53 5 3 w (by decide) (by decide) (fun _ => by kernel_rfl)⟩
  | 54, _ => exact ⟨_, fun w => cp_nil 54 5 3 w (by decide) (by decide) (fun _ => by kernel_rfl)⟩
  | 55, _ => exact ⟨_, fun w => cp_nil 55 5 3 w (by decide) (by decide) (fun _ => by kernel_rfl)⟩
  | 56, _ => exact ⟨_, fun w => cp_nil 56 5 3 w (by decide) (by decide) (fun _ => by kernel_rfl)⟩
  | 57, _ => exact ⟨_, fun w => cp_nil 57 5 3 w (by decide) (by decide) (fun _ => by kernel_rfl)⟩
  | 58, _ => exact ⟨_, fun w => cp_nil 58 5 3 w (by decide) (by decide) (fun _ => by kernel_rfl)⟩
  | 59, _ => exact ⟨_, fun w => cp_nil 59 5 3 w (by decide) (by decide) (fun _ => by kernel_rfl)⟩
  | 60, _ => exact ⟨_, fun w => cp_nil 60 5 3 w (by decide) (by decide) (fun _ => by kernel_rfl)⟩
  | 61, _ => exact ⟨_, fun w => cp_nil 61 5 3 w (by decide) (by decide) (fun _ => by kernel_rfl)⟩
  | 62, _ => exact ⟨_, fun w => c_mul 5#64 3#64 w⟩
  | 63, _ => exact ⟨_, fun w => c_mulh 5#64 3#64 w⟩
  | 64, _ => exact ⟨_, fun w => c_mulhsu 5#64 3#64 w⟩
  | 65, _ => exact ⟨_, fun w => c_mulhu 5#64 3#64 w⟩
  | 66, _ => exact ⟨_, fun w => c_div 5#64 3#64 w⟩
  | 67, _ => exact ⟨_, fun w => c_divu 5#64 3#64 w⟩
  | 68, _ => exact ⟨_, fun w => c_rem 5#64 3#64 w⟩
  | 69, _ => exact ⟨_, fun w => c_remu 5#64 3#64 w⟩
  | 70, _ => exact ⟨_, fun w => c_mulw 5#64 3#64 w⟩
  | 71, _ => exact ⟨_, fun w => c_divw 5#64 3#64 w⟩
  | 72, _ => exact ⟨_, fun w => c_divuw 5#64 3#64 w⟩
  | 73, _ => exact ⟨_, fun w => c_remw 5#64 3#64 w⟩
  | 74, _ => exact ⟨_, fun w => c_remuw 5#64 3#64 w⟩
  | 75, _ => exact ⟨_, fun w => cp_nil 75 5 3 w (by decide) (by decide) (fun _ => by kernel_rfl)⟩
  | 76, _ => exact ⟨_, fun w => cp_nil 76 5 3 w (by decide) (by decide) (fun _ => by kernel_rfl)⟩
  | 77, _ => exact ⟨_, fun w => cp_nil 77 5 3 w (by decide) (by decide) (fun _ => by kernel_rfl)⟩
  | 78, _ => exact ⟨_, fun w => cp_nil 78 5 3 w (by decide) (by decide) (fun _ => by kernel_rfl)⟩
  | 79, _ => exact ⟨_, fun w => cp_nil 79 5 3 w (by decide) (by decide) (fun _ => by kernel_rfl)⟩
  | 80, _ => exact ⟨_, fun w => cp_nil 80 5 3 w (by decide) (by decide) (fun _ => by kernel_rfl)⟩
  | 81, _ => exact ⟨_, fun w => cp_nil 81 5 3 w (by decide) (by decide) (fun _ => by kernel_rfl)⟩
  | 82, _ => exact ⟨_, fun w => cp_nil 82 5 3 w (by decide) (by decide) (fun _ => by kernel_rfl)⟩
  | 83, _ => exact ⟨_, fun w => cp_nil 83 5 3 w (by decide) (by decide) (fun _ => by kernel_rfl)⟩
  | 84, _ => exact ⟨_, fun w => cp_nil 84 5 3 w (by decide) (by decide) (fun _ => by kernel_rfl)⟩
  | 85, _ => exact ⟨_, fun w => cp_nil 85 5 3 w (by decide) (by decide) (fun _ => by kernel_rfl)⟩
  | 86, _ => exact ⟨_, fun w => cp_nil 86 5 3 w (by decide) (by decide) (fun _ => by kernel_rfl)⟩
  | 87, _ => exact ⟨_, fun w => cp_nil 87 5 3 w (by decide) (by decide) (fun _ => by kernel_rfl)⟩
  | 88, _ => exact ⟨_, fun w => cp_nil 88 5 3 w (by decide) (by decide) (fun _ => by kernel_rfl)⟩
  | 89, _ => exact ⟨_, fun w => cp_nil 89 5 3 w (by decide) (by decide) (fun _ => by kernel_rfl)⟩
  | 90, _ => exact ⟨_, fun w => cp_nil 90 5 3 w (by decide) (by decide) (fun _ => by kernel_rfl)⟩
  | 91, _ => exact ⟨_, fun w => cp_nil 91 5 3 w (by decide) (by decide) (fun _ => by kernel_rfl)⟩
  | 92, _ => exact ⟨_, fun w => cp_nil 92 5 3 w (by decide) (by decide) (fun _ => by kernel_rfl)⟩
  | 93, _ => exact ⟨_, fun w => cp_nil 93 5 3 w (by decide) (by decide) (fun _ => by kernel_rfl)⟩
  | 94, _ => exact ⟨_, fun w => cp_nil 94 5 3 w (by decide) (by decide) (fun _ => by kernel_rfl)⟩
  | 95, _ => exact ⟨_, fun w => cp_nil 95 5 3 w (by decide) (by decide) (fun _ => by kernel_rfl)⟩
  | 96, _ => exact ⟨_, fun w => cp_nil 96 5 3 w (by decide) (by decide) (fun _ => by kernel_rfl)⟩
  | m + 97, h => exact absurd h (by omega)
theorem cp_all (k : Int) : ∃ r : Int, ∀ w : World, Calls Try.prog 12 #[.int .i64 k, .int .u64 5, .int .u64 3] w fun e w' => e = .returned (.tuple #[.int .u64 r, .bool (cK k)]) ∧ Below w.heap.size w w' := by
  by_cases h : k < 0 ∨ 97 ≤ k
  · have hk : cK k = false := by unfold cK; simp only [decide_eq_false_iff_not]; omega
    rw [hk]
    exact ⟨_, fun w => cp_out k 5 3 w h⟩
  · obtain ⟨n, hn, hl⟩ : ∃ n : Nat, k = (n : Int) ∧ n < 97 := ⟨k.toNat, by omega, by omega⟩
    rw [hn]
    exact cp_at n hl
theorem tn_at (n : Nat) (hn : n < 97) : ∃ r : Bool, ∀ w : World, Calls Try.prog 13 #[.int .i64 (n : Int), .int .u64 5, .int .u64 3] w fun e w' => e = .returned (.tuple #[.bool r, .bool (tK n)]) ∧ Below w.heap.size w w' := by
  match n, hn with
  | 0, _ => exact ⟨_, fun w => tn_nil 0 5 3 w (by decide) (by decide) (fun _ => by kernel_rfl)⟩
  | 1, _ => exact ⟨_, fun w => tn_nil 1 5 3 w (by decide) (by decide) (fun _ => by kernel_rfl)⟩
  | 2, _ => exact ⟨_, fun w => tn_nil 2 5 3 w (by decide) (by decide) (fun _ => by kernel_rfl)⟩
  | 3, _ => exact ⟨_, fun w => tn_nil 3 5 3 w (by decide) (by decide) (fun _ => by kernel_rfl)⟩
  | 4, _ => exact ⟨_, fun w => tn_nil 4 5 3 w (by decide) (by decide) (fun _ => by kernel_rfl)⟩
  | 5, _ => exact ⟨_, fun w => t_1 5#64 3#64 w⟩
  | 6, _ => exact ⟨_, fun w => t_2 5#64 3#64 w⟩
  | 7, _ => exact ⟨_, fun w => t_3 5#64 3#64 w⟩
  | 8, _ => exact ⟨_, fun w => t_4 5#64 3#64 w⟩
  | 9, _ => exact ⟨_, fun w => t_5 5#64 3#64 w⟩
  | 10, _ => exact ⟨_, fun w => t_6 5#64 3#64 w⟩
  | 11, _ => exact ⟨_, fun w => tn_nil 11 5 3 w (by decide) (by decide) (fun _ => by kernel_rfl)⟩
  | 12, _ => exact ⟨_, fun w => tn_nil 12 5 3 w (by decide) (by decide) (fun _ => by kernel_rfl)⟩
  | 13, _ => exact ⟨_, fun w => tn_nil 13 5 3 w (by decide) (by decide) (fun _ => by kernel_rfl)⟩
  | 14, _ => exact ⟨_, fun w => tn_nil 14 5 3 w (by decide) (by decide) (fun _ => by kernel_rfl)⟩
  | 15, _ => exact ⟨_, fun w => tn_nil 15 5 3 w (by decide) (by decide) (fun _ => by kernel_rfl)⟩
  | 16, _ => exact ⟨_, fun w => tn_nil 16 5 3 w (by decide) (by decide) (fun _ => by kernel_rfl)⟩
  | 17, _ => exact ⟨_, fun w => tn_nil 17 5 3 w (by decide) (by decide) (fun _ => by kernel_rfl)⟩
  | 18, _ => exact ⟨_, fun w => tn_nil 18 5 3 w (by decide) (by decide) (fun _ => by kernel_rfl)⟩
  | 19, _ => exact ⟨_, fun w => tn_nil 19 5 3 w (by decide) (by decide) (fun _ => by kernel_rfl)⟩
  | 20, _ => exact ⟨_, fun w => tn_nil 20 5 3 w (by decide) (by decide) (fun _ => by kernel_rfl)⟩
  | 21, _ => exact ⟨_, fun w => tn_nil 21 5 3 w (by decide) (by decide) (fun _ => by kernel_rfl)⟩
  | 22, _ => exact ⟨_, fun w => tn_nil 22 5 3 w (by decide) (by decide) (fun _ => by kernel_rfl)⟩
  | 23, _ => exact ⟨_, fun w => tn_nil 23 5 3 w (by decide) (by decide) (fun _ => by kernel_rfl)⟩
  | 24, _ => exact ⟨_, fun w => tn_nil 24 5 3 w (by decide) (by decide) (fun _ => by kernel_rfl)⟩
  | 25, _ => exact ⟨_, fun w => tn_nil 25 5 3 w (by decide) (by decide) (fun _ => by kernel_rfl)⟩
  | 26, _ => exact ⟨_, fun w => tn_nil 26 5 3 w (by decide) (by decide) (fun _ => by kernel_rfl)⟩
  | 27, _ => exact ⟨_, fun w => tn_nil 27 5 3 w (by decide) (by decide) (fun _ => by kernel_rfl)⟩
  | 28, _ => exact ⟨_, fun w => tn_nil 28 5 3 w (by decide) (by decide) (fun _ => by kernel_rfl)⟩
  | 29, _ => exact ⟨_, fun w => tn_nil 29 5 3 w (by decide) (by decide) (fun _ => by kernel_rfl)⟩
  | 30, _ => exact ⟨_, fun w => tn_nil 30 5 3 w (by decide) (by decide) (fun _ => by kernel_rfl)⟩
  | 31, _ => exact ⟨_, fun w => tn_nil 31 5 3 w (by decide) (by decide) (fun _ => by kernel_rfl)⟩
  | 32, _ => exact ⟨_, fun w => tn_nil 32 5 3 w (by decide) (by decide) (fun _ => by kernel_rfl)⟩
  | 33, _ => exact ⟨_, fun w => tn_nil 33 5 3 w (by decide) (by decide) (fun _ => by kernel_rfl)⟩
  | 34, _ => exact ⟨_, fun w => tn_nil 34 5 3 w (by decide) (by decide) (fun _ => by kernel_rfl)⟩
  | 35, _ => exact ⟨_, fun w => tn_nil 35 5 3 w (by decide) (by decide) (fun _ => by kernel_rfl)⟩
  | 36, _ => exact ⟨_, fun w => tn_nil 36 5 3 w (by decide) (by decide) (fun _ => by kernel_rfl)⟩
  | 37, _ => exact ⟨_, fun w => tn_nil 37 5 3 w (by decide) (by decide) (fun _ => by kernel_rfl)⟩
  | 38, _ => exact ⟨_, fun w => tn_nil 38 5 3 w (by decide) (by decide) (fun _ => by kernel_rfl)⟩
  | 39, _ => exact ⟨_, fun w => tn_nil 39 5 3 w (by decide) (by decide) (fun _ => by kernel_rfl)⟩
  | 40, _ => exact ⟨_, fun w => tn_nil 40 5 3 w (by decide) (by decide) (fun _ => by kernel_rfl)⟩
  | 41, _ => exact ⟨_, fun w => tn_nil 41 5 3 w (by decide) (by decide) (fun _ => by kernel_rfl)⟩
  | 42, _ => exact ⟨_, fun w => tn_nil 42 5 3 w (by decide) (by decide) (fun _ => by kernel_rfl)⟩
  | 43, _ => exact ⟨_, fun w => tn_nil 43 5 3 w (by decide) (by decide) (fun _ => by kernel_rfl)⟩
  | 44, _ => exact ⟨_, fun w => tn_nil 44 5 3 w (by decide) (by decide) (fun _ => by kernel_rfl)⟩
  | 45, _ => exact ⟨_, fun w => tn_nil 45 5 3 w (by decide) (by decide) (fun _ => by kernel_rfl)⟩
  | 46, _ => exact ⟨_, fun w => tn_nil 46 5 3 w (by decide) (by decide) (fun _ => by kernel_rfl)⟩
  | 47, _ => exact ⟨_, fun w => tn_nil 47 5 3 w (by decide) (by decide) (fun _ => by kernel_rfl)⟩
  | 48, _ => exact ⟨_, fun w => tn_nil 48 5 3 w (by decide) (by decide) (fun _ => by kernel_rfl)⟩
  | 49, _ => exact ⟨_, fun w => tn_nil 49 5 3 w (by decide) (by decide) (fun _ => by kernel_rfl)⟩
  | 50, _ => exact ⟨_, fun w => tn_nil 50 5 3 w (by decide) (by decide) (fun _ => by kernel_rfl)⟩
  | 51, _ => exact ⟨_, fun w => tn_nil 51 5 3 w (by decide) (by decide) (fun _ => by kernel_rfl)⟩
  | 52, _ => exact ⟨_, fun w => tn_nil 52 5 3 w (by decide) (by decide) (fun _ => by kernel_rfl)⟩
  | 53, _ => exact ⟨_, fun w => tn_nil 53 5 3 w (by decide) (by decide) (fun _ => by kernel_rfl)⟩
  | 54, _ => exact ⟨_, fun w => tn_nil 54 5 3 w (by decide) (by decide) (fun _ => by kernel_rfl)⟩
  | 55, _ => exact ⟨_, fun w => tn_nil 55 5 3 w (by decide) (by decide) (fun _ => by kernel_rfl)⟩
  | 56, _ => exact ⟨_, fun w => tn_nil 56 5 3 w (by decide) (by decide) (fun _ => by kernel_rfl)⟩
  | 57, _ => exact ⟨_, fun w => tn_nil 57 5 3 w (by decide) (by decide) (fun _ => by kernel_rfl)⟩
  | 58, _ => exact ⟨_, fun w => tn_nil 58 5 3 w (by decide) (by decide) (fun _ => by kernel_rfl)⟩
  | 59, _ => exact ⟨_, fun w => tn_nil 59 5 3 w (by decide) (by decide) (fun _ => by kernel_rfl)⟩
  | 60, _ => exact ⟨_, fun w => tn_nil 60 5 3 w (by decide) (by decide) (fun _ => by kernel_rfl)⟩
  | 61, _ => exact ⟨_, fun w => tn_nil 61 5 3 w (by decide) (by decide) (fun _ => by kernel_rfl)⟩
  | 62, _ => exact ⟨_, fun w => tn_nil 62 5 3 w (by decide) (by decide) (fun _ => by kernel_rfl)⟩
  | 63, _ => exact ⟨_, fun w => tn_nil 63 5 3 w (by decide) (by decide) (fun _ => by kernel_rfl)⟩
  | 64, _ => exact ⟨_, fun w => tn_nil 64 5 3 w (by decide) (by decide) (fun _ => by kernel_rfl)⟩
  | 65, _ => exact ⟨_, fun w => tn_nil 65 5 3 w (by decide) (by decide) (fun _ => by kernel_rfl)⟩
  | 66, _ => exact ⟨_, fun w => tn_nil 66 5 3 w (by decide) (by decide) (fun _ => by kernel_rfl)⟩
  | 67, _ => exact ⟨_, fun w => tn_nil 67 5 3 w (by decide) (by decide) (fun _ => by kernel_rfl)⟩
  | 68, _ => exact ⟨_, fun w => tn_nil 68 5 3 w (by decide) (by decide) (fun _ => by kernel_rfl)⟩
  | 69, _ => exact ⟨_, fun w => tn_nil 69 5 3 w (by decide) (by decide) (fun _ => by kernel_rfl)⟩
  | 70, _ => exact ⟨_, fun w => tn_nil 70 5 3 w (by decide) (by decide) (fun _ => by kernel_rfl)⟩
  | 71, _ => exact ⟨_, fun w => tn_nil 71 5 3 w (by decide) (by decide) (fun _ => by kernel_rfl)⟩
  | 72, _ => exact ⟨_, fun w => tn_nil 72 5 3 w (by decide) (by decide) (fun _ => by kernel_rfl)⟩
  | 73, _ => exact ⟨_, fun w => tn_nil 73 5 3 w (by decide) (by decide) (fun _ => by kernel_rfl)⟩
  | 74, _ => exact ⟨_, fun w => tn_nil 74 5 3 w (by decide) (by decide) (fun _ => by kernel_rfl)⟩
  | 75, _ => exact ⟨_, fun w => tn_nil 75 5 3 w (by decide) (by decide) (fun _ => by kernel_rfl)⟩
  | 76, _ => exact ⟨_, fun w => tn_nil 76 5 3 w (by decide) (by decide) (fun _ => by kernel_rfl)⟩
  | 77, _ => exact ⟨_, fun w => tn_nil 77 5 3 w (by decide) (by decide) (fun _ => by kernel_rfl)⟩
  | 78, _ => exact ⟨_, fun w => tn_nil 78 5 3 w (by decide) (by decide) (fun _ => by kernel_rfl)⟩
  | 79, _ => exact ⟨_, fun w => tn_nil 79 5 3 w (by decide) (by decide) (fun _ => by kernel_rfl)⟩
  | 80, _ => exact ⟨_, fun w => tn_nil 80 5 3 w (by decide) (by decide) (fun _ => by kernel_rfl)⟩
  | 81, _ => exact ⟨_, fun w => tn_nil 81 5 3 w (by decide) (by decide) (fun _ => by kernel_rfl)⟩
  | 82, _ => exact ⟨_, fun w => tn_nil 82 5 3 w (by decide) (by decide) (fun _ => by kernel_rfl)⟩
  | 83, _ => exact ⟨_, fun w => tn_nil 83 5 3 w (by decide) (by decide) (fun _ => by kernel_rfl)⟩
  | 84, _ => exact ⟨_, fun w => tn_nil 84 5 3 w (by decide) (by decide) (fun _ => by kernel_rfl)⟩
  | 85, _ => exact ⟨_, fun w => tn_nil 85 5 3 w (by decide) (by decide) (fun _ => by kernel_rfl)⟩
  | 86, _ => exact ⟨_, fun w => tn_nil 86 5 3 w (by decide) (by decide) (fun _ => by kernel_rfl)⟩
  | 87, _ => exact ⟨_, fun w => tn_nil 87 5 3 w (by decide) (by decide) (fun _ => by kernel_rfl)⟩
  | 88, _ => exact ⟨_, fun w => tn_nil 88 5 3 w (by decide) (by decide) (fun _ => by kernel_rfl)⟩
  | 89, _ => exact ⟨_, fun w => tn_nil 89 5 3 w (by decide) (by decide) (fun _ => by kernel_rfl)⟩
  | 90, _ => exact ⟨_, fun w => tn_nil 90 5 3 w (by decide) (by decide) (fun _ => by kernel_rfl)⟩
  | 91, _ => exact ⟨_, fun w => tn_nil 91 5 3 w (by decide) (by decide) (fun _ => by kernel_rfl)⟩
  | 92, _ => exact ⟨_, fun w => tn_nil 92 5 3 w (by decide) (by decide) (fun _ => by kernel_rfl)⟩
  | 93, _ => exact ⟨_, fun w => tn_nil 93 5 3 w (by decide) (by decide) (fun _ => by kernel_rfl)⟩
  | 94, _ => exact ⟨_, fun w => tn_nil 94 5 3 w (by decide) (by decide) (fun _ => by kernel_rfl)⟩
  | 95, _ => exact ⟨_, fun w => tn_nil 95 5 3 w (by decide) (by decide) (fun _ => by kernel_rfl)⟩
  | 96, _ => exact ⟨_, fun w => tn_nil 96 5 3 w (by decide) (by decide) (fun _ => by kernel_rfl)⟩
  | m + 97, h => exact absurd h (by omega)
theorem tn_all (k : Int) : ∃ r : Bool, ∀ w : World, Calls Try.prog 13 #[.int .i64 k, .int .u64 5, .int .u64 3] w fun e w' => e = .returned (.tuple #[.bool r, .bool (tK k)]) ∧ Below w.heap.size w w' := by
  by_cases h : k < 0 ∨ 97 ≤ k
  · have hk : tK k = false := by unfold tK; simp only [decide_eq_false_iff_not]; omega
    rw [hk]
    exact ⟨_, fun w => tn_out k 5 3 w h⟩
  · obtain ⟨n, hn, hl⟩ : ∃ n : Nat, k = (n : Int) ∧ n < 97 := ⟨k.toNat, by omega, by omega⟩
    rw [hn]
    exact tn_at n hl
theorem mo_at (n : Nat) (hn : n < 97) : ∃ r : Int, ∀ w : World, Calls Try.prog 14 #[.int .i64 (n : Int), .int .u64 5, .int .u64 3] w fun e w' => e = .returned (.tuple #[.int .u64 r, .bool (mK n)]) ∧ Below w.heap.size w w' := by
  match n, hn with
  | 0, _ => exact ⟨_, fun w => mo_nil 0 5 3 w (by decide) (by decide) (fun _ => by kernel_rfl)⟩
  | 1, _ => exact ⟨_, fun w => mo_nil 1 5 3 w (by decide) (by decide) (fun _ => by kernel_rfl)⟩
  | 2, _ => exact ⟨_, fun w => mo_nil 2 5 3 w (by decide) (by decide) (fun _ => by kernel_rfl)⟩
  | 3, _ => exact ⟨_, fun w => mo_nil 3 5 3 w (by decide) (by decide) (fun _ => by kernel_rfl)⟩
  | 4, _ => exact ⟨_, fun w => mo_nil 4 5 3 w (by decide) (by decide) (fun _ => by kernel_rfl)⟩
  | 5, _ => exact ⟨_, fun w => mo_nil 5 5 3 w (by decide) (by decide) (fun _ => by kernel_rfl)⟩
  | 6, _ => exact ⟨_, fun w => mo_nil 6 5 3 w (by decide) (by decide) (fun _ => by kernel_rfl)⟩
  | 7, _ => exact ⟨_, fun w => mo_nil 7 5 3 w (by decide) (by decide) (fun _ => by kernel_rfl)⟩
  | 8, _ => exact ⟨_, fun w => mo_nil 8 5 3 w (by decide) (by decide) (fun _ => by kernel_rfl)⟩
  | 9, _ => exact ⟨_, fun w => mo_nil 9 5 3 w (by decide) (by decide) (fun _ => by kernel_rfl)⟩
  | 10, _ => exact ⟨_, fun w => mo_nil 10 5 3 w (by decide) (by decide) (fun _ => by kernel_rfl)⟩
  | 11, _ => exact ⟨_, fun w => mo_nil 11 5 3 w (by decide) (by decide) (fun _ => by kernel_rfl)⟩
  | 12, _ => exact ⟨_, fun w => mo_nil 12 5 3 w (by decide) (by decide) (fun _ => by kernel_rfl)⟩
  | 13, _ => exact ⟨_, fun w => mo_nil 13 5 3 w (by decide) (by decide) (fun _ => by kernel_rfl)⟩
  | 14, _ => exact ⟨_, fun w => mo_nil 14 5 3 w (by decide) (by decide) (fun _ => by kernel_rfl)⟩
  | 15, _ => exact ⟨_, fun w => mo_nil 15 5 3 w (by decide) (by decide) (fun _ => by kernel_rfl)⟩
  | 16, _ => exact ⟨_, fun w => mo_nil 16 5 3 w (by decide) (by decide) (fun _ => by kernel_rfl)⟩
  | 17, _ => exact ⟨_, fun w => mo_nil 17 5 3 w (by decide) (by decide) (fun _ => by kernel_rfl)⟩
  | 18, _ => exact ⟨_, fun w => mo_nil 18 5 3 w (by decide) (by decide) (fun _ => by kernel_rfl)⟩
  | 19, _ => exact ⟨_, fun w => mo_nil 19 5 3 w (by decide) (by decide) (fun _ => by kernel_rfl)⟩
  | 20, _ => exact ⟨_, fun w => mo_nil 20 5 3 w (by decide) (by decide) (fun _ => by kernel_rfl)⟩
  | 21, _ => exact ⟨_, fun w => mo_nil 21 5 3 w (by decide) (by decide) (fun _ => by kernel_rfl)⟩
  | 22, _ => exact ⟨_, fun w => mo_nil 22 5 3 w (by decide) (by decide) (fun _ => by kernel_rfl)⟩
  | 23, _ => exact ⟨_, fun w => mo_nil 23 5 3 w (by decide) (by decide) (fun _ => by kernel_rfl)⟩
  | 24, _ => exact ⟨_, fun w => mo_nil 24 5 3 w (by decide) (by decide) (fun _ => by kernel_rfl)⟩
  | 25, _ => exact ⟨_, fun w => mo_nil 25 5 3 w (by decide) (by decide) (fun _ => by kernel_rfl)⟩
  | 26, _ => exact ⟨_, fun w => mo_nil 26 5 3 w (by decide) (by decide) (fun _ => by kernel_rfl)⟩
  | 27, _ => exact ⟨_, fun w => mo_nil 27 5 3 w (by decide) (by decide) (fun _ => by kernel_rfl)⟩
  | 28, _ => exact ⟨_, fun w => mo_nil 28 5 3 w (by decide) (by decide) (fun _ => by kernel_rfl)⟩
  | 29, _ => exact ⟨_, fun w => mo_nil 29 5 3 w (by decide) (by decide) (fun _ => by kernel_rfl)⟩
  | 30, _ => exact ⟨_, fun w => mo_nil 30 5 3 w (by decide) (by decide) (fun _ => by kernel_rfl)⟩
  | 31, _ => exact ⟨_, fun w => mo_nil 31 5 3 w (by decide) (by decide) (fun _ => by kernel_rfl)⟩
  | 32, _ => exact ⟨_, fun w => mo_nil 32 5 3 w (by decide) (by decide) (fun _ => by kernel_rfl)⟩
  | 33, _ => exact ⟨_, fun w => mo_nil 33 5 3 w (by decide) (by decide) (fun _ => by kernel_rfl)⟩
  | 34, _ => exact ⟨_, fun w => mo_nil 34 5 3 w (by decide) (by decide) (fun _ => by kernel_rfl)⟩
  | 35, _ => exact ⟨_, fun w => mo_nil 35 5 3 w (by decide) (by decide) (fun _ => by kernel_rfl)⟩
  | 36, _ => exact ⟨_, fun w => mo_nil 36 5 3 w (by decide) (by decide) (fun _ => by kernel_rfl)⟩
  | 37, _ => exact ⟨_, fun w => mo_nil 37 5 3 w (by decide) (by decide) (fun _ => by kernel_rfl)⟩
  | 38, _ => exact ⟨_, fun w => mo_nil 38 5 3 w (by decide) (by decide) (fun _ => by kernel_rfl)⟩
  | 39, _ => exact ⟨_, fun w => mo_nil 39 5 3 w (by decide) (by decide) (fun _ => by kernel_rfl)⟩
  | 40, _ => exact ⟨_, fun w => mo_nil 40 5 3 w (by decide) (by decide) (fun _ => by kernel_rfl)⟩
  | 41, _ => exact ⟨_, fun w => mo_nil 41 5 3 w (by decide) (by decide) (fun _ => by kernel_rfl)⟩
  | 42, _ => exact ⟨_, fun w => mo_nil 42 5 3 w (by decide) (by decide) (fun _ => by kernel_rfl)⟩
  | 43, _ => exact ⟨_, fun w => mo_nil 43 5 3 w (by decide) (by decide) (fun _ => by kernel_rfl)⟩
  | 44, _ => exact ⟨_, fun w => mo_nil 44 5 3 w (by decide) (by decide) (fun _ => by kernel_rfl)⟩
  | 45, _ => exact ⟨_, fun w => mo_nil 45 5 3 w (by decide) (by decide) (fun _ => by kernel_rfl)⟩
  | 46, _ => exact ⟨_, fun w => mo_nil 46 5 3 w (by decide) (by decide) (fun _ => by kernel_rfl)⟩
  | 47, _ => exact ⟨_, fun w => mo_nil 47 5 3 w (by decide) (by decide) (fun _ => by kernel_rfl)⟩
  | 48, _ => exact ⟨_, fun w => mo_nil 48 5 3 w (by decide) (by decide) (fun _ => by kernel_rfl)⟩
  | 49, _ => exact ⟨_, fun w => mo_nil 49 5 3 w (by decide) (by decide) (fun _ => by kernel_rfl)⟩
  | 50, _ => exact ⟨_, fun w => mo_nil 50 5 3 w (by decide) (by decide) (fun _ => by kernel_rfl)⟩
  | 51, _ => exact ⟨_, fun w => mo_nil 51 5 3 w (by decide) (by decide) (fun _ => by kernel_rfl)⟩
  | 52, _ => exact ⟨_, fun w => mo_nil 52 5 3 w (by decide) (by decide) (fun _ => by kernel_rfl)⟩
  | 53, _ => exact ⟨_, fun w => mo_nil 53 5 3 w (by decide) (by decide) (fun _ => by kernel_rfl)⟩
  | 54, _ => exact ⟨_, fun w => mo_nil 54 5 3 w (by decide) (by decide) (fun _ => by kernel_rfl)⟩
  | 55, _ => exact ⟨_, fun w => mo_nil 55 5 3 w (by decide) (by decide) (fun _ => by kernel_rfl)⟩
  | 56, _ => exact ⟨_, fun w => mo_nil 56 5 3 w (by decide) (by decide) (fun _ => by kernel_rfl)⟩
  | 57, _ => exact ⟨_, fun w => mo_nil 57 5 3 w (by decide) (by decide) (fun _ => by kernel_rfl)⟩
  | 58, _ => exact ⟨_, fun w => mo_nil 58 5 3 w (by decide) (by decide) (fun _ => by kernel_rfl)⟩
  | 59, _ => exact ⟨_, fun w => mo_nil 59 5 3 w (by decide) (by decide) (fun _ => by kernel_rfl)⟩
  | 60, _ => exact ⟨_, fun w => mo_nil 60 5 3 w (by decide) (by decide) (fun _ => by kernel_rfl)⟩
  | 61, _ => exact ⟨_, fun w => mo_nil 61 5 3 w (by decide) (by decide) (fun _ => by kernel_rfl)⟩
  | 62, _ => exact ⟨_, fun w => mo_nil 62 5 3 w (by decide) (by decide) (fun _ => by kernel_rfl)⟩
  | 63, _ => exact ⟨_, fun w => mo_nil 63 5 3 w (by decide) (by decide) (fun _ => by kernel_rfl)⟩
  | 64, _ => exact ⟨_, fun w => mo_nil 64 5 3 w (by decide) (by decide) (fun _ => by kernel_rfl)⟩
  | 65, _ => exact ⟨_, fun w => mo_nil 65 5 3 w (by decide) (by decide) (fun _ => by kernel_rfl)⟩
  | 66, _ => exact ⟨_, fun w => mo_nil 66 5 3 w (by decide) (by decide) (fun _ => by kernel_rfl)⟩
  | 67, _ => exact ⟨_, fun w => mo_nil 67 5 3 w (by decide) (by decide) (fun _ => by kernel_rfl)⟩
  | 68, _ => exact ⟨_, fun w => mo_nil 68 5 3 w (by decide) (by decide) (fun _ => by kernel_rfl)⟩
  | 69, _ => exact ⟨_, fun w => mo_nil 69 5 3 w (by decide) (by decide) (fun _ => by kernel_rfl)⟩
  | 70, _ => exact ⟨_, fun w => mo_nil 70 5 3 w (by decide) (by decide) (fun _ => by kernel_rfl)⟩
  | 71, _ => exact ⟨_, fun w => mo_nil 71 5 3 w (by decide) (by decide) (fun _ => by kernel_rfl)⟩
  | 72, _ => exact ⟨_, fun w => mo_nil 72 5 3 w (by decide) (by decide) (fun _ => by kernel_rfl)⟩
  | 73, _ => exact ⟨_, fun w => mo_nil 73 5 3 w (by decide) (by decide) (fun _ => by kernel_rfl)⟩
  | 74, _ => exact ⟨_, fun w => mo_nil 74 5 3 w (by decide) (by decide) (fun _ => by kernel_rfl)⟩
  | 75, _ => exact ⟨_, fun w => mo_nil 75 5 3 w (by decide) (by decide) (fun _ => by kernel_rfl)⟩
  | 76, _ => exact ⟨_, fun w => mo_nil 76 5 3 w (by decide) (by decide) (fun _ => by kernel_rfl)⟩
  | 77, _ => exact ⟨_, fun w => m_swapW 5#64 3#64 w⟩
  | 78, _ => exact ⟨_, fun w => m_addW 5#64 3#64 w⟩
  | 79, _ => exact ⟨_, fun w => m_xorW 5#64 3#64 w⟩
  | 80, _ => exact ⟨_, fun w => m_andW 5#64 3#64 w⟩
  | 81, _ => exact ⟨_, fun w => m_orW 5#64 3#64 w⟩
  | 82, _ => exact ⟨_, fun w => m_lesserW 5#64 3#64 w⟩
  | 83, _ => exact ⟨_, fun w => m_greaterW 5#64 3#64 w⟩
  | 84, _ => exact ⟨_, fun w => m_lesserPlainW 5#64 3#64 w⟩
  | 85, _ => exact ⟨_, fun w => m_greaterPlainW 5#64 3#64 w⟩
  | 86, _ => exact ⟨_, fun w => mo_nil 86 5 3 w (by decide) (by decide) (fun _ => by kernel_rfl)⟩
  | 87, _ => exact ⟨_, fun w => mo_nil 87 5 3 w (by decide) (by decide) (fun _ => by kernel_rfl)⟩
  | 88, _ => exact ⟨_, fun w => m_swapD 5#64 3#64 w⟩
  | 89, _ => exact ⟨_, fun w => m_addD 5#64 3#64 w⟩
  | 90, _ => exact ⟨_, fun w => m_xorD 5#64 3#64 w⟩
  | 91, _ => exact ⟨_, fun w => m_andD 5#64 3#64 w⟩
  | 92, _ => exact ⟨_, fun w => m_orD 5#64 3#64 w⟩
  | 93, _ => exact ⟨_, fun w => m_lesserD 5#64 3#64 w⟩
  | 94, _ => exact ⟨_, fun w => m_greaterD 5#64 3#64 w⟩
  | 95, _ => exact ⟨_, fun w => m_lesserPlainD 5#64 3#64 w⟩
  | 96, _ => exact ⟨_, fun w => m_greaterPlainD 5#64 3#64 w⟩
  | m + 97, h => exact absurd h (by omega)
theorem mo_all (k : Int) : ∃ r : Int, ∀ w : World, Calls Try.prog 14 #[.int .i64 k, .int .u64 5, .int .u64 3] w fun e w' => e = .returned (.tuple #[.int .u64 r, .bool (mK k)]) ∧ Below w.heap.size w w' := by
  by_cases h : k < 0 ∨ 97 ≤ k
  · have hk : mK k = false := by unfold mK; simp only [decide_eq_false_iff_not]; omega
    rw [hk]
    exact ⟨_, fun w => mo_out k 5 3 w h⟩
  · obtain ⟨n, hn, hl⟩ : ∃ n : Nat, k = (n : Int) ∧ n < 97 := ⟨k.toNat, by omega, by omega⟩
    rw [hn]
    exact mo_at n hl
end Go.Proofs.Ythnjppfgdkiaaac
