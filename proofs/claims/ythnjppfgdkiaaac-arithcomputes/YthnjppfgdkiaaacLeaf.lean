/-
  A contract for each function that the table names, over words as bit vectors; and 'op' at each number of the table.
-/
import Derived.Test.YthnjppfgdkiaaacNum
import Derived.Test.YthnjppfgdkiaaacOps
namespace Go.Proofs.Ythnjppfgdkiaaac
open Go.ChangeShapes Go.WideShapes Go.ChangeAt Go.RowKit

theorem add_any (x y : BitVec 64) (w : World) : Calls Try.prog 29 #[.int .u64 (n64 x), .int .u64 (n64 y)] w fun e w' => e = .returned (.int .u64 (n64 (x + y))) ∧ w' = w := by
  go_enter Try.func29, Try.ntmps29
  go_wp2
  go_ret
  exact ⟨ret_int (n64_add x y), rfl⟩

theorem sub_any (x y : BitVec 64) (w : World) : Calls Try.prog 30 #[.int .u64 (n64 x), .int .u64 (n64 y)] w fun e w' => e = .returned (.int .u64 (n64 (x - y))) ∧ w' = w := by
  go_enter Try.func30, Try.ntmps30
  go_wp2
  go_ret
  exact ⟨ret_int (n64_sub x y), rfl⟩

theorem mul_any (x y : BitVec 64) (w : World) : Calls Try.prog 44 #[.int .u64 (n64 x), .int .u64 (n64 y)] w fun e w' => e = .returned (.int .u64 (n64 (x * y))) ∧ w' = w := by
  go_enter Try.func44, Try.ntmps44
  go_wp2
  go_ret
  exact ⟨ret_int (n64_mul x y), rfl⟩

theorem and_any (x y : BitVec 64) (w : World) : Calls Try.prog 38 #[.int .u64 (n64 x), .int .u64 (n64 y)] w fun e w' => e = .returned (.int .u64 (n64 (x &&& y))) ∧ w' = w := by
  go_enter Try.func38, Try.ntmps38
  go_wp2
  go_ret
  exact ⟨ret_int (n64_and x y), rfl⟩

theorem or_any (x y : BitVec 64) (w : World) : Calls Try.prog 37 #[.int .u64 (n64 x), .int .u64 (n64 y)] w fun e w' => e = .returned (.int .u64 (n64 (x ||| y))) ∧ w' = w := by
  go_enter Try.func37, Try.ntmps37
  go_wp2
  go_ret
  exact ⟨ret_int (n64_or x y), rfl⟩

theorem xor_any (x y : BitVec 64) (w : World) : Calls Try.prog 36 #[.int .u64 (n64 x), .int .u64 (n64 y)] w fun e w' => e = .returned (.int .u64 (n64 (x ^^^ y))) ∧ w' = w := by
  go_enter Try.func36, Try.ntmps36
  go_wp2
  go_ret
  exact ⟨ret_int (n64_xor x y), rfl⟩

theorem sll_int (x : BitVec 64) (b : Int) (hb : 0 ≤ b) (hb' : b ≤ 18446744073709551615) (w : World) : Calls Try.prog 31 #[.int .u64 (n64 x), .int .u64 b] w fun e w' => e = .returned (.int .u64 (n64 (x <<< (b % 64).toNat))) ∧ w' = w := by
  have hx := n64_lo x; have hx' := n64_hi x
  go_enter Try.func31, Try.ntmps31
  go_wp2
  go_ret
  exact ⟨ret_int (n64_shl x _), rfl⟩
theorem sll_any (x y : BitVec 64) (w : World) : Calls Try.prog 31 #[.int .u64 (n64 x), .int .u64 (n64 y)] w fun e w' => e = .returned (.int .u64 (n64 (x <<< (n64 y % 64).toNat))) ∧ w' = w :=
  sll_int x (n64 y) (n64_lo y) (n64_hi y) w

theorem srl_int (x : BitVec 64) (b : Int) (hb : 0 ≤ b) (hb' : b ≤ 18446744073709551615) (w : World) : Calls Try.prog 32 #[.int .u64 (n64 x), .int .u64 b] w fun e w' => e = .returned (.int .u64 (n64 (x >>> (b % 64).toNat))) ∧ w' = w := by
  have hx := n64_lo x; have hx' := n64_hi x
  go_enter Try.func32, Try.ntmps32
  go_wp2
  go_ret
  exact ⟨ret_int (n64_shr x _), rfl⟩
theorem srl_any (x y : BitVec 64) (w : World) : Calls Try.prog 32 #[.int .u64 (n64 x), .int .u64 (n64 y)] w fun e w' => e = .returned (.int .u64 (n64 (x >>> (n64 y % 64).toNat))) ∧ w' = w :=
  srl_int x (n64 y) (n64_lo y) (n64_hi y) w

theorem sra_int (x : BitVec 64) (b : Int) (hb : 0 ≤ b) (hb' : b ≤ 18446744073709551615) (w : World) : Calls Try.prog 33 #[.int .u64 (n64 x), .int .u64 b] w fun e w' => e = .returned (.int .u64 (n64 (x.sshiftRight (b % 64).toNat))) ∧ w' = w := by
  have hx := n64_lo x; have hx' := n64_hi x
  go_enter Try.func33, Try.ntmps33
  go_wp2
  go_ret
  exact ⟨ret_int ((by rw [wrap64_n64]; exact n64_sra x _)), rfl⟩
theorem sra_any (x y : BitVec 64) (w : World) : Calls Try.prog 33 #[.int .u64 (n64 x), .int .u64 (n64 y)] w fun e w' => e = .returned (.int .u64 (n64 (x.sshiftRight (n64 y % 64).toNat))) ∧ w' = w :=
  sra_int x (n64 y) (n64_lo y) (n64_hi y) w

theorem divu_any (x y : BitVec 64) (w : World) : Calls Try.prog 49 #[.int .u64 (n64 x), .int .u64 (n64 y)] w fun e w' => e = .returned (.int .u64 (n64 (qDivu x y))) ∧ w' = w := by
  have hx := n64_lo x; have hy := n64_lo y
  by_cases h : y = 0#64
  · have hz : n64 y = 0 := by rw [h]; rfl
    unfold qDivu
    rw [if_pos h, hz]
    go_enter Try.func49, Try.ntmps49
    go_wp2
    go_ret
    exact ⟨ret_int (by rfl), rfl⟩
  · have hz : (n64 y == 0) = false := by
      rw [Bool.eq_false_iff]; intro hc; exact h (n64_zero (by simpa using hc))
    have hz' : ¬ n64 y = 0 := fun hc => h (n64_zero hc)
    have hw : ¬ wrap64 (n64 y) = 0 := fun hc => h (toInt_zero (by rw [← wrap64_n64]; exact hc))
    have hp : 0 < n64 y := by omega
    unfold qDivu
    rw [if_neg h]
    go_enter Try.func49, Try.ntmps49
    go_wp2
    go_ret
    exact ⟨ret_int (n64_udivw x y), rfl⟩

theorem remu_any (x y : BitVec 64) (w : World) : Calls Try.prog 51 #[.int .u64 (n64 x), .int .u64 (n64 y)] w fun e w' => e = .returned (.int .u64 (n64 (qRemu x y))) ∧ w' = w := by
  have hx := n64_lo x; have hy := n64_lo y
  by_cases h : y = 0#64
  · have hz : n64 y = 0 := by rw [h]; rfl
    unfold qRemu
    rw [if_pos h, hz]
    go_enter Try.func51, Try.ntmps51
    go_wp2
    go_ret
    exact ⟨ret_int (by rfl), rfl⟩
  · have hz : (n64 y == 0) = false := by
      rw [Bool.eq_false_iff]; intro hc; exact h (n64_zero (by simpa using hc))
    have hz' : ¬ n64 y = 0 := fun hc => h (n64_zero hc)
    have hw : ¬ wrap64 (n64 y) = 0 := fun hc => h (toInt_zero (by rw [← wrap64_n64]; exact hc))
    have hp : 0 < n64 y := by omega
    unfold qRemu
    rw [if_neg h]
    go_enter Try.func51, Try.ntmps51
    go_wp2
    go_ret
    exact ⟨ret_int (n64_umod x y), rfl⟩

theorem div_any (x y : BitVec 64) (w : World) : Calls Try.prog 48 #[.int .u64 (n64 x), .int .u64 (n64 y)] w fun e w' => e = .returned (.int .u64 (n64 (qDiv x y))) ∧ w' = w := by
  have hx := n64_lo x; have hy := n64_lo y
  by_cases h : y = 0#64
  · have hz : n64 y = 0 := by rw [h]; rfl
    unfold qDiv
    rw [if_pos h, hz]
    go_enter Try.func48, Try.ntmps48
    go_wp2
    go_ret
    exact ⟨ret_int (by rfl), rfl⟩
  · have hz : (n64 y == 0) = false := by
      rw [Bool.eq_false_iff]; intro hc; exact h (n64_zero (by simpa using hc))
    have hz' : ¬ n64 y = 0 := fun hc => h (n64_zero hc)
    have hw : ¬ wrap64 (n64 y) = 0 := fun hc => h (toInt_zero (by rw [← wrap64_n64]; exact hc))
    have hp : 0 < n64 y := by omega
    unfold qDiv
    rw [if_neg h]
    go_enter Try.func48, Try.ntmps48
    go_wp2
    go_ret
    exact ⟨ret_int (by rw [wrap64_n64, wrap64_n64]; exact n64_sdiv x y), rfl⟩

theorem rem_any (x y : BitVec 64) (w : World) : Calls Try.prog 50 #[.int .u64 (n64 x), .int .u64 (n64 y)] w fun e w' => e = .returned (.int .u64 (n64 (qRem x y))) ∧ w' = w := by
  have hx := n64_lo x; have hy := n64_lo y
  by_cases h : y = 0#64
  · have hz : n64 y = 0 := by rw [h]; rfl
    unfold qRem
    rw [if_pos h, hz]
    go_enter Try.func50, Try.ntmps50
    go_wp2
    go_ret
    exact ⟨ret_int (by rfl), rfl⟩
  · have hz : (n64 y == 0) = false := by
      rw [Bool.eq_false_iff]; intro hc; exact h (n64_zero (by simpa using hc))
    have hz' : ¬ n64 y = 0 := fun hc => h (n64_zero hc)
    have hw : ¬ wrap64 (n64 y) = 0 := fun hc => h (toInt_zero (by rw [← wrap64_n64]; exact hc))
    have hp : 0 < n64 y := by omega
    unfold qRem
    rw [if_neg h]
    go_enter Try.func50, Try.ntmps50
    go_wp2
    go_ret
    exact ⟨ret_int (by rw [wrap64_n64, wrap64_n64]; exact n64_srem x y), rfl⟩

theorem slt_any (x y : BitVec 64) (w : World) : Calls Try.prog 34 #[.int .u64 (n64 x), .int .u64 (n64 y)] w fun e w' => e = .returned (.int .u64 (n64 (bSlt x y))) ∧ w' = w := by
  have he : bSlt x y = if wrap64 (n64 x) < wrap64 (n64 y) then 1#64 else 0#64 := by rw [wrap64_n64, wrap64_n64]; rfl
  rw [he]
  clear he
  by_cases h : wrap64 (n64 x) < wrap64 (n64 y)
  · rw [if_pos h]
    go_enter Try.func34, Try.ntmps34
    go_wp2
    go_ret
    exact ⟨rfl, rfl⟩
  · rw [if_neg h]
    go_enter Try.func34, Try.ntmps34
    go_wp2
    go_ret
    exact ⟨rfl, rfl⟩

theorem sltu_any (x y : BitVec 64) (w : World) : Calls Try.prog 35 #[.int .u64 (n64 x), .int .u64 (n64 y)] w fun e w' => e = .returned (.int .u64 (n64 (bSltu x y))) ∧ w' = w := by
  have he : bSltu x y = if n64 x < n64 y then 1#64 else 0#64 := rfl
  rw [he]
  clear he
  by_cases h : n64 x < n64 y
  · rw [if_pos h]
    go_enter Try.func35, Try.ntmps35
    go_wp2
    go_ret
    exact ⟨rfl, rfl⟩
  · rw [if_neg h]
    go_enter Try.func35, Try.ntmps35
    go_wp2
    go_ret
    exact ⟨rfl, rfl⟩

theorem widen_any (x : BitVec 64) (w : World) : Calls Try.prog 21 #[.int .u64 (n64 x)] w fun e w' => e = .returned (.int .u64 (n64 (wid x))) ∧ w' = w := by
  go_enter Try.func21, Try.ntmps21
  go_wp2
  go_ret
  exact ⟨ret_int (n64_wid x), rfl⟩
theorem half_any (x : BitVec 64) (w : World) : Calls Try.prog 80 #[.int .u64 (n64 x)] w fun e w' => e = .returned (.int .u64 (n64 (low x))) ∧ w' = w := by
  go_enter Try.func80, Try.ntmps80
  go_wp2
  go_ret
  exact ⟨ret_int (n64_low x), rfl⟩

theorem addw_any (x y : BitVec 64) (w : World) : Calls Try.prog 39 #[.int .u64 (n64 x), .int .u64 (n64 y)] w fun e w' => e = .returned (.int .u64 (n64 (wid (x + y)))) ∧ w' = w := by
  have hy := n64_lo y; have hy' := n64_hi y
  go_enter Try.func39, Try.ntmps39
  go_wp2_with (first | (go_at_call 21; refine (widen_any _ _).mono ?_; rintro e w' ⟨rfl, rfl⟩) | (go_at_call 80; refine (half_any _ _).mono ?_; rintro e w' ⟨rfl, rfl⟩) | (go_at_call 29; refine (add_any _ _ _).mono ?_; rintro e w' ⟨rfl, rfl⟩))
  go_ret
  exact ⟨rfl, rfl⟩

theorem subw_any (x y : BitVec 64) (w : World) : Calls Try.prog 40 #[.int .u64 (n64 x), .int .u64 (n64 y)] w fun e w' => e = .returned (.int .u64 (n64 (wid (x - y)))) ∧ w' = w := by
  have hy := n64_lo y; have hy' := n64_hi y
  go_enter Try.func40, Try.ntmps40
  go_wp2_with (first | (go_at_call 21; refine (widen_any _ _).mono ?_; rintro e w' ⟨rfl, rfl⟩) | (go_at_call 80; refine (half_any _ _).mono ?_; rintro e w' ⟨rfl, rfl⟩) | (go_at_call 30; refine (sub_any _ _ _).mono ?_; rintro e w' ⟨rfl, rfl⟩))
  go_ret
  exact ⟨rfl, rfl⟩

theorem mulw_any (x y : BitVec 64) (w : World) : Calls Try.prog 52 #[.int .u64 (n64 x), .int .u64 (n64 y)] w fun e w' => e = .returned (.int .u64 (n64 (wid (x * y)))) ∧ w' = w := by
  have hy := n64_lo y; have hy' := n64_hi y
  go_enter Try.func52, Try.ntmps52
  go_wp2_with (first | (go_at_call 21; refine (widen_any _ _).mono ?_; rintro e w' ⟨rfl, rfl⟩) | (go_at_call 80; refine (half_any _ _).mono ?_; rintro e w' ⟨rfl, rfl⟩) | (go_at_call 44; refine (mul_any _ _ _).mono ?_; rintro e w' ⟨rfl, rfl⟩))
  go_ret
  exact ⟨rfl, rfl⟩

theorem sllw_any (x y : BitVec 64) (w : World) : Calls Try.prog 41 #[.int .u64 (n64 x), .int .u64 (n64 y)] w fun e w' => e = .returned (.int .u64 (n64 (wid (x <<< (n64 y % 32 % 64).toNat)))) ∧ w' = w := by
  have hy := n64_lo y; have hy' := n64_hi y
  go_enter Try.func41, Try.ntmps41
  go_wp2_with (first | (go_at_call 21; refine (widen_any _ _).mono ?_; rintro e w' ⟨rfl, rfl⟩) | (go_at_call 80; refine (half_any _ _).mono ?_; rintro e w' ⟨rfl, rfl⟩) | (go_at_call 31; refine (sll_int _ _ (by omega) (by omega) _).mono ?_; rintro e w' ⟨rfl, rfl⟩))
  go_ret
  exact ⟨rfl, rfl⟩

theorem srlw_any (x y : BitVec 64) (w : World) : Calls Try.prog 42 #[.int .u64 (n64 x), .int .u64 (n64 y)] w fun e w' => e = .returned (.int .u64 (n64 (wid (low x >>> (n64 y % 32 % 64).toNat)))) ∧ w' = w := by
  have hy := n64_lo y; have hy' := n64_hi y
  go_enter Try.func42, Try.ntmps42
  go_wp2_with (first | (go_at_call 21; refine (widen_any _ _).mono ?_; rintro e w' ⟨rfl, rfl⟩) | (go_at_call 80; refine (half_any _ _).mono ?_; rintro e w' ⟨rfl, rfl⟩) | (go_at_call 32; refine (srl_int _ _ (by omega) (by omega) _).mono ?_; rintro e w' ⟨rfl, rfl⟩))
  go_ret
  exact ⟨rfl, rfl⟩

theorem sraw_any (x y : BitVec 64) (w : World) : Calls Try.prog 43 #[.int .u64 (n64 x), .int .u64 (n64 y)] w fun e w' => e = .returned (.int .u64 (n64 (wid ((wid x).sshiftRight (n64 y % 32 % 64).toNat)))) ∧ w' = w := by
  have hy := n64_lo y; have hy' := n64_hi y
  go_enter Try.func43, Try.ntmps43
  go_wp2_with (first | (go_at_call 21; refine (widen_any _ _).mono ?_; rintro e w' ⟨rfl, rfl⟩) | (go_at_call 80; refine (half_any _ _).mono ?_; rintro e w' ⟨rfl, rfl⟩) | (go_at_call 33; refine (sra_int _ _ (by omega) (by omega) _).mono ?_; rintro e w' ⟨rfl, rfl⟩))
  go_ret
  exact ⟨rfl, rfl⟩

theorem divw_any (x y : BitVec 64) (w : World) : Calls Try.prog 53 #[.int .u64 (n64 x), .int .u64 (n64 y)] w fun e w' => e = .returned (.int .u64 (n64 (wid (qDiv (wid x) (wid y))))) ∧ w' = w := by
  have hy := n64_lo y; have hy' := n64_hi y
  go_enter Try.func53, Try.ntmps53
  go_wp2_with (first | (go_at_call 21; refine (widen_any _ _).mono ?_; rintro e w' ⟨rfl, rfl⟩) | (go_at_call 80; refine (half_any _ _).mono ?_; rintro e w' ⟨rfl, rfl⟩) | (go_at_call 48; refine (div_any _ _ _).mono ?_; rintro e w' ⟨rfl, rfl⟩))
  go_ret
  exact ⟨rfl, rfl⟩

theorem divuw_any (x y : BitVec 64) (w : World) : Calls Try.prog 54 #[.int .u64 (n64 x), .int .u64 (n64 y)] w fun e w' => e = .returned (.int .u64 (n64 (wid (qDivu (low x) (low y))))) ∧ w' = w := by
  have hy := n64_lo y; have hy' := n64_hi y
  go_enter Try.func54, Try.ntmps54
  go_wp2_with (first | (go_at_call 21; refine (widen_any _ _).mono ?_; rintro e w' ⟨rfl, rfl⟩) | (go_at_call 80; refine (half_any _ _).mono ?_; rintro e w' ⟨rfl, rfl⟩) | (go_at_call 49; refine (divu_any _ _ _).mono ?_; rintro e w' ⟨rfl, rfl⟩))
  go_ret
  exact ⟨rfl, rfl⟩

theorem remw_any (x y : BitVec 64) (w : World) : Calls Try.prog 55 #[.int .u64 (n64 x), .int .u64 (n64 y)] w fun e w' => e = .returned (.int .u64 (n64 (wid (qRem (wid x) (wid y))))) ∧ w' = w := by
  have hy := n64_lo y; have hy' := n64_hi y
  go_enter Try.func55, Try.ntmps55
  go_wp2_with (first | (go_at_call 21; refine (widen_any _ _).mono ?_; rintro e w' ⟨rfl, rfl⟩) | (go_at_call 80; refine (half_any _ _).mono ?_; rintro e w' ⟨rfl, rfl⟩) | (go_at_call 50; refine (rem_any _ _ _).mono ?_; rintro e w' ⟨rfl, rfl⟩))
  go_ret
  exact ⟨rfl, rfl⟩

theorem remuw_any (x y : BitVec 64) (w : World) : Calls Try.prog 56 #[.int .u64 (n64 x), .int .u64 (n64 y)] w fun e w' => e = .returned (.int .u64 (n64 (wid (qRemu (low x) (low y))))) ∧ w' = w := by
  have hy := n64_lo y; have hy' := n64_hi y
  go_enter Try.func56, Try.ntmps56
  go_wp2_with (first | (go_at_call 21; refine (widen_any _ _).mono ?_; rintro e w' ⟨rfl, rfl⟩) | (go_at_call 80; refine (half_any _ _).mono ?_; rintro e w' ⟨rfl, rfl⟩) | (go_at_call 51; refine (remu_any _ _ _).mono ?_; rintro e w' ⟨rfl, rfl⟩))
  go_ret
  exact ⟨rfl, rfl⟩

/-! Compute and op at each number -/
theorem c_add (x y : BitVec 64) (w : World) : Calls Try.prog 12 #[.int .i64 35, .int .u64 (n64 x), .int .u64 (n64 y)] w fun e w' => e = .returned (.tuple #[.int .u64 (n64 (x + y)), .bool true]) ∧ Below w.heap.size w w' :=
  compute_of 35 29 _ _ _ w (by decide) (by decide) (fun _ => by kernel_rfl) (fun _ => by kernel_rfl) (fun w => add_any x y w)
theorem o_add (x y : BitVec 64) (w : World) : Calls Try.prog 9 #[.int .i64 35, .int .u64 (n64 x), .int .u64 (n64 y)] w fun e w' => e = .returned (.int .u64 (n64 (x + y))) ∧ Below w.heap.size w w' :=
  op_of 35 _ _ _ w (fun w => c_add x y w)
theorem c_sub (x y : BitVec 64) (w : World) : Calls Try.prog 12 #[.int .i64 36, .int .u64 (n64 x), .int .u64 (n64 y)] w fun e w' => e = .returned (.tuple #[.int .u64 (n64 (x - y)), .bool true]) ∧ Below w.heap.size w w' :=
  compute_of 36 30 _ _ _ w (by decide) (by decide) (fun _ => by kernel_rfl) (fun _ => by kernel_rfl) (fun w => sub_any x y w)
theorem o_sub (x y : BitVec 64) (w : World) : Calls Try.prog 9 #[.int .i64 36, .int .u64 (n64 x), .int .u64 (n64 y)] w fun e w' => e = .returned (.int .u64 (n64 (x - y))) ∧ Below w.heap.size w w' :=
  op_of 36 _ _ _ w (fun w => c_sub x y w)
theorem c_sll (x y : BitVec 64) (w : World) : Calls Try.prog 12 #[.int .i64 37, .int .u64 (n64 x), .int .u64 (n64 y)] w fun e w' => e = .returned (.tuple #[.int .u64 (n64 (x <<< (n64 y % 64).toNat)), .bool true]) ∧ Below w.heap.size w w' :=
  compute_of 37 31 _ _ _ w (by decide) (by decide) (fun _ => by kernel_rfl) (fun _ => by kernel_rfl) (fun w => sll_any x y w)
theorem o_sll (x y : BitVec 64) (w : World) : Calls Try.prog 9 #[.int .i64 37, .int .u64 (n64 x), .int .u64 (n64 y)] w fun e w' => e = .returned (.int .u64 (n64 (x <<< (n64 y % 64).toNat))) ∧ Below w.heap.size w w' :=
  op_of 37 _ _ _ w (fun w => c_sll x y w)
theorem c_srl (x y : BitVec 64) (w : World) : Calls Try.prog 12 #[.int .i64 41, .int .u64 (n64 x), .int .u64 (n64 y)] w fun e w' => e = .returned (.tuple #[.int .u64 (n64 (x >>> (n64 y % 64).toNat)), .bool true]) ∧ Below w.heap.size w w' :=
  compute_of 41 32 _ _ _ w (by decide) (by decide) (fun _ => by kernel_rfl) (fun _ => by kernel_rfl) (fun w => srl_any x y w)
theorem o_srl (x y : BitVec 64) (w : World) : Calls Try.prog 9 #[.int .i64 41, .int .u64 (n64 x), .int .u64 (n64 y)] w fun e w' => e = .returned (.int .u64 (n64 (x >>> (n64 y % 64).toNat))) ∧ Below w.heap.size w w' :=
  op_of 41 _ _ _ w (fun w => c_srl x y w)
theorem c_sra (x y : BitVec 64) (w : World) : Calls Try.prog 12 #[.int .i64 42, .int .u64 (n64 x), .int .u64 (n64 y)] w fun e w' => e = .returned (.tuple #[.int .u64 (n64 (x.sshiftRight (n64 y % 64).toNat)), .bool true]) ∧ Below w.heap.size w w' :=
  compute_of 42 33 _ _ _ w (by decide) (by decide) (fun _ => by kernel_rfl) (fun _ => by kernel_rfl) (fun w => sra_any x y w)
theorem o_sra (x y : BitVec 64) (w : World) : Calls Try.prog 9 #[.int .i64 42, .int .u64 (n64 x), .int .u64 (n64 y)] w fun e w' => e = .returned (.int .u64 (n64 (x.sshiftRight (n64 y % 64).toNat))) ∧ Below w.heap.size w w' :=
  op_of 42 _ _ _ w (fun w => c_sra x y w)
theorem c_slt (x y : BitVec 64) (w : World) : Calls Try.prog 12 #[.int .i64 38, .int .u64 (n64 x), .int .u64 (n64 y)] w fun e w' => e = .returned (.tuple #[.int .u64 (n64 (bSlt x y)), .bool true]) ∧ Below w.heap.size w w' :=
  compute_of 38 34 _ _ _ w (by decide) (by decide) (fun _ => by kernel_rfl) (fun _ => by kernel_rfl) (fun w => slt_any x y w)
theorem o_slt (x y : BitVec 64) (w : World) : Calls Try.prog 9 #[.int .i64 38, .int .u64 (n64 x), .int .u64 (n64 y)] w fun e w' => e = .returned (.int .u64 (n64 (bSlt x y))) ∧ Below w.heap.size w w' :=
  op_of 38 _ _ _ w (fun w => c_slt x y w)
theorem c_sltu (x y : BitVec 64) (w : World) : Calls Try.prog 12 #[.int .i64 39, .int .u64 (n64 x), .int .u64 (n64 y)] w fun e w' => e = .returned (.tuple #[.int .u64 (n64 (bSltu x y)), .bool true]) ∧ Below w.heap.size w w' :=
  compute_of 39 35 _ _ _ w (by decide) (by decide) (fun _ => by kernel_rfl) (fun _ => by kernel_rfl) (fun w => sltu_any x y w)
theorem o_sltu (x y : BitVec 64) (w : World) : Calls Try.prog 9 #[.int .i64 39, .int .u64 (n64 x), .int .u64 (n64 y)] w fun e w' => e = .returned (.int .u64 (n64 (bSltu x y))) ∧ Below w.heap.size w w' :=
  op_of 39 _ _ _ w (fun w => c_sltu x y w)
theorem c_xor (x y : BitVec 64) (w : World) : Calls Try.prog 12 #[.int .i64 40, .int .u64 (n64 x), .int .u64 (n64 y)] w fun e w' => e = .returned (.tuple #[.int .u64 (n64 (x ^^^ y)), .bool true]) ∧ Below w.heap.size w w' :=
  compute_of 40 36 _ _ _ w (by decide) (by decide) (fun _ => by kernel_rfl) (fun _ => by kernel_rfl) (fun w => xor_any x y w)
theorem o_xor (x y : BitVec 64) (w : World) : Calls Try.prog 9 #[.int .i64 40, .int .u64 (n64 x), .int .u64 (n64 y)] w fun e w' => e = .returned (.int .u64 (n64 (x ^^^ y))) ∧ Below w.heap.size w w' :=
  op_of 40 _ _ _ w (fun w => c_xor x y w)
theorem c_or (x y : BitVec 64) (w : World) : Calls Try.prog 12 #[.int .i64 43, .int .u64 (n64 x), .int .u64 (n64 y)] w fun e w' => e = .returned (.tuple #[.int .u64 (n64 (x ||| y)), .bool true]) ∧ Below w.heap.size w w' :=
  compute_of 43 37 _ _ _ w (by decide) (by decide) (fun _ => by kernel_rfl) (fun _ => by kernel_rfl) (fun w => or_any x y w)
theorem o_or (x y : BitVec 64) (w : World) : Calls Try.prog 9 #[.int .i64 43, .int .u64 (n64 x), .int .u64 (n64 y)] w fun e w' => e = .returned (.int .u64 (n64 (x ||| y))) ∧ Below w.heap.size w w' :=
  op_of 43 _ _ _ w (fun w => c_or x y w)
theorem c_and (x y : BitVec 64) (w : World) : Calls Try.prog 12 #[.int .i64 44, .int .u64 (n64 x), .int .u64 (n64 y)] w fun e w' => e = .returned (.tuple #[.int .u64 (n64 (x &&& y)), .bool true]) ∧ Below w.heap.size w w' :=
  compute_of 44 38 _ _ _ w (by decide) (by decide) (fun _ => by kernel_rfl) (fun _ => by kernel_rfl) (fun w => and_any x y w)
theorem o_and (x y : BitVec 64) (w : World) : Calls Try.prog 9 #[.int .i64 44, .int .u64 (n64 x), .int .u64 (n64 y)] w fun e w' => e = .returned (.int .u64 (n64 (x &&& y))) ∧ Below w.heap.size w w' :=
  op_of 44 _ _ _ w (fun w => c_and x y w)
theorem c_addw (x y : BitVec 64) (w : World) : Calls Try.prog 12 #[.int .i64 45, .int .u64 (n64 x), .int .u64 (n64 y)] w fun e w' => e = .returned (.tuple #[.int .u64 (n64 (wid (x + y))), .bool true]) ∧ Below w.heap.size w w' :=
  compute_of 45 39 _ _ _ w (by decide) (by decide) (fun _ => by kernel_rfl) (fun _ => by kernel_rfl) (fun w => addw_any x y w)
theorem o_addw (x y : BitVec 64) (w : World) : Calls Try.prog 9 #[.int .i64 45, .int .u64 (n64 x), .int .u64 (n64 y)] w fun e w' => e = .returned (.int .u64 (n64 (wid (x + y)))) ∧ Below w.heap.size w w' :=
  op_of 45 _ _ _ w (fun w => c_addw x y w)
theorem c_subw (x y : BitVec 64) (w : World) : Calls Try.prog 12 #[.int .i64 46, .int .u64 (n64 x), .int .u64 (n64 y)] w fun e w' => e = .returned (.tuple #[.int .u64 (n64 (wid (x - y))), .bool true]) ∧ Below w.heap.size w w' :=
  compute_of 46 40 _ _ _ w (by decide) (by decide) (fun _ => by kernel_rfl) (fun _ => by kernel_rfl) (fun w => subw_any x y w)
theorem o_subw (x y : BitVec 64) (w : World) : Calls Try.prog 9 #[.int .i64 46, .int .u64 (n64 x), .int .u64 (n64 y)] w fun e w' => e = .returned (.int .u64 (n64 (wid (x - y)))) ∧ Below w.heap.size w w' :=
  op_of 46 _ _ _ w (fun w => c_subw x y w)
theorem c_sllw (x y : BitVec 64) (w : World) : Calls Try.prog 12 #[.int .i64 47, .int .u64 (n64 x), .int .u64 (n64 y)] w fun e w' => e = .returned (.tuple #[.int .u64 (n64 (wid (x <<< (n64 y % 32 % 64).toNat))), .bool true]) ∧ Below w.heap.size w w' :=
  compute_of 47 41 _ _ _ w (by decide) (by decide) (fun _ => by kernel_rfl) (fun _ => by kernel_rfl) (fun w => sllw_any x y w)
theorem o_sllw (x y : BitVec 64) (w : World) : Calls Try.prog 9 #[.int .i64 47, .int .u64 (n64 x), .int .u64 (n64 y)] w fun e w' => e = .returned (.int .u64 (n64 (wid (x <<< (n64 y % 32 % 64).toNat)))) ∧ Below w.heap.size w w' :=
  op_of 47 _ _ _ w (fun w => c_sllw x y w)
theorem c_srlw (x y : BitVec 64) (w : World) : Calls Try.prog 12 #[.int .i64 48, .int .u64 (n64 x), .int .u64 (n64 y)] w fun e w' => e = .returned (.tuple #[.int .u64 (n64 (wid (low x >>> (n64 y % 32 % 64).toNat))), .bool true]) ∧ Below w.heap.size w w' :=
  compute_of 48 42 _ _ _ w (by decide) (by decide) (fun _ => by kernel_rfl) (fun _ => by kernel_rfl) (fun w => srlw_any x y w)
theorem o_srlw (x y : BitVec 64) (w : World) : Calls Try.prog 9 #[.int .i64 48, .int .u64 (n64 x), .int .u64 (n64 y)] w fun e w' => e = .returned (.int .u64 (n64 (wid (low x >>> (n64 y % 32 % 64).toNat)))) ∧ Below w.heap.size w w' :=
  op_of 48 _ _ _ w (fun w => c_srlw x y w)
theorem c_sraw (x y : BitVec 64) (w : World) : Calls Try.prog 12 #[.int .i64 49, .int .u64 (n64 x), .int .u64 (n64 y)] w fun e w' => e = .returned (.tuple #[.int .u64 (n64 (wid ((wid x).sshiftRight (n64 y % 32 % 64).toNat))), .bool true]) ∧ Below w.heap.size w w' :=
  compute_of 49 43 _ _ _ w (by decide) (by decide) (fun _ => by kernel_rfl) (fun _ => by kernel_rfl) (fun w => sraw_any x y w)
theorem o_sraw (x y : BitVec 64) (w : World) : Calls Try.prog 9 #[.int .i64 49, .int .u64 (n64 x), .int .u64 (n64 y)] w fun e w' => e = .returned (.int .u64 (n64 (wid ((wid x).sshiftRight (n64 y % 32 % 64).toNat)))) ∧ Below w.heap.size w w' :=
  op_of 49 _ _ _ w (fun w => c_sraw x y w)
theorem c_mul (x y : BitVec 64) (w : World) : Calls Try.prog 12 #[.int .i64 62, .int .u64 (n64 x), .int .u64 (n64 y)] w fun e w' => e = .returned (.tuple #[.int .u64 (n64 (x * y)), .bool true]) ∧ Below w.heap.size w w' :=
  compute_of 62 44 _ _ _ w (by decide) (by decide) (fun _ => by kernel_rfl) (fun _ => by kernel_rfl) (fun w => mul_any x y w)
theorem o_mul (x y : BitVec 64) (w : World) : Calls Try.prog 9 #[.int .i64 62, .int .u64 (n64 x), .int .u64 (n64 y)] w fun e w' => e = .returned (.int .u64 (n64 (x * y))) ∧ Below w.heap.size w w' :=
  op_of 62 _ _ _ w (fun w => c_mul x y w)
theorem c_div (x y : BitVec 64) (w : World) : Calls Try.prog 12 #[.int .i64 66, .int .u64 (n64 x), .int .u64 (n64 y)] w fun e w' => e = .returned (.tuple #[.int .u64 (n64 (qDiv x y)), .bool true]) ∧ Below w.heap.size w w' :=
  compute_of 66 48 _ _ _ w (by decide) (by decide) (fun _ => by kernel_rfl) (fun _ => by kernel_rfl) (fun w => div_any x y w)
theorem o_div (x y : BitVec 64) (w : World) : Calls Try.prog 9 #[.int .i64 66, .int .u64 (n64 x), .int .u64 (n64 y)] w fun e w' => e = .returned (.int .u64 (n64 (qDiv x y))) ∧ Below w.heap.size w w' :=
  op_of 66 _ _ _ w (fun w => c_div x y w)
theorem c_divu (x y : BitVec 64) (w : World) : Calls Try.prog 12 #[.int .i64 67, .int .u64 (n64 x), .int .u64 (n64 y)] w fun e w' => e = .returned (.tuple #[.int .u64 (n64 (qDivu x y)), .bool true]) ∧ Below w.heap.size w w' :=
  compute_of 67 49 _ _ _ w (by decide) (by decide) (fun _ => by kernel_rfl) (fun _ => by kernel_rfl) (fun w => divu_any x y w)
theorem o_divu (x y : BitVec 64) (w : World) : Calls Try.prog 9 #[.int .i64 67, .int .u64 (n64 x), .int .u64 (n64 y)] w fun e w' => e = .returned (.int .u64 (n64 (qDivu x y))) ∧ Below w.heap.size w w' :=
  op_of 67 _ _ _ w (fun w => c_divu x y w)
theorem c_rem (x y : BitVec 64) (w : World) : Calls Try.prog 12 #[.int .i64 68, .int .u64 (n64 x), .int .u64 (n64 y)] w fun e w' => e = .returned (.tuple #[.int .u64 (n64 (qRem x y)), .bool true]) ∧ Below w.heap.size w w' :=
  compute_of 68 50 _ _ _ w (by decide) (by decide) (fun _ => by kernel_rfl) (fun _ => by kernel_rfl) (fun w => rem_any x y w)
theorem o_rem (x y : BitVec 64) (w : World) : Calls Try.prog 9 #[.int .i64 68, .int .u64 (n64 x), .int .u64 (n64 y)] w fun e w' => e = .returned (.int .u64 (n64 (qRem x y))) ∧ Below w.heap.size w w' :=
  op_of 68 _ _ _ w (fun w => c_rem x y w)
theorem c_remu (x y : BitVec 64) (w : World) : Calls Try.prog 12 #[.int .i64 69, .int .u64 (n64 x), .int .u64 (n64 y)] w fun e w' => e = .returned (.tuple #[.int .u64 (n64 (qRemu x y)), .bool true]) ∧ Below w.heap.size w w' :=
  compute_of 69 51 _ _ _ w (by decide) (by decide) (fun _ => by kernel_rfl) (fun _ => by kernel_rfl) (fun w => remu_any x y w)
theorem o_remu (x y : BitVec 64) (w : World) : Calls Try.prog 9 #[.int .i64 69, .int .u64 (n64 x), .int .u64 (n64 y)] w fun e w' => e = .returned (.int .u64 (n64 (qRemu x y))) ∧ Below w.heap.size w w' :=
  op_of 69 _ _ _ w (fun w => c_remu x y w)
theorem c_mulw (x y : BitVec 64) (w : World) : Calls Try.prog 12 #[.int .i64 70, .int .u64 (n64 x), .int .u64 (n64 y)] w fun e w' => e = .returned (.tuple #[.int .u64 (n64 (wid (x * y))), .bool true]) ∧ Below w.heap.size w w' :=
  compute_of 70 52 _ _ _ w (by decide) (by decide) (fun _ => by kernel_rfl) (fun _ => by kernel_rfl) (fun w => mulw_any x y w)
theorem o_mulw (x y : BitVec 64) (w : World) : Calls Try.prog 9 #[.int .i64 70, .int .u64 (n64 x), .int .u64 (n64 y)] w fun e w' => e = .returned (.int .u64 (n64 (wid (x * y)))) ∧ Below w.heap.size w w' :=
  op_of 70 _ _ _ w (fun w => c_mulw x y w)
theorem c_divw (x y : BitVec 64) (w : World) : Calls Try.prog 12 #[.int .i64 71, .int .u64 (n64 x), .int .u64 (n64 y)] w fun e w' => e = .returned (.tuple #[.int .u64 (n64 (wid (qDiv (wid x) (wid y)))), .bool true]) ∧ Below w.heap.size w w' :=
  compute_of 71 53 _ _ _ w (by decide) (by decide) (fun _ => by kernel_rfl) (fun _ => by kernel_rfl) (fun w => divw_any x y w)
theorem o_divw (x y : BitVec 64) (w : World) : Calls Try.prog 9 #[.int .i64 71, .int .u64 (n64 x), .int .u64 (n64 y)] w fun e w' => e = .returned (.int .u64 (n64 (wid (qDiv (wid x) (wid y))))) ∧ Below w.heap.size w w' :=
  op_of 71 _ _ _ w (fun w => c_divw x y w)
theorem c_divuw (x y : BitVec 64) (w : World) : Calls Try.prog 12 #[.int .i64 72, .int .u64 (n64 x), .int .u64 (n64 y)] w fun e w' => e = .returned (.tuple #[.int .u64 (n64 (wid (qDivu (low x) (low y)))), .bool true]) ∧ Below w.heap.size w w' :=
  compute_of 72 54 _ _ _ w (by decide) (by decide) (fun _ => by kernel_rfl) (fun _ => by kernel_rfl) (fun w => divuw_any x y w)
theorem o_divuw (x y : BitVec 64) (w : World) : Calls Try.prog 9 #[.int .i64 72, .int .u64 (n64 x), .int .u64 (n64 y)] w fun e w' => e = .returned (.int .u64 (n64 (wid (qDivu (low x) (low y))))) ∧ Below w.heap.size w w' :=
  op_of 72 _ _ _ w (fun w => c_divuw x y w)
theorem c_remw (x y : BitVec 64) (w : World) : Calls Try.prog 12 #[.int .i64 73, .int .u64 (n64 x), .int .u64 (n64 y)] w fun e w' => e = .returned (.tuple #[.int .u64 (n64 (wid (qRem (wid x) (wid y)))), .bool true]) ∧ Below w.heap.size w w' :=
  compute_of 73 55 _ _ _ w (by decide) (by decide) (fun _ => by kernel_rfl) (fun _ => by kernel_rfl) (fun w => remw_any x y w)
theorem o_remw (x y : BitVec 64) (w : World) : Calls Try.prog 9 #[.int .i64 73, .int .u64 (n64 x), .int .u64 (n64 y)] w fun e w' => e = .returned (.int .u64 (n64 (wid (qRem (wid x) (wid y))))) ∧ Below w.heap.size w w' :=
  op_of 73 _ _ _ w (fun w => c_remw x y w)
theorem c_remuw (x y : BitVec 64) (w : World) : Calls Try.prog 12 #[.int .i64 74, .int .u64 (n64 x), .int .u64 (n64 y)] w fun e w' => e = .returned (.tuple #[.int .u64 (n64 (wid (qRemu (low x) (low y)))), .bool true]) ∧ Below w.heap.size w w' :=
  compute_of 74 56 _ _ _ w (by decide) (by decide) (fun _ => by kernel_rfl) (fun _ => by kernel_rfl) (fun w => remuw_any x y w)
theorem o_remuw (x y : BitVec 64) (w : World) : Calls Try.prog 9 #[.int .i64 74, .int .u64 (n64 x), .int .u64 (n64 y)] w fun e w' => e = .returned (.int .u64 (n64 (wid (qRemu (low x) (low y))))) ∧ Below w.heap.size w w' :=
  op_of 74 _ _ _ w (fun w => c_remuw x y w)
theorem c_addi (x y : BitVec 64) (w : World) : Calls Try.prog 12 #[.int .i64 22, .int .u64 (n64 x), .int .u64 (n64 y)] w fun e w' => e = .returned (.tuple #[.int .u64 (n64 (x + y)), .bool true]) ∧ Below w.heap.size w w' :=
  compute_of 22 29 _ _ _ w (by decide) (by decide) (fun _ => by kernel_rfl) (fun _ => by kernel_rfl) (fun w => add_any x y w)
theorem o_addi (x y : BitVec 64) (w : World) : Calls Try.prog 9 #[.int .i64 22, .int .u64 (n64 x), .int .u64 (n64 y)] w fun e w' => e = .returned (.int .u64 (n64 (x + y))) ∧ Below w.heap.size w w' :=
  op_of 22 _ _ _ w (fun w => c_addi x y w)
theorem c_slti (x y : BitVec 64) (w : World) : Calls Try.prog 12 #[.int .i64 23, .int .u64 (n64 x), .int .u64 (n64 y)] w fun e w' => e = .returned (.tuple #[.int .u64 (n64 (bSlt x y)), .bool true]) ∧ Below w.heap.size w w' :=
  compute_of 23 34 _ _ _ w (by decide) (by decide) (fun _ => by kernel_rfl) (fun _ => by kernel_rfl) (fun w => slt_any x y w)
theorem o_slti (x y : BitVec 64) (w : World) : Calls Try.prog 9 #[.int .i64 23, .int .u64 (n64 x), .int .u64 (n64 y)] w fun e w' => e = .returned (.int .u64 (n64 (bSlt x y))) ∧ Below w.heap.size w w' :=
  op_of 23 _ _ _ w (fun w => c_slti x y w)
theorem c_sltui (x y : BitVec 64) (w : World) : Calls Try.prog 12 #[.int .i64 24, .int .u64 (n64 x), .int .u64 (n64 y)] w fun e w' => e = .returned (.tuple #[.int .u64 (n64 (bSltu x y)), .bool true]) ∧ Below w.heap.size w w' :=
  compute_of 24 35 _ _ _ w (by decide) (by decide) (fun _ => by kernel_rfl) (fun _ => by kernel_rfl) (fun w => sltu_any x y w)
theorem o_sltui (x y : BitVec 64) (w : World) : Calls Try.prog 9 #[.int .i64 24, .int .u64 (n64 x), .int .u64 (n64 y)] w fun e w' => e = .returned (.int .u64 (n64 (bSltu x y))) ∧ Below w.heap.size w w' :=
  op_of 24 _ _ _ w (fun w => c_sltui x y w)
theorem c_xori (x y : BitVec 64) (w : World) : Calls Try.prog 12 #[.int .i64 25, .int .u64 (n64 x), .int .u64 (n64 y)] w fun e w' => e = .returned (.tuple #[.int .u64 (n64 (x ^^^ y)), .bool true]) ∧ Below w.heap.size w w' :=
  compute_of 25 36 _ _ _ w (by decide) (by decide) (fun _ => by kernel_rfl) (fun _ => by kernel_rfl) (fun w => xor_any x y w)
theorem o_xori (x y : BitVec 64) (w : World) : Calls Try.prog 9 #[.int .i64 25, .int .u64 (n64 x), .int .u64 (n64 y)] w fun e w' => e = .returned (.int .u64 (n64 (x ^^^ y))) ∧ Below w.heap.size w w' :=
  op_of 25 _ _ _ w (fun w => c_xori x y w)
theorem c_ori (x y : BitVec 64) (w : World) : Calls Try.prog 12 #[.int .i64 26, .int .u64 (n64 x), .int .u64 (n64 y)] w fun e w' => e = .returned (.tuple #[.int .u64 (n64 (x ||| y)), .bool true]) ∧ Below w.heap.size w w' :=
  compute_of 26 37 _ _ _ w (by decide) (by decide) (fun _ => by kernel_rfl) (fun _ => by kernel_rfl) (fun w => or_any x y w)
theorem o_ori (x y : BitVec 64) (w : World) : Calls Try.prog 9 #[.int .i64 26, .int .u64 (n64 x), .int .u64 (n64 y)] w fun e w' => e = .returned (.int .u64 (n64 (x ||| y))) ∧ Below w.heap.size w w' :=
  op_of 26 _ _ _ w (fun w => c_ori x y w)
theorem c_andi (x y : BitVec 64) (w : World) : Calls Try.prog 12 #[.int .i64 27, .int .u64 (n64 x), .int .u64 (n64 y)] w fun e w' => e = .returned (.tuple #[.int .u64 (n64 (x &&& y)), .bool true]) ∧ Below w.heap.size w w' :=
  compute_of 27 38 _ _ _ w (by decide) (by decide) (fun _ => by kernel_rfl) (fun _ => by kernel_rfl) (fun w => and_any x y w)
theorem o_andi (x y : BitVec 64) (w : World) : Calls Try.prog 9 #[.int .i64 27, .int .u64 (n64 x), .int .u64 (n64 y)] w fun e w' => e = .returned (.int .u64 (n64 (x &&& y))) ∧ Below w.heap.size w w' :=
  op_of 27 _ _ _ w (fun w => c_andi x y w)
theorem c_slli (x y : BitVec 64) (w : World) : Calls Try.prog 12 #[.int .i64 28, .int .u64 (n64 x), .int .u64 (n64 y)] w fun e w' => e = .returned (.tuple #[.int .u64 (n64 (x <<< (n64 y % 64).toNat)), .bool true]) ∧ Below w.heap.size w w' :=
  compute_of 28 31 _ _ _ w (by decide) (by decide) (fun _ => by kernel_rfl) (fun _ => by kernel_rfl) (fun w => sll_any x y w)
theorem o_slli (x y : BitVec 64) (w : World) : Calls Try.prog 9 #[.int .i64 28, .int .u64 (n64 x), .int .u64 (n64 y)] w fun e w' => e = .returned (.int .u64 (n64 (x <<< (n64 y % 64).toNat))) ∧ Below w.heap.size w w' :=
  op_of 28 _ _ _ w (fun w => c_slli x y w)
theorem c_srli (x y : BitVec 64) (w : World) : Calls Try.prog 12 #[.int .i64 29, .int .u64 (n64 x), .int .u64 (n64 y)] w fun e w' => e = .returned (.tuple #[.int .u64 (n64 (x >>> (n64 y % 64).toNat)), .bool true]) ∧ Below w.heap.size w w' :=
  compute_of 29 32 _ _ _ w (by decide) (by decide) (fun _ => by kernel_rfl) (fun _ => by kernel_rfl) (fun w => srl_any x y w)
theorem o_srli (x y : BitVec 64) (w : World) : Calls Try.prog 9 #[.int .i64 29, .int .u64 (n64 x), .int .u64 (n64 y)] w fun e w' => e = .returned (.int .u64 (n64 (x >>> (n64 y % 64).toNat))) ∧ Below w.heap.size w w' :=
  op_of 29 _ _ _ w (fun w => c_srli x y w)
theorem c_srai (x y : BitVec 64) (w : World) : Calls Try.prog 12 #[.int .i64 30, .int .u64 (n64 x), .int .u64 (n64 y)] w fun e w' => e = .returned (.tuple #[.int .u64 (n64 (x.sshiftRight (n64 y % 64).toNat)), .bool true]) ∧ Below w.heap.size w w' :=
  compute_of 30 33 _ _ _ w (by decide) (by decide) (fun _ => by kernel_rfl) (fun _ => by kernel_rfl) (fun w => sra_any x y w)
theorem o_srai (x y : BitVec 64) (w : World) : Calls Try.prog 9 #[.int .i64 30, .int .u64 (n64 x), .int .u64 (n64 y)] w fun e w' => e = .returned (.int .u64 (n64 (x.sshiftRight (n64 y % 64).toNat))) ∧ Below w.heap.size w w' :=
  op_of 30 _ _ _ w (fun w => c_srai x y w)
theorem c_addwi (x y : BitVec 64) (w : World) : Calls Try.prog 12 #[.int .i64 31, .int .u64 (n64 x), .int .u64 (n64 y)] w fun e w' => e = .returned (.tuple #[.int .u64 (n64 (wid (x + y))), .bool true]) ∧ Below w.heap.size w w' :=
  compute_of 31 39 _ _ _ w (by decide) (by decide) (fun _ => by kernel_rfl) (fun _ => by kernel_rfl) (fun w => addw_any x y w)
theorem o_addwi (x y : BitVec 64) (w : World) : Calls Try.prog 9 #[.int .i64 31, .int .u64 (n64 x), .int .u64 (n64 y)] w fun e w' => e = .returned (.int .u64 (n64 (wid (x + y)))) ∧ Below w.heap.size w w' :=
  op_of 31 _ _ _ w (fun w => c_addwi x y w)
theorem c_sllwi (x y : BitVec 64) (w : World) : Calls Try.prog 12 #[.int .i64 32, .int .u64 (n64 x), .int .u64 (n64 y)] w fun e w' => e = .returned (.tuple #[.int .u64 (n64 (wid (x <<< (n64 y % 32 % 64).toNat))), .bool true]) ∧ Below w.heap.size w w' :=
  compute_of 32 41 _ _ _ w (by decide) (by decide) (fun _ => by kernel_rfl) (fun _ => by kernel_rfl) (fun w => sllw_any x y w)
theorem o_sllwi (x y : BitVec 64) (w : World) : Calls Try.prog 9 #[.int .i64 32, .int .u64 (n64 x), .int .u64 (n64 y)] w fun e w' => e = .returned (.int .u64 (n64 (wid (x <<< (n64 y % 32 % 64).toNat)))) ∧ Below w.heap.size w w' :=
  op_of 32 _ _ _ w (fun w => c_sllwi x y w)
theorem c_srlwi (x y : BitVec 64) (w : World) : Calls Try.prog 12 #[.int .i64 33, .int .u64 (n64 x), .int .u64 (n64 y)] w fun e w' => e = .returned (.tuple #[.int .u64 (n64 (wid (low x >>> (n64 y % 32 % 64).toNat))), .bool true]) ∧ Below w.heap.size w w' :=
  compute_of 33 42 _ _ _ w (by decide) (by decide) (fun _ => by kernel_rfl) (fun _ => by kernel_rfl) (fun w => srlw_any x y w)
theorem o_srlwi (x y : BitVec 64) (w : World) : Calls Try.prog 9 #[.int .i64 33, .int .u64 (n64 x), .int .u64 (n64 y)] w fun e w' => e = .returned (.int .u64 (n64 (wid (low x >>> (n64 y % 32 % 64).toNat)))) ∧ Below w.heap.size w w' :=
  op_of 33 _ _ _ w (fun w => c_srlwi x y w)
theorem c_srawi (x y : BitVec 64) (w : World) : Calls Try.prog 12 #[.int .i64 34, .int .u64 (n64 x), .int .u64 (n64 y)] w fun e w' => e = .returned (.tuple #[.int .u64 (n64 (wid ((wid x).sshiftRight (n64 y % 32 % 64).toNat))), .bool true]) ∧ Below w.heap.size w w' :=
  compute_of 34 43 _ _ _ w (by decide) (by decide) (fun _ => by kernel_rfl) (fun _ => by kernel_rfl) (fun w => sraw_any x y w)
theorem o_srawi (x y : BitVec 64) (w : World) : Calls Try.prog 9 #[.int .i64 34, .int .u64 (n64 x), .int .u64 (n64 y)] w fun e w' => e = .returned (.int .u64 (n64 (wid ((wid x).sshiftRight (n64 y % 32 % 64).toNat)))) ∧ Below w.heap.size w w' :=
  op_of 34 _ _ _ w (fun w => c_srawi x y w)

/-! live: a few answers that must come -/
theorem live_1 (w : World) : Calls Try.prog 9 #[.int .i64 35, .int .u64 2, .int .u64 3] w fun e w' => e = .returned (.int .u64 5) ∧ Below w.heap.size w w' := o_add 2#64 3#64 w
theorem live_2 (w : World) : Calls Try.prog 9 #[.int .i64 62, .int .u64 6, .int .u64 7] w fun e w' => e = .returned (.int .u64 42) ∧ Below w.heap.size w w' := o_mul 6#64 7#64 w
theorem live_3 (w : World) : Calls Try.prog 9 #[.int .i64 67, .int .u64 42, .int .u64 5] w fun e w' => e = .returned (.int .u64 8) ∧ Below w.heap.size w w' := o_divu 42#64 5#64 w
theorem live_4 (w : World) : Calls Try.prog 9 #[.int .i64 69, .int .u64 42, .int .u64 5] w fun e w' => e = .returned (.int .u64 2) ∧ Below w.heap.size w w' := o_remu 42#64 5#64 w
theorem live_5 (w : World) : Calls Try.prog 9 #[.int .i64 37, .int .u64 3, .int .u64 4] w fun e w' => e = .returned (.int .u64 48) ∧ Below w.heap.size w w' := o_sll 3#64 4#64 w

theorem live_any (w : World) : Calls Try.prog 6 #[] w fun e w' => e = .returned (.bool true) ∧ Below w.heap.size w w' := by
  obtain ⟨x, hx⟩ : ∃ x : Later w, w = x.1 := ⟨Later.start w, rfl⟩
  suffices h : Calls Try.prog 6 #[] x.1 fun e w' => e = .returned (.bool true) ∧ ∃ y : Later w, w' = y.1 by
    rw [← hx] at h
    exact h.mono fun _ _ ⟨he, y, hy⟩ => ⟨he, hy ▸ y.2⟩
  clear hx
  go_enter Try.func6, Try.ntmps6
  go_wp2_with fail
  refine (calls_later (live_1 _)).mono ?_
  rintro e w' ⟨rfl, y1, rfl⟩
  go_wp2_with fail
  refine (calls_later (live_2 _)).mono ?_
  rintro e w' ⟨rfl, y2, rfl⟩
  go_wp2_with fail
  refine (calls_later (live_3 _)).mono ?_
  rintro e w' ⟨rfl, y3, rfl⟩
  go_wp2_with fail
  refine (calls_later (live_4 _)).mono ?_
  rintro e w' ⟨rfl, y4, rfl⟩
  go_wp2_with fail
  refine (calls_later (live_5 _)).mono ?_
  rintro e w' ⟨rfl, y5, rfl⟩
  go_wp2_with fail
  go_ret
  exact ⟨rfl, y5, rfl⟩
end Go.Proofs.Ythnjppfgdkiaaac
