/-
  told of the reference.
-/
import Derived.Test.YtnnkeodiacdmaabCpx
import Derived.Test.YtnnkeodiacdmaabCpr
import Derived.Test.YtnnkeodiacdmaabPbc
import Derived.Test.YtnnkeodiacdmaabPby
namespace Go.Proofs.Ytnnkeodiacdmaab
set_option linter.unusedVariables false
open Go.ChangeShapes Go.WideShapes Go.ChangeAt Go.RowKit Go.Deep
/-- What a register that is there tells. -/
def TO (k : Cp) (mip time : BitVec 64) (n : Int) : Int :=
  if n = 3859 then 1 else if n = 768 then n64 (k.s 0) else if n = 769 then 9223372036855828741 else if n = 772 then n64 (k.s 2) else if n = 773 then n64 (k.s 1) else if n = 774 then n64 (k.s 3) else if n = 778 then n64 (k.s 5) else if n = 800 then n64 (k.s 4) else if n = 832 then n64 (k.s 6) else if n = 833 then n64 (k.s 7) else if n = 834 then n64 (k.s 8) else if n = 835 then n64 (k.s 9) else if n = 836 then n64 (mip &&& 2184#64) else if n = 928 then cfgR (PC k.c) 0 else if n = 930 then cfgR (PC k.c) 2 else if n = 2816 then n64 (k.s 10) else if n = 3072 then n64 (k.s 10) else if n = 2818 then n64 (k.s 11) else if n = 3074 then n64 (k.s 11) else if n = 3073 then n64 time else if 944 ≤ n ∧ n ≤ 959 then n64 (k.a (n - 944).toNat) else 0
theorem told_start (k : Cp) (w : World) : ∃ W0, w.alloc (.cells (cpc k) 31) = W0 ∧ Hid (Row W0 w.heap.size (cpc k) 31) ∧ Hid (Below w.heap.size w W0) := by
  obtain ⟨W0, hW0, r0, b0, s0⟩ := start1 w (cpc k) 31
  exact ⟨W0, hW0, r0, b0⟩
set_option maxRecDepth 100000 in
set_option maxHeartbeats 1000000 in
theorem rtold_3859 (k : Cp) (mip time : BitVec 64) (w : World) : Calls Try.prog 25 #[.agg (cpc k), .int .u64 (n64 mip), .int .u64 (n64 time), .int .i64 3859] w fun e w' => e = .returned (.int .u64 (1)) ∧ Below w.heap.size w w' := by
  obtain ⟨W0, hW0, r0, b0⟩ := told_start k w
  go_enter Try.func25, Try.ntmps25
  go_upto_region 1 with fail
  clear hW0
  go_wp2
  go_ret
  exact ⟨rfl, b0.out⟩
set_option maxRecDepth 100000 in
set_option maxHeartbeats 1000000 in
theorem rtold_768 (k : Cp) (mip time : BitVec 64) (w : World) : Calls Try.prog 25 #[.agg (cpc k), .int .u64 (n64 mip), .int .u64 (n64 time), .int .i64 768] w fun e w' => e = .returned (.int .u64 (n64 (k.s 0))) ∧ Below w.heap.size w w' := by
  obtain ⟨W0, hW0, r0, b0⟩ := told_start k w
  have K := r0.out.cls.s0
  generalize k.s 0 = v at K ⊢
  go_enter Try.func25, Try.ntmps25
  go_upto_region 1 with fail
  clear hW0
  go_wp2
  go_ret
  exact ⟨rfl, b0.out⟩
set_option maxRecDepth 100000 in
set_option maxHeartbeats 1000000 in
theorem rtold_769 (k : Cp) (mip time : BitVec 64) (w : World) : Calls Try.prog 25 #[.agg (cpc k), .int .u64 (n64 mip), .int .u64 (n64 time), .int .i64 769] w fun e w' => e = .returned (.int .u64 (9223372036855828741)) ∧ Below w.heap.size w w' := by
  obtain ⟨W0, hW0, r0, b0⟩ := told_start k w
  go_enter Try.func25, Try.ntmps25
  go_upto_region 1 with fail
  clear hW0
  go_wp2
  go_ret
  exact ⟨rfl, b0.out⟩
set_option maxRecDepth 100000 in
set_option maxHeartbeats 1000000 in
theorem rtold_772 (k : Cp) (mip time : BitVec 64) (w : World) : Calls Try.prog 25 #[.agg (cpc k), .int .u64 (n64 mip), .int .u64 (n64 time), .int .i64 772] w fun e w' => e = .returned (.int .u64 (n64 (k.s 2))) ∧ Below w.heap.size w w' := by
  obtain ⟨W0, hW0, r0, b0⟩ := told_start k w
  have K := r0.out.cls.s2
  generalize k.s 2 = v at K ⊢
  go_enter Try.func25, Try.ntmps25
  go_upto_region 1 with fail
  clear hW0
  go_wp2
  go_ret
  exact ⟨rfl, b0.out⟩
set_option maxRecDepth 100000 in
set_option maxHeartbeats 1000000 in
theorem rtold_773 (k : Cp) (mip time : BitVec 64) (w : World) : Calls Try.prog 25 #[.agg (cpc k), .int .u64 (n64 mip), .int .u64 (n64 time), .int .i64 773] w fun e w' => e = .returned (.int .u64 (n64 (k.s 1))) ∧ Below w.heap.size w w' := by
  obtain ⟨W0, hW0, r0, b0⟩ := told_start k w
  have K := r0.out.cls.s1
  generalize k.s 1 = v at K ⊢
  go_enter Try.func25, Try.ntmps25
  go_upto_region 1 with fail
  clear hW0
  go_wp2
  go_ret
  exact ⟨rfl, b0.out⟩
set_option maxRecDepth 100000 in
set_option maxHeartbeats 1000000 in
theorem rtold_774 (k : Cp) (mip time : BitVec 64) (w : World) : Calls Try.prog 25 #[.agg (cpc k), .int .u64 (n64 mip), .int .u64 (n64 time), .int .i64 774] w fun e w' => e = .returned (.int .u64 (n64 (k.s 3))) ∧ Below w.heap.size w w' := by
  obtain ⟨W0, hW0, r0, b0⟩ := told_start k w
  have K := r0.out.cls.s3
  generalize k.s 3 = v at K ⊢
  go_enter Try.func25, Try.ntmps25
  go_upto_region 1 with fail
  clear hW0
  go_wp2
  go_ret
  exact ⟨rfl, b0.out⟩
set_option maxRecDepth 100000 in
set_option maxHeartbeats 1000000 in
theorem rtold_778 (k : Cp) (mip time : BitVec 64) (w : World) : Calls Try.prog 25 #[.agg (cpc k), .int .u64 (n64 mip), .int .u64 (n64 time), .int .i64 778] w fun e w' => e = .returned (.int .u64 (n64 (k.s 5))) ∧ Below w.heap.size w w' := by
  obtain ⟨W0, hW0, r0, b0⟩ := told_start k w
  have K := r0.out.cls.s5
  generalize k.s 5 = v at K ⊢
  go_enter Try.func25, Try.ntmps25
  go_upto_region 1 with fail
  clear hW0
  go_wp2
  go_ret
  exact ⟨rfl, b0.out⟩
set_option maxRecDepth 100000 in
set_option maxHeartbeats 1000000 in
theorem rtold_800 (k : Cp) (mip time : BitVec 64) (w : World) : Calls Try.prog 25 #[.agg (cpc k), .int .u64 (n64 mip), .int .u64 (n64 time), .int .i64 800] w fun e w' => e = .returned (.int .u64 (n64 (k.s 4))) ∧ Below w.heap.size w w' := by
  obtain ⟨W0, hW0, r0, b0⟩ := told_start k w
  have K := r0.out.cls.s4
  generalize k.s 4 = v at K ⊢
  go_enter Try.func25, Try.ntmps25
  go_upto_region 1 with fail
  clear hW0
  go_wp2
  go_ret
  exact ⟨rfl, b0.out⟩
set_option maxRecDepth 100000 in
set_option maxHeartbeats 1000000 in
theorem rtold_832 (k : Cp) (mip time : BitVec 64) (w : World) : Calls Try.prog 25 #[.agg (cpc k), .int .u64 (n64 mip), .int .u64 (n64 time), .int .i64 832] w fun e w' => e = .returned (.int .u64 (n64 (k.s 6))) ∧ Below w.heap.size w w' := by
  obtain ⟨W0, hW0, r0, b0⟩ := told_start k w
  have K := r0.out.cls.s6
  generalize k.s 6 = v at K ⊢
  go_enter Try.func25, Try.ntmps25
  go_upto_region 1 with fail
  clear hW0
  go_wp2
  go_ret
  exact ⟨rfl, b0.out⟩
set_option maxRecDepth 100000 in
set_option maxHeartbeats 1000000 in
theorem rtold_833 (k : Cp) (mip time : BitVec 64) (w : World) : Calls Try.prog 25 #[.agg (cpc k), .int .u64 (n64 mip), .int .u64 (n64 time), .int .i64 833] w fun e w' => e = .returned (.int .u64 (n64 (k.s 7))) ∧ Below w.heap.size w w' := by
  obtain ⟨W0, hW0, r0, b0⟩ := told_start k w
  have K := r0.out.cls.s7
  generalize k.s 7 = v at K ⊢
  go_enter Try.func25, Try.ntmps25
  go_upto_region 1 with fail
  clear hW0
  go_wp2
  go_ret
  exact ⟨rfl, b0.out⟩
set_option maxRecDepth 100000 in
set_option maxHeartbeats 1000000 in
theorem rtold_834 (k : Cp) (mip time : BitVec 64) (w : World) : Calls Try.prog 25 #[.agg (cpc k), .int .u64 (n64 mip), .int .u64 (n64 time), .int .i64 834] w fun e w' => e = .returned (.int .u64 (n64 (k.s 8))) ∧ Below w.heap.size w w' := by
  obtain ⟨W0, hW0, r0, b0⟩ := told_start k w
  have K := r0.out.cls.s8
  generalize k.s 8 = v at K ⊢
  go_enter Try.func25, Try.ntmps25
  go_upto_region 1 with fail
  clear hW0
  go_wp2
  go_ret
  exact ⟨rfl, b0.out⟩
set_option maxRecDepth 100000 in
set_option maxHeartbeats 1000000 in
theorem rtold_835 (k : Cp) (mip time : BitVec 64) (w : World) : Calls Try.prog 25 #[.agg (cpc k), .int .u64 (n64 mip), .int .u64 (n64 time), .int .i64 835] w fun e w' => e = .returned (.int .u64 (n64 (k.s 9))) ∧ Below w.heap.size w w' := by
  obtain ⟨W0, hW0, r0, b0⟩ := told_start k w
  have K := r0.out.cls.s9
  generalize k.s 9 = v at K ⊢
  go_enter Try.func25, Try.ntmps25
  go_upto_region 1 with fail
  clear hW0
  go_wp2
  go_ret
  exact ⟨rfl, b0.out⟩
set_option maxRecDepth 100000 in
set_option maxHeartbeats 1000000 in
theorem rtold_836 (k : Cp) (mip time : BitVec 64) (w : World) : Calls Try.prog 25 #[.agg (cpc k), .int .u64 (n64 mip), .int .u64 (n64 time), .int .i64 836] w fun e w' => e = .returned (.int .u64 (n64 (mip &&& 2184#64))) ∧ Below w.heap.size w w' := by
  obtain ⟨W0, hW0, r0, b0⟩ := told_start k w
  have B0 : bits .and .u64 (n64 mip) 2184 = n64 (mip &&& 2184#64) := n64_and _ 2184#64
  generalize mip &&& 2184#64 = v at B0 ⊢
  go_enter Try.func25, Try.ntmps25
  go_upto_region 1 with fail
  clear hW0
  go_wp2
  go_ret
  exact ⟨rfl, b0.out⟩
set_option maxRecDepth 100000 in
set_option maxHeartbeats 1000000 in
theorem rtold_928 (k : Cp) (mip time : BitVec 64) (w : World) : Calls Try.prog 25 #[.agg (cpc k), .int .u64 (n64 mip), .int .u64 (n64 time), .int .i64 928] w fun e w' => e = .returned (.int .u64 (cfgR (PC k.c) 0)) ∧ Below w.heap.size w w' := by
  obtain ⟨W0, hW0, r0, b0⟩ := told_start k w
  have HC : Hid (∀ W, Calls Try.prog 39 #[.agg (pc k.c k.a), .int .i64 0] W fun e w' => e = .returned (.int .u64 (cfgR (PC k.c) 0)) ∧ Below W.heap.size W w') := fun W => rCfg_c k.c k.a 0 W
  go_enter Try.func25, Try.ntmps25
  go_upto_region 1 with fail
  clear hW0
  go_wp2_with (first | (refine wpList_load_agg (by rfl) 27 _ (by rfl) w.heap.size 47 (by rfl) (pc k.c k.a) _ r0.out.pmp Try.underlying27 (by rfl) (info_pmp _ _) ?_) | (go_at_call 39; refine (HC.out _).mono ?_; rintro e w2 ⟨rfl, hb2⟩; have HB2 : Hid (Below W0.heap.size W0 w2) := hb2; clear hb2))
  go_ret
  exact ⟨rfl, b0.out.trans (HB2.out.mono b0.out.size)⟩
set_option maxRecDepth 100000 in
set_option maxHeartbeats 1000000 in
theorem rtold_930 (k : Cp) (mip time : BitVec 64) (w : World) : Calls Try.prog 25 #[.agg (cpc k), .int .u64 (n64 mip), .int .u64 (n64 time), .int .i64 930] w fun e w' => e = .returned (.int .u64 (cfgR (PC k.c) 2)) ∧ Below w.heap.size w w' := by
  obtain ⟨W0, hW0, r0, b0⟩ := told_start k w
  have HC : Hid (∀ W, Calls Try.prog 39 #[.agg (pc k.c k.a), .int .i64 2] W fun e w' => e = .returned (.int .u64 (cfgR (PC k.c) 2)) ∧ Below W.heap.size W w') := fun W => rCfg_c k.c k.a 2 W
  go_enter Try.func25, Try.ntmps25
  go_upto_region 1 with fail
  clear hW0
  go_wp2_with (first | (refine wpList_load_agg (by rfl) 27 _ (by rfl) w.heap.size 47 (by rfl) (pc k.c k.a) _ r0.out.pmp Try.underlying27 (by rfl) (info_pmp _ _) ?_) | (go_at_call 39; refine (HC.out _).mono ?_; rintro e w2 ⟨rfl, hb2⟩; have HB2 : Hid (Below W0.heap.size W0 w2) := hb2; clear hb2))
  go_ret
  exact ⟨rfl, b0.out.trans (HB2.out.mono b0.out.size)⟩
set_option maxRecDepth 100000 in
set_option maxHeartbeats 1000000 in
theorem rtold_2816 (k : Cp) (mip time : BitVec 64) (w : World) : Calls Try.prog 25 #[.agg (cpc k), .int .u64 (n64 mip), .int .u64 (n64 time), .int .i64 2816] w fun e w' => e = .returned (.int .u64 (n64 (k.s 10))) ∧ Below w.heap.size w w' := by
  obtain ⟨W0, hW0, r0, b0⟩ := told_start k w
  have K := r0.out.cls.s10
  generalize k.s 10 = v at K ⊢
  go_enter Try.func25, Try.ntmps25
  go_upto_region 1 with fail
  clear hW0
  go_wp2
  go_ret
  exact ⟨rfl, b0.out⟩
set_option maxRecDepth 100000 in
set_option maxHeartbeats 1000000 in
theorem rtold_3072 (k : Cp) (mip time : BitVec 64) (w : World) : Calls Try.prog 25 #[.agg (cpc k), .int .u64 (n64 mip), .int .u64 (n64 time), .int .i64 3072] w fun e w' => e = .returned (.int .u64 (n64 (k.s 10))) ∧ Below w.heap.size w w' := by
  obtain ⟨W0, hW0, r0, b0⟩ := told_start k w
  have K := r0.out.cls.s10
  generalize k.s 10 = v at K ⊢
  go_enter Try.func25, Try.ntmps25
  go_upto_region 1 with fail
  clear hW0
  go_wp2
  go_ret
  exact ⟨rfl, b0.out⟩
set_option maxRecDepth 100000 in
set_option maxHeartbeats 1000000 in
theorem rtold_2818 (k : Cp) (mip time : BitVec 64) (w : World) : Calls Try.prog 25 #[.agg (cpc k), .int .u64 (n64 mip), .int .u64 (n64 time), .int .i64 2818] w fun e w' => e = .returned (.int .u64 (n64 (k.s 11))) ∧ Below w.heap.size w w' := by
  obtain ⟨W0, hW0, r0, b0⟩ := told_start k w
  have K := r0.out.cls.s11
  generalize k.s 11 = v at K ⊢
  go_enter Try.func25, Try.ntmps25
  go_upto_region 1 with fail
  clear hW0
  go_wp2
  go_ret
  exact ⟨rfl, b0.out⟩
set_option maxRecDepth 100000 in
set_option maxHeartbeats 1000000 in
theorem rtold_3074 (k : Cp) (mip time : BitVec 64) (w : World) : Calls Try.prog 25 #[.agg (cpc k), .int .u64 (n64 mip), .int .u64 (n64 time), .int .i64 3074] w fun e w' => e = .returned (.int .u64 (n64 (k.s 11))) ∧ Below w.heap.size w w' := by
  obtain ⟨W0, hW0, r0, b0⟩ := told_start k w
  have K := r0.out.cls.s11
  generalize k.s 11 = v at K ⊢
  go_enter Try.func25, Try.ntmps25
  go_upto_region 1 with fail
  clear hW0
  go_wp2
  go_ret
  exact ⟨rfl, b0.out⟩
set_option maxRecDepth 100000 in
set_option maxHeartbeats 1000000 in
theorem rtold_3073 (k : Cp) (mip time : BitVec 64) (w : World) : Calls Try.prog 25 #[.agg (cpc k), .int .u64 (n64 mip), .int .u64 (n64 time), .int .i64 3073] w fun e w' => e = .returned (.int .u64 (n64 time)) ∧ Below w.heap.size w w' := by
  obtain ⟨W0, hW0, r0, b0⟩ := told_start k w
  go_enter Try.func25, Try.ntmps25
  go_upto_region 1 with fail
  clear hW0
  go_wp2
  go_ret
  exact ⟨rfl, b0.out⟩
set_option maxRecDepth 100000 in
set_option maxHeartbeats 1000000 in
theorem rtold_in (k : Cp) (mip time : BitVec 64) (j : Nat) (hj : j < 16) (w : World) : Calls Try.prog 25 #[.agg (cpc k), .int .u64 (n64 mip), .int .u64 (n64 time), .int .i64 (944 + (j : Int))] w fun e w' => e = .returned (.int .u64 (n64 (k.a j))) ∧ Below w.heap.size w w' := by
  obtain ⟨W0, hW0, r0, b0⟩ := told_start k w
  have hc : W0.cell? ⟨w.heap.size, 63 + j, none⟩ = some (.int .u64 (n64 (k.a j))) := by
    have := r0.out.pmp (16 + j) _ (pc_at _ _ _ (by omega))
    rw [pcell, if_neg (by omega), Nat.add_sub_cancel_left] at this
    rw [show 63 + j = 47 + (16 + j) by omega]
    exact this
  obtain ⟨n, hn⟩ : ∃ n : Int, n = 944 + (j : Int) := ⟨_, rfl⟩
  have hj2 : (j : Int) < 16 := by omega
  have q3859 : ¬ n = 3859 := by omega
  have q768 : ¬ n = 768 := by omega
  have q769 : ¬ n = 769 := by omega
  have q772 : ¬ n = 772 := by omega
  have q773 : ¬ n = 773 := by omega
  have q774 : ¬ n = 774 := by omega
  have q778 : ¬ n = 778 := by omega
  have q800 : ¬ n = 800 := by omega
  have q832 : ¬ n = 832 := by omega
  have q833 : ¬ n = 833 := by omega
  have q834 : ¬ n = 834 := by omega
  have q835 : ¬ n = 835 := by omega
  have q836 : ¬ n = 836 := by omega
  have q928 : ¬ n = 928 := by omega
  have q930 : ¬ n = 930 := by omega
  have q2816 : ¬ n = 2816 := by omega
  have q3072 : ¬ n = 3072 := by omega
  have q2818 : ¬ n = 2818 := by omega
  have q3074 : ¬ n = 3074 := by omega
  have q3073 : ¬ n = 3073 := by omega
  have HE : Hid (wi n 944 959 = true) := by show _ = _; rw [wi, decide_eq_true_iff]; omega
  have HW : Hid (∀ a b W, Calls Try.prog 24 #[.int .i64 n, .int .i64 a, .int .i64 b] W fun e w' => e = .returned (.bool (wi n a b)) ∧ w' = W) := fun a b W => rwithin_c n a b W
  have hs : wrap64 (n - 944) = (j : Int) := by rw [hn]; unfold wrap64; omega
  rw [← hn]
  clear hn
  generalize k.a j = v at hc ⊢
  go_enter Try.func25, Try.ntmps25
  go_upto_region 1 with fail
  clear hW0
  go_wp2_with (go_at_call 24; refine (HW.out _ _ _).mono ?_; rw [HE.out]; rintro e w2 ⟨rfl, hw2⟩; subst hw2)
  go_ret
  exact ⟨rfl, b0.out⟩
set_option maxRecDepth 100000 in
set_option maxHeartbeats 1000000 in
theorem rtold_no (k : Cp) (mip time : BitVec 64) (n : Int) (q3859 : ¬ n = 3859) (q768 : ¬ n = 768) (q769 : ¬ n = 769) (q772 : ¬ n = 772) (q773 : ¬ n = 773) (q774 : ¬ n = 774) (q778 : ¬ n = 778) (q800 : ¬ n = 800) (q832 : ¬ n = 832) (q833 : ¬ n = 833) (q834 : ¬ n = 834) (q835 : ¬ n = 835) (q836 : ¬ n = 836) (q928 : ¬ n = 928) (q930 : ¬ n = 930) (q2816 : ¬ n = 2816) (q3072 : ¬ n = 3072) (q2818 : ¬ n = 2818) (q3074 : ¬ n = 3074) (q3073 : ¬ n = 3073) (hw : ¬ (944 ≤ n ∧ n ≤ 959)) (w : World) : Calls Try.prog 25 #[.agg (cpc k), .int .u64 (n64 mip), .int .u64 (n64 time), .int .i64 n] w fun e w' => e = .returned (.int .u64 (0)) ∧ Below w.heap.size w w' := by
  obtain ⟨W0, hW0, r0, b0⟩ := told_start k w
  have HE : Hid (wi n 944 959 = false) := by show _ = _; rw [wi, decide_eq_false_iff_not]; exact hw
  have HW : Hid (∀ a b W, Calls Try.prog 24 #[.int .i64 n, .int .i64 a, .int .i64 b] W fun e w' => e = .returned (.bool (wi n a b)) ∧ w' = W) := fun a b W => rwithin_c n a b W
  clear hw
  go_enter Try.func25, Try.ntmps25
  go_upto_region 1 with fail
  clear hW0
  go_wp2_with (go_at_call 24; refine (HW.out _ _ _).mono ?_; rw [HE.out]; rintro e w2 ⟨rfl, hw2⟩; subst hw2)
  go_ret
  exact ⟨rfl, b0.out⟩
theorem rtold_c (k : Cp) (mip time : BitVec 64) (n : Int) (w : World) : Calls Try.prog 25 #[.agg (cpc k), .int .u64 (n64 mip), .int .u64 (n64 time), .int .i64 n] w fun e w' => e = .returned (.int .u64 (TO k mip time n)) ∧ Below w.heap.size w w' := by
  unfold TO
  by_cases q3859 : n = 3859
  · rw [if_pos q3859]; subst q3859; exact rtold_3859 k mip time w
  rw [if_neg q3859]
  by_cases q768 : n = 768
  · rw [if_pos q768]; subst q768; exact rtold_768 k mip time w
  rw [if_neg q768]
  by_cases q769 : n = 769
  · rw [if_pos q769]; subst q769; exact rtold_769 k mip time w
  rw [if_neg q769]
  by_cases q772 : n = 772
  · rw [if_pos q772]; subst q772; exact rtold_772 k mip time w
  rw [if_neg q772]
  by_cases q773 : n = 773
  · rw [if_pos q773]; subst q773; exact rtold_773 k mip time w
  rw [if_neg q773]
  by_cases q774 : n = 774
  · rw [if_pos q774]; subst q774; exact rtold_774 k mip time w
  rw [if_neg q774]
  by_cases q778 : n = 778
  · rw [if_pos q778]; subst q778; exact rtold_778 k mip time w
  rw [if_neg q778]
  by_cases q800 : n = 800
  · rw [if_pos q800]; subst q800; exact rtold_800 k mip time w
  rw [if_neg q800]
  by_cases q832 : n = 832
  · rw [if_pos q832]; subst q832; exact rtold_832 k mip time w
  rw [if_neg q832]
  by_cases q833 : n = 833
  · rw [if_pos q833]; subst q833; exact rtold_833 k mip time w
  rw [if_neg q833]
  by_cases q834 : n = 834
  · rw [if_pos q834]; subst q834; exact rtold_834 k mip time w
  rw [if_neg q834]
  by_cases q835 : n = 835
  · rw [if_pos q835]; subst q835; exact rtold_835 k mip time w
  rw [if_neg q835]
  by_cases q836 : n = 836
  · rw [if_pos q836]; subst q836; exact rtold_836 k mip time w
  rw [if_neg q836]
  by_cases q928 : n = 928
  · rw [if_pos q928]; subst q928; exact rtold_928 k mip time w
  rw [if_neg q928]
  by_cases q930 : n = 930
  · rw [if_pos q930]; subst q930; exact rtold_930 k mip time w
  rw [if_neg q930]
  by_cases q2816 : n = 2816
  · rw [if_pos q2816]; subst q2816; exact rtold_2816 k mip time w
  rw [if_neg q2816]
  by_cases q3072 : n = 3072
  · rw [if_pos q3072]; subst q3072; exact rtold_3072 k mip time w
  rw [if_neg q3072]
  by_cases q2818 : n = 2818
  · rw [if_pos q2818]; subst q2818; exact rtold_2818 k mip time w
  rw [if_neg q2818]
  by_cases q3074 : n = 3074
  · rw [if_pos q3074]; subst q3074; exact rtold_3074 k mip time w
  rw [if_neg q3074]
  by_cases q3073 : n = 3073
  · rw [if_pos q3073]; subst q3073; exact rtold_3073 k mip time w
  rw [if_neg q3073]
  by_cases hw : 944 ≤ n ∧ n ≤ 959
  · rw [if_pos hw]
    obtain ⟨j, rfl⟩ : ∃ j : Nat, n = 944 + (j : Int) := ⟨(n - 944).toNat, by omega⟩
    rw [show (944 + (j : Int) - 944).toNat = j by omega]
    exact rtold_in k mip time j (by omega) w
  rw [if_neg hw]
  exact rtold_no k mip time n q3859 q768 q769 q772 q773 q774 q778 q800 q832 q833 q834 q835 q836 q928 q930 q2816 q3072 q2818 q3074 q3073 hw w
end Go.Proofs.Ytnnkeodiacdmaab
