/-
  kept of the reference.
-/
import Derived.Test.YtnnkeodiacdmaabCpf
namespace Go.Proofs.Ytnnkeodiacdmaab
set_option linter.unusedVariables false
open Go.ChangeShapes Go.WideShapes Go.ChangeAt Go.RowKit Go.Deep
/-- mstatus as it is written. -/
def stW (old v : BitVec 64) : BitVec 64 := if mq v then v &&& ~~~6144#64 ||| old &&& 6144#64 else v
/-- A Cpu with a register written, ahead of Proper. -/
def KW (k : Cp) (n : Int) (v : BitVec 64) : Cp :=
  if n = 768 then { k with s := upd k.s 0 (stW (k.s 0) v) } else if n = 772 then { k with s := upd k.s 2 v } else if n = 773 then { k with s := upd k.s 1 v } else if n = 774 then { k with s := upd k.s 3 v } else if n = 778 then { k with s := upd k.s 5 v } else if n = 800 then { k with s := upd k.s 4 v } else if n = 832 then { k with s := upd k.s 6 v } else if n = 833 then { k with s := upd k.s 7 v } else if n = 834 then { k with s := upd k.s 8 v } else if n = 835 then { k with s := upd k.s 9 v } else if n = 2816 then { k with s := upd k.s 10 v } else if n = 2818 then { k with s := upd k.s 11 v } else if n = 928 then { k with c := sR (PC k.c) 0 v, a := PA k.a } else if n = 930 then { k with c := sR (PC k.c) 2 v, a := PA k.a } else if 944 ≤ n ∧ n ≤ 959 then { k with c := PC k.c, a := sA (PC k.c) (PA k.a) (n - 944) v } else k
set_option maxRecDepth 100000 in
set_option maxHeartbeats 1000000 in
theorem rkept_772 (k : Cp) (v : BitVec 64) (w : World) : Calls Try.prog 26 #[.agg (cpc k), .int .i64 772, .int .u64 (n64 v)] w fun e w' => e = .returned (.agg (cpc (PR { k with s := upd k.s 2 v }))) ∧ Below w.heap.size w w' := by
  have hz := zero_cpu
  obtain ⟨W0, hW0, r0, r1, b0, s0⟩ := start2 w (cpc k) (cpc cz) 31 31
  have HS : Hid (W0.heap.size = w.heap.size + 2) := s0
  have f0 := r0.out.froz
  clear s0
  have HP : Hid (∀ W, Calls Try.prog 16 #[.agg (cpc { k with s := upd k.s 2 v })] W fun e w' => e = .returned (.agg (cpc (PR { k with s := upd k.s 2 v }))) ∧ Below W.heap.size W w') := fun W => rPr_c _ W
  have K := r0.out.cls.s2
  have HW : Hid (∀ W, Calls Try.prog 24 #[.int .i64 772, .int .i64 944, .int .i64 959] W fun e w' => e = .returned (.bool false) ∧ w' = W) := fun W => rwithin_c 772 944 959 W
  go_enter Try.func26, Try.ntmps26
  go_upto_region 1 with fail
  clear hz hW0
  go_upto_region 34 with (go_at_call 24; refine (HW.out _).mono ?_; rintro e w3 ⟨rfl, hw3⟩; have hw3 := hw3.symm; subst hw3)
  refine go_on2 (motive := fun W => Code.wp _ _ _ _ W) (a := w) (B := w.heap.size) (cs := cpc { k with s := upd k.s 2 v }) (row_cast (r0.out.put (i := 37) (.int .u64 (n64 v))) (cpc_s2 _ _)) (Row.other r1.out (by omega) _) (below_put b0.out (Nat.le_refl _) _) rfl ?_
  intro W1 q0 q1 c0 t0
  have R0 : Hid (Row W1 w.heap.size (cpc { k with s := upd k.s 2 v }) 31) := q0
  have R1 : Hid (Row W1 (w.heap.size + 1) (cpc cz) 31) := q1
  have BB : Hid (Below w.heap.size w W1) := c0
  have S1 : Hid (w.heap.size + 1 < W1.heap.size) := q1.lt
  clear q0 q1 c0 t0 r0 r1 b0 f0 HS
  go_wp2_with (first | (refine wpList_load_row (by rfl) _ _ (by rfl) _ (by rfl) 31 _ (0, 0) _ R0.out Try.underlying31 (by rfl) (info_cpu _) ?_) | (go_at_call 16; refine (HP.out _).mono ?_; rintro e w5 ⟨rfl, hb5⟩; have HB5 : Hid (Below W1.heap.size W1 w5) := hb5; clear hb5) | (refine wpList_store_row (by rfl) _ _ _ (by rfl) (by rfl) _ _ _ (by rfl) (by rfl) (R1.out.later HB5.out S1.out) (info_cpu _) (by rw [cpc_size, cpc_size]) (cpc_ones _) ?_))
  refine bodyPost_ret (v := .agg (cpc (PR { k with s := upd k.s 2 v }))) ?_ rfl ⟨rfl, ?_⟩
  · exact results_cell_row Try.results26 _ _ (w.heap.size + 1) 31 _ (0, 0) _ (by rfl) (setRow_heap _ _ _ _ _ _ (R1.out.later HB5.out S1.out)) Try.underlying31 (by rfl) (info_cpu _)
  · exact below_row (BB.out.trans (HB5.out.mono BB.out.size)) (by omega) _
set_option maxRecDepth 100000 in
set_option maxHeartbeats 1000000 in
theorem rkept_773 (k : Cp) (v : BitVec 64) (w : World) : Calls Try.prog 26 #[.agg (cpc k), .int .i64 773, .int .u64 (n64 v)] w fun e w' => e = .returned (.agg (cpc (PR { k with s := upd k.s 1 v }))) ∧ Below w.heap.size w w' := by
  have hz := zero_cpu
  obtain ⟨W0, hW0, r0, r1, b0, s0⟩ := start2 w (cpc k) (cpc cz) 31 31
  have HS : Hid (W0.heap.size = w.heap.size + 2) := s0
  have f0 := r0.out.froz
  clear s0
  have HP : Hid (∀ W, Calls Try.prog 16 #[.agg (cpc { k with s := upd k.s 1 v })] W fun e w' => e = .returned (.agg (cpc (PR { k with s := upd k.s 1 v }))) ∧ Below W.heap.size W w') := fun W => rPr_c _ W
  have K := r0.out.cls.s1
  have HW : Hid (∀ W, Calls Try.prog 24 #[.int .i64 773, .int .i64 944, .int .i64 959] W fun e w' => e = .returned (.bool false) ∧ w' = W) := fun W => rwithin_c 773 944 959 W
  go_enter Try.func26, Try.ntmps26
  go_upto_region 1 with fail
  clear hz hW0
  go_upto_region 34 with (go_at_call 24; refine (HW.out _).mono ?_; rintro e w3 ⟨rfl, hw3⟩; have hw3 := hw3.symm; subst hw3)
  refine go_on2 (motive := fun W => Code.wp _ _ _ _ W) (a := w) (B := w.heap.size) (cs := cpc { k with s := upd k.s 1 v }) (row_cast (r0.out.put (i := 36) (.int .u64 (n64 v))) (cpc_s1 _ _)) (Row.other r1.out (by omega) _) (below_put b0.out (Nat.le_refl _) _) rfl ?_
  intro W1 q0 q1 c0 t0
  have R0 : Hid (Row W1 w.heap.size (cpc { k with s := upd k.s 1 v }) 31) := q0
  have R1 : Hid (Row W1 (w.heap.size + 1) (cpc cz) 31) := q1
  have BB : Hid (Below w.heap.size w W1) := c0
  have S1 : Hid (w.heap.size + 1 < W1.heap.size) := q1.lt
  clear q0 q1 c0 t0 r0 r1 b0 f0 HS
  go_wp2_with (first | (refine wpList_load_row (by rfl) _ _ (by rfl) _ (by rfl) 31 _ (0, 0) _ R0.out Try.underlying31 (by rfl) (info_cpu _) ?_) | (go_at_call 16; refine (HP.out _).mono ?_; rintro e w5 ⟨rfl, hb5⟩; have HB5 : Hid (Below W1.heap.size W1 w5) := hb5; clear hb5) | (refine wpList_store_row (by rfl) _ _ _ (by rfl) (by rfl) _ _ _ (by rfl) (by rfl) (R1.out.later HB5.out S1.out) (info_cpu _) (by rw [cpc_size, cpc_size]) (cpc_ones _) ?_))
  refine bodyPost_ret (v := .agg (cpc (PR { k with s := upd k.s 1 v }))) ?_ rfl ⟨rfl, ?_⟩
  · exact results_cell_row Try.results26 _ _ (w.heap.size + 1) 31 _ (0, 0) _ (by rfl) (setRow_heap _ _ _ _ _ _ (R1.out.later HB5.out S1.out)) Try.underlying31 (by rfl) (info_cpu _)
  · exact below_row (BB.out.trans (HB5.out.mono BB.out.size)) (by omega) _
set_option maxRecDepth 100000 in
set_option maxHeartbeats 1000000 in
theorem rkept_774 (k : Cp) (v : BitVec 64) (w : World) : Calls Try.prog 26 #[.agg (cpc k), .int .i64 774, .int .u64 (n64 v)] w fun e w' => e = .returned (.agg (cpc (PR { k with s := upd k.s 3 v }))) ∧ Below w.heap.size w w' := by
  have hz := zero_cpu
  obtain ⟨W0, hW0, r0, r1, b0, s0⟩ := start2 w (cpc k) (cpc cz) 31 31
  have HS : Hid (W0.heap.size = w.heap.size + 2) := s0
  have f0 := r0.out.froz
  clear s0
  have HP : Hid (∀ W, Calls Try.prog 16 #[.agg (cpc { k with s := upd k.s 3 v })] W fun e w' => e = .returned (.agg (cpc (PR { k with s := upd k.s 3 v }))) ∧ Below W.heap.size W w') := fun W => rPr_c _ W
  have K := r0.out.cls.s3
  have HW : Hid (∀ W, Calls Try.prog 24 #[.int .i64 774, .int .i64 944, .int .i64 959] W fun e w' => e = .returned (.bool false) ∧ w' = W) := fun W => rwithin_c 774 944 959 W
  go_enter Try.func26, Try.ntmps26
  go_upto_region 1 with fail
  clear hz hW0
  go_upto_region 34 with (go_at_call 24; refine (HW.out _).mono ?_; rintro e w3 ⟨rfl, hw3⟩; have hw3 := hw3.symm; subst hw3)
  refine go_on2 (motive := fun W => Code.wp _ _ _ _ W) (a := w) (B := w.heap.size) (cs := cpc { k with s := upd k.s 3 v }) (row_cast (r0.out.put (i := 38) (.int .u64 (n64 v))) (cpc_s3 _ _)) (Row.other r1.out (by omega) _) (below_put b0.out (Nat.le_refl _) _) rfl ?_
  intro W1 q0 q1 c0 t0
  have R0 : Hid (Row W1 w.heap.size (cpc { k with s := upd k.s 3 v }) 31) := q0
  have R1 : Hid (Row W1 (w.heap.size + 1) (cpc cz) 31) := q1
  have BB : Hid (Below w.heap.size w W1) := c0
  have S1 : Hid (w.heap.size + 1 < W1.heap.size) := q1.lt
  clear q0 q1 c0 t0 r0 r1 b0 f0 HS
  go_wp2_with (first | (refine wpList_load_row (by rfl) _ _ (by rfl) _ (by rfl) 31 _ (0, 0) _ R0.out Try.underlying31 (by rfl) (info_cpu _) ?_) | (go_at_call 16; refine (HP.out _).mono ?_; rintro e w5 ⟨rfl, hb5⟩; have HB5 : Hid (Below W1.heap.size W1 w5) := hb5; clear hb5) | (refine wpList_store_row (by rfl) _ _ _ (by rfl) (by rfl) _ _ _ (by rfl) (by rfl) (R1.out.later HB5.out S1.out) (info_cpu _) (by rw [cpc_size, cpc_size]) (cpc_ones _) ?_))
  refine bodyPost_ret (v := .agg (cpc (PR { k with s := upd k.s 3 v }))) ?_ rfl ⟨rfl, ?_⟩
  · exact results_cell_row Try.results26 _ _ (w.heap.size + 1) 31 _ (0, 0) _ (by rfl) (setRow_heap _ _ _ _ _ _ (R1.out.later HB5.out S1.out)) Try.underlying31 (by rfl) (info_cpu _)
  · exact below_row (BB.out.trans (HB5.out.mono BB.out.size)) (by omega) _
set_option maxRecDepth 100000 in
set_option maxHeartbeats 1000000 in
theorem rkept_778 (k : Cp) (v : BitVec 64) (w : World) : Calls Try.prog 26 #[.agg (cpc k), .int .i64 778, .int .u64 (n64 v)] w fun e w' => e = .returned (.agg (cpc (PR { k with s := upd k.s 5 v }))) ∧ Below w.heap.size w w' := by
  have hz := zero_cpu
  obtain ⟨W0, hW0, r0, r1, b0, s0⟩ := start2 w (cpc k) (cpc cz) 31 31
  have HS : Hid (W0.heap.size = w.heap.size + 2) := s0
  have f0 := r0.out.froz
  clear s0
  have HP : Hid (∀ W, Calls Try.prog 16 #[.agg (cpc { k with s := upd k.s 5 v })] W fun e w' => e = .returned (.agg (cpc (PR { k with s := upd k.s 5 v }))) ∧ Below W.heap.size W w') := fun W => rPr_c _ W
  have K := r0.out.cls.s5
  have HW : Hid (∀ W, Calls Try.prog 24 #[.int .i64 778, .int .i64 944, .int .i64 959] W fun e w' => e = .returned (.bool false) ∧ w' = W) := fun W => rwithin_c 778 944 959 W
  go_enter Try.func26, Try.ntmps26
  go_upto_region 1 with fail
  clear hz hW0
  go_upto_region 34 with (go_at_call 24; refine (HW.out _).mono ?_; rintro e w3 ⟨rfl, hw3⟩; have hw3 := hw3.symm; subst hw3)
  refine go_on2 (motive := fun W => Code.wp _ _ _ _ W) (a := w) (B := w.heap.size) (cs := cpc { k with s := upd k.s 5 v }) (row_cast (r0.out.put (i := 40) (.int .u64 (n64 v))) (cpc_s5 _ _)) (Row.other r1.out (by omega) _) (below_put b0.out (Nat.le_refl _) _) rfl ?_
  intro W1 q0 q1 c0 t0
  have R0 : Hid (Row W1 w.heap.size (cpc { k with s := upd k.s 5 v }) 31) := q0
  have R1 : Hid (Row W1 (w.heap.size + 1) (cpc cz) 31) := q1
  have BB : Hid (Below w.heap.size w W1) := c0
  have S1 : Hid (w.heap.size + 1 < W1.heap.size) := q1.lt
  clear q0 q1 c0 t0 r0 r1 b0 f0 HS
  go_wp2_with (first | (refine wpList_load_row (by rfl) _ _ (by rfl) _ (by rfl) 31 _ (0, 0) _ R0.out Try.underlying31 (by rfl) (info_cpu _) ?_) | (go_at_call 16; refine (HP.out _).mono ?_; rintro e w5 ⟨rfl, hb5⟩; have HB5 : Hid (Below W1.heap.size W1 w5) := hb5; clear hb5) | (refine wpList_store_row (by rfl) _ _ _ (by rfl) (by rfl) _ _ _ (by rfl) (by rfl) (R1.out.later HB5.out S1.out) (info_cpu _) (by rw [cpc_size, cpc_size]) (cpc_ones _) ?_))
  refine bodyPost_ret (v := .agg (cpc (PR { k with s := upd k.s 5 v }))) ?_ rfl ⟨rfl, ?_⟩
  · exact results_cell_row Try.results26 _ _ (w.heap.size + 1) 31 _ (0, 0) _ (by rfl) (setRow_heap _ _ _ _ _ _ (R1.out.later HB5.out S1.out)) Try.underlying31 (by rfl) (info_cpu _)
  · exact below_row (BB.out.trans (HB5.out.mono BB.out.size)) (by omega) _
set_option maxRecDepth 100000 in
set_option maxHeartbeats 1000000 in
theorem rkept_800 (k : Cp) (v : BitVec 64) (w : World) : Calls Try.prog 26 #[.agg (cpc k), .int .i64 800, .int .u64 (n64 v)] w fun e w' => e = .returned (.agg (cpc (PR { k with s := upd k.s 4 v }))) ∧ Below w.heap.size w w' := by
  have hz := zero_cpu
  obtain ⟨W0, hW0, r0, r1, b0, s0⟩ := start2 w (cpc k) (cpc cz) 31 31
  have HS : Hid (W0.heap.size = w.heap.size + 2) := s0
  have f0 := r0.out.froz
  clear s0
  have HP : Hid (∀ W, Calls Try.prog 16 #[.agg (cpc { k with s := upd k.s 4 v })] W fun e w' => e = .returned (.agg (cpc (PR { k with s := upd k.s 4 v }))) ∧ Below W.heap.size W w') := fun W => rPr_c _ W
  have K := r0.out.cls.s4
  have HW : Hid (∀ W, Calls Try.prog 24 #[.int .i64 800, .int .i64 944, .int .i64 959] W fun e w' => e = .returned (.bool false) ∧ w' = W) := fun W => rwithin_c 800 944 959 W
  go_enter Try.func26, Try.ntmps26
  go_upto_region 1 with fail
  clear hz hW0
  go_upto_region 34 with (go_at_call 24; refine (HW.out _).mono ?_; rintro e w3 ⟨rfl, hw3⟩; have hw3 := hw3.symm; subst hw3)
  refine go_on2 (motive := fun W => Code.wp _ _ _ _ W) (a := w) (B := w.heap.size) (cs := cpc { k with s := upd k.s 4 v }) (row_cast (r0.out.put (i := 39) (.int .u64 (n64 v))) (cpc_s4 _ _)) (Row.other r1.out (by omega) _) (below_put b0.out (Nat.le_refl _) _) rfl ?_
  intro W1 q0 q1 c0 t0
  have R0 : Hid (Row W1 w.heap.size (cpc { k with s := upd k.s 4 v }) 31) := q0
  have R1 : Hid (Row W1 (w.heap.size + 1) (cpc cz) 31) := q1
  have BB : Hid (Below w.heap.size w W1) := c0
  have S1 : Hid (w.heap.size + 1 < W1.heap.size) := q1.lt
  clear q0 q1 c0 t0 r0 r1 b0 f0 HS
  go_wp2_with (first | (refine wpList_load_row (by rfl) _ _ (by rfl) _ (by rfl) 31 _ (0, 0) _ R0.out Try.underlying31 (by rfl) (info_cpu _) ?_) | (go_at_call 16; refine (HP.out _).mono ?_; rintro e w5 ⟨rfl, hb5⟩; have HB5 : Hid (Below W1.heap.size W1 w5) := hb5; clear hb5) | (refine wpList_store_row (by rfl) _ _ _ (by rfl) (by rfl) _ _ _ (by rfl) (by rfl) (R1.out.later HB5.out S1.out) (info_cpu _) (by rw [cpc_size, cpc_size]) (cpc_ones _) ?_))
  refine bodyPost_ret (v := .agg (cpc (PR { k with s := upd k.s 4 v }))) ?_ rfl ⟨rfl, ?_⟩
  · exact results_cell_row Try.results26 _ _ (w.heap.size + 1) 31 _ (0, 0) _ (by rfl) (setRow_heap _ _ _ _ _ _ (R1.out.later HB5.out S1.out)) Try.underlying31 (by rfl) (info_cpu _)
  · exact below_row (BB.out.trans (HB5.out.mono BB.out.size)) (by omega) _
set_option maxRecDepth 100000 in
set_option maxHeartbeats 1000000 in
theorem rkept_832 (k : Cp) (v : BitVec 64) (w : World) : Calls Try.prog 26 #[.agg (cpc k), .int .i64 832, .int .u64 (n64 v)] w fun e w' => e = .returned (.agg (cpc (PR { k with s := upd k.s 6 v }))) ∧ Below w.heap.size w w' := by
  have hz := zero_cpu
  obtain ⟨W0, hW0, r0, r1, b0, s0⟩ := start2 w (cpc k) (cpc cz) 31 31
  have HS : Hid (W0.heap.size = w.heap.size + 2) := s0
  have f0 := r0.out.froz
  clear s0
  have HP : Hid (∀ W, Calls Try.prog 16 #[.agg (cpc { k with s := upd k.s 6 v })] W fun e w' => e = .returned (.agg (cpc (PR { k with s := upd k.s 6 v }))) ∧ Below W.heap.size W w') := fun W => rPr_c _ W
  have K := r0.out.cls.s6
  have HW : Hid (∀ W, Calls Try.prog 24 #[.int .i64 832, .int .i64 944, .int .i64 959] W fun e w' => e = .returned (.bool false) ∧ w' = W) := fun W => rwithin_c 832 944 959 W
  go_enter Try.func26, Try.ntmps26
  go_upto_region 1 with fail
  clear hz hW0
  go_upto_region 34 with (go_at_call 24; refine (HW.out _).mono ?_; rintro e w3 ⟨rfl, hw3⟩; have hw3 := hw3.symm; subst hw3)
  refine go_on2 (motive := fun W => Code.wp _ _ _ _ W) (a := w) (B := w.heap.size) (cs := cpc { k with s := upd k.s 6 v }) (row_cast (r0.out.put (i := 41) (.int .u64 (n64 v))) (cpc_s6 _ _)) (Row.other r1.out (by omega) _) (below_put b0.out (Nat.le_refl _) _) rfl ?_
  intro W1 q0 q1 c0 t0
  have R0 : Hid (Row W1 w.heap.size (cpc { k with s := upd k.s 6 v }) 31) := q0
  have R1 : Hid (Row W1 (w.heap.size + 1) (cpc cz) 31) := q1
  have BB : Hid (Below w.heap.size w W1) := c0
  have S1 : Hid (w.heap.size + 1 < W1.heap.size) := q1.lt
  clear q0 q1 c0 t0 r0 r1 b0 f0 HS
  go_wp2_with (first | (refine wpList_load_row (by rfl) _ _ (by rfl) _ (by rfl) 31 _ (0, 0) _ R0.out Try.underlying31 (by rfl) (info_cpu _) ?_) | (go_at_call 16; refine (HP.out _).mono ?_; rintro e w5 ⟨rfl, hb5⟩; have HB5 : Hid (Below W1.heap.size W1 w5) := hb5; clear hb5) | (refine wpList_store_row (by rfl) _ _ _ (by rfl) (by rfl) _ _ _ (by rfl) (by rfl) (R1.out.later HB5.out S1.out) (info_cpu _) (by rw [cpc_size, cpc_size]) (cpc_ones _) ?_))
  refine bodyPost_ret (v := .agg (cpc (PR { k with s := upd k.s 6 v }))) ?_ rfl ⟨rfl, ?_⟩
  · exact results_cell_row Try.results26 _ _ (w.heap.size + 1) 31 _ (0, 0) _ (by rfl) (setRow_heap _ _ _ _ _ _ (R1.out.later HB5.out S1.out)) Try.underlying31 (by rfl) (info_cpu _)
  · exact below_row (BB.out.trans (HB5.out.mono BB.out.size)) (by omega) _
set_option maxRecDepth 100000 in
set_option maxHeartbeats 1000000 in
theorem rkept_833 (k : Cp) (v : BitVec 64) (w : World) : Calls Try.prog 26 #[.agg (cpc k), .int .i64 833, .int .u64 (n64 v)] w fun e w' => e = .returned (.agg (cpc (PR { k with s := upd k.s 7 v }))) ∧ Below w.heap.size w w' := by
  have hz := zero_cpu
  obtain ⟨W0, hW0, r0, r1, b0, s0⟩ := start2 w (cpc k) (cpc cz) 31 31
  have HS : Hid (W0.heap.size = w.heap.size + 2) := s0
  have f0 := r0.out.froz
  clear s0
  have HP : Hid (∀ W, Calls Try.prog 16 #[.agg (cpc { k with s := upd k.s 7 v })] W fun e w' => e = .returned (.agg (cpc (PR { k with s := upd k.s 7 v }))) ∧ Below W.heap.size W w') := fun W => rPr_c _ W
  have K := r0.out.cls.s7
  have HW : Hid (∀ W, Calls Try.prog 24 #[.int .i64 833, .int .i64 944, .int .i64 959] W fun e w' => e = .returned (.bool false) ∧ w' = W) := fun W => rwithin_c 833 944 959 W
  go_enter Try.func26, Try.ntmps26
  go_upto_region 1 with fail
  clear hz hW0
  go_upto_region 34 with (go_at_call 24; refine (HW.out _).mono ?_; rintro e w3 ⟨rfl, hw3⟩; have hw3 := hw3.symm; subst hw3)
  refine go_on2 (motive := fun W => Code.wp _ _ _ _ W) (a := w) (B := w.heap.size) (cs := cpc { k with s := upd k.s 7 v }) (row_cast (r0.out.put (i := 42) (.int .u64 (n64 v))) (cpc_s7 _ _)) (Row.other r1.out (by omega) _) (below_put b0.out (Nat.le_refl _) _) rfl ?_
  intro W1 q0 q1 c0 t0
  have R0 : Hid (Row W1 w.heap.size (cpc { k with s := upd k.s 7 v }) 31) := q0
  have R1 : Hid (Row W1 (w.heap.size + 1) (cpc cz) 31) := q1
  have BB : Hid (Below w.heap.size w W1) := c0
  have S1 : Hid (w.heap.size + 1 < W1.heap.size) := q1.lt
  clear q0 q1 c0 t0 r0 r1 b0 f0 HS
  go_wp2_with (first | (refine wpList_load_row (by rfl) _ _ (by rfl) _ (by rfl) 31 _ (0, 0) _ R0.out Try.underlying31 (by rfl) (info_cpu _) ?_) | (go_at_call 16; refine (HP.out _).mono ?_; rintro e w5 ⟨rfl, hb5⟩; have HB5 : Hid (Below W1.heap.size W1 w5) := hb5; clear hb5) | (refine wpList_store_row (by rfl) _ _ _ (by rfl) (by rfl) _ _ _ (by rfl) (by rfl) (R1.out.later HB5.out S1.out) (info_cpu _) (by rw [cpc_size, cpc_size]) (cpc_ones _) ?_))
  refine bodyPost_ret (v := .agg (cpc (PR { k with s := upd k.s 7 v }))) ?_ rfl ⟨rfl, ?_⟩
  · exact results_cell_row Try.results26 _ _ (w.heap.size + 1) 31 _ (0, 0) _ (by rfl) (setRow_heap _ _ _ _ _ _ (R1.out.later HB5.out S1.out)) Try.underlying31 (by rfl) (info_cpu _)
  · exact below_row (BB.out.trans (HB5.out.mono BB.out.size)) (by omega) _
set_option maxRecDepth 100000 in
set_option maxHeartbeats 1000000 in
theorem rkept_834 (k : Cp) (v : BitVec 64) (w : World) : Calls Try.prog 26 #[.agg (cpc k), .int .i64 834, .int .u64 (n64 v)] w fun e w' => e = .returned (.agg (cpc (PR { k with s := upd k.s 8 v }))) ∧ Below w.heap.size w w' := by
  have hz := zero_cpu
  obtain ⟨W0, hW0, r0, r1, b0, s0⟩ := start2 w (cpc k) (cpc cz) 31 31
  have HS : Hid (W0.heap.size = w.heap.size + 2) := s0
  have f0 := r0.out.froz
  clear s0
  have HP : Hid (∀ W, Calls Try.prog 16 #[.agg (cpc { k with s := upd k.s 8 v })] W fun e w' => e = .returned (.agg (cpc (PR { k with s := upd k.s 8 v }))) ∧ Below W.heap.size W w') := fun W => rPr_c _ W
  have K := r0.out.cls.s8
  have HW : Hid (∀ W, Calls Try.prog 24 #[.int .i64 834, .int .i64 944, .int .i64 959] W fun e w' => e = .returned (.bool false) ∧ w' = W) := fun W => rwithin_c 834 944 959 W
  go_enter Try.func26, Try.ntmps26
  go_upto_region 1 with fail
  clear hz hW0
  go_upto_region 34 with (go_at_call 24; refine (HW.out _).mono ?_; rintro e w3 ⟨rfl, hw3⟩; have hw3 := hw3.symm; subst hw3)
  refine go_on2 (motive := fun W => Code.wp _ _ _ _ W) (a := w) (B := w.heap.size) (cs := cpc { k with s := upd k.s 8 v }) (row_cast (r0.out.put (i := 43) (.int .u64 (n64 v))) (cpc_s8 _ _)) (Row.other r1.out (by omega) _) (below_put b0.out (Nat.le_refl _) _) rfl ?_
  intro W1 q0 q1 c0 t0
  have R0 : Hid (Row W1 w.heap.size (cpc { k with s := upd k.s 8 v }) 31) := q0
  have R1 : Hid (Row W1 (w.heap.size + 1) (cpc cz) 31) := q1
  have BB : Hid (Below w.heap.size w W1) := c0
  have S1 : Hid (w.heap.size + 1 < W1.heap.size) := q1.lt
  clear q0 q1 c0 t0 r0 r1 b0 f0 HS
  go_wp2_with (first | (refine wpList_load_row (by rfl) _ _ (by rfl) _ (by rfl) 31 _ (0, 0) _ R0.out Try.underlying31 (by rfl) (info_cpu _) ?_) | (go_at_call 16; refine (HP.out _).mono ?_; rintro e w5 ⟨rfl, hb5⟩; have HB5 : Hid (Below W1.heap.size W1 w5) := hb5; clear hb5) | (refine wpList_store_row (by rfl) _ _ _ (by rfl) (by rfl) _ _ _ (by rfl) (by rfl) (R1.out.later HB5.out S1.out) (info_cpu _) (by rw [cpc_size, cpc_size]) (cpc_ones _) ?_))
  refine bodyPost_ret (v := .agg (cpc (PR { k with s := upd k.s 8 v }))) ?_ rfl ⟨rfl, ?_⟩
  · exact results_cell_row Try.results26 _ _ (w.heap.size + 1) 31 _ (0, 0) _ (by rfl) (setRow_heap _ _ _ _ _ _ (R1.out.later HB5.out S1.out)) Try.underlying31 (by rfl) (info_cpu _)
  · exact below_row (BB.out.trans (HB5.out.mono BB.out.size)) (by omega) _
set_option maxRecDepth 100000 in
set_option maxHeartbeats 1000000 in
theorem rkept_835 (k : Cp) (v : BitVec 64) (w : World) : Calls Try.prog 26 #[.agg (cpc k), .int .i64 835, .int .u64 (n64 v)] w fun e w' => e = .returned (.agg (cpc (PR { k with s := upd k.s 9 v }))) ∧ Below w.heap.size w w' := by
  have hz := zero_cpu
  obtain ⟨W0, hW0, r0, r1, b0, s0⟩ := start2 w (cpc k) (cpc cz) 31 31
  have HS : Hid (W0.heap.size = w.heap.size + 2) := s0
  have f0 := r0.out.froz
  clear s0
  have HP : Hid (∀ W, Calls Try.prog 16 #[.agg (cpc { k with s := upd k.s 9 v })] W fun e w' => e = .returned (.agg (cpc (PR { k with s := upd k.s 9 v }))) ∧ Below W.heap.size W w') := fun W => rPr_c _ W
  have K := r0.out.cls.s9
  have HW : Hid (∀ W, Calls Try.prog 24 #[.int .i64 835, .int .i64 944, .int .i64 959] W fun e w' => e = .returned (.bool false) ∧ w' = W) := fun W => rwithin_c 835 944 959 W
  go_enter Try.func26, Try.ntmps26
  go_upto_region 1 with fail
  clear hz hW0
  go_upto_region 34 with (go_at_call 24; refine (HW.out _).mono ?_; rintro e w3 ⟨rfl, hw3⟩; have hw3 := hw3.symm; subst hw3)
  refine go_on2 (motive := fun W => Code.wp _ _ _ _ W) (a := w) (B := w.heap.size) (cs := cpc { k with s := upd k.s 9 v }) (row_cast (r0.out.put (i := 44) (.int .u64 (n64 v))) (cpc_s9 _ _)) (Row.other r1.out (by omega) _) (below_put b0.out (Nat.le_refl _) _) rfl ?_
  intro W1 q0 q1 c0 t0
  have R0 : Hid (Row W1 w.heap.size (cpc { k with s := upd k.s 9 v }) 31) := q0
  have R1 : Hid (Row W1 (w.heap.size + 1) (cpc cz) 31) := q1
  have BB : Hid (Below w.heap.size w W1) := c0
  have S1 : Hid (w.heap.size + 1 < W1.heap.size) := q1.lt
  clear q0 q1 c0 t0 r0 r1 b0 f0 HS
  go_wp2_with (first | (refine wpList_load_row (by rfl) _ _ (by rfl) _ (by rfl) 31 _ (0, 0) _ R0.out Try.underlying31 (by rfl) (info_cpu _) ?_) | (go_at_call 16; refine (HP.out _).mono ?_; rintro e w5 ⟨rfl, hb5⟩; have HB5 : Hid (Below W1.heap.size W1 w5) := hb5; clear hb5) | (refine wpList_store_row (by rfl) _ _ _ (by rfl) (by rfl) _ _ _ (by rfl) (by rfl) (R1.out.later HB5.out S1.out) (info_cpu _) (by rw [cpc_size, cpc_size]) (cpc_ones _) ?_))
  refine bodyPost_ret (v := .agg (cpc (PR { k with s := upd k.s 9 v }))) ?_ rfl ⟨rfl, ?_⟩
  · exact results_cell_row Try.results26 _ _ (w.heap.size + 1) 31 _ (0, 0) _ (by rfl) (setRow_heap _ _ _ _ _ _ (R1.out.later HB5.out S1.out)) Try.underlying31 (by rfl) (info_cpu _)
  · exact below_row (BB.out.trans (HB5.out.mono BB.out.size)) (by omega) _
set_option maxRecDepth 100000 in
set_option maxHeartbeats 1000000 in
theorem rkept_2816 (k : Cp) (v : BitVec 64) (w : World) : Calls Try.prog 26 #[.agg (cpc k), .int .i64 2816, .int .u64 (n64 v)] w fun e w' => e = .returned (.agg (cpc (PR { k with s := upd k.s 10 v }))) ∧ Below w.heap.size w w' := by
  have hz := zero_cpu
  obtain ⟨W0, hW0, r0, r1, b0, s0⟩ := start2 w (cpc k) (cpc cz) 31 31
  have HS : Hid (W0.heap.size = w.heap.size + 2) := s0
  have f0 := r0.out.froz
  clear s0
  have HP : Hid (∀ W, Calls Try.prog 16 #[.agg (cpc { k with s := upd k.s 10 v })] W fun e w' => e = .returned (.agg (cpc (PR { k with s := upd k.s 10 v }))) ∧ Below W.heap.size W w') := fun W => rPr_c _ W
  have K := r0.out.cls.s10
  have HW : Hid (∀ W, Calls Try.prog 24 #[.int .i64 2816, .int .i64 944, .int .i64 959] W fun e w' => e = .returned (.bool false) ∧ w' = W) := fun W => rwithin_c 2816 944 959 W
  go_enter Try.func26, Try.ntmps26
  go_upto_region 1 with fail
  clear hz hW0
  go_upto_region 34 with (go_at_call 24; refine (HW.out _).mono ?_; rintro e w3 ⟨rfl, hw3⟩; have hw3 := hw3.symm; subst hw3)
  refine go_on2 (motive := fun W => Code.wp _ _ _ _ W) (a := w) (B := w.heap.size) (cs := cpc { k with s := upd k.s 10 v }) (row_cast (r0.out.put (i := 45) (.int .u64 (n64 v))) (cpc_s10 _ _)) (Row.other r1.out (by omega) _) (below_put b0.out (Nat.le_refl _) _) rfl ?_
  intro W1 q0 q1 c0 t0
  have R0 : Hid (Row W1 w.heap.size (cpc { k with s := upd k.s 10 v }) 31) := q0
  have R1 : Hid (Row W1 (w.heap.size + 1) (cpc cz) 31) := q1
  have BB : Hid (Below w.heap.size w W1) := c0
  have S1 : Hid (w.heap.size + 1 < W1.heap.size) := q1.lt
  clear q0 q1 c0 t0 r0 r1 b0 f0 HS
  go_wp2_with (first | (refine wpList_load_row (by rfl) _ _ (by rfl) _ (by rfl) 31 _ (0, 0) _ R0.out Try.underlying31 (by rfl) (info_cpu _) ?_) | (go_at_call 16; refine (HP.out _).mono ?_; rintro e w5 ⟨rfl, hb5⟩; have HB5 : Hid (Below W1.heap.size W1 w5) := hb5; clear hb5) | (refine wpList_store_row (by rfl) _ _ _ (by rfl) (by rfl) _ _ _ (by rfl) (by rfl) (R1.out.later HB5.out S1.out) (info_cpu _) (by rw [cpc_size, cpc_size]) (cpc_ones _) ?_))
  refine bodyPost_ret (v := .agg (cpc (PR { k with s := upd k.s 10 v }))) ?_ rfl ⟨rfl, ?_⟩
  · exact results_cell_row Try.results26 _ _ (w.heap.size + 1) 31 _ (0, 0) _ (by rfl) (setRow_heap _ _ _ _ _ _ (R1.out.later HB5.out S1.out)) Try.underlying31 (by rfl) (info_cpu _)
  · exact below_row (BB.out.trans (HB5.out.mono BB.out.size)) (by omega) _
set_option maxRecDepth 100000 in
set_option maxHeartbeats 1000000 in
theorem rkept_2818 (k : Cp) (v : BitVec 64) (w : World) : Calls Try.prog 26 #[.agg (cpc k), .int .i64 2818, .int .u64 (n64 v)] w fun e w' => e = .returned (.agg (cpc (PR { k with s := upd k.s 11 v }))) ∧ Below w.heap.size w w' := by
  have hz := zero_cpu
  obtain ⟨W0, hW0, r0, r1, b0, s0⟩ := start2 w (cpc k) (cpc cz) 31 31
  have HS : Hid (W0.heap.size = w.heap.size + 2) := s0
  have f0 := r0.out.froz
  clear s0
  have HP : Hid (∀ W, Calls Try.prog 16 #[.agg (cpc { k with s := upd k.s 11 v })] W fun e w' => e = .returned (.agg (cpc (PR { k with s := upd k.s 11 v }))) ∧ Below W.heap.size W w') := fun W => rPr_c _ W
  have K := r0.out.cls.s11
  have HW : Hid (∀ W, Calls Try.prog 24 #[.int .i64 2818, .int .i64 944, .int .i64 959] W fun e w' => e = .returned (.bool false) ∧ w' = W) := fun W => rwithin_c 2818 944 959 W
  go_enter Try.func26, Try.ntmps26
  go_upto_region 1 with fail
  clear hz hW0
  go_upto_region 34 with (go_at_call 24; refine (HW.out _).mono ?_; rintro e w3 ⟨rfl, hw3⟩; have hw3 := hw3.symm; subst hw3)
  refine go_on2 (motive := fun W => Code.wp _ _ _ _ W) (a := w) (B := w.heap.size) (cs := cpc { k with s := upd k.s 11 v }) (row_cast (r0.out.put (i := 46) (.int .u64 (n64 v))) (cpc_s11 _ _)) (Row.other r1.out (by omega) _) (below_put b0.out (Nat.le_refl _) _) rfl ?_
  intro W1 q0 q1 c0 t0
  have R0 : Hid (Row W1 w.heap.size (cpc { k with s := upd k.s 11 v }) 31) := q0
  have R1 : Hid (Row W1 (w.heap.size + 1) (cpc cz) 31) := q1
  have BB : Hid (Below w.heap.size w W1) := c0
  have S1 : Hid (w.heap.size + 1 < W1.heap.size) := q1.lt
  clear q0 q1 c0 t0 r0 r1 b0 f0 HS
  go_wp2_with (first | (refine wpList_load_row (by rfl) _ _ (by rfl) _ (by rfl) 31 _ (0, 0) _ R0.out Try.underlying31 (by rfl) (info_cpu _) ?_) | (go_at_call 16; refine (HP.out _).mono ?_; rintro e w5 ⟨rfl, hb5⟩; have HB5 : Hid (Below W1.heap.size W1 w5) := hb5; clear hb5) | (refine wpList_store_row (by rfl) _ _ _ (by rfl) (by rfl) _ _ _ (by rfl) (by rfl) (R1.out.later HB5.out S1.out) (info_cpu _) (by rw [cpc_size, cpc_size]) (cpc_ones _) ?_))
  refine bodyPost_ret (v := .agg (cpc (PR { k with s := upd k.s 11 v }))) ?_ rfl ⟨rfl, ?_⟩
  · exact results_cell_row Try.results26 _ _ (w.heap.size + 1) 31 _ (0, 0) _ (by rfl) (setRow_heap _ _ _ _ _ _ (R1.out.later HB5.out S1.out)) Try.underlying31 (by rfl) (info_cpu _)
  · exact below_row (BB.out.trans (HB5.out.mono BB.out.size)) (by omega) _
set_option maxRecDepth 100000 in
set_option maxHeartbeats 1000000 in
theorem rkept_768a (k : Cp) (v : BitVec 64) (h1 : v >>> 11 &&& 3#64 = 1#64) (w : World) : Calls Try.prog 26 #[.agg (cpc k), .int .i64 768, .int .u64 (n64 v)] w fun e w' => e = .returned (.agg (cpc (PR { k with s := upd k.s 0 (v &&& ~~~6144#64 ||| k.s 0 &&& 6144#64) }))) ∧ Below w.heap.size w w' := by
  have hz := zero_cpu
  obtain ⟨W0, hW0, r0, r1, b0, s0⟩ := start2 w (cpc k) (cpc cz) 31 31
  have HS : Hid (W0.heap.size = w.heap.size + 2) := s0
  have f0 := r0.out.froz
  clear s0
  have HP : Hid (∀ W, Calls Try.prog 16 #[.agg (cpc { k with s := upd k.s 0 (v &&& ~~~6144#64 ||| k.s 0 &&& 6144#64) })] W fun e w' => e = .returned (.agg (cpc (PR { k with s := upd k.s 0 (v &&& ~~~6144#64 ||| k.s 0 &&& 6144#64) }))) ∧ Below W.heap.size W w') := fun W => rPr_c _ W
  have K := r0.out.cls.s0
  have b1 : n64 v / (2048 : Int) = n64 (v >>> 11) := n64_shr v 11
  have b2 : bits .and .u64 (n64 (v >>> 11)) 3 = n64 (v >>> 11 &&& 3#64) := n64_and (v >>> 11) 3#64
  have HW : Hid (∀ W, Calls Try.prog 24 #[.int .i64 768, .int .i64 944, .int .i64 959] W fun e w' => e = .returned (.bool false) ∧ w' = W) := fun W => rwithin_c 768 944 959 W
  have e1 : n64 (v >>> 11 &&& 3#64) = 1 := by rw [h1]; rfl
  have b3 : bits .andNot .u64 (n64 v) 6144 = n64 (v &&& ~~~6144#64) := n64_andNot v 6144#64
  have b4 : bits .and .u64 (n64 (k.s 0)) 6144 = n64 (k.s 0 &&& 6144#64) := n64_and _ 6144#64
  have b5 : bits .or .u64 (n64 (v &&& ~~~6144#64)) (n64 (k.s 0 &&& 6144#64)) = n64 (v &&& ~~~6144#64 ||| k.s 0 &&& 6144#64) := n64_or _ _
  generalize v &&& ~~~6144#64 ||| k.s 0 &&& 6144#64 = x5 at b5 HP ⊢
  generalize v &&& ~~~6144#64 = x3 at b3 b5
  generalize k.s 0 &&& 6144#64 = x4 at b4 b5
  generalize v >>> 11 &&& 3#64 = m at b2 e1
  generalize v >>> 11 = m' at b1 b2
  clear h1
  go_enter Try.func26, Try.ntmps26
  go_upto_region 1 with fail
  clear hz hW0
  go_upto_region 34 with (go_at_call 24; refine (HW.out _).mono ?_; rintro e w3 ⟨rfl, hw3⟩; have hw3 := hw3.symm; subst hw3)
  refine go_on2 (motive := fun W => Code.wp _ _ _ _ W) (a := w) (B := w.heap.size) (cs := cpc { k with s := upd k.s 0 x5 }) (row_cast (r0.out.put (i := 35) (.int .u64 (n64 x5))) (cpc_s0 _ _)) (Row.other r1.out (by omega) _) (below_put b0.out (Nat.le_refl _) _) rfl ?_
  intro W1 q0 q1 c0 t0
  have R0 : Hid (Row W1 w.heap.size (cpc { k with s := upd k.s 0 x5 }) 31) := q0
  have R1 : Hid (Row W1 (w.heap.size + 1) (cpc cz) 31) := q1
  have BB : Hid (Below w.heap.size w W1) := c0
  have S1 : Hid (w.heap.size + 1 < W1.heap.size) := q1.lt
  clear q0 q1 c0 t0 r0 r1 b0 f0 HS
  go_wp2_with (first | (refine wpList_load_row (by rfl) _ _ (by rfl) _ (by rfl) 31 _ (0, 0) _ R0.out Try.underlying31 (by rfl) (info_cpu _) ?_) | (go_at_call 16; refine (HP.out _).mono ?_; rintro e w5 ⟨rfl, hb5⟩; have HB5 : Hid (Below W1.heap.size W1 w5) := hb5; clear hb5) | (refine wpList_store_row (by rfl) _ _ _ (by rfl) (by rfl) _ _ _ (by rfl) (by rfl) (R1.out.later HB5.out S1.out) (info_cpu _) (by rw [cpc_size, cpc_size]) (cpc_ones _) ?_))
  refine bodyPost_ret (v := .agg (cpc (PR { k with s := upd k.s 0 x5 }))) ?_ rfl ⟨rfl, ?_⟩
  · exact results_cell_row Try.results26 _ _ (w.heap.size + 1) 31 _ (0, 0) _ (by rfl) (setRow_heap _ _ _ _ _ _ (R1.out.later HB5.out S1.out)) Try.underlying31 (by rfl) (info_cpu _)
  · exact below_row (BB.out.trans (HB5.out.mono BB.out.size)) (by omega) _
set_option maxRecDepth 100000 in
set_option maxHeartbeats 1000000 in
theorem rkept_768b (k : Cp) (v : BitVec 64) (h1 : v >>> 11 &&& 3#64 = 2#64) (w : World) : Calls Try.prog 26 #[.agg (cpc k), .int .i64 768, .int .u64 (n64 v)] w fun e w' => e = .returned (.agg (cpc (PR { k with s := upd k.s 0 (v &&& ~~~6144#64 ||| k.s 0 &&& 6144#64) }))) ∧ Below w.heap.size w w' := by
  have hz := zero_cpu
  obtain ⟨W0, hW0, r0, r1, b0, s0⟩ := start2 w (cpc k) (cpc cz) 31 31
  have HS : Hid (W0.heap.size = w.heap.size + 2) := s0
  have f0 := r0.out.froz
  clear s0
  have HP : Hid (∀ W, Calls Try.prog 16 #[.agg (cpc { k with s := upd k.s 0 (v &&& ~~~6144#64 ||| k.s 0 &&& 6144#64) })] W fun e w' => e = .returned (.agg (cpc (PR { k with s := upd k.s 0 (v &&& ~~~6144#64 ||| k.s 0 &&& 6144#64) }))) ∧ Below W.heap.size W w') := fun W => rPr_c _ W
  have K := r0.out.cls.s0
  have b1 : n64 v / (2048 : Int) = n64 (v >>> 11) := n64_shr v 11
  have b2 : bits .and .u64 (n64 (v >>> 11)) 3 = n64 (v >>> 11 &&& 3#64) := n64_and (v >>> 11) 3#64
  have HW : Hid (∀ W, Calls Try.prog 24 #[.int .i64 768, .int .i64 944, .int .i64 959] W fun e w' => e = .returned (.bool false) ∧ w' = W) := fun W => rwithin_c 768 944 959 W
  have e1 : ¬ n64 (v >>> 11 &&& 3#64) = 1 := by rw [h1]; decide
  have e2 : n64 (v >>> 11 &&& 3#64) = 2 := by rw [h1]; rfl
  have b3 : bits .andNot .u64 (n64 v) 6144 = n64 (v &&& ~~~6144#64) := n64_andNot v 6144#64
  have b4 : bits .and .u64 (n64 (k.s 0)) 6144 = n64 (k.s 0 &&& 6144#64) := n64_and _ 6144#64
  have b5 : bits .or .u64 (n64 (v &&& ~~~6144#64)) (n64 (k.s 0 &&& 6144#64)) = n64 (v &&& ~~~6144#64 ||| k.s 0 &&& 6144#64) := n64_or _ _
  generalize v &&& ~~~6144#64 ||| k.s 0 &&& 6144#64 = x5 at b5 HP ⊢
  generalize v &&& ~~~6144#64 = x3 at b3 b5
  generalize k.s 0 &&& 6144#64 = x4 at b4 b5
  generalize v >>> 11 &&& 3#64 = m at b2 e1 e2
  generalize v >>> 11 = m' at b1 b2
  clear h1
  go_enter Try.func26, Try.ntmps26
  go_upto_region 1 with fail
  clear hz hW0
  go_upto_region 34 with (go_at_call 24; refine (HW.out _).mono ?_; rintro e w3 ⟨rfl, hw3⟩; have hw3 := hw3.symm; subst hw3)
  refine go_on2 (motive := fun W => Code.wp _ _ _ _ W) (a := w) (B := w.heap.size) (cs := cpc { k with s := upd k.s 0 x5 }) (row_cast (r0.out.put (i := 35) (.int .u64 (n64 x5))) (cpc_s0 _ _)) (Row.other r1.out (by omega) _) (below_put b0.out (Nat.le_refl _) _) rfl ?_
  intro W1 q0 q1 c0 t0
  have R0 : Hid (Row W1 w.heap.size (cpc { k with s := upd k.s 0 x5 }) 31) := q0
  have R1 : Hid (Row W1 (w.heap.size + 1) (cpc cz) 31) := q1
  have BB : Hid (Below w.heap.size w W1) := c0
  have S1 : Hid (w.heap.size + 1 < W1.heap.size) := q1.lt
  clear q0 q1 c0 t0 r0 r1 b0 f0 HS
  go_wp2_with (first | (refine wpList_load_row (by rfl) _ _ (by rfl) _ (by rfl) 31 _ (0, 0) _ R0.out Try.underlying31 (by rfl) (info_cpu _) ?_) | (go_at_call 16; refine (HP.out _).mono ?_; rintro e w5 ⟨rfl, hb5⟩; have HB5 : Hid (Below W1.heap.size W1 w5) := hb5; clear hb5) | (refine wpList_store_row (by rfl) _ _ _ (by rfl) (by rfl) _ _ _ (by rfl) (by rfl) (R1.out.later HB5.out S1.out) (info_cpu _) (by rw [cpc_size, cpc_size]) (cpc_ones _) ?_))
  refine bodyPost_ret (v := .agg (cpc (PR { k with s := upd k.s 0 x5 }))) ?_ rfl ⟨rfl, ?_⟩
  · exact results_cell_row Try.results26 _ _ (w.heap.size + 1) 31 _ (0, 0) _ (by rfl) (setRow_heap _ _ _ _ _ _ (R1.out.later HB5.out S1.out)) Try.underlying31 (by rfl) (info_cpu _)
  · exact below_row (BB.out.trans (HB5.out.mono BB.out.size)) (by omega) _
set_option maxRecDepth 100000 in
set_option maxHeartbeats 1000000 in
theorem rkept_768c (k : Cp) (v : BitVec 64) (h1 : ¬ v >>> 11 &&& 3#64 = 1#64) (h2 : ¬ v >>> 11 &&& 3#64 = 2#64) (w : World) : Calls Try.prog 26 #[.agg (cpc k), .int .i64 768, .int .u64 (n64 v)] w fun e w' => e = .returned (.agg (cpc (PR { k with s := upd k.s 0 v }))) ∧ Below w.heap.size w w' := by
  have hz := zero_cpu
  obtain ⟨W0, hW0, r0, r1, b0, s0⟩ := start2 w (cpc k) (cpc cz) 31 31
  have HS : Hid (W0.heap.size = w.heap.size + 2) := s0
  have f0 := r0.out.froz
  clear s0
  have HP : Hid (∀ W, Calls Try.prog 16 #[.agg (cpc { k with s := upd k.s 0 v })] W fun e w' => e = .returned (.agg (cpc (PR { k with s := upd k.s 0 v }))) ∧ Below W.heap.size W w') := fun W => rPr_c _ W
  have K := r0.out.cls.s0
  have b1 : n64 v / (2048 : Int) = n64 (v >>> 11) := n64_shr v 11
  have b2 : bits .and .u64 (n64 (v >>> 11)) 3 = n64 (v >>> 11 &&& 3#64) := n64_and (v >>> 11) 3#64
  have HW : Hid (∀ W, Calls Try.prog 24 #[.int .i64 768, .int .i64 944, .int .i64 959] W fun e w' => e = .returned (.bool false) ∧ w' = W) := fun W => rwithin_c 768 944 959 W
  have e1 : ¬ n64 (v >>> 11 &&& 3#64) = 1 := fun e => h1 (n64_inj.1 e)
  have e2 : ¬ n64 (v >>> 11 &&& 3#64) = 2 := fun e => h2 (n64_inj.1 e)
  have e3 : (n64 (v >>> 11 &&& 3#64) == 1 || n64 (v >>> 11 &&& 3#64) == 2) = false := by simp [e1, e2]
  generalize v >>> 11 &&& 3#64 = m at b2 e1 e2 e3
  generalize v >>> 11 = m' at b1 b2
  clear h1 h2
  go_enter Try.func26, Try.ntmps26
  go_upto_region 1 with fail
  clear hz hW0
  go_upto_region 34 with (go_at_call 24; refine (HW.out _).mono ?_; rintro e w3 ⟨rfl, hw3⟩; have hw3 := hw3.symm; subst hw3)
  refine go_on2 (motive := fun W => Code.wp _ _ _ _ W) (a := w) (B := w.heap.size) (cs := cpc { k with s := upd k.s 0 v }) (row_cast (r0.out.put (i := 35) (.int .u64 (n64 v))) (cpc_s0 _ _)) (Row.other r1.out (by omega) _) (below_put b0.out (Nat.le_refl _) _) rfl ?_
  intro W1 q0 q1 c0 t0
  have R0 : Hid (Row W1 w.heap.size (cpc { k with s := upd k.s 0 v }) 31) := q0
  have R1 : Hid (Row W1 (w.heap.size + 1) (cpc cz) 31) := q1
  have BB : Hid (Below w.heap.size w W1) := c0
  have S1 : Hid (w.heap.size + 1 < W1.heap.size) := q1.lt
  clear q0 q1 c0 t0 r0 r1 b0 f0 HS
  go_wp2_with (first | (refine wpList_load_row (by rfl) _ _ (by rfl) _ (by rfl) 31 _ (0, 0) _ R0.out Try.underlying31 (by rfl) (info_cpu _) ?_) | (go_at_call 16; refine (HP.out _).mono ?_; rintro e w5 ⟨rfl, hb5⟩; have HB5 : Hid (Below W1.heap.size W1 w5) := hb5; clear hb5) | (refine wpList_store_row (by rfl) _ _ _ (by rfl) (by rfl) _ _ _ (by rfl) (by rfl) (R1.out.later HB5.out S1.out) (info_cpu _) (by rw [cpc_size, cpc_size]) (cpc_ones _) ?_))
  refine bodyPost_ret (v := .agg (cpc (PR { k with s := upd k.s 0 v }))) ?_ rfl ⟨rfl, ?_⟩
  · exact results_cell_row Try.results26 _ _ (w.heap.size + 1) 31 _ (0, 0) _ (by rfl) (setRow_heap _ _ _ _ _ _ (R1.out.later HB5.out S1.out)) Try.underlying31 (by rfl) (info_cpu _)
  · exact below_row (BB.out.trans (HB5.out.mono BB.out.size)) (by omega) _
set_option maxRecDepth 100000 in
set_option maxHeartbeats 1000000 in
theorem rkept_928 (k : Cp) (v : BitVec 64) (w : World) : Calls Try.prog 26 #[.agg (cpc k), .int .i64 928, .int .u64 (n64 v)] w fun e w' => e = .returned (.agg (cpc (PR { k with c := sR (PC k.c) 0 v, a := PA k.a }))) ∧ Below w.heap.size w w' := by
  have hz := zero_cpu
  obtain ⟨W0, hW0, r0, r1, b0, s0⟩ := start2 w (cpc k) (cpc cz) 31 31
  have HS : Hid (W0.heap.size = w.heap.size + 2) := s0
  have f0 := r0.out.froz
  clear s0
  have HP : Hid (∀ W, Calls Try.prog 16 #[.agg (cpc { k with c := sR (PC k.c) 0 v, a := PA k.a })] W fun e w' => e = .returned (.agg (cpc (PR { k with c := sR (PC k.c) 0 v, a := PA k.a }))) ∧ Below W.heap.size W w') := fun W => rPr_c _ W
  have HC : Hid (∀ W, Calls Try.prog 40 #[.agg (pc k.c k.a), .int .i64 0, .int .u64 (n64 v)] W fun e w' => e = .returned (.agg (pc (sR (PC k.c) 0 v) (PA k.a))) ∧ Below W.heap.size W w') := fun W => rSetCfg_c k.c k.a 0 v W
  have HW : Hid (∀ W, Calls Try.prog 24 #[.int .i64 928, .int .i64 944, .int .i64 959] W fun e w' => e = .returned (.bool false) ∧ w' = W) := fun W => rwithin_c 928 944 959 W
  go_enter Try.func26, Try.ntmps26
  go_upto_region 1 with fail
  clear hz hW0
  go_upto_region 32 with (first | (refine wpList_load_agg (by rfl) 27 _ (by rfl) w.heap.size 47 (by rfl) (pc k.c k.a) _ r0.out.pmp Try.underlying27 (by rfl) (info_pmp _ _) ?_) | (go_at_call 40; refine (HC.out _).mono ?_; rintro e w2 ⟨rfl, hb2⟩; have HB2 : Hid (Below W0.heap.size W0 w2) := hb2; clear hb2) | (refine wpList_store_part (by rfl) 27 _ _ (by rfl) (by rfl) w.heap.size 47 (pc (sR (PC k.c) 0 v) (PA k.a)) (by rfl) (by rfl) ((r0.out.later HB2.out (by rw [HS.out]; omega)).there (by rw [cpc_size, pc_size]; omega)) (info_pmp _ _) (pc_ones _ _) ?_))
  go_upto_region 34 with (go_at_call 24; refine (HW.out _).mono ?_; rintro e w3 ⟨rfl, hw3⟩; have hw3 := hw3.symm; subst hw3)
  refine go_on2 (motive := fun W => Code.wp _ _ _ _ W) (a := w) (B := w.heap.size) (cs := cpc { k with c := sR (PC k.c) 0 v, a := PA k.a }) (row_cast ((r0.out.later HB2.out (by rw [HS.out]; omega)).lay (pc (sR (PC k.c) 0 v) (PA k.a)).toList 47) (cpc_pmp _ _ _)) (Row.lays (by omega) _ _ (r1.out.later HB2.out (by rw [HS.out]; omega))) (below_lay (Nat.le_refl _) _ _ (b0.out.trans (HB2.out.mono b0.out.size))) rfl ?_
  clear HB2
  intro W1 q0 q1 c0 t0
  have R0 : Hid (Row W1 w.heap.size (cpc { k with c := sR (PC k.c) 0 v, a := PA k.a }) 31) := q0
  have R1 : Hid (Row W1 (w.heap.size + 1) (cpc cz) 31) := q1
  have BB : Hid (Below w.heap.size w W1) := c0
  have S1 : Hid (w.heap.size + 1 < W1.heap.size) := q1.lt
  clear q0 q1 c0 t0 r0 r1 b0 f0 HS
  go_wp2_with (first | (refine wpList_load_row (by rfl) _ _ (by rfl) _ (by rfl) 31 _ (0, 0) _ R0.out Try.underlying31 (by rfl) (info_cpu _) ?_) | (go_at_call 16; refine (HP.out _).mono ?_; rintro e w5 ⟨rfl, hb5⟩; have HB5 : Hid (Below W1.heap.size W1 w5) := hb5; clear hb5) | (refine wpList_store_row (by rfl) _ _ _ (by rfl) (by rfl) _ _ _ (by rfl) (by rfl) (R1.out.later HB5.out S1.out) (info_cpu _) (by rw [cpc_size, cpc_size]) (cpc_ones _) ?_))
  refine bodyPost_ret (v := .agg (cpc (PR { k with c := sR (PC k.c) 0 v, a := PA k.a }))) ?_ rfl ⟨rfl, ?_⟩
  · exact results_cell_row Try.results26 _ _ (w.heap.size + 1) 31 _ (0, 0) _ (by rfl) (setRow_heap _ _ _ _ _ _ (R1.out.later HB5.out S1.out)) Try.underlying31 (by rfl) (info_cpu _)
  · exact below_row (BB.out.trans (HB5.out.mono BB.out.size)) (by omega) _
set_option maxRecDepth 100000 in
set_option maxHeartbeats 1000000 in
theorem rkept_930 (k : Cp) (v : BitVec 64) (w : World) : Calls Try.prog 26 #[.agg (cpc k), .int .i64 930, .int .u64 (n64 v)] w fun e w' => e = .returned (.agg (cpc (PR { k with c := sR (PC k.c) 2 v, a := PA k.a }))) ∧ Below w.heap.size w w' := by
  have hz := zero_cpu
  obtain ⟨W0, hW0, r0, r1, b0, s0⟩ := start2 w (cpc k) (cpc cz) 31 31
  have HS : Hid (W0.heap.size = w.heap.size + 2) := s0
  have f0 := r0.out.froz
  clear s0
  have HP : Hid (∀ W, Calls Try.prog 16 #[.agg (cpc { k with c := sR (PC k.c) 2 v, a := PA k.a })] W fun e w' => e = .returned (.agg (cpc (PR { k with c := sR (PC k.c) 2 v, a := PA k.a }))) ∧ Below W.heap.size W w') := fun W => rPr_c _ W
  have HC : Hid (∀ W, Calls Try.prog 40 #[.agg (pc k.c k.a), .int .i64 2, .int .u64 (n64 v)] W fun e w' => e = .returned (.agg (pc (sR (PC k.c) 2 v) (PA k.a))) ∧ Below W.heap.size W w') := fun W => rSetCfg_c k.c k.a 2 v W
  have HW : Hid (∀ W, Calls Try.prog 24 #[.int .i64 930, .int .i64 944, .int .i64 959] W fun e w' => e = .returned (.bool false) ∧ w' = W) := fun W => rwithin_c 930 944 959 W
  go_enter Try.func26, Try.ntmps26
  go_upto_region 1 with fail
  clear hz hW0
  go_upto_region 32 with (first | (refine wpList_load_agg (by rfl) 27 _ (by rfl) w.heap.size 47 (by rfl) (pc k.c k.a) _ r0.out.pmp Try.underlying27 (by rfl) (info_pmp _ _) ?_) | (go_at_call 40; refine (HC.out _).mono ?_; rintro e w2 ⟨rfl, hb2⟩; have HB2 : Hid (Below W0.heap.size W0 w2) := hb2; clear hb2) | (refine wpList_store_part (by rfl) 27 _ _ (by rfl) (by rfl) w.heap.size 47 (pc (sR (PC k.c) 2 v) (PA k.a)) (by rfl) (by rfl) ((r0.out.later HB2.out (by rw [HS.out]; omega)).there (by rw [cpc_size, pc_size]; omega)) (info_pmp _ _) (pc_ones _ _) ?_))
  go_upto_region 34 with (go_at_call 24; refine (HW.out _).mono ?_; rintro e w3 ⟨rfl, hw3⟩; have hw3 := hw3.symm; subst hw3)
  refine go_on2 (motive := fun W => Code.wp _ _ _ _ W) (a := w) (B := w.heap.size) (cs := cpc { k with c := sR (PC k.c) 2 v, a := PA k.a }) (row_cast ((r0.out.later HB2.out (by rw [HS.out]; omega)).lay (pc (sR (PC k.c) 2 v) (PA k.a)).toList 47) (cpc_pmp _ _ _)) (Row.lays (by omega) _ _ (r1.out.later HB2.out (by rw [HS.out]; omega))) (below_lay (Nat.le_refl _) _ _ (b0.out.trans (HB2.out.mono b0.out.size))) rfl ?_
  clear HB2
  intro W1 q0 q1 c0 t0
  have R0 : Hid (Row W1 w.heap.size (cpc { k with c := sR (PC k.c) 2 v, a := PA k.a }) 31) := q0
  have R1 : Hid (Row W1 (w.heap.size + 1) (cpc cz) 31) := q1
  have BB : Hid (Below w.heap.size w W1) := c0
  have S1 : Hid (w.heap.size + 1 < W1.heap.size) := q1.lt
  clear q0 q1 c0 t0 r0 r1 b0 f0 HS
  go_wp2_with (first | (refine wpList_load_row (by rfl) _ _ (by rfl) _ (by rfl) 31 _ (0, 0) _ R0.out Try.underlying31 (by rfl) (info_cpu _) ?_) | (go_at_call 16; refine (HP.out _).mono ?_; rintro e w5 ⟨rfl, hb5⟩; have HB5 : Hid (Below W1.heap.size W1 w5) := hb5; clear hb5) | (refine wpList_store_row (by rfl) _ _ _ (by rfl) (by rfl) _ _ _ (by rfl) (by rfl) (R1.out.later HB5.out S1.out) (info_cpu _) (by rw [cpc_size, cpc_size]) (cpc_ones _) ?_))
  refine bodyPost_ret (v := .agg (cpc (PR { k with c := sR (PC k.c) 2 v, a := PA k.a }))) ?_ rfl ⟨rfl, ?_⟩
  · exact results_cell_row Try.results26 _ _ (w.heap.size + 1) 31 _ (0, 0) _ (by rfl) (setRow_heap _ _ _ _ _ _ (R1.out.later HB5.out S1.out)) Try.underlying31 (by rfl) (info_cpu _)
  · exact below_row (BB.out.trans (HB5.out.mono BB.out.size)) (by omega) _
set_option maxRecDepth 100000 in
set_option maxHeartbeats 1000000 in
theorem rkept_in (k : Cp) (v : BitVec 64) (j : Nat) (hj : j < 16) (w : World) : Calls Try.prog 26 #[.agg (cpc k), .int .i64 (944 + (j : Int)), .int .u64 (n64 v)] w fun e w' => e = .returned (.agg (cpc (PR { k with c := PC k.c, a := sA (PC k.c) (PA k.a) (j : Int) v }))) ∧ Below w.heap.size w w' := by
  have hz := zero_cpu
  obtain ⟨W0, hW0, r0, r1, b0, s0⟩ := start2 w (cpc k) (cpc cz) 31 31
  have HS : Hid (W0.heap.size = w.heap.size + 2) := s0
  have f0 := r0.out.froz
  clear s0
  have HP : Hid (∀ W, Calls Try.prog 16 #[.agg (cpc { k with c := PC k.c, a := sA (PC k.c) (PA k.a) (j : Int) v })] W fun e w' => e = .returned (.agg (cpc (PR { k with c := PC k.c, a := sA (PC k.c) (PA k.a) (j : Int) v }))) ∧ Below W.heap.size W w') := fun W => rPr_c _ W
  obtain ⟨n, hn⟩ : ∃ n : Int, n = 944 + (j : Int) := ⟨_, rfl⟩
  have q768 : ¬ n = 768 := by omega
  have q772 : ¬ n = 772 := by omega
  have q773 : ¬ n = 773 := by omega
  have q774 : ¬ n = 774 := by omega
  have q778 : ¬ n = 778 := by omega
  have q800 : ¬ n = 800 := by omega
  have q832 : ¬ n = 832 := by omega
  have q833 : ¬ n = 833 := by omega
  have q834 : ¬ n = 834 := by omega
  have q835 : ¬ n = 835 := by omega
  have q928 : ¬ n = 928 := by omega
  have q930 : ¬ n = 930 := by omega
  have q2816 : ¬ n = 2816 := by omega
  have q2818 : ¬ n = 2818 := by omega
  have HW : Hid (∀ W, Calls Try.prog 24 #[.int .i64 n, .int .i64 944, .int .i64 959] W fun e w' => e = .returned (.bool true) ∧ w' = W) := fun W => by
    have h := rwithin_c n 944 959 W
    rwa [show wi n 944 959 = true by rw [wi, decide_eq_true_iff]; omega] at h
  have hs : wrap64 (n - 944) = (j : Int) := by rw [hn]; unfold wrap64; omega
  rw [← hn]
  clear hn
  have HC : Hid (∀ W, Calls Try.prog 41 #[.agg (pc k.c k.a), .int .i64 (j : Int), .int .u64 (n64 v)] W fun e w' => e = .returned (.agg (pc (PC k.c) (sA (PC k.c) (PA k.a) (j : Int) v))) ∧ Below W.heap.size W w') := fun W => rSetAddr_c k.c k.a j v W
  go_enter Try.func26, Try.ntmps26
  go_upto_region 1 with fail
  clear hz hW0
  go_upto_region 33 with (go_at_call 24; refine (HW.out _).mono ?_; rintro e w3 ⟨rfl, hw3⟩; have hw3 := hw3.symm; subst hw3)
  go_upto_region 34 with (first | (refine wpList_load_agg (by rfl) 27 _ (by rfl) w.heap.size 47 (by rfl) (pc k.c k.a) _ r0.out.pmp Try.underlying27 (by rfl) (info_pmp _ _) ?_) | (go_at_call 41; refine (HC.out _).mono ?_; rintro e w2 ⟨rfl, hb2⟩; have HB2 : Hid (Below W0.heap.size W0 w2) := hb2; clear hb2) | (refine wpList_store_part (by rfl) 27 _ _ (by rfl) (by rfl) w.heap.size 47 (pc (PC k.c) (sA (PC k.c) (PA k.a) (j : Int) v)) (by rfl) (by rfl) ((r0.out.later HB2.out (by rw [HS.out]; omega)).there (by rw [cpc_size, pc_size]; omega)) (info_pmp _ _) (pc_ones _ _) ?_))
  refine go_on2 (motive := fun W => Code.wp _ _ _ _ W) (a := w) (B := w.heap.size) (cs := cpc { k with c := PC k.c, a := sA (PC k.c) (PA k.a) (j : Int) v }) (row_cast ((r0.out.later HB2.out (by rw [HS.out]; omega)).lay (pc (PC k.c) (sA (PC k.c) (PA k.a) (j : Int) v)).toList 47) (cpc_pmp _ _ _)) (Row.lays (by omega) _ _ (r1.out.later HB2.out (by rw [HS.out]; omega))) (below_lay (Nat.le_refl _) _ _ (b0.out.trans (HB2.out.mono b0.out.size))) rfl ?_
  clear HB2
  intro W1 q0 q1 c0 t0
  have R0 : Hid (Row W1 w.heap.size (cpc { k with c := PC k.c, a := sA (PC k.c) (PA k.a) (j : Int) v }) 31) := q0
  have R1 : Hid (Row W1 (w.heap.size + 1) (cpc cz) 31) := q1
  have BB : Hid (Below w.heap.size w W1) := c0
  have S1 : Hid (w.heap.size + 1 < W1.heap.size) := q1.lt
  clear q0 q1 c0 t0 r0 r1 b0 f0 HS
  go_wp2_with (first | (refine wpList_load_row (by rfl) _ _ (by rfl) _ (by rfl) 31 _ (0, 0) _ R0.out Try.underlying31 (by rfl) (info_cpu _) ?_) | (go_at_call 16; refine (HP.out _).mono ?_; rintro e w5 ⟨rfl, hb5⟩; have HB5 : Hid (Below W1.heap.size W1 w5) := hb5; clear hb5) | (refine wpList_store_row (by rfl) _ _ _ (by rfl) (by rfl) _ _ _ (by rfl) (by rfl) (R1.out.later HB5.out S1.out) (info_cpu _) (by rw [cpc_size, cpc_size]) (cpc_ones _) ?_))
  refine bodyPost_ret (v := .agg (cpc (PR { k with c := PC k.c, a := sA (PC k.c) (PA k.a) (j : Int) v }))) ?_ rfl ⟨rfl, ?_⟩
  · exact results_cell_row Try.results26 _ _ (w.heap.size + 1) 31 _ (0, 0) _ (by rfl) (setRow_heap _ _ _ _ _ _ (R1.out.later HB5.out S1.out)) Try.underlying31 (by rfl) (info_cpu _)
  · exact below_row (BB.out.trans (HB5.out.mono BB.out.size)) (by omega) _
set_option maxRecDepth 100000 in
set_option maxHeartbeats 1000000 in
theorem rkept_no (k : Cp) (v : BitVec 64) (n : Int) (q768 : ¬ n = 768) (q772 : ¬ n = 772) (q773 : ¬ n = 773) (q774 : ¬ n = 774) (q778 : ¬ n = 778) (q800 : ¬ n = 800) (q832 : ¬ n = 832) (q833 : ¬ n = 833) (q834 : ¬ n = 834) (q835 : ¬ n = 835) (q928 : ¬ n = 928) (q930 : ¬ n = 930) (q2816 : ¬ n = 2816) (q2818 : ¬ n = 2818) (hw : ¬ (944 ≤ n ∧ n ≤ 959)) (w : World) : Calls Try.prog 26 #[.agg (cpc k), .int .i64 n, .int .u64 (n64 v)] w fun e w' => e = .returned (.agg (cpc (PR k))) ∧ Below w.heap.size w w' := by
  have hz := zero_cpu
  obtain ⟨W0, hW0, r0, r1, b0, s0⟩ := start2 w (cpc k) (cpc cz) 31 31
  have HS : Hid (W0.heap.size = w.heap.size + 2) := s0
  have f0 := r0.out.froz
  clear s0
  have HP : Hid (∀ W, Calls Try.prog 16 #[.agg (cpc k)] W fun e w' => e = .returned (.agg (cpc (PR k))) ∧ Below W.heap.size W w') := fun W => rPr_c _ W
  have HW : Hid (∀ W, Calls Try.prog 24 #[.int .i64 n, .int .i64 944, .int .i64 959] W fun e w' => e = .returned (.bool false) ∧ w' = W) := fun W => by
    have h := rwithin_c n 944 959 W
    rwa [show wi n 944 959 = false by rw [wi, decide_eq_false_iff_not]; exact hw] at h
  clear hw
  go_enter Try.func26, Try.ntmps26
  go_upto_region 1 with fail
  clear hz hW0
  go_upto_region 34 with (go_at_call 24; refine (HW.out _).mono ?_; rintro e w3 ⟨rfl, hw3⟩; have hw3 := hw3.symm; subst hw3)
  refine go_on2 (motive := fun W => Code.wp _ _ _ _ W) (a := w) (B := w.heap.size) (cs := cpc k) r0.out r1.out b0.out rfl ?_
  intro W1 q0 q1 c0 t0
  have R0 : Hid (Row W1 w.heap.size (cpc k) 31) := q0
  have R1 : Hid (Row W1 (w.heap.size + 1) (cpc cz) 31) := q1
  have BB : Hid (Below w.heap.size w W1) := c0
  have S1 : Hid (w.heap.size + 1 < W1.heap.size) := q1.lt
  clear q0 q1 c0 t0 r0 r1 b0 f0 HS
  go_wp2_with (first | (refine wpList_load_row (by rfl) _ _ (by rfl) _ (by rfl) 31 _ (0, 0) _ R0.out Try.underlying31 (by rfl) (info_cpu _) ?_) | (go_at_call 16; refine (HP.out _).mono ?_; rintro e w5 ⟨rfl, hb5⟩; have HB5 : Hid (Below W1.heap.size W1 w5) := hb5; clear hb5) | (refine wpList_store_row (by rfl) _ _ _ (by rfl) (by rfl) _ _ _ (by rfl) (by rfl) (R1.out.later HB5.out S1.out) (info_cpu _) (by rw [cpc_size, cpc_size]) (cpc_ones _) ?_))
  refine bodyPost_ret (v := .agg (cpc (PR k))) ?_ rfl ⟨rfl, ?_⟩
  · exact results_cell_row Try.results26 _ _ (w.heap.size + 1) 31 _ (0, 0) _ (by rfl) (setRow_heap _ _ _ _ _ _ (R1.out.later HB5.out S1.out)) Try.underlying31 (by rfl) (info_cpu _)
  · exact below_row (BB.out.trans (HB5.out.mono BB.out.size)) (by omega) _
theorem rkept_c (k : Cp) (n : Int) (v : BitVec 64) (w : World) : Calls Try.prog 26 #[.agg (cpc k), .int .i64 n, .int .u64 (n64 v)] w fun e w' => e = .returned (.agg (cpc (PR (KW k n v)))) ∧ Below w.heap.size w w' := by
  unfold KW
  by_cases q768 : n = 768
  · rw [if_pos q768]; subst q768; unfold stW
    by_cases h1 : v >>> 11 &&& 3#64 = 1#64
    · rw [if_pos (show mq v from Or.inl h1)]; exact rkept_768a k v h1 w
    by_cases h2 : v >>> 11 &&& 3#64 = 2#64
    · rw [if_pos (show mq v from Or.inr h2)]; exact rkept_768b k v h2 w
    rw [if_neg (show ¬ mq v from fun h => h.elim h1 h2)]; exact rkept_768c k v h1 h2 w
  rw [if_neg q768]
  by_cases q772 : n = 772
  · rw [if_pos q772]; subst q772; exact rkept_772 k v w
  rw [if_neg q772]
  by_cases q773 : n = 773
  · rw [if_pos q773]; subst q773; exact rkept_773 k v w
  rw [if_neg q773]
  by_cases q774 : n = 774
  · rw [if_pos q774]; subst q774; exact rkept_774 k v w
  rw [if_neg q774]
  by_cases q778 : n = 778
  · rw [if_pos q778]; subst q778; exact rkept_778 k v w
  rw [if_neg q778]
  by_cases q800 : n = 800
  · rw [if_pos q800]; subst q800; exact rkept_800 k v w
  rw [if_neg q800]
  by_cases q832 : n = 832
  · rw [if_pos q832]; subst q832; exact rkept_832 k v w
  rw [if_neg q832]
  by_cases q833 : n = 833
  · rw [if_pos q833]; subst q833; exact rkept_833 k v w
  rw [if_neg q833]
  by_cases q834 : n = 834
  · rw [if_pos q834]; subst q834; exact rkept_834 k v w
  rw [if_neg q834]
  by_cases q835 : n = 835
  · rw [if_pos q835]; subst q835; exact rkept_835 k v w
  rw [if_neg q835]
  by_cases q2816 : n = 2816
  · rw [if_pos q2816]; subst q2816; exact rkept_2816 k v w
  rw [if_neg q2816]
  by_cases q2818 : n = 2818
  · rw [if_pos q2818]; subst q2818; exact rkept_2818 k v w
  rw [if_neg q2818]
  by_cases q928 : n = 928
  · rw [if_pos q928]; subst q928; exact rkept_928 k v w
  rw [if_neg q928]
  by_cases q930 : n = 930
  · rw [if_pos q930]; subst q930; exact rkept_930 k v w
  rw [if_neg q930]
  by_cases hw : 944 ≤ n ∧ n ≤ 959
  · rw [if_pos hw]
    obtain ⟨j, rfl⟩ : ∃ j : Nat, n = 944 + (j : Int) := ⟨(n - 944).toNat, by omega⟩
    rw [show (944 + (j : Int) - 944) = (j : Int) by omega]
    exact rkept_in k v j (by omega) w
  rw [if_neg hw]
  exact rkept_no k v n q768 q772 q773 q774 q778 q800 q832 q833 q834 q835 q928 q930 q2816 q2818 hw w
end Go.Proofs.Ytnnkeodiacdmaab
