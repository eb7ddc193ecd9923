/-
  Write of the reference.
-/
import Derived.Test.YtnnkeodiacdmaabCpk
namespace Go.Proofs.Ytnnkeodiacdmaab
set_option linter.unusedVariables false
open Go.ChangeShapes Go.WideShapes Go.ChangeAt Go.RowKit Go.Deep
theorem row_apart {w : World} {g g' : Nat} {cs : Array Value} {t : TypeId} (h : Row w g cs t) (hne : g ≠ g') (cs' : Array Value) : Row (w.setRow g' cs') g cs t := (setRow_other _ _ _ _ hne).trans h
/-- May the register be written? -/
def WK (k : Cp) (n : Int) : Bool := EX n && decide ((PR k).md = 3) && decide (n < 3072)
/-- The Cpu behind a write. -/
def WR (k : Cp) (n : Int) (v : BitVec 64) : Cp := if WK k n then PR (KW (PR k) n v) else PR k
theorem EX_hi (n : Int) (h : EX n = true) : (n < 3072 → ¬ n / 1024 % 4 = 3 ∧ wi n 3072 3103 = false) ∧ (¬ n < 3072 → n / 1024 % 4 = 3) := by
  simp only [EX, wi, Bool.or_eq_true, Bool.and_eq_true, decide_eq_true_iff, decide_eq_false_iff_not] at h ⊢
  omega
set_option maxRecDepth 100000 in
set_option maxHeartbeats 1000000 in
theorem rWrite_no (k : Cp) (n : Int) (v : BitVec 64) (hx : EX n = false) (w : World) : Calls Try.prog 15 #[.agg (cpc k), .int .i64 n, .int .u64 (n64 v)] w fun e w' => e = .returned (.tuple #[.agg (cpc (PR k)), .bool false]) ∧ Below w.heap.size w w' := by
  have hz := zero_cpu
  obtain ⟨W0, hW0, r0, r1, b0, s0⟩ := start2 w (cpc k) (cpc cz) 31 31
  have HS : Hid (W0.heap.size = w.heap.size + 2) := s0
  clear s0
  have HP : Hid (∀ W, Calls Try.prog 16 #[.agg (cpc k)] W fun e w' => e = .returned (.agg (cpc (PR k))) ∧ Below W.heap.size W w') := fun W => rPr_c k W
  have HX : Hid (∀ W, Calls Try.prog 23 #[.int .i64 n] W fun e w' => e = .returned (.bool false) ∧ w' = W) := fun W => hx ▸ rExists_c n W
  clear hx
  go_enter Try.func15, Try.ntmps15
  go_upto_region 1 with fail
  clear hz hW0
  go_upto_region 2 with (first | (refine wpList_load_row (by rfl) _ _ (by rfl) _ (by rfl) 31 _ (0, 0) _ r0.out Try.underlying31 (by rfl) (info_cpu _) ?_) | (go_at_call 16; refine (HP.out _).mono ?_; rintro e w1 ⟨rfl, hb1⟩; have HB1 : Hid (Below W0.heap.size W0 w1) := hb1; clear hb1) | (refine wpList_store_row (by rfl) _ _ _ (by rfl) (by rfl) _ _ _ (by rfl) (by rfl) (r0.out.later HB1.out (by rw [HS.out]; omega)) (info_cpu _) (by rw [cpc_size, cpc_size]) (cpc_ones _) ?_))
  refine go_on2 (motive := fun W => Code.wp _ _ _ _ W) (a := w) (B := w.heap.size) (n := w1.heap.size) (show Row _ w.heap.size (cpc (PR k)) 31 from setRow_heap _ _ _ _ _ _ (r0.out.later HB1.out (by rw [HS.out]; omega))) (row_apart (r1.out.later HB1.out (by rw [HS.out]; omega)) (by omega) _) (below_row (b0.out.trans (HB1.out.mono b0.out.size)) (Nat.le_refl _) _) (by simp) ?_
  clear r0 r1 b0 HS HB1 HP
  intro W2 q0 q1 c0 t0
  have R0 : Hid (Row W2 w.heap.size (cpc (PR k)) 31) := q0
  have R1 : Hid (Row W2 (w.heap.size + 1) (cpc cz) 31) := q1
  have BB : Hid (Below w.heap.size w W2) := c0
  have S1 : Hid (w.heap.size + 1 < W2.heap.size) := q1.lt
  have Km := q0.cls.md
  clear q0 q1 c0 t0
  skip
  go_upto_region 3 with (go_at_call 23; refine (HX.out _).mono ?_; rintro e w3 ⟨rfl, hw3⟩; have hw3 := hw3.symm; subst hw3)
  clear Km
  go_wp2_with (first | (refine wpList_load_row (by rfl) _ _ (by rfl) _ (by rfl) 31 _ (0, 0) _ R0.out Try.underlying31 (by rfl) (info_cpu _) ?_) | (refine wpList_store_row (by rfl) _ _ _ (by rfl) (by rfl) _ _ _ (by rfl) (by rfl) R1.out (info_cpu _) (by rw [cpc_size, cpc_size]) (cpc_ones _) ?_))
  refine bodyPost_ret (v := .tuple #[.agg (cpc (PR k)), .bool false]) ?_ rfl ⟨rfl, ?_⟩
  · exact results_row_slot Try.results15 _ _ (w.heap.size + 1) 31 _ (0, 0) _ _ (by rfl) (by rfl) (setRow_heap _ _ _ _ _ _ R1.out) Try.underlying31 (by rfl) (info_cpu _)
  · exact below_row BB.out (by omega) _
set_option maxRecDepth 100000 in
set_option maxHeartbeats 1000000 in
theorem rWrite_low (k : Cp) (n : Int) (v : BitVec 64) (hx : EX n = true) (hm : (PR k).md = 0) (hw : wi n 3072 3103 = false) (w : World) : Calls Try.prog 15 #[.agg (cpc k), .int .i64 n, .int .u64 (n64 v)] w fun e w' => e = .returned (.tuple #[.agg (cpc (PR k)), .bool false]) ∧ Below w.heap.size w w' := by
  have hz := zero_cpu
  obtain ⟨W0, hW0, r0, r1, b0, s0⟩ := start2 w (cpc k) (cpc cz) 31 31
  have HS : Hid (W0.heap.size = w.heap.size + 2) := s0
  clear s0
  have HP : Hid (∀ W, Calls Try.prog 16 #[.agg (cpc k)] W fun e w' => e = .returned (.agg (cpc (PR k))) ∧ Below W.heap.size W w') := fun W => rPr_c k W
  have HX : Hid (∀ W, Calls Try.prog 23 #[.int .i64 n] W fun e w' => e = .returned (.bool true) ∧ w' = W) := fun W => hx ▸ rExists_c n W
  have HM : Hid ((PR k).md = 0) := hm
  have hv : bits .and .i64 (n / (256 : Int)) 3 = 3 := by
    have h := EX_in n hx
    rw [and3 _ (by omega) (by omega), h.2.2.2 hw]
  clear hx hm hw
  go_enter Try.func15, Try.ntmps15
  go_upto_region 1 with fail
  clear hz hW0
  go_upto_region 2 with (first | (refine wpList_load_row (by rfl) _ _ (by rfl) _ (by rfl) 31 _ (0, 0) _ r0.out Try.underlying31 (by rfl) (info_cpu _) ?_) | (go_at_call 16; refine (HP.out _).mono ?_; rintro e w1 ⟨rfl, hb1⟩; have HB1 : Hid (Below W0.heap.size W0 w1) := hb1; clear hb1) | (refine wpList_store_row (by rfl) _ _ _ (by rfl) (by rfl) _ _ _ (by rfl) (by rfl) (r0.out.later HB1.out (by rw [HS.out]; omega)) (info_cpu _) (by rw [cpc_size, cpc_size]) (cpc_ones _) ?_))
  refine go_on2 (motive := fun W => Code.wp _ _ _ _ W) (a := w) (B := w.heap.size) (n := w1.heap.size) (show Row _ w.heap.size (cpc (PR k)) 31 from setRow_heap _ _ _ _ _ _ (r0.out.later HB1.out (by rw [HS.out]; omega))) (row_apart (r1.out.later HB1.out (by rw [HS.out]; omega)) (by omega) _) (below_row (b0.out.trans (HB1.out.mono b0.out.size)) (Nat.le_refl _) _) (by simp) ?_
  clear r0 r1 b0 HS HB1 HP
  intro W2 q0 q1 c0 t0
  have R0 : Hid (Row W2 w.heap.size (cpc (PR k)) 31) := q0
  have R1 : Hid (Row W2 (w.heap.size + 1) (cpc cz) 31) := q1
  have BB : Hid (Below w.heap.size w W2) := c0
  have S1 : Hid (w.heap.size + 1 < W2.heap.size) := q1.lt
  have Km := q0.cls.md
  clear q0 q1 c0 t0
  rw [HM.out] at Km
  go_upto_region 3 with (go_at_call 23; refine (HX.out _).mono ?_; rintro e w3 ⟨rfl, hw3⟩; have hw3 := hw3.symm; subst hw3)
  clear Km
  go_wp2_with (first | (refine wpList_load_row (by rfl) _ _ (by rfl) _ (by rfl) 31 _ (0, 0) _ R0.out Try.underlying31 (by rfl) (info_cpu _) ?_) | (refine wpList_store_row (by rfl) _ _ _ (by rfl) (by rfl) _ _ _ (by rfl) (by rfl) R1.out (info_cpu _) (by rw [cpc_size, cpc_size]) (cpc_ones _) ?_))
  refine bodyPost_ret (v := .tuple #[.agg (cpc (PR k)), .bool false]) ?_ rfl ⟨rfl, ?_⟩
  · exact results_row_slot Try.results15 _ _ (w.heap.size + 1) 31 _ (0, 0) _ _ (by rfl) (by rfl) (setRow_heap _ _ _ _ _ _ R1.out) Try.underlying31 (by rfl) (info_cpu _)
  · exact below_row BB.out (by omega) _
set_option maxRecDepth 100000 in
set_option maxHeartbeats 1000000 in
theorem rWrite_u (k : Cp) (n : Int) (v : BitVec 64) (hx : EX n = true) (hm : (PR k).md = 0) (hw : wi n 3072 3103 = true) (hn : ¬ n < 3072) (w : World) : Calls Try.prog 15 #[.agg (cpc k), .int .i64 n, .int .u64 (n64 v)] w fun e w' => e = .returned (.tuple #[.agg (cpc (PR k)), .bool false]) ∧ Below w.heap.size w w' := by
  have hz := zero_cpu
  obtain ⟨W0, hW0, r0, r1, b0, s0⟩ := start2 w (cpc k) (cpc cz) 31 31
  have HS : Hid (W0.heap.size = w.heap.size + 2) := s0
  clear s0
  have HP : Hid (∀ W, Calls Try.prog 16 #[.agg (cpc k)] W fun e w' => e = .returned (.agg (cpc (PR k))) ∧ Below W.heap.size W w') := fun W => rPr_c k W
  have HX : Hid (∀ W, Calls Try.prog 23 #[.int .i64 n] W fun e w' => e = .returned (.bool true) ∧ w' = W) := fun W => hx ▸ rExists_c n W
  have HM : Hid ((PR k).md = 0) := hm
  have hv : bits .and .i64 (n / (256 : Int)) 3 = 0 := by
    have h := EX_in n hx
    rw [and3 _ (by omega) (by omega), h.2.2.1 hw]
  have hy : bits .and .i64 (n / (1024 : Int)) 3 = 3 := by
    have h := EX_in n hx
    rw [and3 _ (by omega) (by omega), (EX_hi n hx).2 hn]
  clear hx hm hw hn
  go_enter Try.func15, Try.ntmps15
  go_upto_region 1 with fail
  clear hz hW0
  go_upto_region 2 with (first | (refine wpList_load_row (by rfl) _ _ (by rfl) _ (by rfl) 31 _ (0, 0) _ r0.out Try.underlying31 (by rfl) (info_cpu _) ?_) | (go_at_call 16; refine (HP.out _).mono ?_; rintro e w1 ⟨rfl, hb1⟩; have HB1 : Hid (Below W0.heap.size W0 w1) := hb1; clear hb1) | (refine wpList_store_row (by rfl) _ _ _ (by rfl) (by rfl) _ _ _ (by rfl) (by rfl) (r0.out.later HB1.out (by rw [HS.out]; omega)) (info_cpu _) (by rw [cpc_size, cpc_size]) (cpc_ones _) ?_))
  refine go_on2 (motive := fun W => Code.wp _ _ _ _ W) (a := w) (B := w.heap.size) (n := w1.heap.size) (show Row _ w.heap.size (cpc (PR k)) 31 from setRow_heap _ _ _ _ _ _ (r0.out.later HB1.out (by rw [HS.out]; omega))) (row_apart (r1.out.later HB1.out (by rw [HS.out]; omega)) (by omega) _) (below_row (b0.out.trans (HB1.out.mono b0.out.size)) (Nat.le_refl _) _) (by simp) ?_
  clear r0 r1 b0 HS HB1 HP
  intro W2 q0 q1 c0 t0
  have R0 : Hid (Row W2 w.heap.size (cpc (PR k)) 31) := q0
  have R1 : Hid (Row W2 (w.heap.size + 1) (cpc cz) 31) := q1
  have BB : Hid (Below w.heap.size w W2) := c0
  have S1 : Hid (w.heap.size + 1 < W2.heap.size) := q1.lt
  have Km := q0.cls.md
  clear q0 q1 c0 t0
  rw [HM.out] at Km
  go_upto_region 3 with (go_at_call 23; refine (HX.out _).mono ?_; rintro e w3 ⟨rfl, hw3⟩; have hw3 := hw3.symm; subst hw3)
  clear Km
  go_wp2_with (first | (refine wpList_load_row (by rfl) _ _ (by rfl) _ (by rfl) 31 _ (0, 0) _ R0.out Try.underlying31 (by rfl) (info_cpu _) ?_) | (refine wpList_store_row (by rfl) _ _ _ (by rfl) (by rfl) _ _ _ (by rfl) (by rfl) R1.out (info_cpu _) (by rw [cpc_size, cpc_size]) (cpc_ones _) ?_))
  refine bodyPost_ret (v := .tuple #[.agg (cpc (PR k)), .bool false]) ?_ rfl ⟨rfl, ?_⟩
  · exact results_row_slot Try.results15 _ _ (w.heap.size + 1) 31 _ (0, 0) _ _ (by rfl) (by rfl) (setRow_heap _ _ _ _ _ _ R1.out) Try.underlying31 (by rfl) (info_cpu _)
  · exact below_row BB.out (by omega) _
set_option maxRecDepth 100000 in
set_option maxHeartbeats 1000000 in
theorem rWrite_ma (k : Cp) (n : Int) (v : BitVec 64) (hx : EX n = true) (hm : (PR k).md = 3) (hw : wi n 3072 3103 = true) (hn : ¬ n < 3072) (w : World) : Calls Try.prog 15 #[.agg (cpc k), .int .i64 n, .int .u64 (n64 v)] w fun e w' => e = .returned (.tuple #[.agg (cpc (PR k)), .bool false]) ∧ Below w.heap.size w w' := by
  have hz := zero_cpu
  obtain ⟨W0, hW0, r0, r1, b0, s0⟩ := start2 w (cpc k) (cpc cz) 31 31
  have HS : Hid (W0.heap.size = w.heap.size + 2) := s0
  clear s0
  have HP : Hid (∀ W, Calls Try.prog 16 #[.agg (cpc k)] W fun e w' => e = .returned (.agg (cpc (PR k))) ∧ Below W.heap.size W w') := fun W => rPr_c k W
  have HX : Hid (∀ W, Calls Try.prog 23 #[.int .i64 n] W fun e w' => e = .returned (.bool true) ∧ w' = W) := fun W => hx ▸ rExists_c n W
  have HM : Hid ((PR k).md = 3) := hm
  have hv : bits .and .i64 (n / (256 : Int)) 3 = 0 := by
    have h := EX_in n hx
    rw [and3 _ (by omega) (by omega), h.2.2.1 hw]
  have hy : bits .and .i64 (n / (1024 : Int)) 3 = 3 := by
    have h := EX_in n hx
    rw [and3 _ (by omega) (by omega), (EX_hi n hx).2 hn]
  clear hx hm hw hn
  go_enter Try.func15, Try.ntmps15
  go_upto_region 1 with fail
  clear hz hW0
  go_upto_region 2 with (first | (refine wpList_load_row (by rfl) _ _ (by rfl) _ (by rfl) 31 _ (0, 0) _ r0.out Try.underlying31 (by rfl) (info_cpu _) ?_) | (go_at_call 16; refine (HP.out _).mono ?_; rintro e w1 ⟨rfl, hb1⟩; have HB1 : Hid (Below W0.heap.size W0 w1) := hb1; clear hb1) | (refine wpList_store_row (by rfl) _ _ _ (by rfl) (by rfl) _ _ _ (by rfl) (by rfl) (r0.out.later HB1.out (by rw [HS.out]; omega)) (info_cpu _) (by rw [cpc_size, cpc_size]) (cpc_ones _) ?_))
  refine go_on2 (motive := fun W => Code.wp _ _ _ _ W) (a := w) (B := w.heap.size) (n := w1.heap.size) (show Row _ w.heap.size (cpc (PR k)) 31 from setRow_heap _ _ _ _ _ _ (r0.out.later HB1.out (by rw [HS.out]; omega))) (row_apart (r1.out.later HB1.out (by rw [HS.out]; omega)) (by omega) _) (below_row (b0.out.trans (HB1.out.mono b0.out.size)) (Nat.le_refl _) _) (by simp) ?_
  clear r0 r1 b0 HS HB1 HP
  intro W2 q0 q1 c0 t0
  have R0 : Hid (Row W2 w.heap.size (cpc (PR k)) 31) := q0
  have R1 : Hid (Row W2 (w.heap.size + 1) (cpc cz) 31) := q1
  have BB : Hid (Below w.heap.size w W2) := c0
  have S1 : Hid (w.heap.size + 1 < W2.heap.size) := q1.lt
  have Km := q0.cls.md
  clear q0 q1 c0 t0
  rw [HM.out] at Km
  go_upto_region 3 with (go_at_call 23; refine (HX.out _).mono ?_; rintro e w3 ⟨rfl, hw3⟩; have hw3 := hw3.symm; subst hw3)
  clear Km
  go_wp2_with (first | (refine wpList_load_row (by rfl) _ _ (by rfl) _ (by rfl) 31 _ (0, 0) _ R0.out Try.underlying31 (by rfl) (info_cpu _) ?_) | (refine wpList_store_row (by rfl) _ _ _ (by rfl) (by rfl) _ _ _ (by rfl) (by rfl) R1.out (info_cpu _) (by rw [cpc_size, cpc_size]) (cpc_ones _) ?_))
  refine bodyPost_ret (v := .tuple #[.agg (cpc (PR k)), .bool false]) ?_ rfl ⟨rfl, ?_⟩
  · exact results_row_slot Try.results15 _ _ (w.heap.size + 1) 31 _ (0, 0) _ _ (by rfl) (by rfl) (setRow_heap _ _ _ _ _ _ R1.out) Try.underlying31 (by rfl) (info_cpu _)
  · exact below_row BB.out (by omega) _
set_option maxRecDepth 100000 in
set_option maxHeartbeats 1000000 in
theorem rWrite_mb (k : Cp) (n : Int) (v : BitVec 64) (hx : EX n = true) (hm : (PR k).md = 3) (hw : wi n 3072 3103 = false) (hn : ¬ n < 3072) (w : World) : Calls Try.prog 15 #[.agg (cpc k), .int .i64 n, .int .u64 (n64 v)] w fun e w' => e = .returned (.tuple #[.agg (cpc (PR k)), .bool false]) ∧ Below w.heap.size w w' := by
  have hz := zero_cpu
  obtain ⟨W0, hW0, r0, r1, b0, s0⟩ := start2 w (cpc k) (cpc cz) 31 31
  have HS : Hid (W0.heap.size = w.heap.size + 2) := s0
  clear s0
  have HP : Hid (∀ W, Calls Try.prog 16 #[.agg (cpc k)] W fun e w' => e = .returned (.agg (cpc (PR k))) ∧ Below W.heap.size W w') := fun W => rPr_c k W
  have HX : Hid (∀ W, Calls Try.prog 23 #[.int .i64 n] W fun e w' => e = .returned (.bool true) ∧ w' = W) := fun W => hx ▸ rExists_c n W
  have HM : Hid ((PR k).md = 3) := hm
  have hv : bits .and .i64 (n / (256 : Int)) 3 = 3 := by
    have h := EX_in n hx
    rw [and3 _ (by omega) (by omega), h.2.2.2 hw]
  have hy : bits .and .i64 (n / (1024 : Int)) 3 = 3 := by
    have h := EX_in n hx
    rw [and3 _ (by omega) (by omega), (EX_hi n hx).2 hn]
  clear hx hm hw hn
  go_enter Try.func15, Try.ntmps15
  go_upto_region 1 with fail
  clear hz hW0
  go_upto_region 2 with (first | (refine wpList_load_row (by rfl) _ _ (by rfl) _ (by rfl) 31 _ (0, 0) _ r0.out Try.underlying31 (by rfl) (info_cpu _) ?_) | (go_at_call 16; refine (HP.out _).mono ?_; rintro e w1 ⟨rfl, hb1⟩; have HB1 : Hid (Below W0.heap.size W0 w1) := hb1; clear hb1) | (refine wpList_store_row (by rfl) _ _ _ (by rfl) (by rfl) _ _ _ (by rfl) (by rfl) (r0.out.later HB1.out (by rw [HS.out]; omega)) (info_cpu _) (by rw [cpc_size, cpc_size]) (cpc_ones _) ?_))
  refine go_on2 (motive := fun W => Code.wp _ _ _ _ W) (a := w) (B := w.heap.size) (n := w1.heap.size) (show Row _ w.heap.size (cpc (PR k)) 31 from setRow_heap _ _ _ _ _ _ (r0.out.later HB1.out (by rw [HS.out]; omega))) (row_apart (r1.out.later HB1.out (by rw [HS.out]; omega)) (by omega) _) (below_row (b0.out.trans (HB1.out.mono b0.out.size)) (Nat.le_refl _) _) (by simp) ?_
  clear r0 r1 b0 HS HB1 HP
  intro W2 q0 q1 c0 t0
  have R0 : Hid (Row W2 w.heap.size (cpc (PR k)) 31) := q0
  have R1 : Hid (Row W2 (w.heap.size + 1) (cpc cz) 31) := q1
  have BB : Hid (Below w.heap.size w W2) := c0
  have S1 : Hid (w.heap.size + 1 < W2.heap.size) := q1.lt
  have Km := q0.cls.md
  clear q0 q1 c0 t0
  rw [HM.out] at Km
  go_upto_region 3 with (go_at_call 23; refine (HX.out _).mono ?_; rintro e w3 ⟨rfl, hw3⟩; have hw3 := hw3.symm; subst hw3)
  clear Km
  go_wp2_with (first | (refine wpList_load_row (by rfl) _ _ (by rfl) _ (by rfl) 31 _ (0, 0) _ R0.out Try.underlying31 (by rfl) (info_cpu _) ?_) | (refine wpList_store_row (by rfl) _ _ _ (by rfl) (by rfl) _ _ _ (by rfl) (by rfl) R1.out (info_cpu _) (by rw [cpc_size, cpc_size]) (cpc_ones _) ?_))
  refine bodyPost_ret (v := .tuple #[.agg (cpc (PR k)), .bool false]) ?_ rfl ⟨rfl, ?_⟩
  · exact results_row_slot Try.results15 _ _ (w.heap.size + 1) 31 _ (0, 0) _ _ (by rfl) (by rfl) (setRow_heap _ _ _ _ _ _ R1.out) Try.underlying31 (by rfl) (info_cpu _)
  · exact below_row BB.out (by omega) _
set_option maxRecDepth 100000 in
set_option maxHeartbeats 1000000 in
theorem rWrite_m (k : Cp) (n : Int) (v : BitVec 64) (hx : EX n = true) (hm : (PR k).md = 3) (hn : n < 3072) (w : World) : Calls Try.prog 15 #[.agg (cpc k), .int .i64 n, .int .u64 (n64 v)] w fun e w' => e = .returned (.tuple #[.agg (cpc (PR (KW (PR k) n v))), .bool true]) ∧ Below w.heap.size w w' := by
  have hz := zero_cpu
  obtain ⟨W0, hW0, r0, r1, b0, s0⟩ := start2 w (cpc k) (cpc cz) 31 31
  have HS : Hid (W0.heap.size = w.heap.size + 2) := s0
  clear s0
  have HP : Hid (∀ W, Calls Try.prog 16 #[.agg (cpc k)] W fun e w' => e = .returned (.agg (cpc (PR k))) ∧ Below W.heap.size W w') := fun W => rPr_c k W
  have HX : Hid (∀ W, Calls Try.prog 23 #[.int .i64 n] W fun e w' => e = .returned (.bool true) ∧ w' = W) := fun W => hx ▸ rExists_c n W
  have HM : Hid ((PR k).md = 3) := hm
  have hw := ((EX_hi n hx).1 hn).2
  have hv : bits .and .i64 (n / (256 : Int)) 3 = 3 := by
    have h := EX_in n hx
    rw [and3 _ (by omega) (by omega), h.2.2.2 hw]
  obtain ⟨y, hy, hy3⟩ : ∃ y, bits .and .i64 (n / (1024 : Int)) 3 = y ∧ (y == 3) = false := ⟨_, rfl, by
    have h := EX_in n hx
    rw [and3 _ (by omega) (by omega), beq_eq_false_iff_ne]; exact ((EX_hi n hx).1 hn).1⟩
  have HK : Hid (∀ W, Calls Try.prog 26 #[.agg (cpc (PR k)), .int .i64 n, .int .u64 (n64 v)] W fun e w' => e = .returned (.agg (cpc (PR (KW (PR k) n v)))) ∧ Below W.heap.size W w') := fun W => rkept_c (PR k) n v W
  clear hx hm hw hn
  go_enter Try.func15, Try.ntmps15
  go_upto_region 1 with fail
  clear hz hW0
  go_upto_region 2 with (first | (refine wpList_load_row (by rfl) _ _ (by rfl) _ (by rfl) 31 _ (0, 0) _ r0.out Try.underlying31 (by rfl) (info_cpu _) ?_) | (go_at_call 16; refine (HP.out _).mono ?_; rintro e w1 ⟨rfl, hb1⟩; have HB1 : Hid (Below W0.heap.size W0 w1) := hb1; clear hb1) | (refine wpList_store_row (by rfl) _ _ _ (by rfl) (by rfl) _ _ _ (by rfl) (by rfl) (r0.out.later HB1.out (by rw [HS.out]; omega)) (info_cpu _) (by rw [cpc_size, cpc_size]) (cpc_ones _) ?_))
  refine go_on2 (motive := fun W => Code.wp _ _ _ _ W) (a := w) (B := w.heap.size) (n := w1.heap.size) (show Row _ w.heap.size (cpc (PR k)) 31 from setRow_heap _ _ _ _ _ _ (r0.out.later HB1.out (by rw [HS.out]; omega))) (row_apart (r1.out.later HB1.out (by rw [HS.out]; omega)) (by omega) _) (below_row (b0.out.trans (HB1.out.mono b0.out.size)) (Nat.le_refl _) _) (by simp) ?_
  clear r0 r1 b0 HS HB1 HP
  intro W2 q0 q1 c0 t0
  have R0 : Hid (Row W2 w.heap.size (cpc (PR k)) 31) := q0
  have R1 : Hid (Row W2 (w.heap.size + 1) (cpc cz) 31) := q1
  have BB : Hid (Below w.heap.size w W2) := c0
  have S1 : Hid (w.heap.size + 1 < W2.heap.size) := q1.lt
  have Km := q0.cls.md
  clear q0 q1 c0 t0
  rw [HM.out] at Km
  go_upto_region 4 with (go_at_call 23; refine (HX.out _).mono ?_; rintro e w3 ⟨rfl, hw3⟩; have hw3 := hw3.symm; subst hw3)
  clear Km
  go_wp2_with (first | (refine wpList_load_row (by rfl) _ _ (by rfl) _ (by rfl) 31 _ (0, 0) _ R0.out Try.underlying31 (by rfl) (info_cpu _) ?_) | (go_at_call 26; refine (HK.out _).mono ?_; rintro e w5 ⟨rfl, hb5⟩; have HB5 : Hid (Below W2.heap.size W2 w5) := hb5; clear hb5) | (refine wpList_store_row (by rfl) _ _ _ (by rfl) (by rfl) _ _ _ (by rfl) (by rfl) (R1.out.later HB5.out S1.out) (info_cpu _) (by rw [cpc_size, cpc_size]) (cpc_ones _) ?_))
  refine bodyPost_ret (v := .tuple #[.agg (cpc (PR (KW (PR k) n v))), .bool true]) ?_ rfl ⟨rfl, ?_⟩
  · exact results_row_slot Try.results15 _ _ (w.heap.size + 1) 31 _ (0, 0) _ _ (by rfl) (by rfl) (setRow_heap _ _ _ _ _ _ (R1.out.later HB5.out S1.out)) Try.underlying31 (by rfl) (info_cpu _)
  · exact below_row (BB.out.trans (HB5.out.mono BB.out.size)) (by omega) _
theorem rWrite_c (k : Cp) (n : Int) (v : BitVec 64) (w : World) : Calls Try.prog 15 #[.agg (cpc k), .int .i64 n, .int .u64 (n64 v)] w fun e w' => e = .returned (.tuple #[.agg (cpc (WR k n v)), .bool (WK k n)]) ∧ Below w.heap.size w w' := by
  unfold WR
  cases hx : EX n with
  | false =>
    have e : WK k n = false := by simp [WK, hx]
    rw [e]; exact rWrite_no k n v hx w
  | true =>
    rcases PR_md k with hm | hm
    · have e : WK k n = false := by simp [WK, hm]
      rw [e]
      cases hw : wi n 3072 3103 with
      | false => exact rWrite_low k n v hx hm hw w
      | true => exact rWrite_u k n v hx hm hw (by simp [wi] at hw; omega) w
    · by_cases hn : n < 3072
      · have e : WK k n = true := by simp [WK, hx, hm, hn]
        rw [e]; exact rWrite_m k n v hx hm hn w
      · have e : WK k n = false := by simp [WK, hn]
        rw [e]
        cases hw : wi n 3072 3103 with
        | false => exact rWrite_mb k n v hx hm hw hn w
        | true => exact rWrite_ma k n v hx hm hw hn w
end Go.Proofs.Ytnnkeodiacdmaab
