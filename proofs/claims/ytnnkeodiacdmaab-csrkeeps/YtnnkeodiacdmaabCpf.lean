/-
  Read of the reference.
-/
import Derived.Test.YtnnkeodiacdmaabCpt
namespace Go.Proofs.Ytnnkeodiacdmaab
set_option linter.unusedVariables false
open Go.ChangeShapes Go.WideShapes Go.ChangeAt Go.RowKit Go.Deep
theorem PR_md (k : Cp) : (PR k).md = 0 ∨ (PR k).md = 3 := by
  unfold PR; by_cases h : k.md = 3
  · right; simp [h]
  · left; simp [h]
/-- May the register be read? -/
def RK (k : Cp) (n : Int) : Bool := EX n && (decide ((PR k).md = 3) || (wi n 3072 3103 && decide (¬ (PR k).s 3 >>> (n - 3072).toNat &&& 1#64 = 0#64)))
theorem and3 (m : Int) (h0 : 0 ≤ m) (h1 : m < 16) : bits .and .i64 m 3 = m % 4 := by
  have : m = 0 ∨ m = 1 ∨ m = 2 ∨ m = 3 ∨ m = 4 ∨ m = 5 ∨ m = 6 ∨ m = 7 ∨ m = 8 ∨ m = 9 ∨ m = 10 ∨ m = 11 ∨ m = 12 ∨ m = 13 ∨ m = 14 ∨ m = 15 := by omega
  rcases this with rfl | rfl | rfl | rfl | rfl | rfl | rfl | rfl | rfl | rfl | rfl | rfl | rfl | rfl | rfl | rfl <;> decide +kernel
theorem EX_in (n : Int) (h : EX n = true) : 0 ≤ n ∧ n < 4096 ∧ (wi n 3072 3103 = true → n / 256 % 4 = 0) ∧ (wi n 3072 3103 = false → n / 256 % 4 = 3) := by
  simp only [EX, wi, Bool.or_eq_true, Bool.and_eq_true, decide_eq_true_iff, decide_eq_false_iff_not] at h ⊢
  omega
theorem cz_row (w : World) (k : Cp) : Row (w.alloc (.cells (cpc k) 31)) w.heap.size (cpc k) 31 := Row.new _ _ _
/-- What Read answers. -/
def RD (k : Cp) (mip time : BitVec 64) (n : Int) : Int := if RK k n then TO (PR k) mip time n else 0
set_option maxRecDepth 100000 in
set_option maxHeartbeats 1000000 in
theorem rRead_no (k : Cp) (mip time : BitVec 64) (n : Int) (hx : EX n = false) (w : World) : Calls Try.prog 14 #[.agg (cpc k), .int .u64 (n64 mip), .int .u64 (n64 time), .int .i64 n] w fun e w' => e = .returned (.tuple #[.int .u64 (0), .bool false]) ∧ Below w.heap.size w w' := by
  obtain ⟨W0, hW0, r0, b0, s0⟩ := start1 w (cpc k) 31
  have HS : Hid (W0.heap.size = w.heap.size + 1) := s0
  clear s0
  have HP : Hid (∀ W, Calls Try.prog 16 #[.agg (cpc k)] W fun e w' => e = .returned (.agg (cpc (PR k))) ∧ Below W.heap.size W w') := fun W => rPr_c k W
  have HX : Hid (∀ W, Calls Try.prog 23 #[.int .i64 n] W fun e w' => e = .returned (.bool (EX n)) ∧ w' = W) := fun W => rExists_c n W
  have HW : Hid (∀ a b W, Calls Try.prog 24 #[.int .i64 n, .int .i64 a, .int .i64 b] W fun e w' => e = .returned (.bool (wi n a b)) ∧ w' = W) := fun a b W => rwithin_c n a b W
  have HXE : Hid (EX n = false) := hx
  clear hx
  go_enter Try.func14, Try.ntmps14
  go_upto_region 1 with fail
  clear hW0
  go_upto_region 2 with (first | (refine wpList_load_row (by rfl) _ _ (by rfl) _ (by rfl) 31 _ (0, 0) _ r0.out Try.underlying31 (by rfl) (info_cpu _) ?_) | (go_at_call 16; refine (HP.out _).mono ?_; rintro e w1 ⟨rfl, hb1⟩; have HB1 : Hid (Below W0.heap.size W0 w1) := hb1; clear hb1) | (refine wpList_store_row (by rfl) _ _ _ (by rfl) (by rfl) _ _ _ (by rfl) (by rfl) (r0.out.later HB1.out (by rw [HS.out]; omega)) (info_cpu _) (by rw [cpc_size, cpc_size]) (cpc_ones _) ?_))
  refine go_on1 (motive := fun W => Code.wp _ _ _ _ W) (a := w) (B := w.heap.size) (n := w1.heap.size) (show Row _ w.heap.size (cpc (PR k)) 31 from setRow_heap _ _ _ _ _ _ (r0.out.later HB1.out (by rw [HS.out]; omega))) (below_row (b0.out.trans (HB1.out.mono b0.out.size)) (Nat.le_refl _) _) (by simp) ?_
  clear r0 b0 HS HB1 HP
  intro W2 r0 b0 s0
  have R0 : Hid (Row W2 w.heap.size (cpc (PR k)) 31) := r0
  have BB : Hid (Below w.heap.size w W2) := b0
  have Km := r0.cls.md
  have K4 := r0.cls.s3
  clear r0 b0 s0
  go_wp2_with (go_at_call 23; refine (HX.out _).mono ?_; rw [HXE.out]; rintro e w3 ⟨rfl, hw3⟩; have hw3 := hw3.symm; subst hw3)
  go_ret2
  exact ⟨rfl, BB.out⟩
set_option maxRecDepth 100000 in
set_option maxHeartbeats 1000000 in
theorem rRead_low (k : Cp) (mip time : BitVec 64) (n : Int) (hx : EX n = true) (hm : (PR k).md = 0) (hw : wi n 3072 3103 = false) (w : World) : Calls Try.prog 14 #[.agg (cpc k), .int .u64 (n64 mip), .int .u64 (n64 time), .int .i64 n] w fun e w' => e = .returned (.tuple #[.int .u64 (0), .bool false]) ∧ Below w.heap.size w w' := by
  obtain ⟨W0, hW0, r0, b0, s0⟩ := start1 w (cpc k) 31
  have HS : Hid (W0.heap.size = w.heap.size + 1) := s0
  clear s0
  have HP : Hid (∀ W, Calls Try.prog 16 #[.agg (cpc k)] W fun e w' => e = .returned (.agg (cpc (PR k))) ∧ Below W.heap.size W w') := fun W => rPr_c k W
  have HX : Hid (∀ W, Calls Try.prog 23 #[.int .i64 n] W fun e w' => e = .returned (.bool (EX n)) ∧ w' = W) := fun W => rExists_c n W
  have HW : Hid (∀ a b W, Calls Try.prog 24 #[.int .i64 n, .int .i64 a, .int .i64 b] W fun e w' => e = .returned (.bool (wi n a b)) ∧ w' = W) := fun a b W => rwithin_c n a b W
  have HXE : Hid (EX n = true) := hx
  have HM : Hid ((PR k).md = 0) := hm
  have hv : bits .and .i64 (n / (256 : Int)) 3 = 3 := by
    have h := EX_in n hx
    rw [and3 _ (by omega) (by omega), h.2.2.2 hw]
  clear hx hm hw
  go_enter Try.func14, Try.ntmps14
  go_upto_region 1 with fail
  clear hW0
  go_upto_region 2 with (first | (refine wpList_load_row (by rfl) _ _ (by rfl) _ (by rfl) 31 _ (0, 0) _ r0.out Try.underlying31 (by rfl) (info_cpu _) ?_) | (go_at_call 16; refine (HP.out _).mono ?_; rintro e w1 ⟨rfl, hb1⟩; have HB1 : Hid (Below W0.heap.size W0 w1) := hb1; clear hb1) | (refine wpList_store_row (by rfl) _ _ _ (by rfl) (by rfl) _ _ _ (by rfl) (by rfl) (r0.out.later HB1.out (by rw [HS.out]; omega)) (info_cpu _) (by rw [cpc_size, cpc_size]) (cpc_ones _) ?_))
  refine go_on1 (motive := fun W => Code.wp _ _ _ _ W) (a := w) (B := w.heap.size) (n := w1.heap.size) (show Row _ w.heap.size (cpc (PR k)) 31 from setRow_heap _ _ _ _ _ _ (r0.out.later HB1.out (by rw [HS.out]; omega))) (below_row (b0.out.trans (HB1.out.mono b0.out.size)) (Nat.le_refl _) _) (by simp) ?_
  clear r0 b0 HS HB1 HP
  intro W2 r0 b0 s0
  have R0 : Hid (Row W2 w.heap.size (cpc (PR k)) 31) := r0
  have BB : Hid (Below w.heap.size w W2) := b0
  have Km := r0.cls.md
  have K4 := r0.cls.s3
  clear r0 b0 s0
  rw [HM.out] at Km
  go_wp2_with (go_at_call 23; refine (HX.out _).mono ?_; rw [HXE.out]; rintro e w3 ⟨rfl, hw3⟩; have hw3 := hw3.symm; subst hw3)
  go_ret2
  exact ⟨rfl, BB.out⟩
set_option maxRecDepth 100000 in
set_option maxHeartbeats 1000000 in
theorem rRead_m0 (k : Cp) (mip time : BitVec 64) (n : Int) (hx : EX n = true) (hm : (PR k).md = 3) (hw : wi n 3072 3103 = true) (w : World) : Calls Try.prog 14 #[.agg (cpc k), .int .u64 (n64 mip), .int .u64 (n64 time), .int .i64 n] w fun e w' => e = .returned (.tuple #[.int .u64 (TO (PR k) mip time n), .bool true]) ∧ Below w.heap.size w w' := by
  obtain ⟨W0, hW0, r0, b0, s0⟩ := start1 w (cpc k) 31
  have HS : Hid (W0.heap.size = w.heap.size + 1) := s0
  clear s0
  have HP : Hid (∀ W, Calls Try.prog 16 #[.agg (cpc k)] W fun e w' => e = .returned (.agg (cpc (PR k))) ∧ Below W.heap.size W w') := fun W => rPr_c k W
  have HX : Hid (∀ W, Calls Try.prog 23 #[.int .i64 n] W fun e w' => e = .returned (.bool (EX n)) ∧ w' = W) := fun W => rExists_c n W
  have HW : Hid (∀ a b W, Calls Try.prog 24 #[.int .i64 n, .int .i64 a, .int .i64 b] W fun e w' => e = .returned (.bool (wi n a b)) ∧ w' = W) := fun a b W => rwithin_c n a b W
  have HXE : Hid (EX n = true) := hx
  have HM : Hid ((PR k).md = 3) := hm
  have HT : Hid (∀ W, Calls Try.prog 25 #[.agg (cpc (PR k)), .int .u64 (n64 mip), .int .u64 (n64 time), .int .i64 n] W fun e w' => e = .returned (.int .u64 (TO (PR k) mip time n)) ∧ Below W.heap.size W w') := fun W => rtold_c (PR k) mip time n W
  generalize TO (PR k) mip time n = T at HT ⊢
  have hv : bits .and .i64 (n / (256 : Int)) 3 = 0 := by
    have h := EX_in n hx
    rw [and3 _ (by omega) (by omega), h.2.2.1 hw]
  clear hx hm hw
  go_enter Try.func14, Try.ntmps14
  go_upto_region 1 with fail
  clear hW0
  go_upto_region 2 with (first | (refine wpList_load_row (by rfl) _ _ (by rfl) _ (by rfl) 31 _ (0, 0) _ r0.out Try.underlying31 (by rfl) (info_cpu _) ?_) | (go_at_call 16; refine (HP.out _).mono ?_; rintro e w1 ⟨rfl, hb1⟩; have HB1 : Hid (Below W0.heap.size W0 w1) := hb1; clear hb1) | (refine wpList_store_row (by rfl) _ _ _ (by rfl) (by rfl) _ _ _ (by rfl) (by rfl) (r0.out.later HB1.out (by rw [HS.out]; omega)) (info_cpu _) (by rw [cpc_size, cpc_size]) (cpc_ones _) ?_))
  refine go_on1 (motive := fun W => Code.wp _ _ _ _ W) (a := w) (B := w.heap.size) (n := w1.heap.size) (show Row _ w.heap.size (cpc (PR k)) 31 from setRow_heap _ _ _ _ _ _ (r0.out.later HB1.out (by rw [HS.out]; omega))) (below_row (b0.out.trans (HB1.out.mono b0.out.size)) (Nat.le_refl _) _) (by simp) ?_
  clear r0 b0 HS HB1 HP
  intro W2 r0 b0 s0
  have R0 : Hid (Row W2 w.heap.size (cpc (PR k)) 31) := r0
  have BB : Hid (Below w.heap.size w W2) := b0
  have Km := r0.cls.md
  have K4 := r0.cls.s3
  clear r0 b0 s0
  rw [HM.out] at Km
  go_upto_region 4 with (go_at_call 23; refine (HX.out _).mono ?_; rw [HXE.out]; rintro e w3 ⟨rfl, hw3⟩; have hw3 := hw3.symm; subst hw3)
  go_upto_region 6 with fail
  go_wp2_with (first | (refine wpList_load_row (by rfl) _ _ (by rfl) _ (by rfl) 31 _ (0, 0) _ R0.out Try.underlying31 (by rfl) (info_cpu _) ?_) | (go_at_call 25; refine (HT.out _).mono ?_; rintro e w5 ⟨rfl, hb5⟩; have HB5 : Hid (Below W2.heap.size W2 w5) := hb5; clear hb5))
  go_ret2
  exact ⟨rfl, BB.out.trans (HB5.out.mono BB.out.size)⟩
set_option maxRecDepth 100000 in
set_option maxHeartbeats 1000000 in
theorem rRead_m3 (k : Cp) (mip time : BitVec 64) (n : Int) (hx : EX n = true) (hm : (PR k).md = 3) (hw : wi n 3072 3103 = false) (w : World) : Calls Try.prog 14 #[.agg (cpc k), .int .u64 (n64 mip), .int .u64 (n64 time), .int .i64 n] w fun e w' => e = .returned (.tuple #[.int .u64 (TO (PR k) mip time n), .bool true]) ∧ Below w.heap.size w w' := by
  obtain ⟨W0, hW0, r0, b0, s0⟩ := start1 w (cpc k) 31
  have HS : Hid (W0.heap.size = w.heap.size + 1) := s0
  clear s0
  have HP : Hid (∀ W, Calls Try.prog 16 #[.agg (cpc k)] W fun e w' => e = .returned (.agg (cpc (PR k))) ∧ Below W.heap.size W w') := fun W => rPr_c k W
  have HX : Hid (∀ W, Calls Try.prog 23 #[.int .i64 n] W fun e w' => e = .returned (.bool (EX n)) ∧ w' = W) := fun W => rExists_c n W
  have HW : Hid (∀ a b W, Calls Try.prog 24 #[.int .i64 n, .int .i64 a, .int .i64 b] W fun e w' => e = .returned (.bool (wi n a b)) ∧ w' = W) := fun a b W => rwithin_c n a b W
  have HXE : Hid (EX n = true) := hx
  have HM : Hid ((PR k).md = 3) := hm
  have HT : Hid (∀ W, Calls Try.prog 25 #[.agg (cpc (PR k)), .int .u64 (n64 mip), .int .u64 (n64 time), .int .i64 n] W fun e w' => e = .returned (.int .u64 (TO (PR k) mip time n)) ∧ Below W.heap.size W w') := fun W => rtold_c (PR k) mip time n W
  generalize TO (PR k) mip time n = T at HT ⊢
  have hv : bits .and .i64 (n / (256 : Int)) 3 = 3 := by
    have h := EX_in n hx
    rw [and3 _ (by omega) (by omega), h.2.2.2 hw]
  clear hx hm hw
  go_enter Try.func14, Try.ntmps14
  go_upto_region 1 with fail
  clear hW0
  go_upto_region 2 with (first | (refine wpList_load_row (by rfl) _ _ (by rfl) _ (by rfl) 31 _ (0, 0) _ r0.out Try.underlying31 (by rfl) (info_cpu _) ?_) | (go_at_call 16; refine (HP.out _).mono ?_; rintro e w1 ⟨rfl, hb1⟩; have HB1 : Hid (Below W0.heap.size W0 w1) := hb1; clear hb1) | (refine wpList_store_row (by rfl) _ _ _ (by rfl) (by rfl) _ _ _ (by rfl) (by rfl) (r0.out.later HB1.out (by rw [HS.out]; omega)) (info_cpu _) (by rw [cpc_size, cpc_size]) (cpc_ones _) ?_))
  refine go_on1 (motive := fun W => Code.wp _ _ _ _ W) (a := w) (B := w.heap.size) (n := w1.heap.size) (show Row _ w.heap.size (cpc (PR k)) 31 from setRow_heap _ _ _ _ _ _ (r0.out.later HB1.out (by rw [HS.out]; omega))) (below_row (b0.out.trans (HB1.out.mono b0.out.size)) (Nat.le_refl _) _) (by simp) ?_
  clear r0 b0 HS HB1 HP
  intro W2 r0 b0 s0
  have R0 : Hid (Row W2 w.heap.size (cpc (PR k)) 31) := r0
  have BB : Hid (Below w.heap.size w W2) := b0
  have Km := r0.cls.md
  have K4 := r0.cls.s3
  clear r0 b0 s0
  rw [HM.out] at Km
  go_upto_region 4 with (go_at_call 23; refine (HX.out _).mono ?_; rw [HXE.out]; rintro e w3 ⟨rfl, hw3⟩; have hw3 := hw3.symm; subst hw3)
  go_upto_region 6 with fail
  go_wp2_with (first | (refine wpList_load_row (by rfl) _ _ (by rfl) _ (by rfl) 31 _ (0, 0) _ R0.out Try.underlying31 (by rfl) (info_cpu _) ?_) | (go_at_call 25; refine (HT.out _).mono ?_; rintro e w5 ⟨rfl, hb5⟩; have HB5 : Hid (Below W2.heap.size W2 w5) := hb5; clear hb5))
  go_ret2
  exact ⟨rfl, BB.out.trans (HB5.out.mono BB.out.size)⟩
set_option maxRecDepth 100000 in
set_option maxHeartbeats 1000000 in
theorem rRead_u1 (k : Cp) (mip time : BitVec 64) (n : Int) (hx : EX n = true) (hm : (PR k).md = 0) (hw : wi n 3072 3103 = true) (hb : ¬ (PR k).s 3 >>> (n - 3072).toNat &&& 1#64 = 0#64) (w : World) : Calls Try.prog 14 #[.agg (cpc k), .int .u64 (n64 mip), .int .u64 (n64 time), .int .i64 n] w fun e w' => e = .returned (.tuple #[.int .u64 (TO (PR k) mip time n), .bool true]) ∧ Below w.heap.size w w' := by
  obtain ⟨W0, hW0, r0, b0, s0⟩ := start1 w (cpc k) 31
  have HS : Hid (W0.heap.size = w.heap.size + 1) := s0
  clear s0
  have HP : Hid (∀ W, Calls Try.prog 16 #[.agg (cpc k)] W fun e w' => e = .returned (.agg (cpc (PR k))) ∧ Below W.heap.size W w') := fun W => rPr_c k W
  have HX : Hid (∀ W, Calls Try.prog 23 #[.int .i64 n] W fun e w' => e = .returned (.bool (EX n)) ∧ w' = W) := fun W => rExists_c n W
  have HW : Hid (∀ a b W, Calls Try.prog 24 #[.int .i64 n, .int .i64 a, .int .i64 b] W fun e w' => e = .returned (.bool (wi n a b)) ∧ w' = W) := fun a b W => rwithin_c n a b W
  have HXE : Hid (EX n = true) := hx
  have HWE : Hid (wi n 3072 3103 = true) := hw
  have HM : Hid ((PR k).md = 0) := hm
  have HT : Hid (∀ W, Calls Try.prog 25 #[.agg (cpc (PR k)), .int .u64 (n64 mip), .int .u64 (n64 time), .int .i64 n] W fun e w' => e = .returned (.int .u64 (TO (PR k) mip time n)) ∧ Below W.heap.size W w') := fun W => rtold_c (PR k) mip time n W
  generalize TO (PR k) mip time n = T at HT ⊢
  have hv : bits .and .i64 (n / (256 : Int)) 3 = 0 := by
    have h := EX_in n hx
    rw [and3 _ (by omega) (by omega), h.2.2.1 hw]
  have hin : 3072 ≤ n ∧ n ≤ 3103 := by simpa [wi] using hw
  have hq : n64 ((PR k).s 3) / 2 ^ (n - 3072).toNat = n64 ((PR k).s 3 >>> (n - 3072).toNat) := n64_shr _ _
  have hq2 : bits .and .u64 (n64 ((PR k).s 3 >>> (n - 3072).toNat)) 1 = n64 ((PR k).s 3 >>> (n - 3072).toNat &&& 1#64) := n64_and _ 1#64
  have hq3 : (n64 ((PR k).s 3 >>> (n - 3072).toNat &&& 1#64) == 0) = false := n64_ne hb
  have hq4 : ¬ n64 ((PR k).s 3 >>> (n - 3072).toNat &&& 1#64) = 0 := fun e => hb (n64_inj.1 e)
  generalize (PR k).s 3 >>> (n - 3072).toNat &&& 1#64 = u1 at hq2 hq3 hq4
  generalize (PR k).s 3 >>> (n - 3072).toNat = u2 at hq hq2
  clear hx hm hw hb
  go_enter Try.func14, Try.ntmps14
  go_upto_region 1 with fail
  clear hW0
  go_upto_region 2 with (first | (refine wpList_load_row (by rfl) _ _ (by rfl) _ (by rfl) 31 _ (0, 0) _ r0.out Try.underlying31 (by rfl) (info_cpu _) ?_) | (go_at_call 16; refine (HP.out _).mono ?_; rintro e w1 ⟨rfl, hb1⟩; have HB1 : Hid (Below W0.heap.size W0 w1) := hb1; clear hb1) | (refine wpList_store_row (by rfl) _ _ _ (by rfl) (by rfl) _ _ _ (by rfl) (by rfl) (r0.out.later HB1.out (by rw [HS.out]; omega)) (info_cpu _) (by rw [cpc_size, cpc_size]) (cpc_ones _) ?_))
  refine go_on1 (motive := fun W => Code.wp _ _ _ _ W) (a := w) (B := w.heap.size) (n := w1.heap.size) (show Row _ w.heap.size (cpc (PR k)) 31 from setRow_heap _ _ _ _ _ _ (r0.out.later HB1.out (by rw [HS.out]; omega))) (below_row (b0.out.trans (HB1.out.mono b0.out.size)) (Nat.le_refl _) _) (by simp) ?_
  clear r0 b0 HS HB1 HP
  intro W2 r0 b0 s0
  have R0 : Hid (Row W2 w.heap.size (cpc (PR k)) 31) := r0
  have BB : Hid (Below w.heap.size w W2) := b0
  have Km := r0.cls.md
  have K4 := r0.cls.s3
  clear r0 b0 s0
  rw [HM.out] at Km
  go_upto_region 4 with (go_at_call 23; refine (HX.out _).mono ?_; rw [HXE.out]; rintro e w3 ⟨rfl, hw3⟩; have hw3 := hw3.symm; subst hw3)
  go_upto_region 6 with (go_at_call 24; refine (HW.out _ _ _).mono ?_; rw [HWE.out]; rintro e w4 ⟨rfl, hw4⟩; have hw4 := hw4.symm; subst hw4)
  go_wp2_with (first | (refine wpList_load_row (by rfl) _ _ (by rfl) _ (by rfl) 31 _ (0, 0) _ R0.out Try.underlying31 (by rfl) (info_cpu _) ?_) | (go_at_call 25; refine (HT.out _).mono ?_; rintro e w5 ⟨rfl, hb5⟩; have HB5 : Hid (Below W2.heap.size W2 w5) := hb5; clear hb5))
  go_ret2
  exact ⟨rfl, BB.out.trans (HB5.out.mono BB.out.size)⟩
set_option maxRecDepth 100000 in
set_option maxHeartbeats 1000000 in
theorem rRead_u0 (k : Cp) (mip time : BitVec 64) (n : Int) (hx : EX n = true) (hm : (PR k).md = 0) (hw : wi n 3072 3103 = true) (hb : (PR k).s 3 >>> (n - 3072).toNat &&& 1#64 = 0#64) (w : World) : Calls Try.prog 14 #[.agg (cpc k), .int .u64 (n64 mip), .int .u64 (n64 time), .int .i64 n] w fun e w' => e = .returned (.tuple #[.int .u64 (0), .bool false]) ∧ Below w.heap.size w w' := by
  obtain ⟨W0, hW0, r0, b0, s0⟩ := start1 w (cpc k) 31
  have HS : Hid (W0.heap.size = w.heap.size + 1) := s0
  clear s0
  have HP : Hid (∀ W, Calls Try.prog 16 #[.agg (cpc k)] W fun e w' => e = .returned (.agg (cpc (PR k))) ∧ Below W.heap.size W w') := fun W => rPr_c k W
  have HX : Hid (∀ W, Calls Try.prog 23 #[.int .i64 n] W fun e w' => e = .returned (.bool (EX n)) ∧ w' = W) := fun W => rExists_c n W
  have HW : Hid (∀ a b W, Calls Try.prog 24 #[.int .i64 n, .int .i64 a, .int .i64 b] W fun e w' => e = .returned (.bool (wi n a b)) ∧ w' = W) := fun a b W => rwithin_c n a b W
  have HXE : Hid (EX n = true) := hx
  have HWE : Hid (wi n 3072 3103 = true) := hw
  have HM : Hid ((PR k).md = 0) := hm
  have hv : bits .and .i64 (n / (256 : Int)) 3 = 0 := by
    have h := EX_in n hx
    rw [and3 _ (by omega) (by omega), h.2.2.1 hw]
  have hin : 3072 ≤ n ∧ n ≤ 3103 := by simpa [wi] using hw
  have hq : n64 ((PR k).s 3) / 2 ^ (n - 3072).toNat = n64 ((PR k).s 3 >>> (n - 3072).toNat) := n64_shr _ _
  have hq2 : bits .and .u64 (n64 ((PR k).s 3 >>> (n - 3072).toNat)) 1 = n64 ((PR k).s 3 >>> (n - 3072).toNat &&& 1#64) := n64_and _ 1#64
  have hq3 : n64 ((PR k).s 3 >>> (n - 3072).toNat &&& 1#64) = 0 := by rw [hb]; rfl
  generalize (PR k).s 3 >>> (n - 3072).toNat &&& 1#64 = u1 at hq2 hq3
  generalize (PR k).s 3 >>> (n - 3072).toNat = u2 at hq hq2
  clear hx hm hw hb
  go_enter Try.func14, Try.ntmps14
  go_upto_region 1 with fail
  clear hW0
  go_upto_region 2 with (first | (refine wpList_load_row (by rfl) _ _ (by rfl) _ (by rfl) 31 _ (0, 0) _ r0.out Try.underlying31 (by rfl) (info_cpu _) ?_) | (go_at_call 16; refine (HP.out _).mono ?_; rintro e w1 ⟨rfl, hb1⟩; have HB1 : Hid (Below W0.heap.size W0 w1) := hb1; clear hb1) | (refine wpList_store_row (by rfl) _ _ _ (by rfl) (by rfl) _ _ _ (by rfl) (by rfl) (r0.out.later HB1.out (by rw [HS.out]; omega)) (info_cpu _) (by rw [cpc_size, cpc_size]) (cpc_ones _) ?_))
  refine go_on1 (motive := fun W => Code.wp _ _ _ _ W) (a := w) (B := w.heap.size) (n := w1.heap.size) (show Row _ w.heap.size (cpc (PR k)) 31 from setRow_heap _ _ _ _ _ _ (r0.out.later HB1.out (by rw [HS.out]; omega))) (below_row (b0.out.trans (HB1.out.mono b0.out.size)) (Nat.le_refl _) _) (by simp) ?_
  clear r0 b0 HS HB1 HP
  intro W2 r0 b0 s0
  have R0 : Hid (Row W2 w.heap.size (cpc (PR k)) 31) := r0
  have BB : Hid (Below w.heap.size w W2) := b0
  have Km := r0.cls.md
  have K4 := r0.cls.s3
  clear r0 b0 s0
  rw [HM.out] at Km
  go_upto_region 4 with (go_at_call 23; refine (HX.out _).mono ?_; rw [HXE.out]; rintro e w3 ⟨rfl, hw3⟩; have hw3 := hw3.symm; subst hw3)
  go_wp2_with (go_at_call 24; refine (HW.out _ _ _).mono ?_; rw [HWE.out]; rintro e w4 ⟨rfl, hw4⟩; have hw4 := hw4.symm; subst hw4)
  go_ret2
  exact ⟨rfl, BB.out⟩
theorem rRead_c (k : Cp) (mip time : BitVec 64) (n : Int) (w : World) : Calls Try.prog 14 #[.agg (cpc k), .int .u64 (n64 mip), .int .u64 (n64 time), .int .i64 n] w fun e w' => e = .returned (.tuple #[.int .u64 (RD k mip time n), .bool (RK k n)]) ∧ Below w.heap.size w w' := by
  unfold RD
  cases hx : EX n with
  | false =>
    have e : RK k n = false := by simp [RK, hx]
    rw [e]; exact rRead_no k mip time n hx w
  | true =>
    rcases PR_md k with hm | hm
    · cases hw : wi n 3072 3103 with
      | false =>
        have e : RK k n = false := by simp [RK, hm, hw]
        rw [e]; exact rRead_low k mip time n hx hm hw w
      | true =>
        by_cases hb : (PR k).s 3 >>> (n - 3072).toNat &&& 1#64 = 0#64
        · have e : RK k n = false := by simp [RK, hm, hb]
          rw [e]; exact rRead_u0 k mip time n hx hm hw hb w
        · have e : RK k n = true := by simp [RK, hx, hw, hb]
          rw [e]; exact rRead_u1 k mip time n hx hm hw hb w
    · have e : RK k n = true := by simp [RK, hx, hm]
      rw [e]
      cases hw : wi n 3072 3103 with
      | false => exact rRead_m3 k mip time n hx hm hw w
      | true => exact rRead_m0 k mip time n hx hm hw w
end Go.Proofs.Ytnnkeodiacdmaab
