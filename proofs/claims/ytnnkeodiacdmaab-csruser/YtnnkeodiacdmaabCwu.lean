/-
  CsrUser: its walk.
-/
import Derived.Test.YtnnkeodiacdmaabClv
namespace Go.Proofs.Ytnnkeodiacdmaab
set_option linter.unusedVariables false
open Go.ChangeShapes Go.WideShapes Go.ChangeAt Go.RowKit Go.Deep

/-- The proper Cpu in U, and in M. -/
def cU (k : Cp) : Cp := { PR k with md := 0 }
def cMm (k : Cp) : Cp := { PR k with md := 3 }
theorem cU_md (k : Cp) : (PR (cU k)).md = 0 := rfl
theorem cMm_md (k : Cp) : (PR (cMm k)).md = 3 := rfl
theorem cU_s3 (k : Cp) : (PR (cU k)).s 3 = (PR k).s 3 := by
  show k.s 3 &&& 7#64 &&& 7#64 = k.s 3 &&& 7#64
  rw [BitVec.and_assoc, BitVec.and_self]
theorem shr_small {z : BitVec 64} (h : z.toNat ≤ 7) (j : Nat) (hj : 3 ≤ j) : z >>> j = 0#64 := by
  apply BitVec.eq_of_toNat_eq
  rw [BitVec.toNat_ushiftRight, Nat.shiftRight_eq_div_pow]
  have h8 : 2 ^ 3 ≤ 2 ^ j := Nat.pow_le_pow_right (by decide) hj
  exact Nat.div_eq_of_lt (by omega)
theorem cU_no (k : Cp) (n : Int) (h : n < 3072 ∨ 3074 < n) : RK (cU k) n = false := by
  unfold RK
  rw [cU_md, cU_s3]
  cases hw : wi n 3072 3103 with
  | false => simp
  | true =>
    have hn : 3072 ≤ n ∧ n ≤ 3103 := by simpa [wi] using hw
    rw [shr_small (PR_s3 k) _ (by omega)]
    simp
theorem cU_in (k : Cp) (n : Int) (h : 3072 ≤ n ∧ n ≤ 3074) : RK (cU k) n = decide (¬ (PR k).s 3 >>> (n - 3072).toNat &&& 1#64 = 0#64) := by
  unfold RK
  rw [cU_md, cU_s3]
  have hw : wi n 3072 3103 = true := by rw [wi, decide_eq_true_iff]; omega
  have hx : EX n = true := by unfold EX; simp [hw]
  simp [hw, hx]
theorem cMm_rk (k : Cp) (n : Int) : RK (cMm k) n = EX n := by unfold RK; rw [cMm_md]; simp
theorem EX_in3 (n : Int) (h : 3072 ≤ n ∧ n ≤ 3074) : EX n = true := by
  have hw : wi n 3072 3103 = true := by rw [wi, decide_eq_true_iff]; omega
  unfold EX; simp [hw]
theorem TO_um (k : Cp) (m t : BitVec 64) (n : Int) (h : 3072 ≤ n ∧ n ≤ 3074) : TO (PR (cU k)) m t n = TO (PR (cMm k)) m t n := by
  have : n = 3072 ∨ n = 3073 ∨ n = 3074 := by omega
  rcases this with rfl | rfl | rfl <;> rfl
theorem bit01 (z : BitVec 64) : z &&& 1#64 = 0#64 ∨ z &&& 1#64 = 1#64 := by
  have h : (z &&& 1#64).toNat ≤ 1 := by rw [BitVec.toNat_and]; exact Nat.and_le_right
  rcases small_cases (Nat.le_trans h (by decide)) with e | e | e | e | e | e | e | e
  · exact Or.inl e
  · exact Or.inr e
  all_goals (rw [e] at h; exact absurd h (by decide))
set_option maxRecDepth 100000 in
set_option maxHeartbeats 2000000 in
theorem user_lo_true (hp : CPr) (hx : CEx) (hr : CRd) (hw : CWr) (k : Cp) (n : Int) (v m t : BitVec 64) (hi : I64 n) (hn : n < 3072) (he : EX n = true) (w : World) : Calls Try.prog 3 #[.agg (akk k n v m t)] w fun e w' => e = .returned (.bool true) ∧ Below w.heap.size w w' := by
  have hz := zero_cpu
  obtain ⟨W0, hW0, r0, b0, s0⟩ := start1 w (akk k n v m t) 33
  have hlt : Hid (w.heap.size < W0.heap.size) := by unfold Hid; omega
  clear s0
  have HP : Hid (∀ W : World, Calls Try.prog 8 #[.agg (cpc k)] W fun e w' => e = .returned (.agg (cpc (PR k))) ∧ Below W.heap.size W w') := hp k
  have HU : Hid (∀ W : World, Calls Try.prog 9 #[.agg (cpc (cU k)), .int .u64 (n64 m), .int .u64 (n64 t), .int .i64 n] W fun e w' => e = .returned (.tuple #[.int .u64 (0), .bool false]) ∧ Below W.heap.size W w') := fun W => by
    have h := hr (cU k) m t n hi W
    unfold RD at h; rw [cU_no k n (Or.inl hn)] at h
    exact h
  have HM : Hid (∀ W : World, Calls Try.prog 9 #[.agg (cpc (cMm k)), .int .u64 (n64 m), .int .u64 (n64 t), .int .i64 n] W fun e w' => e = .returned (.tuple #[.int .u64 (TO (PR (cMm k)) m t n), .bool true]) ∧ Below W.heap.size W w') := fun W => by
    have h := hr (cMm k) m t n hi W
    unfold RD at h; rw [cMm_rk, he] at h
    exact h
  generalize TO (PR (cMm k)) m t n = q at HM
  have HX : Hid (∀ W : World, Calls Try.prog 10 #[.int .i64 n] W fun e w' => e = .returned (.bool true) ∧ Below W.heap.size W w') := fun W => he ▸ hx n hi W
  have hn2 : ¬ 3072 ≤ n := by omega
  clear hn he
  have HV : Hid (∀ W : World, Calls Try.prog 11 #[] W fun e w' => e = .returned (.bool true) ∧ Below W.heap.size W w') := live_c hr hw
  obtain ⟨a0, _, _, _, _⟩ := r0.out.akk
  have HL : Hid (∀ j v, (cpc k)[j]? = some v → W0.cell? ⟨w.heap.size, 0 + j, none⟩ = some v) := a0.agg
  clear a0 hp hx hr hw hi
  go_enter Try.func3, Try.ntmps3
  go_upto_region 1 with fail
  clear hW0
  go_upto_region 2 with (first | (refine wpList_load_agg (by rfl) 31 _ (by rfl) w.heap.size 0 (by rfl) (cpc k) _ HL.out Try.underlying31 (by rfl) (info_cpu _) ?_) | (go_at_call 8; refine (HP.out _).mono ?_; rintro e w1 ⟨rfl, hb⟩; have Bw1 : Hid (Below W0.heap.size W0 w1) := hb; clear hb) | (refine wpList_store_last (by rfl) _ _ _ (by rfl) (by rfl) _ _ _ (by rfl) (by rfl) (by rfl) (info_cpu _) (by rw [cpc_size, cpc_size]) (cpc_ones _) ?_))
  clear HL
  refine go_onP (motive := fun W => Code.wp _ _ _ _ W) (Q := fun W => Row W w.heap.size (akk k n v m t) 33 ∧ Row W w1.heap.size (cpc (PR k)) 31 ∧ Below w.heap.size w W) ⟨r0.out.ca Bw1.out _, Row.new w1 (cpc (PR k)) 31, below_ca b0.out Bw1.out (Nat.le_of_lt hlt.out) _⟩ ?_
  have N1 : Hid (w.heap.size < w1.heap.size) := Nat.lt_of_lt_of_le hlt.out Bw1.out.size
  clear r0 b0 Bw1 hlt HP
  rintro W2 ⟨q0, q1, c0⟩
  have G0 : Hid (Row W2 w.heap.size (akk k n v m t) 33) := q0
  have G3 : Hid (Row W2 w1.heap.size (cpc (PR k)) 31) := q1
  have BB : Hid (Below w.heap.size w W2) := c0
  have K1 := q1.cls.md
  have f1 := q1.froz
  clear q0 q1 c0
  go_upto_region 3 with fail
  have Q3 := G3.out.put (i := 33) (.int .i64 0)
  rw [cpc_md] at Q3
  refine go_onP (motive := fun W => Code.wp _ _ _ _ W) (Q := fun W => Row W w.heap.size (akk k n v m t) 33 ∧ Row W w1.heap.size (cpc (cU k)) 31 ∧ Below w.heap.size w W) ⟨G0.out.other (by have := N1.out; omega) _, Q3, below_put BB.out (Nat.le_of_lt N1.out) _⟩ ?_
  clear Q3 G0 G3 BB K1 f1
  rintro W3 ⟨q0, q1, c0⟩
  have G0 : Hid (Row W3 w.heap.size (akk k n v m t) 33) := q0
  have G3 : Hid (Row W3 w1.heap.size (cpc (cU k)) 31) := q1
  have BB : Hid (Below w.heap.size w W3) := c0
  clear q0 q1 c0
  go_upto_region 4 with (first | (refine wpList_load_row (by rfl) _ _ (by rfl) _ (by rfl) 31 _ (0, 0) _ G3.out Try.underlying31 (by rfl) (info_cpu _) ?_) | (refine wpList_store_last (by rfl) _ _ _ (by rfl) (by rfl) _ _ _ (by rfl) (by rfl) (by rfl) (info_cpu _) (by rw [cpc_size, cpc_size]) (cpc_ones _) ?_))
  refine go_onP (motive := fun W => Code.wp _ _ _ _ W) (Q := fun W => Row W w.heap.size (akk k n v m t) 33 ∧ Row W w1.heap.size (cpc (cU k)) 31 ∧ Row W W3.heap.size (cpc (cU k)) 31 ∧ Below w.heap.size w W) ⟨G0.out.old G0.out.lt _, G3.out.old G3.out.lt _, Row.new W3 (cpc (cU k)) 31, BB.out.alloc BB.out.size _⟩ ?_
  have N3 : Hid (w1.heap.size < W3.heap.size) := G3.out.lt
  clear G0 G3 BB hz
  rintro W4 ⟨q0, q1, q2, c0⟩
  have G0 : Hid (Row W4 w.heap.size (akk k n v m t) 33) := q0
  have G3 : Hid (Row W4 w1.heap.size (cpc (cU k)) 31) := q1
  have G4 : Hid (Row W4 W3.heap.size (cpc (cU k)) 31) := q2
  have BB : Hid (Below w.heap.size w W4) := c0
  have K1 := q2.cls.md
  have f1 := q2.froz
  clear q0 q1 q2 c0
  go_upto_region 5 with fail
  have Q4 := G4.out.put (i := 33) (.int .i64 3)
  rw [cpc_md] at Q4
  refine go_onP (motive := fun W => Code.wp _ _ _ _ W) (Q := fun W => Row W w.heap.size (akk k n v m t) 33 ∧ Row W w1.heap.size (cpc (cU k)) 31 ∧ Row W W3.heap.size (cpc (cMm k)) 31 ∧ Below w.heap.size w W) ⟨G0.out.other (by have := N1.out; have := N3.out; omega) _, G3.out.other (by have := N3.out; omega) _, Q4, below_put BB.out (by have := N1.out; have := N3.out; omega) _⟩ ?_
  clear Q4 G0 G3 G4 BB K1 f1
  rintro W5 ⟨q0, q1, q2, c0⟩
  have G0 : Hid (Row W5 w.heap.size (akk k n v m t) 33) := q0
  have G3 : Hid (Row W5 w1.heap.size (cpc (cU k)) 31) := q1
  have G4 : Hid (Row W5 W3.heap.size (cpc (cMm k)) 31) := q2
  have BB : Hid (Below w.heap.size w W5) := c0
  obtain ⟨_, d1, d2, d3, d4⟩ := q0.akk
  clear q0 q1 q2 c0 d2
  go_upto_region 6 with fail
  go_upto_region 7 with (first | (refine wpList_load_row (by rfl) _ _ (by rfl) _ (by rfl) 31 _ (0, 0) _ G3.out Try.underlying31 (by rfl) (info_cpu _) ?_) | (go_at_call 9; refine (HU.out _).mono ?_; rintro e w6 ⟨rfl, hb⟩; have Bw6 : Hid (Below W5.heap.size W5 w6) := hb; clear hb))
  clear d1 d3 d4
  have q0 := G0.out.cb Bw6.out
  have q1 := G3.out.cb Bw6.out
  have q2 := G4.out.cb Bw6.out
  have c0 := BB.out.trans (Bw6.out.mono BB.out.size)
  have K3 : w6.cell? ⟨w1.heap.size, 38, none⟩ = some (.int .u64 (n64 ((PR k).s 3))) := q1.cls.s3
  obtain ⟨_, d1, d2, d3, d4⟩ := q0.akk
  have H4 : Hid (Row w6 W3.heap.size (cpc (cMm k)) 31) := q2
  have B6 : Hid (Below w.heap.size w w6) := c0
  clear G0 G3 G4 BB Bw6 HU d1 d2 q0 q1 q2 c0
  go_upto_region 8 with fail
  clear K3
  go_upto_region 9 with (first | (refine wpList_load_row (by rfl) _ _ (by rfl) _ (by rfl) 31 _ (0, 0) _ H4.out Try.underlying31 (by rfl) (info_cpu _) ?_) | (go_at_call 9; refine (HM.out _).mono ?_; rintro e w7 ⟨rfl, hb⟩; have Bw7 : Hid (Below w6.heap.size w6 w7) := hb; clear hb))
  clear d3 d4 H4 HM
  go_wp2_with (first | (go_at_call 10; refine (HX.out _).mono ?_; rintro e w8 ⟨rfl, hb⟩; have Bw8 : Hid (Below w7.heap.size w7 w8) := hb; clear hb) | (go_at_call 11; refine (HV.out _).mono ?_; rintro e w9 ⟨rfl, hb⟩; have Bw9 : Hid (Below w8.heap.size w8 w9) := hb; clear hb))
  go_ret
  exact ⟨rfl, (B6.out.trans (Bw7.out.mono B6.out.size)).trans ((Bw8.out.trans (Bw9.out.mono Bw8.out.size)).mono (Nat.le_trans B6.out.size Bw7.out.size))⟩
set_option maxRecDepth 100000 in
set_option maxHeartbeats 2000000 in
theorem user_lo_false (hp : CPr) (hx : CEx) (hr : CRd) (hw : CWr) (k : Cp) (n : Int) (v m t : BitVec 64) (hi : I64 n) (hn : n < 3072) (he : EX n = false) (w : World) : Calls Try.prog 3 #[.agg (akk k n v m t)] w fun e w' => e = .returned (.bool true) ∧ Below w.heap.size w w' := by
  have hz := zero_cpu
  obtain ⟨W0, hW0, r0, b0, s0⟩ := start1 w (akk k n v m t) 33
  have hlt : Hid (w.heap.size < W0.heap.size) := by unfold Hid; omega
  clear s0
  have HP : Hid (∀ W : World, Calls Try.prog 8 #[.agg (cpc k)] W fun e w' => e = .returned (.agg (cpc (PR k))) ∧ Below W.heap.size W w') := hp k
  have HU : Hid (∀ W : World, Calls Try.prog 9 #[.agg (cpc (cU k)), .int .u64 (n64 m), .int .u64 (n64 t), .int .i64 n] W fun e w' => e = .returned (.tuple #[.int .u64 (0), .bool false]) ∧ Below W.heap.size W w') := fun W => by
    have h := hr (cU k) m t n hi W
    unfold RD at h; rw [cU_no k n (Or.inl hn)] at h
    exact h
  have HM : Hid (∀ W : World, Calls Try.prog 9 #[.agg (cpc (cMm k)), .int .u64 (n64 m), .int .u64 (n64 t), .int .i64 n] W fun e w' => e = .returned (.tuple #[.int .u64 (0), .bool false]) ∧ Below W.heap.size W w') := fun W => by
    have h := hr (cMm k) m t n hi W
    unfold RD at h; rw [cMm_rk, he] at h
    exact h
  have HX : Hid (∀ W : World, Calls Try.prog 10 #[.int .i64 n] W fun e w' => e = .returned (.bool false) ∧ Below W.heap.size W w') := fun W => he ▸ hx n hi W
  have hn2 : ¬ 3072 ≤ n := by omega
  clear hn he
  have HV : Hid (∀ W : World, Calls Try.prog 11 #[] W fun e w' => e = .returned (.bool true) ∧ Below W.heap.size W w') := live_c hr hw
  obtain ⟨a0, _, _, _, _⟩ := r0.out.akk
  have HL : Hid (∀ j v, (cpc k)[j]? = some v → W0.cell? ⟨w.heap.size, 0 + j, none⟩ = some v) := a0.agg
  clear a0 hp hx hr hw hi
  go_enter Try.func3, Try.ntmps3
  go_upto_region 1 with fail
  clear hW0
  go_upto_region 2 with (first | (refine wpList_load_agg (by rfl) 31 _ (by rfl) w.heap.size 0 (by rfl) (cpc k) _ HL.out Try.underlying31 (by rfl) (info_cpu _) ?_) | (go_at_call 8; refine (HP.out _).mono ?_; rintro e w1 ⟨rfl, hb⟩; have Bw1 : Hid (Below W0.heap.size W0 w1) := hb; clear hb) | (refine wpList_store_last (by rfl) _ _ _ (by rfl) (by rfl) _ _ _ (by rfl) (by rfl) (by rfl) (info_cpu _) (by rw [cpc_size, cpc_size]) (cpc_ones _) ?_))
  clear HL
  refine go_onP (motive := fun W => Code.wp _ _ _ _ W) (Q := fun W => Row W w.heap.size (akk k n v m t) 33 ∧ Row W w1.heap.size (cpc (PR k)) 31 ∧ Below w.heap.size w W) ⟨r0.out.ca Bw1.out _, Row.new w1 (cpc (PR k)) 31, below_ca b0.out Bw1.out (Nat.le_of_lt hlt.out) _⟩ ?_
  have N1 : Hid (w.heap.size < w1.heap.size) := Nat.lt_of_lt_of_le hlt.out Bw1.out.size
  clear r0 b0 Bw1 hlt HP
  rintro W2 ⟨q0, q1, c0⟩
  have G0 : Hid (Row W2 w.heap.size (akk k n v m t) 33) := q0
  have G3 : Hid (Row W2 w1.heap.size (cpc (PR k)) 31) := q1
  have BB : Hid (Below w.heap.size w W2) := c0
  have K1 := q1.cls.md
  have f1 := q1.froz
  clear q0 q1 c0
  go_upto_region 3 with fail
  have Q3 := G3.out.put (i := 33) (.int .i64 0)
  rw [cpc_md] at Q3
  refine go_onP (motive := fun W => Code.wp _ _ _ _ W) (Q := fun W => Row W w.heap.size (akk k n v m t) 33 ∧ Row W w1.heap.size (cpc (cU k)) 31 ∧ Below w.heap.size w W) ⟨G0.out.other (by have := N1.out; omega) _, Q3, below_put BB.out (Nat.le_of_lt N1.out) _⟩ ?_
  clear Q3 G0 G3 BB K1 f1
  rintro W3 ⟨q0, q1, c0⟩
  have G0 : Hid (Row W3 w.heap.size (akk k n v m t) 33) := q0
  have G3 : Hid (Row W3 w1.heap.size (cpc (cU k)) 31) := q1
  have BB : Hid (Below w.heap.size w W3) := c0
  clear q0 q1 c0
  go_upto_region 4 with (first | (refine wpList_load_row (by rfl) _ _ (by rfl) _ (by rfl) 31 _ (0, 0) _ G3.out Try.underlying31 (by rfl) (info_cpu _) ?_) | (refine wpList_store_last (by rfl) _ _ _ (by rfl) (by rfl) _ _ _ (by rfl) (by rfl) (by rfl) (info_cpu _) (by rw [cpc_size, cpc_size]) (cpc_ones _) ?_))
  refine go_onP (motive := fun W => Code.wp _ _ _ _ W) (Q := fun W => Row W w.heap.size (akk k n v m t) 33 ∧ Row W w1.heap.size (cpc (cU k)) 31 ∧ Row W W3.heap.size (cpc (cU k)) 31 ∧ Below w.heap.size w W) ⟨G0.out.old G0.out.lt _, G3.out.old G3.out.lt _, Row.new W3 (cpc (cU k)) 31, BB.out.alloc BB.out.size _⟩ ?_
  have N3 : Hid (w1.heap.size < W3.heap.size) := G3.out.lt
  clear G0 G3 BB hz
  rintro W4 ⟨q0, q1, q2, c0⟩
  have G0 : Hid (Row W4 w.heap.size (akk k n v m t) 33) := q0
  have G3 : Hid (Row W4 w1.heap.size (cpc (cU k)) 31) := q1
  have G4 : Hid (Row W4 W3.heap.size (cpc (cU k)) 31) := q2
  have BB : Hid (Below w.heap.size w W4) := c0
  have K1 := q2.cls.md
  have f1 := q2.froz
  clear q0 q1 q2 c0
  go_upto_region 5 with fail
  have Q4 := G4.out.put (i := 33) (.int .i64 3)
  rw [cpc_md] at Q4
  refine go_onP (motive := fun W => Code.wp _ _ _ _ W) (Q := fun W => Row W w.heap.size (akk k n v m t) 33 ∧ Row W w1.heap.size (cpc (cU k)) 31 ∧ Row W W3.heap.size (cpc (cMm k)) 31 ∧ Below w.heap.size w W) ⟨G0.out.other (by have := N1.out; have := N3.out; omega) _, G3.out.other (by have := N3.out; omega) _, Q4, below_put BB.out (by have := N1.out; have := N3.out; omega) _⟩ ?_
  clear Q4 G0 G3 G4 BB K1 f1
  rintro W5 ⟨q0, q1, q2, c0⟩
  have G0 : Hid (Row W5 w.heap.size (akk k n v m t) 33) := q0
  have G3 : Hid (Row W5 w1.heap.size (cpc (cU k)) 31) := q1
  have G4 : Hid (Row W5 W3.heap.size (cpc (cMm k)) 31) := q2
  have BB : Hid (Below w.heap.size w W5) := c0
  obtain ⟨_, d1, d2, d3, d4⟩ := q0.akk
  clear q0 q1 q2 c0 d2
  go_upto_region 6 with fail
  go_upto_region 7 with (first | (refine wpList_load_row (by rfl) _ _ (by rfl) _ (by rfl) 31 _ (0, 0) _ G3.out Try.underlying31 (by rfl) (info_cpu _) ?_) | (go_at_call 9; refine (HU.out _).mono ?_; rintro e w6 ⟨rfl, hb⟩; have Bw6 : Hid (Below W5.heap.size W5 w6) := hb; clear hb))
  clear d1 d3 d4
  have q0 := G0.out.cb Bw6.out
  have q1 := G3.out.cb Bw6.out
  have q2 := G4.out.cb Bw6.out
  have c0 := BB.out.trans (Bw6.out.mono BB.out.size)
  have K3 : w6.cell? ⟨w1.heap.size, 38, none⟩ = some (.int .u64 (n64 ((PR k).s 3))) := q1.cls.s3
  obtain ⟨_, d1, d2, d3, d4⟩ := q0.akk
  have H4 : Hid (Row w6 W3.heap.size (cpc (cMm k)) 31) := q2
  have B6 : Hid (Below w.heap.size w w6) := c0
  clear G0 G3 G4 BB Bw6 HU d1 d2 q0 q1 q2 c0
  go_upto_region 8 with fail
  clear K3
  go_upto_region 9 with (first | (refine wpList_load_row (by rfl) _ _ (by rfl) _ (by rfl) 31 _ (0, 0) _ H4.out Try.underlying31 (by rfl) (info_cpu _) ?_) | (go_at_call 9; refine (HM.out _).mono ?_; rintro e w7 ⟨rfl, hb⟩; have Bw7 : Hid (Below w6.heap.size w6 w7) := hb; clear hb))
  clear d3 d4 H4 HM
  go_wp2_with (first | (go_at_call 10; refine (HX.out _).mono ?_; rintro e w8 ⟨rfl, hb⟩; have Bw8 : Hid (Below w7.heap.size w7 w8) := hb; clear hb) | (go_at_call 11; refine (HV.out _).mono ?_; rintro e w9 ⟨rfl, hb⟩; have Bw9 : Hid (Below w8.heap.size w8 w9) := hb; clear hb))
  go_ret
  exact ⟨rfl, (B6.out.trans (Bw7.out.mono B6.out.size)).trans ((Bw8.out.trans (Bw9.out.mono Bw8.out.size)).mono (Nat.le_trans B6.out.size Bw7.out.size))⟩
set_option maxRecDepth 100000 in
set_option maxHeartbeats 2000000 in
theorem user_hi_true (hp : CPr) (hx : CEx) (hr : CRd) (hw : CWr) (k : Cp) (n : Int) (v m t : BitVec 64) (hi : I64 n) (hn : 3074 < n) (he : EX n = true) (w : World) : Calls Try.prog 3 #[.agg (akk k n v m t)] w fun e w' => e = .returned (.bool true) ∧ Below w.heap.size w w' := by
  have hz := zero_cpu
  obtain ⟨W0, hW0, r0, b0, s0⟩ := start1 w (akk k n v m t) 33
  have hlt : Hid (w.heap.size < W0.heap.size) := by unfold Hid; omega
  clear s0
  have HP : Hid (∀ W : World, Calls Try.prog 8 #[.agg (cpc k)] W fun e w' => e = .returned (.agg (cpc (PR k))) ∧ Below W.heap.size W w') := hp k
  have HU : Hid (∀ W : World, Calls Try.prog 9 #[.agg (cpc (cU k)), .int .u64 (n64 m), .int .u64 (n64 t), .int .i64 n] W fun e w' => e = .returned (.tuple #[.int .u64 (0), .bool false]) ∧ Below W.heap.size W w') := fun W => by
    have h := hr (cU k) m t n hi W
    unfold RD at h; rw [cU_no k n (Or.inr hn)] at h
    exact h
  have HM : Hid (∀ W : World, Calls Try.prog 9 #[.agg (cpc (cMm k)), .int .u64 (n64 m), .int .u64 (n64 t), .int .i64 n] W fun e w' => e = .returned (.tuple #[.int .u64 (TO (PR (cMm k)) m t n), .bool true]) ∧ Below W.heap.size W w') := fun W => by
    have h := hr (cMm k) m t n hi W
    unfold RD at h; rw [cMm_rk, he] at h
    exact h
  generalize TO (PR (cMm k)) m t n = q at HM
  have HX : Hid (∀ W : World, Calls Try.prog 10 #[.int .i64 n] W fun e w' => e = .returned (.bool true) ∧ Below W.heap.size W w') := fun W => he ▸ hx n hi W
  have hn1 : 3072 ≤ n := by omega
  have hn2 : ¬ n ≤ 3074 := by omega
  clear hn he
  have HV : Hid (∀ W : World, Calls Try.prog 11 #[] W fun e w' => e = .returned (.bool true) ∧ Below W.heap.size W w') := live_c hr hw
  obtain ⟨a0, _, _, _, _⟩ := r0.out.akk
  have HL : Hid (∀ j v, (cpc k)[j]? = some v → W0.cell? ⟨w.heap.size, 0 + j, none⟩ = some v) := a0.agg
  clear a0 hp hx hr hw hi
  go_enter Try.func3, Try.ntmps3
  go_upto_region 1 with fail
  clear hW0
  go_upto_region 2 with (first | (refine wpList_load_agg (by rfl) 31 _ (by rfl) w.heap.size 0 (by rfl) (cpc k) _ HL.out Try.underlying31 (by rfl) (info_cpu _) ?_) | (go_at_call 8; refine (HP.out _).mono ?_; rintro e w1 ⟨rfl, hb⟩; have Bw1 : Hid (Below W0.heap.size W0 w1) := hb; clear hb) | (refine wpList_store_last (by rfl) _ _ _ (by rfl) (by rfl) _ _ _ (by rfl) (by rfl) (by rfl) (info_cpu _) (by rw [cpc_size, cpc_size]) (cpc_ones _) ?_))
  clear HL
  refine go_onP (motive := fun W => Code.wp _ _ _ _ W) (Q := fun W => Row W w.heap.size (akk k n v m t) 33 ∧ Row W w1.heap.size (cpc (PR k)) 31 ∧ Below w.heap.size w W) ⟨r0.out.ca Bw1.out _, Row.new w1 (cpc (PR k)) 31, below_ca b0.out Bw1.out (Nat.le_of_lt hlt.out) _⟩ ?_
  have N1 : Hid (w.heap.size < w1.heap.size) := Nat.lt_of_lt_of_le hlt.out Bw1.out.size
  clear r0 b0 Bw1 hlt HP
  rintro W2 ⟨q0, q1, c0⟩
  have G0 : Hid (Row W2 w.heap.size (akk k n v m t) 33) := q0
  have G3 : Hid (Row W2 w1.heap.size (cpc (PR k)) 31) := q1
  have BB : Hid (Below w.heap.size w W2) := c0
  have K1 := q1.cls.md
  have f1 := q1.froz
  clear q0 q1 c0
  go_upto_region 3 with fail
  have Q3 := G3.out.put (i := 33) (.int .i64 0)
  rw [cpc_md] at Q3
  refine go_onP (motive := fun W => Code.wp _ _ _ _ W) (Q := fun W => Row W w.heap.size (akk k n v m t) 33 ∧ Row W w1.heap.size (cpc (cU k)) 31 ∧ Below w.heap.size w W) ⟨G0.out.other (by have := N1.out; omega) _, Q3, below_put BB.out (Nat.le_of_lt N1.out) _⟩ ?_
  clear Q3 G0 G3 BB K1 f1
  rintro W3 ⟨q0, q1, c0⟩
  have G0 : Hid (Row W3 w.heap.size (akk k n v m t) 33) := q0
  have G3 : Hid (Row W3 w1.heap.size (cpc (cU k)) 31) := q1
  have BB : Hid (Below w.heap.size w W3) := c0
  clear q0 q1 c0
  go_upto_region 4 with (first | (refine wpList_load_row (by rfl) _ _ (by rfl) _ (by rfl) 31 _ (0, 0) _ G3.out Try.underlying31 (by rfl) (info_cpu _) ?_) | (refine wpList_store_last (by rfl) _ _ _ (by rfl) (by rfl) _ _ _ (by rfl) (by rfl) (by rfl) (info_cpu _) (by rw [cpc_size, cpc_size]) (cpc_ones _) ?_))
  refine go_onP (motive := fun W => Code.wp _ _ _ _ W) (Q := fun W => Row W w.heap.size (akk k n v m t) 33 ∧ Row W w1.heap.size (cpc (cU k)) 31 ∧ Row W W3.heap.size (cpc (cU k)) 31 ∧ Below w.heap.size w W) ⟨G0.out.old G0.out.lt _, G3.out.old G3.out.lt _, Row.new W3 (cpc (cU k)) 31, BB.out.alloc BB.out.size _⟩ ?_
  have N3 : Hid (w1.heap.size < W3.heap.size) := G3.out.lt
  clear G0 G3 BB hz
  rintro W4 ⟨q0, q1, q2, c0⟩
  have G0 : Hid (Row W4 w.heap.size (akk k n v m t) 33) := q0
  have G3 : Hid (Row W4 w1.heap.size (cpc (cU k)) 31) := q1
  have G4 : Hid (Row W4 W3.heap.size (cpc (cU k)) 31) := q2
  have BB : Hid (Below w.heap.size w W4) := c0
  have K1 := q2.cls.md
  have f1 := q2.froz
  clear q0 q1 q2 c0
  go_upto_region 5 with fail
  have Q4 := G4.out.put (i := 33) (.int .i64 3)
  rw [cpc_md] at Q4
  refine go_onP (motive := fun W => Code.wp _ _ _ _ W) (Q := fun W => Row W w.heap.size (akk k n v m t) 33 ∧ Row W w1.heap.size (cpc (cU k)) 31 ∧ Row W W3.heap.size (cpc (cMm k)) 31 ∧ Below w.heap.size w W) ⟨G0.out.other (by have := N1.out; have := N3.out; omega) _, G3.out.other (by have := N3.out; omega) _, Q4, below_put BB.out (by have := N1.out; have := N3.out; omega) _⟩ ?_
  clear Q4 G0 G3 G4 BB K1 f1
  rintro W5 ⟨q0, q1, q2, c0⟩
  have G0 : Hid (Row W5 w.heap.size (akk k n v m t) 33) := q0
  have G3 : Hid (Row W5 w1.heap.size (cpc (cU k)) 31) := q1
  have G4 : Hid (Row W5 W3.heap.size (cpc (cMm k)) 31) := q2
  have BB : Hid (Below w.heap.size w W5) := c0
  obtain ⟨_, d1, d2, d3, d4⟩ := q0.akk
  clear q0 q1 q2 c0 d2
  go_upto_region 6 with fail
  go_upto_region 7 with (first | (refine wpList_load_row (by rfl) _ _ (by rfl) _ (by rfl) 31 _ (0, 0) _ G3.out Try.underlying31 (by rfl) (info_cpu _) ?_) | (go_at_call 9; refine (HU.out _).mono ?_; rintro e w6 ⟨rfl, hb⟩; have Bw6 : Hid (Below W5.heap.size W5 w6) := hb; clear hb))
  clear d1 d3 d4
  have q0 := G0.out.cb Bw6.out
  have q1 := G3.out.cb Bw6.out
  have q2 := G4.out.cb Bw6.out
  have c0 := BB.out.trans (Bw6.out.mono BB.out.size)
  have K3 : w6.cell? ⟨w1.heap.size, 38, none⟩ = some (.int .u64 (n64 ((PR k).s 3))) := q1.cls.s3
  obtain ⟨_, d1, d2, d3, d4⟩ := q0.akk
  have H4 : Hid (Row w6 W3.heap.size (cpc (cMm k)) 31) := q2
  have B6 : Hid (Below w.heap.size w w6) := c0
  clear G0 G3 G4 BB Bw6 HU d1 d2 q0 q1 q2 c0
  go_upto_region 8 with fail
  clear K3
  go_upto_region 9 with (first | (refine wpList_load_row (by rfl) _ _ (by rfl) _ (by rfl) 31 _ (0, 0) _ H4.out Try.underlying31 (by rfl) (info_cpu _) ?_) | (go_at_call 9; refine (HM.out _).mono ?_; rintro e w7 ⟨rfl, hb⟩; have Bw7 : Hid (Below w6.heap.size w6 w7) := hb; clear hb))
  clear d3 d4 H4 HM
  go_wp2_with (first | (go_at_call 10; refine (HX.out _).mono ?_; rintro e w8 ⟨rfl, hb⟩; have Bw8 : Hid (Below w7.heap.size w7 w8) := hb; clear hb) | (go_at_call 11; refine (HV.out _).mono ?_; rintro e w9 ⟨rfl, hb⟩; have Bw9 : Hid (Below w8.heap.size w8 w9) := hb; clear hb))
  go_ret
  exact ⟨rfl, (B6.out.trans (Bw7.out.mono B6.out.size)).trans ((Bw8.out.trans (Bw9.out.mono Bw8.out.size)).mono (Nat.le_trans B6.out.size Bw7.out.size))⟩
set_option maxRecDepth 100000 in
set_option maxHeartbeats 2000000 in
theorem user_hi_false (hp : CPr) (hx : CEx) (hr : CRd) (hw : CWr) (k : Cp) (n : Int) (v m t : BitVec 64) (hi : I64 n) (hn : 3074 < n) (he : EX n = false) (w : World) : Calls Try.prog 3 #[.agg (akk k n v m t)] w fun e w' => e = .returned (.bool true) ∧ Below w.heap.size w w' := by
  have hz := zero_cpu
  obtain ⟨W0, hW0, r0, b0, s0⟩ := start1 w (akk k n v m t) 33
  have hlt : Hid (w.heap.size < W0.heap.size) := by unfold Hid; omega
  clear s0
  have HP : Hid (∀ W : World, Calls Try.prog 8 #[.agg (cpc k)] W fun e w' => e = .returned (.agg (cpc (PR k))) ∧ Below W.heap.size W w') := hp k
  have HU : Hid (∀ W : World, Calls Try.prog 9 #[.agg (cpc (cU k)), .int .u64 (n64 m), .int .u64 (n64 t), .int .i64 n] W fun e w' => e = .returned (.tuple #[.int .u64 (0), .bool false]) ∧ Below W.heap.size W w') := fun W => by
    have h := hr (cU k) m t n hi W
    unfold RD at h; rw [cU_no k n (Or.inr hn)] at h
    exact h
  have HM : Hid (∀ W : World, Calls Try.prog 9 #[.agg (cpc (cMm k)), .int .u64 (n64 m), .int .u64 (n64 t), .int .i64 n] W fun e w' => e = .returned (.tuple #[.int .u64 (0), .bool false]) ∧ Below W.heap.size W w') := fun W => by
    have h := hr (cMm k) m t n hi W
    unfold RD at h; rw [cMm_rk, he] at h
    exact h
  have HX : Hid (∀ W : World, Calls Try.prog 10 #[.int .i64 n] W fun e w' => e = .returned (.bool false) ∧ Below W.heap.size W w') := fun W => he ▸ hx n hi W
  have hn1 : 3072 ≤ n := by omega
  have hn2 : ¬ n ≤ 3074 := by omega
  clear hn he
  have HV : Hid (∀ W : World, Calls Try.prog 11 #[] W fun e w' => e = .returned (.bool true) ∧ Below W.heap.size W w') := live_c hr hw
  obtain ⟨a0, _, _, _, _⟩ := r0.out.akk
  have HL : Hid (∀ j v, (cpc k)[j]? = some v → W0.cell? ⟨w.heap.size, 0 + j, none⟩ = some v) := a0.agg
  clear a0 hp hx hr hw hi
  go_enter Try.func3, Try.ntmps3
  go_upto_region 1 with fail
  clear hW0
  go_upto_region 2 with (first | (refine wpList_load_agg (by rfl) 31 _ (by rfl) w.heap.size 0 (by rfl) (cpc k) _ HL.out Try.underlying31 (by rfl) (info_cpu _) ?_) | (go_at_call 8; refine (HP.out _).mono ?_; rintro e w1 ⟨rfl, hb⟩; have Bw1 : Hid (Below W0.heap.size W0 w1) := hb; clear hb) | (refine wpList_store_last (by rfl) _ _ _ (by rfl) (by rfl) _ _ _ (by rfl) (by rfl) (by rfl) (info_cpu _) (by rw [cpc_size, cpc_size]) (cpc_ones _) ?_))
  clear HL
  refine go_onP (motive := fun W => Code.wp _ _ _ _ W) (Q := fun W => Row W w.heap.size (akk k n v m t) 33 ∧ Row W w1.heap.size (cpc (PR k)) 31 ∧ Below w.heap.size w W) ⟨r0.out.ca Bw1.out _, Row.new w1 (cpc (PR k)) 31, below_ca b0.out Bw1.out (Nat.le_of_lt hlt.out) _⟩ ?_
  have N1 : Hid (w.heap.size < w1.heap.size) := Nat.lt_of_lt_of_le hlt.out Bw1.out.size
  clear r0 b0 Bw1 hlt HP
  rintro W2 ⟨q0, q1, c0⟩
  have G0 : Hid (Row W2 w.heap.size (akk k n v m t) 33) := q0
  have G3 : Hid (Row W2 w1.heap.size (cpc (PR k)) 31) := q1
  have BB : Hid (Below w.heap.size w W2) := c0
  have K1 := q1.cls.md
  have f1 := q1.froz
  clear q0 q1 c0
  go_upto_region 3 with fail
  have Q3 := G3.out.put (i := 33) (.int .i64 0)
  rw [cpc_md] at Q3
  refine go_onP (motive := fun W => Code.wp _ _ _ _ W) (Q := fun W => Row W w.heap.size (akk k n v m t) 33 ∧ Row W w1.heap.size (cpc (cU k)) 31 ∧ Below w.heap.size w W) ⟨G0.out.other (by have := N1.out; omega) _, Q3, below_put BB.out (Nat.le_of_lt N1.out) _⟩ ?_
  clear Q3 G0 G3 BB K1 f1
  rintro W3 ⟨q0, q1, c0⟩
  have G0 : Hid (Row W3 w.heap.size (akk k n v m t) 33) := q0
  have G3 : Hid (Row W3 w1.heap.size (cpc (cU k)) 31) := q1
  have BB : Hid (Below w.heap.size w W3) := c0
  clear q0 q1 c0
  go_upto_region 4 with (first | (refine wpList_load_row (by rfl) _ _ (by rfl) _ (by rfl) 31 _ (0, 0) _ G3.out Try.underlying31 (by rfl) (info_cpu _) ?_) | (refine wpList_store_last (by rfl) _ _ _ (by rfl) (by rfl) _ _ _ (by rfl) (by rfl) (by rfl) (info_cpu _) (by rw [cpc_size, cpc_size]) (cpc_ones _) ?_))
  refine go_onP (motive := fun W => Code.wp _ _ _ _ W) (Q := fun W => Row W w.heap.size (akk k n v m t) 33 ∧ Row W w1.heap.size (cpc (cU k)) 31 ∧ Row W W3.heap.size (cpc (cU k)) 31 ∧ Below w.heap.size w W) ⟨G0.out.old G0.out.lt _, G3.out.old G3.out.lt _, Row.new W3 (cpc (cU k)) 31, BB.out.alloc BB.out.size _⟩ ?_
  have N3 : Hid (w1.heap.size < W3.heap.size) := G3.out.lt
  clear G0 G3 BB hz
  rintro W4 ⟨q0, q1, q2, c0⟩
  have G0 : Hid (Row W4 w.heap.size (akk k n v m t) 33) := q0
  have G3 : Hid (Row W4 w1.heap.size (cpc (cU k)) 31) := q1
  have G4 : Hid (Row W4 W3.heap.size (cpc (cU k)) 31) := q2
  have BB : Hid (Below w.heap.size w W4) := c0
  have K1 := q2.cls.md
  have f1 := q2.froz
  clear q0 q1 q2 c0
  go_upto_region 5 with fail
  have Q4 := G4.out.put (i := 33) (.int .i64 3)
  rw [cpc_md] at Q4
  refine go_onP (motive := fun W => Code.wp _ _ _ _ W) (Q := fun W => Row W w.heap.size (akk k n v m t) 33 ∧ Row W w1.heap.size (cpc (cU k)) 31 ∧ Row W W3.heap.size (cpc (cMm k)) 31 ∧ Below w.heap.size w W) ⟨G0.out.other (by have := N1.out; have := N3.out; omega) _, G3.out.other (by have := N3.out; omega) _, Q4, below_put BB.out (by have := N1.out; have := N3.out; omega) _⟩ ?_
  clear Q4 G0 G3 G4 BB K1 f1
  rintro W5 ⟨q0, q1, q2, c0⟩
  have G0 : Hid (Row W5 w.heap.size (akk k n v m t) 33) := q0
  have G3 : Hid (Row W5 w1.heap.size (cpc (cU k)) 31) := q1
  have G4 : Hid (Row W5 W3.heap.size (cpc (cMm k)) 31) := q2
  have BB : Hid (Below w.heap.size w W5) := c0
  obtain ⟨_, d1, d2, d3, d4⟩ := q0.akk
  clear q0 q1 q2 c0 d2
  go_upto_region 6 with fail
  go_upto_region 7 with (first | (refine wpList_load_row (by rfl) _ _ (by rfl) _ (by rfl) 31 _ (0, 0) _ G3.out Try.underlying31 (by rfl) (info_cpu _) ?_) | (go_at_call 9; refine (HU.out _).mono ?_; rintro e w6 ⟨rfl, hb⟩; have Bw6 : Hid (Below W5.heap.size W5 w6) := hb; clear hb))
  clear d1 d3 d4
  have q0 := G0.out.cb Bw6.out
  have q1 := G3.out.cb Bw6.out
  have q2 := G4.out.cb Bw6.out
  have c0 := BB.out.trans (Bw6.out.mono BB.out.size)
  have K3 : w6.cell? ⟨w1.heap.size, 38, none⟩ = some (.int .u64 (n64 ((PR k).s 3))) := q1.cls.s3
  obtain ⟨_, d1, d2, d3, d4⟩ := q0.akk
  have H4 : Hid (Row w6 W3.heap.size (cpc (cMm k)) 31) := q2
  have B6 : Hid (Below w.heap.size w w6) := c0
  clear G0 G3 G4 BB Bw6 HU d1 d2 q0 q1 q2 c0
  go_upto_region 8 with fail
  clear K3
  go_upto_region 9 with (first | (refine wpList_load_row (by rfl) _ _ (by rfl) _ (by rfl) 31 _ (0, 0) _ H4.out Try.underlying31 (by rfl) (info_cpu _) ?_) | (go_at_call 9; refine (HM.out _).mono ?_; rintro e w7 ⟨rfl, hb⟩; have Bw7 : Hid (Below w6.heap.size w6 w7) := hb; clear hb))
  clear d3 d4 H4 HM
  go_wp2_with (first | (go_at_call 10; refine (HX.out _).mono ?_; rintro e w8 ⟨rfl, hb⟩; have Bw8 : Hid (Below w7.heap.size w7 w8) := hb; clear hb) | (go_at_call 11; refine (HV.out _).mono ?_; rintro e w9 ⟨rfl, hb⟩; have Bw9 : Hid (Below w8.heap.size w8 w9) := hb; clear hb))
  go_ret
  exact ⟨rfl, (B6.out.trans (Bw7.out.mono B6.out.size)).trans ((Bw8.out.trans (Bw9.out.mono Bw8.out.size)).mono (Nat.le_trans B6.out.size Bw7.out.size))⟩
set_option maxRecDepth 100000 in
set_option maxHeartbeats 2000000 in
theorem user_in0 (hp : CPr) (hx : CEx) (hr : CRd) (hw : CWr) (k : Cp) (n : Int) (v m t : BitVec 64) (hi : I64 n) (hn : 3072 ≤ n ∧ n ≤ 3074) (hb : (PR k).s 3 >>> (n - 3072).toNat &&& 1#64 = 0#64) (w : World) : Calls Try.prog 3 #[.agg (akk k n v m t)] w fun e w' => e = .returned (.bool true) ∧ Below w.heap.size w w' := by
  have hz := zero_cpu
  obtain ⟨W0, hW0, r0, b0, s0⟩ := start1 w (akk k n v m t) 33
  have hlt : Hid (w.heap.size < W0.heap.size) := by unfold Hid; omega
  clear s0
  have HP : Hid (∀ W : World, Calls Try.prog 8 #[.agg (cpc k)] W fun e w' => e = .returned (.agg (cpc (PR k))) ∧ Below W.heap.size W w') := hp k
  have he : EX n = true := EX_in3 n hn
  have HU : Hid (∀ W : World, Calls Try.prog 9 #[.agg (cpc (cU k)), .int .u64 (n64 m), .int .u64 (n64 t), .int .i64 n] W fun e w' => e = .returned (.tuple #[.int .u64 (0), .bool false]) ∧ Below W.heap.size W w') := fun W => by
    have h := hr (cU k) m t n hi W
    unfold RD at h; rw [cU_in k n hn, hb] at h
    exact h
  have HM : Hid (∀ W : World, Calls Try.prog 9 #[.agg (cpc (cMm k)), .int .u64 (n64 m), .int .u64 (n64 t), .int .i64 n] W fun e w' => e = .returned (.tuple #[.int .u64 (TO (PR (cMm k)) m t n), .bool true]) ∧ Below W.heap.size W w') := fun W => by
    have h := hr (cMm k) m t n hi W
    unfold RD at h; rw [cMm_rk, he] at h
    exact h
  generalize TO (PR (cMm k)) m t n = q at HM
  have HX : Hid (∀ W : World, Calls Try.prog 10 #[.int .i64 n] W fun e w' => e = .returned (.bool true) ∧ Below W.heap.size W w') := fun W => he ▸ hx n hi W
  have hn1 : 3072 ≤ n := hn.1
  have hn2 : n ≤ 3074 := hn.2
  have hq : n64 ((PR k).s 3) / 2 ^ (n - 3072).toNat = n64 ((PR k).s 3 >>> (n - 3072).toNat) := n64_shr _ _
  have hq2 : bits .and .u64 (n64 ((PR k).s 3 >>> (n - 3072).toNat)) 1 = 0 := (n64_and _ 1#64).trans (by rw [hb]; rfl)
  generalize (PR k).s 3 >>> (n - 3072).toNat = u2 at hq hq2
  clear hn he hb
  have HV : Hid (∀ W : World, Calls Try.prog 11 #[] W fun e w' => e = .returned (.bool true) ∧ Below W.heap.size W w') := live_c hr hw
  obtain ⟨a0, _, _, _, _⟩ := r0.out.akk
  have HL : Hid (∀ j v, (cpc k)[j]? = some v → W0.cell? ⟨w.heap.size, 0 + j, none⟩ = some v) := a0.agg
  clear a0 hp hx hr hw hi
  go_enter Try.func3, Try.ntmps3
  go_upto_region 1 with fail
  clear hW0
  go_upto_region 2 with (first | (refine wpList_load_agg (by rfl) 31 _ (by rfl) w.heap.size 0 (by rfl) (cpc k) _ HL.out Try.underlying31 (by rfl) (info_cpu _) ?_) | (go_at_call 8; refine (HP.out _).mono ?_; rintro e w1 ⟨rfl, hb⟩; have Bw1 : Hid (Below W0.heap.size W0 w1) := hb; clear hb) | (refine wpList_store_last (by rfl) _ _ _ (by rfl) (by rfl) _ _ _ (by rfl) (by rfl) (by rfl) (info_cpu _) (by rw [cpc_size, cpc_size]) (cpc_ones _) ?_))
  clear HL
  refine go_onP (motive := fun W => Code.wp _ _ _ _ W) (Q := fun W => Row W w.heap.size (akk k n v m t) 33 ∧ Row W w1.heap.size (cpc (PR k)) 31 ∧ Below w.heap.size w W) ⟨r0.out.ca Bw1.out _, Row.new w1 (cpc (PR k)) 31, below_ca b0.out Bw1.out (Nat.le_of_lt hlt.out) _⟩ ?_
  have N1 : Hid (w.heap.size < w1.heap.size) := Nat.lt_of_lt_of_le hlt.out Bw1.out.size
  clear r0 b0 Bw1 hlt HP
  rintro W2 ⟨q0, q1, c0⟩
  have G0 : Hid (Row W2 w.heap.size (akk k n v m t) 33) := q0
  have G3 : Hid (Row W2 w1.heap.size (cpc (PR k)) 31) := q1
  have BB : Hid (Below w.heap.size w W2) := c0
  have K1 := q1.cls.md
  have f1 := q1.froz
  clear q0 q1 c0
  go_upto_region 3 with fail
  have Q3 := G3.out.put (i := 33) (.int .i64 0)
  rw [cpc_md] at Q3
  refine go_onP (motive := fun W => Code.wp _ _ _ _ W) (Q := fun W => Row W w.heap.size (akk k n v m t) 33 ∧ Row W w1.heap.size (cpc (cU k)) 31 ∧ Below w.heap.size w W) ⟨G0.out.other (by have := N1.out; omega) _, Q3, below_put BB.out (Nat.le_of_lt N1.out) _⟩ ?_
  clear Q3 G0 G3 BB K1 f1
  rintro W3 ⟨q0, q1, c0⟩
  have G0 : Hid (Row W3 w.heap.size (akk k n v m t) 33) := q0
  have G3 : Hid (Row W3 w1.heap.size (cpc (cU k)) 31) := q1
  have BB : Hid (Below w.heap.size w W3) := c0
  clear q0 q1 c0
  go_upto_region 4 with (first | (refine wpList_load_row (by rfl) _ _ (by rfl) _ (by rfl) 31 _ (0, 0) _ G3.out Try.underlying31 (by rfl) (info_cpu _) ?_) | (refine wpList_store_last (by rfl) _ _ _ (by rfl) (by rfl) _ _ _ (by rfl) (by rfl) (by rfl) (info_cpu _) (by rw [cpc_size, cpc_size]) (cpc_ones _) ?_))
  refine go_onP (motive := fun W => Code.wp _ _ _ _ W) (Q := fun W => Row W w.heap.size (akk k n v m t) 33 ∧ Row W w1.heap.size (cpc (cU k)) 31 ∧ Row W W3.heap.size (cpc (cU k)) 31 ∧ Below w.heap.size w W) ⟨G0.out.old G0.out.lt _, G3.out.old G3.out.lt _, Row.new W3 (cpc (cU k)) 31, BB.out.alloc BB.out.size _⟩ ?_
  have N3 : Hid (w1.heap.size < W3.heap.size) := G3.out.lt
  clear G0 G3 BB hz
  rintro W4 ⟨q0, q1, q2, c0⟩
  have G0 : Hid (Row W4 w.heap.size (akk k n v m t) 33) := q0
  have G3 : Hid (Row W4 w1.heap.size (cpc (cU k)) 31) := q1
  have G4 : Hid (Row W4 W3.heap.size (cpc (cU k)) 31) := q2
  have BB : Hid (Below w.heap.size w W4) := c0
  have K1 := q2.cls.md
  have f1 := q2.froz
  clear q0 q1 q2 c0
  go_upto_region 5 with fail
  have Q4 := G4.out.put (i := 33) (.int .i64 3)
  rw [cpc_md] at Q4
  refine go_onP (motive := fun W => Code.wp _ _ _ _ W) (Q := fun W => Row W w.heap.size (akk k n v m t) 33 ∧ Row W w1.heap.size (cpc (cU k)) 31 ∧ Row W W3.heap.size (cpc (cMm k)) 31 ∧ Below w.heap.size w W) ⟨G0.out.other (by have := N1.out; have := N3.out; omega) _, G3.out.other (by have := N3.out; omega) _, Q4, below_put BB.out (by have := N1.out; have := N3.out; omega) _⟩ ?_
  clear Q4 G0 G3 G4 BB K1 f1
  rintro W5 ⟨q0, q1, q2, c0⟩
  have G0 : Hid (Row W5 w.heap.size (akk k n v m t) 33) := q0
  have G3 : Hid (Row W5 w1.heap.size (cpc (cU k)) 31) := q1
  have G4 : Hid (Row W5 W3.heap.size (cpc (cMm k)) 31) := q2
  have BB : Hid (Below w.heap.size w W5) := c0
  obtain ⟨_, d1, d2, d3, d4⟩ := q0.akk
  clear q0 q1 q2 c0 d2
  go_upto_region 6 with fail
  go_upto_region 7 with (first | (refine wpList_load_row (by rfl) _ _ (by rfl) _ (by rfl) 31 _ (0, 0) _ G3.out Try.underlying31 (by rfl) (info_cpu _) ?_) | (go_at_call 9; refine (HU.out _).mono ?_; rintro e w6 ⟨rfl, hb⟩; have Bw6 : Hid (Below W5.heap.size W5 w6) := hb; clear hb))
  clear d1 d3 d4
  have q0 := G0.out.cb Bw6.out
  have q1 := G3.out.cb Bw6.out
  have q2 := G4.out.cb Bw6.out
  have c0 := BB.out.trans (Bw6.out.mono BB.out.size)
  have K3 : w6.cell? ⟨w1.heap.size, 38, none⟩ = some (.int .u64 (n64 ((PR k).s 3))) := q1.cls.s3
  obtain ⟨_, d1, d2, d3, d4⟩ := q0.akk
  have H4 : Hid (Row w6 W3.heap.size (cpc (cMm k)) 31) := q2
  have B6 : Hid (Below w.heap.size w w6) := c0
  clear G0 G3 G4 BB Bw6 HU d1 d2 q0 q1 q2 c0
  go_upto_region 8 with fail
  clear K3
  go_upto_region 9 with (first | (refine wpList_load_row (by rfl) _ _ (by rfl) _ (by rfl) 31 _ (0, 0) _ H4.out Try.underlying31 (by rfl) (info_cpu _) ?_) | (go_at_call 9; refine (HM.out _).mono ?_; rintro e w7 ⟨rfl, hb⟩; have Bw7 : Hid (Below w6.heap.size w6 w7) := hb; clear hb))
  clear d3 d4 H4 HM
  go_wp2_with (first | (go_at_call 10; refine (HX.out _).mono ?_; rintro e w8 ⟨rfl, hb⟩; have Bw8 : Hid (Below w7.heap.size w7 w8) := hb; clear hb) | (go_at_call 11; refine (HV.out _).mono ?_; rintro e w9 ⟨rfl, hb⟩; have Bw9 : Hid (Below w8.heap.size w8 w9) := hb; clear hb))
  go_ret
  exact ⟨rfl, (B6.out.trans (Bw7.out.mono B6.out.size)).trans ((Bw8.out.trans (Bw9.out.mono Bw8.out.size)).mono (Nat.le_trans B6.out.size Bw7.out.size))⟩
set_option maxRecDepth 100000 in
set_option maxHeartbeats 2000000 in
theorem user_in1 (hp : CPr) (hx : CEx) (hr : CRd) (hw : CWr) (k : Cp) (n : Int) (v m t : BitVec 64) (hi : I64 n) (hn : 3072 ≤ n ∧ n ≤ 3074) (hb : (PR k).s 3 >>> (n - 3072).toNat &&& 1#64 = 1#64) (w : World) : Calls Try.prog 3 #[.agg (akk k n v m t)] w fun e w' => e = .returned (.bool true) ∧ Below w.heap.size w w' := by
  have hz := zero_cpu
  obtain ⟨W0, hW0, r0, b0, s0⟩ := start1 w (akk k n v m t) 33
  have hlt : Hid (w.heap.size < W0.heap.size) := by unfold Hid; omega
  clear s0
  have HP : Hid (∀ W : World, Calls Try.prog 8 #[.agg (cpc k)] W fun e w' => e = .returned (.agg (cpc (PR k))) ∧ Below W.heap.size W w') := hp k
  have he : EX n = true := EX_in3 n hn
  have HU : Hid (∀ W : World, Calls Try.prog 9 #[.agg (cpc (cU k)), .int .u64 (n64 m), .int .u64 (n64 t), .int .i64 n] W fun e w' => e = .returned (.tuple #[.int .u64 (TO (PR (cMm k)) m t n), .bool true]) ∧ Below W.heap.size W w') := fun W => by
    have h := hr (cU k) m t n hi W
    unfold RD at h; rw [cU_in k n hn, hb, TO_um k m t n hn] at h
    exact h
  have HM : Hid (∀ W : World, Calls Try.prog 9 #[.agg (cpc (cMm k)), .int .u64 (n64 m), .int .u64 (n64 t), .int .i64 n] W fun e w' => e = .returned (.tuple #[.int .u64 (TO (PR (cMm k)) m t n), .bool true]) ∧ Below W.heap.size W w') := fun W => by
    have h := hr (cMm k) m t n hi W
    unfold RD at h; rw [cMm_rk, he] at h
    exact h
  generalize TO (PR (cMm k)) m t n = q at HM HU
  have HX : Hid (∀ W : World, Calls Try.prog 10 #[.int .i64 n] W fun e w' => e = .returned (.bool true) ∧ Below W.heap.size W w') := fun W => he ▸ hx n hi W
  have hn1 : 3072 ≤ n := hn.1
  have hn2 : n ≤ 3074 := hn.2
  have hq : n64 ((PR k).s 3) / 2 ^ (n - 3072).toNat = n64 ((PR k).s 3 >>> (n - 3072).toNat) := n64_shr _ _
  have hq2 : bits .and .u64 (n64 ((PR k).s 3 >>> (n - 3072).toNat)) 1 = 1 := (n64_and _ 1#64).trans (by rw [hb]; rfl)
  generalize (PR k).s 3 >>> (n - 3072).toNat = u2 at hq hq2
  clear hn he hb
  have HV : Hid (∀ W : World, Calls Try.prog 11 #[] W fun e w' => e = .returned (.bool true) ∧ Below W.heap.size W w') := live_c hr hw
  obtain ⟨a0, _, _, _, _⟩ := r0.out.akk
  have HL : Hid (∀ j v, (cpc k)[j]? = some v → W0.cell? ⟨w.heap.size, 0 + j, none⟩ = some v) := a0.agg
  clear a0 hp hx hr hw hi
  go_enter Try.func3, Try.ntmps3
  go_upto_region 1 with fail
  clear hW0
  go_upto_region 2 with (first | (refine wpList_load_agg (by rfl) 31 _ (by rfl) w.heap.size 0 (by rfl) (cpc k) _ HL.out Try.underlying31 (by rfl) (info_cpu _) ?_) | (go_at_call 8; refine (HP.out _).mono ?_; rintro e w1 ⟨rfl, hb⟩; have Bw1 : Hid (Below W0.heap.size W0 w1) := hb; clear hb) | (refine wpList_store_last (by rfl) _ _ _ (by rfl) (by rfl) _ _ _ (by rfl) (by rfl) (by rfl) (info_cpu _) (by rw [cpc_size, cpc_size]) (cpc_ones _) ?_))
  clear HL
  refine go_onP (motive := fun W => Code.wp _ _ _ _ W) (Q := fun W => Row W w.heap.size (akk k n v m t) 33 ∧ Row W w1.heap.size (cpc (PR k)) 31 ∧ Below w.heap.size w W) ⟨r0.out.ca Bw1.out _, Row.new w1 (cpc (PR k)) 31, below_ca b0.out Bw1.out (Nat.le_of_lt hlt.out) _⟩ ?_
  have N1 : Hid (w.heap.size < w1.heap.size) := Nat.lt_of_lt_of_le hlt.out Bw1.out.size
  clear r0 b0 Bw1 hlt HP
  rintro W2 ⟨q0, q1, c0⟩
  have G0 : Hid (Row W2 w.heap.size (akk k n v m t) 33) := q0
  have G3 : Hid (Row W2 w1.heap.size (cpc (PR k)) 31) := q1
  have BB : Hid (Below w.heap.size w W2) := c0
  have K1 := q1.cls.md
  have f1 := q1.froz
  clear q0 q1 c0
  go_upto_region 3 with fail
  have Q3 := G3.out.put (i := 33) (.int .i64 0)
  rw [cpc_md] at Q3
  refine go_onP (motive := fun W => Code.wp _ _ _ _ W) (Q := fun W => Row W w.heap.size (akk k n v m t) 33 ∧ Row W w1.heap.size (cpc (cU k)) 31 ∧ Below w.heap.size w W) ⟨G0.out.other (by have := N1.out; omega) _, Q3, below_put BB.out (Nat.le_of_lt N1.out) _⟩ ?_
  clear Q3 G0 G3 BB K1 f1
  rintro W3 ⟨q0, q1, c0⟩
  have G0 : Hid (Row W3 w.heap.size (akk k n v m t) 33) := q0
  have G3 : Hid (Row W3 w1.heap.size (cpc (cU k)) 31) := q1
  have BB : Hid (Below w.heap.size w W3) := c0
  clear q0 q1 c0
  go_upto_region 4 with (first | (refine wpList_load_row (by rfl) _ _ (by rfl) _ (by rfl) 31 _ (0, 0) _ G3.out Try.underlying31 (by rfl) (info_cpu _) ?_) | (refine wpList_store_last (by rfl) _ _ _ (by rfl) (by rfl) _ _ _ (by rfl) (by rfl) (by rfl) (info_cpu _) (by rw [cpc_size, cpc_size]) (cpc_ones _) ?_))
  refine go_onP (motive := fun W => Code.wp _ _ _ _ W) (Q := fun W => Row W w.heap.size (akk k n v m t) 33 ∧ Row W w1.heap.size (cpc (cU k)) 31 ∧ Row W W3.heap.size (cpc (cU k)) 31 ∧ Below w.heap.size w W) ⟨G0.out.old G0.out.lt _, G3.out.old G3.out.lt _, Row.new W3 (cpc (cU k)) 31, BB.out.alloc BB.out.size _⟩ ?_
  have N3 : Hid (w1.heap.size < W3.heap.size) := G3.out.lt
  clear G0 G3 BB hz
  rintro W4 ⟨q0, q1, q2, c0⟩
  have G0 : Hid (Row W4 w.heap.size (akk k n v m t) 33) := q0
  have G3 : Hid (Row W4 w1.heap.size (cpc (cU k)) 31) := q1
  have G4 : Hid (Row W4 W3.heap.size (cpc (cU k)) 31) := q2
  have BB : Hid (Below w.heap.size w W4) := c0
  have K1 := q2.cls.md
  have f1 := q2.froz
  clear q0 q1 q2 c0
  go_upto_region 5 with fail
  have Q4 := G4.out.put (i := 33) (.int .i64 3)
  rw [cpc_md] at Q4
  refine go_onP (motive := fun W => Code.wp _ _ _ _ W) (Q := fun W => Row W w.heap.size (akk k n v m t) 33 ∧ Row W w1.heap.size (cpc (cU k)) 31 ∧ Row W W3.heap.size (cpc (cMm k)) 31 ∧ Below w.heap.size w W) ⟨G0.out.other (by have := N1.out; have := N3.out; omega) _, G3.out.other (by have := N3.out; omega) _, Q4, below_put BB.out (by have := N1.out; have := N3.out; omega) _⟩ ?_
  clear Q4 G0 G3 G4 BB K1 f1
  rintro W5 ⟨q0, q1, q2, c0⟩
  have G0 : Hid (Row W5 w.heap.size (akk k n v m t) 33) := q0
  have G3 : Hid (Row W5 w1.heap.size (cpc (cU k)) 31) := q1
  have G4 : Hid (Row W5 W3.heap.size (cpc (cMm k)) 31) := q2
  have BB : Hid (Below w.heap.size w W5) := c0
  obtain ⟨_, d1, d2, d3, d4⟩ := q0.akk
  clear q0 q1 q2 c0 d2
  go_upto_region 6 with fail
  go_upto_region 7 with (first | (refine wpList_load_row (by rfl) _ _ (by rfl) _ (by rfl) 31 _ (0, 0) _ G3.out Try.underlying31 (by rfl) (info_cpu _) ?_) | (go_at_call 9; refine (HU.out _).mono ?_; rintro e w6 ⟨rfl, hb⟩; have Bw6 : Hid (Below W5.heap.size W5 w6) := hb; clear hb))
  clear d1 d3 d4
  have q0 := G0.out.cb Bw6.out
  have q1 := G3.out.cb Bw6.out
  have q2 := G4.out.cb Bw6.out
  have c0 := BB.out.trans (Bw6.out.mono BB.out.size)
  have K3 : w6.cell? ⟨w1.heap.size, 38, none⟩ = some (.int .u64 (n64 ((PR k).s 3))) := q1.cls.s3
  obtain ⟨_, d1, d2, d3, d4⟩ := q0.akk
  have H4 : Hid (Row w6 W3.heap.size (cpc (cMm k)) 31) := q2
  have B6 : Hid (Below w.heap.size w w6) := c0
  clear G0 G3 G4 BB Bw6 HU d1 d2 q0 q1 q2 c0
  go_upto_region 8 with fail
  clear K3
  go_upto_region 9 with (first | (refine wpList_load_row (by rfl) _ _ (by rfl) _ (by rfl) 31 _ (0, 0) _ H4.out Try.underlying31 (by rfl) (info_cpu _) ?_) | (go_at_call 9; refine (HM.out _).mono ?_; rintro e w7 ⟨rfl, hb⟩; have Bw7 : Hid (Below w6.heap.size w6 w7) := hb; clear hb))
  clear d3 d4 H4 HM
  go_wp2_with (first | (go_at_call 10; refine (HX.out _).mono ?_; rintro e w8 ⟨rfl, hb⟩; have Bw8 : Hid (Below w7.heap.size w7 w8) := hb; clear hb) | (go_at_call 11; refine (HV.out _).mono ?_; rintro e w9 ⟨rfl, hb⟩; have Bw9 : Hid (Below w8.heap.size w8 w9) := hb; clear hb))
  go_ret
  exact ⟨rfl, (B6.out.trans (Bw7.out.mono B6.out.size)).trans ((Bw8.out.trans (Bw9.out.mono Bw8.out.size)).mono (Nat.le_trans B6.out.size Bw7.out.size))⟩
theorem cuser_walk (hp : CPr) (hx : CEx) (hr : CRd) (hw : CWr) (k : Cp) (n : Int) (v m t : BitVec 64) (hi : I64 n) (w : World) : Calls Try.prog 3 #[.agg (akk k n v m t)] w fun e w' => e = .returned (.bool true) ∧ Below w.heap.size w w' := by
  by_cases h1 : n < 3072
  · cases he : EX n with
    | true => exact user_lo_true hp hx hr hw k n v m t hi h1 he w
    | false => exact user_lo_false hp hx hr hw k n v m t hi h1 he w
  by_cases h2 : 3074 < n
  · cases he : EX n with
    | true => exact user_hi_true hp hx hr hw k n v m t hi h2 he w
    | false => exact user_hi_false hp hx hr hw k n v m t hi h2 he w
  rcases bit01 ((PR k).s 3 >>> (n - 3072).toNat) with hb | hb
  · exact user_in0 hp hx hr hw k n v m t hi (by omega) hb w
  · exact user_in1 hp hx hr hw k n v m t hi (by omega) hb w
end Go.Proofs.Ytnnkeodiacdmaab
