/-
  CsrKeeps: its walk.
-/
import Derived.Test.YtnnkeodiacdmaabCmk
import Derived.Test.YtnnkeodiacdmaabPbm
namespace Go.Proofs.Ytnnkeodiacdmaab
set_option linter.unusedVariables false
open Go.ChangeShapes Go.WideShapes Go.ChangeAt Go.RowKit Go.Deep

theorem alias_eq (a : Int) (w : World) : Calls Try.prog 13 #[.int .i64 a, .int .i64 a] w fun e w' => e = .returned (.bool true) ∧ w' = w := by
  go_enter Try.func13, Try.ntmps13
  go_wp2
  go_ret
  exact ⟨by simp_all, rfl⟩
theorem alias_2816y (w : World) : Calls Try.prog 13 #[.int .i64 2816, .int .i64 3072] w fun e w' => e = .returned (.bool true) ∧ w' = w := by
  go_enter Try.func13, Try.ntmps13
  go_wp2
  go_ret
  exact ⟨by simp_all, rfl⟩
theorem alias_2816n (b : Int) (h0 : ¬ 2816 = b) (h1 : ¬ b = 3072) (w : World) : Calls Try.prog 13 #[.int .i64 2816, .int .i64 b] w fun e w' => e = .returned (.bool false) ∧ w' = w := by
  go_enter Try.func13, Try.ntmps13
  go_wp2
  go_ret
  exact ⟨by simp_all, rfl⟩
theorem alias_3072y (w : World) : Calls Try.prog 13 #[.int .i64 3072, .int .i64 2816] w fun e w' => e = .returned (.bool true) ∧ w' = w := by
  go_enter Try.func13, Try.ntmps13
  go_wp2
  go_ret
  exact ⟨by simp_all, rfl⟩
theorem alias_3072n (b : Int) (h0 : ¬ 3072 = b) (h1 : ¬ b = 2816) (w : World) : Calls Try.prog 13 #[.int .i64 3072, .int .i64 b] w fun e w' => e = .returned (.bool false) ∧ w' = w := by
  go_enter Try.func13, Try.ntmps13
  go_wp2
  go_ret
  exact ⟨by simp_all, rfl⟩
theorem alias_2818y (w : World) : Calls Try.prog 13 #[.int .i64 2818, .int .i64 3074] w fun e w' => e = .returned (.bool true) ∧ w' = w := by
  go_enter Try.func13, Try.ntmps13
  go_wp2
  go_ret
  exact ⟨by simp_all, rfl⟩
theorem alias_2818n (b : Int) (h0 : ¬ 2818 = b) (h1 : ¬ b = 3074) (w : World) : Calls Try.prog 13 #[.int .i64 2818, .int .i64 b] w fun e w' => e = .returned (.bool false) ∧ w' = w := by
  go_enter Try.func13, Try.ntmps13
  go_wp2
  go_ret
  exact ⟨by simp_all, rfl⟩
theorem alias_3074y (w : World) : Calls Try.prog 13 #[.int .i64 3074, .int .i64 2818] w fun e w' => e = .returned (.bool true) ∧ w' = w := by
  go_enter Try.func13, Try.ntmps13
  go_wp2
  go_ret
  exact ⟨by simp_all, rfl⟩
theorem alias_3074n (b : Int) (h0 : ¬ 3074 = b) (h1 : ¬ b = 2818) (w : World) : Calls Try.prog 13 #[.int .i64 3074, .int .i64 b] w fun e w' => e = .returned (.bool false) ∧ w' = w := by
  go_enter Try.func13, Try.ntmps13
  go_wp2
  go_ret
  exact ⟨by simp_all, rfl⟩
theorem alias_no (a b : Int) (h : ¬ a = b) (h0 : ¬ a = 2816) (h1 : ¬ a = 3072) (h2 : ¬ a = 2818) (h3 : ¬ a = 3074) (w : World) : Calls Try.prog 13 #[.int .i64 a, .int .i64 b] w fun e w' => e = .returned (.bool false) ∧ w' = w := by
  go_enter Try.func13, Try.ntmps13
  go_wp2
  go_ret
  exact ⟨by simp_all, rfl⟩
theorem alias_c (a b : Int) (w : World) : Calls Try.prog 13 #[.int .i64 a, .int .i64 b] w fun e w' => e = .returned (.bool (al a b)) ∧ w' = w := by
  by_cases h : a = b
  · subst h
    rw [show al a a = true by simp [al]]
    exact alias_eq a w
  by_cases h2816 : a = 2816
  · subst h2816
    by_cases hy : b = 3072
    · subst hy
      exact alias_2816y w
    · rw [show al 2816 b = false by simp [al, h, hy]]
      exact alias_2816n b h hy w
  by_cases h3072 : a = 3072
  · subst h3072
    by_cases hy : b = 2816
    · subst hy
      exact alias_3072y w
    · rw [show al 3072 b = false by simp [al, h, hy]]
      exact alias_3072n b h hy w
  by_cases h2818 : a = 2818
  · subst h2818
    by_cases hy : b = 3074
    · subst hy
      exact alias_2818y w
    · rw [show al 2818 b = false by simp [al, h, hy]]
      exact alias_2818n b h hy w
  by_cases h3074 : a = 3074
  · subst h3074
    by_cases hy : b = 2818
    · subst hy
      exact alias_3074y w
    · rw [show al 3074 b = false by simp [al, h, hy]]
      exact alias_3074n b h hy w
  rw [show al a b = false by simp [al, h, h2816, h3072, h2818, h3074]]
  exact alias_no a b h h2816 h3072 h2818 h3074 w
/-- The Cpu in M. -/
def cK (k : Cp) : Cp := { k with md := 3 }
theorem cK_md (k : Cp) : (PR (cK k)).md = 3 := rfl
theorem cK_rk (k : Cp) (n : Int) : RK (cK k) n = EX n := by unfold RK; rw [cK_md]; simp
theorem WK_ex {k : Cp} {N : Int} (h : WK k N = true) : EX N = true ∧ N < 3072 := by
  unfold WK at h
  simp only [Bool.and_eq_true, decide_eq_true_iff] at h
  exact ⟨h.1.1, h.2⟩
set_option maxRecDepth 100000 in
set_option maxHeartbeats 2000000 in
theorem keeps_no (hp : CPr) (hx : CEx) (hr : CRd) (hw : CWr) (k : Cp) (N n : Int) (v m t : BitVec 64) (hN : I64 N) (hi : I64 n) (hk : WK (cK k) N = false) (w : World) : Calls Try.prog 4 #[.agg (akk k N v m t), .int .i64 n] w fun e w' => e = .returned (.bool true) ∧ Below w.heap.size w w' := by
  have hz := zero_cpu
  obtain ⟨W0, hW0, r0, b0, s0⟩ := start1 w (akk k N v m t) 33
  clear s0
  obtain ⟨DD, hDD⟩ : ∃ DD, DD = PR (cK k) := ⟨_, rfl⟩
  have HW1 : Hid (∀ W : World, Calls Try.prog 12 #[.agg (cpc (cK k)), .int .i64 N, .int .u64 (n64 v)] W fun e w' => e = .returned (.tuple #[.agg (cpc DD), .bool false]) ∧ Below W.heap.size W w') := fun W => by
    have h := hw (cK k) N v hN W
    rw [hk, WR_no _ _ _ hk] at h
    rw [hDD]; exact h
  have HP : Hid (∀ W : World, Calls Try.prog 8 #[.agg (cpc (cK k))] W fun e w' => e = .returned (.agg (cpc DD)) ∧ Below W.heap.size W w') := fun W => by
    rw [hDD]; exact hp (cK k) W
  have heq : ∀ W, (Op.equalIn 10000 31 (.agg (cpc DD)) (.agg (cpc DD))).run Try.prog W = .ok true W := fun W => eq_cpu W _
  clear hDD hk
  have HV : Hid (∀ W : World, Calls Try.prog 11 #[] W fun e w' => e = .returned (.bool true) ∧ Below W.heap.size W w') := live_c hr hw
  obtain ⟨a0, _, _, _, _⟩ := r0.out.akk
  have HL : Hid (∀ j v, (cpc k)[j]? = some v → W0.cell? ⟨w.heap.size, 0 + j, none⟩ = some v) := a0.agg
  clear a0 hp hx hr hw hi hN
  go_enter Try.func4, Try.ntmps4
  go_upto_region 1 with fail
  clear hW0
  go_upto_region 2 with (first | (refine wpList_load_agg (by rfl) 31 _ (by rfl) w.heap.size 0 (by rfl) (cpc k) _ HL.out Try.underlying31 (by rfl) (info_cpu _) ?_) | (refine wpList_store_last (by rfl) _ _ _ (by rfl) (by rfl) _ _ _ (by rfl) (by rfl) (by rfl) (info_cpu _) (by rw [cpc_size, cpc_size]) (cpc_ones _) ?_))
  clear HL
  refine go_onP (motive := fun W => Code.wp _ _ _ _ W) (Q := fun W => Row W w.heap.size (akk k N v m t) 33 ∧ Row W W0.heap.size (cpc k) 31 ∧ Below w.heap.size w W) ⟨r0.out.old r0.out.lt _, Row.new W0 (cpc k) 31, b0.out.alloc b0.out.size _⟩ ?_
  have N1 : Hid (w.heap.size < W0.heap.size) := r0.out.lt
  clear r0 b0
  rintro W2 ⟨q0, q1, c0⟩
  have G0 : Hid (Row W2 w.heap.size (akk k N v m t) 33) := q0
  have G5 : Hid (Row W2 W0.heap.size (cpc k) 31) := q1
  have BB : Hid (Below w.heap.size w W2) := c0
  have K1 := q1.cls.md
  have f1 := q1.froz
  clear q0 q1 c0
  go_upto_region 3 with fail
  have Q3 := G5.out.put (i := 33) (.int .i64 3)
  rw [cpc_md] at Q3
  refine go_onP (motive := fun W => Code.wp _ _ _ _ W) (Q := fun W => Row W w.heap.size (akk k N v m t) 33 ∧ Row W W0.heap.size (cpc (cK k)) 31 ∧ Below w.heap.size w W) ⟨G0.out.other (by have := N1.out; omega) _, Q3, below_put BB.out (Nat.le_of_lt N1.out) _⟩ ?_
  clear Q3 G0 G5 BB K1 f1
  rintro W3 ⟨q0, q1, c0⟩
  have G0 : Hid (Row W3 w.heap.size (akk k N v m t) 33) := q0
  have G5 : Hid (Row W3 W0.heap.size (cpc (cK k)) 31) := q1
  have BB : Hid (Below w.heap.size w W3) := c0
  obtain ⟨_, d1, d2, d3, d4⟩ := q0.akk
  clear q0 q1 c0 d3 d4
  go_upto_region 4 with (first | (refine wpList_load_row (by rfl) _ _ (by rfl) _ (by rfl) 31 _ (0, 0) _ G5.out Try.underlying31 (by rfl) (info_cpu _) ?_) | (go_at_call 12; refine (HW1.out _).mono ?_; rintro e w4 ⟨rfl, hb⟩; have Bw4 : Hid (Below W3.heap.size W3 w4) := hb; clear hb) | (refine wpList_store_last (by rfl) _ _ _ (by rfl) (by rfl) _ _ _ (by rfl) (by rfl) (by rfl) (info_cpu _) (by rw [cpc_size, cpc_size]) (cpc_ones _) ?_))
  clear d1 d2
  refine go_onP (motive := fun W => Code.wp _ _ _ _ W) (Q := fun W => Row W w.heap.size (akk k N v m t) 33 ∧ Row W W0.heap.size (cpc (cK k)) 31 ∧ Row W w4.heap.size (cpc DD) 31 ∧ Below w.heap.size w W) ⟨G0.out.ca Bw4.out _, G5.out.ca Bw4.out _, Row.new w4 (cpc DD) 31, below_ca BB.out Bw4.out BB.out.size _⟩ ?_
  clear G0 G5 BB Bw4 HW1 N1
  rintro W5 ⟨q0, q1, q2, c0⟩
  have G0 : Hid (Row W5 w.heap.size (akk k N v m t) 33) := q0
  have G5 : Hid (Row W5 W0.heap.size (cpc (cK k)) 31) := q1
  have G6 : Hid (Row W5 w4.heap.size (cpc DD) 31) := q2
  have BB : Hid (Below w.heap.size w W5) := c0
  clear q0 q1 q2 c0
  go_upto_region 6 with (go_at_call 11; refine (HV.out _).mono ?_; rintro e w6 ⟨rfl, hb⟩; have Bw6 : Hid (Below W5.heap.size W5 w6) := hb; clear hb)
  have H0 : Hid (Row w6 w.heap.size (akk k N v m t) 33) := G0.out.cb Bw6.out
  have H5 : Hid (Row w6 W0.heap.size (cpc (cK k)) 31) := G5.out.cb Bw6.out
  have H6 : Hid (Row w6 w4.heap.size (cpc DD) 31) := G6.out.cb Bw6.out
  have B6 : Hid (Below w.heap.size w w6) := BB.out.trans (Bw6.out.mono BB.out.size)
  clear G0 G5 G6 BB Bw6 HV
  go_upto_region 7 with fail
  have Lp : Hid (∀ j v, (cpc DD)[j]? = some v → w6.cell? ⟨w4.heap.size, 0 + j, none⟩ = some v) := H6.out.cpu.agg
  have Lq : Hid (∀ j v, (cpc (cK k))[j]? = some v → w6.cell? ⟨W0.heap.size, 0 + j, none⟩ = some v) := H5.out.cpu.agg
  have lp := H6.out.lt
  have lq := H5.out.lt
  have := later_nonempty w6
  refine wp_region_later (x0 := Later.start w6) (by kernel_rfl) (by kernel_rfl) ?_
  repeat (first | (refine BigFrame.wpQuiet_want (by rfl) fun K9 hK => ?_; refine quiet_load_agg 31 _ (by rfl) w4.heap.size 0 (by rfl) (cpc DD) _ lp Lp.out Try.underlying31 (by rfl) (info_cpu _) (hK _ ?_); clear hK K9; simp only [Act.put, List.setIfInBounds_toArray, List.set_cons_succ, List.set_cons_zero]) | (refine BigFrame.wpQuiet_want (by rfl) fun K9 hK => ?_; refine quiet_load_agg 31 _ (by rfl) W0.heap.size 0 (by rfl) (cpc (cK k)) _ lq Lq.out Try.underlying31 (by rfl) (info_cpu _) (hK _ ?_); clear hK K9; simp only [Act.put, List.setIfInBounds_toArray, List.set_cons_succ, List.set_cons_zero]) | (go_big_quiet_step (first | (go_at_call 8; exact calls_later (HP.out _)))))
  refine wpQuiet_nil ?_
  rintro w' ⟨x9, rfl⟩
  go_wp2
  go_ret
  exact ⟨rfl, B6.out.trans (x9.below.mono B6.out.size)⟩
set_option maxRecDepth 100000 in
set_option maxHeartbeats 2000000 in
theorem keeps_true (hp : CPr) (hx : CEx) (hr : CRd) (hw : CWr) (k : Cp) (N n : Int) (v m t : BitVec 64) (hN : I64 N) (hi : I64 n) (hk : WK (cK k) N = true) (ha : al n N = true) (w : World) : Calls Try.prog 4 #[.agg (akk k N v m t), .int .i64 n] w fun e w' => e = .returned (.bool true) ∧ Below w.heap.size w w' := by
  have hz := zero_cpu
  obtain ⟨W0, hW0, r0, b0, s0⟩ := start1 w (akk k N v m t) 33
  clear s0
  obtain ⟨DD, hDD⟩ : ∃ DD, DD = WR (cK k) N v := ⟨_, rfl⟩
  have hPD : PR DD = DD := by rw [hDD]; exact PR_WR _ _ _
  have hmd : (PR DD).md = 3 := by rw [hPD, hDD]; exact (WR_sta (cK k) N v).md
  obtain ⟨b, hb, hback⟩ := WR_back DD hPD m t N
  obtain ⟨hEN, hN3⟩ := WK_ex hk
  have HW1 : Hid (∀ W : World, Calls Try.prog 12 #[.agg (cpc (cK k)), .int .i64 N, .int .u64 (n64 v)] W fun e w' => e = .returned (.tuple #[.agg (cpc DD), .bool true]) ∧ Below W.heap.size W w') := fun W => by
    have h := hw (cK k) N v hN W
    rw [hk] at h
    rw [hDD]; exact h
  have hrkD : ∀ x : Int, RK DD x = EX x := fun x => by unfold RK; rw [hmd]; simp
  have HR1 : Hid (∀ W : World, Calls Try.prog 9 #[.agg (cpc DD), .int .u64 (n64 m), .int .u64 (n64 t), .int .i64 N] W fun e w' => e = .returned (.tuple #[.int .u64 (n64 b), .bool true]) ∧ Below W.heap.size W w') := fun W => by
    have h := hr DD m t N hN W
    unfold RD at h
    rw [hrkD, hEN, hPD, if_pos rfl, hb] at h
    exact h
  have HW2 : Hid (∀ W : World, Calls Try.prog 12 #[.agg (cpc DD), .int .i64 N, .int .u64 (n64 b)] W fun e w' => e = .returned (.tuple #[.agg (cpc DD), .bool true]) ∧ Below W.heap.size W w') := fun W => by
    have h := hw DD N b hN W
    have e : WK DD N = true := by unfold WK; rw [hEN, hmd]; simp [hN3]
    rw [hback, e] at h
    exact h
  obtain ⟨q1, hq1⟩ : ∃ q1, q1 = RD (cK k) m t n := ⟨_, rfl⟩
  obtain ⟨q2, hq2⟩ : ∃ q2, q2 = RD DD m t n := ⟨_, rfl⟩
  have HR2 : Hid (∀ W : World, Calls Try.prog 9 #[.agg (cpc (cK k)), .int .u64 (n64 m), .int .u64 (n64 t), .int .i64 n] W fun e w' => e = .returned (.tuple #[.int .u64 q1, .bool (EX n)]) ∧ Below W.heap.size W w') := fun W => by
    have h := hr (cK k) m t n hi W
    rw [cK_rk, ← hq1] at h
    exact h
  have HR3 : Hid (∀ W : World, Calls Try.prog 9 #[.agg (cpc DD), .int .u64 (n64 m), .int .u64 (n64 t), .int .i64 n] W fun e w' => e = .returned (.tuple #[.int .u64 q2, .bool (EX n)]) ∧ Below W.heap.size W w') := fun W => by
    have h := hr DD m t n hi W
    rw [hrkD, ← hq2] at h
    exact h
  have HX : Hid (∀ W : World, Calls Try.prog 10 #[.int .i64 n] W fun e w' => e = .returned (.bool (EX n)) ∧ Below W.heap.size W w') := hx n hi
  have HAL : Hid (∀ W : World, Calls Try.prog 13 #[.int .i64 n, .int .i64 N] W fun e w' => e = .returned (.bool true) ∧ w' = W) := fun W => ha ▸ alias_c n N W
  have heq : ∀ W, (Op.equalIn 10000 31 (.agg (cpc DD)) (.agg (cpc DD))).run Try.prog W = .ok true W := fun W => eq_cpu W _
  generalize EX n = e9 at HR2 HR3 HX
  have e8 : (e9 != e9) = false := by simp
  have e7 : (q1 != q1) = false := by simp
  clear hDD hk ha hPD hmd hb hback hEN hN3 hrkD hq1 hq2
  have HV : Hid (∀ W : World, Calls Try.prog 11 #[] W fun e w' => e = .returned (.bool true) ∧ Below W.heap.size W w') := live_c hr hw
  obtain ⟨a0, _, _, _, _⟩ := r0.out.akk
  have HL : Hid (∀ j v, (cpc k)[j]? = some v → W0.cell? ⟨w.heap.size, 0 + j, none⟩ = some v) := a0.agg
  clear a0 hp hx hr hw hi hN
  go_enter Try.func4, Try.ntmps4
  go_upto_region 1 with fail
  clear hW0
  go_upto_region 2 with (first | (refine wpList_load_agg (by rfl) 31 _ (by rfl) w.heap.size 0 (by rfl) (cpc k) _ HL.out Try.underlying31 (by rfl) (info_cpu _) ?_) | (refine wpList_store_last (by rfl) _ _ _ (by rfl) (by rfl) _ _ _ (by rfl) (by rfl) (by rfl) (info_cpu _) (by rw [cpc_size, cpc_size]) (cpc_ones _) ?_))
  clear HL
  refine go_onP (motive := fun W => Code.wp _ _ _ _ W) (Q := fun W => Row W w.heap.size (akk k N v m t) 33 ∧ Row W W0.heap.size (cpc k) 31 ∧ Below w.heap.size w W) ⟨r0.out.old r0.out.lt _, Row.new W0 (cpc k) 31, b0.out.alloc b0.out.size _⟩ ?_
  have N1 : Hid (w.heap.size < W0.heap.size) := r0.out.lt
  clear r0 b0
  rintro W2 ⟨q0, q1, c0⟩
  have G0 : Hid (Row W2 w.heap.size (akk k N v m t) 33) := q0
  have G5 : Hid (Row W2 W0.heap.size (cpc k) 31) := q1
  have BB : Hid (Below w.heap.size w W2) := c0
  have K1 := q1.cls.md
  have f1 := q1.froz
  clear q0 q1 c0
  go_upto_region 3 with fail
  have Q3 := G5.out.put (i := 33) (.int .i64 3)
  rw [cpc_md] at Q3
  refine go_onP (motive := fun W => Code.wp _ _ _ _ W) (Q := fun W => Row W w.heap.size (akk k N v m t) 33 ∧ Row W W0.heap.size (cpc (cK k)) 31 ∧ Below w.heap.size w W) ⟨G0.out.other (by have := N1.out; omega) _, Q3, below_put BB.out (Nat.le_of_lt N1.out) _⟩ ?_
  clear Q3 G0 G5 BB K1 f1
  rintro W3 ⟨q0, q1, c0⟩
  have G0 : Hid (Row W3 w.heap.size (akk k N v m t) 33) := q0
  have G5 : Hid (Row W3 W0.heap.size (cpc (cK k)) 31) := q1
  have BB : Hid (Below w.heap.size w W3) := c0
  obtain ⟨_, d1, d2, d3, d4⟩ := q0.akk
  clear q0 q1 c0 d3 d4
  go_upto_region 4 with (first | (refine wpList_load_row (by rfl) _ _ (by rfl) _ (by rfl) 31 _ (0, 0) _ G5.out Try.underlying31 (by rfl) (info_cpu _) ?_) | (go_at_call 12; refine (HW1.out _).mono ?_; rintro e w4 ⟨rfl, hb⟩; have Bw4 : Hid (Below W3.heap.size W3 w4) := hb; clear hb) | (refine wpList_store_last (by rfl) _ _ _ (by rfl) (by rfl) _ _ _ (by rfl) (by rfl) (by rfl) (info_cpu _) (by rw [cpc_size, cpc_size]) (cpc_ones _) ?_))
  clear d1 d2
  refine go_onP (motive := fun W => Code.wp _ _ _ _ W) (Q := fun W => Row W w.heap.size (akk k N v m t) 33 ∧ Row W W0.heap.size (cpc (cK k)) 31 ∧ Row W w4.heap.size (cpc DD) 31 ∧ Below w.heap.size w W) ⟨G0.out.ca Bw4.out _, G5.out.ca Bw4.out _, Row.new w4 (cpc DD) 31, below_ca BB.out Bw4.out BB.out.size _⟩ ?_
  clear G0 G5 BB Bw4 HW1 N1
  rintro W5 ⟨q0, q1, q2, c0⟩
  have G0 : Hid (Row W5 w.heap.size (akk k N v m t) 33) := q0
  have G5 : Hid (Row W5 W0.heap.size (cpc (cK k)) 31) := q1
  have G6 : Hid (Row W5 w4.heap.size (cpc DD) 31) := q2
  have BB : Hid (Below w.heap.size w W5) := c0
  clear q0 q1 q2 c0
  go_upto_region 6 with (go_at_call 11; refine (HV.out _).mono ?_; rintro e w6 ⟨rfl, hb⟩; have Bw6 : Hid (Below W5.heap.size W5 w6) := hb; clear hb)
  have H0 : Hid (Row w6 w.heap.size (akk k N v m t) 33) := G0.out.cb Bw6.out
  have H5 : Hid (Row w6 W0.heap.size (cpc (cK k)) 31) := G5.out.cb Bw6.out
  have H6 : Hid (Row w6 w4.heap.size (cpc DD) 31) := G6.out.cb Bw6.out
  have B6 : Hid (Below w.heap.size w w6) := BB.out.trans (Bw6.out.mono BB.out.size)
  clear G0 G5 G6 BB Bw6 HV
  obtain ⟨_, d1, d2, d3, d4⟩ := H0.out.akk
  go_upto_region 8 with fail
  go_upto_region 9 with (first | (refine wpList_load_row (by rfl) _ _ (by rfl) _ (by rfl) 31 _ (0, 0) _ H6.out Try.underlying31 (by rfl) (info_cpu _) ?_) | (go_at_call 9; refine (HR1.out _).mono ?_; rintro e w7 ⟨rfl, hb⟩; have Bw7 : Hid (Below w6.heap.size w6 w7) := hb; clear hb))
  clear d1 d2 d3 d4
  have I0 : Hid (Row w7 w.heap.size (akk k N v m t) 33) := H0.out.cb Bw7.out
  have I5 : Hid (Row w7 W0.heap.size (cpc (cK k)) 31) := H5.out.cb Bw7.out
  have I6 : Hid (Row w7 w4.heap.size (cpc DD) 31) := H6.out.cb Bw7.out
  have B7 : Hid (Below w.heap.size w w7) := B6.out.trans (Bw7.out.mono B6.out.size)
  clear H0 H5 H6 B6 Bw7 HR1
  obtain ⟨_, d1, d2, d3, d4⟩ := I0.out.akk
  go_upto_region 11 with fail
  go_upto_region 12 with (first | (refine wpList_load_row (by rfl) _ _ (by rfl) _ (by rfl) 31 _ (0, 0) _ I5.out Try.underlying31 (by rfl) (info_cpu _) ?_) | (go_at_call 9; refine (HR2.out _).mono ?_; rintro e w8 ⟨rfl, hb⟩; have Bw8 : Hid (Below w7.heap.size w7 w8) := hb; clear hb))
  clear d1 d2 d3 d4
  have J0 : Hid (Row w8 w.heap.size (akk k N v m t) 33) := I0.out.cb Bw8.out
  have J6 : Hid (Row w8 w4.heap.size (cpc DD) 31) := I6.out.cb Bw8.out
  have B8 : Hid (Below w.heap.size w w8) := B7.out.trans (Bw8.out.mono B7.out.size)
  clear I0 I5 I6 B7 Bw8 HR2
  obtain ⟨_, d1, d2, d3, d4⟩ := J0.out.akk
  go_upto_region 13 with (first | (refine wpList_load_row (by rfl) _ _ (by rfl) _ (by rfl) 31 _ (0, 0) _ J6.out Try.underlying31 (by rfl) (info_cpu _) ?_) | (go_at_call 9; refine (HR3.out _).mono ?_; rintro e w9 ⟨rfl, hb⟩; have Bw9 : Hid (Below w8.heap.size w8 w9) := hb; clear hb))
  clear d1 d2 d3 d4
  have K0 : Hid (Row w9 w.heap.size (akk k N v m t) 33) := J0.out.cb Bw9.out
  have K6 : Hid (Row w9 w4.heap.size (cpc DD) 31) := J6.out.cb Bw9.out
  have B9 : Hid (Below w.heap.size w w9) := B8.out.trans (Bw9.out.mono B8.out.size)
  clear J0 J6 B8 Bw9 HR3
  obtain ⟨_, d1, d2, d3, d4⟩ := K0.out.akk
  go_upto_region 15 with (first | (go_at_call 13; refine (HAL.out _).mono ?_; rintro e wa ⟨rfl, hwa⟩; have hwa := hwa.symm; subst hwa) | (go_at_call 10; refine (HX.out _).mono ?_; rintro e wb ⟨rfl, hb⟩; have Bwb : Hid (Below w9.heap.size w9 wb) := hb; clear hb))
  clear d1 d2 d3 d4
  have L0 : Hid (Row wb w.heap.size (akk k N v m t) 33) := K0.out.cb Bwb.out
  have L6 : Hid (Row wb w4.heap.size (cpc DD) 31) := K6.out.cb Bwb.out
  have Bb : Hid (Below w.heap.size w wb) := B9.out.trans (Bwb.out.mono B9.out.size)
  clear K0 K6 B9 Bwb HX HAL
  obtain ⟨_, d1, d2, d3, d4⟩ := L0.out.akk
  go_upto_region 16 with (first | (refine wpList_load_row (by rfl) _ _ (by rfl) _ (by rfl) 31 _ (0, 0) _ L6.out Try.underlying31 (by rfl) (info_cpu _) ?_) | (go_at_call 12; refine (HW2.out _).mono ?_; rintro e wc ⟨rfl, hb⟩; have Bwc : Hid (Below wb.heap.size wb wc) := hb; clear hb) | (refine wpList_store_last (by rfl) _ _ _ (by rfl) (by rfl) _ _ _ (by rfl) (by rfl) (by rfl) (info_cpu _) (by rw [cpc_size, cpc_size]) (cpc_ones _) ?_))
  clear d1 d2 d3 d4
  refine go_onP (motive := fun W => Code.wp _ _ _ _ W) (Q := fun W => Row W w4.heap.size (cpc DD) 31 ∧ Row W wc.heap.size (cpc DD) 31 ∧ Below w.heap.size w W) ⟨L6.out.ca Bwc.out _, Row.new wc (cpc DD) 31, below_ca Bb.out Bwc.out Bb.out.size _⟩ ?_
  clear L0 L6 Bb Bwc HW2 hz
  rintro Wd ⟨q6, q14, c0⟩
  have M6 : Hid (Row Wd w4.heap.size (cpc DD) 31) := q6
  have M14 : Hid (Row Wd wc.heap.size (cpc DD) 31) := q14
  have Bd : Hid (Below w.heap.size w Wd) := c0
  clear q6 q14 c0
  go_wp2_with (first | (refine wpList_load_rowG (by rfl) _ _ (by rfl) _ (by rfl) 31 _ (0, 0) _ M14.out Try.underlying31 (by rfl) (info_cpu _) ?_) | (refine wpList_load_rowG (by rfl) _ _ (by rfl) _ (by rfl) 31 _ (0, 0) _ M6.out Try.underlying31 (by rfl) (info_cpu _) ?_))
  go_ret
  exact ⟨rfl, Bd.out⟩
set_option maxRecDepth 100000 in
set_option maxHeartbeats 2000000 in
theorem keeps_false (hp : CPr) (hx : CEx) (hr : CRd) (hw : CWr) (k : Cp) (N n : Int) (v m t : BitVec 64) (hN : I64 N) (hi : I64 n) (hk : WK (cK k) N = true) (ha : al n N = false) (w : World) : Calls Try.prog 4 #[.agg (akk k N v m t), .int .i64 n] w fun e w' => e = .returned (.bool true) ∧ Below w.heap.size w w' := by
  have hz := zero_cpu
  obtain ⟨W0, hW0, r0, b0, s0⟩ := start1 w (akk k N v m t) 33
  clear s0
  obtain ⟨DD, hDD⟩ : ∃ DD, DD = WR (cK k) N v := ⟨_, rfl⟩
  have hPD : PR DD = DD := by rw [hDD]; exact PR_WR _ _ _
  have hmd : (PR DD).md = 3 := by rw [hPD, hDD]; exact (WR_sta (cK k) N v).md
  obtain ⟨b, hb, hback⟩ := WR_back DD hPD m t N
  obtain ⟨hEN, hN3⟩ := WK_ex hk
  have HW1 : Hid (∀ W : World, Calls Try.prog 12 #[.agg (cpc (cK k)), .int .i64 N, .int .u64 (n64 v)] W fun e w' => e = .returned (.tuple #[.agg (cpc DD), .bool true]) ∧ Below W.heap.size W w') := fun W => by
    have h := hw (cK k) N v hN W
    rw [hk] at h
    rw [hDD]; exact h
  have hrkD : ∀ x : Int, RK DD x = EX x := fun x => by unfold RK; rw [hmd]; simp
  have HR1 : Hid (∀ W : World, Calls Try.prog 9 #[.agg (cpc DD), .int .u64 (n64 m), .int .u64 (n64 t), .int .i64 N] W fun e w' => e = .returned (.tuple #[.int .u64 (n64 b), .bool true]) ∧ Below W.heap.size W w') := fun W => by
    have h := hr DD m t N hN W
    unfold RD at h
    rw [hrkD, hEN, hPD, if_pos rfl, hb] at h
    exact h
  have HW2 : Hid (∀ W : World, Calls Try.prog 12 #[.agg (cpc DD), .int .i64 N, .int .u64 (n64 b)] W fun e w' => e = .returned (.tuple #[.agg (cpc DD), .bool true]) ∧ Below W.heap.size W w') := fun W => by
    have h := hw DD N b hN W
    have e : WK DD N = true := by unfold WK; rw [hEN, hmd]; simp [hN3]
    rw [hback, e] at h
    exact h
  obtain ⟨q1, hq1⟩ : ∃ q1, q1 = RD (cK k) m t n := ⟨_, rfl⟩
  have hq2 : q1 = RD DD m t n := by
    rw [hq1]; unfold RD
    rw [cK_rk, hrkD, hPD]
    have h := other_all (PR (cK k)) (PR_PR _) N v m t n ha
    have e : PR (KW (PR (cK k)) N v) = DD := by rw [hDD]; unfold WR; rw [hk]; rfl
    rw [e] at h
    rw [h]
  have HR2 : Hid (∀ W : World, Calls Try.prog 9 #[.agg (cpc (cK k)), .int .u64 (n64 m), .int .u64 (n64 t), .int .i64 n] W fun e w' => e = .returned (.tuple #[.int .u64 q1, .bool (EX n)]) ∧ Below W.heap.size W w') := fun W => by
    have h := hr (cK k) m t n hi W
    rw [cK_rk, ← hq1] at h
    exact h
  have HR3 : Hid (∀ W : World, Calls Try.prog 9 #[.agg (cpc DD), .int .u64 (n64 m), .int .u64 (n64 t), .int .i64 n] W fun e w' => e = .returned (.tuple #[.int .u64 q1, .bool (EX n)]) ∧ Below W.heap.size W w') := fun W => by
    have h := hr DD m t n hi W
    rw [hrkD, ← hq2] at h
    exact h
  have HX : Hid (∀ W : World, Calls Try.prog 10 #[.int .i64 n] W fun e w' => e = .returned (.bool (EX n)) ∧ Below W.heap.size W w') := hx n hi
  have HAL : Hid (∀ W : World, Calls Try.prog 13 #[.int .i64 n, .int .i64 N] W fun e w' => e = .returned (.bool false) ∧ w' = W) := fun W => ha ▸ alias_c n N W
  have heq : ∀ W, (Op.equalIn 10000 31 (.agg (cpc DD)) (.agg (cpc DD))).run Try.prog W = .ok true W := fun W => eq_cpu W _
  generalize EX n = e9 at HR2 HR3 HX
  have e8 : (e9 != e9) = false := by simp
  have e7 : (q1 != q1) = false := by simp
  clear hDD hk ha hPD hmd hb hback hEN hN3 hrkD hq1 hq2
  have HV : Hid (∀ W : World, Calls Try.prog 11 #[] W fun e w' => e = .returned (.bool true) ∧ Below W.heap.size W w') := live_c hr hw
  obtain ⟨a0, _, _, _, _⟩ := r0.out.akk
  have HL : Hid (∀ j v, (cpc k)[j]? = some v → W0.cell? ⟨w.heap.size, 0 + j, none⟩ = some v) := a0.agg
  clear a0 hp hx hr hw hi hN
  go_enter Try.func4, Try.ntmps4
  go_upto_region 1 with fail
  clear hW0
  go_upto_region 2 with (first | (refine wpList_load_agg (by rfl) 31 _ (by rfl) w.heap.size 0 (by rfl) (cpc k) _ HL.out Try.underlying31 (by rfl) (info_cpu _) ?_) | (refine wpList_store_last (by rfl) _ _ _ (by rfl) (by rfl) _ _ _ (by rfl) (by rfl) (by rfl) (info_cpu _) (by rw [cpc_size, cpc_size]) (cpc_ones _) ?_))
  clear HL
  refine go_onP (motive := fun W => Code.wp _ _ _ _ W) (Q := fun W => Row W w.heap.size (akk k N v m t) 33 ∧ Row W W0.heap.size (cpc k) 31 ∧ Below w.heap.size w W) ⟨r0.out.old r0.out.lt _, Row.new W0 (cpc k) 31, b0.out.alloc b0.out.size _⟩ ?_
  have N1 : Hid (w.heap.size < W0.heap.size) := r0.out.lt
  clear r0 b0
  rintro W2 ⟨q0, q1, c0⟩
  have G0 : Hid (Row W2 w.heap.size (akk k N v m t) 33) := q0
  have G5 : Hid (Row W2 W0.heap.size (cpc k) 31) := q1
  have BB : Hid (Below w.heap.size w W2) := c0
  have K1 := q1.cls.md
  have f1 := q1.froz
  clear q0 q1 c0
  go_upto_region 3 with fail
  have Q3 := G5.out.put (i := 33) (.int .i64 3)
  rw [cpc_md] at Q3
  refine go_onP (motive := fun W => Code.wp _ _ _ _ W) (Q := fun W => Row W w.heap.size (akk k N v m t) 33 ∧ Row W W0.heap.size (cpc (cK k)) 31 ∧ Below w.heap.size w W) ⟨G0.out.other (by have := N1.out; omega) _, Q3, below_put BB.out (Nat.le_of_lt N1.out) _⟩ ?_
  clear Q3 G0 G5 BB K1 f1
  rintro W3 ⟨q0, q1, c0⟩
  have G0 : Hid (Row W3 w.heap.size (akk k N v m t) 33) := q0
  have G5 : Hid (Row W3 W0.heap.size (cpc (cK k)) 31) := q1
  have BB : Hid (Below w.heap.size w W3) := c0
  obtain ⟨_, d1, d2, d3, d4⟩ := q0.akk
  clear q0 q1 c0 d3 d4
  go_upto_region 4 with (first | (refine wpList_load_row (by rfl) _ _ (by rfl) _ (by rfl) 31 _ (0, 0) _ G5.out Try.underlying31 (by rfl) (info_cpu _) ?_) | (go_at_call 12; refine (HW1.out _).mono ?_; rintro e w4 ⟨rfl, hb⟩; have Bw4 : Hid (Below W3.heap.size W3 w4) := hb; clear hb) | (refine wpList_store_last (by rfl) _ _ _ (by rfl) (by rfl) _ _ _ (by rfl) (by rfl) (by rfl) (info_cpu _) (by rw [cpc_size, cpc_size]) (cpc_ones _) ?_))
  clear d1 d2
  refine go_onP (motive := fun W => Code.wp _ _ _ _ W) (Q := fun W => Row W w.heap.size (akk k N v m t) 33 ∧ Row W W0.heap.size (cpc (cK k)) 31 ∧ Row W w4.heap.size (cpc DD) 31 ∧ Below w.heap.size w W) ⟨G0.out.ca Bw4.out _, G5.out.ca Bw4.out _, Row.new w4 (cpc DD) 31, below_ca BB.out Bw4.out BB.out.size _⟩ ?_
  clear G0 G5 BB Bw4 HW1 N1
  rintro W5 ⟨q0, q1, q2, c0⟩
  have G0 : Hid (Row W5 w.heap.size (akk k N v m t) 33) := q0
  have G5 : Hid (Row W5 W0.heap.size (cpc (cK k)) 31) := q1
  have G6 : Hid (Row W5 w4.heap.size (cpc DD) 31) := q2
  have BB : Hid (Below w.heap.size w W5) := c0
  clear q0 q1 q2 c0
  go_upto_region 6 with (go_at_call 11; refine (HV.out _).mono ?_; rintro e w6 ⟨rfl, hb⟩; have Bw6 : Hid (Below W5.heap.size W5 w6) := hb; clear hb)
  have H0 : Hid (Row w6 w.heap.size (akk k N v m t) 33) := G0.out.cb Bw6.out
  have H5 : Hid (Row w6 W0.heap.size (cpc (cK k)) 31) := G5.out.cb Bw6.out
  have H6 : Hid (Row w6 w4.heap.size (cpc DD) 31) := G6.out.cb Bw6.out
  have B6 : Hid (Below w.heap.size w w6) := BB.out.trans (Bw6.out.mono BB.out.size)
  clear G0 G5 G6 BB Bw6 HV
  obtain ⟨_, d1, d2, d3, d4⟩ := H0.out.akk
  go_upto_region 8 with fail
  go_upto_region 9 with (first | (refine wpList_load_row (by rfl) _ _ (by rfl) _ (by rfl) 31 _ (0, 0) _ H6.out Try.underlying31 (by rfl) (info_cpu _) ?_) | (go_at_call 9; refine (HR1.out _).mono ?_; rintro e w7 ⟨rfl, hb⟩; have Bw7 : Hid (Below w6.heap.size w6 w7) := hb; clear hb))
  clear d1 d2 d3 d4
  have I0 : Hid (Row w7 w.heap.size (akk k N v m t) 33) := H0.out.cb Bw7.out
  have I5 : Hid (Row w7 W0.heap.size (cpc (cK k)) 31) := H5.out.cb Bw7.out
  have I6 : Hid (Row w7 w4.heap.size (cpc DD) 31) := H6.out.cb Bw7.out
  have B7 : Hid (Below w.heap.size w w7) := B6.out.trans (Bw7.out.mono B6.out.size)
  clear H0 H5 H6 B6 Bw7 HR1
  obtain ⟨_, d1, d2, d3, d4⟩ := I0.out.akk
  go_upto_region 11 with fail
  go_upto_region 12 with (first | (refine wpList_load_row (by rfl) _ _ (by rfl) _ (by rfl) 31 _ (0, 0) _ I5.out Try.underlying31 (by rfl) (info_cpu _) ?_) | (go_at_call 9; refine (HR2.out _).mono ?_; rintro e w8 ⟨rfl, hb⟩; have Bw8 : Hid (Below w7.heap.size w7 w8) := hb; clear hb))
  clear d1 d2 d3 d4
  have J0 : Hid (Row w8 w.heap.size (akk k N v m t) 33) := I0.out.cb Bw8.out
  have J6 : Hid (Row w8 w4.heap.size (cpc DD) 31) := I6.out.cb Bw8.out
  have B8 : Hid (Below w.heap.size w w8) := B7.out.trans (Bw8.out.mono B7.out.size)
  clear I0 I5 I6 B7 Bw8 HR2
  obtain ⟨_, d1, d2, d3, d4⟩ := J0.out.akk
  go_upto_region 13 with (first | (refine wpList_load_row (by rfl) _ _ (by rfl) _ (by rfl) 31 _ (0, 0) _ J6.out Try.underlying31 (by rfl) (info_cpu _) ?_) | (go_at_call 9; refine (HR3.out _).mono ?_; rintro e w9 ⟨rfl, hb⟩; have Bw9 : Hid (Below w8.heap.size w8 w9) := hb; clear hb))
  clear d1 d2 d3 d4
  have K0 : Hid (Row w9 w.heap.size (akk k N v m t) 33) := J0.out.cb Bw9.out
  have K6 : Hid (Row w9 w4.heap.size (cpc DD) 31) := J6.out.cb Bw9.out
  have B9 : Hid (Below w.heap.size w w9) := B8.out.trans (Bw9.out.mono B8.out.size)
  clear J0 J6 B8 Bw9 HR3
  obtain ⟨_, d1, d2, d3, d4⟩ := K0.out.akk
  go_upto_region 15 with (first | (go_at_call 13; refine (HAL.out _).mono ?_; rintro e wa ⟨rfl, hwa⟩; have hwa := hwa.symm; subst hwa) | (go_at_call 10; refine (HX.out _).mono ?_; rintro e wb ⟨rfl, hb⟩; have Bwb : Hid (Below w9.heap.size w9 wb) := hb; clear hb))
  clear d1 d2 d3 d4
  have L0 : Hid (Row wb w.heap.size (akk k N v m t) 33) := K0.out.cb Bwb.out
  have L6 : Hid (Row wb w4.heap.size (cpc DD) 31) := K6.out.cb Bwb.out
  have Bb : Hid (Below w.heap.size w wb) := B9.out.trans (Bwb.out.mono B9.out.size)
  clear K0 K6 B9 Bwb HX HAL
  obtain ⟨_, d1, d2, d3, d4⟩ := L0.out.akk
  go_upto_region 16 with (first | (refine wpList_load_row (by rfl) _ _ (by rfl) _ (by rfl) 31 _ (0, 0) _ L6.out Try.underlying31 (by rfl) (info_cpu _) ?_) | (go_at_call 12; refine (HW2.out _).mono ?_; rintro e wc ⟨rfl, hb⟩; have Bwc : Hid (Below wb.heap.size wb wc) := hb; clear hb) | (refine wpList_store_last (by rfl) _ _ _ (by rfl) (by rfl) _ _ _ (by rfl) (by rfl) (by rfl) (info_cpu _) (by rw [cpc_size, cpc_size]) (cpc_ones _) ?_))
  clear d1 d2 d3 d4
  refine go_onP (motive := fun W => Code.wp _ _ _ _ W) (Q := fun W => Row W w4.heap.size (cpc DD) 31 ∧ Row W wc.heap.size (cpc DD) 31 ∧ Below w.heap.size w W) ⟨L6.out.ca Bwc.out _, Row.new wc (cpc DD) 31, below_ca Bb.out Bwc.out Bb.out.size _⟩ ?_
  clear L0 L6 Bb Bwc HW2 hz
  rintro Wd ⟨q6, q14, c0⟩
  have M6 : Hid (Row Wd w4.heap.size (cpc DD) 31) := q6
  have M14 : Hid (Row Wd wc.heap.size (cpc DD) 31) := q14
  have Bd : Hid (Below w.heap.size w Wd) := c0
  clear q6 q14 c0
  go_wp2_with (first | (refine wpList_load_rowG (by rfl) _ _ (by rfl) _ (by rfl) 31 _ (0, 0) _ M14.out Try.underlying31 (by rfl) (info_cpu _) ?_) | (refine wpList_load_rowG (by rfl) _ _ (by rfl) _ (by rfl) 31 _ (0, 0) _ M6.out Try.underlying31 (by rfl) (info_cpu _) ?_))
  go_ret
  exact ⟨rfl, Bd.out⟩
theorem ckeeps_walk (hp : CPr) (hx : CEx) (hr : CRd) (hw : CWr) (k : Cp) (N n : Int) (v m t : BitVec 64) (hN : I64 N) (hi : I64 n) (w : World) : Calls Try.prog 4 #[.agg (akk k N v m t), .int .i64 n] w fun e w' => e = .returned (.bool true) ∧ Below w.heap.size w w' := by
  cases hk : WK (cK k) N with
  | false => exact keeps_no hp hx hr hw k N n v m t hN hi hk w
  | true =>
    cases ha : al n N with
    | true => exact keeps_true hp hx hr hw k N n v m t hN hi hk ha w
    | false => exact keeps_false hp hx hr hw k N n v m t hN hi hk ha w
end Go.Proofs.Ytnnkeodiacdmaab
