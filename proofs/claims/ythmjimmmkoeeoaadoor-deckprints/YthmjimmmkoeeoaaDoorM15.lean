/-
  Dh.
-/
import Derived.Test.YthmjimmmkoeeoaaDoorM14
import Derived.Test.YthmjimmmkoeeoaaDoorM03
namespace Go.Proofs.YthmjimmmkoeeoaaDoor
set_option linter.unusedVariables false
set_option maxRecDepth 100000
open Go.ChangeShapes Go.WideShapes Go.ChangeAt Go.RowKit Go.Deep Go.Shelf
theorem n8_64 (x : BitVec 8) : IntKind.u64.wrap (n8 x) = n64 (x.setWidth 64) := by
  rw [wrapU _ (by have := n8_lo x; have := n8_hi x; omega)]
  unfold n8 n64
  rw [BitVec.toNat_setWidth]
  have := x.isLt
  rw [Nat.mod_eq_of_lt (by omega)]
theorem n8_ne {x y : BitVec 8} (h : ¬ x = y) : (n8 x == n8 y) = false := by
  rw [beq_eq_false_iff_ne]; exact fun e => h (n8_inj.1 e)
set_option maxHeartbeats 4000000 in
theorem entText_c (k : Cp) (n : Nat) (hn : n < 16) (w : World) (hG : Gp w) : Calls Tryd.prog 61 #[.agg (cpc k), .int .i64 n] w fun e w' => e = .returned (.string (tS (enT k n))) ∧ Below w.heap.size w w' := by
  obtain ⟨W0, hW0, r0, b0, s0⟩ := start1 w (cpc k) 31
  have HGW : Hid (Gp W0) := hG.next b0.out
  have hI1 : (n : Int) < 16 := by omega
  have HN : Hid (n < 16) := hn
  obtain ⟨s, hs⟩ : ∃ s, s = tS (enT k n) := ⟨_, rfl⟩
  rw [← hs]
  have HSS : Hid (s = tS (if k.c n = 0#8 ∧ k.a n = 0#64 then [] else jw [[112, 109, 112], dcL n, hxT ((k.c n).setWidth 64), hxT (k.a n)])) := hs
  have := later_nonempty W0
  have L0 : ∀ x : Later W0, x.1.cell? ⟨w.heap.size, 47 + n, none⟩ = some (.int .u8 (n8 (k.c n))) := later_atD (by omega) (r0.out.pcc n hn)
  have L1 : ∀ x : Later W0, x.1.cell? ⟨w.heap.size, 63 + n, none⟩ = some (.int .u64 (n64 (k.a n))) := later_atD (by omega) (r0.out.pca n hn)
  have hcw := n8_64 (k.c n)
  generalize k.c n = c at L0 HSS hcw
  generalize k.a n = a at L1 HSS
  have HIT : Hid (∀ w', Gp w' → Calls Tryd.prog 21 #[.int .i64 n] w' fun e w'' => e = .returned (.string (tS (dcL n))) ∧ Below w'.heap.size w' w'') := fun w' h => itoa_c n (by omega) w' h.2
  have HX1 : Hid (∀ w', Gp w' → Calls Tryd.prog 22 #[.int .u64 (n64 (c.setWidth 64))] w' fun e w'' => e = .returned (.string (tS (hxT (c.setWidth 64)))) ∧ Below w'.heap.size w' w'') := fun w' hb => phx_c _ w' hb.1
  have HX2 : Hid (∀ w', Gp w' → Calls Tryd.prog 22 #[.int .u64 (n64 a)] w' fun e w'' => e = .returned (.string (tS (hxT a))) ∧ Below w'.heap.size w' w'') := fun w' hb => phx_c _ w' hb.1
  have HL : Hid ((jw [[112, 109, 112], dcL n, hxT (c.setWidth 64), hxT a]).length ≤ 1000000) := by
    unfold Hid; rw [jw4]; have := hxT_len a; have := hxT_len (c.setWidth 64); have := dcL_len n 1 (by omega); simp only [List.length_cons, List.length_nil]; omega
  have hcases : (c = 0#8 ∧ a = 0#64) ∨ (c = 0#8 ∧ ¬ a = 0#64) ∨ ¬ c = 0#8 := by
    by_cases h1 : c = 0#8
    · by_cases h2 : a = 0#64
      · exact .inl ⟨h1, h2⟩
      · exact .inr (.inl ⟨h1, h2⟩)
    · exact .inr (.inr h1)
  generalize hxT (c.setWidth 64) = x1 at HX1 HL HSS
  generalize hxT a = x2 at HX2 HL HSS
  generalize dcL n = x0 at HIT HL HSS
  clear hs s0 hG hn
  rcases hcases with ⟨h1, h2⟩ | h
  · have q1 : (n8 c == 0) = true := by rw [h1]; rfl
    have q2 : (n64 a == 0) = true := by rw [h2]; rfl
    have HE : Hid (s = tS []) := by unfold Hid; rw [HSS.out, if_pos ⟨h1, h2⟩]
    clear h1 h2
    go_enter Tryd.func61, Tryd.ntmps61
    go_upto_region 1 with fail
    clear hW0
    refine wp_region_later (x0 := Later.start W0) (by kernel_rfl) (by kernel_rfl) ?_
    repeat (go_big_quiet_step (fail))
    refine wpQuiet_nil ?_
    rintro w' ⟨x9, rfl⟩
    go_wp2
    go_ret
    exact ⟨by rw [HE.out]; rfl, bt b0.out x9.below⟩
  · have HE : Hid (s = tS (jw [[112, 109, 112], x0, x1, x2])) := by unfold Hid; rw [HSS.out, if_neg (by rcases h with ⟨_, h⟩ | h; exact fun e => h e.2; exact fun e => h e.1)]
    have hq : ((n8 c == 0) = true ∧ (n64 a == 0) = false) ∨ (n8 c == 0) = false := by
      rcases h with ⟨h1, h2⟩ | h1
      · exact .inl ⟨by rw [h1]; rfl, n64_ne (y := 0#64) h2⟩
      · exact .inr (n8_ne (y := 0#8) h1)
    clear h
    rcases hq with ⟨q1, q2⟩ | q1
    all_goals
      go_enter Tryd.func61, Tryd.ntmps61
      go_upto_region 1 with fail
      clear hW0
      refine wp_region_later (x0 := Later.start W0) (by kernel_rfl) (by kernel_rfl) ?_
      repeat (go_big_quiet_step (fail))
      refine wpQuiet_nil ?_
      rintro w' ⟨x9, rfl⟩
      have HBX : Hid (Below W0.heap.size W0 x9.1) := x9.below
      have HG5 : Hid (Gp x9.1) := HGW.out.next HBX.out
      clear L0 L1
      generalize x9.1 = W5 at *
      go_upto_region 4 with fail
      --@U1
      go_wp2_with (first
        | (go_at_call 21; refine (HIT.out _ HG5.out).mono ?_; rintro e w1 ⟨rfl, hb⟩; have HG6 : Hid _ := HG5.out.next hb; have HB1 : Hid _ := hb; clear hb HIT)
        | (go_at_call 22; refine (HX1.out _ HG6.out).mono ?_; rintro e w2 ⟨rfl, hb⟩; have HG7 : Hid _ := HG6.out.next hb; have HB2 : Hid _ := hb; clear hb HX1)
        | (go_at_call 22; refine (HX2.out _ HG7.out).mono ?_; rintro e w3 ⟨rfl, hb⟩; have HB3 : Hid _ := hb; clear hb HX2)
        | (go_at_call 40; refine (j4_c _ [112, 109, 112] x0 x1 x2 HL.out).mono ?_; rintro e w4 ⟨rfl, hb⟩; have HB4 : Hid _ := hb; clear hb))
      go_ret
      exact ⟨by rw [HE.out]; rfl, bt b0.out (bt HBX.out (bt HB1.out (bt HB2.out (bt HB3.out HB4.out))))⟩
set_option maxHeartbeats 4000000 in
theorem cl_pc (k : Cp) (p : Nat) (P : Int) (hP : P = p) (h0 : 0 ≤ p) (h1 : p < 1) (w : World) (hG : Gp w) : Calls Tryd.prog 43 #[.agg (cpc k), .int .i64 P] w fun e w' => e = .returned (.string (tS (cpuT k p))) ∧ Below w.heap.size w w' := by
  obtain ⟨W0, hW0, r0, b0, s0⟩ := start1 w (cpc k) 31
  have HGW : Hid (Gp W0) := hG.next b0.out
  have HS : Hid (W0.heap.size = w.heap.size + 1) := s0
  have HSS : Hid (cpuT k p = pcT k) := by
    unfold Hid cpuT
    rw [if_pos (by omega)]
  rw [HSS.out]
  have e0 : (P == 0) = true := by simp; omega
  have e1 : (P == 1) = false := by rw [beq_eq_false_iff_ne]; omega
  have e2 : (P == 2) = false := by rw [beq_eq_false_iff_ne]; omega
  have e63 : (P == 63) = false := by rw [beq_eq_false_iff_ne]; omega
  have g3 : ¬ ((3 : Int) ≤ P) := by omega
  have gb3 : decide ((3 : Int) ≤ P) = false := by simp; omega
  have g35 : ¬ ((35 : Int) ≤ P) := by omega
  have gb35 : decide ((35 : Int) ≤ P) = false := by simp; omega
  have g47 : ¬ ((47 : Int) ≤ P) := by omega
  have gb47 : decide ((47 : Int) ≤ P) = false := by simp; omega
  have l35 : P < 35 := by omega
  have lb35 : decide (P < (35 : Int)) = true := by simp; omega
  have l47 : P < 47 := by omega
  have lb47 : decide (P < (47 : Int)) = true := by simp; omega
  have l63 : P < 63 := by omega
  have lb63 : decide (P < (63 : Int)) = true := by simp; omega
  clear s0 hG
  have HX : Hid (∀ w', Gp w' → Calls Tryd.prog 22 #[.int .u64 (n64 k.pc)] w' fun e w'' => e = .returned (.string (tS (hxT k.pc))) ∧ Below w'.heap.size w' w'') := fun w' hb => phx_c _ w' hb.1
  have HL : Hid ((jw [[112, 99], hxT k.pc]).length ≤ 1000000) := by unfold Hid; rw [jw2]; have := hxT_len k.pc; simp only [List.length_cons, List.length_nil]; omega
  have c0 := r0.out.cls.pc
  unfold pcT
  generalize hxT k.pc = x at HX HL ⊢
  obtain ⟨s, hs⟩ : ∃ s, s = tS (jw [[112, 99], x]) := ⟨_, rfl⟩
  rw [← hs]
  have HE : Hid (s = tS (jw [[112, 99], x])) := hs
  clear hs HSS hP h0 h1
  go_enter Tryd.func43, Tryd.ntmps43
  go_upto_region 1 with fail
  clear hW0
  go_wp2_with (first
    | (go_at_call 22; refine (HX.out _ HGW.out).mono ?_; rintro e w2 ⟨rfl, hb⟩; have HB2 : Hid _ := hb; clear hb)
    | (go_at_call 40; refine (j2_c _ [112, 99] x HL.out).mono ?_; rintro e w4 ⟨rfl, hb⟩; have HB4 : Hid _ := hb; clear hb))
  go_ret
  exact ⟨by rw [HE.out]; rfl, bt b0.out (bt HB2.out HB4.out)⟩
set_option maxHeartbeats 4000000 in
theorem cl_md (k : Cp) (p : Nat) (P : Int) (hP : P = p) (h0 : 1 ≤ p) (h1 : p < 2) (w : World) (hG : Gp w) : Calls Tryd.prog 43 #[.agg (cpc k), .int .i64 P] w fun e w' => e = .returned (.string (tS (cpuT k p))) ∧ Below w.heap.size w w' := by
  obtain ⟨W0, hW0, r0, b0, s0⟩ := start1 w (cpc k) 31
  have HGW : Hid (Gp W0) := hG.next b0.out
  have HS : Hid (W0.heap.size = w.heap.size + 1) := s0
  have HSS : Hid (cpuT k p = mdT k) := by
    unfold Hid cpuT
    rw [if_neg (by omega)]; rw [if_pos (by omega)]
  rw [HSS.out]
  have e0 : (P == 0) = false := by rw [beq_eq_false_iff_ne]; omega
  have e1 : (P == 1) = true := by simp; omega
  have e2 : (P == 2) = false := by rw [beq_eq_false_iff_ne]; omega
  have e63 : (P == 63) = false := by rw [beq_eq_false_iff_ne]; omega
  have g3 : ¬ ((3 : Int) ≤ P) := by omega
  have gb3 : decide ((3 : Int) ≤ P) = false := by simp; omega
  have g35 : ¬ ((35 : Int) ≤ P) := by omega
  have gb35 : decide ((35 : Int) ≤ P) = false := by simp; omega
  have g47 : ¬ ((47 : Int) ≤ P) := by omega
  have gb47 : decide ((47 : Int) ≤ P) = false := by simp; omega
  have l35 : P < 35 := by omega
  have lb35 : decide (P < (35 : Int)) = true := by simp; omega
  have l47 : P < 47 := by omega
  have lb47 : decide (P < (47 : Int)) = true := by simp; omega
  have l63 : P < 63 := by omega
  have lb63 : decide (P < (63 : Int)) = true := by simp; omega
  clear s0 hG
  have HX : Hid (∀ w', Calls Tryd.prog 58 #[.int .i64 k.md] w' fun e w'' => e = .returned (.string (tS (if k.md = 3 then [109] else [117]))) ∧ w'' = w') := fun w' => mode_c _ w'
  have HL : Hid ((jw [[109, 111, 100, 101], (if k.md = 3 then [109] else [117] : Tx)]).length ≤ 1000000) := by unfold Hid; rw [jw2]; split <;> simp only [List.length_cons, List.length_nil] <;> omega
  have c0 := r0.out.cls.md
  unfold mdT
  generalize (if k.md = 3 then [109] else [117] : Tx) = x at HX HL ⊢
  obtain ⟨s, hs⟩ : ∃ s, s = tS (jw [[109, 111, 100, 101], x]) := ⟨_, rfl⟩
  rw [← hs]
  have HE : Hid (s = tS (jw [[109, 111, 100, 101], x])) := hs
  clear hs HSS hP h0 h1
  go_enter Tryd.func43, Tryd.ntmps43
  go_upto_region 1 with fail
  clear hW0
  go_wp2_with (first
    | (go_at_call 58; refine (HX.out _).mono ?_; rintro e w2 ⟨rfl, hw⟩; have hw2 := hw.symm; subst hw2)
    | (go_at_call 40; refine (j2_c _ [109, 111, 100, 101] x HL.out).mono ?_; rintro e w4 ⟨rfl, hb⟩; have HB4 : Hid _ := hb; clear hb))
  go_ret
  exact ⟨by rw [HE.out]; rfl, bt b0.out HB4.out⟩
set_option maxHeartbeats 4000000 in
theorem cl_wt (k : Cp) (p : Nat) (P : Int) (hP : P = p) (h0 : 2 ≤ p) (h1 : p < 3) (w : World) (hG : Gp w) : Calls Tryd.prog 43 #[.agg (cpc k), .int .i64 P] w fun e w' => e = .returned (.string (tS (cpuT k p))) ∧ Below w.heap.size w w' := by
  obtain ⟨W0, hW0, r0, b0, s0⟩ := start1 w (cpc k) 31
  have HGW : Hid (Gp W0) := hG.next b0.out
  have HS : Hid (W0.heap.size = w.heap.size + 1) := s0
  have HSS : Hid (cpuT k p = wtT k) := by
    unfold Hid cpuT
    rw [if_neg (by omega)]; rw [if_neg (by omega)]; rw [if_pos (by omega)]
  rw [HSS.out]
  have e0 : (P == 0) = false := by rw [beq_eq_false_iff_ne]; omega
  have e1 : (P == 1) = false := by rw [beq_eq_false_iff_ne]; omega
  have e2 : (P == 2) = true := by simp; omega
  have e63 : (P == 63) = false := by rw [beq_eq_false_iff_ne]; omega
  have g3 : ¬ ((3 : Int) ≤ P) := by omega
  have gb3 : decide ((3 : Int) ≤ P) = false := by simp; omega
  have g35 : ¬ ((35 : Int) ≤ P) := by omega
  have gb35 : decide ((35 : Int) ≤ P) = false := by simp; omega
  have g47 : ¬ ((47 : Int) ≤ P) := by omega
  have gb47 : decide ((47 : Int) ≤ P) = false := by simp; omega
  have l35 : P < 35 := by omega
  have lb35 : decide (P < (35 : Int)) = true := by simp; omega
  have l47 : P < 47 := by omega
  have lb47 : decide (P < (47 : Int)) = true := by simp; omega
  have l63 : P < 63 := by omega
  have lb63 : decide (P < (63 : Int)) = true := by simp; omega
  clear s0 hG
  have c0 := r0.out.cls.wt
  unfold wtT
  generalize k.wt = b at c0 ⊢
  cases b
  all_goals
    clear HSS hP h0 h1
    go_enter Tryd.func43, Tryd.ntmps43
    go_upto_region 1 with fail
    clear hW0
    go_wp2
    go_ret
    exact ⟨rfl, b0.out⟩
set_option maxHeartbeats 4000000 in
theorem cl_rg (k : Cp) (p : Nat) (P : Int) (hP : P = p) (h0 : 3 ≤ p) (h1 : p < 35) (w : World) (hG : Gp w) : Calls Tryd.prog 43 #[.agg (cpc k), .int .i64 P] w fun e w' => e = .returned (.string (tS (cpuT k p))) ∧ Below w.heap.size w w' := by
  obtain ⟨W0, hW0, r0, b0, s0⟩ := start1 w (cpc k) 31
  have HGW : Hid (Gp W0) := hG.next b0.out
  have HS : Hid (W0.heap.size = w.heap.size + 1) := s0
  have HSS : Hid (cpuT k p = rgT k (p - 3)) := by
    unfold Hid cpuT
    rw [if_neg (by omega)]; rw [if_neg (by omega)]; rw [if_neg (by omega)]; rw [if_pos (by omega)]
  rw [HSS.out]
  have e0 : (P == 0) = false := by rw [beq_eq_false_iff_ne]; omega
  have e1 : (P == 1) = false := by rw [beq_eq_false_iff_ne]; omega
  have e2 : (P == 2) = false := by rw [beq_eq_false_iff_ne]; omega
  have e63 : (P == 63) = false := by rw [beq_eq_false_iff_ne]; omega
  have g3 : (3 : Int) ≤ P := by omega
  have gb3 : decide ((3 : Int) ≤ P) = true := by simp; omega
  have g35 : ¬ ((35 : Int) ≤ P) := by omega
  have gb35 : decide ((35 : Int) ≤ P) = false := by simp; omega
  have g47 : ¬ ((47 : Int) ≤ P) := by omega
  have gb47 : decide ((47 : Int) ≤ P) = false := by simp; omega
  have l35 : P < 35 := by omega
  have lb35 : decide (P < (35 : Int)) = true := by simp; omega
  have l47 : P < 47 := by omega
  have lb47 : decide (P < (47 : Int)) = true := by simp; omega
  have l63 : P < 63 := by omega
  have lb63 : decide (P < (63 : Int)) = true := by simp; omega
  clear s0 hG
  obtain ⟨n, hn⟩ : ∃ n, n = p - 3 := ⟨_, rfl⟩
  rw [← hn]
  have hsub : P - 3 = (n : Int) := by omega
  have HC : Hid (∀ w', Gp w' → Calls Tryd.prog 59 #[.agg (cpc k), .int .i64 n] w' fun e w'' => e = .returned (.string (tS (rgT k n))) ∧ Below w'.heap.size w' w'') := fun w' h => regText_c k n (by omega) w' h
  generalize tS (rgT k n) = s at HC ⊢
  have HR : Hid (∀ j v, (cpc k)[j]? = some v → W0.cell? ⟨w.heap.size, 0 + j, none⟩ = some v) := fun j v h => by rw [Nat.zero_add, r0.out.cell]; exact h
  clear HSS hP h0 h1 hn
  go_enter Tryd.func43, Tryd.ntmps43
  go_upto_region 1 with fail
  clear hW0
  go_upto_region 8 with fail
  --@U1
  go_wp2_with (first
    | (refine wpList_load_agg (by rfl) 31 _ (by rfl) w.heap.size 0 (by rfl) (cpc k) _ HR.out Tryd.underlying31 (by rfl) (info_cpu _) ?_)
    | (go_at_call 59; refine (HC.out _ HGW.out).mono ?_; rintro e w2 ⟨rfl, hb⟩; have HB2 : Hid _ := hb; clear hb HC))
  go_ret
  exact ⟨rfl, bt b0.out HB2.out⟩
set_option maxHeartbeats 4000000 in
theorem cl_cs (k : Cp) (p : Nat) (P : Int) (hP : P = p) (h0 : 35 ≤ p) (h1 : p < 47) (w : World) (hG : Gp w) : Calls Tryd.prog 43 #[.agg (cpc k), .int .i64 P] w fun e w' => e = .returned (.string (tS (cpuT k p))) ∧ Below w.heap.size w w' := by
  obtain ⟨W0, hW0, r0, b0, s0⟩ := start1 w (cpc k) 31
  have HGW : Hid (Gp W0) := hG.next b0.out
  have HS : Hid (W0.heap.size = w.heap.size + 1) := s0
  have HSS : Hid (cpuT k p = csT k (p - 35)) := by
    unfold Hid cpuT
    rw [if_neg (by omega)]; rw [if_neg (by omega)]; rw [if_neg (by omega)]; rw [if_neg (by omega)]; rw [if_pos (by omega)]
  rw [HSS.out]
  have e0 : (P == 0) = false := by rw [beq_eq_false_iff_ne]; omega
  have e1 : (P == 1) = false := by rw [beq_eq_false_iff_ne]; omega
  have e2 : (P == 2) = false := by rw [beq_eq_false_iff_ne]; omega
  have e63 : (P == 63) = false := by rw [beq_eq_false_iff_ne]; omega
  have g3 : (3 : Int) ≤ P := by omega
  have gb3 : decide ((3 : Int) ≤ P) = true := by simp; omega
  have g35 : (35 : Int) ≤ P := by omega
  have gb35 : decide ((35 : Int) ≤ P) = true := by simp; omega
  have g47 : ¬ ((47 : Int) ≤ P) := by omega
  have gb47 : decide ((47 : Int) ≤ P) = false := by simp; omega
  have l35 : ¬ (P < 35) := by omega
  have lb35 : decide (P < (35 : Int)) = false := by simp; omega
  have l47 : P < 47 := by omega
  have lb47 : decide (P < (47 : Int)) = true := by simp; omega
  have l63 : P < 63 := by omega
  have lb63 : decide (P < (63 : Int)) = true := by simp; omega
  clear s0 hG
  obtain ⟨n, hn⟩ : ∃ n, n = p - 35 := ⟨_, rfl⟩
  rw [← hn]
  have hsub : P - 35 = (n : Int) := by omega
  have HC : Hid (∀ w', Gp w' → Calls Tryd.prog 60 #[.agg (cpc k), .int .i64 n] w' fun e w'' => e = .returned (.string (tS (csT k n))) ∧ Below w'.heap.size w' w'') := fun w' h => csrText_c k n (by omega) w' h
  generalize tS (csT k n) = s at HC ⊢
  have HR : Hid (∀ j v, (cpc k)[j]? = some v → W0.cell? ⟨w.heap.size, 0 + j, none⟩ = some v) := fun j v h => by rw [Nat.zero_add, r0.out.cell]; exact h
  clear HSS hP h0 h1 hn
  go_enter Tryd.func43, Tryd.ntmps43
  go_upto_region 1 with fail
  clear hW0
  go_upto_region 10 with fail
  --@U1
  go_wp2_with (first
    | (refine wpList_load_agg (by rfl) 31 _ (by rfl) w.heap.size 0 (by rfl) (cpc k) _ HR.out Tryd.underlying31 (by rfl) (info_cpu _) ?_)
    | (go_at_call 60; refine (HC.out _ HGW.out).mono ?_; rintro e w2 ⟨rfl, hb⟩; have HB2 : Hid _ := hb; clear hb HC))
  go_ret
  exact ⟨rfl, bt b0.out HB2.out⟩
set_option maxHeartbeats 4000000 in
theorem cl_en (k : Cp) (p : Nat) (P : Int) (hP : P = p) (h0 : 47 ≤ p) (h1 : p < 63) (w : World) (hG : Gp w) : Calls Tryd.prog 43 #[.agg (cpc k), .int .i64 P] w fun e w' => e = .returned (.string (tS (cpuT k p))) ∧ Below w.heap.size w w' := by
  obtain ⟨W0, hW0, r0, b0, s0⟩ := start1 w (cpc k) 31
  have HGW : Hid (Gp W0) := hG.next b0.out
  have HS : Hid (W0.heap.size = w.heap.size + 1) := s0
  have HSS : Hid (cpuT k p = enT k (p - 47)) := by
    unfold Hid cpuT
    rw [if_neg (by omega)]; rw [if_neg (by omega)]; rw [if_neg (by omega)]; rw [if_neg (by omega)]; rw [if_neg (by omega)]; rw [if_pos (by omega)]
  rw [HSS.out]
  have e0 : (P == 0) = false := by rw [beq_eq_false_iff_ne]; omega
  have e1 : (P == 1) = false := by rw [beq_eq_false_iff_ne]; omega
  have e2 : (P == 2) = false := by rw [beq_eq_false_iff_ne]; omega
  have e63 : (P == 63) = false := by rw [beq_eq_false_iff_ne]; omega
  have g3 : (3 : Int) ≤ P := by omega
  have gb3 : decide ((3 : Int) ≤ P) = true := by simp; omega
  have g35 : (35 : Int) ≤ P := by omega
  have gb35 : decide ((35 : Int) ≤ P) = true := by simp; omega
  have g47 : (47 : Int) ≤ P := by omega
  have gb47 : decide ((47 : Int) ≤ P) = true := by simp; omega
  have l35 : ¬ (P < 35) := by omega
  have lb35 : decide (P < (35 : Int)) = false := by simp; omega
  have l47 : ¬ (P < 47) := by omega
  have lb47 : decide (P < (47 : Int)) = false := by simp; omega
  have l63 : P < 63 := by omega
  have lb63 : decide (P < (63 : Int)) = true := by simp; omega
  clear s0 hG
  obtain ⟨n, hn⟩ : ∃ n, n = p - 47 := ⟨_, rfl⟩
  rw [← hn]
  have hsub : P - 47 = (n : Int) := by omega
  have HC : Hid (∀ w', Gp w' → Calls Tryd.prog 61 #[.agg (cpc k), .int .i64 n] w' fun e w'' => e = .returned (.string (tS (enT k n))) ∧ Below w'.heap.size w' w'') := fun w' h => entText_c k n (by omega) w' h
  generalize tS (enT k n) = s at HC ⊢
  have HR : Hid (∀ j v, (cpc k)[j]? = some v → W0.cell? ⟨w.heap.size, 0 + j, none⟩ = some v) := fun j v h => by rw [Nat.zero_add, r0.out.cell]; exact h
  clear HSS hP h0 h1 hn
  go_enter Tryd.func43, Tryd.ntmps43
  go_upto_region 1 with fail
  clear hW0
  go_upto_region 12 with fail
  --@U1
  go_wp2_with (first
    | (refine wpList_load_agg (by rfl) 31 _ (by rfl) w.heap.size 0 (by rfl) (cpc k) _ HR.out Tryd.underlying31 (by rfl) (info_cpu _) ?_)
    | (go_at_call 61; refine (HC.out _ HGW.out).mono ?_; rintro e w2 ⟨rfl, hb⟩; have HB2 : Hid _ := hb; clear hb HC))
  go_ret
  exact ⟨rfl, bt b0.out HB2.out⟩
set_option maxHeartbeats 4000000 in
theorem cl_rs (k : Cp) (p : Nat) (P : Int) (hP : P = p) (h0 : 63 ≤ p) (h1 : p < 64) (hr : 0 ≤ k.rs ∧ k.rs < 1000) (w : World) (hG : Gp w) : Calls Tryd.prog 43 #[.agg (cpc k), .int .i64 P] w fun e w' => e = .returned (.string (tS (cpuT k p))) ∧ Below w.heap.size w w' := by
  obtain ⟨W0, hW0, r0, b0, s0⟩ := start1 w (cpc k) 31
  have HGW : Hid (Gp W0) := hG.next b0.out
  have HS : Hid (W0.heap.size = w.heap.size + 1) := s0
  have HSS : Hid (cpuT k p = rsT k) := by
    unfold Hid cpuT
    rw [if_neg (by omega)]; rw [if_neg (by omega)]; rw [if_neg (by omega)]; rw [if_neg (by omega)]; rw [if_neg (by omega)]; rw [if_neg (by omega)]; rw [if_pos (by omega)]
  rw [HSS.out]
  have e0 : (P == 0) = false := by rw [beq_eq_false_iff_ne]; omega
  have e1 : (P == 1) = false := by rw [beq_eq_false_iff_ne]; omega
  have e2 : (P == 2) = false := by rw [beq_eq_false_iff_ne]; omega
  have e63 : (P == 63) = true := by simp; omega
  have g3 : (3 : Int) ≤ P := by omega
  have gb3 : decide ((3 : Int) ≤ P) = true := by simp; omega
  have g35 : (35 : Int) ≤ P := by omega
  have gb35 : decide ((35 : Int) ≤ P) = true := by simp; omega
  have g47 : (47 : Int) ≤ P := by omega
  have gb47 : decide ((47 : Int) ≤ P) = true := by simp; omega
  have l35 : ¬ (P < 35) := by omega
  have lb35 : decide (P < (35 : Int)) = false := by simp; omega
  have l47 : ¬ (P < 47) := by omega
  have lb47 : decide (P < (47 : Int)) = false := by simp; omega
  have l63 : ¬ (P < 63) := by omega
  have lb63 : decide (P < (63 : Int)) = false := by simp; omega
  clear s0 hG
  have c0 := r0.out.cls.rv
  have c1 := r0.out.cls.ra
  have c2 := r0.out.cls.rs
  obtain ⟨m, hm⟩ := Int.eq_ofNat_of_zero_le hr.1
  have HM : Hid (m < 1000) := by unfold Hid; have := hr.2; omega
  unfold rsT
  rw [hm] at c2 ⊢
  rw [Int.toNat_natCast]
  generalize k.rv = b at c0 ⊢
  generalize k.ra = a at c1 ⊢
  have HX : Hid (∀ w', Gp w' → Calls Tryd.prog 22 #[.int .u64 (n64 a)] w' fun e w'' => e = .returned (.string (tS (hxT a))) ∧ Below w'.heap.size w' w'') := fun w' hb => phx_c _ w' hb.1
  have HI : Hid (∀ w', Gp w' → Calls Tryd.prog 21 #[.int .i64 m] w' fun e w'' => e = .returned (.string (tS (dcL m))) ∧ Below w'.heap.size w' w'') := fun w' h => itoa_c m (by have := HM.out; omega) w' h.2
  have HL : Hid ((jw [[114, 101, 115], hxT a, dcL m]).length ≤ 1000000) := by unfold Hid; rw [jw3]; have := hxT_len a; have := dcL_len m 2 (by have := HM.out; omega); simp only [List.length_cons, List.length_nil]; omega
  generalize hxT a = x1 at HX HL ⊢
  generalize dcL m = x2 at HI HL ⊢
  clear HSS hP h0 h1 hm hr
  cases b
  · go_enter Tryd.func43, Tryd.ntmps43
    go_upto_region 1 with fail
    clear hW0
    go_wp2
    go_ret
    exact ⟨rfl, b0.out⟩
  · obtain ⟨s, hs⟩ : ∃ s, s = tS (jw [[114, 101, 115], x1, x2]) := ⟨_, rfl⟩
    rw [if_pos rfl, ← hs]
    have HE : Hid (s = tS (jw [[114, 101, 115], x1, x2])) := hs
    have HC1 : Hid (∀ w', Below W0.heap.size W0 w' → w'.cell? ⟨w.heap.size, 80, none⟩ = some (.int .u64 (n64 a)) ∧ w'.cell? ⟨w.heap.size, 81, none⟩ = some (.int .i64 m)) := fun w' hb => ⟨(hb.cell (p := ⟨w.heap.size, 80, none⟩) (by show w.heap.size < _; rw [HS.out]; omega)).trans c1, (hb.cell (p := ⟨w.heap.size, 81, none⟩) (by show w.heap.size < _; rw [HS.out]; omega)).trans c2⟩
    have HGd : Hid (Gp W0.drew) := HGW.out.next ((Below.refl _ _).drew)
    clear hs
    go_enter Tryd.func43, Tryd.ntmps43
    go_upto_region 1 with fail
    clear hW0
    go_upto_region 14 with fail
    --@U1
    go_region_with (first
      | (go_at_call 22; refine (HX.out _ (by first | exact HGd.out | exact HGd.out.next HB2.out)).mono ?_; rintro e w1 ⟨rfl, hb⟩; have cr := HC1.out w1 (by first | exact (Below.refl _ _).drew.trans hb | exact ((Below.refl _ _).drew.trans HB2.out).trans (hb.mono (by have := HB2.out.size; exact this))); have HB1 : Hid _ := hb; clear hb)
      | (go_at_call 21; refine (HI.out _ (by first | exact HGd.out | exact HGd.out.next HB1.out)).mono ?_; rintro e w2 ⟨rfl, hb⟩; have cr2 := HC1.out w2 (by first | exact (Below.refl _ _).drew.trans hb | exact ((Below.refl _ _).drew.trans HB1.out).trans (hb.mono (by have := HB1.out.size; exact this))); have HB2 : Hid _ := hb; clear hb)
      | (go_at_call 40; refine (j3_c _ [114, 101, 115] x1 x2 HL.out).mono ?_; rintro e w3 ⟨rfl, hb⟩; have HB3 : Hid _ := hb; clear hb))
    --@U2
    all_goals go_wp2
    all_goals go_ret
    all_goals refine ⟨by rw [HE.out]; rfl, ?_⟩
    all_goals first | exact bt b0.out (bt ((Below.refl _ _).drew) (bt HB1.out (bt HB2.out HB3.out))) | exact bt b0.out (bt ((Below.refl _ _).drew) (bt HB2.out (bt HB1.out HB3.out)))
theorem cpuLine_c (k : Cp) (hr : 0 ≤ k.rs ∧ k.rs < 1000) (p : Nat) (hp : p < 64) (w : World) (hG : Gp w) : Calls Tryd.prog 43 #[.agg (cpc k), .int .i64 p] w fun e w' => e = .returned (.string (tS (cpuT k p))) ∧ Below w.heap.size w w' := by
  rcases (by omega : p < 1 ∨ (1 ≤ p ∧ p < 2) ∨ (2 ≤ p ∧ p < 3) ∨ (3 ≤ p ∧ p < 35) ∨ (35 ≤ p ∧ p < 47) ∨ (47 ≤ p ∧ p < 63) ∨ (63 ≤ p ∧ p < 64)) with h | h | h | h | h | h | h
  · exact cl_pc k p _ rfl (by omega) h w hG
  · exact cl_md k p _ rfl h.1 h.2 w hG
  · exact cl_wt k p _ rfl h.1 h.2 w hG
  · exact cl_rg k p _ rfl h.1 h.2 w hG
  · exact cl_cs k p _ rfl h.1 h.2 w hG
  · exact cl_en k p _ rfl h.1 h.2 w hG
  · exact cl_rs k p _ rfl h.1 h.2 hr w hG
end Go.Proofs.YthmjimmmkoeeoaaDoor
