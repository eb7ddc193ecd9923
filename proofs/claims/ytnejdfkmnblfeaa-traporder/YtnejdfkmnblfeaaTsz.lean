/-
  The program's five contracts (layer 10).
-/
import Derived.Test.YtnejdfkmnblfeaaTpa
namespace Go.Proofs.Ytnejdfkmnblfeaa
set_option linter.unusedVariables false
open Go.ChangeShapes Go.WideShapes Go.ChangeAt Go.RowKit Go.Deep
theorem pr_eq {K k : Cp} (h : K = PR k) : (K.s 0).getLsbD 11 = (K.s 0).getLsbD 12 := by rw [h]; exact pr_1112 k
set_option maxRecDepth 100000 in
set_option maxHeartbeats 1000000 in
theorem Wait_c : TWt := fun k w => by
  have hz := zero_cpu
  obtain ⟨W0, hW0, r0, r1, b0, s0⟩ := start2 w (cpc k) (cpc cz) 31 31
  have HS : Hid (W0.heap.size = w.heap.size + 2) := s0
  clear s0
  have HP : Hid (∀ W, Calls Try.prog 12 #[.agg (cpc k)] W fun e w' => e = .returned (.agg (cpc (PR k))) ∧ Below W.heap.size W w') := fun W => Pr_c k W
  have HM := PR_md k
  obtain ⟨K, hK⟩ : ∃ K, K = PR k := ⟨_, rfl⟩
  rw [← hK] at HP HM
  have HK : Hid (K = PR k) := hK
  clear hK
  go_enter Try.func15, Try.ntmps15
  go_upto_region 1 with fail
  clear hz hW0
  go_upto_region 2 with (first | (refine wpList_load_row (by rfl) _ _ (by rfl) _ (by rfl) 31 _ (0, 0) _ r0.out Try.underlying31 (by rfl) (info_cpu _) ?_) | (go_at_call 12; refine (HP.out _).mono ?_; rintro e w1 ⟨rfl, hb1⟩; have HB1 : Hid (Below W0.heap.size W0 w1) := hb1; clear hb1) | (refine wpList_store_row (by rfl) _ _ _ (by rfl) (by rfl) _ _ _ (by rfl) (by rfl) (r0.out.later HB1.out (by rw [HS.out]; omega)) (info_cpu _) (by rw [cpc_size, cpc_size]) (cpc_ones _) ?_))
  refine go_on2 (motive := fun W => Code.wp _ _ _ _ W) (a := w) (B := w.heap.size) (n := w1.heap.size) (show Row _ w.heap.size (cpc K) 31 from setRow_heap _ _ _ _ _ _ (r0.out.later HB1.out (by rw [HS.out]; omega))) (row_apart (r1.out.later HB1.out (by rw [HS.out]; omega)) (by omega) _) (below_row (b0.out.trans (HB1.out.mono b0.out.size)) (Nat.le_refl _) _) (by simp) ?_
  clear r0 r1 b0 HS HB1 HP
  intro W2 q0 q1 c0 t0
  have R0 : Hid (Row W2 w.heap.size (cpc K) 31) := q0
  have R1 : Hid (Row W2 (w.heap.size + 1) (cpc cz) 31) := q1
  have BB : Hid (Below w.heap.size w W2) := c0
  have Km := q0.cls.md
  have K0 := q0.cls.s0
  have f0 := q0.froz
  clear q0 q1 c0 t0
  have b0 : bits .and .u64 (n64 (K.s 0)) 2097152 = n64 (K.s 0 &&& 2097152#64) := n64_and _ 2097152#64
  have b1 : (n64 (K.s 0 &&& 2097152#64) != 0) = (K.s 0).getLsbD 21 := bit_ne (K.s 0) 21 (by decide)
  obtain ⟨b, hb⟩ : ∃ b, b = (K.s 0).getLsbD 21 := ⟨_, rfl⟩
  rw [← hb] at b1
  have Eb : Hid (b = (K.s 0).getLsbD 21) := hb
  clear hb
  generalize n64 (K.s 0 &&& 2097152#64) = y0 at b0 b1
  by_cases h0 : K.md = 0 ∧ b = true
  · obtain ⟨h1, h2⟩ := h0
    have hst : stp (PR k) = true := by unfold stp; rw [← HK.out, ← Eb.out, h1, h2]; rfl
    have HA : Hid (WTc k = K) := by unfold Hid WTc; rw [if_pos hst, HK.out]
    have HW : Hid (WTk k = false) := by unfold Hid WTk; rw [hst]; rfl
    subst h2
    rw [h1] at Km
    clear h1 HM hst Eb HK
    go_upto_region 3 with fail
    go_wp2_with (first | (refine wpList_load_row (by rfl) _ _ (by rfl) _ (by rfl) 31 _ (0, 0) _ R0.out Try.underlying31 (by rfl) (info_cpu _) ?_) | (refine wpList_store_row (by rfl) _ _ _ (by rfl) (by rfl) _ _ _ (by rfl) (by rfl) R1.out (info_cpu _) (by rw [cpc_size, cpc_size]) (cpc_ones _) ?_))
    refine bodyPost_ret (results_row_slot Try.results15 _ _ (w.heap.size + 1) 31 _ (0, 0) _ _ (by rfl) (by rfl) (setRow_heap _ _ _ _ _ _ R1.out) Try.underlying31 (by rfl) (info_cpu _)) rfl ?_
    exact ⟨by rw [HA.out, HW.out]; rfl, below_row BB.out (by omega) _⟩
  · have hst : stp (PR k) = false := by
      unfold stp
      rw [← HK.out, ← Eb.out]
      cases b with
      | false => simp
      | true => simp only [and_true] at h0; simp [h0]
    have HA : Hid (WTc k = { K with wt := true }) := by unfold Hid WTc; rw [if_neg (by rw [hst]; decide), HK.out]
    have HW : Hid (WTk k = true) := by unfold Hid WTk; rw [hst]; rfl
    have Q := R0.out.put (i := 34) (.bool true)
    rw [cpc_wt] at Q
    have RQ : Hid (Row (W2.setCell ⟨w.heap.size, 34, none⟩ (.bool true)) w.heap.size (cpc { K with wt := true }) 31) := Q
    have Kw := R0.out.cls.wt
    clear Q hst Eb HK
    rcases HM with h1 | h1
    · have hb0 : b = false := by
        cases b with
        | false => rfl
        | true => exact absurd ⟨h1, rfl⟩ h0
      subst hb0
      rw [h1] at Km
      clear h1 h0
      go_upto_region 5 with fail
      refine go_on2 (motive := fun W => Code.wp _ _ _ _ W) (a := w) (B := w.heap.size) RQ.out (Row.other R1.out (by omega) _) (below_put BB.out (Nat.le_refl _) _) rfl ?_
      clear R0 R1 BB RQ Km K0 f0 Kw
      intro W3 q0 q1 c0 t0
      have R0 : Hid (Row W3 w.heap.size (cpc { K with wt := true }) 31) := q0
      have R1 : Hid (Row W3 (w.heap.size + 1) (cpc cz) 31) := q1
      have BB : Hid (Below w.heap.size w W3) := c0
      clear q0 q1 c0 t0
      go_wp2_with (first | (refine wpList_load_row (by rfl) _ _ (by rfl) _ (by rfl) 31 _ (0, 0) _ R0.out Try.underlying31 (by rfl) (info_cpu _) ?_) | (refine wpList_store_row (by rfl) _ _ _ (by rfl) (by rfl) _ _ _ (by rfl) (by rfl) R1.out (info_cpu _) (by rw [cpc_size, cpc_size]) (cpc_ones _) ?_))
      refine bodyPost_ret (results_row_slot Try.results15 _ _ (w.heap.size + 1) 31 _ (0, 0) _ _ (by rfl) (by rfl) (setRow_heap _ _ _ _ _ _ R1.out) Try.underlying31 (by rfl) (info_cpu _)) rfl ?_
      exact ⟨by rw [HA.out, HW.out]; rfl, below_row BB.out (by omega) _⟩
    · rw [h1] at Km
      clear h1 h0
      go_upto_region 5 with fail
      refine go_on2 (motive := fun W => Code.wp _ _ _ _ W) (a := w) (B := w.heap.size) RQ.out (Row.other R1.out (by omega) _) (below_put BB.out (Nat.le_refl _) _) rfl ?_
      clear R0 R1 BB RQ Km K0 f0 Kw
      intro W3 q0 q1 c0 t0
      have R0 : Hid (Row W3 w.heap.size (cpc { K with wt := true }) 31) := q0
      have R1 : Hid (Row W3 (w.heap.size + 1) (cpc cz) 31) := q1
      have BB : Hid (Below w.heap.size w W3) := c0
      clear q0 q1 c0 t0
      go_wp2_with (first | (refine wpList_load_row (by rfl) _ _ (by rfl) _ (by rfl) 31 _ (0, 0) _ R0.out Try.underlying31 (by rfl) (info_cpu _) ?_) | (refine wpList_store_row (by rfl) _ _ _ (by rfl) (by rfl) _ _ _ (by rfl) (by rfl) R1.out (info_cpu _) (by rw [cpc_size, cpc_size]) (cpc_ones _) ?_))
      refine bodyPost_ret (results_row_slot Try.results15 _ _ (w.heap.size + 1) 31 _ (0, 0) _ _ (by rfl) (by rfl) (setRow_heap _ _ _ _ _ _ R1.out) Try.underlying31 (by rfl) (info_cpu _)) rfl ?_
      exact ⟨by rw [HA.out, HW.out]; rfl, below_row BB.out (by omega) _⟩
set_option maxRecDepth 100000 in
set_option maxHeartbeats 1000000 in
theorem Effective_c : TEf := fun k w => by
  obtain ⟨W0, hW0, r0, b0, s0⟩ := start1 w (cpc k) 31
  have HS : Hid (W0.heap.size = w.heap.size + 1) := s0
  clear s0
  have HP : Hid (∀ W, Calls Try.prog 12 #[.agg (cpc k)] W fun e w' => e = .returned (.agg (cpc (PR k))) ∧ Below W.heap.size W w') := fun W => Pr_c k W
  have HM := PR_md k
  obtain ⟨K, hK⟩ : ∃ K, K = PR k := ⟨_, rfl⟩
  rw [← hK] at HP HM
  have HK : Hid (K = PR k) := hK
  clear hK
  go_enter Try.func17, Try.ntmps17
  go_upto_region 1 with fail
  clear hW0
  go_upto_region 2 with (first | (refine wpList_load_row (by rfl) _ _ (by rfl) _ (by rfl) 31 _ (0, 0) _ r0.out Try.underlying31 (by rfl) (info_cpu _) ?_) | (go_at_call 12; refine (HP.out _).mono ?_; rintro e w1 ⟨rfl, hb1⟩; have HB1 : Hid (Below W0.heap.size W0 w1) := hb1; clear hb1) | (refine wpList_store_row (by rfl) _ _ _ (by rfl) (by rfl) _ _ _ (by rfl) (by rfl) (r0.out.later HB1.out (by rw [HS.out]; omega)) (info_cpu _) (by rw [cpc_size, cpc_size]) (cpc_ones _) ?_))
  refine go_on1 (motive := fun W => Code.wp _ _ _ _ W) (a := w) (B := w.heap.size) (n := w1.heap.size) (show Row _ w.heap.size (cpc K) 31 from setRow_heap _ _ _ _ _ _ (r0.out.later HB1.out (by rw [HS.out]; omega))) (below_row (b0.out.trans (HB1.out.mono b0.out.size)) (Nat.le_refl _) _) (by simp) ?_
  clear r0 b0 HS HB1 HP
  intro W2 q0 c0 t0
  have R0 : Hid (Row W2 w.heap.size (cpc K) 31) := q0
  have BB : Hid (Below w.heap.size w W2) := c0
  have Km := q0.cls.md
  have K0 := q0.cls.s0
  have f0 := q0.froz
  clear q0 c0 t0
  have HF : Hid (∀ W, Calls Try.prog 28 #[.int .u64 (n64 (K.s 0))] W fun e w' => e = .returned (.int .i64 (mpB (K.s 0))) ∧ w' = W) := fun W => by have q := before_c (K.s 0) W; rw [bf_mp _ (pr_eq HK.out)] at q; exact q
  have b0 : bits .and .u64 (n64 (K.s 0)) 131072 = n64 (K.s 0 &&& 131072#64) := n64_and _ 131072#64
  have b1 : (n64 (K.s 0 &&& 131072#64) != 0) = (K.s 0).getLsbD 17 := bit_ne (K.s 0) 17 (by decide)
  obtain ⟨b, hb⟩ : ∃ b, b = (K.s 0).getLsbD 17 := ⟨_, rfl⟩
  rw [← hb] at b1
  have Eb : Hid (b = (K.s 0).getLsbD 17) := hb
  clear hb
  generalize n64 (K.s 0 &&& 131072#64) = y0 at b0 b1
  rcases HM with h1 | h1
  · have HA : Hid (EF k = 0) := by unfold Hid EF; rw [← HK.out, if_neg (by rw [h1]; simp), h1]
    rw [h1] at Km
    clear h1 HK
    go_wp2
    go_ret
    exact ⟨by rw [HA.out]; rfl, BB.out⟩
  · rw [h1] at Km
    cases b with
    | true =>
      have HA : Hid (EF k = mpB (K.s 0)) := by unfold Hid EF; rw [← HK.out, if_pos ⟨h1, Eb.out.symm⟩]
      clear h1 HK Eb
      generalize mpB (K.s 0) = z at HF HA
      go_wp2_with (go_at_call 28; refine (HF.out _).mono ?_; rintro e wb ⟨rfl, hwb⟩; have hwb2 := hwb.symm; subst hwb2)
      go_ret
      exact ⟨by rw [HA.out]; rfl, BB.out⟩
    | false =>
      have HA : Hid (EF k = 3) := by unfold Hid EF; rw [← HK.out, if_neg (by rw [← Eb.out]; simp), h1]
      clear h1 HK Eb
      go_wp2
      go_ret
      exact ⟨by rw [HA.out]; rfl, BB.out⟩
set_option maxRecDepth 100000 in
set_option maxHeartbeats 2000000 in
theorem Return_c : TRt := fun k w => by
  have hz := zero_cpu
  obtain ⟨W0, hW0, r0, r1, b0, s0⟩ := start2 w (cpc k) (cpc cz) 31 31
  have HS : Hid (W0.heap.size = w.heap.size + 2) := s0
  clear s0
  have HP : Hid (∀ W, Calls Try.prog 12 #[.agg (cpc k)] W fun e w' => e = .returned (.agg (cpc (PR k))) ∧ Below W.heap.size W w') := fun W => Pr_c k W
  have HM := PR_md k
  obtain ⟨K, hK⟩ : ∃ K, K = PR k := ⟨_, rfl⟩
  rw [← hK] at HP HM
  have HK : Hid (K = PR k) := hK
  clear hK
  go_enter Try.func14, Try.ntmps14
  go_upto_region 1 with fail
  clear hz hW0
  go_upto_region 2 with (first | (refine wpList_load_row (by rfl) _ _ (by rfl) _ (by rfl) 31 _ (0, 0) _ r0.out Try.underlying31 (by rfl) (info_cpu _) ?_) | (go_at_call 12; refine (HP.out _).mono ?_; rintro e w1 ⟨rfl, hb1⟩; have HB1 : Hid (Below W0.heap.size W0 w1) := hb1; clear hb1) | (refine wpList_store_row (by rfl) _ _ _ (by rfl) (by rfl) _ _ _ (by rfl) (by rfl) (r0.out.later HB1.out (by rw [HS.out]; omega)) (info_cpu _) (by rw [cpc_size, cpc_size]) (cpc_ones _) ?_))
  refine go_on2 (motive := fun W => Code.wp _ _ _ _ W) (a := w) (B := w.heap.size) (n := w1.heap.size) (show Row _ w.heap.size (cpc K) 31 from setRow_heap _ _ _ _ _ _ (r0.out.later HB1.out (by rw [HS.out]; omega))) (row_apart (r1.out.later HB1.out (by rw [HS.out]; omega)) (by omega) _) (below_row (b0.out.trans (HB1.out.mono b0.out.size)) (Nat.le_refl _) _) (by simp) ?_
  clear r0 r1 b0 HS HB1 HP
  intro W2 q0 q1 c0 t0
  have R0 : Hid (Row W2 w.heap.size (cpc K) 31) := q0
  have R1 : Hid (Row W2 (w.heap.size + 1) (cpc cz) 31) := q1
  have BB : Hid (Below w.heap.size w W2) := c0
  have Km := q0.cls.md
  have K0 := q0.cls.s0
  have f0 := q0.froz
  clear q0 q1 c0 t0
  rcases HM with h1 | h1
  · have HA : Hid (RTc k = K) := by unfold Hid RTc; rw [← HK.out, if_neg (by rw [h1]; decide)]
    have HW : Hid (RTk k = false) := by unfold Hid RTk; rw [← HK.out, h1]; rfl
    rw [h1] at Km
    clear h1 HK
    go_upto_region 3 with fail
    go_wp2_with (first | (refine wpList_load_row (by rfl) _ _ (by rfl) _ (by rfl) 31 _ (0, 0) _ R0.out Try.underlying31 (by rfl) (info_cpu _) ?_) | (refine wpList_store_row (by rfl) _ _ _ (by rfl) (by rfl) _ _ _ (by rfl) (by rfl) R1.out (info_cpu _) (by rw [cpc_size, cpc_size]) (cpc_ones _) ?_))
    refine bodyPost_ret (results_row_slot Try.results14 _ _ (w.heap.size + 1) 31 _ (0, 0) _ _ (by rfl) (by rfl) (setRow_heap _ _ _ _ _ _ R1.out) Try.underlying31 (by rfl) (info_cpu _)) rfl ?_
    exact ⟨by rw [HA.out, HW.out]; rfl, below_row BB.out (by omega) _⟩
  · rw [h1] at Km
    have HW : Hid (RTk k = true) := by unfold Hid RTk; rw [← HK.out, h1]; rfl
    have HA : Hid (RTc k = { K with pc := K.s 7, md := mpB (K.s 0), s := upd K.s 0 (rtS (K.s 0)), rv := false, ra := 0#64, rs := 0 }) := by unfold Hid RTc; rw [← HK.out, if_pos h1]
    have HF : Hid (∀ W, Calls Try.prog 28 #[.int .u64 (n64 (K.s 0))] W fun e w' => e = .returned (.int .i64 (mpB (K.s 0))) ∧ w' = W) := fun W => by have q := before_c (K.s 0) W; rw [bf_mp _ (pr_eq HK.out)] at q; exact q
    have HR : Hid (∀ W, Calls Try.prog 29 #[.int .u64 (n64 (K.s 0))] W fun e w' => e = .returned (.int .u64 (n64 (rtS (K.s 0)))) ∧ w' = W) := returned_c _ (pr_eq HK.out)
    generalize mpB (K.s 0) = z at HF HA
    generalize rtS (K.s 0) = vr at HR HA
    have K7 := R0.out.cls.s7
    have Kp := R0.out.cls.pc
    have Kv := R0.out.cls.rv
    have Ka := R0.out.cls.ra
    have Ks := R0.out.cls.rs
    have hzr : ∀ W, (zeroValue 29).run Try.prog W = .ok (.agg #[.bool false, .int .u64 0, .int .i64 0]) W := fun W => by kernel_rfl
    clear h1 HK
    go_upto_region 8 with (first | (go_at_call 28; refine (HF.out _).mono ?_; rintro e wb ⟨rfl, hwb⟩; have hwb2 := hwb.symm; subst hwb2) | (go_at_call 29; refine (HR.out _).mono ?_; rintro e wb ⟨rfl, hwb⟩; have hwb2 := hwb.symm; subst hwb2))
    have Q := ((R0.out.put (i := 33) (.int .i64 z)).put (i := 35) (.int .u64 (n64 vr))).put (i := 0) (.int .u64 (n64 (K.s 7)))
    rw [cpc_md, cpc_s0, cpc_pc] at Q
    have Q2 := Q.nores
    refine go_on2 (motive := fun W => Code.wp _ _ _ _ W) (a := w) (B := w.heap.size) (cs := cpc { K with pc := K.s 7, md := z, s := upd K.s 0 vr, rv := false, ra := 0#64, rs := 0 }) Q2 (Row.other (Row.other (Row.other (Row.other (Row.other (Row.other R1.out (by omega) _) (by omega) _) (by omega) _) (by omega) _) (by omega) _) (by omega) _) (below_put (below_put (below_put (below_put (below_put (below_put BB.out (Nat.le_refl _) _) (Nat.le_refl _) _) (Nat.le_refl _) _) (Nat.le_refl _) _) (Nat.le_refl _) _) (Nat.le_refl _) _) rfl ?_
    clear Q Q2 R0 R1 BB f0 Kp Km K0 K7 Kv Ka Ks hzr HF HR
    intro W5 q0 q1 c0 t0
    have R0 : Hid (Row W5 w.heap.size (cpc { K with pc := K.s 7, md := z, s := upd K.s 0 vr, rv := false, ra := 0#64, rs := 0 }) 31) := q0
    have R1 : Hid (Row W5 (w.heap.size + 1) (cpc cz) 31) := q1
    have BB : Hid (Below w.heap.size w W5) := c0
    clear q0 q1 c0 t0
    go_wp2_with (first | (refine wpList_load_row (by rfl) _ _ (by rfl) _ (by rfl) 31 _ (0, 0) _ R0.out Try.underlying31 (by rfl) (info_cpu _) ?_) | (refine wpList_store_row (by rfl) _ _ _ (by rfl) (by rfl) _ _ _ (by rfl) (by rfl) R1.out (info_cpu _) (by rw [cpc_size, cpc_size]) (cpc_ones _) ?_))
    refine bodyPost_ret (results_row_slot Try.results14 _ _ (w.heap.size + 1) 31 _ (0, 0) _ _ (by rfl) (by rfl) (setRow_heap _ _ _ _ _ _ R1.out) Try.underlying31 (by rfl) (info_cpu _)) rfl ?_
    exact ⟨by rw [HA.out, HW.out]; rfl, below_row BB.out (by omega) _⟩
set_option maxRecDepth 100000 in
set_option maxHeartbeats 4000000 in
theorem Enter_c : TEn := fun k cause tval w => by
  have hz := zero_cpu
  obtain ⟨W0, hW0, r0, r1, b0, s0⟩ := start2 w (cpc k) (cpc cz) 31 31
  have HS : Hid (W0.heap.size = w.heap.size + 2) := s0
  clear s0
  have HP : Hid (∀ W, Calls Try.prog 12 #[.agg (cpc k)] W fun e w' => e = .returned (.agg (cpc (PR k))) ∧ Below W.heap.size W w') := fun W => Pr_c k W
  have HM := PR_md k
  obtain ⟨K, hK⟩ : ∃ K, K = PR k := ⟨_, rfl⟩
  rw [← hK] at HP HM
  have HK : Hid (K = PR k) := hK
  clear hK
  go_enter Try.func13, Try.ntmps13
  go_upto_region 1 with fail
  clear hz hW0
  go_upto_region 2 with (first | (refine wpList_load_row (by rfl) _ _ (by rfl) _ (by rfl) 31 _ (0, 0) _ r0.out Try.underlying31 (by rfl) (info_cpu _) ?_) | (go_at_call 12; refine (HP.out _).mono ?_; rintro e w1 ⟨rfl, hb1⟩; have HB1 : Hid (Below W0.heap.size W0 w1) := hb1; clear hb1) | (refine wpList_store_row (by rfl) _ _ _ (by rfl) (by rfl) _ _ _ (by rfl) (by rfl) (r0.out.later HB1.out (by rw [HS.out]; omega)) (info_cpu _) (by rw [cpc_size, cpc_size]) (cpc_ones _) ?_))
  refine go_on2 (motive := fun W => Code.wp _ _ _ _ W) (a := w) (B := w.heap.size) (n := w1.heap.size) (show Row _ w.heap.size (cpc K) 31 from setRow_heap _ _ _ _ _ _ (r0.out.later HB1.out (by rw [HS.out]; omega))) (row_apart (r1.out.later HB1.out (by rw [HS.out]; omega)) (by omega) _) (below_row (b0.out.trans (HB1.out.mono b0.out.size)) (Nat.le_refl _) _) (by simp) ?_
  clear r0 r1 b0 HS HB1 HP
  intro W2 q0 q1 c0 t0
  have R0 : Hid (Row W2 w.heap.size (cpc K) 31) := q0
  have R1 : Hid (Row W2 (w.heap.size + 1) (cpc cz) 31) := q1
  have BB : Hid (Below w.heap.size w W2) := c0
  have Km := q0.cls.md
  have K0 := q0.cls.s0
  have f0 := q0.froz
  clear q0 q1 c0 t0
  have HE : Hid (ENc k cause tval = { K with pc := hdl (K.s 1) cause, md := 3, wt := false, s := upd (upd (upd (upd K.s 7 K.pc) 8 cause) 9 tval) 0 (enS (K.s 0) K.md), rv := false, ra := 0#64, rs := 0 }) := by unfold Hid ENc; rw [← HK.out]
  have H1 : Hid (∀ W, Calls Try.prog 25 #[.int .u64 (n64 (K.s 0)), .int .i64 K.md] W fun e w' => e = .returned (.int .u64 (n64 (enS (K.s 0) K.md))) ∧ w' = W) := entered_c _ _ HM
  have H2 : Hid (∀ W, Calls Try.prog 27 #[.int .u64 (n64 cause)] W fun e w' => e = .returned (rsn cause) ∧ w' = W) := reasonOf_c cause
  have H3 : Hid (∀ W, Calls Try.prog 26 #[.int .u64 (n64 (K.s 1)), rsn cause] W fun e w' => e = .returned (.int .u64 (n64 (hdl (K.s 1) cause))) ∧ w' = W) := handler_c _ _
  generalize enS (K.s 0) K.md = vS at H1 HE
  generalize hdl (K.s 1) cause = vp at H3 HE
  generalize rsn cause = rr at H2 H3
  have Kp := R0.out.cls.pc
  have Kw := R0.out.cls.wt
  have K7 := R0.out.cls.s7
  have K8 := R0.out.cls.s8
  have K9 := R0.out.cls.s9
  have Kv := R0.out.cls.rv
  have Ka := R0.out.cls.ra
  have Ks := R0.out.cls.rs
  have hzr : ∀ W, (zeroValue 29).run Try.prog W = .ok (.agg #[.bool false, .int .u64 0, .int .i64 0]) W := fun W => by kernel_rfl
  clear HM HK
  go_upto_region 7 with (go_at_call 25; refine (H1.out _).mono ?_; rintro e wb ⟨rfl, hwb⟩; have hwb2 := hwb.symm; subst hwb2)
  have Q := (((((R0.out.put (i := 42) (.int .u64 (n64 K.pc))).put (i := 43) (.int .u64 (n64 cause))).put (i := 44) (.int .u64 (n64 tval))).put (i := 35) (.int .u64 (n64 vS))).put (i := 33) (.int .i64 3)).put (i := 34) (.bool false)
  rw [cpc_s7, cpc_s8, cpc_s9, cpc_s0, cpc_md, cpc_wt] at Q
  have Q2 := Q.nores
  refine go_on2 (motive := fun W => Code.wp _ _ _ _ W) (a := w) (B := w.heap.size) (cs := cpc { K with md := 3, wt := false, s := upd (upd (upd (upd K.s 7 K.pc) 8 cause) 9 tval) 0 vS, rv := false, ra := 0#64, rs := 0 }) Q2 (Row.other (Row.other (Row.other (Row.other (Row.other (Row.other (Row.other (Row.other (Row.other R1.out (by omega) _) (by omega) _) (by omega) _) (by omega) _) (by omega) _) (by omega) _) (by omega) _) (by omega) _) (by omega) _) (below_put (below_put (below_put (below_put (below_put (below_put (below_put (below_put (below_put BB.out (Nat.le_refl _) _) (Nat.le_refl _) _) (Nat.le_refl _) _) (Nat.le_refl _) _) (Nat.le_refl _) _) (Nat.le_refl _) _) (Nat.le_refl _) _) (Nat.le_refl _) _) (Nat.le_refl _) _) rfl ?_
  clear Q Q2 R0 R1 BB f0 Kp Km Kw K0 K7 K8 K9 Kv Ka Ks hzr H1
  intro W5 q0 q1 c0 t0
  have R0 : Hid (Row W5 w.heap.size (cpc { K with md := 3, wt := false, s := upd (upd (upd (upd K.s 7 K.pc) 8 cause) 9 tval) 0 vS, rv := false, ra := 0#64, rs := 0 }) 31) := q0
  have R1 : Hid (Row W5 (w.heap.size + 1) (cpc cz) 31) := q1
  have BB : Hid (Below w.heap.size w W5) := c0
  have L1 : ∀ x : Later W5, x.1.cell? ⟨w.heap.size, 36, none⟩ = some (.int .u64 (n64 (K.s 1))) := later_at q0.lt q0.cls.s1
  have hne := later_nonempty W5
  clear q0 q1 c0 t0
  refine wp_region_later_tail (x0 := Later.start W5) 6 (by kernel_rfl) (by kernel_rfl) ?_
  simp only [List.take_succ_cons, List.take_zero, List.drop_succ_cons, List.drop_zero]
  repeat (go_big_quiet_step (first | (go_at_call 27; exact calls_later_same (H2.out _)) | (go_at_call 26; exact calls_later_same (H3.out _))))
  refine wpQuiet_nil ?_
  rintro w' ⟨x9, rfl⟩
  have R9 : Hid (Row x9.1 w.heap.size (cpc { K with md := 3, wt := false, s := upd (upd (upd (upd K.s 7 K.pc) 8 cause) 9 tval) 0 vS, rv := false, ra := 0#64, rs := 0 }) 31) := R0.out.cb x9.below
  have f9 := R9.out.froz
  have Kp := R9.out.cls.pc
  go_upto_region 8 with fail
  have Q := R9.out.put (i := 0) (.int .u64 (n64 vp))
  rw [cpc_pc] at Q
  refine go_on2 (motive := fun W => Code.wp _ _ _ _ W) (a := w) (B := w.heap.size) (cs := cpc (ENc k cause tval)) (row_cast Q (by rw [HE.out])) (Row.other (R1.out.cb x9.below) (by omega) _) (below_put (BB.out.trans (x9.below.mono BB.out.size)) (Nat.le_refl _) _) rfl ?_
  clear Q R9 f9 Kp R0 R1 BB L1 hne HE H2 H3
  intro W6 q0 q1 c0 t0
  have R0 : Hid (Row W6 w.heap.size (cpc (ENc k cause tval)) 31) := q0
  have R1 : Hid (Row W6 (w.heap.size + 1) (cpc cz) 31) := q1
  have BB : Hid (Below w.heap.size w W6) := c0
  clear q0 q1 c0 t0
  go_wp2_with (first | (refine wpList_load_row (by rfl) _ _ (by rfl) _ (by rfl) 31 _ (0, 0) _ R0.out Try.underlying31 (by rfl) (info_cpu _) ?_) | (refine wpList_store_row (by rfl) _ _ _ (by rfl) (by rfl) _ _ _ (by rfl) (by rfl) R1.out (info_cpu _) (by rw [cpc_size, cpc_size]) (cpc_ones _) ?_))
  refine bodyPost_ret (v := .agg (cpc (ENc k cause tval))) (results_cell_row Try.results13 _ _ (w.heap.size + 1) 31 _ (0, 0) _ (by rfl) (setRow_heap _ _ _ _ _ _ R1.out) Try.underlying31 (by rfl) (info_cpu _)) rfl ⟨rfl, below_row BB.out (by omega) _⟩
theorem pdF_is (K : Cp) (mip : BitVec 64) : pdF K mip 0 = (11, true) ∨ pdF K mip 0 = (3, true) ∨ pdF K mip 0 = (7, true) ∨ pdF K mip 0 = (0, false) := by
  unfold pdF
  split
  · exact Or.inl rfl
  · split
    · exact Or.inr (Or.inl rfl)
    · split
      · exact Or.inr (Or.inr (Or.inl rfl))
      · exact Or.inr (Or.inr (Or.inr rfl))
set_option maxRecDepth 100000 in
set_option maxHeartbeats 2000000 in
theorem Pending_c : TPd := fun k mip w => by
  obtain ⟨W0, hW0, r0, b0, s0⟩ := start1 w (cpc k) 31
  have HS : Hid (W0.heap.size = w.heap.size + 1) := s0
  clear s0
  have HP : Hid (∀ W, Calls Try.prog 12 #[.agg (cpc k)] W fun e w' => e = .returned (.agg (cpc (PR k))) ∧ Below W.heap.size W w') := fun W => Pr_c k W
  have HM := PR_md k
  obtain ⟨K, hK⟩ : ∃ K, K = PR k := ⟨_, rfl⟩
  rw [← hK] at HP HM
  have HK : Hid (K = PR k) := hK
  clear hK
  go_enter Try.func9, Try.ntmps9
  go_upto_region 1 with fail
  clear hW0
  go_upto_region 2 with (first | (refine wpList_load_row (by rfl) _ _ (by rfl) _ (by rfl) 31 _ (0, 0) _ r0.out Try.underlying31 (by rfl) (info_cpu _) ?_) | (go_at_call 12; refine (HP.out _).mono ?_; rintro e w1 ⟨rfl, hb1⟩; have HB1 : Hid (Below W0.heap.size W0 w1) := hb1; clear hb1) | (refine wpList_store_row (by rfl) _ _ _ (by rfl) (by rfl) _ _ _ (by rfl) (by rfl) (r0.out.later HB1.out (by rw [HS.out]; omega)) (info_cpu _) (by rw [cpc_size, cpc_size]) (cpc_ones _) ?_))
  refine go_on1 (motive := fun W => Code.wp _ _ _ _ W) (a := w) (B := w.heap.size) (n := w1.heap.size) (show Row _ w.heap.size (cpc K) 31 from setRow_heap _ _ _ _ _ _ (r0.out.later HB1.out (by rw [HS.out]; omega))) (below_row (b0.out.trans (HB1.out.mono b0.out.size)) (Nat.le_refl _) _) (by simp) ?_
  clear r0 b0 HS HB1 HP
  intro W2 q0 c0 t0
  have R0 : Hid (Row W2 w.heap.size (cpc K) 31) := q0
  have BB : Hid (Below w.heap.size w W2) := c0
  have Km := q0.cls.md
  have K0 := q0.cls.s0
  have f0 := q0.froz
  clear q0 c0 t0
  have b0 : bits .and .u64 (n64 (K.s 0)) 8 = n64 (K.s 0 &&& 8#64) := n64_and _ 8#64
  have b1 : (n64 (K.s 0 &&& 8#64) == 0) = !(K.s 0).getLsbD 3 := bit_eq (K.s 0) 3 (by decide)
  generalize n64 (K.s 0 &&& 8#64) = y0 at b0 b1
  by_cases h0 : K.md = 3 ∧ (K.s 0).getLsbD 3 = false
  · have HA : Hid (PD k mip = (0, false)) := by unfold Hid PD; rw [← HK.out, if_pos h0]
    rw [h0.2] at b1
    rw [h0.1] at Km
    have b2 : (y0 == 0) = true := b1
    clear h0 HM HK b1
    go_wp2
    go_ret2
    exact ⟨by rw [HA.out]; rfl, BB.out⟩
  · have HA : Hid (PD k mip = pdF K mip 0) := by unfold Hid PD; rw [← HK.out, if_neg h0]
    have a2 : bits .and .u64 (n64 mip) (n64 (K.s 2)) = n64 (mip &&& K.s 2) := n64_and _ _
    have HF : Hid (∀ W, Calls Try.prog 19 #[.int .u64 (n64 (mip &&& K.s 2))] W fun e w' => e = .returned (.tuple #[.int .u64 (pdF K mip 0).1, .bool (pdF K mip 0).2]) ∧ w' = W) := fun W => by have q := pfirst_c (mip &&& K.s 2) W; rw [fs_pd] at q; exact q
    have K2 := R0.out.cls.s2
    generalize n64 (mip &&& K.s 2) = y2 at a2 HF
    have hc := pdF_is K mip
    generalize pdF K mip 0 = pp at HA HF hc
    have hcase : (K.md == 3) = false ∨ ((K.md == 3) = true ∧ (y0 == 0) = false) := by
      rcases HM with h | h
      · left; rw [h]; rfl
      · right
        refine ⟨by rw [h]; rfl, ?_⟩
        rw [b1]
        cases hb : (K.s 0).getLsbD 3 with
        | true => rfl
        | false => exact absurd ⟨h, hb⟩ h0
    clear h0 HM HK b1
    obtain ⟨m9, hm9⟩ : ∃ m9, m9 = K.md := ⟨_, rfl⟩
    rw [← hm9] at Km hcase
    clear hm9
    rcases hcase with hq | ⟨hq, hr⟩
    · rcases hc with rfl | rfl | rfl | rfl
      · go_wp2_with (go_at_call 19; refine (HF.out _).mono ?_; rintro e wb ⟨rfl, hwb⟩; have hwb2 := hwb.symm; subst hwb2)
        go_ret2
        exact ⟨by rw [HA.out]; rfl, BB.out⟩
      · go_wp2_with (go_at_call 19; refine (HF.out _).mono ?_; rintro e wb ⟨rfl, hwb⟩; have hwb2 := hwb.symm; subst hwb2)
        go_ret2
        exact ⟨by rw [HA.out]; rfl, BB.out⟩
      · go_wp2_with (go_at_call 19; refine (HF.out _).mono ?_; rintro e wb ⟨rfl, hwb⟩; have hwb2 := hwb.symm; subst hwb2)
        go_ret2
        exact ⟨by rw [HA.out]; rfl, BB.out⟩
      · go_wp2_with (go_at_call 19; refine (HF.out _).mono ?_; rintro e wb ⟨rfl, hwb⟩; have hwb2 := hwb.symm; subst hwb2)
        go_ret2
        exact ⟨by rw [HA.out]; rfl, BB.out⟩
    · rcases hc with rfl | rfl | rfl | rfl
      · go_wp2_with (go_at_call 19; refine (HF.out _).mono ?_; rintro e wb ⟨rfl, hwb⟩; have hwb2 := hwb.symm; subst hwb2)
        go_ret2
        exact ⟨by rw [HA.out]; rfl, BB.out⟩
      · go_wp2_with (go_at_call 19; refine (HF.out _).mono ?_; rintro e wb ⟨rfl, hwb⟩; have hwb2 := hwb.symm; subst hwb2)
        go_ret2
        exact ⟨by rw [HA.out]; rfl, BB.out⟩
      · go_wp2_with (go_at_call 19; refine (HF.out _).mono ?_; rintro e wb ⟨rfl, hwb⟩; have hwb2 := hwb.symm; subst hwb2)
        go_ret2
        exact ⟨by rw [HA.out]; rfl, BB.out⟩
      · go_wp2_with (go_at_call 19; refine (HF.out _).mono ?_; rintro e wb ⟨rfl, hwb⟩; have hwb2 := hwb.symm; subst hwb2)
        go_ret2
        exact ⟨by rw [HA.out]; rfl, BB.out⟩
end Go.Proofs.Ytnejdfkmnblfeaa
