/-
  Wait, Effective, Return of the reference.
-/
import Derived.Test.YtnejdfkmnblfeabTra
namespace Go.Proofs.Ytnejdfkmnblfeab
set_option linter.unusedVariables false
open Go.ChangeShapes Go.WideShapes Go.ChangeAt Go.RowKit Go.Deep
/-- Does WFI stop here? -/
def stp (K : Cp) : Bool := decide (K.md = 0) && (K.s 0).getLsbD 21
def WTc (k : Cp) : Cp := if stp (PR k) then PR k else { PR k with wt := true }
def WTk (k : Cp) : Bool := !stp (PR k)
/-- The mode that counts. -/
def EF (k : Cp) : Int := if (PR k).md = 3 ∧ ((PR k).s 0).getLsbD 17 = true then mpB ((PR k).s 0) else (PR k).md
/-- mstatus behind a return. -/
def rtS (v : BitVec 64) : BitVec 64 := if mpB v = 0 then sB (wB (sB (sB v 3 (v.getLsbD 7)) 7 true) 0) 17 false else wB (sB (sB v 3 (v.getLsbD 7)) 7 true) 0
def RTk (k : Cp) : Bool := decide ((PR k).md = 3)
def RTc (k : Cp) : Cp := if (PR k).md = 3 then { PR k with pc := (PR k).s 7, md := mpB ((PR k).s 0), s := upd (PR k).s 0 (rtS ((PR k).s 0)), rv := false, ra := 0#64, rs := 0 } else PR k
set_option maxRecDepth 100000 in
set_option maxHeartbeats 1000000 in
theorem rWait_c (k : Cp) (w : World) : Calls Try.prog 8 #[.agg (cpc k)] w fun e w' => e = .returned (.tuple #[.agg (cpc (WTc k)), .bool (WTk k)]) ∧ Below w.heap.size w w' := by
  have hz := zero_cpu
  obtain ⟨W0, hW0, r0, r1, b0, s0⟩ := start2 w (cpc k) (cpc cz) 31 31
  have HS : Hid (W0.heap.size = w.heap.size + 2) := s0
  clear s0
  have HP : Hid (∀ W, Calls Try.prog 18 #[.agg (cpc k)] W fun e w' => e = .returned (.agg (cpc (PR k))) ∧ Below W.heap.size W w') := fun W => rPr_c k W
  have HM := PR_md k
  obtain ⟨K, hK⟩ : ∃ K, K = PR k := ⟨_, rfl⟩
  rw [← hK] at HP HM
  have HK : Hid (K = PR k) := hK
  clear hK
  go_enter Try.func8, Try.ntmps8
  go_upto_region 1 with fail
  clear hz hW0
  go_upto_region 2 with (first | (refine wpList_load_row (by rfl) _ _ (by rfl) _ (by rfl) 31 _ (0, 0) _ r0.out Try.underlying31 (by rfl) (info_cpu _) ?_) | (go_at_call 18; refine (HP.out _).mono ?_; rintro e w1 ⟨rfl, hb1⟩; have HB1 : Hid (Below W0.heap.size W0 w1) := hb1; clear hb1) | (refine wpList_store_row (by rfl) _ _ _ (by rfl) (by rfl) _ _ _ (by rfl) (by rfl) (r0.out.later HB1.out (by rw [HS.out]; omega)) (info_cpu _) (by rw [cpc_size, cpc_size]) (cpc_ones _) ?_))
  refine go_on2 (motive := fun W => Code.wp _ _ _ _ W) (a := w) (B := w.heap.size) (n := w1.heap.size) (show Row _ w.heap.size (cpc K) 31 from setRow_heap _ _ _ _ _ _ (r0.out.later HB1.out (by rw [HS.out]; omega))) (row_apart (r1.out.later HB1.out (by rw [HS.out]; omega)) (by omega) _) (below_row (b0.out.trans (HB1.out.mono b0.out.size)) (Nat.le_refl _) _) (by simp) ?_
  clear r0 r1 b0 HS HB1 HP
  intro W2 q0 q1 c0 t0
  have R0 : Hid (Row W2 w.heap.size (cpc K) 31) := q0
  have R1 : Hid (Row W2 (w.heap.size + 1) (cpc cz) 31) := q1
  have BB : Hid (Below w.heap.size w W2) := c0
  have Km := q0.cls.md
  have K0 := q0.cls.s0
  have f0 := q0.froz
  clear q0 q1 c0 t0
  have HB : Hid (∀ W, Calls Try.prog 19 #[.int .u64 (n64 (K.s 0)), .int .i64 21] W fun e w' => e = .returned (.bool ((K.s 0).getLsbD 21)) ∧ w' = W) := rbit_c (K.s 0) 21 (by decide)
  obtain ⟨b, hb⟩ : ∃ b, b = (K.s 0).getLsbD 21 := ⟨_, rfl⟩
  rw [← hb] at HB
  have Eb : Hid (b = (K.s 0).getLsbD 21) := hb
  clear hb
  by_cases h0 : K.md = 0 ∧ b = true
  · obtain ⟨h1, h2⟩ := h0
    have hst : stp (PR k) = true := by unfold stp; rw [← HK.out, ← Eb.out, h1, h2]; rfl
    have HA : Hid (WTc k = K) := by unfold Hid WTc; rw [if_pos hst, HK.out]
    have HW : Hid (WTk k = false) := by unfold Hid WTk; rw [hst]; rfl
    subst h2
    rw [h1] at Km
    clear h1 HM hst Eb HK
    go_upto_region 4 with (go_at_call 19; refine (HB.out _).mono ?_; rintro e wb ⟨rfl, hwb⟩; have hwb2 := hwb.symm; subst hwb2)
    go_wp2_with (first | (refine wpList_load_row (by rfl) _ _ (by rfl) _ (by rfl) 31 _ (0, 0) _ R0.out Try.underlying31 (by rfl) (info_cpu _) ?_) | (refine wpList_store_row (by rfl) _ _ _ (by rfl) (by rfl) _ _ _ (by rfl) (by rfl) R1.out (info_cpu _) (by rw [cpc_size, cpc_size]) (cpc_ones _) ?_))
    refine bodyPost_ret (results_row_slot Try.results8 _ _ (w.heap.size + 1) 31 _ (0, 0) _ _ (by rfl) (by rfl) (setRow_heap _ _ _ _ _ _ R1.out) Try.underlying31 (by rfl) (info_cpu _)) rfl ?_
    exact ⟨by rw [HA.out, HW.out]; rfl, below_row BB.out (by omega) _⟩
  · have hst : stp (PR k) = false := by
      unfold stp
      rw [← HK.out, ← Eb.out]
      cases b with
      | false => simp
      | true => simp only [and_true] at h0; simp [h0]
    have HA : Hid (WTc k = { K with wt := true }) := by unfold Hid WTc; rw [if_neg (by rw [hst]; decide), HK.out]
    have HW : Hid (WTk k = true) := by unfold Hid WTk; rw [hst]; rfl
    have Q := R0.out.put (i := 34) (.bool true)
    rw [cpc_wt] at Q
    have RQ : Hid (Row (W2.setCell ⟨w.heap.size, 34, none⟩ (.bool true)) w.heap.size (cpc { K with wt := true }) 31) := Q
    have Kw := R0.out.cls.wt
    clear Q hst Eb HK
    rcases HM with h1 | h1
    · have hb0 : b = false := by
        cases b with
        | false => rfl
        | true => exact absurd ⟨h1, rfl⟩ h0
      subst hb0
      rw [h1] at Km
      clear h1 h0
      go_upto_region 6 with (go_at_call 19; refine (HB.out _).mono ?_; rintro e wb ⟨rfl, hwb⟩; have hwb2 := hwb.symm; subst hwb2)
      refine go_on2 (motive := fun W => Code.wp _ _ _ _ W) (a := w) (B := w.heap.size) RQ.out (Row.other R1.out (by omega) _) (below_put BB.out (Nat.le_refl _) _) rfl ?_
      clear R0 R1 BB RQ Km K0 f0 Kw HB
      intro W3 q0 q1 c0 t0
      have R0 : Hid (Row W3 w.heap.size (cpc { K with wt := true }) 31) := q0
      have R1 : Hid (Row W3 (w.heap.size + 1) (cpc cz) 31) := q1
      have BB : Hid (Below w.heap.size w W3) := c0
      clear q0 q1 c0 t0
      go_wp2_with (first | (refine wpList_load_row (by rfl) _ _ (by rfl) _ (by rfl) 31 _ (0, 0) _ R0.out Try.underlying31 (by rfl) (info_cpu _) ?_) | (refine wpList_store_row (by rfl) _ _ _ (by rfl) (by rfl) _ _ _ (by rfl) (by rfl) R1.out (info_cpu _) (by rw [cpc_size, cpc_size]) (cpc_ones _) ?_))
      refine bodyPost_ret (results_row_slot Try.results8 _ _ (w.heap.size + 1) 31 _ (0, 0) _ _ (by rfl) (by rfl) (setRow_heap _ _ _ _ _ _ R1.out) Try.underlying31 (by rfl) (info_cpu _)) rfl ?_
      exact ⟨by rw [HA.out, HW.out]; rfl, below_row BB.out (by omega) _⟩
    · rw [h1] at Km
      clear h1 h0
      go_upto_region 6 with (go_at_call 19; refine (HB.out _).mono ?_; rintro e wb ⟨rfl, hwb⟩; have hwb2 := hwb.symm; subst hwb2)
      refine go_on2 (motive := fun W => Code.wp _ _ _ _ W) (a := w) (B := w.heap.size) RQ.out (Row.other R1.out (by omega) _) (below_put BB.out (Nat.le_refl _) _) rfl ?_
      clear R0 R1 BB RQ Km K0 f0 Kw HB
      intro W3 q0 q1 c0 t0
      have R0 : Hid (Row W3 w.heap.size (cpc { K with wt := true }) 31) := q0
      have R1 : Hid (Row W3 (w.heap.size + 1) (cpc cz) 31) := q1
      have BB : Hid (Below w.heap.size w W3) := c0
      clear q0 q1 c0 t0
      go_wp2_with (first | (refine wpList_load_row (by rfl) _ _ (by rfl) _ (by rfl) 31 _ (0, 0) _ R0.out Try.underlying31 (by rfl) (info_cpu _) ?_) | (refine wpList_store_row (by rfl) _ _ _ (by rfl) (by rfl) _ _ _ (by rfl) (by rfl) R1.out (info_cpu _) (by rw [cpc_size, cpc_size]) (cpc_ones _) ?_))
      refine bodyPost_ret (results_row_slot Try.results8 _ _ (w.heap.size + 1) 31 _ (0, 0) _ _ (by rfl) (by rfl) (setRow_heap _ _ _ _ _ _ R1.out) Try.underlying31 (by rfl) (info_cpu _)) rfl ?_
      exact ⟨by rw [HA.out, HW.out]; rfl, below_row BB.out (by omega) _⟩
set_option maxRecDepth 100000 in
set_option maxHeartbeats 1000000 in
theorem rEffective_c (k : Cp) (w : World) : Calls Try.prog 10 #[.agg (cpc k)] w fun e w' => e = .returned (.int .i64 (EF k)) ∧ Below w.heap.size w w' := by
  obtain ⟨W0, hW0, r0, b0, s0⟩ := start1 w (cpc k) 31
  have HS : Hid (W0.heap.size = w.heap.size + 1) := s0
  clear s0
  have HP : Hid (∀ W, Calls Try.prog 18 #[.agg (cpc k)] W fun e w' => e = .returned (.agg (cpc (PR k))) ∧ Below W.heap.size W w') := fun W => rPr_c k W
  have HM := PR_md k
  obtain ⟨K, hK⟩ : ∃ K, K = PR k := ⟨_, rfl⟩
  rw [← hK] at HP HM
  have HK : Hid (K = PR k) := hK
  clear hK
  go_enter Try.func10, Try.ntmps10
  go_upto_region 1 with fail
  clear hW0
  go_upto_region 2 with (first | (refine wpList_load_row (by rfl) _ _ (by rfl) _ (by rfl) 31 _ (0, 0) _ r0.out Try.underlying31 (by rfl) (info_cpu _) ?_) | (go_at_call 18; refine (HP.out _).mono ?_; rintro e w1 ⟨rfl, hb1⟩; have HB1 : Hid (Below W0.heap.size W0 w1) := hb1; clear hb1) | (refine wpList_store_row (by rfl) _ _ _ (by rfl) (by rfl) _ _ _ (by rfl) (by rfl) (r0.out.later HB1.out (by rw [HS.out]; omega)) (info_cpu _) (by rw [cpc_size, cpc_size]) (cpc_ones _) ?_))
  refine go_on1 (motive := fun W => Code.wp _ _ _ _ W) (a := w) (B := w.heap.size) (n := w1.heap.size) (show Row _ w.heap.size (cpc K) 31 from setRow_heap _ _ _ _ _ _ (r0.out.later HB1.out (by rw [HS.out]; omega))) (below_row (b0.out.trans (HB1.out.mono b0.out.size)) (Nat.le_refl _) _) (by simp) ?_
  clear r0 b0 HS HB1 HP
  intro W2 q0 c0 t0
  have R0 : Hid (Row W2 w.heap.size (cpc K) 31) := q0
  have BB : Hid (Below w.heap.size w W2) := c0
  have Km := q0.cls.md
  have K0 := q0.cls.s0
  have f0 := q0.froz
  clear q0 c0 t0
  have HF : Hid (∀ W, Calls Try.prog 21 #[.int .u64 (n64 (K.s 0))] W fun e w' => e = .returned (.int .i64 (mpB (K.s 0))) ∧ w' = W) := rbefore_c (K.s 0)
  have HB : Hid (∀ W, Calls Try.prog 19 #[.int .u64 (n64 (K.s 0)), .int .i64 17] W fun e w' => e = .returned (.bool ((K.s 0).getLsbD 17)) ∧ w' = W) := rbit_c (K.s 0) 17 (by decide)
  obtain ⟨b, hb⟩ : ∃ b, b = (K.s 0).getLsbD 17 := ⟨_, rfl⟩
  rw [← hb] at HB
  have Eb : Hid (b = (K.s 0).getLsbD 17) := hb
  clear hb
  rcases HM with h1 | h1
  · have HA : Hid (EF k = 0) := by unfold Hid EF; rw [← HK.out, if_neg (by rw [h1]; simp), h1]
    rw [h1] at Km
    clear h1
    go_wp2_with (go_at_call 19; refine (HB.out _).mono ?_; rintro e wb ⟨rfl, hwb⟩; have hwb2 := hwb.symm; subst hwb2)
    go_ret
    exact ⟨by rw [HA.out]; rfl, BB.out⟩
  · rw [h1] at Km
    cases b with
    | true =>
      have HA : Hid (EF k = mpB (K.s 0)) := by unfold Hid EF; rw [← HK.out, if_pos ⟨h1, Eb.out.symm⟩]
      clear h1
      generalize mpB (K.s 0) = z at HF HA
      go_wp2_with (first | (go_at_call 19; refine (HB.out _).mono ?_; rintro e wb ⟨rfl, hwb⟩; have hwb2 := hwb.symm; subst hwb2) | (go_at_call 21; refine (HF.out _).mono ?_; rintro e wb ⟨rfl, hwb⟩; have hwb2 := hwb.symm; subst hwb2))
      go_ret
      exact ⟨by rw [HA.out]; rfl, BB.out⟩
    | false =>
      have HA : Hid (EF k = 3) := by unfold Hid EF; rw [← HK.out, if_neg (by rw [← Eb.out]; simp), h1]
      clear h1
      go_wp2_with (go_at_call 19; refine (HB.out _).mono ?_; rintro e wb ⟨rfl, hwb⟩; have hwb2 := hwb.symm; subst hwb2)
      go_ret
      exact ⟨by rw [HA.out]; rfl, BB.out⟩
end Go.Proofs.Ytnejdfkmnblfeab
