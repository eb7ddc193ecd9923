/-
  Return of the reference.
-/
import Derived.Test.YtnejdfkmnblfeabTrb
namespace Go.Proofs.Ytnejdfkmnblfeab
set_option linter.unusedVariables false
open Go.ChangeShapes Go.WideShapes Go.ChangeAt Go.RowKit Go.Deep
theorem mpB_is (v : BitVec 64) : mpB v = 0 ∨ mpB v = 3 := by unfold mpB; split <;> simp
theorem cpc_md2 (k : Cp) (v : Int) : (cpc k).setIfInBounds 33 (.int .i64 v) = cpc { k with md := v } := cpc_md k v
set_option maxRecDepth 100000 in
set_option maxHeartbeats 2000000 in
theorem rReturn_c (k : Cp) (w : World) : Calls Try.prog 12 #[.agg (cpc k)] w fun e w' => e = .returned (.tuple #[.agg (cpc (RTc k)), .bool (RTk k)]) ∧ Below w.heap.size w w' := by
  have hz := zero_cpu
  obtain ⟨W0, hW0, r0, r1, b0, s0⟩ := start2 w (cpc k) (cpc cz) 31 31
  have HS : Hid (W0.heap.size = w.heap.size + 2) := s0
  clear s0
  have HP : Hid (∀ W, Calls Try.prog 18 #[.agg (cpc k)] W fun e w' => e = .returned (.agg (cpc (PR k))) ∧ Below W.heap.size W w') := fun W => rPr_c k W
  have HM := PR_md k
  obtain ⟨K, hK⟩ : ∃ K, K = PR k := ⟨_, rfl⟩
  rw [← hK] at HP HM
  have HK : Hid (K = PR k) := hK
  clear hK
  go_enter Try.func12, Try.ntmps12
  go_upto_region 1 with fail
  clear hz hW0
  go_upto_region 2 with (first | (refine wpList_load_row (by rfl) _ _ (by rfl) _ (by rfl) 31 _ (0, 0) _ r0.out Try.underlying31 (by rfl) (info_cpu _) ?_) | (go_at_call 18; refine (HP.out _).mono ?_; rintro e w1 ⟨rfl, hb1⟩; have HB1 : Hid (Below W0.heap.size W0 w1) := hb1; clear hb1) | (refine wpList_store_row (by rfl) _ _ _ (by rfl) (by rfl) _ _ _ (by rfl) (by rfl) (r0.out.later HB1.out (by rw [HS.out]; omega)) (info_cpu _) (by rw [cpc_size, cpc_size]) (cpc_ones _) ?_))
  refine go_on2 (motive := fun W => Code.wp _ _ _ _ W) (a := w) (B := w.heap.size) (n := w1.heap.size) (show Row _ w.heap.size (cpc K) 31 from setRow_heap _ _ _ _ _ _ (r0.out.later HB1.out (by rw [HS.out]; omega))) (row_apart (r1.out.later HB1.out (by rw [HS.out]; omega)) (by omega) _) (below_row (b0.out.trans (HB1.out.mono b0.out.size)) (Nat.le_refl _) _) (by simp) ?_
  clear r0 r1 b0 HS HB1 HP
  intro W2 q0 q1 c0 t0
  have R0 : Hid (Row W2 w.heap.size (cpc K) 31) := q0
  have R1 : Hid (Row W2 (w.heap.size + 1) (cpc cz) 31) := q1
  have BB : Hid (Below w.heap.size w W2) := c0
  have Km := q0.cls.md
  have K0 := q0.cls.s0
  have f0 := q0.froz
  clear q0 q1 c0 t0
  rcases HM with h1 | h1
  · have HA : Hid (RTc k = K) := by unfold Hid RTc; rw [← HK.out, if_neg (by rw [h1]; decide)]
    have HW : Hid (RTk k = false) := by unfold Hid RTk; rw [← HK.out, h1]; rfl
    rw [h1] at Km
    clear h1 HK
    go_upto_region 3 with fail
    go_wp2_with (first | (refine wpList_load_row (by rfl) _ _ (by rfl) _ (by rfl) 31 _ (0, 0) _ R0.out Try.underlying31 (by rfl) (info_cpu _) ?_) | (refine wpList_store_row (by rfl) _ _ _ (by rfl) (by rfl) _ _ _ (by rfl) (by rfl) R1.out (info_cpu _) (by rw [cpc_size, cpc_size]) (cpc_ones _) ?_))
    refine bodyPost_ret (results_row_slot Try.results12 _ _ (w.heap.size + 1) 31 _ (0, 0) _ _ (by rfl) (by rfl) (setRow_heap _ _ _ _ _ _ R1.out) Try.underlying31 (by rfl) (info_cpu _)) rfl ?_
    exact ⟨by rw [HA.out, HW.out]; rfl, below_row BB.out (by omega) _⟩
  · rw [h1] at Km
    have HW : Hid (RTk k = true) := by unfold Hid RTk; rw [← HK.out, h1]; rfl
    have HC : Hid (RTc k = { K with pc := K.s 7, md := mpB (K.s 0), s := upd K.s 0 (rtS (K.s 0)), rv := false, ra := 0#64, rs := 0 }) := by unfold Hid RTc; rw [← HK.out, if_pos h1]
    have HF : Hid (∀ W, Calls Try.prog 21 #[.int .u64 (n64 (K.s 0))] W fun e w' => e = .returned (.int .i64 (mpB (K.s 0))) ∧ w' = W) := rbefore_c (K.s 0)
    have HB : Hid (∀ W, Calls Try.prog 19 #[.int .u64 (n64 (K.s 0)), .int .i64 7] W fun e w' => e = .returned (.bool ((K.s 0).getLsbD 7)) ∧ w' = W) := rbit_c (K.s 0) 7 (by decide)
    have H1 : Hid (∀ W, Calls Try.prog 23 #[.int .u64 (n64 (K.s 0)), .int .i64 3, .bool ((K.s 0).getLsbD 7)] W fun e w' => e = .returned (.int .u64 (n64 (sB (K.s 0) 3 ((K.s 0).getLsbD 7)))) ∧ w' = W) := rset_c _ 3 (by decide) _
    have H2 : Hid (∀ W, Calls Try.prog 23 #[.int .u64 (n64 (sB (K.s 0) 3 ((K.s 0).getLsbD 7))), .int .i64 7, .bool true] W fun e w' => e = .returned (.int .u64 (n64 (sB (sB (K.s 0) 3 ((K.s 0).getLsbD 7)) 7 true))) ∧ w' = W) := rset_c _ 7 (by decide) _
    have H3 : Hid (∀ W, Calls Try.prog 24 #[.int .u64 (n64 (sB (sB (K.s 0) 3 ((K.s 0).getLsbD 7)) 7 true)), .int .i64 0] W fun e w' => e = .returned (.int .u64 (n64 (wB (sB (sB (K.s 0) 3 ((K.s 0).getLsbD 7)) 7 true) 0))) ∧ w' = W) := rwithBefore_c _ 0
    have H4 : Hid (∀ W, Calls Try.prog 23 #[.int .u64 (n64 (wB (sB (sB (K.s 0) 3 ((K.s 0).getLsbD 7)) 7 true) 0)), .int .i64 17, .bool false] W fun e w' => e = .returned (.int .u64 (n64 (sB (wB (sB (sB (K.s 0) 3 ((K.s 0).getLsbD 7)) 7 true) 0) 17 false))) ∧ w' = W) := rset_c _ 17 (by decide) _
    have HR : Hid (rtS (K.s 0) = if mpB (K.s 0) = 0 then sB (wB (sB (sB (K.s 0) 3 ((K.s 0).getLsbD 7)) 7 true) 0) 17 false else wB (sB (sB (K.s 0) 3 ((K.s 0).getLsbD 7)) 7 true) 0) := rfl
    have HZ := mpB_is (K.s 0)
    generalize sB (wB (sB (sB (K.s 0) 3 ((K.s 0).getLsbD 7)) 7 true) 0) 17 false = v4 at H4 HR
    generalize wB (sB (sB (K.s 0) 3 ((K.s 0).getLsbD 7)) 7 true) 0 = v3 at H3 H4 HR
    generalize sB (sB (K.s 0) 3 ((K.s 0).getLsbD 7)) 7 true = v2 at H2 H3
    generalize sB (K.s 0) 3 ((K.s 0).getLsbD 7) = v1 at H1 H2
    generalize (K.s 0).getLsbD 7 = b7 at HB H1
    generalize mpB (K.s 0) = z at HF HC HR HZ
    generalize rtS (K.s 0) = vr at HC HR
    clear h1 HK
    go_upto_region 5 with (go_at_call 21; refine (HF.out _).mono ?_; rintro e wb ⟨rfl, hwb⟩; have hwb2 := hwb.symm; subst hwb2)
    have Q := R0.out.put (i := 33) (.int .i64 z)
    rw [cpc_md] at Q
    refine go_on2 (motive := fun W => Code.wp _ _ _ _ W) (a := w) (B := w.heap.size) Q (Row.other R1.out (by omega) _) (below_put BB.out (Nat.le_refl _) _) rfl ?_
    clear Q R0 R1 BB Km K0 f0 HF
    intro W3 q0 q1 c0 t0
    have R0 : Hid (Row W3 w.heap.size (cpc { K with md := z }) 31) := q0
    have R1 : Hid (Row W3 (w.heap.size + 1) (cpc cz) 31) := q1
    have BB : Hid (Below w.heap.size w W3) := c0
    have hlt : Hid (w.heap.size < W3.heap.size) := q0.lt
    have L0 : ∀ x : Later W3, x.1.cell? ⟨w.heap.size, 35, none⟩ = some (.int .u64 (n64 (K.s 0))) := later_at q0.lt q0.cls.s0
    have hne := later_nonempty W3
    clear q0 q1 c0 t0
    refine wp_region_later (x0 := Later.start W3) (by kernel_rfl) (by kernel_rfl) ?_
    repeat (go_big_quiet_step (first | (go_at_call 19; exact calls_later_same (HB.out _)) | (go_at_call 23; exact calls_later_same (H1.out _))))
    refine wpQuiet_nil ?_
    rintro w' ⟨x9, rfl⟩
    go_upto_region 6 with fail
    refine go_on2 (motive := fun W => Code.wp _ _ _ _ W) (a := w) (B := w.heap.size) (R0.out.cb x9.below) (R1.out.cb x9.below) (BB.out.trans (x9.below.mono BB.out.size)) rfl ?_
    clear R0 R1 BB hlt L0 hne HB H1
    intro W4 q0 q1 c0 t0
    have R0 : Hid (Row W4 w.heap.size (cpc { K with md := z }) 31) := q0
    have R1 : Hid (Row W4 (w.heap.size + 1) (cpc cz) 31) := q1
    have BB : Hid (Below w.heap.size w W4) := c0
    have f0 := q0.froz
    have Kp := q0.cls.pc
    have Km : W4.cell? ⟨w.heap.size, 33, none⟩ = some (.int .i64 z) := q0.cls.md
    have K0 : W4.cell? ⟨w.heap.size, 35, none⟩ = some (.int .u64 (n64 (K.s 0))) := q0.cls.s0
    have K7 : W4.cell? ⟨w.heap.size, 42, none⟩ = some (.int .u64 (n64 (K.s 7))) := q0.cls.s7
    have Kv := q0.cls.rv
    have Ka := q0.cls.ra
    have Ks := q0.cls.rs
    clear q0 q1 c0 t0
    have hzr : ∀ W, (zeroValue 29).run Try.prog W = .ok (.agg #[.bool false, .int .u64 0, .int .i64 0]) W := fun W => by kernel_rfl
    rcases HZ with hz | hz
    · rw [if_pos hz] at HR
      have HA : Hid (RTc k = { K with pc := K.s 7, md := z, s := upd K.s 0 v4, rv := false, ra := 0#64, rs := 0 }) := by unfold Hid; rw [← HR.out]; exact HC.out
      rw [hz] at Km
      clear HC HR hz
      go_upto_region 7 with (go_at_call 23; refine (H2.out _).mono ?_; rintro e wb ⟨rfl, hwb⟩; have hwb2 := hwb.symm; subst hwb2)
      go_upto_region 8 with (go_at_call 24; refine (H3.out _).mono ?_; rintro e wb ⟨rfl, hwb⟩; have hwb2 := hwb.symm; subst hwb2)
      go_upto_region 13 with (go_at_call 23; refine (H4.out _).mono ?_; rintro e wb ⟨rfl, hwb⟩; have hwb2 := hwb.symm; subst hwb2)
      have Q := (R0.out.put (i := 35) (.int .u64 (n64 v4))).put (i := 0) (.int .u64 (n64 (K.s 7)))
      rw [cpc_s0, cpc_pc] at Q
      have Q2 := Q.nores
      refine go_on2 (motive := fun W => Code.wp _ _ _ _ W) (a := w) (B := w.heap.size) (cs := cpc { K with pc := K.s 7, md := z, s := upd K.s 0 v4, rv := false, ra := 0#64, rs := 0 }) Q2 (Row.other (Row.other (Row.other (Row.other (Row.other R1.out (by omega) _) (by omega) _) (by omega) _) (by omega) _) (by omega) _) (below_put (below_put (below_put (below_put (below_put BB.out (Nat.le_refl _) _) (Nat.le_refl _) _) (Nat.le_refl _) _) (Nat.le_refl _) _) (Nat.le_refl _) _) rfl ?_
      clear Q Q2 R0 R1 BB f0 Kp Km K0 K7 Kv Ka Ks hzr
      intro W5 q0 q1 c0 t0
      have R0 : Hid (Row W5 w.heap.size (cpc { K with pc := K.s 7, md := z, s := upd K.s 0 v4, rv := false, ra := 0#64, rs := 0 }) 31) := q0
      have R1 : Hid (Row W5 (w.heap.size + 1) (cpc cz) 31) := q1
      have BB : Hid (Below w.heap.size w W5) := c0
      clear q0 q1 c0 t0
      go_wp2_with (first | (refine wpList_load_row (by rfl) _ _ (by rfl) _ (by rfl) 31 _ (0, 0) _ R0.out Try.underlying31 (by rfl) (info_cpu _) ?_) | (refine wpList_store_row (by rfl) _ _ _ (by rfl) (by rfl) _ _ _ (by rfl) (by rfl) R1.out (info_cpu _) (by rw [cpc_size, cpc_size]) (cpc_ones _) ?_))
      refine bodyPost_ret (results_row_slot Try.results12 _ _ (w.heap.size + 1) 31 _ (0, 0) _ _ (by rfl) (by rfl) (setRow_heap _ _ _ _ _ _ R1.out) Try.underlying31 (by rfl) (info_cpu _)) rfl ?_
      exact ⟨by rw [HA.out, HW.out]; rfl, below_row BB.out (by omega) _⟩
    · rw [if_neg (by rw [hz]; decide)] at HR
      have HA : Hid (RTc k = { K with pc := K.s 7, md := z, s := upd K.s 0 v3, rv := false, ra := 0#64, rs := 0 }) := by unfold Hid; rw [← HR.out]; exact HC.out
      rw [hz] at Km
      clear HC HR hz
      go_upto_region 7 with (go_at_call 23; refine (H2.out _).mono ?_; rintro e wb ⟨rfl, hwb⟩; have hwb2 := hwb.symm; subst hwb2)
      go_upto_region 8 with (go_at_call 24; refine (H3.out _).mono ?_; rintro e wb ⟨rfl, hwb⟩; have hwb2 := hwb.symm; subst hwb2)
      go_upto_region 13 with (go_at_call 23; refine (H4.out _).mono ?_; rintro e wb ⟨rfl, hwb⟩; have hwb2 := hwb.symm; subst hwb2)
      have Q := (R0.out.put (i := 35) (.int .u64 (n64 v3))).put (i := 0) (.int .u64 (n64 (K.s 7)))
      rw [cpc_s0, cpc_pc] at Q
      have Q2 := Q.nores
      refine go_on2 (motive := fun W => Code.wp _ _ _ _ W) (a := w) (B := w.heap.size) (cs := cpc { K with pc := K.s 7, md := z, s := upd K.s 0 v3, rv := false, ra := 0#64, rs := 0 }) Q2 (Row.other (Row.other (Row.other (Row.other (Row.other R1.out (by omega) _) (by omega) _) (by omega) _) (by omega) _) (by omega) _) (below_put (below_put (below_put (below_put (below_put BB.out (Nat.le_refl _) _) (Nat.le_refl _) _) (Nat.le_refl _) _) (Nat.le_refl _) _) (Nat.le_refl _) _) rfl ?_
      clear Q Q2 R0 R1 BB f0 Kp Km K0 K7 Kv Ka Ks hzr
      intro W5 q0 q1 c0 t0
      have R0 : Hid (Row W5 w.heap.size (cpc { K with pc := K.s 7, md := z, s := upd K.s 0 v3, rv := false, ra := 0#64, rs := 0 }) 31) := q0
      have R1 : Hid (Row W5 (w.heap.size + 1) (cpc cz) 31) := q1
      have BB : Hid (Below w.heap.size w W5) := c0
      clear q0 q1 c0 t0
      go_wp2_with (first | (refine wpList_load_row (by rfl) _ _ (by rfl) _ (by rfl) 31 _ (0, 0) _ R0.out Try.underlying31 (by rfl) (info_cpu _) ?_) | (refine wpList_store_row (by rfl) _ _ _ (by rfl) (by rfl) _ _ _ (by rfl) (by rfl) R1.out (info_cpu _) (by rw [cpc_size, cpc_size]) (cpc_ones _) ?_))
      refine bodyPost_ret (results_row_slot Try.results12 _ _ (w.heap.size + 1) 31 _ (0, 0) _ _ (by rfl) (by rfl) (setRow_heap _ _ _ _ _ _ R1.out) Try.underlying31 (by rfl) (info_cpu _)) rfl ?_
      exact ⟨by rw [HA.out, HW.out]; rfl, below_row BB.out (by omega) _⟩
end Go.Proofs.Ytnejdfkmnblfeab
