/-
  Enter of the reference.
-/
import Derived.Test.YtnejdfkmnblfeabTrc
import Derived.Test.YtnejdfkmnblfeabQtl
namespace Go.Proofs.Ytnejdfkmnblfeab
set_option linter.unusedVariables false
open Go.ChangeShapes Go.WideShapes Go.ChangeAt Go.RowKit Go.Deep
/-- mstatus behind an entry; the handler's address; the Cpu behind an entry. -/
def enS (v : BitVec 64) (md : Int) : BitVec 64 := wB (sB (sB v 7 (v.getLsbD 3)) 3 false) md
def hbs (tv : BitVec 64) : BitVec 64 := tv - tv % 4#64
def hdl (tv cause : BitVec 64) : BitVec 64 := if (cause.getLsbD 63 && tv.getLsbD 0) = true then hbs tv + 4#64 * (cause - tp 63) else hbs tv
def ENc (k : Cp) (cause tval : BitVec 64) : Cp := { PR k with pc := hdl ((PR k).s 1) cause, md := 3, wt := false, s := upd (upd (upd (upd (PR k).s 7 (PR k).pc) 8 cause) 9 tval) 0 (enS ((PR k).s 0) (PR k).md), rv := false, ra := 0#64, rs := 0 }
theorem hbs_n (tv : BitVec 64) : n64 tv - n64 tv % 4 = n64 (hbs tv) := by
  have h1 : n64 tv % 4 = n64 (tv % 4#64) := n64_mod tv 4#64
  have h2 : (tv % 4#64).toNat ≤ tv.toNat := by rw [BitVec.toNat_umod]; exact Nat.mod_le _ _
  rw [h1]
  unfold hbs n64
  rw [BitVec.toNat_sub_of_le (by rw [BitVec.le_def]; exact h2)]
  omega
set_option maxRecDepth 100000 in
set_option maxHeartbeats 4000000 in
theorem rEnter_c (k : Cp) (cause tval : BitVec 64) (w : World) : Calls Try.prog 14 #[.agg (cpc k), .int .u64 (n64 cause), .int .u64 (n64 tval)] w fun e w' => e = .returned (.agg (cpc (ENc k cause tval))) ∧ Below w.heap.size w w' := by
  have hz := zero_cpu
  obtain ⟨W0, hW0, r0, r1, b0, s0⟩ := start2 w (cpc k) (cpc cz) 31 31
  have HS : Hid (W0.heap.size = w.heap.size + 2) := s0
  clear s0
  have HP : Hid (∀ W, Calls Try.prog 18 #[.agg (cpc k)] W fun e w' => e = .returned (.agg (cpc (PR k))) ∧ Below W.heap.size W w') := fun W => rPr_c k W
  have HM := PR_md k
  obtain ⟨K, hK⟩ : ∃ K, K = PR k := ⟨_, rfl⟩
  rw [← hK] at HP HM
  have HK : Hid (K = PR k) := hK
  clear hK
  go_enter Try.func14, Try.ntmps14
  go_upto_region 1 with fail
  clear hz hW0
  go_upto_region 2 with (first | (refine wpList_load_row (by rfl) _ _ (by rfl) _ (by rfl) 31 _ (0, 0) _ r0.out Try.underlying31 (by rfl) (info_cpu _) ?_) | (go_at_call 18; refine (HP.out _).mono ?_; rintro e w1 ⟨rfl, hb1⟩; have HB1 : Hid (Below W0.heap.size W0 w1) := hb1; clear hb1) | (refine wpList_store_row (by rfl) _ _ _ (by rfl) (by rfl) _ _ _ (by rfl) (by rfl) (r0.out.later HB1.out (by rw [HS.out]; omega)) (info_cpu _) (by rw [cpc_size, cpc_size]) (cpc_ones _) ?_))
  refine go_on2 (motive := fun W => Code.wp _ _ _ _ W) (a := w) (B := w.heap.size) (n := w1.heap.size) (show Row _ w.heap.size (cpc K) 31 from setRow_heap _ _ _ _ _ _ (r0.out.later HB1.out (by rw [HS.out]; omega))) (row_apart (r1.out.later HB1.out (by rw [HS.out]; omega)) (by omega) _) (below_row (b0.out.trans (HB1.out.mono b0.out.size)) (Nat.le_refl _) _) (by simp) ?_
  clear r0 r1 b0 HS HB1 HP
  intro W2 q0 q1 c0 t0
  have R0 : Hid (Row W2 w.heap.size (cpc K) 31) := q0
  have R1 : Hid (Row W2 (w.heap.size + 1) (cpc cz) 31) := q1
  have BB : Hid (Below w.heap.size w W2) := c0
  have Km := q0.cls.md
  have K0 := q0.cls.s0
  have f0 := q0.froz
  clear q0 q1 c0 t0
  have HE : Hid (ENc k cause tval = { K with pc := hdl (K.s 1) cause, md := 3, wt := false, s := upd (upd (upd (upd K.s 7 K.pc) 8 cause) 9 tval) 0 (enS (K.s 0) K.md), rv := false, ra := 0#64, rs := 0 }) := by unfold Hid ENc; rw [← HK.out]
  have HB : Hid (∀ W, Calls Try.prog 19 #[.int .u64 (n64 (K.s 0)), .int .i64 3] W fun e w' => e = .returned (.bool ((K.s 0).getLsbD 3)) ∧ w' = W) := rbit_c (K.s 0) 3 (by decide)
  have H1 : Hid (∀ W, Calls Try.prog 23 #[.int .u64 (n64 (K.s 0)), .int .i64 7, .bool ((K.s 0).getLsbD 3)] W fun e w' => e = .returned (.int .u64 (n64 (sB (K.s 0) 7 ((K.s 0).getLsbD 3)))) ∧ w' = W) := rset_c _ 7 (by decide) _
  have H2 : Hid (∀ W, Calls Try.prog 23 #[.int .u64 (n64 (sB (K.s 0) 7 ((K.s 0).getLsbD 3))), .int .i64 3, .bool false] W fun e w' => e = .returned (.int .u64 (n64 (sB (sB (K.s 0) 7 ((K.s 0).getLsbD 3)) 3 false))) ∧ w' = W) := rset_c _ 3 (by decide) _
  have H3 : Hid (∀ W, Calls Try.prog 24 #[.int .u64 (n64 (sB (sB (K.s 0) 7 ((K.s 0).getLsbD 3)) 3 false)), .int .i64 K.md] W fun e w' => e = .returned (.int .u64 (n64 (enS (K.s 0) K.md))) ∧ w' = W) := rwithBefore_c _ _
  generalize enS (K.s 0) K.md = vS at H3 HE
  generalize sB (sB (K.s 0) 7 ((K.s 0).getLsbD 3)) 3 false = v2 at H2 H3
  generalize sB (K.s 0) 7 ((K.s 0).getLsbD 3) = v1 at H1 H2
  generalize (K.s 0).getLsbD 3 = b3 at HB H1
  have Kp := R0.out.cls.pc
  have K7 := R0.out.cls.s7
  have K8 := R0.out.cls.s8
  have K9 := R0.out.cls.s9
  clear HM HK
  go_upto_region 5 with fail
  have Q := ((R0.out.put (i := 42) (.int .u64 (n64 K.pc))).put (i := 43) (.int .u64 (n64 cause))).put (i := 44) (.int .u64 (n64 tval))
  rw [cpc_s7, cpc_s8, cpc_s9] at Q
  refine go_on2 (motive := fun W => Code.wp _ _ _ _ W) (a := w) (B := w.heap.size) (cs := cpc { K with s := upd (upd (upd K.s 7 K.pc) 8 cause) 9 tval }) Q (Row.other (Row.other (Row.other R1.out (by omega) _) (by omega) _) (by omega) _) (below_put (below_put (below_put BB.out (Nat.le_refl _) _) (Nat.le_refl _) _) (Nat.le_refl _) _) rfl ?_
  clear Q R0 R1 BB Km K0 f0 Kp K7 K8 K9
  intro W3 q0 q1 c0 t0
  have R0 : Hid (Row W3 w.heap.size (cpc { K with s := upd (upd (upd K.s 7 K.pc) 8 cause) 9 tval }) 31) := q0
  have R1 : Hid (Row W3 (w.heap.size + 1) (cpc cz) 31) := q1
  have BB : Hid (Below w.heap.size w W3) := c0
  have L0 : ∀ x : Later W3, x.1.cell? ⟨w.heap.size, 35, none⟩ = some (.int .u64 (n64 (K.s 0))) := later_at q0.lt q0.cls.s0
  have hne := later_nonempty W3
  clear q0 q1 c0 t0
  refine wp_region_later (x0 := Later.start W3) (by kernel_rfl) (by kernel_rfl) ?_
  repeat (go_big_quiet_step (first | (go_at_call 19; exact calls_later_same (HB.out _)) | (go_at_call 23; exact calls_later_same (H1.out _))))
  refine wpQuiet_nil ?_
  rintro w' ⟨x9, rfl⟩
  go_upto_region 6 with fail
  refine go_on2 (motive := fun W => Code.wp _ _ _ _ W) (a := w) (B := w.heap.size) (R0.out.cb x9.below) (R1.out.cb x9.below) (BB.out.trans (x9.below.mono BB.out.size)) rfl ?_
  clear R0 R1 BB L0 hne HB H1
  intro W4 q0 q1 c0 t0
  have R0 : Hid (Row W4 w.heap.size (cpc { K with s := upd (upd (upd K.s 7 K.pc) 8 cause) 9 tval }) 31) := q0
  have R1 : Hid (Row W4 (w.heap.size + 1) (cpc cz) 31) := q1
  have BB : Hid (Below w.heap.size w W4) := c0
  have f0 := q0.froz
  have Kp := q0.cls.pc
  have Km := q0.cls.md
  have Kw := q0.cls.wt
  have K0 : W4.cell? ⟨w.heap.size, 35, none⟩ = some (.int .u64 (n64 (K.s 0))) := q0.cls.s0
  have K1 : W4.cell? ⟨w.heap.size, 36, none⟩ = some (.int .u64 (n64 (K.s 1))) := q0.cls.s1
  have Kv := q0.cls.rv
  have Ka := q0.cls.ra
  have Ks := q0.cls.rs
  clear q0 q1 c0 t0
  have hzr : ∀ W, (zeroValue 29).run Try.prog W = .ok (.agg #[.bool false, .int .u64 0, .int .i64 0]) W := fun W => by kernel_rfl
  have hbn := hbs_n (K.s 1)
  have hlo := n64_lo (K.s 1)
  have hhi := n64_hi (K.s 1)
  go_upto_region 7 with (go_at_call 23; refine (H2.out _).mono ?_; rintro e wb ⟨rfl, hwb⟩; have hwb2 := hwb.symm; subst hwb2)
  go_upto_region 12 with (go_at_call 24; refine (H3.out _).mono ?_; rintro e wb ⟨rfl, hwb⟩; have hwb2 := hwb.symm; subst hwb2)
  have Q := ((R0.out.put (i := 35) (.int .u64 (n64 vS))).put (i := 33) (.int .i64 3)).put (i := 34) (.bool false)
  rw [cpc_s0, cpc_md, cpc_wt] at Q
  have Q2 := Q.nores.put (i := 0) (.int .u64 (n64 (hbs (K.s 1))))
  rw [cpc_pc] at Q2
  try rw [hbn]
  refine go_on2 (motive := fun W => Code.wp _ _ _ _ W) (a := w) (B := w.heap.size) (cs := cpc { K with pc := hbs (K.s 1), md := 3, wt := false, s := upd (upd (upd (upd K.s 7 K.pc) 8 cause) 9 tval) 0 vS, rv := false, ra := 0#64, rs := 0 }) Q2 (Row.other (Row.other (Row.other (Row.other (Row.other (Row.other (Row.other R1.out (by omega) _) (by omega) _) (by omega) _) (by omega) _) (by omega) _) (by omega) _) (by omega) _) (below_put (below_put (below_put (below_put (below_put (below_put (below_put BB.out (Nat.le_refl _) _) (Nat.le_refl _) _) (Nat.le_refl _) _) (Nat.le_refl _) _) (Nat.le_refl _) _) (Nat.le_refl _) _) (Nat.le_refl _) _) rfl ?_
  clear Q Q2 R0 R1 BB f0 Kp Km Kw K0 K1 Kv Ka Ks hzr hbn hlo hhi H2 H3
  intro W5 q0 q1 c0 t0
  have R0 : Hid (Row W5 w.heap.size (cpc { K with pc := hbs (K.s 1), md := 3, wt := false, s := upd (upd (upd (upd K.s 7 K.pc) 8 cause) 9 tval) 0 vS, rv := false, ra := 0#64, rs := 0 }) 31) := q0
  have R1 : Hid (Row W5 (w.heap.size + 1) (cpc cz) 31) := q1
  have BB : Hid (Below w.heap.size w W5) := c0
  have K1 : W5.cell? ⟨w.heap.size, 36, none⟩ = some (.int .u64 (n64 (K.s 1))) := q0.cls.s1
  have Lp : ∀ x : Later W5, x.1.cell? ⟨w.heap.size, 0, none⟩ = some (.int .u64 (n64 (hbs (K.s 1)))) := later_at q0.lt q0.cls.pc
  clear q0 q1 c0 t0
  have HB1 : Hid (∀ W, Calls Try.prog 19 #[.int .u64 (n64 cause), .int .i64 63] W fun e w' => e = .returned (.bool (cause.getLsbD 63)) ∧ w' = W) := rbit_c cause 63 (by decide)
  have HB2 : Hid (∀ W, Calls Try.prog 19 #[.int .u64 (n64 (K.s 1)), .int .i64 0] W fun e w' => e = .returned (.bool ((K.s 1).getLsbD 0)) ∧ w' = W) := rbit_c (K.s 1) 0 (by decide)
  have HPw : Hid (∀ W, Calls Try.prog 28 #[.int .i64 63] W fun e w' => e = .returned (.int .u64 (n64 (tp 63))) ∧ w' = W) := rpower_c 63 (by decide)
  have HH : Hid (hdl (K.s 1) cause = if (cause.getLsbD 63 && (K.s 1).getLsbD 0) = true then hbs (K.s 1) + 4#64 * (cause - tp 63) else hbs (K.s 1)) := rfl
  have m1 : IntKind.u64.wrap (n64 cause - n64 (tp 63)) = n64 (cause - tp 63) := n64_sub _ _
  have m2 : IntKind.u64.wrap (4 * n64 (cause - tp 63)) = n64 (4#64 * (cause - tp 63)) := n64_mul 4#64 _
  have m3 : IntKind.u64.wrap (n64 (hbs (K.s 1)) + n64 (4#64 * (cause - tp 63))) = n64 (hbs (K.s 1) + 4#64 * (cause - tp 63)) := n64_add _ _
  generalize hbs (K.s 1) + 4#64 * (cause - tp 63) = vp at m3 HH
  generalize 4#64 * (cause - tp 63) = vq at m2 m3
  generalize cause - tp 63 = vc at m1 m2
  generalize n64 (tp 63) = pw at m1 HPw
  generalize cause.getLsbD 63 = b1 at HB1 HH
  generalize (K.s 1).getLsbD 0 = b2 at HB2 HH
  go_upto_region 13 with (go_at_call 19; refine (HB1.out _).mono ?_; rintro e wb ⟨rfl, hwb⟩; have hwb2 := hwb.symm; subst hwb2)
  go_upto_region 14 with (go_at_call 19; refine (HB2.out _).mono ?_; rintro e wb ⟨rfl, hwb⟩; have hwb2 := hwb.symm; subst hwb2)
  clear K1 HB1 HB2
  by_cases hbb : b1 = true ∧ b2 = true
  · obtain ⟨rfl, rfl⟩ := hbb
    rw [if_pos (by decide)] at HH
    rw [HH.out] at HE
    have hne := later_nonempty W5
    go_upto_region 15 with fail
    refine wp_region_later_tail (x0 := Later.start W5) 8 (by kernel_rfl) (by kernel_rfl) ?_
    simp only [List.take_succ_cons, List.take_zero, List.drop_succ_cons, List.drop_zero]
    repeat (go_big_quiet_step (first | (go_at_call 28; exact calls_later_same (HPw.out _))))
    refine wpQuiet_nil ?_
    rintro w' ⟨x9, rfl⟩
    have R9 : Hid (Row x9.1 w.heap.size (cpc { K with pc := hbs (K.s 1), md := 3, wt := false, s := upd (upd (upd (upd K.s 7 K.pc) 8 cause) 9 tval) 0 vS, rv := false, ra := 0#64, rs := 0 }) 31) := R0.out.cb x9.below
    have f9 := R9.out.froz
    have Kp := R9.out.cls.pc
    go_upto_region 16 with fail
    have Q := R9.out.put (i := 0) (.int .u64 (n64 vp))
    rw [cpc_pc] at Q
    refine go_on2 (motive := fun W => Code.wp _ _ _ _ W) (a := w) (B := w.heap.size) (cs := cpc (ENc k cause tval)) (row_cast Q (by rw [HE.out])) (Row.other (R1.out.cb x9.below) (by omega) _) (below_put (BB.out.trans (x9.below.mono BB.out.size)) (Nat.le_refl _) _) rfl ?_
    clear Q R9 f9 Kp R0 R1 BB Lp hne m1 m2 m3 HPw HE HH
    intro W6 q0 q1 c0 t0
    have R0 : Hid (Row W6 w.heap.size (cpc (ENc k cause tval)) 31) := q0
    have R1 : Hid (Row W6 (w.heap.size + 1) (cpc cz) 31) := q1
    have BB : Hid (Below w.heap.size w W6) := c0
    clear q0 q1 c0 t0
    go_wp2_with (first | (refine wpList_load_row (by rfl) _ _ (by rfl) _ (by rfl) 31 _ (0, 0) _ R0.out Try.underlying31 (by rfl) (info_cpu _) ?_) | (refine wpList_store_row (by rfl) _ _ _ (by rfl) (by rfl) _ _ _ (by rfl) (by rfl) R1.out (info_cpu _) (by rw [cpc_size, cpc_size]) (cpc_ones _) ?_))
    refine bodyPost_ret (v := .agg (cpc (ENc k cause tval))) (results_cell_row Try.results14 _ _ (w.heap.size + 1) 31 _ (0, 0) _ (by rfl) (setRow_heap _ _ _ _ _ _ R1.out) Try.underlying31 (by rfl) (info_cpu _)) rfl ⟨rfl, below_row BB.out (by omega) _⟩
  · have hf : (b1 && b2) = false := by cases b1 <;> cases b2 <;> simp_all
    rw [if_neg (by rw [hf]; decide)] at HH
    rw [HH.out] at HE
    go_upto_region 16 with fail
    all_goals try (exfalso; simp_all; done)
    all_goals (
      refine go_on2 (motive := fun W => Code.wp _ _ _ _ W) (a := w) (B := w.heap.size) (cs := cpc (ENc k cause tval)) (row_cast R0.out (by rw [HE.out])) R1.out BB.out rfl ?_
      clear R0 R1 BB Lp m1 m2 m3 HPw HE HH
      intro W6 q0 q1 c0 t0
      have R0 : Hid (Row W6 w.heap.size (cpc (ENc k cause tval)) 31) := q0
      have R1 : Hid (Row W6 (w.heap.size + 1) (cpc cz) 31) := q1
      have BB : Hid (Below w.heap.size w W6) := c0
      clear q0 q1 c0 t0
      go_wp2_with (first | (refine wpList_load_row (by rfl) _ _ (by rfl) _ (by rfl) 31 _ (0, 0) _ R0.out Try.underlying31 (by rfl) (info_cpu _) ?_) | (refine wpList_store_row (by rfl) _ _ _ (by rfl) (by rfl) _ _ _ (by rfl) (by rfl) R1.out (info_cpu _) (by rw [cpc_size, cpc_size]) (cpc_ones _) ?_))
      refine bodyPost_ret (v := .agg (cpc (ENc k cause tval))) (results_cell_row Try.results14 _ _ (w.heap.size + 1) 31 _ (0, 0) _ (by rfl) (setRow_heap _ _ _ _ _ _ R1.out) Try.underlying31 (by rfl) (info_cpu _)) rfl ⟨rfl, below_row BB.out (by omega) _⟩)
end Go.Proofs.Ytnejdfkmnblfeab
