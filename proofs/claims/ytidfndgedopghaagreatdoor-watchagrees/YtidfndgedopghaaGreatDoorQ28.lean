/-
  Ue.
-/
import Derived.Test.YtidfndgedopghaaGreatDoorQ23
import Derived.Test.YtidfndgedopghaaGreatDoorQ24
import Derived.Test.YtidfndgedopghaaGreatDoorQ27
namespace Go.Proofs.YtidfndgedopghaaGreatDoor
set_option linter.unusedVariables false
set_option maxRecDepth 100000
set_option maxHeartbeats 4000000
open Go.ChangeShapes Go.WideShapes Go.ChangeAt Go.RowKit Go.Deep
def oB (b : Bool) : BitVec 64 := if b then 1#64 else 0#64
theorem uOne_c (b : Bool) (w : World) : Calls Tryz.prog 92 #[.bool b] w fun e w' => e = .returned (.int .u64 (n64 (oB b))) ∧ w' = w := by
  cases b with
  | true =>
    go_enter Tryz.func92, Tryz.ntmps92
    go_wp2
    go_ret
    exact ⟨rfl, rfl⟩
  | false =>
    go_enter Tryz.func92, Tryz.ntmps92
    go_wp2
    go_ret
    exact ⟨rfl, rfl⟩
def cyB (k : Cp) : Bool := bits .and .u64 (n64 (k.s 4)) 1 == 0
theorem uCy_c (k : Cp) (w : World) : Calls Tryz.prog 87 #[.agg (cpc k)] w fun e w' => e = .returned (.int .u64 (n64 (oB (cyB k)))) ∧ Below w.heap.size w w' := by
  obtain ⟨W0, hW0, r0, b0, s0⟩ := start1 w (cpc k) 32
  have BB := Hid.mkU b0.out
  clear s0 b0
  have HM : Hid ((cyB k) = (bits .and .u64 (n64 (k.s 4)) 1 == 0)) := rfl
  have c0_s4 : ∀ x : Later W0, x.1.cell? ⟨w.heap.size, 39, none⟩ = some (.int .u64 (n64 (k.s 4))) := fun x => ((lrow r0.out x).cell 39).trans (cpc_at _ 39 (by omega))
  have HON : Hid (∀ (b : Bool) W, Calls Tryz.prog 92 #[.bool b] W fun e w' => e = .returned (.int .u64 (n64 (oB b))) ∧ w' = W) := uOne_c
  generalize hZ : (cyB k) = Z at HM ⊢
  clear hZ
  go_enter Tryz.func87, Tryz.ntmps87
  go_upto_region 1 with fail
  clear hW0
  have hne := later_nonempty W0
  cases q1 : (bits .and .u64 (n64 (k.s 4)) 1 == 0) with
  | true =>
    have HV : Hid (Z = true) := (by unfold Hid; rw [HM.out]; first | (rw [q1]; done) | (rw [q1]; rfl))
    clear HM
    refine wp_region_plain (x0 := Later.start W0) ?_
    iterate 4 (go_big_quiet_step (fail))
    (go_big_quiet_step ((go_at_call 92; exact calls_later_same (HON.out _ _))))
    (go_big_quiet_step (fail))
    refine wpQuiet_nil ?_
    rintro _ ⟨yq, rfl⟩
    go_wp2
    go_ret
    exact ⟨by rw [HV.out]; first | done | rfl, BB.out.trans (yq.2.mono BB.out.size)⟩
  | false =>
    have HV : Hid (Z = false) := (by unfold Hid; rw [HM.out]; first | (rw [q1]; done) | (rw [q1]; rfl))
    clear HM
    refine wp_region_plain (x0 := Later.start W0) ?_
    iterate 4 (go_big_quiet_step (fail))
    (go_big_quiet_step ((go_at_call 92; exact calls_later_same (HON.out _ _))))
    (go_big_quiet_step (fail))
    refine wpQuiet_nil ?_
    rintro _ ⟨yq, rfl⟩
    go_wp2
    go_ret
    exact ⟨by rw [HV.out]; first | done | rfl, BB.out.trans (yq.2.mono BB.out.size)⟩
def rtB (r : Rw) (k : Cp) : Bool := ((r.kd == 1) && (bits .and .u64 (n64 (k.s 4)) 4 == 0))
theorem uRt_c (r : Rw) (k : Cp) (w : World) : Calls Tryz.prog 89 #[.agg (rwc r), .agg (cpc k)] w fun e w' => e = .returned (.int .u64 (n64 (oB (rtB r k)))) ∧ Below w.heap.size w w' := by
  obtain ⟨W0, hW0, r0, r1, b0, s0⟩ := start2 w (rwc r) (cpc k) 52 32
  have BB := Hid.mkU b0.out
  clear s0 b0
  have HM : Hid ((rtB r k) = ((r.kd == 1) && (bits .and .u64 (n64 (k.s 4)) 4 == 0))) := rfl
  have c0_kd : ∀ x : Later W0, x.1.cell? ⟨w.heap.size, 1, none⟩ = some (.int .i64 r.kd) := fun x => (lrow r0.out x).cell 1
  have c1_s4 : ∀ x : Later W0, x.1.cell? ⟨w.heap.size + 1, 39, none⟩ = some (.int .u64 (n64 (k.s 4))) := fun x => ((lrow r1.out x).cell 39).trans (cpc_at _ 39 (by omega))
  have HON : Hid (∀ (b : Bool) W, Calls Tryz.prog 92 #[.bool b] W fun e w' => e = .returned (.int .u64 (n64 (oB b))) ∧ w' = W) := uOne_c
  generalize hZ : (rtB r k) = Z at HM ⊢
  clear hZ
  go_enter Tryz.func89, Tryz.ntmps89
  go_upto_region 1 with fail
  clear hW0
  have hne := later_nonempty W0
  cases q1 : (r.kd == 1) with
  | true =>
    cases q2 : (bits .and .u64 (n64 (k.s 4)) 4 == 0) with
    | true =>
      have HV : Hid (Z = true) := (by unfold Hid; rw [HM.out]; first | (rw [q1, q2]; done) | (rw [q1, q2]; rfl))
      clear HM
      refine wp_region_plain (x0 := Later.start W0) ?_
      iterate 9 (go_big_quiet_step (fail))
      (go_big_quiet_step ((go_at_call 92; exact calls_later_same (HON.out _ _))))
      (go_big_quiet_step (fail))
      refine wpQuiet_nil ?_
      rintro _ ⟨yq, rfl⟩
      go_wp2
      go_ret
      exact ⟨by rw [HV.out]; first | done | rfl, BB.out.trans (yq.2.mono BB.out.size)⟩
    | false =>
      have HV : Hid (Z = false) := (by unfold Hid; rw [HM.out]; first | (rw [q1, q2]; done) | (rw [q1, q2]; rfl))
      clear HM
      refine wp_region_plain (x0 := Later.start W0) ?_
      iterate 9 (go_big_quiet_step (fail))
      (go_big_quiet_step ((go_at_call 92; exact calls_later_same (HON.out _ _))))
      (go_big_quiet_step (fail))
      refine wpQuiet_nil ?_
      rintro _ ⟨yq, rfl⟩
      go_wp2
      go_ret
      exact ⟨by rw [HV.out]; first | done | rfl, BB.out.trans (yq.2.mono BB.out.size)⟩
  | false =>
    have HV : Hid (Z = false) := (by unfold Hid; rw [HM.out]; first | (rw [q1]; done) | (rw [q1]; rfl))
    clear HM
    refine wp_region_plain (x0 := Later.start W0) ?_
    iterate 9 (go_big_quiet_step (fail))
    (go_big_quiet_step ((go_at_call 92; exact calls_later_same (HON.out _ _))))
    (go_big_quiet_step (fail))
    refine wpQuiet_nil ?_
    rintro _ ⟨yq, rfl⟩
    go_wp2
    go_ret
    exact ⟨by rw [HV.out]; first | done | rfl, BB.out.trans (yq.2.mono BB.out.size)⟩
theorem m136 : ∀ i, i < 64 → (136#64).getLsbD i = (decide (i = 3) || decide (i = 7)) := by decide
theorem m128 : ∀ i, i < 64 → (128#64).getLsbD i = decide (i = 7) := by decide
theorem en_t (v : BitVec 64) (h : v.getLsbD 3 = true) : v &&& ~~~136#64 ||| 128#64 = sB (sB v 7 (v.getLsbD 3)) 3 false := by
  rw [h]; unfold sB; rw [if_pos rfl, if_neg (by decide)]
  apply BitVec.eq_of_getLsbD_eq
  intro i hi
  simp only [BitVec.getLsbD_or, BitVec.getLsbD_and, BitVec.getLsbD_not, hi, decide_true, Bool.true_and, m136 i hi, m128 i hi, tp_bit _ _ (by decide : 7 < 64) hi, tp_bit _ _ (by decide : 3 < 64) hi]
  by_cases h3 : i = 3
  · subst h3; simp
  · by_cases h7 : i = 7
    · subst h7; simp
    · simp [h3, h7]
theorem en_f (v : BitVec 64) (h : v.getLsbD 3 = false) : v &&& ~~~136#64 = sB (sB v 7 (v.getLsbD 3)) 3 false := by
  rw [h]; unfold sB; rw [if_neg (by decide), if_neg (by decide)]
  apply BitVec.eq_of_getLsbD_eq
  intro i hi
  simp only [BitVec.getLsbD_and, BitVec.getLsbD_not, hi, decide_true, Bool.true_and, m136 i hi, tp_bit _ _ (by decide : 7 < 64) hi, tp_bit _ _ (by decide : 3 < 64) hi]
  by_cases h3 : i = 3
  · subst h3; simp
  · by_cases h7 : i = 7
    · subst h7; simp
    · simp [h3, h7]
theorem uEn_c (v : BitVec 64) (m : Int) (hm : m = 0 ∨ m = 3) (w : World) : Calls Tryz.prog 137 #[.int .u64 (n64 v), .int .i64 m] w fun e w' => e = .returned (.int .u64 (n64 (enS v m))) ∧ w' = w := by
  have b0 : bits .andNot .u64 (n64 v) 136 = n64 (v &&& ~~~136#64) := n64_andNot v 136#64
  have b1 : bits .or .u64 (n64 (v &&& ~~~136#64)) 128 = n64 (v &&& ~~~136#64 ||| 128#64) := n64_or _ 128#64
  have b2 : bits .and .u64 (n64 v) 8 = n64 (v &&& tp 3) := n64_and v (tp 3)
  have b3 := bit_ne v 3 (by decide)
  generalize n64 (v &&& tp 3) = y at b2 b3
  cases h : v.getLsbD 3 with
  | true =>
    have HW : Hid (∀ W, Calls Tryz.prog 163 #[.int .u64 (n64 (v &&& ~~~136#64 ||| 128#64)), .int .i64 m] W fun e w' => e = .returned (.int .u64 (n64 (enS v m))) ∧ w' = W) := fun W => by rw [en_t v h]; exact withB_c _ m hm W
    rw [h] at b3
    generalize n64 (enS v m) = z at HW ⊢
    generalize n64 (v &&& ~~~136#64 ||| 128#64) = y1 at *
    generalize n64 (v &&& ~~~136#64) = y0 at *
    generalize n64 v = x at *
    clear h hm
    go_enter Tryz.func137, Tryz.ntmps137
    go_wp2_with (go_at_call 163; refine (HW.out _).mono ?_; rintro e wb ⟨rfl, hwb⟩; have hwb2 := hwb.symm; subst hwb2)
    go_ret
    exact ⟨rfl, rfl⟩
  | false =>
    have HW : Hid (∀ W, Calls Tryz.prog 163 #[.int .u64 (n64 (v &&& ~~~136#64)), .int .i64 m] W fun e w' => e = .returned (.int .u64 (n64 (enS v m))) ∧ w' = W) := fun W => by rw [en_f v h]; exact withB_c _ m hm W
    rw [h] at b3
    clear b1
    generalize n64 (enS v m) = z at HW ⊢
    generalize n64 (v &&& ~~~136#64) = y0 at *
    generalize n64 v = x at *
    clear h hm
    go_enter Tryz.func137, Tryz.ntmps137
    go_wp2_with (go_at_call 163; refine (HW.out _).mono ?_; rintro e wb ⟨rfl, hwb⟩; have hwb2 := hwb.symm; subst hwb2)
    go_ret
    exact ⟨rfl, rfl⟩
theorem cause_63 (c : BitVec 64) (h : c.getLsbD 63 = true) : c &&& ~~~tp 63 = c - tp 63 := by
  have h63 : c &&& tp 63 = tp 63 := by
    apply BitVec.eq_of_getLsbD_eq; intro i hi
    rw [BitVec.getLsbD_and, tp_bit _ _ (by decide) hi]
    by_cases e : i = 63
    · subst e; simp [h]
    · simp [e]
  have s : (c &&& ~~~tp 63) + (c &&& tp 63) = c := by
    rw [BitVec.add_eq_or_of_and_eq_zero]
    · apply BitVec.eq_of_getLsbD_eq; intro i hi
      simp only [BitVec.getLsbD_or, BitVec.getLsbD_and, BitVec.getLsbD_not, hi, decide_true, Bool.true_and]
      cases c.getLsbD i <;> cases (tp 63).getLsbD i <;> simp
    · apply BitVec.eq_of_getLsbD_eq; intro i hi
      simp only [BitVec.getLsbD_and, BitVec.getLsbD_not, BitVec.getLsbD_zero]
      cases c.getLsbD i <;> cases (tp 63).getLsbD i <;> simp
  rw [h63] at s
  calc c &&& ~~~tp 63 = (c &&& ~~~tp 63) + tp 63 - tp 63 := by rw [BitVec.add_sub_cancel]
    _ = c - tp 63 := by rw [s]
theorem uHd_c (tv c : BitVec 64) (w : World) : Calls Tryz.prog 138 #[.int .u64 (n64 tv), .int .u64 (n64 c)] w fun e w' => e = .returned (.int .u64 (n64 (hdl tv c))) ∧ w' = w := by
  have b0 : bits .andNot .u64 (n64 tv) 3 = n64 (tv &&& ~~~3#64) := n64_andNot tv 3#64
  have b1 : bits .and .u64 (n64 tv) 1 = n64 (tv &&& tp 0) := n64_and tv (tp 0)
  have b2 := bit_ne tv 0 (by decide)
  have b3 : bits .and .u64 (n64 c) 9223372036854775808 = n64 (c &&& tp 63) := n64_and c (tp 63)
  have b4 := bit_ne c 63 (by decide)
  have b5 : bits .andNot .u64 (n64 c) 9223372036854775808 = n64 (c &&& ~~~tp 63) := n64_andNot c (tp 63)
  rw [hbs_and] at b0
  have m2 : IntKind.u64.wrap (4 * n64 (c - tp 63)) = n64 (4#64 * (c - tp 63)) := n64_mul 4#64 _
  have m3 : IntKind.u64.wrap (n64 (hbs tv) + n64 (4#64 * (c - tp 63))) = n64 (hbs tv + 4#64 * (c - tp 63)) := n64_add _ _
  unfold hdl
  generalize n64 (tv &&& tp 0) = y1 at b1 b2
  generalize n64 (c &&& tp 63) = y5 at b3 b4
  cases hc : c.getLsbD 63 with
  | true =>
    rw [cause_63 c hc] at b5
    rw [hc] at b4
    cases ht : tv.getLsbD 0 with
    | true =>
      rw [ht] at b2
      rw [if_pos (by rfl)]
      clear hc ht
      generalize n64 (hbs tv + 4#64 * (c - tp 63)) = y4 at m3 ⊢
      generalize n64 (4#64 * (c - tp 63)) = y3 at m2 m3
      generalize n64 (c - tp 63) = y2 at *
      generalize n64 (hbs tv) = y0 at *
      generalize n64 tv = x at *
      generalize n64 c = xc at *
      go_enter Tryz.func138, Tryz.ntmps138
      go_wp2
      go_ret
      exact ⟨by rfl, rfl⟩
    | false =>
      rw [ht] at b2
      rw [if_neg (by simp)]
      clear hc ht m2 m3 b5
      generalize n64 (hbs tv) = y0 at *
      generalize n64 tv = x at *
      generalize n64 c = xc at *
      go_enter Tryz.func138, Tryz.ntmps138
      go_wp2
      go_ret
      exact ⟨by rfl, rfl⟩
  | false =>
    rw [hc] at b4
    rw [if_neg (by simp)]
    clear hc m2 m3 b5 b1 b2
    generalize n64 (hbs tv) = y0 at *
    generalize n64 tv = x at *
    generalize n64 c = xc at *
    go_enter Tryz.func138, Tryz.ntmps138
    go_wp2
    go_ret
    exact ⟨by rfl, rfl⟩
def mp1 (S : St) : Bool := ((bits .and .u32 S.msip 1 != 0) || (S.soft))
def mp2 (S : St) : Bool := (decide (S.cmp ≤ S.time))
def mp3 (S : St) : Bool := ((S.ext) || ((bits .and .u8 S.ier 1 != 0) && (decide (0 < S.inp.length))))
def mpV (S : St) : BitVec 64 := (if mp1 S then 8#64 else 0#64) ||| (if mp2 S then 128#64 else 0#64) ||| (if mp3 S then 2048#64 else 0#64)
theorem uMip_c (S : St) (vr vo : Value) (ai : Option Addr) (ci : Nat) (w : World) : Calls Tryz.prog 83 #[.agg (stc S vr (.slice ai S.inp.length ci) vo)] w fun e w' => e = .returned (.int .u64 (n64 (mpV S))) ∧ Below w.heap.size w w' := by
  obtain ⟨W0, hW0, r0, b0, s0⟩ := start1 w (stc S vr (.slice ai S.inp.length ci) vo) 44
  have BB := Hid.mkU b0.out
  clear s0 b0
  have c_msip : W0.cell? ⟨w.heap.size, 1, none⟩ = some (.int .u32 S.msip) := r0.out.cell 1
  have c_cmp : W0.cell? ⟨w.heap.size, 2, none⟩ = some (.int .u64 S.cmp) := r0.out.cell 2
  have c_time : W0.cell? ⟨w.heap.size, 3, none⟩ = some (.int .u64 S.time) := r0.out.cell 3
  have c_ext : W0.cell? ⟨w.heap.size, 4, none⟩ = some (.bool S.ext) := r0.out.cell 4
  have c_soft : W0.cell? ⟨w.heap.size, 5, none⟩ = some (.bool S.soft) := r0.out.cell 5
  have c_ier : W0.cell? ⟨w.heap.size, 6, none⟩ = some (.int .u8 S.ier) := r0.out.cell 6
  have c_i : W0.cell? ⟨w.heap.size, 11, none⟩ = some (.slice ai S.inp.length ci) := r0.out.cell 11
  have HM : Hid (mpV S = (if mp1 S then 8#64 else 0#64) ||| (if mp2 S then 128#64 else 0#64) ||| (if mp3 S then 2048#64 else 0#64)) := rfl
  have H1 : Hid (mp1 S = ((bits .and .u32 S.msip 1 != 0) || (S.soft))) := rfl
  have H2 : Hid (mp2 S = (decide (S.cmp ≤ S.time))) := rfl
  have H3 : Hid (mp3 S = ((S.ext) || ((bits .and .u8 S.ier 1 != 0) && (decide (0 < S.inp.length))))) := rfl
  generalize mpV S = Z at HM ⊢
  generalize mp1 S = m1 at *
  generalize mp2 S = m2 at *
  generalize mp3 S = m3 at *
  generalize S.msip = x1 at *
  generalize S.soft = x2 at *
  generalize S.cmp = x3 at *
  generalize S.time = x4 at *
  generalize S.ext = x5 at *
  generalize S.ier = x6 at *
  generalize S.inp.length = x7 at *
  go_enter Tryz.func83, Tryz.ntmps83
  go_upto_region 1 with fail
  clear hW0
  cases q1 : (bits .and .u32 x1 1 != 0) with
  | true =>
    cases q2 : (decide (x3 ≤ x4)) with
    | true =>
      cases x5 with
      | true =>
        have HV : Hid (Z = 2184#64) := (by unfold Hid; rw [HM.out, show m1 = true from (by rw [H1.out]; first | (rw [q1]; done) | (rw [q1]; rfl)), show m2 = true from (by rw [H2.out]; first | (rw [q2]; done) | (rw [q2]; rfl)), show m3 = true from (by rw [H3.out]; rfl)]; decide)
        clear HM H1 H2 H3
        go_wp2
        go_ret
        exact ⟨by rw [HV.out]; first | done | rfl | kernel_rfl, BB.out⟩
      | false =>
        cases q3 : (bits .and .u8 x6 1 != 0) with
        | true =>
          cases q4 : (decide (0 < x7)) with
          | true =>
            have HV : Hid (Z = 2184#64) := (by unfold Hid; rw [HM.out, show m1 = true from (by rw [H1.out]; first | (rw [q1]; done) | (rw [q1]; rfl)), show m2 = true from (by rw [H2.out]; first | (rw [q2]; done) | (rw [q2]; rfl)), show m3 = true from (by rw [H3.out]; first | (rw [q3, q4]; done) | (rw [q3, q4]; rfl))]; decide)
            clear HM H1 H2 H3
            go_wp2
            go_ret
            exact ⟨by rw [HV.out]; first | done | rfl | kernel_rfl, BB.out⟩
          | false =>
            have HV : Hid (Z = 136#64) := (by unfold Hid; rw [HM.out, show m1 = true from (by rw [H1.out]; first | (rw [q1]; done) | (rw [q1]; rfl)), show m2 = true from (by rw [H2.out]; first | (rw [q2]; done) | (rw [q2]; rfl)), show m3 = false from (by rw [H3.out]; first | (rw [q3, q4]; done) | (rw [q3, q4]; rfl))]; decide)
            clear HM H1 H2 H3
            go_wp2
            go_ret
            exact ⟨by rw [HV.out]; first | done | rfl | kernel_rfl, BB.out⟩
        | false =>
          have HV : Hid (Z = 136#64) := (by unfold Hid; rw [HM.out, show m1 = true from (by rw [H1.out]; first | (rw [q1]; done) | (rw [q1]; rfl)), show m2 = true from (by rw [H2.out]; first | (rw [q2]; done) | (rw [q2]; rfl)), show m3 = false from (by rw [H3.out]; first | (rw [q3]; done) | (rw [q3]; rfl))]; decide)
          clear HM H1 H2 H3
          go_wp2
          go_ret
          exact ⟨by rw [HV.out]; first | done | rfl | kernel_rfl, BB.out⟩
    | false =>
      cases x5 with
      | true =>
        have HV : Hid (Z = 2056#64) := (by unfold Hid; rw [HM.out, show m1 = true from (by rw [H1.out]; first | (rw [q1]; done) | (rw [q1]; rfl)), show m2 = false from (by rw [H2.out]; first | (rw [q2]; done) | (rw [q2]; rfl)), show m3 = true from (by rw [H3.out]; rfl)]; decide)
        clear HM H1 H2 H3
        go_wp2
        go_ret
        exact ⟨by rw [HV.out]; first | done | rfl | kernel_rfl, BB.out⟩
      | false =>
        cases q5 : (bits .and .u8 x6 1 != 0) with
        | true =>
          cases q6 : (decide (0 < x7)) with
          | true =>
            have HV : Hid (Z = 2056#64) := (by unfold Hid; rw [HM.out, show m1 = true from (by rw [H1.out]; first | (rw [q1]; done) | (rw [q1]; rfl)), show m2 = false from (by rw [H2.out]; first | (rw [q2]; done) | (rw [q2]; rfl)), show m3 = true from (by rw [H3.out]; first | (rw [q5, q6]; done) | (rw [q5, q6]; rfl))]; decide)
            clear HM H1 H2 H3
            go_wp2
            go_ret
            exact ⟨by rw [HV.out]; first | done | rfl | kernel_rfl, BB.out⟩
          | false =>
            have HV : Hid (Z = 8#64) := (by unfold Hid; rw [HM.out, show m1 = true from (by rw [H1.out]; first | (rw [q1]; done) | (rw [q1]; rfl)), show m2 = false from (by rw [H2.out]; first | (rw [q2]; done) | (rw [q2]; rfl)), show m3 = false from (by rw [H3.out]; first | (rw [q5, q6]; done) | (rw [q5, q6]; rfl))]; decide)
            clear HM H1 H2 H3
            go_wp2
            go_ret
            exact ⟨by rw [HV.out]; first | done | rfl | kernel_rfl, BB.out⟩
        | false =>
          have HV : Hid (Z = 8#64) := (by unfold Hid; rw [HM.out, show m1 = true from (by rw [H1.out]; first | (rw [q1]; done) | (rw [q1]; rfl)), show m2 = false from (by rw [H2.out]; first | (rw [q2]; done) | (rw [q2]; rfl)), show m3 = false from (by rw [H3.out]; first | (rw [q5]; done) | (rw [q5]; rfl))]; decide)
          clear HM H1 H2 H3
          go_wp2
          go_ret
          exact ⟨by rw [HV.out]; first | done | rfl | kernel_rfl, BB.out⟩
  | false =>
    cases x2 with
    | true =>
      cases q7 : (decide (x3 ≤ x4)) with
      | true =>
        cases x5 with
        | true =>
          have HV : Hid (Z = 2184#64) := (by unfold Hid; rw [HM.out, show m1 = true from (by rw [H1.out]; first | (rw [q1]; done) | (rw [q1]; rfl)), show m2 = true from (by rw [H2.out]; first | (rw [q7]; done) | (rw [q7]; rfl)), show m3 = true from (by rw [H3.out]; rfl)]; decide)
          clear HM H1 H2 H3
          go_wp2
          go_ret
          exact ⟨by rw [HV.out]; first | done | rfl | kernel_rfl, BB.out⟩
        | false =>
          cases q8 : (bits .and .u8 x6 1 != 0) with
          | true =>
            cases q9 : (decide (0 < x7)) with
            | true =>
              have HV : Hid (Z = 2184#64) := (by unfold Hid; rw [HM.out, show m1 = true from (by rw [H1.out]; first | (rw [q1]; done) | (rw [q1]; rfl)), show m2 = true from (by rw [H2.out]; first | (rw [q7]; done) | (rw [q7]; rfl)), show m3 = true from (by rw [H3.out]; first | (rw [q8, q9]; done) | (rw [q8, q9]; rfl))]; decide)
              clear HM H1 H2 H3
              go_wp2
              go_ret
              exact ⟨by rw [HV.out]; first | done | rfl | kernel_rfl, BB.out⟩
            | false =>
              have HV : Hid (Z = 136#64) := (by unfold Hid; rw [HM.out, show m1 = true from (by rw [H1.out]; first | (rw [q1]; done) | (rw [q1]; rfl)), show m2 = true from (by rw [H2.out]; first | (rw [q7]; done) | (rw [q7]; rfl)), show m3 = false from (by rw [H3.out]; first | (rw [q8, q9]; done) | (rw [q8, q9]; rfl))]; decide)
              clear HM H1 H2 H3
              go_wp2
              go_ret
              exact ⟨by rw [HV.out]; first | done | rfl | kernel_rfl, BB.out⟩
          | false =>
            have HV : Hid (Z = 136#64) := (by unfold Hid; rw [HM.out, show m1 = true from (by rw [H1.out]; first | (rw [q1]; done) | (rw [q1]; rfl)), show m2 = true from (by rw [H2.out]; first | (rw [q7]; done) | (rw [q7]; rfl)), show m3 = false from (by rw [H3.out]; first | (rw [q8]; done) | (rw [q8]; rfl))]; decide)
            clear HM H1 H2 H3
            go_wp2
            go_ret
            exact ⟨by rw [HV.out]; first | done | rfl | kernel_rfl, BB.out⟩
      | false =>
        cases x5 with
        | true =>
          have HV : Hid (Z = 2056#64) := (by unfold Hid; rw [HM.out, show m1 = true from (by rw [H1.out]; first | (rw [q1]; done) | (rw [q1]; rfl)), show m2 = false from (by rw [H2.out]; first | (rw [q7]; done) | (rw [q7]; rfl)), show m3 = true from (by rw [H3.out]; rfl)]; decide)
          clear HM H1 H2 H3
          go_wp2
          go_ret
          exact ⟨by rw [HV.out]; first | done | rfl | kernel_rfl, BB.out⟩
        | false =>
          cases q10 : (bits .and .u8 x6 1 != 0) with
          | true =>
            cases q11 : (decide (0 < x7)) with
            | true =>
              have HV : Hid (Z = 2056#64) := (by unfold Hid; rw [HM.out, show m1 = true from (by rw [H1.out]; first | (rw [q1]; done) | (rw [q1]; rfl)), show m2 = false from (by rw [H2.out]; first | (rw [q7]; done) | (rw [q7]; rfl)), show m3 = true from (by rw [H3.out]; first | (rw [q10, q11]; done) | (rw [q10, q11]; rfl))]; decide)
              clear HM H1 H2 H3
              go_wp2
              go_ret
              exact ⟨by rw [HV.out]; first | done | rfl | kernel_rfl, BB.out⟩
            | false =>
              have HV : Hid (Z = 8#64) := (by unfold Hid; rw [HM.out, show m1 = true from (by rw [H1.out]; first | (rw [q1]; done) | (rw [q1]; rfl)), show m2 = false from (by rw [H2.out]; first | (rw [q7]; done) | (rw [q7]; rfl)), show m3 = false from (by rw [H3.out]; first | (rw [q10, q11]; done) | (rw [q10, q11]; rfl))]; decide)
              clear HM H1 H2 H3
              go_wp2
              go_ret
              exact ⟨by rw [HV.out]; first | done | rfl | kernel_rfl, BB.out⟩
          | false =>
            have HV : Hid (Z = 8#64) := (by unfold Hid; rw [HM.out, show m1 = true from (by rw [H1.out]; first | (rw [q1]; done) | (rw [q1]; rfl)), show m2 = false from (by rw [H2.out]; first | (rw [q7]; done) | (rw [q7]; rfl)), show m3 = false from (by rw [H3.out]; first | (rw [q10]; done) | (rw [q10]; rfl))]; decide)
            clear HM H1 H2 H3
            go_wp2
            go_ret
            exact ⟨by rw [HV.out]; first | done | rfl | kernel_rfl, BB.out⟩
    | false =>
      cases q12 : (decide (x3 ≤ x4)) with
      | true =>
        cases x5 with
        | true =>
          have HV : Hid (Z = 2176#64) := (by unfold Hid; rw [HM.out, show m1 = false from (by rw [H1.out]; first | (rw [q1]; done) | (rw [q1]; rfl)), show m2 = true from (by rw [H2.out]; first | (rw [q12]; done) | (rw [q12]; rfl)), show m3 = true from (by rw [H3.out]; rfl)]; decide)
          clear HM H1 H2 H3
          go_wp2
          go_ret
          exact ⟨by rw [HV.out]; first | done | rfl | kernel_rfl, BB.out⟩
        | false =>
          cases q13 : (bits .and .u8 x6 1 != 0) with
          | true =>
            cases q14 : (decide (0 < x7)) with
            | true =>
              have HV : Hid (Z = 2176#64) := (by unfold Hid; rw [HM.out, show m1 = false from (by rw [H1.out]; first | (rw [q1]; done) | (rw [q1]; rfl)), show m2 = true from (by rw [H2.out]; first | (rw [q12]; done) | (rw [q12]; rfl)), show m3 = true from (by rw [H3.out]; first | (rw [q13, q14]; done) | (rw [q13, q14]; rfl))]; decide)
              clear HM H1 H2 H3
              go_wp2
              go_ret
              exact ⟨by rw [HV.out]; first | done | rfl | kernel_rfl, BB.out⟩
            | false =>
              have HV : Hid (Z = 128#64) := (by unfold Hid; rw [HM.out, show m1 = false from (by rw [H1.out]; first | (rw [q1]; done) | (rw [q1]; rfl)), show m2 = true from (by rw [H2.out]; first | (rw [q12]; done) | (rw [q12]; rfl)), show m3 = false from (by rw [H3.out]; first | (rw [q13, q14]; done) | (rw [q13, q14]; rfl))]; decide)
              clear HM H1 H2 H3
              go_wp2
              go_ret
              exact ⟨by rw [HV.out]; first | done | rfl | kernel_rfl, BB.out⟩
          | false =>
            have HV : Hid (Z = 128#64) := (by unfold Hid; rw [HM.out, show m1 = false from (by rw [H1.out]; first | (rw [q1]; done) | (rw [q1]; rfl)), show m2 = true from (by rw [H2.out]; first | (rw [q12]; done) | (rw [q12]; rfl)), show m3 = false from (by rw [H3.out]; first | (rw [q13]; done) | (rw [q13]; rfl))]; decide)
            clear HM H1 H2 H3
            go_wp2
            go_ret
            exact ⟨by rw [HV.out]; first | done | rfl | kernel_rfl, BB.out⟩
      | false =>
        cases x5 with
        | true =>
          have HV : Hid (Z = 2048#64) := (by unfold Hid; rw [HM.out, show m1 = false from (by rw [H1.out]; first | (rw [q1]; done) | (rw [q1]; rfl)), show m2 = false from (by rw [H2.out]; first | (rw [q12]; done) | (rw [q12]; rfl)), show m3 = true from (by rw [H3.out]; rfl)]; decide)
          clear HM H1 H2 H3
          go_wp2
          go_ret
          exact ⟨by rw [HV.out]; first | done | rfl | kernel_rfl, BB.out⟩
        | false =>
          cases q15 : (bits .and .u8 x6 1 != 0) with
          | true =>
            cases q16 : (decide (0 < x7)) with
            | true =>
              have HV : Hid (Z = 2048#64) := (by unfold Hid; rw [HM.out, show m1 = false from (by rw [H1.out]; first | (rw [q1]; done) | (rw [q1]; rfl)), show m2 = false from (by rw [H2.out]; first | (rw [q12]; done) | (rw [q12]; rfl)), show m3 = true from (by rw [H3.out]; first | (rw [q15, q16]; done) | (rw [q15, q16]; rfl))]; decide)
              clear HM H1 H2 H3
              go_wp2
              go_ret
              exact ⟨by rw [HV.out]; first | done | rfl | kernel_rfl, BB.out⟩
            | false =>
              have HV : Hid (Z = 0#64) := (by unfold Hid; rw [HM.out, show m1 = false from (by rw [H1.out]; first | (rw [q1]; done) | (rw [q1]; rfl)), show m2 = false from (by rw [H2.out]; first | (rw [q12]; done) | (rw [q12]; rfl)), show m3 = false from (by rw [H3.out]; first | (rw [q15, q16]; done) | (rw [q15, q16]; rfl))]; decide)
              clear HM H1 H2 H3
              go_wp2
              go_ret
              exact ⟨by rw [HV.out]; first | done | rfl | kernel_rfl, BB.out⟩
          | false =>
            have HV : Hid (Z = 0#64) := (by unfold Hid; rw [HM.out, show m1 = false from (by rw [H1.out]; first | (rw [q1]; done) | (rw [q1]; rfl)), show m2 = false from (by rw [H2.out]; first | (rw [q12]; done) | (rw [q12]; rfl)), show m3 = false from (by rw [H3.out]; first | (rw [q15]; done) | (rw [q15]; rfl))]; decide)
            clear HM H1 H2 H3
            go_wp2
            go_ret
            exact ⟨by rw [HV.out]; first | done | rfl | kernel_rfl, BB.out⟩
end Go.Proofs.YtidfndgedopghaaGreatDoor
