/-
  Ue Uf.
-/
import Derived.Test.YtidfndgedopghaaGreatDoorM14
import Derived.Test.YtidfndgedopghaaGreatDoorM15
import Derived.Test.YtidfndgedopghaaGreatDoorM16
import Derived.Test.YtidfndgedopghaaGreatDoorM13
import Derived.Test.YtidfndgedopghaaGreatDoorM03
namespace Go.Proofs.YtidfndgedopghaaGreatDoor
set_option linter.unusedVariables false
set_option maxRecDepth 100000
set_option maxHeartbeats 4000000
open Go.ChangeShapes Go.WideShapes Go.ChangeAt Go.RowKit Go.Deep
def oB (b : Bool) : BitVec 64 := if b then 1#64 else 0#64
theorem uOne_c (b : Bool) (w : World) : Calls Tryz.prog 92 #[.bool b] w fun e w' => e = .returned (.int .u64 (n64 (oB b))) ∧ w' = w := by
  cases b
  rotate_left 1
  rotate_left 1
  all_goals
    go_enter Tryz.func92, Tryz.ntmps92
    go_wp2
    go_ret
    exact ⟨rfl, rfl⟩
def cyB (k : Cp) : Bool := bits .and .u64 (n64 (k.s 4)) 1 == 0
theorem uCy_c (k : Cp) (w : World) : Calls Tryz.prog 87 #[.agg (cpc k)] w fun e w' => e = .returned (.int .u64 (n64 (oB (cyB k)))) ∧ Below w.heap.size w w' := by
  obtain ⟨W0, hW0, r0, b0, s0⟩ := start1 w (cpc k) 32
  have BB := Hid.mkU b0.out
  clear s0 b0
  have HM : Hid ((cyB k) = (bits .and .u64 (n64 (k.s 4)) 1 == 0)) := rfl
  have c0_s4 : ∀ x : Later W0, x.1.cell? ⟨w.heap.size, 39, none⟩ = some (.int .u64 (n64 (k.s 4))) := fun x => ((lrow r0.out x).cell 39).trans (cpc_at _ 39 (by omega))
  have HON : Hid (∀ (b : Bool) W, Calls Tryz.prog 92 #[.bool b] W fun e w' => e = .returned (.int .u64 (n64 (oB b))) ∧ w' = W) := uOne_c
  generalize hZ : (cyB k) = Z at HM ⊢
  clear hZ
  go_enter Tryz.func87, Tryz.ntmps87
  go_upto_region 1 with fail
  clear hW0
  have hne := later_nonempty W0
  cases q1 : (bits .and .u64 (n64 (k.s 4)) 1 == 0)
  focus
    have HV : Hid (Z = false) := (by unfold Hid; rw [HM.out]; first | (rw [q1]; done) | (rw [q1]; rfl))
  rotate_left 1
  focus
    have HV : Hid (Z = true) := (by unfold Hid; rw [HM.out]; first | (rw [q1]; done) | (rw [q1]; rfl))
  rotate_left 1
  all_goals
    clear HM
    refine wp_region_plain (x0 := Later.start W0) ?_
    iterate 4 (go_big_quiet_step (fail))
    (go_big_quiet_step ((go_at_call 92; exact calls_later_same (HON.out _ _))))
    (go_big_quiet_step (fail))
    refine wpQuiet_nil ?_
    rintro _ ⟨yq, rfl⟩
    go_wp2
    go_ret
    exact ⟨by rw [HV.out]; first | done | rfl, BB.out.trans (yq.2.mono BB.out.size)⟩
def rtB (r : Rw) (k : Cp) : Bool := ((r.kd == 1) && (bits .and .u64 (n64 (k.s 4)) 4 == 0))
theorem uRt_c (r : Rw) (k : Cp) (w : World) : Calls Tryz.prog 89 #[.agg (rwc r), .agg (cpc k)] w fun e w' => e = .returned (.int .u64 (n64 (oB (rtB r k)))) ∧ Below w.heap.size w w' := by
  obtain ⟨W0, hW0, r0, r1, b0, s0⟩ := start2 w (rwc r) (cpc k) 52 32
  have BB := Hid.mkU b0.out
  clear s0 b0
  have HM : Hid ((rtB r k) = ((r.kd == 1) && (bits .and .u64 (n64 (k.s 4)) 4 == 0))) := rfl
  have c0_kd : ∀ x : Later W0, x.1.cell? ⟨w.heap.size, 1, none⟩ = some (.int .i64 r.kd) := fun x => (lrow r0.out x).cell 1
  have c1_s4 : ∀ x : Later W0, x.1.cell? ⟨w.heap.size + 1, 39, none⟩ = some (.int .u64 (n64 (k.s 4))) := fun x => ((lrow r1.out x).cell 39).trans (cpc_at _ 39 (by omega))
  have HON : Hid (∀ (b : Bool) W, Calls Tryz.prog 92 #[.bool b] W fun e w' => e = .returned (.int .u64 (n64 (oB b))) ∧ w' = W) := uOne_c
  generalize hZ : (rtB r k) = Z at HM ⊢
  clear hZ
  go_enter Tryz.func89, Tryz.ntmps89
  go_upto_region 1 with fail
  clear hW0
  have hne := later_nonempty W0
  cases q1 : (r.kd == 1)
  focus
    have HV : Hid (Z = false) := (by unfold Hid; rw [HM.out]; first | (rw [q1]; done) | (rw [q1]; rfl))
  rotate_left 1
  focus
    cases q2 : (bits .and .u64 (n64 (k.s 4)) 4 == 0)
    focus
      have HV : Hid (Z = false) := (by unfold Hid; rw [HM.out]; first | (rw [q1, q2]; done) | (rw [q1, q2]; rfl))
    rotate_left 1
    focus
      have HV : Hid (Z = true) := (by unfold Hid; rw [HM.out]; first | (rw [q1, q2]; done) | (rw [q1, q2]; rfl))
    rotate_left 1
  rotate_left 2
  all_goals
    clear HM
    refine wp_region_plain (x0 := Later.start W0) ?_
    iterate 9 (go_big_quiet_step (fail))
    (go_big_quiet_step ((go_at_call 92; exact calls_later_same (HON.out _ _))))
    (go_big_quiet_step (fail))
    refine wpQuiet_nil ?_
    rintro _ ⟨yq, rfl⟩
    go_wp2
    go_ret
    exact ⟨by rw [HV.out]; first | done | rfl, BB.out.trans (yq.2.mono BB.out.size)⟩
theorem m136 : ∀ i, i < 64 → (136#64).getLsbD i = (decide (i = 3) || decide (i = 7)) := by decide
theorem m128 : ∀ i, i < 64 → (128#64).getLsbD i = decide (i = 7) := by decide
theorem en_t (v : BitVec 64) (h : v.getLsbD 3 = true) : v &&& ~~~136#64 ||| 128#64 = sB (sB v 7 (v.getLsbD 3)) 3 false := by
  rw [h]; unfold sB; rw [if_pos rfl, if_neg (by decide)]
  apply BitVec.eq_of_getLsbD_eq
  intro i hi
  simp only [BitVec.getLsbD_or, BitVec.getLsbD_and, BitVec.getLsbD_not, hi, decide_true, Bool.true_and, m136 i hi, m128 i hi, tp_bit _ _ (by decide : 7 < 64) hi, tp_bit _ _ (by decide : 3 < 64) hi]
  by_cases h3 : i = 3
  · subst h3; simp
  · by_cases h7 : i = 7
    · subst h7; simp
    · simp [h3, h7]
theorem en_f (v : BitVec 64) (h : v.getLsbD 3 = false) : v &&& ~~~136#64 = sB (sB v 7 (v.getLsbD 3)) 3 false := by
  rw [h]; unfold sB; rw [if_neg (by decide), if_neg (by decide)]
  apply BitVec.eq_of_getLsbD_eq
  intro i hi
  simp only [BitVec.getLsbD_and, BitVec.getLsbD_not, hi, decide_true, Bool.true_and, m136 i hi, tp_bit _ _ (by decide : 7 < 64) hi, tp_bit _ _ (by decide : 3 < 64) hi]
  by_cases h3 : i = 3
  · subst h3; simp
  · by_cases h7 : i = 7
    · subst h7; simp
    · simp [h3, h7]
theorem uEn_c (v : BitVec 64) (m : Int) (hm : m = 0 ∨ m = 3) (w : World) : Calls Tryz.prog 137 #[.int .u64 (n64 v), .int .i64 m] w fun e w' => e = .returned (.int .u64 (n64 (enS v m))) ∧ w' = w := by
  have b0 : bits .andNot .u64 (n64 v) 136 = n64 (v &&& ~~~136#64) := n64_andNot v 136#64
  have b1 : bits .or .u64 (n64 (v &&& ~~~136#64)) 128 = n64 (v &&& ~~~136#64 ||| 128#64) := n64_or _ 128#64
  have b2 : bits .and .u64 (n64 v) 8 = n64 (v &&& tp 3) := n64_and v (tp 3)
  have b3 := bit_ne v 3 (by decide)
  generalize n64 (v &&& tp 3) = y at b2 b3
  cases h : v.getLsbD 3
  focus
    have HW : Hid (∀ W, Calls Tryz.prog 163 #[.int .u64 (n64 (v &&& ~~~136#64)), .int .i64 m] W fun e w' => e = .returned (.int .u64 (n64 (enS v m))) ∧ w' = W) := fun W => by rw [en_f v h]; exact withB_c _ m hm W
    rw [h] at b3
    clear b1
    generalize n64 (enS v m) = z at HW ⊢
  rotate_left 1
  focus
    have HW : Hid (∀ W, Calls Tryz.prog 163 #[.int .u64 (n64 (v &&& ~~~136#64 ||| 128#64)), .int .i64 m] W fun e w' => e = .returned (.int .u64 (n64 (enS v m))) ∧ w' = W) := fun W => by rw [en_t v h]; exact withB_c _ m hm W
    rw [h] at b3
    generalize n64 (enS v m) = z at HW ⊢
    generalize n64 (v &&& ~~~136#64 ||| 128#64) = y1 at *
  rotate_left 1
  all_goals
    generalize n64 (v &&& ~~~136#64) = y0 at *
    generalize n64 v = x at *
    clear h hm
    go_enter Tryz.func137, Tryz.ntmps137
    go_wp2_with (go_at_call 163; refine (HW.out _).mono ?_; rintro e wb ⟨rfl, hwb⟩; have hwb2 := hwb.symm; subst hwb2)
    go_ret
    exact ⟨rfl, rfl⟩
theorem cause_63 (c : BitVec 64) (h : c.getLsbD 63 = true) : c &&& ~~~tp 63 = c - tp 63 := by
  have h63 : c &&& tp 63 = tp 63 := by
    apply BitVec.eq_of_getLsbD_eq; intro i hi
    rw [BitVec.getLsbD_and, tp_bit _ _ (by decide) hi]
    by_cases e : i = 63
    · subst e; simp [h]
    · simp [e]
  have s : (c &&& ~~~tp 63) + (c &&& tp 63) = c := by
    rw [BitVec.add_eq_or_of_and_eq_zero]
    · apply BitVec.eq_of_getLsbD_eq; intro i hi
      simp only [BitVec.getLsbD_or, BitVec.getLsbD_and, BitVec.getLsbD_not, hi, decide_true, Bool.true_and]
      cases c.getLsbD i <;> cases (tp 63).getLsbD i <;> simp
    · apply BitVec.eq_of_getLsbD_eq; intro i hi
      simp only [BitVec.getLsbD_and, BitVec.getLsbD_not, BitVec.getLsbD_zero]
      cases c.getLsbD i <;> cases (tp 63).getLsbD i <;> simp
  rw [h63] at s
  calc c &&& ~~~tp 63 = (c &&& ~~~tp 63) + tp 63 - tp 63 := by rw [BitVec.add_sub_cancel]
    _ = c - tp 63 := by rw [s]
theorem uHd_c (tv c : BitVec 64) (w : World) : Calls Tryz.prog 138 #[.int .u64 (n64 tv), .int .u64 (n64 c)] w fun e w' => e = .returned (.int .u64 (n64 (hdl tv c))) ∧ w' = w := by
  have b0 : bits .andNot .u64 (n64 tv) 3 = n64 (tv &&& ~~~3#64) := n64_andNot tv 3#64
  have b1 : bits .and .u64 (n64 tv) 1 = n64 (tv &&& tp 0) := n64_and tv (tp 0)
  have b2 := bit_ne tv 0 (by decide)
  have b3 : bits .and .u64 (n64 c) 9223372036854775808 = n64 (c &&& tp 63) := n64_and c (tp 63)
  have b4 := bit_ne c 63 (by decide)
  have b5 : bits .andNot .u64 (n64 c) 9223372036854775808 = n64 (c &&& ~~~tp 63) := n64_andNot c (tp 63)
  rw [hbs_and] at b0
  have m2 : IntKind.u64.wrap (4 * n64 (c - tp 63)) = n64 (4#64 * (c - tp 63)) := n64_mul 4#64 _
  have m3 : IntKind.u64.wrap (n64 (hbs tv) + n64 (4#64 * (c - tp 63))) = n64 (hbs tv + 4#64 * (c - tp 63)) := n64_add _ _
  unfold hdl
  generalize n64 (tv &&& tp 0) = y1 at b1 b2
  generalize n64 (c &&& tp 63) = y5 at b3 b4
  cases hc : c.getLsbD 63
  focus
    rw [hc] at b4
    rw [if_neg (by simp)]
    clear hc m2 m3 b5 b1 b2
  rotate_left 1
  focus
    rw [cause_63 c hc] at b5
    rw [hc] at b4
    cases ht : tv.getLsbD 0
    focus
      rw [ht] at b2
      rw [if_neg (by simp)]
      clear hc ht m2 m3 b5
    rotate_left 1
    focus
      rw [ht] at b2
      rw [if_pos (by rfl)]
      clear hc ht
      generalize n64 (hbs tv + 4#64 * (c - tp 63)) = y4 at m3 ⊢
      generalize n64 (4#64 * (c - tp 63)) = y3 at m2 m3
      generalize n64 (c - tp 63) = y2 at *
    rotate_left 1
  rotate_left 2
  all_goals
    generalize n64 (hbs tv) = y0 at *
    generalize n64 tv = x at *
    generalize n64 c = xc at *
    go_enter Tryz.func138, Tryz.ntmps138
    go_wp2
    go_ret
    exact ⟨by rfl, rfl⟩
def mp1 (S : St) : Bool := ((bits .and .u32 S.msip 1 != 0) || (S.soft))
def mp2 (S : St) : Bool := (decide (S.cmp ≤ S.time))
def mp3 (S : St) : Bool := ((S.ext) || ((bits .and .u8 S.ier 1 != 0) && (decide (0 < S.inp.length))))
def mpV (S : St) : BitVec 64 := (if mp1 S then 8#64 else 0#64) ||| (if mp2 S then 128#64 else 0#64) ||| (if mp3 S then 2048#64 else 0#64)
theorem uMip_c (S : St) (vr vo : Value) (ai : Option Addr) (ci : Nat) (w : World) : Calls Tryz.prog 83 #[.agg (stc S vr (.slice ai S.inp.length ci) vo)] w fun e w' => e = .returned (.int .u64 (n64 (mpV S))) ∧ Below w.heap.size w w' := by
  obtain ⟨W0, hW0, r0, b0, s0⟩ := start1 w (stc S vr (.slice ai S.inp.length ci) vo) 44
  have BB := Hid.mkU b0.out
  clear s0 b0
  have c_msip : W0.cell? ⟨w.heap.size, 1, none⟩ = some (.int .u32 S.msip) := r0.out.cell 1
  have c_cmp : W0.cell? ⟨w.heap.size, 2, none⟩ = some (.int .u64 S.cmp) := r0.out.cell 2
  have c_time : W0.cell? ⟨w.heap.size, 3, none⟩ = some (.int .u64 S.time) := r0.out.cell 3
  have c_ext : W0.cell? ⟨w.heap.size, 4, none⟩ = some (.bool S.ext) := r0.out.cell 4
  have c_soft : W0.cell? ⟨w.heap.size, 5, none⟩ = some (.bool S.soft) := r0.out.cell 5
  have c_ier : W0.cell? ⟨w.heap.size, 6, none⟩ = some (.int .u8 S.ier) := r0.out.cell 6
  have c_i : W0.cell? ⟨w.heap.size, 11, none⟩ = some (.slice ai S.inp.length ci) := r0.out.cell 11
  have HM : Hid (mpV S = (if mp1 S then 8#64 else 0#64) ||| (if mp2 S then 128#64 else 0#64) ||| (if mp3 S then 2048#64 else 0#64)) := rfl
  have H1 : Hid (mp1 S = ((bits .and .u32 S.msip 1 != 0) || (S.soft))) := rfl
  have H2 : Hid (mp2 S = (decide (S.cmp ≤ S.time))) := rfl
  have H3 : Hid (mp3 S = ((S.ext) || ((bits .and .u8 S.ier 1 != 0) && (decide (0 < S.inp.length))))) := rfl
  generalize mpV S = Z at HM ⊢
  generalize mp1 S = m1 at *
  generalize mp2 S = m2 at *
  generalize mp3 S = m3 at *
  generalize S.msip = x1 at *
  generalize S.soft = x2 at *
  generalize S.cmp = x3 at *
  generalize S.time = x4 at *
  generalize S.ext = x5 at *
  generalize S.ier = x6 at *
  generalize S.inp.length = x7 at *
  go_enter Tryz.func83, Tryz.ntmps83
  go_upto_region 1 with fail
  clear hW0
  cases q1 : (bits .and .u32 x1 1 != 0)
  focus
    cases x2
    focus
      cases q12 : (decide (x3 ≤ x4))
      focus
        cases x5
        focus
          cases q15 : (bits .and .u8 x6 1 != 0)
          focus
            have HV : Hid (Z = 0#64) := (by unfold Hid; rw [HM.out, show m1 = false from (by rw [H1.out]; first | (rw [q1]; done) | (rw [q1]; rfl)), show m2 = false from (by rw [H2.out]; first | (rw [q12]; done) | (rw [q12]; rfl)), show m3 = false from (by rw [H3.out]; first | (rw [q15]; done) | (rw [q15]; rfl))]; decide)
          rotate_left 1
          focus
            cases q16 : (decide (0 < x7))
            focus
              have HV : Hid (Z = 0#64) := (by unfold Hid; rw [HM.out, show m1 = false from (by rw [H1.out]; first | (rw [q1]; done) | (rw [q1]; rfl)), show m2 = false from (by rw [H2.out]; first | (rw [q12]; done) | (rw [q12]; rfl)), show m3 = false from (by rw [H3.out]; first | (rw [q15, q16]; done) | (rw [q15, q16]; rfl))]; decide)
            rotate_left 1
            focus
              have HV : Hid (Z = 2048#64) := (by unfold Hid; rw [HM.out, show m1 = false from (by rw [H1.out]; first | (rw [q1]; done) | (rw [q1]; rfl)), show m2 = false from (by rw [H2.out]; first | (rw [q12]; done) | (rw [q12]; rfl)), show m3 = true from (by rw [H3.out]; first | (rw [q15, q16]; done) | (rw [q15, q16]; rfl))]; decide)
            rotate_left 1
          rotate_left 2
        rotate_left 3
        focus
          have HV : Hid (Z = 2048#64) := (by unfold Hid; rw [HM.out, show m1 = false from (by rw [H1.out]; first | (rw [q1]; done) | (rw [q1]; rfl)), show m2 = false from (by rw [H2.out]; first | (rw [q12]; done) | (rw [q12]; rfl)), show m3 = true from (by rw [H3.out]; rfl)]; decide)
        rotate_left 1
      rotate_left 4
      focus
        cases x5
        focus
          cases q13 : (bits .and .u8 x6 1 != 0)
          focus
            have HV : Hid (Z = 128#64) := (by unfold Hid; rw [HM.out, show m1 = false from (by rw [H1.out]; first | (rw [q1]; done) | (rw [q1]; rfl)), show m2 = true from (by rw [H2.out]; first | (rw [q12]; done) | (rw [q12]; rfl)), show m3 = false from (by rw [H3.out]; first | (rw [q13]; done) | (rw [q13]; rfl))]; decide)
          rotate_left 1
          focus
            cases q14 : (decide (0 < x7))
            focus
              have HV : Hid (Z = 128#64) := (by unfold Hid; rw [HM.out, show m1 = false from (by rw [H1.out]; first | (rw [q1]; done) | (rw [q1]; rfl)), show m2 = true from (by rw [H2.out]; first | (rw [q12]; done) | (rw [q12]; rfl)), show m3 = false from (by rw [H3.out]; first | (rw [q13, q14]; done) | (rw [q13, q14]; rfl))]; decide)
            rotate_left 1
            focus
              have HV : Hid (Z = 2176#64) := (by unfold Hid; rw [HM.out, show m1 = false from (by rw [H1.out]; first | (rw [q1]; done) | (rw [q1]; rfl)), show m2 = true from (by rw [H2.out]; first | (rw [q12]; done) | (rw [q12]; rfl)), show m3 = true from (by rw [H3.out]; first | (rw [q13, q14]; done) | (rw [q13, q14]; rfl))]; decide)
            rotate_left 1
          rotate_left 2
        rotate_left 3
        focus
          have HV : Hid (Z = 2176#64) := (by unfold Hid; rw [HM.out, show m1 = false from (by rw [H1.out]; first | (rw [q1]; done) | (rw [q1]; rfl)), show m2 = true from (by rw [H2.out]; first | (rw [q12]; done) | (rw [q12]; rfl)), show m3 = true from (by rw [H3.out]; rfl)]; decide)
        rotate_left 1
      rotate_left 4
    rotate_left 8
    focus
      cases q7 : (decide (x3 ≤ x4))
      focus
        cases x5
        focus
          cases q10 : (bits .and .u8 x6 1 != 0)
          focus
            have HV : Hid (Z = 8#64) := (by unfold Hid; rw [HM.out, show m1 = true from (by rw [H1.out]; first | (rw [q1]; done) | (rw [q1]; rfl)), show m2 = false from (by rw [H2.out]; first | (rw [q7]; done) | (rw [q7]; rfl)), show m3 = false from (by rw [H3.out]; first | (rw [q10]; done) | (rw [q10]; rfl))]; decide)
          rotate_left 1
          focus
            cases q11 : (decide (0 < x7))
            focus
              have HV : Hid (Z = 8#64) := (by unfold Hid; rw [HM.out, show m1 = true from (by rw [H1.out]; first | (rw [q1]; done) | (rw [q1]; rfl)), show m2 = false from (by rw [H2.out]; first | (rw [q7]; done) | (rw [q7]; rfl)), show m3 = false from (by rw [H3.out]; first | (rw [q10, q11]; done) | (rw [q10, q11]; rfl))]; decide)
            rotate_left 1
            focus
              have HV : Hid (Z = 2056#64) := (by unfold Hid; rw [HM.out, show m1 = true from (by rw [H1.out]; first | (rw [q1]; done) | (rw [q1]; rfl)), show m2 = false from (by rw [H2.out]; first | (rw [q7]; done) | (rw [q7]; rfl)), show m3 = true from (by rw [H3.out]; first | (rw [q10, q11]; done) | (rw [q10, q11]; rfl))]; decide)
            rotate_left 1
          rotate_left 2
        rotate_left 3
        focus
          have HV : Hid (Z = 2056#64) := (by unfold Hid; rw [HM.out, show m1 = true from (by rw [H1.out]; first | (rw [q1]; done) | (rw [q1]; rfl)), show m2 = false from (by rw [H2.out]; first | (rw [q7]; done) | (rw [q7]; rfl)), show m3 = true from (by rw [H3.out]; rfl)]; decide)
        rotate_left 1
      rotate_left 4
      focus
        cases x5
        focus
          cases q8 : (bits .and .u8 x6 1 != 0)
          focus
            have HV : Hid (Z = 136#64) := (by unfold Hid; rw [HM.out, show m1 = true from (by rw [H1.out]; first | (rw [q1]; done) | (rw [q1]; rfl)), show m2 = true from (by rw [H2.out]; first | (rw [q7]; done) | (rw [q7]; rfl)), show m3 = false from (by rw [H3.out]; first | (rw [q8]; done) | (rw [q8]; rfl))]; decide)
          rotate_left 1
          focus
            cases q9 : (decide (0 < x7))
            focus
              have HV : Hid (Z = 136#64) := (by unfold Hid; rw [HM.out, show m1 = true from (by rw [H1.out]; first | (rw [q1]; done) | (rw [q1]; rfl)), show m2 = true from (by rw [H2.out]; first | (rw [q7]; done) | (rw [q7]; rfl)), show m3 = false from (by rw [H3.out]; first | (rw [q8, q9]; done) | (rw [q8, q9]; rfl))]; decide)
            rotate_left 1
            focus
              have HV : Hid (Z = 2184#64) := (by unfold Hid; rw [HM.out, show m1 = true from (by rw [H1.out]; first | (rw [q1]; done) | (rw [q1]; rfl)), show m2 = true from (by rw [H2.out]; first | (rw [q7]; done) | (rw [q7]; rfl)), show m3 = true from (by rw [H3.out]; first | (rw [q8, q9]; done) | (rw [q8, q9]; rfl))]; decide)
            rotate_left 1
          rotate_left 2
        rotate_left 3
        focus
          have HV : Hid (Z = 2184#64) := (by unfold Hid; rw [HM.out, show m1 = true from (by rw [H1.out]; first | (rw [q1]; done) | (rw [q1]; rfl)), show m2 = true from (by rw [H2.out]; first | (rw [q7]; done) | (rw [q7]; rfl)), show m3 = true from (by rw [H3.out]; rfl)]; decide)
        rotate_left 1
      rotate_left 4
    rotate_left 8
  rotate_left 16
  focus
    cases q2 : (decide (x3 ≤ x4))
    focus
      cases x5
      focus
        cases q5 : (bits .and .u8 x6 1 != 0)
        focus
          have HV : Hid (Z = 8#64) := (by unfold Hid; rw [HM.out, show m1 = true from (by rw [H1.out]; first | (rw [q1]; done) | (rw [q1]; rfl)), show m2 = false from (by rw [H2.out]; first | (rw [q2]; done) | (rw [q2]; rfl)), show m3 = false from (by rw [H3.out]; first | (rw [q5]; done) | (rw [q5]; rfl))]; decide)
        rotate_left 1
        focus
          cases q6 : (decide (0 < x7))
          focus
            have HV : Hid (Z = 8#64) := (by unfold Hid; rw [HM.out, show m1 = true from (by rw [H1.out]; first | (rw [q1]; done) | (rw [q1]; rfl)), show m2 = false from (by rw [H2.out]; first | (rw [q2]; done) | (rw [q2]; rfl)), show m3 = false from (by rw [H3.out]; first | (rw [q5, q6]; done) | (rw [q5, q6]; rfl))]; decide)
          rotate_left 1
          focus
            have HV : Hid (Z = 2056#64) := (by unfold Hid; rw [HM.out, show m1 = true from (by rw [H1.out]; first | (rw [q1]; done) | (rw [q1]; rfl)), show m2 = false from (by rw [H2.out]; first | (rw [q2]; done) | (rw [q2]; rfl)), show m3 = true from (by rw [H3.out]; first | (rw [q5, q6]; done) | (rw [q5, q6]; rfl))]; decide)
          rotate_left 1
        rotate_left 2
      rotate_left 3
      focus
        have HV : Hid (Z = 2056#64) := (by unfold Hid; rw [HM.out, show m1 = true from (by rw [H1.out]; first | (rw [q1]; done) | (rw [q1]; rfl)), show m2 = false from (by rw [H2.out]; first | (rw [q2]; done) | (rw [q2]; rfl)), show m3 = true from (by rw [H3.out]; rfl)]; decide)
      rotate_left 1
    rotate_left 4
    focus
      cases x5
      focus
        cases q3 : (bits .and .u8 x6 1 != 0)
        focus
          have HV : Hid (Z = 136#64) := (by unfold Hid; rw [HM.out, show m1 = true from (by rw [H1.out]; first | (rw [q1]; done) | (rw [q1]; rfl)), show m2 = true from (by rw [H2.out]; first | (rw [q2]; done) | (rw [q2]; rfl)), show m3 = false from (by rw [H3.out]; first | (rw [q3]; done) | (rw [q3]; rfl))]; decide)
        rotate_left 1
        focus
          cases q4 : (decide (0 < x7))
          focus
            have HV : Hid (Z = 136#64) := (by unfold Hid; rw [HM.out, show m1 = true from (by rw [H1.out]; first | (rw [q1]; done) | (rw [q1]; rfl)), show m2 = true from (by rw [H2.out]; first | (rw [q2]; done) | (rw [q2]; rfl)), show m3 = false from (by rw [H3.out]; first | (rw [q3, q4]; done) | (rw [q3, q4]; rfl))]; decide)
          rotate_left 1
          focus
            have HV : Hid (Z = 2184#64) := (by unfold Hid; rw [HM.out, show m1 = true from (by rw [H1.out]; first | (rw [q1]; done) | (rw [q1]; rfl)), show m2 = true from (by rw [H2.out]; first | (rw [q2]; done) | (rw [q2]; rfl)), show m3 = true from (by rw [H3.out]; first | (rw [q3, q4]; done) | (rw [q3, q4]; rfl))]; decide)
          rotate_left 1
        rotate_left 2
      rotate_left 3
      focus
        have HV : Hid (Z = 2184#64) := (by unfold Hid; rw [HM.out, show m1 = true from (by rw [H1.out]; first | (rw [q1]; done) | (rw [q1]; rfl)), show m2 = true from (by rw [H2.out]; first | (rw [q2]; done) | (rw [q2]; rfl)), show m3 = true from (by rw [H3.out]; rfl)]; decide)
      rotate_left 1
    rotate_left 4
  rotate_left 8
  all_goals
    clear HM H1 H2 H3
    go_wp2
    go_ret
    exact ⟨by rw [HV.out]; first | done | rfl | kernel_rfl, BB.out⟩
end Go.Proofs.YtidfndgedopghaaGreatDoor
namespace Go.Proofs.YtidfndgedopghaaGreatDoor
set_option linter.unusedVariables false
set_option maxRecDepth 100000
set_option maxHeartbeats 4000000
open Go.ChangeShapes Go.WideShapes Go.ChangeAt Go.RowKit Go.Deep
/-- A run of addresses. -/
structure Pl where
  f : BitVec 64
  n : Int
def plc2 (p : Pl) : Array Value := #[.int .u64 (n64 p.f), .int .u64 p.n]
theorem plc2_ones (p : Pl) : (plc2 p).all (·.oneCell') = true := by simp [plc2, Value.oneCell']
theorem info_pl (p : Pl) : (Tryz.prog.info? 97).map (·.size) = some (plc2 p).size := by kernel_rfl
theorem any_hit {f : Nat → Bool} {n k : Nat} (h : k < n) (hf : f k = true) : (List.range n).any f = true := by rw [List.any_eq_true]; exact ⟨k, by simpa using h, hf⟩
theorem any_none {f : Nat → Bool} {n : Nat} (h : ∀ j, j < n → f j = false) : (List.range n).any f = false := by rw [List.any_eq_false]; intro j hj; simp [h j (by simpa using hj)]
theorem all_hit {f : Nat → Bool} {n k : Nat} (h : k < n) (hf : f k = false) : (List.range n).all f = false := by rw [List.all_eq_false]; exact ⟨k, by simpa using h, by simp [hf]⟩
theorem all_none {f : Nat → Bool} {n : Nat} (h : ∀ j, j < n → f j = true) : (List.range n).all f = true := by rw [List.all_eq_true]; intro j hj; exact h j (by simpa using hj)
def noB (r : Rw) : Bool := (((bits .and .i64 r.mem 2 == 0) || (decide (r.sz < 1))) || (decide (8 < r.sz)))
def stP (r : Rw) : Pl := if noB r then ⟨0#64, 0⟩ else ⟨r.ad, r.sz⟩
theorem zero_pl (w : World) : (zeroValue 97).run Tryz.prog w = .ok (.agg #[.int .u64 0, .int .u64 0]) w := by kernel_rfl
theorem uSto_c (r : Rw) (w : World) : Calls Tryz.prog 58 #[.agg (rwc r)] w fun e w' => e = .returned (.agg (plc2 (stP r))) ∧ Below w.heap.size w w' := by
  have hz := zero_pl
  obtain ⟨W0, hW0, r0, r1, b0, s0⟩ := start2 w (rwc r) #[.int .u64 0, .int .u64 0] 52 97
  have BB := Hid.mkU b0.out
  clear b0
  have HS : Hid (W0.heap.size = w.heap.size + 2) := s0
  clear s0
  have c_mem : W0.cell? ⟨w.heap.size, 10, none⟩ = some (.int .i64 r.mem) := r0.out.cell 10
  have c_ad : W0.cell? ⟨w.heap.size, 11, none⟩ = some (.int .u64 (n64 r.ad)) := r0.out.cell 11
  have c_sz : W0.cell? ⟨w.heap.size, 12, none⟩ = some (.int .i64 r.sz) := r0.out.cell 12
  have HM : Hid (stP r = if noB r then ⟨0#64, 0⟩ else ⟨r.ad, r.sz⟩) := rfl
  have HN : Hid (noB r = (((bits .and .i64 r.mem 2 == 0) || (decide (r.sz < 1))) || (decide (8 < r.sz)))) := rfl
  generalize stP r = Z at HM ⊢
  generalize noB r = n at HM HN
  cases q1 : (bits .and .i64 r.mem 2 == 0) with
  | true =>
    have HV : Hid (Z = ⟨0#64, 0⟩) := (by unfold Hid; rw [HM.out, show n = true from (by rw [HN.out]; first | (rw [q1]; done) | (rw [q1]; rfl))]; rfl)
    clear HM HN
    go_enter Tryz.func58, Tryz.ntmps58
    go_upto_region 1 with fail
    clear hW0
    go_wp2_with (refine wpList_store_row (by rfl) _ _ _ (by rfl) (by rfl) _ _ _ (by rfl) (by rfl) r1.out (info_pl ⟨0#64, 0⟩) (by rfl) (plc2_ones _) ?_)
    refine bodyPost_ret (v := .agg (plc2 ⟨0#64, 0⟩)) (results_cell_row Tryz.results58 _ _ (w.heap.size + 1) 97 _ (0, 0) _ (by rfl) (setRow_heap _ _ _ _ _ _ r1.out) Tryz.underlying97 (by rfl) (info_pl _)) rfl ?_
    exact ⟨by rw [HV.out], below_row BB.out (by omega) _⟩
  | false =>
    cases q2 : (decide (r.sz < 1)) with
    | true =>
      have HV : Hid (Z = ⟨0#64, 0⟩) := (by unfold Hid; rw [HM.out, show n = true from (by rw [HN.out]; first | (rw [q1, q2]; done) | (rw [q1, q2]; rfl))]; rfl)
      clear HM HN
      go_enter Tryz.func58, Tryz.ntmps58
      go_upto_region 1 with fail
      clear hW0
      go_wp2_with (refine wpList_store_row (by rfl) _ _ _ (by rfl) (by rfl) _ _ _ (by rfl) (by rfl) r1.out (info_pl ⟨0#64, 0⟩) (by rfl) (plc2_ones _) ?_)
      refine bodyPost_ret (v := .agg (plc2 ⟨0#64, 0⟩)) (results_cell_row Tryz.results58 _ _ (w.heap.size + 1) 97 _ (0, 0) _ (by rfl) (setRow_heap _ _ _ _ _ _ r1.out) Tryz.underlying97 (by rfl) (info_pl _)) rfl ?_
      exact ⟨by rw [HV.out], below_row BB.out (by omega) _⟩
    | false =>
      cases q3 : (decide (8 < r.sz)) with
      | true =>
        have HV : Hid (Z = ⟨0#64, 0⟩) := (by unfold Hid; rw [HM.out, show n = true from (by rw [HN.out]; first | (rw [q1, q2, q3]; done) | (rw [q1, q2, q3]; rfl))]; rfl)
        clear HM HN
        go_enter Tryz.func58, Tryz.ntmps58
        go_upto_region 1 with fail
        clear hW0
        go_wp2_with (refine wpList_store_row (by rfl) _ _ _ (by rfl) (by rfl) _ _ _ (by rfl) (by rfl) r1.out (info_pl ⟨0#64, 0⟩) (by rfl) (plc2_ones _) ?_)
        refine bodyPost_ret (v := .agg (plc2 ⟨0#64, 0⟩)) (results_cell_row Tryz.results58 _ _ (w.heap.size + 1) 97 _ (0, 0) _ (by rfl) (setRow_heap _ _ _ _ _ _ r1.out) Tryz.underlying97 (by rfl) (info_pl _)) rfl ?_
        exact ⟨by rw [HV.out], below_row BB.out (by omega) _⟩
      | false =>
        have HV : Hid (Z = ⟨r.ad, r.sz⟩) := (by unfold Hid; rw [HM.out, show n = false from (by rw [HN.out]; first | (rw [q1, q2, q3]; done) | (rw [q1, q2, q3]; rfl))]; rfl)
        have hw1 : 1 ≤ r.sz := by have := of_decide_eq_false q2; omega
        have hw8 : r.sz ≤ 8 := by have := of_decide_eq_false q3; omega
        have hcv : IntKind.u64.wrap r.sz = r.sz := by show r.sz % 18446744073709551616 = r.sz; omega
        clear HM HN
        go_enter Tryz.func58, Tryz.ntmps58
        go_upto_region 1 with fail
        clear hW0
        go_wp2_with (refine wpList_store_row (by rfl) _ _ _ (by rfl) (by rfl) _ _ _ (by rfl) (by rfl) r1.out (info_pl ⟨r.ad, r.sz⟩) (by rfl) (plc2_ones _) ?_)
        refine bodyPost_ret (v := .agg (plc2 ⟨r.ad, r.sz⟩)) (results_cell_row Tryz.results58 _ _ (w.heap.size + 1) 97 _ (0, 0) _ (by rfl) (setRow_heap _ _ _ _ _ _ r1.out) Tryz.underlying97 (by rfl) (info_pl _)) rfl ?_
        exact ⟨by rw [HV.out], below_row BB.out (by omega) _⟩
def hasB (p : Pl) (t : BitVec 64) : Bool := ((decide (n64 p.f ≤ n64 t)) && (decide (n64 (t - p.f) < p.n)))
theorem uHas_c (p : Pl) (t : BitVec 64) (w : World) : Calls Tryz.prog 71 #[.agg (plc2 p), .int .u64 (n64 t)] w fun e w' => e = .returned (.bool (hasB p t)) ∧ Below w.heap.size w w' := by
  have hsub : IntKind.u64.wrap (n64 t - n64 p.f) = n64 (t - p.f) := n64_sub t p.f
  obtain ⟨W0, hW0, r0, b0, s0⟩ := start1 w (plc2 p) 97
  have BB := Hid.mkU b0.out
  clear s0 b0
  have HM : Hid ((hasB p t) = ((decide (n64 p.f ≤ n64 t)) && (decide (n64 (t - p.f) < p.n)))) := rfl
  have c0_f : W0.cell? ⟨w.heap.size, 0, none⟩ = some (.int .u64 (n64 p.f)) := r0.out.cell 0
  have c0_n : W0.cell? ⟨w.heap.size, 1, none⟩ = some (.int .u64 p.n) := r0.out.cell 1
  generalize hZ : (hasB p t) = Z at HM ⊢
  clear hZ
  go_enter Tryz.func71, Tryz.ntmps71
  go_upto_region 1 with fail
  clear hW0
  cases q1 : (decide (n64 p.f ≤ n64 t))
  focus
    have HV : Hid (Z = false) := (by unfold Hid; rw [HM.out]; first | (rw [q1]; done) | (rw [q1]; rfl))
  rotate_left 1
  focus
    cases q2 : (decide (n64 (t - p.f) < p.n))
    focus
      have HV : Hid (Z = false) := (by unfold Hid; rw [HM.out]; first | (rw [q1, q2]; done) | (rw [q1, q2]; rfl))
    rotate_left 1
    focus
      have HV : Hid (Z = true) := (by unfold Hid; rw [HM.out]; first | (rw [q1, q2]; done) | (rw [q1, q2]; rfl))
    rotate_left 1
  rotate_left 2
  all_goals
    clear HM
    go_wp2
    go_ret
    exact ⟨by rw [HV.out]; first | done | rfl, BB.out⟩
def metB (p : Pl) (f : BitVec 64) (n : Nat) : Bool := (List.range n).any fun k => hasB p (f + BitVec.ofNat 64 k)
theorem n64_ofNat (k : Nat) (h : k < 18446744073709551616) : n64 (BitVec.ofNat 64 k) = (k : Int) := by
  unfold n64; rw [BitVec.toNat_ofNat, Nat.mod_eq_of_lt (by simpa using h)]
theorem n64_addN (f : BitVec 64) (k : Nat) (h : k < 18446744073709551616) : IntKind.u64.wrap (n64 f + (k : Int)) = n64 (f + BitVec.ofNat 64 k) := by rw [← n64_add, n64_ofNat k h]
theorem uMet_c (p : Pl) (f : BitVec 64) (n : Nat) (hn : n ≤ 8) (w : World) : Calls Tryz.prog 91 #[.agg (plc2 p), .int .u64 (n64 f), .int .u64 n] w fun e w' => e = .returned (.bool (metB p f n)) ∧ Below w.heap.size w w' := by
  obtain ⟨W0, hW0, r0, b0, s0⟩ := start1 w (plc2 p) 97
  have HM : Hid (metB p f n = (List.range n).any fun k => hasB p (f + BitVec.ofNat 64 k)) := rfl
  generalize metB p f n = Z at HM ⊢
  have HR := Hid.mkU r0.out
  have HB := Hid.mkU b0.out
  clear r0 b0 s0
  go_enter Tryz.func91, Tryz.ntmps91
  go_upto_region 1 with fail
  clear hW0
  go_wp2
  go_loopw [9] (fun i wr => ∃ k : Nat, k ≤ n ∧ i = .int .u64 k ∧ Hid (∀ j, j < k → hasB p (f + BitVec.ofNat 64 j) = false) ∧ Hid (Row wr w.heap.size (plc2 p) 97) ∧ Hid (Below w.heap.size w wr)) (fun i _ => n - (intOf i).toNat)
  case atStart => exact ⟨0, Nat.zero_le _, rfl, fun j hj => absurd hj (Nat.not_lt_zero _), HR, HB⟩
  case round =>
    clear HR HB
    obtain ⟨k, hk, rfl, hf, h0, hb⟩ := hrel
    by_cases hlt : k < n
    · have hlt2 : (k : Int) < (n : Int) := by omega
      have had := n64_addN f k (by omega)
      have HH : Hid (∀ W, Calls Tryz.prog 71 #[.agg (plc2 p), .int .u64 (n64 (f + BitVec.ofNat 64 k))] W fun e w' => e = .returned (.bool (hasB p (f + BitVec.ofNat 64 k))) ∧ Below W.heap.size W w') := fun W => uHas_c p _ W
      have hwr : IntKind.u64.wrap ((k : Int) + 1) = ((k + 1 : Nat) : Int) := by show ((k : Int) + 1) % 18446744073709551616 = _; omega
      have HW := Hid.mkU hwr
      cases hq : hasB p (f + BitVec.ofNat 64 k) with
      | true =>
        have HV : Hid (Z = true) := HM.out.trans (any_hit hlt hq)
        rw [hq] at HH
        clear hf hwr hq HM
        generalize n64 (f + BitVec.ofNat 64 k) = y at *
        go_wp2_with (first | (refine wpList_load_row (by rfl) _ _ (by rfl) _ (by rfl) 97 _ (0, 0) _ h0.out Tryz.underlying97 (by rfl) (info_pl _) ?_) | (go_at_call 71; refine (HH.out _).mono ?_; rintro e w1 ⟨rfl, hb1⟩; have HB1 : Hid (Below w.heap.size w w1) := hb.out.trans (hb1.mono hb.out.size); clear hb1))
        go_ret
        exact ⟨by rw [HV.out]; first | done | rfl, HB1.out⟩
      | false =>
        have HF : Hid (∀ j, j < k + 1 → hasB p (f + BitVec.ofNat 64 j) = false) := fun j hj => by
          by_cases e : j = k
          · rw [e]; exact hq
          · exact hf.out j (by omega)
        rw [hq] at HH
        clear hf hq
        generalize n64 (f + BitVec.ofNat 64 k) = y at *
        go_wp2_with (first | (refine wpList_load_row (by rfl) _ _ (by rfl) _ (by rfl) 97 _ (0, 0) _ h0.out Tryz.underlying97 (by rfl) (info_pl _) ?_) | (go_at_call 71; refine (HH.out _).mono ?_; rintro e w1 ⟨rfl, hb1⟩; have HB1 : Hid (Below wr.heap.size wr w1) := hb1; clear hb1))
        go_roundw
        case rel => exact ⟨k + 1, by omega, by first | rfl | (congr 1), HF, h0.out.later HB1.out h0.out.lt, hb.out.trans (HB1.out.mono hb.out.size)⟩
        case measure => simp [intOf]; omega
    · obtain rfl : k = n := by omega
      have HV : Hid (Z = false) := HM.out.trans (any_none hf.out)
      clear hf HM
      go_wp2
      go_ret
      exact ⟨by rw [HV.out]; first | done | rfl, hb.out⟩
end Go.Proofs.YtidfndgedopghaaGreatDoor
