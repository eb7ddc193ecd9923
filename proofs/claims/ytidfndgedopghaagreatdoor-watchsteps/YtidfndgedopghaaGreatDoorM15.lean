/-
  Ud Cpx Pbc Pbw Pbx Pby Cpt Cpf Cpk Cpw Cpn Coq Cla Clb.
-/
import Derived.Test.YtidfndgedopghaaGreatDoorM13
import Derived.Test.YtidfndgedopghaaGreatDoorM03
import Derived.Test.YtidfndgedopghaaGreatDoorM05
import Derived.Test.YtidfndgedopghaaGreatDoorM07
import Derived.Test.YtidfndgedopghaaGreatDoorM11
import Derived.Test.YtidfndgedopghaaGreatDoorM06
import Derived.ShutString
import Derived.ChangeOld
import Derived.BigRegion
import Derived.BigQuiet
import Derived.Deep.QuietTactic
namespace Go.Proofs.YtidfndgedopghaaGreatDoor
set_option linter.unusedVariables false
set_option maxRecDepth 100000
set_option maxHeartbeats 4000000
open Go.ChangeShapes Go.WideShapes Go.ChangeAt Go.RowKit Go.Deep
def beB (l m : List Int) : Bool := (strOfNums l).toList == (strOfNums m).toList
theorem uBe_c (l m : List Int) (u v : Value) (w : World) (hu : Byt w u l) (hv : Byt w v m) : Calls Tryz.prog 130 #[u, v] w fun e w' => e = .returned (.bool (beB l m)) ∧ w' = w := by
  have k1 := hu.conv
  have k2 := hv.conv
  obtain ⟨x1, y1, e1, _⟩ := hu
  obtain ⟨x2, y2, e2, _⟩ := hv
  unfold beB
  generalize strOfNums l = s at *
  generalize strOfNums m = t at *
  subst e1 e2
  go_enter Tryz.func130, Tryz.ntmps130
  go_wp2
  go_ret
  exact ⟨by first | rfl | (congr 2; rw [Bool.eq_iff_iff]; simp), rfl⟩
def tmB (A B : St) : Bool := (((A.msip == B.msip) && (A.cmp == B.cmp)) && (A.time == B.time))
theorem uTm_c (A B : St) (ar ai ao br bi bo : Value) (w : World) : Calls Tryz.prog 51 #[.agg (stc A ar ai ao), .agg (stc B br bi bo)] w fun e w' => e = .returned (.bool (tmB A B)) ∧ Below w.heap.size w w' := by
  obtain ⟨W0, hW0, r0, r1, b0, s0⟩ := start2 w (stc A ar ai ao) (stc B br bi bo) 44 44
  have BB := Hid.mkU b0.out
  clear s0 b0
  have HM : Hid ((tmB A B) = (((A.msip == B.msip) && (A.cmp == B.cmp)) && (A.time == B.time))) := rfl
  have c0_msip : W0.cell? ⟨w.heap.size, 1, none⟩ = some (.int .u32 A.msip) := r0.out.cell 1
  have c0_cmp : W0.cell? ⟨w.heap.size, 2, none⟩ = some (.int .u64 A.cmp) := r0.out.cell 2
  have c0_time : W0.cell? ⟨w.heap.size, 3, none⟩ = some (.int .u64 A.time) := r0.out.cell 3
  have c1_msip : W0.cell? ⟨w.heap.size + 1, 1, none⟩ = some (.int .u32 B.msip) := r1.out.cell 1
  have c1_cmp : W0.cell? ⟨w.heap.size + 1, 2, none⟩ = some (.int .u64 B.cmp) := r1.out.cell 2
  have c1_time : W0.cell? ⟨w.heap.size + 1, 3, none⟩ = some (.int .u64 B.time) := r1.out.cell 3
  generalize hZ : (tmB A B) = Z at HM ⊢
  clear hZ
  go_enter Tryz.func51, Tryz.ntmps51
  go_upto_region 1 with fail
  clear hW0
  cases q1 : (A.msip == B.msip)
  focus
    have HV : Hid (Z = false) := (by unfold Hid; rw [HM.out]; first | (rw [q1]; done) | (rw [q1]; rfl))
  rotate_left 1
  focus
    cases q2 : (A.cmp == B.cmp)
    focus
      have HV : Hid (Z = false) := (by unfold Hid; rw [HM.out]; first | (rw [q1, q2]; done) | (rw [q1, q2]; rfl))
    rotate_left 1
    focus
      cases q3 : (A.time == B.time)
      focus
        have HV : Hid (Z = false) := (by unfold Hid; rw [HM.out]; first | (rw [q1, q2, q3]; done) | (rw [q1, q2, q3]; rfl))
      rotate_left 1
      focus
        have HV : Hid (Z = true) := (by unfold Hid; rw [HM.out]; first | (rw [q1, q2, q3]; done) | (rw [q1, q2, q3]; rfl))
      rotate_left 1
    rotate_left 2
  rotate_left 3
  all_goals
    clear HM
    go_wp2
    go_ret
    exact ⟨by rw [HV.out]; first | done | rfl, BB.out⟩
def cnB (A B : St) : Bool := (((((((A.ier == B.ier) && (A.lcr == B.lcr)) && (A.mcr == B.mcr)) && (A.scr == B.scr)) && (A.ov == B.ov)) && (beB A.inp B.inp)) && (beB A.out B.out))
theorem uCn_c (A B : St) (ar ai ao br bi bo : Value) (w : World) (hA : Bs A ar ai ao w) (hB : Bs B br bi bo w) : Calls Tryz.prog 52 #[.agg (stc A ar ai ao), .agg (stc B br bi bo)] w fun e w' => e = .returned (.bool (cnB A B)) ∧ Below w.heap.size w w' := by
  obtain ⟨W0, hW0, r0, r1, b0, s0⟩ := start2 w (stc A ar ai ao) (stc B br bi bo) 44 44
  have BB := Hid.mkU b0.out
  clear s0 b0
  have HM : Hid ((cnB A B) = (((((((A.ier == B.ier) && (A.lcr == B.lcr)) && (A.mcr == B.mcr)) && (A.scr == B.scr)) && (A.ov == B.ov)) && (beB A.inp B.inp)) && (beB A.out B.out))) := rfl
  have c0_ier : ∀ x : Later W0, x.1.cell? ⟨w.heap.size, 6, none⟩ = some (.int .u8 A.ier) := fun x => (lrow r0.out x).cell 6
  have c0_lcr : ∀ x : Later W0, x.1.cell? ⟨w.heap.size, 7, none⟩ = some (.int .u8 A.lcr) := fun x => (lrow r0.out x).cell 7
  have c0_mcr : ∀ x : Later W0, x.1.cell? ⟨w.heap.size, 8, none⟩ = some (.int .u8 A.mcr) := fun x => (lrow r0.out x).cell 8
  have c0_scr : ∀ x : Later W0, x.1.cell? ⟨w.heap.size, 9, none⟩ = some (.int .u8 A.scr) := fun x => (lrow r0.out x).cell 9
  have c0_ov : ∀ x : Later W0, x.1.cell? ⟨w.heap.size, 10, none⟩ = some (.bool A.ov) := fun x => (lrow r0.out x).cell 10
  have c0_i : ∀ x : Later W0, x.1.cell? ⟨w.heap.size, 11, none⟩ = some (ai) := fun x => (lrow r0.out x).cell 11
  have c0_o : ∀ x : Later W0, x.1.cell? ⟨w.heap.size, 12, none⟩ = some (ao) := fun x => (lrow r0.out x).cell 12
  have c1_ier : ∀ x : Later W0, x.1.cell? ⟨w.heap.size + 1, 6, none⟩ = some (.int .u8 B.ier) := fun x => (lrow r1.out x).cell 6
  have c1_lcr : ∀ x : Later W0, x.1.cell? ⟨w.heap.size + 1, 7, none⟩ = some (.int .u8 B.lcr) := fun x => (lrow r1.out x).cell 7
  have c1_mcr : ∀ x : Later W0, x.1.cell? ⟨w.heap.size + 1, 8, none⟩ = some (.int .u8 B.mcr) := fun x => (lrow r1.out x).cell 8
  have c1_scr : ∀ x : Later W0, x.1.cell? ⟨w.heap.size + 1, 9, none⟩ = some (.int .u8 B.scr) := fun x => (lrow r1.out x).cell 9
  have c1_ov : ∀ x : Later W0, x.1.cell? ⟨w.heap.size + 1, 10, none⟩ = some (.bool B.ov) := fun x => (lrow r1.out x).cell 10
  have c1_i : ∀ x : Later W0, x.1.cell? ⟨w.heap.size + 1, 11, none⟩ = some (bi) := fun x => (lrow r1.out x).cell 11
  have c1_o : ∀ x : Later W0, x.1.cell? ⟨w.heap.size + 1, 12, none⟩ = some (bo) := fun x => (lrow r1.out x).cell 12
  have HBI : Hid (∀ x : Later W0, Calls Tryz.prog 130 #[ai, bi] x.1 fun e w' => e = .returned (.bool (beB A.inp B.inp)) ∧ w' = x.1) := fun x => uBe_c _ _ _ _ _ ((hA.later BB.out).i.later x.2 rfl) ((hB.later BB.out).i.later x.2 rfl)
  have HBO : Hid (∀ x : Later W0, Calls Tryz.prog 130 #[ao, bo] x.1 fun e w' => e = .returned (.bool (beB A.out B.out)) ∧ w' = x.1) := fun x => uBe_c _ _ _ _ _ ((hA.later BB.out).o.later x.2 rfl) ((hB.later BB.out).o.later x.2 rfl)
  generalize hZ : (cnB A B) = Z at HM ⊢
  clear hZ
  generalize beB A.inp B.inp = z5 at *
  generalize beB A.out B.out = z6 at *
  go_enter Tryz.func52, Tryz.ntmps52
  go_upto_region 1 with fail
  clear hW0
  have hne := later_nonempty W0
  cases q1 : (A.ier == B.ier)
  focus
    have HV : Hid (Z = false) := (by unfold Hid; rw [HM.out]; first | (rw [q1]; done) | (rw [q1]; rfl))
  rotate_left 1
  focus
    cases q2 : (A.lcr == B.lcr)
    focus
      have HV : Hid (Z = false) := (by unfold Hid; rw [HM.out]; first | (rw [q1, q2]; done) | (rw [q1, q2]; rfl))
    rotate_left 1
    focus
      cases q3 : (A.mcr == B.mcr)
      focus
        have HV : Hid (Z = false) := (by unfold Hid; rw [HM.out]; first | (rw [q1, q2, q3]; done) | (rw [q1, q2, q3]; rfl))
      rotate_left 1
      focus
        cases q4 : (A.scr == B.scr)
        focus
          have HV : Hid (Z = false) := (by unfold Hid; rw [HM.out]; first | (rw [q1, q2, q3, q4]; done) | (rw [q1, q2, q3, q4]; rfl))
        rotate_left 1
        focus
          cases q5 : (A.ov == B.ov)
          focus
            have HV : Hid (Z = false) := (by unfold Hid; rw [HM.out]; first | (rw [q1, q2, q3, q4, q5]; done) | (rw [q1, q2, q3, q4, q5]; rfl))
          rotate_left 1
          focus
            cases z5
            focus
              have HV : Hid (Z = false) := (by unfold Hid; rw [HM.out]; first | (rw [q1, q2, q3, q4, q5]; done) | (rw [q1, q2, q3, q4, q5]; rfl))
            rotate_left 1
            focus
              cases z6
              focus
                have HV : Hid (Z = false) := (by unfold Hid; rw [HM.out]; first | (rw [q1, q2, q3, q4, q5]; done) | (rw [q1, q2, q3, q4, q5]; rfl))
              rotate_left 1
              focus
                have HV : Hid (Z = true) := (by unfold Hid; rw [HM.out]; first | (rw [q1, q2, q3, q4, q5]; done) | (rw [q1, q2, q3, q4, q5]; rfl))
              rotate_left 1
            rotate_left 2
          rotate_left 3
        rotate_left 4
      rotate_left 5
    rotate_left 6
  rotate_left 7
  all_goals
    clear HM
    refine wp_region_plain (x0 := Later.start W0) ?_
    iterate 38 (go_big_quiet_step (fail))
    (go_big_quiet_step ((go_at_call 130; exact calls_later_same (HBI.out _))))
    iterate 6 (go_big_quiet_step (fail))
    (go_big_quiet_step ((go_at_call 130; exact calls_later_same (HBO.out _))))
    iterate 2 (go_big_quiet_step (fail))
    refine wpQuiet_nil ?_
    rintro _ ⟨yq, rfl⟩
    go_wp2
    go_ret
    exact ⟨by rw [HV.out]; first | done | rfl, BB.out.trans (yq.2.mono BB.out.size)⟩
def dvB (A B : St) : Bool := ((((((tmB A B) && (cnB A B)) && (A.ext == B.ext)) && (A.soft == B.soft)) && (A.off == B.off)) && (A.code == B.code))
theorem uDv_c (A B : St) (ar ai ao br bi bo : Value) (w : World) (hA : Bs A ar ai ao w) (hB : Bs B br bi bo w) : Calls Tryz.prog 24 #[.agg (stc A ar ai ao), .agg (stc B br bi bo)] w fun e w' => e = .returned (.bool (dvB A B)) ∧ Below w.heap.size w w' := by
  obtain ⟨W0, hW0, r0, r1, b0, s0⟩ := start2 w (stc A ar ai ao) (stc B br bi bo) 44 44
  have BB := Hid.mkU b0.out
  clear s0 b0
  have HM : Hid ((dvB A B) = ((((((tmB A B) && (cnB A B)) && (A.ext == B.ext)) && (A.soft == B.soft)) && (A.off == B.off)) && (A.code == B.code))) := rfl
  have c0_ext : ∀ x : Later W0, x.1.cell? ⟨w.heap.size, 4, none⟩ = some (.bool A.ext) := fun x => (lrow r0.out x).cell 4
  have c0_soft : ∀ x : Later W0, x.1.cell? ⟨w.heap.size, 5, none⟩ = some (.bool A.soft) := fun x => (lrow r0.out x).cell 5
  have c0_off : ∀ x : Later W0, x.1.cell? ⟨w.heap.size, 13, none⟩ = some (.int .i64 A.off) := fun x => (lrow r0.out x).cell 13
  have c0_code : ∀ x : Later W0, x.1.cell? ⟨w.heap.size, 14, none⟩ = some (.int .i64 A.code) := fun x => (lrow r0.out x).cell 14
  have c1_ext : ∀ x : Later W0, x.1.cell? ⟨w.heap.size + 1, 4, none⟩ = some (.bool B.ext) := fun x => (lrow r1.out x).cell 4
  have c1_soft : ∀ x : Later W0, x.1.cell? ⟨w.heap.size + 1, 5, none⟩ = some (.bool B.soft) := fun x => (lrow r1.out x).cell 5
  have c1_off : ∀ x : Later W0, x.1.cell? ⟨w.heap.size + 1, 13, none⟩ = some (.int .i64 B.off) := fun x => (lrow r1.out x).cell 13
  have c1_code : ∀ x : Later W0, x.1.cell? ⟨w.heap.size + 1, 14, none⟩ = some (.int .i64 B.code) := fun x => (lrow r1.out x).cell 14
  have HTM : Hid (∀ W, Calls Tryz.prog 51 #[.agg (stc A ar ai ao), .agg (stc B br bi bo)] W fun e w' => e = .returned (.bool (tmB A B)) ∧ Below W.heap.size W w') := uTm_c A B ar ai ao br bi bo
  have HCN : Hid (∀ x : Later W0, Calls Tryz.prog 52 #[.agg (stc A ar ai ao), .agg (stc B br bi bo)] x.1 fun e w' => e = .returned (.bool (cnB A B)) ∧ Below x.1.heap.size x.1 w') := fun x => uCn_c A B ar ai ao br bi bo x.1 ((hA.later BB.out).later x.2) ((hB.later BB.out).later x.2)
  generalize hZ : (dvB A B) = Z at HM ⊢
  clear hZ
  generalize tmB A B = z0 at *
  generalize cnB A B = z1 at *
  go_enter Tryz.func24, Tryz.ntmps24
  go_upto_region 1 with fail
  clear hW0
  have hne := later_nonempty W0
  cases z0
  focus
    have HV : Hid (Z = false) := (by unfold Hid; rw [HM.out]; rfl)
  rotate_left 1
  focus
    cases z1
    focus
      have HV : Hid (Z = false) := (by unfold Hid; rw [HM.out]; rfl)
    rotate_left 1
    focus
      cases q1 : (A.ext == B.ext)
      focus
        have HV : Hid (Z = false) := (by unfold Hid; rw [HM.out]; first | (rw [q1]; done) | (rw [q1]; rfl))
      rotate_left 1
      focus
        cases q2 : (A.soft == B.soft)
        focus
          have HV : Hid (Z = false) := (by unfold Hid; rw [HM.out]; first | (rw [q1, q2]; done) | (rw [q1, q2]; rfl))
        rotate_left 1
        focus
          cases q3 : (A.off == B.off)
          focus
            have HV : Hid (Z = false) := (by unfold Hid; rw [HM.out]; first | (rw [q1, q2, q3]; done) | (rw [q1, q2, q3]; rfl))
          rotate_left 1
          focus
            cases q4 : (A.code == B.code)
            focus
              have HV : Hid (Z = false) := (by unfold Hid; rw [HM.out]; first | (rw [q1, q2, q3, q4]; done) | (rw [q1, q2, q3, q4]; rfl))
            rotate_left 1
            focus
              have HV : Hid (Z = true) := (by unfold Hid; rw [HM.out]; first | (rw [q1, q2, q3, q4]; done) | (rw [q1, q2, q3, q4]; rfl))
            rotate_left 1
          rotate_left 2
        rotate_left 3
      rotate_left 4
    rotate_left 5
  rotate_left 6
  all_goals
    clear HM
    refine wp_region_plain (x0 := Later.start W0) ?_
    (first | (go_big_quiet_want; refine quiet_load_agg 44 _ (by rfl) (w.heap.size) 0 (by rfl) (stc A ar ai ao) _ r0.out.lt (lrow_cells r0.out) Tryz.underlying44 (by rfl) (info_bst _ _ _ _) ?_; simp only [Act.put, List.setIfInBounds_toArray, List.set_cons_succ, List.set_cons_zero]; go_big_quiet_on) | (go_big_quiet_want; refine quiet_load_agg 44 _ (by rfl) (w.heap.size + 1) 0 (by rfl) (stc B br bi bo) _ r1.out.lt (lrow_cells r1.out) Tryz.underlying44 (by rfl) (info_bst _ _ _ _) ?_; simp only [Act.put, List.setIfInBounds_toArray, List.set_cons_succ, List.set_cons_zero]; go_big_quiet_on) | (go_big_quiet_step (fail)))
    (first | (go_big_quiet_want; refine quiet_load_agg 44 _ (by rfl) (w.heap.size) 0 (by rfl) (stc A ar ai ao) _ r0.out.lt (lrow_cells r0.out) Tryz.underlying44 (by rfl) (info_bst _ _ _ _) ?_; simp only [Act.put, List.setIfInBounds_toArray, List.set_cons_succ, List.set_cons_zero]; go_big_quiet_on) | (go_big_quiet_want; refine quiet_load_agg 44 _ (by rfl) (w.heap.size + 1) 0 (by rfl) (stc B br bi bo) _ r1.out.lt (lrow_cells r1.out) Tryz.underlying44 (by rfl) (info_bst _ _ _ _) ?_; simp only [Act.put, List.setIfInBounds_toArray, List.set_cons_succ, List.set_cons_zero]; go_big_quiet_on) | (go_big_quiet_step (fail)))
    (go_big_quiet_step ((go_at_call 51; exact calls_later (HTM.out _))))
    (go_big_quiet_step (fail))
    (first | (go_big_quiet_want; refine quiet_load_agg 44 _ (by rfl) (w.heap.size) 0 (by rfl) (stc A ar ai ao) _ r0.out.lt (lrow_cells r0.out) Tryz.underlying44 (by rfl) (info_bst _ _ _ _) ?_; simp only [Act.put, List.setIfInBounds_toArray, List.set_cons_succ, List.set_cons_zero]; go_big_quiet_on) | (go_big_quiet_want; refine quiet_load_agg 44 _ (by rfl) (w.heap.size + 1) 0 (by rfl) (stc B br bi bo) _ r1.out.lt (lrow_cells r1.out) Tryz.underlying44 (by rfl) (info_bst _ _ _ _) ?_; simp only [Act.put, List.setIfInBounds_toArray, List.set_cons_succ, List.set_cons_zero]; go_big_quiet_on) | (go_big_quiet_step (fail)))
    (first | (go_big_quiet_want; refine quiet_load_agg 44 _ (by rfl) (w.heap.size) 0 (by rfl) (stc A ar ai ao) _ r0.out.lt (lrow_cells r0.out) Tryz.underlying44 (by rfl) (info_bst _ _ _ _) ?_; simp only [Act.put, List.setIfInBounds_toArray, List.set_cons_succ, List.set_cons_zero]; go_big_quiet_on) | (go_big_quiet_want; refine quiet_load_agg 44 _ (by rfl) (w.heap.size + 1) 0 (by rfl) (stc B br bi bo) _ r1.out.lt (lrow_cells r1.out) Tryz.underlying44 (by rfl) (info_bst _ _ _ _) ?_; simp only [Act.put, List.setIfInBounds_toArray, List.set_cons_succ, List.set_cons_zero]; go_big_quiet_on) | (go_big_quiet_step (fail)))
    (go_big_quiet_step ((go_at_call 52; exact calls_later (HCN.out _))))
    iterate 30 (go_big_quiet_step (fail))
    refine wpQuiet_nil ?_
    rintro _ ⟨yq, rfl⟩
    go_wp2
    go_ret
    exact ⟨by rw [HV.out]; first | done | rfl, BB.out.trans (yq.2.mono BB.out.size)⟩
end Go.Proofs.YtidfndgedopghaaGreatDoor
namespace Go.Proofs.YtidfndgedopghaaGreatDoor
set_option linter.unusedVariables false
open Go.ChangeShapes Go.WideShapes Go.ChangeAt Go.RowKit Go.Deep
def wi (n lo hi : Int) : Bool := decide (lo ≤ n ∧ n ≤ hi)
/-- Is there such a register? -/
def EX (n : Int) : Bool := decide (n = 768 ∨ n = 769 ∨ n = 772 ∨ n = 773 ∨ n = 774 ∨ n = 778 ∨ n = 800 ∨ n = 928 ∨ n = 930) || wi n 3857 3861 || wi n 803 831 || wi n 832 836 || wi n 944 959 || (wi n 2816 2847 && decide (n ≠ 2817)) || wi n 3072 3103
end Go.Proofs.YtidfndgedopghaaGreatDoor
namespace Go.Proofs.YtidfndgedopghaaGreatDoor
set_option linter.unusedVariables false
open Go.ChangeShapes Go.WideShapes Go.ChangeAt Go.RowKit Go.Deep
/-- The number of the first k bytes, the lowest first. -/
def VF (x : Nat → Nat) : Nat → Nat
  | 0 => 0
  | k + 1 => VF x k + x k * 256 ^ k
/-- The number of the k bytes from the eighth downwards. -/
def VR (x : Nat → Nat) : Nat → Nat
  | 0 => 0
  | m + 1 => VR x m * 256 + x (7 - m)
theorem VF_lt (x : Nat → Nat) (hx : ∀ j, x j < 256) : ∀ k, VF x k < 256 ^ k
  | 0 => by simp [VF]
  | k + 1 => by
    have := VF_lt x hx k
    have h := hx k
    have h2 : x k * 256 ^ k ≤ 255 * 256 ^ k := Nat.mul_le_mul_right _ (by omega)
    rw [VF, Nat.pow_succ]
    omega
theorem VR_8 (x : Nat → Nat) : VR x 8 = VF x 8 := by simp [VR, VF]; omega
theorem VR_lt (x : Nat → Nat) (hx : ∀ j, x j < 256) : ∀ k, VR x k < 256 ^ k
  | 0 => by simp [VR]
  | k + 1 => by
    have := VR_lt x hx k
    have h := hx (7 - k)
    rw [VR, Nat.pow_succ]
    omega
def cby (c : Nat → BitVec 8) (f : Nat) : Nat → Nat := fun j => (c (f + j)).toNat
theorem cby_lt (c : Nat → BitVec 8) (f j : Nat) : cby c f j < 256 := (c (f + j)).isLt
/-- Eight Cfg bytes as one number. -/
def cfgV (c : Nat → BitVec 8) (f : Nat) : Int := ((VF (cby c f) 8 : Nat) : Int)
theorem or_byte (x : Nat → Nat) (hx : ∀ j, x j < 256) (k : Nat) (hk : k < 8) : bits .or .u64 ((VF x k : Nat) : Int) (IntKind.u64.wrap (((x k : Nat) : Int) * 2 ^ (8 * k))) = ((VF x (k + 1) : Nat) : Int) := by
  have h1 := VF_lt x hx k
  have hp : (256 : Nat) ^ k = 2 ^ (8 * k) := by rw [show (256 : Nat) = 2 ^ 8 from rfl, ← Nat.pow_mul]
  have h2 : x k * 256 ^ k ≤ 255 * 256 ^ k := Nat.mul_le_mul_right _ (by have := hx k; omega)
  have h3 : 256 * 256 ^ k ≤ 18446744073709551616 := by
    rw [show 256 * 256 ^ k = 256 ^ (k + 1) by rw [Nat.pow_succ, Nat.mul_comm]]
    exact Nat.le_trans (Nat.pow_le_pow_right (by omega) (show k + 1 ≤ 8 by omega)) (by decide)
  have e1 : IntKind.u64.wrap (((x k : Nat) : Int) * 2 ^ (8 * k)) = ((x k * 256 ^ k : Nat) : Int) := by
    rw [hp] at h2 h3 ⊢
    rw [show (((x k : Nat) : Int) * 2 ^ (8 * k)) = ((x k * 2 ^ (8 * k) : Nat) : Int) by push_cast; rfl, IntKind.wrap_u64]
    omega
  rw [e1]
  have e2 : bits .or .u64 ((VF x k : Nat) : Int) ((x k * 256 ^ k : Nat) : Int) = ((VF x k ||| x k * 256 ^ k : Nat) : Int) := by
    have a1 : ((VF x k : Nat) : Int) = n64 (BitVec.ofNat 64 (VF x k)) := by unfold n64; rw [BitVec.toNat_ofNat, Nat.mod_eq_of_lt (by omega)]
    have a2 : ((x k * 256 ^ k : Nat) : Int) = n64 (BitVec.ofNat 64 (x k * 256 ^ k)) := by unfold n64; rw [BitVec.toNat_ofNat, Nat.mod_eq_of_lt (by omega)]
    rw [a1, a2, n64_or]
    unfold n64
    rw [BitVec.toNat_or, BitVec.toNat_ofNat, BitVec.toNat_ofNat, Nat.mod_eq_of_lt (by omega), Nat.mod_eq_of_lt (by omega)]
  rw [e2, VF]
  congr 1
  rw [hp] at h1 ⊢
  have := Nat.two_pow_add_eq_or_of_lt h1 (x k)
  rw [Nat.or_comm, Nat.mul_comm (x k), ← this, Nat.add_comm]
/-- What Cfg answers. -/
def cfgR (c : Nat → BitVec 8) (i : Int) : Int := if i = 0 then cfgV c 0 else if i = 2 then cfgV c 8 else 0
end Go.Proofs.YtidfndgedopghaaGreatDoor
namespace Go.Proofs.YtidfndgedopghaaGreatDoor
set_option linter.unusedVariables false
open Go.ChangeShapes Go.WideShapes Go.ChangeAt Go.RowKit Go.Deep
/-- What SetAddr leaves of Addr. -/
def sA (c : Nat → BitVec 8) (a : Nat → BitVec 64) (i : Int) (v : BitVec 64) : Nat → BitVec 64 := if aL c i then a else upd a i.toNat (pad v)
theorem aL_false {c : Nat → BitVec 8} {i : Int} (h : aL c i = false) : 0 ≤ i ∧ i < 16 := by
  by_cases hi : 0 ≤ i ∧ i < 16
  · exact hi
  · rw [aL_out _ _ hi] at h; cases h
theorem cL_false {c : Nat → BitVec 8} {i : Int} (h : cL c i = false) : 0 ≤ i ∧ i < 16 := by
  by_cases hi : 0 ≤ i ∧ i < 16
  · exact hi
  · rw [cL_out _ _ hi] at h; cases h
end Go.Proofs.YtidfndgedopghaaGreatDoor
namespace Go.Proofs.YtidfndgedopghaaGreatDoor
set_option linter.unusedVariables false
open Go.ChangeShapes Go.WideShapes Go.ChangeAt Go.RowKit Go.Deep
/-- A byte of a word. -/
def bty (v : BitVec 64) (k : Nat) : BitVec 8 := (v >>> (8 * k)).setWidth 8
theorem bty_int (v : BitVec 64) (k : Nat) : IntKind.u8.wrap (n64 v / 2 ^ (8 * k)) = n8 (bty v k) := by
  rw [n64_shr, wrap_n8]
  congr 1
/-- What a write of the eight Cfg bytes from the one of number f on leaves. -/
def sC (c : Nat → BitVec 8) (f : Nat) (v : BitVec 64) : Nat → BitVec 8 := fun j => if f ≤ j ∧ j < f + 8 ∧ lk (c j) = false then pcl (bty v (j - f)) else c j
def sR (c : Nat → BitVec 8) (i : Int) (v : BitVec 64) : Nat → BitVec 8 := if i = 0 then sC c 0 v else if i = 2 then sC c 8 v else c
theorem sC_end (c : Nat → BitVec 8) (f : Nat) (v : BitVec 64) : upto (f + 8) (sC c f v) c = sC c f v := by
  funext j; unfold upto
  split
  · rfl
  · unfold sC; rw [if_neg (by omega)]
theorem sC_start (c : Nat → BitVec 8) (f : Nat) (v : BitVec 64) : upto (f + 0) (sC c f v) c = c := by
  funext j; unfold upto
  split
  · unfold sC; rw [if_neg (by omega)]
  · rfl
theorem sC_locked (c : Nat → BitVec 8) (f k : Nat) (v : BitVec 64) (h : lk (c (f + k)) = true) : upto (f + (k + 1)) (sC c f v) c = upto (f + k) (sC c f v) c := by
  funext j; unfold upto
  by_cases e : j = f + k
  · subst e
    rw [if_pos (by omega), if_neg (by omega), sC, if_neg (by rw [h]; simp)]
  · by_cases h1 : j < f + k
    · rw [if_pos (by omega), if_pos h1]
    · rw [if_neg (by omega), if_neg h1]
theorem sC_open (c : Nat → BitVec 8) (f k : Nat) (hk : k < 8) (v : BitVec 64) (h : lk (c (f + k)) = false) : upd (upto (f + k) (sC c f v) c) (f + k) (pcl (bty v k)) = upto (f + (k + 1)) (sC c f v) c := by
  have := upto_succ (f + k) (sC c f v) c
  rw [show f + (k + 1) = f + k + 1 by omega, ← this]
  congr 1
  rw [sC, if_pos ⟨by omega, by omega, h⟩, Nat.add_sub_cancel_left]
end Go.Proofs.YtidfndgedopghaaGreatDoor
namespace Go.Proofs.YtidfndgedopghaaGreatDoor
set_option linter.unusedVariables false
open Go.ChangeShapes Go.WideShapes Go.ChangeAt Go.RowKit Go.Deep
theorem pcl_twice : ∀ x : BitVec 8, pcl (pcl x) = pcl x := by decide +kernel
theorem pad_twice (x : BitVec 64) : pad (pad x) = pad x := by unfold pad; rw [BitVec.and_assoc, BitVec.and_self]
theorem PC_twice (c : Nat → BitVec 8) : PC (PC c) = PC c := funext fun j => pcl_twice (c j)
theorem PA_twice (a : Nat → BitVec 64) : PA (PA a) = PA a := funext fun j => pad_twice (a j)
end Go.Proofs.YtidfndgedopghaaGreatDoor
namespace Go.Proofs.YtidfndgedopghaaGreatDoor
set_option linter.unusedVariables false
open Go.ChangeShapes Go.WideShapes Go.ChangeAt Go.RowKit Go.Deep
/-- What a register that is there tells. -/
def TO (k : Cp) (mip time : BitVec 64) (n : Int) : Int :=
  if n = 3859 then 1 else if n = 768 then n64 (k.s 0) else if n = 769 then 9223372036855828741 else if n = 772 then n64 (k.s 2) else if n = 773 then n64 (k.s 1) else if n = 774 then n64 (k.s 3) else if n = 778 then n64 (k.s 5) else if n = 800 then n64 (k.s 4) else if n = 832 then n64 (k.s 6) else if n = 833 then n64 (k.s 7) else if n = 834 then n64 (k.s 8) else if n = 835 then n64 (k.s 9) else if n = 836 then n64 (mip &&& 2184#64) else if n = 928 then cfgR (PC k.c) 0 else if n = 930 then cfgR (PC k.c) 2 else if n = 2816 then n64 (k.s 10) else if n = 3072 then n64 (k.s 10) else if n = 2818 then n64 (k.s 11) else if n = 3074 then n64 (k.s 11) else if n = 3073 then n64 time else if 944 ≤ n ∧ n ≤ 959 then n64 (k.a (n - 944).toNat) else 0
theorem told_start (k : Cp) (w : World) : ∃ W0, w.alloc (.cells (cpc k) 32) = W0 ∧ Hid (Row W0 w.heap.size (cpc k) 32) ∧ Hid (Below w.heap.size w W0) := by
  obtain ⟨W0, hW0, r0, b0, s0⟩ := start1 w (cpc k) 32
  exact ⟨W0, hW0, r0, b0⟩
end Go.Proofs.YtidfndgedopghaaGreatDoor
namespace Go.Proofs.YtidfndgedopghaaGreatDoor
set_option linter.unusedVariables false
open Go.ChangeShapes Go.WideShapes Go.ChangeAt Go.RowKit Go.Deep
theorem PR_md (k : Cp) : (PR k).md = 0 ∨ (PR k).md = 3 := by
  unfold PR; by_cases h : k.md = 3
  · right; simp [h]
  · left; simp [h]
/-- May the register be read? -/
def RK (k : Cp) (n : Int) : Bool := EX n && (decide ((PR k).md = 3) || (wi n 3072 3103 && decide (¬ (PR k).s 3 >>> (n - 3072).toNat &&& 1#64 = 0#64)))
theorem and3 (m : Int) (h0 : 0 ≤ m) (h1 : m < 16) : bits .and .i64 m 3 = m % 4 := by
  have : m = 0 ∨ m = 1 ∨ m = 2 ∨ m = 3 ∨ m = 4 ∨ m = 5 ∨ m = 6 ∨ m = 7 ∨ m = 8 ∨ m = 9 ∨ m = 10 ∨ m = 11 ∨ m = 12 ∨ m = 13 ∨ m = 14 ∨ m = 15 := by omega
  rcases this with rfl | rfl | rfl | rfl | rfl | rfl | rfl | rfl | rfl | rfl | rfl | rfl | rfl | rfl | rfl | rfl <;> decide +kernel
theorem EX_in (n : Int) (h : EX n = true) : 0 ≤ n ∧ n < 4096 ∧ (wi n 3072 3103 = true → n / 256 % 4 = 0) ∧ (wi n 3072 3103 = false → n / 256 % 4 = 3) := by
  simp only [EX, wi, Bool.or_eq_true, Bool.and_eq_true, decide_eq_true_iff, decide_eq_false_iff_not] at h ⊢
  omega
theorem cz_row (w : World) (k : Cp) : Row (w.alloc (.cells (cpc k) 32)) w.heap.size (cpc k) 32 := Row.new _ _ _
/-- What Read answers. -/
def RD (k : Cp) (mip time : BitVec 64) (n : Int) : Int := if RK k n then TO (PR k) mip time n else 0
end Go.Proofs.YtidfndgedopghaaGreatDoor
namespace Go.Proofs.YtidfndgedopghaaGreatDoor
set_option linter.unusedVariables false
open Go.ChangeShapes Go.WideShapes Go.ChangeAt Go.RowKit Go.Deep
/-- mstatus as it is written. -/
def stW (old v : BitVec 64) : BitVec 64 := if mq v then v &&& ~~~6144#64 ||| old &&& 6144#64 else v
/-- A Cpu with a register written, ahead of Proper. -/
def KW (k : Cp) (n : Int) (v : BitVec 64) : Cp :=
  if n = 768 then { k with s := upd k.s 0 (stW (k.s 0) v) } else if n = 772 then { k with s := upd k.s 2 v } else if n = 773 then { k with s := upd k.s 1 v } else if n = 774 then { k with s := upd k.s 3 v } else if n = 778 then { k with s := upd k.s 5 v } else if n = 800 then { k with s := upd k.s 4 v } else if n = 832 then { k with s := upd k.s 6 v } else if n = 833 then { k with s := upd k.s 7 v } else if n = 834 then { k with s := upd k.s 8 v } else if n = 835 then { k with s := upd k.s 9 v } else if n = 2816 then { k with s := upd k.s 10 v } else if n = 2818 then { k with s := upd k.s 11 v } else if n = 928 then { k with c := sR (PC k.c) 0 v, a := PA k.a } else if n = 930 then { k with c := sR (PC k.c) 2 v, a := PA k.a } else if 944 ≤ n ∧ n ≤ 959 then { k with c := PC k.c, a := sA (PC k.c) (PA k.a) (n - 944) v } else k
end Go.Proofs.YtidfndgedopghaaGreatDoor
namespace Go.Proofs.YtidfndgedopghaaGreatDoor
set_option linter.unusedVariables false
open Go.ChangeShapes Go.WideShapes Go.ChangeAt Go.RowKit Go.Deep
theorem row_apart {w : World} {g g' : Nat} {cs : Array Value} {t : TypeId} (h : Row w g cs t) (hne : g ≠ g') (cs' : Array Value) : Row (w.setRow g' cs') g cs t := (setRow_other _ _ _ _ hne).trans h
/-- May the register be written? -/
def WK (k : Cp) (n : Int) : Bool := EX n && decide ((PR k).md = 3) && decide (n < 3072)
/-- The Cpu behind a write. -/
def WR (k : Cp) (n : Int) (v : BitVec 64) : Cp := if WK k n then PR (KW (PR k) n v) else PR k
theorem EX_hi (n : Int) (h : EX n = true) : (n < 3072 → ¬ n / 1024 % 4 = 3 ∧ wi n 3072 3103 = false) ∧ (¬ n < 3072 → n / 1024 % 4 = 3) := by
  simp only [EX, wi, Bool.or_eq_true, Bool.and_eq_true, decide_eq_true_iff, decide_eq_false_iff_not] at h ⊢
  omega
end Go.Proofs.YtidfndgedopghaaGreatDoor
namespace Go.Proofs.YtidfndgedopghaaGreatDoor
set_option linter.unusedVariables false
set_option linter.unusedSimpArgs false
open Go.ChangeShapes Go.WideShapes Go.ChangeAt Go.RowKit Go.Deep
theorem upd_10_11 (f : Nat → BitVec 64) (x : BitVec 64) : upd f 10 x 11 = f 11 := rfl
/-- A counter that goes up or stays. -/
def up1 (b : Bool) (k : Cp) (i : Nat) : Cp := if b then { k with s := upd k.s i (k.s i + 1#64) } else k
/-- The Cpu behind Count. -/
def CO (k u : Cp) (ret wc wn : Bool) : Cp := up1 (ret && !wn && decide ((PR u).s 4 &&& 4#64 = 0#64)) (up1 (!wc && decide ((PR u).s 4 &&& 1#64 = 0#64)) (PR k) 10) 11
theorem start3 (w : World) (cs cs' cs'' : Array Value) (t t' t'' : TypeId) : ∃ W, ((w.alloc (.cells cs t)).alloc (.cells cs' t')).alloc (.cells cs'' t'') = W ∧ Hid (Row W w.heap.size cs t) ∧ Hid (Row W (w.heap.size + 1) cs' t') ∧ Hid (Row W (w.heap.size + 2) cs'' t'') ∧ Hid (Below w.heap.size w W) ∧ W.heap.size = w.heap.size + 3 := by
  obtain ⟨W, hW, r0, r1, b, s⟩ := start2 w cs cs' t t'
  refine ⟨_, rfl, ?_, ?_, ?_, ?_, ?_⟩
  · rw [hW]; exact r0.out.old r0.out.lt _
  · rw [hW]; exact r1.out.old r1.out.lt _
  · rw [hW, ← s]; exact Row.new _ _ _
  · rw [hW]; exact b.out.alloc (by rw [s]; omega) _
  · rw [hW]; simp [s]
end Go.Proofs.YtidfndgedopghaaGreatDoor
namespace Go.Proofs.YtidfndgedopghaaGreatDoor
set_option linter.unusedVariables false
open Go.ChangeShapes Go.WideShapes Go.ChangeAt Go.RowKit Go.Deep
/-- The cells of an Ask. -/
def akk (k : Cp) (n : Int) (v m t : BitVec 64) : Array Value := cpc k ++ #[.int .i64 n, .int .u64 (n64 v), .int .u64 (n64 m), .int .u64 (n64 t)]
theorem akk_size (k : Cp) (n : Int) (v m t : BitVec 64) : (akk k n v m t).size = 86 := by simp [akk, cpc_size]
/-- The cells of a Tally. -/
def tly (k u : Cp) (r c m : Bool) : Array Value := cpc k ++ cpc u ++ #[.bool r, .bool c, .bool m]
theorem tly_size (k u : Cp) (r c m : Bool) : (tly k u r c m).size = 167 := by simp [tly, cpc_size]
theorem Row.akk {w : World} {g : Nat} {k : Cp} {n : Int} {v m t : BitVec 64} {T : TypeId} (h : Row w g (akk k n v m t) T) :
    At w g 0 k ∧ w.cell? ⟨g, 82, none⟩ = some (.int .i64 n) ∧ w.cell? ⟨g, 83, none⟩ = some (.int .u64 (n64 v)) ∧ w.cell? ⟨g, 84, none⟩ = some (.int .u64 (n64 m)) ∧ w.cell? ⟨g, 85, none⟩ = some (.int .u64 (n64 t)) := by
  have q : ∀ j, 82 ≤ j → w.cell? ⟨g, j, none⟩ = #[Value.int .i64 n, .int .u64 (n64 v), .int .u64 (n64 m), .int .u64 (n64 t)][j - 82]? := fun j hj => by
    rw [h.cell]; unfold Go.Proofs.YtidfndgedopghaaGreatDoor.akk; rw [Array.getElem?_append_right (by rw [cpc_size]; exact hj), cpc_size]
  refine ⟨fun j hj => ?_, q 82 (by omega), q 83 (by omega), q 84 (by omega), q 85 (by omega)⟩
  rw [h.cell, Nat.zero_add]; unfold Go.Proofs.YtidfndgedopghaaGreatDoor.akk; rw [Array.getElem?_append_left (by rw [cpc_size]; exact hj), cpc_at _ _ hj]
theorem Row.tly {w : World} {g : Nat} {k u : Cp} {r c m : Bool} {T : TypeId} (h : Row w g (tly k u r c m) T) :
    At w g 0 k ∧ At w g 82 u ∧ w.cell? ⟨g, 164, none⟩ = some (.bool r) ∧ w.cell? ⟨g, 165, none⟩ = some (.bool c) ∧ w.cell? ⟨g, 166, none⟩ = some (.bool m) := by
  have hs : (cpc k ++ cpc u).size = 164 := by simp [cpc_size]
  have q : ∀ j, 164 ≤ j → w.cell? ⟨g, j, none⟩ = #[Value.bool r, .bool c, .bool m][j - 164]? := fun j hj => by
    rw [h.cell]; unfold Go.Proofs.YtidfndgedopghaaGreatDoor.tly; rw [Array.getElem?_append_right (by rw [hs]; exact hj), hs]
  refine ⟨fun j hj => ?_, fun j hj => ?_, q 164 (by omega), q 165 (by omega), q 166 (by omega)⟩
  · rw [h.cell, Nat.zero_add]; unfold Go.Proofs.YtidfndgedopghaaGreatDoor.tly; rw [Array.getElem?_append_left (by rw [hs]; omega), Array.getElem?_append_left (by rw [cpc_size]; omega), cpc_at _ _ hj]
  · rw [h.cell]; unfold Go.Proofs.YtidfndgedopghaaGreatDoor.tly; rw [Array.getElem?_append_left (by rw [hs]; omega), Array.getElem?_append_right (by rw [cpc_size]; omega), cpc_size, show 82 + j - 82 = j by omega, cpc_at _ _ hj]
section
variable {H : Type} {enc : TypeId × Value → H} {w : World} {base : Nat} {held : Bool}
theorem cells_int : Tryz.prog.cellsOf 3 = 1 := by kernel_rfl
theorem cells_u64 : Tryz.prog.cellsOf 23 = 1 := by kernel_rfl
theorem cells_bool : Tryz.prog.cellsOf 4 = 1 := by kernel_rfl
end
end Go.Proofs.YtidfndgedopghaaGreatDoor
namespace Go.Proofs.YtidfndgedopghaaGreatDoor
set_option linter.unusedVariables false
open Go.ChangeShapes Go.WideShapes Go.ChangeAt Go.RowKit Go.Deep
def CPr : Prop := ∀ (k : Cp) (W : World), Calls Tryz.prog 23 #[.agg (cpc k)] W fun e w' => e = .returned (.agg (cpc (PR k))) ∧ Below W.heap.size W w'
theorem later_at {W : World} {g j : Nat} {v : Value} (hg : g < W.heap.size) (h : W.cell? ⟨g, j, none⟩ = some v) : ∀ x : Later W, x.1.cell? ⟨g, j, none⟩ = some v := fun x => (later_cell x (by exact hg)).trans h
end Go.Proofs.YtidfndgedopghaaGreatDoor
namespace Go.Proofs.YtidfndgedopghaaGreatDoor
set_option linter.unusedVariables false
open Go.ChangeShapes Go.WideShapes Go.ChangeAt Go.RowKit Go.Deep
theorem go_onP {motive : World → Prop} {w : World} {Q : World → Prop} (hq : Q w) (h : ∀ W, Q W → motive W) : motive w := h w hq
theorem load_cpu (W : World) (g o : Nat) (k : Cp) (h : At W g o k) : (Instr.loadAt 32 (.pointer (some ⟨g, o, none⟩))).run Tryz.prog W = .ok (.agg (cpc k)) W := by
  simp only [Instr.loadAt, Instr.sureAddr, Sem.run_bind, Sem.run_pure, Result.andThen_ok, run_load_agg W 32 g o (cpc k) _ h.agg Tryz.underlying32 rfl (info_cpu k)]
/-- A whole Cpu stored into the block that was made last. -/
theorem wpList_store_last {P : Program} {ops : Array Oper} {rest : List Oper} {o : Oper} {a : Act} {w' : World} {Q : Exit → Act → World → Prop} (hgd : o.guard = none) (t : TypeId) (x y : Operand) (ho : o.op = .store t x y) (hd : o.dst = none)
    (w : World) (c c' : Array Value) (hw : w' = w.alloc (.cells c t)) (hx : a.eval x = .pointer (some ⟨w.heap.size, 0, none⟩)) (hy : a.eval y = .agg c') (hi : (P.info? t).map (·.size) = some c'.size) (hs : c.size = c'.size) (h1 : c'.all (·.oneCell') = true)
    (h : wpList P ops Q rest a (w.alloc (.cells c' t))) : wpList P ops Q (o :: rest) a w' := by
  subst hw
  exact wpList_store_new hgd t x y ho hd c c' hx hy hi hs h1 h
/-- A row behind a call and a new block. -/
theorem Row.ca {W w1 : World} {g : Nat} {cs : Array Value} {t : TypeId} (h : Row W g cs t) (B : Below W.heap.size W w1) (o : Obj) : Row (w1.alloc o) g cs t :=
  (h.later B h.lt).old (Nat.lt_of_lt_of_le h.lt B.size) o
theorem below_ca {B : Nat} {a W w1 : World} (h : Below B a W) (b : Below W.heap.size W w1) (hB : B ≤ W.heap.size) (o : Obj) : Below B a (w1.alloc o) :=
  (h.trans (b.mono hB)).alloc (Nat.le_trans hB b.size) o
theorem Row.cb {W w1 : World} {g : Nat} {cs : Array Value} {t : TypeId} (h : Row W g cs t) (B : Below W.heap.size W w1) : Row w1 g cs t := h.later B h.lt
/-- A Cpu whose counters are at their end. -/
def ctop : Cp := { cz with s := upd (upd cz.s 10 18446744073709551615#64) 11 18446744073709551615#64 }
theorem built_cz : Tryz.prog.built 32 [] = some (cpc cz) := by kernel_rfl
/-- A Cpu in M. -/
def cM : Cp := { cz with md := 3 }
theorem built_cM : Tryz.prog.built 32 [(2, .int .i64 3)] = some (cpc cM) := by kernel_rfl
theorem built_ctop : Tryz.prog.built 32 [(14, .int .u64 18446744073709551615), (15, .int .u64 18446744073709551615)] = some (cpc ctop) := by kernel_rfl
theorem small_cases {z : BitVec 64} (h : z.toNat ≤ 7) : z = 0#64 ∨ z = 1#64 ∨ z = 2#64 ∨ z = 3#64 ∨ z = 4#64 ∨ z = 5#64 ∨ z = 6#64 ∨ z = 7#64 := by
  have : z.toNat = 0 ∨ z.toNat = 1 ∨ z.toNat = 2 ∨ z.toNat = 3 ∨ z.toNat = 4 ∨ z.toNat = 5 ∨ z.toNat = 6 ∨ z.toNat = 7 := by omega
  rcases this with e | e | e | e | e | e | e | e
  · exact Or.inl (BitVec.eq_of_toNat_eq e)
  · exact Or.inr (Or.inl (BitVec.eq_of_toNat_eq e))
  · exact Or.inr (Or.inr (Or.inl (BitVec.eq_of_toNat_eq e)))
  · exact Or.inr (Or.inr (Or.inr (Or.inl (BitVec.eq_of_toNat_eq e))))
  · exact Or.inr (Or.inr (Or.inr (Or.inr (Or.inl (BitVec.eq_of_toNat_eq e)))))
  · exact Or.inr (Or.inr (Or.inr (Or.inr (Or.inr (Or.inl (BitVec.eq_of_toNat_eq e))))))
  · exact Or.inr (Or.inr (Or.inr (Or.inr (Or.inr (Or.inr (Or.inl (BitVec.eq_of_toNat_eq e)))))))
  · exact Or.inr (Or.inr (Or.inr (Or.inr (Or.inr (Or.inr (Or.inr (BitVec.eq_of_toNat_eq e)))))))
theorem PR_s4 (u : Cp) : ((PR u).s 4).toNat ≤ 7 := by
  show (u.s 4 &&& 5#64).toNat ≤ 7
  rw [BitVec.toNat_and]; exact Nat.le_trans Nat.and_le_right (by decide)
theorem PR_s3 (u : Cp) : ((PR u).s 3).toNat ≤ 7 := by
  show (u.s 3 &&& 7#64).toNat ≤ 7
  rw [BitVec.toNat_and]; exact Nat.le_trans Nat.and_le_right (by decide)
theorem bit2 {z : BitVec 64} (h : z.toNat ≤ 7) : z >>> 2 &&& 1#64 = 0#64 ↔ z &&& 4#64 = 0#64 := by
  rcases small_cases h with rfl | rfl | rfl | rfl | rfl | rfl | rfl | rfl <;> decide
theorem CO_top : (CO ctop cz true false false).s 10 = 0#64 ∧ (CO ctop cz true false false).s 11 = 0#64 := by decide
end Go.Proofs.YtidfndgedopghaaGreatDoor
