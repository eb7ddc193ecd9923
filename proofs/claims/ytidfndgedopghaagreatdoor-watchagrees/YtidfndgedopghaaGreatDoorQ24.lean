/-
  Ud.
-/
import Derived.Test.YtidfndgedopghaaGreatDoorQ22
import Derived.Test.YtidfndgedopghaaGreatDoorQ04
namespace Go.Proofs.YtidfndgedopghaaGreatDoor
set_option linter.unusedVariables false
set_option maxRecDepth 100000
set_option maxHeartbeats 4000000
open Go.ChangeShapes Go.WideShapes Go.ChangeAt Go.RowKit Go.Deep
def beB (l m : List Int) : Bool := (strOfNums l).toList == (strOfNums m).toList
theorem uBe_c (l m : List Int) (u v : Value) (w : World) (hu : Byt w u l) (hv : Byt w v m) : Calls Tryz.prog 130 #[u, v] w fun e w' => e = .returned (.bool (beB l m)) ∧ w' = w := by
  have k1 := hu.conv
  have k2 := hv.conv
  obtain ⟨x1, y1, e1, _⟩ := hu
  obtain ⟨x2, y2, e2, _⟩ := hv
  unfold beB
  generalize strOfNums l = s at *
  generalize strOfNums m = t at *
  subst e1 e2
  go_enter Tryz.func130, Tryz.ntmps130
  go_wp2
  go_ret
  exact ⟨by first | rfl | (congr 2; rw [Bool.eq_iff_iff]; simp), rfl⟩
def tmB (A B : St) : Bool := (((A.msip == B.msip) && (A.cmp == B.cmp)) && (A.time == B.time))
theorem uTm_c (A B : St) (ar ai ao br bi bo : Value) (w : World) : Calls Tryz.prog 51 #[.agg (stc A ar ai ao), .agg (stc B br bi bo)] w fun e w' => e = .returned (.bool (tmB A B)) ∧ Below w.heap.size w w' := by
  obtain ⟨W0, hW0, r0, r1, b0, s0⟩ := start2 w (stc A ar ai ao) (stc B br bi bo) 44 44
  have BB := Hid.mkU b0.out
  clear s0 b0
  have HM : Hid ((tmB A B) = (((A.msip == B.msip) && (A.cmp == B.cmp)) && (A.time == B.time))) := rfl
  have c0_msip : W0.cell? ⟨w.heap.size, 1, none⟩ = some (.int .u32 A.msip) := r0.out.cell 1
  have c0_cmp : W0.cell? ⟨w.heap.size, 2, none⟩ = some (.int .u64 A.cmp) := r0.out.cell 2
  have c0_time : W0.cell? ⟨w.heap.size, 3, none⟩ = some (.int .u64 A.time) := r0.out.cell 3
  have c1_msip : W0.cell? ⟨w.heap.size + 1, 1, none⟩ = some (.int .u32 B.msip) := r1.out.cell 1
  have c1_cmp : W0.cell? ⟨w.heap.size + 1, 2, none⟩ = some (.int .u64 B.cmp) := r1.out.cell 2
  have c1_time : W0.cell? ⟨w.heap.size + 1, 3, none⟩ = some (.int .u64 B.time) := r1.out.cell 3
  generalize hZ : (tmB A B) = Z at HM ⊢
  clear hZ
  go_enter Tryz.func51, Tryz.ntmps51
  go_upto_region 1 with fail
  clear hW0
  cases q1 : (A.msip == B.msip) with
  | true =>
    cases q2 : (A.cmp == B.cmp) with
    | true =>
      cases q3 : (A.time == B.time) with
      | true =>
        have HV : Hid (Z = true) := (by unfold Hid; rw [HM.out]; first | (rw [q1, q2, q3]; done) | (rw [q1, q2, q3]; rfl))
        clear HM
        go_wp2
        go_ret
        exact ⟨by rw [HV.out]; first | done | rfl, BB.out⟩
      | false =>
        have HV : Hid (Z = false) := (by unfold Hid; rw [HM.out]; first | (rw [q1, q2, q3]; done) | (rw [q1, q2, q3]; rfl))
        clear HM
        go_wp2
        go_ret
        exact ⟨by rw [HV.out]; first | done | rfl, BB.out⟩
    | false =>
      have HV : Hid (Z = false) := (by unfold Hid; rw [HM.out]; first | (rw [q1, q2]; done) | (rw [q1, q2]; rfl))
      clear HM
      go_wp2
      go_ret
      exact ⟨by rw [HV.out]; first | done | rfl, BB.out⟩
  | false =>
    have HV : Hid (Z = false) := (by unfold Hid; rw [HM.out]; first | (rw [q1]; done) | (rw [q1]; rfl))
    clear HM
    go_wp2
    go_ret
    exact ⟨by rw [HV.out]; first | done | rfl, BB.out⟩
def cnB (A B : St) : Bool := (((((((A.ier == B.ier) && (A.lcr == B.lcr)) && (A.mcr == B.mcr)) && (A.scr == B.scr)) && (A.ov == B.ov)) && (beB A.inp B.inp)) && (beB A.out B.out))
theorem uCn_c (A B : St) (ar ai ao br bi bo : Value) (w : World) (hA : Bs A ar ai ao w) (hB : Bs B br bi bo w) : Calls Tryz.prog 52 #[.agg (stc A ar ai ao), .agg (stc B br bi bo)] w fun e w' => e = .returned (.bool (cnB A B)) ∧ Below w.heap.size w w' := by
  obtain ⟨W0, hW0, r0, r1, b0, s0⟩ := start2 w (stc A ar ai ao) (stc B br bi bo) 44 44
  have BB := Hid.mkU b0.out
  clear s0 b0
  have HM : Hid ((cnB A B) = (((((((A.ier == B.ier) && (A.lcr == B.lcr)) && (A.mcr == B.mcr)) && (A.scr == B.scr)) && (A.ov == B.ov)) && (beB A.inp B.inp)) && (beB A.out B.out))) := rfl
  have c0_ier : ∀ x : Later W0, x.1.cell? ⟨w.heap.size, 6, none⟩ = some (.int .u8 A.ier) := fun x => (lrow r0.out x).cell 6
  have c0_lcr : ∀ x : Later W0, x.1.cell? ⟨w.heap.size, 7, none⟩ = some (.int .u8 A.lcr) := fun x => (lrow r0.out x).cell 7
  have c0_mcr : ∀ x : Later W0, x.1.cell? ⟨w.heap.size, 8, none⟩ = some (.int .u8 A.mcr) := fun x => (lrow r0.out x).cell 8
  have c0_scr : ∀ x : Later W0, x.1.cell? ⟨w.heap.size, 9, none⟩ = some (.int .u8 A.scr) := fun x => (lrow r0.out x).cell 9
  have c0_ov : ∀ x : Later W0, x.1.cell? ⟨w.heap.size, 10, none⟩ = some (.bool A.ov) := fun x => (lrow r0.out x).cell 10
  have c0_i : ∀ x : Later W0, x.1.cell? ⟨w.heap.size, 11, none⟩ = some (ai) := fun x => (lrow r0.out x).cell 11
  have c0_o : ∀ x : Later W0, x.1.cell? ⟨w.heap.size, 12, none⟩ = some (ao) := fun x => (lrow r0.out x).cell 12
  have c1_ier : ∀ x : Later W0, x.1.cell? ⟨w.heap.size + 1, 6, none⟩ = some (.int .u8 B.ier) := fun x => (lrow r1.out x).cell 6
  have c1_lcr : ∀ x : Later W0, x.1.cell? ⟨w.heap.size + 1, 7, none⟩ = some (.int .u8 B.lcr) := fun x => (lrow r1.out x).cell 7
  have c1_mcr : ∀ x : Later W0, x.1.cell? ⟨w.heap.size + 1, 8, none⟩ = some (.int .u8 B.mcr) := fun x => (lrow r1.out x).cell 8
  have c1_scr : ∀ x : Later W0, x.1.cell? ⟨w.heap.size + 1, 9, none⟩ = some (.int .u8 B.scr) := fun x => (lrow r1.out x).cell 9
  have c1_ov : ∀ x : Later W0, x.1.cell? ⟨w.heap.size + 1, 10, none⟩ = some (.bool B.ov) := fun x => (lrow r1.out x).cell 10
  have c1_i : ∀ x : Later W0, x.1.cell? ⟨w.heap.size + 1, 11, none⟩ = some (bi) := fun x => (lrow r1.out x).cell 11
  have c1_o : ∀ x : Later W0, x.1.cell? ⟨w.heap.size + 1, 12, none⟩ = some (bo) := fun x => (lrow r1.out x).cell 12
  have HBI : Hid (∀ x : Later W0, Calls Tryz.prog 130 #[ai, bi] x.1 fun e w' => e = .returned (.bool (beB A.inp B.inp)) ∧ w' = x.1) := fun x => uBe_c _ _ _ _ _ ((hA.later BB.out).i.later x.2 rfl) ((hB.later BB.out).i.later x.2 rfl)
  have HBO : Hid (∀ x : Later W0, Calls Tryz.prog 130 #[ao, bo] x.1 fun e w' => e = .returned (.bool (beB A.out B.out)) ∧ w' = x.1) := fun x => uBe_c _ _ _ _ _ ((hA.later BB.out).o.later x.2 rfl) ((hB.later BB.out).o.later x.2 rfl)
  generalize hZ : (cnB A B) = Z at HM ⊢
  clear hZ
  generalize beB A.inp B.inp = z5 at *
  generalize beB A.out B.out = z6 at *
  go_enter Tryz.func52, Tryz.ntmps52
  go_upto_region 1 with fail
  clear hW0
  have hne := later_nonempty W0
  cases q1 : (A.ier == B.ier) with
  | true =>
    cases q2 : (A.lcr == B.lcr) with
    | true =>
      cases q3 : (A.mcr == B.mcr) with
      | true =>
        cases q4 : (A.scr == B.scr) with
        | true =>
          cases q5 : (A.ov == B.ov) with
          | true =>
            cases z5 with
            | true =>
              cases z6 with
              | true =>
                have HV : Hid (Z = true) := (by unfold Hid; rw [HM.out]; first | (rw [q1, q2, q3, q4, q5]; done) | (rw [q1, q2, q3, q4, q5]; rfl))
                clear HM
                refine wp_region_plain (x0 := Later.start W0) ?_
                iterate 38 (go_big_quiet_step (fail))
                (go_big_quiet_step ((go_at_call 130; exact calls_later_same (HBI.out _))))
                iterate 6 (go_big_quiet_step (fail))
                (go_big_quiet_step ((go_at_call 130; exact calls_later_same (HBO.out _))))
                iterate 2 (go_big_quiet_step (fail))
                refine wpQuiet_nil ?_
                rintro _ ⟨yq, rfl⟩
                go_wp2
                go_ret
                exact ⟨by rw [HV.out]; first | done | rfl, BB.out.trans (yq.2.mono BB.out.size)⟩
              | false =>
                have HV : Hid (Z = false) := (by unfold Hid; rw [HM.out]; first | (rw [q1, q2, q3, q4, q5]; done) | (rw [q1, q2, q3, q4, q5]; rfl))
                clear HM
                refine wp_region_plain (x0 := Later.start W0) ?_
                iterate 38 (go_big_quiet_step (fail))
                (go_big_quiet_step ((go_at_call 130; exact calls_later_same (HBI.out _))))
                iterate 6 (go_big_quiet_step (fail))
                (go_big_quiet_step ((go_at_call 130; exact calls_later_same (HBO.out _))))
                iterate 2 (go_big_quiet_step (fail))
                refine wpQuiet_nil ?_
                rintro _ ⟨yq, rfl⟩
                go_wp2
                go_ret
                exact ⟨by rw [HV.out]; first | done | rfl, BB.out.trans (yq.2.mono BB.out.size)⟩
            | false =>
              have HV : Hid (Z = false) := (by unfold Hid; rw [HM.out]; first | (rw [q1, q2, q3, q4, q5]; done) | (rw [q1, q2, q3, q4, q5]; rfl))
              clear HM
              refine wp_region_plain (x0 := Later.start W0) ?_
              iterate 38 (go_big_quiet_step (fail))
              (go_big_quiet_step ((go_at_call 130; exact calls_later_same (HBI.out _))))
              iterate 6 (go_big_quiet_step (fail))
              (go_big_quiet_step ((go_at_call 130; exact calls_later_same (HBO.out _))))
              iterate 2 (go_big_quiet_step (fail))
              refine wpQuiet_nil ?_
              rintro _ ⟨yq, rfl⟩
              go_wp2
              go_ret
              exact ⟨by rw [HV.out]; first | done | rfl, BB.out.trans (yq.2.mono BB.out.size)⟩
          | false =>
            have HV : Hid (Z = false) := (by unfold Hid; rw [HM.out]; first | (rw [q1, q2, q3, q4, q5]; done) | (rw [q1, q2, q3, q4, q5]; rfl))
            clear HM
            refine wp_region_plain (x0 := Later.start W0) ?_
            iterate 38 (go_big_quiet_step (fail))
            (go_big_quiet_step ((go_at_call 130; exact calls_later_same (HBI.out _))))
            iterate 6 (go_big_quiet_step (fail))
            (go_big_quiet_step ((go_at_call 130; exact calls_later_same (HBO.out _))))
            iterate 2 (go_big_quiet_step (fail))
            refine wpQuiet_nil ?_
            rintro _ ⟨yq, rfl⟩
            go_wp2
            go_ret
            exact ⟨by rw [HV.out]; first | done | rfl, BB.out.trans (yq.2.mono BB.out.size)⟩
        | false =>
          have HV : Hid (Z = false) := (by unfold Hid; rw [HM.out]; first | (rw [q1, q2, q3, q4]; done) | (rw [q1, q2, q3, q4]; rfl))
          clear HM
          refine wp_region_plain (x0 := Later.start W0) ?_
          iterate 38 (go_big_quiet_step (fail))
          (go_big_quiet_step ((go_at_call 130; exact calls_later_same (HBI.out _))))
          iterate 6 (go_big_quiet_step (fail))
          (go_big_quiet_step ((go_at_call 130; exact calls_later_same (HBO.out _))))
          iterate 2 (go_big_quiet_step (fail))
          refine wpQuiet_nil ?_
          rintro _ ⟨yq, rfl⟩
          go_wp2
          go_ret
          exact ⟨by rw [HV.out]; first | done | rfl, BB.out.trans (yq.2.mono BB.out.size)⟩
      | false =>
        have HV : Hid (Z = false) := (by unfold Hid; rw [HM.out]; first | (rw [q1, q2, q3]; done) | (rw [q1, q2, q3]; rfl))
        clear HM
        refine wp_region_plain (x0 := Later.start W0) ?_
        iterate 38 (go_big_quiet_step (fail))
        (go_big_quiet_step ((go_at_call 130; exact calls_later_same (HBI.out _))))
        iterate 6 (go_big_quiet_step (fail))
        (go_big_quiet_step ((go_at_call 130; exact calls_later_same (HBO.out _))))
        iterate 2 (go_big_quiet_step (fail))
        refine wpQuiet_nil ?_
        rintro _ ⟨yq, rfl⟩
        go_wp2
        go_ret
        exact ⟨by rw [HV.out]; first | done | rfl, BB.out.trans (yq.2.mono BB.out.size)⟩
    | false =>
      have HV : Hid (Z = false) := (by unfold Hid; rw [HM.out]; first | (rw [q1, q2]; done) | (rw [q1, q2]; rfl))
      clear HM
      refine wp_region_plain (x0 := Later.start W0) ?_
      iterate 38 (go_big_quiet_step (fail))
      (go_big_quiet_step ((go_at_call 130; exact calls_later_same (HBI.out _))))
      iterate 6 (go_big_quiet_step (fail))
      (go_big_quiet_step ((go_at_call 130; exact calls_later_same (HBO.out _))))
      iterate 2 (go_big_quiet_step (fail))
      refine wpQuiet_nil ?_
      rintro _ ⟨yq, rfl⟩
      go_wp2
      go_ret
      exact ⟨by rw [HV.out]; first | done | rfl, BB.out.trans (yq.2.mono BB.out.size)⟩
  | false =>
    have HV : Hid (Z = false) := (by unfold Hid; rw [HM.out]; first | (rw [q1]; done) | (rw [q1]; rfl))
    clear HM
    refine wp_region_plain (x0 := Later.start W0) ?_
    iterate 38 (go_big_quiet_step (fail))
    (go_big_quiet_step ((go_at_call 130; exact calls_later_same (HBI.out _))))
    iterate 6 (go_big_quiet_step (fail))
    (go_big_quiet_step ((go_at_call 130; exact calls_later_same (HBO.out _))))
    iterate 2 (go_big_quiet_step (fail))
    refine wpQuiet_nil ?_
    rintro _ ⟨yq, rfl⟩
    go_wp2
    go_ret
    exact ⟨by rw [HV.out]; first | done | rfl, BB.out.trans (yq.2.mono BB.out.size)⟩
def dvB (A B : St) : Bool := ((((((tmB A B) && (cnB A B)) && (A.ext == B.ext)) && (A.soft == B.soft)) && (A.off == B.off)) && (A.code == B.code))
theorem uDv_c (A B : St) (ar ai ao br bi bo : Value) (w : World) (hA : Bs A ar ai ao w) (hB : Bs B br bi bo w) : Calls Tryz.prog 24 #[.agg (stc A ar ai ao), .agg (stc B br bi bo)] w fun e w' => e = .returned (.bool (dvB A B)) ∧ Below w.heap.size w w' := by
  obtain ⟨W0, hW0, r0, r1, b0, s0⟩ := start2 w (stc A ar ai ao) (stc B br bi bo) 44 44
  have BB := Hid.mkU b0.out
  clear s0 b0
  have HM : Hid ((dvB A B) = ((((((tmB A B) && (cnB A B)) && (A.ext == B.ext)) && (A.soft == B.soft)) && (A.off == B.off)) && (A.code == B.code))) := rfl
  have c0_ext : ∀ x : Later W0, x.1.cell? ⟨w.heap.size, 4, none⟩ = some (.bool A.ext) := fun x => (lrow r0.out x).cell 4
  have c0_soft : ∀ x : Later W0, x.1.cell? ⟨w.heap.size, 5, none⟩ = some (.bool A.soft) := fun x => (lrow r0.out x).cell 5
  have c0_off : ∀ x : Later W0, x.1.cell? ⟨w.heap.size, 13, none⟩ = some (.int .i64 A.off) := fun x => (lrow r0.out x).cell 13
  have c0_code : ∀ x : Later W0, x.1.cell? ⟨w.heap.size, 14, none⟩ = some (.int .i64 A.code) := fun x => (lrow r0.out x).cell 14
  have c1_ext : ∀ x : Later W0, x.1.cell? ⟨w.heap.size + 1, 4, none⟩ = some (.bool B.ext) := fun x => (lrow r1.out x).cell 4
  have c1_soft : ∀ x : Later W0, x.1.cell? ⟨w.heap.size + 1, 5, none⟩ = some (.bool B.soft) := fun x => (lrow r1.out x).cell 5
  have c1_off : ∀ x : Later W0, x.1.cell? ⟨w.heap.size + 1, 13, none⟩ = some (.int .i64 B.off) := fun x => (lrow r1.out x).cell 13
  have c1_code : ∀ x : Later W0, x.1.cell? ⟨w.heap.size + 1, 14, none⟩ = some (.int .i64 B.code) := fun x => (lrow r1.out x).cell 14
  have HTM : Hid (∀ W, Calls Tryz.prog 51 #[.agg (stc A ar ai ao), .agg (stc B br bi bo)] W fun e w' => e = .returned (.bool (tmB A B)) ∧ Below W.heap.size W w') := uTm_c A B ar ai ao br bi bo
  have HCN : Hid (∀ x : Later W0, Calls Tryz.prog 52 #[.agg (stc A ar ai ao), .agg (stc B br bi bo)] x.1 fun e w' => e = .returned (.bool (cnB A B)) ∧ Below x.1.heap.size x.1 w') := fun x => uCn_c A B ar ai ao br bi bo x.1 ((hA.later BB.out).later x.2) ((hB.later BB.out).later x.2)
  generalize hZ : (dvB A B) = Z at HM ⊢
  clear hZ
  generalize tmB A B = z0 at *
  generalize cnB A B = z1 at *
  go_enter Tryz.func24, Tryz.ntmps24
  go_upto_region 1 with fail
  clear hW0
  have hne := later_nonempty W0
  cases z0 with
  | true =>
    cases z1 with
    | true =>
      cases q1 : (A.ext == B.ext) with
      | true =>
        cases q2 : (A.soft == B.soft) with
        | true =>
          cases q3 : (A.off == B.off) with
          | true =>
            cases q4 : (A.code == B.code) with
            | true =>
              have HV : Hid (Z = true) := (by unfold Hid; rw [HM.out]; first | (rw [q1, q2, q3, q4]; done) | (rw [q1, q2, q3, q4]; rfl))
              clear HM
              refine wp_region_plain (x0 := Later.start W0) ?_
              (first | (go_big_quiet_want; refine quiet_load_agg 44 _ (by rfl) (w.heap.size) 0 (by rfl) (stc A ar ai ao) _ r0.out.lt (lrow_cells r0.out) Tryz.underlying44 (by rfl) (info_bst _ _ _ _) ?_; simp only [Act.put, List.setIfInBounds_toArray, List.set_cons_succ, List.set_cons_zero]; go_big_quiet_on) | (go_big_quiet_want; refine quiet_load_agg 44 _ (by rfl) (w.heap.size + 1) 0 (by rfl) (stc B br bi bo) _ r1.out.lt (lrow_cells r1.out) Tryz.underlying44 (by rfl) (info_bst _ _ _ _) ?_; simp only [Act.put, List.setIfInBounds_toArray, List.set_cons_succ, List.set_cons_zero]; go_big_quiet_on) | (go_big_quiet_step (fail)))
              (first | (go_big_quiet_want; refine quiet_load_agg 44 _ (by rfl) (w.heap.size) 0 (by rfl) (stc A ar ai ao) _ r0.out.lt (lrow_cells r0.out) Tryz.underlying44 (by rfl) (info_bst _ _ _ _) ?_; simp only [Act.put, List.setIfInBounds_toArray, List.set_cons_succ, List.set_cons_zero]; go_big_quiet_on) | (go_big_quiet_want; refine quiet_load_agg 44 _ (by rfl) (w.heap.size + 1) 0 (by rfl) (stc B br bi bo) _ r1.out.lt (lrow_cells r1.out) Tryz.underlying44 (by rfl) (info_bst _ _ _ _) ?_; simp only [Act.put, List.setIfInBounds_toArray, List.set_cons_succ, List.set_cons_zero]; go_big_quiet_on) | (go_big_quiet_step (fail)))
              (go_big_quiet_step ((go_at_call 51; exact calls_later (HTM.out _))))
              (go_big_quiet_step (fail))
              (first | (go_big_quiet_want; refine quiet_load_agg 44 _ (by rfl) (w.heap.size) 0 (by rfl) (stc A ar ai ao) _ r0.out.lt (lrow_cells r0.out) Tryz.underlying44 (by rfl) (info_bst _ _ _ _) ?_; simp only [Act.put, List.setIfInBounds_toArray, List.set_cons_succ, List.set_cons_zero]; go_big_quiet_on) | (go_big_quiet_want; refine quiet_load_agg 44 _ (by rfl) (w.heap.size + 1) 0 (by rfl) (stc B br bi bo) _ r1.out.lt (lrow_cells r1.out) Tryz.underlying44 (by rfl) (info_bst _ _ _ _) ?_; simp only [Act.put, List.setIfInBounds_toArray, List.set_cons_succ, List.set_cons_zero]; go_big_quiet_on) | (go_big_quiet_step (fail)))
              (first | (go_big_quiet_want; refine quiet_load_agg 44 _ (by rfl) (w.heap.size) 0 (by rfl) (stc A ar ai ao) _ r0.out.lt (lrow_cells r0.out) Tryz.underlying44 (by rfl) (info_bst _ _ _ _) ?_; simp only [Act.put, List.setIfInBounds_toArray, List.set_cons_succ, List.set_cons_zero]; go_big_quiet_on) | (go_big_quiet_want; refine quiet_load_agg 44 _ (by rfl) (w.heap.size + 1) 0 (by rfl) (stc B br bi bo) _ r1.out.lt (lrow_cells r1.out) Tryz.underlying44 (by rfl) (info_bst _ _ _ _) ?_; simp only [Act.put, List.setIfInBounds_toArray, List.set_cons_succ, List.set_cons_zero]; go_big_quiet_on) | (go_big_quiet_step (fail)))
              (go_big_quiet_step ((go_at_call 52; exact calls_later (HCN.out _))))
              iterate 30 (go_big_quiet_step (fail))
              refine wpQuiet_nil ?_
              rintro _ ⟨yq, rfl⟩
              go_wp2
              go_ret
              exact ⟨by rw [HV.out]; first | done | rfl, BB.out.trans (yq.2.mono BB.out.size)⟩
            | false =>
              have HV : Hid (Z = false) := (by unfold Hid; rw [HM.out]; first | (rw [q1, q2, q3, q4]; done) | (rw [q1, q2, q3, q4]; rfl))
              clear HM
              refine wp_region_plain (x0 := Later.start W0) ?_
              (first | (go_big_quiet_want; refine quiet_load_agg 44 _ (by rfl) (w.heap.size) 0 (by rfl) (stc A ar ai ao) _ r0.out.lt (lrow_cells r0.out) Tryz.underlying44 (by rfl) (info_bst _ _ _ _) ?_; simp only [Act.put, List.setIfInBounds_toArray, List.set_cons_succ, List.set_cons_zero]; go_big_quiet_on) | (go_big_quiet_want; refine quiet_load_agg 44 _ (by rfl) (w.heap.size + 1) 0 (by rfl) (stc B br bi bo) _ r1.out.lt (lrow_cells r1.out) Tryz.underlying44 (by rfl) (info_bst _ _ _ _) ?_; simp only [Act.put, List.setIfInBounds_toArray, List.set_cons_succ, List.set_cons_zero]; go_big_quiet_on) | (go_big_quiet_step (fail)))
              (first | (go_big_quiet_want; refine quiet_load_agg 44 _ (by rfl) (w.heap.size) 0 (by rfl) (stc A ar ai ao) _ r0.out.lt (lrow_cells r0.out) Tryz.underlying44 (by rfl) (info_bst _ _ _ _) ?_; simp only [Act.put, List.setIfInBounds_toArray, List.set_cons_succ, List.set_cons_zero]; go_big_quiet_on) | (go_big_quiet_want; refine quiet_load_agg 44 _ (by rfl) (w.heap.size + 1) 0 (by rfl) (stc B br bi bo) _ r1.out.lt (lrow_cells r1.out) Tryz.underlying44 (by rfl) (info_bst _ _ _ _) ?_; simp only [Act.put, List.setIfInBounds_toArray, List.set_cons_succ, List.set_cons_zero]; go_big_quiet_on) | (go_big_quiet_step (fail)))
              (go_big_quiet_step ((go_at_call 51; exact calls_later (HTM.out _))))
              (go_big_quiet_step (fail))
              (first | (go_big_quiet_want; refine quiet_load_agg 44 _ (by rfl) (w.heap.size) 0 (by rfl) (stc A ar ai ao) _ r0.out.lt (lrow_cells r0.out) Tryz.underlying44 (by rfl) (info_bst _ _ _ _) ?_; simp only [Act.put, List.setIfInBounds_toArray, List.set_cons_succ, List.set_cons_zero]; go_big_quiet_on) | (go_big_quiet_want; refine quiet_load_agg 44 _ (by rfl) (w.heap.size + 1) 0 (by rfl) (stc B br bi bo) _ r1.out.lt (lrow_cells r1.out) Tryz.underlying44 (by rfl) (info_bst _ _ _ _) ?_; simp only [Act.put, List.setIfInBounds_toArray, List.set_cons_succ, List.set_cons_zero]; go_big_quiet_on) | (go_big_quiet_step (fail)))
              (first | (go_big_quiet_want; refine quiet_load_agg 44 _ (by rfl) (w.heap.size) 0 (by rfl) (stc A ar ai ao) _ r0.out.lt (lrow_cells r0.out) Tryz.underlying44 (by rfl) (info_bst _ _ _ _) ?_; simp only [Act.put, List.setIfInBounds_toArray, List.set_cons_succ, List.set_cons_zero]; go_big_quiet_on) | (go_big_quiet_want; refine quiet_load_agg 44 _ (by rfl) (w.heap.size + 1) 0 (by rfl) (stc B br bi bo) _ r1.out.lt (lrow_cells r1.out) Tryz.underlying44 (by rfl) (info_bst _ _ _ _) ?_; simp only [Act.put, List.setIfInBounds_toArray, List.set_cons_succ, List.set_cons_zero]; go_big_quiet_on) | (go_big_quiet_step (fail)))
              (go_big_quiet_step ((go_at_call 52; exact calls_later (HCN.out _))))
              iterate 30 (go_big_quiet_step (fail))
              refine wpQuiet_nil ?_
              rintro _ ⟨yq, rfl⟩
              go_wp2
              go_ret
              exact ⟨by rw [HV.out]; first | done | rfl, BB.out.trans (yq.2.mono BB.out.size)⟩
          | false =>
            have HV : Hid (Z = false) := (by unfold Hid; rw [HM.out]; first | (rw [q1, q2, q3]; done) | (rw [q1, q2, q3]; rfl))
            clear HM
            refine wp_region_plain (x0 := Later.start W0) ?_
            (first | (go_big_quiet_want; refine quiet_load_agg 44 _ (by rfl) (w.heap.size) 0 (by rfl) (stc A ar ai ao) _ r0.out.lt (lrow_cells r0.out) Tryz.underlying44 (by rfl) (info_bst _ _ _ _) ?_; simp only [Act.put, List.setIfInBounds_toArray, List.set_cons_succ, List.set_cons_zero]; go_big_quiet_on) | (go_big_quiet_want; refine quiet_load_agg 44 _ (by rfl) (w.heap.size + 1) 0 (by rfl) (stc B br bi bo) _ r1.out.lt (lrow_cells r1.out) Tryz.underlying44 (by rfl) (info_bst _ _ _ _) ?_; simp only [Act.put, List.setIfInBounds_toArray, List.set_cons_succ, List.set_cons_zero]; go_big_quiet_on) | (go_big_quiet_step (fail)))
            (first | (go_big_quiet_want; refine quiet_load_agg 44 _ (by rfl) (w.heap.size) 0 (by rfl) (stc A ar ai ao) _ r0.out.lt (lrow_cells r0.out) Tryz.underlying44 (by rfl) (info_bst _ _ _ _) ?_; simp only [Act.put, List.setIfInBounds_toArray, List.set_cons_succ, List.set_cons_zero]; go_big_quiet_on) | (go_big_quiet_want; refine quiet_load_agg 44 _ (by rfl) (w.heap.size + 1) 0 (by rfl) (stc B br bi bo) _ r1.out.lt (lrow_cells r1.out) Tryz.underlying44 (by rfl) (info_bst _ _ _ _) ?_; simp only [Act.put, List.setIfInBounds_toArray, List.set_cons_succ, List.set_cons_zero]; go_big_quiet_on) | (go_big_quiet_step (fail)))
            (go_big_quiet_step ((go_at_call 51; exact calls_later (HTM.out _))))
            (go_big_quiet_step (fail))
            (first | (go_big_quiet_want; refine quiet_load_agg 44 _ (by rfl) (w.heap.size) 0 (by rfl) (stc A ar ai ao) _ r0.out.lt (lrow_cells r0.out) Tryz.underlying44 (by rfl) (info_bst _ _ _ _) ?_; simp only [Act.put, List.setIfInBounds_toArray, List.set_cons_succ, List.set_cons_zero]; go_big_quiet_on) | (go_big_quiet_want; refine quiet_load_agg 44 _ (by rfl) (w.heap.size + 1) 0 (by rfl) (stc B br bi bo) _ r1.out.lt (lrow_cells r1.out) Tryz.underlying44 (by rfl) (info_bst _ _ _ _) ?_; simp only [Act.put, List.setIfInBounds_toArray, List.set_cons_succ, List.set_cons_zero]; go_big_quiet_on) | (go_big_quiet_step (fail)))
            (first | (go_big_quiet_want; refine quiet_load_agg 44 _ (by rfl) (w.heap.size) 0 (by rfl) (stc A ar ai ao) _ r0.out.lt (lrow_cells r0.out) Tryz.underlying44 (by rfl) (info_bst _ _ _ _) ?_; simp only [Act.put, List.setIfInBounds_toArray, List.set_cons_succ, List.set_cons_zero]; go_big_quiet_on) | (go_big_quiet_want; refine quiet_load_agg 44 _ (by rfl) (w.heap.size + 1) 0 (by rfl) (stc B br bi bo) _ r1.out.lt (lrow_cells r1.out) Tryz.underlying44 (by rfl) (info_bst _ _ _ _) ?_; simp only [Act.put, List.setIfInBounds_toArray, List.set_cons_succ, List.set_cons_zero]; go_big_quiet_on) | (go_big_quiet_step (fail)))
            (go_big_quiet_step ((go_at_call 52; exact calls_later (HCN.out _))))
            iterate 30 (go_big_quiet_step (fail))
            refine wpQuiet_nil ?_
            rintro _ ⟨yq, rfl⟩
            go_wp2
            go_ret
            exact ⟨by rw [HV.out]; first | done | rfl, BB.out.trans (yq.2.mono BB.out.size)⟩
        | false =>
          have HV : Hid (Z = false) := (by unfold Hid; rw [HM.out]; first | (rw [q1, q2]; done) | (rw [q1, q2]; rfl))
          clear HM
          refine wp_region_plain (x0 := Later.start W0) ?_
          (first | (go_big_quiet_want; refine quiet_load_agg 44 _ (by rfl) (w.heap.size) 0 (by rfl) (stc A ar ai ao) _ r0.out.lt (lrow_cells r0.out) Tryz.underlying44 (by rfl) (info_bst _ _ _ _) ?_; simp only [Act.put, List.setIfInBounds_toArray, List.set_cons_succ, List.set_cons_zero]; go_big_quiet_on) | (go_big_quiet_want; refine quiet_load_agg 44 _ (by rfl) (w.heap.size + 1) 0 (by rfl) (stc B br bi bo) _ r1.out.lt (lrow_cells r1.out) Tryz.underlying44 (by rfl) (info_bst _ _ _ _) ?_; simp only [Act.put, List.setIfInBounds_toArray, List.set_cons_succ, List.set_cons_zero]; go_big_quiet_on) | (go_big_quiet_step (fail)))
          (first | (go_big_quiet_want; refine quiet_load_agg 44 _ (by rfl) (w.heap.size) 0 (by rfl) (stc A ar ai ao) _ r0.out.lt (lrow_cells r0.out) Tryz.underlying44 (by rfl) (info_bst _ _ _ _) ?_; simp only [Act.put, List.setIfInBounds_toArray, List.set_cons_succ, List.set_cons_zero]; go_big_quiet_on) | (go_big_quiet_want; refine quiet_load_agg 44 _ (by rfl) (w.heap.size + 1) 0 (by rfl) (stc B br bi bo) _ r1.out.lt (lrow_cells r1.out) Tryz.underlying44 (by rfl) (info_bst _ _ _ _) ?_; simp only [Act.put, List.setIfInBounds_toArray, List.set_cons_succ, List.set_cons_zero]; go_big_quiet_on) | (go_big_quiet_step (fail)))
          (go_big_quiet_step ((go_at_call 51; exact calls_later (HTM.out _))))
          (go_big_quiet_step (fail))
          (first | (go_big_quiet_want; refine quiet_load_agg 44 _ (by rfl) (w.heap.size) 0 (by rfl) (stc A ar ai ao) _ r0.out.lt (lrow_cells r0.out) Tryz.underlying44 (by rfl) (info_bst _ _ _ _) ?_; simp only [Act.put, List.setIfInBounds_toArray, List.set_cons_succ, List.set_cons_zero]; go_big_quiet_on) | (go_big_quiet_want; refine quiet_load_agg 44 _ (by rfl) (w.heap.size + 1) 0 (by rfl) (stc B br bi bo) _ r1.out.lt (lrow_cells r1.out) Tryz.underlying44 (by rfl) (info_bst _ _ _ _) ?_; simp only [Act.put, List.setIfInBounds_toArray, List.set_cons_succ, List.set_cons_zero]; go_big_quiet_on) | (go_big_quiet_step (fail)))
          (first | (go_big_quiet_want; refine quiet_load_agg 44 _ (by rfl) (w.heap.size) 0 (by rfl) (stc A ar ai ao) _ r0.out.lt (lrow_cells r0.out) Tryz.underlying44 (by rfl) (info_bst _ _ _ _) ?_; simp only [Act.put, List.setIfInBounds_toArray, List.set_cons_succ, List.set_cons_zero]; go_big_quiet_on) | (go_big_quiet_want; refine quiet_load_agg 44 _ (by rfl) (w.heap.size + 1) 0 (by rfl) (stc B br bi bo) _ r1.out.lt (lrow_cells r1.out) Tryz.underlying44 (by rfl) (info_bst _ _ _ _) ?_; simp only [Act.put, List.setIfInBounds_toArray, List.set_cons_succ, List.set_cons_zero]; go_big_quiet_on) | (go_big_quiet_step (fail)))
          (go_big_quiet_step ((go_at_call 52; exact calls_later (HCN.out _))))
          iterate 30 (go_big_quiet_step (fail))
          refine wpQuiet_nil ?_
          rintro _ ⟨yq, rfl⟩
          go_wp2
          go_ret
          exact ⟨by rw [HV.out]; first | done | rfl, BB.out.trans (yq.2.mono BB.out.size)⟩
      | false =>
        have HV : Hid (Z = false) := (by unfold Hid; rw [HM.out]; first | (rw [q1]; done) | (rw [q1]; rfl))
        clear HM
        refine wp_region_plain (x0 := Later.start W0) ?_
        (first | (go_big_quiet_want; refine quiet_load_agg 44 _ (by rfl) (w.heap.size) 0 (by rfl) (stc A ar ai ao) _ r0.out.lt (lrow_cells r0.out) Tryz.underlying44 (by rfl) (info_bst _ _ _ _) ?_; simp only [Act.put, List.setIfInBounds_toArray, List.set_cons_succ, List.set_cons_zero]; go_big_quiet_on) | (go_big_quiet_want; refine quiet_load_agg 44 _ (by rfl) (w.heap.size + 1) 0 (by rfl) (stc B br bi bo) _ r1.out.lt (lrow_cells r1.out) Tryz.underlying44 (by rfl) (info_bst _ _ _ _) ?_; simp only [Act.put, List.setIfInBounds_toArray, List.set_cons_succ, List.set_cons_zero]; go_big_quiet_on) | (go_big_quiet_step (fail)))
        (first | (go_big_quiet_want; refine quiet_load_agg 44 _ (by rfl) (w.heap.size) 0 (by rfl) (stc A ar ai ao) _ r0.out.lt (lrow_cells r0.out) Tryz.underlying44 (by rfl) (info_bst _ _ _ _) ?_; simp only [Act.put, List.setIfInBounds_toArray, List.set_cons_succ, List.set_cons_zero]; go_big_quiet_on) | (go_big_quiet_want; refine quiet_load_agg 44 _ (by rfl) (w.heap.size + 1) 0 (by rfl) (stc B br bi bo) _ r1.out.lt (lrow_cells r1.out) Tryz.underlying44 (by rfl) (info_bst _ _ _ _) ?_; simp only [Act.put, List.setIfInBounds_toArray, List.set_cons_succ, List.set_cons_zero]; go_big_quiet_on) | (go_big_quiet_step (fail)))
        (go_big_quiet_step ((go_at_call 51; exact calls_later (HTM.out _))))
        (go_big_quiet_step (fail))
        (first | (go_big_quiet_want; refine quiet_load_agg 44 _ (by rfl) (w.heap.size) 0 (by rfl) (stc A ar ai ao) _ r0.out.lt (lrow_cells r0.out) Tryz.underlying44 (by rfl) (info_bst _ _ _ _) ?_; simp only [Act.put, List.setIfInBounds_toArray, List.set_cons_succ, List.set_cons_zero]; go_big_quiet_on) | (go_big_quiet_want; refine quiet_load_agg 44 _ (by rfl) (w.heap.size + 1) 0 (by rfl) (stc B br bi bo) _ r1.out.lt (lrow_cells r1.out) Tryz.underlying44 (by rfl) (info_bst _ _ _ _) ?_; simp only [Act.put, List.setIfInBounds_toArray, List.set_cons_succ, List.set_cons_zero]; go_big_quiet_on) | (go_big_quiet_step (fail)))
        (first | (go_big_quiet_want; refine quiet_load_agg 44 _ (by rfl) (w.heap.size) 0 (by rfl) (stc A ar ai ao) _ r0.out.lt (lrow_cells r0.out) Tryz.underlying44 (by rfl) (info_bst _ _ _ _) ?_; simp only [Act.put, List.setIfInBounds_toArray, List.set_cons_succ, List.set_cons_zero]; go_big_quiet_on) | (go_big_quiet_want; refine quiet_load_agg 44 _ (by rfl) (w.heap.size + 1) 0 (by rfl) (stc B br bi bo) _ r1.out.lt (lrow_cells r1.out) Tryz.underlying44 (by rfl) (info_bst _ _ _ _) ?_; simp only [Act.put, List.setIfInBounds_toArray, List.set_cons_succ, List.set_cons_zero]; go_big_quiet_on) | (go_big_quiet_step (fail)))
        (go_big_quiet_step ((go_at_call 52; exact calls_later (HCN.out _))))
        iterate 30 (go_big_quiet_step (fail))
        refine wpQuiet_nil ?_
        rintro _ ⟨yq, rfl⟩
        go_wp2
        go_ret
        exact ⟨by rw [HV.out]; first | done | rfl, BB.out.trans (yq.2.mono BB.out.size)⟩
    | false =>
      have HV : Hid (Z = false) := (by unfold Hid; rw [HM.out]; rfl)
      clear HM
      refine wp_region_plain (x0 := Later.start W0) ?_
      (first | (go_big_quiet_want; refine quiet_load_agg 44 _ (by rfl) (w.heap.size) 0 (by rfl) (stc A ar ai ao) _ r0.out.lt (lrow_cells r0.out) Tryz.underlying44 (by rfl) (info_bst _ _ _ _) ?_; simp only [Act.put, List.setIfInBounds_toArray, List.set_cons_succ, List.set_cons_zero]; go_big_quiet_on) | (go_big_quiet_want; refine quiet_load_agg 44 _ (by rfl) (w.heap.size + 1) 0 (by rfl) (stc B br bi bo) _ r1.out.lt (lrow_cells r1.out) Tryz.underlying44 (by rfl) (info_bst _ _ _ _) ?_; simp only [Act.put, List.setIfInBounds_toArray, List.set_cons_succ, List.set_cons_zero]; go_big_quiet_on) | (go_big_quiet_step (fail)))
      (first | (go_big_quiet_want; refine quiet_load_agg 44 _ (by rfl) (w.heap.size) 0 (by rfl) (stc A ar ai ao) _ r0.out.lt (lrow_cells r0.out) Tryz.underlying44 (by rfl) (info_bst _ _ _ _) ?_; simp only [Act.put, List.setIfInBounds_toArray, List.set_cons_succ, List.set_cons_zero]; go_big_quiet_on) | (go_big_quiet_want; refine quiet_load_agg 44 _ (by rfl) (w.heap.size + 1) 0 (by rfl) (stc B br bi bo) _ r1.out.lt (lrow_cells r1.out) Tryz.underlying44 (by rfl) (info_bst _ _ _ _) ?_; simp only [Act.put, List.setIfInBounds_toArray, List.set_cons_succ, List.set_cons_zero]; go_big_quiet_on) | (go_big_quiet_step (fail)))
      (go_big_quiet_step ((go_at_call 51; exact calls_later (HTM.out _))))
      (go_big_quiet_step (fail))
      (first | (go_big_quiet_want; refine quiet_load_agg 44 _ (by rfl) (w.heap.size) 0 (by rfl) (stc A ar ai ao) _ r0.out.lt (lrow_cells r0.out) Tryz.underlying44 (by rfl) (info_bst _ _ _ _) ?_; simp only [Act.put, List.setIfInBounds_toArray, List.set_cons_succ, List.set_cons_zero]; go_big_quiet_on) | (go_big_quiet_want; refine quiet_load_agg 44 _ (by rfl) (w.heap.size + 1) 0 (by rfl) (stc B br bi bo) _ r1.out.lt (lrow_cells r1.out) Tryz.underlying44 (by rfl) (info_bst _ _ _ _) ?_; simp only [Act.put, List.setIfInBounds_toArray, List.set_cons_succ, List.set_cons_zero]; go_big_quiet_on) | (go_big_quiet_step (fail)))
      (first | (go_big_quiet_want; refine quiet_load_agg 44 _ (by rfl) (w.heap.size) 0 (by rfl) (stc A ar ai ao) _ r0.out.lt (lrow_cells r0.out) Tryz.underlying44 (by rfl) (info_bst _ _ _ _) ?_; simp only [Act.put, List.setIfInBounds_toArray, List.set_cons_succ, List.set_cons_zero]; go_big_quiet_on) | (go_big_quiet_want; refine quiet_load_agg 44 _ (by rfl) (w.heap.size + 1) 0 (by rfl) (stc B br bi bo) _ r1.out.lt (lrow_cells r1.out) Tryz.underlying44 (by rfl) (info_bst _ _ _ _) ?_; simp only [Act.put, List.setIfInBounds_toArray, List.set_cons_succ, List.set_cons_zero]; go_big_quiet_on) | (go_big_quiet_step (fail)))
      (go_big_quiet_step ((go_at_call 52; exact calls_later (HCN.out _))))
      iterate 30 (go_big_quiet_step (fail))
      refine wpQuiet_nil ?_
      rintro _ ⟨yq, rfl⟩
      go_wp2
      go_ret
      exact ⟨by rw [HV.out]; first | done | rfl, BB.out.trans (yq.2.mono BB.out.size)⟩
  | false =>
    have HV : Hid (Z = false) := (by unfold Hid; rw [HM.out]; rfl)
    clear HM
    refine wp_region_plain (x0 := Later.start W0) ?_
    (first | (go_big_quiet_want; refine quiet_load_agg 44 _ (by rfl) (w.heap.size) 0 (by rfl) (stc A ar ai ao) _ r0.out.lt (lrow_cells r0.out) Tryz.underlying44 (by rfl) (info_bst _ _ _ _) ?_; simp only [Act.put, List.setIfInBounds_toArray, List.set_cons_succ, List.set_cons_zero]; go_big_quiet_on) | (go_big_quiet_want; refine quiet_load_agg 44 _ (by rfl) (w.heap.size + 1) 0 (by rfl) (stc B br bi bo) _ r1.out.lt (lrow_cells r1.out) Tryz.underlying44 (by rfl) (info_bst _ _ _ _) ?_; simp only [Act.put, List.setIfInBounds_toArray, List.set_cons_succ, List.set_cons_zero]; go_big_quiet_on) | (go_big_quiet_step (fail)))
    (first | (go_big_quiet_want; refine quiet_load_agg 44 _ (by rfl) (w.heap.size) 0 (by rfl) (stc A ar ai ao) _ r0.out.lt (lrow_cells r0.out) Tryz.underlying44 (by rfl) (info_bst _ _ _ _) ?_; simp only [Act.put, List.setIfInBounds_toArray, List.set_cons_succ, List.set_cons_zero]; go_big_quiet_on) | (go_big_quiet_want; refine quiet_load_agg 44 _ (by rfl) (w.heap.size + 1) 0 (by rfl) (stc B br bi bo) _ r1.out.lt (lrow_cells r1.out) Tryz.underlying44 (by rfl) (info_bst _ _ _ _) ?_; simp only [Act.put, List.setIfInBounds_toArray, List.set_cons_succ, List.set_cons_zero]; go_big_quiet_on) | (go_big_quiet_step (fail)))
    (go_big_quiet_step ((go_at_call 51; exact calls_later (HTM.out _))))
    (go_big_quiet_step (fail))
    (first | (go_big_quiet_want; refine quiet_load_agg 44 _ (by rfl) (w.heap.size) 0 (by rfl) (stc A ar ai ao) _ r0.out.lt (lrow_cells r0.out) Tryz.underlying44 (by rfl) (info_bst _ _ _ _) ?_; simp only [Act.put, List.setIfInBounds_toArray, List.set_cons_succ, List.set_cons_zero]; go_big_quiet_on) | (go_big_quiet_want; refine quiet_load_agg 44 _ (by rfl) (w.heap.size + 1) 0 (by rfl) (stc B br bi bo) _ r1.out.lt (lrow_cells r1.out) Tryz.underlying44 (by rfl) (info_bst _ _ _ _) ?_; simp only [Act.put, List.setIfInBounds_toArray, List.set_cons_succ, List.set_cons_zero]; go_big_quiet_on) | (go_big_quiet_step (fail)))
    (first | (go_big_quiet_want; refine quiet_load_agg 44 _ (by rfl) (w.heap.size) 0 (by rfl) (stc A ar ai ao) _ r0.out.lt (lrow_cells r0.out) Tryz.underlying44 (by rfl) (info_bst _ _ _ _) ?_; simp only [Act.put, List.setIfInBounds_toArray, List.set_cons_succ, List.set_cons_zero]; go_big_quiet_on) | (go_big_quiet_want; refine quiet_load_agg 44 _ (by rfl) (w.heap.size + 1) 0 (by rfl) (stc B br bi bo) _ r1.out.lt (lrow_cells r1.out) Tryz.underlying44 (by rfl) (info_bst _ _ _ _) ?_; simp only [Act.put, List.setIfInBounds_toArray, List.set_cons_succ, List.set_cons_zero]; go_big_quiet_on) | (go_big_quiet_step (fail)))
    (go_big_quiet_step ((go_at_call 52; exact calls_later (HCN.out _))))
    iterate 30 (go_big_quiet_step (fail))
    refine wpQuiet_nil ?_
    rintro _ ⟨yq, rfl⟩
    go_wp2
    go_ret
    exact ⟨by rw [HV.out]; first | done | rfl, BB.out.trans (yq.2.mono BB.out.size)⟩
end Go.Proofs.YtidfndgedopghaaGreatDoor
