/-
  Uc.
-/
import Derived.Test.YtidfndgedopghaaGreatDoorM13
namespace Go.Proofs.YtidfndgedopghaaGreatDoor
set_option linter.unusedVariables false
set_option maxRecDepth 100000
set_option maxHeartbeats 4000000
open Go.ChangeShapes Go.WideShapes Go.ChangeAt Go.RowKit Go.Deep
def lvB (r : Rw) (f t : Int) : Bool := ((((f == 3) && (t == 0)) && (r.kd == 1)) && (r.raw == 807403635))
theorem uLv_c (r : Rw) (f t : Int) (w : World) : Calls Tryz.prog 126 #[.agg (rwc r), .int .i64 f, .int .i64 t] w fun e w' => e = .returned (.bool (lvB r f t)) ∧ Below w.heap.size w w' := by
  obtain ⟨W0, hW0, r0, b0, s0⟩ := start1 w (rwc r) 52
  have BB := Hid.mkU b0.out
  clear s0 b0
  have HM : Hid ((lvB r f t) = ((((f == 3) && (t == 0)) && (r.kd == 1)) && (r.raw == 807403635))) := rfl
  have c0_kd : W0.cell? ⟨w.heap.size, 1, none⟩ = some (.int .i64 r.kd) := r0.out.cell 1
  have c0_raw : W0.cell? ⟨w.heap.size, 4, none⟩ = some (.int .u32 r.raw) := r0.out.cell 4
  generalize hZ : (lvB r f t) = Z at HM ⊢
  clear hZ
  go_enter Tryz.func126, Tryz.ntmps126
  go_upto_region 1 with fail
  clear hW0
  cases q1 : (f == 3)
  focus
    have HV : Hid (Z = false) := (by unfold Hid; rw [HM.out]; first | (rw [q1]; done) | (rw [q1]; rfl))
  rotate_left 1
  focus
    cases q2 : (t == 0)
    focus
      have HV : Hid (Z = false) := (by unfold Hid; rw [HM.out]; first | (rw [q1, q2]; done) | (rw [q1, q2]; rfl))
    rotate_left 1
    focus
      cases q3 : (r.kd == 1)
      focus
        have HV : Hid (Z = false) := (by unfold Hid; rw [HM.out]; first | (rw [q1, q2, q3]; done) | (rw [q1, q2, q3]; rfl))
      rotate_left 1
      focus
        cases q4 : (r.raw == 807403635)
        focus
          have HV : Hid (Z = false) := (by unfold Hid; rw [HM.out]; first | (rw [q1, q2, q3, q4]; done) | (rw [q1, q2, q3, q4]; rfl))
        rotate_left 1
        focus
          have HV : Hid (Z = true) := (by unfold Hid; rw [HM.out]; first | (rw [q1, q2, q3, q4]; done) | (rw [q1, q2, q3, q4]; rfl))
        rotate_left 1
      rotate_left 2
    rotate_left 3
  rotate_left 4
  all_goals
    clear HM
    go_wp2
    go_ret
    exact ⟨by rw [HV.out]; first | done | rfl, BB.out⟩
def mtT (r : Rw) (f t : Int) : Bool := (((t == f) || (((f == 0) && (t == 3)) && (tpB r))) || (lvB r f t))
theorem uMt_c (r : Rw) (f t : Int) (w : World) : Calls Tryz.prog 98 #[.agg (rwc r), .int .i64 f, .int .i64 t] w fun e w' => e = .returned (.bool (mtT r f t)) ∧ Below w.heap.size w w' := by
  obtain ⟨W0, hW0, r0, b0, s0⟩ := start1 w (rwc r) 52
  have BB := Hid.mkU b0.out
  clear s0 b0
  have HM : Hid ((mtT r f t) = (((t == f) || (((f == 0) && (t == 3)) && (tpB r))) || (lvB r f t))) := rfl
  have HTP : Hid (∀ W, Calls Tryz.prog 78 #[.agg (rwc r)] W fun e w' => e = .returned (.bool (tpB r)) ∧ Below W.heap.size W w') := uTrap_c r
  have HLV : Hid (∀ W, Calls Tryz.prog 126 #[.agg (rwc r), .int .i64 f, .int .i64 t] W fun e w' => e = .returned (.bool (lvB r f t)) ∧ Below W.heap.size W w') := uLv_c r f t
  generalize hZ : (mtT r f t) = Z at HM ⊢
  clear hZ
  generalize tpB r = z3 at *
  generalize lvB r f t = z4 at *
  go_enter Tryz.func98, Tryz.ntmps98
  go_upto_region 1 with fail
  clear hW0
  have hne := later_nonempty W0
  cases q1 : (t == f)
  focus
    cases q2 : (f == 0)
    focus
      cases z4
      focus
        have HV : Hid (Z = false) := (by unfold Hid; rw [HM.out]; first | (rw [q1, q2]; done) | (rw [q1, q2]; rfl))
      rotate_left 1
      focus
        have HV : Hid (Z = true) := (by unfold Hid; rw [HM.out]; first | (rw [q1, q2]; done) | (rw [q1, q2]; rfl))
      rotate_left 1
    rotate_left 2
    focus
      cases q3 : (t == 3)
      focus
        cases z4
        focus
          have HV : Hid (Z = false) := (by unfold Hid; rw [HM.out]; first | (rw [q1, q2, q3]; done) | (rw [q1, q2, q3]; rfl))
        rotate_left 1
        focus
          have HV : Hid (Z = true) := (by unfold Hid; rw [HM.out]; first | (rw [q1, q2, q3]; done) | (rw [q1, q2, q3]; rfl))
        rotate_left 1
      rotate_left 2
      focus
        cases z3
        focus
          cases z4
          focus
            have HV : Hid (Z = false) := (by unfold Hid; rw [HM.out]; first | (rw [q1, q2, q3]; done) | (rw [q1, q2, q3]; rfl))
          rotate_left 1
          focus
            have HV : Hid (Z = true) := (by unfold Hid; rw [HM.out]; first | (rw [q1, q2, q3]; done) | (rw [q1, q2, q3]; rfl))
          rotate_left 1
        rotate_left 2
        focus
          have HV : Hid (Z = true) := (by unfold Hid; rw [HM.out]; first | (rw [q1, q2, q3]; done) | (rw [q1, q2, q3]; rfl))
        rotate_left 1
      rotate_left 3
    rotate_left 5
  rotate_left 7
  focus
    have HV : Hid (Z = true) := (by unfold Hid; rw [HM.out]; first | (rw [q1]; done) | (rw [q1]; rfl))
  rotate_left 1
  all_goals
    clear HM
    refine wp_region_plain (x0 := Later.start W0) ?_
    iterate 11 (go_big_quiet_step (fail))
    (first | (go_big_quiet_want; refine quiet_load_agg 52 _ (by rfl) (w.heap.size) 0 (by rfl) (rwc r) _ r0.out.lt (lrow_cells r0.out) Tryz.underlying52 (by rfl) (info_rw _) ?_; simp only [Act.put, List.setIfInBounds_toArray, List.set_cons_succ, List.set_cons_zero]; go_big_quiet_on) | (go_big_quiet_step (fail)))
    (go_big_quiet_step ((go_at_call 78; exact calls_later (HTP.out _))))
    iterate 3 (go_big_quiet_step (fail))
    (first | (go_big_quiet_want; refine quiet_load_agg 52 _ (by rfl) (w.heap.size) 0 (by rfl) (rwc r) _ r0.out.lt (lrow_cells r0.out) Tryz.underlying52 (by rfl) (info_rw _) ?_; simp only [Act.put, List.setIfInBounds_toArray, List.set_cons_succ, List.set_cons_zero]; go_big_quiet_on) | (go_big_quiet_step (fail)))
    iterate 2 (go_big_quiet_step (fail))
    (go_big_quiet_step ((go_at_call 126; exact calls_later (HLV.out _))))
    iterate 2 (go_big_quiet_step (fail))
    refine wpQuiet_nil ?_
    rintro _ ⟨yq, rfl⟩
    go_wp2
    go_ret
    exact ⟨by rw [HV.out]; first | done | rfl, BB.out.trans (yq.2.mono BB.out.size)⟩
def owB (b a : Cp) : Bool := ((((((n64 (a.s 1) == n64 (b.s 1)) && (n64 (a.s 2) == n64 (b.s 2))) && (n64 (a.s 3) == n64 (b.s 3))) && (n64 (a.s 4) == n64 (b.s 4))) && (n64 (a.s 5) == n64 (b.s 5))) && (n64 (a.s 6) == n64 (b.s 6)))
theorem uOwn_c (b a : Cp) (w : World) : Calls Tryz.prog 77 #[.agg (cpc b), .agg (cpc a)] w fun e w' => e = .returned (.bool (owB b a)) ∧ Below w.heap.size w w' := by
  obtain ⟨W0, hW0, r0, r1, b0, s0⟩ := start2 w (cpc b) (cpc a) 32 32
  have BB := Hid.mkU b0.out
  clear s0 b0
  have HM : Hid ((owB b a) = ((((((n64 (a.s 1) == n64 (b.s 1)) && (n64 (a.s 2) == n64 (b.s 2))) && (n64 (a.s 3) == n64 (b.s 3))) && (n64 (a.s 4) == n64 (b.s 4))) && (n64 (a.s 5) == n64 (b.s 5))) && (n64 (a.s 6) == n64 (b.s 6)))) := rfl
  have c0_s1 : W0.cell? ⟨w.heap.size, 36, none⟩ = some (.int .u64 (n64 (b.s 1))) := (r0.out.cell 36).trans (cpc_at _ 36 (by omega))
  have c0_s2 : W0.cell? ⟨w.heap.size, 37, none⟩ = some (.int .u64 (n64 (b.s 2))) := (r0.out.cell 37).trans (cpc_at _ 37 (by omega))
  have c0_s3 : W0.cell? ⟨w.heap.size, 38, none⟩ = some (.int .u64 (n64 (b.s 3))) := (r0.out.cell 38).trans (cpc_at _ 38 (by omega))
  have c0_s4 : W0.cell? ⟨w.heap.size, 39, none⟩ = some (.int .u64 (n64 (b.s 4))) := (r0.out.cell 39).trans (cpc_at _ 39 (by omega))
  have c0_s5 : W0.cell? ⟨w.heap.size, 40, none⟩ = some (.int .u64 (n64 (b.s 5))) := (r0.out.cell 40).trans (cpc_at _ 40 (by omega))
  have c0_s6 : W0.cell? ⟨w.heap.size, 41, none⟩ = some (.int .u64 (n64 (b.s 6))) := (r0.out.cell 41).trans (cpc_at _ 41 (by omega))
  have c1_s1 : W0.cell? ⟨w.heap.size + 1, 36, none⟩ = some (.int .u64 (n64 (a.s 1))) := (r1.out.cell 36).trans (cpc_at _ 36 (by omega))
  have c1_s2 : W0.cell? ⟨w.heap.size + 1, 37, none⟩ = some (.int .u64 (n64 (a.s 2))) := (r1.out.cell 37).trans (cpc_at _ 37 (by omega))
  have c1_s3 : W0.cell? ⟨w.heap.size + 1, 38, none⟩ = some (.int .u64 (n64 (a.s 3))) := (r1.out.cell 38).trans (cpc_at _ 38 (by omega))
  have c1_s4 : W0.cell? ⟨w.heap.size + 1, 39, none⟩ = some (.int .u64 (n64 (a.s 4))) := (r1.out.cell 39).trans (cpc_at _ 39 (by omega))
  have c1_s5 : W0.cell? ⟨w.heap.size + 1, 40, none⟩ = some (.int .u64 (n64 (a.s 5))) := (r1.out.cell 40).trans (cpc_at _ 40 (by omega))
  have c1_s6 : W0.cell? ⟨w.heap.size + 1, 41, none⟩ = some (.int .u64 (n64 (a.s 6))) := (r1.out.cell 41).trans (cpc_at _ 41 (by omega))
  generalize hZ : (owB b a) = Z at HM ⊢
  clear hZ
  go_enter Tryz.func77, Tryz.ntmps77
  go_upto_region 1 with fail
  clear hW0
  cases q1 : (n64 (a.s 1) == n64 (b.s 1))
  focus
    have HV : Hid (Z = false) := (by unfold Hid; rw [HM.out]; first | (rw [q1]; done) | (rw [q1]; rfl))
  rotate_left 1
  focus
    cases q2 : (n64 (a.s 2) == n64 (b.s 2))
    focus
      have HV : Hid (Z = false) := (by unfold Hid; rw [HM.out]; first | (rw [q1, q2]; done) | (rw [q1, q2]; rfl))
    rotate_left 1
    focus
      cases q3 : (n64 (a.s 3) == n64 (b.s 3))
      focus
        have HV : Hid (Z = false) := (by unfold Hid; rw [HM.out]; first | (rw [q1, q2, q3]; done) | (rw [q1, q2, q3]; rfl))
      rotate_left 1
      focus
        cases q4 : (n64 (a.s 4) == n64 (b.s 4))
        focus
          have HV : Hid (Z = false) := (by unfold Hid; rw [HM.out]; first | (rw [q1, q2, q3, q4]; done) | (rw [q1, q2, q3, q4]; rfl))
        rotate_left 1
        focus
          cases q5 : (n64 (a.s 5) == n64 (b.s 5))
          focus
            have HV : Hid (Z = false) := (by unfold Hid; rw [HM.out]; first | (rw [q1, q2, q3, q4, q5]; done) | (rw [q1, q2, q3, q4, q5]; rfl))
          rotate_left 1
          focus
            cases q6 : (n64 (a.s 6) == n64 (b.s 6))
            focus
              have HV : Hid (Z = false) := (by unfold Hid; rw [HM.out]; first | (rw [q1, q2, q3, q4, q5, q6]; done) | (rw [q1, q2, q3, q4, q5, q6]; rfl))
            rotate_left 1
            focus
              have HV : Hid (Z = true) := (by unfold Hid; rw [HM.out]; first | (rw [q1, q2, q3, q4, q5, q6]; done) | (rw [q1, q2, q3, q4, q5, q6]; rfl))
            rotate_left 1
          rotate_left 2
        rotate_left 3
      rotate_left 4
    rotate_left 5
  rotate_left 6
  all_goals
    clear HM
    go_wp2
    go_ret
    exact ⟨by rw [HV.out]; first | done | rfl, BB.out⟩
def tlB (b a : Cp) : Bool := ((((n64 (a.s 0) == n64 (b.s 0)) && (n64 (a.s 7) == n64 (b.s 7))) && (n64 (a.s 8) == n64 (b.s 8))) && (n64 (a.s 9) == n64 (b.s 9)))
theorem uTold_c (b a : Cp) (w : World) : Calls Tryz.prog 79 #[.agg (cpc b), .agg (cpc a)] w fun e w' => e = .returned (.bool (tlB b a)) ∧ Below w.heap.size w w' := by
  obtain ⟨W0, hW0, r0, r1, b0, s0⟩ := start2 w (cpc b) (cpc a) 32 32
  have BB := Hid.mkU b0.out
  clear s0 b0
  have HM : Hid ((tlB b a) = ((((n64 (a.s 0) == n64 (b.s 0)) && (n64 (a.s 7) == n64 (b.s 7))) && (n64 (a.s 8) == n64 (b.s 8))) && (n64 (a.s 9) == n64 (b.s 9)))) := rfl
  have c0_s0 : W0.cell? ⟨w.heap.size, 35, none⟩ = some (.int .u64 (n64 (b.s 0))) := (r0.out.cell 35).trans (cpc_at _ 35 (by omega))
  have c0_s7 : W0.cell? ⟨w.heap.size, 42, none⟩ = some (.int .u64 (n64 (b.s 7))) := (r0.out.cell 42).trans (cpc_at _ 42 (by omega))
  have c0_s8 : W0.cell? ⟨w.heap.size, 43, none⟩ = some (.int .u64 (n64 (b.s 8))) := (r0.out.cell 43).trans (cpc_at _ 43 (by omega))
  have c0_s9 : W0.cell? ⟨w.heap.size, 44, none⟩ = some (.int .u64 (n64 (b.s 9))) := (r0.out.cell 44).trans (cpc_at _ 44 (by omega))
  have c1_s0 : W0.cell? ⟨w.heap.size + 1, 35, none⟩ = some (.int .u64 (n64 (a.s 0))) := (r1.out.cell 35).trans (cpc_at _ 35 (by omega))
  have c1_s7 : W0.cell? ⟨w.heap.size + 1, 42, none⟩ = some (.int .u64 (n64 (a.s 7))) := (r1.out.cell 42).trans (cpc_at _ 42 (by omega))
  have c1_s8 : W0.cell? ⟨w.heap.size + 1, 43, none⟩ = some (.int .u64 (n64 (a.s 8))) := (r1.out.cell 43).trans (cpc_at _ 43 (by omega))
  have c1_s9 : W0.cell? ⟨w.heap.size + 1, 44, none⟩ = some (.int .u64 (n64 (a.s 9))) := (r1.out.cell 44).trans (cpc_at _ 44 (by omega))
  generalize hZ : (tlB b a) = Z at HM ⊢
  clear hZ
  go_enter Tryz.func79, Tryz.ntmps79
  go_upto_region 1 with fail
  clear hW0
  cases q1 : (n64 (a.s 0) == n64 (b.s 0))
  focus
    have HV : Hid (Z = false) := (by unfold Hid; rw [HM.out]; first | (rw [q1]; done) | (rw [q1]; rfl))
  rotate_left 1
  focus
    cases q2 : (n64 (a.s 7) == n64 (b.s 7))
    focus
      have HV : Hid (Z = false) := (by unfold Hid; rw [HM.out]; first | (rw [q1, q2]; done) | (rw [q1, q2]; rfl))
    rotate_left 1
    focus
      cases q3 : (n64 (a.s 8) == n64 (b.s 8))
      focus
        have HV : Hid (Z = false) := (by unfold Hid; rw [HM.out]; first | (rw [q1, q2, q3]; done) | (rw [q1, q2, q3]; rfl))
      rotate_left 1
      focus
        cases q4 : (n64 (a.s 9) == n64 (b.s 9))
        focus
          have HV : Hid (Z = false) := (by unfold Hid; rw [HM.out]; first | (rw [q1, q2, q3, q4]; done) | (rw [q1, q2, q3, q4]; rfl))
        rotate_left 1
        focus
          have HV : Hid (Z = true) := (by unfold Hid; rw [HM.out]; first | (rw [q1, q2, q3, q4]; done) | (rw [q1, q2, q3, q4]; rfl))
        rotate_left 1
      rotate_left 2
    rotate_left 3
  rotate_left 4
  all_goals
    clear HM
    go_wp2
    go_ret
    exact ⟨by rw [HV.out]; first | done | rfl, BB.out⟩
def acB (m : Int) : Bool := (((m == 1) || (m == 2)) || (m == 3))
theorem uAcc_c (m : Int) (w : World) : Calls Tryz.prog 140 #[.int .i64 m] w fun e w' => e = .returned (.bool (acB m)) ∧ w' = w := by
  have BB : Hid (Below w.heap.size w w) := Below.refl _ _
  have HM : Hid ((acB m) = (((m == 1) || (m == 2)) || (m == 3))) := rfl
  generalize hZ : (acB m) = Z at HM ⊢
  clear hZ
  go_enter Tryz.func140, Tryz.ntmps140
  go_upto_region 1 with fail
  cases q1 : (m == 1)
  focus
    cases q2 : (m == 2)
    focus
      cases q3 : (m == 3)
      focus
        have HV : Hid (Z = false) := (by unfold Hid; rw [HM.out]; first | (rw [q1, q2, q3]; done) | (rw [q1, q2, q3]; rfl))
      rotate_left 1
      focus
        have HV : Hid (Z = true) := (by unfold Hid; rw [HM.out]; first | (rw [q1, q2, q3]; done) | (rw [q1, q2, q3]; rfl))
      rotate_left 1
    rotate_left 2
    focus
      have HV : Hid (Z = true) := (by unfold Hid; rw [HM.out]; first | (rw [q1, q2]; done) | (rw [q1, q2]; rfl))
    rotate_left 1
  rotate_left 3
  focus
    have HV : Hid (Z = true) := (by unfold Hid; rw [HM.out]; first | (rw [q1]; done) | (rw [q1]; rfl))
  rotate_left 1
  all_goals
    clear HM
    go_wp2
    go_ret
    exact ⟨by rw [HV.out]; first | done | rfl, rfl⟩
def wdB (m : Int) : Bool := ((((m == 1) || (m == 2)) || (m == 4)) || (m == 8))
theorem uWid_c (m : Int) (w : World) : Calls Tryz.prog 141 #[.int .i64 m] w fun e w' => e = .returned (.bool (wdB m)) ∧ w' = w := by
  have BB : Hid (Below w.heap.size w w) := Below.refl _ _
  have HM : Hid ((wdB m) = ((((m == 1) || (m == 2)) || (m == 4)) || (m == 8))) := rfl
  generalize hZ : (wdB m) = Z at HM ⊢
  clear hZ
  go_enter Tryz.func141, Tryz.ntmps141
  go_upto_region 1 with fail
  cases q1 : (m == 1)
  focus
    cases q2 : (m == 2)
    focus
      cases q3 : (m == 4)
      focus
        cases q4 : (m == 8)
        focus
          have HV : Hid (Z = false) := (by unfold Hid; rw [HM.out]; first | (rw [q1, q2, q3, q4]; done) | (rw [q1, q2, q3, q4]; rfl))
        rotate_left 1
        focus
          have HV : Hid (Z = true) := (by unfold Hid; rw [HM.out]; first | (rw [q1, q2, q3, q4]; done) | (rw [q1, q2, q3, q4]; rfl))
        rotate_left 1
      rotate_left 2
      focus
        have HV : Hid (Z = true) := (by unfold Hid; rw [HM.out]; first | (rw [q1, q2, q3]; done) | (rw [q1, q2, q3]; rfl))
      rotate_left 1
    rotate_left 3
    focus
      have HV : Hid (Z = true) := (by unfold Hid; rw [HM.out]; first | (rw [q1, q2]; done) | (rw [q1, q2]; rfl))
    rotate_left 1
  rotate_left 4
  focus
    have HV : Hid (Z = true) := (by unfold Hid; rw [HM.out]; first | (rw [q1]; done) | (rw [q1]; rfl))
  rotate_left 1
  all_goals
    clear HM
    go_wp2
    go_ret
    exact ⟨by rw [HV.out]; first | done | rfl, rfl⟩
def fpB (k : Cp) (t : BitVec 64) : Bool := ckA (PC k.c) (PA k.a) k.md t 2 4
theorem uFp_c (k : Cp) (t : BitVec 64) (w : World) (hT : Tb w) : Calls Tryz.prog 144 #[.agg (cpc k), .int .u64 (n64 t)] w fun e w' => e = .returned (.bool (fpB k t)) ∧ Below w.heap.size w w' := by
  obtain ⟨W0, hW0, r0, b0, s0⟩ := start1 w (cpc k) 32
  have BB := Hid.mkU b0.out
  clear s0 b0
  have HM : Hid ((fpB k t) = (fpB k t)) := rfl
  have c0_md : ∀ x : Later W0, x.1.cell? ⟨w.heap.size, 33, none⟩ = some (.int .i64 k.md) := fun x => ((lrow r0.out x).cell 33).trans (cpc_at _ 33 (by omega))
  have HCK : Hid (∀ x : Later W0, Calls Tryz.prog 142 #[.agg (pc k.c k.a), .int .i64 k.md, .int .u64 (n64 t), .int .i64 2, .int .i64 4] x.1 fun e w' => e = .returned (.bool (fpB k t)) ∧ Below x.1.heap.size x.1 w') := fun x => Check_c k.c k.a k.md t 2 4 x.1 ((hT.next BB.out).next x.2)
  go_enter Tryz.func144, Tryz.ntmps144
  go_upto_region 1 with fail
  clear hW0
  have hne := later_nonempty W0
  refine wp_region_plain (x0 := Later.start W0) ?_
  (go_big_quiet_step (fail))
  (first | (go_big_quiet_want; refine quiet_load_agg 28 _ (by rfl) (w.heap.size) 47 (by rfl) (pc k.c k.a) _ r0.out.lt r0.out.pmU Tryz.underlying28 (by rfl) (info_pmpU _ _) ?_; simp only [Act.put, List.setIfInBounds_toArray, List.set_cons_succ, List.set_cons_zero]; go_big_quiet_on) | (go_big_quiet_step (fail)))
  iterate 3 (go_big_quiet_step (fail))
  (go_big_quiet_step ((go_at_call 142; exact calls_later (HCK.out _))))
  (go_big_quiet_step (fail))
  refine wpQuiet_nil ?_
  rintro _ ⟨yq, rfl⟩
  go_wp2
  go_ret
  exact ⟨rfl, BB.out.trans (yq.2.mono BB.out.size)⟩
def ftB (r : Rw) (k : Cp) : Bool := if r.len == 2 then fpB k k.pc else if r.len == 4 then fpB k k.pc && fpB k (k.pc + 2#64) else false
theorem uFt_c (r : Rw) (k : Cp) (w : World) (hT : Tb w) : Calls Tryz.prog 103 #[.agg (rwc r), .agg (cpc k)] w fun e w' => e = .returned (.bool (ftB r k)) ∧ Below w.heap.size w w' := by
  obtain ⟨W0, hW0, r0, r1, b0, s0⟩ := start2 w (rwc r) (cpc k) 52 32
  have BB := Hid.mkU b0.out
  clear s0 b0
  have c0_len : W0.cell? ⟨w.heap.size, 5, none⟩ = some (.int .i64 r.len) := r0.out.cell 5
  have c1_pc : ∀ x : Later W0, x.1.cell? ⟨w.heap.size + 1, 0, none⟩ = some (.int .u64 (n64 k.pc)) := fun x => ((lrow r1.out x).cell 0).trans (cpc_at _ 0 (by omega))
  have a2 : IntKind.u64.wrap (n64 k.pc + 2) = n64 (k.pc + 2#64) := n64_add _ 2#64
  have HF : Hid (∀ (t : BitVec 64) (x : Later W0), Calls Tryz.prog 144 #[.agg (cpc k), .int .u64 (n64 t)] x.1 fun e w' => e = .returned (.bool (fpB k t)) ∧ Below x.1.heap.size x.1 w') := fun t x => uFp_c k t x.1 ((hT.next BB.out).next x.2)
  have HF1 := Hid.mkU (HF.out k.pc)
  have HF2 := Hid.mkU (HF.out (k.pc + 2#64))
  clear HF
  have HM : Hid (ftB r k = if r.len == 2 then fpB k k.pc else if r.len == 4 then fpB k k.pc && fpB k (k.pc + 2#64) else false) := rfl
  generalize hZ : ftB r k = Z at HM ⊢
  clear hZ
  generalize n64 (k.pc + 2#64) = p2 at *
  generalize n64 k.pc = p1 at *
  generalize fpB k k.pc = f1 at *
  generalize fpB k (k.pc + 2#64) = f2 at *
  have hne := later_nonempty W0
  cases q1 : (r.len == 2) with
  | true =>
    go_enter Tryz.func103, Tryz.ntmps103
    go_upto_region 1 with fail
    clear hW0
    go_upto_region 3 with fail
    have HV : Hid (Z = f1) := (by unfold Hid; rw [HM.out, q1]; rfl)
    clear HM HF2 a2
    refine wp_region_plain (x0 := Later.start W0) ?_
    (first | (go_big_quiet_want; refine quiet_load_agg 32 _ (by rfl) (w.heap.size + 1) 0 (by rfl) (cpc k) _ r1.out.lt (lrow_cells r1.out) Tryz.underlying32 (by rfl) (info_cpuU _) ?_; simp only [Act.put, List.setIfInBounds_toArray, List.set_cons_succ, List.set_cons_zero]; go_big_quiet_on) | (go_big_quiet_step (fail)))
    iterate 2 (go_big_quiet_step (fail))
    (go_big_quiet_step ((go_at_call 144; exact calls_later (HF1.out _))))
    (go_big_quiet_step (fail))
    refine wpQuiet_nil ?_
    rintro _ ⟨yq, rfl⟩
    go_wp2
    go_ret
    exact ⟨by rw [HV.out]; rfl, BB.out.trans (yq.2.mono BB.out.size)⟩
  | false =>
    cases q2 : (r.len == 4) with
    | true =>
      cases f1 with
      | true =>
        go_enter Tryz.func103, Tryz.ntmps103
        go_upto_region 1 with fail
        clear hW0
        go_upto_region 5 with fail
        have HV : Hid (Z = f2) := (by unfold Hid; rw [HM.out, q1, q2]; rfl)
        clear HM
        refine wp_region_plain (x0 := Later.start W0) ?_
        (first | (go_big_quiet_want; refine quiet_load_agg 32 _ (by rfl) (w.heap.size + 1) 0 (by rfl) (cpc k) _ r1.out.lt (lrow_cells r1.out) Tryz.underlying32 (by rfl) (info_cpuU _) ?_; simp only [Act.put, List.setIfInBounds_toArray, List.set_cons_succ, List.set_cons_zero]; go_big_quiet_on) | (go_big_quiet_step (fail)))
        iterate 2 (go_big_quiet_step (fail))
        (go_big_quiet_step ((go_at_call 144; exact calls_later (HF1.out _))))
        (go_big_quiet_step (fail))
        (first | (go_big_quiet_want; refine quiet_load_agg 32 _ (by rfl) (w.heap.size + 1) 0 (by rfl) (cpc k) _ r1.out.lt (lrow_cells r1.out) Tryz.underlying32 (by rfl) (info_cpuU _) ?_; simp only [Act.put, List.setIfInBounds_toArray, List.set_cons_succ, List.set_cons_zero]; go_big_quiet_on) | (go_big_quiet_step (fail)))
        iterate 3 (go_big_quiet_step (fail))
        (go_big_quiet_step ((go_at_call 144; exact calls_later (HF2.out _))))
        iterate 2 (go_big_quiet_step (fail))
        refine wpQuiet_nil ?_
        rintro _ ⟨yq, rfl⟩
        go_wp2
        go_ret
        exact ⟨by rw [HV.out]; rfl, BB.out.trans (yq.2.mono BB.out.size)⟩
      | false =>
        go_enter Tryz.func103, Tryz.ntmps103
        go_upto_region 1 with fail
        clear hW0
        go_upto_region 5 with fail
        have HV : Hid (Z = false) := (by unfold Hid; rw [HM.out, q1, q2]; rfl)
        clear HM HF2
        refine wp_region_plain (x0 := Later.start W0) ?_
        (first | (go_big_quiet_want; refine quiet_load_agg 32 _ (by rfl) (w.heap.size + 1) 0 (by rfl) (cpc k) _ r1.out.lt (lrow_cells r1.out) Tryz.underlying32 (by rfl) (info_cpuU _) ?_; simp only [Act.put, List.setIfInBounds_toArray, List.set_cons_succ, List.set_cons_zero]; go_big_quiet_on) | (go_big_quiet_step (fail)))
        iterate 2 (go_big_quiet_step (fail))
        (go_big_quiet_step ((go_at_call 144; exact calls_later (HF1.out _))))
        (go_big_quiet_step (fail))
        (first | (go_big_quiet_want; refine quiet_load_agg 32 _ (by rfl) (w.heap.size + 1) 0 (by rfl) (cpc k) _ r1.out.lt (lrow_cells r1.out) Tryz.underlying32 (by rfl) (info_cpuU _) ?_; simp only [Act.put, List.setIfInBounds_toArray, List.set_cons_succ, List.set_cons_zero]; go_big_quiet_on) | (go_big_quiet_step (fail)))
        iterate 3 (go_big_quiet_step (fail))
        (go_big_quiet_step ((go_at_call 144; exact calls_later (HF1.out _))))
        iterate 2 (go_big_quiet_step (fail))
        refine wpQuiet_nil ?_
        rintro _ ⟨yq, rfl⟩
        go_wp2
        go_ret
        exact ⟨by rw [HV.out]; rfl, BB.out.trans (yq.2.mono BB.out.size)⟩
    | false =>
      have HV : Hid (Z = false) := (by unfold Hid; rw [HM.out, q1, q2]; rfl)
      go_enter Tryz.func103, Tryz.ntmps103
      go_upto_region 1 with fail
      clear hW0
      go_wp2
      go_ret
      exact ⟨by rw [HV.out]; rfl, BB.out⟩
def alB (t : BitVec 64) (z : Int) : Bool := (n64 t).tmod z == 0
def mrB (r : Rw) (c : Nat → BitVec 8) (a : Nat → BitVec 64) (m : Int) : Bool := ((((acB r.mem) && (wdB r.sz)) && (alB r.ad r.sz)) && (ckA (PC c) (PA a) m r.ad r.sz r.mem))
theorem wdB_cases {z : Int} (h : wdB z = true) : z = 1 ∨ z = 2 ∨ z = 4 ∨ z = 8 := by
  unfold wdB at h; simp at h; omega
theorem uMr_n (r : Rw) (c : Nat → BitVec 8) (a : Nat → BitVec 64) (m : Int) (w : World) (hT : Tb w) (hz : wdB r.sz = false) : Calls Tryz.prog 100 #[.agg (rwc r), .agg (pc c a), .int .i64 m] w fun e w' => e = .returned (.bool (mrB r c a m)) ∧ Below w.heap.size w w' := by
  obtain ⟨W0, hW0, r0, r1, b0, s0⟩ := start2 w (rwc r) (pc c a) 52 28
  have BB := Hid.mkU b0.out
  clear s0 b0
  have HM : Hid ((mrB r c a m) = ((acB r.mem) && false)) := (by unfold Hid mrB; rw [hz]; simp)
  have c0_mem : ∀ x : Later W0, x.1.cell? ⟨w.heap.size, 10, none⟩ = some (.int .i64 r.mem) := fun x => (lrow r0.out x).cell 10
  have c0_ad : ∀ x : Later W0, x.1.cell? ⟨w.heap.size, 11, none⟩ = some (.int .u64 (n64 r.ad)) := fun x => (lrow r0.out x).cell 11
  have c0_sz : ∀ x : Later W0, x.1.cell? ⟨w.heap.size, 12, none⟩ = some (.int .i64 r.sz) := fun x => (lrow r0.out x).cell 12
  have HAC : Hid (∀ W, Calls Tryz.prog 140 #[.int .i64 r.mem] W fun e w' => e = .returned (.bool (acB r.mem)) ∧ w' = W) := uAcc_c r.mem
  have HWD : Hid (∀ W, Calls Tryz.prog 141 #[.int .i64 r.sz] W fun e w' => e = .returned (.bool false) ∧ w' = W) := (by have q := uWid_c r.sz; rw [hz] at q; exact q)
  generalize hZ : (mrB r c a m) = Z at HM ⊢
  clear hZ
  generalize acB r.mem = z0 at *
  go_enter Tryz.func100, Tryz.ntmps100
  go_upto_region 1 with fail
  clear hW0
  have hne := later_nonempty W0
  cases z0
  rotate_left 1
  rotate_left 1
  all_goals
    have HV : Hid (Z = false) := (by unfold Hid; rw [HM.out]; rfl)
    clear HM
    refine wp_region_plain (x0 := Later.start W0) ?_
    iterate 2 (go_big_quiet_step (fail))
    (go_big_quiet_step ((go_at_call 140; exact calls_later_same (HAC.out _))))
    iterate 3 (go_big_quiet_step (fail))
    (go_big_quiet_step ((go_at_call 141; exact calls_later_same (HWD.out _))))
    iterate 11 (go_big_quiet_step (fail))
    (first | (go_big_quiet_want; refine quiet_load_agg 28 _ (by rfl) (w.heap.size + 1) 0 (by rfl) (pc c a) _ r1.out.lt (lrow_cells r1.out) Tryz.underlying28 (by rfl) (info_pmpU _ _) ?_; simp only [Act.put, List.setIfInBounds_toArray, List.set_cons_succ, List.set_cons_zero]; go_big_quiet_on) | (go_big_quiet_step (fail)))
    iterate 7 (go_big_quiet_step (fail))
    (go_big_quiet_step (fail))
    iterate 2 (go_big_quiet_step (fail))
    refine wpQuiet_nil ?_
    rintro _ ⟨yq, rfl⟩
    go_wp2
    go_ret
    exact ⟨by rw [HV.out]; first | done | rfl, BB.out.trans (yq.2.mono BB.out.size)⟩
theorem uMr_1 (r : Rw) (c : Nat → BitVec 8) (a : Nat → BitVec 64) (m : Int) (w : World) (hT : Tb w) (hz : r.sz = 1) : Calls Tryz.prog 100 #[.agg (rwc r), .agg (pc c a), .int .i64 m] w fun e w' => e = .returned (.bool (mrB r c a m)) ∧ Below w.heap.size w w' := by
  have q0 : wdB r.sz = true := by rw [hz]; rfl
  have hAL : alB r.ad r.sz = true := by unfold alB; rw [hz]; simp
  obtain ⟨W0, hW0, r0, r1, b0, s0⟩ := start2 w (rwc r) (pc c a) 52 28
  have BB := Hid.mkU b0.out
  clear s0 b0
  have HM : Hid ((mrB r c a m) = ((acB r.mem) && (ckA (PC c) (PA a) m r.ad 1 r.mem))) := (by unfold Hid mrB; rw [q0, hAL, hz]; simp only [Bool.and_true])
  have c0_mem : ∀ x : Later W0, x.1.cell? ⟨w.heap.size, 10, none⟩ = some (.int .i64 r.mem) := fun x => (lrow r0.out x).cell 10
  have c0_ad : ∀ x : Later W0, x.1.cell? ⟨w.heap.size, 11, none⟩ = some (.int .u64 (n64 r.ad)) := fun x => (lrow r0.out x).cell 11
  have c0_sz : ∀ x : Later W0, x.1.cell? ⟨w.heap.size, 12, none⟩ = some (.int .i64 1) := fun x => by have := (lrow r0.out x).cell 12; rw [this, ← hz]; rfl
  have HAC : Hid (∀ W, Calls Tryz.prog 140 #[.int .i64 r.mem] W fun e w' => e = .returned (.bool (acB r.mem)) ∧ w' = W) := uAcc_c r.mem
  have HWD : Hid (∀ W, Calls Tryz.prog 141 #[.int .i64 1] W fun e w' => e = .returned (.bool true) ∧ w' = W) := uWid_c 1
  have HCK : Hid (∀ x : Later W0, Calls Tryz.prog 142 #[.agg (pc c a), .int .i64 m, .int .u64 (n64 r.ad), .int .i64 1, .int .i64 r.mem] x.1 fun e w' => e = .returned (.bool (ckA (PC c) (PA a) m r.ad 1 r.mem)) ∧ Below x.1.heap.size x.1 w') := fun x => Check_c c a m r.ad 1 r.mem x.1 ((hT.next BB.out).next x.2)
  clear hz q0 hAL
  generalize hZ : (mrB r c a m) = Z at HM ⊢
  clear hZ
  generalize acB r.mem = z0 at *
  generalize ckA (PC c) (PA a) m r.ad 1 r.mem = z1 at *
  go_enter Tryz.func100, Tryz.ntmps100
  go_upto_region 1 with fail
  clear hW0
  have hne := later_nonempty W0
  cases z0
  focus
    have HV : Hid (Z = false) := (by unfold Hid; rw [HM.out]; rfl)
  rotate_left 1
  focus
    cases z1
    focus
      have HV : Hid (Z = false) := (by unfold Hid; rw [HM.out]; rfl)
    rotate_left 1
    focus
      have HV : Hid (Z = true) := (by unfold Hid; rw [HM.out]; rfl)
    rotate_left 1
  rotate_left 2
  all_goals
    clear HM
    refine wp_region_plain (x0 := Later.start W0) ?_
    iterate 2 (go_big_quiet_step (fail))
    (go_big_quiet_step ((go_at_call 140; exact calls_later_same (HAC.out _))))
    iterate 3 (go_big_quiet_step (fail))
    (go_big_quiet_step ((go_at_call 141; exact calls_later_same (HWD.out _))))
    iterate 11 (go_big_quiet_step (fail))
    (first | (go_big_quiet_want; refine quiet_load_agg 28 _ (by rfl) (w.heap.size + 1) 0 (by rfl) (pc c a) _ r1.out.lt (lrow_cells r1.out) Tryz.underlying28 (by rfl) (info_pmpU _ _) ?_; simp only [Act.put, List.setIfInBounds_toArray, List.set_cons_succ, List.set_cons_zero]; go_big_quiet_on) | (go_big_quiet_step (fail)))
    iterate 7 (go_big_quiet_step (fail))
    (go_big_quiet_step ((go_at_call 142; exact calls_later (HCK.out _))))
    iterate 2 (go_big_quiet_step (fail))
    refine wpQuiet_nil ?_
    rintro _ ⟨yq, rfl⟩
    go_wp2
    go_ret
    exact ⟨by rw [HV.out]; first | done | rfl, BB.out.trans (yq.2.mono BB.out.size)⟩
theorem uMr_2 (r : Rw) (c : Nat → BitVec 8) (a : Nat → BitVec 64) (m : Int) (w : World) (hT : Tb w) (hz : r.sz = 2) : Calls Tryz.prog 100 #[.agg (rwc r), .agg (pc c a), .int .i64 m] w fun e w' => e = .returned (.bool (mrB r c a m)) ∧ Below w.heap.size w w' := by
  have q0 : wdB r.sz = true := by rw [hz]; rfl
  have hAL : alB r.ad r.sz = ((n64 r.ad).tmod 2 == 0) := by unfold alB; rw [hz]
  obtain ⟨W0, hW0, r0, r1, b0, s0⟩ := start2 w (rwc r) (pc c a) 52 28
  have BB := Hid.mkU b0.out
  clear s0 b0
  have HM : Hid ((mrB r c a m) = (((acB r.mem) && ((n64 r.ad).tmod 2 == 0)) && (ckA (PC c) (PA a) m r.ad 2 r.mem))) := (by unfold Hid mrB; rw [q0, hAL, hz]; simp only [Bool.and_true])
  have c0_mem : ∀ x : Later W0, x.1.cell? ⟨w.heap.size, 10, none⟩ = some (.int .i64 r.mem) := fun x => (lrow r0.out x).cell 10
  have c0_ad : ∀ x : Later W0, x.1.cell? ⟨w.heap.size, 11, none⟩ = some (.int .u64 (n64 r.ad)) := fun x => (lrow r0.out x).cell 11
  have c0_sz : ∀ x : Later W0, x.1.cell? ⟨w.heap.size, 12, none⟩ = some (.int .i64 2) := fun x => by have := (lrow r0.out x).cell 12; rw [this, ← hz]; rfl
  have HAC : Hid (∀ W, Calls Tryz.prog 140 #[.int .i64 r.mem] W fun e w' => e = .returned (.bool (acB r.mem)) ∧ w' = W) := uAcc_c r.mem
  have HWD : Hid (∀ W, Calls Tryz.prog 141 #[.int .i64 2] W fun e w' => e = .returned (.bool true) ∧ w' = W) := uWid_c 2
  have HCK : Hid (∀ x : Later W0, Calls Tryz.prog 142 #[.agg (pc c a), .int .i64 m, .int .u64 (n64 r.ad), .int .i64 2, .int .i64 r.mem] x.1 fun e w' => e = .returned (.bool (ckA (PC c) (PA a) m r.ad 2 r.mem)) ∧ Below x.1.heap.size x.1 w') := fun x => Check_c c a m r.ad 2 r.mem x.1 ((hT.next BB.out).next x.2)
  clear hz q0 hAL
  generalize hZ : (mrB r c a m) = Z at HM ⊢
  clear hZ
  generalize acB r.mem = z0 at *
  generalize ckA (PC c) (PA a) m r.ad 2 r.mem = z2 at *
  go_enter Tryz.func100, Tryz.ntmps100
  go_upto_region 1 with fail
  clear hW0
  have hne := later_nonempty W0
  cases z0
  focus
    have HV : Hid (Z = false) := (by unfold Hid; rw [HM.out]; rfl)
  rotate_left 1
  focus
    cases q1 : ((n64 r.ad).tmod 2 == 0)
    focus
      have HV : Hid (Z = false) := (by unfold Hid; rw [HM.out]; first | (rw [q1]; done) | (rw [q1]; rfl))
    rotate_left 1
    focus
      cases z2
      focus
        have HV : Hid (Z = false) := (by unfold Hid; rw [HM.out]; first | (rw [q1]; done) | (rw [q1]; rfl))
      rotate_left 1
      focus
        have HV : Hid (Z = true) := (by unfold Hid; rw [HM.out]; first | (rw [q1]; done) | (rw [q1]; rfl))
      rotate_left 1
    rotate_left 2
  rotate_left 3
  all_goals
    clear HM
    refine wp_region_plain (x0 := Later.start W0) ?_
    iterate 2 (go_big_quiet_step (fail))
    (go_big_quiet_step ((go_at_call 140; exact calls_later_same (HAC.out _))))
    iterate 3 (go_big_quiet_step (fail))
    (go_big_quiet_step ((go_at_call 141; exact calls_later_same (HWD.out _))))
    iterate 11 (go_big_quiet_step (fail))
    (first | (go_big_quiet_want; refine quiet_load_agg 28 _ (by rfl) (w.heap.size + 1) 0 (by rfl) (pc c a) _ r1.out.lt (lrow_cells r1.out) Tryz.underlying28 (by rfl) (info_pmpU _ _) ?_; simp only [Act.put, List.setIfInBounds_toArray, List.set_cons_succ, List.set_cons_zero]; go_big_quiet_on) | (go_big_quiet_step (fail)))
    iterate 7 (go_big_quiet_step (fail))
    (go_big_quiet_step ((go_at_call 142; exact calls_later (HCK.out _))))
    iterate 2 (go_big_quiet_step (fail))
    refine wpQuiet_nil ?_
    rintro _ ⟨yq, rfl⟩
    go_wp2
    go_ret
    exact ⟨by rw [HV.out]; first | done | rfl, BB.out.trans (yq.2.mono BB.out.size)⟩
theorem uMr_4 (r : Rw) (c : Nat → BitVec 8) (a : Nat → BitVec 64) (m : Int) (w : World) (hT : Tb w) (hz : r.sz = 4) : Calls Tryz.prog 100 #[.agg (rwc r), .agg (pc c a), .int .i64 m] w fun e w' => e = .returned (.bool (mrB r c a m)) ∧ Below w.heap.size w w' := by
  have q0 : wdB r.sz = true := by rw [hz]; rfl
  have hAL : alB r.ad r.sz = ((n64 r.ad).tmod 4 == 0) := by unfold alB; rw [hz]
  obtain ⟨W0, hW0, r0, r1, b0, s0⟩ := start2 w (rwc r) (pc c a) 52 28
  have BB := Hid.mkU b0.out
  clear s0 b0
  have HM : Hid ((mrB r c a m) = (((acB r.mem) && ((n64 r.ad).tmod 4 == 0)) && (ckA (PC c) (PA a) m r.ad 4 r.mem))) := (by unfold Hid mrB; rw [q0, hAL, hz]; simp only [Bool.and_true])
  have c0_mem : ∀ x : Later W0, x.1.cell? ⟨w.heap.size, 10, none⟩ = some (.int .i64 r.mem) := fun x => (lrow r0.out x).cell 10
  have c0_ad : ∀ x : Later W0, x.1.cell? ⟨w.heap.size, 11, none⟩ = some (.int .u64 (n64 r.ad)) := fun x => (lrow r0.out x).cell 11
  have c0_sz : ∀ x : Later W0, x.1.cell? ⟨w.heap.size, 12, none⟩ = some (.int .i64 4) := fun x => by have := (lrow r0.out x).cell 12; rw [this, ← hz]; rfl
  have HAC : Hid (∀ W, Calls Tryz.prog 140 #[.int .i64 r.mem] W fun e w' => e = .returned (.bool (acB r.mem)) ∧ w' = W) := uAcc_c r.mem
  have HWD : Hid (∀ W, Calls Tryz.prog 141 #[.int .i64 4] W fun e w' => e = .returned (.bool true) ∧ w' = W) := uWid_c 4
  have HCK : Hid (∀ x : Later W0, Calls Tryz.prog 142 #[.agg (pc c a), .int .i64 m, .int .u64 (n64 r.ad), .int .i64 4, .int .i64 r.mem] x.1 fun e w' => e = .returned (.bool (ckA (PC c) (PA a) m r.ad 4 r.mem)) ∧ Below x.1.heap.size x.1 w') := fun x => Check_c c a m r.ad 4 r.mem x.1 ((hT.next BB.out).next x.2)
  clear hz q0 hAL
  generalize hZ : (mrB r c a m) = Z at HM ⊢
  clear hZ
  generalize acB r.mem = z0 at *
  generalize ckA (PC c) (PA a) m r.ad 4 r.mem = z2 at *
  go_enter Tryz.func100, Tryz.ntmps100
  go_upto_region 1 with fail
  clear hW0
  have hne := later_nonempty W0
  cases z0
  focus
    have HV : Hid (Z = false) := (by unfold Hid; rw [HM.out]; rfl)
  rotate_left 1
  focus
    cases q1 : ((n64 r.ad).tmod 4 == 0)
    focus
      have HV : Hid (Z = false) := (by unfold Hid; rw [HM.out]; first | (rw [q1]; done) | (rw [q1]; rfl))
    rotate_left 1
    focus
      cases z2
      focus
        have HV : Hid (Z = false) := (by unfold Hid; rw [HM.out]; first | (rw [q1]; done) | (rw [q1]; rfl))
      rotate_left 1
      focus
        have HV : Hid (Z = true) := (by unfold Hid; rw [HM.out]; first | (rw [q1]; done) | (rw [q1]; rfl))
      rotate_left 1
    rotate_left 2
  rotate_left 3
  all_goals
    clear HM
    refine wp_region_plain (x0 := Later.start W0) ?_
    iterate 2 (go_big_quiet_step (fail))
    (go_big_quiet_step ((go_at_call 140; exact calls_later_same (HAC.out _))))
    iterate 3 (go_big_quiet_step (fail))
    (go_big_quiet_step ((go_at_call 141; exact calls_later_same (HWD.out _))))
    iterate 11 (go_big_quiet_step (fail))
    (first | (go_big_quiet_want; refine quiet_load_agg 28 _ (by rfl) (w.heap.size + 1) 0 (by rfl) (pc c a) _ r1.out.lt (lrow_cells r1.out) Tryz.underlying28 (by rfl) (info_pmpU _ _) ?_; simp only [Act.put, List.setIfInBounds_toArray, List.set_cons_succ, List.set_cons_zero]; go_big_quiet_on) | (go_big_quiet_step (fail)))
    iterate 7 (go_big_quiet_step (fail))
    (go_big_quiet_step ((go_at_call 142; exact calls_later (HCK.out _))))
    iterate 2 (go_big_quiet_step (fail))
    refine wpQuiet_nil ?_
    rintro _ ⟨yq, rfl⟩
    go_wp2
    go_ret
    exact ⟨by rw [HV.out]; first | done | rfl, BB.out.trans (yq.2.mono BB.out.size)⟩
theorem uMr_8 (r : Rw) (c : Nat → BitVec 8) (a : Nat → BitVec 64) (m : Int) (w : World) (hT : Tb w) (hz : r.sz = 8) : Calls Tryz.prog 100 #[.agg (rwc r), .agg (pc c a), .int .i64 m] w fun e w' => e = .returned (.bool (mrB r c a m)) ∧ Below w.heap.size w w' := by
  have q0 : wdB r.sz = true := by rw [hz]; rfl
  have hAL : alB r.ad r.sz = ((n64 r.ad).tmod 8 == 0) := by unfold alB; rw [hz]
  obtain ⟨W0, hW0, r0, r1, b0, s0⟩ := start2 w (rwc r) (pc c a) 52 28
  have BB := Hid.mkU b0.out
  clear s0 b0
  have HM : Hid ((mrB r c a m) = (((acB r.mem) && ((n64 r.ad).tmod 8 == 0)) && (ckA (PC c) (PA a) m r.ad 8 r.mem))) := (by unfold Hid mrB; rw [q0, hAL, hz]; simp only [Bool.and_true])
  have c0_mem : ∀ x : Later W0, x.1.cell? ⟨w.heap.size, 10, none⟩ = some (.int .i64 r.mem) := fun x => (lrow r0.out x).cell 10
  have c0_ad : ∀ x : Later W0, x.1.cell? ⟨w.heap.size, 11, none⟩ = some (.int .u64 (n64 r.ad)) := fun x => (lrow r0.out x).cell 11
  have c0_sz : ∀ x : Later W0, x.1.cell? ⟨w.heap.size, 12, none⟩ = some (.int .i64 8) := fun x => by have := (lrow r0.out x).cell 12; rw [this, ← hz]; rfl
  have HAC : Hid (∀ W, Calls Tryz.prog 140 #[.int .i64 r.mem] W fun e w' => e = .returned (.bool (acB r.mem)) ∧ w' = W) := uAcc_c r.mem
  have HWD : Hid (∀ W, Calls Tryz.prog 141 #[.int .i64 8] W fun e w' => e = .returned (.bool true) ∧ w' = W) := uWid_c 8
  have HCK : Hid (∀ x : Later W0, Calls Tryz.prog 142 #[.agg (pc c a), .int .i64 m, .int .u64 (n64 r.ad), .int .i64 8, .int .i64 r.mem] x.1 fun e w' => e = .returned (.bool (ckA (PC c) (PA a) m r.ad 8 r.mem)) ∧ Below x.1.heap.size x.1 w') := fun x => Check_c c a m r.ad 8 r.mem x.1 ((hT.next BB.out).next x.2)
  clear hz q0 hAL
  generalize hZ : (mrB r c a m) = Z at HM ⊢
  clear hZ
  generalize acB r.mem = z0 at *
  generalize ckA (PC c) (PA a) m r.ad 8 r.mem = z2 at *
  go_enter Tryz.func100, Tryz.ntmps100
  go_upto_region 1 with fail
  clear hW0
  have hne := later_nonempty W0
  cases z0
  focus
    have HV : Hid (Z = false) := (by unfold Hid; rw [HM.out]; rfl)
  rotate_left 1
  focus
    cases q1 : ((n64 r.ad).tmod 8 == 0)
    focus
      have HV : Hid (Z = false) := (by unfold Hid; rw [HM.out]; first | (rw [q1]; done) | (rw [q1]; rfl))
    rotate_left 1
    focus
      cases z2
      focus
        have HV : Hid (Z = false) := (by unfold Hid; rw [HM.out]; first | (rw [q1]; done) | (rw [q1]; rfl))
      rotate_left 1
      focus
        have HV : Hid (Z = true) := (by unfold Hid; rw [HM.out]; first | (rw [q1]; done) | (rw [q1]; rfl))
      rotate_left 1
    rotate_left 2
  rotate_left 3
  all_goals
    clear HM
    refine wp_region_plain (x0 := Later.start W0) ?_
    iterate 2 (go_big_quiet_step (fail))
    (go_big_quiet_step ((go_at_call 140; exact calls_later_same (HAC.out _))))
    iterate 3 (go_big_quiet_step (fail))
    (go_big_quiet_step ((go_at_call 141; exact calls_later_same (HWD.out _))))
    iterate 11 (go_big_quiet_step (fail))
    (first | (go_big_quiet_want; refine quiet_load_agg 28 _ (by rfl) (w.heap.size + 1) 0 (by rfl) (pc c a) _ r1.out.lt (lrow_cells r1.out) Tryz.underlying28 (by rfl) (info_pmpU _ _) ?_; simp only [Act.put, List.setIfInBounds_toArray, List.set_cons_succ, List.set_cons_zero]; go_big_quiet_on) | (go_big_quiet_step (fail)))
    iterate 7 (go_big_quiet_step (fail))
    (go_big_quiet_step ((go_at_call 142; exact calls_later (HCK.out _))))
    iterate 2 (go_big_quiet_step (fail))
    refine wpQuiet_nil ?_
    rintro _ ⟨yq, rfl⟩
    go_wp2
    go_ret
    exact ⟨by rw [HV.out]; first | done | rfl, BB.out.trans (yq.2.mono BB.out.size)⟩
theorem uMr_c (r : Rw) (c : Nat → BitVec 8) (a : Nat → BitVec 64) (m : Int) (w : World) (hT : Tb w) : Calls Tryz.prog 100 #[.agg (rwc r), .agg (pc c a), .int .i64 m] w fun e w' => e = .returned (.bool (mrB r c a m)) ∧ Below w.heap.size w w' := by
  cases h : wdB r.sz with
  | false => exact uMr_n r c a m w hT h
  | true =>
    rcases wdB_cases h with h | h | h | h
    · exact uMr_1 r c a m w hT h
    · exact uMr_2 r c a m w hT h
    · exact uMr_4 r c a m w hT h
    · exact uMr_8 r c a m w hT h
end Go.Proofs.YtidfndgedopghaaGreatDoor
