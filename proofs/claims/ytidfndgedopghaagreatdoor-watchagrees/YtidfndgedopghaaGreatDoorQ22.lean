/-
  Ub.
-/
import Derived.Test.YtidfndgedopghaaGreatDoorQ21
namespace Go.Proofs.YtidfndgedopghaaGreatDoor
set_option linter.unusedVariables false
set_option maxRecDepth 100000
set_option maxHeartbeats 4000000
open Go.ChangeShapes Go.WideShapes Go.ChangeAt Go.RowKit Go.Deep
def kdB (k : Int) : Bool := ((decide (1 ≤ k)) && (decide (k ≤ 5)))
theorem uKind_c (k : Int) (w : World) : Calls Tryz.prog 61 #[.int .i64 k] w fun e w' => e = .returned (.bool (kdB k)) ∧ w' = w := by
  have BB : Hid (Below w.heap.size w w) := Below.refl _ _
  have HM : Hid ((kdB k) = ((decide (1 ≤ k)) && (decide (k ≤ 5)))) := rfl
  generalize hZ : (kdB k) = Z at HM ⊢
  clear hZ
  go_enter Tryz.func61, Tryz.ntmps61
  go_upto_region 1 with fail
  cases q1 : (decide (1 ≤ k)) with
  | true =>
    cases q2 : (decide (k ≤ 5)) with
    | true =>
      have HV : Hid (Z = true) := (by unfold Hid; rw [HM.out]; first | (rw [q1, q2]; done) | (rw [q1, q2]; rfl))
      clear HM
      go_wp2
      go_ret
      exact ⟨by rw [HV.out]; first | done | rfl, rfl⟩
    | false =>
      have HV : Hid (Z = false) := (by unfold Hid; rw [HM.out]; first | (rw [q1, q2]; done) | (rw [q1, q2]; rfl))
      clear HM
      go_wp2
      go_ret
      exact ⟨by rw [HV.out]; first | done | rfl, rfl⟩
  | false =>
    have HV : Hid (Z = false) := (by unfold Hid; rw [HM.out]; first | (rw [q1]; done) | (rw [q1]; rfl))
    clear HM
    go_wp2
    go_ret
    exact ⟨by rw [HV.out]; first | done | rfl, rfl⟩
def mdB (k : Int) : Bool := ((k == 0) || (k == 3))
theorem uMode_c (k : Int) (w : World) : Calls Tryz.prog 121 #[.int .i64 k] w fun e w' => e = .returned (.bool (mdB k)) ∧ w' = w := by
  have BB : Hid (Below w.heap.size w w) := Below.refl _ _
  have HM : Hid ((mdB k) = ((k == 0) || (k == 3))) := rfl
  generalize hZ : (mdB k) = Z at HM ⊢
  clear hZ
  go_enter Tryz.func121, Tryz.ntmps121
  go_upto_region 1 with fail
  cases q1 : (k == 0) with
  | true =>
    have HV : Hid (Z = true) := (by unfold Hid; rw [HM.out]; first | (rw [q1]; done) | (rw [q1]; rfl))
    clear HM
    go_wp2
    go_ret
    exact ⟨by rw [HV.out]; first | done | rfl, rfl⟩
  | false =>
    cases q2 : (k == 3) with
    | true =>
      have HV : Hid (Z = true) := (by unfold Hid; rw [HM.out]; first | (rw [q1, q2]; done) | (rw [q1, q2]; rfl))
      clear HM
      go_wp2
      go_ret
      exact ⟨by rw [HV.out]; first | done | rfl, rfl⟩
    | false =>
      have HV : Hid (Z = false) := (by unfold Hid; rw [HM.out]; first | (rw [q1, q2]; done) | (rw [q1, q2]; rfl))
      clear HM
      go_wp2
      go_ret
      exact ⟨by rw [HV.out]; first | done | rfl, rfl⟩
def tpB (r : Rw) : Bool := ((r.kd == 2) || (r.kd == 3))
theorem uTrap_c (r : Rw) (w : World) : Calls Tryz.prog 78 #[.agg (rwc r)] w fun e w' => e = .returned (.bool (tpB r)) ∧ Below w.heap.size w w' := by
  obtain ⟨W0, hW0, r0, b0, s0⟩ := start1 w (rwc r) 52
  have BB := Hid.mkU b0.out
  clear s0 b0
  have HM : Hid ((tpB r) = ((r.kd == 2) || (r.kd == 3))) := rfl
  have c0_kd : W0.cell? ⟨w.heap.size, 1, none⟩ = some (.int .i64 r.kd) := r0.out.cell 1
  generalize hZ : (tpB r) = Z at HM ⊢
  clear hZ
  go_enter Tryz.func78, Tryz.ntmps78
  go_upto_region 1 with fail
  clear hW0
  cases q1 : (r.kd == 2) with
  | true =>
    have HV : Hid (Z = true) := (by unfold Hid; rw [HM.out]; first | (rw [q1]; done) | (rw [q1]; rfl))
    clear HM
    go_wp2
    go_ret
    exact ⟨by rw [HV.out]; first | done | rfl, BB.out⟩
  | false =>
    cases q2 : (r.kd == 3) with
    | true =>
      have HV : Hid (Z = true) := (by unfold Hid; rw [HM.out]; first | (rw [q1, q2]; done) | (rw [q1, q2]; rfl))
      clear HM
      go_wp2
      go_ret
      exact ⟨by rw [HV.out]; first | done | rfl, BB.out⟩
    | false =>
      have HV : Hid (Z = false) := (by unfold Hid; rw [HM.out]; first | (rw [q1, q2]; done) | (rw [q1, q2]; rfl))
      clear HM
      go_wp2
      go_ret
      exact ⟨by rw [HV.out]; first | done | rfl, BB.out⟩
def wcB (r : Rw) : Bool := ((r.kd == 1) && (bits .and .u32 r.raw 127 == 115))
theorem uMayW_c (r : Rw) (w : World) : Calls Tryz.prog 86 #[.agg (rwc r)] w fun e w' => e = .returned (.bool (wcB r)) ∧ Below w.heap.size w w' := by
  obtain ⟨W0, hW0, r0, b0, s0⟩ := start1 w (rwc r) 52
  have BB := Hid.mkU b0.out
  clear s0 b0
  have HM : Hid ((wcB r) = ((r.kd == 1) && (bits .and .u32 r.raw 127 == 115))) := rfl
  have c0_kd : W0.cell? ⟨w.heap.size, 1, none⟩ = some (.int .i64 r.kd) := r0.out.cell 1
  have c0_raw : W0.cell? ⟨w.heap.size, 4, none⟩ = some (.int .u32 r.raw) := r0.out.cell 4
  generalize hZ : (wcB r) = Z at HM ⊢
  clear hZ
  go_enter Tryz.func86, Tryz.ntmps86
  go_upto_region 1 with fail
  clear hW0
  cases q1 : (r.kd == 1) with
  | true =>
    cases q2 : (bits .and .u32 r.raw 127 == 115) with
    | true =>
      have HV : Hid (Z = true) := (by unfold Hid; rw [HM.out]; first | (rw [q1, q2]; done) | (rw [q1, q2]; rfl))
      clear HM
      go_wp2
      go_ret
      exact ⟨by rw [HV.out]; first | done | rfl, BB.out⟩
    | false =>
      have HV : Hid (Z = false) := (by unfold Hid; rw [HM.out]; first | (rw [q1, q2]; done) | (rw [q1, q2]; rfl))
      clear HM
      go_wp2
      go_ret
      exact ⟨by rw [HV.out]; first | done | rfl, BB.out⟩
  | false =>
    have HV : Hid (Z = false) := (by unfold Hid; rw [HM.out]; first | (rw [q1]; done) | (rw [q1]; rfl))
    clear HM
    go_wp2
    go_ret
    exact ⟨by rw [HV.out]; first | done | rfl, BB.out⟩
def bgB (r : Rw) (k : Cp) : Bool := ((n64 r.pc == n64 k.pc) && (r.md == k.md))
theorem uBeg_c (r : Rw) (k : Cp) (w : World) : Calls Tryz.prog 62 #[.agg (rwc r), .agg (cpc k)] w fun e w' => e = .returned (.bool (bgB r k)) ∧ Below w.heap.size w w' := by
  obtain ⟨W0, hW0, r0, r1, b0, s0⟩ := start2 w (rwc r) (cpc k) 52 32
  have BB := Hid.mkU b0.out
  clear s0 b0
  have HM : Hid ((bgB r k) = ((n64 r.pc == n64 k.pc) && (r.md == k.md))) := rfl
  have c0_pc : W0.cell? ⟨w.heap.size, 3, none⟩ = some (.int .u64 (n64 r.pc)) := r0.out.cell 3
  have c0_md : W0.cell? ⟨w.heap.size, 2, none⟩ = some (.int .i64 r.md) := r0.out.cell 2
  have c1_pc : W0.cell? ⟨w.heap.size + 1, 0, none⟩ = some (.int .u64 (n64 k.pc)) := (r1.out.cell 0).trans (cpc_at _ 0 (by omega))
  have c1_md : W0.cell? ⟨w.heap.size + 1, 33, none⟩ = some (.int .i64 k.md) := (r1.out.cell 33).trans (cpc_at _ 33 (by omega))
  generalize hZ : (bgB r k) = Z at HM ⊢
  clear hZ
  go_enter Tryz.func62, Tryz.ntmps62
  go_upto_region 1 with fail
  clear hW0
  cases q1 : (n64 r.pc == n64 k.pc) with
  | true =>
    cases q2 : (r.md == k.md) with
    | true =>
      have HV : Hid (Z = true) := (by unfold Hid; rw [HM.out]; first | (rw [q1, q2]; done) | (rw [q1, q2]; rfl))
      clear HM
      go_wp2
      go_ret
      exact ⟨by rw [HV.out]; first | done | rfl, BB.out⟩
    | false =>
      have HV : Hid (Z = false) := (by unfold Hid; rw [HM.out]; first | (rw [q1, q2]; done) | (rw [q1, q2]; rfl))
      clear HM
      go_wp2
      go_ret
      exact ⟨by rw [HV.out]; first | done | rfl, BB.out⟩
  | false =>
    have HV : Hid (Z = false) := (by unfold Hid; rw [HM.out]; first | (rw [q1]; done) | (rw [q1]; rfl))
    clear HM
    go_wp2
    go_ret
    exact ⟨by rw [HV.out]; first | done | rfl, BB.out⟩
def enB (r : Rw) (k : Cp) : Bool := ((n64 r.nx == n64 k.pc) && (r.nm == k.md))
theorem uEnd_c (r : Rw) (k : Cp) (w : World) : Calls Tryz.prog 43 #[.agg (rwc r), .agg (cpc k)] w fun e w' => e = .returned (.bool (enB r k)) ∧ Below w.heap.size w w' := by
  obtain ⟨W0, hW0, r0, r1, b0, s0⟩ := start2 w (rwc r) (cpc k) 52 32
  have BB := Hid.mkU b0.out
  clear s0 b0
  have HM : Hid ((enB r k) = ((n64 r.nx == n64 k.pc) && (r.nm == k.md))) := rfl
  have c0_nx : W0.cell? ⟨w.heap.size, 14, none⟩ = some (.int .u64 (n64 r.nx)) := r0.out.cell 14
  have c0_nm : W0.cell? ⟨w.heap.size, 15, none⟩ = some (.int .i64 r.nm) := r0.out.cell 15
  have c1_pc : W0.cell? ⟨w.heap.size + 1, 0, none⟩ = some (.int .u64 (n64 k.pc)) := (r1.out.cell 0).trans (cpc_at _ 0 (by omega))
  have c1_md : W0.cell? ⟨w.heap.size + 1, 33, none⟩ = some (.int .i64 k.md) := (r1.out.cell 33).trans (cpc_at _ 33 (by omega))
  generalize hZ : (enB r k) = Z at HM ⊢
  clear hZ
  go_enter Tryz.func43, Tryz.ntmps43
  go_upto_region 1 with fail
  clear hW0
  cases q1 : (n64 r.nx == n64 k.pc) with
  | true =>
    cases q2 : (r.nm == k.md) with
    | true =>
      have HV : Hid (Z = true) := (by unfold Hid; rw [HM.out]; first | (rw [q1, q2]; done) | (rw [q1, q2]; rfl))
      clear HM
      go_wp2
      go_ret
      exact ⟨by rw [HV.out]; first | done | rfl, BB.out⟩
    | false =>
      have HV : Hid (Z = false) := (by unfold Hid; rw [HM.out]; first | (rw [q1, q2]; done) | (rw [q1, q2]; rfl))
      clear HM
      go_wp2
      go_ret
      exact ⟨by rw [HV.out]; first | done | rfl, BB.out⟩
  | false =>
    have HV : Hid (Z = false) := (by unfold Hid; rw [HM.out]; first | (rw [q1]; done) | (rw [q1]; rfl))
    clear HM
    go_wp2
    go_ret
    exact ⟨by rw [HV.out]; first | done | rfl, BB.out⟩
def rnB (r : Rw) : Bool := (((n64 r.ad == 0) && (r.sz == 0)) && (n64 r.dat == 0))
theorem uRn_c (r : Rw) (w : World) : Calls Tryz.prog 156 #[.agg (rwc r)] w fun e w' => e = .returned (.bool (rnB r)) ∧ Below w.heap.size w w' := by
  obtain ⟨W0, hW0, r0, b0, s0⟩ := start1 w (rwc r) 52
  have BB := Hid.mkU b0.out
  clear s0 b0
  have HM : Hid ((rnB r) = (((n64 r.ad == 0) && (r.sz == 0)) && (n64 r.dat == 0))) := rfl
  have c0_ad : W0.cell? ⟨w.heap.size, 11, none⟩ = some (.int .u64 (n64 r.ad)) := r0.out.cell 11
  have c0_sz : W0.cell? ⟨w.heap.size, 12, none⟩ = some (.int .i64 r.sz) := r0.out.cell 12
  have c0_dat : W0.cell? ⟨w.heap.size, 13, none⟩ = some (.int .u64 (n64 r.dat)) := r0.out.cell 13
  generalize hZ : (rnB r) = Z at HM ⊢
  clear hZ
  go_enter Tryz.func156, Tryz.ntmps156
  go_upto_region 1 with fail
  clear hW0
  cases q1 : (n64 r.ad == 0) with
  | true =>
    cases q2 : (r.sz == 0) with
    | true =>
      cases q3 : (n64 r.dat == 0) with
      | true =>
        have HV : Hid (Z = true) := (by unfold Hid; rw [HM.out]; first | (rw [q1, q2, q3]; done) | (rw [q1, q2, q3]; rfl))
        clear HM
        go_wp2
        go_ret
        exact ⟨by rw [HV.out]; first | done | rfl, BB.out⟩
      | false =>
        have HV : Hid (Z = false) := (by unfold Hid; rw [HM.out]; first | (rw [q1, q2, q3]; done) | (rw [q1, q2, q3]; rfl))
        clear HM
        go_wp2
        go_ret
        exact ⟨by rw [HV.out]; first | done | rfl, BB.out⟩
    | false =>
      have HV : Hid (Z = false) := (by unfold Hid; rw [HM.out]; first | (rw [q1, q2]; done) | (rw [q1, q2]; rfl))
      clear HM
      go_wp2
      go_ret
      exact ⟨by rw [HV.out]; first | done | rfl, BB.out⟩
  | false =>
    have HV : Hid (Z = false) := (by unfold Hid; rw [HM.out]; first | (rw [q1]; done) | (rw [q1]; rfl))
    clear HM
    go_wp2
    go_ret
    exact ⟨by rw [HV.out]; first | done | rfl, BB.out⟩
def dnB (r : Rw) : Bool := ((((r.rd == 0) && (n64 r.val == 0)) && (r.mem == 0)) && (rnB r))
theorem uDn_c (r : Rw) (w : World) : Calls Tryz.prog 135 #[.agg (rwc r)] w fun e w' => e = .returned (.bool (dnB r)) ∧ Below w.heap.size w w' := by
  obtain ⟨W0, hW0, r0, b0, s0⟩ := start1 w (rwc r) 52
  have BB := Hid.mkU b0.out
  clear s0 b0
  have HM : Hid ((dnB r) = ((((r.rd == 0) && (n64 r.val == 0)) && (r.mem == 0)) && (rnB r))) := rfl
  have c0_rd : ∀ x : Later W0, x.1.cell? ⟨w.heap.size, 8, none⟩ = some (.int .i64 r.rd) := fun x => (lrow r0.out x).cell 8
  have c0_val : ∀ x : Later W0, x.1.cell? ⟨w.heap.size, 9, none⟩ = some (.int .u64 (n64 r.val)) := fun x => (lrow r0.out x).cell 9
  have c0_mem : ∀ x : Later W0, x.1.cell? ⟨w.heap.size, 10, none⟩ = some (.int .i64 r.mem) := fun x => (lrow r0.out x).cell 10
  have HRN : Hid (∀ W, Calls Tryz.prog 156 #[.agg (rwc r)] W fun e w' => e = .returned (.bool (rnB r)) ∧ Below W.heap.size W w') := uRn_c r
  generalize hZ : (dnB r) = Z at HM ⊢
  clear hZ
  go_enter Tryz.func135, Tryz.ntmps135
  go_upto_region 1 with fail
  clear hW0
  have hne := later_nonempty W0
  cases q1 : (r.rd == 0) with
  | true =>
    cases q2 : (n64 r.val == 0) with
    | true =>
      cases q3 : (r.mem == 0) with
      | true =>
        cases q4 : (rnB r) with
        | true =>
          have HV : Hid (Z = true) := (by unfold Hid; rw [HM.out]; first | (rw [q1, q2, q3, q4]; done) | (rw [q1, q2, q3, q4]; rfl))
          clear HM
          refine wp_region_plain (x0 := Later.start W0) ?_
          iterate 14 (go_big_quiet_step (fail))
          (first | (go_big_quiet_want; refine quiet_load_agg 52 _ (by rfl) (w.heap.size) 0 (by rfl) (rwc r) _ r0.out.lt (lrow_cells r0.out) Tryz.underlying52 (by rfl) (info_rw _) ?_; simp only [Act.put, List.setIfInBounds_toArray, List.set_cons_succ, List.set_cons_zero]; go_big_quiet_on) | (go_big_quiet_step (fail)))
          (go_big_quiet_step ((go_at_call 156; exact calls_later (HRN.out _))))
          iterate 2 (go_big_quiet_step (fail))
          refine wpQuiet_nil ?_
          rintro _ ⟨yq, rfl⟩
          go_wp2
          go_ret
          exact ⟨by rw [HV.out]; first | done | rfl, BB.out.trans (yq.2.mono BB.out.size)⟩
        | false =>
          have HV : Hid (Z = false) := (by unfold Hid; rw [HM.out]; first | (rw [q1, q2, q3, q4]; done) | (rw [q1, q2, q3, q4]; rfl))
          clear HM
          refine wp_region_plain (x0 := Later.start W0) ?_
          iterate 14 (go_big_quiet_step (fail))
          (first | (go_big_quiet_want; refine quiet_load_agg 52 _ (by rfl) (w.heap.size) 0 (by rfl) (rwc r) _ r0.out.lt (lrow_cells r0.out) Tryz.underlying52 (by rfl) (info_rw _) ?_; simp only [Act.put, List.setIfInBounds_toArray, List.set_cons_succ, List.set_cons_zero]; go_big_quiet_on) | (go_big_quiet_step (fail)))
          (go_big_quiet_step ((go_at_call 156; exact calls_later (HRN.out _))))
          iterate 2 (go_big_quiet_step (fail))
          refine wpQuiet_nil ?_
          rintro _ ⟨yq, rfl⟩
          go_wp2
          go_ret
          exact ⟨by rw [HV.out]; first | done | rfl, BB.out.trans (yq.2.mono BB.out.size)⟩
      | false =>
        have HV : Hid (Z = false) := (by unfold Hid; rw [HM.out]; first | (rw [q1, q2, q3]; done) | (rw [q1, q2, q3]; rfl))
        clear HM
        refine wp_region_plain (x0 := Later.start W0) ?_
        iterate 14 (go_big_quiet_step (fail))
        (first | (go_big_quiet_want; refine quiet_load_agg 52 _ (by rfl) (w.heap.size) 0 (by rfl) (rwc r) _ r0.out.lt (lrow_cells r0.out) Tryz.underlying52 (by rfl) (info_rw _) ?_; simp only [Act.put, List.setIfInBounds_toArray, List.set_cons_succ, List.set_cons_zero]; go_big_quiet_on) | (go_big_quiet_step (fail)))
        (go_big_quiet_step ((go_at_call 156; exact calls_later (HRN.out _))))
        iterate 2 (go_big_quiet_step (fail))
        refine wpQuiet_nil ?_
        rintro _ ⟨yq, rfl⟩
        go_wp2
        go_ret
        exact ⟨by rw [HV.out]; first | done | rfl, BB.out.trans (yq.2.mono BB.out.size)⟩
    | false =>
      have HV : Hid (Z = false) := (by unfold Hid; rw [HM.out]; first | (rw [q1, q2]; done) | (rw [q1, q2]; rfl))
      clear HM
      refine wp_region_plain (x0 := Later.start W0) ?_
      iterate 14 (go_big_quiet_step (fail))
      (first | (go_big_quiet_want; refine quiet_load_agg 52 _ (by rfl) (w.heap.size) 0 (by rfl) (rwc r) _ r0.out.lt (lrow_cells r0.out) Tryz.underlying52 (by rfl) (info_rw _) ?_; simp only [Act.put, List.setIfInBounds_toArray, List.set_cons_succ, List.set_cons_zero]; go_big_quiet_on) | (go_big_quiet_step (fail)))
      (go_big_quiet_step ((go_at_call 156; exact calls_later (HRN.out _))))
      iterate 2 (go_big_quiet_step (fail))
      refine wpQuiet_nil ?_
      rintro _ ⟨yq, rfl⟩
      go_wp2
      go_ret
      exact ⟨by rw [HV.out]; first | done | rfl, BB.out.trans (yq.2.mono BB.out.size)⟩
  | false =>
    have HV : Hid (Z = false) := (by unfold Hid; rw [HM.out]; first | (rw [q1]; done) | (rw [q1]; rfl))
    clear HM
    refine wp_region_plain (x0 := Later.start W0) ?_
    iterate 14 (go_big_quiet_step (fail))
    (first | (go_big_quiet_want; refine quiet_load_agg 52 _ (by rfl) (w.heap.size) 0 (by rfl) (rwc r) _ r0.out.lt (lrow_cells r0.out) Tryz.underlying52 (by rfl) (info_rw _) ?_; simp only [Act.put, List.setIfInBounds_toArray, List.set_cons_succ, List.set_cons_zero]; go_big_quiet_on) | (go_big_quiet_step (fail)))
    (go_big_quiet_step ((go_at_call 156; exact calls_later (HRN.out _))))
    iterate 2 (go_big_quiet_step (fail))
    refine wpQuiet_nil ?_
    rintro _ ⟨yq, rfl⟩
    go_wp2
    go_ret
    exact ⟨by rw [HV.out]; first | done | rfl, BB.out.trans (yq.2.mono BB.out.size)⟩
end Go.Proofs.YtidfndgedopghaaGreatDoor
