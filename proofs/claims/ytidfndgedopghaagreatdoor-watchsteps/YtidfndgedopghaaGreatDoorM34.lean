/-
  Om.
-/
import Derived.Test.YtidfndgedopghaaGreatDoorM33
namespace Go.Proofs.YtidfndgedopghaaGreatDoor
set_option linter.unusedVariables false
set_option maxRecDepth 100000
set_option maxHeartbeats 4000000
open Go.ChangeShapes Go.WideShapes Go.ChangeAt Go.RowKit Go.Deep
def r18B (b a : Cp) (r : Rw) : Bool := (((a.md == b.md) || ((b.md == 0) && (tpB r))) || (((b.md == 3) && (r.kd == 1)) && (r.raw == 807403635)))
theorem r18_c (b : Cp) (B : St) (br bi bo : Value) (a : Cp) (A : St) (ar ai ao : Value) (K : Cp) (tk ex so : Bool) (vi : Value) (r : Rw) (w : World) : Calls Tryz.prog 118 #[.agg (ssc b B br bi bo a A ar ai ao K tk ex so vi r)] w fun e w' => e = .returned (.bool (r18B b a r)) ∧ Below w.heap.size w w' := by
  obtain ⟨W0, hW0, r0, b0, s0⟩ := start1 w (ssc b B br bi bo a A ar ai ao K tk ex so vi r) 79
  have BB := Hid.mkU b0.out
  clear s0 b0
  have HM : Hid ((r18B b a r) = (((a.md == b.md) || ((b.md == 0) && (tpB r))) || (((b.md == 3) && (r.kd == 1)) && (r.raw == 807403635)))) := rfl
  have c0_b_md : ∀ x : Later W0, x.1.cell? ⟨w.heap.size, 33, none⟩ = some (.int .i64 b.md) := fun x => ((lrow r0.out x).cell 33).trans (ssc_bc _ _ _ _ _ _ _ _ _ _ _ _ _ _ _ _ 33 _ (cpc_at _ 33 (by omega)))
  have c0_a_md : ∀ x : Later W0, x.1.cell? ⟨w.heap.size, 130, none⟩ = some (.int .i64 a.md) := fun x => ((lrow r0.out x).cell 130).trans (ssc_ac _ _ _ _ _ _ _ _ _ _ _ _ _ _ _ _ 33 _ (cpc_at _ 33 (by omega)))
  have c0_r_kd : ∀ x : Later W0, x.1.cell? ⟨w.heap.size, 281, none⟩ = some (.int .i64 r.kd) := fun x => ((lrow r0.out x).cell 281).trans (ssc_r _ _ _ _ _ _ _ _ _ _ _ _ _ _ _ _ 1 _ rfl)
  have c0_r_raw : ∀ x : Later W0, x.1.cell? ⟨w.heap.size, 284, none⟩ = some (.int .u32 r.raw) := fun x => ((lrow r0.out x).cell 284).trans (ssc_r _ _ _ _ _ _ _ _ _ _ _ _ _ _ _ _ 4 _ rfl)
  have HTP : Hid (∀ W, Calls Tryz.prog 149 #[.agg (ssc b B br bi bo a A ar ai ao K tk ex so vi r)] W fun e w' => e = .returned (.bool (tpB r)) ∧ Below W.heap.size W w') := sTr_c b B br bi bo a A ar ai ao K tk ex so vi r
  generalize hZ : (r18B b a r) = Z at HM ⊢
  clear hZ
  generalize tpB r = z2 at *
  have e_b_md : W0.cell? ⟨w.heap.size, 33, none⟩ = some (.int .i64 b.md) := c0_b_md (Later.start W0)
  have e_a_md : W0.cell? ⟨w.heap.size, 130, none⟩ = some (.int .i64 a.md) := c0_a_md (Later.start W0)
  go_enter Tryz.func118, Tryz.ntmps118
  go_upto_region 3 with fail
  clear hW0
  have hne := later_nonempty W0
  cases q1 : (a.md == b.md)
  focus
    cases q2 : (b.md == 0)
    focus
      cases q6 : (b.md == 3)
      focus
        have HV : Hid (Z = false) := (by unfold Hid; rw [HM.out]; first | (rw [q1, q2, q6]; done) | (rw [q1, q2, q6]; rfl))
      rotate_left 1
      focus
        cases q7 : (r.kd == 1)
        focus
          have HV : Hid (Z = false) := (by unfold Hid; rw [HM.out]; first | (rw [q1, q2, q6, q7]; done) | (rw [q1, q2, q6, q7]; rfl))
        rotate_left 1
        focus
          cases q8 : (r.raw == 807403635)
          focus
            have HV : Hid (Z = false) := (by unfold Hid; rw [HM.out]; first | (rw [q1, q2, q6, q7, q8]; done) | (rw [q1, q2, q6, q7, q8]; rfl))
          rotate_left 1
          focus
            have HV : Hid (Z = true) := (by unfold Hid; rw [HM.out]; first | (rw [q1, q2, q6, q7, q8]; done) | (rw [q1, q2, q6, q7, q8]; rfl))
          rotate_left 1
        rotate_left 2
      rotate_left 3
    rotate_left 4
    focus
      cases z2
      focus
        cases q3 : (b.md == 3)
        focus
          have HV : Hid (Z = false) := (by unfold Hid; rw [HM.out]; first | (rw [q1, q2, q3]; done) | (rw [q1, q2, q3]; rfl))
        rotate_left 1
        focus
          cases q4 : (r.kd == 1)
          focus
            have HV : Hid (Z = false) := (by unfold Hid; rw [HM.out]; first | (rw [q1, q2, q3, q4]; done) | (rw [q1, q2, q3, q4]; rfl))
          rotate_left 1
          focus
            cases q5 : (r.raw == 807403635)
            focus
              have HV : Hid (Z = false) := (by unfold Hid; rw [HM.out]; first | (rw [q1, q2, q3, q4, q5]; done) | (rw [q1, q2, q3, q4, q5]; rfl))
            rotate_left 1
            focus
              have HV : Hid (Z = true) := (by unfold Hid; rw [HM.out]; first | (rw [q1, q2, q3, q4, q5]; done) | (rw [q1, q2, q3, q4, q5]; rfl))
            rotate_left 1
          rotate_left 2
        rotate_left 3
      rotate_left 4
      focus
        have HV : Hid (Z = true) := (by unfold Hid; rw [HM.out]; first | (rw [q1, q2]; done) | (rw [q1, q2]; rfl))
      rotate_left 1
    rotate_left 5
  rotate_left 9
  focus
    have HV : Hid (Z = true) := (by unfold Hid; rw [HM.out]; first | (rw [q1]; done) | (rw [q1]; rfl))
  rotate_left 1
  all_goals
    clear HM
    refine wp_region_plain (x0 := Later.start W0) ?_
    iterate 7 (go_big_quiet_step (fail))
    (first | (go_big_quiet_want; refine quiet_load_agg 79 _ (by rfl) (w.heap.size) 0 (by rfl) (ssc b B br bi bo a A ar ai ao K tk ex so vi r) _ r0.out.lt (lrow_cells r0.out) Tryz.underlying79 (by rfl) (info_ss ..) ?_; simp only [Act.put, List.setIfInBounds_toArray, List.set_cons_succ, List.set_cons_zero]; go_big_quiet_on) | (go_big_quiet_step (fail)))
    (go_big_quiet_step ((go_at_call 149; exact calls_later (HTP.out _))))
    iterate 2 (go_big_quiet_step (fail))
    refine wpQuiet_nil ?_
    rintro _ ⟨yq, rfl⟩
    have d_r_kd := c0_r_kd yq; have d_r_raw := c0_r_raw yq; go_wp2
    go_ret
    exact ⟨by rw [HV.out]; first | done | rfl, BB.out.trans (yq.2.mono BB.out.size)⟩
def r12B (b a : Cp) (r : Rw) : Bool := ((((wcB r) || (r.kd == 5)) || ((bits .and .u64 (n64 (b.s 4)) 1 == 0) && (n64 (a.s 10) == n64 (b.s 10 + 1#64)))) || ((!(bits .and .u64 (n64 (b.s 4)) 1 == 0)) && (n64 (a.s 10) == n64 (b.s 10))))
theorem r12_c (b : Cp) (B : St) (br bi bo : Value) (a : Cp) (A : St) (ar ai ao : Value) (K : Cp) (tk ex so : Bool) (vi : Value) (r : Rw) (w : World) : Calls Tryz.prog 113 #[.agg (ssc b B br bi bo a A ar ai ao K tk ex so vi r)] w fun e w' => e = .returned (.bool (r12B b a r)) ∧ Below w.heap.size w w' := by
  have hadd : IntKind.u64.wrap (n64 (b.s 10) + 1) = n64 (b.s 10 + 1#64) := n64_add _ 1#64
  obtain ⟨W0, hW0, r0, b0, s0⟩ := start1 w (ssc b B br bi bo a A ar ai ao K tk ex so vi r) 79
  have BB := Hid.mkU b0.out
  clear s0 b0
  have HM : Hid ((r12B b a r) = ((((wcB r) || (r.kd == 5)) || ((bits .and .u64 (n64 (b.s 4)) 1 == 0) && (n64 (a.s 10) == n64 (b.s 10 + 1#64)))) || ((!(bits .and .u64 (n64 (b.s 4)) 1 == 0)) && (n64 (a.s 10) == n64 (b.s 10))))) := rfl
  have c0_r_kd : ∀ x : Later W0, x.1.cell? ⟨w.heap.size, 281, none⟩ = some (.int .i64 r.kd) := fun x => ((lrow r0.out x).cell 281).trans (ssc_r _ _ _ _ _ _ _ _ _ _ _ _ _ _ _ _ 1 _ rfl)
  have c0_b_s4 : ∀ x : Later W0, x.1.cell? ⟨w.heap.size, 39, none⟩ = some (.int .u64 (n64 (b.s 4))) := fun x => ((lrow r0.out x).cell 39).trans (ssc_bc _ _ _ _ _ _ _ _ _ _ _ _ _ _ _ _ 39 _ (cpc_at _ 39 (by omega)))
  have c0_b_s10 : ∀ x : Later W0, x.1.cell? ⟨w.heap.size, 45, none⟩ = some (.int .u64 (n64 (b.s 10))) := fun x => ((lrow r0.out x).cell 45).trans (ssc_bc _ _ _ _ _ _ _ _ _ _ _ _ _ _ _ _ 45 _ (cpc_at _ 45 (by omega)))
  have c0_a_s10 : ∀ x : Later W0, x.1.cell? ⟨w.heap.size, 142, none⟩ = some (.int .u64 (n64 (a.s 10))) := fun x => ((lrow r0.out x).cell 142).trans (ssc_ac _ _ _ _ _ _ _ _ _ _ _ _ _ _ _ _ 45 _ (cpc_at _ 45 (by omega)))
  have HSY : Hid (∀ W, Calls Tryz.prog 152 #[.agg (ssc b B br bi bo a A ar ai ao K tk ex so vi r)] W fun e w' => e = .returned (.bool (wcB r)) ∧ Below W.heap.size W w') := sSy_c b B br bi bo a A ar ai ao K tk ex so vi r
  generalize hZ : (r12B b a r) = Z at HM ⊢
  clear hZ
  generalize wcB r = z0 at *
  go_enter Tryz.func113, Tryz.ntmps113
  go_upto_region 1 with fail
  clear hW0
  have hne := later_nonempty W0
  cases z0
  focus
    cases q1 : (r.kd == 5)
    focus
      cases q2 : (bits .and .u64 (n64 (b.s 4)) 1 == 0)
      focus
        cases q4 : (n64 (a.s 10) == n64 (b.s 10))
        focus
          have HV : Hid (Z = false) := (by unfold Hid; rw [HM.out]; first | (rw [q1, q2, q4]; done) | (rw [q1, q2, q4]; rfl))
        rotate_left 1
        focus
          have HV : Hid (Z = true) := (by unfold Hid; rw [HM.out]; first | (rw [q1, q2, q4]; done) | (rw [q1, q2, q4]; rfl))
        rotate_left 1
      rotate_left 2
      focus
        cases q3 : (n64 (a.s 10) == n64 (b.s 10 + 1#64))
        focus
          have HV : Hid (Z = false) := (by unfold Hid; rw [HM.out]; first | (rw [q1, q2, q3]; done) | (rw [q1, q2, q3]; rfl))
        rotate_left 1
        focus
          have HV : Hid (Z = true) := (by unfold Hid; rw [HM.out]; first | (rw [q1, q2, q3]; done) | (rw [q1, q2, q3]; rfl))
        rotate_left 1
      rotate_left 2
    rotate_left 4
    focus
      have HV : Hid (Z = true) := (by unfold Hid; rw [HM.out]; first | (rw [q1]; done) | (rw [q1]; rfl))
    rotate_left 1
  rotate_left 5
  focus
    have HV : Hid (Z = true) := (by unfold Hid; first | (rw [HM.out]; done) | (rw [HM.out]; rfl))
  rotate_left 1
  all_goals
    clear HM
    refine wp_region_plain (x0 := Later.start W0) ?_
    (first | (go_big_quiet_want; refine quiet_load_agg 79 _ (by rfl) (w.heap.size) 0 (by rfl) (ssc b B br bi bo a A ar ai ao K tk ex so vi r) _ r0.out.lt (lrow_cells r0.out) Tryz.underlying79 (by rfl) (info_ss ..) ?_; simp only [Act.put, List.setIfInBounds_toArray, List.set_cons_succ, List.set_cons_zero]; go_big_quiet_on) | (go_big_quiet_step (fail)))
    (go_big_quiet_step ((go_at_call 152; exact calls_later (HSY.out _))))
    iterate 6 (go_big_quiet_step (fail))
    refine wpQuiet_nil ?_
    rintro _ ⟨yq, rfl⟩
    have d_b_s4 := c0_b_s4 yq; have d_b_s10 := c0_b_s10 yq; have d_a_s10 := c0_a_s10 yq; go_wp2
    go_ret
    exact ⟨by rw [HV.out]; first | done | rfl, BB.out.trans (yq.2.mono BB.out.size)⟩
def r13B (b a : Cp) (r : Rw) : Bool := (((wcB r) || (((r.kd == 1) && (bits .and .u64 (n64 (b.s 4)) 4 == 0)) && (n64 (a.s 11) == n64 (b.s 11 + 1#64)))) || ((!((r.kd == 1) && (bits .and .u64 (n64 (b.s 4)) 4 == 0))) && (n64 (a.s 11) == n64 (b.s 11))))
theorem r13_c (b : Cp) (B : St) (br bi bo : Value) (a : Cp) (A : St) (ar ai ao : Value) (K : Cp) (tk ex so : Bool) (vi : Value) (r : Rw) (w : World) : Calls Tryz.prog 114 #[.agg (ssc b B br bi bo a A ar ai ao K tk ex so vi r)] w fun e w' => e = .returned (.bool (r13B b a r)) ∧ Below w.heap.size w w' := by
  have hadd : IntKind.u64.wrap (n64 (b.s 11) + 1) = n64 (b.s 11 + 1#64) := n64_add _ 1#64
  obtain ⟨W0, hW0, r0, b0, s0⟩ := start1 w (ssc b B br bi bo a A ar ai ao K tk ex so vi r) 79
  have BB := Hid.mkU b0.out
  clear s0 b0
  have HM : Hid ((r13B b a r) = (((wcB r) || (((r.kd == 1) && (bits .and .u64 (n64 (b.s 4)) 4 == 0)) && (n64 (a.s 11) == n64 (b.s 11 + 1#64)))) || ((!((r.kd == 1) && (bits .and .u64 (n64 (b.s 4)) 4 == 0))) && (n64 (a.s 11) == n64 (b.s 11))))) := rfl
  have c0_r_kd : ∀ x : Later W0, x.1.cell? ⟨w.heap.size, 281, none⟩ = some (.int .i64 r.kd) := fun x => ((lrow r0.out x).cell 281).trans (ssc_r _ _ _ _ _ _ _ _ _ _ _ _ _ _ _ _ 1 _ rfl)
  have c0_b_s4 : ∀ x : Later W0, x.1.cell? ⟨w.heap.size, 39, none⟩ = some (.int .u64 (n64 (b.s 4))) := fun x => ((lrow r0.out x).cell 39).trans (ssc_bc _ _ _ _ _ _ _ _ _ _ _ _ _ _ _ _ 39 _ (cpc_at _ 39 (by omega)))
  have c0_b_s11 : ∀ x : Later W0, x.1.cell? ⟨w.heap.size, 46, none⟩ = some (.int .u64 (n64 (b.s 11))) := fun x => ((lrow r0.out x).cell 46).trans (ssc_bc _ _ _ _ _ _ _ _ _ _ _ _ _ _ _ _ 46 _ (cpc_at _ 46 (by omega)))
  have c0_a_s11 : ∀ x : Later W0, x.1.cell? ⟨w.heap.size, 143, none⟩ = some (.int .u64 (n64 (a.s 11))) := fun x => ((lrow r0.out x).cell 143).trans (ssc_ac _ _ _ _ _ _ _ _ _ _ _ _ _ _ _ _ 46 _ (cpc_at _ 46 (by omega)))
  have HSY : Hid (∀ W, Calls Tryz.prog 152 #[.agg (ssc b B br bi bo a A ar ai ao K tk ex so vi r)] W fun e w' => e = .returned (.bool (wcB r)) ∧ Below W.heap.size W w') := sSy_c b B br bi bo a A ar ai ao K tk ex so vi r
  generalize hZ : (r13B b a r) = Z at HM ⊢
  clear hZ
  generalize wcB r = z0 at *
  go_enter Tryz.func114, Tryz.ntmps114
  go_upto_region 1 with fail
  clear hW0
  have hne := later_nonempty W0
  cases z0
  focus
    cases q1 : (r.kd == 1)
    focus
      cases q5 : (n64 (a.s 11) == n64 (b.s 11))
      focus
        have HV : Hid (Z = false) := (by unfold Hid; rw [HM.out]; first | (rw [q1, q5]; done) | (rw [q1, q5]; rfl))
      rotate_left 1
      focus
        have HV : Hid (Z = true) := (by unfold Hid; rw [HM.out]; first | (rw [q1, q5]; done) | (rw [q1, q5]; rfl))
      rotate_left 1
    rotate_left 2
    focus
      cases q2 : (bits .and .u64 (n64 (b.s 4)) 4 == 0)
      focus
        cases q4 : (n64 (a.s 11) == n64 (b.s 11))
        focus
          have HV : Hid (Z = false) := (by unfold Hid; rw [HM.out]; first | (rw [q1, q2, q4]; done) | (rw [q1, q2, q4]; rfl))
        rotate_left 1
        focus
          have HV : Hid (Z = true) := (by unfold Hid; rw [HM.out]; first | (rw [q1, q2, q4]; done) | (rw [q1, q2, q4]; rfl))
        rotate_left 1
      rotate_left 2
      focus
        cases q3 : (n64 (a.s 11) == n64 (b.s 11 + 1#64))
        focus
          have HV : Hid (Z = false) := (by unfold Hid; rw [HM.out]; first | (rw [q1, q2, q3]; done) | (rw [q1, q2, q3]; rfl))
        rotate_left 1
        focus
          have HV : Hid (Z = true) := (by unfold Hid; rw [HM.out]; first | (rw [q1, q2, q3]; done) | (rw [q1, q2, q3]; rfl))
        rotate_left 1
      rotate_left 2
    rotate_left 4
  rotate_left 6
  focus
    have HV : Hid (Z = true) := (by unfold Hid; first | (rw [HM.out]; done) | (rw [HM.out]; rfl))
  rotate_left 1
  all_goals
    clear HM
    refine wp_region_plain (x0 := Later.start W0) ?_
    (first | (go_big_quiet_want; refine quiet_load_agg 79 _ (by rfl) (w.heap.size) 0 (by rfl) (ssc b B br bi bo a A ar ai ao K tk ex so vi r) _ r0.out.lt (lrow_cells r0.out) Tryz.underlying79 (by rfl) (info_ss ..) ?_; simp only [Act.put, List.setIfInBounds_toArray, List.set_cons_succ, List.set_cons_zero]; go_big_quiet_on) | (go_big_quiet_step (fail)))
    (go_big_quiet_step ((go_at_call 152; exact calls_later (HSY.out _))))
    refine wpQuiet_nil ?_
    rintro _ ⟨yq, rfl⟩
    have d_r_kd := c0_r_kd yq; have d_b_s4 := c0_b_s4 yq; have d_b_s11 := c0_b_s11 yq; have d_a_s11 := c0_a_s11 yq; go_wp2
    go_ret
    exact ⟨by rw [HV.out]; first | done | rfl, BB.out.trans (yq.2.mono BB.out.size)⟩
def soB (r : Rw) (f : BitVec 64) (n : Nat) : Bool := !(bits .and .i64 r.mem 2 == 0) && (List.range n).any fun k => inB r (f + BitVec.ofNat 64 k)
theorem soB_no (r : Rw) (f : BitVec 64) (n : Nat) (h : (bits .and .i64 r.mem 2 == 0) = true) : soB r f n = false := by unfold soB; rw [h]; rfl
theorem soB_yes (r : Rw) (f : BitVec 64) (n : Nat) (h : (bits .and .i64 r.mem 2 == 0) = false) : soB r f n = (List.range n).any fun k => inB r (f + BitVec.ofNat 64 k) := by unfold soB; rw [h]; rfl
set_option maxHeartbeats 8000000 in
theorem sSt_c (b : Cp) (B : St) (br bi bo : Value) (a : Cp) (A : St) (ar ai ao : Value) (K : Cp) (tk ex so : Bool) (vi : Value) (r : Rw) (f : BitVec 64) (n : Nat) (hn : n ≤ 8) (w : World) : Calls Tryz.prog 153 #[.agg (ssc b B br bi bo a A ar ai ao K tk ex so vi r), .int .u64 (n64 f), .int .i64 n] w fun e w' => e = .returned (.bool (soB r f n)) ∧ Below w.heap.size w w' := by
  obtain ⟨W0, hW0, r0, b0, s0⟩ := start1 w (ssc b B br bi bo a A ar ai ao K tk ex so vi r) 79
  have c0 : W0.cell? ⟨w.heap.size, 290, none⟩ = some (.int .i64 r.mem) := (r0.out.cell 290).trans (ssc_r _ _ _ _ _ _ _ _ _ _ _ _ _ _ _ _ 10 _ rfl)
  have HIN : Hid (∀ t W, Calls Tryz.prog 147 #[.agg (ssc b B br bi bo a A ar ai ao K tk ex so vi r), .int .u64 (n64 t)] W fun e w' => e = .returned (.bool (inB r t)) ∧ Below W.heap.size W w') := fun t W => sIn_c b B br bi bo a A ar ai ao K tk ex so vi r t W
  have HON : Hid (info_ss b B br bi bo a A ar ai ao K tk ex so vi r = info_ss b B br bi bo a A ar ai ao K tk ex so vi r) := rfl
  have HR := Hid.mkU r0.out
  have HB := Hid.mkU b0.out
  clear r0 b0 s0 HON
  cases q : (bits .and .i64 r.mem 2 == 0) with
  | true =>
    have HV := Hid.mkU (soB_no r f n q)
    generalize soB r f n = Z at *
    go_enter Tryz.func153, Tryz.ntmps153
    go_upto_region 1 with fail
    clear hW0
    go_wp2
    go_ret
    exact ⟨by rw [HV.out]; first | done | rfl, HB.out⟩
  | false =>
    have HM := Hid.mkU (soB_yes r f n q)
    generalize soB r f n = Z at *
    go_enter Tryz.func153, Tryz.ntmps153
    go_upto_region 1 with fail
    clear hW0
    go_wp2
    go_loopw [7] (fun i wr => ∃ k : Nat, k ≤ n ∧ i = .int .i64 k ∧ Hid (∀ j, j < k → inB r (f + BitVec.ofNat 64 j) = false) ∧ Hid (Row wr w.heap.size (ssc b B br bi bo a A ar ai ao K tk ex so vi r) 79) ∧ Hid (Below w.heap.size w wr)) (fun i _ => n - (intOf i).toNat)
    case atStart => exact ⟨0, Nat.zero_le _, rfl, fun j hj => absurd hj (Nat.not_lt_zero _), HR, HB⟩
    case round =>
      clear HR HB c0 q
      obtain ⟨k, hk, rfl, hf, h0, hb⟩ := hrel
      by_cases hlt : k < n
      · have hlt2 : (k : Int) < (n : Int) := by omega
        have had := n64_addN f k (by omega)
        have hcw : IntKind.u64.wrap (k : Int) = (k : Int) := by show (k : Int) % 18446744073709551616 = _; omega
        have HH := Hid.mkU (HIN.out (f + BitVec.ofNat 64 k))
        cases hq : inB r (f + BitVec.ofNat 64 k) with
        | true =>
          have HV : Hid (Z = true) := HM.out.trans (any_hit hlt hq)
          rw [hq] at HH
          clear hf hq HM HIN
          generalize n64 (f + BitVec.ofNat 64 k) = y at *
          go_wp2_with (first | (refine wpList_load_row (by rfl) _ _ (by rfl) _ (by rfl) 79 _ (0, 0) _ h0.out Tryz.underlying79 (by rfl) (info_ss ..) ?_) | (go_at_call 147; refine (HH.out _).mono ?_; rintro e w1 ⟨rfl, hb1⟩; have HB1 : Hid (Below w.heap.size w w1) := hb.out.trans (hb1.mono hb.out.size); clear hb1))
          go_ret
          exact ⟨by rw [HV.out]; first | done | rfl, HB1.out⟩
        | false =>
          have HF : Hid (∀ j, j < k + 1 → inB r (f + BitVec.ofNat 64 j) = false) := fun j hj => by
            by_cases e : j = k
            · rw [e]; exact hq
            · exact hf.out j (by omega)
          rw [hq] at HH
          clear hf hq HIN
          generalize n64 (f + BitVec.ofNat 64 k) = y at *
          go_wp2_with (first | (refine wpList_load_row (by rfl) _ _ (by rfl) _ (by rfl) 79 _ (0, 0) _ h0.out Tryz.underlying79 (by rfl) (info_ss ..) ?_) | (go_at_call 147; refine (HH.out _).mono ?_; rintro e w1 ⟨rfl, hb1⟩; have HB1 : Hid (Below wr.heap.size wr w1) := hb1; clear hb1))
          go_roundw
          case rel => exact ⟨k + 1, by omega, by first | rfl | go_num | (congr 1), HF, h0.out.later HB1.out h0.out.lt, hb.out.trans (HB1.out.mono hb.out.size)⟩
          case measure => simp [intOf]; omega
      · obtain rfl : k = n := by omega
        have HV : Hid (Z = false) := HM.out.trans (any_none hf.out)
        clear hf HM HIN
        go_wp2
        go_ret
        exact ⟨by rw [HV.out]; first | done | rfl, hb.out⟩
theorem n64_33603576 : n64 33603576#64 = 33603576 := by decide
theorem sSt_33603576 (b : Cp) (B : St) (br bi bo : Value) (a : Cp) (A : St) (ar ai ao : Value) (K : Cp) (tk ex so : Bool) (vi : Value) (r : Rw) (w : World) : Calls Tryz.prog 153 #[.agg (ssc b B br bi bo a A ar ai ao K tk ex so vi r), .int .u64 33603576, .int .i64 8] w fun e w' => e = .returned (.bool (soB r 33603576#64 8)) ∧ Below w.heap.size w w' := by
  have h := sSt_c b B br bi bo a A ar ai ao K tk ex so vi r 33603576#64 8 (by decide) w
  rw [n64_33603576] at h
  exact h
theorem n64_33570816 : n64 33570816#64 = 33570816 := by decide
theorem sSt_33570816 (b : Cp) (B : St) (br bi bo : Value) (a : Cp) (A : St) (ar ai ao : Value) (K : Cp) (tk ex so : Bool) (vi : Value) (r : Rw) (w : World) : Calls Tryz.prog 153 #[.agg (ssc b B br bi bo a A ar ai ao K tk ex so vi r), .int .u64 33570816, .int .i64 8] w fun e w' => e = .returned (.bool (soB r 33570816#64 8)) ∧ Below w.heap.size w w' := by
  have h := sSt_c b B br bi bo a A ar ai ao K tk ex so vi r 33570816#64 8 (by decide) w
  rw [n64_33570816] at h
  exact h
theorem n64_33554432 : n64 33554432#64 = 33554432 := by decide
theorem sSt_33554432 (b : Cp) (B : St) (br bi bo : Value) (a : Cp) (A : St) (ar ai ao : Value) (K : Cp) (tk ex so : Bool) (vi : Value) (r : Rw) (w : World) : Calls Tryz.prog 153 #[.agg (ssc b B br bi bo a A ar ai ao K tk ex so vi r), .int .u64 33554432, .int .i64 4] w fun e w' => e = .returned (.bool (soB r 33554432#64 4)) ∧ Below w.heap.size w w' := by
  have h := sSt_c b B br bi bo a A ar ai ao K tk ex so vi r 33554432#64 4 (by decide) w
  rw [n64_33554432] at h
  exact h
def r14B (B A : St) (r : Rw) (tk : Bool) : Bool := ((((r.kd == 5) || (soB r 33603576#64 8)) || ((tk) && (A.time == IntKind.u64.wrap (B.time + 1)))) || ((!(tk)) && (A.time == B.time)))
theorem r18_eq (b a : Cp) (r : Rw) (hb : b.md = 0 ∨ b.md = 3) (ha : a.md = 0 ∨ a.md = 3) : r18B b a r = rl18 b a r := by
  unfold r18B rl18 mtT lvB
  rcases hb with h | h <;> rcases ha with h' | h' <;> rw [h, h'] <;> cases tpB r <;> simp
theorem r12_eq (b a : Cp) (r : Rw) : r12B b a r = rl12 b a r (r.kd == 5) := by
  unfold r12B rl12 cyB oB
  cases bits .and .u64 (n64 (b.s 4)) 1 == 0 <;> cases wcB r <;> cases r.kd == 5 <;> simp
theorem r13_eq (b a : Cp) (r : Rw) : r13B b a r = rl13 b a r := by
  unfold r13B rl13 rtB oB
  cases bits .and .u64 (n64 (b.s 4)) 4 == 0 <;> cases wcB r <;> cases r.kd == 1 <;> simp
end Go.Proofs.YtidfndgedopghaaGreatDoor
