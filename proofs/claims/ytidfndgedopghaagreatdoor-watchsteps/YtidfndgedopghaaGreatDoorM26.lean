/-
  Uk Ul.
-/
import Derived.Test.YtidfndgedopghaaGreatDoorM25
import Derived.Maps.Own
import Derived.Maps.OwnSet
import Derived.Maps.Views
namespace Go.Proofs.YtidfndgedopghaaGreatDoor
set_option linter.unusedVariables false
set_option maxRecDepth 100000
set_option maxHeartbeats 4000000
open Go.ChangeShapes Go.WideShapes Go.ChangeAt Go.RowKit Go.Deep
def evB (t : BitVec 64) : Bool := ((n64 t).tmod 2 == 0)
theorem uEv_c (t : BitVec 64) (w : World) : Calls Tryz.prog 122 #[.int .u64 (n64 t)] w fun e w' => e = .returned (.bool (evB t)) ∧ w' = w := by
  have BB : Hid (Below w.heap.size w w) := Below.refl _ _
  have HM : Hid ((evB t) = ((n64 t).tmod 2 == 0)) := rfl
  generalize hZ : (evB t) = Z at HM ⊢
  clear hZ
  go_enter Tryz.func122, Tryz.ntmps122
  go_upto_region 1 with fail
  cases q1 : ((n64 t).tmod 2 == 0)
  focus
    have HV : Hid (Z = false) := (by unfold Hid; rw [HM.out]; first | (rw [q1]; done) | (rw [q1]; rfl))
  rotate_left 1
  focus
    have HV : Hid (Z = true) := (by unfold Hid; rw [HM.out]; first | (rw [q1]; done) | (rw [q1]; rfl))
  rotate_left 1
  all_goals
    clear HM
    go_wp2
    go_ret
    exact ⟨by rw [HV.out]; first | done | rfl, rfl⟩
def tcB (r : Rw) : Bool := (((r.kd == 2) && (bits .and .u64 (n64 r.ca) 9223372036854775808 == 0)) || ((!(r.kd == 2)) && ((((r.kd == 3) && (bits .and .u64 (n64 r.ca) 9223372036854775808 != 0)) && (n64 r.tv == 0)) || (((!(r.kd == 3)) && (n64 r.ca == 0)) && (n64 r.tv == 0)))))
theorem uTc_c (r : Rw) (w : World) : Calls Tryz.prog 123 #[.agg (rwc r)] w fun e w' => e = .returned (.bool (tcB r)) ∧ Below w.heap.size w w' := by
  obtain ⟨W0, hW0, r0, b0, s0⟩ := start1 w (rwc r) 52
  have BB := Hid.mkU b0.out
  clear s0 b0
  have HM : Hid ((tcB r) = (((r.kd == 2) && (bits .and .u64 (n64 r.ca) 9223372036854775808 == 0)) || ((!(r.kd == 2)) && ((((r.kd == 3) && (bits .and .u64 (n64 r.ca) 9223372036854775808 != 0)) && (n64 r.tv == 0)) || (((!(r.kd == 3)) && (n64 r.ca == 0)) && (n64 r.tv == 0)))))) := rfl
  have c0_kd : W0.cell? ⟨w.heap.size, 1, none⟩ = some (.int .i64 r.kd) := r0.out.cell 1
  have c0_ca : W0.cell? ⟨w.heap.size, 6, none⟩ = some (.int .u64 (n64 r.ca)) := r0.out.cell 6
  have c0_tv : W0.cell? ⟨w.heap.size, 7, none⟩ = some (.int .u64 (n64 r.tv)) := r0.out.cell 7
  generalize hZ : (tcB r) = Z at HM ⊢
  clear hZ
  go_enter Tryz.func123, Tryz.ntmps123
  go_upto_region 1 with fail
  clear hW0
  cases q1 : (r.kd == 2)
  focus
    cases q3 : (r.kd == 3)
    focus
      cases q6 : (n64 r.ca == 0)
      focus
        have HV : Hid (Z = false) := (by unfold Hid; rw [HM.out]; first | (rw [q1, q3, q6]; done) | (rw [q1, q3, q6]; rfl))
      rotate_left 1
      focus
        cases q7 : (n64 r.tv == 0)
        focus
          have HV : Hid (Z = false) := (by unfold Hid; rw [HM.out]; first | (rw [q1, q3, q6, q7]; done) | (rw [q1, q3, q6, q7]; rfl))
        rotate_left 1
        focus
          have HV : Hid (Z = true) := (by unfold Hid; rw [HM.out]; first | (rw [q1, q3, q6, q7]; done) | (rw [q1, q3, q6, q7]; rfl))
        rotate_left 1
      rotate_left 2
    rotate_left 3
    focus
      cases q4 : (bits .and .u64 (n64 r.ca) 9223372036854775808 != 0)
      focus
        have HV : Hid (Z = false) := (by unfold Hid; rw [HM.out]; first | (rw [q1, q3, q4]; done) | (rw [q1, q3, q4]; rfl))
      rotate_left 1
      focus
        cases q5 : (n64 r.tv == 0)
        focus
          have HV : Hid (Z = false) := (by unfold Hid; rw [HM.out]; first | (rw [q1, q3, q4, q5]; done) | (rw [q1, q3, q4, q5]; rfl))
        rotate_left 1
        focus
          have HV : Hid (Z = true) := (by unfold Hid; rw [HM.out]; first | (rw [q1, q3, q4, q5]; done) | (rw [q1, q3, q4, q5]; rfl))
        rotate_left 1
      rotate_left 2
    rotate_left 3
  rotate_left 6
  focus
    cases q2 : (bits .and .u64 (n64 r.ca) 9223372036854775808 == 0)
    focus
      have HV : Hid (Z = false) := (by unfold Hid; rw [HM.out]; first | (rw [q1, q2]; done) | (rw [q1, q2]; rfl))
    rotate_left 1
    focus
      have HV : Hid (Z = true) := (by unfold Hid; rw [HM.out]; first | (rw [q1, q2]; done) | (rw [q1, q2]; rfl))
    rotate_left 1
  rotate_left 2
  all_goals
    clear HM
    go_wp2
    go_ret
    exact ⟨by rw [HV.out]; first | done | rfl, BB.out⟩
def teB (r : Rw) : Bool := ((((r.len == 2) || (r.len == 4)) && (((r.kd == 1) || (r.kd == 2)) || ((r.raw == 0) && (r.len == 0)))) || (((!(r.len == 2)) && (!(r.len == 4))) && ((!(r.kd == 1)) && (((r.kd == 2) && (r.len == 0)) || (((!(r.kd == 2)) && (r.raw == 0)) && (r.len == 0))))))
theorem uTe_c (r : Rw) (w : World) : Calls Tryz.prog 124 #[.agg (rwc r)] w fun e w' => e = .returned (.bool (teB r)) ∧ Below w.heap.size w w' := by
  obtain ⟨W0, hW0, r0, b0, s0⟩ := start1 w (rwc r) 52
  have BB := Hid.mkU b0.out
  clear s0 b0
  have HM : Hid ((teB r) = ((((r.len == 2) || (r.len == 4)) && (((r.kd == 1) || (r.kd == 2)) || ((r.raw == 0) && (r.len == 0)))) || (((!(r.len == 2)) && (!(r.len == 4))) && ((!(r.kd == 1)) && (((r.kd == 2) && (r.len == 0)) || (((!(r.kd == 2)) && (r.raw == 0)) && (r.len == 0))))))) := rfl
  have c0_kd : W0.cell? ⟨w.heap.size, 1, none⟩ = some (.int .i64 r.kd) := r0.out.cell 1
  have c0_len : W0.cell? ⟨w.heap.size, 5, none⟩ = some (.int .i64 r.len) := r0.out.cell 5
  have c0_raw : W0.cell? ⟨w.heap.size, 4, none⟩ = some (.int .u32 r.raw) := r0.out.cell 4
  generalize hZ : (teB r) = Z at HM ⊢
  clear hZ
  go_enter Tryz.func124, Tryz.ntmps124
  go_upto_region 1 with fail
  clear hW0
  cases q1 : (r.len == 2)
  focus
    cases q6 : (r.len == 4)
    focus
      cases q11 : (r.kd == 1)
      focus
        cases q12 : (r.kd == 2)
        focus
          cases q14 : (r.raw == 0)
          focus
            have HV : Hid (Z = false) := (by unfold Hid; rw [HM.out]; first | (rw [q1, q6, q11, q12, q14]; done) | (rw [q1, q6, q11, q12, q14]; rfl))
          rotate_left 1
          focus
            cases q15 : (r.len == 0)
            focus
              have HV : Hid (Z = false) := (by unfold Hid; rw [HM.out]; first | (rw [q1, q6, q11, q12, q14, q15]; done) | (rw [q1, q6, q11, q12, q14, q15]; rfl))
            rotate_left 1
            focus
              have HV : Hid (Z = true) := (by unfold Hid; rw [HM.out]; first | (rw [q1, q6, q11, q12, q14, q15]; done) | (rw [q1, q6, q11, q12, q14, q15]; rfl))
            rotate_left 1
          rotate_left 2
        rotate_left 3
        focus
          cases q13 : (r.len == 0)
          focus
            have HV : Hid (Z = false) := (by unfold Hid; rw [HM.out]; first | (rw [q1, q6, q11, q12, q13]; done) | (rw [q1, q6, q11, q12, q13]; rfl))
          rotate_left 1
          focus
            have HV : Hid (Z = true) := (by unfold Hid; rw [HM.out]; first | (rw [q1, q6, q11, q12, q13]; done) | (rw [q1, q6, q11, q12, q13]; rfl))
          rotate_left 1
        rotate_left 2
      rotate_left 5
      focus
        have HV : Hid (Z = false) := (by unfold Hid; rw [HM.out]; first | (rw [q1, q6, q11]; done) | (rw [q1, q6, q11]; rfl))
      rotate_left 1
    rotate_left 6
    focus
      cases q7 : (r.kd == 1)
      focus
        cases q8 : (r.kd == 2)
        focus
          cases q9 : (r.raw == 0)
          focus
            have HV : Hid (Z = false) := (by unfold Hid; rw [HM.out]; first | (rw [q1, q6, q7, q8, q9]; done) | (rw [q1, q6, q7, q8, q9]; rfl))
          rotate_left 1
          focus
            cases q10 : (r.len == 0)
            focus
              have HV : Hid (Z = false) := (by unfold Hid; rw [HM.out]; first | (rw [q1, q6, q7, q8, q9, q10]; done) | (rw [q1, q6, q7, q8, q9, q10]; rfl))
            rotate_left 1
            focus
              have HV : Hid (Z = true) := (by unfold Hid; rw [HM.out]; first | (rw [q1, q6, q7, q8, q9, q10]; done) | (rw [q1, q6, q7, q8, q9, q10]; rfl))
            rotate_left 1
          rotate_left 2
        rotate_left 3
        focus
          have HV : Hid (Z = true) := (by unfold Hid; rw [HM.out]; first | (rw [q1, q6, q7, q8]; done) | (rw [q1, q6, q7, q8]; rfl))
        rotate_left 1
      rotate_left 4
      focus
        have HV : Hid (Z = true) := (by unfold Hid; rw [HM.out]; first | (rw [q1, q6, q7]; done) | (rw [q1, q6, q7]; rfl))
      rotate_left 1
    rotate_left 5
  rotate_left 11
  focus
    cases q2 : (r.kd == 1)
    focus
      cases q3 : (r.kd == 2)
      focus
        cases q4 : (r.raw == 0)
        focus
          have HV : Hid (Z = false) := (by unfold Hid; rw [HM.out]; first | (rw [q1, q2, q3, q4]; done) | (rw [q1, q2, q3, q4]; rfl))
        rotate_left 1
        focus
          cases q5 : (r.len == 0)
          focus
            have HV : Hid (Z = false) := (by unfold Hid; rw [HM.out]; first | (rw [q1, q2, q3, q4, q5]; done) | (rw [q1, q2, q3, q4, q5]; rfl))
          rotate_left 1
          focus
            have HV : Hid (Z = true) := (by unfold Hid; rw [HM.out]; first | (rw [q1, q2, q3, q4, q5]; done) | (rw [q1, q2, q3, q4, q5]; rfl))
          rotate_left 1
        rotate_left 2
      rotate_left 3
      focus
        have HV : Hid (Z = true) := (by unfold Hid; rw [HM.out]; first | (rw [q1, q2, q3]; done) | (rw [q1, q2, q3]; rfl))
      rotate_left 1
    rotate_left 4
    focus
      have HV : Hid (Z = true) := (by unfold Hid; rw [HM.out]; first | (rw [q1, q2]; done) | (rw [q1, q2]; rfl))
    rotate_left 1
  rotate_left 5
  all_goals
    clear HM
    go_wp2
    go_ret
    exact ⟨by rw [HV.out]; first | done | rfl, BB.out⟩
def tdB (r : Rw) : Bool := (((!(r.kd == 1)) && (dnB r)) || (((r.kd == 1) && ((!(r.rd == 0)) || (n64 r.val == 0))) && (((r.mem == 0) && (rnB r)) || ((!(r.mem == 0)) && ((!(r.mem == 1)) || (n64 r.dat == 0))))))
theorem uTd_c (r : Rw) (w : World) : Calls Tryz.prog 125 #[.agg (rwc r)] w fun e w' => e = .returned (.bool (tdB r)) ∧ Below w.heap.size w w' := by
  obtain ⟨W0, hW0, r0, b0, s0⟩ := start1 w (rwc r) 52
  have BB := Hid.mkU b0.out
  clear s0 b0
  have HM : Hid ((tdB r) = (((!(r.kd == 1)) && (dnB r)) || (((r.kd == 1) && ((!(r.rd == 0)) || (n64 r.val == 0))) && (((r.mem == 0) && (rnB r)) || ((!(r.mem == 0)) && ((!(r.mem == 1)) || (n64 r.dat == 0))))))) := rfl
  have c0_kd : W0.cell? ⟨w.heap.size, 1, none⟩ = some (.int .i64 r.kd) := r0.out.cell 1
  have c0_rd : W0.cell? ⟨w.heap.size, 8, none⟩ = some (.int .i64 r.rd) := r0.out.cell 8
  have c0_val : W0.cell? ⟨w.heap.size, 9, none⟩ = some (.int .u64 (n64 r.val)) := r0.out.cell 9
  have c0_mem : W0.cell? ⟨w.heap.size, 10, none⟩ = some (.int .i64 r.mem) := r0.out.cell 10
  have c0_dat : W0.cell? ⟨w.heap.size, 13, none⟩ = some (.int .u64 (n64 r.dat)) := r0.out.cell 13
  have HDN : Hid (∀ W, Calls Tryz.prog 135 #[.agg (rwc r)] W fun e w' => e = .returned (.bool (dnB r)) ∧ Below W.heap.size W w') := fun W => uDn_c r W
  have HRN : Hid (∀ W, Calls Tryz.prog 156 #[.agg (rwc r)] W fun e w' => e = .returned (.bool (rnB r)) ∧ Below W.heap.size W w') := fun W => uRn_c r W
  generalize hZ : (tdB r) = Z at HM ⊢
  clear hZ
  generalize dnB r = z1 at *
  generalize rnB r = z5 at *
  go_enter Tryz.func125, Tryz.ntmps125
  go_upto_region 1 with fail
  clear hW0
  cases q1 : (r.kd == 1)
  focus
    cases z1
    focus
      have HV : Hid (Z = false) := (by unfold Hid; rw [HM.out]; first | (rw [q1]; done) | (rw [q1]; rfl))
    rotate_left 1
    focus
      have HV : Hid (Z = true) := (by unfold Hid; rw [HM.out]; first | (rw [q1]; done) | (rw [q1]; rfl))
    rotate_left 1
  rotate_left 2
  focus
    cases q2 : (r.rd == 0)
    focus
      cases q7 : (r.mem == 0)
      focus
        cases q8 : (r.mem == 1)
        focus
          have HV : Hid (Z = true) := (by unfold Hid; rw [HM.out]; first | (rw [q1, q2, q7, q8]; done) | (rw [q1, q2, q7, q8]; rfl))
        rotate_left 1
        focus
          cases q9 : (n64 r.dat == 0)
          focus
            have HV : Hid (Z = false) := (by unfold Hid; rw [HM.out]; first | (rw [q1, q2, q7, q8, q9]; done) | (rw [q1, q2, q7, q8, q9]; rfl))
          rotate_left 1
          focus
            have HV : Hid (Z = true) := (by unfold Hid; rw [HM.out]; first | (rw [q1, q2, q7, q8, q9]; done) | (rw [q1, q2, q7, q8, q9]; rfl))
          rotate_left 1
        rotate_left 2
      rotate_left 3
      focus
        cases z5
        focus
          have HV : Hid (Z = false) := (by unfold Hid; rw [HM.out]; first | (rw [q1, q2, q7]; done) | (rw [q1, q2, q7]; rfl))
        rotate_left 1
        focus
          have HV : Hid (Z = true) := (by unfold Hid; rw [HM.out]; first | (rw [q1, q2, q7]; done) | (rw [q1, q2, q7]; rfl))
        rotate_left 1
      rotate_left 2
    rotate_left 5
    focus
      cases q3 : (n64 r.val == 0)
      focus
        have HV : Hid (Z = false) := (by unfold Hid; rw [HM.out]; first | (rw [q1, q2, q3]; done) | (rw [q1, q2, q3]; rfl))
      rotate_left 1
      focus
        cases q4 : (r.mem == 0)
        focus
          cases q5 : (r.mem == 1)
          focus
            have HV : Hid (Z = true) := (by unfold Hid; rw [HM.out]; first | (rw [q1, q2, q3, q4, q5]; done) | (rw [q1, q2, q3, q4, q5]; rfl))
          rotate_left 1
          focus
            cases q6 : (n64 r.dat == 0)
            focus
              have HV : Hid (Z = false) := (by unfold Hid; rw [HM.out]; first | (rw [q1, q2, q3, q4, q5, q6]; done) | (rw [q1, q2, q3, q4, q5, q6]; rfl))
            rotate_left 1
            focus
              have HV : Hid (Z = true) := (by unfold Hid; rw [HM.out]; first | (rw [q1, q2, q3, q4, q5, q6]; done) | (rw [q1, q2, q3, q4, q5, q6]; rfl))
            rotate_left 1
          rotate_left 2
        rotate_left 3
        focus
          cases z5
          focus
            have HV : Hid (Z = false) := (by unfold Hid; rw [HM.out]; first | (rw [q1, q2, q3, q4]; done) | (rw [q1, q2, q3, q4]; rfl))
          rotate_left 1
          focus
            have HV : Hid (Z = true) := (by unfold Hid; rw [HM.out]; first | (rw [q1, q2, q3, q4]; done) | (rw [q1, q2, q3, q4]; rfl))
          rotate_left 1
        rotate_left 2
      rotate_left 5
    rotate_left 6
  rotate_left 11
  all_goals
    clear HM
    go_wp2_with (first | (refine wpList_load_row (by rfl) _ _ (by rfl) _ (by rfl) 52 _ (0, 0) _ r0.out Tryz.underlying52 (by rfl) (info_rw _) ?_) | (go_at_call 135; refine (HDN.out _).mono ?_; rintro e w1 ⟨rfl, hb1⟩; have HB1 : Hid (Below W0.heap.size W0 w1) := hb1; clear hb1) | (go_at_call 156; refine (HRN.out _).mono ?_; rintro e w1 ⟨rfl, hb1⟩; have HB1 : Hid (Below W0.heap.size W0 w1) := hb1; clear hb1))
    go_ret
    exact ⟨by rw [HV.out]; first | done | rfl, (by first | exact BB.out | exact BB.out.trans (HB1.out.mono BB.out.size))⟩
def fmB (r : Rw) : Bool := ((((((((kdB r.kd) && (mdB r.md)) && (mdB r.nm)) && (evB r.pc)) && (evB r.nx)) && (tcB r)) && (teB r)) && (tdB r))
theorem uFm_c (r : Rw) (w : World) : Calls Tryz.prog 38 #[.agg (rwc r)] w fun e w' => e = .returned (.bool (fmB r)) ∧ Below w.heap.size w w' := by
  obtain ⟨W0, hW0, r0, b0, s0⟩ := start1 w (rwc r) 52
  have BB := Hid.mkU b0.out
  clear s0 b0
  have HM : Hid ((fmB r) = ((((((((kdB r.kd) && (mdB r.md)) && (mdB r.nm)) && (evB r.pc)) && (evB r.nx)) && (tcB r)) && (teB r)) && (tdB r))) := rfl
  have c0_kd : ∀ x : Later W0, x.1.cell? ⟨w.heap.size, 1, none⟩ = some (.int .i64 r.kd) := fun x => (lrow r0.out x).cell 1
  have c0_md : ∀ x : Later W0, x.1.cell? ⟨w.heap.size, 2, none⟩ = some (.int .i64 r.md) := fun x => (lrow r0.out x).cell 2
  have c0_nm : ∀ x : Later W0, x.1.cell? ⟨w.heap.size, 15, none⟩ = some (.int .i64 r.nm) := fun x => (lrow r0.out x).cell 15
  have c0_pc : ∀ x : Later W0, x.1.cell? ⟨w.heap.size, 3, none⟩ = some (.int .u64 (n64 r.pc)) := fun x => (lrow r0.out x).cell 3
  have c0_nx : ∀ x : Later W0, x.1.cell? ⟨w.heap.size, 14, none⟩ = some (.int .u64 (n64 r.nx)) := fun x => (lrow r0.out x).cell 14
  have HKD : Hid (∀ W, Calls Tryz.prog 61 #[.int .i64 r.kd] W fun e w' => e = .returned (.bool (kdB r.kd)) ∧ w' = W) := fun W => uKind_c r.kd W
  have HM1 : Hid (∀ W, Calls Tryz.prog 121 #[.int .i64 r.md] W fun e w' => e = .returned (.bool (mdB r.md)) ∧ w' = W) := fun W => uMode_c r.md W
  have HM2 : Hid (∀ W, Calls Tryz.prog 121 #[.int .i64 r.nm] W fun e w' => e = .returned (.bool (mdB r.nm)) ∧ w' = W) := fun W => uMode_c r.nm W
  have HE1 : Hid (∀ W, Calls Tryz.prog 122 #[.int .u64 (n64 r.pc)] W fun e w' => e = .returned (.bool (evB r.pc)) ∧ w' = W) := fun W => uEv_c r.pc W
  have HE2 : Hid (∀ W, Calls Tryz.prog 122 #[.int .u64 (n64 r.nx)] W fun e w' => e = .returned (.bool (evB r.nx)) ∧ w' = W) := fun W => uEv_c r.nx W
  have HTC : Hid (∀ W, Calls Tryz.prog 123 #[.agg (rwc r)] W fun e w' => e = .returned (.bool (tcB r)) ∧ Below W.heap.size W w') := fun W => uTc_c r W
  have HTE : Hid (∀ W, Calls Tryz.prog 124 #[.agg (rwc r)] W fun e w' => e = .returned (.bool (teB r)) ∧ Below W.heap.size W w') := fun W => uTe_c r W
  have HTD : Hid (∀ W, Calls Tryz.prog 125 #[.agg (rwc r)] W fun e w' => e = .returned (.bool (tdB r)) ∧ Below W.heap.size W w') := fun W => uTd_c r W
  generalize hZ : (fmB r) = Z at HM ⊢
  clear hZ
  generalize kdB r.kd = z0 at *
  generalize mdB r.md = z1 at *
  generalize mdB r.nm = z2 at *
  generalize evB r.pc = z3 at *
  generalize evB r.nx = z4 at *
  generalize tcB r = z5 at *
  generalize teB r = z6 at *
  generalize tdB r = z7 at *
  go_enter Tryz.func38, Tryz.ntmps38
  go_upto_region 1 with fail
  clear hW0
  have hne := later_nonempty W0
  cases z0
  focus
    have HV : Hid (Z = false) := (by unfold Hid; first | (rw [HM.out]; done) | (rw [HM.out]; rfl))
  rotate_left 1
  focus
    cases z1
    focus
      have HV : Hid (Z = false) := (by unfold Hid; first | (rw [HM.out]; done) | (rw [HM.out]; rfl))
    rotate_left 1
    focus
      cases z2
      focus
        have HV : Hid (Z = false) := (by unfold Hid; first | (rw [HM.out]; done) | (rw [HM.out]; rfl))
      rotate_left 1
      focus
        cases z3
        focus
          have HV : Hid (Z = false) := (by unfold Hid; first | (rw [HM.out]; done) | (rw [HM.out]; rfl))
        rotate_left 1
        focus
          cases z4
          focus
            have HV : Hid (Z = false) := (by unfold Hid; first | (rw [HM.out]; done) | (rw [HM.out]; rfl))
          rotate_left 1
          focus
            cases z5
            focus
              have HV : Hid (Z = false) := (by unfold Hid; first | (rw [HM.out]; done) | (rw [HM.out]; rfl))
            rotate_left 1
            focus
              cases z6
              focus
                have HV : Hid (Z = false) := (by unfold Hid; first | (rw [HM.out]; done) | (rw [HM.out]; rfl))
              rotate_left 1
              focus
                cases z7
                focus
                  have HV : Hid (Z = false) := (by unfold Hid; first | (rw [HM.out]; done) | (rw [HM.out]; rfl))
                rotate_left 1
                focus
                  have HV : Hid (Z = true) := (by unfold Hid; first | (rw [HM.out]; done) | (rw [HM.out]; rfl))
                rotate_left 1
              rotate_left 2
            rotate_left 3
          rotate_left 4
        rotate_left 5
      rotate_left 6
    rotate_left 7
  rotate_left 8
  all_goals
    clear HM
    refine wp_region_plain (x0 := Later.start W0) ?_
    iterate 2 (go_big_quiet_step (fail))
    (go_big_quiet_step ((go_at_call 61; exact calls_later_same (HKD.out _))))
    iterate 3 (go_big_quiet_step (fail))
    (go_big_quiet_step ((go_at_call 121; exact calls_later_same (HM1.out _))))
    iterate 4 (go_big_quiet_step (fail))
    (go_big_quiet_step ((go_at_call 121; exact calls_later_same (HM2.out _))))
    iterate 4 (go_big_quiet_step (fail))
    (go_big_quiet_step ((go_at_call 122; exact calls_later_same (HE1.out _))))
    iterate 4 (go_big_quiet_step (fail))
    (go_big_quiet_step ((go_at_call 122; exact calls_later_same (HE2.out _))))
    iterate 2 (go_big_quiet_step (fail))
    (first | (go_big_quiet_want; refine quiet_load_agg 52 _ (by rfl) (w.heap.size) 0 (by rfl) (rwc r) _ r0.out.lt (lrow_cells r0.out) Tryz.underlying52 (by rfl) (info_rw _) ?_; simp only [Act.put, List.setIfInBounds_toArray, List.set_cons_succ, List.set_cons_zero]; go_big_quiet_on) | (go_big_quiet_step (fail)))
    (go_big_quiet_step ((go_at_call 123; exact calls_later (HTC.out _))))
    iterate 2 (go_big_quiet_step (fail))
    (first | (go_big_quiet_want; refine quiet_load_agg 52 _ (by rfl) (w.heap.size) 0 (by rfl) (rwc r) _ r0.out.lt (lrow_cells r0.out) Tryz.underlying52 (by rfl) (info_rw _) ?_; simp only [Act.put, List.setIfInBounds_toArray, List.set_cons_succ, List.set_cons_zero]; go_big_quiet_on) | (go_big_quiet_step (fail)))
    (go_big_quiet_step ((go_at_call 124; exact calls_later (HTE.out _))))
    iterate 2 (go_big_quiet_step (fail))
    (first | (go_big_quiet_want; refine quiet_load_agg 52 _ (by rfl) (w.heap.size) 0 (by rfl) (rwc r) _ r0.out.lt (lrow_cells r0.out) Tryz.underlying52 (by rfl) (info_rw _) ?_; simp only [Act.put, List.setIfInBounds_toArray, List.set_cons_succ, List.set_cons_zero]; go_big_quiet_on) | (go_big_quiet_step (fail)))
    (go_big_quiet_step ((go_at_call 125; exact calls_later (HTD.out _))))
    iterate 2 (go_big_quiet_step (fail))
    refine wpQuiet_nil ?_
    rintro _ ⟨yq, rfl⟩
    go_wp2
    go_ret
    exact ⟨by rw [HV.out]; first | done | rfl, BB.out.trans (yq.2.mono BB.out.size)⟩
def fwB (p r : Rw) : Bool := ((n64 r.pc == n64 p.nx) && (r.md == p.nm))
theorem uFw_c (p r : Rw) (w : World) : Calls Tryz.prog 36 #[.agg (rwc p), .agg (rwc r)] w fun e w' => e = .returned (.bool (fwB p r)) ∧ Below w.heap.size w w' := by
  obtain ⟨W0, hW0, r0, r1, b0, s0⟩ := start2 w (rwc p) (rwc r) 52 52
  have BB := Hid.mkU b0.out
  clear s0 b0
  have HM : Hid ((fwB p r) = ((n64 r.pc == n64 p.nx) && (r.md == p.nm))) := rfl
  have c0_nx : W0.cell? ⟨w.heap.size, 14, none⟩ = some (.int .u64 (n64 p.nx)) := r0.out.cell 14
  have c0_nm : W0.cell? ⟨w.heap.size, 15, none⟩ = some (.int .i64 p.nm) := r0.out.cell 15
  have c1_pc : W0.cell? ⟨w.heap.size + 1, 3, none⟩ = some (.int .u64 (n64 r.pc)) := r1.out.cell 3
  have c1_md : W0.cell? ⟨w.heap.size + 1, 2, none⟩ = some (.int .i64 r.md) := r1.out.cell 2
  generalize hZ : (fwB p r) = Z at HM ⊢
  clear hZ
  go_enter Tryz.func36, Tryz.ntmps36
  go_upto_region 1 with fail
  clear hW0
  cases q1 : (n64 r.pc == n64 p.nx)
  focus
    have HV : Hid (Z = false) := (by unfold Hid; rw [HM.out]; first | (rw [q1]; done) | (rw [q1]; rfl))
  rotate_left 1
  focus
    cases q2 : (r.md == p.nm)
    focus
      have HV : Hid (Z = false) := (by unfold Hid; rw [HM.out]; first | (rw [q1, q2]; done) | (rw [q1, q2]; rfl))
    rotate_left 1
    focus
      have HV : Hid (Z = true) := (by unfold Hid; rw [HM.out]; first | (rw [q1, q2]; done) | (rw [q1, q2]; rfl))
    rotate_left 1
  rotate_left 2
  all_goals
    clear HM
    go_wp2
    go_ret
    exact ⟨by rw [HV.out]; first | done | rfl, BB.out⟩
def syB (r : Rw) : Bool := ((n64 r.nx == n64 r.pc) && (r.nm == r.md))
theorem uSy_c (r : Rw) (w : World) : Calls Tryz.prog 40 #[.agg (rwc r)] w fun e w' => e = .returned (.bool (syB r)) ∧ Below w.heap.size w w' := by
  obtain ⟨W0, hW0, r0, b0, s0⟩ := start1 w (rwc r) 52
  have BB := Hid.mkU b0.out
  clear s0 b0
  have HM : Hid ((syB r) = ((n64 r.nx == n64 r.pc) && (r.nm == r.md))) := rfl
  have c0_nx : W0.cell? ⟨w.heap.size, 14, none⟩ = some (.int .u64 (n64 r.nx)) := r0.out.cell 14
  have c0_nm : W0.cell? ⟨w.heap.size, 15, none⟩ = some (.int .i64 r.nm) := r0.out.cell 15
  have c0_pc : W0.cell? ⟨w.heap.size, 3, none⟩ = some (.int .u64 (n64 r.pc)) := r0.out.cell 3
  have c0_md : W0.cell? ⟨w.heap.size, 2, none⟩ = some (.int .i64 r.md) := r0.out.cell 2
  generalize hZ : (syB r) = Z at HM ⊢
  clear hZ
  go_enter Tryz.func40, Tryz.ntmps40
  go_upto_region 1 with fail
  clear hW0
  cases q1 : (n64 r.nx == n64 r.pc)
  focus
    have HV : Hid (Z = false) := (by unfold Hid; rw [HM.out]; first | (rw [q1]; done) | (rw [q1]; rfl))
  rotate_left 1
  focus
    cases q2 : (r.nm == r.md)
    focus
      have HV : Hid (Z = false) := (by unfold Hid; rw [HM.out]; first | (rw [q1, q2]; done) | (rw [q1, q2]; rfl))
    rotate_left 1
    focus
      have HV : Hid (Z = true) := (by unfold Hid; rw [HM.out]; first | (rw [q1, q2]; done) | (rw [q1, q2]; rfl))
    rotate_left 1
  rotate_left 2
  all_goals
    clear HM
    go_wp2
    go_ret
    exact ⟨by rw [HV.out]; first | done | rfl, BB.out⟩
def tuB (r : Rw) : Bool := ((((r.kd == 4) && (syB r)) || (((!(r.kd == 4)) && ((r.kd == 2) || (r.kd == 3))) && (r.nm == 3))) || ((((!(r.kd == 4)) && (!(r.kd == 2))) && (!(r.kd == 3))) && ((!(r.kd == 1)) || ((r.kd == 1) && ((r.nm == r.md) || (lvB r r.md r.nm))))))
theorem uTu_c (r : Rw) (w : World) : Calls Tryz.prog 42 #[.agg (rwc r)] w fun e w' => e = .returned (.bool (tuB r)) ∧ Below w.heap.size w w' := by
  obtain ⟨W0, hW0, r0, b0, s0⟩ := start1 w (rwc r) 52
  have BB := Hid.mkU b0.out
  clear s0 b0
  have HM : Hid ((tuB r) = ((((r.kd == 4) && (syB r)) || (((!(r.kd == 4)) && ((r.kd == 2) || (r.kd == 3))) && (r.nm == 3))) || ((((!(r.kd == 4)) && (!(r.kd == 2))) && (!(r.kd == 3))) && ((!(r.kd == 1)) || ((r.kd == 1) && ((r.nm == r.md) || (lvB r r.md r.nm))))))) := rfl
  have c0_kd : W0.cell? ⟨w.heap.size, 1, none⟩ = some (.int .i64 r.kd) := r0.out.cell 1
  have c0_md : W0.cell? ⟨w.heap.size, 2, none⟩ = some (.int .i64 r.md) := r0.out.cell 2
  have c0_nm : W0.cell? ⟨w.heap.size, 15, none⟩ = some (.int .i64 r.nm) := r0.out.cell 15
  have HSY : Hid (∀ W, Calls Tryz.prog 40 #[.agg (rwc r)] W fun e w' => e = .returned (.bool (syB r)) ∧ Below W.heap.size W w') := fun W => uSy_c r W
  have HLV : Hid (∀ W, Calls Tryz.prog 126 #[.agg (rwc r), .int .i64 r.md, .int .i64 r.nm] W fun e w' => e = .returned (.bool (lvB r r.md r.nm)) ∧ Below W.heap.size W w') := fun W => uLv_c r r.md r.nm W
  generalize hZ : (tuB r) = Z at HM ⊢
  clear hZ
  generalize syB r = z1 at *
  generalize lvB r r.md r.nm = z7 at *
  go_enter Tryz.func42, Tryz.ntmps42
  go_upto_region 1 with fail
  clear hW0
  cases q1 : (r.kd == 4)
  focus
    cases q2 : (r.kd == 2)
    focus
      cases q4 : (r.kd == 3)
      focus
        cases q6 : (r.kd == 1)
        focus
          have HV : Hid (Z = true) := (by unfold Hid; rw [HM.out]; first | (rw [q1, q2, q4, q6]; done) | (rw [q1, q2, q4, q6]; rfl))
        rotate_left 1
        focus
          cases q7 : (r.nm == r.md)
          focus
            cases z7
            focus
              have HV : Hid (Z = false) := (by unfold Hid; rw [HM.out]; first | (rw [q1, q2, q4, q6, q7]; done) | (rw [q1, q2, q4, q6, q7]; rfl))
            rotate_left 1
            focus
              have HV : Hid (Z = true) := (by unfold Hid; rw [HM.out]; first | (rw [q1, q2, q4, q6, q7]; done) | (rw [q1, q2, q4, q6, q7]; rfl))
            rotate_left 1
          rotate_left 2
          focus
            have HV : Hid (Z = true) := (by unfold Hid; rw [HM.out]; first | (rw [q1, q2, q4, q6, q7]; done) | (rw [q1, q2, q4, q6, q7]; rfl))
          rotate_left 1
        rotate_left 3
      rotate_left 4
      focus
        cases q5 : (r.nm == 3)
        focus
          have HV : Hid (Z = false) := (by unfold Hid; rw [HM.out]; first | (rw [q1, q2, q4, q5]; done) | (rw [q1, q2, q4, q5]; rfl))
        rotate_left 1
        focus
          have HV : Hid (Z = true) := (by unfold Hid; rw [HM.out]; first | (rw [q1, q2, q4, q5]; done) | (rw [q1, q2, q4, q5]; rfl))
        rotate_left 1
      rotate_left 2
    rotate_left 6
    focus
      cases q3 : (r.nm == 3)
      focus
        have HV : Hid (Z = false) := (by unfold Hid; rw [HM.out]; first | (rw [q1, q2, q3]; done) | (rw [q1, q2, q3]; rfl))
      rotate_left 1
      focus
        have HV : Hid (Z = true) := (by unfold Hid; rw [HM.out]; first | (rw [q1, q2, q3]; done) | (rw [q1, q2, q3]; rfl))
      rotate_left 1
    rotate_left 2
  rotate_left 8
  focus
    cases z1
    focus
      have HV : Hid (Z = false) := (by unfold Hid; rw [HM.out]; first | (rw [q1]; done) | (rw [q1]; rfl))
    rotate_left 1
    focus
      have HV : Hid (Z = true) := (by unfold Hid; rw [HM.out]; first | (rw [q1]; done) | (rw [q1]; rfl))
    rotate_left 1
  rotate_left 2
  all_goals
    clear HM
    go_wp2_with (first | (refine wpList_load_row (by rfl) _ _ (by rfl) _ (by rfl) 52 _ (0, 0) _ r0.out Tryz.underlying52 (by rfl) (info_rw _) ?_) | (refine wpList_load_rowG (by rfl) 52 _ (by rfl) _ (by rfl) 52 _ (0, 0) _ r0.out Tryz.underlying52 (by rfl) (info_rw _) ?_) | (go_at_call 40; refine (HSY.out _).mono ?_; rintro e w1 ⟨rfl, hb1⟩; have HB1 : Hid (Below W0.heap.size W0 w1) := hb1; clear hb1) | (go_at_call 126; refine (HLV.out _).mono ?_; rintro e w1 ⟨rfl, hb1⟩; have HB1 : Hid (Below W0.heap.size W0 w1) := hb1; clear hb1))
    go_ret
    exact ⟨by rw [HV.out]; first | done | rfl, (by first | exact BB.out | exact BB.out.trans (HB1.out.mono BB.out.size))⟩
end Go.Proofs.YtidfndgedopghaaGreatDoor
namespace Go.Proofs.YtidfndgedopghaaGreatDoor
set_option linter.unusedVariables false
set_option maxRecDepth 100000
set_option maxHeartbeats 4000000
open Go.ChangeShapes Go.WideShapes Go.ChangeAt Go.RowKit Go.Deep
open Go.ChangeMaps Go.MapKept
/-- Every value reads as itself. -/
def rdV (v : Value) : Option (DataW Value × List MemPlace) := some (.held v, [])
/-- The map in block b, of at most n entries, counts T. -/
def Mi (T : Int → Int) (b n : Nat) (w : World) : Prop :=
  ∃ D, w.ownsMap Tryz.prog 3 rdV b n D ∧ ∀ q, (Lit.int .i64 q).wf = true → D.atKey (.int .i64 q) (.held (.int .i64 0)) = .held (.int .i64 (T q))
theorem Mi.made (w : World) : Mi (fun _ => 0) w.heap.size 0 (w.alloc (.map #[] 0)) := ⟨_, World.ownsMap_made w _ _ _, fun q _ => rfl⟩
theorem Mi.lt {T : Int → Int} {b n : Nat} {w : World} (h : Mi T b n w) : b < w.heap.size := h.choose_spec.1.lt
theorem Mi.update {T : Int → Int} {b n : Nat} {w : World} (h : Mi T b n w) (hn : n ≤ 140737488351232) (op v : Int) (hop : (Lit.int .i64 op).wf = true) :
    ∃ w', (Instr.mapUpdate 57 (.map (some b)) (.int .i64 op) (.int .i64 v)).run Tryz.prog w = .ok () w' ∧ Mi (fun q => if q = op then v else T q) b (n + 1) w' ∧ w.grownBy w' (some b) := by
  have hkk : WideAt.IsKeyLit (Lit.int .i64 op) := by first | trivial | exact rfl | simp [WideAt.IsKeyLit]
  obtain ⟨D, hD, hl⟩ := h
  obtain ⟨w', hrun, h1, h2⟩ := hD.update (Maps.int_keyed Tryz.underlying3) Tryz.underlying57 (by unfold maxLen; omega) (Maps.keyOf_int_mk Tryz.underlying3 hop) (show rdV (.int .i64 v) = some (.held (.int .i64 v), []) from rfl)
  refine ⟨w', hrun, ⟨_, h1, fun q hq => ?_⟩, h2⟩
  show _ = DataW.held (Value.int .i64 (if q = op then v else T q))
  by_cases e : q = op
  · subst e
    rw [if_pos rfl]
    exact Maps.atKey_put_same hD.isMap hkk _ _
  · rw [if_neg e]
    have hne : (Lit.int .i64 q) ≠ Lit.int .i64 op := fun h => e (by injection h with _ h)
    rw [Maps.atKey_put_other hne]
    exact hl q hq
theorem zero_int (w : World) : (zeroValue 3).run Tryz.prog w = .ok (.int .i64 0) w := by kernel_rfl
theorem Mi.look {T : Int → Int} {b n : Nat} {w : World} (h : Mi T b n w) (op : Int) (hop : (Lit.int .i64 op).wf = true) :
    (Instr.lookup 57 (.map (some b)) (.int .i64 op) false).run Tryz.prog w = .ok (.int .i64 (T op)) w := by
  obtain ⟨D, hD, hl⟩ := h
  obtain ⟨v, ps, hrun, hv⟩ := hD.lookup (Maps.int_keyed Tryz.underlying3) Tryz.underlying57 (zero_int w) (show rdV (.int .i64 0) = some (.held (.int .i64 0), []) from rfl) (Maps.keyOf_int_mk Tryz.underlying3 hop)
  rw [hl op hop] at hv
  injection hv with hv
  injection hv with hv
  injection hv with hv
  rw [hrun, hv]
theorem Mi.clear {T : Int → Int} {b n : Nat} {w : World} (h : Mi T b n w) :
    ∃ w', (∀ ty, (Builtin.clear_ #[57] ty #[.map (some b)]).run Tryz.prog w = .ok (.tuple #[]) w') ∧ Mi (fun _ => 0) b 0 w' ∧ w.grownBy w' (some b) := by
  obtain ⟨D, ⟨es, ck, hb, F, hs, hD⟩, hl⟩ := h
  refine ⟨{ w with heap := w.heap.setIfInBounds b (.map #[] ck) }, fun ty => ?_, ⟨.map [], ⟨#[], ck, (MapKept.heap_set hb).1, ⟨by simp, stamped_empty ck, by simp⟩, Nat.le_refl _, rfl⟩, fun q _ => rfl⟩, ⟨rfl, rfl, rfl, by simp, fun i _ hi => (MapKept.heap_set hb).2 i (fun e => hi (by rw [e]))⟩⟩
  simp [Builtin.clear_, run_underlying Tryz.underlying57, MapKept.run_getObj_map hb, MapKept.run_setObj_map _ hb, Result.andThen]
theorem Mi.later {T : Int → Int} {b n : Nat} {w w' : World} (h : Mi T b n w) (hb : Below w.heap.size w w') : Mi T b n w' := by
  obtain ⟨D, ⟨es, ck, h1, h2⟩, hl⟩ := h
  exact ⟨D, ⟨es, ck, (hb.block _ (Array.getElem?_eq_some_iff.1 h1).1).trans h1, h2⟩, hl⟩
theorem mkMapI (w : World) : (Instr.makeMap 57 none).run Tryz.prog w = .ok (.map (some w.heap.size)) (w.alloc (.map #[] 0)) := by first | rfl | kernel_rfl | simp [Instr.makeMap]
theorem Mi.row {T : Int → Int} {b n : Nat} {w : World} (h : Mi T b n w) : ∃ es ck, w.heap[b]? = some (.map es ck) := by
  obtain ⟨D, ⟨es, ck, hb, _⟩, _⟩ := h
  exact ⟨es, ck, hb⟩
theorem Row.keep {w w' : World} {b g : Nat} {cs : Array Value} {t : TypeId} (h : Row w g cs t) (hg : w.grownBy w' (some b)) (hb : ∃ es ck, w.heap[b]? = some (.map es ck)) : Row w' g cs t := by
  refine (hg.block g h.lt (fun e => ?_)).trans h
  injection e with e
  subst e
  obtain ⟨es, ck, h2⟩ := hb
  rw [show w.heap[g]? = _ from h] at h2
  cases h2
/-- Rows of a trace in memory, wherever they lie. -/
def Rws (w : World) (v : Value) (l : List Rw) : Prop :=
  ∃ a cap, v = .slice a l.length cap ∧ l.length ≤ cap ∧ (a = none → cap = 0) ∧ (l ≠ [] → ∃ g off, a = some ⟨g, off, none⟩ ∧ g < w.heap.size ∧ ∀ j, j < l.length → ∀ i v, (rwc (l.getD j rz))[i]? = some v → w.cell? ⟨g, off + j * 16 + i, none⟩ = some v)
theorem Rws.later {w w' : World} {v : Value} {l : List Rw} (h : Rws w v l) (hb : Below w.heap.size w w') : Rws w' v l := by
  obtain ⟨a, cap, rfl, h1, h1', h2⟩ := h
  refine ⟨a, cap, rfl, h1, h1', fun hn => ?_⟩
  obtain ⟨g, off, rfl, h3, h4⟩ := h2 hn
  exact ⟨g, off, rfl, Nat.lt_of_lt_of_le h3 hb.size, fun j hj i v hv => by rw [hb.cell h3]; exact h4 j hj i v hv⟩
theorem Rws.one {w : World} {v : Value} {l : List Rw} (h : Rws w v l) : v.oneCell' = true := by
  obtain ⟨a, cap, rfl, -⟩ := h; rfl
/-- Rules 1 to 5 of a trace's row, as the program asks them. -/
def cnK (l : List Rw) (i : Nat) (q : Int) : Int := ((l.take i).filter fun r => r.kd == q).length
def kpB (l : List Rw) : Nat → Nat → Bool
  | 0, i => (l.getD i rz).st == (i : Int) + 1
  | 1, i => ((i : Int) == 0) || fwB (l.getD (i - 1) rz) (l.getD i rz)
  | 2, i => fmB (l.getD i rz)
  | 3, i => (cnK l i 5 == 0) || (((l.getD i rz).kd == 5) && syB (l.getD i rz))
  | _, i => tuB (l.getD i rz)
theorem cnK_zero (l : List Rw) (q : Int) : cnK l 0 q = 0 := by unfold cnK; simp
theorem cnK_bd (l : List Rw) (i : Nat) (q : Int) : 0 ≤ cnK l i q ∧ cnK l i q ≤ (i : Int) := by
  unfold cnK
  have h1 := List.length_filter_le (fun r : Rw => r.kd == q) (l.take i)
  have h2 := List.length_take_le i l
  omega
theorem cnK_succ (l : List Rw) (i : Nat) (hi : i < l.length) (q : Int) : cnK l (i + 1) q = if q = (l.getD i rz).kd then cnK l i (l.getD i rz).kd + 1 else cnK l i q := by
  have e : l.take (i + 1) = l.take i ++ [l.getD i rz] := by
    rw [List.take_succ_eq_append_getElem hi]
    simp [hi]
  unfold cnK
  rw [e, List.filter_append, List.length_append]
  by_cases h : q = (l.getD i rz).kd
  · rw [if_pos h, ← h]; simp [h]
  · rw [if_neg h]
    have : ((l.getD i rz).kd == q) = false := by simpa using fun e => h e.symm
    simp only [List.filter_cons, this, List.filter_nil]
    simp
end Go.Proofs.YtidfndgedopghaaGreatDoor
