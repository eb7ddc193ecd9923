/-
  Uk.
-/
import Derived.Test.YtidfndgedopghaaGreatDoorQ38
namespace Go.Proofs.YtidfndgedopghaaGreatDoor
set_option linter.unusedVariables false
set_option maxRecDepth 100000
set_option maxHeartbeats 4000000
open Go.ChangeShapes Go.WideShapes Go.ChangeAt Go.RowKit Go.Deep
def evB (t : BitVec 64) : Bool := ((n64 t).tmod 2 == 0)
theorem uEv_c (t : BitVec 64) (w : World) : Calls Tryz.prog 122 #[.int .u64 (n64 t)] w fun e w' => e = .returned (.bool (evB t)) ∧ w' = w := by
  have BB : Hid (Below w.heap.size w w) := Below.refl _ _
  have HM : Hid ((evB t) = ((n64 t).tmod 2 == 0)) := rfl
  generalize hZ : (evB t) = Z at HM ⊢
  clear hZ
  go_enter Tryz.func122, Tryz.ntmps122
  go_upto_region 1 with fail
  cases q1 : ((n64 t).tmod 2 == 0) with
  | true =>
    have HV : Hid (Z = true) := (by unfold Hid; rw [HM.out]; first | (rw [q1]; done) | (rw [q1]; rfl))
    clear HM
    go_wp2
    go_ret
    exact ⟨by rw [HV.out]; first | done | rfl, rfl⟩
  | false =>
    have HV : Hid (Z = false) := (by unfold Hid; rw [HM.out]; first | (rw [q1]; done) | (rw [q1]; rfl))
    clear HM
    go_wp2
    go_ret
    exact ⟨by rw [HV.out]; first | done | rfl, rfl⟩
def tcB (r : Rw) : Bool := (((r.kd == 2) && (bits .and .u64 (n64 r.ca) 9223372036854775808 == 0)) || ((!(r.kd == 2)) && ((((r.kd == 3) && (bits .and .u64 (n64 r.ca) 9223372036854775808 != 0)) && (n64 r.tv == 0)) || (((!(r.kd == 3)) && (n64 r.ca == 0)) && (n64 r.tv == 0)))))
theorem uTc_c (r : Rw) (w : World) : Calls Tryz.prog 123 #[.agg (rwc r)] w fun e w' => e = .returned (.bool (tcB r)) ∧ Below w.heap.size w w' := by
  obtain ⟨W0, hW0, r0, b0, s0⟩ := start1 w (rwc r) 52
  have BB := Hid.mkU b0.out
  clear s0 b0
  have HM : Hid ((tcB r) = (((r.kd == 2) && (bits .and .u64 (n64 r.ca) 9223372036854775808 == 0)) || ((!(r.kd == 2)) && ((((r.kd == 3) && (bits .and .u64 (n64 r.ca) 9223372036854775808 != 0)) && (n64 r.tv == 0)) || (((!(r.kd == 3)) && (n64 r.ca == 0)) && (n64 r.tv == 0)))))) := rfl
  have c0_kd : W0.cell? ⟨w.heap.size, 1, none⟩ = some (.int .i64 r.kd) := r0.out.cell 1
  have c0_ca : W0.cell? ⟨w.heap.size, 6, none⟩ = some (.int .u64 (n64 r.ca)) := r0.out.cell 6
  have c0_tv : W0.cell? ⟨w.heap.size, 7, none⟩ = some (.int .u64 (n64 r.tv)) := r0.out.cell 7
  generalize hZ : (tcB r) = Z at HM ⊢
  clear hZ
  go_enter Tryz.func123, Tryz.ntmps123
  go_upto_region 1 with fail
  clear hW0
  cases q1 : (r.kd == 2) with
  | true =>
    cases q2 : (bits .and .u64 (n64 r.ca) 9223372036854775808 == 0) with
    | true =>
      have HV : Hid (Z = true) := (by unfold Hid; rw [HM.out]; first | (rw [q1, q2]; done) | (rw [q1, q2]; rfl))
      clear HM
      go_wp2
      go_ret
      exact ⟨by rw [HV.out]; first | done | rfl, BB.out⟩
    | false =>
      have HV : Hid (Z = false) := (by unfold Hid; rw [HM.out]; first | (rw [q1, q2]; done) | (rw [q1, q2]; rfl))
      clear HM
      go_wp2
      go_ret
      exact ⟨by rw [HV.out]; first | done | rfl, BB.out⟩
  | false =>
    cases q3 : (r.kd == 3) with
    | true =>
      cases q4 : (bits .and .u64 (n64 r.ca) 9223372036854775808 != 0) with
      | true =>
        cases q5 : (n64 r.tv == 0) with
        | true =>
          have HV : Hid (Z = true) := (by unfold Hid; rw [HM.out]; first | (rw [q1, q3, q4, q5]; done) | (rw [q1, q3, q4, q5]; rfl))
          clear HM
          go_wp2
          go_ret
          exact ⟨by rw [HV.out]; first | done | rfl, BB.out⟩
        | false =>
          have HV : Hid (Z = false) := (by unfold Hid; rw [HM.out]; first | (rw [q1, q3, q4, q5]; done) | (rw [q1, q3, q4, q5]; rfl))
          clear HM
          go_wp2
          go_ret
          exact ⟨by rw [HV.out]; first | done | rfl, BB.out⟩
      | false =>
        have HV : Hid (Z = false) := (by unfold Hid; rw [HM.out]; first | (rw [q1, q3, q4]; done) | (rw [q1, q3, q4]; rfl))
        clear HM
        go_wp2
        go_ret
        exact ⟨by rw [HV.out]; first | done | rfl, BB.out⟩
    | false =>
      cases q6 : (n64 r.ca == 0) with
      | true =>
        cases q7 : (n64 r.tv == 0) with
        | true =>
          have HV : Hid (Z = true) := (by unfold Hid; rw [HM.out]; first | (rw [q1, q3, q6, q7]; done) | (rw [q1, q3, q6, q7]; rfl))
          clear HM
          go_wp2
          go_ret
          exact ⟨by rw [HV.out]; first | done | rfl, BB.out⟩
        | false =>
          have HV : Hid (Z = false) := (by unfold Hid; rw [HM.out]; first | (rw [q1, q3, q6, q7]; done) | (rw [q1, q3, q6, q7]; rfl))
          clear HM
          go_wp2
          go_ret
          exact ⟨by rw [HV.out]; first | done | rfl, BB.out⟩
      | false =>
        have HV : Hid (Z = false) := (by unfold Hid; rw [HM.out]; first | (rw [q1, q3, q6]; done) | (rw [q1, q3, q6]; rfl))
        clear HM
        go_wp2
        go_ret
        exact ⟨by rw [HV.out]; first | done | rfl, BB.out⟩
def teB (r : Rw) : Bool := ((((r.len == 2) || (r.len == 4)) && (((r.kd == 1) || (r.kd == 2)) || ((r.raw == 0) && (r.len == 0)))) || (((!(r.len == 2)) && (!(r.len == 4))) && ((!(r.kd == 1)) && (((r.kd == 2) && (r.len == 0)) || (((!(r.kd == 2)) && (r.raw == 0)) && (r.len == 0))))))
theorem uTe_c (r : Rw) (w : World) : Calls Tryz.prog 124 #[.agg (rwc r)] w fun e w' => e = .returned (.bool (teB r)) ∧ Below w.heap.size w w' := by
  obtain ⟨W0, hW0, r0, b0, s0⟩ := start1 w (rwc r) 52
  have BB := Hid.mkU b0.out
  clear s0 b0
  have HM : Hid ((teB r) = ((((r.len == 2) || (r.len == 4)) && (((r.kd == 1) || (r.kd == 2)) || ((r.raw == 0) && (r.len == 0)))) || (((!(r.len == 2)) && (!(r.len == 4))) && ((!(r.kd == 1)) && (((r.kd == 2) && (r.len == 0)) || (((!(r.kd == 2)) && (r.raw == 0)) && (r.len == 0))))))) := rfl
  have c0_kd : W0.cell? ⟨w.heap.size, 1, none⟩ = some (.int .i64 r.kd) := r0.out.cell 1
  have c0_len : W0.cell? ⟨w.heap.size, 5, none⟩ = some (.int .i64 r.len) := r0.out.cell 5
  have c0_raw : W0.cell? ⟨w.heap.size, 4, none⟩ = some (.int .u32 r.raw) := r0.out.cell 4
  generalize hZ : (teB r) = Z at HM ⊢
  clear hZ
  go_enter Tryz.func124, Tryz.ntmps124
  go_upto_region 1 with fail
  clear hW0
  cases q1 : (r.len == 2) with
  | true =>
    cases q2 : (r.kd == 1) with
    | true =>
      have HV : Hid (Z = true) := (by unfold Hid; rw [HM.out]; first | (rw [q1, q2]; done) | (rw [q1, q2]; rfl))
      clear HM
      go_wp2
      go_ret
      exact ⟨by rw [HV.out]; first | done | rfl, BB.out⟩
    | false =>
      cases q3 : (r.kd == 2) with
      | true =>
        have HV : Hid (Z = true) := (by unfold Hid; rw [HM.out]; first | (rw [q1, q2, q3]; done) | (rw [q1, q2, q3]; rfl))
        clear HM
        go_wp2
        go_ret
        exact ⟨by rw [HV.out]; first | done | rfl, BB.out⟩
      | false =>
        cases q4 : (r.raw == 0) with
        | true =>
          cases q5 : (r.len == 0) with
          | true =>
            have HV : Hid (Z = true) := (by unfold Hid; rw [HM.out]; first | (rw [q1, q2, q3, q4, q5]; done) | (rw [q1, q2, q3, q4, q5]; rfl))
            clear HM
            go_wp2
            go_ret
            exact ⟨by rw [HV.out]; first | done | rfl, BB.out⟩
          | false =>
            have HV : Hid (Z = false) := (by unfold Hid; rw [HM.out]; first | (rw [q1, q2, q3, q4, q5]; done) | (rw [q1, q2, q3, q4, q5]; rfl))
            clear HM
            go_wp2
            go_ret
            exact ⟨by rw [HV.out]; first | done | rfl, BB.out⟩
        | false =>
          have HV : Hid (Z = false) := (by unfold Hid; rw [HM.out]; first | (rw [q1, q2, q3, q4]; done) | (rw [q1, q2, q3, q4]; rfl))
          clear HM
          go_wp2
          go_ret
          exact ⟨by rw [HV.out]; first | done | rfl, BB.out⟩
  | false =>
    cases q6 : (r.len == 4) with
    | true =>
      cases q7 : (r.kd == 1) with
      | true =>
        have HV : Hid (Z = true) := (by unfold Hid; rw [HM.out]; first | (rw [q1, q6, q7]; done) | (rw [q1, q6, q7]; rfl))
        clear HM
        go_wp2
        go_ret
        exact ⟨by rw [HV.out]; first | done | rfl, BB.out⟩
      | false =>
        cases q8 : (r.kd == 2) with
        | true =>
          have HV : Hid (Z = true) := (by unfold Hid; rw [HM.out]; first | (rw [q1, q6, q7, q8]; done) | (rw [q1, q6, q7, q8]; rfl))
          clear HM
          go_wp2
          go_ret
          exact ⟨by rw [HV.out]; first | done | rfl, BB.out⟩
        | false =>
          cases q9 : (r.raw == 0) with
          | true =>
            cases q10 : (r.len == 0) with
            | true =>
              have HV : Hid (Z = true) := (by unfold Hid; rw [HM.out]; first | (rw [q1, q6, q7, q8, q9, q10]; done) | (rw [q1, q6, q7, q8, q9, q10]; rfl))
              clear HM
              go_wp2
              go_ret
              exact ⟨by rw [HV.out]; first | done | rfl, BB.out⟩
            | false =>
              have HV : Hid (Z = false) := (by unfold Hid; rw [HM.out]; first | (rw [q1, q6, q7, q8, q9, q10]; done) | (rw [q1, q6, q7, q8, q9, q10]; rfl))
              clear HM
              go_wp2
              go_ret
              exact ⟨by rw [HV.out]; first | done | rfl, BB.out⟩
          | false =>
            have HV : Hid (Z = false) := (by unfold Hid; rw [HM.out]; first | (rw [q1, q6, q7, q8, q9]; done) | (rw [q1, q6, q7, q8, q9]; rfl))
            clear HM
            go_wp2
            go_ret
            exact ⟨by rw [HV.out]; first | done | rfl, BB.out⟩
    | false =>
      cases q11 : (r.kd == 1) with
      | true =>
        have HV : Hid (Z = false) := (by unfold Hid; rw [HM.out]; first | (rw [q1, q6, q11]; done) | (rw [q1, q6, q11]; rfl))
        clear HM
        go_wp2
        go_ret
        exact ⟨by rw [HV.out]; first | done | rfl, BB.out⟩
      | false =>
        cases q12 : (r.kd == 2) with
        | true =>
          cases q13 : (r.len == 0) with
          | true =>
            have HV : Hid (Z = true) := (by unfold Hid; rw [HM.out]; first | (rw [q1, q6, q11, q12, q13]; done) | (rw [q1, q6, q11, q12, q13]; rfl))
            clear HM
            go_wp2
            go_ret
            exact ⟨by rw [HV.out]; first | done | rfl, BB.out⟩
          | false =>
            have HV : Hid (Z = false) := (by unfold Hid; rw [HM.out]; first | (rw [q1, q6, q11, q12, q13]; done) | (rw [q1, q6, q11, q12, q13]; rfl))
            clear HM
            go_wp2
            go_ret
            exact ⟨by rw [HV.out]; first | done | rfl, BB.out⟩
        | false =>
          cases q14 : (r.raw == 0) with
          | true =>
            cases q15 : (r.len == 0) with
            | true =>
              have HV : Hid (Z = true) := (by unfold Hid; rw [HM.out]; first | (rw [q1, q6, q11, q12, q14, q15]; done) | (rw [q1, q6, q11, q12, q14, q15]; rfl))
              clear HM
              go_wp2
              go_ret
              exact ⟨by rw [HV.out]; first | done | rfl, BB.out⟩
            | false =>
              have HV : Hid (Z = false) := (by unfold Hid; rw [HM.out]; first | (rw [q1, q6, q11, q12, q14, q15]; done) | (rw [q1, q6, q11, q12, q14, q15]; rfl))
              clear HM
              go_wp2
              go_ret
              exact ⟨by rw [HV.out]; first | done | rfl, BB.out⟩
          | false =>
            have HV : Hid (Z = false) := (by unfold Hid; rw [HM.out]; first | (rw [q1, q6, q11, q12, q14]; done) | (rw [q1, q6, q11, q12, q14]; rfl))
            clear HM
            go_wp2
            go_ret
            exact ⟨by rw [HV.out]; first | done | rfl, BB.out⟩
def tdB (r : Rw) : Bool := (((!(r.kd == 1)) && (dnB r)) || (((r.kd == 1) && ((!(r.rd == 0)) || (n64 r.val == 0))) && (((r.mem == 0) && (rnB r)) || ((!(r.mem == 0)) && ((!(r.mem == 1)) || (n64 r.dat == 0))))))
theorem uTd_c (r : Rw) (w : World) : Calls Tryz.prog 125 #[.agg (rwc r)] w fun e w' => e = .returned (.bool (tdB r)) ∧ Below w.heap.size w w' := by
  obtain ⟨W0, hW0, r0, b0, s0⟩ := start1 w (rwc r) 52
  have BB := Hid.mkU b0.out
  clear s0 b0
  have HM : Hid ((tdB r) = (((!(r.kd == 1)) && (dnB r)) || (((r.kd == 1) && ((!(r.rd == 0)) || (n64 r.val == 0))) && (((r.mem == 0) && (rnB r)) || ((!(r.mem == 0)) && ((!(r.mem == 1)) || (n64 r.dat == 0))))))) := rfl
  have c0_kd : W0.cell? ⟨w.heap.size, 1, none⟩ = some (.int .i64 r.kd) := r0.out.cell 1
  have c0_rd : W0.cell? ⟨w.heap.size, 8, none⟩ = some (.int .i64 r.rd) := r0.out.cell 8
  have c0_val : W0.cell? ⟨w.heap.size, 9, none⟩ = some (.int .u64 (n64 r.val)) := r0.out.cell 9
  have c0_mem : W0.cell? ⟨w.heap.size, 10, none⟩ = some (.int .i64 r.mem) := r0.out.cell 10
  have c0_dat : W0.cell? ⟨w.heap.size, 13, none⟩ = some (.int .u64 (n64 r.dat)) := r0.out.cell 13
  have HDN : Hid (∀ W, Calls Tryz.prog 135 #[.agg (rwc r)] W fun e w' => e = .returned (.bool (dnB r)) ∧ Below W.heap.size W w') := fun W => uDn_c r W
  have HRN : Hid (∀ W, Calls Tryz.prog 156 #[.agg (rwc r)] W fun e w' => e = .returned (.bool (rnB r)) ∧ Below W.heap.size W w') := fun W => uRn_c r W
  generalize hZ : (tdB r) = Z at HM ⊢
  clear hZ
  generalize dnB r = z1 at *
  generalize rnB r = z5 at *
  go_enter Tryz.func125, Tryz.ntmps125
  go_upto_region 1 with fail
  clear hW0
  cases q1 : (r.kd == 1) with
  | true =>
    cases q2 : (r.rd == 0) with
    | true =>
      cases q3 : (n64 r.val == 0) with
      | true =>
        cases q4 : (r.mem == 0) with
        | true =>
          cases z5 with
          | true =>
            have HV : Hid (Z = true) := (by unfold Hid; rw [HM.out]; first | (rw [q1, q2, q3, q4]; done) | (rw [q1, q2, q3, q4]; rfl))
            clear HM
            go_wp2_with (first | (refine wpList_load_row (by rfl) _ _ (by rfl) _ (by rfl) 52 _ (0, 0) _ r0.out Tryz.underlying52 (by rfl) (info_rw _) ?_) | (go_at_call 135; refine (HDN.out _).mono ?_; rintro e w1 ⟨rfl, hb1⟩; have HB1 : Hid (Below W0.heap.size W0 w1) := hb1; clear hb1) | (go_at_call 156; refine (HRN.out _).mono ?_; rintro e w1 ⟨rfl, hb1⟩; have HB1 : Hid (Below W0.heap.size W0 w1) := hb1; clear hb1))
            go_ret
            exact ⟨by rw [HV.out]; first | done | rfl, (by first | exact BB.out | exact BB.out.trans (HB1.out.mono BB.out.size))⟩
          | false =>
            have HV : Hid (Z = false) := (by unfold Hid; rw [HM.out]; first | (rw [q1, q2, q3, q4]; done) | (rw [q1, q2, q3, q4]; rfl))
            clear HM
            go_wp2_with (first | (refine wpList_load_row (by rfl) _ _ (by rfl) _ (by rfl) 52 _ (0, 0) _ r0.out Tryz.underlying52 (by rfl) (info_rw _) ?_) | (go_at_call 135; refine (HDN.out _).mono ?_; rintro e w1 ⟨rfl, hb1⟩; have HB1 : Hid (Below W0.heap.size W0 w1) := hb1; clear hb1) | (go_at_call 156; refine (HRN.out _).mono ?_; rintro e w1 ⟨rfl, hb1⟩; have HB1 : Hid (Below W0.heap.size W0 w1) := hb1; clear hb1))
            go_ret
            exact ⟨by rw [HV.out]; first | done | rfl, (by first | exact BB.out | exact BB.out.trans (HB1.out.mono BB.out.size))⟩
        | false =>
          cases q5 : (r.mem == 1) with
          | true =>
            cases q6 : (n64 r.dat == 0) with
            | true =>
              have HV : Hid (Z = true) := (by unfold Hid; rw [HM.out]; first | (rw [q1, q2, q3, q4, q5, q6]; done) | (rw [q1, q2, q3, q4, q5, q6]; rfl))
              clear HM
              go_wp2_with (first | (refine wpList_load_row (by rfl) _ _ (by rfl) _ (by rfl) 52 _ (0, 0) _ r0.out Tryz.underlying52 (by rfl) (info_rw _) ?_) | (go_at_call 135; refine (HDN.out _).mono ?_; rintro e w1 ⟨rfl, hb1⟩; have HB1 : Hid (Below W0.heap.size W0 w1) := hb1; clear hb1) | (go_at_call 156; refine (HRN.out _).mono ?_; rintro e w1 ⟨rfl, hb1⟩; have HB1 : Hid (Below W0.heap.size W0 w1) := hb1; clear hb1))
              go_ret
              exact ⟨by rw [HV.out]; first | done | rfl, (by first | exact BB.out | exact BB.out.trans (HB1.out.mono BB.out.size))⟩
            | false =>
              have HV : Hid (Z = false) := (by unfold Hid; rw [HM.out]; first | (rw [q1, q2, q3, q4, q5, q6]; done) | (rw [q1, q2, q3, q4, q5, q6]; rfl))
              clear HM
              go_wp2_with (first | (refine wpList_load_row (by rfl) _ _ (by rfl) _ (by rfl) 52 _ (0, 0) _ r0.out Tryz.underlying52 (by rfl) (info_rw _) ?_) | (go_at_call 135; refine (HDN.out _).mono ?_; rintro e w1 ⟨rfl, hb1⟩; have HB1 : Hid (Below W0.heap.size W0 w1) := hb1; clear hb1) | (go_at_call 156; refine (HRN.out _).mono ?_; rintro e w1 ⟨rfl, hb1⟩; have HB1 : Hid (Below W0.heap.size W0 w1) := hb1; clear hb1))
              go_ret
              exact ⟨by rw [HV.out]; first | done | rfl, (by first | exact BB.out | exact BB.out.trans (HB1.out.mono BB.out.size))⟩
          | false =>
            have HV : Hid (Z = true) := (by unfold Hid; rw [HM.out]; first | (rw [q1, q2, q3, q4, q5]; done) | (rw [q1, q2, q3, q4, q5]; rfl))
            clear HM
            go_wp2_with (first | (refine wpList_load_row (by rfl) _ _ (by rfl) _ (by rfl) 52 _ (0, 0) _ r0.out Tryz.underlying52 (by rfl) (info_rw _) ?_) | (go_at_call 135; refine (HDN.out _).mono ?_; rintro e w1 ⟨rfl, hb1⟩; have HB1 : Hid (Below W0.heap.size W0 w1) := hb1; clear hb1) | (go_at_call 156; refine (HRN.out _).mono ?_; rintro e w1 ⟨rfl, hb1⟩; have HB1 : Hid (Below W0.heap.size W0 w1) := hb1; clear hb1))
            go_ret
            exact ⟨by rw [HV.out]; first | done | rfl, (by first | exact BB.out | exact BB.out.trans (HB1.out.mono BB.out.size))⟩
      | false =>
        have HV : Hid (Z = false) := (by unfold Hid; rw [HM.out]; first | (rw [q1, q2, q3]; done) | (rw [q1, q2, q3]; rfl))
        clear HM
        go_wp2_with (first | (refine wpList_load_row (by rfl) _ _ (by rfl) _ (by rfl) 52 _ (0, 0) _ r0.out Tryz.underlying52 (by rfl) (info_rw _) ?_) | (go_at_call 135; refine (HDN.out _).mono ?_; rintro e w1 ⟨rfl, hb1⟩; have HB1 : Hid (Below W0.heap.size W0 w1) := hb1; clear hb1) | (go_at_call 156; refine (HRN.out _).mono ?_; rintro e w1 ⟨rfl, hb1⟩; have HB1 : Hid (Below W0.heap.size W0 w1) := hb1; clear hb1))
        go_ret
        exact ⟨by rw [HV.out]; first | done | rfl, (by first | exact BB.out | exact BB.out.trans (HB1.out.mono BB.out.size))⟩
    | false =>
      cases q7 : (r.mem == 0) with
      | true =>
        cases z5 with
        | true =>
          have HV : Hid (Z = true) := (by unfold Hid; rw [HM.out]; first | (rw [q1, q2, q7]; done) | (rw [q1, q2, q7]; rfl))
          clear HM
          go_wp2_with (first | (refine wpList_load_row (by rfl) _ _ (by rfl) _ (by rfl) 52 _ (0, 0) _ r0.out Tryz.underlying52 (by rfl) (info_rw _) ?_) | (go_at_call 135; refine (HDN.out _).mono ?_; rintro e w1 ⟨rfl, hb1⟩; have HB1 : Hid (Below W0.heap.size W0 w1) := hb1; clear hb1) | (go_at_call 156; refine (HRN.out _).mono ?_; rintro e w1 ⟨rfl, hb1⟩; have HB1 : Hid (Below W0.heap.size W0 w1) := hb1; clear hb1))
          go_ret
          exact ⟨by rw [HV.out]; first | done | rfl, (by first | exact BB.out | exact BB.out.trans (HB1.out.mono BB.out.size))⟩
        | false =>
          have HV : Hid (Z = false) := (by unfold Hid; rw [HM.out]; first | (rw [q1, q2, q7]; done) | (rw [q1, q2, q7]; rfl))
          clear HM
          go_wp2_with (first | (refine wpList_load_row (by rfl) _ _ (by rfl) _ (by rfl) 52 _ (0, 0) _ r0.out Tryz.underlying52 (by rfl) (info_rw _) ?_) | (go_at_call 135; refine (HDN.out _).mono ?_; rintro e w1 ⟨rfl, hb1⟩; have HB1 : Hid (Below W0.heap.size W0 w1) := hb1; clear hb1) | (go_at_call 156; refine (HRN.out _).mono ?_; rintro e w1 ⟨rfl, hb1⟩; have HB1 : Hid (Below W0.heap.size W0 w1) := hb1; clear hb1))
          go_ret
          exact ⟨by rw [HV.out]; first | done | rfl, (by first | exact BB.out | exact BB.out.trans (HB1.out.mono BB.out.size))⟩
      | false =>
        cases q8 : (r.mem == 1) with
        | true =>
          cases q9 : (n64 r.dat == 0) with
          | true =>
            have HV : Hid (Z = true) := (by unfold Hid; rw [HM.out]; first | (rw [q1, q2, q7, q8, q9]; done) | (rw [q1, q2, q7, q8, q9]; rfl))
            clear HM
            go_wp2_with (first | (refine wpList_load_row (by rfl) _ _ (by rfl) _ (by rfl) 52 _ (0, 0) _ r0.out Tryz.underlying52 (by rfl) (info_rw _) ?_) | (go_at_call 135; refine (HDN.out _).mono ?_; rintro e w1 ⟨rfl, hb1⟩; have HB1 : Hid (Below W0.heap.size W0 w1) := hb1; clear hb1) | (go_at_call 156; refine (HRN.out _).mono ?_; rintro e w1 ⟨rfl, hb1⟩; have HB1 : Hid (Below W0.heap.size W0 w1) := hb1; clear hb1))
            go_ret
            exact ⟨by rw [HV.out]; first | done | rfl, (by first | exact BB.out | exact BB.out.trans (HB1.out.mono BB.out.size))⟩
          | false =>
            have HV : Hid (Z = false) := (by unfold Hid; rw [HM.out]; first | (rw [q1, q2, q7, q8, q9]; done) | (rw [q1, q2, q7, q8, q9]; rfl))
            clear HM
            go_wp2_with (first | (refine wpList_load_row (by rfl) _ _ (by rfl) _ (by rfl) 52 _ (0, 0) _ r0.out Tryz.underlying52 (by rfl) (info_rw _) ?_) | (go_at_call 135; refine (HDN.out _).mono ?_; rintro e w1 ⟨rfl, hb1⟩; have HB1 : Hid (Below W0.heap.size W0 w1) := hb1; clear hb1) | (go_at_call 156; refine (HRN.out _).mono ?_; rintro e w1 ⟨rfl, hb1⟩; have HB1 : Hid (Below W0.heap.size W0 w1) := hb1; clear hb1))
            go_ret
            exact ⟨by rw [HV.out]; first | done | rfl, (by first | exact BB.out | exact BB.out.trans (HB1.out.mono BB.out.size))⟩
        | false =>
          have HV : Hid (Z = true) := (by unfold Hid; rw [HM.out]; first | (rw [q1, q2, q7, q8]; done) | (rw [q1, q2, q7, q8]; rfl))
          clear HM
          go_wp2_with (first | (refine wpList_load_row (by rfl) _ _ (by rfl) _ (by rfl) 52 _ (0, 0) _ r0.out Tryz.underlying52 (by rfl) (info_rw _) ?_) | (go_at_call 135; refine (HDN.out _).mono ?_; rintro e w1 ⟨rfl, hb1⟩; have HB1 : Hid (Below W0.heap.size W0 w1) := hb1; clear hb1) | (go_at_call 156; refine (HRN.out _).mono ?_; rintro e w1 ⟨rfl, hb1⟩; have HB1 : Hid (Below W0.heap.size W0 w1) := hb1; clear hb1))
          go_ret
          exact ⟨by rw [HV.out]; first | done | rfl, (by first | exact BB.out | exact BB.out.trans (HB1.out.mono BB.out.size))⟩
  | false =>
    cases z1 with
    | true =>
      have HV : Hid (Z = true) := (by unfold Hid; rw [HM.out]; first | (rw [q1]; done) | (rw [q1]; rfl))
      clear HM
      go_wp2_with (first | (refine wpList_load_row (by rfl) _ _ (by rfl) _ (by rfl) 52 _ (0, 0) _ r0.out Tryz.underlying52 (by rfl) (info_rw _) ?_) | (go_at_call 135; refine (HDN.out _).mono ?_; rintro e w1 ⟨rfl, hb1⟩; have HB1 : Hid (Below W0.heap.size W0 w1) := hb1; clear hb1) | (go_at_call 156; refine (HRN.out _).mono ?_; rintro e w1 ⟨rfl, hb1⟩; have HB1 : Hid (Below W0.heap.size W0 w1) := hb1; clear hb1))
      go_ret
      exact ⟨by rw [HV.out]; first | done | rfl, (by first | exact BB.out | exact BB.out.trans (HB1.out.mono BB.out.size))⟩
    | false =>
      have HV : Hid (Z = false) := (by unfold Hid; rw [HM.out]; first | (rw [q1]; done) | (rw [q1]; rfl))
      clear HM
      go_wp2_with (first | (refine wpList_load_row (by rfl) _ _ (by rfl) _ (by rfl) 52 _ (0, 0) _ r0.out Tryz.underlying52 (by rfl) (info_rw _) ?_) | (go_at_call 135; refine (HDN.out _).mono ?_; rintro e w1 ⟨rfl, hb1⟩; have HB1 : Hid (Below W0.heap.size W0 w1) := hb1; clear hb1) | (go_at_call 156; refine (HRN.out _).mono ?_; rintro e w1 ⟨rfl, hb1⟩; have HB1 : Hid (Below W0.heap.size W0 w1) := hb1; clear hb1))
      go_ret
      exact ⟨by rw [HV.out]; first | done | rfl, (by first | exact BB.out | exact BB.out.trans (HB1.out.mono BB.out.size))⟩
def fmB (r : Rw) : Bool := ((((((((kdB r.kd) && (mdB r.md)) && (mdB r.nm)) && (evB r.pc)) && (evB r.nx)) && (tcB r)) && (teB r)) && (tdB r))
theorem uFm_c (r : Rw) (w : World) : Calls Tryz.prog 38 #[.agg (rwc r)] w fun e w' => e = .returned (.bool (fmB r)) ∧ Below w.heap.size w w' := by
  obtain ⟨W0, hW0, r0, b0, s0⟩ := start1 w (rwc r) 52
  have BB := Hid.mkU b0.out
  clear s0 b0
  have HM : Hid ((fmB r) = ((((((((kdB r.kd) && (mdB r.md)) && (mdB r.nm)) && (evB r.pc)) && (evB r.nx)) && (tcB r)) && (teB r)) && (tdB r))) := rfl
  have c0_kd : ∀ x : Later W0, x.1.cell? ⟨w.heap.size, 1, none⟩ = some (.int .i64 r.kd) := fun x => (lrow r0.out x).cell 1
  have c0_md : ∀ x : Later W0, x.1.cell? ⟨w.heap.size, 2, none⟩ = some (.int .i64 r.md) := fun x => (lrow r0.out x).cell 2
  have c0_nm : ∀ x : Later W0, x.1.cell? ⟨w.heap.size, 15, none⟩ = some (.int .i64 r.nm) := fun x => (lrow r0.out x).cell 15
  have c0_pc : ∀ x : Later W0, x.1.cell? ⟨w.heap.size, 3, none⟩ = some (.int .u64 (n64 r.pc)) := fun x => (lrow r0.out x).cell 3
  have c0_nx : ∀ x : Later W0, x.1.cell? ⟨w.heap.size, 14, none⟩ = some (.int .u64 (n64 r.nx)) := fun x => (lrow r0.out x).cell 14
  have HKD : Hid (∀ W, Calls Tryz.prog 61 #[.int .i64 r.kd] W fun e w' => e = .returned (.bool (kdB r.kd)) ∧ w' = W) := fun W => uKind_c r.kd W
  have HM1 : Hid (∀ W, Calls Tryz.prog 121 #[.int .i64 r.md] W fun e w' => e = .returned (.bool (mdB r.md)) ∧ w' = W) := fun W => uMode_c r.md W
  have HM2 : Hid (∀ W, Calls Tryz.prog 121 #[.int .i64 r.nm] W fun e w' => e = .returned (.bool (mdB r.nm)) ∧ w' = W) := fun W => uMode_c r.nm W
  have HE1 : Hid (∀ W, Calls Tryz.prog 122 #[.int .u64 (n64 r.pc)] W fun e w' => e = .returned (.bool (evB r.pc)) ∧ w' = W) := fun W => uEv_c r.pc W
  have HE2 : Hid (∀ W, Calls Tryz.prog 122 #[.int .u64 (n64 r.nx)] W fun e w' => e = .returned (.bool (evB r.nx)) ∧ w' = W) := fun W => uEv_c r.nx W
  have HTC : Hid (∀ W, Calls Tryz.prog 123 #[.agg (rwc r)] W fun e w' => e = .returned (.bool (tcB r)) ∧ Below W.heap.size W w') := fun W => uTc_c r W
  have HTE : Hid (∀ W, Calls Tryz.prog 124 #[.agg (rwc r)] W fun e w' => e = .returned (.bool (teB r)) ∧ Below W.heap.size W w') := fun W => uTe_c r W
  have HTD : Hid (∀ W, Calls Tryz.prog 125 #[.agg (rwc r)] W fun e w' => e = .returned (.bool (tdB r)) ∧ Below W.heap.size W w') := fun W => uTd_c r W
  generalize hZ : (fmB r) = Z at HM ⊢
  clear hZ
  generalize kdB r.kd = z0 at *
  generalize mdB r.md = z1 at *
  generalize mdB r.nm = z2 at *
  generalize evB r.pc = z3 at *
  generalize evB r.nx = z4 at *
  generalize tcB r = z5 at *
  generalize teB r = z6 at *
  generalize tdB r = z7 at *
  go_enter Tryz.func38, Tryz.ntmps38
  go_upto_region 1 with fail
  clear hW0
  have hne := later_nonempty W0
  cases z0 with
  | true =>
    cases z1 with
    | true =>
      cases z2 with
      | true =>
        cases z3 with
        | true =>
          cases z4 with
          | true =>
            cases z5 with
            | true =>
              cases z6 with
              | true =>
                cases z7 with
                | true =>
                  have HV : Hid (Z = true) := (by unfold Hid; first | (rw [HM.out]; done) | (rw [HM.out]; rfl))
                  clear HM
                  refine wp_region_plain (x0 := Later.start W0) ?_
                  iterate 2 (go_big_quiet_step (fail))
                  (go_big_quiet_step ((go_at_call 61; exact calls_later_same (HKD.out _))))
                  iterate 3 (go_big_quiet_step (fail))
                  (go_big_quiet_step ((go_at_call 121; exact calls_later_same (HM1.out _))))
                  iterate 4 (go_big_quiet_step (fail))
                  (go_big_quiet_step ((go_at_call 121; exact calls_later_same (HM2.out _))))
                  iterate 4 (go_big_quiet_step (fail))
                  (go_big_quiet_step ((go_at_call 122; exact calls_later_same (HE1.out _))))
                  iterate 4 (go_big_quiet_step (fail))
                  (go_big_quiet_step ((go_at_call 122; exact calls_later_same (HE2.out _))))
                  iterate 2 (go_big_quiet_step (fail))
                  (first | (go_big_quiet_want; refine quiet_load_agg 52 _ (by rfl) (w.heap.size) 0 (by rfl) (rwc r) _ r0.out.lt (lrow_cells r0.out) Tryz.underlying52 (by rfl) (info_rw _) ?_; simp only [Act.put, List.setIfInBounds_toArray, List.set_cons_succ, List.set_cons_zero]; go_big_quiet_on) | (go_big_quiet_step (fail)))
                  (go_big_quiet_step ((go_at_call 123; exact calls_later (HTC.out _))))
                  iterate 2 (go_big_quiet_step (fail))
                  (first | (go_big_quiet_want; refine quiet_load_agg 52 _ (by rfl) (w.heap.size) 0 (by rfl) (rwc r) _ r0.out.lt (lrow_cells r0.out) Tryz.underlying52 (by rfl) (info_rw _) ?_; simp only [Act.put, List.setIfInBounds_toArray, List.set_cons_succ, List.set_cons_zero]; go_big_quiet_on) | (go_big_quiet_step (fail)))
                  (go_big_quiet_step ((go_at_call 124; exact calls_later (HTE.out _))))
                  iterate 2 (go_big_quiet_step (fail))
                  (first | (go_big_quiet_want; refine quiet_load_agg 52 _ (by rfl) (w.heap.size) 0 (by rfl) (rwc r) _ r0.out.lt (lrow_cells r0.out) Tryz.underlying52 (by rfl) (info_rw _) ?_; simp only [Act.put, List.setIfInBounds_toArray, List.set_cons_succ, List.set_cons_zero]; go_big_quiet_on) | (go_big_quiet_step (fail)))
                  (go_big_quiet_step ((go_at_call 125; exact calls_later (HTD.out _))))
                  iterate 2 (go_big_quiet_step (fail))
                  refine wpQuiet_nil ?_
                  rintro _ ⟨yq, rfl⟩
                  go_wp2
                  go_ret
                  exact ⟨by rw [HV.out]; first | done | rfl, BB.out.trans (yq.2.mono BB.out.size)⟩
                | false =>
                  have HV : Hid (Z = false) := (by unfold Hid; first | (rw [HM.out]; done) | (rw [HM.out]; rfl))
                  clear HM
                  refine wp_region_plain (x0 := Later.start W0) ?_
                  iterate 2 (go_big_quiet_step (fail))
                  (go_big_quiet_step ((go_at_call 61; exact calls_later_same (HKD.out _))))
                  iterate 3 (go_big_quiet_step (fail))
                  (go_big_quiet_step ((go_at_call 121; exact calls_later_same (HM1.out _))))
                  iterate 4 (go_big_quiet_step (fail))
                  (go_big_quiet_step ((go_at_call 121; exact calls_later_same (HM2.out _))))
                  iterate 4 (go_big_quiet_step (fail))
                  (go_big_quiet_step ((go_at_call 122; exact calls_later_same (HE1.out _))))
                  iterate 4 (go_big_quiet_step (fail))
                  (go_big_quiet_step ((go_at_call 122; exact calls_later_same (HE2.out _))))
                  iterate 2 (go_big_quiet_step (fail))
                  (first | (go_big_quiet_want; refine quiet_load_agg 52 _ (by rfl) (w.heap.size) 0 (by rfl) (rwc r) _ r0.out.lt (lrow_cells r0.out) Tryz.underlying52 (by rfl) (info_rw _) ?_; simp only [Act.put, List.setIfInBounds_toArray, List.set_cons_succ, List.set_cons_zero]; go_big_quiet_on) | (go_big_quiet_step (fail)))
                  (go_big_quiet_step ((go_at_call 123; exact calls_later (HTC.out _))))
                  iterate 2 (go_big_quiet_step (fail))
                  (first | (go_big_quiet_want; refine quiet_load_agg 52 _ (by rfl) (w.heap.size) 0 (by rfl) (rwc r) _ r0.out.lt (lrow_cells r0.out) Tryz.underlying52 (by rfl) (info_rw _) ?_; simp only [Act.put, List.setIfInBounds_toArray, List.set_cons_succ, List.set_cons_zero]; go_big_quiet_on) | (go_big_quiet_step (fail)))
                  (go_big_quiet_step ((go_at_call 124; exact calls_later (HTE.out _))))
                  iterate 2 (go_big_quiet_step (fail))
                  (first | (go_big_quiet_want; refine quiet_load_agg 52 _ (by rfl) (w.heap.size) 0 (by rfl) (rwc r) _ r0.out.lt (lrow_cells r0.out) Tryz.underlying52 (by rfl) (info_rw _) ?_; simp only [Act.put, List.setIfInBounds_toArray, List.set_cons_succ, List.set_cons_zero]; go_big_quiet_on) | (go_big_quiet_step (fail)))
                  (go_big_quiet_step ((go_at_call 125; exact calls_later (HTD.out _))))
                  iterate 2 (go_big_quiet_step (fail))
                  refine wpQuiet_nil ?_
                  rintro _ ⟨yq, rfl⟩
                  go_wp2
                  go_ret
                  exact ⟨by rw [HV.out]; first | done | rfl, BB.out.trans (yq.2.mono BB.out.size)⟩
              | false =>
                have HV : Hid (Z = false) := (by unfold Hid; first | (rw [HM.out]; done) | (rw [HM.out]; rfl))
                clear HM
                refine wp_region_plain (x0 := Later.start W0) ?_
                iterate 2 (go_big_quiet_step (fail))
                (go_big_quiet_step ((go_at_call 61; exact calls_later_same (HKD.out _))))
                iterate 3 (go_big_quiet_step (fail))
                (go_big_quiet_step ((go_at_call 121; exact calls_later_same (HM1.out _))))
                iterate 4 (go_big_quiet_step (fail))
                (go_big_quiet_step ((go_at_call 121; exact calls_later_same (HM2.out _))))
                iterate 4 (go_big_quiet_step (fail))
                (go_big_quiet_step ((go_at_call 122; exact calls_later_same (HE1.out _))))
                iterate 4 (go_big_quiet_step (fail))
                (go_big_quiet_step ((go_at_call 122; exact calls_later_same (HE2.out _))))
                iterate 2 (go_big_quiet_step (fail))
                (first | (go_big_quiet_want; refine quiet_load_agg 52 _ (by rfl) (w.heap.size) 0 (by rfl) (rwc r) _ r0.out.lt (lrow_cells r0.out) Tryz.underlying52 (by rfl) (info_rw _) ?_; simp only [Act.put, List.setIfInBounds_toArray, List.set_cons_succ, List.set_cons_zero]; go_big_quiet_on) | (go_big_quiet_step (fail)))
                (go_big_quiet_step ((go_at_call 123; exact calls_later (HTC.out _))))
                iterate 2 (go_big_quiet_step (fail))
                (first | (go_big_quiet_want; refine quiet_load_agg 52 _ (by rfl) (w.heap.size) 0 (by rfl) (rwc r) _ r0.out.lt (lrow_cells r0.out) Tryz.underlying52 (by rfl) (info_rw _) ?_; simp only [Act.put, List.setIfInBounds_toArray, List.set_cons_succ, List.set_cons_zero]; go_big_quiet_on) | (go_big_quiet_step (fail)))
                (go_big_quiet_step ((go_at_call 124; exact calls_later (HTE.out _))))
                iterate 2 (go_big_quiet_step (fail))
                (first | (go_big_quiet_want; refine quiet_load_agg 52 _ (by rfl) (w.heap.size) 0 (by rfl) (rwc r) _ r0.out.lt (lrow_cells r0.out) Tryz.underlying52 (by rfl) (info_rw _) ?_; simp only [Act.put, List.setIfInBounds_toArray, List.set_cons_succ, List.set_cons_zero]; go_big_quiet_on) | (go_big_quiet_step (fail)))
                (go_big_quiet_step ((go_at_call 125; exact calls_later (HTD.out _))))
                iterate 2 (go_big_quiet_step (fail))
                refine wpQuiet_nil ?_
                rintro _ ⟨yq, rfl⟩
                go_wp2
                go_ret
                exact ⟨by rw [HV.out]; first | done | rfl, BB.out.trans (yq.2.mono BB.out.size)⟩
            | false =>
              have HV : Hid (Z = false) := (by unfold Hid; first | (rw [HM.out]; done) | (rw [HM.out]; rfl))
              clear HM
              refine wp_region_plain (x0 := Later.start W0) ?_
              iterate 2 (go_big_quiet_step (fail))
              (go_big_quiet_step ((go_at_call 61; exact calls_later_same (HKD.out _))))
              iterate 3 (go_big_quiet_step (fail))
              (go_big_quiet_step ((go_at_call 121; exact calls_later_same (HM1.out _))))
              iterate 4 (go_big_quiet_step (fail))
              (go_big_quiet_step ((go_at_call 121; exact calls_later_same (HM2.out _))))
              iterate 4 (go_big_quiet_step (fail))
              (go_big_quiet_step ((go_at_call 122; exact calls_later_same (HE1.out _))))
              iterate 4 (go_big_quiet_step (fail))
              (go_big_quiet_step ((go_at_call 122; exact calls_later_same (HE2.out _))))
              iterate 2 (go_big_quiet_step (fail))
              (first | (go_big_quiet_want; refine quiet_load_agg 52 _ (by rfl) (w.heap.size) 0 (by rfl) (rwc r) _ r0.out.lt (lrow_cells r0.out) Tryz.underlying52 (by rfl) (info_rw _) ?_; simp only [Act.put, List.setIfInBounds_toArray, List.set_cons_succ, List.set_cons_zero]; go_big_quiet_on) | (go_big_quiet_step (fail)))
              (go_big_quiet_step ((go_at_call 123; exact calls_later (HTC.out _))))
              iterate 2 (go_big_quiet_step (fail))
              (first | (go_big_quiet_want; refine quiet_load_agg 52 _ (by rfl) (w.heap.size) 0 (by rfl) (rwc r) _ r0.out.lt (lrow_cells r0.out) Tryz.underlying52 (by rfl) (info_rw _) ?_; simp only [Act.put, List.setIfInBounds_toArray, List.set_cons_succ, List.set_cons_zero]; go_big_quiet_on) | (go_big_quiet_step (fail)))
              (go_big_quiet_step ((go_at_call 124; exact calls_later (HTE.out _))))
              iterate 2 (go_big_quiet_step (fail))
              (first | (go_big_quiet_want; refine quiet_load_agg 52 _ (by rfl) (w.heap.size) 0 (by rfl) (rwc r) _ r0.out.lt (lrow_cells r0.out) Tryz.underlying52 (by rfl) (info_rw _) ?_; simp only [Act.put, List.setIfInBounds_toArray, List.set_cons_succ, List.set_cons_zero]; go_big_quiet_on) | (go_big_quiet_step (fail)))
              (go_big_quiet_step ((go_at_call 125; exact calls_later (HTD.out _))))
              iterate 2 (go_big_quiet_step (fail))
              refine wpQuiet_nil ?_
              rintro _ ⟨yq, rfl⟩
              go_wp2
              go_ret
              exact ⟨by rw [HV.out]; first | done | rfl, BB.out.trans (yq.2.mono BB.out.size)⟩
          | false =>
            have HV : Hid (Z = false) := (by unfold Hid; first | (rw [HM.out]; done) | (rw [HM.out]; rfl))
            clear HM
            refine wp_region_plain (x0 := Later.start W0) ?_
            iterate 2 (go_big_quiet_step (fail))
            (go_big_quiet_step ((go_at_call 61; exact calls_later_same (HKD.out _))))
            iterate 3 (go_big_quiet_step (fail))
            (go_big_quiet_step ((go_at_call 121; exact calls_later_same (HM1.out _))))
            iterate 4 (go_big_quiet_step (fail))
            (go_big_quiet_step ((go_at_call 121; exact calls_later_same (HM2.out _))))
            iterate 4 (go_big_quiet_step (fail))
            (go_big_quiet_step ((go_at_call 122; exact calls_later_same (HE1.out _))))
            iterate 4 (go_big_quiet_step (fail))
            (go_big_quiet_step ((go_at_call 122; exact calls_later_same (HE2.out _))))
            iterate 2 (go_big_quiet_step (fail))
            (first | (go_big_quiet_want; refine quiet_load_agg 52 _ (by rfl) (w.heap.size) 0 (by rfl) (rwc r) _ r0.out.lt (lrow_cells r0.out) Tryz.underlying52 (by rfl) (info_rw _) ?_; simp only [Act.put, List.setIfInBounds_toArray, List.set_cons_succ, List.set_cons_zero]; go_big_quiet_on) | (go_big_quiet_step (fail)))
            (go_big_quiet_step ((go_at_call 123; exact calls_later (HTC.out _))))
            iterate 2 (go_big_quiet_step (fail))
            (first | (go_big_quiet_want; refine quiet_load_agg 52 _ (by rfl) (w.heap.size) 0 (by rfl) (rwc r) _ r0.out.lt (lrow_cells r0.out) Tryz.underlying52 (by rfl) (info_rw _) ?_; simp only [Act.put, List.setIfInBounds_toArray, List.set_cons_succ, List.set_cons_zero]; go_big_quiet_on) | (go_big_quiet_step (fail)))
            (go_big_quiet_step ((go_at_call 124; exact calls_later (HTE.out _))))
            iterate 2 (go_big_quiet_step (fail))
            (first | (go_big_quiet_want; refine quiet_load_agg 52 _ (by rfl) (w.heap.size) 0 (by rfl) (rwc r) _ r0.out.lt (lrow_cells r0.out) Tryz.underlying52 (by rfl) (info_rw _) ?_; simp only [Act.put, List.setIfInBounds_toArray, List.set_cons_succ, List.set_cons_zero]; go_big_quiet_on) | (go_big_quiet_step (fail)))
            (go_big_quiet_step ((go_at_call 125; exact calls_later (HTD.out _))))
            iterate 2 (go_big_quiet_step (fail))
            refine wpQuiet_nil ?_
            rintro _ ⟨yq, rfl⟩
            go_wp2
            go_ret
            exact ⟨by rw [HV.out]; first | done | rfl, BB.out.trans (yq.2.mono BB.out.size)⟩
        | false =>
          have HV : Hid (Z = false) := (by unfold Hid; first | (rw [HM.out]; done) | (rw [HM.out]; rfl))
          clear HM
          refine wp_region_plain (x0 := Later.start W0) ?_
          iterate 2 (go_big_quiet_step (fail))
          (go_big_quiet_step ((go_at_call 61; exact calls_later_same (HKD.out _))))
          iterate 3 (go_big_quiet_step (fail))
          (go_big_quiet_step ((go_at_call 121; exact calls_later_same (HM1.out _))))
          iterate 4 (go_big_quiet_step (fail))
          (go_big_quiet_step ((go_at_call 121; exact calls_later_same (HM2.out _))))
          iterate 4 (go_big_quiet_step (fail))
          (go_big_quiet_step ((go_at_call 122; exact calls_later_same (HE1.out _))))
          iterate 4 (go_big_quiet_step (fail))
          (go_big_quiet_step ((go_at_call 122; exact calls_later_same (HE2.out _))))
          iterate 2 (go_big_quiet_step (fail))
          (first | (go_big_quiet_want; refine quiet_load_agg 52 _ (by rfl) (w.heap.size) 0 (by rfl) (rwc r) _ r0.out.lt (lrow_cells r0.out) Tryz.underlying52 (by rfl) (info_rw _) ?_; simp only [Act.put, List.setIfInBounds_toArray, List.set_cons_succ, List.set_cons_zero]; go_big_quiet_on) | (go_big_quiet_step (fail)))
          (go_big_quiet_step ((go_at_call 123; exact calls_later (HTC.out _))))
          iterate 2 (go_big_quiet_step (fail))
          (first | (go_big_quiet_want; refine quiet_load_agg 52 _ (by rfl) (w.heap.size) 0 (by rfl) (rwc r) _ r0.out.lt (lrow_cells r0.out) Tryz.underlying52 (by rfl) (info_rw _) ?_; simp only [Act.put, List.setIfInBounds_toArray, List.set_cons_succ, List.set_cons_zero]; go_big_quiet_on) | (go_big_quiet_step (fail)))
          (go_big_quiet_step ((go_at_call 124; exact calls_later (HTE.out _))))
          iterate 2 (go_big_quiet_step (fail))
          (first | (go_big_quiet_want; refine quiet_load_agg 52 _ (by rfl) (w.heap.size) 0 (by rfl) (rwc r) _ r0.out.lt (lrow_cells r0.out) Tryz.underlying52 (by rfl) (info_rw _) ?_; simp only [Act.put, List.setIfInBounds_toArray, List.set_cons_succ, List.set_cons_zero]; go_big_quiet_on) | (go_big_quiet_step (fail)))
          (go_big_quiet_step ((go_at_call 125; exact calls_later (HTD.out _))))
          iterate 2 (go_big_quiet_step (fail))
          refine wpQuiet_nil ?_
          rintro _ ⟨yq, rfl⟩
          go_wp2
          go_ret
          exact ⟨by rw [HV.out]; first | done | rfl, BB.out.trans (yq.2.mono BB.out.size)⟩
      | false =>
        have HV : Hid (Z = false) := (by unfold Hid; first | (rw [HM.out]; done) | (rw [HM.out]; rfl))
        clear HM
        refine wp_region_plain (x0 := Later.start W0) ?_
        iterate 2 (go_big_quiet_step (fail))
        (go_big_quiet_step ((go_at_call 61; exact calls_later_same (HKD.out _))))
        iterate 3 (go_big_quiet_step (fail))
        (go_big_quiet_step ((go_at_call 121; exact calls_later_same (HM1.out _))))
        iterate 4 (go_big_quiet_step (fail))
        (go_big_quiet_step ((go_at_call 121; exact calls_later_same (HM2.out _))))
        iterate 4 (go_big_quiet_step (fail))
        (go_big_quiet_step ((go_at_call 122; exact calls_later_same (HE1.out _))))
        iterate 4 (go_big_quiet_step (fail))
        (go_big_quiet_step ((go_at_call 122; exact calls_later_same (HE2.out _))))
        iterate 2 (go_big_quiet_step (fail))
        (first | (go_big_quiet_want; refine quiet_load_agg 52 _ (by rfl) (w.heap.size) 0 (by rfl) (rwc r) _ r0.out.lt (lrow_cells r0.out) Tryz.underlying52 (by rfl) (info_rw _) ?_; simp only [Act.put, List.setIfInBounds_toArray, List.set_cons_succ, List.set_cons_zero]; go_big_quiet_on) | (go_big_quiet_step (fail)))
        (go_big_quiet_step ((go_at_call 123; exact calls_later (HTC.out _))))
        iterate 2 (go_big_quiet_step (fail))
        (first | (go_big_quiet_want; refine quiet_load_agg 52 _ (by rfl) (w.heap.size) 0 (by rfl) (rwc r) _ r0.out.lt (lrow_cells r0.out) Tryz.underlying52 (by rfl) (info_rw _) ?_; simp only [Act.put, List.setIfInBounds_toArray, List.set_cons_succ, List.set_cons_zero]; go_big_quiet_on) | (go_big_quiet_step (fail)))
        (go_big_quiet_step ((go_at_call 124; exact calls_later (HTE.out _))))
        iterate 2 (go_big_quiet_step (fail))
        (first | (go_big_quiet_want; refine quiet_load_agg 52 _ (by rfl) (w.heap.size) 0 (by rfl) (rwc r) _ r0.out.lt (lrow_cells r0.out) Tryz.underlying52 (by rfl) (info_rw _) ?_; simp only [Act.put, List.setIfInBounds_toArray, List.set_cons_succ, List.set_cons_zero]; go_big_quiet_on) | (go_big_quiet_step (fail)))
        (go_big_quiet_step ((go_at_call 125; exact calls_later (HTD.out _))))
        iterate 2 (go_big_quiet_step (fail))
        refine wpQuiet_nil ?_
        rintro _ ⟨yq, rfl⟩
        go_wp2
        go_ret
        exact ⟨by rw [HV.out]; first | done | rfl, BB.out.trans (yq.2.mono BB.out.size)⟩
    | false =>
      have HV : Hid (Z = false) := (by unfold Hid; first | (rw [HM.out]; done) | (rw [HM.out]; rfl))
      clear HM
      refine wp_region_plain (x0 := Later.start W0) ?_
      iterate 2 (go_big_quiet_step (fail))
      (go_big_quiet_step ((go_at_call 61; exact calls_later_same (HKD.out _))))
      iterate 3 (go_big_quiet_step (fail))
      (go_big_quiet_step ((go_at_call 121; exact calls_later_same (HM1.out _))))
      iterate 4 (go_big_quiet_step (fail))
      (go_big_quiet_step ((go_at_call 121; exact calls_later_same (HM2.out _))))
      iterate 4 (go_big_quiet_step (fail))
      (go_big_quiet_step ((go_at_call 122; exact calls_later_same (HE1.out _))))
      iterate 4 (go_big_quiet_step (fail))
      (go_big_quiet_step ((go_at_call 122; exact calls_later_same (HE2.out _))))
      iterate 2 (go_big_quiet_step (fail))
      (first | (go_big_quiet_want; refine quiet_load_agg 52 _ (by rfl) (w.heap.size) 0 (by rfl) (rwc r) _ r0.out.lt (lrow_cells r0.out) Tryz.underlying52 (by rfl) (info_rw _) ?_; simp only [Act.put, List.setIfInBounds_toArray, List.set_cons_succ, List.set_cons_zero]; go_big_quiet_on) | (go_big_quiet_step (fail)))
      (go_big_quiet_step ((go_at_call 123; exact calls_later (HTC.out _))))
      iterate 2 (go_big_quiet_step (fail))
      (first | (go_big_quiet_want; refine quiet_load_agg 52 _ (by rfl) (w.heap.size) 0 (by rfl) (rwc r) _ r0.out.lt (lrow_cells r0.out) Tryz.underlying52 (by rfl) (info_rw _) ?_; simp only [Act.put, List.setIfInBounds_toArray, List.set_cons_succ, List.set_cons_zero]; go_big_quiet_on) | (go_big_quiet_step (fail)))
      (go_big_quiet_step ((go_at_call 124; exact calls_later (HTE.out _))))
      iterate 2 (go_big_quiet_step (fail))
      (first | (go_big_quiet_want; refine quiet_load_agg 52 _ (by rfl) (w.heap.size) 0 (by rfl) (rwc r) _ r0.out.lt (lrow_cells r0.out) Tryz.underlying52 (by rfl) (info_rw _) ?_; simp only [Act.put, List.setIfInBounds_toArray, List.set_cons_succ, List.set_cons_zero]; go_big_quiet_on) | (go_big_quiet_step (fail)))
      (go_big_quiet_step ((go_at_call 125; exact calls_later (HTD.out _))))
      iterate 2 (go_big_quiet_step (fail))
      refine wpQuiet_nil ?_
      rintro _ ⟨yq, rfl⟩
      go_wp2
      go_ret
      exact ⟨by rw [HV.out]; first | done | rfl, BB.out.trans (yq.2.mono BB.out.size)⟩
  | false =>
    have HV : Hid (Z = false) := (by unfold Hid; first | (rw [HM.out]; done) | (rw [HM.out]; rfl))
    clear HM
    refine wp_region_plain (x0 := Later.start W0) ?_
    iterate 2 (go_big_quiet_step (fail))
    (go_big_quiet_step ((go_at_call 61; exact calls_later_same (HKD.out _))))
    iterate 3 (go_big_quiet_step (fail))
    (go_big_quiet_step ((go_at_call 121; exact calls_later_same (HM1.out _))))
    iterate 4 (go_big_quiet_step (fail))
    (go_big_quiet_step ((go_at_call 121; exact calls_later_same (HM2.out _))))
    iterate 4 (go_big_quiet_step (fail))
    (go_big_quiet_step ((go_at_call 122; exact calls_later_same (HE1.out _))))
    iterate 4 (go_big_quiet_step (fail))
    (go_big_quiet_step ((go_at_call 122; exact calls_later_same (HE2.out _))))
    iterate 2 (go_big_quiet_step (fail))
    (first | (go_big_quiet_want; refine quiet_load_agg 52 _ (by rfl) (w.heap.size) 0 (by rfl) (rwc r) _ r0.out.lt (lrow_cells r0.out) Tryz.underlying52 (by rfl) (info_rw _) ?_; simp only [Act.put, List.setIfInBounds_toArray, List.set_cons_succ, List.set_cons_zero]; go_big_quiet_on) | (go_big_quiet_step (fail)))
    (go_big_quiet_step ((go_at_call 123; exact calls_later (HTC.out _))))
    iterate 2 (go_big_quiet_step (fail))
    (first | (go_big_quiet_want; refine quiet_load_agg 52 _ (by rfl) (w.heap.size) 0 (by rfl) (rwc r) _ r0.out.lt (lrow_cells r0.out) Tryz.underlying52 (by rfl) (info_rw _) ?_; simp only [Act.put, List.setIfInBounds_toArray, List.set_cons_succ, List.set_cons_zero]; go_big_quiet_on) | (go_big_quiet_step (fail)))
    (go_big_quiet_step ((go_at_call 124; exact calls_later (HTE.out _))))
    iterate 2 (go_big_quiet_step (fail))
    (first | (go_big_quiet_want; refine quiet_load_agg 52 _ (by rfl) (w.heap.size) 0 (by rfl) (rwc r) _ r0.out.lt (lrow_cells r0.out) Tryz.underlying52 (by rfl) (info_rw _) ?_; simp only [Act.put, List.setIfInBounds_toArray, List.set_cons_succ, List.set_cons_zero]; go_big_quiet_on) | (go_big_quiet_step (fail)))
    (go_big_quiet_step ((go_at_call 125; exact calls_later (HTD.out _))))
    iterate 2 (go_big_quiet_step (fail))
    refine wpQuiet_nil ?_
    rintro _ ⟨yq, rfl⟩
    go_wp2
    go_ret
    exact ⟨by rw [HV.out]; first | done | rfl, BB.out.trans (yq.2.mono BB.out.size)⟩
def fwB (p r : Rw) : Bool := ((n64 r.pc == n64 p.nx) && (r.md == p.nm))
theorem uFw_c (p r : Rw) (w : World) : Calls Tryz.prog 36 #[.agg (rwc p), .agg (rwc r)] w fun e w' => e = .returned (.bool (fwB p r)) ∧ Below w.heap.size w w' := by
  obtain ⟨W0, hW0, r0, r1, b0, s0⟩ := start2 w (rwc p) (rwc r) 52 52
  have BB := Hid.mkU b0.out
  clear s0 b0
  have HM : Hid ((fwB p r) = ((n64 r.pc == n64 p.nx) && (r.md == p.nm))) := rfl
  have c0_nx : W0.cell? ⟨w.heap.size, 14, none⟩ = some (.int .u64 (n64 p.nx)) := r0.out.cell 14
  have c0_nm : W0.cell? ⟨w.heap.size, 15, none⟩ = some (.int .i64 p.nm) := r0.out.cell 15
  have c1_pc : W0.cell? ⟨w.heap.size + 1, 3, none⟩ = some (.int .u64 (n64 r.pc)) := r1.out.cell 3
  have c1_md : W0.cell? ⟨w.heap.size + 1, 2, none⟩ = some (.int .i64 r.md) := r1.out.cell 2
  generalize hZ : (fwB p r) = Z at HM ⊢
  clear hZ
  go_enter Tryz.func36, Tryz.ntmps36
  go_upto_region 1 with fail
  clear hW0
  cases q1 : (n64 r.pc == n64 p.nx) with
  | true =>
    cases q2 : (r.md == p.nm) with
    | true =>
      have HV : Hid (Z = true) := (by unfold Hid; rw [HM.out]; first | (rw [q1, q2]; done) | (rw [q1, q2]; rfl))
      clear HM
      go_wp2
      go_ret
      exact ⟨by rw [HV.out]; first | done | rfl, BB.out⟩
    | false =>
      have HV : Hid (Z = false) := (by unfold Hid; rw [HM.out]; first | (rw [q1, q2]; done) | (rw [q1, q2]; rfl))
      clear HM
      go_wp2
      go_ret
      exact ⟨by rw [HV.out]; first | done | rfl, BB.out⟩
  | false =>
    have HV : Hid (Z = false) := (by unfold Hid; rw [HM.out]; first | (rw [q1]; done) | (rw [q1]; rfl))
    clear HM
    go_wp2
    go_ret
    exact ⟨by rw [HV.out]; first | done | rfl, BB.out⟩
def syB (r : Rw) : Bool := ((n64 r.nx == n64 r.pc) && (r.nm == r.md))
theorem uSy_c (r : Rw) (w : World) : Calls Tryz.prog 40 #[.agg (rwc r)] w fun e w' => e = .returned (.bool (syB r)) ∧ Below w.heap.size w w' := by
  obtain ⟨W0, hW0, r0, b0, s0⟩ := start1 w (rwc r) 52
  have BB := Hid.mkU b0.out
  clear s0 b0
  have HM : Hid ((syB r) = ((n64 r.nx == n64 r.pc) && (r.nm == r.md))) := rfl
  have c0_nx : W0.cell? ⟨w.heap.size, 14, none⟩ = some (.int .u64 (n64 r.nx)) := r0.out.cell 14
  have c0_nm : W0.cell? ⟨w.heap.size, 15, none⟩ = some (.int .i64 r.nm) := r0.out.cell 15
  have c0_pc : W0.cell? ⟨w.heap.size, 3, none⟩ = some (.int .u64 (n64 r.pc)) := r0.out.cell 3
  have c0_md : W0.cell? ⟨w.heap.size, 2, none⟩ = some (.int .i64 r.md) := r0.out.cell 2
  generalize hZ : (syB r) = Z at HM ⊢
  clear hZ
  go_enter Tryz.func40, Tryz.ntmps40
  go_upto_region 1 with fail
  clear hW0
  cases q1 : (n64 r.nx == n64 r.pc) with
  | true =>
    cases q2 : (r.nm == r.md) with
    | true =>
      have HV : Hid (Z = true) := (by unfold Hid; rw [HM.out]; first | (rw [q1, q2]; done) | (rw [q1, q2]; rfl))
      clear HM
      go_wp2
      go_ret
      exact ⟨by rw [HV.out]; first | done | rfl, BB.out⟩
    | false =>
      have HV : Hid (Z = false) := (by unfold Hid; rw [HM.out]; first | (rw [q1, q2]; done) | (rw [q1, q2]; rfl))
      clear HM
      go_wp2
      go_ret
      exact ⟨by rw [HV.out]; first | done | rfl, BB.out⟩
  | false =>
    have HV : Hid (Z = false) := (by unfold Hid; rw [HM.out]; first | (rw [q1]; done) | (rw [q1]; rfl))
    clear HM
    go_wp2
    go_ret
    exact ⟨by rw [HV.out]; first | done | rfl, BB.out⟩
def tuB (r : Rw) : Bool := ((((r.kd == 4) && (syB r)) || (((!(r.kd == 4)) && ((r.kd == 2) || (r.kd == 3))) && (r.nm == 3))) || ((((!(r.kd == 4)) && (!(r.kd == 2))) && (!(r.kd == 3))) && ((!(r.kd == 1)) || ((r.kd == 1) && ((r.nm == r.md) || (lvB r r.md r.nm))))))
theorem uTu_c (r : Rw) (w : World) : Calls Tryz.prog 42 #[.agg (rwc r)] w fun e w' => e = .returned (.bool (tuB r)) ∧ Below w.heap.size w w' := by
  obtain ⟨W0, hW0, r0, b0, s0⟩ := start1 w (rwc r) 52
  have BB := Hid.mkU b0.out
  clear s0 b0
  have HM : Hid ((tuB r) = ((((r.kd == 4) && (syB r)) || (((!(r.kd == 4)) && ((r.kd == 2) || (r.kd == 3))) && (r.nm == 3))) || ((((!(r.kd == 4)) && (!(r.kd == 2))) && (!(r.kd == 3))) && ((!(r.kd == 1)) || ((r.kd == 1) && ((r.nm == r.md) || (lvB r r.md r.nm))))))) := rfl
  have c0_kd : W0.cell? ⟨w.heap.size, 1, none⟩ = some (.int .i64 r.kd) := r0.out.cell 1
  have c0_md : W0.cell? ⟨w.heap.size, 2, none⟩ = some (.int .i64 r.md) := r0.out.cell 2
  have c0_nm : W0.cell? ⟨w.heap.size, 15, none⟩ = some (.int .i64 r.nm) := r0.out.cell 15
  have HSY : Hid (∀ W, Calls Tryz.prog 40 #[.agg (rwc r)] W fun e w' => e = .returned (.bool (syB r)) ∧ Below W.heap.size W w') := fun W => uSy_c r W
  have HLV : Hid (∀ W, Calls Tryz.prog 126 #[.agg (rwc r), .int .i64 r.md, .int .i64 r.nm] W fun e w' => e = .returned (.bool (lvB r r.md r.nm)) ∧ Below W.heap.size W w') := fun W => uLv_c r r.md r.nm W
  generalize hZ : (tuB r) = Z at HM ⊢
  clear hZ
  generalize syB r = z1 at *
  generalize lvB r r.md r.nm = z7 at *
  go_enter Tryz.func42, Tryz.ntmps42
  go_upto_region 1 with fail
  clear hW0
  cases q1 : (r.kd == 4) with
  | true =>
    cases z1 with
    | true =>
      have HV : Hid (Z = true) := (by unfold Hid; rw [HM.out]; first | (rw [q1]; done) | (rw [q1]; rfl))
      clear HM
      go_wp2_with (first | (refine wpList_load_row (by rfl) _ _ (by rfl) _ (by rfl) 52 _ (0, 0) _ r0.out Tryz.underlying52 (by rfl) (info_rw _) ?_) | (refine wpList_load_rowG (by rfl) 52 _ (by rfl) _ (by rfl) 52 _ (0, 0) _ r0.out Tryz.underlying52 (by rfl) (info_rw _) ?_) | (go_at_call 40; refine (HSY.out _).mono ?_; rintro e w1 ⟨rfl, hb1⟩; have HB1 : Hid (Below W0.heap.size W0 w1) := hb1; clear hb1) | (go_at_call 126; refine (HLV.out _).mono ?_; rintro e w1 ⟨rfl, hb1⟩; have HB1 : Hid (Below W0.heap.size W0 w1) := hb1; clear hb1))
      go_ret
      exact ⟨by rw [HV.out]; first | done | rfl, (by first | exact BB.out | exact BB.out.trans (HB1.out.mono BB.out.size))⟩
    | false =>
      have HV : Hid (Z = false) := (by unfold Hid; rw [HM.out]; first | (rw [q1]; done) | (rw [q1]; rfl))
      clear HM
      go_wp2_with (first | (refine wpList_load_row (by rfl) _ _ (by rfl) _ (by rfl) 52 _ (0, 0) _ r0.out Tryz.underlying52 (by rfl) (info_rw _) ?_) | (refine wpList_load_rowG (by rfl) 52 _ (by rfl) _ (by rfl) 52 _ (0, 0) _ r0.out Tryz.underlying52 (by rfl) (info_rw _) ?_) | (go_at_call 40; refine (HSY.out _).mono ?_; rintro e w1 ⟨rfl, hb1⟩; have HB1 : Hid (Below W0.heap.size W0 w1) := hb1; clear hb1) | (go_at_call 126; refine (HLV.out _).mono ?_; rintro e w1 ⟨rfl, hb1⟩; have HB1 : Hid (Below W0.heap.size W0 w1) := hb1; clear hb1))
      go_ret
      exact ⟨by rw [HV.out]; first | done | rfl, (by first | exact BB.out | exact BB.out.trans (HB1.out.mono BB.out.size))⟩
  | false =>
    cases q2 : (r.kd == 2) with
    | true =>
      cases q3 : (r.nm == 3) with
      | true =>
        have HV : Hid (Z = true) := (by unfold Hid; rw [HM.out]; first | (rw [q1, q2, q3]; done) | (rw [q1, q2, q3]; rfl))
        clear HM
        go_wp2_with (first | (refine wpList_load_row (by rfl) _ _ (by rfl) _ (by rfl) 52 _ (0, 0) _ r0.out Tryz.underlying52 (by rfl) (info_rw _) ?_) | (refine wpList_load_rowG (by rfl) 52 _ (by rfl) _ (by rfl) 52 _ (0, 0) _ r0.out Tryz.underlying52 (by rfl) (info_rw _) ?_) | (go_at_call 40; refine (HSY.out _).mono ?_; rintro e w1 ⟨rfl, hb1⟩; have HB1 : Hid (Below W0.heap.size W0 w1) := hb1; clear hb1) | (go_at_call 126; refine (HLV.out _).mono ?_; rintro e w1 ⟨rfl, hb1⟩; have HB1 : Hid (Below W0.heap.size W0 w1) := hb1; clear hb1))
        go_ret
        exact ⟨by rw [HV.out]; first | done | rfl, (by first | exact BB.out | exact BB.out.trans (HB1.out.mono BB.out.size))⟩
      | false =>
        have HV : Hid (Z = false) := (by unfold Hid; rw [HM.out]; first | (rw [q1, q2, q3]; done) | (rw [q1, q2, q3]; rfl))
        clear HM
        go_wp2_with (first | (refine wpList_load_row (by rfl) _ _ (by rfl) _ (by rfl) 52 _ (0, 0) _ r0.out Tryz.underlying52 (by rfl) (info_rw _) ?_) | (refine wpList_load_rowG (by rfl) 52 _ (by rfl) _ (by rfl) 52 _ (0, 0) _ r0.out Tryz.underlying52 (by rfl) (info_rw _) ?_) | (go_at_call 40; refine (HSY.out _).mono ?_; rintro e w1 ⟨rfl, hb1⟩; have HB1 : Hid (Below W0.heap.size W0 w1) := hb1; clear hb1) | (go_at_call 126; refine (HLV.out _).mono ?_; rintro e w1 ⟨rfl, hb1⟩; have HB1 : Hid (Below W0.heap.size W0 w1) := hb1; clear hb1))
        go_ret
        exact ⟨by rw [HV.out]; first | done | rfl, (by first | exact BB.out | exact BB.out.trans (HB1.out.mono BB.out.size))⟩
    | false =>
      cases q4 : (r.kd == 3) with
      | true =>
        cases q5 : (r.nm == 3) with
        | true =>
          have HV : Hid (Z = true) := (by unfold Hid; rw [HM.out]; first | (rw [q1, q2, q4, q5]; done) | (rw [q1, q2, q4, q5]; rfl))
          clear HM
          go_wp2_with (first | (refine wpList_load_row (by rfl) _ _ (by rfl) _ (by rfl) 52 _ (0, 0) _ r0.out Tryz.underlying52 (by rfl) (info_rw _) ?_) | (refine wpList_load_rowG (by rfl) 52 _ (by rfl) _ (by rfl) 52 _ (0, 0) _ r0.out Tryz.underlying52 (by rfl) (info_rw _) ?_) | (go_at_call 40; refine (HSY.out _).mono ?_; rintro e w1 ⟨rfl, hb1⟩; have HB1 : Hid (Below W0.heap.size W0 w1) := hb1; clear hb1) | (go_at_call 126; refine (HLV.out _).mono ?_; rintro e w1 ⟨rfl, hb1⟩; have HB1 : Hid (Below W0.heap.size W0 w1) := hb1; clear hb1))
          go_ret
          exact ⟨by rw [HV.out]; first | done | rfl, (by first | exact BB.out | exact BB.out.trans (HB1.out.mono BB.out.size))⟩
        | false =>
          have HV : Hid (Z = false) := (by unfold Hid; rw [HM.out]; first | (rw [q1, q2, q4, q5]; done) | (rw [q1, q2, q4, q5]; rfl))
          clear HM
          go_wp2_with (first | (refine wpList_load_row (by rfl) _ _ (by rfl) _ (by rfl) 52 _ (0, 0) _ r0.out Tryz.underlying52 (by rfl) (info_rw _) ?_) | (refine wpList_load_rowG (by rfl) 52 _ (by rfl) _ (by rfl) 52 _ (0, 0) _ r0.out Tryz.underlying52 (by rfl) (info_rw _) ?_) | (go_at_call 40; refine (HSY.out _).mono ?_; rintro e w1 ⟨rfl, hb1⟩; have HB1 : Hid (Below W0.heap.size W0 w1) := hb1; clear hb1) | (go_at_call 126; refine (HLV.out _).mono ?_; rintro e w1 ⟨rfl, hb1⟩; have HB1 : Hid (Below W0.heap.size W0 w1) := hb1; clear hb1))
          go_ret
          exact ⟨by rw [HV.out]; first | done | rfl, (by first | exact BB.out | exact BB.out.trans (HB1.out.mono BB.out.size))⟩
      | false =>
        cases q6 : (r.kd == 1) with
        | true =>
          cases q7 : (r.nm == r.md) with
          | true =>
            have HV : Hid (Z = true) := (by unfold Hid; rw [HM.out]; first | (rw [q1, q2, q4, q6, q7]; done) | (rw [q1, q2, q4, q6, q7]; rfl))
            clear HM
            go_wp2_with (first | (refine wpList_load_row (by rfl) _ _ (by rfl) _ (by rfl) 52 _ (0, 0) _ r0.out Tryz.underlying52 (by rfl) (info_rw _) ?_) | (refine wpList_load_rowG (by rfl) 52 _ (by rfl) _ (by rfl) 52 _ (0, 0) _ r0.out Tryz.underlying52 (by rfl) (info_rw _) ?_) | (go_at_call 40; refine (HSY.out _).mono ?_; rintro e w1 ⟨rfl, hb1⟩; have HB1 : Hid (Below W0.heap.size W0 w1) := hb1; clear hb1) | (go_at_call 126; refine (HLV.out _).mono ?_; rintro e w1 ⟨rfl, hb1⟩; have HB1 : Hid (Below W0.heap.size W0 w1) := hb1; clear hb1))
            go_ret
            exact ⟨by rw [HV.out]; first | done | rfl, (by first | exact BB.out | exact BB.out.trans (HB1.out.mono BB.out.size))⟩
          | false =>
            cases z7 with
            | true =>
              have HV : Hid (Z = true) := (by unfold Hid; rw [HM.out]; first | (rw [q1, q2, q4, q6, q7]; done) | (rw [q1, q2, q4, q6, q7]; rfl))
              clear HM
              go_wp2_with (first | (refine wpList_load_row (by rfl) _ _ (by rfl) _ (by rfl) 52 _ (0, 0) _ r0.out Tryz.underlying52 (by rfl) (info_rw _) ?_) | (refine wpList_load_rowG (by rfl) 52 _ (by rfl) _ (by rfl) 52 _ (0, 0) _ r0.out Tryz.underlying52 (by rfl) (info_rw _) ?_) | (go_at_call 40; refine (HSY.out _).mono ?_; rintro e w1 ⟨rfl, hb1⟩; have HB1 : Hid (Below W0.heap.size W0 w1) := hb1; clear hb1) | (go_at_call 126; refine (HLV.out _).mono ?_; rintro e w1 ⟨rfl, hb1⟩; have HB1 : Hid (Below W0.heap.size W0 w1) := hb1; clear hb1))
              go_ret
              exact ⟨by rw [HV.out]; first | done | rfl, (by first | exact BB.out | exact BB.out.trans (HB1.out.mono BB.out.size))⟩
            | false =>
              have HV : Hid (Z = false) := (by unfold Hid; rw [HM.out]; first | (rw [q1, q2, q4, q6, q7]; done) | (rw [q1, q2, q4, q6, q7]; rfl))
              clear HM
              go_wp2_with (first | (refine wpList_load_row (by rfl) _ _ (by rfl) _ (by rfl) 52 _ (0, 0) _ r0.out Tryz.underlying52 (by rfl) (info_rw _) ?_) | (refine wpList_load_rowG (by rfl) 52 _ (by rfl) _ (by rfl) 52 _ (0, 0) _ r0.out Tryz.underlying52 (by rfl) (info_rw _) ?_) | (go_at_call 40; refine (HSY.out _).mono ?_; rintro e w1 ⟨rfl, hb1⟩; have HB1 : Hid (Below W0.heap.size W0 w1) := hb1; clear hb1) | (go_at_call 126; refine (HLV.out _).mono ?_; rintro e w1 ⟨rfl, hb1⟩; have HB1 : Hid (Below W0.heap.size W0 w1) := hb1; clear hb1))
              go_ret
              exact ⟨by rw [HV.out]; first | done | rfl, (by first | exact BB.out | exact BB.out.trans (HB1.out.mono BB.out.size))⟩
        | false =>
          have HV : Hid (Z = true) := (by unfold Hid; rw [HM.out]; first | (rw [q1, q2, q4, q6]; done) | (rw [q1, q2, q4, q6]; rfl))
          clear HM
          go_wp2_with (first | (refine wpList_load_row (by rfl) _ _ (by rfl) _ (by rfl) 52 _ (0, 0) _ r0.out Tryz.underlying52 (by rfl) (info_rw _) ?_) | (refine wpList_load_rowG (by rfl) 52 _ (by rfl) _ (by rfl) 52 _ (0, 0) _ r0.out Tryz.underlying52 (by rfl) (info_rw _) ?_) | (go_at_call 40; refine (HSY.out _).mono ?_; rintro e w1 ⟨rfl, hb1⟩; have HB1 : Hid (Below W0.heap.size W0 w1) := hb1; clear hb1) | (go_at_call 126; refine (HLV.out _).mono ?_; rintro e w1 ⟨rfl, hb1⟩; have HB1 : Hid (Below W0.heap.size W0 w1) := hb1; clear hb1))
          go_ret
          exact ⟨by rw [HV.out]; first | done | rfl, (by first | exact BB.out | exact BB.out.trans (HB1.out.mono BB.out.size))⟩
end Go.Proofs.YtidfndgedopghaaGreatDoor
