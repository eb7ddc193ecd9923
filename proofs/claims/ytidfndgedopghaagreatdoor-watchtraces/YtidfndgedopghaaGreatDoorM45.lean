/-
  Ur.
-/
import Derived.Test.YtidfndgedopghaaGreatDoorM44
namespace Go.Proofs.YtidfndgedopghaaGreatDoor
set_option linter.unusedVariables false
set_option maxRecDepth 100000
set_option maxHeartbeats 4000000
open Go.ChangeShapes Go.WideShapes Go.ChangeAt Go.RowKit Go.Deep
def rf1 (r : Rw) : Bool := ((((((decide (r.kd < 1)) || (decide (5 < r.kd))) || ((r.md != 0) && (r.md != 3))) || ((r.nm != 0) && (r.nm != 3))) || ((n64 r.pc).tmod 2 != 0)) || ((n64 r.nx).tmod 2 != 0))
def rf2 (r : Rw) : Bool := ((((!(tpB r)) && ((n64 r.ca != 0) || (n64 r.tv != 0))) || (((n64 r.ca / 9223372036854775808 == 1) && (!(r.kd == 3))) || ((!(n64 r.ca / 9223372036854775808 == 1)) && (r.kd == 3)))) || ((r.kd == 3) && (n64 r.tv != 0)))
def rf3 (r : Rw) : Bool := ((((decide (3 ≤ r.kd)) && ((r.raw != 0) || (r.len != 0))) || (((r.len != 0) && (r.len != 2)) && (r.len != 4))) || ((r.kd == 1) && (r.len == 0)))
def rnt (r : Rw) : Bool := ((((((r.rd == 0) && (n64 r.val == 0)) && (r.mem == 0)) && (n64 r.ad == 0)) && (r.sz == 0)) && (n64 r.dat == 0))
def rf5 (r : Rw) : Bool := ((((r.rd != 0) || (n64 r.val == 0)) && ((r.mem != 0) || (((n64 r.ad == 0) && (r.sz == 0)) && (n64 r.dat == 0)))) && ((r.mem != 1) || (n64 r.dat == 0)))
def rfB (r : Rw) : Bool := if rf1 r then false else if rf2 r then false else if rf3 r then false else if r.kd != 1 then rnt r else rf5 r
set_option maxHeartbeats 16000000 in
theorem rfields_c (r : Rw) (w : World) : Calls Tryz.prog 44 #[.agg (rwc r)] w fun e w' => e = .returned (.bool (rfB r)) ∧ Below w.heap.size w w' := by
  obtain ⟨W0, hW0, r0, b0, s0⟩ := start1 w (rwc r) 52
  have BB := Hid.mkU b0.out
  clear s0 b0
  have c_kd : W0.cell? ⟨w.heap.size, 1, none⟩ = some (.int .i64 r.kd) := r0.out.cell 1
  have c_md : W0.cell? ⟨w.heap.size, 2, none⟩ = some (.int .i64 r.md) := r0.out.cell 2
  have c_pc : W0.cell? ⟨w.heap.size, 3, none⟩ = some (.int .u64 (n64 r.pc)) := r0.out.cell 3
  have c_raw : W0.cell? ⟨w.heap.size, 4, none⟩ = some (.int .u32 r.raw) := r0.out.cell 4
  have c_len : W0.cell? ⟨w.heap.size, 5, none⟩ = some (.int .i64 r.len) := r0.out.cell 5
  have c_ca : W0.cell? ⟨w.heap.size, 6, none⟩ = some (.int .u64 (n64 r.ca)) := r0.out.cell 6
  have c_tv : W0.cell? ⟨w.heap.size, 7, none⟩ = some (.int .u64 (n64 r.tv)) := r0.out.cell 7
  have c_rd : W0.cell? ⟨w.heap.size, 8, none⟩ = some (.int .i64 r.rd) := r0.out.cell 8
  have c_val : W0.cell? ⟨w.heap.size, 9, none⟩ = some (.int .u64 (n64 r.val)) := r0.out.cell 9
  have c_mem : W0.cell? ⟨w.heap.size, 10, none⟩ = some (.int .i64 r.mem) := r0.out.cell 10
  have c_ad : W0.cell? ⟨w.heap.size, 11, none⟩ = some (.int .u64 (n64 r.ad)) := r0.out.cell 11
  have c_sz : W0.cell? ⟨w.heap.size, 12, none⟩ = some (.int .i64 r.sz) := r0.out.cell 12
  have c_dat : W0.cell? ⟨w.heap.size, 13, none⟩ = some (.int .u64 (n64 r.dat)) := r0.out.cell 13
  have c_nx : W0.cell? ⟨w.heap.size, 14, none⟩ = some (.int .u64 (n64 r.nx)) := r0.out.cell 14
  have c_nm : W0.cell? ⟨w.heap.size, 15, none⟩ = some (.int .i64 r.nm) := r0.out.cell 15
  have HR : Hid (rfB r = if rf1 r then false else if rf2 r then false else if rf3 r then false else if r.kd != 1 then rnt r else rf5 r) := rfl
  generalize rfB r = ZZ at HR ⊢
  go_enter Tryz.func44, Tryz.ntmps44
  go_upto_region 1 with fail
  clear hW0
  go_cut [44] from 5 to 43 (fun v wx => v = .bool (rf1 r) ∧ wx = W0)
  case first =>
    have HM : Hid (rf1 r = ((((((decide (r.kd < 1)) || (decide (5 < r.kd))) || ((r.md != 0) && (r.md != 3))) || ((r.nm != 0) && (r.nm != 3))) || ((n64 r.pc).tmod 2 != 0)) || ((n64 r.nx).tmod 2 != 0))) := rfl
    cases q1 : (decide (r.kd < 1)) with
    | true =>
      have HV : Hid (rf1 r = true) := (by unfold Hid; rw [HM.out]; first | (simp only [q1]; done) | (simp only [q1]; rfl) | rfl)
      clear HM
      go_wp2
      go_meet
      exact ⟨by rw [HV.out]; first | done | rfl, rfl⟩
    | false =>
      cases q2 : (decide (5 < r.kd)) with
      | true =>
        have HV : Hid (rf1 r = true) := (by unfold Hid; rw [HM.out]; first | (simp only [q1, q2]; done) | (simp only [q1, q2]; rfl) | rfl)
        clear HM
        go_wp2
        go_meet
        exact ⟨by rw [HV.out]; first | done | rfl, rfl⟩
      | false =>
        cases q3 : (r.md != 0) with
        | true =>
          cases q4 : (r.md != 3) with
          | true =>
            have HV : Hid (rf1 r = true) := (by unfold Hid; rw [HM.out]; first | (simp only [q1, q2, q3, q4]; done) | (simp only [q1, q2, q3, q4]; rfl) | rfl)
            clear HM
            go_wp2
            go_meet
            exact ⟨by rw [HV.out]; first | done | rfl, rfl⟩
          | false =>
            cases q5 : (r.nm != 0) with
            | true =>
              cases q6 : (r.nm != 3) with
              | true =>
                have HV : Hid (rf1 r = true) := (by unfold Hid; rw [HM.out]; first | (simp only [q1, q2, q3, q4, q5, q6]; done) | (simp only [q1, q2, q3, q4, q5, q6]; rfl) | rfl)
                clear HM
                go_wp2
                go_meet
                exact ⟨by rw [HV.out]; first | done | rfl, rfl⟩
              | false =>
                cases q7 : ((n64 r.pc).tmod 2 != 0) with
                | true =>
                  have HV : Hid (rf1 r = true) := (by unfold Hid; rw [HM.out]; first | (simp only [q1, q2, q3, q4, q5, q6, q7]; done) | (simp only [q1, q2, q3, q4, q5, q6, q7]; rfl) | rfl)
                  clear HM
                  go_wp2
                  go_meet
                  exact ⟨by rw [HV.out]; first | done | rfl, rfl⟩
                | false =>
                  cases q8 : ((n64 r.nx).tmod 2 != 0) with
                  | true =>
                    have HV : Hid (rf1 r = true) := (by unfold Hid; rw [HM.out]; first | (simp only [q1, q2, q3, q4, q5, q6, q7, q8]; done) | (simp only [q1, q2, q3, q4, q5, q6, q7, q8]; rfl) | rfl)
                    clear HM
                    go_wp2
                    go_meet
                    exact ⟨by rw [HV.out]; first | done | rfl, rfl⟩
                  | false =>
                    have HV : Hid (rf1 r = false) := (by unfold Hid; rw [HM.out]; first | (simp only [q1, q2, q3, q4, q5, q6, q7, q8]; done) | (simp only [q1, q2, q3, q4, q5, q6, q7, q8]; rfl) | rfl)
                    clear HM
                    go_wp2
                    go_meet
                    exact ⟨by rw [HV.out]; first | done | rfl, rfl⟩
            | false =>
              cases q9 : ((n64 r.pc).tmod 2 != 0) with
              | true =>
                have HV : Hid (rf1 r = true) := (by unfold Hid; rw [HM.out]; first | (simp only [q1, q2, q3, q4, q5, q9]; done) | (simp only [q1, q2, q3, q4, q5, q9]; rfl) | rfl)
                clear HM
                go_wp2
                go_meet
                exact ⟨by rw [HV.out]; first | done | rfl, rfl⟩
              | false =>
                cases q10 : ((n64 r.nx).tmod 2 != 0) with
                | true =>
                  have HV : Hid (rf1 r = true) := (by unfold Hid; rw [HM.out]; first | (simp only [q1, q2, q3, q4, q5, q9, q10]; done) | (simp only [q1, q2, q3, q4, q5, q9, q10]; rfl) | rfl)
                  clear HM
                  go_wp2
                  go_meet
                  exact ⟨by rw [HV.out]; first | done | rfl, rfl⟩
                | false =>
                  have HV : Hid (rf1 r = false) := (by unfold Hid; rw [HM.out]; first | (simp only [q1, q2, q3, q4, q5, q9, q10]; done) | (simp only [q1, q2, q3, q4, q5, q9, q10]; rfl) | rfl)
                  clear HM
                  go_wp2
                  go_meet
                  exact ⟨by rw [HV.out]; first | done | rfl, rfl⟩
        | false =>
          cases q11 : (r.nm != 0) with
          | true =>
            cases q12 : (r.nm != 3) with
            | true =>
              have HV : Hid (rf1 r = true) := (by unfold Hid; rw [HM.out]; first | (simp only [q1, q2, q3, q11, q12]; done) | (simp only [q1, q2, q3, q11, q12]; rfl) | rfl)
              clear HM
              go_wp2
              go_meet
              exact ⟨by rw [HV.out]; first | done | rfl, rfl⟩
            | false =>
              cases q13 : ((n64 r.pc).tmod 2 != 0) with
              | true =>
                have HV : Hid (rf1 r = true) := (by unfold Hid; rw [HM.out]; first | (simp only [q1, q2, q3, q11, q12, q13]; done) | (simp only [q1, q2, q3, q11, q12, q13]; rfl) | rfl)
                clear HM
                go_wp2
                go_meet
                exact ⟨by rw [HV.out]; first | done | rfl, rfl⟩
              | false =>
                cases q14 : ((n64 r.nx).tmod 2 != 0) with
                | true =>
                  have HV : Hid (rf1 r = true) := (by unfold Hid; rw [HM.out]; first | (simp only [q1, q2, q3, q11, q12, q13, q14]; done) | (simp only [q1, q2, q3, q11, q12, q13, q14]; rfl) | rfl)
                  clear HM
                  go_wp2
                  go_meet
                  exact ⟨by rw [HV.out]; first | done | rfl, rfl⟩
                | false =>
                  have HV : Hid (rf1 r = false) := (by unfold Hid; rw [HM.out]; first | (simp only [q1, q2, q3, q11, q12, q13, q14]; done) | (simp only [q1, q2, q3, q11, q12, q13, q14]; rfl) | rfl)
                  clear HM
                  go_wp2
                  go_meet
                  exact ⟨by rw [HV.out]; first | done | rfl, rfl⟩
          | false =>
            cases q15 : ((n64 r.pc).tmod 2 != 0) with
            | true =>
              have HV : Hid (rf1 r = true) := (by unfold Hid; rw [HM.out]; first | (simp only [q1, q2, q3, q11, q15]; done) | (simp only [q1, q2, q3, q11, q15]; rfl) | rfl)
              clear HM
              go_wp2
              go_meet
              exact ⟨by rw [HV.out]; first | done | rfl, rfl⟩
            | false =>
              cases q16 : ((n64 r.nx).tmod 2 != 0) with
              | true =>
                have HV : Hid (rf1 r = true) := (by unfold Hid; rw [HM.out]; first | (simp only [q1, q2, q3, q11, q15, q16]; done) | (simp only [q1, q2, q3, q11, q15, q16]; rfl) | rfl)
                clear HM
                go_wp2
                go_meet
                exact ⟨by rw [HV.out]; first | done | rfl, rfl⟩
              | false =>
                have HV : Hid (rf1 r = false) := (by unfold Hid; rw [HM.out]; first | (simp only [q1, q2, q3, q11, q15, q16]; done) | (simp only [q1, q2, q3, q11, q15, q16]; rfl) | rfl)
                clear HM
                go_wp2
                go_meet
                exact ⟨by rw [HV.out]; first | done | rfl, rfl⟩
  case rest =>
    obtain ⟨rfl, hwc⟩ := hcut
    have hwd := hwc.symm
    subst hwd
    clear hwc
    generalize rf1 r = q1 at *
    cases q1 with
    | true =>
      go_wp2
      go_ret
      exact ⟨by rw [HR.out]; first | done | rfl, BB.out⟩
    | false =>
      go_upto_region 3 with fail
      go_cut [3] from 45 to 52 (fun v wx => v = .bool (tpB r) ∧ wx = W0)
      case first =>
        have HM : Hid (tpB r = ((r.kd == 2) || (r.kd == 3))) := rfl
        cases q1 : (r.kd == 2) with
        | true =>
          have HV : Hid (tpB r = true) := (by unfold Hid; rw [HM.out]; first | (simp only [q1]; done) | (simp only [q1]; rfl) | rfl)
          clear HM
          go_wp2
          go_meet
          exact ⟨by rw [HV.out]; first | done | rfl, rfl⟩
        | false =>
          cases q2 : (r.kd == 3) with
          | true =>
            have HV : Hid (tpB r = true) := (by unfold Hid; rw [HM.out]; first | (simp only [q1, q2]; done) | (simp only [q1, q2]; rfl) | rfl)
            clear HM
            go_wp2
            go_meet
            exact ⟨by rw [HV.out]; first | done | rfl, rfl⟩
          | false =>
            have HV : Hid (tpB r = false) := (by unfold Hid; rw [HM.out]; first | (simp only [q1, q2]; done) | (simp only [q1, q2]; rfl) | rfl)
            clear HM
            go_wp2
            go_meet
            exact ⟨by rw [HV.out]; first | done | rfl, rfl⟩
      case rest =>
        obtain ⟨rfl, hwc⟩ := hcut
        have hwd := hwc.symm
        subst hwd
        clear hwc
        go_upto_region 4 with fail
        go_cut [84] from 53 to 83 (fun v wx => v = .bool (rf2 r) ∧ wx = W0)
        case first =>
          have HM : Hid (rf2 r = ((((!(tpB r)) && ((n64 r.ca != 0) || (n64 r.tv != 0))) || (((n64 r.ca / 9223372036854775808 == 1) && (!(r.kd == 3))) || ((!(n64 r.ca / 9223372036854775808 == 1)) && (r.kd == 3)))) || ((r.kd == 3) && (n64 r.tv != 0)))) := rfl
          generalize tpB r = zt at *
          cases zt with
          | true =>
            cases q1 : (n64 r.ca / 9223372036854775808 == 1) with
            | true =>
              cases q2 : (r.kd == 3) with
              | true =>
                cases q3 : (n64 r.tv != 0) with
                | true =>
                  have HV : Hid (rf2 r = true) := (by unfold Hid; rw [HM.out]; first | (simp only [q1, q2, q3]; done) | (simp only [q1, q2, q3]; rfl) | rfl)
                  clear HM
                  go_wp2
                  go_meet
                  exact ⟨by rw [HV.out]; first | done | rfl, rfl⟩
                | false =>
                  have HV : Hid (rf2 r = false) := (by unfold Hid; rw [HM.out]; first | (simp only [q1, q2, q3]; done) | (simp only [q1, q2, q3]; rfl) | rfl)
                  clear HM
                  go_wp2
                  go_meet
                  exact ⟨by rw [HV.out]; first | done | rfl, rfl⟩
              | false =>
                have HV : Hid (rf2 r = true) := (by unfold Hid; rw [HM.out]; first | (simp only [q1, q2]; done) | (simp only [q1, q2]; rfl) | rfl)
                clear HM
                go_wp2
                go_meet
                exact ⟨by rw [HV.out]; first | done | rfl, rfl⟩
            | false =>
              cases q4 : (r.kd == 3) with
              | true =>
                have HV : Hid (rf2 r = true) := (by unfold Hid; rw [HM.out]; first | (simp only [q1, q4]; done) | (simp only [q1, q4]; rfl) | rfl)
                clear HM
                go_wp2
                go_meet
                exact ⟨by rw [HV.out]; first | done | rfl, rfl⟩
              | false =>
                have HV : Hid (rf2 r = false) := (by unfold Hid; rw [HM.out]; first | (simp only [q1, q4]; done) | (simp only [q1, q4]; rfl) | rfl)
                clear HM
                go_wp2
                go_meet
                exact ⟨by rw [HV.out]; first | done | rfl, rfl⟩
          | false =>
            cases q5 : (n64 r.ca != 0) with
            | true =>
              have HV : Hid (rf2 r = true) := (by unfold Hid; rw [HM.out]; first | (simp only [q5]; done) | (simp only [q5]; rfl) | rfl)
              clear HM
              go_wp2
              go_meet
              exact ⟨by rw [HV.out]; first | done | rfl, rfl⟩
            | false =>
              cases q6 : (n64 r.tv != 0) with
              | true =>
                have HV : Hid (rf2 r = true) := (by unfold Hid; rw [HM.out]; first | (simp only [q5, q6]; done) | (simp only [q5, q6]; rfl) | rfl)
                clear HM
                go_wp2
                go_meet
                exact ⟨by rw [HV.out]; first | done | rfl, rfl⟩
              | false =>
                cases q7 : (n64 r.ca / 9223372036854775808 == 1) with
                | true =>
                  cases q8 : (r.kd == 3) with
                  | true =>
                    have HV : Hid (rf2 r = false) := (by unfold Hid; rw [HM.out]; first | (simp only [q5, q6, q7, q8]; done) | (simp only [q5, q6, q7, q8]; rfl) | rfl)
                    clear HM
                    go_wp2
                    go_meet
                    exact ⟨by rw [HV.out]; first | done | rfl, rfl⟩
                  | false =>
                    have HV : Hid (rf2 r = true) := (by unfold Hid; rw [HM.out]; first | (simp only [q5, q6, q7, q8]; done) | (simp only [q5, q6, q7, q8]; rfl) | rfl)
                    clear HM
                    go_wp2
                    go_meet
                    exact ⟨by rw [HV.out]; first | done | rfl, rfl⟩
                | false =>
                  cases q9 : (r.kd == 3) with
                  | true =>
                    have HV : Hid (rf2 r = true) := (by unfold Hid; rw [HM.out]; first | (simp only [q5, q6, q7, q9]; done) | (simp only [q5, q6, q7, q9]; rfl) | rfl)
                    clear HM
                    go_wp2
                    go_meet
                    exact ⟨by rw [HV.out]; first | done | rfl, rfl⟩
                  | false =>
                    have HV : Hid (rf2 r = false) := (by unfold Hid; rw [HM.out]; first | (simp only [q5, q6, q7, q9]; done) | (simp only [q5, q6, q7, q9]; rfl) | rfl)
                    clear HM
                    go_wp2
                    go_meet
                    exact ⟨by rw [HV.out]; first | done | rfl, rfl⟩
        case rest =>
          obtain ⟨rfl, hwc⟩ := hcut
          have hwd := hwc.symm
          subst hwd
          clear hwc
          generalize rf2 r = q2 at *
          cases q2 with
          | true =>
            go_wp2
            go_ret
            exact ⟨by rw [HR.out]; first | done | rfl, BB.out⟩
          | false =>
            go_upto_region 6 with fail
            go_cut [122] from 85 to 121 (fun v wx => v = .bool (rf3 r) ∧ wx = W0)
            case first =>
              have HM : Hid (rf3 r = ((((decide (3 ≤ r.kd)) && ((r.raw != 0) || (r.len != 0))) || (((r.len != 0) && (r.len != 2)) && (r.len != 4))) || ((r.kd == 1) && (r.len == 0)))) := rfl
              cases q1 : (decide (3 ≤ r.kd)) with
              | true =>
                cases q2 : (r.raw != 0) with
                | true =>
                  have HV : Hid (rf3 r = true) := (by unfold Hid; rw [HM.out]; first | (simp only [q1, q2]; done) | (simp only [q1, q2]; rfl) | rfl)
                  clear HM
                  go_wp2
                  go_meet
                  exact ⟨by rw [HV.out]; first | done | rfl, rfl⟩
                | false =>
                  cases q3 : (r.len != 0) with
                  | true =>
                    have HV : Hid (rf3 r = true) := (by unfold Hid; rw [HM.out]; first | (simp only [q1, q2, q3]; done) | (simp only [q1, q2, q3]; rfl) | rfl)
                    clear HM
                    go_wp2
                    go_meet
                    exact ⟨by rw [HV.out]; first | done | rfl, rfl⟩
                  | false =>
                    cases q4 : (r.kd == 1) with
                    | true =>
                      cases q5 : (r.len == 0) with
                      | true =>
                        have HV : Hid (rf3 r = true) := (by unfold Hid; rw [HM.out]; first | (simp only [q1, q2, q3, q4, q5]; done) | (simp only [q1, q2, q3, q4, q5]; rfl) | rfl)
                        clear HM
                        go_wp2
                        go_meet
                        exact ⟨by rw [HV.out]; first | done | rfl, rfl⟩
                      | false =>
                        have HV : Hid (rf3 r = false) := (by unfold Hid; rw [HM.out]; first | (simp only [q1, q2, q3, q4, q5]; done) | (simp only [q1, q2, q3, q4, q5]; rfl) | rfl)
                        clear HM
                        go_wp2
                        go_meet
                        exact ⟨by rw [HV.out]; first | done | rfl, rfl⟩
                    | false =>
                      have HV : Hid (rf3 r = false) := (by unfold Hid; rw [HM.out]; first | (simp only [q1, q2, q3, q4]; done) | (simp only [q1, q2, q3, q4]; rfl) | rfl)
                      clear HM
                      go_wp2
                      go_meet
                      exact ⟨by rw [HV.out]; first | done | rfl, rfl⟩
              | false =>
                cases q6 : (r.len != 0) with
                | true =>
                  cases q7 : (r.len != 2) with
                  | true =>
                    cases q8 : (r.len != 4) with
                    | true =>
                      have HV : Hid (rf3 r = true) := (by unfold Hid; rw [HM.out]; first | (simp only [q1, q6, q7, q8]; done) | (simp only [q1, q6, q7, q8]; rfl) | rfl)
                      clear HM
                      go_wp2
                      go_meet
                      exact ⟨by rw [HV.out]; first | done | rfl, rfl⟩
                    | false =>
                      cases q9 : (r.kd == 1) with
                      | true =>
                        cases q10 : (r.len == 0) with
                        | true =>
                          have HV : Hid (rf3 r = true) := (by unfold Hid; rw [HM.out]; first | (simp only [q1, q6, q7, q8, q9, q10]; done) | (simp only [q1, q6, q7, q8, q9, q10]; rfl) | rfl)
                          clear HM
                          go_wp2
                          go_meet
                          exact ⟨by rw [HV.out]; first | done | rfl, rfl⟩
                        | false =>
                          have HV : Hid (rf3 r = false) := (by unfold Hid; rw [HM.out]; first | (simp only [q1, q6, q7, q8, q9, q10]; done) | (simp only [q1, q6, q7, q8, q9, q10]; rfl) | rfl)
                          clear HM
                          go_wp2
                          go_meet
                          exact ⟨by rw [HV.out]; first | done | rfl, rfl⟩
                      | false =>
                        have HV : Hid (rf3 r = false) := (by unfold Hid; rw [HM.out]; first | (simp only [q1, q6, q7, q8, q9]; done) | (simp only [q1, q6, q7, q8, q9]; rfl) | rfl)
                        clear HM
                        go_wp2
                        go_meet
                        exact ⟨by rw [HV.out]; first | done | rfl, rfl⟩
                  | false =>
                    cases q11 : (r.kd == 1) with
                    | true =>
                      cases q12 : (r.len == 0) with
                      | true =>
                        have HV : Hid (rf3 r = true) := (by unfold Hid; rw [HM.out]; first | (simp only [q1, q6, q7, q11, q12]; done) | (simp only [q1, q6, q7, q11, q12]; rfl) | rfl)
                        clear HM
                        go_wp2
                        go_meet
                        exact ⟨by rw [HV.out]; first | done | rfl, rfl⟩
                      | false =>
                        have HV : Hid (rf3 r = false) := (by unfold Hid; rw [HM.out]; first | (simp only [q1, q6, q7, q11, q12]; done) | (simp only [q1, q6, q7, q11, q12]; rfl) | rfl)
                        clear HM
                        go_wp2
                        go_meet
                        exact ⟨by rw [HV.out]; first | done | rfl, rfl⟩
                    | false =>
                      have HV : Hid (rf3 r = false) := (by unfold Hid; rw [HM.out]; first | (simp only [q1, q6, q7, q11]; done) | (simp only [q1, q6, q7, q11]; rfl) | rfl)
                      clear HM
                      go_wp2
                      go_meet
                      exact ⟨by rw [HV.out]; first | done | rfl, rfl⟩
                | false =>
                  cases q13 : (r.kd == 1) with
                  | true =>
                    cases q14 : (r.len == 0) with
                    | true =>
                      have HV : Hid (rf3 r = true) := (by unfold Hid; rw [HM.out]; first | (simp only [q1, q6, q13, q14]; done) | (simp only [q1, q6, q13, q14]; rfl) | rfl)
                      clear HM
                      go_wp2
                      go_meet
                      exact ⟨by rw [HV.out]; first | done | rfl, rfl⟩
                    | false =>
                      have HV : Hid (rf3 r = false) := (by unfold Hid; rw [HM.out]; first | (simp only [q1, q6, q13, q14]; done) | (simp only [q1, q6, q13, q14]; rfl) | rfl)
                      clear HM
                      go_wp2
                      go_meet
                      exact ⟨by rw [HV.out]; first | done | rfl, rfl⟩
                  | false =>
                    have HV : Hid (rf3 r = false) := (by unfold Hid; rw [HM.out]; first | (simp only [q1, q6, q13]; done) | (simp only [q1, q6, q13]; rfl) | rfl)
                    clear HM
                    go_wp2
                    go_meet
                    exact ⟨by rw [HV.out]; first | done | rfl, rfl⟩
            case rest =>
              obtain ⟨rfl, hwc⟩ := hcut
              have hwd := hwc.symm
              subst hwd
              clear hwc
              generalize rf3 r = q3 at *
              cases q3 with
              | true =>
                go_wp2
                go_ret
                exact ⟨by rw [HR.out]; first | done | rfl, BB.out⟩
              | false =>
                go_upto_region 8 with fail
                go_cut [4] from 123 to 150 (fun v wx => v = .bool (rnt r) ∧ wx = W0)
                case first =>
                  have HM : Hid (rnt r = ((((((r.rd == 0) && (n64 r.val == 0)) && (r.mem == 0)) && (n64 r.ad == 0)) && (r.sz == 0)) && (n64 r.dat == 0))) := rfl
                  cases q1 : (r.rd == 0) with
                  | true =>
                    cases q2 : (n64 r.val == 0) with
                    | true =>
                      cases q3 : (r.mem == 0) with
                      | true =>
                        cases q4 : (n64 r.ad == 0) with
                        | true =>
                          cases q5 : (r.sz == 0) with
                          | true =>
                            cases q6 : (n64 r.dat == 0) with
                            | true =>
                              have HV : Hid (rnt r = true) := (by unfold Hid; rw [HM.out]; first | (simp only [q1, q2, q3, q4, q5, q6]; done) | (simp only [q1, q2, q3, q4, q5, q6]; rfl) | rfl)
                              clear HM
                              go_wp2
                              go_meet
                              exact ⟨by rw [HV.out]; first | done | rfl, rfl⟩
                            | false =>
                              have HV : Hid (rnt r = false) := (by unfold Hid; rw [HM.out]; first | (simp only [q1, q2, q3, q4, q5, q6]; done) | (simp only [q1, q2, q3, q4, q5, q6]; rfl) | rfl)
                              clear HM
                              go_wp2
                              go_meet
                              exact ⟨by rw [HV.out]; first | done | rfl, rfl⟩
                          | false =>
                            have HV : Hid (rnt r = false) := (by unfold Hid; rw [HM.out]; first | (simp only [q1, q2, q3, q4, q5]; done) | (simp only [q1, q2, q3, q4, q5]; rfl) | rfl)
                            clear HM
                            go_wp2
                            go_meet
                            exact ⟨by rw [HV.out]; first | done | rfl, rfl⟩
                        | false =>
                          have HV : Hid (rnt r = false) := (by unfold Hid; rw [HM.out]; first | (simp only [q1, q2, q3, q4]; done) | (simp only [q1, q2, q3, q4]; rfl) | rfl)
                          clear HM
                          go_wp2
                          go_meet
                          exact ⟨by rw [HV.out]; first | done | rfl, rfl⟩
                      | false =>
                        have HV : Hid (rnt r = false) := (by unfold Hid; rw [HM.out]; first | (simp only [q1, q2, q3]; done) | (simp only [q1, q2, q3]; rfl) | rfl)
                        clear HM
                        go_wp2
                        go_meet
                        exact ⟨by rw [HV.out]; first | done | rfl, rfl⟩
                    | false =>
                      have HV : Hid (rnt r = false) := (by unfold Hid; rw [HM.out]; first | (simp only [q1, q2]; done) | (simp only [q1, q2]; rfl) | rfl)
                      clear HM
                      go_wp2
                      go_meet
                      exact ⟨by rw [HV.out]; first | done | rfl, rfl⟩
                  | false =>
                    have HV : Hid (rnt r = false) := (by unfold Hid; rw [HM.out]; first | (simp only [q1]; done) | (simp only [q1]; rfl) | rfl)
                    clear HM
                    go_wp2
                    go_meet
                    exact ⟨by rw [HV.out]; first | done | rfl, rfl⟩
                case rest =>
                  obtain ⟨rfl, hwc⟩ := hcut
                  have hwd := hwc.symm
                  subst hwd
                  clear hwc
                  cases q9 : (r.kd == 1) with
                  | false =>
                    have q10 : (r.kd != 1) = true := by unfold bne; rw [q9]; rfl
                    go_wp2
                    go_ret
                    exact ⟨by rw [HR.out, q10]; rfl, BB.out⟩
                  | true =>
                    have q10 : (r.kd != 1) = false := by unfold bne; rw [q9]; rfl
                    have HM : Hid (rf5 r = ((((r.rd != 0) || (n64 r.val == 0)) && ((r.mem != 0) || (((n64 r.ad == 0) && (r.sz == 0)) && (n64 r.dat == 0)))) && ((r.mem != 1) || (n64 r.dat == 0)))) := rfl
                    have HZ : Hid (ZZ = rf5 r) := by unfold Hid; rw [HR.out, q10]; rfl
                    clear HR
                    cases q1 : (r.rd != 0) with
                    | true =>
                      cases q2 : (r.mem != 0) with
                      | true =>
                        cases q3 : (r.mem != 1) with
                        | true =>
                          have HV : Hid (ZZ = true) := (by unfold Hid; rw [HZ.out, HM.out]; first | (simp only [q1, q2, q3]; done) | (simp only [q1, q2, q3]; rfl) | rfl)
                          clear HM HZ
                          go_wp2
                          go_ret
                          exact ⟨by rw [HV.out]; first | done | rfl, BB.out⟩
                        | false =>
                          cases q4 : (n64 r.dat == 0) with
                          | true =>
                            have HV : Hid (ZZ = true) := (by unfold Hid; rw [HZ.out, HM.out]; first | (simp only [q1, q2, q3, q4]; done) | (simp only [q1, q2, q3, q4]; rfl) | rfl)
                            clear HM HZ
                            go_wp2
                            go_ret
                            exact ⟨by rw [HV.out]; first | done | rfl, BB.out⟩
                          | false =>
                            have HV : Hid (ZZ = false) := (by unfold Hid; rw [HZ.out, HM.out]; first | (simp only [q1, q2, q3, q4]; done) | (simp only [q1, q2, q3, q4]; rfl) | rfl)
                            clear HM HZ
                            go_wp2
                            go_ret
                            exact ⟨by rw [HV.out]; first | done | rfl, BB.out⟩
                      | false =>
                        cases q5 : (n64 r.ad == 0) with
                        | true =>
                          cases q6 : (r.sz == 0) with
                          | true =>
                            cases q7 : (n64 r.dat == 0) with
                            | true =>
                              cases q8 : (r.mem != 1) with
                              | true =>
                                have HV : Hid (ZZ = true) := (by unfold Hid; rw [HZ.out, HM.out]; first | (simp only [q1, q2, q5, q6, q7, q8]; done) | (simp only [q1, q2, q5, q6, q7, q8]; rfl) | rfl)
                                clear HM HZ
                                go_wp2
                                go_ret
                                exact ⟨by rw [HV.out]; first | done | rfl, BB.out⟩
                              | false =>
                                have HV : Hid (ZZ = true) := (by unfold Hid; rw [HZ.out, HM.out]; first | (simp only [q1, q2, q5, q6, q7, q8]; done) | (simp only [q1, q2, q5, q6, q7, q8]; rfl) | rfl)
                                clear HM HZ
                                go_wp2
                                go_ret
                                exact ⟨by rw [HV.out]; first | done | rfl, BB.out⟩
                            | false =>
                              have HV : Hid (ZZ = false) := (by unfold Hid; rw [HZ.out, HM.out]; first | (simp only [q1, q2, q5, q6, q7]; done) | (simp only [q1, q2, q5, q6, q7]; rfl) | rfl)
                              clear HM HZ
                              go_wp2
                              go_ret
                              exact ⟨by rw [HV.out]; first | done | rfl, BB.out⟩
                          | false =>
                            have HV : Hid (ZZ = false) := (by unfold Hid; rw [HZ.out, HM.out]; first | (simp only [q1, q2, q5, q6]; done) | (simp only [q1, q2, q5, q6]; rfl) | rfl)
                            clear HM HZ
                            go_wp2
                            go_ret
                            exact ⟨by rw [HV.out]; first | done | rfl, BB.out⟩
                        | false =>
                          have HV : Hid (ZZ = false) := (by unfold Hid; rw [HZ.out, HM.out]; first | (simp only [q1, q2, q5]; done) | (simp only [q1, q2, q5]; rfl) | rfl)
                          clear HM HZ
                          go_wp2
                          go_ret
                          exact ⟨by rw [HV.out]; first | done | rfl, BB.out⟩
                    | false =>
                      cases q9 : (n64 r.val == 0) with
                      | true =>
                        cases q10 : (r.mem != 0) with
                        | true =>
                          cases q11 : (r.mem != 1) with
                          | true =>
                            have HV : Hid (ZZ = true) := (by unfold Hid; rw [HZ.out, HM.out]; first | (simp only [q1, q9, q10, q11]; done) | (simp only [q1, q9, q10, q11]; rfl) | rfl)
                            clear HM HZ
                            go_wp2
                            go_ret
                            exact ⟨by rw [HV.out]; first | done | rfl, BB.out⟩
                          | false =>
                            cases q12 : (n64 r.dat == 0) with
                            | true =>
                              have HV : Hid (ZZ = true) := (by unfold Hid; rw [HZ.out, HM.out]; first | (simp only [q1, q9, q10, q11, q12]; done) | (simp only [q1, q9, q10, q11, q12]; rfl) | rfl)
                              clear HM HZ
                              go_wp2
                              go_ret
                              exact ⟨by rw [HV.out]; first | done | rfl, BB.out⟩
                            | false =>
                              have HV : Hid (ZZ = false) := (by unfold Hid; rw [HZ.out, HM.out]; first | (simp only [q1, q9, q10, q11, q12]; done) | (simp only [q1, q9, q10, q11, q12]; rfl) | rfl)
                              clear HM HZ
                              go_wp2
                              go_ret
                              exact ⟨by rw [HV.out]; first | done | rfl, BB.out⟩
                        | false =>
                          cases q13 : (n64 r.ad == 0) with
                          | true =>
                            cases q14 : (r.sz == 0) with
                            | true =>
                              cases q15 : (n64 r.dat == 0) with
                              | true =>
                                cases q16 : (r.mem != 1) with
                                | true =>
                                  have HV : Hid (ZZ = true) := (by unfold Hid; rw [HZ.out, HM.out]; first | (simp only [q1, q9, q10, q13, q14, q15, q16]; done) | (simp only [q1, q9, q10, q13, q14, q15, q16]; rfl) | rfl)
                                  clear HM HZ
                                  go_wp2
                                  go_ret
                                  exact ⟨by rw [HV.out]; first | done | rfl, BB.out⟩
                                | false =>
                                  have HV : Hid (ZZ = true) := (by unfold Hid; rw [HZ.out, HM.out]; first | (simp only [q1, q9, q10, q13, q14, q15, q16]; done) | (simp only [q1, q9, q10, q13, q14, q15, q16]; rfl) | rfl)
                                  clear HM HZ
                                  go_wp2
                                  go_ret
                                  exact ⟨by rw [HV.out]; first | done | rfl, BB.out⟩
                              | false =>
                                have HV : Hid (ZZ = false) := (by unfold Hid; rw [HZ.out, HM.out]; first | (simp only [q1, q9, q10, q13, q14, q15]; done) | (simp only [q1, q9, q10, q13, q14, q15]; rfl) | rfl)
                                clear HM HZ
                                go_wp2
                                go_ret
                                exact ⟨by rw [HV.out]; first | done | rfl, BB.out⟩
                            | false =>
                              have HV : Hid (ZZ = false) := (by unfold Hid; rw [HZ.out, HM.out]; first | (simp only [q1, q9, q10, q13, q14]; done) | (simp only [q1, q9, q10, q13, q14]; rfl) | rfl)
                              clear HM HZ
                              go_wp2
                              go_ret
                              exact ⟨by rw [HV.out]; first | done | rfl, BB.out⟩
                          | false =>
                            have HV : Hid (ZZ = false) := (by unfold Hid; rw [HZ.out, HM.out]; first | (simp only [q1, q9, q10, q13]; done) | (simp only [q1, q9, q10, q13]; rfl) | rfl)
                            clear HM HZ
                            go_wp2
                            go_ret
                            exact ⟨by rw [HV.out]; first | done | rfl, BB.out⟩
                      | false =>
                        have HV : Hid (ZZ = false) := (by unfold Hid; rw [HZ.out, HM.out]; first | (simp only [q1, q9]; done) | (simp only [q1, q9]; rfl) | rfl)
                        clear HM HZ
                        go_wp2
                        go_ret
                        exact ⟨by rw [HV.out]; first | done | rfl, BB.out⟩
def rmB (r : Rw) : Bool := (((((r.kd == 4) && (n64 r.nx == n64 r.pc)) && (r.nm == r.md)) || (((!(r.kd == 4)) && ((r.kd == 2) || (r.kd == 3))) && (r.nm == 3))) || ((((!(r.kd == 4)) && (!(r.kd == 2))) && (!(r.kd == 3))) && ((!(r.kd == 1)) || ((r.kd == 1) && ((r.nm == r.md) || (((r.md == 3) && (r.nm == 0)) && (r.raw == 807403635)))))))
theorem rmoves_c (r : Rw) (w : World) : Calls Tryz.prog 45 #[.agg (rwc r)] w fun e w' => e = .returned (.bool (rmB r)) ∧ Below w.heap.size w w' := by
  obtain ⟨W0, hW0, r0, b0, s0⟩ := start1 w (rwc r) 52
  have BB := Hid.mkU b0.out
  clear s0 b0
  have HM : Hid ((rmB r) = (((((r.kd == 4) && (n64 r.nx == n64 r.pc)) && (r.nm == r.md)) || (((!(r.kd == 4)) && ((r.kd == 2) || (r.kd == 3))) && (r.nm == 3))) || ((((!(r.kd == 4)) && (!(r.kd == 2))) && (!(r.kd == 3))) && ((!(r.kd == 1)) || ((r.kd == 1) && ((r.nm == r.md) || (((r.md == 3) && (r.nm == 0)) && (r.raw == 807403635)))))))) := rfl
  have c0_kd : W0.cell? ⟨w.heap.size, 1, none⟩ = some (.int .i64 r.kd) := r0.out.cell 1
  have c0_md : W0.cell? ⟨w.heap.size, 2, none⟩ = some (.int .i64 r.md) := r0.out.cell 2
  have c0_nm : W0.cell? ⟨w.heap.size, 15, none⟩ = some (.int .i64 r.nm) := r0.out.cell 15
  have c0_pc : W0.cell? ⟨w.heap.size, 3, none⟩ = some (.int .u64 (n64 r.pc)) := r0.out.cell 3
  have c0_nx : W0.cell? ⟨w.heap.size, 14, none⟩ = some (.int .u64 (n64 r.nx)) := r0.out.cell 14
  have c0_raw : W0.cell? ⟨w.heap.size, 4, none⟩ = some (.int .u32 r.raw) := r0.out.cell 4
  generalize hZ : (rmB r) = Z at HM ⊢
  clear hZ
  go_enter Tryz.func45, Tryz.ntmps45
  go_upto_region 1 with fail
  clear hW0
  cases q1 : (r.kd == 4) with
  | true =>
    cases q2 : (n64 r.nx == n64 r.pc) with
    | true =>
      cases q3 : (r.nm == r.md) with
      | true =>
        have HV : Hid (Z = true) := (by unfold Hid; rw [HM.out]; first | (rw [q1, q2, q3]; done) | (rw [q1, q2, q3]; rfl))
        clear HM
        go_wp2
        go_ret
        exact ⟨by rw [HV.out]; first | done | rfl, BB.out⟩
      | false =>
        have HV : Hid (Z = false) := (by unfold Hid; rw [HM.out]; first | (rw [q1, q2, q3]; done) | (rw [q1, q2, q3]; rfl))
        clear HM
        go_wp2
        go_ret
        exact ⟨by rw [HV.out]; first | done | rfl, BB.out⟩
    | false =>
      have HV : Hid (Z = false) := (by unfold Hid; rw [HM.out]; first | (rw [q1, q2]; done) | (rw [q1, q2]; rfl))
      clear HM
      go_wp2
      go_ret
      exact ⟨by rw [HV.out]; first | done | rfl, BB.out⟩
  | false =>
    cases q4 : (r.kd == 2) with
    | true =>
      cases q5 : (r.nm == 3) with
      | true =>
        have HV : Hid (Z = true) := (by unfold Hid; rw [HM.out]; first | (rw [q1, q4, q5]; done) | (rw [q1, q4, q5]; rfl))
        clear HM
        go_wp2
        go_ret
        exact ⟨by rw [HV.out]; first | done | rfl, BB.out⟩
      | false =>
        have HV : Hid (Z = false) := (by unfold Hid; rw [HM.out]; first | (rw [q1, q4, q5]; done) | (rw [q1, q4, q5]; rfl))
        clear HM
        go_wp2
        go_ret
        exact ⟨by rw [HV.out]; first | done | rfl, BB.out⟩
    | false =>
      cases q6 : (r.kd == 3) with
      | true =>
        cases q7 : (r.nm == 3) with
        | true =>
          have HV : Hid (Z = true) := (by unfold Hid; rw [HM.out]; first | (rw [q1, q4, q6, q7]; done) | (rw [q1, q4, q6, q7]; rfl))
          clear HM
          go_wp2
          go_ret
          exact ⟨by rw [HV.out]; first | done | rfl, BB.out⟩
        | false =>
          have HV : Hid (Z = false) := (by unfold Hid; rw [HM.out]; first | (rw [q1, q4, q6, q7]; done) | (rw [q1, q4, q6, q7]; rfl))
          clear HM
          go_wp2
          go_ret
          exact ⟨by rw [HV.out]; first | done | rfl, BB.out⟩
      | false =>
        cases q8 : (r.kd == 1) with
        | true =>
          cases q9 : (r.nm == r.md) with
          | true =>
            have HV : Hid (Z = true) := (by unfold Hid; rw [HM.out]; first | (rw [q1, q4, q6, q8, q9]; done) | (rw [q1, q4, q6, q8, q9]; rfl))
            clear HM
            go_wp2
            go_ret
            exact ⟨by rw [HV.out]; first | done | rfl, BB.out⟩
          | false =>
            cases q10 : (r.md == 3) with
            | true =>
              cases q11 : (r.nm == 0) with
              | true =>
                cases q12 : (r.raw == 807403635) with
                | true =>
                  have HV : Hid (Z = true) := (by unfold Hid; rw [HM.out]; first | (rw [q1, q4, q6, q8, q9, q10, q11, q12]; done) | (rw [q1, q4, q6, q8, q9, q10, q11, q12]; rfl))
                  clear HM
                  go_wp2
                  go_ret
                  exact ⟨by rw [HV.out]; first | done | rfl, BB.out⟩
                | false =>
                  have HV : Hid (Z = false) := (by unfold Hid; rw [HM.out]; first | (rw [q1, q4, q6, q8, q9, q10, q11, q12]; done) | (rw [q1, q4, q6, q8, q9, q10, q11, q12]; rfl))
                  clear HM
                  go_wp2
                  go_ret
                  exact ⟨by rw [HV.out]; first | done | rfl, BB.out⟩
              | false =>
                have HV : Hid (Z = false) := (by unfold Hid; rw [HM.out]; first | (rw [q1, q4, q6, q8, q9, q10, q11]; done) | (rw [q1, q4, q6, q8, q9, q10, q11]; rfl))
                clear HM
                go_wp2
                go_ret
                exact ⟨by rw [HV.out]; first | done | rfl, BB.out⟩
            | false =>
              have HV : Hid (Z = false) := (by unfold Hid; rw [HM.out]; first | (rw [q1, q4, q6, q8, q9, q10]; done) | (rw [q1, q4, q6, q8, q9, q10]; rfl))
              clear HM
              go_wp2
              go_ret
              exact ⟨by rw [HV.out]; first | done | rfl, BB.out⟩
        | false =>
          have HV : Hid (Z = true) := (by unfold Hid; rw [HM.out]; first | (rw [q1, q4, q6, q8]; done) | (rw [q1, q4, q6, q8]; rfl))
          clear HM
          go_wp2
          go_ret
          exact ⟨by rw [HV.out]; first | done | rfl, BB.out⟩
theorem rm_eq (r : Rw) : rmB r = tuB r := by
  rw [Bool.eq_iff_iff]
  unfold rmB tuB syB lvB
  simp only [Bool.and_eq_true, Bool.or_eq_true, Bool.not_eq_true', beq_iff_eq, beq_eq_false_iff_ne]
  omega
end Go.Proofs.YtidfndgedopghaaGreatDoor
