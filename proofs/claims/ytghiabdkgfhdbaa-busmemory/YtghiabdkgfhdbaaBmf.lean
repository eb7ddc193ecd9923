/-
  BusMemory: the walk.
-/
import Derived.Test.YtghiabdkgfhdbaaBme
import Derived.BigRegion
import Derived.BigQuiet
import Derived.Deep.QuietTactic
import Derived.Deep.CutRange
namespace Go.Proofs.Ytghiabdkgfhdbaa
set_option linter.unusedVariables false
open Go.ChangeShapes Go.WideShapes Go.ChangeAt Go.RowKit Go.Deep Go.MuLone
theorem ramField (R : St) (y1 y2 y3 : Option Addr) (z1 z2 z3 : Nat) (w : World) : (Instr.field 26 (.agg #[.slice y1 R.ram.length z1, .int .u32 R.msip, .int .u64 R.cmp, .int .u64 R.time, .bool R.ext, .bool R.soft, .int .u8 R.ier, .int .u8 R.lcr, .int .u8 R.mcr, .int .u8 R.scr, .bool R.ov, .slice y2 R.inp.length z2, .slice y3 R.out.length z3, .int .i64 R.off, .int .i64 R.code]) 0).run Try.prog w = .ok (.slice y1 R.ram.length z1) w := by kernel_rfl
set_option maxRecDepth 100000 in
theorem busmem_no (S : St) (ar ai ao : Option Addr) (cr ci co : Nat) (w : World) (hs : Bs S (.slice ar S.ram.length cr) (.slice ai S.inp.length ci) (.slice ao S.out.length co) w) (lr : S.ram.length ≤ 140737488355328) (li : S.inp.length ≤ 140737488355328) (lo : S.out.length ≤ 140737488355328) (hok : S.ok = false) (vO : Value) :
    Calls Try.prog 5 #[.agg (stoc S (.slice ar S.ram.length cr) (.slice ai S.inp.length ci) (.slice ao S.out.length co) vO)] w fun e w' => e = .returned (.bool true) ∧ Below w.heap.size w w' := by
  have HCB : Hid (∀ w1, Calls Try.prog 9 #[.agg (stc S (.slice ar S.ram.length cr) (.slice ai S.inp.length ci) (.slice ao S.out.length co))] w1 fun e w' => e = .returned (.bool false) ∧ Below w1.heap.size w1 w') := fun w1 => by rw [← hok]; exact rcanBe_c S ar ai ao cr ci co w1
  clear hok hs lr li lo
  unfold stoc
  unfold stc at HCB ⊢
  go_enter Try.func5, Try.ntmps5
  go_wp2_with (go_at_call 9; refine (HCB.out _).mono ?_; rintro e w1 ⟨rfl, hb1⟩; have HB1 : Hid (Below w.heap.size w w1) := box_below hb1; clear hb1)
  go_ret
  exact ⟨rfl, HB1.out⟩
set_option maxRecDepth 100000 in
set_option maxHeartbeats 8000000 in
theorem busmem_y (S : St) (ar ai ao : Option Addr) (cr ci co : Nat) (w : World) (hs : Bs S (.slice ar S.ram.length cr) (.slice ai S.inp.length ci) (.slice ao S.out.length co) w) (lr : S.ram.length ≤ 140737488355328) (li : S.inp.length ≤ 140737488355328) (lo : S.out.length ≤ 140737488355328) (hok : S.ok = true) (hst : StW S) (aO : Option Addr) (cO : Nat) (O : List Cal) (hO : Cals w (.slice aO O.length cO) O) (hx : ∀ j, j < O.length → CalOk w (O.getD j cal0)) (hOl : O.length * 88 ≤ 140737488351232) :
    Calls Try.prog 5 #[.agg (stoc S (.slice ar S.ram.length cr) (.slice ai S.inp.length ci) (.slice ao S.out.length co) (.slice aO O.length cO))] w fun e w' => e = .returned (.bool true) ∧ Below w.heap.size w w' := by
  obtain ⟨W, hW⟩ : ∃ W, w.alloc (.cells (stoc S (.slice ar S.ram.length cr) (.slice ai S.inp.length ci) (.slice ao S.out.length co) (.slice aO O.length cO)) 29) = W := ⟨_, rfl⟩
  have hbW : Below w.heap.size w W := by rw [← hW]; exact below_al w _
  have hz : w.heap.size < W.heap.size := by rw [← hW]; simp
  have r1 : W.heap[w.heap.size]? = some (.cells (stoc S (.slice ar S.ram.length cr) (.slice ai S.inp.length ci) (.slice ao S.out.length co) (.slice aO O.length cO)) 29 (0, 0)) := by rw [← hW]; exact heap_alloc_new w _
  have h1 : Sok S := ⟨hok, hst⟩
  have HCB : Hid (Calls Try.prog 9 #[.agg (stc S (.slice ar S.ram.length cr) (.slice ai S.inp.length ci) (.slice ao S.out.length co))] W fun e w' => e = .returned (.bool true) ∧ Below W.heap.size W w') := by rw [← hok]; exact rcanBe_c S ar ai ao cr ci co W
  have HMD : Hid (∀ w1, Below W.heap.size W w1 → Calls Try.prog 10 #[.agg (stc S (.slice ar S.ram.length cr) (.slice ai S.inp.length ci) (.slice ao S.out.length co))] w1 fun e w' => ∃ L, e = .returned (.tuple #[.pointer (some ⟨Lay.b L, 0, none⟩), .bool true]) ∧ PB w1.heap.size L S w' ∧ Below w1.heap.size w1 w') := fun w1 hb => made_c S ar ai ao cr ci co w1 hok (hs.later (hbW.trans (hb.mono hbW.size))) lr li lo
  have HZ : Hid (∀ w', Below W.heap.size W w' → w'.cell? ⟨w.heap.size, 0, none⟩ = some (.slice ar S.ram.length cr) ∧ w'.cell? ⟨w.heap.size, 1, none⟩ = some (.int .u32 S.msip) ∧ w'.cell? ⟨w.heap.size, 2, none⟩ = some (.int .u64 S.cmp) ∧ w'.cell? ⟨w.heap.size, 3, none⟩ = some (.int .u64 S.time) ∧ w'.cell? ⟨w.heap.size, 4, none⟩ = some (.bool S.ext) ∧ w'.cell? ⟨w.heap.size, 5, none⟩ = some (.bool S.soft) ∧ w'.cell? ⟨w.heap.size, 6, none⟩ = some (.int .u8 S.ier) ∧ w'.cell? ⟨w.heap.size, 7, none⟩ = some (.int .u8 S.lcr) ∧ w'.cell? ⟨w.heap.size, 8, none⟩ = some (.int .u8 S.mcr) ∧ w'.cell? ⟨w.heap.size, 9, none⟩ = some (.int .u8 S.scr) ∧ w'.cell? ⟨w.heap.size, 10, none⟩ = some (.bool S.ov) ∧ w'.cell? ⟨w.heap.size, 11, none⟩ = some (.slice ai S.inp.length ci) ∧ w'.cell? ⟨w.heap.size, 12, none⟩ = some (.slice ao S.out.length co) ∧ w'.cell? ⟨w.heap.size, 13, none⟩ = some (.int .i64 S.off) ∧ w'.cell? ⟨w.heap.size, 14, none⟩ = some (.int .i64 S.code) ∧ w'.cell? ⟨w.heap.size, 15, none⟩ = some (.slice aO O.length cO)) := fun w' hb => ⟨(hb.cell hz).trans (cell_of_row W _ 0 _ _ _ r1), (hb.cell hz).trans (cell_of_row W _ 1 _ _ _ r1), (hb.cell hz).trans (cell_of_row W _ 2 _ _ _ r1), (hb.cell hz).trans (cell_of_row W _ 3 _ _ _ r1), (hb.cell hz).trans (cell_of_row W _ 4 _ _ _ r1), (hb.cell hz).trans (cell_of_row W _ 5 _ _ _ r1), (hb.cell hz).trans (cell_of_row W _ 6 _ _ _ r1), (hb.cell hz).trans (cell_of_row W _ 7 _ _ _ r1), (hb.cell hz).trans (cell_of_row W _ 8 _ _ _ r1), (hb.cell hz).trans (cell_of_row W _ 9 _ _ _ r1), (hb.cell hz).trans (cell_of_row W _ 10 _ _ _ r1), (hb.cell hz).trans (cell_of_row W _ 11 _ _ _ r1), (hb.cell hz).trans (cell_of_row W _ 12 _ _ _ r1), (hb.cell hz).trans (cell_of_row W _ 13 _ _ _ r1), (hb.cell hz).trans (cell_of_row W _ 14 _ _ _ r1), (hb.cell hz).trans (cell_of_row W _ 15 _ _ _ r1)⟩
  have HBY : Hid (∀ w', Below W.heap.size W w' → Byt w' (.slice ar S.ram.length cr) S.ram) := fun w' hb => (hs.later (hbW.trans (hb.mono hbW.size))).r
  have HEL : Hid (∀ w1, Below W.heap.size W w1 → ∀ j, j < O.length → ∃ g off x, aO = some ⟨g, off, none⟩ ∧ CalOk w1 x ∧ ∀ w', Below w1.heap.size w1 w' → w'.cell? ⟨g, off + j * 9, none⟩ = some (.int .i64 x.k) ∧ w'.cell? ⟨g, off + j * 9 + 1, none⟩ = some (.int .u64 x.a) ∧ w'.cell? ⟨g, off + j * 9 + 2, none⟩ = some (.int .i64 x.n) ∧ w'.cell? ⟨g, off + j * 9 + 3, none⟩ = some (.int .u64 x.v) ∧ w'.cell? ⟨g, off + j * 9 + 4, none⟩ = some (.slice x.ab x.b.length x.cb) ∧ w'.cell? ⟨g, off + j * 9 + 5, none⟩ = some (.bool x.t) ∧ w'.cell? ⟨g, off + j * 9 + 6, none⟩ = some (.bool x.e) ∧ w'.cell? ⟨g, off + j * 9 + 7, none⟩ = some (.bool x.s) ∧ w'.cell? ⟨g, off + j * 9 + 8, none⟩ = some (.slice x.ai x.i.length x.ci)) := fun w1 hb1 j hj => by
    obtain ⟨a, cap, e, _, h2⟩ := hO
    cases e
    obtain ⟨g, off, ea, hg, hc⟩ := h2 (fun e => by rw [e] at hj; simp at hj)
    have hg2 := Nat.lt_of_lt_of_le hg hbW.size
    have hg3 := Nat.lt_of_lt_of_le hg2 hb1.size
    exact ⟨g, off, O.getD j cal0, ea, ((hx j hj).later hbW).later hb1, fun w' hb => ⟨((hb.cell hg3).trans ((hb1.cell hg2).trans (hbW.cell hg))).trans (hc j hj 0 (by decide)), ((hb.cell hg3).trans ((hb1.cell hg2).trans (hbW.cell hg))).trans (hc j hj 1 (by decide)), ((hb.cell hg3).trans ((hb1.cell hg2).trans (hbW.cell hg))).trans (hc j hj 2 (by decide)), ((hb.cell hg3).trans ((hb1.cell hg2).trans (hbW.cell hg))).trans (hc j hj 3 (by decide)), ((hb.cell hg3).trans ((hb1.cell hg2).trans (hbW.cell hg))).trans (hc j hj 4 (by decide)), ((hb.cell hg3).trans ((hb1.cell hg2).trans (hbW.cell hg))).trans (hc j hj 5 (by decide)), ((hb.cell hg3).trans ((hb1.cell hg2).trans (hbW.cell hg))).trans (hc j hj 6 (by decide)), ((hb.cell hg3).trans ((hb1.cell hg2).trans (hbW.cell hg))).trans (hc j hj 7 (by decide)), ((hb.cell hg3).trans ((hb1.cell hg2).trans (hbW.cell hg))).trans (hc j hj 8 (by decide))⟩⟩
  have HBW : Hid (Below w.heap.size w W) := hbW
  have hn62 : O.length ≤ 1599289640448 := by omega
  have HSO : Hid (Sok S) := h1
  have hn8 : 8 ≤ S.ram.length := h1.n.2.1
  have hn6 : S.ram.length ≤ 65536 := h1.n.1
  clear hok hst hO hx hOl hs lr li lo hbW h1
  obtain ⟨u0, u1, u2, u3, u4, u5, u6, u7, u8, u9, u10, u11, u12, u13, u14, u15⟩ := HZ.out W (Below.refl _ _)
  have hW2 : w.alloc (.cells #[.slice ar S.ram.length cr, .int .u32 S.msip, .int .u64 S.cmp, .int .u64 S.time, .bool S.ext, .bool S.soft, .int .u8 S.ier, .int .u8 S.lcr, .int .u8 S.mcr, .int .u8 S.scr, .bool S.ov, .slice ai S.inp.length ci, .slice ao S.out.length co, .int .i64 S.off, .int .i64 S.code, .slice aO O.length cO] 29) = W := hW
  clear hW r1 hz
  unfold stoc
  unfold stc at HCB HMD ⊢
  go_enter Try.func5, Try.ntmps5
  go_upto_region 1 with fail
  clear hW2
  go_upto_region 4 with (go_at_call 9; refine HCB.out.mono ?_; rintro e w1 ⟨rfl, hb1⟩; have HB1 : Hid (Below W.heap.size W w1) := hb1; clear hb1)
  clear u0 u1 u2 u3 u4 u5 u6 u7 u8 u9 u10 u11 u12 u13 u14 u15
  obtain ⟨u0, u1, u2, u3, u4, u5, u6, u7, u8, u9, u10, u11, u12, u13, u14, u15⟩ := HZ.out w1 HB1.out
  go_upto_region 7 with (go_at_call 10; refine (HMD.out w1 HB1.out).mono ?_; rintro e w2 ⟨L, rfl, hp, hb2⟩; have HP : Hid (PB w1.heap.size L S w2) := hp; have HB2 : Hid (Below w1.heap.size w1 w2) := hb2; have HB3 : Hid (Below W.heap.size W w2) := HB1.out.trans (hb2.mono HB1.out.size); clear hp hb2)
  clear u0 u1 u2 u3 u4 u5 u6 u7 u8 u9 u10 u11 u12 u13 u14 u15
  obtain ⟨u0, u1, u2, u3, u4, u5, u6, u7, u8, u9, u10, u11, u12, u13, u14, u15⟩ := HZ.out w2 HB3.out
  --@CUT1
  go_upto_region 8 with (at_builtin; refine appL (by rfl) _ _ (by rfl) w2.heap.size _ _ [] S.ram (by rfl) (World.ownsRow_nil _ _ _ _) (by rfl) (HBY.out w2 HB3.out) (by simp; omega) (Nat.le_refl _) ?_; intro v' w3 hown hg; have HBG : Hid (Below w2.heap.size w2 w3) := (Below.refl _ _).grown hg (Nat.le_refl _) (fun k hk => by cases hk); obtain ⟨gc, cap, rfl, hpm⟩ := pmm_start HP.out HSO.out HB2.out hown HBG.out; have HPM : Hid _ := hpm; clear hown hg hpm)
  --@CUT2
  have HEL2 : Hid (∀ j, j < O.length → ∃ g off x, aO = some ⟨g, off, none⟩ ∧ CalOk w1 x ∧ ∀ w', Below w1.heap.size w1 w' → w'.cell? ⟨g, off + j * 9, none⟩ = some (.int .i64 x.k) ∧ w'.cell? ⟨g, off + j * 9 + 1, none⟩ = some (.int .u64 x.a) ∧ w'.cell? ⟨g, off + j * 9 + 2, none⟩ = some (.int .i64 x.n) ∧ w'.cell? ⟨g, off + j * 9 + 3, none⟩ = some (.int .u64 x.v) ∧ w'.cell? ⟨g, off + j * 9 + 4, none⟩ = some (.slice x.ab x.b.length x.cb) ∧ w'.cell? ⟨g, off + j * 9 + 5, none⟩ = some (.bool x.t) ∧ w'.cell? ⟨g, off + j * 9 + 6, none⟩ = some (.bool x.e) ∧ w'.cell? ⟨g, off + j * 9 + 7, none⟩ = some (.bool x.s) ∧ w'.cell? ⟨g, off + j * 9 + 8, none⟩ = some (.slice x.ai x.i.length x.ci)) := HEL.out w1 HB1.out
  have HC15 : Hid (∀ w', Below w1.heap.size w1 w' → w'.cell? ⟨w.heap.size, 15, none⟩ = some (.slice aO O.length cO)) := fun w' hb => (HZ.out w' (HB1.out.trans (hb.mono HB1.out.size))).2.2.2.2.2.2.2.2.2.2.2.2.2.2.2
  have HBA : Hid (∀ w', Below w1.heap.size w1 w' → Below w.heap.size w w') := fun w' hb => HBW.out.trans ((HB1.out.trans (hb.mono HB1.out.size)).mono HBW.out.size)
  clear u0 u1 u2 u3 u4 u5 u6 u7 u8 u9 u10 u11 u12 u13 u14 u15 HZ HEL HMD HCB HBY HP HB2 HBG
  have HPM2 : Hid (Pmm w1.heap.size w1 L w2.heap.size gc cap S.ram.length S S.ram w3) := HPM.out
  clear HPM
  generalize S.ram.length = n at HPM2 hn8 hn6 ⊢
  go_wp2
  go_loopw [7] (fun i wr => ∃ (j : Nat) (R : St), j ≤ O.length ∧ i = .int .i64 j ∧ Hid (Pmm w1.heap.size w1 L w2.heap.size gc cap n R R.ram wr)) (fun i _ => O.length - (intOf i).toNat)
  case atStart => exact ⟨0, S, Nat.zero_le _, rfl, HPM2⟩
  case round =>
    obtain ⟨j, R, hj, rfl, hst⟩ := hrel
    clear HPM2
    have c15 := HC15.out wr hst.out.be
    by_cases hlt : j < O.length
    · have hlt2 : (j : Int) < (O.length : Int) := by omega
      obtain ⟨g, off, x, ea, hx, hcl⟩ := HEL2.out j hlt
      obtain ⟨x0, x1, x2, x3, x4, x5, x6, x7, x8⟩ := hcl wr hst.out.be
      rw [ea] at c15
      have HX : Hid (CalOk w1 x) := hx
      clear hx hcl ea
      go_upto_region 12 with fail
      --@CUT3
      obtain ⟨W1, hW1⟩ : ∃ W1, wr.alloc (.cells #[.int .i64 x.k, .int .u64 x.a, .int .i64 x.n, .int .u64 x.v, .slice x.ab x.b.length x.cb, .bool x.t, .bool x.e, .bool x.s, .slice x.ai x.i.length x.ci] 45) = W1 := ⟨_, rfl⟩
      have HP1 : Hid (Pmr w1.heap.size w1 L w2.heap.size gc cap n wr.heap.size #[.int .i64 x.k, .int .u64 x.a, .int .i64 x.n, .int .u64 x.v, .slice x.ab x.b.length x.cb, .bool x.t, .bool x.e, .bool x.s, .slice x.ai x.i.length x.ci] R R.ram W1) := by rw [← hW1]; exact hst.out.row
      rw [hW1]
      clear hW1 x0 x1 x2 x3 x4 x5 x6 x7 x8 c15
      obtain ⟨go, hgo⟩ : ∃ go, go = wr.heap.size := ⟨_, rfl⟩
      rw [← hgo] at HP1 ⊢
      clear hgo hst
      have q0 : W1.cell? ⟨go, 0, none⟩ = some (.int .i64 x.k) := cell_of_row W1 _ 0 _ _ _ HP1.out.row
      have q1 : W1.cell? ⟨go, 1, none⟩ = some (.int .u64 x.a) := cell_of_row W1 _ 1 _ _ _ HP1.out.row
      have q2 : W1.cell? ⟨go, 2, none⟩ = some (.int .i64 x.n) := cell_of_row W1 _ 2 _ _ _ HP1.out.row
      have q3 : W1.cell? ⟨go, 3, none⟩ = some (.int .u64 x.v) := cell_of_row W1 _ 3 _ _ _ HP1.out.row
      have q4 : W1.cell? ⟨go, 4, none⟩ = some (.slice x.ab x.b.length x.cb) := cell_of_row W1 _ 4 _ _ _ HP1.out.row
      have hxa := HX.out.a
      obtain ⟨kk, hk2, HK1, HK2⟩ := at_num (n := n) hxa.1 hn8 hn6
      have HKK : Hid _ := HK1
      have HKL : Hid _ := HK2
      clear HK1 HK2
      have hnz : ¬ (2 * (n : Int)) = 0 := by omega
      go_upto_region 14 with fail
      --@CUT4
      rw [HKL.out, HKK.out]
      obtain ⟨fx, hfx⟩ : ∃ fx, fx = hasM n (2147483648 + (kk : Int)) x.n := ⟨_, rfl⟩
      have HFE : Hid (fx = hasM n (2147483648 + (kk : Int)) x.n) := hfx
      have HFX : Hid (fx = (alg (2147483648 + (kk : Int)) x.n && decide ((kk : Int) + x.n ≤ n))) := by unfold Hid; rw [hfx]; exact hasM_fits2 hk2 hn6
      clear hfx
      have HAL : Hid (∀ W, Calls Try.prog 18 #[.int .u64 (2147483648 + (kk : Int)), .int .i64 x.n] W fun e w' => e = .returned (.bool (alg (2147483648 + (kk : Int)) x.n)) ∧ w' = W) := fun W => aligned_c _ _ W (by omega) HX.out.n
      go_cut [11] from 61 to 73 (fun v wx => v = .bool fx ∧ wx = W1)
      case first =>
        obtain ⟨q, hq⟩ : ∃ q, q = alg (2147483648 + (kk : Int)) x.n := ⟨_, rfl⟩
        rw [← hq] at HAL HFX
        have HQ : Hid (q = alg (2147483648 + (kk : Int)) x.n) := hq
        clear hq
        cases q with
        | false =>
          go_wp2_with (go_at_call 18; refine (HAL.out _).mono ?_; rintro e W3 ⟨rfl, hw⟩; have hw3 := hw.symm; subst hw3)
          go_meet
          exact ⟨by rw [HFX.out]; rfl, rfl⟩
        | true =>
          have hzz := alg_cases HQ.out.symm
          have hz1 : 1 ≤ x.n := by omega
          have hz8 : x.n ≤ 8 := by omega
          clear hzz
          go_wp2_with (go_at_call 18; refine (HAL.out _).mono ?_; rintro e W3 ⟨rfl, hw⟩; have hw3 := hw.symm; subst hw3)
          go_meet
          exact ⟨by rw [HFX.out]; rfl, rfl⟩
      case rest =>
        obtain ⟨rfl, hwc⟩ := hcut
        have hwc2 := hwc.symm
        subst hwc2
        clear hwc HAL HKK HKL hnz
        --@CUT5
        by_cases hk : x.k = 2
        · as_aux_lemma =>
            have hb2 : (x.k == 2) = true := by simp [hk]
            clear hk
            obtain ⟨bx, hxv⟩ := n64_of (WalkArith.wf_u64 HX.out.v)
            have q3' : W1.cell? ⟨go, 3, none⟩ = some (.int .u64 (n64 bx)) := by rw [← hxv]; exact q3
            have HXV : Hid (x.v = n64 bx) := hxv
            clear hxv q3
            have HST : Hid (Calls Try.prog 19 #[.pointer (some ⟨L.b, 0, none⟩), .int .u64 (2147483648 + (kk : Int)), .int .i64 x.n, .int .u64 (n64 bx)] W1 fun e w' => e = .returned (.bool fx) ∧ Pmr w1.heap.size w1 L w2.heap.size gc cap n go #[.int .i64 x.k, .int .u64 x.a, .int .i64 x.n, .int .u64 x.v, .slice x.ab x.b.length x.cb, .bool x.t, .bool x.e, .bool x.s, .slice x.ai x.i.length x.ci] (R.sto kk x.n bx.toNat) R.ram w') := by
              have q := HP1.out.store bx kk x.n (by omega) HX.out.n
              rw [← HFE.out] at q
              exact q
            have hff : (fx != fx) = false := by simp
            go_upto_region 20 with (go_at_call 19; refine HST.out.mono ?_; rintro e w5 ⟨rfl, hp5⟩; have HP5 : Hid (Pmr w1.heap.size w1 L w2.heap.size gc cap n go #[.int .i64 x.k, .int .u64 x.a, .int .i64 x.n, .int .u64 x.v, .slice x.ab x.b.length x.cb, .bool x.t, .bool x.e, .bool x.s, .slice x.ai x.i.length x.ci] (R.sto kk x.n bx.toNat) R.ram w5) := hp5; clear hp5)
            clear HST hff q0 q1 q2 q3' q4
            cases fx with
            | false =>
              have HR : Hid (R.sto kk x.n bx.toNat = R) := by unfold Hid St.sto; rw [HP1.out.m.nl, ← HFE.out]; rfl
              have HP6 : Hid (Pmm w1.heap.size w1 L w2.heap.size gc cap n R R.ram w5) := by have h := HP5.out.m; rw [HR.out] at h; exact h
              have p2 : w5.cell? ⟨go, 2, none⟩ = some (.int .i64 x.n) := cell_of_row w5 _ 2 _ _ _ HP5.out.row
              go_wp2
              go_loopw [13] (fun i wr => i = .int .i64 0 ∧ wr = w5) (fun _ _ => 0)
              case atStart => exact ⟨rfl, rfl⟩
              case round =>
                obtain ⟨rfl, hwq⟩ := hrel
                have hwq2 := hwq.symm
                subst hwq2
                by_cases hN : 0 < x.n
                all_goals go_wp2
                all_goals go_roundw
                all_goals first | exact ⟨j + 1, R, by omega, by go_num, HP6⟩ | (simp [intOf] <;> omega)
            | true =>
              obtain ⟨s, hs, hks, hs0, hs8⟩ := hasM_at HFE.out.symm
              have HR : Hid ((R.sto kk x.n bx.toNat).ram = splice R.ram kk (ptL bx.toNat s)) := by unfold Hid St.sto; rw [HP1.out.m.nl, ← HFE.out, hs]; rfl
              have hRl : R.ram.length = n := HP1.out.m.nl
              generalize R.sto kk x.n bx.toNat = R2 at HP5 HR
              have HP6 : Hid (Pmr w1.heap.size w1 L w2.heap.size gc cap n go #[.int .i64 x.k, .int .u64 x.a, .int .i64 x.n, .int .u64 x.v, .slice x.ab x.b.length x.cb, .bool x.t, .bool x.e, .bool x.s, .slice x.ai x.i.length x.ci] R2 (splice R.ram kk (ptL bx.toNat 0)) w5) := by have h := HP5.out; unfold Hid; rw [show ptL bx.toNat 0 = [] from rfl, splice_nil]; exact h
              clear HP5 HP1
              go_wp2
              go_loopw [13] (fun i wr => ∃ m : Nat, m ≤ s ∧ i = .int .i64 m ∧ Hid (Pmr w1.heap.size w1 L w2.heap.size gc cap n go #[.int .i64 x.k, .int .u64 x.a, .int .i64 x.n, .int .u64 x.v, .slice x.ab x.b.length x.cb, .bool x.t, .bool x.e, .bool x.s, .slice x.ai x.i.length x.ci] R2 (splice R.ram kk (ptL bx.toNat m)) wr)) (fun i _ => s - (intOf i).toNat)
              case atStart => exact ⟨0, Nat.zero_le _, rfl, HP6⟩
              case round =>
                obtain ⟨m, hm, rfl, hpm⟩ := hrel
                clear HP6
                have p2 : wr.cell? ⟨go, 2, none⟩ = some (.int .i64 s) := by rw [← hs]; exact cell_of_row wr _ 2 _ _ _ hpm.out.row
                have p3 : wr.cell? ⟨go, 3, none⟩ = some (.int .u64 (n64 bx)) := by rw [← HXV.out]; exact cell_of_row wr _ 3 _ _ _ hpm.out.row
                by_cases hlm : m < s
                · have hlm2 : (m : Int) < (s : Int) := by omega
                  have hm8 : (m : Int) < 8 := by omega
                  have hkn : kk + m < n := by omega
                  have hkn2 : (kk : Int) + (m : Int) < (n : Int) := by omega
                  have hln := hpm.out.m.len
                  have hce : wr.cell? ⟨gc, kk + m, none⟩ = some (.int .u8 ((splice R.ram kk (ptL bx.toNat m)).getD (kk + m) 0)) := by
                    rw [hpm.out.m.own.cellAt (kk + m) (by omega), bv_get _ _ (by rw [hln]; exact hkn)]
                  have hfr := hpm.out.m.own.frozenAt (kk + m)
                  have HW : Hid (IntKind.u8.wrap (n64 bx / 2 ^ (8 * m)) = ((bx.toNat / 256 ^ m % 256 : Nat) : Int)) := byte_of bx m
                  have HP7 : Hid (Pmr w1.heap.size w1 L w2.heap.size gc cap n go #[.int .i64 x.k, .int .u64 x.a, .int .i64 x.n, .int .u64 x.v, .slice x.ab x.b.length x.cb, .bool x.t, .bool x.e, .bool x.s, .slice x.ai x.i.length x.ci] R2 (splice R.ram kk (ptL bx.toNat (m + 1))) (wr.setCell ⟨gc, kk + m, none⟩ (.int .u8 (IntKind.u8.wrap (n64 bx / 2 ^ (8 * m)))))) := by
                    have h := hpm.out.put (kk + m) hkn (IntKind.u8.wrap (n64 bx / 2 ^ (8 * m)))
                    rw [HW.out, splice_pt kk m bx.toNat (by omega)] at h
                    unfold Hid
                    rw [HW.out]
                    exact h
                  generalize (splice R.ram kk (ptL bx.toNat m)).getD (kk + m) 0 = zz at hce
                  clear hln
                  --@CUT6
                  go_wp2
                  go_roundw
                  all_goals first | exact ⟨m + 1, by omega, by go_num, HP7⟩ | (simp [intOf] <;> omega)
                · obtain rfl : m = s := by omega
                  have hnl : ¬ (m : Int) < (m : Int) := by omega
                  have HP7 : Hid (Pmm w1.heap.size w1 L w2.heap.size gc cap n R2 R2.ram wr) := by unfold Hid; rw [HR.out]; exact hpm.out.m
                  clear hpm
                  go_wp2
                  go_roundw
                  all_goals first | exact ⟨j + 1, R2, by omega, by go_num, HP7⟩ | (simp [intOf] <;> omega)
        · have hb2 : (x.k == 2) = false := by simp [hk]
          clear hk
          by_cases hk : x.k = 7
          · as_aux_lemma =>
              have hb7 : (x.k == 7) = true := by simp [hk]
              clear hk
              --@CUT7
              have HBB : Hid (Byt W1 (.slice x.ab x.b.length x.cb) x.b) := HX.out.b.later HP1.out.m.be rfl
              have hbl : x.b.length ≤ 140737488351232 := HX.out.bl
              have HWL : Hid (∀ v5 w5, w5.ownsRow W1.heap.size 5 1 v5 ([] ++ x.b).length (bv ([] ++ x.b)) → Below W1.heap.size W1 w5 → Byt w5 v5 x.b ∧ Pmr w1.heap.size w1 L w2.heap.size gc cap n go #[.int .i64 x.k, .int .u64 x.a, .int .i64 x.n, .int .u64 x.v, .slice x.ab x.b.length x.cb, .bool x.t, .bool x.e, .bool x.s, .slice x.ai x.i.length x.ci] R R.ram w5) := fun v5 w5 ho hb => ⟨Byt.of_own ho, HP1.out.later hb⟩
              have hRl : R.ram.length = n := HP1.out.m.nl
              by_cases hfit : kk + x.b.length ≤ n ∨ x.b = []
              · go_upto_region 26 with (first | (at_builtin; refine appL (by rfl) _ _ (by rfl) W1.heap.size _ _ [] x.b (by rfl) (World.ownsRow_nil _ _ _ _) (by rfl) HBB.out (by simp; omega) (Nat.le_refl _) ?_; intro v5 w5 hown hg; obtain ⟨hby5, hp5⟩ := HWL.out v5 w5 hown ((Below.refl _ _).grown hg (Nat.le_refl _) (fun k hk => by cases hk)); have HBY5 : Hid _ := hby5; have HP5 : Hid _ := hp5; clear hown hg hby5 hp5) | (go_at_call 20; refine (HP5.out.poke_yes kk v5 x.b HBY5.out HX.out.ba hfit).mono ?_; rintro e6 w6 ⟨rfl, hp6⟩; have HP6 : Hid (Pmr w1.heap.size w1 L w2.heap.size gc cap n go #[.int .i64 x.k, .int .u64 x.a, .int .i64 x.n, .int .u64 x.v, .slice x.ab x.b.length x.cb, .bool x.t, .bool x.e, .bool x.s, .slice x.ai x.i.length x.ci] { R with ram := splice R.ram kk x.b } R.ram w6) := hp6; clear hp6))
                obtain ⟨R2, hR2⟩ : ∃ R2, R2 = { R with ram := splice R.ram kk x.b } := ⟨_, rfl⟩
                have HR : Hid (R2.ram = splice R.ram kk x.b) := by unfold Hid; rw [hR2]
                rw [← hR2] at HP6
                clear hR2 HWL HBB q0 q1 q2 q3 q4
                have HP7 : Hid (Pmr w1.heap.size w1 L w2.heap.size gc cap n go #[.int .i64 x.k, .int .u64 x.a, .int .i64 x.n, .int .u64 x.v, .slice x.ab x.b.length x.cb, .bool x.t, .bool x.e, .bool x.s, .slice x.ai x.i.length x.ci] R2 (splice R.ram kk (x.b.take 0)) w6) := by have h := HP6.out; unfold Hid; rw [List.take_zero, splice_nil]; exact h
                have p4 : w6.cell? ⟨go, 4, none⟩ = some (.slice x.ab x.b.length x.cb) := cell_of_row w6 _ 4 _ _ _ HP7.out.row
                have hlb : (kk : Int) + (x.b.length : Int) ≤ (n : Int) ∨ (x.b.length : Int) = 0 := by rcases hfit with h | h; exact .inl (by omega); exact .inr (by rw [h]; rfl)
                go_cut [15] from 116 to 129 (fun v wx => v = .bool true ∧ wx = w6)
                case first =>
                  rcases hlb with hlb | hlb
                  · go_wp2
                    go_meet
                    exact ⟨rfl, rfl⟩
                  · by_cases hlb2 : (kk : Int) + (x.b.length : Int) ≤ (n : Int)
                    all_goals go_wp2
                    all_goals go_meet
                    all_goals exact ⟨rfl, rfl⟩
                case rest =>
                  obtain ⟨rfl, hwc⟩ := hcut
                  have hwc2 := hwc.symm
                  subst hwc2
                  clear hwc p4
                  go_wp2
                  go_loopw [16] (fun i wr => ∃ m : Nat, m ≤ x.b.length ∧ i = .int .i64 m ∧ Hid (Pmr w1.heap.size w1 L w2.heap.size gc cap n go #[.int .i64 x.k, .int .u64 x.a, .int .i64 x.n, .int .u64 x.v, .slice x.ab x.b.length x.cb, .bool x.t, .bool x.e, .bool x.s, .slice x.ai x.i.length x.ci] R2 (splice R.ram kk (x.b.take m)) wr)) (fun i _ => x.b.length - (intOf i).toNat)
                  case atStart => exact ⟨0, Nat.zero_le _, rfl, HP7⟩
                  case round =>
                    obtain ⟨m, hm, rfl, hpm⟩ := hrel
                    clear HP7
                    have p4 : wr.cell? ⟨go, 4, none⟩ = some (.slice x.ab x.b.length x.cb) := cell_of_row wr _ 4 _ _ _ hpm.out.row
                    by_cases hlm : m < x.b.length
                    · have hlm2 : (m : Int) < (x.b.length : Int) := by omega
                      have hfit2 : kk + x.b.length ≤ n := by rcases hfit with h | h; exact h; exact absurd hlm (by rw [h]; simp)
                      have hkn : kk + m < n := by omega
                      have hkn2 : (kk : Int) + (m : Int) < (n : Int) := by omega
                      have hln := hpm.out.m.len
                      have hce : wr.cell? ⟨gc, kk + m, none⟩ = some (.int .u8 ((splice R.ram kk (x.b.take m)).getD (kk + m) 0)) := by
                        rw [hpm.out.m.own.cellAt (kk + m) (by omega), bv_get _ _ (by rw [hln]; exact hkn)]
                      have hfr := hpm.out.m.own.frozenAt (kk + m)
                      obtain ⟨a8, c8, e8, _, _, h8⟩ := HX.out.b.later hpm.out.m.be rfl
                      obtain ⟨gi, oi, ea8, hgi, hci⟩ := h8 (fun e => by rw [e] at hlm; simp at hlm)
                      injection e8 with e81 e82 e83
                      have hcb := hci m hlm
                      rw [e81, ea8] at p4
                      have HP8 : Hid (Pmr w1.heap.size w1 L w2.heap.size gc cap n go #[.int .i64 x.k, .int .u64 x.a, .int .i64 x.n, .int .u64 x.v, .slice x.ab x.b.length x.cb, .bool x.t, .bool x.e, .bool x.s, .slice x.ai x.i.length x.ci] R2 (splice R.ram kk (x.b.take (m + 1))) (wr.setCell ⟨gc, kk + m, none⟩ (.int .u8 (x.b.getD m 0)))) := by
                        have h := hpm.out.put (kk + m) hkn (x.b.getD m 0)
                        rw [splice_tk kk m hlm (by omega)] at h
                        exact h
                      have hbz : 0 ≤ x.b.getD m 0 ∧ x.b.getD m 0 ≤ 255 := getD_byte HX.out.ba m
                      generalize (splice R.ram kk (x.b.take m)).getD (kk + m) 0 = zz at hce
                      generalize x.b.getD m 0 = yy at hcb HP8 hbz
                      clear hln h8 hci ea8 e81 e82 e83
                      go_wp2
                      go_roundw
                      all_goals first | exact ⟨m + 1, by omega, by go_num, HP8⟩ | (simp [intOf] <;> omega)
                    · obtain rfl : m = x.b.length := by omega
                      have hnl : ¬ (x.b.length : Int) < (x.b.length : Int) := by omega
                      have HP8 : Hid (Pmm w1.heap.size w1 L w2.heap.size gc cap n R2 R2.ram wr) := by unfold Hid; rw [HR.out]; have h := hpm.out.m; rw [List.take_length] at h; exact h
                      clear hpm
                      go_wp2
                      go_roundw
                      all_goals first | exact ⟨j + 1, R2, by omega, by go_num, HP8⟩ | (simp [intOf] <;> omega)
              · have hf1 : n < kk + x.b.length := by omega
                have hf0 : 0 < x.b.length := by cases hbb : x.b with | nil => exact absurd (.inr hbb) hfit | cons => simp
                clear hfit
                go_upto_region 26 with (first | (at_builtin; refine appL (by rfl) _ _ (by rfl) W1.heap.size _ _ [] x.b (by rfl) (World.ownsRow_nil _ _ _ _) (by rfl) HBB.out (by simp; omega) (Nat.le_refl _) ?_; intro v5 w5 hown hg; obtain ⟨hby5, hp5⟩ := HWL.out v5 w5 hown ((Below.refl _ _).grown hg (Nat.le_refl _) (fun k hk => by cases hk)); have HBY5 : Hid _ := hby5; have HP5 : Hid _ := hp5; clear hown hg hby5 hp5) | (go_at_call 20; refine (HP5.out.poke_no kk v5 x.b HBY5.out hf0 (by omega) hf1 (by omega)).mono ?_; rintro e6 w6 ⟨rfl, hp6⟩; have HP6 : Hid (Pmr w1.heap.size w1 L w2.heap.size gc cap n go #[.int .i64 x.k, .int .u64 x.a, .int .i64 x.n, .int .u64 x.v, .slice x.ab x.b.length x.cb, .bool x.t, .bool x.e, .bool x.s, .slice x.ai x.i.length x.ci] R R.ram w6) := hp6; clear hp6))
                clear HWL HBB q0 q1 q2 q3 q4
                have p4 : w6.cell? ⟨go, 4, none⟩ = some (.slice x.ab x.b.length x.cb) := cell_of_row w6 _ 4 _ _ _ HP6.out.row
                have hg1 : ¬ (kk : Int) + (x.b.length : Int) ≤ (n : Int) := by omega
                have hg0 : ((x.b.length : Int) == 0) = false := by rw [beq_eq_false_iff_ne]; omega
                have hg2 : (0 : Int) < (x.b.length : Int) := by omega
                have HP7 : Hid (Pmm w1.heap.size w1 L w2.heap.size gc cap n R R.ram w6) := HP6.out.m
                go_wp2
                go_loopw [16] (fun i wr => i = .int .i64 0 ∧ wr = w6) (fun _ _ => 0)
                case atStart => exact ⟨rfl, rfl⟩
                case round =>
                  obtain ⟨rfl, hwq⟩ := hrel
                  have hwq2 := hwq.symm
                  subst hwq2
                  go_wp2
                  go_roundw
                  all_goals first | exact ⟨j + 1, R, by omega, by go_num, HP7⟩ | (simp [intOf] <;> omega)
          · have hb7 : (x.k == 7) = false := by simp [hk]
            clear hk
            by_cases hk : x.k = 1
            · as_aux_lemma =>
                have hb1 : (x.k == 1) = true := by simp [hk]
                clear hk
                --@CUT8
                have HLD : Hid (Calls Try.prog 17 #[.pointer (some ⟨L.b, 0, none⟩), .int .u64 (2147483648 + (kk : Int)), .int .i64 x.n] W1 fun e w' => e = .returned (.tuple #[.int .u64 (R.lod kk x.n), .bool fx]) ∧ Pmr w1.heap.size w1 L w2.heap.size gc cap n go #[.int .i64 x.k, .int .u64 x.a, .int .i64 x.n, .int .u64 x.v, .slice x.ab x.b.length x.cb, .bool x.t, .bool x.e, .bool x.s, .slice x.ai x.i.length x.ci] R R.ram w') := by
                  have q := HP1.out.load kk x.n (by omega) HX.out.n
                  rw [← HFE.out] at q
                  exact q
                have hRl : R.ram.length = n := HP1.out.m.nl
                have HLO : Hid (R.lod kk x.n = if fx then ((tk ((R.ram.drop kk).take x.n.toNat) : Nat) : Int) else 0) := by unfold Hid St.lod; rw [hRl, ← HFE.out]
                generalize R.lod kk x.n = lv at HLD HLO
                go_upto_region 36 with (go_at_call 17; refine HLD.out.mono ?_; rintro e w5 ⟨rfl, hp5⟩; have HP5 : Hid (Pmr w1.heap.size w1 L w2.heap.size gc cap n go #[.int .i64 x.k, .int .u64 x.a, .int .i64 x.n, .int .u64 x.v, .slice x.ab x.b.length x.cb, .bool x.t, .bool x.e, .bool x.s, .slice x.ai x.i.length x.ci] R R.ram w5) := hp5; clear hp5)
                clear HLD q0 q1 q2 q3 q4
                cases fx with
                | false =>
                  have hlv : lv = 0 := by rw [HLO.out]; rfl
                  subst hlv
                  have HP6 : Hid (Pmm w1.heap.size w1 L w2.heap.size gc cap n R R.ram w5) := HP5.out.m
                  have p2 : w5.cell? ⟨go, 2, none⟩ = some (.int .i64 x.n) := cell_of_row w5 _ 2 _ _ _ HP5.out.row
                  go_wp2
                  go_loopw [19, 20] (fun v i wr => v = .int .u64 0 ∧ i = .int .i64 0 ∧ wr = w5) (fun _ _ _ => 0)
                  case atStart => exact ⟨rfl, rfl, rfl⟩
                  case round =>
                    obtain ⟨rfl, rfl, hwq⟩ := hrel
                    have hwq2 := hwq.symm
                    subst hwq2
                    by_cases hN : 0 < x.n
                    all_goals go_wp2
                    all_goals go_roundw
                    all_goals first | exact ⟨j + 1, R, by omega, by go_num, HP6⟩ | (simp [intOf] <;> omega)
                | true =>
                  obtain ⟨s, hs, hks, hs0, hs8⟩ := hasM_at HFE.out.symm
                  obtain ⟨l, hl⟩ : ∃ l, l = (R.ram.drop kk).take s := ⟨_, rfl⟩
                  have hll : l.length = s := by rw [hl]; simp; omega
                  have hlv : lv = ((tkN l s : Nat) : Int) := by rw [HLO.out, if_pos rfl, hs, Int.toNat_natCast, ← hl, tk, hll, Nat.min_eq_left hs8]
                  subst hlv
                  have HLA : Hid (AllB l) := by intro z hz; rw [hl] at hz; exact HP1.out.m.s.st.r z (List.mem_of_mem_drop (List.mem_of_mem_take hz))
                  have HLG : Hid (∀ m, m < s → R.ram.getD (kk + m) 0 = l.getD m 0) := by
                    intro m hm
                    rw [hl]
                    simp only [List.getD]
                    rw [List.getElem?_take_of_lt hm, List.getElem?_drop]
                  clear hl HLO HP1
                  go_wp2
                  go_loopw [19, 20] (fun v i wr => ∃ m : Nat, m ≤ s ∧ i = .int .i64 m ∧ v = .int .u64 ((tkN l m : Nat) : Int) ∧ Hid (Pmr w1.heap.size w1 L w2.heap.size gc cap n go #[.int .i64 x.k, .int .u64 x.a, .int .i64 x.n, .int .u64 x.v, .slice x.ab x.b.length x.cb, .bool x.t, .bool x.e, .bool x.s, .slice x.ai x.i.length x.ci] R R.ram wr)) (fun _ i _ => s - (intOf i).toNat)
                  case atStart => exact ⟨0, Nat.zero_le _, rfl, rfl, HP5⟩
                  case round =>
                    obtain ⟨m, hm, rfl, rfl, hpm⟩ := hrel
                    clear HP5
                    have p2 : wr.cell? ⟨go, 2, none⟩ = some (.int .i64 s) := by rw [← hs]; exact cell_of_row wr _ 2 _ _ _ hpm.out.row
                    by_cases hlm : m < s
                    · have hlm2 : (m : Int) < (s : Int) := by omega
                      have hm8 : (m : Int) < 8 := by omega
                      have hm8n : m < 8 := by omega
                      have hkn : kk + m < n := by omega
                      have hkn2 : (kk : Int) + (m : Int) < (n : Int) := by omega
                      have hce : wr.cell? ⟨gc, kk + m, none⟩ = some (.int .u8 (l.getD m 0)) := by
                        rw [hpm.out.m.own.cellAt (kk + m) (by omega), bv_get _ _ (by rw [hRl]; exact hkn), HLG.out m hlm]
                      have hby := getD_byte HLA.out m
                      have HS' : Hid (bits .or .u64 ((tkN l m : Nat) : Int) (IntKind.u64.wrap (l.getD m 0 * 2 ^ (8 * m))) = ((tkN l (m + 1) : Nat) : Int)) := take_step HLA.out m hm8n
                      obtain ⟨z, hz⟩ : ∃ z, z = l.getD m 0 := ⟨_, rfl⟩
                      rw [← hz] at hce hby
                      have HZ3 : Hid (z = l.getD m 0) := hz
                      clear hz
                      obtain ⟨M, hM⟩ : ∃ M, M = tkN l m := ⟨_, rfl⟩
                      rw [← hM]
                      have HM3 : Hid (M = tkN l m) := hM
                      clear hM
                      --@CUT9
                      go_wp2
                      go_roundw
                      all_goals first | exact ⟨m + 1, by omega, by go_num, by rw [← HS'.out, ← HZ3.out, ← HM3.out], hpm⟩ | (simp [intOf] <;> omega)
                    · obtain rfl : m = s := by omega
                      have hnl : ¬ (m : Int) < (m : Int) := by omega
                      have HP7 : Hid (Pmm w1.heap.size w1 L w2.heap.size gc cap n R R.ram wr) := hpm.out.m
                      have hvv : (((tkN l m : Nat) : Int) != ((tkN l m : Nat) : Int)) = false := by simp
                      generalize ((tkN l m : Nat) : Int) = tv at hvv
                      clear hpm
                      go_wp2
                      go_roundw
                      all_goals first | exact ⟨j + 1, R, by omega, by go_num, HP7⟩ | (simp [intOf] <;> omega)
            · have hb1 : (x.k == 1) = false := by simp [hk]
              clear hk
              have HP6 : Hid (Pmm w1.heap.size w1 L w2.heap.size gc cap n R R.ram W1) := HP1.out.m
              go_wp2
              go_roundw
              all_goals first | exact ⟨j + 1, R, by omega, by go_num, HP6⟩ | (simp [intOf] <;> omega)
    · obtain rfl : j = O.length := by omega
      have hnl : ¬ (O.length : Int) < (O.length : Int) := by omega
      --@CUT10
      have hRl : R.ram.length = n := hst.out.nl
      have HRN := hst.out.s.n
      obtain ⟨sl, hsl⟩ : ∃ sl, sl = strOfNums R.ram := ⟨_, rfl⟩
      have HSS : Hid (∀ w9 : World, Below wr.heap.size wr w9 → Calls Try.prog 11 #[.pointer (some ⟨L.b, 0, none⟩)] w9 fun e w' => ∃ y1 z1 y2 z2 y3 z3, e = .returned (.agg #[.slice y1 R.ram.length z1, .int .u32 R.msip, .int .u64 R.cmp, .int .u64 R.time, .bool R.ext, .bool R.soft, .int .u8 R.ier, .int .u8 R.lcr, .int .u8 R.mcr, .int .u8 R.scr, .bool R.ov, .slice y2 R.inp.length z2, .slice y3 R.out.length z3, .int .i64 R.off, .int .i64 R.code]) ∧ Byt w' (.slice y1 R.ram.length z1) R.ram ∧ Below w9.heap.size w9 w') := fun w9 hb => (state_c w9 (hst.out.later hb).p (by omega) (by omega) (by omega)).mono fun e w' ⟨x, y, z, h1, h2, h3⟩ => by
        obtain ⟨y1, z1, y2, z2, y3, z3, rfl, rfl, rfl⟩ := h2.bs.forms
        exact ⟨y1, z1, y2, z2, y3, z3, h1, h2.bs.r, h3⟩
      have HCV : Hid (∀ w9 : World, Below wr.heap.size wr w9 → (convert 22 9 (.slice (some ⟨gc, 0, none⟩) n cap)).run Try.prog w9 = .ok (.string sl) w9) := fun w9 hb => by rw [hsl]; exact Byt.conv (Byt.of_own (hst.out.later hb).own)
      have HCU : Hid (∀ w9 u, Byt w9 u R.ram → (convert 22 9 u).run Try.prog w9 = .ok (.string sl) w9) := fun w9 u hb => by rw [hsl]; exact Byt.conv hb
      have HBE : Hid (Below w1.heap.size w1 wr) := hst.out.be
      have HLE : Hid (w1.heap.size ≤ wr.heap.size) := hst.out.size
      clear hsl HRN hRl hst
      go_upto_region 42 with fail
      --@CUT11
      have hcA := HCV.out _ (Below.drew (Below.refl _ wr))
      go_region_with (first | (go_at_call 11; refine (HSS.out _ ?_).mono ?_; exact Below.drew (Below.refl _ _); rintro e w8 ⟨a1, b1, a2, b2, a3, b3, rfl, hby, hb1⟩; have HB8 : Hid (Below wr.heap.size wr w8) := undrew hb1; have hcj1 := HCV.out w8 HB8.out; have hcu := HCU.out w8 _ hby; have hfl := ramField R a1 a2 a3 b1 b2 b3 w8; clear hb1 hby))
      all_goals go_wp2
      all_goals go_ret
      all_goals exact ⟨rfl, HBA.out _ (HBE.out.trans (HB8.out.mono HLE.out))⟩
end Go.Proofs.Ytghiabdkgfhdbaa
