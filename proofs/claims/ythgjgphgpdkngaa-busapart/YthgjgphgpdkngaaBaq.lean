/-
  BusApart: the walk.
-/
import Derived.Test.YthgjgphgpdkngaaBap
import Derived.Test.YthgjgphgpdkngaaBmd
import Derived.Test.YthgjgphgpdkngaaBos
import Derived.BigRegion
import Derived.BigQuiet
import Derived.Deep.QuietTactic
import Derived.Deep.CutRange
namespace Go.Proofs.Ythgjgphgpdkngaa
set_option linter.unusedVariables false
open Go.ChangeShapes Go.WideShapes Go.ChangeAt Go.RowKit Go.Deep
set_option maxRecDepth 100000 in
theorem apart_no (S : St) (ar ai ao : Option Addr) (cr ci co : Nat) (vO : Value) (w : World) (hok : S.ok = false) :
    Calls Try.prog 6 #[.agg (stoc S (.slice ar S.ram.length cr) (.slice ai S.inp.length ci) (.slice ao S.out.length co) vO)] w fun e w' => e = .returned (.bool true) ∧ Below w.heap.size w w' := by
  have HCB : Hid (∀ w1, Calls Try.prog 15 #[.agg (stc S (.slice ar S.ram.length cr) (.slice ai S.inp.length ci) (.slice ao S.out.length co))] w1 fun e w' => e = .returned (.bool false) ∧ Below w1.heap.size w1 w') := fun w1 => by rw [← hok]; exact rcanBe_c S ar ai ao cr ci co w1
  clear hok
  unfold stoc
  unfold stc at HCB ⊢
  go_enter Try.func6, Try.ntmps6
  go_wp2_with (go_at_call 15; refine (HCB.out _).mono ?_; rintro e w1 ⟨rfl, hb1⟩; have HB1 : Hid (Below w.heap.size w w1) := box_below hb1; clear hb1)
  go_ret
  exact ⟨rfl, HB1.out⟩
set_option maxRecDepth 100000 in
theorem apart_few (S : St) (ar ai ao : Option Addr) (cr ci co : Nat) (aO : Option Addr) (nO cO : Nat) (w : World) (hok : S.ok = true) (hn : nO < 2) :
    Calls Try.prog 6 #[.agg (stoc S (.slice ar S.ram.length cr) (.slice ai S.inp.length ci) (.slice ao S.out.length co) (.slice aO nO cO))] w fun e w' => e = .returned (.bool true) ∧ Below w.heap.size w w' := by
  have HCB : Hid (∀ w1, Calls Try.prog 15 #[.agg (stc S (.slice ar S.ram.length cr) (.slice ai S.inp.length ci) (.slice ao S.out.length co))] w1 fun e w' => e = .returned (.bool true) ∧ Below w1.heap.size w1 w') := fun w1 => by rw [← hok]; exact rcanBe_c S ar ai ao cr ci co w1
  have hd : decide ((nO : Int) < 2) = true := by simp; omega
  clear hok
  unfold stoc
  unfold stc at HCB ⊢
  go_enter Try.func6, Try.ntmps6
  go_wp2_with (go_at_call 15; refine (HCB.out _).mono ?_; rintro e w1 ⟨rfl, hb1⟩; have HB1 : Hid (Below w.heap.size w w1) := box_below hb1; have HP1 : Hid _ := (Lies.new w _ _).later hb1; have p0 : w1.cell? ⟨w.heap.size, 0, none⟩ = some (.slice ar S.ram.length cr) := Lies.cell HP1.out 0; have p1 : w1.cell? ⟨w.heap.size, 1, none⟩ = some (.int .u32 S.msip) := Lies.cell HP1.out 1; have p2 : w1.cell? ⟨w.heap.size, 2, none⟩ = some (.int .u64 S.cmp) := Lies.cell HP1.out 2; have p3 : w1.cell? ⟨w.heap.size, 3, none⟩ = some (.int .u64 S.time) := Lies.cell HP1.out 3; have p4 : w1.cell? ⟨w.heap.size, 4, none⟩ = some (.bool S.ext) := Lies.cell HP1.out 4; have p5 : w1.cell? ⟨w.heap.size, 5, none⟩ = some (.bool S.soft) := Lies.cell HP1.out 5; have p6 : w1.cell? ⟨w.heap.size, 6, none⟩ = some (.int .u8 S.ier) := Lies.cell HP1.out 6; have p7 : w1.cell? ⟨w.heap.size, 7, none⟩ = some (.int .u8 S.lcr) := Lies.cell HP1.out 7; have p8 : w1.cell? ⟨w.heap.size, 8, none⟩ = some (.int .u8 S.mcr) := Lies.cell HP1.out 8; have p9 : w1.cell? ⟨w.heap.size, 9, none⟩ = some (.int .u8 S.scr) := Lies.cell HP1.out 9; have p10 : w1.cell? ⟨w.heap.size, 10, none⟩ = some (.bool S.ov) := Lies.cell HP1.out 10; have p11 : w1.cell? ⟨w.heap.size, 11, none⟩ = some (.slice ai S.inp.length ci) := Lies.cell HP1.out 11; have p12 : w1.cell? ⟨w.heap.size, 12, none⟩ = some (.slice ao S.out.length co) := Lies.cell HP1.out 12; have p13 : w1.cell? ⟨w.heap.size, 13, none⟩ = some (.int .i64 S.off) := Lies.cell HP1.out 13; have p14 : w1.cell? ⟨w.heap.size, 14, none⟩ = some (.int .i64 S.code) := Lies.cell HP1.out 14; have p15 : w1.cell? ⟨w.heap.size, 15, none⟩ = some (.slice aO nO cO) := Lies.cell HP1.out 15; clear hb1)
  go_ret
  exact ⟨rfl, HB1.out⟩
set_option maxRecDepth 100000 in
set_option maxHeartbeats 8000000 in
theorem apart_c (S : St) (ar ai ao : Option Addr) (cr ci co g off nO cO : Nat) (x y : Cal) (w : World) (hok : S.ok = true) (hn : 2 ≤ nO) (hs : Bs S (.slice ar S.ram.length cr) (.slice ai S.inp.length ci) (.slice ao S.out.length co) w)
    (lr : S.ram.length ≤ 140737488355328) (li : S.inp.length ≤ 140737488355328) (lo : S.out.length ≤ 140737488355328) (hg : g < w.heap.size) (hst : StW S) (ox : CalOk w x) (oy : CalOk w y)
    (hx : ∀ c, c < 9 → w.cell? ⟨g, off + c, none⟩ = (calv x)[c]?) (hy : ∀ c, c < 9 → w.cell? ⟨g, off + 9 + c, none⟩ = (calv y)[c]?) :
    Calls Try.prog 6 #[.agg (stoc S (.slice ar S.ram.length cr) (.slice ai S.inp.length ci) (.slice ao S.out.length co) (.slice (some ⟨g, off, none⟩) nO cO))] w fun e w' => e = .returned (.bool true) ∧ Below w.heap.size w w' := by
  have HCB : Hid (∀ w1, Calls Try.prog 15 #[.agg (stc S (.slice ar S.ram.length cr) (.slice ai S.inp.length ci) (.slice ao S.out.length co))] w1 fun e w' => e = .returned (.bool true) ∧ Below w1.heap.size w1 w') := fun w1 => by rw [← hok]; exact rcanBe_c S ar ai ao cr ci co w1
  have HMD : Hid (∀ w1, Below w.heap.size w w1 → Calls Try.prog 16 #[.agg (stc S (.slice ar S.ram.length cr) (.slice ai S.inp.length ci) (.slice ao S.out.length co))] w1 fun e w' => ∃ L, e = .returned (.tuple #[.pointer (some ⟨Lay.b L, 0, none⟩), .bool true]) ∧ PB w1.heap.size L S w' ∧ Below w1.heap.size w1 w') :=
    fun w1 h => made_c S ar ai ao cr ci co w1 hok (hs.later h) lr li lo
  have hd : decide ((nO : Int) < 2) = false := by simp; omega
  have hc0 : (0 : Int) < (nO : Int) := by omega
  have hp0 : 0 < nO := by omega
  have hp1 : 1 < nO := by omega
  have hc1 : (1 : Int) < (nO : Int) := by omega
  have HC : Hid (∀ w', Below w.heap.size w w' → w'.cell? ⟨g, off, none⟩ = some (.int .i64 x.k) ∧ w'.cell? ⟨g, off + 1, none⟩ = some (.int .u64 x.a) ∧ w'.cell? ⟨g, off + 2, none⟩ = some (.int .i64 x.n) ∧ w'.cell? ⟨g, off + 3, none⟩ = some (.int .u64 x.v) ∧ w'.cell? ⟨g, off + 4, none⟩ = some (.slice x.ab x.b.length x.cb) ∧ w'.cell? ⟨g, off + 5, none⟩ = some (.bool x.t) ∧ w'.cell? ⟨g, off + 6, none⟩ = some (.bool x.e) ∧ w'.cell? ⟨g, off + 7, none⟩ = some (.bool x.s) ∧ w'.cell? ⟨g, off + 8, none⟩ = some (.slice x.ai x.i.length x.ci) ∧ w'.cell? ⟨g, off + 9, none⟩ = some (.int .i64 y.k) ∧ w'.cell? ⟨g, off + 10, none⟩ = some (.int .u64 y.a) ∧ w'.cell? ⟨g, off + 11, none⟩ = some (.int .i64 y.n) ∧ w'.cell? ⟨g, off + 12, none⟩ = some (.int .u64 y.v) ∧ w'.cell? ⟨g, off + 13, none⟩ = some (.slice y.ab y.b.length y.cb) ∧ w'.cell? ⟨g, off + 14, none⟩ = some (.bool y.t) ∧ w'.cell? ⟨g, off + 15, none⟩ = some (.bool y.e) ∧ w'.cell? ⟨g, off + 16, none⟩ = some (.bool y.s) ∧ w'.cell? ⟨g, off + 17, none⟩ = some (.slice y.ai y.i.length y.ci)) :=
    fun w' h => ⟨(by rw [h.cell hg]; exact hx 0 (by decide)), (by rw [h.cell hg]; exact hx 1 (by decide)), (by rw [h.cell hg]; exact hx 2 (by decide)), (by rw [h.cell hg]; exact hx 3 (by decide)), (by rw [h.cell hg]; exact hx 4 (by decide)), (by rw [h.cell hg]; exact hx 5 (by decide)), (by rw [h.cell hg]; exact hx 6 (by decide)), (by rw [h.cell hg]; exact hx 7 (by decide)), (by rw [h.cell hg]; exact hx 8 (by decide)), (by rw [h.cell hg]; exact hy 0 (by decide)), (by rw [h.cell hg]; exact hy 1 (by decide)), (by rw [h.cell hg]; exact hy 2 (by decide)), (by rw [h.cell hg]; exact hy 3 (by decide)), (by rw [h.cell hg]; exact hy 4 (by decide)), (by rw [h.cell hg]; exact hy 5 (by decide)), (by rw [h.cell hg]; exact hy 6 (by decide)), (by rw [h.cell hg]; exact hy 7 (by decide)), (by rw [h.cell hg]; exact hy 8 (by decide))⟩
  have hn8 : 8 ≤ S.ram.length ∧ S.ram.length ≤ 65536 := by
    simp only [St.ok, ramOk, Bool.and_eq_true, decide_eq_true_eq] at hok
    omega
  obtain ⟨kx, hkx, EKX⟩ := rem_ram (n := S.ram.length) ox.a.1 (by omega) hn8.2
  obtain ⟨ky, hky, EKY⟩ := rem_ram (n := S.ram.length) oy.a.1 (by omega) hn8.2
  have HKX : Hid _ := EKX
  have HKY : Hid _ := EKY
  have HNZ : Hid (¬ IntKind.u64.wrap (S.ram.length : Int) = 0) := by unfold Hid; rw [u64_small (by omega) (by omega)]; omega
  have HNM : Hid (8 ≤ S.ram.length ∧ S.ram.length ≤ 65536 ∧ kx < S.ram.length ∧ ky < S.ram.length) := ⟨hn8.1, hn8.2, hkx, hky⟩
  have HXO : Hid (CalOk w x) := ox
  have HYO : Hid (CalOk w y) := oy
  have HST : Hid (StW S) := hst
  have HLL : Hid (S.inp.length ≤ 140737488355328 ∧ S.out.length ≤ 140737488355328) := ⟨li, lo⟩
  obtain ⟨bx, hxv⟩ := n64_of (WalkArith.wf_u64 ox.v)
  obtain ⟨bY, hyv⟩ := n64_of (WalkArith.wf_u64 oy.v)
  have HXV : Hid (x.v = n64 bx) := hxv
  have HYV : Hid (y.v = n64 bY) := hyv
  clear hok hs lr li lo hx hy hn8 EKX EKY hkx hky hst ox oy hxv hyv
  unfold stoc
  unfold stc at HCB HMD ⊢
  go_enter Try.func6, Try.ntmps6
  go_wp2_with (first | (go_at_call 15; refine (HCB.out _).mono ?_; rintro e w1 ⟨rfl, hb1⟩; have HB1 : Hid (Below w.heap.size w w1) := box_below hb1; have HP1 : Hid _ := (Lies.new w _ _).later hb1; have p0 : w1.cell? ⟨w.heap.size, 0, none⟩ = some (.slice ar S.ram.length cr) := Lies.cell HP1.out 0; have p1 : w1.cell? ⟨w.heap.size, 1, none⟩ = some (.int .u32 S.msip) := Lies.cell HP1.out 1; have p2 : w1.cell? ⟨w.heap.size, 2, none⟩ = some (.int .u64 S.cmp) := Lies.cell HP1.out 2; have p3 : w1.cell? ⟨w.heap.size, 3, none⟩ = some (.int .u64 S.time) := Lies.cell HP1.out 3; have p4 : w1.cell? ⟨w.heap.size, 4, none⟩ = some (.bool S.ext) := Lies.cell HP1.out 4; have p5 : w1.cell? ⟨w.heap.size, 5, none⟩ = some (.bool S.soft) := Lies.cell HP1.out 5; have p6 : w1.cell? ⟨w.heap.size, 6, none⟩ = some (.int .u8 S.ier) := Lies.cell HP1.out 6; have p7 : w1.cell? ⟨w.heap.size, 7, none⟩ = some (.int .u8 S.lcr) := Lies.cell HP1.out 7; have p8 : w1.cell? ⟨w.heap.size, 8, none⟩ = some (.int .u8 S.mcr) := Lies.cell HP1.out 8; have p9 : w1.cell? ⟨w.heap.size, 9, none⟩ = some (.int .u8 S.scr) := Lies.cell HP1.out 9; have p10 : w1.cell? ⟨w.heap.size, 10, none⟩ = some (.bool S.ov) := Lies.cell HP1.out 10; have p11 : w1.cell? ⟨w.heap.size, 11, none⟩ = some (.slice ai S.inp.length ci) := Lies.cell HP1.out 11; have p12 : w1.cell? ⟨w.heap.size, 12, none⟩ = some (.slice ao S.out.length co) := Lies.cell HP1.out 12; have p13 : w1.cell? ⟨w.heap.size, 13, none⟩ = some (.int .i64 S.off) := Lies.cell HP1.out 13; have p14 : w1.cell? ⟨w.heap.size, 14, none⟩ = some (.int .i64 S.code) := Lies.cell HP1.out 14; have p15 : w1.cell? ⟨w.heap.size, 15, none⟩ = some (.slice (some ⟨g, off, none⟩) nO cO) := Lies.cell HP1.out 15; clear hb1) | (go_at_call 16; (fail_if_success exact HPB1); refine (HMD.out _ HB1.out).mono ?_; rintro e w2 ⟨L1, rfl, hpb, hb2⟩; have HPB1 : Hid _ := hpb; have HB2 : Hid (Below w.heap.size w w2) := HB1.out.trans (hb2.mono HB1.out.size); have HP2 : Hid _ := Lies.later HP1.out hb2; have q0 : w2.cell? ⟨w.heap.size, 0, none⟩ = some (.slice ar S.ram.length cr) := Lies.cell HP2.out 0; have q1 : w2.cell? ⟨w.heap.size, 1, none⟩ = some (.int .u32 S.msip) := Lies.cell HP2.out 1; have q2 : w2.cell? ⟨w.heap.size, 2, none⟩ = some (.int .u64 S.cmp) := Lies.cell HP2.out 2; have q3 : w2.cell? ⟨w.heap.size, 3, none⟩ = some (.int .u64 S.time) := Lies.cell HP2.out 3; have q4 : w2.cell? ⟨w.heap.size, 4, none⟩ = some (.bool S.ext) := Lies.cell HP2.out 4; have q5 : w2.cell? ⟨w.heap.size, 5, none⟩ = some (.bool S.soft) := Lies.cell HP2.out 5; have q6 : w2.cell? ⟨w.heap.size, 6, none⟩ = some (.int .u8 S.ier) := Lies.cell HP2.out 6; have q7 : w2.cell? ⟨w.heap.size, 7, none⟩ = some (.int .u8 S.lcr) := Lies.cell HP2.out 7; have q8 : w2.cell? ⟨w.heap.size, 8, none⟩ = some (.int .u8 S.mcr) := Lies.cell HP2.out 8; have q9 : w2.cell? ⟨w.heap.size, 9, none⟩ = some (.int .u8 S.scr) := Lies.cell HP2.out 9; have q10 : w2.cell? ⟨w.heap.size, 10, none⟩ = some (.bool S.ov) := Lies.cell HP2.out 10; have q11 : w2.cell? ⟨w.heap.size, 11, none⟩ = some (.slice ai S.inp.length ci) := Lies.cell HP2.out 11; have q12 : w2.cell? ⟨w.heap.size, 12, none⟩ = some (.slice ao S.out.length co) := Lies.cell HP2.out 12; have q13 : w2.cell? ⟨w.heap.size, 13, none⟩ = some (.int .i64 S.off) := Lies.cell HP2.out 13; have q14 : w2.cell? ⟨w.heap.size, 14, none⟩ = some (.int .i64 S.code) := Lies.cell HP2.out 14; have q15 : w2.cell? ⟨w.heap.size, 15, none⟩ = some (.slice (some ⟨g, off, none⟩) nO cO) := Lies.cell HP2.out 15; clear hpb hb2) | (go_at_call 16; refine (HMD.out _ HB2.out).mono ?_; rintro e w3 ⟨L2, rfl, hpb, hb3⟩; have HPB2 : Hid _ := hpb; have HPB1' : Hid _ := HPB1.out.later hb3; have HB3 : Hid (Below w.heap.size w w3) := HB2.out.trans (hb3.mono HB2.out.size); have HL3 : Hid (w2.heap.size ≤ w3.heap.size) := hb3.size; have HP3 : Hid _ := Lies.later HP2.out hb3; have r0 : w3.cell? ⟨w.heap.size, 0, none⟩ = some (.slice ar S.ram.length cr) := Lies.cell HP3.out 0; have r15 : w3.cell? ⟨w.heap.size, 15, none⟩ = some (.slice (some ⟨g, off, none⟩) nO cO) := Lies.cell HP3.out 15; have HCC := HC.out w3 HB3.out; clear hpb hb3))
  clear HCB HMD p0 p1 p2 p3 p4 p5 p6 p7 p8 p9 p10 p11 p12 p13 p14 p15 q0 q1 q2 q3 q4 q5 q6 q7 q8 q9 q10 q11 q12 q13 q14 q15
  go_cut [8, 9] from 48 to 55 (fun p q wx => ∃ ga gb, p = .pointer (some ⟨ga, 0, none⟩) ∧ q = .pointer (some ⟨gb, 0, none⟩) ∧ w3.heap.size ≤ ga ∧ w3.heap.size ≤ gb ∧ ga ≠ gb ∧ Lies ga (calv x).toArray 54 wx ∧ Lies gb (calv y).toArray 54 wx ∧ Below w3.heap.size w3 wx)
  case first =>
    obtain ⟨c0, c1, c2, c3, c4, c5, c6, c7, c8, c9, c10, c11, c12, c13, c14, c15, c16, c17⟩ := HCC
    have e1 := World.new_ne w3 _ r15
    have e2 := World.new_ne w3 _ c0
    go_region_held3 (fun w' => w'.cell? ⟨w.heap.size, 15, none⟩ = some (.slice (some ⟨g, off, none⟩) nO cO) ∧ w'.cell? ⟨g, off, none⟩ = some (.int .i64 x.k) ∧ w'.cell? ⟨g, off + 1, none⟩ = some (.int .u64 x.a) ∧ w'.cell? ⟨g, off + 2, none⟩ = some (.int .i64 x.n) ∧ w'.cell? ⟨g, off + 3, none⟩ = some (.int .u64 x.v) ∧ w'.cell? ⟨g, off + 4, none⟩ = some (.slice x.ab x.b.length x.cb) ∧ w'.cell? ⟨g, off + 5, none⟩ = some (.bool x.t) ∧ w'.cell? ⟨g, off + 6, none⟩ = some (.bool x.e) ∧ w'.cell? ⟨g, off + 7, none⟩ = some (.bool x.s) ∧ w'.cell? ⟨g, off + 8, none⟩ = some (.slice x.ai x.i.length x.ci) ∧ w'.cell? ⟨g, off + 9, none⟩ = some (.int .i64 y.k) ∧ w'.cell? ⟨g, off + 10, none⟩ = some (.int .u64 y.a) ∧ w'.cell? ⟨g, off + 11, none⟩ = some (.int .i64 y.n) ∧ w'.cell? ⟨g, off + 12, none⟩ = some (.int .u64 y.v) ∧ w'.cell? ⟨g, off + 13, none⟩ = some (.slice y.ab y.b.length y.cb) ∧ w'.cell? ⟨g, off + 14, none⟩ = some (.bool y.t) ∧ w'.cell? ⟨g, off + 15, none⟩ = some (.bool y.e) ∧ w'.cell? ⟨g, off + 16, none⟩ = some (.bool y.s) ∧ w'.cell? ⟨g, off + 17, none⟩ = some (.slice y.ai y.i.length y.ci)) (go_keep) (fail)
    all_goals go_wp2_with fail
    all_goals go_meet
    · obtain ⟨h1, h2, h3⟩ := rows_two w3 (calv x).toArray (calv y).toArray 54
      exact ⟨_, _, rfl, rfl, Nat.le_refl _, Nat.le_succ _, by omega, h1, h2, h3⟩
    · obtain ⟨h1, h2, h3⟩ := rows_two w3 (calv y).toArray (calv x).toArray 54
      exact ⟨_, _, rfl, rfl, Nat.le_succ _, Nat.le_refl _, by omega, h2, h1, h3⟩
  case rest =>
    obtain ⟨ga, gb, rfl, rfl, ma, mb, hne, la, lb, hbw⟩ := hcut
    have HLA : Hid _ := la
    have HLB : Hid _ := lb
    have HBW : Hid _ := hbw
    have s0 : wc.cell? ⟨w.heap.size, 0, none⟩ = some (.slice ar S.ram.length cr) := Lies.cell (Lies.later HP3.out hbw) 0
    have a1 : wc.cell? ⟨ga, 1, none⟩ = some (.int .u64 x.a) := la.cell 1
    have b1 : wc.cell? ⟨gb, 1, none⟩ = some (.int .u64 y.a) := lb.cell 1
    have f1 : wc.frozen? ⟨ga, 1, none⟩ = false := frozen_of_row wc ga 1 _ _ la
    have f2 : wc.frozen? ⟨gb, 1, none⟩ = false := frozen_of_row wc gb 1 _ _ lb
    have b1' : ∀ v, (wc.setCell ⟨ga, 1, none⟩ v).cell? ⟨gb, 1, none⟩ = some (.int .u64 y.a) := fun v => Lies.cell (lb.far hne 1 v) 1
    have f2' : ∀ v, (wc.setCell ⟨ga, 1, none⟩ v).frozen? ⟨gb, 1, none⟩ = false := fun v => frozen_of_row _ gb 1 _ _ (lb.far hne 1 v)
    clear la lb hbw r0 r15 HCC HP1 HP2
    have hnz := HNZ.out
    go_upto_region 12 with fail
    clear hnz
    rw [HKX.out, HKY.out]
    have HA0 : Hid _ := ap_start kx ky HB1.out HB2.out HB3.out HPB1.out HPB2.out HPB1'.out HL3.out HBW.out ma mb hne HLA.out HLB.out
    generalize (wc.setCell ⟨ga, 1, none⟩ (.int .u64 (2147483648 + (kx : Int)))).setCell ⟨gb, 1, none⟩ (.int .u64 (2147483648 + (ky : Int))) = W0 at HA0 ⊢
    clear HLA HLB HBW s0 a1 b1 f1 f2 b1' f2' HB1 HB2 HB3 HPB1 HPB2 HPB1' HL3 HP3 HKX HKY HNZ HC
    have a1 : W0.cell? ⟨ga, 1, none⟩ = some (.int .u64 (2147483648 + (kx : Int))) := Lies.cell HA0.out.la 1; have a2 : W0.cell? ⟨ga, 2, none⟩ = some (.int .i64 x.n) := Lies.cell HA0.out.la 2; have a3 : W0.cell? ⟨ga, 3, none⟩ = some (.int .u64 (n64 bx)) := (by rw [← HXV.out]; exact Lies.cell HA0.out.la 3); have b1 : W0.cell? ⟨gb, 1, none⟩ = some (.int .u64 (2147483648 + (ky : Int))) := Lies.cell HA0.out.lb 1; have b2 : W0.cell? ⟨gb, 2, none⟩ = some (.int .i64 y.n) := Lies.cell HA0.out.lb 2; have b3 : W0.cell? ⟨gb, 3, none⟩ = some (.int .u64 (n64 bY)) := (by rw [← HYV.out]; exact Lies.cell HA0.out.lb 3)
    go_upto_region 13 with (go_at_call 22; refine (HA0.out.store1 bx HNM.out.2.1 kx x.n (by have := HNM.out; omega) HXO.out.n).mono ?_; rintro e W1 ⟨rfl, hap⟩; have HA1 : Hid _ := hap; have a1 : W1.cell? ⟨ga, 1, none⟩ = some (.int .u64 (2147483648 + (kx : Int))) := Lies.cell HA1.out.la 1; have a2 : W1.cell? ⟨ga, 2, none⟩ = some (.int .i64 x.n) := Lies.cell HA1.out.la 2; have a3 : W1.cell? ⟨ga, 3, none⟩ = some (.int .u64 (n64 bx)) := (by rw [← HXV.out]; exact Lies.cell HA1.out.la 3); have b1 : W1.cell? ⟨gb, 1, none⟩ = some (.int .u64 (2147483648 + (ky : Int))) := Lies.cell HA1.out.lb 1; have b2 : W1.cell? ⟨gb, 2, none⟩ = some (.int .i64 y.n) := Lies.cell HA1.out.lb 2; have b3 : W1.cell? ⟨gb, 3, none⟩ = some (.int .u64 (n64 bY)) := (by rw [← HYV.out]; exact Lies.cell HA1.out.lb 3); clear hap)
    have HNM1 : Hid ((S.sto kx x.n bx.toNat).ram.length ≤ 65536) := by unfold Hid; rw [St.sto_len]; exact HNM.out.2.1
    go_upto_region 14 with (go_at_call 21; refine (HA1.out.load1 (St.sto_all _ _ _ _ HST.out.r) HNM1.out kx x.n (by have := HNM.out; omega) HXO.out.n).mono ?_; rintro e W2 ⟨rfl, hap⟩; have HA2 : Hid _ := hap; have a1 : W2.cell? ⟨ga, 1, none⟩ = some (.int .u64 (2147483648 + (kx : Int))) := Lies.cell HA2.out.la 1; have a2 : W2.cell? ⟨ga, 2, none⟩ = some (.int .i64 x.n) := Lies.cell HA2.out.la 2; have a3 : W2.cell? ⟨ga, 3, none⟩ = some (.int .u64 (n64 bx)) := (by rw [← HXV.out]; exact Lies.cell HA2.out.la 3); have b1 : W2.cell? ⟨gb, 1, none⟩ = some (.int .u64 (2147483648 + (ky : Int))) := Lies.cell HA2.out.lb 1; have b2 : W2.cell? ⟨gb, 2, none⟩ = some (.int .i64 y.n) := Lies.cell HA2.out.lb 2; have b3 : W2.cell? ⟨gb, 3, none⟩ = some (.int .u64 (n64 bY)) := (by rw [← HYV.out]; exact Lies.cell HA2.out.lb 3); clear hap)
    rw [St.sto_len]
    have HLO : Hid ((S.sto kx x.n bx.toNat).lod kx x.n = if hasM S.ram.length (2147483648 + (kx : Int)) x.n then ((bx.toNat % 256 ^ x.n.toNat : Nat) : Int) else 0) := St.lod_sto _ _ _ _
    generalize (S.sto kx x.n bx.toNat).lod kx x.n = lx at HLO ⊢
    have HFX : Hid (hasM S.ram.length (2147483648 + (kx : Int)) x.n = (alg (2147483648 + (kx : Int)) x.n && decide ((kx : Int) + x.n ≤ S.ram.length))) := hasM_fits HNM.out.2.2.1 HNM.out.2.1
    obtain ⟨fx, hfx⟩ : ∃ fx, fx = hasM S.ram.length (2147483648 + (kx : Int)) x.n := ⟨_, rfl⟩
    rw [← hfx] at HFX
    rw [← hfx]
    have HFE : Hid (fx = hasM S.ram.length (2147483648 + (kx : Int)) x.n) := hfx
    clear hfx
    have HAL : Hid (∀ W, Calls Try.prog 23 #[.int .u64 (2147483648 + (kx : Int)), .int .i64 x.n] W fun e w' => e = .returned (.bool (alg (2147483648 + (kx : Int)) x.n)) ∧ w' = W) := fun W => aligned_c _ _ W (by have := HNM.out; omega) HXO.out.n
    go_cut [14] from 90 to 105 (fun v wx => v = .bool fx ∧ Ap w L1 L2 w2.heap.size w3.heap.size ga gb (calr x kx) (calr y ky) (S.sto kx x.n bx.toNat) S wx)
    case first =>
      obtain ⟨q, hq⟩ : ∃ q, q = alg (2147483648 + (kx : Int)) x.n := ⟨_, rfl⟩
      rw [← hq] at HAL HFX
      have HQ : Hid (q = alg (2147483648 + (kx : Int)) x.n) := hq
      clear hq
      cases q with
      | false =>
        go_wp2_with (go_at_call 23; refine (HAL.out _).mono ?_; rintro e W3 ⟨rfl, hw⟩; have hw3 := hw.symm; subst hw3)
        go_meet
        exact ⟨by rw [HFX.out]; rfl, HA2.out⟩
      | true =>
        go_wp2_with (go_at_call 23; refine (HAL.out _).mono ?_; rintro e W3 ⟨rfl, hw⟩; have hw3 := hw.symm; subst hw3)
        go_meet
        exact ⟨by rw [fits_num HNM.out.2.2.1 HNM.out.2.1 HQ.out.symm, HFX.out]; rfl, HA2.out⟩
    case rest =>
      obtain ⟨rfl, hap⟩ := hcut
      have HA3 : Hid _ := hap
      clear hap a1 a2 a3 b1 b2 b3 HAL HA0 HA1 HA2
      rename_i W4
      have a1 : wc.cell? ⟨ga, 1, none⟩ = some (.int .u64 (2147483648 + (kx : Int))) := Lies.cell HA3.out.la 1; have a2 : wc.cell? ⟨ga, 2, none⟩ = some (.int .i64 x.n) := Lies.cell HA3.out.la 2; have a3 : wc.cell? ⟨ga, 3, none⟩ = some (.int .u64 (n64 bx)) := (by rw [← HXV.out]; exact Lies.cell HA3.out.la 3); have b1 : wc.cell? ⟨gb, 1, none⟩ = some (.int .u64 (2147483648 + (ky : Int))) := Lies.cell HA3.out.lb 1; have b2 : wc.cell? ⟨gb, 2, none⟩ = some (.int .i64 y.n) := Lies.cell HA3.out.lb 2; have b3 : wc.cell? ⟨gb, 3, none⟩ = some (.int .u64 (n64 bY)) := (by rw [← HYV.out]; exact Lies.cell HA3.out.lb 3)
      go_upto_region 15 with fail
      go_cut [146] from 106 to 145 (fun v wx => v = .bool false ∧ Ap w L1 L2 w2.heap.size w3.heap.size ga gb (calr x kx) (calr y ky) (S.sto kx x.n bx.toNat) S wx)
      case first =>
        cases fx with
        | false =>
          go_quiet (fail)
          go_wp2_with fail
          go_meet
          exact ⟨rfl, HA3.out.later (drewN_below _ _)⟩
        | true =>
          have hq : alg (2147483648 + (kx : Int)) x.n = true := by have := HFX.out; simp at this; exact this.1
          have HLT : Hid (lx = ((bx.toNat % 256 ^ x.n.toNat : Nat) : Int)) := by unfold Hid; rw [HLO.out, ← HFE.out]; rfl
          rcases alg_cases hq with hz | hz | hz | hz
          · have hl : (lx != (n64 bx).tmod 256) = false := by rw [HLT.out, hz]; exact lx_1 bx
            rw [hz] at a2
            go_quiet (fail)
            go_wp2_with fail
            go_meet
            exact ⟨rfl, HA3.out.later (drewN_below _ _)⟩
          · have hl : (lx != (n64 bx).tmod 65536) = false := by rw [HLT.out, hz]; exact lx_2 bx
            rw [hz] at a2
            go_quiet (fail)
            go_wp2_with fail
            go_meet
            exact ⟨rfl, HA3.out.later (drewN_below _ _)⟩
          · have hl : (lx != (n64 bx).tmod 4294967296) = false := by rw [HLT.out, hz]; exact lx_4 bx
            rw [hz] at a2
            go_quiet (fail)
            go_wp2_with fail
            go_meet
            exact ⟨rfl, HA3.out.later (drewN_below _ _)⟩
          · have hl : (lx != n64 bx) = false := by rw [HLT.out, hz]; exact lx_8 bx
            rw [hz] at a2
            go_quiet (fail)
            go_wp2_with fail
            go_meet
            exact ⟨rfl, HA3.out.later (drewN_below _ _)⟩
      case rest =>
        obtain ⟨rfl, hap⟩ := hcut
        have HA4 : Hid _ := hap
        clear hap a1 a2 a3 b1 b2 b3 HA3
        have a1 : wc.cell? ⟨ga, 1, none⟩ = some (.int .u64 (2147483648 + (kx : Int))) := Lies.cell HA4.out.la 1; have a2 : wc.cell? ⟨ga, 2, none⟩ = some (.int .i64 x.n) := Lies.cell HA4.out.la 2; have a3 : wc.cell? ⟨ga, 3, none⟩ = some (.int .u64 (n64 bx)) := (by rw [← HXV.out]; exact Lies.cell HA4.out.la 3); have b1 : wc.cell? ⟨gb, 1, none⟩ = some (.int .u64 (2147483648 + (ky : Int))) := Lies.cell HA4.out.lb 1; have b2 : wc.cell? ⟨gb, 2, none⟩ = some (.int .i64 y.n) := Lies.cell HA4.out.lb 2; have b3 : wc.cell? ⟨gb, 3, none⟩ = some (.int .u64 (n64 bY)) := (by rw [← HYV.out]; exact Lies.cell HA4.out.lb 3)
        obtain ⟨fy, hfy⟩ : ∃ fy, fy = hasM S.ram.length (2147483648 + (ky : Int)) y.n := ⟨_, rfl⟩
        have HFY : Hid (fy = hasM S.ram.length (2147483648 + (ky : Int)) y.n) := hfy
        have HC1 : Hid (∀ W, Ap w L1 L2 w2.heap.size w3.heap.size ga gb (calr x kx) (calr y ky) (S.sto kx x.n bx.toNat) S W → Calls Try.prog 22 #[.pointer (some ⟨L1.b, 0, none⟩), .int .u64 (2147483648 + (ky : Int)), .int .i64 y.n, .int .u64 (n64 bY)] W fun e w' => e = .returned (.bool fy) ∧ Ap w L1 L2 w2.heap.size w3.heap.size ga gb (calr x kx) (calr y ky) ((S.sto kx x.n bx.toNat).sto ky y.n bY.toNat) S w') := fun W h => by
          have q := h.store1 bY (by rw [St.sto_len]; exact HNM.out.2.1) ky y.n (by have := HNM.out; omega) HYO.out.n
          rw [St.sto_len, ← hfy] at q
          exact q
        have HC2 : Hid (∀ W, Ap w L1 L2 w2.heap.size w3.heap.size ga gb (calr x kx) (calr y ky) ((S.sto kx x.n bx.toNat).sto ky y.n bY.toNat) S W → Calls Try.prog 22 #[.pointer (some ⟨L2.b, 0, none⟩), .int .u64 (2147483648 + (ky : Int)), .int .i64 y.n, .int .u64 (n64 bY)] W fun e w' => e = .returned (.bool fy) ∧ Ap w L1 L2 w2.heap.size w3.heap.size ga gb (calr x kx) (calr y ky) ((S.sto kx x.n bx.toNat).sto ky y.n bY.toNat) (S.sto ky y.n bY.toNat) w') := fun W h => by
          have q := h.store2 bY HNM.out.2.1 ky y.n (by have := HNM.out; omega) HYO.out.n
          rw [← hfy] at q
          exact q
        have HC3 : Hid (∀ W, Ap w L1 L2 w2.heap.size w3.heap.size ga gb (calr x kx) (calr y ky) ((S.sto kx x.n bx.toNat).sto ky y.n bY.toNat) (S.sto ky y.n bY.toNat) W → Calls Try.prog 22 #[.pointer (some ⟨L2.b, 0, none⟩), .int .u64 (2147483648 + (kx : Int)), .int .i64 x.n, .int .u64 (n64 bx)] W fun e w' => e = .returned (.bool fx) ∧ Ap w L1 L2 w2.heap.size w3.heap.size ga gb (calr x kx) (calr y ky) ((S.sto kx x.n bx.toNat).sto ky y.n bY.toNat) ((S.sto ky y.n bY.toNat).sto kx x.n bx.toNat) w') := fun W h => by
          have q := h.store2 bx (by rw [St.sto_len]; exact HNM.out.2.1) kx x.n (by have := HNM.out; omega) HXO.out.n
          rw [St.sto_len, ← HFE.out] at q
          exact q
        clear hfy
        go_upto_region 18 with (go_at_call 22; refine (HC1.out _ HA4.out).mono ?_; rintro e W6 ⟨rfl, hap⟩; have HA5 : Hid _ := hap; clear a1 a2 a3 b1 b2 b3; have a1 : W6.cell? ⟨ga, 1, none⟩ = some (.int .u64 (2147483648 + (kx : Int))) := Lies.cell HA5.out.la 1; have a2 : W6.cell? ⟨ga, 2, none⟩ = some (.int .i64 x.n) := Lies.cell HA5.out.la 2; have a3 : W6.cell? ⟨ga, 3, none⟩ = some (.int .u64 (n64 bx)) := (by rw [← HXV.out]; exact Lies.cell HA5.out.la 3); have b1 : W6.cell? ⟨gb, 1, none⟩ = some (.int .u64 (2147483648 + (ky : Int))) := Lies.cell HA5.out.lb 1; have b2 : W6.cell? ⟨gb, 2, none⟩ = some (.int .i64 y.n) := Lies.cell HA5.out.lb 2; have b3 : W6.cell? ⟨gb, 3, none⟩ = some (.int .u64 (n64 bY)) := (by rw [← HYV.out]; exact Lies.cell HA5.out.lb 3); clear hap)
        go_upto_region 19 with (go_at_call 22; refine (HC2.out _ HA5.out).mono ?_; rintro e W7 ⟨rfl, hap⟩; have HA6 : Hid _ := hap; clear a1 a2 a3 b1 b2 b3; have a1 : W7.cell? ⟨ga, 1, none⟩ = some (.int .u64 (2147483648 + (kx : Int))) := Lies.cell HA6.out.la 1; have a2 : W7.cell? ⟨ga, 2, none⟩ = some (.int .i64 x.n) := Lies.cell HA6.out.la 2; have a3 : W7.cell? ⟨ga, 3, none⟩ = some (.int .u64 (n64 bx)) := (by rw [← HXV.out]; exact Lies.cell HA6.out.la 3); have b1 : W7.cell? ⟨gb, 1, none⟩ = some (.int .u64 (2147483648 + (ky : Int))) := Lies.cell HA6.out.lb 1; have b2 : W7.cell? ⟨gb, 2, none⟩ = some (.int .i64 y.n) := Lies.cell HA6.out.lb 2; have b3 : W7.cell? ⟨gb, 3, none⟩ = some (.int .u64 (n64 bY)) := (by rw [← HYV.out]; exact Lies.cell HA6.out.lb 3); clear hap)
        go_upto_region 20 with (go_at_call 22; refine (HC3.out _ HA6.out).mono ?_; rintro e W8 ⟨rfl, hap⟩; have HA7 : Hid _ := hap; clear a1 a2 a3 b1 b2 b3; have a1 : W8.cell? ⟨ga, 1, none⟩ = some (.int .u64 (2147483648 + (kx : Int))) := Lies.cell HA7.out.la 1; have a2 : W8.cell? ⟨ga, 2, none⟩ = some (.int .i64 x.n) := Lies.cell HA7.out.la 2; have a3 : W8.cell? ⟨ga, 3, none⟩ = some (.int .u64 (n64 bx)) := (by rw [← HXV.out]; exact Lies.cell HA7.out.la 3); have b1 : W8.cell? ⟨gb, 1, none⟩ = some (.int .u64 (2147483648 + (ky : Int))) := Lies.cell HA7.out.lb 1; have b2 : W8.cell? ⟨gb, 2, none⟩ = some (.int .i64 y.n) := Lies.cell HA7.out.lb 2; have b3 : W8.cell? ⟨gb, 3, none⟩ = some (.int .u64 (n64 bY)) := (by rw [← HYV.out]; exact Lies.cell HA7.out.lb 3); clear hap)
        have hfx1 : (fx != fx) = false := by simp
        have hfy1 : (fy != fy) = false := by simp
        go_upto_region 22 with fail
        clear HC1 HC2 HC3 HA4 HA5 HA6 hfx1 hfy1
        go_cut [18] from 179 to 204 (fun v wx => ∃ m, v = .bool m ∧ (m = false → fx = true → fy = true → (kx : Int) + x.n ≤ ky ∨ (ky : Int) + y.n ≤ kx) ∧ Ap w L1 L2 w2.heap.size w3.heap.size ga gb (calr x kx) (calr y ky) ((S.sto kx x.n bx.toNat).sto ky y.n bY.toNat) ((S.sto ky y.n bY.toNat).sto kx x.n bx.toNat) wx)
        case first =>
          cases fx with
          | false =>
            go_wp2_with fail
            go_meet
            exact ⟨_, rfl, fun _ h _ => absurd h (by decide), HA7.out⟩
          | true =>
            cases fy with
            | false =>
              go_wp2_with fail
              go_meet
              exact ⟨_, rfl, fun _ _ h => absurd h (by decide), HA7.out⟩
            | true =>
              have E1 : Hid _ := sum_num HNM.out.2.2.1 HNM.out.2.1 (hasM_cases HFE.out.symm)
              have E2 : Hid _ := sum_num HNM.out.2.2.2 HNM.out.2.1 (hasM_cases HFY.out.symm)
              go_wp2_with fail
              all_goals go_meet
              all_goals refine ⟨_, rfl, fun hm _ _ => ?_, HA7.out⟩
              · rename_i h0 _ _
                rw [E2.out] at h0
                rw [E1.out] at hm
                simp only [decide_eq_false_iff_not] at hm
                omega
              · rename_i h0 _ _
                rw [E2.out] at h0
                omega
        case rest =>
          obtain ⟨m, rfl, hm, hap⟩ := hcut
          cases m with
          | true =>
            have HBE : Hid _ := hap.be
            clear hap hm
            go_wp2_with fail
            go_ret
            exact ⟨rfl, HBE.out⟩
          | false =>
            rw [← St.sto_comm S kx ky x.n y.n bx.toNat bY.toNat (fun h1 h2 => hm rfl (by rw [HFE.out]; exact h1) (by rw [HFY.out]; exact h2))] at hap
            have HT : Hid (((S.sto kx x.n bx.toNat).sto ky y.n bY.toNat).ram.length ≤ 140737488355328 ∧ ((S.sto kx x.n bx.toNat).sto ky y.n bY.toNat).inp.length ≤ 140737488355328 ∧ ((S.sto kx x.n bx.toNat).sto ky y.n bY.toNat).out.length ≤ 140737488355328) := by
              unfold Hid
              rw [St.sto_len, St.sto_len, St.sto_inp, St.sto_inp, St.sto_out, St.sto_out]
              have := HNM.out
              exact ⟨by omega, HLL.out.1, HLL.out.2⟩
            have HSM : Hid (SameC ((S.sto kx x.n bx.toNat).sto ky y.n bY.toNat)) := same_any _
            have HA8 : Hid (Ap w L1 L2 w2.heap.size w3.heap.size ga gb (calr x kx) (calr y ky) ((S.sto kx x.n bx.toNat).sto ky y.n bY.toNat) ((S.sto kx x.n bx.toNat).sto ky y.n bY.toNat) wc) := hap
            clear hap hm HA7
            generalize ((S.sto kx x.n bx.toNat).sto ky y.n bY.toNat) = T at HT HSM HA8
            have HT1 : Hid (∀ W, Ap w L1 L2 w2.heap.size w3.heap.size ga gb (calr x kx) (calr y ky) T T W → Calls Try.prog 12 #[.pointer (some ⟨L1.b, 0, none⟩)] W fun e w' => ∃ ur ui uo, e = .returned (.agg (stc T ur ui uo)) ∧ Sv W.heap.size T ur ui uo w' ∧ Below W.heap.size W w') := fun W h => state_c W h.p1 HT.out.1 HT.out.2.1 HT.out.2.2
            have HT2 : Hid (∀ W, Ap w L1 L2 w2.heap.size w3.heap.size ga gb (calr x kx) (calr y ky) T T W → Calls Try.prog 12 #[.pointer (some ⟨L2.b, 0, none⟩)] W fun e w' => ∃ ur ui uo, e = .returned (.agg (stc T ur ui uo)) ∧ Sv W.heap.size T ur ui uo w' ∧ Below W.heap.size W w') := fun W h => state_c W h.p2 HT.out.1 HT.out.2.1 HT.out.2.2
            clear HT
            go_wp2_with (first | (go_at_call_of 12 (Value.pointer (some ⟨L1.b, 0, none⟩)); refine (HT1.out _ HA8.out).mono ?_; rintro e Y1 ⟨u1, u2, u3, rfl, hsv, hb⟩; have HSV1 : Hid _ := hsv.bs; have HA9 : Hid _ := HA8.out.later hb; clear hsv hb) | (go_at_call_of 12 (Value.pointer (some ⟨L2.b, 0, none⟩)); refine (HT2.out _ HA9.out).mono ?_; rintro e Y2 ⟨v1, v2, v3, rfl, hsv, hb⟩; have HSV2 : Hid _ := hsv.bs; have HSV1' : Hid _ := HSV1.out.later hb; have HA10 : Hid _ := HA9.out.later hb; clear hsv hb) | (go_at_call 11; refine (HSM.out u1 u2 u3 v1 v2 v3 _ HSV1'.out HSV2.out).mono ?_; rintro e Y3 ⟨rfl, hb⟩; have HA11 : Hid _ := HA10.out.later hb; clear hb))
            go_ret
            exact ⟨rfl, HA11.out.be⟩
end Go.Proofs.Ythgjgphgpdkngaa
