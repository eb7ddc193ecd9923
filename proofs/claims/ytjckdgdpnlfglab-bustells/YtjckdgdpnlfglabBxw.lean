/-
  Stories played on both buses.
-/
import Derived.Test.YtjckdgdpnlfglabBxv
import Derived.BigRegion
import Derived.BigQuiet
import Derived.Deep.QuietTactic
import Derived.Deep.CutRange
namespace Go.Proofs.Ytjckdgdpnlfglab
set_option linter.unusedVariables false
open Go.ChangeShapes Go.WideShapes Go.ChangeAt Go.RowKit Go.Deep Go.MuLone
set_option maxRecDepth 100000 in
set_option maxHeartbeats 4000000 in
theorem plays_no (S : St) (ar ai ao : Option Addr) (cr ci co : Nat) (w : World) (hs : Bs S (.slice ar S.ram.length cr) (.slice ai S.inp.length ci) (.slice ao S.out.length co) w) (lr : S.ram.length ≤ 140737488355328) (li : S.inp.length ≤ 140737488355328) (lo : S.out.length ≤ 140737488355328) (hok : S.ok = false) (vO : Value) (l h : Int) :
    Calls Try.prog 15 #[.agg (stoc S (.slice ar S.ram.length cr) (.slice ai S.inp.length ci) (.slice ao S.out.length co) vO), .int .i64 l, .int .i64 h] w fun e w' => e = .returned (.bool true) ∧ Below w.heap.size w w' := by
  have HBG : Hid (∀ w1, Below w.heap.size w w1 → Calls Try.prog 9 #[.agg (stc S (.slice ar S.ram.length cr) (.slice ai S.inp.length ci) (.slice ao S.out.length co))] w1 fun e w' => e = .returned (.tuple #[.agg #[.pointer none, .pointer none], .bool true, .bool false]) ∧ Below w1.heap.size w1 w') := fun w1 h => begin_bad S ar ai ao cr ci co w1 hok (hs.later h) lr li lo
  clear hok hs lr li lo
  unfold stoc
  unfold stc at HBG ⊢
  go_enter Try.func15, Try.ntmps15
  go_wp2_with (go_at_call 9; refine (HBG.out _ (below_al w _)).mono ?_; rintro e w1 ⟨rfl, hb1⟩; have HB1 : Hid (Below w.heap.size w w1) := box_below hb1; clear hb1)
  go_ret
  exact ⟨rfl, HB1.out.alloc HB1.out.size _⟩
set_option maxRecDepth 100000 in
set_option maxHeartbeats 8000000 in
theorem plays_c (S : St) (ar ai ao : Option Addr) (cr ci co : Nat) (w : World) (hs : Bs S (.slice ar S.ram.length cr) (.slice ai S.inp.length ci) (.slice ao S.out.length co) w) (lr : S.ram.length ≤ 140737488355328) (li : S.inp.length ≤ 140737488355328) (lo : S.out.length ≤ 140737488355328) (hok : S.ok = true) (hst : StW S) (aO : Option Addr) (cO : Nat) (O : List Cal) (hO : Cals w (.slice aO O.length cO) O) (hx : ∀ j, j < O.length → CalOk w (O.getD j cal0)) (hOl : O.length * 88 ≤ 140737488351232) (l h : Int) :
    Calls Try.prog 15 #[.agg (stoc S (.slice ar S.ram.length cr) (.slice ai S.inp.length ci) (.slice ao S.out.length co) (.slice aO O.length cO)), .int .i64 l, .int .i64 h] w fun e w' => e = .returned (.bool true) ∧ Below w.heap.size w w' := by
  obtain ⟨W, hW⟩ : ∃ W, w.alloc (.cells (stoc S (.slice ar S.ram.length cr) (.slice ai S.inp.length ci) (.slice ao S.out.length co) (.slice aO O.length cO)) 29) = W := ⟨_, rfl⟩
  have hbW : Below w.heap.size w W := by rw [← hW]; exact below_al w _
  have hz : w.heap.size < W.heap.size := by rw [← hW]; simp
  have r1 : W.heap[w.heap.size]? = some (.cells (stoc S (.slice ar S.ram.length cr) (.slice ai S.inp.length ci) (.slice ao S.out.length co) (.slice aO O.length cO)) 29 (0, 0)) := by rw [← hW]; exact heap_alloc_new w _
  have HBG : Hid (Calls Try.prog 9 #[.agg (stc S (.slice ar S.ram.length cr) (.slice ai S.inp.length ci) (.slice ao S.out.length co))] W fun e w' => ∃ b c, e = .returned (.tuple #[.agg #[.pointer (some ⟨b, 0, none⟩), .pointer (some ⟨c, 0, none⟩)], .bool true, .bool true]) ∧ Pls W.heap.size W b c w'.heap.size (w'.alloc (.cells #[.pointer (some ⟨b, 0, none⟩), .pointer (some ⟨c, 0, none⟩)] 33))) := (begin_c S ar ai ao cr ci co W hok (hs.later hbW) lr li lo).mono fun e w' ⟨L, c, ur, ui, uo, M, he, ht, hb⟩ => ⟨L.b, c, he, pls_start ht hb hok hst⟩
  have HEL : Hid (∀ j, j < O.length → ∃ g off x, aO = some ⟨g, off, none⟩ ∧ CalOk W x ∧ ∀ w', Below W.heap.size W w' → w'.cell? ⟨g, off + j * 9, none⟩ = some (.int .i64 x.k) ∧ w'.cell? ⟨g, off + j * 9 + 1, none⟩ = some (.int .u64 x.a) ∧ w'.cell? ⟨g, off + j * 9 + 2, none⟩ = some (.int .i64 x.n) ∧ w'.cell? ⟨g, off + j * 9 + 3, none⟩ = some (.int .u64 x.v) ∧ w'.cell? ⟨g, off + j * 9 + 4, none⟩ = some (.slice x.ab x.b.length x.cb) ∧ w'.cell? ⟨g, off + j * 9 + 5, none⟩ = some (.bool x.t) ∧ w'.cell? ⟨g, off + j * 9 + 6, none⟩ = some (.bool x.e) ∧ w'.cell? ⟨g, off + j * 9 + 7, none⟩ = some (.bool x.s) ∧ w'.cell? ⟨g, off + j * 9 + 8, none⟩ = some (.slice x.ai x.i.length x.ci)) := fun j hj => by
    obtain ⟨a, cap, e, _, h2⟩ := hO
    cases e
    obtain ⟨g, off, ea, hg, hc⟩ := h2 (fun e => by rw [e] at hj; simp at hj)
    have hg2 := Nat.lt_of_lt_of_le hg hbW.size
    refine ⟨g, off, O.getD j cal0, ea, (hx j hj).later hbW, fun w' hb => ⟨((hb.cell hg2).trans (hbW.cell hg)).trans (hc j hj 0 (by decide)), ((hb.cell hg2).trans (hbW.cell hg)).trans (hc j hj 1 (by decide)), ((hb.cell hg2).trans (hbW.cell hg)).trans (hc j hj 2 (by decide)), ((hb.cell hg2).trans (hbW.cell hg)).trans (hc j hj 3 (by decide)), ((hb.cell hg2).trans (hbW.cell hg)).trans (hc j hj 4 (by decide)), ((hb.cell hg2).trans (hbW.cell hg)).trans (hc j hj 5 (by decide)), ((hb.cell hg2).trans (hbW.cell hg)).trans (hc j hj 6 (by decide)), ((hb.cell hg2).trans (hbW.cell hg)).trans (hc j hj 7 (by decide)), ((hb.cell hg2).trans (hbW.cell hg)).trans (hc j hj 8 (by decide))⟩⟩
  have HC15 : Hid (∀ w', Below W.heap.size W w' → w'.cell? ⟨w.heap.size, 15, none⟩ = some (.slice aO O.length cO)) := fun w' hb => (hb.cell hz).trans (cell_of_row W _ 15 _ _ _ r1)
  have HBW : Hid (Below w.heap.size w W) := hbW
  have HCG : Hid (∀ w1 b c gp, Pls W.heap.size W b c gp w1 → w1.cell? ⟨gp, 0, none⟩ = some (.pointer (some ⟨b, 0, none⟩)) ∧ w1.cell? ⟨gp, 1, none⟩ = some (.pointer (some ⟨c, 0, none⟩))) := fun w1 b c gp hp => ⟨cell_of_row w1 _ 0 _ _ _ hp.row, cell_of_row w1 _ 1 _ _ _ hp.row⟩
  have hn62 : O.length ≤ 1599289640448 := by omega
  have z0 : W.cell? ⟨w.heap.size, 0, none⟩ = some (.slice ar S.ram.length cr) := cell_of_row W _ 0 _ _ _ r1
  have z1 : W.cell? ⟨w.heap.size, 1, none⟩ = some (.int .u32 S.msip) := cell_of_row W _ 1 _ _ _ r1
  have z2 : W.cell? ⟨w.heap.size, 2, none⟩ = some (.int .u64 S.cmp) := cell_of_row W _ 2 _ _ _ r1
  have z3 : W.cell? ⟨w.heap.size, 3, none⟩ = some (.int .u64 S.time) := cell_of_row W _ 3 _ _ _ r1
  have z4 : W.cell? ⟨w.heap.size, 4, none⟩ = some (.bool S.ext) := cell_of_row W _ 4 _ _ _ r1
  have z5 : W.cell? ⟨w.heap.size, 5, none⟩ = some (.bool S.soft) := cell_of_row W _ 5 _ _ _ r1
  have z6 : W.cell? ⟨w.heap.size, 6, none⟩ = some (.int .u8 S.ier) := cell_of_row W _ 6 _ _ _ r1
  have z7 : W.cell? ⟨w.heap.size, 7, none⟩ = some (.int .u8 S.lcr) := cell_of_row W _ 7 _ _ _ r1
  have z8 : W.cell? ⟨w.heap.size, 8, none⟩ = some (.int .u8 S.mcr) := cell_of_row W _ 8 _ _ _ r1
  have z9 : W.cell? ⟨w.heap.size, 9, none⟩ = some (.int .u8 S.scr) := cell_of_row W _ 9 _ _ _ r1
  have z10 : W.cell? ⟨w.heap.size, 10, none⟩ = some (.bool S.ov) := cell_of_row W _ 10 _ _ _ r1
  have z11 : W.cell? ⟨w.heap.size, 11, none⟩ = some (.slice ai S.inp.length ci) := cell_of_row W _ 11 _ _ _ r1
  have z12 : W.cell? ⟨w.heap.size, 12, none⟩ = some (.slice ao S.out.length co) := cell_of_row W _ 12 _ _ _ r1
  have z13 : W.cell? ⟨w.heap.size, 13, none⟩ = some (.int .i64 S.off) := cell_of_row W _ 13 _ _ _ r1
  have z14 : W.cell? ⟨w.heap.size, 14, none⟩ = some (.int .i64 S.code) := cell_of_row W _ 14 _ _ _ r1
  have z15 : W.cell? ⟨w.heap.size, 15, none⟩ = some (.slice aO O.length cO) := cell_of_row W _ 15 _ _ _ r1
  clear hok hst hO hx hOl hs lr li lo r1 hbW hz
  have hW2 : w.alloc (.cells #[.slice ar S.ram.length cr, .int .u32 S.msip, .int .u64 S.cmp, .int .u64 S.time, .bool S.ext, .bool S.soft, .int .u8 S.ier, .int .u8 S.lcr, .int .u8 S.mcr, .int .u8 S.scr, .bool S.ov, .slice ai S.inp.length ci, .slice ao S.out.length co, .int .i64 S.off, .int .i64 S.code, .slice aO O.length cO] 29) = W := hW
  clear hW
  unfold stoc
  unfold stc at HBG ⊢
  go_enter Try.func15, Try.ntmps15
  go_upto_region 1 with fail
  clear hW2
  go_wp2_with (go_at_call 9; refine HBG.out.mono ?_; rintro e w1 ⟨b, c, rfl, hp⟩; have HP : Hid _ := hp; clear hp)
  obtain ⟨U, hU⟩ : ∃ U, w1.alloc (.cells #[.pointer (some ⟨b, 0, none⟩), .pointer (some ⟨c, 0, none⟩)] 33) = U := ⟨_, rfl⟩
  have HPU : Hid (Pls W.heap.size W b c w1.heap.size U) := by rw [← hU]; exact HP.out
  rw [hU]
  clear HP hU HBG z0 z1 z2 z3 z4 z5 z6 z7 z8 z9 z10 z11 z12 z13 z14 z15
  generalize w1.heap.size = gp at HPU ⊢
  clear w1
  go_loopw [10] (fun i wr => ∃ j : Nat, j ≤ O.length ∧ i = .int .i64 j ∧ Hid (Pls W.heap.size W b c gp wr)) (fun i _ => O.length - (intOf i).toNat)
  case atStart => exact ⟨0, Nat.zero_le _, rfl, HPU⟩
  case round =>
    obtain ⟨j, hj, rfl, hst⟩ := hrel
    clear HPU
    have c15 := HC15.out wr hst.out.below
    by_cases hlt : j < O.length
    · have hlt2 : (j : Int) < (O.length : Int) := by omega
      obtain ⟨g, off, x, ea, hx, hcl⟩ := HEL.out j hlt
      obtain ⟨x0, x1, x2, x3, x4, x5, x6, x7, x8⟩ := hcl wr hst.out.below
      obtain ⟨p0, p1⟩ := HCG.out wr b c gp hst.out
      have hglt : gp < wr.heap.size := (Array.getElem?_eq_some_iff.1 hst.out.row).1
      have hgne : ¬ gp = wr.heap.size := by omega
      have hgne2 : ¬ wr.heap.size = gp := by omega
      rw [ea] at c15
      have HX : Hid (CalOk W x) := hx
      clear hx hcl ea
      have HCH : Hid (∀ w1 : World, Below wr.heap.size wr w1 → w1.heap[wr.heap.size]? = some (.cells #[.int .i64 x.k, .int .u64 x.a, .int .i64 x.n, .int .u64 x.v, .slice x.ab x.b.length x.cb, .bool x.t, .bool x.e, .bool x.s, .slice x.ai x.i.length x.ci] 39 (0, 0)) → Calls Try.prog 10 #[.agg #[.pointer (some ⟨b, 0, none⟩), .pointer (some ⟨c, 0, none⟩)], .agg #[.int .i64 x.k, .int .u64 x.a, .int .i64 x.n, .int .u64 x.v, .slice x.ab x.b.length x.cb, .bool x.t, .bool x.e, .bool x.s, .slice x.ai x.i.length x.ci]] w1 fun e w' => e = .returned (.bool true) ∧ Pls W.heap.size W b c gp w' ∧ w'.heap[wr.heap.size]? = some (.cells #[.int .i64 x.k, .int .u64 x.a, .int .i64 x.n, .int .u64 x.v, .slice x.ab x.b.length x.cb, .bool x.t, .bool x.e, .bool x.s, .slice x.ai x.i.length x.ci] 39 (0, 0))) := fun w1 hb hg => hst.out.chg rfl hb x HX.out _ (Nat.le_refl _) hg
      have HAS : Hid (∀ w2 : World, Pls W.heap.size W b c gp w2 → Calls Try.prog 11 #[.agg #[.pointer (some ⟨b, 0, none⟩), .pointer (some ⟨c, 0, none⟩)], .agg #[.int .i64 x.k, .int .u64 x.a, .int .i64 x.n, .int .u64 x.v, .slice x.ab x.b.length x.cb, .bool x.t, .bool x.e, .bool x.s, .slice x.ai x.i.length x.ci]] w2 fun e w' => e = .returned (.bool true) ∧ Pls W.heap.size W b c gp w' ∧ Below w2.heap.size w2 w') := fun w2 hp => hp.ask x HX.out
      have HRC : Hid (∀ w1 : World, w1.heap[wr.heap.size]? = some (.cells #[.int .i64 x.k, .int .u64 x.a, .int .i64 x.n, .int .u64 x.v, .slice x.ab x.b.length x.cb, .bool x.t, .bool x.e, .bool x.s, .slice x.ai x.i.length x.ci] 39 (0, 0)) → w1.cell? ⟨wr.heap.size, 0, none⟩ = some (.int .i64 x.k) ∧ w1.cell? ⟨wr.heap.size, 1, none⟩ = some (.int .u64 x.a) ∧ w1.cell? ⟨wr.heap.size, 2, none⟩ = some (.int .i64 x.n) ∧ w1.cell? ⟨wr.heap.size, 3, none⟩ = some (.int .u64 x.v) ∧ w1.cell? ⟨wr.heap.size, 4, none⟩ = some (.slice x.ab x.b.length x.cb) ∧ w1.cell? ⟨wr.heap.size, 5, none⟩ = some (.bool x.t) ∧ w1.cell? ⟨wr.heap.size, 6, none⟩ = some (.bool x.e) ∧ w1.cell? ⟨wr.heap.size, 7, none⟩ = some (.bool x.s) ∧ w1.cell? ⟨wr.heap.size, 8, none⟩ = some (.slice x.ai x.i.length x.ci)) := fun w1 h => ⟨cell_of_row w1 _ 0 _ _ _ h, cell_of_row w1 _ 1 _ _ _ h, cell_of_row w1 _ 2 _ _ _ h, cell_of_row w1 _ 3 _ _ _ h, cell_of_row w1 _ 4 _ _ _ h, cell_of_row w1 _ 5 _ _ _ h, cell_of_row w1 _ 6 _ _ _ h, cell_of_row w1 _ 7 _ _ _ h, cell_of_row w1 _ 8 _ _ _ h⟩
      have HLO : Hid (∀ w1 : World, Below wr.heap.size wr w1 → (w1.cell? ⟨gp, 0, none⟩ = some (.pointer (some ⟨b, 0, none⟩)) ∧ w1.cell? ⟨gp, 1, none⟩ = some (.pointer (some ⟨c, 0, none⟩)))) := fun w1 hb => HCG.out w1 b c gp (hst.out.later hb)
      go_upto_region 10 with (first | (go_at_call 10; refine (HCH.out _ (by first | exact below_al wr _ | exact Below.drew (below_al wr _)) (heap_alloc_new wr _)).mono ?_; rintro e w2 ⟨rfl, hp2, hr2⟩; obtain ⟨q0, q1, q2, q3, q4, q5, q6, q7, q8⟩ := HRC.out w2 hr2; obtain ⟨s0, s1⟩ := HCG.out w2 b c gp hp2; have HP2 : Hid _ := hp2; have HR2 : Hid _ := hr2; clear hp2 hr2) | (go_at_call 11; refine (HAS.out w2 HP2.out).mono ?_; rintro e w3 ⟨rfl, hp3, hb3⟩; have hr3 := (hb3.block _ (Array.getElem?_eq_some_iff.1 HR2.out).1).trans HR2.out; have y0 := (HRC.out w3 hr3).1; obtain ⟨t0, t1⟩ := HCG.out w3 b c gp hp3; have HP3 : Hid _ := hp3; clear hp3 hb3 hr3))
      --@CUT
      clear HCH HAS HRC HLO HEL HC15 HCG HX x0 x1 x2 x3 x4 x5 x6 x7 x8 q0 q1 q2 q3 q4 q5 q6 q7 q8 s0 s1 p0 p1 t0 t1
      by_cases h1 : l ≤ x.k
      · have d1 : decide (l ≤ x.k) = true := by simpa using h1
        by_cases h2 : x.k ≤ h
        · have d2 : decide (x.k ≤ h) = true := by simpa using h2
          clear h1 h2
          go_wp2
          go_roundw
          case rel => exact ⟨j + 1, by omega, by go_num, HP3⟩
          case measure => simp [intOf] <;> omega
        · have d2 : decide (x.k ≤ h) = false := by simpa using h2
          clear h1 h2
          go_wp2
          go_roundw
          case rel => exact ⟨j + 1, by omega, by go_num, HP3⟩
          case measure => simp [intOf] <;> omega
      · have d1 : decide (l ≤ x.k) = false := by simpa using h1
        clear h1
        go_wp2
        go_roundw
        case rel => exact ⟨j + 1, by omega, by go_num, HP3⟩
        case measure => simp [intOf] <;> omega

    · obtain rfl : j = O.length := by omega
      go_wp2
      go_ret
      exact ⟨rfl, HBW.out.trans (hst.out.below.mono HBW.out.size)⟩
end Go.Proofs.Ytjckdgdpnlfglab
