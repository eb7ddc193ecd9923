/-
  BusConsole: the walk.
-/
import Derived.Test.YtghiabdkgfhdbaaBco
import Derived.BigRegion
import Derived.BigQuiet
import Derived.Deep.QuietTactic
import Derived.Deep.CutRange
namespace Go.Proofs.Ytghiabdkgfhdbaa
set_option linter.unusedVariables false
open Go.ChangeShapes Go.WideShapes Go.ChangeAt Go.RowKit Go.Deep Go.MuLone
set_option maxRecDepth 100000 in
theorem buscon_no (S : St) (ar ai ao : Option Addr) (cr ci co : Nat) (w : World) (hs : Bs S (.slice ar S.ram.length cr) (.slice ai S.inp.length ci) (.slice ao S.out.length co) w) (lr : S.ram.length ≤ 140737488355328) (li : S.inp.length ≤ 140737488355328) (lo : S.out.length ≤ 140737488355328) (hok : S.ok = false) (vO : Value) :
    Calls Try.prog 4 #[.agg (stoc S (.slice ar S.ram.length cr) (.slice ai S.inp.length ci) (.slice ao S.out.length co) vO)] w fun e w' => e = .returned (.bool true) ∧ Below w.heap.size w w' := by
  have HCB : Hid (∀ w1, Calls Try.prog 9 #[.agg (stc S (.slice ar S.ram.length cr) (.slice ai S.inp.length ci) (.slice ao S.out.length co))] w1 fun e w' => e = .returned (.bool false) ∧ Below w1.heap.size w1 w') := fun w1 => by rw [← hok]; exact rcanBe_c S ar ai ao cr ci co w1
  clear hok hs lr li lo
  unfold stoc
  unfold stc at HCB ⊢
  go_enter Try.func4, Try.ntmps4
  go_wp2_with (go_at_call 9; refine (HCB.out _).mono ?_; rintro e w1 ⟨rfl, hb1⟩; have HB1 : Hid (Below w.heap.size w w1) := box_below hb1; clear hb1)
  go_ret
  exact ⟨rfl, HB1.out⟩
set_option maxRecDepth 100000 in
set_option maxHeartbeats 8000000 in
theorem buscon_off (S : St) (ar ai ao : Option Addr) (cr ci co : Nat) (w : World) (hs : Bs S (.slice ar S.ram.length cr) (.slice ai S.inp.length ci) (.slice ao S.out.length co) w) (lr : S.ram.length ≤ 140737488355328) (li : S.inp.length ≤ 140737488355328) (lo : S.out.length ≤ 140737488355328) (hok : S.ok = true) (hst : StW S) (aO : Option Addr) (cO : Nat) (O : List Cal) (hO : Cals w (.slice aO O.length cO) O) (hx : ∀ j, j < O.length → CalOk w (O.getD j cal0)) (hOl : O.length * 88 ≤ 140737488351232) (hoff : ¬ S.off = 0) :
    Calls Try.prog 4 #[.agg (stoc S (.slice ar S.ram.length cr) (.slice ai S.inp.length ci) (.slice ao S.out.length co) (.slice aO O.length cO))] w fun e w' => e = .returned (.bool true) ∧ Below w.heap.size w w' := by
  have hd0 : (S.off != 0) = true := by simp [hoff]
  obtain ⟨W, hW⟩ : ∃ W, w.alloc (.cells (stoc S (.slice ar S.ram.length cr) (.slice ai S.inp.length ci) (.slice ao S.out.length co) (.slice aO O.length cO)) 29) = W := ⟨_, rfl⟩
  have hbW : Below w.heap.size w W := by rw [← hW]; exact below_al w _
  have hz : w.heap.size < W.heap.size := by rw [← hW]; simp
  have r1 : W.heap[w.heap.size]? = some (.cells (stoc S (.slice ar S.ram.length cr) (.slice ai S.inp.length ci) (.slice ao S.out.length co) (.slice aO O.length cO)) 29 (0, 0)) := by rw [← hW]; exact heap_alloc_new w _
  have h1 : Sok S := ⟨hok, hst⟩
  have HCB : Hid (Calls Try.prog 9 #[.agg (stc S (.slice ar S.ram.length cr) (.slice ai S.inp.length ci) (.slice ao S.out.length co))] W fun e w' => e = .returned (.bool true) ∧ Below W.heap.size W w') := by rw [← hok]; exact rcanBe_c S ar ai ao cr ci co W
  have HMD : Hid (∀ w1, Below W.heap.size W w1 → Calls Try.prog 10 #[.agg (stc S (.slice ar S.ram.length cr) (.slice ai S.inp.length ci) (.slice ao S.out.length co))] w1 fun e w' => ∃ L, e = .returned (.tuple #[.pointer (some ⟨Lay.b L, 0, none⟩), .bool true]) ∧ PB w1.heap.size L S w' ∧ Below w1.heap.size w1 w') := fun w1 hb => made_c S ar ai ao cr ci co w1 hok (hs.later (hbW.trans (hb.mono hbW.size))) lr li lo
  have HZ : Hid (∀ w', Below W.heap.size W w' → w'.cell? ⟨w.heap.size, 0, none⟩ = some (.slice ar S.ram.length cr) ∧ w'.cell? ⟨w.heap.size, 1, none⟩ = some (.int .u32 S.msip) ∧ w'.cell? ⟨w.heap.size, 2, none⟩ = some (.int .u64 S.cmp) ∧ w'.cell? ⟨w.heap.size, 3, none⟩ = some (.int .u64 S.time) ∧ w'.cell? ⟨w.heap.size, 4, none⟩ = some (.bool S.ext) ∧ w'.cell? ⟨w.heap.size, 5, none⟩ = some (.bool S.soft) ∧ w'.cell? ⟨w.heap.size, 6, none⟩ = some (.int .u8 S.ier) ∧ w'.cell? ⟨w.heap.size, 7, none⟩ = some (.int .u8 S.lcr) ∧ w'.cell? ⟨w.heap.size, 8, none⟩ = some (.int .u8 S.mcr) ∧ w'.cell? ⟨w.heap.size, 9, none⟩ = some (.int .u8 S.scr) ∧ w'.cell? ⟨w.heap.size, 10, none⟩ = some (.bool S.ov) ∧ w'.cell? ⟨w.heap.size, 11, none⟩ = some (.slice ai S.inp.length ci) ∧ w'.cell? ⟨w.heap.size, 12, none⟩ = some (.slice ao S.out.length co) ∧ w'.cell? ⟨w.heap.size, 13, none⟩ = some (.int .i64 S.off) ∧ w'.cell? ⟨w.heap.size, 14, none⟩ = some (.int .i64 S.code) ∧ w'.cell? ⟨w.heap.size, 15, none⟩ = some (.slice aO O.length cO)) := fun w' hb => ⟨(hb.cell hz).trans (cell_of_row W _ 0 _ _ _ r1), (hb.cell hz).trans (cell_of_row W _ 1 _ _ _ r1), (hb.cell hz).trans (cell_of_row W _ 2 _ _ _ r1), (hb.cell hz).trans (cell_of_row W _ 3 _ _ _ r1), (hb.cell hz).trans (cell_of_row W _ 4 _ _ _ r1), (hb.cell hz).trans (cell_of_row W _ 5 _ _ _ r1), (hb.cell hz).trans (cell_of_row W _ 6 _ _ _ r1), (hb.cell hz).trans (cell_of_row W _ 7 _ _ _ r1), (hb.cell hz).trans (cell_of_row W _ 8 _ _ _ r1), (hb.cell hz).trans (cell_of_row W _ 9 _ _ _ r1), (hb.cell hz).trans (cell_of_row W _ 10 _ _ _ r1), (hb.cell hz).trans (cell_of_row W _ 11 _ _ _ r1), (hb.cell hz).trans (cell_of_row W _ 12 _ _ _ r1), (hb.cell hz).trans (cell_of_row W _ 13 _ _ _ r1), (hb.cell hz).trans (cell_of_row W _ 14 _ _ _ r1), (hb.cell hz).trans (cell_of_row W _ 15 _ _ _ r1)⟩
  have HBY : Hid (∀ w', Below W.heap.size W w' → Byt w' (.slice ai S.inp.length ci) S.inp) := fun w' hb => (hs.later (hbW.trans (hb.mono hbW.size))).i
  have HEL : Hid (∀ w1, Below W.heap.size W w1 → ∀ j, j < O.length → ∃ g off x, aO = some ⟨g, off, none⟩ ∧ CalOk w1 x ∧ ∀ w', Below w1.heap.size w1 w' → w'.cell? ⟨g, off + j * 9, none⟩ = some (.int .i64 x.k) ∧ w'.cell? ⟨g, off + j * 9 + 1, none⟩ = some (.int .u64 x.a) ∧ w'.cell? ⟨g, off + j * 9 + 2, none⟩ = some (.int .i64 x.n) ∧ w'.cell? ⟨g, off + j * 9 + 3, none⟩ = some (.int .u64 x.v) ∧ w'.cell? ⟨g, off + j * 9 + 4, none⟩ = some (.slice x.ab x.b.length x.cb) ∧ w'.cell? ⟨g, off + j * 9 + 5, none⟩ = some (.bool x.t) ∧ w'.cell? ⟨g, off + j * 9 + 6, none⟩ = some (.bool x.e) ∧ w'.cell? ⟨g, off + j * 9 + 7, none⟩ = some (.bool x.s) ∧ w'.cell? ⟨g, off + j * 9 + 8, none⟩ = some (.slice x.ai x.i.length x.ci)) := fun w1 hb1 j hj => by
    obtain ⟨a, cap, e, _, h2⟩ := hO
    cases e
    obtain ⟨g, off, ea, hg, hc⟩ := h2 (fun e => by rw [e] at hj; simp at hj)
    have hg2 := Nat.lt_of_lt_of_le hg hbW.size
    have hg3 := Nat.lt_of_lt_of_le hg2 hb1.size
    exact ⟨g, off, O.getD j cal0, ea, ((hx j hj).later hbW).later hb1, fun w' hb => ⟨((hb.cell hg3).trans ((hb1.cell hg2).trans (hbW.cell hg))).trans (hc j hj 0 (by decide)), ((hb.cell hg3).trans ((hb1.cell hg2).trans (hbW.cell hg))).trans (hc j hj 1 (by decide)), ((hb.cell hg3).trans ((hb1.cell hg2).trans (hbW.cell hg))).trans (hc j hj 2 (by decide)), ((hb.cell hg3).trans ((hb1.cell hg2).trans (hbW.cell hg))).trans (hc j hj 3 (by decide)), ((hb.cell hg3).trans ((hb1.cell hg2).trans (hbW.cell hg))).trans (hc j hj 4 (by decide)), ((hb.cell hg3).trans ((hb1.cell hg2).trans (hbW.cell hg))).trans (hc j hj 5 (by decide)), ((hb.cell hg3).trans ((hb1.cell hg2).trans (hbW.cell hg))).trans (hc j hj 6 (by decide)), ((hb.cell hg3).trans ((hb1.cell hg2).trans (hbW.cell hg))).trans (hc j hj 7 (by decide)), ((hb.cell hg3).trans ((hb1.cell hg2).trans (hbW.cell hg))).trans (hc j hj 8 (by decide))⟩⟩
  have HBW : Hid (Below w.heap.size w W) := hbW
  have hn62 : O.length ≤ 1599289640448 := by omega
  have HSO : Hid (Sok S) := h1
  have hi64 : S.inp.length ≤ 64 := h1.n.2.2.1
  clear hok hst hO hx hOl hs lr li lo hbW h1
  obtain ⟨u0, u1, u2, u3, u4, u5, u6, u7, u8, u9, u10, u11, u12, u13, u14, u15⟩ := HZ.out W (Below.refl _ _)
  have hW2 : w.alloc (.cells #[.slice ar S.ram.length cr, .int .u32 S.msip, .int .u64 S.cmp, .int .u64 S.time, .bool S.ext, .bool S.soft, .int .u8 S.ier, .int .u8 S.lcr, .int .u8 S.mcr, .int .u8 S.scr, .bool S.ov, .slice ai S.inp.length ci, .slice ao S.out.length co, .int .i64 S.off, .int .i64 S.code, .slice aO O.length cO] 29) = W := hW
  clear hW r1 hz
  unfold stoc
  unfold stc at HCB HMD ⊢
  go_enter Try.func4, Try.ntmps4
  go_upto_region 1 with fail
  clear hW2
  go_upto_region 2 with (go_at_call 9; refine HCB.out.mono ?_; rintro e w1 ⟨rfl, hb1⟩; have HB1 : Hid (Below W.heap.size W w1) := hb1; clear hb1)
  clear u0 u1 u2 u3 u4 u5 u6 u7 u8 u9 u10 u11 u12 u13 u14 u15
  obtain ⟨u0, u1, u2, u3, u4, u5, u6, u7, u8, u9, u10, u11, u12, u13, u14, u15⟩ := HZ.out w1 HB1.out
  go_wp2
  go_ret
  exact ⟨rfl, HBW.out.trans (HB1.out.mono HBW.out.size)⟩
set_option maxRecDepth 100000 in
set_option maxHeartbeats 8000000 in
theorem buscon_y (S : St) (ar ai ao : Option Addr) (cr ci co : Nat) (w : World) (hs : Bs S (.slice ar S.ram.length cr) (.slice ai S.inp.length ci) (.slice ao S.out.length co) w) (lr : S.ram.length ≤ 140737488355328) (li : S.inp.length ≤ 140737488355328) (lo : S.out.length ≤ 140737488355328) (hok : S.ok = true) (hst : StW S) (aO : Option Addr) (cO : Nat) (O : List Cal) (hO : Cals w (.slice aO O.length cO) O) (hx : ∀ j, j < O.length → CalOk w (O.getD j cal0)) (hOl : O.length * 88 ≤ 140737488351232) (hoff : S.off = 0) :
    Calls Try.prog 4 #[.agg (stoc S (.slice ar S.ram.length cr) (.slice ai S.inp.length ci) (.slice ao S.out.length co) (.slice aO O.length cO))] w fun e w' => e = .returned (.bool true) ∧ Below w.heap.size w w' := by
  have hd0 : (S.off != 0) = false := by simp [hoff]
  have HOF : Hid (S.off = 0) := hoff
  clear hoff
  obtain ⟨W, hW⟩ : ∃ W, w.alloc (.cells (stoc S (.slice ar S.ram.length cr) (.slice ai S.inp.length ci) (.slice ao S.out.length co) (.slice aO O.length cO)) 29) = W := ⟨_, rfl⟩
  have hbW : Below w.heap.size w W := by rw [← hW]; exact below_al w _
  have hz : w.heap.size < W.heap.size := by rw [← hW]; simp
  have r1 : W.heap[w.heap.size]? = some (.cells (stoc S (.slice ar S.ram.length cr) (.slice ai S.inp.length ci) (.slice ao S.out.length co) (.slice aO O.length cO)) 29 (0, 0)) := by rw [← hW]; exact heap_alloc_new w _
  have h1 : Sok S := ⟨hok, hst⟩
  have HCB : Hid (Calls Try.prog 9 #[.agg (stc S (.slice ar S.ram.length cr) (.slice ai S.inp.length ci) (.slice ao S.out.length co))] W fun e w' => e = .returned (.bool true) ∧ Below W.heap.size W w') := by rw [← hok]; exact rcanBe_c S ar ai ao cr ci co W
  have HMD : Hid (∀ w1, Below W.heap.size W w1 → Calls Try.prog 10 #[.agg (stc S (.slice ar S.ram.length cr) (.slice ai S.inp.length ci) (.slice ao S.out.length co))] w1 fun e w' => ∃ L, e = .returned (.tuple #[.pointer (some ⟨Lay.b L, 0, none⟩), .bool true]) ∧ PB w1.heap.size L S w' ∧ Below w1.heap.size w1 w') := fun w1 hb => made_c S ar ai ao cr ci co w1 hok (hs.later (hbW.trans (hb.mono hbW.size))) lr li lo
  have HZ : Hid (∀ w', Below W.heap.size W w' → w'.cell? ⟨w.heap.size, 0, none⟩ = some (.slice ar S.ram.length cr) ∧ w'.cell? ⟨w.heap.size, 1, none⟩ = some (.int .u32 S.msip) ∧ w'.cell? ⟨w.heap.size, 2, none⟩ = some (.int .u64 S.cmp) ∧ w'.cell? ⟨w.heap.size, 3, none⟩ = some (.int .u64 S.time) ∧ w'.cell? ⟨w.heap.size, 4, none⟩ = some (.bool S.ext) ∧ w'.cell? ⟨w.heap.size, 5, none⟩ = some (.bool S.soft) ∧ w'.cell? ⟨w.heap.size, 6, none⟩ = some (.int .u8 S.ier) ∧ w'.cell? ⟨w.heap.size, 7, none⟩ = some (.int .u8 S.lcr) ∧ w'.cell? ⟨w.heap.size, 8, none⟩ = some (.int .u8 S.mcr) ∧ w'.cell? ⟨w.heap.size, 9, none⟩ = some (.int .u8 S.scr) ∧ w'.cell? ⟨w.heap.size, 10, none⟩ = some (.bool S.ov) ∧ w'.cell? ⟨w.heap.size, 11, none⟩ = some (.slice ai S.inp.length ci) ∧ w'.cell? ⟨w.heap.size, 12, none⟩ = some (.slice ao S.out.length co) ∧ w'.cell? ⟨w.heap.size, 13, none⟩ = some (.int .i64 S.off) ∧ w'.cell? ⟨w.heap.size, 14, none⟩ = some (.int .i64 S.code) ∧ w'.cell? ⟨w.heap.size, 15, none⟩ = some (.slice aO O.length cO)) := fun w' hb => ⟨(hb.cell hz).trans (cell_of_row W _ 0 _ _ _ r1), (hb.cell hz).trans (cell_of_row W _ 1 _ _ _ r1), (hb.cell hz).trans (cell_of_row W _ 2 _ _ _ r1), (hb.cell hz).trans (cell_of_row W _ 3 _ _ _ r1), (hb.cell hz).trans (cell_of_row W _ 4 _ _ _ r1), (hb.cell hz).trans (cell_of_row W _ 5 _ _ _ r1), (hb.cell hz).trans (cell_of_row W _ 6 _ _ _ r1), (hb.cell hz).trans (cell_of_row W _ 7 _ _ _ r1), (hb.cell hz).trans (cell_of_row W _ 8 _ _ _ r1), (hb.cell hz).trans (cell_of_row W _ 9 _ _ _ r1), (hb.cell hz).trans (cell_of_row W _ 10 _ _ _ r1), (hb.cell hz).trans (cell_of_row W _ 11 _ _ _ r1), (hb.cell hz).trans (cell_of_row W _ 12 _ _ _ r1), (hb.cell hz).trans (cell_of_row W _ 13 _ _ _ r1), (hb.cell hz).trans (cell_of_row W _ 14 _ _ _ r1), (hb.cell hz).trans (cell_of_row W _ 15 _ _ _ r1)⟩
  have HBY : Hid (∀ w', Below W.heap.size W w' → Byt w' (.slice ai S.inp.length ci) S.inp) := fun w' hb => (hs.later (hbW.trans (hb.mono hbW.size))).i
  have HEL : Hid (∀ w1, Below W.heap.size W w1 → ∀ j, j < O.length → ∃ g off x, aO = some ⟨g, off, none⟩ ∧ CalOk w1 x ∧ ∀ w', Below w1.heap.size w1 w' → w'.cell? ⟨g, off + j * 9, none⟩ = some (.int .i64 x.k) ∧ w'.cell? ⟨g, off + j * 9 + 1, none⟩ = some (.int .u64 x.a) ∧ w'.cell? ⟨g, off + j * 9 + 2, none⟩ = some (.int .i64 x.n) ∧ w'.cell? ⟨g, off + j * 9 + 3, none⟩ = some (.int .u64 x.v) ∧ w'.cell? ⟨g, off + j * 9 + 4, none⟩ = some (.slice x.ab x.b.length x.cb) ∧ w'.cell? ⟨g, off + j * 9 + 5, none⟩ = some (.bool x.t) ∧ w'.cell? ⟨g, off + j * 9 + 6, none⟩ = some (.bool x.e) ∧ w'.cell? ⟨g, off + j * 9 + 7, none⟩ = some (.bool x.s) ∧ w'.cell? ⟨g, off + j * 9 + 8, none⟩ = some (.slice x.ai x.i.length x.ci)) := fun w1 hb1 j hj => by
    obtain ⟨a, cap, e, _, h2⟩ := hO
    cases e
    obtain ⟨g, off, ea, hg, hc⟩ := h2 (fun e => by rw [e] at hj; simp at hj)
    have hg2 := Nat.lt_of_lt_of_le hg hbW.size
    have hg3 := Nat.lt_of_lt_of_le hg2 hb1.size
    exact ⟨g, off, O.getD j cal0, ea, ((hx j hj).later hbW).later hb1, fun w' hb => ⟨((hb.cell hg3).trans ((hb1.cell hg2).trans (hbW.cell hg))).trans (hc j hj 0 (by decide)), ((hb.cell hg3).trans ((hb1.cell hg2).trans (hbW.cell hg))).trans (hc j hj 1 (by decide)), ((hb.cell hg3).trans ((hb1.cell hg2).trans (hbW.cell hg))).trans (hc j hj 2 (by decide)), ((hb.cell hg3).trans ((hb1.cell hg2).trans (hbW.cell hg))).trans (hc j hj 3 (by decide)), ((hb.cell hg3).trans ((hb1.cell hg2).trans (hbW.cell hg))).trans (hc j hj 4 (by decide)), ((hb.cell hg3).trans ((hb1.cell hg2).trans (hbW.cell hg))).trans (hc j hj 5 (by decide)), ((hb.cell hg3).trans ((hb1.cell hg2).trans (hbW.cell hg))).trans (hc j hj 6 (by decide)), ((hb.cell hg3).trans ((hb1.cell hg2).trans (hbW.cell hg))).trans (hc j hj 7 (by decide)), ((hb.cell hg3).trans ((hb1.cell hg2).trans (hbW.cell hg))).trans (hc j hj 8 (by decide))⟩⟩
  have HBW : Hid (Below w.heap.size w W) := hbW
  have hn62 : O.length ≤ 1599289640448 := by omega
  have HSO : Hid (Sok S) := h1
  have hi64 : S.inp.length ≤ 64 := h1.n.2.2.1
  clear hok hst hO hx hOl hs lr li lo hbW h1
  obtain ⟨u0, u1, u2, u3, u4, u5, u6, u7, u8, u9, u10, u11, u12, u13, u14, u15⟩ := HZ.out W (Below.refl _ _)
  have hW2 : w.alloc (.cells #[.slice ar S.ram.length cr, .int .u32 S.msip, .int .u64 S.cmp, .int .u64 S.time, .bool S.ext, .bool S.soft, .int .u8 S.ier, .int .u8 S.lcr, .int .u8 S.mcr, .int .u8 S.scr, .bool S.ov, .slice ai S.inp.length ci, .slice ao S.out.length co, .int .i64 S.off, .int .i64 S.code, .slice aO O.length cO] 29) = W := hW
  clear hW r1 hz
  unfold stoc
  unfold stc at HCB HMD ⊢
  go_enter Try.func4, Try.ntmps4
  go_upto_region 1 with fail
  clear hW2
  go_upto_region 2 with (go_at_call 9; refine HCB.out.mono ?_; rintro e w1 ⟨rfl, hb1⟩; have HB1 : Hid (Below W.heap.size W w1) := hb1; clear hb1)
  clear u0 u1 u2 u3 u4 u5 u6 u7 u8 u9 u10 u11 u12 u13 u14 u15
  obtain ⟨u0, u1, u2, u3, u4, u5, u6, u7, u8, u9, u10, u11, u12, u13, u14, u15⟩ := HZ.out w1 HB1.out
  go_upto_region 7 with (go_at_call 10; refine (HMD.out w1 HB1.out).mono ?_; rintro e w2 ⟨L, rfl, hp, hb2⟩; have HP : Hid (PB w1.heap.size L S w2) := hp; have HB2 : Hid (Below w1.heap.size w1 w2) := hb2; have HB3 : Hid (Below W.heap.size W w2) := HB1.out.trans (hb2.mono HB1.out.size); clear hp hb2)
  clear u0 u1 u2 u3 u4 u5 u6 u7 u8 u9 u10 u11 u12 u13 u14 u15
  obtain ⟨u0, u1, u2, u3, u4, u5, u6, u7, u8, u9, u10, u11, u12, u13, u14, u15⟩ := HZ.out w2 HB3.out
  go_upto_region 8 with (at_builtin; refine appL (by rfl) _ _ (by rfl) w2.heap.size _ _ [] S.inp (by rfl) (World.ownsRow_nil _ _ _ _) (by rfl) (HBY.out w2 HB3.out) (by simp; omega) (Nat.le_refl _) ?_; intro v' w3 hown hg; have HBG : Hid (Below w2.heap.size w2 w3) := (Below.refl _ _).grown hg (Nat.le_refl _) (fun k hk => by cases hk); have HPM : Hid _ := pco_start HP.out HSO.out HOF.out HB2.out hown HBG.out; clear hown hg)
  --@CUT2
  clear u0 u1 u2 u3 u4 u5 u6 u7 u8 u9 u10 u11 u12 u13 u14 u15
  obtain ⟨u0, u1, u2, u3, u4, u5, u6, u7, u8, u9, u10, u11, u12, u13, u14, u15⟩ := HZ.out w3 (HB3.out.trans (HBG.out.mono HB3.out.size))
  have HEL2 : Hid (∀ j, j < O.length → ∃ g off x, aO = some ⟨g, off, none⟩ ∧ CalOk w1 x ∧ ∀ w', Below w1.heap.size w1 w' → w'.cell? ⟨g, off + j * 9, none⟩ = some (.int .i64 x.k) ∧ w'.cell? ⟨g, off + j * 9 + 1, none⟩ = some (.int .u64 x.a) ∧ w'.cell? ⟨g, off + j * 9 + 2, none⟩ = some (.int .i64 x.n) ∧ w'.cell? ⟨g, off + j * 9 + 3, none⟩ = some (.int .u64 x.v) ∧ w'.cell? ⟨g, off + j * 9 + 4, none⟩ = some (.slice x.ab x.b.length x.cb) ∧ w'.cell? ⟨g, off + j * 9 + 5, none⟩ = some (.bool x.t) ∧ w'.cell? ⟨g, off + j * 9 + 6, none⟩ = some (.bool x.e) ∧ w'.cell? ⟨g, off + j * 9 + 7, none⟩ = some (.bool x.s) ∧ w'.cell? ⟨g, off + j * 9 + 8, none⟩ = some (.slice x.ai x.i.length x.ci)) := HEL.out w1 HB1.out
  have HC15 : Hid (∀ w', Below w1.heap.size w1 w' → w'.cell? ⟨w.heap.size, 15, none⟩ = some (.slice aO O.length cO)) := fun w' hb => (HZ.out w' (HB1.out.trans (hb.mono HB1.out.size))).2.2.2.2.2.2.2.2.2.2.2.2.2.2.2
  have HBA : Hid (∀ w', Below w1.heap.size w1 w' → Below w.heap.size w w') := fun w' hb => HBW.out.trans ((HB1.out.trans (hb.mono HB1.out.size)).mono HBW.out.size)
  have HPM2 : Hid (Pco w1.heap.size w1 L.b L S v' S.inp w3) := HPM.out
  clear HEL HMD HCB HBY HP HB2 HBG HPM
  generalize hLb : L.b = b at *
  clear hLb
  go_upto_region 10 with fail
  clear u0 u1 u2 u3 u4 u5 u6 u7 u8 u9 u10 u11 u12 u13 u14 u15 HZ
  go_loopw [6, 7, 8] (fun v l i wr => ∃ (j : Nat) (L : Lay) (R : St), j ≤ O.length ∧ i = .int .i64 j ∧ l = .bool R.ov ∧ Hid (Pco w1.heap.size w1 b L R v R.inp wr)) (fun _ _ i _ => O.length - (intOf i).toNat)
  case atStart => exact ⟨0, L, S, Nat.zero_le _, rfl, rfl, HPM2⟩
  case round =>
    obtain ⟨j, L2, R, hj, rfl, rfl, hst⟩ := hrel
    clear HPM2
    have c15 := HC15.out wr hst.out.be
    by_cases hlt : j < O.length
    · have hlt2 : (j : Int) < (O.length : Int) := by omega
      obtain ⟨g, off, x, ea, hx, hcl⟩ := HEL2.out j hlt
      obtain ⟨x0, x1, x2, x3, x4, x5, x6, x7, x8⟩ := hcl wr hst.out.be
      rw [ea] at c15
      have HX : Hid (CalOk w1 x) := hx
      clear hx hcl ea
      go_upto_region 13 with fail
      --@CUT3
      obtain ⟨W1, hW1⟩ : ∃ W1, wr.alloc (.cells #[.int .i64 x.k, .int .u64 x.a, .int .i64 x.n, .int .u64 x.v, .slice x.ab x.b.length x.cb, .bool x.t, .bool x.e, .bool x.s, .slice x.ai x.i.length x.ci] 45) = W1 := ⟨_, rfl⟩
      have HP1 : Hid (Pcr w1.heap.size w1 b wr.heap.size #[.int .i64 x.k, .int .u64 x.a, .int .i64 x.n, .int .u64 x.v, .slice x.ab x.b.length x.cb, .bool x.t, .bool x.e, .bool x.s, .slice x.ai x.i.length x.ci] L2 R u6 R.inp W1) := by rw [← hW1]; exact hst.out.row
      rw [hW1]
      clear hW1 x0 x1 x2 x3 x4 x5 x6 x7 x8 c15
      obtain ⟨go, hgo⟩ : ∃ go, go = wr.heap.size := ⟨_, rfl⟩
      rw [← hgo] at HP1 ⊢
      clear hgo hst
      have q0 : W1.cell? ⟨go, 0, none⟩ = some (.int .i64 x.k) := cell_of_row W1 _ 0 _ _ _ HP1.out.row
      have q5 : W1.cell? ⟨go, 5, none⟩ = some (.bool x.t) := cell_of_row W1 _ 5 _ _ _ HP1.out.row
      have q6 : W1.cell? ⟨go, 6, none⟩ = some (.bool x.e) := cell_of_row W1 _ 6 _ _ _ HP1.out.row
      have q7 : W1.cell? ⟨go, 7, none⟩ = some (.bool x.s) := cell_of_row W1 _ 7 _ _ _ HP1.out.row
      have q8 : W1.cell? ⟨go, 8, none⟩ = some (.slice x.ai x.i.length x.ci) := cell_of_row W1 _ 8 _ _ _ HP1.out.row
      have hR64 : R.inp.length ≤ 64 := HP1.out.s.n.2.2.1
      by_cases hk3 : x.k = 3
      · have hb3 : (x.k == 3) = true := by simp [hk3]
        clear hk3
        have HWD : Hid (Calls Try.prog 16 #[.agg #[.bool x.t, .bool x.e, .bool x.s, .slice x.ai x.i.length x.ci]] W1 fun e' w' => ∃ a9 n9 c9, e' = .returned (.agg #[.bool x.t, .bool x.e, .bool x.s, .slice a9 n9 c9]) ∧ w'.ownsRow W1.heap.size 5 1 (.slice a9 n9 c9) x.i.length (bv x.i) ∧ Below W1.heap.size W1 w') := world_c x.t x.e x.s _ x.i W1 (HX.out.i.later HP1.out.be rfl) HX.out.il
        go_upto_region 16 with (first | (go_at_call 16; refine HWD.out.mono ?_; rintro e5 w5 ⟨a9, n9, c9, rfl, hown9, hb5⟩; have HO9 : Hid _ := hown9; have HB5 : Hid _ := hb5; clear hown9 hb5) | (go_at_call 15; refine (HP1.out.begin x.t x.e x.s _ x.i HB5.out HO9.out HX.out.il HX.out.ia).mono ?_; rintro e6 w6 ⟨rfl, L3, hp6⟩; have HP6 : Hid (Pcr w1.heap.size w1 b go #[.int .i64 x.k, .int .u64 x.a, .int .i64 x.n, .int .u64 x.v, .slice x.ab x.b.length x.cb, .bool x.t, .bool x.e, .bool x.s, .slice x.ai x.i.length x.ci] L3 (R.beg x.t x.e x.s x.i) u6 R.inp w6) := hp6; clear hp6))
        --@CUT4
        have HBI : Hid ((R.beg x.t x.e x.s x.i).inp = R.inp ++ x.i.take (64 - R.inp.length) ∧ (R.beg x.t x.e x.s x.i).ov = (R.ov || decide (64 < R.inp.length + x.i.length))) := beg_inp R HP1.out.o x.t x.e x.s x.i
        generalize R.beg x.t x.e x.s x.i = R2 at HP6 HBI
        have HP7 : Hid (Pcr w1.heap.size w1 b go #[.int .i64 x.k, .int .u64 x.a, .int .i64 x.n, .int .u64 x.v, .slice x.ab x.b.length x.cb, .bool x.t, .bool x.e, .bool x.s, .slice x.ai x.i.length x.ci] L3 R2 u6 (jq R.inp x.i 0) w6) := by unfold Hid; rw [jq_zero]; exact HP6.out
        have hov : R.ov = (R.ov || decide (64 < R.inp.length + 0)) := by rw [decide_eq_false (by omega)]; simp
        have hil : x.i.length ≤ 140737488351232 := HX.out.il
        clear HP6 HP1 HWD HO9 HB5 q0 q5 q6 q7 q8
        go_wp2
        go_loopw [6, 7, 10] (fun v l i wr => ∃ k : Nat, k ≤ x.i.length ∧ i = .int .i64 k ∧ l = .bool (R.ov || decide (64 < R.inp.length + k)) ∧ Hid (Pcr w1.heap.size w1 b go #[.int .i64 x.k, .int .u64 x.a, .int .i64 x.n, .int .u64 x.v, .slice x.ab x.b.length x.cb, .bool x.t, .bool x.e, .bool x.s, .slice x.ai x.i.length x.ci] L3 R2 v (jq R.inp x.i k) wr)) (fun _ _ i _ => x.i.length - (intOf i).toNat)
        case atStart => exact ⟨0, Nat.zero_le _, rfl, by rw [← hov], HP7⟩
        case round =>
          obtain ⟨k, hk, rfl, rfl, hpk⟩ := hrel
          clear HP7 hov
          have q8 : wr.cell? ⟨go, 8, none⟩ = some (.slice x.ai x.i.length x.ci) := cell_of_row wr _ 8 _ _ _ hpk.out.row
          have hm0 := jq_len R.inp x.i k hk
          by_cases hltk : k < x.i.length
          · have hltk2 : (k : Int) < (x.i.length : Int) := by omega
            obtain ⟨a8, c8, e8, _, _, h8⟩ := HX.out.i.later hpk.out.be rfl
            obtain ⟨gi, oi, ea8, hgi, hci⟩ := h8 (fun e => by rw [e] at hltk; simp at hltk)
            injection e8 with e81 e82 e83
            have hce := hci k hltk
            rw [e81, ea8] at q8
            have hby : 0 ≤ x.i.getD k 0 ∧ x.i.getD k 0 ≤ 255 := getD_byte HX.out.ia k
            obtain ⟨z, hz⟩ : ∃ z, z = x.i.getD k 0 := ⟨_, rfl⟩
            rw [← hz] at hce hby
            have HZK : Hid (z = x.i.getD k 0) := hz
            obtain ⟨a7, c7, hv7⟩ := hpk.out.q.form
            clear hci h8 ea8 e81 e82 e83 hz
            obtain ⟨m, hm⟩ : ∃ m, m = (jq R.inp x.i k).length := ⟨_, rfl⟩
            rw [← hm] at hv7 hm0
            subst hv7
            by_cases hq : m < 64
            · have hq2 : (m : Int) < 64 := by omega
              have HJ : Hid (jq R.inp x.i k ++ [z] = jq R.inp x.i (k + 1)) := by unfold Hid; rw [HZK.out]; exact jq_app R.inp x.i k hltk (by omega)
              have HOO : Hid (Value.bool (R.ov || decide (64 < R.inp.length + k)) = Value.bool (R.ov || decide (64 < R.inp.length + (k + 1)))) := by unfold Hid; rw [decide_eq_false (show ¬ 64 < R.inp.length + k by omega), decide_eq_false (show ¬ 64 < R.inp.length + (k + 1) by omega)]
              have HM : Hid (m = (jq R.inp x.i k).length) := hm
              clear hm
              --@CUT5
              go_upto_region 18 with (at_builtin; refine appQ (by rfl) _ _ (by rfl) (fun g => (w1.heap.size ≤ g ∧ ¬ L3.own g) ∧ g ≠ go) _ (jq R.inp x.i k) z ⟨wr.heap.size, 0, none⟩ (by rfl) (hpk.out.later (below_al wr _)).q (by rfl) (by rfl) (by simp [World.cell?_alloc_new]) (by rw [← HM.out]; omega) ?_; intro v8 w8 hq8 hx8; have HP8 : Hid (Pcr w1.heap.size w1 b go #[.int .i64 x.k, .int .u64 x.a, .int .i64 x.n, .int .u64 x.v, .slice x.ab x.b.length x.cb, .bool x.t, .bool x.e, .bool x.s, .slice x.ai x.i.length x.ci] L3 R2 v8 (jq R.inp x.i (k + 1)) w8) := (by unfold Hid; rw [← HJ.out]; exact Pcr.app (hpk.out.later (below_al wr _)) hq8 hx8); clear hq8 hx8)
              go_wp2
              go_roundw
              all_goals first | exact ⟨k + 1, by omega, by go_num, HOO.out, HP8⟩ | (simp [intOf] <;> omega)
            · have hq2 : ¬ (m : Int) < 64 := by omega
              have q8x := q8
              have HP8 : Hid (Pcr w1.heap.size w1 b go #[.int .i64 x.k, .int .u64 x.a, .int .i64 x.n, .int .u64 x.v, .slice x.ab x.b.length x.cb, .bool x.t, .bool x.e, .bool x.s, .slice x.ai x.i.length x.ci] L3 R2 (.slice a7 m c7) (jq R.inp x.i (k + 1)) wr) := by unfold Hid; rw [jq_no _ _ _ (by omega)]; exact hpk.out
              have HOO : Hid (Value.bool true = Value.bool (R.ov || decide (64 < R.inp.length + (k + 1)))) := by unfold Hid; rw [decide_eq_true (by omega)]; simp
              clear hm
              clear hm0 hq hce hby hgi HZK q8
              have q8 : wr.cell? ⟨go, 8, none⟩ = some (.slice (some ⟨gi, oi, none⟩) x.i.length x.ci) := q8x
              go_upto_region 18 with fail
              go_wp2
              go_roundw
              all_goals first | exact ⟨k + 1, by omega, by go_num, HOO.out, HP8⟩ | (simp [intOf] <;> omega)
          · obtain rfl : k = x.i.length := by omega
            have hnl : ¬ (x.i.length : Int) < (x.i.length : Int) := by omega
            have HP9 : Hid (Pco w1.heap.size w1 b L3 R2 u6 R2.inp wr) := by unfold Hid; rw [HBI.out.1, ← jq_full]; exact hpk.out.pco
            have hoo : (R.ov || decide (64 < R.inp.length + x.i.length)) = R2.ov := HBI.out.2.symm
            rw [hoo]
            clear hpk hoo
            go_wp2
            go_roundw
            all_goals first | exact ⟨j + 1, L3, R2, by omega, by go_num, rfl, HP9⟩ | (simp [intOf] <;> omega)
      · have hb3 : (x.k == 3) = false := by simp [hk3]
        clear hk3
        by_cases hk1 : x.k = 1
        · have hb1 : (x.k == 1) = true := by simp [hk1]
          clear hk1
          cases hin : R.inp with
          | nil =>
            obtain ⟨a7, c7, rfl⟩ := HP1.out.q.form
            rw [hin]
            go_upto_region 25 with (go_at_call 17; refine (HP1.out.load0n hin).mono ?_; rintro e6 w6 ⟨rfl, L3, hp6⟩; have HP6 : Hid _ := hp6; clear hp6)
            have HP9 : Hid (Pco w1.heap.size w1 b L3 R (.slice a7 0 c7) R.inp w6) := by have h := HP6.out.pco; rw [hin] at h ⊢; exact h
            go_wp2
            go_roundw
            all_goals first | exact ⟨j + 1, L3, R, by omega, by go_num, rfl, HP9⟩ | (simp [intOf] <;> omega)
          | cons y ys =>
            have hby : 0 ≤ y ∧ y ≤ 255 := HP1.out.s.st.i y (by rw [hin]; simp)
            rw [hin] at HP1
            obtain ⟨g7, o7, c7, rfl, hc7, _, _⟩ := HP1.out.q.head
            --@CUT6
            go_upto_region 25 with (go_at_call 17; refine (HP1.out.load0c hin).mono ?_; rintro e6 w6 ⟨rfl, L3, hp6⟩; have HP6 : Hid _ := hp6; clear hp6)
            obtain ⟨g8, o8, c8, e8, _, hce, hq8⟩ := HP6.out.q.head
            cases e8
            have HP9 : Hid (Pco w1.heap.size w1 b L3 { R with inp := ys } (.slice (if c7 = 1 then some ⟨g7, o7, none⟩ else some ⟨g7, o7 + 1, none⟩) ys.length (c7 - 1)) ys w6) := (HP6.out.popped hq8).pco
            have hyl : (0 : Int) < ((ys.length + 1 : Nat) : Int) := by omega
            have hyl2 : ys.length ≤ 64 := by have := HP9.out.s.n.2.2.1; exact this
            clear hq8
            --@CUT7
            go_upto_region 28 with fail
            generalize (if c7 = 1 then some (⟨g7, o7, none⟩ : Addr) else some ⟨g7, o7 + 1, none⟩) = ad7 at HP9 ⊢
            go_wp2
            go_roundw
            all_goals first | exact ⟨j + 1, L3, { R with inp := ys }, by omega, by go_num, rfl, HP9⟩ | (simp [intOf] <;> omega)
        · have hb1 : (x.k == 1) = false := by simp [hk1]
          clear hk1
          by_cases hk4 : x.k = 4
          · have hb4 : (x.k == 4) = true := by simp [hk4]
            clear hk4
            obtain ⟨a7, c7, hv7⟩ := HP1.out.q.form
            subst hv7
            have H2 : (bits .and .u64 (statB R) 2 != 0) = R.ov := stat_2 R
            have H1 : (bits .and .u64 (statB R) 1 != 0) = decide (0 < R.inp.length) := stat_1 R
            have hoo : (R.ov != R.ov) = false := by simp
            have HLD : Hid (Calls Try.prog 17 #[.pointer (some ⟨b, 0, none⟩), .int .u64 268435461, .int .i64 1] W1 fun e w' => e = .returned (.tuple #[.int .u64 (statB R), .bool true]) ∧ ∃ L', Pcr w1.heap.size w1 b go #[.int .i64 x.k, .int .u64 x.a, .int .i64 x.n, .int .u64 x.v, .slice x.ab x.b.length x.cb, .bool x.t, .bool x.e, .bool x.s, .slice x.ai x.i.length x.ci] L' { R with ov := false } (.slice a7 R.inp.length c7) R.inp w') := HP1.out.load5
            generalize statB R = z at HLD H1 H2
            --@CUT8
            go_upto_region 32 with (go_at_call 17; refine HLD.out.mono ?_; rintro e6 w6 ⟨rfl, L3, hp6⟩; have HP6 : Hid _ := hp6; clear hp6)
            have HP9 : Hid (Pco w1.heap.size w1 b L3 { R with ov := false } (.slice a7 R.inp.length c7) R.inp w6) := HP6.out.pco
            go_wp2
            go_roundw
            all_goals first | exact ⟨j + 1, L3, { R with ov := false }, by omega, by go_num, rfl, HP9⟩ | (simp [intOf] <;> omega)
          · have hb4 : (x.k == 4) = false := by simp [hk4]
            clear hk4
            have HP9 : Hid (Pco w1.heap.size w1 b L2 R u6 R.inp W1) := HP1.out.pco
            go_wp2
            go_roundw
            all_goals first | exact ⟨j + 1, L2, R, by omega, by go_num, rfl, HP9⟩ | (simp [intOf] <;> omega)
    · obtain rfl : j = O.length := by omega
      have hnl : ¬ (O.length : Int) < (O.length : Int) := by omega
      go_wp2
      go_ret
      exact ⟨rfl, HBA.out _ hst.out.be⟩
end Go.Proofs.Ytghiabdkgfhdbaa
