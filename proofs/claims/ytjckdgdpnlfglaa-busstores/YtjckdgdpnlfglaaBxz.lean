/-
  BusStores: the walk.
-/
import Derived.Test.YtjckdgdpnlfglaaBxy
import Derived.Deep.CutRange
namespace Go.Proofs.Ytjckdgdpnlfglaa
set_option linter.unusedVariables false
open Go.ChangeShapes Go.WideShapes Go.ChangeAt Go.RowKit Go.Deep Go.MuLone
/-- The call that a story ends with. -/
def calS : Cal := ⟨12, 0, 0, 0, none, [], 0, false, false, false, none, [], 0⟩
theorem calS_ok (w : World) : CalOk w calS := ⟨Byt.nil w, fun x hx => (by cases hx), by decide, Byt.nil w, fun x hx => (by cases hx), by decide, by decide, by decide, by decide, by decide⟩
theorem cals_one (w : World) : Cals (w.alloc (.cells (calv calS).toArray 45)) (.slice (some ⟨w.heap.size, 0, none⟩) 1 1) [calS] := by
  refine ⟨_, _, rfl, by simp, fun _ => ⟨_, _, rfl, by simp, fun j hj c hc => ?_⟩⟩
  obtain rfl : j = 0 := by simp at hj; omega
  have := cell_of_row _ w.heap.size (0 + 0 * 9 + c) _ _ _ (heap_alloc_new w (.cells (calv calS).toArray 45))
  rw [this]
  simp
theorem ownO_set {w : World} {B z n : Nat} {e : TypeId} {v : Value} {xs : List Value} (h : w.ownsRow B e z v n xs) {p : Addr} {u : Value} (hp : p.block < B) : (w.setCell p u).ownsRow B e z v n xs := by
  obtain ⟨hl, h | ⟨g, cap, cur, e1, e2, e3, e4⟩⟩ := h
  · exact ⟨hl, .inl h⟩
  · exact ⟨hl, .inr ⟨g, cap, cur, e1, e2, (Below.heap_setCell w p u g (by omega)).trans e3, e4⟩⟩
theorem stores_x (S : St) (ar ai ao : Option Addr) (cr ci co : Nat) (w : World) (hs : Bs S (.slice ar S.ram.length cr) (.slice ai S.inp.length ci) (.slice ao S.out.length co) w) (lr : S.ram.length ≤ 140737488355328) (li : S.inp.length ≤ 140737488355328) (lo : S.out.length ≤ 140737488355328) (aO : Option Addr) (cO : Nat) (O : List Cal) (W w1 w2 : World) (v1 : Value) (a9 : Option Addr) (n9 c9 : Nat) (hW : w.alloc (.cells (stoc S (.slice ar S.ram.length cr) (.slice ai S.inp.length ci) (.slice ao S.out.length co) (.slice aO O.length cO)) 29) = W) (hx : ∀ j, j < O.length → CalOk w (O.getD j cal0)) (hn9 : n9 = O.length + 1)
    (ho1 : w1.ownsRow W.heap.size 45 9 v1 O.length (calL O)) (hg1 : World.grownBy W w1 none) (ho2 : w2.ownsRow W.heap.size 45 9 (.slice a9 n9 c9) (O ++ [calS]).length (calL (O ++ [calS]))) (hg2 : World.grownBy (w1.alloc (.cells (calv calS).toArray 45)) w2 v1.ownBlock) :
    w2.heap[w.heap.size]? = some (.cells (stoc S (.slice ar S.ram.length cr) (.slice ai S.inp.length ci) (.slice ao S.out.length co) (.slice aO O.length cO)) 29 (0, 0)) ∧ ∀ X, w2.setCell ⟨w.heap.size, 15, none⟩ (.slice a9 n9 c9) = X → Below w.heap.size w X ∧ w.heap.size < X.heap.size ∧ X.heap[w.heap.size]? = some (.cells (stoc S (.slice ar S.ram.length cr) (.slice ai S.inp.length ci) (.slice ao S.out.length co) (.slice a9 n9 c9)) 29 (0, 0)) ∧ Cals X (.slice a9 n9 c9) (O ++ [calS]) ∧ ∀ j, j < O.length + 1 → CalOk X ((O ++ [calS]).getD j cal0) := by
  have hz : W.heap.size = w.heap.size + 1 := by rw [← hW]; simp
  have r0 : W.heap[w.heap.size]? = some (.cells (stoc S (.slice ar S.ram.length cr) (.slice ai S.inp.length ci) (.slice ao S.out.length co) (.slice aO O.length cO)) 29 (0, 0)) := by rw [← hW]; exact heap_alloc_new w _
  have b0 : Below w.heap.size w W := by rw [← hW]; exact below_al w _
  have b1 : Below w.heap.size W w1 := ⟨hg1.os, hg1.tape, hg1.output, hg1.size, fun k hk => hg1.block k (by omega) (fun e => by cases e)⟩
  have r1 := (hg1.block w.heap.size (by omega) (fun e => by cases e)).trans r0
  have z1 : W.heap.size ≤ w1.heap.size := hg1.size
  have hge : ∀ k, v1.ownBlock = some k → W.heap.size ≤ k := fun k e => (ho1.lt k e).1
  have r1a := (Below.heap_alloc w1 (.cells (calv calS).toArray 45) w.heap.size (by omega)).trans r1
  have z2 : w1.heap.size + 1 ≤ w2.heap.size := by have := hg2.size; simpa using this
  have r2 := (hg2.block w.heap.size (by simp; omega) (fun e => by have := hge _ e.symm; omega)).trans r1a
  have b2 : Below w.heap.size w1 w2 := ((below_al w1 _).mono (by omega)).trans ⟨hg2.os, hg2.tape, hg2.output, hg2.size, fun k hk => hg2.block k (by simp; omega) (fun e => by have := hge _ e.symm; omega)⟩
  refine ⟨r2, fun X hX => ?_⟩
  have rX : X.heap[w.heap.size]? = some (.cells (stoc S (.slice ar S.ram.length cr) (.slice ai S.inp.length ci) (.slice ao S.out.length co) (.slice a9 n9 c9)) 29 (0, 0)) := by rw [← hX]; exact heap_setCell_same w2 w.heap.size 15 _ _ _ r2
  have bX : Below w.heap.size w X := by rw [← hX]; exact ((b0.trans b1).trans b2).setCell (p := ⟨w.heap.size, 15, none⟩) (Nat.le_refl _) _
  have oX : X.ownsRow W.heap.size 45 9 (.slice a9 n9 c9) (O ++ [calS]).length (calL (O ++ [calS])) := by rw [← hX]; exact ownO_set ho2 (by show w.heap.size < W.heap.size; omega)
  refine ⟨bX, (Array.getElem?_eq_some_iff.1 rX).1, rX, own_cals oX, fun j hj => ?_⟩
  by_cases h : j < O.length
  · have e : (O ++ [calS]).getD j cal0 = O.getD j cal0 := by simp [List.getD, List.getElem?_append_left h]
    rw [e]; exact (hx j h).later bX
  · obtain rfl : j = O.length := by omega
    have e : (O ++ [calS]).getD O.length cal0 = calS := by simp [List.getD]
    rw [e]; exact calS_ok X
set_option maxRecDepth 100000 in
set_option maxHeartbeats 8000000 in
theorem stores_c (S : St) (ar ai ao : Option Addr) (cr ci co : Nat) (w : World) (hs : Bs S (.slice ar S.ram.length cr) (.slice ai S.inp.length ci) (.slice ao S.out.length co) w) (lr : S.ram.length ≤ 140737488355328) (li : S.inp.length ≤ 140737488355328) (lo : S.out.length ≤ 140737488355328) (hst : StW S) (aO : Option Addr) (cO : Nat) (O : List Cal) (hO : Cals w (.slice aO O.length cO) O) (hO0 : aO = none → cO = 0) (hx : ∀ j, j < O.length → CalOk w (O.getD j cal0)) (hOl : O.length * 88 ≤ 140737488351232) :
    Calls Try.prog 8 #[.agg (stoc S (.slice ar S.ram.length cr) (.slice ai S.inp.length ci) (.slice ao S.out.length co) (.slice aO O.length cO))] w fun e w' => e = .returned (.bool true) ∧ Below w.heap.size w w' := by
  obtain ⟨W, hW⟩ : ∃ W, w.alloc (.cells (stoc S (.slice ar S.ram.length cr) (.slice ai S.inp.length ci) (.slice ao S.out.length co) (.slice aO O.length cO)) 29) = W := ⟨_, rfl⟩
  have r1 : W.heap[w.heap.size]? = some (.cells (stoc S (.slice ar S.ram.length cr) (.slice ai S.inp.length ci) (.slice ao S.out.length co) (.slice aO O.length cO)) 29 (0, 0)) := by rw [← hW]; exact heap_alloc_new w _
  have hbW : Below w.heap.size w W := by rw [← hW]; exact below_al w _
  have c15 : W.cell? ⟨w.heap.size, 15, none⟩ = some (.slice aO O.length cO) := cell_of_row W _ 15 _ _ _ r1
  have HCW : Hid (Cals W (.slice aO O.length cO) O) := hO.later hbW
  have HU0 : Hid (∀ n cap, (.slice aO O.length cO : Value) = .slice none n cap → cap = 0) := fun n cap e => by cases e; exact hO0 rfl
  have HU1 : Hid (∀ g n c, ∀ n2 cap, (.slice (some g) n c : Value) = .slice none n2 cap → cap = 0) := fun g n c n2 cap e => by cases e
  have HL1 : Hid ((([] : List Cal).length + O.length) * 88 ≤ 140737488355328) := by unfold Hid; simp; omega
  have HL2 : Hid ((O.length + [calS].length) * 88 ≤ 140737488355328) := by unfold Hid; simp; omega
  have HX : Hid (∀ w1 w2 v1 a9 n9 c9, n9 = O.length + 1 → w1.ownsRow W.heap.size 45 9 v1 O.length (calL O) → World.grownBy W w1 none → w2.ownsRow W.heap.size 45 9 (.slice a9 n9 c9) (O ++ [calS]).length (calL (O ++ [calS])) → World.grownBy (w1.alloc (.cells (calv calS).toArray 45)) w2 v1.ownBlock →
      w2.heap[w.heap.size]? = some (.cells (stoc S (.slice ar S.ram.length cr) (.slice ai S.inp.length ci) (.slice ao S.out.length co) (.slice aO O.length cO)) 29 (0, 0)) ∧ ∀ X, w2.setCell ⟨w.heap.size, 15, none⟩ (.slice a9 n9 c9) = X → Below w.heap.size w X ∧ w.heap.size < X.heap.size ∧ X.heap[w.heap.size]? = some (.cells (stoc S (.slice ar S.ram.length cr) (.slice ai S.inp.length ci) (.slice ao S.out.length co) (.slice a9 n9 c9)) 29 (0, 0)) ∧ Cals X (.slice a9 n9 c9) (O ++ [calS]) ∧ ∀ j, j < O.length + 1 → CalOk X ((O ++ [calS]).getD j cal0)) :=
    fun w1 w2 v1 a9 n9 c9 hn9 ho1 hg1 ho2 hg2 => stores_x S ar ai ao cr ci co w hs lr li lo aO cO O W w1 w2 v1 a9 n9 c9 hW hx hn9 ho1 hg1 ho2 hg2
  have HBS : Hid (Bs S (.slice ar S.ram.length cr) (.slice ai S.inp.length ci) (.slice ao S.out.length co) w) := hs
  have HST : Hid (StW S) := hst
  have HLL : Hid (S.ram.length ≤ 140737488355328 ∧ S.inp.length ≤ 140737488355328 ∧ S.out.length ≤ 140737488355328) := ⟨lr, li, lo⟩
  have hn62 : O.length ≤ 1599289640448 := by omega
  clear hst hO hx hOl hs lr li lo r1 hbW hO0
  have hW2 : w.alloc (.cells #[.slice ar S.ram.length cr, .int .u32 S.msip, .int .u64 S.cmp, .int .u64 S.time, .bool S.ext, .bool S.soft, .int .u8 S.ier, .int .u8 S.lcr, .int .u8 S.mcr, .int .u8 S.scr, .bool S.ov, .slice ai S.inp.length ci, .slice ao S.out.length co, .int .i64 S.off, .int .i64 S.code, .slice aO O.length cO] 29) = W := hW
  clear hW
  unfold stoc
  unfold stc
  go_enter Try.func8, Try.ntmps8
  go_upto_region 1 with fail

  clear hW2
  go_upto_region 2 with (first | (at_builtin; refine appC (by rfl) _ _ (by rfl) W.heap.size (.slice none 0 0) _ [] O (by rfl) (World.ownsRow_nil _ _ _ _) (by rfl) HCW.out HU0.out HL1.out (Nat.le_refl _) ?_; intro v1 w1 ho hg; have HO1 : Hid (w1.ownsRow W.heap.size 45 9 v1 O.length (calL O)) := ho; have HG1 : Hid (World.grownBy W w1 none) := hg; clear ho hg) | (at_builtin; refine appC (by rfl) _ _ (by rfl) W.heap.size v1 _ O [calS] (by rfl) (World.ownsRow.alloc HO1.out _) (by rfl) (cals_one w1) (HU1.out _ _ _) HL2.out (by have := HG1.out.size; simp; omega) ?_; intro v2 w2 ho hg; obtain ⟨n9, hn9⟩ : ∃ n, n = O.length + 1 := ⟨_, rfl⟩; obtain ⟨a9, c9, e9⟩ : ∃ a9 c9, v2 = .slice a9 n9 c9 := (by obtain ⟨a, c, e, _⟩ := own_cals ho; exact ⟨a, c, by rw [hn9, e]; simp⟩); subst e9; obtain ⟨r2, hX⟩ := HX.out w1 w2 v1 a9 n9 c9 hn9 HO1.out HG1.out ho hg; have d15 : w2.cell? ⟨w.heap.size, 15, none⟩ = some (.slice aO O.length cO) := cell_of_row w2 _ 15 _ _ _ r2; have f15 := frozen_of_row w2 _ 15 _ _ r2; have HXX : Hid _ := hX; have HN9 : Hid (n9 = O.length + 1) := hn9; clear ho hg hX r2 hn9 HO1 HG1))
  obtain ⟨X, hX⟩ : ∃ X, w2.setCell ⟨w.heap.size, 15, none⟩ (.slice a9 n9 c9) = X := ⟨_, rfl⟩
  obtain ⟨bX, zX, rX, cX, kX⟩ := HXX.out X hX
  rw [hX]
  obtain rfl := HN9.out
  clear hX HXX HX d15 f15 c15 HCW HU0 HU1 HL1 HL2 HN9
  have hlen : (O ++ [calS]).length = O.length + 1 := by simp
  obtain ⟨O', hO'⟩ : ∃ O', O ++ [calS] = O' := ⟨_, rfl⟩
  rw [hO'] at hlen cX kX
  clear hO'
  generalize O.length = m at *
  have z0 : X.cell? ⟨w.heap.size, 0, none⟩ = some (.slice ar S.ram.length cr) := cell_of_row X _ 0 _ _ _ rX
  have z1 : X.cell? ⟨w.heap.size, 1, none⟩ = some (.int .u32 S.msip) := cell_of_row X _ 1 _ _ _ rX
  have z2 : X.cell? ⟨w.heap.size, 2, none⟩ = some (.int .u64 S.cmp) := cell_of_row X _ 2 _ _ _ rX
  have z3 : X.cell? ⟨w.heap.size, 3, none⟩ = some (.int .u64 S.time) := cell_of_row X _ 3 _ _ _ rX
  have z4 : X.cell? ⟨w.heap.size, 4, none⟩ = some (.bool S.ext) := cell_of_row X _ 4 _ _ _ rX
  have z5 : X.cell? ⟨w.heap.size, 5, none⟩ = some (.bool S.soft) := cell_of_row X _ 5 _ _ _ rX
  have z6 : X.cell? ⟨w.heap.size, 6, none⟩ = some (.int .u8 S.ier) := cell_of_row X _ 6 _ _ _ rX
  have z7 : X.cell? ⟨w.heap.size, 7, none⟩ = some (.int .u8 S.lcr) := cell_of_row X _ 7 _ _ _ rX
  have z8 : X.cell? ⟨w.heap.size, 8, none⟩ = some (.int .u8 S.mcr) := cell_of_row X _ 8 _ _ _ rX
  have z9 : X.cell? ⟨w.heap.size, 9, none⟩ = some (.int .u8 S.scr) := cell_of_row X _ 9 _ _ _ rX
  have z10 : X.cell? ⟨w.heap.size, 10, none⟩ = some (.bool S.ov) := cell_of_row X _ 10 _ _ _ rX
  have z11 : X.cell? ⟨w.heap.size, 11, none⟩ = some (.slice ai S.inp.length ci) := cell_of_row X _ 11 _ _ _ rX
  have z12 : X.cell? ⟨w.heap.size, 12, none⟩ = some (.slice ao S.out.length co) := cell_of_row X _ 12 _ _ _ rX
  have z13 : X.cell? ⟨w.heap.size, 13, none⟩ = some (.int .i64 S.off) := cell_of_row X _ 13 _ _ _ rX
  have z14 : X.cell? ⟨w.heap.size, 14, none⟩ = some (.int .i64 S.code) := cell_of_row X _ 14 _ _ _ rX
  have z15 : X.cell? ⟨w.heap.size, 15, none⟩ = some (.slice a9 (m + 1) c9) := cell_of_row X _ 15 _ _ _ rX
  have HC15 : Hid (∀ w', Below X.heap.size X w' → w'.cell? ⟨w.heap.size, 15, none⟩ = some (.slice a9 (m + 1) c9)) := fun w' hb => (hb.cell zX).trans (cell_of_row X _ 15 _ _ _ rX)
  have HBX : Hid (Below w.heap.size w X) := bX
  have HCG : Hid (∀ w1 b c gp, Pls X.heap.size X b c gp w1 → w1.cell? ⟨gp, 0, none⟩ = some (.pointer (some ⟨b, 0, none⟩)) ∧ w1.cell? ⟨gp, 1, none⟩ = some (.pointer (some ⟨c, 0, none⟩))) := fun w1 b c gp hp => ⟨cell_of_row w1 _ 0 _ _ _ hp.row, cell_of_row w1 _ 1 _ _ _ hp.row⟩
  have HEL : Hid (∀ j, j < m + 1 → ∃ g off x, a9 = some ⟨g, off, none⟩ ∧ CalOk X x ∧ ∀ w', Below X.heap.size X w' → w'.cell? ⟨g, off + j * 9, none⟩ = some (.int .i64 x.k) ∧ w'.cell? ⟨g, off + j * 9 + 1, none⟩ = some (.int .u64 x.a) ∧ w'.cell? ⟨g, off + j * 9 + 2, none⟩ = some (.int .i64 x.n) ∧ w'.cell? ⟨g, off + j * 9 + 3, none⟩ = some (.int .u64 x.v) ∧ w'.cell? ⟨g, off + j * 9 + 4, none⟩ = some (.slice x.ab x.b.length x.cb) ∧ w'.cell? ⟨g, off + j * 9 + 5, none⟩ = some (.bool x.t) ∧ w'.cell? ⟨g, off + j * 9 + 6, none⟩ = some (.bool x.e) ∧ w'.cell? ⟨g, off + j * 9 + 7, none⟩ = some (.bool x.s) ∧ w'.cell? ⟨g, off + j * 9 + 8, none⟩ = some (.slice x.ai x.i.length x.ci)) := fun j hj => by
    obtain ⟨a, cap, e, _, h2⟩ := cX
    injection e with e1 e2 e3
    obtain ⟨g, off, ea, hg, hc⟩ := h2 (fun e => by rw [e] at hlen; simp at hlen)
    refine ⟨g, off, O'.getD j cal0, e1.trans ea, kX j hj, fun w' hb => ⟨(hb.cell hg).trans (hc j (by omega) 0 (by decide)), (hb.cell hg).trans (hc j (by omega) 1 (by decide)), (hb.cell hg).trans (hc j (by omega) 2 (by decide)), (hb.cell hg).trans (hc j (by omega) 3 (by decide)), (hb.cell hg).trans (hc j (by omega) 4 (by decide)), (hb.cell hg).trans (hc j (by omega) 5 (by decide)), (hb.cell hg).trans (hc j (by omega) 6 (by decide)), (hb.cell hg).trans (hc j (by omega) 7 (by decide)), (hb.cell hg).trans (hc j (by omega) 8 (by decide))⟩⟩
  have hm1 : IntKind.i64.wrap (((m + 1 : Nat) : Int) - 1) = (m : Int) := by rw [IntKind.wrap_i64]; omega
  clear bX zX rX cX kX hlen
  cases hk : S.ok with
  | false =>
    have HBG : Hid (Calls Try.prog 25 #[.agg (stc S (.slice ar S.ram.length cr) (.slice ai S.inp.length ci) (.slice ao S.out.length co))] X fun e w' => e = .returned (.tuple #[.agg #[.pointer none, .pointer none], .bool true, .bool false]) ∧ Below X.heap.size X w') := begin_bad S ar ai ao cr ci co X hk (HBS.out.later HBX.out) HLL.out.1 HLL.out.2.1 HLL.out.2.2
    clear hk HBS HLL HST
    unfold stc at HBG
    go_wp2_with (go_at_call 25; refine HBG.out.mono ?_; rintro e w1 ⟨rfl, hb1⟩; have HB1 : Hid (Below w.heap.size w w1) := HBX.out.trans (hb1.mono HBX.out.size); clear hb1)
    go_ret
    exact ⟨rfl, HB1.out.alloc HB1.out.size _⟩
  | true =>
    have HBG : Hid (Calls Try.prog 25 #[.agg (stc S (.slice ar S.ram.length cr) (.slice ai S.inp.length ci) (.slice ao S.out.length co))] X fun e w' => ∃ b c, e = .returned (.tuple #[.agg #[.pointer (some ⟨b, 0, none⟩), .pointer (some ⟨c, 0, none⟩)], .bool true, .bool true]) ∧ Pls X.heap.size X b c w'.heap.size (w'.alloc (.cells #[.pointer (some ⟨b, 0, none⟩), .pointer (some ⟨c, 0, none⟩)] 58))) := (begin_c S ar ai ao cr ci co X hk (HBS.out.later HBX.out) HLL.out.1 HLL.out.2.1 HLL.out.2.2).mono fun e w' ⟨L, c, ur, ui, uo, M, he, ht, hb⟩ => ⟨L.b, c, he, pls_start ht hb hk HST.out⟩
    clear hk HBS HLL HST
    unfold stc at HBG
    go_wp2_with (go_at_call 25; refine HBG.out.mono ?_; rintro e w1 ⟨b, c, rfl, hp⟩; have HP : Hid _ := hp; clear hp)
    --@CUT2
    obtain ⟨U, hU⟩ : ∃ U, w1.alloc (.cells #[.pointer (some ⟨b, 0, none⟩), .pointer (some ⟨c, 0, none⟩)] 58) = U := ⟨_, rfl⟩
    have HPU : Hid (Pls X.heap.size X b c w1.heap.size U) := by rw [← hU]; exact HP.out
    try rw [hU]
    clear HP hU HBG
    generalize w1.heap.size = gp at HPU ⊢
    clear w1
    clear z0 z1 z2 z3 z4 z5 z6 z7 z8 z9 z10 z11 z12 z13 z14 z15
    go_loopw [7] (fun i wr => ∃ j : Nat, j ≤ m + 1 ∧ i = .int .i64 j ∧ Hid (Pls X.heap.size X b c gp wr)) (fun i _ => m + 1 - (intOf i).toNat)
    case atStart => exact ⟨0, Nat.zero_le _, rfl, HPU⟩
    case round =>
      obtain ⟨j, hj, rfl, hst⟩ := hrel
      clear HPU
      have c15 := HC15.out wr hst.out.below
      by_cases hlt : j < m + 1
      · have hlt2 : (j : Int) ≤ (m : Int) := by omega
        have hlt3 : (j : Int) < ((m + 1 : Nat) : Int) := by omega
        obtain ⟨g, off, x, ea, hx, hcl⟩ := HEL.out j hlt
        obtain ⟨x0, x1, x2, x3, x4, x5, x6, x7, x8⟩ := hcl wr hst.out.below
        obtain ⟨p0, p1⟩ := HCG.out wr b c gp hst.out
        have hglt : gp < wr.heap.size := (Array.getElem?_eq_some_iff.1 hst.out.row).1
        have hgne : ¬ gp = wr.heap.size := by omega
        have hgne2 : ¬ wr.heap.size = gp := by omega
        rw [ea] at c15
        have HX : Hid (CalOk X x) := hx
        clear hx hcl ea
        have HCH : Hid (∀ w1 : World, Below wr.heap.size wr w1 → w1.heap[wr.heap.size]? = some (.cells #[.int .i64 x.k, .int .u64 x.a, .int .i64 x.n, .int .u64 x.v, .slice x.ab x.b.length x.cb, .bool x.t, .bool x.e, .bool x.s, .slice x.ai x.i.length x.ci] 45 (0, 0)) → Calls Try.prog 24 #[.agg #[.pointer (some ⟨b, 0, none⟩), .pointer (some ⟨c, 0, none⟩)], .agg #[.int .i64 x.k, .int .u64 x.a, .int .i64 x.n, .int .u64 x.v, .slice x.ab x.b.length x.cb, .bool x.t, .bool x.e, .bool x.s, .slice x.ai x.i.length x.ci]] w1 fun e w' => e = .returned (.bool true) ∧ Pls X.heap.size X b c gp w' ∧ w'.heap[wr.heap.size]? = some (.cells #[.int .i64 x.k, .int .u64 x.a, .int .i64 x.n, .int .u64 x.v, .slice x.ab x.b.length x.cb, .bool x.t, .bool x.e, .bool x.s, .slice x.ai x.i.length x.ci] 45 (0, 0))) := fun w1 hb hg => hst.out.chg rfl hb x HX.out _ (Nat.le_refl _) hg
        have HAS : Hid (∀ w2 : World, Pls X.heap.size X b c gp w2 → Calls Try.prog 22 #[.agg #[.pointer (some ⟨b, 0, none⟩), .pointer (some ⟨c, 0, none⟩)], .agg #[.int .i64 x.k, .int .u64 x.a, .int .i64 x.n, .int .u64 x.v, .slice x.ab x.b.length x.cb, .bool x.t, .bool x.e, .bool x.s, .slice x.ai x.i.length x.ci]] w2 fun e w' => e = .returned (.bool true) ∧ Pls X.heap.size X b c gp w' ∧ Below w2.heap.size w2 w') := fun w2 hp => hp.ask x HX.out
        have HRC : Hid (∀ w1 : World, w1.heap[wr.heap.size]? = some (.cells #[.int .i64 x.k, .int .u64 x.a, .int .i64 x.n, .int .u64 x.v, .slice x.ab x.b.length x.cb, .bool x.t, .bool x.e, .bool x.s, .slice x.ai x.i.length x.ci] 45 (0, 0)) → w1.cell? ⟨wr.heap.size, 0, none⟩ = some (.int .i64 x.k) ∧ w1.cell? ⟨wr.heap.size, 1, none⟩ = some (.int .u64 x.a) ∧ w1.cell? ⟨wr.heap.size, 2, none⟩ = some (.int .i64 x.n) ∧ w1.cell? ⟨wr.heap.size, 3, none⟩ = some (.int .u64 x.v) ∧ w1.cell? ⟨wr.heap.size, 4, none⟩ = some (.slice x.ab x.b.length x.cb) ∧ w1.cell? ⟨wr.heap.size, 5, none⟩ = some (.bool x.t) ∧ w1.cell? ⟨wr.heap.size, 6, none⟩ = some (.bool x.e) ∧ w1.cell? ⟨wr.heap.size, 7, none⟩ = some (.bool x.s) ∧ w1.cell? ⟨wr.heap.size, 8, none⟩ = some (.slice x.ai x.i.length x.ci)) := fun w1 h => ⟨cell_of_row w1 _ 0 _ _ _ h, cell_of_row w1 _ 1 _ _ _ h, cell_of_row w1 _ 2 _ _ _ h, cell_of_row w1 _ 3 _ _ _ h, cell_of_row w1 _ 4 _ _ _ h, cell_of_row w1 _ 5 _ _ _ h, cell_of_row w1 _ 6 _ _ _ h, cell_of_row w1 _ 7 _ _ _ h, cell_of_row w1 _ 8 _ _ _ h⟩
        have HLO : Hid (∀ w1 : World, Below wr.heap.size wr w1 → (w1.cell? ⟨gp, 0, none⟩ = some (.pointer (some ⟨b, 0, none⟩)) ∧ w1.cell? ⟨gp, 1, none⟩ = some (.pointer (some ⟨c, 0, none⟩)))) := fun w1 hb => HCG.out w1 b c gp (hst.out.later hb)
        by_cases hk2 : x.k = 2
        · have hb2 : (x.k != 2) = false := by simp [hk2]
          clear hk2
          go_wp2_with (first | (go_at_call 24; refine (HCH.out _ (by first | exact below_al wr _ | exact Below.drew (below_al wr _)) (heap_alloc_new wr _)).mono ?_; rintro e w2 ⟨rfl, hp2, hr2⟩; obtain ⟨q0, q1, q2, q3, q4, q5, q6, q7, q8⟩ := HRC.out w2 hr2; obtain ⟨s0, s1⟩ := HCG.out w2 b c gp hp2; have HP2 : Hid _ := hp2; have HR2 : Hid _ := hr2; clear hp2 hr2) | (go_at_call 22; refine (HAS.out w2 HP2.out).mono ?_; rintro e w3 ⟨rfl, hp3, hb3⟩; have hr3 := (hb3.block _ (Array.getElem?_eq_some_iff.1 HR2.out).1).trans HR2.out; have y0 := (HRC.out w3 hr3).1; obtain ⟨t0, t1⟩ := HCG.out w3 b c gp hp3; have HP3 : Hid _ := hp3; clear hp3 hb3 hr3))
          go_roundw
          case rel => exact ⟨j + 1, by omega, by go_num, HP3⟩
          case measure => simp [intOf] <;> omega
        · have hb2 : (x.k != 2) = true := by simp [hk2]
          clear hk2
          by_cases hjm : j < m
          · have hjm2 : (j : Int) < (m : Int) := by omega
            go_wp2
            go_roundw
            case rel => exact ⟨j + 1, by omega, by go_num, hst.out.later (below_al wr _)⟩
            case measure => simp [intOf] <;> omega
          · obtain rfl : j = m := by omega
            go_wp2_with (first | (go_at_call 24; refine (HCH.out _ (by first | exact below_al wr _ | exact Below.drew (below_al wr _)) (heap_alloc_new wr _)).mono ?_; rintro e w2 ⟨rfl, hp2, hr2⟩; obtain ⟨q0, q1, q2, q3, q4, q5, q6, q7, q8⟩ := HRC.out w2 hr2; obtain ⟨s0, s1⟩ := HCG.out w2 b c gp hp2; have HP2 : Hid _ := hp2; have HR2 : Hid _ := hr2; clear hp2 hr2) | (go_at_call 22; refine (HAS.out w2 HP2.out).mono ?_; rintro e w3 ⟨rfl, hp3, hb3⟩; have hr3 := (hb3.block _ (Array.getElem?_eq_some_iff.1 HR2.out).1).trans HR2.out; have y0 := (HRC.out w3 hr3).1; obtain ⟨t0, t1⟩ := HCG.out w3 b c gp hp3; have HP3 : Hid _ := hp3; clear hp3 hb3 hr3))
            go_roundw
            case rel => exact ⟨j + 1, by omega, by go_num, HP3⟩
            case measure => simp [intOf] <;> omega
      · obtain rfl : j = m + 1 := by omega
        go_wp2
        go_ret
        exact ⟨rfl, HBX.out.trans (hst.out.below.mono HBX.out.size)⟩
end Go.Proofs.Ytjckdgdpnlfglaa
