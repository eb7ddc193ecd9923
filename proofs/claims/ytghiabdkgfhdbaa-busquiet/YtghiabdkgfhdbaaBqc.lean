/-
  BusQuiet: the walk.
-/
import Derived.Test.YtghiabdkgfhdbaaBqb
import Derived.BigRegion
import Derived.BigQuiet
import Derived.Deep.QuietTactic
import Derived.Deep.CutRange
namespace Go.Proofs.Ytghiabdkgfhdbaa
set_option linter.unusedVariables false
open Go.ChangeShapes Go.WideShapes Go.ChangeAt Go.RowKit Go.Deep Go.MuLone
theorem wp_some {R : World → Prop} {c : Code} {Q : Exit → Act → World → Prop} {a : Act} {w : World} (h : R w) (k : ∀ wc, R wc → Code.wp Try.prog c Q a wc) : Code.wp Try.prog c Q a w := k w h
/-- A copy by append, in a region that draws. -/
theorem step_appN {ops : Array Oper} {o : Oper} {a : Act} {w : World} {K : Act → World → Prop} {Q : Exit → Act → World → Prop} {E : Prop} (hgd : o.guard = none) (s x : Operand) (ho : o.op = .call { callee := .builtin .append, args := #[s, x], argTypes := #[22, 22] })
    (u : Value) (l : List Int) (hs : a.eval s = .slice none 0 0) (hx : a.eval x = u) (hu : Byt w u l) (hl : l.length ≤ 140737488355328)
    (h : ∀ v' w', w'.ownsRow w.heap.size 5 1 v' l.length (bv l) → Below w.heap.size w w' → K (a.put o.dst v') w') :
    if Region.wanted o (yielded ops a.tmps) = true then Oper.wp Try.prog o a w K Q else E := by
  obtain ⟨i0, hi, hz0, hz1, hz2⟩ := info_parts info5
  have hw : Region.wanted o (yielded ops a.tmps) = true := by simp [Region.wanted, hgd]
  rw [if_pos hw]
  obtain ⟨ao, cap, rfl, h1, h1', h2⟩ := hu
  cases ao with
  | none =>
    have hc := h1' rfl
    have hl0 : l = [] := List.eq_nil_of_length_eq_zero (by omega)
    subst hl0; subst hc
    have hr := run_append_owned_none (P := Try.prog) (w := w) w.heap.size 22 o.type 5 i0 1 Try.underlying22 hi (.slice none 0 0) 0 [] (World.ownsRow_nil _ _ _ _)
    unfold Oper.wp
    simp [execOp, ho, resolve, invoke, builtin, hs, hx, hr, Result.andThen]
    exact h _ _ (World.ownsRow_nil _ _ _ _) (Below.refl _ _)
  | some ad =>
    obtain ⟨v', w', hr, g1, g2, _⟩ := run_append_own (P := Try.prog) w w.heap.size 22 o.type 5 i0 (.int .u8 0) 1 1 Try.underlying22 hi hz0 hz1 hz2 rfl (by decide) (.slice none 0 0) 0 [] (World.ownsRow_nil _ _ _ _) ad l.length cap (bv l) (by rw [bv_length, Nat.mul_one]) (fun j u hj => by
      have hjl : j < l.length := by have := (List.getElem?_eq_some_iff.1 hj).1; simpa [bv] using this
      obtain ⟨g, off, he, h3, h4⟩ := h2 (by intro e; rw [e] at hjl; simp at hjl)
      cases he
      rw [bv_get _ _ hjl] at hj
      cases hj
      rw [addAt]
      exact h4 j hjl) (fun u hu => by simp [bv] at hu; obtain ⟨q, _, rfl⟩ := hu; rfl) (by unfold maxLen; omega) (by omega) (Nat.le_refl _)
    unfold Oper.wp
    simp [execOp, ho, resolve, invoke, builtin, hs, hx, hr, Result.andThen]
    refine h v' w' (by simpa using g1) ((Below.refl _ _).grown g2 (Nat.le_refl _) (fun k hk => by cases hk))
set_option maxRecDepth 100000 in
theorem busquiet_no (S : St) (ar ai ao : Option Addr) (cr ci co : Nat) (w : World) (hs : Bs S (.slice ar S.ram.length cr) (.slice ai S.inp.length ci) (.slice ao S.out.length co) w) (lr : S.ram.length ≤ 140737488355328) (li : S.inp.length ≤ 140737488355328) (lo : S.out.length ≤ 140737488355328) (hok : S.ok = false) (vO : Value) :
    Calls Try.prog 6 #[.agg (stoc S (.slice ar S.ram.length cr) (.slice ai S.inp.length ci) (.slice ao S.out.length co) vO)] w fun e w' => e = .returned (.bool true) ∧ Below w.heap.size w w' := by
  have HCB : Hid (∀ w1, Calls Try.prog 9 #[.agg (stc S (.slice ar S.ram.length cr) (.slice ai S.inp.length ci) (.slice ao S.out.length co))] w1 fun e w' => e = .returned (.bool false) ∧ Below w1.heap.size w1 w') := fun w1 => by rw [← hok]; exact rcanBe_c S ar ai ao cr ci co w1
  clear hok hs lr li lo
  unfold stoc
  unfold stc at HCB ⊢
  go_enter Try.func6, Try.ntmps6
  go_wp2_with (go_at_call 9; refine (HCB.out _).mono ?_; rintro e w1 ⟨rfl, hb1⟩; have HB1 : Hid (Below w.heap.size w w1) := box_below hb1; clear hb1)
  go_ret
  exact ⟨rfl, HB1.out⟩
set_option maxRecDepth 100000 in
set_option maxHeartbeats 8000000 in
theorem busquiet_y (S : St) (ar ai ao : Option Addr) (cr ci co : Nat) (w : World) (hs : Bs S (.slice ar S.ram.length cr) (.slice ai S.inp.length ci) (.slice ao S.out.length co) w) (lr : S.ram.length ≤ 140737488355328) (li : S.inp.length ≤ 140737488355328) (lo : S.out.length ≤ 140737488355328) (hok : S.ok = true) (hst : StW S) (aO : Option Addr) (cO : Nat) (O : List Cal) (hO : Cals w (.slice aO O.length cO) O) (hx : ∀ j, j < O.length → CalOk w (O.getD j cal0)) (hOl : O.length * 88 ≤ 140737488351232) :
    Calls Try.prog 6 #[.agg (stoc S (.slice ar S.ram.length cr) (.slice ai S.inp.length ci) (.slice ao S.out.length co) (.slice aO O.length cO))] w fun e w' => e = .returned (.bool true) ∧ Below w.heap.size w w' := by
  obtain ⟨W, hW⟩ : ∃ W, w.alloc (.cells (stoc S (.slice ar S.ram.length cr) (.slice ai S.inp.length ci) (.slice ao S.out.length co) (.slice aO O.length cO)) 29) = W := ⟨_, rfl⟩
  have hbW : Below w.heap.size w W := by rw [← hW]; exact below_al w _
  have hz : w.heap.size < W.heap.size := by rw [← hW]; simp
  have r1 : W.heap[w.heap.size]? = some (.cells (stoc S (.slice ar S.ram.length cr) (.slice ai S.inp.length ci) (.slice ao S.out.length co) (.slice aO O.length cO)) 29 (0, 0)) := by rw [← hW]; exact heap_alloc_new w _
  have h1 : Sok S := ⟨hok, hst⟩
  have HCB : Hid (Calls Try.prog 9 #[.agg (stc S (.slice ar S.ram.length cr) (.slice ai S.inp.length ci) (.slice ao S.out.length co))] W fun e w' => e = .returned (.bool true) ∧ Below W.heap.size W w') := by rw [← hok]; exact rcanBe_c S ar ai ao cr ci co W
  have HMD : Hid (∀ w1, Below W.heap.size W w1 → Calls Try.prog 10 #[.agg (stc S (.slice ar S.ram.length cr) (.slice ai S.inp.length ci) (.slice ao S.out.length co))] w1 fun e w' => ∃ L, e = .returned (.tuple #[.pointer (some ⟨Lay.b L, 0, none⟩), .bool true]) ∧ PB w1.heap.size L S w' ∧ Below w1.heap.size w1 w') := fun w1 hb => made_c S ar ai ao cr ci co w1 hok (hs.later (hbW.trans (hb.mono hbW.size))) lr li lo
  have HZ : Hid (∀ w', Below W.heap.size W w' → w'.cell? ⟨w.heap.size, 0, none⟩ = some (.slice ar S.ram.length cr) ∧ w'.cell? ⟨w.heap.size, 1, none⟩ = some (.int .u32 S.msip) ∧ w'.cell? ⟨w.heap.size, 2, none⟩ = some (.int .u64 S.cmp) ∧ w'.cell? ⟨w.heap.size, 3, none⟩ = some (.int .u64 S.time) ∧ w'.cell? ⟨w.heap.size, 4, none⟩ = some (.bool S.ext) ∧ w'.cell? ⟨w.heap.size, 5, none⟩ = some (.bool S.soft) ∧ w'.cell? ⟨w.heap.size, 6, none⟩ = some (.int .u8 S.ier) ∧ w'.cell? ⟨w.heap.size, 7, none⟩ = some (.int .u8 S.lcr) ∧ w'.cell? ⟨w.heap.size, 8, none⟩ = some (.int .u8 S.mcr) ∧ w'.cell? ⟨w.heap.size, 9, none⟩ = some (.int .u8 S.scr) ∧ w'.cell? ⟨w.heap.size, 10, none⟩ = some (.bool S.ov) ∧ w'.cell? ⟨w.heap.size, 11, none⟩ = some (.slice ai S.inp.length ci) ∧ w'.cell? ⟨w.heap.size, 12, none⟩ = some (.slice ao S.out.length co) ∧ w'.cell? ⟨w.heap.size, 13, none⟩ = some (.int .i64 S.off) ∧ w'.cell? ⟨w.heap.size, 14, none⟩ = some (.int .i64 S.code) ∧ w'.cell? ⟨w.heap.size, 15, none⟩ = some (.slice aO O.length cO)) := fun w' hb => ⟨(hb.cell hz).trans (cell_of_row W _ 0 _ _ _ r1), (hb.cell hz).trans (cell_of_row W _ 1 _ _ _ r1), (hb.cell hz).trans (cell_of_row W _ 2 _ _ _ r1), (hb.cell hz).trans (cell_of_row W _ 3 _ _ _ r1), (hb.cell hz).trans (cell_of_row W _ 4 _ _ _ r1), (hb.cell hz).trans (cell_of_row W _ 5 _ _ _ r1), (hb.cell hz).trans (cell_of_row W _ 6 _ _ _ r1), (hb.cell hz).trans (cell_of_row W _ 7 _ _ _ r1), (hb.cell hz).trans (cell_of_row W _ 8 _ _ _ r1), (hb.cell hz).trans (cell_of_row W _ 9 _ _ _ r1), (hb.cell hz).trans (cell_of_row W _ 10 _ _ _ r1), (hb.cell hz).trans (cell_of_row W _ 11 _ _ _ r1), (hb.cell hz).trans (cell_of_row W _ 12 _ _ _ r1), (hb.cell hz).trans (cell_of_row W _ 13 _ _ _ r1), (hb.cell hz).trans (cell_of_row W _ 14 _ _ _ r1), (hb.cell hz).trans (cell_of_row W _ 15 _ _ _ r1)⟩
  have HEL : Hid (∀ w1, Below W.heap.size W w1 → ∀ j, j < O.length → ∃ g off x, aO = some ⟨g, off, none⟩ ∧ CalOk w1 x ∧ ∀ w', Below w1.heap.size w1 w' → w'.cell? ⟨g, off + j * 9, none⟩ = some (.int .i64 x.k) ∧ w'.cell? ⟨g, off + j * 9 + 1, none⟩ = some (.int .u64 x.a) ∧ w'.cell? ⟨g, off + j * 9 + 2, none⟩ = some (.int .i64 x.n) ∧ w'.cell? ⟨g, off + j * 9 + 3, none⟩ = some (.int .u64 x.v) ∧ w'.cell? ⟨g, off + j * 9 + 4, none⟩ = some (.slice x.ab x.b.length x.cb) ∧ w'.cell? ⟨g, off + j * 9 + 5, none⟩ = some (.bool x.t) ∧ w'.cell? ⟨g, off + j * 9 + 6, none⟩ = some (.bool x.e) ∧ w'.cell? ⟨g, off + j * 9 + 7, none⟩ = some (.bool x.s) ∧ w'.cell? ⟨g, off + j * 9 + 8, none⟩ = some (.slice x.ai x.i.length x.ci)) := fun w1 hb1 j hj => by
    obtain ⟨a, cap, e, _, h2⟩ := hO
    cases e
    obtain ⟨g, off, ea, hg, hc⟩ := h2 (fun e => by rw [e] at hj; simp at hj)
    have hg2 := Nat.lt_of_lt_of_le hg hbW.size
    have hg3 := Nat.lt_of_lt_of_le hg2 hb1.size
    exact ⟨g, off, O.getD j cal0, ea, ((hx j hj).later hbW).later hb1, fun w' hb => ⟨((hb.cell hg3).trans ((hb1.cell hg2).trans (hbW.cell hg))).trans (hc j hj 0 (by decide)), ((hb.cell hg3).trans ((hb1.cell hg2).trans (hbW.cell hg))).trans (hc j hj 1 (by decide)), ((hb.cell hg3).trans ((hb1.cell hg2).trans (hbW.cell hg))).trans (hc j hj 2 (by decide)), ((hb.cell hg3).trans ((hb1.cell hg2).trans (hbW.cell hg))).trans (hc j hj 3 (by decide)), ((hb.cell hg3).trans ((hb1.cell hg2).trans (hbW.cell hg))).trans (hc j hj 4 (by decide)), ((hb.cell hg3).trans ((hb1.cell hg2).trans (hbW.cell hg))).trans (hc j hj 5 (by decide)), ((hb.cell hg3).trans ((hb1.cell hg2).trans (hbW.cell hg))).trans (hc j hj 6 (by decide)), ((hb.cell hg3).trans ((hb1.cell hg2).trans (hbW.cell hg))).trans (hc j hj 7 (by decide)), ((hb.cell hg3).trans ((hb1.cell hg2).trans (hbW.cell hg))).trans (hc j hj 8 (by decide))⟩⟩
  have HBW : Hid (Below w.heap.size w W) := hbW
  have hn62 : O.length ≤ 1599289640448 := by omega
  have HSO : Hid (Sok S) := h1
  clear hok hst hO hx hOl hs lr li lo hbW h1
  obtain ⟨u0, u1, u2, u3, u4, u5, u6, u7, u8, u9, u10, u11, u12, u13, u14, u15⟩ := HZ.out W (Below.refl _ _)
  have hW2 : w.alloc (.cells #[.slice ar S.ram.length cr, .int .u32 S.msip, .int .u64 S.cmp, .int .u64 S.time, .bool S.ext, .bool S.soft, .int .u8 S.ier, .int .u8 S.lcr, .int .u8 S.mcr, .int .u8 S.scr, .bool S.ov, .slice ai S.inp.length ci, .slice ao S.out.length co, .int .i64 S.off, .int .i64 S.code, .slice aO O.length cO] 29) = W := hW
  clear hW r1 hz
  unfold stoc
  unfold stc at HCB HMD ⊢
  go_enter Try.func6, Try.ntmps6
  go_upto_region 1 with fail
  clear hW2
  go_upto_region 4 with (go_at_call 9; refine HCB.out.mono ?_; rintro e w1 ⟨rfl, hb1⟩; have HB1 : Hid (Below W.heap.size W w1) := hb1; clear hb1)
  clear u0 u1 u2 u3 u4 u5 u6 u7 u8 u9 u10 u11 u12 u13 u14 u15
  obtain ⟨u0, u1, u2, u3, u4, u5, u6, u7, u8, u9, u10, u11, u12, u13, u14, u15⟩ := HZ.out w1 HB1.out
  go_upto_region 8 with (go_at_call 10; refine (HMD.out w1 HB1.out).mono ?_; rintro e w2 ⟨L, rfl, hp, hb2⟩; have HP : Hid (PB w1.heap.size L S w2) := hp; have HB2 : Hid (Below w1.heap.size w1 w2) := hb2; clear hp hb2)
  --@CUT1
  have HEL2 : Hid (∀ j, j < O.length → ∃ g off x, aO = some ⟨g, off, none⟩ ∧ CalOk w1 x ∧ ∀ w', Below w1.heap.size w1 w' → w'.cell? ⟨g, off + j * 9, none⟩ = some (.int .i64 x.k) ∧ w'.cell? ⟨g, off + j * 9 + 1, none⟩ = some (.int .u64 x.a) ∧ w'.cell? ⟨g, off + j * 9 + 2, none⟩ = some (.int .i64 x.n) ∧ w'.cell? ⟨g, off + j * 9 + 3, none⟩ = some (.int .u64 x.v) ∧ w'.cell? ⟨g, off + j * 9 + 4, none⟩ = some (.slice x.ab x.b.length x.cb) ∧ w'.cell? ⟨g, off + j * 9 + 5, none⟩ = some (.bool x.t) ∧ w'.cell? ⟨g, off + j * 9 + 6, none⟩ = some (.bool x.e) ∧ w'.cell? ⟨g, off + j * 9 + 7, none⟩ = some (.bool x.s) ∧ w'.cell? ⟨g, off + j * 9 + 8, none⟩ = some (.slice x.ai x.i.length x.ci)) := HEL.out w1 HB1.out
  have HC15 : Hid (∀ w', Below w1.heap.size w1 w' → w'.cell? ⟨w.heap.size, 15, none⟩ = some (.slice aO O.length cO)) := fun w' hb => (HZ.out w' (HB1.out.trans (hb.mono HB1.out.size))).2.2.2.2.2.2.2.2.2.2.2.2.2.2.2
  have HBA : Hid (∀ w', Below w1.heap.size w1 w' → Below w.heap.size w w') := fun w' hb => HBW.out.trans ((HB1.out.trans (hb.mono HB1.out.size)).mono HBW.out.size)
  have HPM : Hid (Pqu w1.heap.size w1 L.b L S w2) := ⟨HP.out, rfl, HSO.out, HB2.out, HB2.out.size⟩
  clear u0 u1 u2 u3 u4 u5 u6 u7 u8 u9 u10 u11 u12 u13 u14 u15 HZ HEL HMD HCB HP HB2
  generalize L.b = b at *
  go_loopw [6] (fun i wr => ∃ (j : Nat) (L : Lay) (R : St), j ≤ O.length ∧ i = .int .i64 j ∧ Hid (Pqu w1.heap.size w1 b L R wr)) (fun i _ => O.length - (intOf i).toNat)
  case atStart => exact ⟨0, L, S, Nat.zero_le _, rfl, HPM⟩
  case round =>
    obtain ⟨j, L2, R, hj, rfl, hst⟩ := hrel
    clear HPM
    have c15 := HC15.out wr hst.out.be
    by_cases hlt : j < O.length
    · have hlt2 : (j : Int) < (O.length : Int) := by omega
      obtain ⟨g, off, x, ea, hx, hcl⟩ := HEL2.out j hlt
      obtain ⟨x0, x1, x2, x3, x4, x5, x6, x7, x8⟩ := hcl wr hst.out.be
      rw [ea] at c15
      have HX : Hid (CalOk w1 x) := hx
      clear hx hcl ea
      have hR := hst.out.s.n
      have HSTA : Hid (∀ w9 : World, Below wr.heap.size wr w9 → Calls Try.prog 11 #[.pointer (some ⟨b, 0, none⟩)] w9 fun e w' => ∃ ur ui uo, e = .returned (.agg (stc R ur ui uo)) ∧ Sv w9.heap.size R ur ui uo w' ∧ Below w9.heap.size w9 w') := fun w9 hb => by
        have q := state_c w9 (hst.out.later hb).p (by omega) (by omega) (by omega)
        rw [hst.out.e] at q
        exact q
      go_upto_region 11 with fail
      go_cut [8] from 38 to 39 (fun p wx => ∃ y1 z1 y2 z2 y3 z3 g2, p = .pointer (some ⟨g2, 0, none⟩) ∧ Qur w1.heap.size w1 b wr.heap.size g2 #[.int .i64 x.k, .int .u64 x.a, .int .i64 x.n, .int .u64 x.v, .slice x.ab x.b.length x.cb, .bool x.t, .bool x.e, .bool x.s, .slice x.ai x.i.length x.ci] L2 R (.slice y1 R.ram.length z1) (.slice y2 R.inp.length z2) (.slice y3 R.out.length z3) wx)
      case first =>
        go_wp2_with (go_at_call 11; refine (HSTA.out _ (below_al wr _)).mono ?_; rintro e w2 ⟨ur, ui, uo, rfl, hsv, hb2⟩; obtain ⟨y1, z1, y2, z2, y3, z3, rfl, rfl, rfl⟩ := hsv.bs.forms; have HQ0 : Hid _ := qur_mk hst.out rfl hsv hb2; unfold stc; clear hsv hb2)
        go_meet
        exact ⟨y1, z1, y2, z2, y3, z3, _, rfl, HQ0.out⟩
      case rest =>
        rename_i hKK
        obtain ⟨y1, z1, y2, z2, y3, z3, g2, rfl, hqr⟩ := hcut
        obtain ⟨g1, hg1⟩ : ∃ g1, g1 = wr.heap.size := ⟨_, rfl⟩
        rw [← hg1] at hqr ⊢
        obtain ⟨W2, hW2⟩ : ∃ W2, wc = W2 := ⟨_, rfl⟩
        subst hW2
        have HQ : Hid (Qur w1.heap.size w1 b g1 g2 #[.int .i64 x.k, .int .u64 x.a, .int .i64 x.n, .int .u64 x.v, .slice x.ab x.b.length x.cb, .bool x.t, .bool x.e, .bool x.s, .slice x.ai x.i.length x.ci] L2 R (.slice y1 R.ram.length z1) (.slice y2 R.inp.length z2) (.slice y3 R.out.length z3) wc) := hqr
        clear hqr hg1 hst hR HSTA x0 x1 x2 x3 x4 x5 x6 x7 x8 c15
        refine hKK _ _ ?_
        clear hKK
        refine wp_seq_k (fun KK hKK => ?_)
        go_cut [41] from 40 to 123 (fun _ wx => ∃ L3 T vr vi vo, Quo w1.heap.size w1 b g2 L3 T vr vi vo wx)
        case first =>
          have q0 : wc.cell? ⟨g1, 0, none⟩ = some (.int .i64 x.k) := cell_of_row wc _ 0 _ _ _ HQ.out.r1
          have q1 : wc.cell? ⟨g1, 1, none⟩ = some (.int .u64 x.a) := cell_of_row wc _ 1 _ _ _ HQ.out.r1
          have q2 : wc.cell? ⟨g1, 2, none⟩ = some (.int .i64 x.n) := cell_of_row wc _ 2 _ _ _ HQ.out.r1
          have q3 : wc.cell? ⟨g1, 3, none⟩ = some (.int .u64 x.v) := cell_of_row wc _ 3 _ _ _ HQ.out.r1
          have q4 : wc.cell? ⟨g1, 4, none⟩ = some (.slice x.ab x.b.length x.cb) := cell_of_row wc _ 4 _ _ _ HQ.out.r1
          have q5 : wc.cell? ⟨g1, 5, none⟩ = some (.bool x.t) := cell_of_row wc _ 5 _ _ _ HQ.out.r1
          have q6 : wc.cell? ⟨g1, 6, none⟩ = some (.bool x.e) := cell_of_row wc _ 6 _ _ _ HQ.out.r1
          have q7 : wc.cell? ⟨g1, 7, none⟩ = some (.bool x.s) := cell_of_row wc _ 7 _ _ _ HQ.out.r1
          have q8 : wc.cell? ⟨g1, 8, none⟩ = some (.slice x.ai x.i.length x.ci) := cell_of_row wc _ 8 _ _ _ HQ.out.r1
          have p0 : wc.cell? ⟨g2, 0, none⟩ = some (.slice y1 R.ram.length z1) := cell_of_row wc _ 0 _ _ _ HQ.out.r2
          have p1 : wc.cell? ⟨g2, 1, none⟩ = some (.int .u32 R.msip) := cell_of_row wc _ 1 _ _ _ HQ.out.r2
          have p2 : wc.cell? ⟨g2, 2, none⟩ = some (.int .u64 R.cmp) := cell_of_row wc _ 2 _ _ _ HQ.out.r2
          have p3 : wc.cell? ⟨g2, 3, none⟩ = some (.int .u64 R.time) := cell_of_row wc _ 3 _ _ _ HQ.out.r2
          have p4 : wc.cell? ⟨g2, 4, none⟩ = some (.bool R.ext) := cell_of_row wc _ 4 _ _ _ HQ.out.r2
          have p5 : wc.cell? ⟨g2, 5, none⟩ = some (.bool R.soft) := cell_of_row wc _ 5 _ _ _ HQ.out.r2
          have p6 : wc.cell? ⟨g2, 6, none⟩ = some (.int .u8 R.ier) := cell_of_row wc _ 6 _ _ _ HQ.out.r2
          have p7 : wc.cell? ⟨g2, 7, none⟩ = some (.int .u8 R.lcr) := cell_of_row wc _ 7 _ _ _ HQ.out.r2
          have p8 : wc.cell? ⟨g2, 8, none⟩ = some (.int .u8 R.mcr) := cell_of_row wc _ 8 _ _ _ HQ.out.r2
          have p9 : wc.cell? ⟨g2, 9, none⟩ = some (.int .u8 R.scr) := cell_of_row wc _ 9 _ _ _ HQ.out.r2
          have p10 : wc.cell? ⟨g2, 10, none⟩ = some (.bool R.ov) := cell_of_row wc _ 10 _ _ _ HQ.out.r2
          have p11 : wc.cell? ⟨g2, 11, none⟩ = some (.slice y2 R.inp.length z2) := cell_of_row wc _ 11 _ _ _ HQ.out.r2
          have p12 : wc.cell? ⟨g2, 12, none⟩ = some (.slice y3 R.out.length z3) := cell_of_row wc _ 12 _ _ _ HQ.out.r2
          have p13 : wc.cell? ⟨g2, 13, none⟩ = some (.int .i64 R.off) := cell_of_row wc _ 13 _ _ _ HQ.out.r2
          have p14 : wc.cell? ⟨g2, 14, none⟩ = some (.int .i64 R.code) := cell_of_row wc _ 14 _ _ _ HQ.out.r2
          by_cases hk1 : x.k = 1
          · have hb1 : (x.k == 1) = true := by simp [hk1]
            clear hk1
            have HLD : Hid (Calls Try.prog 17 #[.pointer (some ⟨b, 0, none⟩), .int .u64 x.a, .int .i64 x.n] wc fun e w' => e = .returned (.tuple #[.int .u64 (R.ld x.a x.n).1.1, .bool (R.ld x.a x.n).1.2]) ∧ ∃ L3, Qaf w1.heap.size w1 b g1 g2 #[.int .i64 x.k, .int .u64 x.a, .int .i64 x.n, .int .u64 x.v, .slice x.ab x.b.length x.cb, .bool x.t, .bool x.e, .bool x.s, .slice x.ai x.i.length x.ci] L3 (R.ld x.a x.n).2 R (.slice y1 R.ram.length z1) (.slice y2 R.inp.length z2) (.slice y3 R.out.length z3) w') := by
              have q := Load_c wc HQ.out.q.p HQ.out.q.s.n.1 x.a x.n HX.out.a HX.out.n HQ.out.q.s.st HQ.out.q.s.n.2.2.1
              rw [HQ.out.q.e] at q
              exact q.mono (fun e w' ⟨he, L3, hs⟩ => ⟨he, L3, HQ.out.call hs (HQ.out.q.s.ld x.a x.n)⟩)
            rcases ld_cases R x.a x.n with ⟨ha, ht, y, ys, hi, hv, hT⟩ | ⟨ha, ht, hT⟩ | ⟨hT, hA, hB⟩
            · rw [hv, ht, hT] at HLD
              have hby : 0 ≤ y ∧ y ≤ 255 := HQ.out.q.s.st.i y (by rw [hi]; simp)
              have hil : R.inp.length = ys.length + 1 := by rw [hi]; rfl
              have hyl : ys.length ≤ 63 := by have := HQ.out.q.s.n.2.2.1; omega
              have he1 : (x.a == 268435456) = true := by simp [ha]
              have he5 : (x.a == 268435461) = false := by simp [ha]
              clear hv ht hT ha
              --@CUT3
              go_upto_region 17 with (go_at_call 17; refine HLD.out.mono ?_; rintro e5 w5 ⟨rfl, L3, hp5⟩; have HA5 : Hid (Qaf w1.heap.size w1 b g1 g2 #[.int .i64 x.k, .int .u64 x.a, .int .i64 x.n, .int .u64 x.v, .slice x.ab x.b.length x.cb, .bool x.t, .bool x.e, .bool x.s, .slice x.ai x.i.length x.ci] L3 { R with inp := ys } R (.slice y1 R.ram.length z1) (.slice y2 R.inp.length z2) (.slice y3 R.out.length z3) w5) := hp5; clear hp5)
              obtain ⟨a9, c9, e9, h91, h92, h93⟩ := HA5.out.bs.i
              injection e9 with e91 e92 e93
              obtain ⟨g9, o9, ea9, _, _⟩ := h93 (by rw [hi]; simp)
              rw [ea9] at e91
              clear h93 h92 ea9 e92
              subst e91 e93
              rw [hil] at h91
              have h99 : ys.length + 1 ≤ z2 := h91
              have HA6 : Hid (Qaf w1.heap.size w1 b g1 g2 #[.int .i64 x.k, .int .u64 x.a, .int .i64 x.n, .int .u64 x.v, .slice x.ab x.b.length x.cb, .bool x.t, .bool x.e, .bool x.s, .slice x.ai x.i.length x.ci] L3 { R with inp := ys } R (.slice y1 R.ram.length z1) (.slice (some ⟨g9, o9, none⟩) (ys.length + 1) z2) (.slice y3 R.out.length z3) w5) := by have h := HA5.out; rw [hil] at h; exact h
              have d1 : w5.cell? ⟨g1, 1, none⟩ = some (.int .u64 x.a) := cell_of_row w5 _ 1 _ _ _ HA6.out.r1
              have d11 : w5.cell? ⟨g2, 11, none⟩ = some (.slice (some ⟨g9, o9, none⟩) (ys.length + 1) z2) := cell_of_row w5 _ 11 _ _ _ HA6.out.r2
              have dt : w5.cell? ⟨g9, o9, none⟩ = some (.int .u8 y) := HA6.out.top hi
              have df : w5.frozen? ⟨g2, 11, none⟩ = false := frozen_of_row w5 _ 11 _ _ HA6.out.r2
              have dne : ∀ v, (w5.setCell ⟨g2, 11, none⟩ v).cell? ⟨g1, 1, none⟩ = some (.int .u64 x.a) := fun v => by rw [World.cell?_setCell_other _ _ _ _ (fun e => by have := HQ.out.lt; injection e with e1; omega)]; exact d1
              have hyy : (y != y) = false := by simp
              have hgt : (0 : Int) < ((ys.length + 1 : Nat) : Int) := by omega
              have HQF : Hid _ := HA6.out.pop hi
              clear HA5 HLD h91 q0 q1 q2 q3 q4 q5 q6 q7 q8 p0 p1 p2 p3 p4 p5 p6 p7 p8 p9 p10 p11 p12 p13 p14
              --@CUT4
              go_upto_region 21 with fail
              generalize (if z2 = 1 then some (⟨g9, o9, none⟩ : Addr) else some ⟨g9, o9 + 1, none⟩) = ad9 at HQF ⊢
              go_wp2
              go_meet
              exact ⟨_, _, _, _, _, HQF.out⟩
            · rw [ht, hT] at HLD
              have he1 : (x.a == 268435456) = false := by simp [ha]
              have he5 : (x.a == 268435461) = true := by simp [ha]
              clear ht hT ha
              generalize (R.ld x.a x.n).1.1 = lv at HLD
              go_upto_region 17 with (go_at_call 17; refine HLD.out.mono ?_; rintro e5 w5 ⟨rfl, L3, hp5⟩; have HA5 : Hid (Qaf w1.heap.size w1 b g1 g2 #[.int .i64 x.k, .int .u64 x.a, .int .i64 x.n, .int .u64 x.v, .slice x.ab x.b.length x.cb, .bool x.t, .bool x.e, .bool x.s, .slice x.ai x.i.length x.ci] L3 { R with ov := false } R (.slice y1 R.ram.length z1) (.slice y2 R.inp.length z2) (.slice y3 R.out.length z3) w5) := hp5; clear hp5)
              have d1 : w5.cell? ⟨g1, 1, none⟩ = some (.int .u64 x.a) := cell_of_row w5 _ 1 _ _ _ HA5.out.r1
              have d10 : w5.cell? ⟨g2, 10, none⟩ = some (.bool R.ov) := cell_of_row w5 _ 10 _ _ _ HA5.out.r2
              have df : w5.frozen? ⟨g2, 10, none⟩ = false := frozen_of_row w5 _ 10 _ _ HA5.out.r2
              have HQF : Hid _ := HA5.out.ov
              clear HLD q0 q1 q2 q3 q4 q5 q6 q7 q8 p0 p1 p2 p3 p4 p5 p6 p7 p8 p9 p10 p11 p12 p13 p14
              go_wp2
              go_meet
              exact ⟨_, _, _, _, _, HQF.out⟩
            · rw [hT] at HLD
              clear hT
              generalize (R.ld x.a x.n).1.1 = lv at HLD
              generalize (R.ld x.a x.n).1.2 = lt at HLD hA hB
              go_upto_region 17 with (go_at_call 17; refine HLD.out.mono ?_; rintro e5 w5 ⟨rfl, L3, hp5⟩; have HA5 : Hid (Qaf w1.heap.size w1 b g1 g2 #[.int .i64 x.k, .int .u64 x.a, .int .i64 x.n, .int .u64 x.v, .slice x.ab x.b.length x.cb, .bool x.t, .bool x.e, .bool x.s, .slice x.ai x.i.length x.ci] L3 R R (.slice y1 R.ram.length z1) (.slice y2 R.inp.length z2) (.slice y3 R.out.length z3) w5) := hp5; clear hp5)
              have d1 : w5.cell? ⟨g1, 1, none⟩ = some (.int .u64 x.a) := cell_of_row w5 _ 1 _ _ _ HA5.out.r1
              have d11 : w5.cell? ⟨g2, 11, none⟩ = some (.slice y2 R.inp.length z2) := cell_of_row w5 _ 11 _ _ _ HA5.out.r2
              have HQF : Hid _ := HA5.out.quo
              clear HLD q0 q1 q2 q3 q4 q5 q6 q7 q8 p0 p1 p2 p3 p4 p5 p6 p7 p8 p9 p10 p11 p12 p13 p14
              cases lt with
              | false =>
                go_wp2
                go_meet
                exact ⟨_, _, _, _, _, HQF.out⟩
              | true =>
                have he5 : (x.a == 268435461) = false := by simpa using hB rfl
                by_cases ha : x.a = 268435456
                · have he1 : (x.a == 268435456) = true := by simp [ha]
                  have hi := hA rfl ha
                  have hil : (R.inp.length : Int) = 0 := by rw [hi]; rfl
                  have hgt : ¬ (0 : Int) < (R.inp.length : Int) := by omega
                  clear hA hB ha hi
                  go_wp2
                  go_meet
                  exact ⟨_, _, _, _, _, HQF.out⟩
                · have he1 : (x.a == 268435456) = false := by simp [ha]
                  clear hA hB ha
                  go_wp2
                  go_meet
                  exact ⟨_, _, _, _, _, HQF.out⟩
          · have hb1 : (x.k == 1) = false := by simp [hk1]
            by_cases hk2 : x.k = 2
            · have hb2 : (x.k == 2) = true := by simp [hk2]
              obtain ⟨bx, hxv⟩ := n64_of (WalkArith.wf_u64 HX.out.v)
              obtain ⟨T5, hT5⟩ : ∃ T5, T5 = (R.sto2 x.a x.n x.v).2 := ⟨_, rfl⟩
              have HSD : Hid (Calls Try.prog 19 #[.pointer (some ⟨b, 0, none⟩), .int .u64 x.a, .int .i64 x.n, .int .u64 x.v] wc fun e w' => ∃ bb, e = .returned (.bool bb) ∧ ∃ L3, Qaf w1.heap.size w1 b g1 g2 #[.int .i64 x.k, .int .u64 x.a, .int .i64 x.n, .int .u64 x.v, .slice x.ab x.b.length x.cb, .bool x.t, .bool x.e, .bool x.s, .slice x.ai x.i.length x.ci] L3 T5 R (.slice y1 R.ram.length z1) (.slice y2 R.inp.length z2) (.slice y3 R.out.length z3) w') := by
                have q := Store_c wc HQ.out.q.p HQ.out.q.s.n.1 x.a x.n HX.out.a HX.out.n HQ.out.q.s.st bx
                rw [HQ.out.q.e, ← hxv, ← hT5] at q
                exact q.mono (fun e w' ⟨he, L3, hs⟩ => ⟨_, he, L3, HQ.out.call hs (by rw [hT5]; exact HQ.out.q.s.sto2 x.a x.n x.v HX.out.v)⟩)
              clear hT5 hxv hk1 hk2
              have HST5 : Hid (∀ L3 w5, Qaf w1.heap.size w1 b g1 g2 #[.int .i64 x.k, .int .u64 x.a, .int .i64 x.n, .int .u64 x.v, .slice x.ab x.b.length x.cb, .bool x.t, .bool x.e, .bool x.s, .slice x.ai x.i.length x.ci] L3 T5 R (.slice y1 R.ram.length z1) (.slice y2 R.inp.length z2) (.slice y3 R.out.length z3) w5 → Calls Try.prog 11 #[.pointer (some ⟨b, 0, none⟩)] w5 fun e w' => ∃ ur ui uo, e = .returned (.agg (stc T5 ur ui uo)) ∧ Sv w5.heap.size T5 ur ui uo w' ∧ Below w5.heap.size w5 w') := fun L3 w5 h => by
                have hn := h.q.s.n
                have q := state_c w5 h.q.p (by omega) (by omega) (by omega)
                rw [h.q.e] at q
                exact q
              --@CUT5
              go_upto_region 25 with (go_at_call 19; refine HSD.out.mono ?_; rintro e5 w5 ⟨bb, rfl, L3, hp5⟩; have HA5 : Hid (Qaf w1.heap.size w1 b g1 g2 #[.int .i64 x.k, .int .u64 x.a, .int .i64 x.n, .int .u64 x.v, .slice x.ab x.b.length x.cb, .bool x.t, .bool x.e, .bool x.s, .slice x.ai x.i.length x.ci] L3 T5 R (.slice y1 R.ram.length z1) (.slice y2 R.inp.length z2) (.slice y3 R.out.length z3) w5) := hp5; clear hp5)
              clear HSD q0 q1 q2 q3 q4 q5 q6 q7 q8 p0 p1 p2 p3 p4 p5 p6 p7 p8 p9 p10 p11 p12 p13 p14
              go_wp2_with (first | (go_at_call 11; refine (HST5.out _ _ HA5.out).mono ?_; rintro e6 w6 ⟨ur6, ui6, uo6, rfl, hsv6, hb6⟩; obtain ⟨a61, a62, a63, a64, a65, a66, rfl, rfl, rfl⟩ := hsv6.bs.forms; have HSV6 : Hid _ := hsv6; have HB6 : Hid _ := hb6; have HROW : Hid _ := (hb6.block _ (Array.getElem?_eq_some_iff.1 HA5.out.r2).1).trans HA5.out.r2; clear hsv6 hb6; unfold stc) | (refine wpList_store_row (by rfl) 26 _ _ (by rfl) g2 #[.slice a61 T5.ram.length a62, .int .u32 T5.msip, .int .u64 T5.cmp, .int .u64 T5.time, .bool T5.ext, .bool T5.soft, .int .u8 T5.ier, .int .u8 T5.lcr, .int .u8 T5.mcr, .int .u8 T5.scr, .bool T5.ov, .slice a63 T5.inp.length a64, .slice a65 T5.out.length a66, .int .i64 T5.off, .int .i64 T5.code] (by rfl) (by rfl) 26 _ HROW.out stSize (by rfl) (stOne T5) ?_))
              go_meet
              exact ⟨_, _, _, _, _, HA5.out.again HSV6.out HB6.out⟩
            · have hb2 : (x.k == 2) = false := by simp [hk2]
              by_cases hk3 : x.k = 3
              · have hb3 : (x.k == 3) = true := by simp [hk3]
                obtain ⟨T5, hT5⟩ : ∃ T5, T5 = R.beg x.t x.e x.s x.i := ⟨_, rfl⟩
                have HWD : Hid (Calls Try.prog 16 #[.agg #[.bool x.t, .bool x.e, .bool x.s, .slice x.ai x.i.length x.ci]] wc fun e' w' => ∃ a9 n9 c9, e' = .returned (.agg #[.bool x.t, .bool x.e, .bool x.s, .slice a9 n9 c9]) ∧ w'.ownsRow wc.heap.size 5 1 (.slice a9 n9 c9) x.i.length (bv x.i) ∧ Below wc.heap.size wc w') := world_c x.t x.e x.s _ x.i wc (HX.out.i.later HQ.out.q.be rfl) HX.out.il
                have HBG : Hid (∀ v w4, Below wc.heap.size wc w4 → w4.ownsRow wc.heap.size 5 1 v x.i.length (bv x.i) → Calls Try.prog 15 #[.pointer (some ⟨b, 0, none⟩), .agg #[.bool x.t, .bool x.e, .bool x.s, v]] w4 fun e w' => e = .returned (.tuple #[]) ∧ ∃ L3, Qaf w1.heap.size w1 b g1 g2 #[.int .i64 x.k, .int .u64 x.a, .int .i64 x.n, .int .u64 x.v, .slice x.ab x.b.length x.cb, .bool x.t, .bool x.e, .bool x.s, .slice x.ai x.i.length x.ci] L3 T5 R (.slice y1 R.ram.length z1) (.slice y2 R.inp.length z2) (.slice y3 R.out.length z3) w') := fun v w4 hb4 ho4 => by
                  have h4 := HQ.out.later hb4
                  have q := Begin_c w4 h4.q.p x.t x.e x.s v x.i (Byt.of_own ho4) HX.out.il h4.q.s.n.2.2.1 (fun g off n c e k => by
                    have z1 := (own_byt_ge ho4 g off n c e).1
                    have z2 := HQ.out.q.p.own_hi g k
                    omega)
                  rw [h4.q.e, ← hT5] at q
                  exact q.mono (fun e w' ⟨he, L3, hs⟩ => ⟨he, L3, h4.call hs (by rw [hT5]; exact h4.q.s.beg x.t x.e x.s x.i HX.out.ia)⟩)
                clear hT5 hk1 hk2 hk3
                have HST5 : Hid (∀ L3 w5, Qaf w1.heap.size w1 b g1 g2 #[.int .i64 x.k, .int .u64 x.a, .int .i64 x.n, .int .u64 x.v, .slice x.ab x.b.length x.cb, .bool x.t, .bool x.e, .bool x.s, .slice x.ai x.i.length x.ci] L3 T5 R (.slice y1 R.ram.length z1) (.slice y2 R.inp.length z2) (.slice y3 R.out.length z3) w5 → Calls Try.prog 11 #[.pointer (some ⟨b, 0, none⟩)] w5 fun e w' => ∃ ur ui uo, e = .returned (.agg (stc T5 ur ui uo)) ∧ Sv w5.heap.size T5 ur ui uo w' ∧ Below w5.heap.size w5 w') := fun L3 w5 h => by
                  have hn := h.q.s.n
                  have q := state_c w5 h.q.p (by omega) (by omega) (by omega)
                  rw [h.q.e] at q
                  exact q
                go_upto_region 28 with (first | (go_at_call 16; refine HWD.out.mono ?_; rintro e4 w4 ⟨a9, n9, c9, rfl, hown9, hb4⟩; have HO9 : Hid _ := hown9; have HB4 : Hid _ := hb4; clear hown9 hb4) | (go_at_call 15; refine (HBG.out _ _ HB4.out HO9.out).mono ?_; rintro e5 w5 ⟨rfl, L3, hp5⟩; have HA5 : Hid (Qaf w1.heap.size w1 b g1 g2 #[.int .i64 x.k, .int .u64 x.a, .int .i64 x.n, .int .u64 x.v, .slice x.ab x.b.length x.cb, .bool x.t, .bool x.e, .bool x.s, .slice x.ai x.i.length x.ci] L3 T5 R (.slice y1 R.ram.length z1) (.slice y2 R.inp.length z2) (.slice y3 R.out.length z3) w5) := hp5; clear hp5))
                clear HWD HBG q0 q1 q2 q3 q4 q5 q6 q7 q8 p0 p1 p2 p3 p4 p5 p6 p7 p8 p9 p10 p11 p12 p13 p14
                go_wp2_with (first | (go_at_call 11; refine (HST5.out _ _ HA5.out).mono ?_; rintro e6 w6 ⟨ur6, ui6, uo6, rfl, hsv6, hb6⟩; obtain ⟨a61, a62, a63, a64, a65, a66, rfl, rfl, rfl⟩ := hsv6.bs.forms; have HSV6 : Hid _ := hsv6; have HB6 : Hid _ := hb6; have HROW : Hid _ := (hb6.block _ (Array.getElem?_eq_some_iff.1 HA5.out.r2).1).trans HA5.out.r2; clear hsv6 hb6; unfold stc) | (refine wpList_store_row (by rfl) 26 _ _ (by rfl) g2 #[.slice a61 T5.ram.length a62, .int .u32 T5.msip, .int .u64 T5.cmp, .int .u64 T5.time, .bool T5.ext, .bool T5.soft, .int .u8 T5.ier, .int .u8 T5.lcr, .int .u8 T5.mcr, .int .u8 T5.scr, .bool T5.ov, .slice a63 T5.inp.length a64, .slice a65 T5.out.length a66, .int .i64 T5.off, .int .i64 T5.code] (by rfl) (by rfl) 26 _ HROW.out stSize (by rfl) (stOne T5) ?_))
                go_meet
                exact ⟨_, _, _, _, _, HA5.out.again HSV6.out HB6.out⟩
              · have hb3 : (x.k == 3) = false := by simp [hk3]
                by_cases hk7 : x.k = 7
                · have hb7 : (x.k == 7) = true := by simp [hk7]
                  obtain ⟨T5, hT5⟩ : ∃ T5, T5 = R.pok x.a x.b := ⟨_, rfl⟩
                  have HPK : Hid (∀ v w4, Below wc.heap.size wc w4 → Byt w4 v x.b → Calls Try.prog 20 #[.pointer (some ⟨b, 0, none⟩), .int .u64 x.a, v] w4 fun e w' => ∃ pe, e = .returned (.int .i64 pe) ∧ ∃ L3, Qaf w1.heap.size w1 b g1 g2 #[.int .i64 x.k, .int .u64 x.a, .int .i64 x.n, .int .u64 x.v, .slice x.ab x.b.length x.cb, .bool x.t, .bool x.e, .bool x.s, .slice x.ai x.i.length x.ci] L3 T5 R (.slice y1 R.ram.length z1) (.slice y2 R.inp.length z2) (.slice y3 R.out.length z3) w') := fun v w4 hb4 hv4 => by
                    have h4 := HQ.out.later hb4
                    have q := Poke_c w4 h4.q.p h4.q.s.n.1 x.a HX.out.a v x.b hv4 HX.out.bl
                    rw [h4.q.e, ← hT5] at q
                    exact q.mono (fun e w' ⟨he, L3, hs⟩ => ⟨_, he, L3, h4.call hs (by rw [hT5]; exact h4.q.s.pok x.a x.b HX.out.ba)⟩)
                  clear hT5 hk1 hk2 hk3 hk7
                  have HST5 : Hid (∀ L3 w5, Qaf w1.heap.size w1 b g1 g2 #[.int .i64 x.k, .int .u64 x.a, .int .i64 x.n, .int .u64 x.v, .slice x.ab x.b.length x.cb, .bool x.t, .bool x.e, .bool x.s, .slice x.ai x.i.length x.ci] L3 T5 R (.slice y1 R.ram.length z1) (.slice y2 R.inp.length z2) (.slice y3 R.out.length z3) w5 → Calls Try.prog 11 #[.pointer (some ⟨b, 0, none⟩)] w5 fun e w' => ∃ ur ui uo, e = .returned (.agg (stc T5 ur ui uo)) ∧ Sv w5.heap.size T5 ur ui uo w' ∧ Below w5.heap.size w5 w') := fun L3 w5 h => by
                    have hn := h.q.s.n
                    have q := state_c w5 h.q.p (by omega) (by omega) (by omega)
                    rw [h.q.e] at q
                    exact q
                  --@CUT6
                  have HBB : Hid (∀ w9, Below wc.heap.size wc w9 → Byt w9 (.slice x.ab x.b.length x.cb) x.b) := fun w9 hb => HX.out.b.later (HQ.out.q.be.trans (hb.mono HQ.out.q.le)) rfl
                  have HBL : Hid (x.b.length ≤ 140737488355328) := by unfold Hid; have := HX.out.bl; omega
                  have HQC : Hid (∀ w', Below wc.heap.size wc w' → w'.cell? ⟨g1, 1, none⟩ = some (.int .u64 x.a) ∧ w'.cell? ⟨g1, 4, none⟩ = some (.slice x.ab x.b.length x.cb)) := fun w' hb => ⟨cell_of_row w' _ 1 _ _ _ (HQ.out.later hb).r1, cell_of_row w' _ 4 _ _ _ (HQ.out.later hb).r1⟩
                  have HQC5 : Hid (∀ L3 w', Qaf w1.heap.size w1 b g1 g2 #[.int .i64 x.k, .int .u64 x.a, .int .i64 x.n, .int .u64 x.v, .slice x.ab x.b.length x.cb, .bool x.t, .bool x.e, .bool x.s, .slice x.ai x.i.length x.ci] L3 T5 R (.slice y1 R.ram.length z1) (.slice y2 R.inp.length z2) (.slice y3 R.out.length z3) w' → w'.cell? ⟨g1, 1, none⟩ = some (.int .u64 x.a) ∧ w'.cell? ⟨g1, 4, none⟩ = some (.slice x.ab x.b.length x.cb)) := fun L3 w' h => ⟨cell_of_row w' _ 1 _ _ _ h.r1, cell_of_row w' _ 4 _ _ _ h.r1⟩
                  go_upto_region 30 with fail
                  --@CUT6B
                  go_region_held3 (fun w' => w'.cell? ⟨g1, 1, none⟩ = some (.int .u64 x.a) ∧ w'.cell? ⟨g1, 4, none⟩ = some (.slice x.ab x.b.length x.cb)) (first | exact HQC.out _ (Below.refl _ _) | exact HQC.out _ (Below.drew (Below.refl _ _)) | exact hqc5 | exact hqc4)
                    (first | (go_at_call 20; refine (HPK.out _ w4 HB4.out HBY4.out).mono ?_; rintro e5 w5 ⟨pe, rfl, L3, hp5⟩; have HA5 : Hid (Qaf w1.heap.size w1 b g1 g2 #[.int .i64 x.k, .int .u64 x.a, .int .i64 x.n, .int .u64 x.v, .slice x.ab x.b.length x.cb, .bool x.t, .bool x.e, .bool x.s, .slice x.ai x.i.length x.ci] L3 T5 R (.slice y1 R.ram.length z1) (.slice y2 R.inp.length z2) (.slice y3 R.out.length z3) w5) := hp5; have hqc5 := HQC5.out L3 w5 hp5; clear hp5) | (refine step_appN rfl _ _ rfl _ x.b (by simp [Act.eval]) (by simp [Act.eval]) (HBB.out _ (Below.drew (Below.refl _ _))) HBL.out ?_; intro v4 w4 hown4 hb4; have HBY4 : Hid (Byt w4 v4 x.b) := Byt.of_own hown4; have HB4 : Hid (Below wc.heap.size wc w4) := undrew hb4; have hqc4 := HQC.out w4 HB4.out; clear hown4 hb4))
                  clear HPK HBB HBL HQC HQC5 q0 q1 q2 q3 q4 q5 q6 q7 q8 p0 p1 p2 p3 p4 p5 p6 p7 p8 p9 p10 p11 p12 p13 p14
                  go_wp2_with (first | (go_at_call 11; refine (HST5.out _ _ HA5.out).mono ?_; rintro e6 w6 ⟨ur6, ui6, uo6, rfl, hsv6, hb6⟩; obtain ⟨a61, a62, a63, a64, a65, a66, rfl, rfl, rfl⟩ := hsv6.bs.forms; have HSV6 : Hid _ := hsv6; have HB6 : Hid _ := hb6; have HROW : Hid _ := (hb6.block _ (Array.getElem?_eq_some_iff.1 HA5.out.r2).1).trans HA5.out.r2; clear hsv6 hb6; unfold stc) | (refine wpList_store_row (by rfl) 26 _ _ (by rfl) g2 #[.slice a61 T5.ram.length a62, .int .u32 T5.msip, .int .u64 T5.cmp, .int .u64 T5.time, .bool T5.ext, .bool T5.soft, .int .u8 T5.ier, .int .u8 T5.lcr, .int .u8 T5.mcr, .int .u8 T5.scr, .bool T5.ov, .slice a63 T5.inp.length a64, .slice a65 T5.out.length a66, .int .i64 T5.off, .int .i64 T5.code] (by rfl) (by rfl) 26 _ HROW.out stSize (by rfl) (stOne T5) ?_))
                  go_meet
                  exact ⟨_, _, _, _, _, HA5.out.again HSV6.out HB6.out⟩
                · have hb7 : (x.k == 7) = false := by simp [hk7]
                  clear hk1 hk2 hk3 hk7
                  --@CUT7
                  have hR := HQ.out.q.s.n
                  have HCP : Hid (Calls Try.prog 21 #[.agg #[.slice y1 R.ram.length z1, .int .u32 R.msip, .int .u64 R.cmp, .int .u64 R.time, .bool R.ext, .bool R.soft, .int .u8 R.ier, .int .u8 R.lcr, .int .u8 R.mcr, .int .u8 R.scr, .bool R.ov, .slice y2 R.inp.length z2, .slice y3 R.out.length z3, .int .i64 R.off, .int .i64 R.code]] wc fun e w' => ∃ ur ui uo, e = .returned (.agg (stc R ur ui uo)) ∧ Sv wc.heap.size R ur ui uo w' ∧ Below wc.heap.size wc w') := copied_c R y1 y2 y3 z1 z2 z3 wc HQ.out.sv.bs.r HQ.out.sv.bs.i HQ.out.sv.bs.o (by omega) (by omega) (by omega)
                  clear hR
                  go_upto_region 14 with (go_at_call 21; refine HCP.out.mono ?_; rintro e w3 ⟨ur, ui, uo, rfl, hsv, hb3⟩; obtain ⟨v1, t1, v2, t2, v3, t3, rfl, rfl, rfl⟩ := hsv.bs.forms; have HSV3 : Hid _ := hsv; have HB3 : Hid _ := hb3; unfold stc; clear hsv hb3)
                  --@CUT7B
                  have HAS : Hid _ := quiet_asks (w0 := w1) (w2 := wc) (x := x) HQ.out.q.p HQ.out.q.s HQ.out.q.le HX.out (Nat.le_refl _) (Below.refl _ _) HSV3.out HB3.out
                  rw [HQ.out.q.e] at HAS
                  obtain ⟨W4, hW4⟩ : ∃ W4, (w3.alloc (.cells #[.slice v1 R.ram.length t1, .int .u32 R.msip, .int .u64 R.cmp, .int .u64 R.time, .bool R.ext, .bool R.soft, .int .u8 R.ier, .int .u8 R.lcr, .int .u8 R.mcr, .int .u8 R.scr, .bool R.ov, .slice v2 R.inp.length t2, .slice v3 R.out.length t3, .int .i64 R.off, .int .i64 R.code] 56)).alloc (.cells #[.pointer (some ⟨b, 0, none⟩), .pointer (some ⟨w3.heap.size, 0, none⟩)] 58) = W4 := ⟨_, rfl⟩
                  have HAS2 : Hid (Calls Try.prog 22 #[.agg #[.pointer (some ⟨b, 0, none⟩), .pointer (some ⟨w3.heap.size, 0, none⟩)], .agg #[.int .i64 x.k, .int .u64 x.a, .int .i64 x.n, .int .u64 x.v, .slice x.ab x.b.length x.cb, .bool x.t, .bool x.e, .bool x.s, .slice x.ai x.i.length x.ci]] W4 fun e w' => e = .returned (.bool true) ∧ Below w3.heap.size w3 w') := by rw [← hW4]; exact HAS.out
                  have a4 : Below w3.heap.size w3 W4 := by rw [← hW4]; exact below2 w3 _ _
                  have k3 : W4.heap[w3.heap.size + 1]? = some (.cells #[.pointer (some ⟨b, 0, none⟩), .pointer (some ⟨w3.heap.size, 0, none⟩)] 58 (0, 0)) := by
                    rw [← hW4]
                    have := heap_alloc_new (w3.alloc (.cells #[.slice v1 R.ram.length t1, .int .u32 R.msip, .int .u64 R.cmp, .int .u64 R.time, .bool R.ext, .bool R.soft, .int .u8 R.ier, .int .u8 R.lcr, .int .u8 R.mcr, .int .u8 R.scr, .bool R.ov, .slice v2 R.inp.length t2, .slice v3 R.out.length t3, .int .i64 R.off, .int .i64 R.code] 56)) (.cells #[.pointer (some ⟨b, 0, none⟩), .pointer (some ⟨w3.heap.size, 0, none⟩)] 58)
                    simpa using this
                  have k1 := (HQ.out.later (HB3.out.trans (a4.mono HB3.out.size))).r1
                  have HQ3 : Hid (Qur w1.heap.size w1 b g1 g2 #[.int .i64 x.k, .int .u64 x.a, .int .i64 x.n, .int .u64 x.v, .slice x.ab x.b.length x.cb, .bool x.t, .bool x.e, .bool x.s, .slice x.ai x.i.length x.ci] L2 R (.slice y1 R.ram.length z1) (.slice y2 R.inp.length z2) (.slice y3 R.out.length z3) w3) := HQ.out.later HB3.out
                  rw [hW4]
                  clear q0 q1 q2 q3 q4 q5 q6 q7 q8 p0 p1 p2 p3 p4 p5 p6 p7 p8 p9 p10 p11 p12 p13 p14
                  have q0 : W4.cell? ⟨g1, 0, none⟩ = some (.int .i64 x.k) := cell_of_row W4 _ 0 _ _ _ k1
                  have q1 : W4.cell? ⟨g1, 1, none⟩ = some (.int .u64 x.a) := cell_of_row W4 _ 1 _ _ _ k1
                  have q2 : W4.cell? ⟨g1, 2, none⟩ = some (.int .i64 x.n) := cell_of_row W4 _ 2 _ _ _ k1
                  have q3 : W4.cell? ⟨g1, 3, none⟩ = some (.int .u64 x.v) := cell_of_row W4 _ 3 _ _ _ k1
                  have q4 : W4.cell? ⟨g1, 4, none⟩ = some (.slice x.ab x.b.length x.cb) := cell_of_row W4 _ 4 _ _ _ k1
                  have q5 : W4.cell? ⟨g1, 5, none⟩ = some (.bool x.t) := cell_of_row W4 _ 5 _ _ _ k1
                  have q6 : W4.cell? ⟨g1, 6, none⟩ = some (.bool x.e) := cell_of_row W4 _ 6 _ _ _ k1
                  have q7 : W4.cell? ⟨g1, 7, none⟩ = some (.bool x.s) := cell_of_row W4 _ 7 _ _ _ k1
                  have q8 : W4.cell? ⟨g1, 8, none⟩ = some (.slice x.ai x.i.length x.ci) := cell_of_row W4 _ 8 _ _ _ k1
                  have d0 : W4.cell? ⟨w3.heap.size + 1, 0, none⟩ = some (.pointer (some ⟨b, 0, none⟩)) := cell_of_row W4 _ 0 _ _ _ k3
                  have d1 : W4.cell? ⟨w3.heap.size + 1, 1, none⟩ = some (.pointer (some ⟨w3.heap.size, 0, none⟩)) := cell_of_row W4 _ 1 _ _ _ k3
                  clear k1 k3 hW4 HCP HAS HSV3 HB3 a4
                  go_wp2_with (go_at_call 22; refine HAS2.out.mono ?_; rintro e w5 ⟨rfl, hb5⟩; have HQ5 : Hid (Qur w1.heap.size w1 b g1 g2 #[.int .i64 x.k, .int .u64 x.a, .int .i64 x.n, .int .u64 x.v, .slice x.ab x.b.length x.cb, .bool x.t, .bool x.e, .bool x.s, .slice x.ai x.i.length x.ci] L2 R (.slice y1 R.ram.length z1) (.slice y2 R.inp.length z2) (.slice y3 R.out.length z3) w5) := HQ3.out.later hb5; clear hb5)
                  go_meet
                  exact ⟨_, _, _, _, _, HQ5.out.quo⟩
        case rest =>
          obtain ⟨L3, T, vr, vi, vo, hqo⟩ := hcut
          obtain ⟨y1, z1, y2, z2, y3, z3, rfl, rfl, rfl⟩ := hqo.bs.forms
          have hR := hqo.q.s.n
          clear HQ
          have HSP : Hid (∀ w9 : World, Below wc.heap.size wc w9 → Calls Try.prog 11 #[.pointer (some ⟨b, 0, none⟩)] w9 fun e w' => ∃ ur ui uo, e = .returned (.agg (stc T ur ui uo)) ∧ Bs T ur ui uo w' ∧ Below w9.heap.size w9 w') := fun w9 hb => by
            have q := state_c w9 (hqo.later hb).q.p (by omega) (by omega) (by omega)
            rw [hqo.q.e] at q
            exact q.mono fun e w' ⟨x, y, z, h1, h2, h3⟩ => ⟨x, y, z, h1, h2.bs, h3⟩
          have HSM : Hid (SameC T) := same_any T
          have HCJ : Hid (∀ w' : World, Below wc.heap.size wc w' → w'.cell? ⟨g2, 0, none⟩ = some (.slice y1 T.ram.length z1) ∧ w'.cell? ⟨g2, 1, none⟩ = some (.int .u32 T.msip) ∧ w'.cell? ⟨g2, 2, none⟩ = some (.int .u64 T.cmp) ∧ w'.cell? ⟨g2, 3, none⟩ = some (.int .u64 T.time) ∧ w'.cell? ⟨g2, 4, none⟩ = some (.bool T.ext) ∧ w'.cell? ⟨g2, 5, none⟩ = some (.bool T.soft) ∧ w'.cell? ⟨g2, 6, none⟩ = some (.int .u8 T.ier) ∧ w'.cell? ⟨g2, 7, none⟩ = some (.int .u8 T.lcr) ∧ w'.cell? ⟨g2, 8, none⟩ = some (.int .u8 T.mcr) ∧ w'.cell? ⟨g2, 9, none⟩ = some (.int .u8 T.scr) ∧ w'.cell? ⟨g2, 10, none⟩ = some (.bool T.ov) ∧ w'.cell? ⟨g2, 11, none⟩ = some (.slice y2 T.inp.length z2) ∧ w'.cell? ⟨g2, 12, none⟩ = some (.slice y3 T.out.length z3) ∧ w'.cell? ⟨g2, 13, none⟩ = some (.int .i64 T.off) ∧ w'.cell? ⟨g2, 14, none⟩ = some (.int .i64 T.code)) := fun w' hb => ⟨cell_of_row w' _ 0 _ _ _ (hqo.later hb).row, cell_of_row w' _ 1 _ _ _ (hqo.later hb).row, cell_of_row w' _ 2 _ _ _ (hqo.later hb).row, cell_of_row w' _ 3 _ _ _ (hqo.later hb).row, cell_of_row w' _ 4 _ _ _ (hqo.later hb).row, cell_of_row w' _ 5 _ _ _ (hqo.later hb).row, cell_of_row w' _ 6 _ _ _ (hqo.later hb).row, cell_of_row w' _ 7 _ _ _ (hqo.later hb).row, cell_of_row w' _ 8 _ _ _ (hqo.later hb).row, cell_of_row w' _ 9 _ _ _ (hqo.later hb).row, cell_of_row w' _ 10 _ _ _ (hqo.later hb).row, cell_of_row w' _ 11 _ _ _ (hqo.later hb).row, cell_of_row w' _ 12 _ _ _ (hqo.later hb).row, cell_of_row w' _ 13 _ _ _ (hqo.later hb).row, cell_of_row w' _ 14 _ _ _ (hqo.later hb).row⟩
          have HBS : Hid (∀ w' : World, Below wc.heap.size wc w' → Bs T (.slice y1 T.ram.length z1) (.slice y2 T.inp.length z2) (.slice y3 T.out.length z3) w') := fun w' hb => (hqo.later hb).bs
          have HQO : Hid (Pqu w1.heap.size w1 b L3 T wc) := hqo.q
          clear hR hqo
          --@CUT8
          go_upto_region 32 with fail
          go_region_held3 (fun w' => w'.cell? ⟨g2, 0, none⟩ = some (.slice y1 T.ram.length z1) ∧ w'.cell? ⟨g2, 1, none⟩ = some (.int .u32 T.msip) ∧ w'.cell? ⟨g2, 2, none⟩ = some (.int .u64 T.cmp) ∧ w'.cell? ⟨g2, 3, none⟩ = some (.int .u64 T.time) ∧ w'.cell? ⟨g2, 4, none⟩ = some (.bool T.ext) ∧ w'.cell? ⟨g2, 5, none⟩ = some (.bool T.soft) ∧ w'.cell? ⟨g2, 6, none⟩ = some (.int .u8 T.ier) ∧ w'.cell? ⟨g2, 7, none⟩ = some (.int .u8 T.lcr) ∧ w'.cell? ⟨g2, 8, none⟩ = some (.int .u8 T.mcr) ∧ w'.cell? ⟨g2, 9, none⟩ = some (.int .u8 T.scr) ∧ w'.cell? ⟨g2, 10, none⟩ = some (.bool T.ov) ∧ w'.cell? ⟨g2, 11, none⟩ = some (.slice y2 T.inp.length z2) ∧ w'.cell? ⟨g2, 12, none⟩ = some (.slice y3 T.out.length z3) ∧ w'.cell? ⟨g2, 13, none⟩ = some (.int .i64 T.off) ∧ w'.cell? ⟨g2, 14, none⟩ = some (.int .i64 T.code)) (first | exact HCJ.out _ (Below.refl _ _) | exact HCJ.out _ (Below.drew (Below.refl _ _)) | exact hcj2 | exact hcj1)
            (first | (go_at_call 11; refine (HSP.out _ ?_).mono ?_; exact Below.drew (Below.refl _ _); rintro e w8 ⟨a1, a2, a3, rfl, hby, hb1⟩; have HB8 : Hid (Below wc.heap.size wc w8) := undrew hb1; have hcj1 := HCJ.out w8 HB8.out; have HY1 : Hid (Bs T a1 a2 a3 w8) := hby; clear hb1 hby) | (go_at_call 14; refine (HSM.out a1 a2 a3 (.slice y1 T.ram.length z1) (.slice y2 T.inp.length z2) (.slice y3 T.out.length z3) w8 HY1.out (HBS.out w8 HB8.out)).mono ?_; rintro e w9 ⟨rfl, hb9⟩; have HB9 : Hid (Below wc.heap.size wc w9) := HB8.out.trans (hb9.mono HB8.out.size); have hcj2 := HCJ.out w9 HB9.out; clear hb9))
          all_goals go_wp2
          all_goals go_roundw
          all_goals first | exact ⟨j + 1, L3, T, by omega, by go_num, HQO.out.later HB9.out⟩ | (simp [intOf] <;> omega)
    · obtain rfl : j = O.length := by omega
      have hnl : ¬ (O.length : Int) < (O.length : Int) := by omega
      go_wp2
      go_ret
      exact ⟨rfl, HBA.out _ hst.out.be⟩
end Go.Proofs.Ytghiabdkgfhdbaa
