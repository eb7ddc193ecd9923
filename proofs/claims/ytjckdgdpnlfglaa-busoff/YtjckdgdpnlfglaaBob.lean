/-
  BusOff: the walk.
-/
import Derived.Test.YtjckdgdpnlfglaaBoa
import Derived.BigRegion
import Derived.BigQuiet
import Derived.Deep.QuietTactic
import Derived.Deep.CutRange
namespace Go.Proofs.Ytjckdgdpnlfglaa
set_option linter.unusedVariables false
open Go.ChangeShapes Go.WideShapes Go.ChangeAt Go.RowKit Go.Deep Go.MuLone
set_option maxRecDepth 100000 in
theorem busoff_no (S : St) (ar ai ao : Option Addr) (cr ci co : Nat) (w : World) (hs : Bs S (.slice ar S.ram.length cr) (.slice ai S.inp.length ci) (.slice ao S.out.length co) w) (lr : S.ram.length ≤ 140737488355328) (li : S.inp.length ≤ 140737488355328) (lo : S.out.length ≤ 140737488355328) (hok : S.ok = false) (vO : Value) :
    Calls Try.prog 7 #[.agg (stoc S (.slice ar S.ram.length cr) (.slice ai S.inp.length ci) (.slice ao S.out.length co) vO)] w fun e w' => e = .returned (.bool true) ∧ Below w.heap.size w w' := by
  have HCB : Hid (∀ w1, Calls Try.prog 9 #[.agg (stc S (.slice ar S.ram.length cr) (.slice ai S.inp.length ci) (.slice ao S.out.length co))] w1 fun e w' => e = .returned (.bool false) ∧ Below w1.heap.size w1 w') := fun w1 => by rw [← hok]; exact rcanBe_c S ar ai ao cr ci co w1
  clear hok hs lr li lo
  unfold stoc
  unfold stc at HCB ⊢
  go_enter Try.func7, Try.ntmps7
  go_wp2_with (go_at_call 9; refine (HCB.out _).mono ?_; rintro e w1 ⟨rfl, hb1⟩; have HB1 : Hid (Below w.heap.size w w1) := box_below hb1; clear hb1)
  go_ret
  exact ⟨rfl, HB1.out⟩
set_option maxRecDepth 100000 in
set_option maxHeartbeats 8000000 in
theorem busoff_z (S : St) (ar ai ao : Option Addr) (cr ci co : Nat) (w : World) (hs : Bs S (.slice ar S.ram.length cr) (.slice ai S.inp.length ci) (.slice ao S.out.length co) w) (lr : S.ram.length ≤ 140737488355328) (li : S.inp.length ≤ 140737488355328) (lo : S.out.length ≤ 140737488355328) (hok : S.ok = true) (hst : StW S) (aO : Option Addr) (cO : Nat) (O : List Cal) (hO : Cals w (.slice aO O.length cO) O) (hx : ∀ j, j < O.length → CalOk w (O.getD j cal0)) (hOl : O.length * 88 ≤ 140737488351232) (hoff : S.off = 0) :
    Calls Try.prog 7 #[.agg (stoc S (.slice ar S.ram.length cr) (.slice ai S.inp.length ci) (.slice ao S.out.length co) (.slice aO O.length cO))] w fun e w' => e = .returned (.bool true) ∧ Below w.heap.size w w' := by
  obtain ⟨W, hW⟩ : ∃ W, w.alloc (.cells (stoc S (.slice ar S.ram.length cr) (.slice ai S.inp.length ci) (.slice ao S.out.length co) (.slice aO O.length cO)) 29) = W := ⟨_, rfl⟩
  have hbW : Below w.heap.size w W := by rw [← hW]; exact below_al w _
  have hz : w.heap.size < W.heap.size := by rw [← hW]; simp
  have r1 : W.heap[w.heap.size]? = some (.cells (stoc S (.slice ar S.ram.length cr) (.slice ai S.inp.length ci) (.slice ao S.out.length co) (.slice aO O.length cO)) 29 (0, 0)) := by rw [← hW]; exact heap_alloc_new w _
  have h1 : Sok S := ⟨hok, hst⟩
  have hn := h1.n.1
  have hT : (S.fin 21845).off = 1 ∧ (S.fin 21845).code = 0 := by
    have hp := h1.pow
    rw [hoff] at hp
    unfold St.fin; rw [if_pos hoff, if_pos (by decide)]
    exact ⟨rfl, by simpa [powOk] using hp⟩
  have hd0 : (S.off == 0) = true := by simp [hoff]
  have hT1 : ((S.fin 21845).off != 1) = false := by rw [hT.1]; rfl
  have hT2 : ((S.fin 21845).code != 0) = false := by rw [hT.2]; rfl
  have hT0 : (S.fin 21845).off ≠ 0 := by rw [hT.1]; decide
  have HCB : Hid (Calls Try.prog 9 #[.agg (stc S (.slice ar S.ram.length cr) (.slice ai S.inp.length ci) (.slice ao S.out.length co))] W fun e w' => e = .returned (.bool true) ∧ Below W.heap.size W w') := by rw [← hok]; exact rcanBe_c S ar ai ao cr ci co W
  have HMD : Hid (∀ w1, Below W.heap.size W w1 → Calls Try.prog 10 #[.agg (stc S (.slice ar S.ram.length cr) (.slice ai S.inp.length ci) (.slice ao S.out.length co))] w1 fun e w' => ∃ L, e = .returned (.tuple #[.pointer (some ⟨Lay.b L, 0, none⟩), .bool true]) ∧ PB w1.heap.size L S w' ∧ Below w1.heap.size w1 w') := fun w1 hb => made_c S ar ai ao cr ci co w1 hok (hs.later (hbW.trans (hb.mono hbW.size))) lr li lo
  have HZ : Hid (∀ w', Below W.heap.size W w' → w'.cell? ⟨w.heap.size, 0, none⟩ = some (.slice ar S.ram.length cr) ∧ w'.cell? ⟨w.heap.size, 1, none⟩ = some (.int .u32 S.msip) ∧ w'.cell? ⟨w.heap.size, 2, none⟩ = some (.int .u64 S.cmp) ∧ w'.cell? ⟨w.heap.size, 3, none⟩ = some (.int .u64 S.time) ∧ w'.cell? ⟨w.heap.size, 4, none⟩ = some (.bool S.ext) ∧ w'.cell? ⟨w.heap.size, 5, none⟩ = some (.bool S.soft) ∧ w'.cell? ⟨w.heap.size, 6, none⟩ = some (.int .u8 S.ier) ∧ w'.cell? ⟨w.heap.size, 7, none⟩ = some (.int .u8 S.lcr) ∧ w'.cell? ⟨w.heap.size, 8, none⟩ = some (.int .u8 S.mcr) ∧ w'.cell? ⟨w.heap.size, 9, none⟩ = some (.int .u8 S.scr) ∧ w'.cell? ⟨w.heap.size, 10, none⟩ = some (.bool S.ov) ∧ w'.cell? ⟨w.heap.size, 11, none⟩ = some (.slice ai S.inp.length ci) ∧ w'.cell? ⟨w.heap.size, 12, none⟩ = some (.slice ao S.out.length co) ∧ w'.cell? ⟨w.heap.size, 13, none⟩ = some (.int .i64 S.off) ∧ w'.cell? ⟨w.heap.size, 14, none⟩ = some (.int .i64 S.code) ∧ w'.cell? ⟨w.heap.size, 15, none⟩ = some (.slice aO O.length cO)) := fun w' hb => ⟨(hb.cell hz).trans (cell_of_row W _ 0 _ _ _ r1), (hb.cell hz).trans (cell_of_row W _ 1 _ _ _ r1), (hb.cell hz).trans (cell_of_row W _ 2 _ _ _ r1), (hb.cell hz).trans (cell_of_row W _ 3 _ _ _ r1), (hb.cell hz).trans (cell_of_row W _ 4 _ _ _ r1), (hb.cell hz).trans (cell_of_row W _ 5 _ _ _ r1), (hb.cell hz).trans (cell_of_row W _ 6 _ _ _ r1), (hb.cell hz).trans (cell_of_row W _ 7 _ _ _ r1), (hb.cell hz).trans (cell_of_row W _ 8 _ _ _ r1), (hb.cell hz).trans (cell_of_row W _ 9 _ _ _ r1), (hb.cell hz).trans (cell_of_row W _ 10 _ _ _ r1), (hb.cell hz).trans (cell_of_row W _ 11 _ _ _ r1), (hb.cell hz).trans (cell_of_row W _ 12 _ _ _ r1), (hb.cell hz).trans (cell_of_row W _ 13 _ _ _ r1), (hb.cell hz).trans (cell_of_row W _ 14 _ _ _ r1), (hb.cell hz).trans (cell_of_row W _ 15 _ _ _ r1)⟩
  have HFS : Hid (∀ w1 L w2, PB w1.heap.size L S w2 → Below w1.heap.size w1 w2 → Calls Try.prog 19 #[.pointer (some ⟨L.b, 0, none⟩), .int .u64 1048576, .int .i64 4, .int .u64 21845] w2 fun e w' => e = .returned (.bool true) ∧ ∃ L', Pof w1.heap.size w1 L.b (S.fin 21845).off (S.fin 21845).code L' (S.fin 21845) w') := fun w1 L w2 hp hb => by
    have q := Store_c w2 hp hn 1048576 4 (by omega) (by omega) hst 21845#64
    rw [show n64 21845#64 = 21845 from rfl, sto2_fin S 21845 hn] at q
    refine q.mono ?_
    rintro e w' ⟨rfl, L', hs'⟩
    have hb2 := hb.trans (hs'.x.below hb.size (fun k hk => hp.own_lo k hk))
    exact ⟨rfl, L', hs'.p, hs'.b.1, h1.fin 21845, rfl, rfl, hb2, hb2.size⟩
  have HEL : Hid (∀ w1, Below W.heap.size W w1 → ∀ j, j < O.length → ∃ g off x, aO = some ⟨g, off, none⟩ ∧ CalOk w1 x ∧ ∀ w', Below w1.heap.size w1 w' → w'.cell? ⟨g, off + j * 9, none⟩ = some (.int .i64 x.k) ∧ w'.cell? ⟨g, off + j * 9 + 1, none⟩ = some (.int .u64 x.a) ∧ w'.cell? ⟨g, off + j * 9 + 2, none⟩ = some (.int .i64 x.n) ∧ w'.cell? ⟨g, off + j * 9 + 3, none⟩ = some (.int .u64 x.v) ∧ w'.cell? ⟨g, off + j * 9 + 4, none⟩ = some (.slice x.ab x.b.length x.cb) ∧ w'.cell? ⟨g, off + j * 9 + 5, none⟩ = some (.bool x.t) ∧ w'.cell? ⟨g, off + j * 9 + 6, none⟩ = some (.bool x.e) ∧ w'.cell? ⟨g, off + j * 9 + 7, none⟩ = some (.bool x.s) ∧ w'.cell? ⟨g, off + j * 9 + 8, none⟩ = some (.slice x.ai x.i.length x.ci)) := fun w1 hb1 j hj => by
    obtain ⟨a, cap, e, _, h2⟩ := hO
    cases e
    obtain ⟨g, off, ea, hg, hc⟩ := h2 (fun e => by rw [e] at hj; simp at hj)
    have hg2 := Nat.lt_of_lt_of_le hg hbW.size
    have hg3 := Nat.lt_of_lt_of_le hg2 hb1.size
    exact ⟨g, off, O.getD j cal0, ea, ((hx j hj).later hbW).later hb1, fun w' hb => ⟨((hb.cell hg3).trans ((hb1.cell hg2).trans (hbW.cell hg))).trans (hc j hj 0 (by decide)), ((hb.cell hg3).trans ((hb1.cell hg2).trans (hbW.cell hg))).trans (hc j hj 1 (by decide)), ((hb.cell hg3).trans ((hb1.cell hg2).trans (hbW.cell hg))).trans (hc j hj 2 (by decide)), ((hb.cell hg3).trans ((hb1.cell hg2).trans (hbW.cell hg))).trans (hc j hj 3 (by decide)), ((hb.cell hg3).trans ((hb1.cell hg2).trans (hbW.cell hg))).trans (hc j hj 4 (by decide)), ((hb.cell hg3).trans ((hb1.cell hg2).trans (hbW.cell hg))).trans (hc j hj 5 (by decide)), ((hb.cell hg3).trans ((hb1.cell hg2).trans (hbW.cell hg))).trans (hc j hj 6 (by decide)), ((hb.cell hg3).trans ((hb1.cell hg2).trans (hbW.cell hg))).trans (hc j hj 7 (by decide)), ((hb.cell hg3).trans ((hb1.cell hg2).trans (hbW.cell hg))).trans (hc j hj 8 (by decide))⟩⟩
  have HBW : Hid (Below w.heap.size w W) := hbW
  have hn62 : O.length ≤ 1599289640448 := by omega
  have HHT : Hid ((S.fin 21845).off ≠ 0) := hT0
  have hT4 : ((S.fin 21845).off == 0) = false := by simpa using hT0
  generalize (S.fin 21845).off = oo at HFS hT4 HHT hT1
  generalize (S.fin 21845).code = zz at HFS hT2
  generalize S.fin 21845 = TT at HFS
  clear hok hst hO hx hOl hs lr li lo hT hT0 hbW hoff h1 hn
  obtain ⟨u0, u1, u2, u3, u4, u5, u6, u7, u8, u9, u10, u11, u12, u13, u14, u15⟩ := HZ.out W (Below.refl _ _)
  have hW2 : w.alloc (.cells #[.slice ar S.ram.length cr, .int .u32 S.msip, .int .u64 S.cmp, .int .u64 S.time, .bool S.ext, .bool S.soft, .int .u8 S.ier, .int .u8 S.lcr, .int .u8 S.mcr, .int .u8 S.scr, .bool S.ov, .slice ai S.inp.length ci, .slice ao S.out.length co, .int .i64 S.off, .int .i64 S.code, .slice aO O.length cO] 29) = W := hW
  clear hW r1 hz
  unfold stoc
  unfold stc at HCB HMD ⊢
  go_enter Try.func7, Try.ntmps7
  go_upto_region 1 with fail
  clear hW2
  go_upto_region 4 with (go_at_call 9; refine HCB.out.mono ?_; rintro e w1 ⟨rfl, hb1⟩; have HB1 : Hid (Below W.heap.size W w1) := hb1; clear hb1)
  clear u0 u1 u2 u3 u4 u5 u6 u7 u8 u9 u10 u11 u12 u13 u14 u15
  obtain ⟨u0, u1, u2, u3, u4, u5, u6, u7, u8, u9, u10, u11, u12, u13, u14, u15⟩ := HZ.out w1 HB1.out
  go_upto_region 9 with (first | (go_at_call 10; refine (HMD.out w1 HB1.out).mono ?_; rintro e w2 ⟨L, rfl, hp, hb2⟩; have HP : Hid (PB w1.heap.size L S w2) := hp; have HB2 : Hid (Below w1.heap.size w1 w2) := hb2; clear hp hb2) | (go_at_call 19; refine (HFS.out w1 L w2 HP.out HB2.out).mono ?_; rintro e w3 ⟨rfl, L', hq⟩; have HQ : Hid _ := hq; have HOF : Hid (Calls Try.prog 23 #[.pointer (some ⟨L.b, 0, none⟩)] w3 fun e w' => e = .returned (.tuple #[.int .i64 oo, .int .i64 zz]) ∧ Below w3.heap.size w3 w') := (by have q := off_c w3 hq.p; rw [hq.e, hq.o, hq.z] at q; exact q); clear hq) | (go_at_call 23; refine HOF.out.mono ?_; rintro e w4 ⟨rfl, hb4⟩; have HQ4 : Hid (Pof w1.heap.size w1 L.b oo zz L' TT w4) := Pof.later HQ.out hb4; have HB4 : Hid (Below W.heap.size W w4) := HB1.out.trans (HQ4.out.be.mono HB1.out.size); clear hb4))
  clear u0 u1 u2 u3 u4 u5 u6 u7 u8 u9 u10 u11 u12 u13 u14 u15
  obtain ⟨u0, u1, u2, u3, u4, u5, u6, u7, u8, u9, u10, u11, u12, u13, u14, u15⟩ := HZ.out w4 HB4.out
  --@CUT1
  go_wp2
  have HEL2 : Hid (∀ j, j < O.length → ∃ g off x, aO = some ⟨g, off, none⟩ ∧ CalOk w1 x ∧ ∀ w', Below w1.heap.size w1 w' → w'.cell? ⟨g, off + j * 9, none⟩ = some (.int .i64 x.k) ∧ w'.cell? ⟨g, off + j * 9 + 1, none⟩ = some (.int .u64 x.a) ∧ w'.cell? ⟨g, off + j * 9 + 2, none⟩ = some (.int .i64 x.n) ∧ w'.cell? ⟨g, off + j * 9 + 3, none⟩ = some (.int .u64 x.v) ∧ w'.cell? ⟨g, off + j * 9 + 4, none⟩ = some (.slice x.ab x.b.length x.cb) ∧ w'.cell? ⟨g, off + j * 9 + 5, none⟩ = some (.bool x.t) ∧ w'.cell? ⟨g, off + j * 9 + 6, none⟩ = some (.bool x.e) ∧ w'.cell? ⟨g, off + j * 9 + 7, none⟩ = some (.bool x.s) ∧ w'.cell? ⟨g, off + j * 9 + 8, none⟩ = some (.slice x.ai x.i.length x.ci)) := HEL.out w1 HB1.out
  have HC15 : Hid (∀ w', Below w1.heap.size w1 w' → w'.cell? ⟨w.heap.size, 15, none⟩ = some (.slice aO O.length cO)) := fun w' hb => (HZ.out w' (HB1.out.trans (hb.mono HB1.out.size))).2.2.2.2.2.2.2.2.2.2.2.2.2.2.2
  have HBA : Hid (∀ w', Below w1.heap.size w1 w' → Below w.heap.size w w') := fun w' hb => HBW.out.trans ((HB1.out.trans (hb.mono HB1.out.size)).mono HBW.out.size)
  clear u0 u1 u2 u3 u4 u5 u6 u7 u8 u9 u10 u11 u12 u13 u14 u15 HZ HEL HP HB2 HQ HOF HFS HMD HCB
  generalize L.b = b at *
  have hoo : (oo != oo) = false := by simp
  have hzz : (zz != zz) = false := by simp
  --@CUT2
  go_loopw [9] (fun i wr => ∃ (j : Nat) (L : Lay) (R : St), j ≤ O.length ∧ i = .int .i64 j ∧ Hid (Pof w1.heap.size w1 b oo zz L R wr)) (fun i _ => O.length - (intOf i).toNat)
  case atStart => exact ⟨0, L', TT, Nat.zero_le _, rfl, HQ4⟩
  case round =>
    obtain ⟨j, L2, R, hj, rfl, hst⟩ := hrel
    clear HQ4
    have c15 := HC15.out wr hst.out.be
    by_cases hlt : j < O.length
    · have hlt2 : (j : Int) < (O.length : Int) := by omega
      obtain ⟨g, off, x, ea, hx, hcl⟩ := HEL2.out j hlt
      obtain ⟨x0, x1, x2, x3, x4, x5, x6, x7, x8⟩ := hcl wr hst.out.be
      rw [ea] at c15
      have HX : Hid (CalOk w1 x) := hx
      clear hx hcl ea
      have hR := hst.out.s.n
      have HSTA : Hid (∀ w9 : World, Below wr.heap.size wr w9 → Calls Try.prog 11 #[.pointer (some ⟨b, 0, none⟩)] w9 fun e w' => ∃ ur ui uo, e = .returned (.agg (stc R ur ui uo)) ∧ Sv w9.heap.size R ur ui uo w' ∧ Below w9.heap.size w9 w') := fun w9 hb => by
        have q := state_c w9 (hst.out.later hb).p (by omega) (by omega) (by omega)
        rw [hst.out.e] at q
        exact q
      have HCP : Hid (∀ (w9 : World) y1 z1 y2 z2 y3 z3, Bs R (.slice y1 R.ram.length z1) (.slice y2 R.inp.length z2) (.slice y3 R.out.length z3) w9 → Calls Try.prog 21 #[.agg (stc R (.slice y1 R.ram.length z1) (.slice y2 R.inp.length z2) (.slice y3 R.out.length z3))] w9 fun e w' => ∃ ur ui uo, e = .returned (.agg (stc R ur ui uo)) ∧ Sv w9.heap.size R ur ui uo w' ∧ Below w9.heap.size w9 w') := fun w9 y1 z1 y2 z2 y3 z3 hb => copied_c R y1 y2 y3 z1 z2 z3 w9 hb.r hb.i hb.o (by omega) (by omega) (by omega)
      clear hR
      unfold stc at HCP
      go_upto_region 17 with (first | (go_at_call 11; refine (HSTA.out _ (below_al wr _)).mono ?_; rintro e w2 ⟨ur, ui, uo, rfl, hsv, hb2⟩; obtain ⟨y1, z1, y2, z2, y3, z3, rfl, rfl, rfl⟩ := hsv.bs.forms; have HSV : Hid _ := hsv; have HB2 : Hid _ := hb2; unfold stc; clear hsv hb2) | (go_at_call 21; refine (HCP.out _ y1 z1 y2 z2 y3 z3 (Bs.later (Sv.bs HSV.out) (below_al w2 _))).mono ?_; rintro e w3 ⟨ur, ui, uo, rfl, hsv, hb3⟩; obtain ⟨v1, t1, v2, t2, v3, t3, rfl, rfl, rfl⟩ := hsv.bs.forms; have HSV3 : Hid _ := hsv; have HB3 : Hid _ := hb3; clear hsv hb3))
      --@CUT3
      obtain ⟨W4, hW4⟩ : ∃ W4, (w3.alloc (.cells #[.slice v1 R.ram.length t1, .int .u32 R.msip, .int .u64 R.cmp, .int .u64 R.time, .bool R.ext, .bool R.soft, .int .u8 R.ier, .int .u8 R.lcr, .int .u8 R.mcr, .int .u8 R.scr, .bool R.ov, .slice v2 R.inp.length t2, .slice v3 R.out.length t3, .int .i64 R.off, .int .i64 R.code] 56)).alloc (.cells #[.pointer (some ⟨b, 0, none⟩), .pointer (some ⟨w3.heap.size, 0, none⟩)] 58) = W4 := ⟨_, rfl⟩
      have HCH : Hid (Calls Try.prog 24 #[.agg #[.pointer (some ⟨b, 0, none⟩), .pointer (some ⟨w3.heap.size, 0, none⟩)], .agg #[.int .i64 x.k, .int .u64 x.a, .int .i64 x.n, .int .u64 x.v, .slice x.ab x.b.length x.cb, .bool x.t, .bool x.e, .bool x.s, .slice x.ai x.i.length x.ci]] W4 fun e w' => e = .returned (.bool true) ∧ ∃ L' S' ur ui uo, Ofr w1.heap.size w1 b w3.heap.size oo zz x.k wr.heap.size w2.heap.size #[.int .i64 x.k, .int .u64 x.a, .int .i64 x.n, .int .u64 x.v, .slice x.ab x.b.length x.cb, .bool x.t, .bool x.e, .bool x.s, .slice x.ai x.i.length x.ci] R (.slice y1 R.ram.length z1) (.slice y2 R.inp.length z2) (.slice y3 R.out.length z3) L' S' ur ui uo w') := by rw [← hW4]; exact off_changes hst.out HHT.out rfl HX.out rfl HSV.out HB2.out rfl HSV3.out HB3.out
      obtain ⟨k1, k3⟩ := off_rows (x := x) (S := R) rfl HB2.out rfl HB3.out hW4
      have HAS : Hid (∀ L' S' ur ui uo w5, Ofr w1.heap.size w1 b w3.heap.size oo zz x.k wr.heap.size w2.heap.size #[.int .i64 x.k, .int .u64 x.a, .int .i64 x.n, .int .u64 x.v, .slice x.ab x.b.length x.cb, .bool x.t, .bool x.e, .bool x.s, .slice x.ai x.i.length x.ci] R (.slice y1 R.ram.length z1) (.slice y2 R.inp.length z2) (.slice y3 R.out.length z3) L' S' ur ui uo w5 → Calls Try.prog 22 #[.agg #[.pointer (some ⟨b, 0, none⟩), .pointer (some ⟨w3.heap.size, 0, none⟩)], .agg #[.int .i64 x.k, .int .u64 x.a, .int .i64 x.n, .int .u64 x.v, .slice x.ab x.b.length x.cb, .bool x.t, .bool x.e, .bool x.s, .slice x.ai x.i.length x.ci]] w5 fun e w' => e = .returned (.bool true) ∧ Below w5.heap.size w5 w') := fun L' S' ur ui uo w5 h => by
        have q := asks_c w5 h.k.p x.a x.n x.v (.slice x.ab x.b.length x.cb) (.slice x.ai x.i.length x.ci) x.t x.e x.s x.k HX.out.a HX.out.n
        rw [h.e] at q
        exact q
      have HOF : Hid (∀ L' S' ur ui uo w5, Ofr w1.heap.size w1 b w3.heap.size oo zz x.k wr.heap.size w2.heap.size #[.int .i64 x.k, .int .u64 x.a, .int .i64 x.n, .int .u64 x.v, .slice x.ab x.b.length x.cb, .bool x.t, .bool x.e, .bool x.s, .slice x.ai x.i.length x.ci] R (.slice y1 R.ram.length z1) (.slice y2 R.inp.length z2) (.slice y3 R.out.length z3) L' S' ur ui uo w5 → Calls Try.prog 23 #[.pointer (some ⟨b, 0, none⟩)] w5 fun e w' => e = .returned (.tuple #[.int .i64 oo, .int .i64 zz]) ∧ Below w5.heap.size w5 w') := fun L' S' ur ui uo w5 h => by
        have q := off_c w5 h.k.m.p
        rw [h.e, h.o, h.z] at q
        exact q
      have q0 : W4.cell? ⟨wr.heap.size, 0, none⟩ = some (.int .i64 x.k) := cell_of_row W4 _ 0 _ _ _ k1
      have q1 : W4.cell? ⟨wr.heap.size, 1, none⟩ = some (.int .u64 x.a) := cell_of_row W4 _ 1 _ _ _ k1
      have q2 : W4.cell? ⟨wr.heap.size, 2, none⟩ = some (.int .i64 x.n) := cell_of_row W4 _ 2 _ _ _ k1
      have q3 : W4.cell? ⟨wr.heap.size, 3, none⟩ = some (.int .u64 x.v) := cell_of_row W4 _ 3 _ _ _ k1
      have q4 : W4.cell? ⟨wr.heap.size, 4, none⟩ = some (.slice x.ab x.b.length x.cb) := cell_of_row W4 _ 4 _ _ _ k1
      have q5 : W4.cell? ⟨wr.heap.size, 5, none⟩ = some (.bool x.t) := cell_of_row W4 _ 5 _ _ _ k1
      have q6 : W4.cell? ⟨wr.heap.size, 6, none⟩ = some (.bool x.e) := cell_of_row W4 _ 6 _ _ _ k1
      have q7 : W4.cell? ⟨wr.heap.size, 7, none⟩ = some (.bool x.s) := cell_of_row W4 _ 7 _ _ _ k1
      have q8 : W4.cell? ⟨wr.heap.size, 8, none⟩ = some (.slice x.ai x.i.length x.ci) := cell_of_row W4 _ 8 _ _ _ k1
      have p0 : W4.cell? ⟨w3.heap.size + 1, 0, none⟩ = some (.pointer (some ⟨b, 0, none⟩)) := cell_of_row W4 _ 0 _ _ _ k3
      have p1 : W4.cell? ⟨w3.heap.size + 1, 1, none⟩ = some (.pointer (some ⟨w3.heap.size, 0, none⟩)) := cell_of_row W4 _ 1 _ _ _ k3
      rw [hW4]
      clear k1 k3 hW4 HSTA HCP HSV HB2 HSV3 HB3 x0 x1 x2 x3 x4 x5 x6 x7 x8 c15 HEL2
      go_upto_region 22 with (first | (go_at_call 24; refine HCH.out.mono ?_; rintro e w5 ⟨rfl, L5, S5, ur5, ui5, uo5, hf⟩; have a0 : w5.cell? ⟨wr.heap.size, 0, none⟩ = some (.int .i64 x.k) := cell_of_row w5 _ 0 _ _ _ hf.r1; have a1 : w5.cell? ⟨wr.heap.size, 1, none⟩ = some (.int .u64 x.a) := cell_of_row w5 _ 1 _ _ _ hf.r1; have a2 : w5.cell? ⟨wr.heap.size, 2, none⟩ = some (.int .i64 x.n) := cell_of_row w5 _ 2 _ _ _ hf.r1; have a3 : w5.cell? ⟨wr.heap.size, 3, none⟩ = some (.int .u64 x.v) := cell_of_row w5 _ 3 _ _ _ hf.r1; have a4 : w5.cell? ⟨wr.heap.size, 4, none⟩ = some (.slice x.ab x.b.length x.cb) := cell_of_row w5 _ 4 _ _ _ hf.r1; have a5 : w5.cell? ⟨wr.heap.size, 5, none⟩ = some (.bool x.t) := cell_of_row w5 _ 5 _ _ _ hf.r1; have a6 : w5.cell? ⟨wr.heap.size, 6, none⟩ = some (.bool x.e) := cell_of_row w5 _ 6 _ _ _ hf.r1; have a7 : w5.cell? ⟨wr.heap.size, 7, none⟩ = some (.bool x.s) := cell_of_row w5 _ 7 _ _ _ hf.r1; have a8 : w5.cell? ⟨wr.heap.size, 8, none⟩ = some (.slice x.ai x.i.length x.ci) := cell_of_row w5 _ 8 _ _ _ hf.r1; have c0 : w5.cell? ⟨w3.heap.size + 1, 0, none⟩ = some (.pointer (some ⟨b, 0, none⟩)) := cell_of_row w5 _ 0 _ _ _ hf.r3; have c1 : w5.cell? ⟨w3.heap.size + 1, 1, none⟩ = some (.pointer (some ⟨w3.heap.size, 0, none⟩)) := cell_of_row w5 _ 1 _ _ _ hf.r3; have HF5 : Hid (Ofr w1.heap.size w1 b w3.heap.size oo zz x.k wr.heap.size w2.heap.size #[.int .i64 x.k, .int .u64 x.a, .int .i64 x.n, .int .u64 x.v, .slice x.ab x.b.length x.cb, .bool x.t, .bool x.e, .bool x.s, .slice x.ai x.i.length x.ci] R (.slice y1 R.ram.length z1) (.slice y2 R.inp.length z2) (.slice y3 R.out.length z3) L5 S5 ur5 ui5 uo5 w5) := hf; clear hf) | (go_at_call 22; refine (HAS.out L5 S5 ur5 ui5 uo5 w5 HF5.out).mono ?_; rintro e w6 ⟨rfl, hb6⟩; have HF6 : Hid (Ofr w1.heap.size w1 b w3.heap.size oo zz x.k wr.heap.size w2.heap.size #[.int .i64 x.k, .int .u64 x.a, .int .i64 x.n, .int .u64 x.v, .slice x.ab x.b.length x.cb, .bool x.t, .bool x.e, .bool x.s, .slice x.ai x.i.length x.ci] R (.slice y1 R.ram.length z1) (.slice y2 R.inp.length z2) (.slice y3 R.out.length z3) L5 S5 ur5 ui5 uo5 w6) := Ofr.later HF5.out hb6; clear hb6) | (go_at_call 23; refine (HOF.out L5 S5 ur5 ui5 uo5 w6 HF6.out).mono ?_; rintro e w7 ⟨rfl, hb7⟩; have HF7 : Hid (Ofr w1.heap.size w1 b w3.heap.size oo zz x.k wr.heap.size w2.heap.size #[.int .i64 x.k, .int .u64 x.a, .int .i64 x.n, .int .u64 x.v, .slice x.ab x.b.length x.cb, .bool x.t, .bool x.e, .bool x.s, .slice x.ai x.i.length x.ci] R (.slice y1 R.ram.length z1) (.slice y2 R.inp.length z2) (.slice y3 R.out.length z3) L5 S5 ur5 ui5 uo5 w7) := Ofr.later HF6.out hb7; have m0 : w7.cell? ⟨wr.heap.size, 0, none⟩ = some (.int .i64 x.k) := cell_of_row w7 _ 0 _ _ _ HF7.out.r1; clear hb7))
      --@CUT4
      clear HCH HAS HOF HF5 HF6 a0 a1 a2 a3 a4 a5 a6 a7 a8 q0 q1 q2 q3 q4 q5 q6 q7 q8 p0 p1 c0 c1
      by_cases hk3 : x.k = 3
      · have hb3 : (x.k == 3) = true := by simp [hk3]
        have e5 : S5 = R := HF7.out.s3 hk3
        clear hk3
        subst e5
        have hR := HF7.out.k.s.n
        have HSP : Hid (∀ w9 : World, Below w7.heap.size w7 w9 → Calls Try.prog 11 #[.pointer (some ⟨b, 0, none⟩)] w9 fun e w' => ∃ ur ui uo, e = .returned (.agg (stc S5 ur ui uo)) ∧ Bs S5 ur ui uo w' ∧ Below w9.heap.size w9 w') := fun w9 hb => by
          have q := state_c w9 (HF7.out.later hb).k.m.p (by omega) (by omega) (by omega)
          rw [HF7.out.e] at q
          exact q.mono fun e w' ⟨x, y, z, h1, h2, h3⟩ => ⟨x, y, z, h1, h2.bs, h3⟩
        have HSM : Hid (SameC S5) := same_any S5
        have HCJ : Hid (∀ w' : World, Below w7.heap.size w7 w' → w'.cell? ⟨w2.heap.size, 0, none⟩ = some (.slice y1 S5.ram.length z1) ∧ w'.cell? ⟨w2.heap.size, 1, none⟩ = some (.int .u32 S5.msip) ∧ w'.cell? ⟨w2.heap.size, 2, none⟩ = some (.int .u64 S5.cmp) ∧ w'.cell? ⟨w2.heap.size, 3, none⟩ = some (.int .u64 S5.time) ∧ w'.cell? ⟨w2.heap.size, 4, none⟩ = some (.bool S5.ext) ∧ w'.cell? ⟨w2.heap.size, 5, none⟩ = some (.bool S5.soft) ∧ w'.cell? ⟨w2.heap.size, 6, none⟩ = some (.int .u8 S5.ier) ∧ w'.cell? ⟨w2.heap.size, 7, none⟩ = some (.int .u8 S5.lcr) ∧ w'.cell? ⟨w2.heap.size, 8, none⟩ = some (.int .u8 S5.mcr) ∧ w'.cell? ⟨w2.heap.size, 9, none⟩ = some (.int .u8 S5.scr) ∧ w'.cell? ⟨w2.heap.size, 10, none⟩ = some (.bool S5.ov) ∧ w'.cell? ⟨w2.heap.size, 11, none⟩ = some (.slice y2 S5.inp.length z2) ∧ w'.cell? ⟨w2.heap.size, 12, none⟩ = some (.slice y3 S5.out.length z3) ∧ w'.cell? ⟨w2.heap.size, 13, none⟩ = some (.int .i64 S5.off) ∧ w'.cell? ⟨w2.heap.size, 14, none⟩ = some (.int .i64 S5.code)) := fun w' hb => ⟨cell_of_row w' _ 0 _ _ _ (HF7.out.later hb).r2, cell_of_row w' _ 1 _ _ _ (HF7.out.later hb).r2, cell_of_row w' _ 2 _ _ _ (HF7.out.later hb).r2, cell_of_row w' _ 3 _ _ _ (HF7.out.later hb).r2, cell_of_row w' _ 4 _ _ _ (HF7.out.later hb).r2, cell_of_row w' _ 5 _ _ _ (HF7.out.later hb).r2, cell_of_row w' _ 6 _ _ _ (HF7.out.later hb).r2, cell_of_row w' _ 7 _ _ _ (HF7.out.later hb).r2, cell_of_row w' _ 8 _ _ _ (HF7.out.later hb).r2, cell_of_row w' _ 9 _ _ _ (HF7.out.later hb).r2, cell_of_row w' _ 10 _ _ _ (HF7.out.later hb).r2, cell_of_row w' _ 11 _ _ _ (HF7.out.later hb).r2, cell_of_row w' _ 12 _ _ _ (HF7.out.later hb).r2, cell_of_row w' _ 13 _ _ _ (HF7.out.later hb).r2, cell_of_row w' _ 14 _ _ _ (HF7.out.later hb).r2⟩
        have HBS : Hid (∀ w' : World, Below w7.heap.size w7 w' → Bs S5 (.slice y1 S5.ram.length z1) (.slice y2 S5.inp.length z2) (.slice y3 S5.out.length z3) w') := fun w' hb => (HF7.out.later hb).bs
        clear hR
        go_upto_region 23 with fail
        go_region_held3 (fun w' => w'.cell? ⟨w2.heap.size, 0, none⟩ = some (.slice y1 S5.ram.length z1) ∧ w'.cell? ⟨w2.heap.size, 1, none⟩ = some (.int .u32 S5.msip) ∧ w'.cell? ⟨w2.heap.size, 2, none⟩ = some (.int .u64 S5.cmp) ∧ w'.cell? ⟨w2.heap.size, 3, none⟩ = some (.int .u64 S5.time) ∧ w'.cell? ⟨w2.heap.size, 4, none⟩ = some (.bool S5.ext) ∧ w'.cell? ⟨w2.heap.size, 5, none⟩ = some (.bool S5.soft) ∧ w'.cell? ⟨w2.heap.size, 6, none⟩ = some (.int .u8 S5.ier) ∧ w'.cell? ⟨w2.heap.size, 7, none⟩ = some (.int .u8 S5.lcr) ∧ w'.cell? ⟨w2.heap.size, 8, none⟩ = some (.int .u8 S5.mcr) ∧ w'.cell? ⟨w2.heap.size, 9, none⟩ = some (.int .u8 S5.scr) ∧ w'.cell? ⟨w2.heap.size, 10, none⟩ = some (.bool S5.ov) ∧ w'.cell? ⟨w2.heap.size, 11, none⟩ = some (.slice y2 S5.inp.length z2) ∧ w'.cell? ⟨w2.heap.size, 12, none⟩ = some (.slice y3 S5.out.length z3) ∧ w'.cell? ⟨w2.heap.size, 13, none⟩ = some (.int .i64 S5.off) ∧ w'.cell? ⟨w2.heap.size, 14, none⟩ = some (.int .i64 S5.code)) (first | exact HCJ.out _ (Below.refl _ _) | exact HCJ.out _ (Below.drew (Below.refl _ _)) | exact hcj2 | exact hcj1)
          (first | (go_at_call 11; refine (HSP.out _ ?_).mono ?_; exact Below.drew (Below.refl _ _); rintro e w8 ⟨a1, a2, a3, rfl, hby, hb1⟩; have HB8 : Hid (Below w7.heap.size w7 w8) := undrew hb1; have hcj1 := HCJ.out w8 HB8.out; have HY1 : Hid (Bs S5 a1 a2 a3 w8) := hby; clear hb1 hby) | (go_at_call 14; refine (HSM.out a1 a2 a3 (.slice y1 S5.ram.length z1) (.slice y2 S5.inp.length z2) (.slice y3 S5.out.length z3) w8 HY1.out (HBS.out w8 HB8.out)).mono ?_; rintro e w9 ⟨rfl, hb9⟩; have HB9 : Hid (Below w7.heap.size w7 w9) := HB8.out.trans (hb9.mono HB8.out.size); have hcj2 := HCJ.out w9 HB9.out; clear hb9))
        all_goals go_wp2
        all_goals go_roundw
        all_goals first | exact ⟨j + 1, L5, S5, by omega, by go_num, (HF7.out.later HB9.out).pof⟩ | (simp [intOf] <;> omega)
      · have hb3 : (x.k == 3) = false := by simp [hk3]
        clear hk3
        go_wp2
        go_roundw
        all_goals first | exact ⟨j + 1, L5, S5, by omega, by go_num, HF7.out.pof⟩ | (simp [intOf] <;> omega)
    · obtain rfl : j = O.length := by omega
      go_wp2
      go_ret
      exact ⟨rfl, HBA.out _ hst.out.be⟩
set_option maxRecDepth 100000 in
set_option maxHeartbeats 8000000 in
theorem busoff_p (S : St) (ar ai ao : Option Addr) (cr ci co : Nat) (w : World) (hs : Bs S (.slice ar S.ram.length cr) (.slice ai S.inp.length ci) (.slice ao S.out.length co) w) (lr : S.ram.length ≤ 140737488355328) (li : S.inp.length ≤ 140737488355328) (lo : S.out.length ≤ 140737488355328) (hok : S.ok = true) (hst : StW S) (aO : Option Addr) (cO : Nat) (O : List Cal) (hO : Cals w (.slice aO O.length cO) O) (hx : ∀ j, j < O.length → CalOk w (O.getD j cal0)) (hOl : O.length * 88 ≤ 140737488351232) (hoff : ¬ S.off = 0) :
    Calls Try.prog 7 #[.agg (stoc S (.slice ar S.ram.length cr) (.slice ai S.inp.length ci) (.slice ao S.out.length co) (.slice aO O.length cO))] w fun e w' => e = .returned (.bool true) ∧ Below w.heap.size w w' := by
  obtain ⟨W, hW⟩ : ∃ W, w.alloc (.cells (stoc S (.slice ar S.ram.length cr) (.slice ai S.inp.length ci) (.slice ao S.out.length co) (.slice aO O.length cO)) 29) = W := ⟨_, rfl⟩
  have hbW : Below w.heap.size w W := by rw [← hW]; exact below_al w _
  have hz : w.heap.size < W.heap.size := by rw [← hW]; simp
  have r1 : W.heap[w.heap.size]? = some (.cells (stoc S (.slice ar S.ram.length cr) (.slice ai S.inp.length ci) (.slice ao S.out.length co) (.slice aO O.length cO)) 29 (0, 0)) := by rw [← hW]; exact heap_alloc_new w _
  have h1 : Sok S := ⟨hok, hst⟩
  have hn := h1.n.1
  have hT : S.fin 21845 = S := by unfold St.fin; rw [if_neg hoff]
  have hd0 : (S.off == 0) = false := by simp [hoff]
  have hT0 : (S.fin 21845).off ≠ 0 := by rw [hT]; exact hoff
  have HCB : Hid (Calls Try.prog 9 #[.agg (stc S (.slice ar S.ram.length cr) (.slice ai S.inp.length ci) (.slice ao S.out.length co))] W fun e w' => e = .returned (.bool true) ∧ Below W.heap.size W w') := by rw [← hok]; exact rcanBe_c S ar ai ao cr ci co W
  have HMD : Hid (∀ w1, Below W.heap.size W w1 → Calls Try.prog 10 #[.agg (stc S (.slice ar S.ram.length cr) (.slice ai S.inp.length ci) (.slice ao S.out.length co))] w1 fun e w' => ∃ L, e = .returned (.tuple #[.pointer (some ⟨Lay.b L, 0, none⟩), .bool true]) ∧ PB w1.heap.size L S w' ∧ Below w1.heap.size w1 w') := fun w1 hb => made_c S ar ai ao cr ci co w1 hok (hs.later (hbW.trans (hb.mono hbW.size))) lr li lo
  have HZ : Hid (∀ w', Below W.heap.size W w' → w'.cell? ⟨w.heap.size, 0, none⟩ = some (.slice ar S.ram.length cr) ∧ w'.cell? ⟨w.heap.size, 1, none⟩ = some (.int .u32 S.msip) ∧ w'.cell? ⟨w.heap.size, 2, none⟩ = some (.int .u64 S.cmp) ∧ w'.cell? ⟨w.heap.size, 3, none⟩ = some (.int .u64 S.time) ∧ w'.cell? ⟨w.heap.size, 4, none⟩ = some (.bool S.ext) ∧ w'.cell? ⟨w.heap.size, 5, none⟩ = some (.bool S.soft) ∧ w'.cell? ⟨w.heap.size, 6, none⟩ = some (.int .u8 S.ier) ∧ w'.cell? ⟨w.heap.size, 7, none⟩ = some (.int .u8 S.lcr) ∧ w'.cell? ⟨w.heap.size, 8, none⟩ = some (.int .u8 S.mcr) ∧ w'.cell? ⟨w.heap.size, 9, none⟩ = some (.int .u8 S.scr) ∧ w'.cell? ⟨w.heap.size, 10, none⟩ = some (.bool S.ov) ∧ w'.cell? ⟨w.heap.size, 11, none⟩ = some (.slice ai S.inp.length ci) ∧ w'.cell? ⟨w.heap.size, 12, none⟩ = some (.slice ao S.out.length co) ∧ w'.cell? ⟨w.heap.size, 13, none⟩ = some (.int .i64 S.off) ∧ w'.cell? ⟨w.heap.size, 14, none⟩ = some (.int .i64 S.code) ∧ w'.cell? ⟨w.heap.size, 15, none⟩ = some (.slice aO O.length cO)) := fun w' hb => ⟨(hb.cell hz).trans (cell_of_row W _ 0 _ _ _ r1), (hb.cell hz).trans (cell_of_row W _ 1 _ _ _ r1), (hb.cell hz).trans (cell_of_row W _ 2 _ _ _ r1), (hb.cell hz).trans (cell_of_row W _ 3 _ _ _ r1), (hb.cell hz).trans (cell_of_row W _ 4 _ _ _ r1), (hb.cell hz).trans (cell_of_row W _ 5 _ _ _ r1), (hb.cell hz).trans (cell_of_row W _ 6 _ _ _ r1), (hb.cell hz).trans (cell_of_row W _ 7 _ _ _ r1), (hb.cell hz).trans (cell_of_row W _ 8 _ _ _ r1), (hb.cell hz).trans (cell_of_row W _ 9 _ _ _ r1), (hb.cell hz).trans (cell_of_row W _ 10 _ _ _ r1), (hb.cell hz).trans (cell_of_row W _ 11 _ _ _ r1), (hb.cell hz).trans (cell_of_row W _ 12 _ _ _ r1), (hb.cell hz).trans (cell_of_row W _ 13 _ _ _ r1), (hb.cell hz).trans (cell_of_row W _ 14 _ _ _ r1), (hb.cell hz).trans (cell_of_row W _ 15 _ _ _ r1)⟩
  have HFS : Hid (∀ w1 L w2, PB w1.heap.size L S w2 → Below w1.heap.size w1 w2 → Calls Try.prog 19 #[.pointer (some ⟨L.b, 0, none⟩), .int .u64 1048576, .int .i64 4, .int .u64 21845] w2 fun e w' => e = .returned (.bool true) ∧ ∃ L', Pof w1.heap.size w1 L.b (S.fin 21845).off (S.fin 21845).code L' (S.fin 21845) w') := fun w1 L w2 hp hb => by
    have q := Store_c w2 hp hn 1048576 4 (by omega) (by omega) hst 21845#64
    rw [show n64 21845#64 = 21845 from rfl, sto2_fin S 21845 hn] at q
    refine q.mono ?_
    rintro e w' ⟨rfl, L', hs'⟩
    have hb2 := hb.trans (hs'.x.below hb.size (fun k hk => hp.own_lo k hk))
    exact ⟨rfl, L', hs'.p, hs'.b.1, h1.fin 21845, rfl, rfl, hb2, hb2.size⟩
  have HEL : Hid (∀ w1, Below W.heap.size W w1 → ∀ j, j < O.length → ∃ g off x, aO = some ⟨g, off, none⟩ ∧ CalOk w1 x ∧ ∀ w', Below w1.heap.size w1 w' → w'.cell? ⟨g, off + j * 9, none⟩ = some (.int .i64 x.k) ∧ w'.cell? ⟨g, off + j * 9 + 1, none⟩ = some (.int .u64 x.a) ∧ w'.cell? ⟨g, off + j * 9 + 2, none⟩ = some (.int .i64 x.n) ∧ w'.cell? ⟨g, off + j * 9 + 3, none⟩ = some (.int .u64 x.v) ∧ w'.cell? ⟨g, off + j * 9 + 4, none⟩ = some (.slice x.ab x.b.length x.cb) ∧ w'.cell? ⟨g, off + j * 9 + 5, none⟩ = some (.bool x.t) ∧ w'.cell? ⟨g, off + j * 9 + 6, none⟩ = some (.bool x.e) ∧ w'.cell? ⟨g, off + j * 9 + 7, none⟩ = some (.bool x.s) ∧ w'.cell? ⟨g, off + j * 9 + 8, none⟩ = some (.slice x.ai x.i.length x.ci)) := fun w1 hb1 j hj => by
    obtain ⟨a, cap, e, _, h2⟩ := hO
    cases e
    obtain ⟨g, off, ea, hg, hc⟩ := h2 (fun e => by rw [e] at hj; simp at hj)
    have hg2 := Nat.lt_of_lt_of_le hg hbW.size
    have hg3 := Nat.lt_of_lt_of_le hg2 hb1.size
    exact ⟨g, off, O.getD j cal0, ea, ((hx j hj).later hbW).later hb1, fun w' hb => ⟨((hb.cell hg3).trans ((hb1.cell hg2).trans (hbW.cell hg))).trans (hc j hj 0 (by decide)), ((hb.cell hg3).trans ((hb1.cell hg2).trans (hbW.cell hg))).trans (hc j hj 1 (by decide)), ((hb.cell hg3).trans ((hb1.cell hg2).trans (hbW.cell hg))).trans (hc j hj 2 (by decide)), ((hb.cell hg3).trans ((hb1.cell hg2).trans (hbW.cell hg))).trans (hc j hj 3 (by decide)), ((hb.cell hg3).trans ((hb1.cell hg2).trans (hbW.cell hg))).trans (hc j hj 4 (by decide)), ((hb.cell hg3).trans ((hb1.cell hg2).trans (hbW.cell hg))).trans (hc j hj 5 (by decide)), ((hb.cell hg3).trans ((hb1.cell hg2).trans (hbW.cell hg))).trans (hc j hj 6 (by decide)), ((hb.cell hg3).trans ((hb1.cell hg2).trans (hbW.cell hg))).trans (hc j hj 7 (by decide)), ((hb.cell hg3).trans ((hb1.cell hg2).trans (hbW.cell hg))).trans (hc j hj 8 (by decide))⟩⟩
  have HBW : Hid (Below w.heap.size w W) := hbW
  have hn62 : O.length ≤ 1599289640448 := by omega
  have HHT : Hid ((S.fin 21845).off ≠ 0) := hT0
  have hT4 : ((S.fin 21845).off == 0) = false := by simpa using hT0
  generalize (S.fin 21845).off = oo at HFS hT4 HHT 
  generalize (S.fin 21845).code = zz at HFS 
  generalize S.fin 21845 = TT at HFS
  clear hok hst hO hx hOl hs lr li lo hT hT0 hbW hoff h1 hn
  obtain ⟨u0, u1, u2, u3, u4, u5, u6, u7, u8, u9, u10, u11, u12, u13, u14, u15⟩ := HZ.out W (Below.refl _ _)
  have hW2 : w.alloc (.cells #[.slice ar S.ram.length cr, .int .u32 S.msip, .int .u64 S.cmp, .int .u64 S.time, .bool S.ext, .bool S.soft, .int .u8 S.ier, .int .u8 S.lcr, .int .u8 S.mcr, .int .u8 S.scr, .bool S.ov, .slice ai S.inp.length ci, .slice ao S.out.length co, .int .i64 S.off, .int .i64 S.code, .slice aO O.length cO] 29) = W := hW
  clear hW r1 hz
  unfold stoc
  unfold stc at HCB HMD ⊢
  go_enter Try.func7, Try.ntmps7
  go_upto_region 1 with fail
  clear hW2
  go_upto_region 4 with (go_at_call 9; refine HCB.out.mono ?_; rintro e w1 ⟨rfl, hb1⟩; have HB1 : Hid (Below W.heap.size W w1) := hb1; clear hb1)
  clear u0 u1 u2 u3 u4 u5 u6 u7 u8 u9 u10 u11 u12 u13 u14 u15
  obtain ⟨u0, u1, u2, u3, u4, u5, u6, u7, u8, u9, u10, u11, u12, u13, u14, u15⟩ := HZ.out w1 HB1.out
  go_upto_region 9 with (first | (go_at_call 10; refine (HMD.out w1 HB1.out).mono ?_; rintro e w2 ⟨L, rfl, hp, hb2⟩; have HP : Hid (PB w1.heap.size L S w2) := hp; have HB2 : Hid (Below w1.heap.size w1 w2) := hb2; clear hp hb2) | (go_at_call 19; refine (HFS.out w1 L w2 HP.out HB2.out).mono ?_; rintro e w3 ⟨rfl, L', hq⟩; have HQ : Hid _ := hq; have HOF : Hid (Calls Try.prog 23 #[.pointer (some ⟨L.b, 0, none⟩)] w3 fun e w' => e = .returned (.tuple #[.int .i64 oo, .int .i64 zz]) ∧ Below w3.heap.size w3 w') := (by have q := off_c w3 hq.p; rw [hq.e, hq.o, hq.z] at q; exact q); clear hq) | (go_at_call 23; refine HOF.out.mono ?_; rintro e w4 ⟨rfl, hb4⟩; have HQ4 : Hid (Pof w1.heap.size w1 L.b oo zz L' TT w4) := Pof.later HQ.out hb4; have HB4 : Hid (Below W.heap.size W w4) := HB1.out.trans (HQ4.out.be.mono HB1.out.size); clear hb4))
  clear u0 u1 u2 u3 u4 u5 u6 u7 u8 u9 u10 u11 u12 u13 u14 u15
  obtain ⟨u0, u1, u2, u3, u4, u5, u6, u7, u8, u9, u10, u11, u12, u13, u14, u15⟩ := HZ.out w4 HB4.out
  --@CUT1
  go_wp2
  have HEL2 : Hid (∀ j, j < O.length → ∃ g off x, aO = some ⟨g, off, none⟩ ∧ CalOk w1 x ∧ ∀ w', Below w1.heap.size w1 w' → w'.cell? ⟨g, off + j * 9, none⟩ = some (.int .i64 x.k) ∧ w'.cell? ⟨g, off + j * 9 + 1, none⟩ = some (.int .u64 x.a) ∧ w'.cell? ⟨g, off + j * 9 + 2, none⟩ = some (.int .i64 x.n) ∧ w'.cell? ⟨g, off + j * 9 + 3, none⟩ = some (.int .u64 x.v) ∧ w'.cell? ⟨g, off + j * 9 + 4, none⟩ = some (.slice x.ab x.b.length x.cb) ∧ w'.cell? ⟨g, off + j * 9 + 5, none⟩ = some (.bool x.t) ∧ w'.cell? ⟨g, off + j * 9 + 6, none⟩ = some (.bool x.e) ∧ w'.cell? ⟨g, off + j * 9 + 7, none⟩ = some (.bool x.s) ∧ w'.cell? ⟨g, off + j * 9 + 8, none⟩ = some (.slice x.ai x.i.length x.ci)) := HEL.out w1 HB1.out
  have HC15 : Hid (∀ w', Below w1.heap.size w1 w' → w'.cell? ⟨w.heap.size, 15, none⟩ = some (.slice aO O.length cO)) := fun w' hb => (HZ.out w' (HB1.out.trans (hb.mono HB1.out.size))).2.2.2.2.2.2.2.2.2.2.2.2.2.2.2
  have HBA : Hid (∀ w', Below w1.heap.size w1 w' → Below w.heap.size w w') := fun w' hb => HBW.out.trans ((HB1.out.trans (hb.mono HB1.out.size)).mono HBW.out.size)
  clear u0 u1 u2 u3 u4 u5 u6 u7 u8 u9 u10 u11 u12 u13 u14 u15 HZ HEL HP HB2 HQ HOF HFS HMD HCB
  generalize L.b = b at *
  have hoo : (oo != oo) = false := by simp
  have hzz : (zz != zz) = false := by simp
  --@CUT2
  go_loopw [9] (fun i wr => ∃ (j : Nat) (L : Lay) (R : St), j ≤ O.length ∧ i = .int .i64 j ∧ Hid (Pof w1.heap.size w1 b oo zz L R wr)) (fun i _ => O.length - (intOf i).toNat)
  case atStart => exact ⟨0, L', TT, Nat.zero_le _, rfl, HQ4⟩
  case round =>
    obtain ⟨j, L2, R, hj, rfl, hst⟩ := hrel
    clear HQ4
    have c15 := HC15.out wr hst.out.be
    by_cases hlt : j < O.length
    · have hlt2 : (j : Int) < (O.length : Int) := by omega
      obtain ⟨g, off, x, ea, hx, hcl⟩ := HEL2.out j hlt
      obtain ⟨x0, x1, x2, x3, x4, x5, x6, x7, x8⟩ := hcl wr hst.out.be
      rw [ea] at c15
      have HX : Hid (CalOk w1 x) := hx
      clear hx hcl ea
      have hR := hst.out.s.n
      have HSTA : Hid (∀ w9 : World, Below wr.heap.size wr w9 → Calls Try.prog 11 #[.pointer (some ⟨b, 0, none⟩)] w9 fun e w' => ∃ ur ui uo, e = .returned (.agg (stc R ur ui uo)) ∧ Sv w9.heap.size R ur ui uo w' ∧ Below w9.heap.size w9 w') := fun w9 hb => by
        have q := state_c w9 (hst.out.later hb).p (by omega) (by omega) (by omega)
        rw [hst.out.e] at q
        exact q
      have HCP : Hid (∀ (w9 : World) y1 z1 y2 z2 y3 z3, Bs R (.slice y1 R.ram.length z1) (.slice y2 R.inp.length z2) (.slice y3 R.out.length z3) w9 → Calls Try.prog 21 #[.agg (stc R (.slice y1 R.ram.length z1) (.slice y2 R.inp.length z2) (.slice y3 R.out.length z3))] w9 fun e w' => ∃ ur ui uo, e = .returned (.agg (stc R ur ui uo)) ∧ Sv w9.heap.size R ur ui uo w' ∧ Below w9.heap.size w9 w') := fun w9 y1 z1 y2 z2 y3 z3 hb => copied_c R y1 y2 y3 z1 z2 z3 w9 hb.r hb.i hb.o (by omega) (by omega) (by omega)
      clear hR
      unfold stc at HCP
      go_upto_region 17 with (first | (go_at_call 11; refine (HSTA.out _ (below_al wr _)).mono ?_; rintro e w2 ⟨ur, ui, uo, rfl, hsv, hb2⟩; obtain ⟨y1, z1, y2, z2, y3, z3, rfl, rfl, rfl⟩ := hsv.bs.forms; have HSV : Hid _ := hsv; have HB2 : Hid _ := hb2; unfold stc; clear hsv hb2) | (go_at_call 21; refine (HCP.out _ y1 z1 y2 z2 y3 z3 (Bs.later (Sv.bs HSV.out) (below_al w2 _))).mono ?_; rintro e w3 ⟨ur, ui, uo, rfl, hsv, hb3⟩; obtain ⟨v1, t1, v2, t2, v3, t3, rfl, rfl, rfl⟩ := hsv.bs.forms; have HSV3 : Hid _ := hsv; have HB3 : Hid _ := hb3; clear hsv hb3))
      --@CUT3
      obtain ⟨W4, hW4⟩ : ∃ W4, (w3.alloc (.cells #[.slice v1 R.ram.length t1, .int .u32 R.msip, .int .u64 R.cmp, .int .u64 R.time, .bool R.ext, .bool R.soft, .int .u8 R.ier, .int .u8 R.lcr, .int .u8 R.mcr, .int .u8 R.scr, .bool R.ov, .slice v2 R.inp.length t2, .slice v3 R.out.length t3, .int .i64 R.off, .int .i64 R.code] 56)).alloc (.cells #[.pointer (some ⟨b, 0, none⟩), .pointer (some ⟨w3.heap.size, 0, none⟩)] 58) = W4 := ⟨_, rfl⟩
      have HCH : Hid (Calls Try.prog 24 #[.agg #[.pointer (some ⟨b, 0, none⟩), .pointer (some ⟨w3.heap.size, 0, none⟩)], .agg #[.int .i64 x.k, .int .u64 x.a, .int .i64 x.n, .int .u64 x.v, .slice x.ab x.b.length x.cb, .bool x.t, .bool x.e, .bool x.s, .slice x.ai x.i.length x.ci]] W4 fun e w' => e = .returned (.bool true) ∧ ∃ L' S' ur ui uo, Ofr w1.heap.size w1 b w3.heap.size oo zz x.k wr.heap.size w2.heap.size #[.int .i64 x.k, .int .u64 x.a, .int .i64 x.n, .int .u64 x.v, .slice x.ab x.b.length x.cb, .bool x.t, .bool x.e, .bool x.s, .slice x.ai x.i.length x.ci] R (.slice y1 R.ram.length z1) (.slice y2 R.inp.length z2) (.slice y3 R.out.length z3) L' S' ur ui uo w') := by rw [← hW4]; exact off_changes hst.out HHT.out rfl HX.out rfl HSV.out HB2.out rfl HSV3.out HB3.out
      obtain ⟨k1, k3⟩ := off_rows (x := x) (S := R) rfl HB2.out rfl HB3.out hW4
      have HAS : Hid (∀ L' S' ur ui uo w5, Ofr w1.heap.size w1 b w3.heap.size oo zz x.k wr.heap.size w2.heap.size #[.int .i64 x.k, .int .u64 x.a, .int .i64 x.n, .int .u64 x.v, .slice x.ab x.b.length x.cb, .bool x.t, .bool x.e, .bool x.s, .slice x.ai x.i.length x.ci] R (.slice y1 R.ram.length z1) (.slice y2 R.inp.length z2) (.slice y3 R.out.length z3) L' S' ur ui uo w5 → Calls Try.prog 22 #[.agg #[.pointer (some ⟨b, 0, none⟩), .pointer (some ⟨w3.heap.size, 0, none⟩)], .agg #[.int .i64 x.k, .int .u64 x.a, .int .i64 x.n, .int .u64 x.v, .slice x.ab x.b.length x.cb, .bool x.t, .bool x.e, .bool x.s, .slice x.ai x.i.length x.ci]] w5 fun e w' => e = .returned (.bool true) ∧ Below w5.heap.size w5 w') := fun L' S' ur ui uo w5 h => by
        have q := asks_c w5 h.k.p x.a x.n x.v (.slice x.ab x.b.length x.cb) (.slice x.ai x.i.length x.ci) x.t x.e x.s x.k HX.out.a HX.out.n
        rw [h.e] at q
        exact q
      have HOF : Hid (∀ L' S' ur ui uo w5, Ofr w1.heap.size w1 b w3.heap.size oo zz x.k wr.heap.size w2.heap.size #[.int .i64 x.k, .int .u64 x.a, .int .i64 x.n, .int .u64 x.v, .slice x.ab x.b.length x.cb, .bool x.t, .bool x.e, .bool x.s, .slice x.ai x.i.length x.ci] R (.slice y1 R.ram.length z1) (.slice y2 R.inp.length z2) (.slice y3 R.out.length z3) L' S' ur ui uo w5 → Calls Try.prog 23 #[.pointer (some ⟨b, 0, none⟩)] w5 fun e w' => e = .returned (.tuple #[.int .i64 oo, .int .i64 zz]) ∧ Below w5.heap.size w5 w') := fun L' S' ur ui uo w5 h => by
        have q := off_c w5 h.k.m.p
        rw [h.e, h.o, h.z] at q
        exact q
      have q0 : W4.cell? ⟨wr.heap.size, 0, none⟩ = some (.int .i64 x.k) := cell_of_row W4 _ 0 _ _ _ k1
      have q1 : W4.cell? ⟨wr.heap.size, 1, none⟩ = some (.int .u64 x.a) := cell_of_row W4 _ 1 _ _ _ k1
      have q2 : W4.cell? ⟨wr.heap.size, 2, none⟩ = some (.int .i64 x.n) := cell_of_row W4 _ 2 _ _ _ k1
      have q3 : W4.cell? ⟨wr.heap.size, 3, none⟩ = some (.int .u64 x.v) := cell_of_row W4 _ 3 _ _ _ k1
      have q4 : W4.cell? ⟨wr.heap.size, 4, none⟩ = some (.slice x.ab x.b.length x.cb) := cell_of_row W4 _ 4 _ _ _ k1
      have q5 : W4.cell? ⟨wr.heap.size, 5, none⟩ = some (.bool x.t) := cell_of_row W4 _ 5 _ _ _ k1
      have q6 : W4.cell? ⟨wr.heap.size, 6, none⟩ = some (.bool x.e) := cell_of_row W4 _ 6 _ _ _ k1
      have q7 : W4.cell? ⟨wr.heap.size, 7, none⟩ = some (.bool x.s) := cell_of_row W4 _ 7 _ _ _ k1
      have q8 : W4.cell? ⟨wr.heap.size, 8, none⟩ = some (.slice x.ai x.i.length x.ci) := cell_of_row W4 _ 8 _ _ _ k1
      have p0 : W4.cell? ⟨w3.heap.size + 1, 0, none⟩ = some (.pointer (some ⟨b, 0, none⟩)) := cell_of_row W4 _ 0 _ _ _ k3
      have p1 : W4.cell? ⟨w3.heap.size + 1, 1, none⟩ = some (.pointer (some ⟨w3.heap.size, 0, none⟩)) := cell_of_row W4 _ 1 _ _ _ k3
      rw [hW4]
      clear k1 k3 hW4 HSTA HCP HSV HB2 HSV3 HB3 x0 x1 x2 x3 x4 x5 x6 x7 x8 c15 HEL2
      go_upto_region 22 with (first | (go_at_call 24; refine HCH.out.mono ?_; rintro e w5 ⟨rfl, L5, S5, ur5, ui5, uo5, hf⟩; have a0 : w5.cell? ⟨wr.heap.size, 0, none⟩ = some (.int .i64 x.k) := cell_of_row w5 _ 0 _ _ _ hf.r1; have a1 : w5.cell? ⟨wr.heap.size, 1, none⟩ = some (.int .u64 x.a) := cell_of_row w5 _ 1 _ _ _ hf.r1; have a2 : w5.cell? ⟨wr.heap.size, 2, none⟩ = some (.int .i64 x.n) := cell_of_row w5 _ 2 _ _ _ hf.r1; have a3 : w5.cell? ⟨wr.heap.size, 3, none⟩ = some (.int .u64 x.v) := cell_of_row w5 _ 3 _ _ _ hf.r1; have a4 : w5.cell? ⟨wr.heap.size, 4, none⟩ = some (.slice x.ab x.b.length x.cb) := cell_of_row w5 _ 4 _ _ _ hf.r1; have a5 : w5.cell? ⟨wr.heap.size, 5, none⟩ = some (.bool x.t) := cell_of_row w5 _ 5 _ _ _ hf.r1; have a6 : w5.cell? ⟨wr.heap.size, 6, none⟩ = some (.bool x.e) := cell_of_row w5 _ 6 _ _ _ hf.r1; have a7 : w5.cell? ⟨wr.heap.size, 7, none⟩ = some (.bool x.s) := cell_of_row w5 _ 7 _ _ _ hf.r1; have a8 : w5.cell? ⟨wr.heap.size, 8, none⟩ = some (.slice x.ai x.i.length x.ci) := cell_of_row w5 _ 8 _ _ _ hf.r1; have c0 : w5.cell? ⟨w3.heap.size + 1, 0, none⟩ = some (.pointer (some ⟨b, 0, none⟩)) := cell_of_row w5 _ 0 _ _ _ hf.r3; have c1 : w5.cell? ⟨w3.heap.size + 1, 1, none⟩ = some (.pointer (some ⟨w3.heap.size, 0, none⟩)) := cell_of_row w5 _ 1 _ _ _ hf.r3; have HF5 : Hid (Ofr w1.heap.size w1 b w3.heap.size oo zz x.k wr.heap.size w2.heap.size #[.int .i64 x.k, .int .u64 x.a, .int .i64 x.n, .int .u64 x.v, .slice x.ab x.b.length x.cb, .bool x.t, .bool x.e, .bool x.s, .slice x.ai x.i.length x.ci] R (.slice y1 R.ram.length z1) (.slice y2 R.inp.length z2) (.slice y3 R.out.length z3) L5 S5 ur5 ui5 uo5 w5) := hf; clear hf) | (go_at_call 22; refine (HAS.out L5 S5 ur5 ui5 uo5 w5 HF5.out).mono ?_; rintro e w6 ⟨rfl, hb6⟩; have HF6 : Hid (Ofr w1.heap.size w1 b w3.heap.size oo zz x.k wr.heap.size w2.heap.size #[.int .i64 x.k, .int .u64 x.a, .int .i64 x.n, .int .u64 x.v, .slice x.ab x.b.length x.cb, .bool x.t, .bool x.e, .bool x.s, .slice x.ai x.i.length x.ci] R (.slice y1 R.ram.length z1) (.slice y2 R.inp.length z2) (.slice y3 R.out.length z3) L5 S5 ur5 ui5 uo5 w6) := Ofr.later HF5.out hb6; clear hb6) | (go_at_call 23; refine (HOF.out L5 S5 ur5 ui5 uo5 w6 HF6.out).mono ?_; rintro e w7 ⟨rfl, hb7⟩; have HF7 : Hid (Ofr w1.heap.size w1 b w3.heap.size oo zz x.k wr.heap.size w2.heap.size #[.int .i64 x.k, .int .u64 x.a, .int .i64 x.n, .int .u64 x.v, .slice x.ab x.b.length x.cb, .bool x.t, .bool x.e, .bool x.s, .slice x.ai x.i.length x.ci] R (.slice y1 R.ram.length z1) (.slice y2 R.inp.length z2) (.slice y3 R.out.length z3) L5 S5 ur5 ui5 uo5 w7) := Ofr.later HF6.out hb7; have m0 : w7.cell? ⟨wr.heap.size, 0, none⟩ = some (.int .i64 x.k) := cell_of_row w7 _ 0 _ _ _ HF7.out.r1; clear hb7))
      --@CUT4
      clear HCH HAS HOF HF5 HF6 a0 a1 a2 a3 a4 a5 a6 a7 a8 q0 q1 q2 q3 q4 q5 q6 q7 q8 p0 p1 c0 c1
      by_cases hk3 : x.k = 3
      · have hb3 : (x.k == 3) = true := by simp [hk3]
        have e5 : S5 = R := HF7.out.s3 hk3
        clear hk3
        subst e5
        have hR := HF7.out.k.s.n
        have HSP : Hid (∀ w9 : World, Below w7.heap.size w7 w9 → Calls Try.prog 11 #[.pointer (some ⟨b, 0, none⟩)] w9 fun e w' => ∃ ur ui uo, e = .returned (.agg (stc S5 ur ui uo)) ∧ Bs S5 ur ui uo w' ∧ Below w9.heap.size w9 w') := fun w9 hb => by
          have q := state_c w9 (HF7.out.later hb).k.m.p (by omega) (by omega) (by omega)
          rw [HF7.out.e] at q
          exact q.mono fun e w' ⟨x, y, z, h1, h2, h3⟩ => ⟨x, y, z, h1, h2.bs, h3⟩
        have HSM : Hid (SameC S5) := same_any S5
        have HCJ : Hid (∀ w' : World, Below w7.heap.size w7 w' → w'.cell? ⟨w2.heap.size, 0, none⟩ = some (.slice y1 S5.ram.length z1) ∧ w'.cell? ⟨w2.heap.size, 1, none⟩ = some (.int .u32 S5.msip) ∧ w'.cell? ⟨w2.heap.size, 2, none⟩ = some (.int .u64 S5.cmp) ∧ w'.cell? ⟨w2.heap.size, 3, none⟩ = some (.int .u64 S5.time) ∧ w'.cell? ⟨w2.heap.size, 4, none⟩ = some (.bool S5.ext) ∧ w'.cell? ⟨w2.heap.size, 5, none⟩ = some (.bool S5.soft) ∧ w'.cell? ⟨w2.heap.size, 6, none⟩ = some (.int .u8 S5.ier) ∧ w'.cell? ⟨w2.heap.size, 7, none⟩ = some (.int .u8 S5.lcr) ∧ w'.cell? ⟨w2.heap.size, 8, none⟩ = some (.int .u8 S5.mcr) ∧ w'.cell? ⟨w2.heap.size, 9, none⟩ = some (.int .u8 S5.scr) ∧ w'.cell? ⟨w2.heap.size, 10, none⟩ = some (.bool S5.ov) ∧ w'.cell? ⟨w2.heap.size, 11, none⟩ = some (.slice y2 S5.inp.length z2) ∧ w'.cell? ⟨w2.heap.size, 12, none⟩ = some (.slice y3 S5.out.length z3) ∧ w'.cell? ⟨w2.heap.size, 13, none⟩ = some (.int .i64 S5.off) ∧ w'.cell? ⟨w2.heap.size, 14, none⟩ = some (.int .i64 S5.code)) := fun w' hb => ⟨cell_of_row w' _ 0 _ _ _ (HF7.out.later hb).r2, cell_of_row w' _ 1 _ _ _ (HF7.out.later hb).r2, cell_of_row w' _ 2 _ _ _ (HF7.out.later hb).r2, cell_of_row w' _ 3 _ _ _ (HF7.out.later hb).r2, cell_of_row w' _ 4 _ _ _ (HF7.out.later hb).r2, cell_of_row w' _ 5 _ _ _ (HF7.out.later hb).r2, cell_of_row w' _ 6 _ _ _ (HF7.out.later hb).r2, cell_of_row w' _ 7 _ _ _ (HF7.out.later hb).r2, cell_of_row w' _ 8 _ _ _ (HF7.out.later hb).r2, cell_of_row w' _ 9 _ _ _ (HF7.out.later hb).r2, cell_of_row w' _ 10 _ _ _ (HF7.out.later hb).r2, cell_of_row w' _ 11 _ _ _ (HF7.out.later hb).r2, cell_of_row w' _ 12 _ _ _ (HF7.out.later hb).r2, cell_of_row w' _ 13 _ _ _ (HF7.out.later hb).r2, cell_of_row w' _ 14 _ _ _ (HF7.out.later hb).r2⟩
        have HBS : Hid (∀ w' : World, Below w7.heap.size w7 w' → Bs S5 (.slice y1 S5.ram.length z1) (.slice y2 S5.inp.length z2) (.slice y3 S5.out.length z3) w') := fun w' hb => (HF7.out.later hb).bs
        clear hR
        go_upto_region 23 with fail
        go_region_held3 (fun w' => w'.cell? ⟨w2.heap.size, 0, none⟩ = some (.slice y1 S5.ram.length z1) ∧ w'.cell? ⟨w2.heap.size, 1, none⟩ = some (.int .u32 S5.msip) ∧ w'.cell? ⟨w2.heap.size, 2, none⟩ = some (.int .u64 S5.cmp) ∧ w'.cell? ⟨w2.heap.size, 3, none⟩ = some (.int .u64 S5.time) ∧ w'.cell? ⟨w2.heap.size, 4, none⟩ = some (.bool S5.ext) ∧ w'.cell? ⟨w2.heap.size, 5, none⟩ = some (.bool S5.soft) ∧ w'.cell? ⟨w2.heap.size, 6, none⟩ = some (.int .u8 S5.ier) ∧ w'.cell? ⟨w2.heap.size, 7, none⟩ = some (.int .u8 S5.lcr) ∧ w'.cell? ⟨w2.heap.size, 8, none⟩ = some (.int .u8 S5.mcr) ∧ w'.cell? ⟨w2.heap.size, 9, none⟩ = some (.int .u8 S5.scr) ∧ w'.cell? ⟨w2.heap.size, 10, none⟩ = some (.bool S5.ov) ∧ w'.cell? ⟨w2.heap.size, 11, none⟩ = some (.slice y2 S5.inp.length z2) ∧ w'.cell? ⟨w2.heap.size, 12, none⟩ = some (.slice y3 S5.out.length z3) ∧ w'.cell? ⟨w2.heap.size, 13, none⟩ = some (.int .i64 S5.off) ∧ w'.cell? ⟨w2.heap.size, 14, none⟩ = some (.int .i64 S5.code)) (first | exact HCJ.out _ (Below.refl _ _) | exact HCJ.out _ (Below.drew (Below.refl _ _)) | exact hcj2 | exact hcj1)
          (first | (go_at_call 11; refine (HSP.out _ ?_).mono ?_; exact Below.drew (Below.refl _ _); rintro e w8 ⟨a1, a2, a3, rfl, hby, hb1⟩; have HB8 : Hid (Below w7.heap.size w7 w8) := undrew hb1; have hcj1 := HCJ.out w8 HB8.out; have HY1 : Hid (Bs S5 a1 a2 a3 w8) := hby; clear hb1 hby) | (go_at_call 14; refine (HSM.out a1 a2 a3 (.slice y1 S5.ram.length z1) (.slice y2 S5.inp.length z2) (.slice y3 S5.out.length z3) w8 HY1.out (HBS.out w8 HB8.out)).mono ?_; rintro e w9 ⟨rfl, hb9⟩; have HB9 : Hid (Below w7.heap.size w7 w9) := HB8.out.trans (hb9.mono HB8.out.size); have hcj2 := HCJ.out w9 HB9.out; clear hb9))
        all_goals go_wp2
        all_goals go_roundw
        all_goals first | exact ⟨j + 1, L5, S5, by omega, by go_num, (HF7.out.later HB9.out).pof⟩ | (simp [intOf] <;> omega)
      · have hb3 : (x.k == 3) = false := by simp [hk3]
        clear hk3
        go_wp2
        go_roundw
        all_goals first | exact ⟨j + 1, L5, S5, by omega, by go_num, HF7.out.pof⟩ | (simp [intOf] <;> omega)
    · obtain rfl : j = O.length := by omega
      go_wp2
      go_ret
      exact ⟨rfl, HBA.out _ hst.out.be⟩
end Go.Proofs.Ytjckdgdpnlfglaa
