/-
  ImageBack: its walk.
-/
import Derived.Test.YtheeogbmljjbdaaGreatDoorN43
import Derived.Deep.RegionWith
namespace Go.Proofs.YtheeogbmljjbdaaGreatDoor
set_option linter.unusedVariables false
set_option maxRecDepth 100000
open Go.ChangeShapes Go.WideShapes Go.ChangeAt Go.RowKit Go.Deep
set_option maxHeartbeats 8000000 in
theorem back_c (E : BitVec 64) (vs vn : Value) (L : List Sg) (N : List Sy) (D : Nat → List Int) (w : World) (h : Arg w vs vn L N D) (hT : Tabs w) (hE : EtW w) :
    Calls Tryz.prog 3 #[.agg #[.int .u64 (n64 E), vs, vn]] w fun e w' => e = .returned (.bool true) ∧ Below w.heap.size w w' := by
  obtain ⟨sa, sc, rfl, _⟩ := h.im.segs
  obtain ⟨na, nc, rfl, _⟩ := h.im.syms
  generalize L.length = ln at *
  generalize N.length = nn at *
  obtain ⟨R, hR⟩ : ∃ R, R = ck E L N := ⟨_, rfl⟩
  have HA : Hid (∀ w', Below w.heap.size w w' → Arg w' (.slice sa ln sc) (.slice na nn nc) L N D) := fun w' hb => h.later hb
  have cFi : Hid (∀ wx, Below w.heap.size w wx → Calls Tryz.prog 9 #[] wx fun e w' => e = .returned (.bool true) ∧ Below wx.heap.size wx w') := fun wx hx => first_c wx (hT.below hx rfl) (hE.below hx rfl)
  have cTw : Hid (∀ wx, Below w.heap.size w wx → Calls Tryz.prog 11 #[.agg #[.int .u64 (n64 E), .slice sa ln sc, .slice na nn nc]] wx fun e w' => ∃ a1 a2 a3 b1 b2 b3 M, e = .returned (.agg #[.int .u64 (n64 E), .slice a1 a2 a3, .slice b1 b2 b3]) ∧ (Alike L M ∧ Img w' (.slice a1 a2 a3) (.slice b1 b2 b3) M N ∧ Dta w' M D) ∧ Below wx.heap.size wx w') := fun wx hx => ((HA.out wx hx).twin E).mono fun e w' ⟨a1, a2, a3, b1, b2, b3, M, he, q1, q2, q3, q4⟩ => ⟨a1, a2, a3, b1, b2, b3, M, he, ⟨q1, q2, q3⟩, q4⟩
  have cCk : Hid (∀ wx us un M, Below w.heap.size w wx → (Alike L M ∧ Img wx us un M N ∧ Dta wx M D) → Calls Tryz.prog 10 #[.agg #[.int .u64 (n64 E), us, un]] wx fun e w' => e = .returned (.int .i64 R) ∧ Below wx.heap.size wx w') := fun wx us un M hx hq => (check_l E hq.1 (by have := h.nL; omega) (by have := h.nN; omega) hq.2.1 (hT.below hx rfl) R hR).mono fun e w' ⟨h1, h2⟩ => ⟨h1, h2.out⟩
  have cWr : Hid (∀ wx us un M, Below w.heap.size w wx → (Alike L M ∧ Img wx us un M N ∧ Dta wx M D) → Calls Tryz.prog 12 #[.agg #[.int .u64 (n64 E), us, un]] wx fun e w' => ∃ a n cap, e = .returned (.tuple #[.slice a n cap, .int .i64 R]) ∧ n = (ans E L N D).length ∧ Byt w' (.slice a n cap) (ans E L N D) ∧ Below wx.heap.size wx w') := fun wx us un M hx hq => (h.write E hq.1 hq.2.1 hq.2.2 (hT.below hx rfl) R hR).mono fun e w' ⟨a, n, cap, h1, h2, h3, _, h5⟩ => ⟨a, n, cap, h1, h2, h3, h5⟩
  have cRd : Hid (R = 0 → ∀ wx vb, Below w.heap.size w wx → Byt wx vb (ans E L N D) → Calls Tryz.prog 14 #[vb] wx fun e w' => ∃ um un uc vm vn vc L', e = .returned (.tuple #[.agg #[.int .u64 (n64 E), .slice um un uc, .slice vm vn vc], .nilIface]) ∧ (Alike L L' ∧ Dta w' L' D ∧ Imq w' (.slice um un uc) (.slice vm vn vc) L' N) ∧ Below wx.heap.size wx w') := fun h0 wx vb hx hv => (nd_read (h.nd E (hR.symm.trans h0)).1 (hR.symm.trans h0) (h.nd E (hR.symm.trans h0)).2.1 vb wx hv (hT.below hx rfl) (hE.below hx rfl)).mono fun e w' ⟨um, un, uc, vm, vn, vc, L', he, q1, q2, q3, q4⟩ => ⟨um, un, uc, vm, vn, vc, L', he, ⟨q1, q2, q3⟩, q4⟩
  have cAl : Hid (∀ wx u v L', Below w.heap.size w wx → (Alike L L' ∧ Dta wx L' D ∧ Imq wx u v L' N) → Calls Tryz.prog 15 #[.agg #[.int .u64 (n64 E), u, v], .agg #[.int .u64 (n64 E), .slice sa ln sc, .slice na nn nc]] wx fun e w' => e = .returned (.bool true) ∧ Below wx.heap.size wx w') := fun wx u v L' hx hq => (HA.out wx hx).alike E hq.1 hq.2.1 hq.2.2
  have hlen : Hid (R = 0 → (ans E L N D).length ≤ 200000) := fun h0 => (h.nd E (hR.symm.trans h0)).2.2
  have hno : Hid (¬ R = 0 → ans E L N D = []) := fun h0 => ans_no (fun q => h0 (hR.trans q))
  have hnum : Hid (∀ z W, Calls Tryz.prog 13 #[.int .i64 z] W fun e w' => e = .returned (.int .i64 z) ∧ w' = W) := fun z W => num_c z W
  generalize ans E L N D = AN at cWr cRd hlen hno
  clear HA hT hE h hR
  generalize n64 E = EN at *
  go_enter Tryz.func3, Tryz.ntmps3
  go_upto_region 1 with fail
  refine on_w (motive := fun W => Code.wp _ _ _ _ W) (Q := fun W => W.heap[w.heap.size]? = some (.cells #[.int .u64 EN, .slice sa ln sc, .slice na nn nc] 26 (0, 0)) ∧ Below w.heap.size w W) ⟨heap_alloc_new w _, below_al _⟩ ?_
  generalize hgI : w.heap.size = gI
  rintro W1 ⟨s1, s2⟩
  have RI : Hid (∀ W, Below W1.heap.size W1 W → W.heap[gI]? = some (.cells #[.int .u64 EN, .slice sa ln sc, .slice na nn nc] 26 (0, 0))) := fun W hb => (hb.block gI (heap_lt s1)).trans s1
  have H1 : Hid (∀ W, Below W1.heap.size W1 W → Below w.heap.size w W) := fun W hb => by rw [hgI]; exact s2.trans (hb.mono (Nat.le_of_lt (heap_lt s1)))
  have HG := Hid.mkI hgI
  have B1 : Hid (Below W1.heap.size W1 W1) := Below.refl _ _
  clear s1 s2 hgI
  --@M0
  go_upto_region 3 with (go_at_call 9; refine (cFi.out _ (H1.out _ B1.out)).mono ?_; rintro e w2 ⟨rfl, q1⟩; have B2 : Hid (Below W1.heap.size W1 w2) := B1.out.trans (q1.mono B1.out.size); have r0 := RI.out _ B2.out; have b0 := cell_of_row _ gI 0 _ _ _ r0; have b1 := cell_of_row _ gI 1 _ _ _ r0; have b2 := cell_of_row _ gI 2 _ _ _ r0; clear q1 r0 cFi)
  --@M1
  go_upto_region 4 with (first | (go_at_call 11; refine (cTw.out _ (H1.out _ B2.out)).mono ?_; rintro e w3 ⟨a1, a2, a3, c1, c2, c3, M, rfl, q1, q2⟩; have HM3 := Hid.mkI q1; have B3 : Hid (Below W1.heap.size W1 w3) := B2.out.trans (q2.mono B2.out.size); clear q1 q2) | (go_at_call 10; refine (cCk.out _ _ _ _ (H1.out _ B3.out) HM3.out).mono ?_; rintro e w4 ⟨rfl, q1⟩; have B4 : Hid (Below W1.heap.size W1 w4) := B3.out.trans (q1.mono B3.out.size); have r0 := RI.out _ B4.out; have d0 := cell_of_row _ gI 0 _ _ _ r0; have d1 := cell_of_row _ gI 1 _ _ _ r0; have d2 := cell_of_row _ gI 2 _ _ _ r0; clear q1 r0))
  clear cCk HM3 b0 b1 b2
  --@M2
  go_upto_region 5 with (first | (go_at_call 11; refine (cTw.out _ (H1.out _ B4.out)).mono ?_; rintro e w5 ⟨f1, f2, f3, g1, g2, g3, M5, rfl, q1, q2⟩; have HM5 := Hid.mkI q1; have B5 : Hid (Below W1.heap.size W1 w5) := B4.out.trans (q2.mono B4.out.size); clear q1 q2) | (go_at_call 12; refine (cWr.out _ _ _ _ (H1.out _ B5.out) HM5.out).mono ?_; rintro e w6 ⟨av, n, cap, rfl, q0, q1, q2⟩; have HN := Hid.mkI q0; have HY6 := Hid.mkI q1; have B6 : Hid (Below W1.heap.size W1 w6) := B5.out.trans (q2.mono B5.out.size); clear q0 q1 q2))
  clear cWr cTw HM5 d0 d1 d2
  --@M3
  by_cases hR0 : R = 0
  · have cR := Hid.mkI (cRd.out hR0)
    have hl : (n : Int) ≤ 200000 := by have := hlen.out hR0; have := HN.out; omega
    subst hR0
    clear cRd hlen hno
    --@M4
    go_upto_region 8 with (first | (go_at_call 13; refine (hnum.out _ _).mono ?_; rintro e wz ⟨rfl, hwz⟩; rw [hwz]; clear hwz) | (go_at_call 14; refine (cR.out _ _ (H1.out _ B6.out) HY6.out).mono ?_; rintro e w7 ⟨um, un, uc, vm, vn, vc, L', rfl, q1, q2⟩; have HM7 := Hid.mkI q1; have B7 : Hid (Below W1.heap.size W1 w7) := B6.out.trans (q2.mono B6.out.size); clear q1 q2))
    --@M5
    refine on_w (motive := fun W => Code.wp _ _ _ _ W) (Q := fun W => W.heap[w7.heap.size]? = some (.cells #[.int .u64 EN, .slice um un uc, .slice vm vn vc] 26 (0, 0)) ∧ Below w7.heap.size w7 W) ⟨heap_alloc_new w7 _, below_al _⟩ ?_
    generalize hgA : w7.heap.size = gA
    rintro W8 ⟨s1, s2⟩
    have RA : Hid (∀ W, Below W8.heap.size W8 W → W.heap[gA]? = some (.cells #[.int .u64 EN, .slice um un uc, .slice vm vn vc] 26 (0, 0))) := fun W hb => (hb.block gA (heap_lt s1)).trans s1
    have B78 : Hid (Below w7.heap.size w7 W8) := by rw [hgA]; exact s2
    have H8 : Hid (∀ W, Below W8.heap.size W8 W → Below W1.heap.size W1 W) := fun W hb => B7.out.trans ((B78.out.trans (hb.mono B78.out.size)).mono B7.out.size)
    have HM8 : Hid (∀ W, Below W8.heap.size W8 W → (Alike L L' ∧ Dta W L' D ∧ Imq W (.slice um un uc) (.slice vm vn vc) L' N)) := fun W hb => ⟨HM7.out.1, HM7.out.2.1.later (B78.out.trans (hb.mono B78.out.size)), ⟨HM7.out.2.2.segs.later (B78.out.trans (hb.mono B78.out.size)) rfl, HM7.out.2.2.syms.later (B78.out.trans (hb.mono B78.out.size)) rfl⟩⟩
    have hnil : ∀ w : World, (binOp .eql 36 .nilIface .nilIface).run Tryz.prog w = .ok (.bool true) w := fun w => by kernel_rfl
    have heg : ∀ (w : World), (eqGuard .eql 36 (.tmp 39) (.const .nilIface) .nilIface .nilIface).run Tryz.prog w = .ok () w := fun w => by kernel_rfl
    have BD : Hid (Below W8.heap.size W8 W8) := Below.refl _ _
    have r0 := RA.out _ BD.out
    have a0 := cell_of_row _ gA 0 _ _ _ r0
    have a1 := cell_of_row _ gA 1 _ _ _ r0
    have a2 := cell_of_row _ gA 2 _ _ _ r0
    have r1 := RI.out _ (H8.out _ BD.out)
    have b0 := cell_of_row _ gI 0 _ _ _ r1
    have b1 := cell_of_row _ gI 1 _ _ _ r1
    have b2 := cell_of_row _ gI 2 _ _ _ r1
    clear r0 r1 s1 s2 hgA HM7 B7 cR HN HY6 B6 B5 B4 B3 B2 B78
    --@M6
    go_wp2_with (first | (go_at_call 13; refine (hnum.out _ _).mono ?_; rintro e wz ⟨rfl, hwz⟩; rw [hwz]; clear hwz) | (go_at_call 15; refine (cAl.out _ _ _ _ (H1.out _ (H8.out _ BD.out)) (HM8.out _ BD.out)).mono ?_; rintro e w9 ⟨rfl, q1⟩; have B9 : Hid (Below W8.heap.size W8 w9) := BD.out.trans (q1.mono BD.out.size); clear q1))
    go_ret
    exact ⟨rfl, H1.out _ (H8.out _ B9.out)⟩
  · have hn0 : n = 0 := by have := HN.out; rw [hno.out hR0] at this; exact this
    subst hn0
    clear cRd hlen hno HN HY6
    --@M7
    go_wp2_with (go_at_call 13; refine (hnum.out _ _).mono ?_; rintro e wz ⟨rfl, hwz⟩; rw [hwz]; clear hwz)
    go_ret
    exact ⟨rfl, H1.out _ B6.out⟩
end Go.Proofs.YtheeogbmljjbdaaGreatDoor
