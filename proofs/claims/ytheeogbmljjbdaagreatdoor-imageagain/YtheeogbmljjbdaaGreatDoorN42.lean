/-
  Ize.
-/
import Derived.Test.YtheeogbmljjbdaaGreatDoorN41
import Derived.Deep.RegionWith
namespace Go.Proofs.YtheeogbmljjbdaaGreatDoor
set_option linter.unusedVariables false
set_option maxRecDepth 100000
open Go.ChangeShapes Go.WideShapes Go.ChangeAt Go.RowKit Go.Deep
set_option maxHeartbeats 8000000 in
theorem first_c (w : World) (hT : Tabs w) (hE : EtW w) :
    Calls Tryz.prog 9 #[] w fun e w' => e = .returned (.bool true) ∧ Below w.heap.size w w' := by
  have HTB : Hid (∀ w', Below w.heap.size w w' → Tabs w') := fun w' hb => hT.below hb rfl
  have HET : Hid (∀ w', Below w.heap.size w w' → EtW w') := fun w' hb => hE.below hb rfl
  have cSa : Hid (∀ wx, Calls Tryz.prog 21 #[] wx fun e w' => ∃ xs1 xs2 xs3 xn1 xn2 xn3 m c, e = .returned (.agg #[.int .u64 (n64 2147483648#64), .slice xs1 xs2 xs3, .slice xn1 xn2 xn3]) ∧ Img w' (.slice xs1 xs2 xs3) (.slice xn1 xn2 xn3) (smL m c) smN ∧ Dta w' (smL m c) smD ∧ Below wx.heap.size wx w') := fun wx => (sample_c wx).mono fun e w' ⟨vs, vn, m, c, he, hi, hd, hb⟩ => by
    obtain ⟨a1, a2, rfl, _⟩ := hi.segs
    obtain ⟨b1, b2, rfl, _⟩ := hi.syms
    exact ⟨_, _, _, _, _, _, m, c, he, hi, hd, hb⟩
  have cWr : Hid (∀ wx vs vn m c, Below w.heap.size w wx → Img wx vs vn (smL m c) smN → Dta wx (smL m c) smD → Calls Tryz.prog 12 #[.agg #[.int .u64 (n64 2147483648#64), vs, vn]] wx fun e w' => ∃ a cap, e = .returned (.tuple #[.slice a 472 cap, .int .i64 0]) ∧ Byt w' (.slice a 472 cap) smB ∧ Below wx.heap.size wx w') := fun wx vs vn m c hx hi hd => sm_write wx vs vn m c hi hd (HTB.out _ hx)
  have cRd : Hid (∀ wx vb, Below w.heap.size w wx → Byt wx vb smB → Calls Tryz.prog 14 #[vb] wx fun e w' => ∃ um un uc vm vn vc L, e = .returned (.tuple #[.agg #[.int .u64 (n64 2147483648#64), .slice um un uc, .slice vm vn vc], .nilIface]) ∧ ImO smB wx.heap.size w' (.slice um un uc) (.slice vm vn vc) L ∧ Below wx.heap.size wx w') := fun wx vb hx hv => (sm_read wx vb hv (HTB.out _ hx) (HET.out _ hx)).mono fun e w' ⟨u, v, L, he, hi, hb⟩ => by
    obtain ⟨um, un, uc, rfl⟩ := own_slice hi.segs
    obtain ⟨vm, vn, vc, rfl⟩ := own_slice hi.syms
    exact ⟨_, _, _, _, _, _, L, he, hi, hb⟩
  have cRn : Hid (∀ wx, Below w.heap.size w wx → Calls Tryz.prog 14 #[.slice none 0 0] wx fun e w' => ∃ g, e = .returned (.tuple #[.agg #[.int .u64 0, .slice none 0 0, .slice none 0 0], .iface 79 (.pointer (some ⟨g, 0, none⟩))]) ∧ Below wx.heap.size wx w') := fun wx hx => nil_read wx (HTB.out _ hx) (HET.out _ hx)
  have cAl : Hid (∀ wx B u v vs vn L m c, ImO smB B wx u v L → Img wx vs vn (smL m c) smN → Dta wx (smL m c) smD → Calls Tryz.prog 15 #[.agg #[.int .u64 (n64 2147483648#64), u, v], .agg #[.int .u64 (n64 2147483648#64), vs, vn]] wx fun e w' => e = .returned (.bool true) ∧ Below wx.heap.size wx w') := fun wx B u v vs vn L m c h hi hd => sm_alike h m c hi hd
  have hnum : Hid (∀ W, Calls Tryz.prog 13 #[.int .i64 0] W fun e w' => e = .returned (.int .i64 0) ∧ w' = W) := fun W => num_c _ W
  generalize n64 2147483648#64 = EN at cSa cWr cRd cAl
  clear hT hE
  go_enter Tryz.func9, Tryz.ntmps9
  go_upto_region 2 with (first | (go_at_call 21; refine (cSa.out _).mono ?_; rintro e w1 ⟨xs1, xs2, xs3, xn1, xn2, xn3, m, c, rfl, q1, q2, q3⟩; have HI1 := Hid.mkI q1; have HD1 := Hid.mkI q2; have H1 := Hid.mkI q3; clear q1 q2 q3) | (go_at_call 12; refine (cWr.out _ _ _ _ _ H1.out HI1.out HD1.out).mono ?_; rintro e w2 ⟨a, cap, rfl, q1, q2⟩; have HY2 := Hid.mkI q1; have H2 : Hid (Below w.heap.size w w2) := H1.out.trans (q2.mono H1.out.size); clear q1 q2))
  clear cWr HI1 HD1
  --@M0
  go_upto_region 4 with (go_at_call 13; refine (hnum.out _).mono ?_; rintro e wz ⟨rfl, hwz⟩; rw [hwz]; clear hwz)
  --@M1
  go_upto_region 5 with (go_at_call 14; refine (cRd.out _ _ H2.out HY2.out).mono ?_; rintro e w3 ⟨um, un, uc, vm, vn, vc, L, rfl, q1, q2⟩; have HI3 := Hid.mkI q1; have B3 := Hid.mkI q2; have H3 : Hid (Below w.heap.size w w3) := H2.out.trans (q2.mono H2.out.size); clear q1 q2)
  --@M2
  refine on_w (motive := fun W => Code.wp _ _ _ _ W) (Q := fun W => W.heap[w3.heap.size]? = some (.cells #[.int .u64 EN, .slice um un uc, .slice vm vn vc] 26 (0, 0)) ∧ Below w3.heap.size w3 W) ⟨heap_alloc_new w3 _, below_al _⟩ ?_
  generalize hgA : w3.heap.size = gA
  rintro W4 ⟨s1, s2⟩
  have RA := Hid.mkI s1
  have HI4 : Hid (ImO smB w2.heap.size W4 (.slice um un uc) (.slice vm vn vc) L) := HI3.out.below (by rw [hgA]; exact s2)
  have H4 : Hid (Below w.heap.size w W4) := H3.out.trans (s2.mono (by rw [← hgA]; exact H3.out.size))
  clear s1 s2 hgA HI3
  go_upto_region 6 with (go_at_call 14; refine (cRn.out _ H4.out).mono ?_; rintro e w5 ⟨gf, rfl, q2⟩; have B5 := Hid.mkI q2; clear q2)
  --@M3
  refine on_w (motive := fun W => Code.wp _ _ _ _ W) (Q := fun W => Below w5.heap.size w5 W) (below_al _) ?_
  intro W6 s1
  have B46 : Hid (Below W4.heap.size W4 W6) := B5.out.trans (s1.mono B5.out.size)
  have RA6 : Hid (∀ W, Below W6.heap.size W6 W → W.heap[gA]? = some (.cells #[.int .u64 EN, .slice um un uc, .slice vm vn vc] 26 (0, 0))) := fun W hb => (((B46.out.trans (hb.mono B46.out.size))).block gA (heap_lt RA.out)).trans RA.out
  have HI6 : Hid (∀ W, Below W6.heap.size W6 W → ImO smB w2.heap.size W (.slice um un uc) (.slice vm vn vc) L) := fun W hb => HI4.out.below (B46.out.trans (hb.mono B46.out.size))
  have H6 : Hid (∀ W, Below W6.heap.size W6 W → Below w.heap.size w W) := fun W hb => H4.out.trans ((B46.out.trans (hb.mono B46.out.size)).mono H4.out.size)
  have hnil : ∀ w : World, (binOp .eql 36 .nilIface .nilIface).run Tryz.prog w = .ok (.bool true) w := fun w => by kernel_rfl
  have heg : ∀ (w : World), (eqGuard .eql 36 (.tmp 29) (.const .nilIface) .nilIface .nilIface).run Tryz.prog w = .ok () w := fun w => by kernel_rfl
  have hnf : ∀ w : World, (binOp .neq 36 (.iface 79 (.pointer (some ⟨gf, 0, none⟩))) .nilIface).run Tryz.prog w = .ok (.bool true) w := fun w => by kernel_rfl
  have hnfg : ∀ (w : World), (eqGuard .neq 36 (.tmp 32) (.const .nilIface) (.iface 79 (.pointer (some ⟨gf, 0, none⟩))) .nilIface).run Tryz.prog w = .ok () w := fun w => by kernel_rfl
  have BD : Hid (Below W6.heap.size W6 W6.drew) := Below.drew (Below.refl _ _)
  have r0 := RA6.out _ BD.out
  have a0 := cell_of_row _ gA 0 _ _ _ r0
  have a1 := cell_of_row _ gA 1 _ _ _ r0
  have a2 := cell_of_row _ gA 2 _ _ _ r0
  clear r0 s1 RA HI4 B5 H4 HTB HET cRd cRn hnum B46 H3 H2 HY2 B3
  --@M4
  go_region_with (first | (go_at_call 21; refine (cSa.out _).mono ?_; rintro e w7 ⟨xs1, xs2, xs3, xn1, xn2, xn3, m, c, rfl, q1, q2, q3⟩; have HI7 := Hid.mkI q1; have HD7 := Hid.mkI q2; have B7 : Hid (Below W6.heap.size W6 w7) := BD.out.trans (q3.mono BD.out.size); have r0 := RA6.out _ B7.out; have b0 := cell_of_row _ gA 0 _ _ _ r0; have b1 := cell_of_row _ gA 1 _ _ _ r0; have b2 := cell_of_row _ gA 2 _ _ _ r0; clear q1 q2 q3 r0) | (go_at_call 15; refine (cAl.out _ _ _ _ _ _ _ _ _ (HI6.out _ B7.out) HI7.out HD7.out).mono ?_; rintro e w8 ⟨rfl, q1⟩; have B8 : Hid (Below W6.heap.size W6 w8) := B7.out.trans (q1.mono B7.out.size); clear q1))
  all_goals
    go_wp2_with fail
    go_ret
    exact ⟨rfl, H6.out _ B8.out⟩
end Go.Proofs.YtheeogbmljjbdaaGreatDoor
