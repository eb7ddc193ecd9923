/-
  ImageAgain: its walk.
-/
import Derived.Test.YtheeogbmljjbdaaGreatDoorNIzm
import Derived.Test.YtheeogbmljjbdaaGreatDoorN43
import Derived.Deep.RegionWith
namespace Go.Proofs.YtheeogbmljjbdaaGreatDoor
set_option linter.unusedVariables false
set_option maxRecDepth 100000
open Go.ChangeShapes Go.WideShapes Go.ChangeAt Go.RowKit Go.Deep
theorem ptD_all {b : List Int} (hB : AllB b) (l : List Pt) (j : Nat) : AllB (ptD b l j) := fun x hx => hB x (List.mem_of_mem_drop (List.mem_of_mem_take hx))
theorem ImO.arg {b : List Int} (hB : AllB b) (h : rdF b = none) {B : Nat} {w : World} {u v : Value} {L : List Sg} (hi : ImO b B w u v L) : Arg w u v L (nSrt (nsR b).1) (ptD b (paL b)) := by
  obtain ⟨_, hL, hN⟩ := ck_rd hB h hi.data (BitVec.ofNat 64 (vl b 24 8)) (by rw [BitVec.toNat_ofNat, Nat.mod_eq_of_lt (vl_lt8 hB 24 8 (by omega))])
  have hb := (rdF_no h).1
  refine ⟨⟨hi.imq.segs, hi.imq.syms, fun j hj => ?_, fun j hj => ?_⟩, hi.data.dta, fun j _ => ptD_all hB _ j, fun c k e => ?_, by omega, by omega⟩
  · have q := (hi.data.dta j hj).1
    have q2 : (ptD b (paL b) j).length ≤ b.length := by unfold ptD; rw [List.length_take, List.length_drop]; omega
    omega
  · have hp : (nSrt (nsR b).1).Perm (nsR b).1 := List.mergeSort_perm _ _
    have q := nm_room ((nsR_ok b).2 (sy (nSrt (nsR b).1) j) (hp.mem_iff.1 (by rw [sy_getZ _ j hj]; exact List.getElem_mem hj)))
    omega
  · rcases hi.syms.2 with ⟨h', _⟩ | ⟨g, cap, cur, h', _⟩
    · rw [h'] at e; simp only [Value.slice.injEq] at e; omega
    · rw [h'] at e; simp at e
set_option maxHeartbeats 8000000 in
theorem again_f {b : List Int} (hB : AllB b) (hbl : b.length ≤ 140737488351232) (a : Option Addr) (cap : Nat) (w : World) (hv : Byt w (.slice a b.length cap) b) (hT : Tabs w) (hE : EtW w) (F : Nat × Nat) (hF : rdF b = some F) :
    Calls Tryz.prog 5 #[.slice a b.length cap] w fun e w' => e = .returned (.bool true) ∧ Below w.heap.size w w' := by
  have HV : Hid (∀ w', Below w.heap.size w w' → Byt w' (.slice a b.length cap) b) := fun w' hb => hv.later hb rfl
  have HBL := Hid.mkI hbl
  have cFi : Hid (Calls Tryz.prog 9 #[] w fun e w' => e = .returned (.bool true) ∧ Below w.heap.size w w') := first_c w hT hE
  have cRd : Hid (∀ wx vb, Below w.heap.size w wx → Byt wx vb b → Calls Tryz.prog 14 #[vb] wx fun e w' => ∃ g, e = .returned (.tuple #[.agg #[.int .u64 0, .slice none 0 0, .slice none 0 0], .iface 79 (.pointer (some ⟨g, 0, none⟩))]) ∧ Below wx.heap.size wx w') := fun wx vb hx hv => by
    refine (read_c hB (by omega) vb wx hv (hT.below hx rfl) (hE.below hx rfl)).mono ?_
    rintro e w' (⟨q, _⟩ | ⟨F', g, _, rfl, _, _, hb⟩)
    · rw [hF] at q; cases q
    · exact ⟨g, rfl, hb⟩
  have cAl : Hid (∀ wx, Calls Tryz.prog 15 #[.agg #[.int .u64 0, .slice none 0 0, .slice none 0 0], .agg #[.int .u64 0, .slice none 0 0, .slice none 0 0]] wx fun e w' => e = .returned (.bool true) ∧ Below wx.heap.size wx w') := fun wx => alike_nil wx
  have hl0 : Hid (b.length ≤ 140737488351232) := hbl
  generalize b.length = n at *
  clear hv hT hE hF hB hbl
  go_enter Tryz.func5, Tryz.ntmps5
  go_upto_region 3 with (go_at_call 9; refine cFi.out.mono ?_; rintro e w2 ⟨rfl, q1⟩; have B2 := Hid.mkI q1; clear q1 cFi)
  --@M0
  have HO2 : Hid (Owb w2.heap.size (w2.alloc (.cells #[] 5)) (.slice (some ⟨w2.heap.size, 0, none⟩) 0 0) []) := World.ownsRow_made w2 #[] 0 (Nat.le_refl _) (Nat.zero_le _) rfl
  have HV2 : Hid (Byt (w2.alloc (.cells #[] 5)) (.slice a n cap) b) := HV.out _ (B2.out.trans ((below_al _).mono B2.out.size))
  have HF2 : Hid (Fr w2.heap.size w2 (w2.alloc (.cells #[] 5))) := (Fr.refl _ _).alloc (Nat.le_refl _) _
  have HLB : Hid (([] : List Int).length + b.length ≤ 140737488355328) := by
    obtain ⟨_, _, e, _⟩ := HV2.out
    simp only [Value.slice.injEq] at e
    have := hl0.out
    unfold Hid; simp; omega
  obtain ⟨B, hB⟩ : ∃ B, B = w2.heap.size := ⟨_, rfl⟩
  have HB0 := Hid.mkI hB
  have hBs : B ≤ (w2.alloc (.cells #[] 5)).heap.size := by rw [hB]; simp
  have HO3 : Hid (Owb B (w2.alloc (.cells #[] 5)) (.slice (some ⟨w2.heap.size, 0, none⟩) 0 0) []) := by unfold Hid; rw [hB]; exact HO2.out
  rw [← hB] at HF2
  clear hB HO2
  --@M1
  go_upto_region 4 with (first | (at_builtin; refine appZ (by rfl) _ _ (by rfl) B _ _ [] b (by rfl) HO3.out (by rfl) HV2.out HLB.out hBs ?_; intro v1 W1 ho1 hf1; have HY1 := Hid.mkI (Byt.of_own ho1); have H1 : Hid (Below w.heap.size w W1) := (by have q := (HF2.out.trans hf1).b; rw [HB0.out] at q; exact B2.out.trans (q.mono B2.out.size)); clear ho1 hf1) | (go_at_call 14; refine (cRd.out _ _ H1.out (by exact HY1.out)).mono ?_; rintro e w3 ⟨gf, rfl, q2⟩; have H3 : Hid (Below w.heap.size w w3) := H1.out.trans (q2.mono H1.out.size); clear q2))
  clear cRd HY1 H1 HO3 HV2 HF2 hBs
  --@M2
  refine on_w (motive := fun W => Code.wp _ _ _ _ W) (Q := fun W => W.heap[w3.heap.size]? = some (.cells #[.int .u64 0, .slice none 0 0, .slice none 0 0] 26 (0, 0)) ∧ Below w3.heap.size w3 W) ⟨heap_alloc_new w3 _, below_al _⟩ ?_
  generalize hgI : w3.heap.size = gI
  rintro W4 ⟨s1, s2⟩
  have H4 : Hid (Below w.heap.size w W4) := H3.out.trans (s2.mono (by rw [← hgI]; exact H3.out.size))
  have a0 := cell_of_row _ gI 0 _ _ _ s1
  have a1 := cell_of_row _ gI 1 _ _ _ s1
  have a2 := cell_of_row _ gI 2 _ _ _ s1
  clear s1 s2 hgI H3
  have hnf : ∀ w : World, (binOp .neq 36 (.iface 79 (.pointer (some ⟨gf, 0, none⟩))) .nilIface).run Tryz.prog w = .ok (.bool true) w := fun w => by kernel_rfl
  have hnfg : ∀ (w : World), (eqGuard .neq 36 (.tmp 18) (.const .nilIface) (.iface 79 (.pointer (some ⟨gf, 0, none⟩))) .nilIface).run Tryz.prog w = .ok () w := fun w => by kernel_rfl
  --@M3
  go_wp2_with (go_at_call 15; refine (cAl.out _).mono ?_; rintro e w5 ⟨rfl, q1⟩; have H5 : Hid (Below w.heap.size w w5) := H4.out.trans (q1.mono H4.out.size); clear q1)
  go_ret
  exact ⟨rfl, H5.out⟩
set_option maxHeartbeats 8000000 in
theorem again_r {b : List Int} (hB : AllB b) (hbl : b.length ≤ 140737488351232) (a : Option Addr) (cap : Nat) (w : World) (hv : Byt w (.slice a b.length cap) b) (hT : Tabs w) (hE : EtW w) (hF : rdF b = none) :
    Calls Tryz.prog 5 #[.slice a b.length cap] w fun e w' => e = .returned (.bool true) ∧ Below w.heap.size w w' := by
  have HV : Hid (∀ w', Below w.heap.size w w' → Byt w' (.slice a b.length cap) b) := fun w' hb => hv.later hb rfl
  obtain ⟨E, hEn⟩ : ∃ E : BitVec 64, E = BitVec.ofNat 64 (vl b 24 8) := ⟨_, rfl⟩
  have hE8 : E.toNat = vl b 24 8 := by rw [hEn, BitVec.toNat_ofNat, Nat.mod_eq_of_lt (vl_lt8 hB 24 8 (by omega))]
  obtain ⟨N, hN⟩ : ∃ N, N = nSrt (nsR b).1 := ⟨_, rfl⟩
  obtain ⟨D, hD⟩ : ∃ D, D = ptD b (paL b) := ⟨_, rfl⟩
  have cFi : Hid (Calls Tryz.prog 9 #[] w fun e w' => e = .returned (.bool true) ∧ Below w.heap.size w w') := first_c w hT hE
  have cRd : Hid (∀ wx vb, Below w.heap.size w wx → Byt wx vb b → Calls Tryz.prog 14 #[vb] wx fun e w' => ∃ um un uc vm vn vc L R, e = .returned (.tuple #[.agg #[.int .u64 (n64 E), .slice um un uc, .slice vm vn vc], .nilIface]) ∧ (Arg w' (.slice um un uc) (.slice vm vn vc) L N D ∧ R = ck E L N ∧ (R = 0 ∨ R = 3)) ∧ Below wx.heap.size wx w') := fun wx vb hx hv => by
    refine (read_c hB (by omega) vb wx hv (hT.below hx rfl) (hE.below hx rfl)).mono ?_
    rintro e w' (⟨_, u, v, L, rfl, hi, hb⟩ | ⟨F', g, q, _⟩)
    · obtain ⟨um, un, uc, rfl⟩ := own_slice hi.segs
      obtain ⟨vm, vn, vc, rfl⟩ := own_slice hi.syms
      refine ⟨um, un, uc, vm, vn, vc, L, ck E L N, by rw [← hE8]; rfl, ⟨?_, rfl, ?_⟩, hb⟩
      · rw [hN, hD]; exact hi.arg hB hF
      · rw [hN]; exact (ck_rd hB hF hi.data E hE8).1
    · rw [hF] at q; cases q
  have cTw : Hid (∀ wx us un L, Arg wx us un L N D → Calls Tryz.prog 11 #[.agg #[.int .u64 (n64 E), us, un]] wx fun e w' => ∃ a1 a2 a3 b1 b2 b3 M, e = .returned (.agg #[.int .u64 (n64 E), .slice a1 a2 a3, .slice b1 b2 b3]) ∧ (Alike L M ∧ Img w' (.slice a1 a2 a3) (.slice b1 b2 b3) M N ∧ Dta w' M D) ∧ Below wx.heap.size wx w') := fun wx us un L h => (h.twin E).mono fun e w' ⟨a1, a2, a3, b1, b2, b3, M, he, q1, q2, q3, q4⟩ => ⟨a1, a2, a3, b1, b2, b3, M, he, ⟨q1, q2, q3⟩, q4⟩
  have cWr : Hid (∀ w0 us0 un0 L R, Arg w0 us0 un0 L N D → R = ck E L N → ∀ wx us un M, Below w.heap.size w wx → (Alike L M ∧ Img wx us un M N ∧ Dta wx M D) → Calls Tryz.prog 12 #[.agg #[.int .u64 (n64 E), us, un]] wx fun e w' => ∃ a n cap, e = .returned (.tuple #[.slice a n cap, .int .i64 R]) ∧ n = (ans E L N D).length ∧ Byt w' (.slice a n cap) (ans E L N D) ∧ Below wx.heap.size wx w') := fun w0 us0 un0 L R h hR wx us un M hx hq => (h.write E hq.1 hq.2.1 hq.2.2 (hT.below hx rfl) R hR).mono fun e w' ⟨a, n, cap, h1, h2, h3, _, h5⟩ => ⟨a, n, cap, h1, h2, h3, h5⟩
  have cR2 : Hid (∀ w0 us0 un0 L, Arg w0 us0 un0 L N D → ck E L N = 0 → ∀ wx vb, Below w.heap.size w wx → Byt wx vb (ans E L N D) → Calls Tryz.prog 14 #[vb] wx fun e w' => ∃ um un uc vm vn vc L', e = .returned (.tuple #[.agg #[.int .u64 (n64 E), .slice um un uc, .slice vm vn vc], .nilIface]) ∧ (Alike L L' ∧ Dta w' L' D ∧ Imq w' (.slice um un uc) (.slice vm vn vc) L' N) ∧ Below wx.heap.size wx w') := fun w0 us0 un0 L h h0 wx vb hx hv => (nd_read (h.nd E h0).1 h0 (h.nd E h0).2.1 vb wx hv (hT.below hx rfl) (hE.below hx rfl)).mono fun e w' ⟨um, un, uc, vm, vn, vc, L', he, q1, q2, q3, q4⟩ => ⟨um, un, uc, vm, vn, vc, L', he, ⟨q1, q2, q3⟩, q4⟩
  have cAl : Hid (∀ wx us un L u v L', Arg wx us un L N D → (Alike L L' ∧ Dta wx L' D ∧ Imq wx u v L' N) → Calls Tryz.prog 15 #[.agg #[.int .u64 (n64 E), u, v], .agg #[.int .u64 (n64 E), us, un]] wx fun e w' => e = .returned (.bool true) ∧ Below wx.heap.size wx w') := fun wx us un L u v L' h hq => h.alike E hq.1 hq.2.1 hq.2.2
  have hnum : Hid (∀ z W, Calls Tryz.prog 13 #[.int .i64 z] W fun e w' => e = .returned (.int .i64 z) ∧ w' = W) := fun z W => num_c z W
  have hl0 : Hid (b.length ≤ 140737488351232) := hbl
  generalize b.length = n at *
  clear hv hT hE hF hB hbl hEn hE8 hN hD
  generalize n64 E = EN at *
  go_enter Tryz.func5, Tryz.ntmps5
  go_upto_region 3 with (go_at_call 9; refine cFi.out.mono ?_; rintro e w2 ⟨rfl, q1⟩; have B2 := Hid.mkI q1; clear q1 cFi)
  --@R0
  have HO2 : Hid (Owb w2.heap.size (w2.alloc (.cells #[] 5)) (.slice (some ⟨w2.heap.size, 0, none⟩) 0 0) []) := World.ownsRow_made w2 #[] 0 (Nat.le_refl _) (Nat.zero_le _) rfl
  have HV2 : Hid (Byt (w2.alloc (.cells #[] 5)) (.slice a n cap) b) := HV.out _ (B2.out.trans ((below_al _).mono B2.out.size))
  have HF2 : Hid (Fr w2.heap.size w2 (w2.alloc (.cells #[] 5))) := (Fr.refl _ _).alloc (Nat.le_refl _) _
  have HLB : Hid (([] : List Int).length + b.length ≤ 140737488355328) := by
    obtain ⟨_, _, e, _⟩ := HV2.out
    simp only [Value.slice.injEq] at e
    have := hl0.out
    unfold Hid; simp; omega
  obtain ⟨B, hB⟩ : ∃ B, B = w2.heap.size := ⟨_, rfl⟩
  have HB0 := Hid.mkI hB
  have hBs : B ≤ (w2.alloc (.cells #[] 5)).heap.size := by rw [hB]; simp
  have HO3 : Hid (Owb B (w2.alloc (.cells #[] 5)) (.slice (some ⟨w2.heap.size, 0, none⟩) 0 0) []) := by unfold Hid; rw [hB]; exact HO2.out
  rw [← hB] at HF2
  clear hB HO2
  go_upto_region 4 with (first | (at_builtin; refine appZ (by rfl) _ _ (by rfl) B _ _ [] b (by rfl) HO3.out (by rfl) HV2.out HLB.out hBs ?_; intro v1 W1 ho1 hf1; have HY1 := Hid.mkI (Byt.of_own ho1); have H1 : Hid (Below w.heap.size w W1) := (by have q := (HF2.out.trans hf1).b; rw [HB0.out] at q; exact B2.out.trans (q.mono B2.out.size)); clear ho1 hf1) | (go_at_call 14; refine (cRd.out _ _ H1.out (by exact HY1.out)).mono ?_; rintro e w3 ⟨um, un, uc, vm, vn, vc, L, R, rfl, q1, q2⟩; have HM3 := Hid.mkI q1; have H3 : Hid (Below w.heap.size w w3) := H1.out.trans (q2.mono H1.out.size); clear q1 q2))
  clear cRd HY1 H1 HO3 HV2 HF2 hBs
  --@R1
  refine on_w (motive := fun W => Code.wp _ _ _ _ W) (Q := fun W => W.heap[w3.heap.size]? = some (.cells #[.int .u64 EN, .slice um un uc, .slice vm vn vc] 26 (0, 0)) ∧ Below w3.heap.size w3 W) ⟨heap_alloc_new w3 _, below_al _⟩ ?_
  generalize hgI : w3.heap.size = gI
  rintro W4 ⟨s1, s2⟩
  have H4 : Hid (∀ W, Below W4.heap.size W4 W → Below w.heap.size w W) := fun W hb => (H3.out.trans (s2.mono (by rw [← hgI]; exact H3.out.size))).trans (hb.mono (Nat.le_trans (by exact H3.out.size) (by rw [hgI]; exact Nat.le_of_lt (heap_lt s1))))
  have RI : Hid (∀ W, Below W4.heap.size W4 W → W.heap[gI]? = some (.cells #[.int .u64 EN, .slice um un uc, .slice vm vn vc] 26 (0, 0))) := fun W hb => (hb.block gI (heap_lt s1)).trans s1
  have HA : Hid (∀ W, Below W4.heap.size W4 W → Arg W (.slice um un uc) (.slice vm vn vc) L N D) := fun W hb => (HM3.out.1.later (by rw [hgI]; exact s2)).later hb
  have B4 : Hid (Below W4.heap.size W4 W4) := Below.refl _ _
  have HR3 := HM3.out.2.2
  have HRK := Hid.mkI HM3.out.2.1
  have a0 := cell_of_row _ gI 0 _ _ _ s1
  have a1 := cell_of_row _ gI 1 _ _ _ s1
  have a2 := cell_of_row _ gI 2 _ _ _ s1
  clear s1 s2 hgI H3 HM3
  have cWr' : Hid (∀ wx us un M, Below w.heap.size w wx → (Alike L M ∧ Img wx us un M N ∧ Dta wx M D) → Calls Tryz.prog 12 #[.agg #[.int .u64 EN, us, un]] wx fun e w' => ∃ a n cap, e = .returned (.tuple #[.slice a n cap, .int .i64 R]) ∧ n = (ans E L N D).length ∧ Byt w' (.slice a n cap) (ans E L N D) ∧ Below wx.heap.size wx w') := cWr.out _ _ _ L R (HA.out _ B4.out) HRK.out
  have cR' : Hid (R = 0 → ∀ wx vb, Below w.heap.size w wx → Byt wx vb (ans E L N D) → Calls Tryz.prog 14 #[vb] wx fun e w' => ∃ um un uc vm vn vc L', e = .returned (.tuple #[.agg #[.int .u64 EN, .slice um un uc, .slice vm vn vc], .nilIface]) ∧ (Alike L L' ∧ Dta w' L' D ∧ Imq w' (.slice um un uc) (.slice vm vn vc) L' N) ∧ Below wx.heap.size wx w') := fun h0 => cR2.out _ _ _ L (HA.out _ B4.out) (HRK.out.symm.trans h0)
  have hno : Hid (R = 3 → ans E L N D = []) := fun h0 => ans_no (fun q => by rw [← HRK.out, h0] at q; simp at q)
  generalize ans E L N D = AN at cWr' cR' hno
  clear cWr cR2 HRK
  have hnn : ∀ w : World, (binOp .neq 36 .nilIface .nilIface).run Tryz.prog w = .ok (.bool false) w := fun w => by kernel_rfl
  have hnng : ∀ (w : World), (eqGuard .neq 36 (.tmp 18) (.const .nilIface) .nilIface .nilIface).run Tryz.prog w = .ok () w := fun w => by kernel_rfl
  --@R2
  go_upto_region 7 with (first | (go_at_call 11; refine (cTw.out _ _ _ _ (HA.out _ B4.out)).mono ?_; rintro e w5 ⟨f1, f2, f3, g1, g2, g3, M5, rfl, q1, q2⟩; have HM5 := Hid.mkI q1; have B5 : Hid (Below W4.heap.size W4 w5) := B4.out.trans (q2.mono B4.out.size); clear q1 q2) | (go_at_call 12; refine (cWr'.out _ _ _ _ (H4.out _ B5.out) HM5.out).mono ?_; rintro e w6 ⟨av, nv, cv, rfl, q0, q1, q2⟩; have HN := Hid.mkI q0; have HY6 := Hid.mkI q1; have B6 : Hid (Below W4.heap.size W4 w6) := B5.out.trans (q2.mono B5.out.size); clear q0 q1 q2))
  clear cWr' cTw HM5 a0 a1 a2 hnn hnng
  --@R3
  rcases HR3 with hR0 | hR3
  · have cR := Hid.mkI (cR'.out hR0)
    subst hR0
    clear cR' hno
    go_upto_region 10 with (first | (go_at_call 13; refine (hnum.out _ _).mono ?_; rintro e wz ⟨rfl, hwz⟩; rw [hwz]; clear hwz) | (go_at_call 14; refine (cR.out _ _ (H4.out _ B6.out) HY6.out).mono ?_; rintro e w7 ⟨xm, xn, xc, ym, yn, yc, L', rfl, q1, q2⟩; have HM7 := Hid.mkI q1; have B7 : Hid (Below W4.heap.size W4 w7) := B6.out.trans (q2.mono B6.out.size); clear q1 q2))
    --@R4
    refine on_w (motive := fun W => Code.wp _ _ _ _ W) (Q := fun W => W.heap[w7.heap.size]? = some (.cells #[.int .u64 EN, .slice xm xn xc, .slice ym yn yc] 26 (0, 0)) ∧ Below w7.heap.size w7 W) ⟨heap_alloc_new w7 _, below_al _⟩ ?_
    generalize hgA : w7.heap.size = gA
    rintro W8 ⟨s1, s2⟩
    have RA : Hid (∀ W, Below W8.heap.size W8 W → W.heap[gA]? = some (.cells #[.int .u64 EN, .slice xm xn xc, .slice ym yn yc] 26 (0, 0))) := fun W hb => (hb.block gA (heap_lt s1)).trans s1
    have B78 : Hid (Below w7.heap.size w7 W8) := by rw [hgA]; exact s2
    have H8 : Hid (∀ W, Below W8.heap.size W8 W → Below W4.heap.size W4 W) := fun W hb => B7.out.trans ((B78.out.trans (hb.mono B78.out.size)).mono B7.out.size)
    have HM8 : Hid (∀ W, Below W8.heap.size W8 W → (Alike L L' ∧ Dta W L' D ∧ Imq W (.slice xm xn xc) (.slice ym yn yc) L' N)) := fun W hb => ⟨HM7.out.1, HM7.out.2.1.later (B78.out.trans (hb.mono B78.out.size)), ⟨HM7.out.2.2.segs.later (B78.out.trans (hb.mono B78.out.size)) rfl, HM7.out.2.2.syms.later (B78.out.trans (hb.mono B78.out.size)) rfl⟩⟩
    have hnil : ∀ w : World, (binOp .eql 36 .nilIface .nilIface).run Tryz.prog w = .ok (.bool true) w := fun w => by kernel_rfl
    have heg : ∀ (w : World), (eqGuard .eql 36 (.tmp 44) (.const .nilIface) .nilIface .nilIface).run Tryz.prog w = .ok () w := fun w => by kernel_rfl
    have BD : Hid (Below W8.heap.size W8 W8) := Below.refl _ _
    have r0 := RA.out _ BD.out
    have a0 := cell_of_row _ gA 0 _ _ _ r0
    have a1 := cell_of_row _ gA 1 _ _ _ r0
    have a2 := cell_of_row _ gA 2 _ _ _ r0
    have r1 := RI.out _ (H8.out _ BD.out)
    have b0 := cell_of_row _ gI 0 _ _ _ r1
    have b1 := cell_of_row _ gI 1 _ _ _ r1
    have b2 := cell_of_row _ gI 2 _ _ _ r1
    clear r0 r1 s1 s2 hgA HM7 B7 cR HN HY6 B6 B5 B4 B78
    --@R5
    go_wp2_with (first | (go_at_call 13; refine (hnum.out _ _).mono ?_; rintro e wz ⟨rfl, hwz⟩; rw [hwz]; clear hwz) | (go_at_call 15; refine (cAl.out _ _ _ _ _ _ _ (HA.out _ (H8.out _ BD.out)) (HM8.out _ BD.out)).mono ?_; rintro e w9 ⟨rfl, q1⟩; have B9 : Hid (Below W8.heap.size W8 w9) := BD.out.trans (q1.mono BD.out.size); clear q1))
    go_ret
    exact ⟨rfl, H4.out _ (H8.out _ B9.out)⟩
  · have hn0 : nv = 0 := by have := HN.out; rw [hno.out hR3] at this; exact this
    subst hn0
    subst hR3
    clear cR' hno HN HY6
    --@R6
    go_wp2_with (go_at_call 13; refine (hnum.out _ _).mono ?_; rintro e wz ⟨rfl, hwz⟩; rw [hwz]; clear hwz)
    go_ret
    exact ⟨rfl, H4.out _ B6.out⟩
theorem again_c {b : List Int} (hB : AllB b) (hbl : b.length ≤ 140737488351232) (a : Option Addr) (cap : Nat) (w : World) (hv : Byt w (.slice a b.length cap) b) (hT : Tabs w) (hE : EtW w) :
    Calls Tryz.prog 5 #[.slice a b.length cap] w fun e w' => e = .returned (.bool true) ∧ Below w.heap.size w w' := by
  cases hF : rdF b with
  | none => exact again_r hB hbl a cap w hv hT hE hF
  | some F => exact again_f hB hbl a cap w hv hT hE F hF
end Go.Proofs.YtheeogbmljjbdaaGreatDoor
