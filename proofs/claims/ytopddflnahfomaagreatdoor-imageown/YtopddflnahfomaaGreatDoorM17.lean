/-
  Irs.
-/
import Derived.Test.YtopddflnahfomaaGreatDoorM16
namespace Go.Proofs.YtopddflnahfomaaGreatDoor
set_option linter.unusedVariables false
set_option maxRecDepth 100000
open Go.ChangeShapes Go.WideShapes Go.ChangeAt Go.RowKit Go.Deep
theorem nSrt_nil : nSrt [] = [] := by unfold nSrt; simp
theorem frT_hit {b : List Int} {P K i : Nat} (hi : i < K) (h : vl b (P + 64 * i + 4) 4 = 2) : frT b P (K - i) i = some i := by
  obtain ⟨r, hr⟩ : ∃ r, K - i = r + 1 := ⟨K - i - 1, by omega⟩
  rw [hr, frT, if_pos h]
theorem frT_go {b : List Int} {P K i : Nat} (hi : i < K) (h : ¬ vl b (P + 64 * i + 4) 4 = 2) : frT b P (K - i) i = frT b P (K - (i + 1)) (i + 1) := by
  obtain ⟨r, hr⟩ : ∃ r, K - i = r + 1 := ⟨K - i - 1, by omega⟩
  rw [hr, frT, if_neg h, show K - (i + 1) = r by omega]
theorem frT_end (b : List Int) (P i r : Nat) (h : r = 0) : frT b P r i = none := by subst h; rfl
theorem nsQ_none {b : List Int} {K P Z : Nat} (h1 : ¬ (K = 0 ∨ P = 0)) (h2 : ¬ Z ≠ 64) (h3 : ¬ ¬ room b P (64 * K)) (h : frT b P K 0 = none) : nsQ b K P Z = ([], none) := by
  unfold nsQ; rw [if_neg h1, if_neg h2, if_neg h3, h, Option.elim_none]
theorem nsQ_some {b : List Int} {K P Z i : Nat} (h1 : ¬ (K = 0 ∨ P = 0)) (h2 : ¬ Z ≠ 64) (h3 : ¬ ¬ room b P (64 * K)) (h : frT b P K 0 = some i) : nsQ b K P Z = tnR b P K (P + 64 * i) := by
  unfold nsQ; rw [if_neg h1, if_neg h2, if_neg h3, h, Option.elim_some]
theorem nsQ_no {b : List Int} {K P Z : Nat} (h1 : K = 0 ∨ P = 0) : nsQ b K P Z = ([], none) := by unfold nsQ; rw [if_pos h1]
theorem nsQ_head {b : List Int} {K P Z : Nat} (h1 : ¬ (K = 0 ∨ P = 0)) (h2 : Z ≠ 64) : nsQ b K P Z = ([], some (58, 22)) := by unfold nsQ; rw [if_neg h1, if_pos h2]
theorem nsQ_room {b : List Int} {K P Z : Nat} (h1 : ¬ (K = 0 ∨ P = 0)) (h2 : ¬ Z ≠ 64) (h3 : ¬ room b P (64 * K)) : nsQ b K P Z = ([], some (40, 20)) := by unfold nsQ; rw [if_neg h1, if_neg h2, if_pos h3]
theorem tnp_nil {RR : List Sy × Flt} {w w' : World} (hR : RR = ([], none)) (hb : Below w.heap.size w w') : TnP RR w (.returned (.slice none 0 0)) w' := by
  subst hR
  refine .inl ⟨rfl, _, rfl, ?_, hb⟩
  show w'.ownsRow w.heap.size 45 2 (.slice none 0 0) (nSrt []).length (syl (nSrt []))
  rw [nSrt_nil]
  exact own_nilN _ _
set_option maxHeartbeats 8000000 in
theorem names_c {b : List Int} (hB : AllB b) (hl : b.length ≤ 200000) (h64 : 64 ≤ b.length) (vb : Value) (w : World) (hv : Byt w vb b) (hTb : Hid (Tabs w)) :
    Calls Tryz.prog 31 #[.agg #[vb]] w fun e w' => TnP (nsR b) w e w' := by
  have HV : Hid (∀ w', Below w.heap.size w w' → Byt w' vb b) := fun w' hb => hv.later hb rfl
  have HTB : Hid (∀ w', Below w.heap.size w w' → Tabs w') := fun w' hb => hTb.out.below hb rfl
  have HB : Hid (AllB b) := hB
  obtain ⟨a, cap, rfl, hc, _, _⟩ := hv
  obtain ⟨W1, hW1⟩ : ∃ W1, w.alloc (.cells #[.slice a b.length cap] 54) = W1 := ⟨_, rfl⟩
  have HBL : Hid (Below w.heap.size w W1) := by rw [← hW1]; exact (Below.refl _ _).alloc (Nat.le_refl _) _
  have hsz : Hid (W1.heap.size = w.heap.size + 1) := by unfold Hid; rw [← hW1]; simp
  have R3 : Hid (W1.heap[w.heap.size]? = some (.cells #[.slice a b.length cap] 54 (0, 0))) := by unfold Hid; rw [← hW1]; exact heap_alloc_new w _
  have HC0 : Hid (∀ w', Below W1.heap.size W1 w' → w'.cell? ⟨w.heap.size, 0, none⟩ = some (.slice a b.length cap)) := fun w' hb => (hb.cell (by show w.heap.size < _; rw [hsz.out]; omega)).trans (cell_of_row W1 _ 0 _ _ _ R3.out)
  have c60 : Hid (∀ wx, Below W1.heap.size W1 wx → Calls Tryz.prog 46 #[.agg #[.slice a b.length cap], .int .i64 60] wx fun e w' => e = .returned (.int .u64 ((vl b 60 2 : Nat) : Int)) ∧ Below wx.heap.size wx w') := fun wx hx => half_c HB.out hl _ 60 60 rfl (by omega) wx (HV.out _ (HBL.out.trans (hx.mono HBL.out.size)))
  have c40 : Hid (∀ wx, Below W1.heap.size W1 wx → Calls Tryz.prog 32 #[.agg #[.slice a b.length cap], .int .i64 40] wx fun e w' => e = .returned (.int .u64 ((vl b 40 8 : Nat) : Int)) ∧ Below wx.heap.size wx w') := fun wx hx => double_c HB.out hl _ 40 40 rfl (by omega) wx (HV.out _ (HBL.out.trans (hx.mono HBL.out.size)))
  have c58 : Hid (∀ wx, Below W1.heap.size W1 wx → Calls Tryz.prog 46 #[.agg #[.slice a b.length cap], .int .i64 58] wx fun e w' => e = .returned (.int .u64 ((vl b 58 2 : Nat) : Int)) ∧ Below wx.heap.size wx w') := fun wx hx => half_c HB.out hl _ 58 58 rfl (by omega) wx (HV.out _ (HBL.out.trans (hx.mono HBL.out.size)))
  have lK : vl b 60 2 < 65536 := vl_lt hB 60 2
  have lP := vl_lt8 hB 40 8 (by omega)
  have lZ : vl b 58 2 < 65536 := vl_lt hB 58 2
  have c8 : Hid (∀ wx, Below W1.heap.size W1 wx → ∀ nI : Int, nI = ((64 * vl b 60 2 : Nat) : Int) → Calls Tryz.prog 48 #[.agg #[.slice a b.length cap], .int .i64 40, .int .u64 nI] wx fun e w' => (room b (vl b 40 8) (64 * vl b 60 2) ∧ e = .returned (.int .i64 ((vl b 40 8 : Nat) : Int)) ∧ Below wx.heap.size wx w') ∨ (¬ room b (vl b 40 8) (64 * vl b 60 2) ∧ Pan wx (40, 20) e w')) := fun wx hx nI hn => by
    subst hn
    exact placeAt_c HB.out hl _ 40 (64 * vl b 60 2) 40 rfl (by omega) (by omega) wx (HV.out _ (HBL.out.trans (hx.mono HBL.out.size)))
  have HF : Hid (nsR b = nsQ b (vl b 60 2) (vl b 40 8) (vl b 58 2)) := by unfold Hid nsR; rfl
  generalize nsR b = RR at HF ⊢
  generalize vl b 60 2 = K at c60 c8 HF lK
  generalize vl b 40 8 = P at c40 c8 HF lP
  generalize vl b 58 2 = Z at c58 HF lZ
  have hlI : (b.length : Int) ≤ 200000 := by omega
  have iK : (K : Int) < 65536 := by omega
  have iP : (P : Int) < 18446744073709551616 := by omega
  have HW1 : Hid (Below W1.heap.size W1 W1) := Below.refl _ _
  go_enter Tryz.func31, Tryz.ntmps31
  go_upto_region 1 with fail
  have k1 := HC0.out W1 HW1.out
  clear hW1
  go_upto_region 2 with (go_at_call 46; refine (c60.out _ HW1.out).mono ?_; rintro e w2 ⟨rfl, hb⟩; have Hw2 : Hid (Below W1.heap.size W1 w2) := HW1.out.trans (hb.mono (HW1.out).size); clear hb)
  clear k1
  by_cases gK : K = 0
  · have gKb : ((K : Int) == 0) = true := by rw [beq_iff_eq]; omega
    have HE : Hid (RR = ([], none)) := by unfold Hid; rw [HF.out]; exact nsQ_no (.inl gK)
    clear gK
    go_wp2
    go_ret
    exact tnp_nil HE.out (HBL.out.trans (Hw2.out.mono HBL.out.size))
  · have gKb : ((K : Int) == 0) = false := by rw [beq_eq_false_iff_ne]; omega
    have k2 := HC0.out w2 Hw2.out
    by_cases gP : P = 0
    · have gPb : ((P : Int) == 0) = true := by rw [beq_iff_eq]; omega
      have HE : Hid (RR = ([], none)) := by unfold Hid; rw [HF.out]; exact nsQ_no (.inr gP)
      clear gK gP
      go_wp2_with (go_at_call 32; refine (c40.out _ Hw2.out).mono ?_; rintro e w3 ⟨rfl, hb⟩; have Hw3 : Hid (Below W1.heap.size W1 w3) := Hw2.out.trans (hb.mono (Hw2.out).size); clear hb)
      go_ret
      exact tnp_nil HE.out (HBL.out.trans (Hw3.out.mono HBL.out.size))
    · have gPb : ((P : Int) == 0) = false := by rw [beq_eq_false_iff_ne]; omega
      have HG1 : Hid (¬ (K = 0 ∨ P = 0)) := fun h => h.elim gK gP
      clear gK gP
      go_upto_region 4 with (go_at_call 32; refine (c40.out _ Hw2.out).mono ?_; rintro e w3 ⟨rfl, hb⟩; have Hw3 : Hid (Below W1.heap.size W1 w3) := Hw2.out.trans (hb.mono (Hw2.out).size); clear hb)
      clear k2 gKb gPb
      have k3 := HC0.out w3 Hw3.out
      by_cases gZ : Z ≠ 64
      · have gZb : ((Z : Int) != 64) = true := by rw [bne_iff_ne]; omega
        have HE : Hid (RR.2 = some (58, 22)) := by unfold Hid; rw [HF.out, nsQ_head HG1.out gZ]
        clear gZ
        go_wp2_with (first | (go_at_call 46; refine (c58.out _ Hw3.out).mono ?_; rintro e w4 ⟨rfl, hb⟩; have Hw4 : Hid (Below W1.heap.size W1 w4) := Hw3.out.trans (hb.mono (Hw3.out).size); clear hb) | (go_at_call 27; refine (refuse_tI 22 (58) _ (by rfl) _).mono ?_; rintro e w9 ⟨g, rfl, p2, p3, p4⟩))
        exact ⟨rfl, .inr ⟨_, HE.out, Pan.later (HBL.out.trans (Hw4.out.mono HBL.out.size)) ⟨g, rfl, p2, p3, p4⟩⟩⟩
      · have gZb : ((Z : Int) != 64) = false := by rw [bne_eq_false_iff_eq]; omega
        have HG2 : Hid (¬ Z ≠ 64) := gZ
        clear gZ
        go_upto_region 5 with (first | (go_at_call 46; refine (c58.out _ Hw3.out).mono ?_; rintro e w4 ⟨rfl, hb⟩; have Hw4 : Hid (Below W1.heap.size W1 w4) := Hw3.out.trans (hb.mono (Hw3.out).size); clear hb) | (go_at_call 27; refine (refuse_f _ _ _).mono ?_; rintro e w9 ⟨rfl, hw9⟩; subst hw9))
        clear k3 gZb
        have k4 := HC0.out w4 Hw4.out
        by_cases hrm : room b P (64 * K)
        · have HRM : Hid (room b P (64 * K)) := hrm
          have HG3 : Hid (¬ ¬ room b P (64 * K)) := fun h => h hrm
          have c8t : Hid (∀ wx, Below W1.heap.size W1 wx → ∀ nI : Int, nI = ((64 * K : Nat) : Int) → Calls Tryz.prog 48 #[.agg #[.slice a b.length cap], .int .i64 40, .int .u64 nI] wx fun e w' => e = .returned (.int .i64 (P : Int)) ∧ Below wx.heap.size wx w') := fun wx hx nI hn => (c8.out wx hx nI hn).mono fun e w' hq => hq.elim (fun h1 => h1.2) (fun h1 => absurd hrm h1.1)
          clear c8 hrm
          have hPK : (P : Int) + 64 * K ≤ b.length := by have := HRM.out; unfold room at this; omega
          go_upto_region 6 with (go_at_call 48; refine (c8t.out _ Hw4.out _ (by first | omega | (rw [IntKind.wrap_i64]; omega) | (rw [IntKind.wrap_u64]; omega))).mono ?_; rintro e w5 ⟨rfl, hb⟩; have Hw5 : Hid (Below W1.heap.size W1 w5) := Hw4.out.trans (hb.mono (Hw4.out).size); clear hb)
          clear k4
          refine on_w (motive := fun W => Code.wp _ _ _ _ W) (Q := fun W => W.heap[w5.heap.size]? = some (.cells #[.int .i64 (P : Int), .int .u64 (K : Int)] 103 (0, 0)) ∧ Below W1.heap.size W1 W) ⟨heap_alloc_new w5 _, Hw5.out.alloc Hw5.out.size _⟩ ?_
          generalize w5.heap.size = g4
          rintro W6 ⟨s1, s2⟩
          have HG4 := Hid.mkI s1
          have H6 := Hid.mkI s2
          clear s1 s2
          have HC4 : Hid (∀ w', Below W6.heap.size W6 w' → w'.cell? ⟨g4, 0, none⟩ = some (.int .i64 (P : Int)) ∧ w'.cell? ⟨g4, 1, none⟩ = some (.int .u64 (K : Int))) := fun w' hb => ⟨(hb.cell (heap_lt HG4.out)).trans (cell_of_row W6 _ 0 _ _ _ HG4.out), (hb.cell (heap_lt HG4.out)).trans (cell_of_row W6 _ 1 _ _ _ HG4.out)⟩
          go_wp2
          go_loopw [28] (fun x wr => ∃ (i : Nat), i ≤ K ∧ x = .int .i64 (i : Int) ∧ Hid (Below W6.heap.size W6 wr) ∧ Hid (frT b P (K - i) i = frT b P K 0)) (fun x _ => K - (intOf x).toNat)
          case atStart => exact ⟨0, Nat.zero_le _, rfl, Below.refl _ _, rfl⟩
          case round =>
            obtain ⟨i, hi, rfl, HW6, HFT⟩ := hrel
            have HW : Hid (Below W1.heap.size W1 wr) := H6.out.trans (HW6.out.mono H6.out.size)
            by_cases hlt : i < K
            · have hltI : (i : Int) < K := by omega
              have HLT : Hid (i < K) := hlt
              obtain ⟨O, hO⟩ : ∃ O, O = P + 64 * i := ⟨_, rfl⟩
              have hO64 : Hid (O + 64 ≤ b.length) := by unfold Hid; omega
              have hOI : (O : Int) + 64 ≤ b.length := by omega
              have cH : Hid (∀ wx, Calls Tryz.prog 54 #[.agg #[.int .i64 (P : Int), .int .u64 (K : Int)], .int .i64 (i : Int)] wx fun e w' => e = .returned (.int .i64 (O : Int)) ∧ Below wx.heap.size wx w') := fun wx => by rw [hO]; exact header_c P K i _ rfl (by omega) wx
              have HO := Hid.mkI hO
              have cK : Hid (∀ wx, Below W1.heap.size W1 wx → ∀ pI : Int, pI = ((O + 4 : Nat) : Int) → Calls Tryz.prog 47 #[.agg #[.slice a b.length cap], .int .i64 pI] wx fun e w' => e = .returned (.int .u64 ((vl b (O + 4) 4 : Nat) : Int)) ∧ Below wx.heap.size wx w') := fun wx hx pI hpI => word_c HB.out hl _ (O + 4) pI hpI (by have := hO64.out; omega) wx (HV.out _ (HBL.out.trans (hx.mono HBL.out.size)))
              have lk := vl_lt8 HB.out (O + 4) 4 (by omega)
              have HHIT : Hid (vl b (O + 4) 4 = 2 → frT b P K 0 = some i) := fun h => by rw [← HFT.out]; exact frT_hit HLT.out (by rw [← HO.out]; exact h)
              have HGO : Hid (¬ vl b (O + 4) 4 = 2 → frT b P (K - (i + 1)) (i + 1) = frT b P K 0) := fun h => by rw [← HFT.out]; exact (frT_go HLT.out (by rw [← HO.out]; exact h)).symm
              generalize vl b (O + 4) 4 = NK at cK lk HHIT HGO
              clear hO hlt
              obtain ⟨m0, m1⟩ := HC4.out wr HW6.out
              have kr := HC0.out wr HW.out
              go_upto_region 10 with (go_at_call 54; refine (cH.out _).mono ?_; rintro e w7 ⟨rfl, hb⟩; have B7 : Hid (Below W6.heap.size W6 w7) := HW6.out.trans (hb.mono HW6.out.size); have H7 : Hid (Below W1.heap.size W1 w7) := H6.out.trans (B7.out.mono H6.out.size); clear hb)
              clear m0 m1 kr
              have k7 := HC0.out w7 H7.out
              by_cases g2 : NK = 2
              · have g2b : ((NK : Int) == 2) = true := by rw [beq_iff_eq]; omega
                have HE : Hid (RR = tnR b P K O) := by unfold Hid; rw [HF.out, HO.out]; exact nsQ_some HG1.out HG2.out HG3.out (HHIT.out g2)
                clear g2
                go_upto_region 11 with (go_at_call 47; refine (cK.out _ H7.out _ (by first | omega | (rw [IntKind.wrap_i64]; omega) | (rw [IntKind.wrap_u64]; omega))).mono ?_; rintro e w8 ⟨rfl, hb⟩; have B8 : Hid (Below W6.heap.size W6 w8) := B7.out.trans (hb.mono B7.out.size); have H8 : Hid (Below W1.heap.size W1 w8) := H6.out.trans (B8.out.mono H6.out.size); clear hb)
                clear k7
                have k8 := HC0.out w8 H8.out
                obtain ⟨m0, m1⟩ := HC4.out w8 B8.out
                have cTN : Hid (Calls Tryz.prog 55 #[.agg #[.slice a b.length cap], .agg #[.int .i64 (P : Int), .int .u64 (K : Int)], .int .i64 (O : Int)] w8 fun e w' => (∃ v, e = .returned v ∧ TnP RR w8 e w') ∨ ∃ F, RR.2 = some F ∧ Pan w8 F e w') := (tableNames_c HB.out hl _ P K O (by have := HRM.out; unfold room at this; omega) hO64.out (by omega) w8 (HV.out _ (HBL.out.trans (H8.out.mono HBL.out.size))) (HTB.out _ (HBL.out.trans (H8.out.mono HBL.out.size)))).mono fun e w' hq => by
                  rw [← HE.out] at hq
                  rcases hq with ⟨q1, u, rfl, q2⟩ | q
                  · exact .inl ⟨u, rfl, .inl ⟨q1, u, rfl, q2⟩⟩
                  · exact .inr q
                go_wp2_with (go_at_call 55; refine cTN.out.mono ?_; rintro e w9 (⟨v, rfl, hq⟩ | ⟨F, hF, g, rfl, p2, p3, p4⟩))
                · go_ret
                  rcases hq with ⟨q1, u, q, q2, q3⟩ | ⟨F, _, _, q, _⟩
                  · cases q
                    exact .inl ⟨q1, _, rfl, own_ge q2 (Nat.le_trans HBL.out.size H8.out.size) (fun _ _ => rfl), HBL.out.trans ((H8.out.trans (q3.mono H8.out.size)).mono HBL.out.size)⟩
                  · cases q
                · exact ⟨rfl, .inr ⟨F, hF, Pan.later (HBL.out.trans (H8.out.mono HBL.out.size)) ⟨g, rfl, p2, p3, p4⟩⟩⟩
              · have g2b : ((NK : Int) == 2) = false := by rw [beq_eq_false_iff_ne]; omega
                have HFT2 : Hid (frT b P (K - (i + 1)) (i + 1) = frT b P K 0) := HGO.out g2
                clear g2
                go_upto_region 12 with (go_at_call 47; refine (cK.out _ H7.out _ (by first | omega | (rw [IntKind.wrap_i64]; omega) | (rw [IntKind.wrap_u64]; omega))).mono ?_; rintro e w8 ⟨rfl, hb⟩; have B8 : Hid (Below W6.heap.size W6 w8) := B7.out.trans (hb.mono B7.out.size); have H8 : Hid (Below W1.heap.size W1 w8) := H6.out.trans (B8.out.mono H6.out.size); clear hb)
                clear k7
                go_wp2
                go_roundw
                case rel => exact ⟨i + 1, HLT.out, by go_num, B8, HFT2⟩
                case measure => simp [intOf]; omega
            · obtain rfl : i = K := by omega
              have HE : Hid (RR = ([], none)) := by unfold Hid; rw [HF.out]; exact nsQ_none HG1.out HG2.out HG3.out (by rw [← HFT.out]; exact frT_end _ _ _ _ (by omega))
              go_wp2
              go_ret
              exact tnp_nil HE.out (HBL.out.trans (HW.out.mono HBL.out.size))
        · have HE : Hid (RR.2 = some (40, 20)) := by unfold Hid; rw [HF.out, nsQ_room HG1.out HG2.out hrm]
          have c8f : Hid (∀ wx, Below W1.heap.size W1 wx → ∀ nI : Int, nI = ((64 * K : Nat) : Int) → Calls Tryz.prog 48 #[.agg #[.slice a b.length cap], .int .i64 40, .int .u64 nI] wx fun e w' => Pan wx (40, 20) e w') := fun wx hx nI hn => (c8.out wx hx nI hn).mono fun e w' hq => hq.elim (fun h1 => absurd h1.1 hrm) (fun h1 => h1.2)
          clear c8 hrm
          go_wp2_with (go_at_call 48; refine (c8f.out _ Hw4.out _ (by first | omega | (rw [IntKind.wrap_i64]; omega) | (rw [IntKind.wrap_u64]; omega))).mono ?_; rintro e w9 ⟨g, rfl, p2, p3, p4⟩)
          exact ⟨rfl, .inr ⟨_, HE.out, Pan.later (HBL.out.trans (Hw4.out.mono HBL.out.size)) ⟨g, rfl, p2, p3, p4⟩⟩⟩
end Go.Proofs.YtopddflnahfomaaGreatDoor
