/-
  Iri.
-/
import Derived.Test.YtheeogbmljjbdaaGreatDoorM08
namespace Go.Proofs.YtheeogbmljjbdaaGreatDoor
set_option linter.unusedVariables false
set_option maxRecDepth 100000
open Go.ChangeShapes Go.WideShapes Go.ChangeAt Go.RowKit Go.Deep
theorem header_c (P K N : Nat) (nI : Int) (hn : nI = N) (h : P + 64 * N ≤ 200000) (w : World) : Calls Tryz.prog 88 #[.agg #[.int .i64 (P : Int), .int .u64 (K : Int)], .int .i64 nI] w fun e w' => e = .returned (.int .i64 ((P + 64 * N : Nat) : Int)) ∧ Below w.heap.size w w' := by
  subst hn
  have h1 : (P : Int) + 64 * N ≤ 200000 := by omega
  have h2 : (64 : Int) * N ≤ 200000 := by omega
  have HB : Hid (Below w.heap.size w (w.alloc (.cells #[.int .i64 (P : Int), .int .u64 (K : Int)] 150))) := (Below.refl _ _).alloc (Nat.le_refl _) _
  go_enter Tryz.func88, Tryz.ntmps88
  go_wp2
  go_ret
  exact ⟨ret_int (by omega), HB.out⟩
/-- The fault of a table's texts. -/
def txF (b : List Int) (P K H : Nat) : Flt :=
  if K ≤ vl b (H + 40) 4 then some (H + 40, 25) else if vl b (P + 64 * vl b (H + 40) 4 + 4) 4 ≠ 3 then some (H + 40, 25)
  else if ¬ room b (vl b (P + 64 * vl b (H + 40) 4 + 24) 8) (vl b (P + 64 * vl b (H + 40) 4 + 32) 8) then some (P + 64 * vl b (H + 40) 4 + 24, 20) else none
/-- The texts. -/
def txB (b : List Int) (P H : Nat) : List Int := (b.drop (vl b (P + 64 * vl b (H + 40) 4 + 24) 8)).take (vl b (P + 64 * vl b (H + 40) 4 + 32) 8)
set_option maxHeartbeats 8000000 in
theorem texts_c {b : List Int} (hB : AllB b) (hl : b.length ≤ 200000) (vb : Value) (P K H : Nat) (hP : P + 64 * K ≤ b.length) (hH : H + 64 ≤ b.length) (hK : K < 18446744073709551616) (w : World) (hv : Byt w vb b) :
    Calls Tryz.prog 102 #[.agg #[vb], .agg #[.int .i64 (P : Int), .int .u64 (K : Int)], .int .i64 H] w fun e w' =>
      (txF b P K H = none ∧ ∃ u, e = .returned u ∧ Byt w' u (txB b P H) ∧ Below w.heap.size w w') ∨ (∃ F, txF b P K H = some F ∧ Pan w F e w') := by
  have HV : Hid (∀ w', Below w.heap.size w w' → Byt w' vb b) := fun w' hb => hv.later hb rfl
  have HB : Hid (AllB b) := hB
  obtain ⟨a, cap, rfl, hc, _, _⟩ := hv
  obtain ⟨W1, hW1⟩ : ∃ W1, (w.alloc (.cells #[.slice a b.length cap] 65)).alloc (.cells #[.int .i64 (P : Int), .int .u64 (K : Int)] 150) = W1 := ⟨_, rfl⟩
  have HBL : Hid (Below w.heap.size w W1) := by rw [← hW1]; exact ((Below.refl _ _).alloc (Nat.le_refl _) _).alloc (by simp) _
  have hsz : Hid (W1.heap.size = w.heap.size + 2) := by unfold Hid; rw [← hW1]; simp
  have R3 : Hid (W1.heap[w.heap.size]? = some (.cells #[.slice a b.length cap] 65 (0, 0))) := by rw [← hW1]; exact heap_alloc2_old w _ _
  have R4 : Hid (W1.heap[w.heap.size + 1]? = some (.cells #[.int .i64 (P : Int), .int .u64 (K : Int)] 150 (0, 0))) := by rw [← hW1]; exact heap_alloc2_new w _ _
  have HC0 : Hid (∀ w', Below W1.heap.size W1 w' → w'.cell? ⟨w.heap.size, 0, none⟩ = some (.slice a b.length cap)) := fun w' hb => (hb.cell (by show w.heap.size < _; rw [hsz.out]; omega)).trans (cell_of_row W1 _ 0 _ _ _ R3.out)
  have HC1 : Hid (∀ w', Below W1.heap.size W1 w' → w'.cell? ⟨w.heap.size + 1, 0, none⟩ = some (.int .i64 (P : Int)) ∧ w'.cell? ⟨w.heap.size + 1, 1, none⟩ = some (.int .u64 (K : Int))) := fun w' hb => ⟨(hb.cell (by show w.heap.size + 1 < _; rw [hsz.out]; omega)).trans (cell_of_row W1 _ 0 _ _ _ R4.out), (hb.cell (by show w.heap.size + 1 < _; rw [hsz.out]; omega)).trans (cell_of_row W1 _ 1 _ _ _ R4.out)⟩
  have c4 : Hid (∀ wx, Below W1.heap.size W1 wx → ∀ pI : Int, pI = ((H + 40 : Nat) : Int) → Calls Tryz.prog 82 #[.agg #[.slice a b.length cap], .int .i64 pI] wx fun e w' => e = .returned (.int .u64 ((vl b (H + 40) 4 : Nat) : Int)) ∧ Below wx.heap.size wx w') := fun wx hx pI hpI => word_c HB.out hl _ (H + 40) pI hpI (by omega) wx (HV.out _ (HBL.out.trans (hx.mono HBL.out.size)))
  have hHI : (H : Int) + 64 ≤ b.length := by omega
  have hlI : (b.length : Int) ≤ 200000 := by omega
  have hPI : (P : Int) + 64 * K ≤ b.length := by omega
  have hKI : (K : Int) < 18446744073709551616 := by omega
  have HF : Hid (txF b P K H = if K ≤ vl b (H + 40) 4 then some (H + 40, 25) else if vl b (P + 64 * vl b (H + 40) 4 + 4) 4 ≠ 3 then some (H + 40, 25)
  else if ¬ room b (vl b (P + 64 * vl b (H + 40) 4 + 24) 8) (vl b (P + 64 * vl b (H + 40) 4 + 32) 8) then some (P + 64 * vl b (H + 40) 4 + 24, 20) else none) := rfl
  have HT : Hid (txB b P H = (b.drop (vl b (P + 64 * vl b (H + 40) 4 + 24) 8)).take (vl b (P + 64 * vl b (H + 40) 4 + 32) 8)) := rfl
  generalize txF b P K H = FF at HF ⊢
  generalize txB b P H = TT at HT ⊢
  have l4 := vl_lt8 hB (H + 40) 4 (by omega)
  generalize vl b (H + 40) 4 = N at c4 HF HT l4
  have i4 : (N : Int) < 18446744073709551616 := by omega
  obtain ⟨RR, hRR⟩ : ∃ RR : Ending → World → Prop, RR = fun e w' => (FF = none ∧ ∃ u, e = .returned u ∧ Byt w' u TT ∧ Below w.heap.size w w') ∨ (∃ F, FF = some F ∧ Pan w F e w') := ⟨_, rfl⟩
  rw [← hRR]
  have HRR : Hid (RR = fun e w' => (FF = none ∧ ∃ u, e = .returned u ∧ Byt w' u TT ∧ Below w.heap.size w w') ∨ (∃ F, FF = some F ∧ Pan w F e w')) := hRR
  clear hRR
  have HW1 : Hid (Below W1.heap.size W1 W1) := Below.refl _ _
  go_enter Tryz.func102, Tryz.ntmps102
  go_upto_region 1 with fail
  have k1 := HC0.out W1 HW1.out
  clear hW1
  go_upto_region 2 with (go_at_call 82; refine (c4.out _ HW1.out _ (by first | omega | (rw [IntKind.wrap_i64]; omega))).mono ?_; rintro e w2 ⟨rfl, hb⟩; have Hw2 : Hid (Below W1.heap.size W1 w2) := HW1.out.trans (hb.mono (HW1.out).size); clear hb)
  have k2 := HC0.out w2 Hw2.out
  obtain ⟨m0, m1⟩ := HC1.out w2 Hw2.out
  by_cases g1 : K ≤ N
  · have g1I : (K : Int) ≤ N := by omega
    have HE : Hid (FF = some (H + 40, 25)) := by unfold Hid; rw [HF.out, if_pos g1]
    clear g1
    go_wp2_with (go_at_call 51; refine (refuse_tI 25 (H + 40) _ (by first | omega | (rw [IntKind.wrap_i64]; omega)) _).mono ?_; rintro e w9 ⟨g, rfl, p2, p3, p4⟩)
    exact ⟨rfl, by rw [HRR.out]; exact .inr ⟨_, HE.out, Pan.later (HBL.out.trans (Hw2.out.mono HBL.out.size)) ⟨g, rfl, p2, p3, p4⟩⟩⟩
  · have g1I : ¬ (K : Int) ≤ N := by omega
    have HG1 : Hid (¬ K ≤ N) := g1
    have hNI : (N : Int) ≤ 200000 := by omega
    obtain ⟨O, hO⟩ : ∃ O, O = P + 64 * N := ⟨_, rfl⟩
    have hOl : O + 64 ≤ b.length := by omega
    have ck : Hid (∀ wx, Below W1.heap.size W1 wx → ∀ pI : Int, pI = ((O + 4 : Nat) : Int) → Calls Tryz.prog 82 #[.agg #[.slice a b.length cap], .int .i64 pI] wx fun e w' => e = .returned (.int .u64 ((vl b (O + 4) 4 : Nat) : Int)) ∧ Below wx.heap.size wx w') := fun wx hx pI hpI => word_c HB.out hl _ (O + 4) pI hpI (by omega) wx (HV.out _ (HBL.out.trans (hx.mono HBL.out.size)))
    have cs : Hid (∀ wx, Below W1.heap.size W1 wx → ∀ pI : Int, pI = ((O + 32 : Nat) : Int) → Calls Tryz.prog 56 #[.agg #[.slice a b.length cap], .int .i64 pI] wx fun e w' => e = .returned (.int .u64 ((vl b (O + 32) 8 : Nat) : Int)) ∧ Below wx.heap.size wx w') := fun wx hx pI hpI => double_c HB.out hl _ (O + 32) pI hpI (by omega) wx (HV.out _ (HBL.out.trans (hx.mono HBL.out.size)))
    have l3 := vl_lt8 hB (O + 32) 8 (by omega)
    have lk := vl_lt8 hB (O + 4) 4 (by omega)
    have c8 : Hid (∀ wx, Below W1.heap.size W1 wx → ∀ pI : Int, pI = ((O + 24 : Nat) : Int) → Calls Tryz.prog 83 #[.agg #[.slice a b.length cap], .int .i64 pI, .int .u64 ((vl b (O + 32) 8 : Nat) : Int)] wx fun e w' => (room b (vl b (O + 24) 8) (vl b (O + 32) 8) ∧ e = .returned (.int .i64 ((vl b (O + 24) 8 : Nat) : Int)) ∧ Below wx.heap.size wx w') ∨ (¬ room b (vl b (O + 24) 8) (vl b (O + 32) 8) ∧ Pan wx (O + 24, 20) e w')) := fun wx hx pI hpI => placeAt_c HB.out hl _ (O + 24) _ pI hpI (by omega) l3 wx (HV.out _ (HBL.out.trans (hx.mono HBL.out.size)))
    have cH : Hid (∀ wx, Calls Tryz.prog 88 #[.agg #[.int .i64 (P : Int), .int .u64 (K : Int)], .int .i64 (N : Int)] wx fun e w' => e = .returned (.int .i64 (O : Int)) ∧ Below wx.heap.size wx w') := fun wx => by rw [hO]; exact header_c P K N _ rfl (by omega) wx
    rw [← hO] at HF HT
    have hOI : (O : Int) + 64 ≤ b.length := by omega
    clear hO g1
    generalize vl b (O + 4) 4 = NK at ck lk HF
    generalize vl b (O + 32) 8 = NS at cs l3 HF HT c8
    generalize vl b (O + 24) 8 = NP at HF HT c8
    have iS : (NS : Int) < 18446744073709551616 := by omega
    have iK : (NK : Int) < 18446744073709551616 := by omega
    go_upto_region 4 with (first | (go_at_call 51; refine (refuse_f _ _ _).mono ?_; rintro e w9 ⟨rfl, hw9⟩; subst hw9) | (go_at_call 88; refine (cH.out _).mono ?_; rintro e w3 ⟨rfl, hb⟩; have Hw3 : Hid (Below W1.heap.size W1 w3) := Hw2.out.trans (hb.mono Hw2.out.size); clear hb))
    clear m0 m1 k1 k2
    have k3 := HC0.out w3 Hw3.out
    by_cases g2 : NK ≠ 3
    · have HE : Hid (FF = some (H + 40, 25)) := by unfold Hid; rw [HF.out, if_neg HG1.out, if_pos g2]
      have g2b : ((NK : Int) != 3) = true := by rw [bne_iff_ne]; omega
      clear g2
      go_wp2_with (first | (go_at_call 82; refine (ck.out _ Hw3.out _ (by first | omega | (rw [IntKind.wrap_i64]; omega))).mono ?_; rintro e w4 ⟨rfl, hb⟩; have Hw4 : Hid (Below W1.heap.size W1 w4) := Hw3.out.trans (hb.mono (Hw3.out).size); clear hb) | (go_at_call 51; refine (refuse_tI 25 (H + 40) _ (by first | omega | (rw [IntKind.wrap_i64]; omega)) _).mono ?_; rintro e w9 ⟨g, rfl, p2, p3, p4⟩))
      exact ⟨rfl, by rw [HRR.out]; exact .inr ⟨_, HE.out, Pan.later (HBL.out.trans (Hw4.out.mono HBL.out.size)) ⟨g, rfl, p2, p3, p4⟩⟩⟩
    · have HG2 : Hid (¬ NK ≠ 3) := g2
      have g2b : ((NK : Int) != 3) = false := by rw [bne_eq_false_iff_eq]; omega
      clear g2
      go_upto_region 5 with (first | (go_at_call 82; refine (ck.out _ Hw3.out _ (by first | omega | (rw [IntKind.wrap_i64]; omega))).mono ?_; rintro e w4 ⟨rfl, hb⟩; have Hw4 : Hid (Below W1.heap.size W1 w4) := Hw3.out.trans (hb.mono (Hw3.out).size); clear hb) | (go_at_call 51; refine (refuse_f _ _ _).mono ?_; rintro e w9 ⟨rfl, hw9⟩; subst hw9))
      clear k3
      have k4 := HC0.out w4 Hw4.out
      go_upto_region 6 with (go_at_call 56; refine (cs.out _ Hw4.out _ (by first | omega | (rw [IntKind.wrap_i64]; omega))).mono ?_; rintro e w5 ⟨rfl, hb⟩; have Hw5 : Hid (Below W1.heap.size W1 w5) := Hw4.out.trans (hb.mono (Hw4.out).size); clear hb)
      clear k4
      have k5 := HC0.out w5 Hw5.out
      by_cases hrm : room b NP NS
      · have HRM : Hid (room b NP NS) := hrm
        have HE : Hid (FF = none) := by unfold Hid; rw [HF.out, if_neg HG1.out, if_neg HG2.out, if_neg (fun q => q hrm)]
        have c8t : Hid (∀ wx, Below W1.heap.size W1 wx → ∀ pI : Int, pI = ((O + 24 : Nat) : Int) → Calls Tryz.prog 83 #[.agg #[.slice a b.length cap], .int .i64 pI, .int .u64 (NS : Int)] wx fun e w' => e = .returned (.int .i64 (NP : Int)) ∧ Below wx.heap.size wx w') := fun wx hx pI hpI => (c8.out wx hx pI hpI).mono fun e w' hq => hq.elim (fun h1 => h1.2) (fun h1 => absurd hrm h1.1)
        clear c8 hrm
        have hrm1 : (NP : Int) + NS ≤ b.length := by have := HRM.out; unfold room at this; omega
        have hsl : ∀ W, (Instr.slice 31 (.slice a b.length cap) (some (.int .i64 (NP : Int))) (some (.int .i64 ((NP : Int) + NS))) none).run Tryz.prog W = .ok (.slice (if cap = NP then a else a.map (fun x => x.add NP)) NS (cap - NP)) W := fun W => slice_I W a b.length cap NP NS _ rfl (by have := HRM.out; unfold room at this; omega)
        obtain ⟨VS, hVS⟩ : ∃ VS : Value, VS = .slice (if cap = NP then a else a.map (fun x => x.add NP)) NS (cap - NP) := ⟨_, rfl⟩
        rw [← hVS] at hsl
        have HVS : Hid (VS = .slice (if cap = NP then a else a.map (fun x => x.add NP)) NS (cap - NP)) := hVS
        clear hVS
        go_upto_region 7 with (go_at_call 83; refine (c8t.out _ Hw5.out _ (by first | omega | (rw [IntKind.wrap_i64]; omega))).mono ?_; rintro e w6 ⟨rfl, hb⟩; have Hw6 : Hid (Below W1.heap.size W1 w6) := Hw5.out.trans (hb.mono (Hw5.out).size); clear hb)
        clear k5
        have k6 := HC0.out w6 Hw6.out
        have HY : Hid (Byt w6 VS TT) := by
          unfold Hid
          rw [HT.out, HVS.out]
          exact (HV.out w6 (HBL.out.trans (Hw6.out.mono HBL.out.size))).sub (by have := HRM.out; unfold room at this; omega)
        go_wp2
        rw [HRR.out]
        exact .inl ⟨HE.out, VS, by rfl, HY.out, HBL.out.trans (Hw6.out.mono HBL.out.size)⟩
      · have HE : Hid (FF = some (O + 24, 20)) := by unfold Hid; rw [HF.out, if_neg HG1.out, if_neg HG2.out, if_pos hrm]
        have c8f : Hid (∀ wx, Below W1.heap.size W1 wx → ∀ pI : Int, pI = ((O + 24 : Nat) : Int) → Calls Tryz.prog 83 #[.agg #[.slice a b.length cap], .int .i64 pI, .int .u64 (NS : Int)] wx fun e w' => Pan wx (O + 24, 20) e w') := fun wx hx pI hpI => (c8.out wx hx pI hpI).mono fun e w' hq => hq.elim (fun h1 => absurd h1.1 hrm) (fun h1 => h1.2)
        clear c8 hrm
        go_wp2_with (go_at_call 83; refine (c8f.out _ Hw5.out _ (by first | omega | (rw [IntKind.wrap_i64]; omega))).mono ?_; rintro e w9 ⟨g, rfl, p2, p3, p4⟩)
        exact ⟨rfl, by rw [HRR.out]; exact .inr ⟨_, HE.out, Pan.later (HBL.out.trans (Hw5.out.mono HBL.out.size)) ⟨g, rfl, p2, p3, p4⟩⟩⟩
end Go.Proofs.YtheeogbmljjbdaaGreatDoor
