/-
  Irc.
-/
import Derived.Test.YtopddflnahfomaaGreatDoorM03
import Derived.Deep.RegionWith
import Derived.Deep.RegionLaw
namespace Go.Proofs.YtopddflnahfomaaGreatDoor
set_option linter.unusedVariables false
open Go.ChangeShapes Go.WideShapes Go.ChangeAt Go.RowKit Go.Deep
theorem refuse_d {d : Bool} (hd : d = false) (y q : Int) (w : World) : Calls Tryz.prog 27 #[.bool d, .int .i64 y, .int .i64 q] w fun e w' => e = .returned (.tuple #[]) ∧ w = w' := by subst hd; exact refuse_f y q w
set_option maxRecDepth 100000 in
set_option maxHeartbeats 8000000 in
theorem checkHead_c {b : List Int} (hB : AllB b) (hl : b.length ≤ 200000) (vb : Value) (w : World) (hv : Byt w vb b) :
    Calls Tryz.prog 29 #[.agg #[vb]] w fun e w' => (hdF b = none ∧ e = .returned (.tuple #[]) ∧ Below w.heap.size w w') ∨ (∃ F, hdF b = some F ∧ Pan w F e w') := by
  have HV : Hid (∀ w', Below w.heap.size w w' → Byt w' vb b) := fun w' hb => hv.later hb rfl
  have HB : Hid (AllB b) := hB
  obtain ⟨a, cap, rfl, hc, _, _⟩ := hv
  have HBL : Hid (Below w.heap.size w (w.alloc (.cells #[.slice a b.length cap] 54))) := (Below.refl _ _).alloc (Nat.le_refl _) _
  have hlI : (b.length : Int) ≤ 200000 := by omega
  have k0 : (w.alloc (.cells #[.slice a b.length cap] 54)).cell? ⟨w.heap.size, 0, none⟩ = some (.slice a b.length cap) := by simp
  have HLt : Hid (w.heap.size < (w.alloc (.cells #[.slice a b.length cap] 54)).heap.size) := by unfold Hid; simp
  have HC0 : Hid (∀ w', Below (w.alloc (.cells #[.slice a b.length cap] 54)).heap.size (w.alloc (.cells #[.slice a b.length cap] 54)) w' → w'.cell? ⟨w.heap.size, 0, none⟩ = some (.slice a b.length cap)) := fun w' hb => (hb.cell HLt.out).trans k0
  have cN1 : Hid (64 ≤ b.length → ∀ wx, Below (w.alloc (.cells #[.slice a b.length cap] 54)).heap.size (w.alloc (.cells #[.slice a b.length cap] 54)) wx → Calls Tryz.prog 46 #[.agg #[.slice a b.length cap], .int .i64 16] wx fun e w' => e = .returned (.int .u64 ((vl b 16 2 : Nat) : Int)) ∧ Below (w.alloc (.cells #[.slice a b.length cap] 54)).heap.size (w.alloc (.cells #[.slice a b.length cap] 54)) w') := fun h64 wx hx => ((half_c HB.out hl _ 16 16 rfl (by omega) wx (HV.out _ (HBL.out.trans (hx.mono HBL.out.size)))).mono fun _ _ h => ⟨h.1, hx.trans (h.2.mono hx.size)⟩)
  have cN2 : Hid (64 ≤ b.length → ∀ wx, Below (w.alloc (.cells #[.slice a b.length cap] 54)).heap.size (w.alloc (.cells #[.slice a b.length cap] 54)) wx → Calls Tryz.prog 46 #[.agg #[.slice a b.length cap], .int .i64 18] wx fun e w' => e = .returned (.int .u64 ((vl b 18 2 : Nat) : Int)) ∧ Below (w.alloc (.cells #[.slice a b.length cap] 54)).heap.size (w.alloc (.cells #[.slice a b.length cap] 54)) w') := fun h64 wx hx => ((half_c HB.out hl _ 18 18 rfl (by omega) wx (HV.out _ (HBL.out.trans (hx.mono HBL.out.size)))).mono fun _ _ h => ⟨h.1, hx.trans (h.2.mono hx.size)⟩)
  have cN3 : Hid (64 ≤ b.length → ∀ wx, Below (w.alloc (.cells #[.slice a b.length cap] 54)).heap.size (w.alloc (.cells #[.slice a b.length cap] 54)) wx → Calls Tryz.prog 47 #[.agg #[.slice a b.length cap], .int .i64 20] wx fun e w' => e = .returned (.int .u64 ((vl b 20 4 : Nat) : Int)) ∧ Below (w.alloc (.cells #[.slice a b.length cap] 54)).heap.size (w.alloc (.cells #[.slice a b.length cap] 54)) w') := fun h64 wx hx => ((word_c HB.out hl _ 20 20 rfl (by omega) wx (HV.out _ (HBL.out.trans (hx.mono HBL.out.size)))).mono fun _ _ h => ⟨h.1, hx.trans (h.2.mono hx.size)⟩)
  have cN4 : Hid (64 ≤ b.length → ∀ wx, Below (w.alloc (.cells #[.slice a b.length cap] 54)).heap.size (w.alloc (.cells #[.slice a b.length cap] 54)) wx → Calls Tryz.prog 32 #[.agg #[.slice a b.length cap], .int .i64 24] wx fun e w' => e = .returned (.int .u64 ((vl b 24 8 : Nat) : Int)) ∧ Below (w.alloc (.cells #[.slice a b.length cap] 54)).heap.size (w.alloc (.cells #[.slice a b.length cap] 54)) w') := fun h64 wx hx => ((double_c HB.out hl _ 24 24 rfl (by omega) wx (HV.out _ (HBL.out.trans (hx.mono HBL.out.size)))).mono fun _ _ h => ⟨h.1, hx.trans (h.2.mono hx.size)⟩)
  have cN5 : Hid (64 ≤ b.length → ∀ wx, Below (w.alloc (.cells #[.slice a b.length cap] 54)).heap.size (w.alloc (.cells #[.slice a b.length cap] 54)) wx → Calls Tryz.prog 47 #[.agg #[.slice a b.length cap], .int .i64 48] wx fun e w' => e = .returned (.int .u64 ((vl b 48 4 : Nat) : Int)) ∧ Below (w.alloc (.cells #[.slice a b.length cap] 54)).heap.size (w.alloc (.cells #[.slice a b.length cap] 54)) w') := fun h64 wx hx => ((word_c HB.out hl _ 48 48 rfl (by omega) wx (HV.out _ (HBL.out.trans (hx.mono HBL.out.size)))).mono fun _ _ h => ⟨h.1, hx.trans (h.2.mono hx.size)⟩)
  have cN6 : Hid (64 ≤ b.length → ∀ wx, Below (w.alloc (.cells #[.slice a b.length cap] 54)).heap.size (w.alloc (.cells #[.slice a b.length cap] 54)) wx → Calls Tryz.prog 46 #[.agg #[.slice a b.length cap], .int .i64 52] wx fun e w' => e = .returned (.int .u64 ((vl b 52 2 : Nat) : Int)) ∧ Below (w.alloc (.cells #[.slice a b.length cap] 54)).heap.size (w.alloc (.cells #[.slice a b.length cap] 54)) w') := fun h64 wx hx => ((half_c HB.out hl _ 52 52 rfl (by omega) wx (HV.out _ (HBL.out.trans (hx.mono HBL.out.size)))).mono fun _ _ h => ⟨h.1, hx.trans (h.2.mono hx.size)⟩)
  have HX : Hid (hdF b = hdF b) := rfl
  by_cases c0 : b.length < 64
  · skip
    have HE : Hid (hdF b = some (b.length, 20)) := by unfold Hid hdF; rw [if_pos c0]
    have h0 : (b.length : Int) < 64 := by omega
    clear c0 cN1 cN2 cN3 cN4 cN5 cN6
    go_enter Tryz.func29, Tryz.ntmps29
    go_upto_region 1 with fail
    generalize (w.alloc (.cells #[.slice a b.length cap] 54)) = w1 at *
    have HW : Hid (Below w1.heap.size w1 w1) := Below.refl _ _
    go_wp2_with (go_at_call 27; refine (refuse_t 20 b.length _).mono ?_; rintro e w9 ⟨g, rfl, h2, h3, h4⟩)
    exact ⟨rfl, .inr ⟨_, HE.out, Pan.later HBL.out ⟨g, rfl, h2, h3, h4⟩⟩⟩
  · skip
    by_cases c1 : vl b 16 2 ≠ 2
    · skip
      have HE : Hid (hdF b = some (16, 21)) := by unfold Hid hdF; rw [if_neg c0, if_pos c1]
      have h0 : ¬ (b.length : Int) < 64 := by omega
      have dN1 := cN1.out (by omega)
      have zN1 := c1
      obtain ⟨N1, hN1⟩ : ∃ N, N = vl b 16 2 := ⟨_, rfl⟩
      rw [← hN1] at zN1 dN1
      have yN1 : ((N1 : Int) != 2) = true := by (try rw [bne_iff_ne]); (try simp only [bne_eq_false_iff_eq]); omega
      have lN1 : (N1 : Int) < 18446744073709551616 := by have := vl_lt8 HB.out 16 2 (by omega); omega
      clear zN1 hN1
      have DN1 : Hid (∀ wx, Below (w.alloc (.cells #[.slice a b.length cap] 54)).heap.size (w.alloc (.cells #[.slice a b.length cap] 54)) wx → Calls Tryz.prog 46 #[.agg #[.slice a b.length cap], .int .i64 16] wx fun e w' => e = .returned (.int .u64 (N1 : Int)) ∧ Below (w.alloc (.cells #[.slice a b.length cap] 54)).heap.size (w.alloc (.cells #[.slice a b.length cap] 54)) w') := dN1
      clear dN1
      clear c0 c1 cN1 cN2 cN3 cN4 cN5 cN6
      go_enter Tryz.func29, Tryz.ntmps29
      go_upto_region 1 with fail
      generalize (w.alloc (.cells #[.slice a b.length cap] 54)) = w1 at *
      have HW : Hid (Below w1.heap.size w1 w1) := Below.refl _ _
      go_upto_region 2 with (go_at_call 27; refine (refuse_f _ _ _).mono ?_; rintro e w' ⟨rfl, rfl⟩)
      go_wp2_with (first | (go_at_call 46; refine (DN1.out w1 HW.out).mono ?_; rintro e v1 ⟨rfl, hb⟩; clear HW; have HW : Hid (Below w1.heap.size w1 v1) := hb; have qN1 := HC0.out v1 hb; clear hb) | (go_at_call 27; refine (refuse_t 21 16 _).mono ?_; rintro e w9 ⟨g, rfl, h2, h3, h4⟩))
      exact ⟨rfl, .inr ⟨_, HE.out, Pan.later (HBL.out.trans (HW.out.mono HBL.out.size)) ⟨g, rfl, h2, h3, h4⟩⟩⟩
    · skip
      by_cases c2 : vl b 18 2 ≠ 243
      · skip
        have HE : Hid (hdF b = some (18, 21)) := by unfold Hid hdF; rw [if_neg c0, if_neg c1, if_pos c2]
        have h0 : ¬ (b.length : Int) < 64 := by omega
        have dN1 := cN1.out (by omega)
        have dN2 := cN2.out (by omega)
        have zN1 := c1
        obtain ⟨N1, hN1⟩ : ∃ N, N = vl b 16 2 := ⟨_, rfl⟩
        rw [← hN1] at zN1 dN1
        have yN1 : ((N1 : Int) != 2) = false := by (try rw [bne_iff_ne]); (try simp only [bne_eq_false_iff_eq]); omega
        have lN1 : (N1 : Int) < 18446744073709551616 := by have := vl_lt8 HB.out 16 2 (by omega); omega
        clear zN1 hN1
        have DN1 : Hid (∀ wx, Below (w.alloc (.cells #[.slice a b.length cap] 54)).heap.size (w.alloc (.cells #[.slice a b.length cap] 54)) wx → Calls Tryz.prog 46 #[.agg #[.slice a b.length cap], .int .i64 16] wx fun e w' => e = .returned (.int .u64 (N1 : Int)) ∧ Below (w.alloc (.cells #[.slice a b.length cap] 54)).heap.size (w.alloc (.cells #[.slice a b.length cap] 54)) w') := dN1
        clear dN1
        have zN2 := c2
        obtain ⟨N2, hN2⟩ : ∃ N, N = vl b 18 2 := ⟨_, rfl⟩
        rw [← hN2] at zN2 dN2
        have yN2 : ((N2 : Int) != 243) = true := by (try rw [bne_iff_ne]); (try simp only [bne_eq_false_iff_eq]); omega
        have lN2 : (N2 : Int) < 18446744073709551616 := by have := vl_lt8 HB.out 18 2 (by omega); omega
        clear zN2 hN2
        have DN2 : Hid (∀ wx, Below (w.alloc (.cells #[.slice a b.length cap] 54)).heap.size (w.alloc (.cells #[.slice a b.length cap] 54)) wx → Calls Tryz.prog 46 #[.agg #[.slice a b.length cap], .int .i64 18] wx fun e w' => e = .returned (.int .u64 (N2 : Int)) ∧ Below (w.alloc (.cells #[.slice a b.length cap] 54)).heap.size (w.alloc (.cells #[.slice a b.length cap] 54)) w') := dN2
        clear dN2
        clear c0 c1 c2 cN1 cN2 cN3 cN4 cN5 cN6
        go_enter Tryz.func29, Tryz.ntmps29
        go_upto_region 1 with fail
        generalize (w.alloc (.cells #[.slice a b.length cap] 54)) = w1 at *
        have HW : Hid (Below w1.heap.size w1 w1) := Below.refl _ _
        go_upto_region 2 with (go_at_call 27; refine (refuse_f _ _ _).mono ?_; rintro e w' ⟨rfl, rfl⟩)
        go_upto_region 3 with (first | (go_at_call 46; refine (DN1.out w1 HW.out).mono ?_; rintro e v1 ⟨rfl, hb⟩; clear HW; have HW : Hid (Below w1.heap.size w1 v1) := hb; have qN1 := HC0.out v1 hb; clear hb) | (go_at_call 27; refine (refuse_f _ _ _).mono ?_; rintro e w' ⟨rfl, rfl⟩))
        go_wp2_with (first | (go_at_call 46; refine (DN2.out v1 HW.out).mono ?_; rintro e v2 ⟨rfl, hb⟩; clear HW; have HW : Hid (Below w1.heap.size w1 v2) := hb; have qN2 := HC0.out v2 hb; clear hb) | (go_at_call 27; refine (refuse_t 21 18 _).mono ?_; rintro e w9 ⟨g, rfl, h2, h3, h4⟩))
        exact ⟨rfl, .inr ⟨_, HE.out, Pan.later (HBL.out.trans (HW.out.mono HBL.out.size)) ⟨g, rfl, h2, h3, h4⟩⟩⟩
      · skip
        by_cases c3 : vl b 20 4 ≠ 1
        · skip
          have HE : Hid (hdF b = some (20, 21)) := by unfold Hid hdF; rw [if_neg c0, if_neg c1, if_neg c2, if_pos c3]
          have h0 : ¬ (b.length : Int) < 64 := by omega
          have dN1 := cN1.out (by omega)
          have dN2 := cN2.out (by omega)
          have dN3 := cN3.out (by omega)
          have zN1 := c1
          obtain ⟨N1, hN1⟩ : ∃ N, N = vl b 16 2 := ⟨_, rfl⟩
          rw [← hN1] at zN1 dN1
          have yN1 : ((N1 : Int) != 2) = false := by (try rw [bne_iff_ne]); (try simp only [bne_eq_false_iff_eq]); omega
          have lN1 : (N1 : Int) < 18446744073709551616 := by have := vl_lt8 HB.out 16 2 (by omega); omega
          clear zN1 hN1
          have DN1 : Hid (∀ wx, Below (w.alloc (.cells #[.slice a b.length cap] 54)).heap.size (w.alloc (.cells #[.slice a b.length cap] 54)) wx → Calls Tryz.prog 46 #[.agg #[.slice a b.length cap], .int .i64 16] wx fun e w' => e = .returned (.int .u64 (N1 : Int)) ∧ Below (w.alloc (.cells #[.slice a b.length cap] 54)).heap.size (w.alloc (.cells #[.slice a b.length cap] 54)) w') := dN1
          clear dN1
          have zN2 := c2
          obtain ⟨N2, hN2⟩ : ∃ N, N = vl b 18 2 := ⟨_, rfl⟩
          rw [← hN2] at zN2 dN2
          have yN2 : ((N2 : Int) != 243) = false := by (try rw [bne_iff_ne]); (try simp only [bne_eq_false_iff_eq]); omega
          have lN2 : (N2 : Int) < 18446744073709551616 := by have := vl_lt8 HB.out 18 2 (by omega); omega
          clear zN2 hN2
          have DN2 : Hid (∀ wx, Below (w.alloc (.cells #[.slice a b.length cap] 54)).heap.size (w.alloc (.cells #[.slice a b.length cap] 54)) wx → Calls Tryz.prog 46 #[.agg #[.slice a b.length cap], .int .i64 18] wx fun e w' => e = .returned (.int .u64 (N2 : Int)) ∧ Below (w.alloc (.cells #[.slice a b.length cap] 54)).heap.size (w.alloc (.cells #[.slice a b.length cap] 54)) w') := dN2
          clear dN2
          have zN3 := c3
          obtain ⟨N3, hN3⟩ : ∃ N, N = vl b 20 4 := ⟨_, rfl⟩
          rw [← hN3] at zN3 dN3
          have yN3 : ((N3 : Int) != 1) = true := by (try rw [bne_iff_ne]); (try simp only [bne_eq_false_iff_eq]); omega
          have lN3 : (N3 : Int) < 18446744073709551616 := by have := vl_lt8 HB.out 20 4 (by omega); omega
          clear zN3 hN3
          have DN3 : Hid (∀ wx, Below (w.alloc (.cells #[.slice a b.length cap] 54)).heap.size (w.alloc (.cells #[.slice a b.length cap] 54)) wx → Calls Tryz.prog 47 #[.agg #[.slice a b.length cap], .int .i64 20] wx fun e w' => e = .returned (.int .u64 (N3 : Int)) ∧ Below (w.alloc (.cells #[.slice a b.length cap] 54)).heap.size (w.alloc (.cells #[.slice a b.length cap] 54)) w') := dN3
          clear dN3
          clear c0 c1 c2 c3 cN1 cN2 cN3 cN4 cN5 cN6
          go_enter Tryz.func29, Tryz.ntmps29
          go_upto_region 1 with fail
          generalize (w.alloc (.cells #[.slice a b.length cap] 54)) = w1 at *
          have HW : Hid (Below w1.heap.size w1 w1) := Below.refl _ _
          go_upto_region 2 with (go_at_call 27; refine (refuse_f _ _ _).mono ?_; rintro e w' ⟨rfl, rfl⟩)
          go_upto_region 3 with (first | (go_at_call 46; refine (DN1.out w1 HW.out).mono ?_; rintro e v1 ⟨rfl, hb⟩; clear HW; have HW : Hid (Below w1.heap.size w1 v1) := hb; have qN1 := HC0.out v1 hb; clear hb) | (go_at_call 27; refine (refuse_f _ _ _).mono ?_; rintro e w' ⟨rfl, rfl⟩))
          go_upto_region 4 with (first | (go_at_call 46; refine (DN2.out v1 HW.out).mono ?_; rintro e v2 ⟨rfl, hb⟩; clear HW; have HW : Hid (Below w1.heap.size w1 v2) := hb; have qN2 := HC0.out v2 hb; clear hb) | (go_at_call 27; refine (refuse_f _ _ _).mono ?_; rintro e w' ⟨rfl, rfl⟩))
          go_wp2_with (first | (go_at_call 47; refine (DN3.out v2 HW.out).mono ?_; rintro e v3 ⟨rfl, hb⟩; clear HW; have HW : Hid (Below w1.heap.size w1 v3) := hb; have qN3 := HC0.out v3 hb; clear hb) | (go_at_call 27; refine (refuse_t 21 20 _).mono ?_; rintro e w9 ⟨g, rfl, h2, h3, h4⟩))
          exact ⟨rfl, .inr ⟨_, HE.out, Pan.later (HBL.out.trans (HW.out.mono HBL.out.size)) ⟨g, rfl, h2, h3, h4⟩⟩⟩
        · skip
          by_cases c4 : vl b 24 8 % 2 = 1
          · skip
            have HE : Hid (hdF b = some (24, 22)) := by unfold Hid hdF; rw [if_neg c0, if_neg c1, if_neg c2, if_neg c3, if_pos c4]
            have h0 : ¬ (b.length : Int) < 64 := by omega
            have dN1 := cN1.out (by omega)
            have dN2 := cN2.out (by omega)
            have dN3 := cN3.out (by omega)
            have dN4 := cN4.out (by omega)
            have zN1 := c1
            obtain ⟨N1, hN1⟩ : ∃ N, N = vl b 16 2 := ⟨_, rfl⟩
            rw [← hN1] at zN1 dN1
            have yN1 : ((N1 : Int) != 2) = false := by (try rw [bne_iff_ne]); (try simp only [bne_eq_false_iff_eq]); omega
            have lN1 : (N1 : Int) < 18446744073709551616 := by have := vl_lt8 HB.out 16 2 (by omega); omega
            clear zN1 hN1
            have DN1 : Hid (∀ wx, Below (w.alloc (.cells #[.slice a b.length cap] 54)).heap.size (w.alloc (.cells #[.slice a b.length cap] 54)) wx → Calls Tryz.prog 46 #[.agg #[.slice a b.length cap], .int .i64 16] wx fun e w' => e = .returned (.int .u64 (N1 : Int)) ∧ Below (w.alloc (.cells #[.slice a b.length cap] 54)).heap.size (w.alloc (.cells #[.slice a b.length cap] 54)) w') := dN1
            clear dN1
            have zN2 := c2
            obtain ⟨N2, hN2⟩ : ∃ N, N = vl b 18 2 := ⟨_, rfl⟩
            rw [← hN2] at zN2 dN2
            have yN2 : ((N2 : Int) != 243) = false := by (try rw [bne_iff_ne]); (try simp only [bne_eq_false_iff_eq]); omega
            have lN2 : (N2 : Int) < 18446744073709551616 := by have := vl_lt8 HB.out 18 2 (by omega); omega
            clear zN2 hN2
            have DN2 : Hid (∀ wx, Below (w.alloc (.cells #[.slice a b.length cap] 54)).heap.size (w.alloc (.cells #[.slice a b.length cap] 54)) wx → Calls Tryz.prog 46 #[.agg #[.slice a b.length cap], .int .i64 18] wx fun e w' => e = .returned (.int .u64 (N2 : Int)) ∧ Below (w.alloc (.cells #[.slice a b.length cap] 54)).heap.size (w.alloc (.cells #[.slice a b.length cap] 54)) w') := dN2
            clear dN2
            have zN3 := c3
            obtain ⟨N3, hN3⟩ : ∃ N, N = vl b 20 4 := ⟨_, rfl⟩
            rw [← hN3] at zN3 dN3
            have yN3 : ((N3 : Int) != 1) = false := by (try rw [bne_iff_ne]); (try simp only [bne_eq_false_iff_eq]); omega
            have lN3 : (N3 : Int) < 18446744073709551616 := by have := vl_lt8 HB.out 20 4 (by omega); omega
            clear zN3 hN3
            have DN3 : Hid (∀ wx, Below (w.alloc (.cells #[.slice a b.length cap] 54)).heap.size (w.alloc (.cells #[.slice a b.length cap] 54)) wx → Calls Tryz.prog 47 #[.agg #[.slice a b.length cap], .int .i64 20] wx fun e w' => e = .returned (.int .u64 (N3 : Int)) ∧ Below (w.alloc (.cells #[.slice a b.length cap] 54)).heap.size (w.alloc (.cells #[.slice a b.length cap] 54)) w') := dN3
            clear dN3
            have zN4 := c4
            obtain ⟨N4, hN4⟩ : ∃ N, N = vl b 24 8 := ⟨_, rfl⟩
            rw [← hN4] at zN4 dN4
            have rN4 : N4 % 2 = 1 := by omega
            have yN4 : ((N4 : Int) % 2 != 0) = true := by rw [show (N4 : Int) % 2 = 1 by omega]; rfl
            have xN4 : (((N4 % 2 : Nat) : Int) != 0) = true := by rw [rN4]; rfl
            have vN4 : ((N4 : Int).tmod 2 != 0) = true := by rw [Int.tmod_eq_emod_of_nonneg (by omega)]; exact yN4
            clear rN4
            have lN4 : (N4 : Int) < 18446744073709551616 := by have := vl_lt8 HB.out 24 8 (by omega); omega
            clear zN4 hN4
            have DN4 : Hid (∀ wx, Below (w.alloc (.cells #[.slice a b.length cap] 54)).heap.size (w.alloc (.cells #[.slice a b.length cap] 54)) wx → Calls Tryz.prog 32 #[.agg #[.slice a b.length cap], .int .i64 24] wx fun e w' => e = .returned (.int .u64 (N4 : Int)) ∧ Below (w.alloc (.cells #[.slice a b.length cap] 54)).heap.size (w.alloc (.cells #[.slice a b.length cap] 54)) w') := dN4
            clear dN4
            clear c0 c1 c2 c3 c4 cN1 cN2 cN3 cN4 cN5 cN6
            go_enter Tryz.func29, Tryz.ntmps29
            go_upto_region 1 with fail
            generalize (w.alloc (.cells #[.slice a b.length cap] 54)) = w1 at *
            have HW : Hid (Below w1.heap.size w1 w1) := Below.refl _ _
            go_upto_region 2 with (go_at_call 27; refine (refuse_f _ _ _).mono ?_; rintro e w' ⟨rfl, rfl⟩)
            go_upto_region 3 with (first | (go_at_call 46; refine (DN1.out w1 HW.out).mono ?_; rintro e v1 ⟨rfl, hb⟩; clear HW; have HW : Hid (Below w1.heap.size w1 v1) := hb; have qN1 := HC0.out v1 hb; clear hb) | (go_at_call 27; refine (refuse_f _ _ _).mono ?_; rintro e w' ⟨rfl, rfl⟩))
            go_upto_region 4 with (first | (go_at_call 46; refine (DN2.out v1 HW.out).mono ?_; rintro e v2 ⟨rfl, hb⟩; clear HW; have HW : Hid (Below w1.heap.size w1 v2) := hb; have qN2 := HC0.out v2 hb; clear hb) | (go_at_call 27; refine (refuse_f _ _ _).mono ?_; rintro e w' ⟨rfl, rfl⟩))
            go_upto_region 5 with (first | (go_at_call 47; refine (DN3.out v2 HW.out).mono ?_; rintro e v3 ⟨rfl, hb⟩; clear HW; have HW : Hid (Below w1.heap.size w1 v3) := hb; have qN3 := HC0.out v3 hb; clear hb) | (go_at_call 27; refine (refuse_f _ _ _).mono ?_; rintro e w' ⟨rfl, rfl⟩))
            go_wp2_with (first | (go_at_call 32; refine (DN4.out v3 HW.out).mono ?_; rintro e v4 ⟨rfl, hb⟩; clear HW; have HW : Hid (Below w1.heap.size w1 v4) := hb; have qN4 := HC0.out v4 hb; clear hb) | (go_at_call 27; refine (refuse_t 22 24 _).mono ?_; rintro e w9 ⟨g, rfl, h2, h3, h4⟩))
            exact ⟨rfl, .inr ⟨_, HE.out, Pan.later (HBL.out.trans (HW.out.mono HBL.out.size)) ⟨g, rfl, h2, h3, h4⟩⟩⟩
          · skip
            by_cases c5 : 1 < vl b 48 4
            · skip
              have HE : Hid (hdF b = some (48, 22)) := by unfold Hid hdF; rw [if_neg c0, if_neg c1, if_neg c2, if_neg c3, if_neg c4, if_pos c5]
              have h0 : ¬ (b.length : Int) < 64 := by omega
              have dN1 := cN1.out (by omega)
              have dN2 := cN2.out (by omega)
              have dN3 := cN3.out (by omega)
              have dN4 := cN4.out (by omega)
              have dN5 := cN5.out (by omega)
              have zN1 := c1
              obtain ⟨N1, hN1⟩ : ∃ N, N = vl b 16 2 := ⟨_, rfl⟩
              rw [← hN1] at zN1 dN1
              have yN1 : ((N1 : Int) != 2) = false := by (try rw [bne_iff_ne]); (try simp only [bne_eq_false_iff_eq]); omega
              have lN1 : (N1 : Int) < 18446744073709551616 := by have := vl_lt8 HB.out 16 2 (by omega); omega
              clear zN1 hN1
              have DN1 : Hid (∀ wx, Below (w.alloc (.cells #[.slice a b.length cap] 54)).heap.size (w.alloc (.cells #[.slice a b.length cap] 54)) wx → Calls Tryz.prog 46 #[.agg #[.slice a b.length cap], .int .i64 16] wx fun e w' => e = .returned (.int .u64 (N1 : Int)) ∧ Below (w.alloc (.cells #[.slice a b.length cap] 54)).heap.size (w.alloc (.cells #[.slice a b.length cap] 54)) w') := dN1
              clear dN1
              have zN2 := c2
              obtain ⟨N2, hN2⟩ : ∃ N, N = vl b 18 2 := ⟨_, rfl⟩
              rw [← hN2] at zN2 dN2
              have yN2 : ((N2 : Int) != 243) = false := by (try rw [bne_iff_ne]); (try simp only [bne_eq_false_iff_eq]); omega
              have lN2 : (N2 : Int) < 18446744073709551616 := by have := vl_lt8 HB.out 18 2 (by omega); omega
              clear zN2 hN2
              have DN2 : Hid (∀ wx, Below (w.alloc (.cells #[.slice a b.length cap] 54)).heap.size (w.alloc (.cells #[.slice a b.length cap] 54)) wx → Calls Tryz.prog 46 #[.agg #[.slice a b.length cap], .int .i64 18] wx fun e w' => e = .returned (.int .u64 (N2 : Int)) ∧ Below (w.alloc (.cells #[.slice a b.length cap] 54)).heap.size (w.alloc (.cells #[.slice a b.length cap] 54)) w') := dN2
              clear dN2
              have zN3 := c3
              obtain ⟨N3, hN3⟩ : ∃ N, N = vl b 20 4 := ⟨_, rfl⟩
              rw [← hN3] at zN3 dN3
              have yN3 : ((N3 : Int) != 1) = false := by (try rw [bne_iff_ne]); (try simp only [bne_eq_false_iff_eq]); omega
              have lN3 : (N3 : Int) < 18446744073709551616 := by have := vl_lt8 HB.out 20 4 (by omega); omega
              clear zN3 hN3
              have DN3 : Hid (∀ wx, Below (w.alloc (.cells #[.slice a b.length cap] 54)).heap.size (w.alloc (.cells #[.slice a b.length cap] 54)) wx → Calls Tryz.prog 47 #[.agg #[.slice a b.length cap], .int .i64 20] wx fun e w' => e = .returned (.int .u64 (N3 : Int)) ∧ Below (w.alloc (.cells #[.slice a b.length cap] 54)).heap.size (w.alloc (.cells #[.slice a b.length cap] 54)) w') := dN3
              clear dN3
              have zN4 := c4
              obtain ⟨N4, hN4⟩ : ∃ N, N = vl b 24 8 := ⟨_, rfl⟩
              rw [← hN4] at zN4 dN4
              have rN4 : N4 % 2 = 0 := by omega
              have yN4 : ((N4 : Int) % 2 != 0) = false := by rw [show (N4 : Int) % 2 = 0 by omega]; rfl
              have xN4 : (((N4 % 2 : Nat) : Int) != 0) = false := by rw [rN4]; rfl
              have vN4 : ((N4 : Int).tmod 2 != 0) = false := by rw [Int.tmod_eq_emod_of_nonneg (by omega)]; exact yN4
              clear rN4
              have lN4 : (N4 : Int) < 18446744073709551616 := by have := vl_lt8 HB.out 24 8 (by omega); omega
              clear zN4 hN4
              have DN4 : Hid (∀ wx, Below (w.alloc (.cells #[.slice a b.length cap] 54)).heap.size (w.alloc (.cells #[.slice a b.length cap] 54)) wx → Calls Tryz.prog 32 #[.agg #[.slice a b.length cap], .int .i64 24] wx fun e w' => e = .returned (.int .u64 (N4 : Int)) ∧ Below (w.alloc (.cells #[.slice a b.length cap] 54)).heap.size (w.alloc (.cells #[.slice a b.length cap] 54)) w') := dN4
              clear dN4
              have zN5 := c5
              obtain ⟨N5, hN5⟩ : ∃ N, N = vl b 48 4 := ⟨_, rfl⟩
              rw [← hN5] at zN5 dN5
              have yN5 : (1 : Int) < N5 := by (try rw [bne_iff_ne]); (try simp only [bne_eq_false_iff_eq]); omega
              have lN5 : (N5 : Int) < 18446744073709551616 := by have := vl_lt8 HB.out 48 4 (by omega); omega
              clear zN5 hN5
              have DN5 : Hid (∀ wx, Below (w.alloc (.cells #[.slice a b.length cap] 54)).heap.size (w.alloc (.cells #[.slice a b.length cap] 54)) wx → Calls Tryz.prog 47 #[.agg #[.slice a b.length cap], .int .i64 48] wx fun e w' => e = .returned (.int .u64 (N5 : Int)) ∧ Below (w.alloc (.cells #[.slice a b.length cap] 54)).heap.size (w.alloc (.cells #[.slice a b.length cap] 54)) w') := dN5
              clear dN5
              clear c0 c1 c2 c3 c4 c5 cN1 cN2 cN3 cN4 cN5 cN6
              go_enter Tryz.func29, Tryz.ntmps29
              go_upto_region 1 with fail
              generalize (w.alloc (.cells #[.slice a b.length cap] 54)) = w1 at *
              have HW : Hid (Below w1.heap.size w1 w1) := Below.refl _ _
              go_upto_region 2 with (go_at_call 27; refine (refuse_f _ _ _).mono ?_; rintro e w' ⟨rfl, rfl⟩)
              go_upto_region 3 with (first | (go_at_call 46; refine (DN1.out w1 HW.out).mono ?_; rintro e v1 ⟨rfl, hb⟩; clear HW; have HW : Hid (Below w1.heap.size w1 v1) := hb; have qN1 := HC0.out v1 hb; clear hb) | (go_at_call 27; refine (refuse_f _ _ _).mono ?_; rintro e w' ⟨rfl, rfl⟩))
              go_upto_region 4 with (first | (go_at_call 46; refine (DN2.out v1 HW.out).mono ?_; rintro e v2 ⟨rfl, hb⟩; clear HW; have HW : Hid (Below w1.heap.size w1 v2) := hb; have qN2 := HC0.out v2 hb; clear hb) | (go_at_call 27; refine (refuse_f _ _ _).mono ?_; rintro e w' ⟨rfl, rfl⟩))
              go_upto_region 5 with (first | (go_at_call 47; refine (DN3.out v2 HW.out).mono ?_; rintro e v3 ⟨rfl, hb⟩; clear HW; have HW : Hid (Below w1.heap.size w1 v3) := hb; have qN3 := HC0.out v3 hb; clear hb) | (go_at_call 27; refine (refuse_f _ _ _).mono ?_; rintro e w' ⟨rfl, rfl⟩))
              go_upto_region 6 with (first | (go_at_call 32; refine (DN4.out v3 HW.out).mono ?_; rintro e v4 ⟨rfl, hb⟩; clear HW; have HW : Hid (Below w1.heap.size w1 v4) := hb; have qN4 := HC0.out v4 hb; clear hb) | (go_at_call 27; refine (refuse_f _ _ _).mono ?_; rintro e w' ⟨rfl, rfl⟩))
              go_wp2_with (first | (go_at_call 47; refine (DN5.out v4 HW.out).mono ?_; rintro e v5 ⟨rfl, hb⟩; clear HW; have HW : Hid (Below w1.heap.size w1 v5) := hb; have qN5 := HC0.out v5 hb; clear hb) | (go_at_call 27; refine (refuse_t 22 48 _).mono ?_; rintro e w9 ⟨g, rfl, h2, h3, h4⟩))
              exact ⟨rfl, .inr ⟨_, HE.out, Pan.later (HBL.out.trans (HW.out.mono HBL.out.size)) ⟨g, rfl, h2, h3, h4⟩⟩⟩
            · skip
              by_cases c6 : vl b 52 2 ≠ 64
              · skip
                have HE : Hid (hdF b = some (52, 22)) := by unfold Hid hdF; rw [if_neg c0, if_neg c1, if_neg c2, if_neg c3, if_neg c4, if_neg c5, if_pos c6]
                have h0 : ¬ (b.length : Int) < 64 := by omega
                have dN1 := cN1.out (by omega)
                have dN2 := cN2.out (by omega)
                have dN3 := cN3.out (by omega)
                have dN4 := cN4.out (by omega)
                have dN5 := cN5.out (by omega)
                have dN6 := cN6.out (by omega)
                have zN1 := c1
                obtain ⟨N1, hN1⟩ : ∃ N, N = vl b 16 2 := ⟨_, rfl⟩
                rw [← hN1] at zN1 dN1
                have yN1 : ((N1 : Int) != 2) = false := by (try rw [bne_iff_ne]); (try simp only [bne_eq_false_iff_eq]); omega
                have lN1 : (N1 : Int) < 18446744073709551616 := by have := vl_lt8 HB.out 16 2 (by omega); omega
                clear zN1 hN1
                have DN1 : Hid (∀ wx, Below (w.alloc (.cells #[.slice a b.length cap] 54)).heap.size (w.alloc (.cells #[.slice a b.length cap] 54)) wx → Calls Tryz.prog 46 #[.agg #[.slice a b.length cap], .int .i64 16] wx fun e w' => e = .returned (.int .u64 (N1 : Int)) ∧ Below (w.alloc (.cells #[.slice a b.length cap] 54)).heap.size (w.alloc (.cells #[.slice a b.length cap] 54)) w') := dN1
                clear dN1
                have zN2 := c2
                obtain ⟨N2, hN2⟩ : ∃ N, N = vl b 18 2 := ⟨_, rfl⟩
                rw [← hN2] at zN2 dN2
                have yN2 : ((N2 : Int) != 243) = false := by (try rw [bne_iff_ne]); (try simp only [bne_eq_false_iff_eq]); omega
                have lN2 : (N2 : Int) < 18446744073709551616 := by have := vl_lt8 HB.out 18 2 (by omega); omega
                clear zN2 hN2
                have DN2 : Hid (∀ wx, Below (w.alloc (.cells #[.slice a b.length cap] 54)).heap.size (w.alloc (.cells #[.slice a b.length cap] 54)) wx → Calls Tryz.prog 46 #[.agg #[.slice a b.length cap], .int .i64 18] wx fun e w' => e = .returned (.int .u64 (N2 : Int)) ∧ Below (w.alloc (.cells #[.slice a b.length cap] 54)).heap.size (w.alloc (.cells #[.slice a b.length cap] 54)) w') := dN2
                clear dN2
                have zN3 := c3
                obtain ⟨N3, hN3⟩ : ∃ N, N = vl b 20 4 := ⟨_, rfl⟩
                rw [← hN3] at zN3 dN3
                have yN3 : ((N3 : Int) != 1) = false := by (try rw [bne_iff_ne]); (try simp only [bne_eq_false_iff_eq]); omega
                have lN3 : (N3 : Int) < 18446744073709551616 := by have := vl_lt8 HB.out 20 4 (by omega); omega
                clear zN3 hN3
                have DN3 : Hid (∀ wx, Below (w.alloc (.cells #[.slice a b.length cap] 54)).heap.size (w.alloc (.cells #[.slice a b.length cap] 54)) wx → Calls Tryz.prog 47 #[.agg #[.slice a b.length cap], .int .i64 20] wx fun e w' => e = .returned (.int .u64 (N3 : Int)) ∧ Below (w.alloc (.cells #[.slice a b.length cap] 54)).heap.size (w.alloc (.cells #[.slice a b.length cap] 54)) w') := dN3
                clear dN3
                have zN4 := c4
                obtain ⟨N4, hN4⟩ : ∃ N, N = vl b 24 8 := ⟨_, rfl⟩
                rw [← hN4] at zN4 dN4
                have rN4 : N4 % 2 = 0 := by omega
                have yN4 : ((N4 : Int) % 2 != 0) = false := by rw [show (N4 : Int) % 2 = 0 by omega]; rfl
                have xN4 : (((N4 % 2 : Nat) : Int) != 0) = false := by rw [rN4]; rfl
                have vN4 : ((N4 : Int).tmod 2 != 0) = false := by rw [Int.tmod_eq_emod_of_nonneg (by omega)]; exact yN4
                clear rN4
                have lN4 : (N4 : Int) < 18446744073709551616 := by have := vl_lt8 HB.out 24 8 (by omega); omega
                clear zN4 hN4
                have DN4 : Hid (∀ wx, Below (w.alloc (.cells #[.slice a b.length cap] 54)).heap.size (w.alloc (.cells #[.slice a b.length cap] 54)) wx → Calls Tryz.prog 32 #[.agg #[.slice a b.length cap], .int .i64 24] wx fun e w' => e = .returned (.int .u64 (N4 : Int)) ∧ Below (w.alloc (.cells #[.slice a b.length cap] 54)).heap.size (w.alloc (.cells #[.slice a b.length cap] 54)) w') := dN4
                clear dN4
                have zN5 := c5
                obtain ⟨N5, hN5⟩ : ∃ N, N = vl b 48 4 := ⟨_, rfl⟩
                rw [← hN5] at zN5 dN5
                have yN5 : (N5 : Int) ≤ 1 := by (try rw [bne_iff_ne]); (try simp only [bne_eq_false_iff_eq]); omega
                have lN5 : (N5 : Int) < 18446744073709551616 := by have := vl_lt8 HB.out 48 4 (by omega); omega
                clear zN5 hN5
                have DN5 : Hid (∀ wx, Below (w.alloc (.cells #[.slice a b.length cap] 54)).heap.size (w.alloc (.cells #[.slice a b.length cap] 54)) wx → Calls Tryz.prog 47 #[.agg #[.slice a b.length cap], .int .i64 48] wx fun e w' => e = .returned (.int .u64 (N5 : Int)) ∧ Below (w.alloc (.cells #[.slice a b.length cap] 54)).heap.size (w.alloc (.cells #[.slice a b.length cap] 54)) w') := dN5
                clear dN5
                have zN6 := c6
                obtain ⟨N6, hN6⟩ : ∃ N, N = vl b 52 2 := ⟨_, rfl⟩
                rw [← hN6] at zN6 dN6
                have yN6 : ((N6 : Int) != 64) = true := by (try rw [bne_iff_ne]); (try simp only [bne_eq_false_iff_eq]); omega
                have lN6 : (N6 : Int) < 18446744073709551616 := by have := vl_lt8 HB.out 52 2 (by omega); omega
                clear zN6 hN6
                have DN6 : Hid (∀ wx, Below (w.alloc (.cells #[.slice a b.length cap] 54)).heap.size (w.alloc (.cells #[.slice a b.length cap] 54)) wx → Calls Tryz.prog 46 #[.agg #[.slice a b.length cap], .int .i64 52] wx fun e w' => e = .returned (.int .u64 (N6 : Int)) ∧ Below (w.alloc (.cells #[.slice a b.length cap] 54)).heap.size (w.alloc (.cells #[.slice a b.length cap] 54)) w') := dN6
                clear dN6
                clear c0 c1 c2 c3 c4 c5 c6 cN1 cN2 cN3 cN4 cN5 cN6
                go_enter Tryz.func29, Tryz.ntmps29
                go_upto_region 1 with fail
                generalize (w.alloc (.cells #[.slice a b.length cap] 54)) = w1 at *
                have HW : Hid (Below w1.heap.size w1 w1) := Below.refl _ _
                go_upto_region 2 with (go_at_call 27; refine (refuse_f _ _ _).mono ?_; rintro e w' ⟨rfl, rfl⟩)
                go_upto_region 3 with (first | (go_at_call 46; refine (DN1.out w1 HW.out).mono ?_; rintro e v1 ⟨rfl, hb⟩; clear HW; have HW : Hid (Below w1.heap.size w1 v1) := hb; have qN1 := HC0.out v1 hb; clear hb) | (go_at_call 27; refine (refuse_f _ _ _).mono ?_; rintro e w' ⟨rfl, rfl⟩))
                go_upto_region 4 with (first | (go_at_call 46; refine (DN2.out v1 HW.out).mono ?_; rintro e v2 ⟨rfl, hb⟩; clear HW; have HW : Hid (Below w1.heap.size w1 v2) := hb; have qN2 := HC0.out v2 hb; clear hb) | (go_at_call 27; refine (refuse_f _ _ _).mono ?_; rintro e w' ⟨rfl, rfl⟩))
                go_upto_region 5 with (first | (go_at_call 47; refine (DN3.out v2 HW.out).mono ?_; rintro e v3 ⟨rfl, hb⟩; clear HW; have HW : Hid (Below w1.heap.size w1 v3) := hb; have qN3 := HC0.out v3 hb; clear hb) | (go_at_call 27; refine (refuse_f _ _ _).mono ?_; rintro e w' ⟨rfl, rfl⟩))
                go_upto_region 6 with (first | (go_at_call 32; refine (DN4.out v3 HW.out).mono ?_; rintro e v4 ⟨rfl, hb⟩; clear HW; have HW : Hid (Below w1.heap.size w1 v4) := hb; have qN4 := HC0.out v4 hb; clear hb) | (go_at_call 27; refine (refuse_f _ _ _).mono ?_; rintro e w' ⟨rfl, rfl⟩))
                go_upto_region 7 with (first | (go_at_call 47; refine (DN5.out v4 HW.out).mono ?_; rintro e v5 ⟨rfl, hb⟩; clear HW; have HW : Hid (Below w1.heap.size w1 v5) := hb; have qN5 := HC0.out v5 hb; clear hb) | (go_at_call 27; refine (refuse_d (by rw [decide_eq_false_iff_not]; omega) _ _ _).mono ?_; rintro e w' ⟨rfl, rfl⟩))
                go_wp2_with (first | (go_at_call 46; refine (DN6.out v5 HW.out).mono ?_; rintro e v6 ⟨rfl, hb⟩; clear HW; have HW : Hid (Below w1.heap.size w1 v6) := hb; have qN6 := HC0.out v6 hb; clear hb) | (go_at_call 27; refine (refuse_t 22 52 _).mono ?_; rintro e w9 ⟨g, rfl, h2, h3, h4⟩))
                exact ⟨rfl, .inr ⟨_, HE.out, Pan.later (HBL.out.trans (HW.out.mono HBL.out.size)) ⟨g, rfl, h2, h3, h4⟩⟩⟩
              · skip
                have HE : Hid (hdF b = none) := by unfold Hid hdF; rw [if_neg c0, if_neg c1, if_neg c2, if_neg c3, if_neg c4, if_neg c5, if_neg c6]
                have h0 : ¬ (b.length : Int) < 64 := by omega
                have dN1 := cN1.out (by omega)
                have dN2 := cN2.out (by omega)
                have dN3 := cN3.out (by omega)
                have dN4 := cN4.out (by omega)
                have dN5 := cN5.out (by omega)
                have dN6 := cN6.out (by omega)
                have zN1 := c1
                obtain ⟨N1, hN1⟩ : ∃ N, N = vl b 16 2 := ⟨_, rfl⟩
                rw [← hN1] at zN1 dN1
                have yN1 : ((N1 : Int) != 2) = false := by (try rw [bne_iff_ne]); (try simp only [bne_eq_false_iff_eq]); omega
                have lN1 : (N1 : Int) < 18446744073709551616 := by have := vl_lt8 HB.out 16 2 (by omega); omega
                clear zN1 hN1
                have DN1 : Hid (∀ wx, Below (w.alloc (.cells #[.slice a b.length cap] 54)).heap.size (w.alloc (.cells #[.slice a b.length cap] 54)) wx → Calls Tryz.prog 46 #[.agg #[.slice a b.length cap], .int .i64 16] wx fun e w' => e = .returned (.int .u64 (N1 : Int)) ∧ Below (w.alloc (.cells #[.slice a b.length cap] 54)).heap.size (w.alloc (.cells #[.slice a b.length cap] 54)) w') := dN1
                clear dN1
                have zN2 := c2
                obtain ⟨N2, hN2⟩ : ∃ N, N = vl b 18 2 := ⟨_, rfl⟩
                rw [← hN2] at zN2 dN2
                have yN2 : ((N2 : Int) != 243) = false := by (try rw [bne_iff_ne]); (try simp only [bne_eq_false_iff_eq]); omega
                have lN2 : (N2 : Int) < 18446744073709551616 := by have := vl_lt8 HB.out 18 2 (by omega); omega
                clear zN2 hN2
                have DN2 : Hid (∀ wx, Below (w.alloc (.cells #[.slice a b.length cap] 54)).heap.size (w.alloc (.cells #[.slice a b.length cap] 54)) wx → Calls Tryz.prog 46 #[.agg #[.slice a b.length cap], .int .i64 18] wx fun e w' => e = .returned (.int .u64 (N2 : Int)) ∧ Below (w.alloc (.cells #[.slice a b.length cap] 54)).heap.size (w.alloc (.cells #[.slice a b.length cap] 54)) w') := dN2
                clear dN2
                have zN3 := c3
                obtain ⟨N3, hN3⟩ : ∃ N, N = vl b 20 4 := ⟨_, rfl⟩
                rw [← hN3] at zN3 dN3
                have yN3 : ((N3 : Int) != 1) = false := by (try rw [bne_iff_ne]); (try simp only [bne_eq_false_iff_eq]); omega
                have lN3 : (N3 : Int) < 18446744073709551616 := by have := vl_lt8 HB.out 20 4 (by omega); omega
                clear zN3 hN3
                have DN3 : Hid (∀ wx, Below (w.alloc (.cells #[.slice a b.length cap] 54)).heap.size (w.alloc (.cells #[.slice a b.length cap] 54)) wx → Calls Tryz.prog 47 #[.agg #[.slice a b.length cap], .int .i64 20] wx fun e w' => e = .returned (.int .u64 (N3 : Int)) ∧ Below (w.alloc (.cells #[.slice a b.length cap] 54)).heap.size (w.alloc (.cells #[.slice a b.length cap] 54)) w') := dN3
                clear dN3
                have zN4 := c4
                obtain ⟨N4, hN4⟩ : ∃ N, N = vl b 24 8 := ⟨_, rfl⟩
                rw [← hN4] at zN4 dN4
                have rN4 : N4 % 2 = 0 := by omega
                have yN4 : ((N4 : Int) % 2 != 0) = false := by rw [show (N4 : Int) % 2 = 0 by omega]; rfl
                have xN4 : (((N4 % 2 : Nat) : Int) != 0) = false := by rw [rN4]; rfl
                have vN4 : ((N4 : Int).tmod 2 != 0) = false := by rw [Int.tmod_eq_emod_of_nonneg (by omega)]; exact yN4
                clear rN4
                have lN4 : (N4 : Int) < 18446744073709551616 := by have := vl_lt8 HB.out 24 8 (by omega); omega
                clear zN4 hN4
                have DN4 : Hid (∀ wx, Below (w.alloc (.cells #[.slice a b.length cap] 54)).heap.size (w.alloc (.cells #[.slice a b.length cap] 54)) wx → Calls Tryz.prog 32 #[.agg #[.slice a b.length cap], .int .i64 24] wx fun e w' => e = .returned (.int .u64 (N4 : Int)) ∧ Below (w.alloc (.cells #[.slice a b.length cap] 54)).heap.size (w.alloc (.cells #[.slice a b.length cap] 54)) w') := dN4
                clear dN4
                have zN5 := c5
                obtain ⟨N5, hN5⟩ : ∃ N, N = vl b 48 4 := ⟨_, rfl⟩
                rw [← hN5] at zN5 dN5
                have yN5 : (N5 : Int) ≤ 1 := by (try rw [bne_iff_ne]); (try simp only [bne_eq_false_iff_eq]); omega
                have lN5 : (N5 : Int) < 18446744073709551616 := by have := vl_lt8 HB.out 48 4 (by omega); omega
                clear zN5 hN5
                have DN5 : Hid (∀ wx, Below (w.alloc (.cells #[.slice a b.length cap] 54)).heap.size (w.alloc (.cells #[.slice a b.length cap] 54)) wx → Calls Tryz.prog 47 #[.agg #[.slice a b.length cap], .int .i64 48] wx fun e w' => e = .returned (.int .u64 (N5 : Int)) ∧ Below (w.alloc (.cells #[.slice a b.length cap] 54)).heap.size (w.alloc (.cells #[.slice a b.length cap] 54)) w') := dN5
                clear dN5
                have zN6 := c6
                obtain ⟨N6, hN6⟩ : ∃ N, N = vl b 52 2 := ⟨_, rfl⟩
                rw [← hN6] at zN6 dN6
                have yN6 : ((N6 : Int) != 64) = false := by (try rw [bne_iff_ne]); (try simp only [bne_eq_false_iff_eq]); omega
                have lN6 : (N6 : Int) < 18446744073709551616 := by have := vl_lt8 HB.out 52 2 (by omega); omega
                clear zN6 hN6
                have DN6 : Hid (∀ wx, Below (w.alloc (.cells #[.slice a b.length cap] 54)).heap.size (w.alloc (.cells #[.slice a b.length cap] 54)) wx → Calls Tryz.prog 46 #[.agg #[.slice a b.length cap], .int .i64 52] wx fun e w' => e = .returned (.int .u64 (N6 : Int)) ∧ Below (w.alloc (.cells #[.slice a b.length cap] 54)).heap.size (w.alloc (.cells #[.slice a b.length cap] 54)) w') := dN6
                clear dN6
                clear c0 c1 c2 c3 c4 c5 c6 cN1 cN2 cN3 cN4 cN5 cN6
                go_enter Tryz.func29, Tryz.ntmps29
                go_upto_region 1 with fail
                generalize (w.alloc (.cells #[.slice a b.length cap] 54)) = w1 at *
                have HW : Hid (Below w1.heap.size w1 w1) := Below.refl _ _
                go_upto_region 2 with (go_at_call 27; refine (refuse_f _ _ _).mono ?_; rintro e w' ⟨rfl, rfl⟩)
                go_upto_region 3 with (first | (go_at_call 46; refine (DN1.out w1 HW.out).mono ?_; rintro e v1 ⟨rfl, hb⟩; clear HW; have HW : Hid (Below w1.heap.size w1 v1) := hb; have qN1 := HC0.out v1 hb; clear hb) | (go_at_call 27; refine (refuse_f _ _ _).mono ?_; rintro e w' ⟨rfl, rfl⟩))
                go_upto_region 4 with (first | (go_at_call 46; refine (DN2.out v1 HW.out).mono ?_; rintro e v2 ⟨rfl, hb⟩; clear HW; have HW : Hid (Below w1.heap.size w1 v2) := hb; have qN2 := HC0.out v2 hb; clear hb) | (go_at_call 27; refine (refuse_f _ _ _).mono ?_; rintro e w' ⟨rfl, rfl⟩))
                go_upto_region 5 with (first | (go_at_call 47; refine (DN3.out v2 HW.out).mono ?_; rintro e v3 ⟨rfl, hb⟩; clear HW; have HW : Hid (Below w1.heap.size w1 v3) := hb; have qN3 := HC0.out v3 hb; clear hb) | (go_at_call 27; refine (refuse_f _ _ _).mono ?_; rintro e w' ⟨rfl, rfl⟩))
                go_upto_region 6 with (first | (go_at_call 32; refine (DN4.out v3 HW.out).mono ?_; rintro e v4 ⟨rfl, hb⟩; clear HW; have HW : Hid (Below w1.heap.size w1 v4) := hb; have qN4 := HC0.out v4 hb; clear hb) | (go_at_call 27; refine (refuse_f _ _ _).mono ?_; rintro e w' ⟨rfl, rfl⟩))
                go_upto_region 7 with (first | (go_at_call 47; refine (DN5.out v4 HW.out).mono ?_; rintro e v5 ⟨rfl, hb⟩; clear HW; have HW : Hid (Below w1.heap.size w1 v5) := hb; have qN5 := HC0.out v5 hb; clear hb) | (go_at_call 27; refine (refuse_d (by rw [decide_eq_false_iff_not]; omega) _ _ _).mono ?_; rintro e w' ⟨rfl, rfl⟩))
                go_wp2_with (first | (go_at_call 46; refine (DN6.out v5 HW.out).mono ?_; rintro e v6 ⟨rfl, hb⟩; clear HW; have HW : Hid (Below w1.heap.size w1 v6) := hb; have qN6 := HC0.out v6 hb; clear hb) | (go_at_call 27; refine (refuse_f _ _ _).mono ?_; rintro e w' ⟨rfl, rfl⟩))
                first | go_end0 | refine bodyPost_ret (results_none rfl _ _ _) rfl ?_
                exact .inl ⟨HE.out, rfl, HBL.out.trans (HW.out.mono HBL.out.size)⟩
end Go.Proofs.YtopddflnahfomaaGreatDoor
