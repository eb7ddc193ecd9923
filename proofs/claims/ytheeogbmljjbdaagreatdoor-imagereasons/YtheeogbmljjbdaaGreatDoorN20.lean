/-
  Ixc Ixw.
-/
import Derived.Test.YtheeogbmljjbdaaGreatDoorN19
import Derived.Test.YtheeogbmljjbdaaGreatDoorN16
import Derived.Test.YtheeogbmljjbdaaGreatDoorN17
import Derived.Test.YtheeogbmljjbdaaGreatDoorN13
import Derived.Test.YtheeogbmljjbdaaGreatDoorN18
namespace Go.Proofs.YtheeogbmljjbdaaGreatDoor
set_option linter.unusedVariables false
set_option maxRecDepth 100000
open Go.ChangeShapes Go.WideShapes Go.ChangeAt Go.RowKit Go.Deep
theorem frT_none {b : List Int} {P : Nat} : ∀ (r i : Nat), (∀ j, i ≤ j → j < i + r → ¬ vl b (P + 64 * j + 4) 4 = 2) → frT b P r i = none
  | 0, i, _ => rfl
  | r + 1, i, h => by
    rw [frT, if_neg (h i (Nat.le_refl _) (by omega))]
    exact frT_none r (i + 1) (fun j h1 h2 => h j (by omega) (by omega))
theorem frT_some {b : List Int} {P t : Nat} (ht : vl b (P + 64 * t + 4) 4 = 2) : ∀ (r i : Nat), i ≤ t → t < i + r → (∀ j, i ≤ j → j < t → ¬ vl b (P + 64 * j + 4) 4 = 2) → frT b P r i = some t
  | 0, i, h1, h2, _ => by omega
  | r + 1, i, h1, h2, h => by
    by_cases e : i = t
    · subst e; rw [frT, if_pos ht]
    · rw [frT, if_neg (h i (Nat.le_refl _) (by omega))]
      exact frT_some ht r (i + 1) (by omega) (by omega) (fun j q1 q2 => h j (by omega) q2)
/-- The first table of those from m on. -/
def Fst (b : List Int) (P K m : Nat) (s : Int) : Prop :=
  (s = -1 ∧ ∀ j, m ≤ j → j < K → ¬ vl b (P + 64 * j + 4) 4 = 2) ∨ (∃ t : Nat, s = ((P + 64 * t : Nat) : Int) ∧ m ≤ t ∧ t < K ∧ vl b (P + 64 * t + 4) 4 = 2 ∧ ∀ j, m ≤ j → j < t → ¬ vl b (P + 64 * j + 4) 4 = 2)
theorem fst_hit {b : List Int} {P K n : Nat} {s : Int} (hn : n < K) (h : Fst b P K (n + 1) s) (hh : vl b (P + 64 * n + 4) 4 = 2) : Fst b P K n ((P + 64 * n : Nat) : Int) := .inr ⟨n, rfl, Nat.le_refl _, hn, hh, fun j h1 h2 => by omega⟩
theorem fst_miss {b : List Int} {P K n : Nat} {s : Int} (h : Fst b P K (n + 1) s) (hh : ¬ vl b (P + 64 * n + 4) 4 = 2) : Fst b P K n s := by
  rcases h with ⟨h1, h2⟩ | ⟨t, h1, h2, h3, h4, h5⟩
  · refine .inl ⟨h1, fun j q1 q2 => ?_⟩
    by_cases e : j = n
    · rw [e]; exact hh
    · exact h2 j (by omega) q2
  · refine .inr ⟨t, h1, by omega, h3, h4, fun j q1 q2 => ?_⟩
    by_cases e : j = n
    · rw [e]; exact hh
    · exact h5 j (by omega) q2
/-- What table answers. -/
def TbP (b : List Int) (w : World) (e : Ending) (w' : World) : Prop :=
  Below w.heap.size w w' ∧ ((nsR b = ([], none) ∧ e = .returned (.tuple #[.int .i64 (-1), .int .i64 0, .int .i64 0, .int .i64 0, .agg #[.int .i64 0, .int .i64 0]]))
  ∨ (∃ F : Nat × Nat, nsR b = ([], some F) ∧ e = .returned (.tuple #[.int .i64 (-1), .int .i64 0, .int .i64 0, .int .i64 0, .agg #[.int .i64 F.1, .int .i64 F.2]]))
  ∨ (∃ A M TP TL : Nat, nsR b = nmL b ((b.drop TP).take TL) A (M / 24 - 1) ∧ TP + TL ≤ b.length ∧ A + M ≤ b.length ∧ M % 24 = 0 ∧ e = .returned (.tuple #[.int .i64 (A : Int), .int .i64 (M : Int), .int .i64 (TP : Int), .int .i64 (TL : Int), .agg #[.int .i64 0, .int .i64 0]])))
theorem tnR_bad2 {b : List Int} {P K H : Nat} {F : Nat × Nat} (h : tbF b P K H = some F) : tnR b P K H = ([], some F) := by
  unfold tnR; rw [h, if_pos (by rfl)]
set_option maxHeartbeats 8000000 in
theorem rtable_c {b : List Int} (hB : AllB b) (hl : b.length ≤ 200000) (h64 : 64 ≤ b.length) (vb : Value) (w : World) (hv : Byt w vb b) :
    Calls Tryz.prog 61 #[vb] w fun e w' => TbP b w e w' := by
  have HV : Hid (∀ w', Below w.heap.size w w' → Byt w' vb b) := fun w' hb => hv.later hb rfl
  have HB : Hid (AllB b) := hB
  obtain ⟨a, cap, rfl, hc, _, _⟩ := hv
  obtain ⟨W1, hW1⟩ : ∃ W1, w.alloc (.cells #[.int .i64 0, .int .i64 0] 70) = W1 := ⟨_, rfl⟩
  have HBL : Hid (Below w.heap.size w W1) := by rw [← hW1]; exact (Below.refl _ _).alloc (Nat.le_refl _) _
  have R3 : Hid (W1.heap[w.heap.size]? = some (.cells #[.int .i64 0, .int .i64 0] 70 (0, 0))) := by unfold Hid; rw [← hW1]; exact heap_alloc_new w _
  have HBY : Hid (Byt W1 (.slice a b.length cap) b) := HV.out _ HBL.out
  have r0 := cell_of_row W1 w.heap.size 0 _ _ _ R3.out
  have r1 := cell_of_row W1 w.heap.size 1 _ _ _ R3.out
  have f0 := frozen_of_row W1 w.heap.size 0 _ _ R3.out
  have f1 := frozen_of_row W1 w.heap.size 1 _ _ R3.out
  have c60 : Hid (Calls Tryz.prog 35 #[.slice a b.length cap, .int .i64 60, .int .i64 2] W1 fun e w' => e = .returned (.int .u64 ((vl b 60 2 : Nat) : Int)) ∧ W1 = w') := rvalue_c HB.out hl _ 60 2 60 2 rfl rfl (by omega) (by omega) W1 HBY.out
  have c40 : Hid (Calls Tryz.prog 35 #[.slice a b.length cap, .int .i64 40, .int .i64 8] W1 fun e w' => e = .returned (.int .u64 ((vl b 40 8 : Nat) : Int)) ∧ W1 = w') := rvalue_c HB.out hl _ 40 8 40 8 rfl rfl (by omega) (by omega) W1 HBY.out
  have c58 : Hid (Calls Tryz.prog 35 #[.slice a b.length cap, .int .i64 58, .int .i64 2] W1 fun e w' => e = .returned (.int .u64 ((vl b 58 2 : Nat) : Int)) ∧ W1 = w') := rvalue_c HB.out hl _ 58 2 58 2 rfl rfl (by omega) (by omega) W1 HBY.out
  have lK : vl b 60 2 < 65536 := vl_lt HB.out 60 2
  have lP := vl_lt8 HB.out 40 8 (by omega)
  have lZ : vl b 58 2 < 65536 := vl_lt HB.out 58 2
  have HF : Hid (nsR b = nsQ b (vl b 60 2) (vl b 40 8) (vl b 58 2)) := by unfold Hid nsR; rfl
  generalize vl b 60 2 = K at c60 HF lK
  generalize vl b 40 8 = P at c40 HF lP
  generalize vl b 58 2 = Z at c58 HF lZ
  have hlI : (b.length : Int) ≤ 200000 := by omega
  have iK : (K : Int) < 65536 := by omega
  have iP : (P : Int) < 18446744073709551616 := by omega
  go_enter Tryz.func61, Tryz.ntmps61
  go_upto_region 1 with fail
  clear hW1
  --@B1
  go_upto_region 2 with (go_at_call 35; refine c60.out.mono ?_; rintro e w9 ⟨rfl, hw9⟩; subst hw9)
  go_upto_region 3 with (go_at_call 35; refine c40.out.mono ?_; rintro e w9 ⟨rfl, hw9⟩; subst hw9)
  --@B2
  by_cases gK : K = 0
  · have gKb : ((K : Int) == 0) = true := by rw [beq_iff_eq]; omega
    have HE : Hid (nsR b = ([], none)) := by unfold Hid; rw [HF.out]; exact nsQ_no (.inl gK)
    clear gK
    go_wp2
    refine bodyPost_ret (v := .tuple #[.int .i64 (-1), .int .i64 0, .int .i64 0, .int .i64 0, .agg #[.int .i64 (0), .int .i64 0]]) (results_ssssr Tryz.results61 _ _ w.heap.size 70 _ (0, 0) _ _ _ _ _ (by rfl) (by rfl) (by rfl) (by rfl) (by rfl) (set2_at R3.out _ _) Tryz.underlying70 (by rfl) size52) rfl ?_
    refine ⟨below_set2 HBL.out (Nat.le_refl _) _ _, .inl ⟨HE.out, rfl⟩⟩
  · have gKb : ((K : Int) == 0) = false := by rw [beq_eq_false_iff_ne]; omega
    by_cases gP : P = 0
    · have gPb : ((P : Int) == 0) = true := by rw [beq_iff_eq]; omega
      have HE : Hid (nsR b = ([], none)) := by unfold Hid; rw [HF.out]; exact nsQ_no (.inr gP)
      clear gK gP
      go_wp2
      refine bodyPost_ret (v := .tuple #[.int .i64 (-1), .int .i64 0, .int .i64 0, .int .i64 0, .agg #[.int .i64 (0), .int .i64 0]]) (results_ssssr Tryz.results61 _ _ w.heap.size 70 _ (0, 0) _ _ _ _ _ (by rfl) (by rfl) (by rfl) (by rfl) (by rfl) (set2_at R3.out _ _) Tryz.underlying70 (by rfl) size52) rfl ?_
      refine ⟨below_set2 HBL.out (Nat.le_refl _) _ _, .inl ⟨HE.out, rfl⟩⟩
    · have gPb : ((P : Int) == 0) = false := by rw [beq_eq_false_iff_ne]; omega
      have HG1 : Hid (¬ (K = 0 ∨ P = 0)) := fun h => h.elim gK gP
      clear gK gP
      go_upto_region 5 with fail
      clear gKb gPb
      --@B3
      by_cases gZ : Z ≠ 64
      · have gZb : ((Z : Int) != 64) = true := by rw [bne_iff_ne]; omega
        have HE : Hid (nsR b = ([], some (58, 22))) := by unfold Hid; rw [HF.out]; exact nsQ_head HG1.out gZ
        clear gZ
        go_wp2_with (go_at_call 35; refine c58.out.mono ?_; rintro e w9 ⟨rfl, hw9⟩; subst hw9)
        refine bodyPost_ret (v := .tuple #[.int .i64 (-1), .int .i64 0, .int .i64 0, .int .i64 0, .agg #[.int .i64 (58), .int .i64 22]]) (results_ssssr Tryz.results61 _ _ w.heap.size 70 _ (0, 0) _ _ _ _ _ (by rfl) (by rfl) (by rfl) (by rfl) (by rfl) (set2_at R3.out _ _) Tryz.underlying70 (by rfl) size52) rfl ?_
        refine ⟨below_set2 HBL.out (Nat.le_refl _) _ _, .inr (.inl ⟨_, HE.out, by first | rfl | simp⟩)⟩
      · have gZb : ((Z : Int) != 64) = false := by rw [bne_eq_false_iff_eq]; omega
        have HG2 : Hid (¬ Z ≠ 64) := gZ
        clear gZ
        go_upto_region 7 with (go_at_call 35; refine c58.out.mono ?_; rintro e w9 ⟨rfl, hw9⟩; subst hw9)
        clear gZb
        --@B4
        have cR : Hid (∀ nI : Int, nI = ((64 * K : Nat) : Int) → Calls Tryz.prog 57 #[.slice a b.length cap, .int .u64 (P : Int), .int .u64 nI] W1 fun e w' => e = .returned (.bool (decide (room b P (64 * K)))) ∧ W1 = w') := fun nI hn => by subst hn; exact rroom_c hl _ P (64 * K) lP (by omega) W1 HBY.out
        by_cases hrm : room b P (64 * K)
        · have HRM : Hid (room b P (64 * K)) := hrm
          have HG3 : Hid (¬ ¬ room b P (64 * K)) := fun h => h hrm
          rw [decide_eq_true hrm] at cR
          have hPK : (P : Int) + 64 * K ≤ b.length := by unfold room at hrm; omega
          clear hrm
          go_upto_region 9 with (go_at_call 57; refine (cR.out _ (by first | omega | (rw [IntKind.wrap_i64]; omega) | (rw [IntKind.wrap_u64]; omega))).mono ?_; rintro e w9 ⟨rfl, hw9⟩; subst hw9)
          --@B5
          go_wp2
          go_loopw [10, 9] (fun x y wr => ∃ (m : Nat) (z s : Int), Hid (m ≤ K) ∧ x = .int .i64 z ∧ Hid (z = (m : Int) - 1) ∧ y = .int .i64 s ∧ Hid (Fst b P K m s) ∧ wr = W1) (fun x _ _ => (intOf x + 1).toNat)
          case atStart => exact ⟨K, (K : Int) - 1, -1, Nat.le_refl K, rfl, rfl, rfl, .inl ⟨rfl, fun j h1 h2 => by omega⟩, rfl⟩
          case round =>
            obtain ⟨m, z, s, hm, rfl, hz, rfl, HS, hwr⟩ := hrel
            have hwr2 := hwr.symm
            subst hwr2
            clear hwr
            rcases Nat.eq_zero_or_pos m with hm0 | hm0
            · have hz1 : z = -1 := by have := hz.out; omega
              subst hz1
              have HS0 : Hid (Fst b P K 0 s) := by have := HS.out; rw [hm0] at this; exact this
              clear hm0 HS hz hm
              rcases HS0.out with ⟨rfl, hno⟩ | ⟨t, hs, _, htK, hhit, hno⟩
              · have HE : Hid (nsR b = ([], none)) := by unfold Hid; rw [HF.out]; exact nsQ_none HG1.out HG2.out HG3.out (frT_none K 0 (fun j h1 h2 => hno j h1 (by omega)))
                clear hno
                go_wp2
                refine bodyPost_ret (v := .tuple #[.int .i64 (-1), .int .i64 0, .int .i64 0, .int .i64 0, .agg #[.int .i64 (0), .int .i64 0]]) (results_ssssr Tryz.results61 _ _ w.heap.size 70 _ (0, 0) _ _ _ _ _ (by rfl) (by rfl) (by rfl) (by rfl) (by rfl) (set2_at R3.out _ _) Tryz.underlying70 (by rfl) size52) rfl ?_
                refine ⟨below_set2 HBL.out (Nat.le_refl _) _ _, .inl ⟨HE.out, rfl⟩⟩
              · obtain ⟨O, hO⟩ : ∃ O, O = P + 64 * t := ⟨_, rfl⟩
                rw [← hO] at hs
                subst hs
                have HT : Hid (nsR b = tnR b P K O) := by unfold Hid; rw [HF.out, hO]; exact nsQ_some HG1.out HG2.out HG3.out (frT_some hhit K 0 (Nat.zero_le _) (by omega) hno)
                have HO64 : Hid (O + 64 ≤ b.length) := by unfold Hid; have := HRM.out; unfold room at this; omega
                have hOI : (O : Int) + 64 ≤ b.length := by have := HO64.out; omega
                have hO0 : ¬ (O : Int) < 0 := by omega
                clear hO hno hhit htK HS0
                have cN : Hid (∀ pI : Int, pI = ((O + 32 : Nat) : Int) → Calls Tryz.prog 35 #[.slice a b.length cap, .int .i64 pI, .int .i64 8] W1 fun e w' => e = .returned (.int .u64 ((vl b (O + 32) 8 : Nat) : Int)) ∧ W1 = w') := fun pI hpI => rvalue_c HB.out hl _ (O + 32) 8 pI 8 hpI rfl (by omega) (by have := HO64.out; omega) W1 HBY.out
                have cA : Hid (∀ pI : Int, pI = ((O + 24 : Nat) : Int) → Calls Tryz.prog 35 #[.slice a b.length cap, .int .i64 pI, .int .i64 8] W1 fun e w' => e = .returned (.int .u64 ((vl b (O + 24) 8 : Nat) : Int)) ∧ W1 = w') := fun pI hpI => rvalue_c HB.out hl _ (O + 24) 8 pI 8 hpI rfl (by omega) (by have := HO64.out; omega) W1 HBY.out
                have cWd : Hid (∀ pI : Int, pI = ((O + 40 : Nat) : Int) → Calls Tryz.prog 35 #[.slice a b.length cap, .int .i64 pI, .int .i64 4] W1 fun e w' => e = .returned (.int .u64 ((vl b (O + 40) 4 : Nat) : Int)) ∧ W1 = w') := fun pI hpI => rvalue_c HB.out hl _ (O + 40) 4 pI 4 hpI rfl (by omega) (by have := HO64.out; omega) W1 HBY.out
                have cE : Hid (∀ pI : Int, pI = ((O + 56 : Nat) : Int) → Calls Tryz.prog 35 #[.slice a b.length cap, .int .i64 pI, .int .i64 8] W1 fun e w' => e = .returned (.int .u64 ((vl b (O + 56) 8 : Nat) : Int)) ∧ W1 = w') := fun pI hpI => rvalue_c HB.out hl _ (O + 56) 8 pI 8 hpI rfl (by omega) (by have := HO64.out; omega) W1 HBY.out
                have lN := vl_lt8 HB.out (O + 32) 8 (by omega)
                have lA := vl_lt8 HB.out (O + 24) 8 (by omega)
                have lW := vl_lt8 HB.out (O + 40) 4 (by omega)
                have lE := vl_lt8 HB.out (O + 56) 8 (by omega)
                have HBF : Hid (tbF b P K O = if vl b (O + 56) 8 ≠ 24 then some (O + 56, 25) else if vl b (O + 32) 8 % 24 ≠ 0 then some (O + 32, 25) else if ¬ room b (vl b (O + 24) 8) (vl b (O + 32) 8) then some (O + 24, 20) else txF b P K O) := rfl
                have HXF : Hid (txF b P K O = if K ≤ vl b (O + 40) 4 then some (O + 40, 25) else if vl b (P + 64 * vl b (O + 40) 4 + 4) 4 ≠ 3 then some (O + 40, 25)
  else if ¬ room b (vl b (P + 64 * vl b (O + 40) 4 + 24) 8) (vl b (P + 64 * vl b (O + 40) 4 + 32) 8) then some (P + 64 * vl b (O + 40) 4 + 24, 20) else none) := rfl
                have HXB : Hid (txB b P O = (b.drop (vl b (P + 64 * vl b (O + 40) 4 + 24) 8)).take (vl b (P + 64 * vl b (O + 40) 4 + 32) 8)) := rfl
                have HBAD : Hid (∀ F, tbF b P K O = some F → nsR b = ([], some F)) := fun F h => HT.out.trans (tnR_bad2 h)
                have HGOOD : Hid (tbF b P K O = none → nsR b = nmL b (txB b P O) (vl b (O + 24) 8) (vl b (O + 32) 8 / 24 - 1)) := fun h => HT.out.trans (tnR_go h)
                generalize tbF b P K O = TF at HBF HBAD HGOOD
                generalize txF b P K O = XF at HBF HXF
                generalize txB b P O = T at HXB HGOOD
                generalize vl b (O + 32) 8 = M at cN HBF HGOOD lN
                generalize vl b (O + 24) 8 = A at cA HBF HGOOD lA
                generalize vl b (O + 40) 4 = N at cWd HXF HXB lW
                generalize vl b (O + 56) 8 = NE at cE HBF lE
                have iM : (M : Int) < 18446744073709551616 := by omega
                have iA : (A : Int) < 18446744073709551616 := by omega
                have iN : (N : Int) < 18446744073709551616 := by omega
                have iE : (NE : Int) < 18446744073709551616 := by omega
                have HREM : Hid (Int.tmod (M : Int) 24 = ((M % 24 : Nat) : Int)) := by unfold Hid; rw [Int.tmod_eq_emod_of_nonneg (by omega)]; omega
                go_upto_region 17 with fail
                --@B6
                go_upto_region 18 with (go_at_call 35; refine (cN.out _ (by first | omega | (rw [IntKind.wrap_i64]; omega) | (rw [IntKind.wrap_u64]; omega))).mono ?_; rintro e w9 ⟨rfl, hw9⟩; subst hw9)
                go_upto_region 19 with (go_at_call 35; refine (cA.out _ (by first | omega | (rw [IntKind.wrap_i64]; omega) | (rw [IntKind.wrap_u64]; omega))).mono ?_; rintro e w9 ⟨rfl, hw9⟩; subst hw9)
                go_upto_region 20 with (go_at_call 35; refine (cWd.out _ (by first | omega | (rw [IntKind.wrap_i64]; omega) | (rw [IntKind.wrap_u64]; omega))).mono ?_; rintro e w9 ⟨rfl, hw9⟩; subst hw9)
                --@M1
                by_cases gE : NE ≠ 24
                · have gEb : ((NE : Int) != 24) = true := by rw [bne_iff_ne]; omega
                  have HE : Hid (nsR b = ([], some (O + 56, 25))) := HBAD.out _ (by rw [HBF.out, if_pos gE])
                  clear gE
                  go_wp2_with (go_at_call 35; refine (cE.out _ (by first | omega | (rw [IntKind.wrap_i64]; omega) | (rw [IntKind.wrap_u64]; omega))).mono ?_; rintro e w9 ⟨rfl, hw9⟩; subst hw9)
                  refine bodyPost_ret (v := .tuple #[.int .i64 (-1), .int .i64 0, .int .i64 0, .int .i64 0, .agg #[.int .i64 ((O : Int) + 56), .int .i64 25]]) (results_ssssr Tryz.results61 _ _ w.heap.size 70 _ (0, 0) _ _ _ _ _ (by rfl) (by rfl) (by rfl) (by rfl) (by rfl) (set2_at R3.out _ _) Tryz.underlying70 (by rfl) size52) rfl ?_
                  refine ⟨below_set2 HBL.out (Nat.le_refl _) _ _, .inr (.inl ⟨_, HE.out, by first | rfl | simp⟩)⟩
                · have gEb : ((NE : Int) != 24) = false := by rw [bne_eq_false_iff_eq]; omega
                  have HG4 : Hid (¬ NE ≠ 24) := gE
                  clear gE
                  go_upto_region 22 with (go_at_call 35; refine (cE.out _ (by first | omega | (rw [IntKind.wrap_i64]; omega) | (rw [IntKind.wrap_u64]; omega))).mono ?_; rintro e w9 ⟨rfl, hw9⟩; subst hw9)
                  clear gEb
                  by_cases gM : M % 24 ≠ 0
                  · have xMb : (((M % 24 : Nat) : Int) != 0) = true := by rw [bne_iff_ne]; omega
                    have yMb : ((M : Int) % 24 != 0) = true := by rw [bne_iff_ne]; omega
                    have gMb : ((M : Int).tmod 24 != 0) = true := by rw [HREM.out]; exact xMb
                    have HE : Hid (nsR b = ([], some (O + 32, 25))) := HBAD.out _ (by rw [HBF.out, if_neg HG4.out, if_pos gM])
                    clear gM
                    go_wp2
                    refine bodyPost_ret (v := .tuple #[.int .i64 (-1), .int .i64 0, .int .i64 0, .int .i64 0, .agg #[.int .i64 ((O : Int) + 32), .int .i64 25]]) (results_ssssr Tryz.results61 _ _ w.heap.size 70 _ (0, 0) _ _ _ _ _ (by rfl) (by rfl) (by rfl) (by rfl) (by rfl) (set2_at R3.out _ _) Tryz.underlying70 (by rfl) size52) rfl ?_
                    refine ⟨below_set2 HBL.out (Nat.le_refl _) _ _, .inr (.inl ⟨_, HE.out, by first | rfl | simp⟩)⟩
                  · have xMb : (((M % 24 : Nat) : Int) != 0) = false := by rw [bne_eq_false_iff_eq]; omega
                    have yMb : ((M : Int) % 24 != 0) = false := by rw [bne_eq_false_iff_eq]; omega
                    have gMb : ((M : Int).tmod 24 != 0) = false := by rw [HREM.out]; exact xMb
                    have HG5 : Hid (¬ M % 24 ≠ 0) := gM
                    clear gM
                    go_upto_region 24 with fail
                    clear xMb yMb gMb
                    have cRA : Hid (Calls Tryz.prog 57 #[.slice a b.length cap, .int .u64 (A : Int), .int .u64 (M : Int)] W1 fun e w' => e = .returned (.bool (decide (room b A M))) ∧ W1 = w') := rroom_c hl _ A M lA lN W1 HBY.out
                    by_cases hra : room b A M
                    · have HRA : Hid (room b A M) := hra
                      rw [decide_eq_true hra] at cRA
                      have hAM : (A : Int) + M ≤ b.length := by unfold room at hra; omega
                      clear hra
                      go_upto_region 26 with (go_at_call 57; refine cRA.out.mono ?_; rintro e w9 ⟨rfl, hw9⟩; subst hw9)
                      --@M2
                      by_cases gN : K ≤ N
                      · have gNI : (K : Int) ≤ N := by omega
                        have gND : decide (K ≤ N) = true := by simp; omega
                        have HE : Hid (nsR b = ([], some (O + 40, 25))) := HBAD.out _ (by rw [HBF.out, if_neg HG4.out, if_neg HG5.out, if_neg (fun q => q HRA.out), HXF.out, if_pos gN])
                        clear gN
                        go_wp2
                        refine bodyPost_ret (v := .tuple #[.int .i64 (-1), .int .i64 0, .int .i64 0, .int .i64 0, .agg #[.int .i64 ((O : Int) + 40), .int .i64 25]]) (results_ssssr Tryz.results61 _ _ w.heap.size 70 _ (0, 0) _ _ _ _ _ (by rfl) (by rfl) (by rfl) (by rfl) (by rfl) (set2_at R3.out _ _) Tryz.underlying70 (by rfl) size52) rfl ?_
                        refine ⟨below_set2 HBL.out (Nat.le_refl _) _ _, .inr (.inl ⟨_, HE.out, by first | rfl | simp⟩)⟩
                      · have gNI : ¬ (K : Int) ≤ N := by omega
                        have gND : decide (K ≤ N) = false := by simp; omega
                        have HG6 := Hid.mkI gN
                        have hNI : (N : Int) < 65536 := by omega
                        obtain ⟨U, hU⟩ : ∃ U, U = P + 64 * N := ⟨_, rfl⟩
                        have HU64 : Hid (U + 64 ≤ b.length) := by unfold Hid; have := HRM.out; unfold room at this; omega
                        have hUI : (U : Int) + 64 ≤ b.length := by have := HU64.out; omega
                        have hUe : (P : Int) + 64 * N = U := by omega
                        rw [← hU] at HXF HXB
                        clear hU gN
                        have cKD : Hid (∀ pI : Int, pI = ((U + 4 : Nat) : Int) → Calls Tryz.prog 35 #[.slice a b.length cap, .int .i64 pI, .int .i64 4] W1 fun e w' => e = .returned (.int .u64 ((vl b (U + 4) 4 : Nat) : Int)) ∧ W1 = w') := fun pI hpI => rvalue_c HB.out hl _ (U + 4) 4 pI 4 hpI rfl (by omega) (by have := HU64.out; omega) W1 HBY.out
                        have cTP : Hid (∀ pI : Int, pI = ((U + 24 : Nat) : Int) → Calls Tryz.prog 35 #[.slice a b.length cap, .int .i64 pI, .int .i64 8] W1 fun e w' => e = .returned (.int .u64 ((vl b (U + 24) 8 : Nat) : Int)) ∧ W1 = w') := fun pI hpI => rvalue_c HB.out hl _ (U + 24) 8 pI 8 hpI rfl (by omega) (by have := HU64.out; omega) W1 HBY.out
                        have cTL : Hid (∀ pI : Int, pI = ((U + 32 : Nat) : Int) → Calls Tryz.prog 35 #[.slice a b.length cap, .int .i64 pI, .int .i64 8] W1 fun e w' => e = .returned (.int .u64 ((vl b (U + 32) 8 : Nat) : Int)) ∧ W1 = w') := fun pI hpI => rvalue_c HB.out hl _ (U + 32) 8 pI 8 hpI rfl (by omega) (by have := HU64.out; omega) W1 HBY.out
                        have lKD := vl_lt8 HB.out (U + 4) 4 (by omega)
                        have lTP := vl_lt8 HB.out (U + 24) 8 (by omega)
                        have lTL := vl_lt8 HB.out (U + 32) 8 (by omega)
                        generalize vl b (U + 4) 4 = KD at cKD HXF lKD
                        generalize vl b (U + 24) 8 = TP at cTP HXF HXB lTP
                        generalize vl b (U + 32) 8 = TL at cTL HXF HXB lTL
                        have iTP : (TP : Int) < 18446744073709551616 := by omega
                        have iTL : (TL : Int) < 18446744073709551616 := by omega
                        go_upto_region 29 with fail
                        clear gNI gND
                        by_cases gD : KD ≠ 3
                        · have gDb : ((KD : Int) != 3) = true := by rw [bne_iff_ne]; omega
                          have HE : Hid (nsR b = ([], some (O + 40, 25))) := HBAD.out _ (by rw [HBF.out, if_neg HG4.out, if_neg HG5.out, if_neg (fun q => q HRA.out), HXF.out, if_neg HG6.out, if_pos gD])
                          clear gD
                          go_wp2_with (go_at_call 35; refine (cKD.out _ (by first | omega | (rw [IntKind.wrap_i64]; omega) | (rw [IntKind.wrap_u64]; omega))).mono ?_; rintro e w9 ⟨rfl, hw9⟩; subst hw9)
                          refine bodyPost_ret (v := .tuple #[.int .i64 (-1), .int .i64 0, .int .i64 0, .int .i64 0, .agg #[.int .i64 ((O : Int) + 40), .int .i64 25]]) (results_ssssr Tryz.results61 _ _ w.heap.size 70 _ (0, 0) _ _ _ _ _ (by rfl) (by rfl) (by rfl) (by rfl) (by rfl) (set2_at R3.out _ _) Tryz.underlying70 (by rfl) size52) rfl ?_
                          refine ⟨below_set2 HBL.out (Nat.le_refl _) _ _, .inr (.inl ⟨_, HE.out, by first | rfl | simp⟩)⟩
                        · have gDb : ((KD : Int) != 3) = false := by rw [bne_eq_false_iff_eq]; omega
                          have HG7 : Hid (¬ KD ≠ 3) := gD
                          clear gD
                          go_upto_region 31 with (go_at_call 35; refine (cKD.out _ (by first | omega | (rw [IntKind.wrap_i64]; omega) | (rw [IntKind.wrap_u64]; omega))).mono ?_; rintro e w9 ⟨rfl, hw9⟩; subst hw9)
                          clear gDb
                          go_upto_region 32 with (go_at_call 35; refine (cTP.out _ (by first | omega | (rw [IntKind.wrap_i64]; omega) | (rw [IntKind.wrap_u64]; omega))).mono ?_; rintro e w9 ⟨rfl, hw9⟩; subst hw9)
                          go_upto_region 33 with (go_at_call 35; refine (cTL.out _ (by first | omega | (rw [IntKind.wrap_i64]; omega) | (rw [IntKind.wrap_u64]; omega))).mono ?_; rintro e w9 ⟨rfl, hw9⟩; subst hw9)
                          have cRT : Hid (Calls Tryz.prog 57 #[.slice a b.length cap, .int .u64 (TP : Int), .int .u64 (TL : Int)] W1 fun e w' => e = .returned (.bool (decide (room b TP TL))) ∧ W1 = w') := rroom_c hl _ TP TL lTP lTL W1 HBY.out
                          by_cases hrt : room b TP TL
                          · have HRT : Hid (room b TP TL) := hrt
                            rw [decide_eq_true hrt] at cRT
                            have hTT : (TP : Int) + TL ≤ b.length := by unfold room at hrt; omega
                            have HE : Hid (nsR b = nmL b T A (M / 24 - 1)) := HGOOD.out (by rw [HBF.out, if_neg HG4.out, if_neg HG5.out, if_neg (fun q => q HRA.out), HXF.out, if_neg HG6.out, if_neg HG7.out, if_neg (fun q => q HRT.out)])
                            clear hrt
                            go_wp2_with (go_at_call 57; refine cRT.out.mono ?_; rintro e w9 ⟨rfl, hw9⟩; subst hw9)
                            refine bodyPost_ret (v := .tuple #[.int .i64 (A : Int), .int .i64 (M : Int), .int .i64 (TP : Int), .int .i64 (TL : Int), .agg #[.int .i64 (0), .int .i64 0]]) (results_ssssr Tryz.results61 _ _ w.heap.size 70 _ (0, 0) _ _ _ _ _ (by rfl) (by rfl) (by rfl) (by rfl) (by rfl) (set2_at R3.out _ _) Tryz.underlying70 (by rfl) size52) rfl ?_
                            refine ⟨below_set2 HBL.out (Nat.le_refl _) _ _, .inr (.inr ⟨A, M, TP, TL, by rw [← HXB.out]; exact HE.out, by omega, by omega, Classical.not_not.1 HG5.out, rfl⟩)⟩
                          · rw [decide_eq_false hrt] at cRT
                            have HE : Hid (nsR b = ([], some (U + 24, 20))) := HBAD.out _ (by rw [HBF.out, if_neg HG4.out, if_neg HG5.out, if_neg (fun q => q HRA.out), HXF.out, if_neg HG6.out, if_neg HG7.out, if_pos hrt])
                            clear hrt
                            go_wp2_with (go_at_call 57; refine cRT.out.mono ?_; rintro e w9 ⟨rfl, hw9⟩; subst hw9)
                            refine bodyPost_ret (v := .tuple #[.int .i64 (-1), .int .i64 0, .int .i64 0, .int .i64 0, .agg #[.int .i64 ((U : Int) + 24), .int .i64 20]]) (results_ssssr Tryz.results61 _ _ w.heap.size 70 _ (0, 0) _ _ _ _ _ (by rfl) (by rfl) (by rfl) (by rfl) (by rfl) (set2_at R3.out _ _) Tryz.underlying70 (by rfl) size52) rfl ?_
                            refine ⟨below_set2 HBL.out (Nat.le_refl _) _ _, .inr (.inl ⟨_, HE.out, by first | rfl | simp⟩)⟩
                    · rw [decide_eq_false hra] at cRA
                      have HE : Hid (nsR b = ([], some (O + 24, 20))) := HBAD.out _ (by rw [HBF.out, if_neg HG4.out, if_neg HG5.out, if_pos hra])
                      clear hra
                      go_wp2_with (go_at_call 57; refine cRA.out.mono ?_; rintro e w9 ⟨rfl, hw9⟩; subst hw9)
                      refine bodyPost_ret (v := .tuple #[.int .i64 (-1), .int .i64 0, .int .i64 0, .int .i64 0, .agg #[.int .i64 ((O : Int) + 24), .int .i64 20]]) (results_ssssr Tryz.results61 _ _ w.heap.size 70 _ (0, 0) _ _ _ _ _ (by rfl) (by rfl) (by rfl) (by rfl) (by rfl) (set2_at R3.out _ _) Tryz.underlying70 (by rfl) size52) rfl ?_
                      refine ⟨below_set2 HBL.out (Nat.le_refl _) _ _, .inr (.inl ⟨_, HE.out, by first | rfl | simp⟩)⟩
            · obtain ⟨n, hn⟩ : ∃ n, m = n + 1 := ⟨m - 1, by omega⟩
              have hz1 : z = (n : Int) := by have := hz.out; omega
              subst hz1
              have HSn : Hid (Fst b P K (n + 1) s) := by have := HS.out; rw [hn] at this; exact this
              have HNK : Hid (n < K) := by have := hm.out; unfold Hid; omega
              have hnI : (n : Int) < 65536 := by have := HNK.out; omega
              have HO4 : Hid (P + 64 * n + 8 ≤ b.length) := by unfold Hid; have := HNK.out; omega
              have hO4I : (P : Int) + 64 * n + 8 ≤ b.length := by have := HO4.out; omega
              have cKN : Hid (∀ pI : Int, pI = ((P + 64 * n + 4 : Nat) : Int) → Calls Tryz.prog 35 #[.slice a b.length cap, .int .i64 pI, .int .i64 4] W1 fun e w' => e = .returned (.int .u64 ((vl b (P + 64 * n + 4) 4 : Nat) : Int)) ∧ W1 = w') := fun pI hpI => rvalue_c HB.out hl _ (P + 64 * n + 4) 4 pI 4 hpI rfl (by omega) (by have := HO4.out; omega) W1 HBY.out
              have lk := vl_lt8 HB.out (P + 64 * n + 4) 4 (by omega)
              have HHIT : Hid (vl b (P + 64 * n + 4) 4 = 2 → Fst b P K n ((P + 64 * n : Nat) : Int)) := fun h => fst_hit HNK.out HSn.out h
              have HMISS : Hid (¬ vl b (P + 64 * n + 4) 4 = 2 → Fst b P K n s) := fun h => fst_miss HSn.out h
              generalize vl b (P + 64 * n + 4) 4 = NK at cKN lk HHIT HMISS
              clear hm0 hn HS hz hm
              by_cases g2 : NK = 2
              · have g2b : ((NK : Int) == 2) = true := by rw [beq_iff_eq]; omega
                have HS2 : Hid (Fst b P K n ((P + 64 * n : Nat) : Int)) := HHIT.out g2
                clear g2
                go_wp2_with (go_at_call 35; refine (cKN.out _ (by first | omega | (rw [IntKind.wrap_i64]; omega) | (rw [IntKind.wrap_u64]; omega))).mono ?_; rintro e w9 ⟨rfl, hw9⟩; subst hw9)
                go_roundw
                case rel => exact ⟨n, (n : Int) - 1, ((P + 64 * n : Nat) : Int), Nat.le_of_lt HNK.out, rfl, rfl, by first | rfl | simp, HS2, trivial⟩
                case measure => simp [intOf]
              · have g2b : ((NK : Int) == 2) = false := by rw [beq_eq_false_iff_ne]; omega
                have HS2 : Hid (Fst b P K n s) := HMISS.out g2
                clear g2
                go_wp2_with (go_at_call 35; refine (cKN.out _ (by first | omega | (rw [IntKind.wrap_i64]; omega) | (rw [IntKind.wrap_u64]; omega))).mono ?_; rintro e w9 ⟨rfl, hw9⟩; subst hw9)
                go_roundw
                case rel => exact ⟨n, (n : Int) - 1, s, Nat.le_of_lt HNK.out, rfl, rfl, rfl, HS2, trivial⟩
                case measure => simp [intOf]
        · rw [decide_eq_false hrm] at cR
          have HE : Hid (nsR b = ([], some (40, 20))) := by unfold Hid; rw [HF.out]; exact nsQ_room HG1.out HG2.out hrm
          clear hrm
          go_wp2_with (go_at_call 57; refine (cR.out _ (by first | omega | (rw [IntKind.wrap_i64]; omega) | (rw [IntKind.wrap_u64]; omega))).mono ?_; rintro e w9 ⟨rfl, hw9⟩; subst hw9)
          refine bodyPost_ret (v := .tuple #[.int .i64 (-1), .int .i64 0, .int .i64 0, .int .i64 0, .agg #[.int .i64 (40), .int .i64 20]]) (results_ssssr Tryz.results61 _ _ w.heap.size 70 _ (0, 0) _ _ _ _ _ (by rfl) (by rfl) (by rfl) (by rfl) (by rfl) (set2_at R3.out _ _) Tryz.underlying70 (by rfl) size52) rfl ?_
          refine ⟨below_set2 HBL.out (Nat.le_refl _) _ _, .inr (.inl ⟨_, HE.out, by first | rfl | simp⟩)⟩
end Go.Proofs.YtheeogbmljjbdaaGreatDoor
namespace Go.Proofs.YtheeogbmljjbdaaGreatDoor
set_option linter.unusedVariables false
open Go.ChangeShapes Go.WideShapes Go.ChangeAt Go.RowKit Go.Deep
def Wy (f : Flt) : Prop := ∀ F, f = some F → F.2 ≠ 0
theorem wy_none : Wy none := fun F h => by cases h
theorem wy_some {a n : Nat} (h : n ≠ 0) : Wy (some (a, n)) := fun F e => by cases e; exact h
theorem wy_ite {c : Prop} [Decidable c] {x y : Flt} (hx : Wy x) (hy : Wy y) : Wy (if c then x else y) := by split <;> assumption
theorem wy_or {x y : Flt} (hx : Wy x) (hy : Wy y) : Wy (x.or y) := by
  cases x with
  | none => exact hy
  | some F => exact hx
theorem wy_id (b : List Int) : ∀ r i, Wy (idF b r i)
  | 0, _ => wy_none
  | r + 1, i => by
    rw [idF]
    exact wy_ite (wy_some (by decide)) (wy_ite (wy_some (by decide)) (wy_id b r (i + 1)))
theorem wy_hd (b : List Int) : Wy (hdF b) := by
  unfold hdF
  exact wy_ite (wy_some (by decide)) (wy_ite (wy_some (by decide)) (wy_ite (wy_some (by decide)) (wy_ite (wy_some (by decide)) (wy_ite (wy_some (by decide)) (wy_ite (wy_some (by decide)) (wy_ite (wy_some (by decide)) wy_none))))))
theorem wy_ph (b : List Int) : Wy (phF b) := by
  unfold phF
  exact wy_ite (wy_some (by decide)) (wy_ite (wy_some (by decide)) (wy_ite (wy_some (by decide)) wy_none))
theorem wy_pt (b : List Int) (h : Nat) : Wy (ptF b h) := by
  unfold ptF
  exact wy_ite (wy_some (by decide)) (wy_ite (wy_some (by decide)) (wy_ite (wy_some (by decide)) (wy_ite (wy_some (by decide)) wy_none)))
theorem wy_pr (b : List Int) (P : Nat) : ∀ i, Wy (prL b P i).2
  | 0 => by rw [prL_zero]; exact wy_none
  | i + 1 => by
    have ih := wy_pr b P i
    obtain ⟨l, f, hf⟩ : ∃ l f, prL b P i = (l, f) := ⟨_, _, rfl⟩
    rw [hf] at ih
    cases f with
    | some F => rw [prL_stop hf _ (Nat.le_succ _)]; exact ih
    | none =>
      by_cases h1 : isPt b (P + 56 * i)
      · cases h2 : ptF b (P + 56 * i) with
        | some F => rw [prL_own hf h1 h2, ← h2]; exact wy_pt b _
        | none =>
          by_cases h3 : l.any (mtB (ptAt b (P + 56 * i))) = true
          · rw [prL_meet hf h1 h2 h3]; exact wy_some (by decide)
          · rw [prL_add hf h1 h2 h3]; exact wy_none
      · rw [prL_pass hf h1]; exact wy_none
theorem wy_pa (b : List Int) : Wy (paF b) := by
  unfold paF
  exact wy_ite (wy_ph b) (wy_pr b _ _)
theorem wy_tx (b : List Int) (P K H : Nat) : Wy (txF b P K H) := by
  unfold txF
  exact wy_ite (wy_some (by decide)) (wy_ite (wy_some (by decide)) (wy_ite (wy_some (by decide)) wy_none))
theorem wy_tb (b : List Int) (P K H : Nat) : Wy (tbF b P K H) := by
  unfold tbF
  exact wy_ite (wy_some (by decide)) (wy_ite (wy_some (by decide)) (wy_ite (wy_some (by decide)) (wy_tx b P K H)))
theorem wy_nm (b T : List Int) (A : Nat) : ∀ i, Wy (nmL b T A i).2
  | 0 => wy_none
  | i + 1 => by
    have ih := wy_nm b T A i
    obtain ⟨l, f, hf⟩ : ∃ l f, nmL b T A i = (l, f) := ⟨_, _, rfl⟩
    rw [hf] at ih
    cases f with
    | some F => rw [nmL_stop hf _ (Nat.le_succ _)]; exact ih
    | none =>
      cases he : enE b T (A + 24 * (i + 1)) with
      | none => rw [nmL_bad hf he]; exact wy_some (by decide)
      | some o =>
        cases o with
        | none => rw [nmL_pass hf he]; exact wy_none
        | some x =>
          cases ha : l.any (eqS x) with
          | true => rw [nmL_had hf he ha]; exact wy_none
          | false =>
            by_cases hm : l.length = 400
            · rw [nmL_many hf he ha hm]; exact wy_some (by decide)
            · rw [nmL_add hf he ha hm]; exact wy_none
theorem wy_tn (b : List Int) (P K H : Nat) : Wy (tnR b P K H).2 := by
  cases h : tbF b P K H with
  | some F => rw [tnR_bad h, ← h]; exact wy_tb b P K H
  | none => rw [tnR_go h]; exact wy_nm _ _ _ _
theorem wy_ns (b : List Int) : Wy (nsR b).2 := by
  unfold nsR
  generalize vl b 60 2 = K
  generalize vl b 40 8 = P
  generalize vl b 58 2 = Z
  by_cases h1 : K = 0 ∨ P = 0
  · rw [nsQ_no h1]; exact wy_none
  · by_cases h2 : Z ≠ 64
    · rw [nsQ_head h1 h2]; exact wy_some (by decide)
    · by_cases h3 : ¬ room b P (64 * K)
      · rw [nsQ_room h1 h2 h3]; exact wy_some (by decide)
      · cases h4 : frT b P K 0 with
        | none => rw [nsQ_none h1 h2 h3 h4]; exact wy_none
        | some i => rw [nsQ_some h1 h2 h3 h4]; exact wy_tn _ _ _ _
theorem wy_he (b : List Int) : Wy (heF b) := by
  unfold heF
  exact wy_or (wy_id b _ _) (wy_or (wy_hd b) (wy_ph b))
theorem wy_rd (b : List Int) : Wy (rdF b) := by
  unfold rdF
  exact wy_ite (wy_some (by decide)) (wy_or (wy_id b _ _) (wy_or (wy_hd b) (wy_or (wy_pa b) (wy_ns b))))
end Go.Proofs.YtheeogbmljjbdaaGreatDoor
