/-
  Irk Iru.
-/
import Derived.Test.YtopddflnahfomaaGreatDoorM11
import Derived.Test.YtopddflnahfomaaGreatDoorM12
import Derived.Test.YtopddflnahfomaaGreatDoorM09
import Derived.Test.YtopddflnahfomaaGreatDoorM08
namespace Go.Proofs.YtopddflnahfomaaGreatDoor
set_option linter.unusedVariables false
set_option maxRecDepth 100000
open Go.ChangeShapes Go.WideShapes Go.ChangeAt Go.RowKit Go.Deep
/-- What name answers. -/
def NmP (E : Option (Option Sy)) (y : Nat) (w : World) (e : Ending) (w' : World) : Prop :=
  (E = none ∧ Pan w (y, 25) e w') ∨ (E = some none ∧ (∃ s v, e = .returned (.tuple #[.agg #[.string s, .int .u64 v], .bool false])) ∧ Below w.heap.size w w') ∨ (∃ x : Sy, E = some (some x) ∧ e = .returned (.tuple #[.agg #[.string x.s, .int .u64 (n64 x.v)], .bool true]) ∧ Below w.heap.size w w')
theorem Hid.mkI {p : Prop} (h : p) : Hid p := h
theorem below_drewX {B : Nat} {w w' : World} (h : Below B w w') (n : Nat) : Below B w (w'.drewN n) := ⟨h.os, h.tape, h.output, h.size, h.block⟩
set_option maxHeartbeats 8000000 in
theorem name_c {b T : List Int} (hB : AllB b) (hl : b.length ≤ 200000) (hTl : T.length ≤ 200000) (vb vt : Value) (y : Nat) (hy : y + 24 ≤ b.length) (w : World) (hv : Byt w vb b) (ht : Byt w vt T) (hTb : Hid (Tabs w)) :
    Calls Tryz.prog 73 #[.agg #[vb], .int .i64 (y : Int), vt] w fun e w' => NmP (enE b T y) y w e w' := by
  have HV : Hid (∀ w', Below w.heap.size w w' → Byt w' vb b) := fun w' hb => hv.later hb rfl
  have HT : Hid (∀ w', Below w.heap.size w w' → Byt w' vt T) := fun w' hb => ht.later hb rfl
  have HTB : Hid (∀ w', Below w.heap.size w w' → Tabs w') := fun w' hb => hTb.out.below hb rfl
  have HB : Hid (AllB b) := hB
  obtain ⟨a, cap, rfl, hc, _, hra⟩ := hv
  obtain ⟨ta, tc, rfl, htc, _, htr⟩ := ht
  obtain ⟨g0, o0, rfl, hg0, hcb⟩ := hra (by intro e; rw [e] at hy; simp at hy)
  obtain ⟨W1, hW1⟩ : ∃ W1, (w.alloc (.cells #[.slice (some ⟨g0, o0, none⟩) b.length cap] 54)).alloc (.cells #[.string ⟨#[]⟩, .int .u64 0] 45) = W1 := ⟨_, rfl⟩
  have HBL : Hid (Below w.heap.size w W1) := by rw [← hW1]; exact ((Below.refl _ _).alloc (Nat.le_refl _) _).alloc (by simp) _
  have hsz : Hid (W1.heap.size = w.heap.size + 2) := by unfold Hid; rw [← hW1]; simp
  have R3 : Hid (W1.heap[w.heap.size]? = some (.cells #[.slice (some ⟨g0, o0, none⟩) b.length cap] 54 (0, 0))) := by rw [← hW1]; exact heap_alloc2_old w _ _
  have R4 : Hid (W1.heap[w.heap.size + 1]? = some (.cells #[.string ⟨#[]⟩, .int .u64 0] 45 (0, 0))) := by rw [← hW1]; exact heap_alloc2_new w _ _
  have HC0 : Hid (∀ w', Below W1.heap.size W1 w' → w'.cell? ⟨w.heap.size, 0, none⟩ = some (.slice (some ⟨g0, o0, none⟩) b.length cap)) := fun w' hb => (hb.cell (by show w.heap.size < _; rw [hsz.out]; omega)).trans (cell_of_row W1 _ 0 _ _ _ R3.out)
  have HR6 : Hid (∀ w', Below W1.heap.size W1 w' → w'.heap[w.heap.size + 1]? = some (.cells #[.string ⟨#[]⟩, .int .u64 0] 45 (0, 0))) := fun w' hb => (hb.block _ (by rw [hsz.out]; omega)).trans R4.out
  have HC4 : Hid (∀ w', Below W1.heap.size W1 w' → w'.cell? ⟨g0, o0 + (y + 4), none⟩ = some (.int .u8 (b.getD (y + 4) 0))) := fun w' hb => ((HBL.out.trans (hb.mono HBL.out.size)).cell (p := ⟨g0, o0 + (y + 4), none⟩) hg0).trans (hcb (y + 4) (by omega))
  have cW : Hid (∀ wx, Below W1.heap.size W1 wx → ∀ pI : Int, pI = ((y : Nat) : Int) → Calls Tryz.prog 47 #[.agg #[.slice (some ⟨g0, o0, none⟩) b.length cap], .int .i64 pI] wx fun e w' => e = .returned (.int .u64 ((vl b y 4 : Nat) : Int)) ∧ Below wx.heap.size wx w') := fun wx hx pI hpI => word_c HB.out hl _ y pI hpI (by omega) wx (HV.out _ (HBL.out.trans (hx.mono HBL.out.size)))
  have cS : Hid (∀ wx, Below W1.heap.size W1 wx → ∀ pI : Int, pI = ((y + 6 : Nat) : Int) → Calls Tryz.prog 46 #[.agg #[.slice (some ⟨g0, o0, none⟩) b.length cap], .int .i64 pI] wx fun e w' => e = .returned (.int .u64 ((vl b (y + 6) 2 : Nat) : Int)) ∧ Below wx.heap.size wx w') := fun wx hx pI hpI => half_c HB.out hl _ (y + 6) pI hpI (by omega) wx (HV.out _ (HBL.out.trans (hx.mono HBL.out.size)))
  have cV : Hid (∀ wx, Below W1.heap.size W1 wx → ∀ pI : Int, pI = ((y + 8 : Nat) : Int) → Calls Tryz.prog 32 #[.agg #[.slice (some ⟨g0, o0, none⟩) b.length cap], .int .i64 pI] wx fun e w' => e = .returned (.int .u64 ((vl b (y + 8) 8 : Nat) : Int)) ∧ Below wx.heap.size wx w') := fun wx hx pI hpI => double_c HB.out hl _ (y + 8) pI hpI (by omega) wx (HV.out _ (HBL.out.trans (hx.mono HBL.out.size)))
  have HF : Hid (enE b T y = if T.length ≤ vl b y 4 ∨ fz (T.drop (vl b y 4)) < 0 then none
  else if (b.getD (y + 4) 0).toNat % 16 = 3 ∨ (b.getD (y + 4) 0).toNat % 16 = 4 ∨ vl b (y + 6) 2 = 0 ∨ nm (strOfNums (txT T (vl b y 4))) = false then some none
  else some (some ⟨strOfNums (txT T (vl b y 4)), BitVec.ofNat 64 (vl b (y + 8) 8)⟩)) := rfl
  have HTX : Hid (txT T (vl b y 4) = (T.drop (vl b y 4)).take (fz (T.drop (vl b y 4))).toNat) := rfl
  have lN := vl_lt8 hB y 4 (by omega)
  have lS := vl_lt8 hB (y + 6) 2 (by omega)
  have lV : Hid (vl b (y + 8) 8 < 18446744073709551616) := vl_lt8 hB (y + 8) 8 (by omega)
  have hby := getD_byte hB (y + 4)
  have hkd := and_u8_15 hby.1 hby.2
  generalize enE b T y = EE at HF ⊢
  generalize txT T (vl b y 4) = X at HF HTX
  generalize vl b y 4 = N at cW HF HTX lN
  generalize vl b (y + 6) 2 = NS at cS HF lS
  generalize vl b (y + 8) 8 = NV at cV HF lV
  generalize b.getD (y + 4) 0 = z at HC4 HF hby hkd
  generalize z.toNat % 16 = KD at HF hkd
  have hyI : (y : Int) + 24 ≤ b.length := by omega
  have hlI : (b.length : Int) ≤ 200000 := by omega
  have iN : (N : Int) < 18446744073709551616 := by omega
  have HW1 : Hid (Below W1.heap.size W1 W1) := Below.refl _ _
  clear hcb hB hTb hra
  go_enter Tryz.func73, Tryz.ntmps73
  go_upto_region 1 with fail
  have k1 := HC0.out W1 HW1.out
  clear hW1
  go_upto_region 2 with (go_at_call 47; refine (cW.out _ HW1.out _ (by first | omega | (rw [IntKind.wrap_i64]; omega) | (rw [IntKind.wrap_u64]; omega))).mono ?_; rintro e w2 ⟨rfl, hb⟩; have Hw2 : Hid (Below W1.heap.size W1 w2) := HW1.out.trans (hb.mono (HW1.out).size); clear hb)
  have htlI : (T.length : Int) ≤ 200000 := by omega
  by_cases g1 : T.length ≤ N
  · have g1I : (T.length : Int) ≤ N := by omega
    have HE : Hid (EE = none) := by unfold Hid; rw [HF.out, if_pos (.inl g1)]
    clear g1
    go_wp2_with (go_at_call 27; refine (refuse_t 25 y _).mono ?_; rintro e w9 ⟨g, rfl, p2, p3, p4⟩)
    exact ⟨rfl, .inl ⟨HE.out, Pan.later (HBL.out.trans (Hw2.out.mono HBL.out.size)) ⟨g, rfl, p2, p3, p4⟩⟩⟩
  · have g1I : ¬ (T.length : Int) ≤ N := by omega
    obtain ⟨gt, ot, rfl, hgt, hct⟩ := htr (by intro e; rw [e] at g1; simp at g1)
    have HCT : Hid (∀ w', Below w.heap.size w w' → ∀ i, i < T.length - N → w'.cell? ⟨gt, ot + N + i, none⟩ = some (.int .u8 ((T.drop N).getD i 0))) := fun w' hb i hi => by
      rw [hb.cell (p := ⟨gt, ot + N + i, none⟩) hgt, drop_getD, Nat.add_assoc]
      exact hct (N + i) (by omega)
    have HN : Hid (N < T.length) := by unfold Hid; omega
    have hsl : ∀ W, (Instr.slice 29 (.slice (some ⟨gt, ot, none⟩) T.length tc) (some (.int .u64 (N : Int))) none none).run Tryz.prog W = .ok (.slice (some ⟨gt, ot + N, none⟩) (T.length - N) (tc - N)) W := fun W => slice_lo W gt ot T.length tc N HN.out htc
    have hdl : Hid ((T.drop N).length = T.length - N) := by unfold Hid; simp
    clear htr hct g1
    go_upto_region 3 with (go_at_call 27; refine (refuse_f _ _ _).mono ?_; rintro e w9 ⟨rfl, hw9⟩; subst hw9)
    have k2 := HC0.out w2 Hw2.out
    have HA2 : Hid (Below W1.heap.size W1 (w2.alloc (.cells #[.int .u8 0] 5))) := Hw2.out.alloc Hw2.out.size _
    have HCT2 : Hid (∀ i, i < T.length - N → (w2.alloc (.cells #[.int .u8 0] 5)).cell? ⟨gt, ot + N + i, none⟩ = some (.int .u8 ((T.drop N).getD i 0))) := HCT.out _ (HBL.out.trans (HA2.out.mono HBL.out.size))
    have HZ2 : Hid ((w2.alloc (.cells #[.int .u8 0] 5)).cell? ⟨w2.heap.size, 0, none⟩ = some (.int .u8 0)) := by unfold Hid; simp
    by_cases gz : fz (T.drop N) < 0
    · have HE : Hid (EE = none) := by unfold Hid; rw [HF.out, if_pos (.inr gz)]
      have cC : Hid (Calls Tryz.prog 89 #[.slice (some ⟨gt, ot + N, none⟩) (T.length - N) (tc - N), .slice (some ⟨w2.heap.size, 0, none⟩) 1 1] (w2.alloc (.cells #[.int .u8 0] 5)) fun e w' => e = .returned (.tuple #[.slice (some ⟨gt, ot + N, none⟩) (T.length - N) (tc - N), .slice none 0 0, .bool false]) ∧ ∃ q, w' = (w2.alloc (.cells #[.int .u8 0] 5)).drewN q) := cutZ_f gt (ot + N) (T.length - N) (tc - N) w2.heap.size (T.drop N) gz _ hdl.out (by omega) (by omega) HCT2.out HZ2.out
      clear gz
      go_upto_region 4 with (go_at_call 89; refine cC.out.mono ?_; rintro e w3 ⟨rfl, q, hq⟩; have Hw3 : Hid (Below W1.heap.size W1 w3) := (by unfold Hid; rw [hq]; exact below_drewX HA2.out q); clear hq)
      clear k1 k2
      go_wp2_with (go_at_call 27; refine (refuse_t 25 y _).mono ?_; rintro e w9 ⟨g, rfl, p2, p3, p4⟩)
      exact ⟨rfl, .inl ⟨HE.out, Pan.later (HBL.out.trans (Hw3.out.mono HBL.out.size)) ⟨g, rfl, p2, p3, p4⟩⟩⟩
    · have HGZ : Hid (¬ (T.length ≤ N ∨ fz (T.drop N) < 0)) := by
        unfold Hid; rintro (h | h)
        · have := HN.out; omega
        · exact gz h
      obtain ⟨i, hi⟩ : ∃ i : Nat, fz (T.drop N) = (i : Int) := ⟨(fz (T.drop N)).toNat, by omega⟩
      have hir := fz_room (T.drop N) (by omega)
      have hiN : Hid (i < T.length - N) := by unfold Hid; rw [hdl.out] at hir; omega
      have hiI : (i : Int) ≤ 200000 := by have := hiN.out; omega
      have HX : Hid (X = (T.drop N).take i) := by unfold Hid; rw [HTX.out, hi]; rfl
      have hXl : Hid (X.length = i) := by unfold Hid; rw [HX.out, List.length_take, hdl.out]; have := hiN.out; omega
      have cC : Hid (Calls Tryz.prog 89 #[.slice (some ⟨gt, ot + N, none⟩) (T.length - N) (tc - N), .slice (some ⟨w2.heap.size, 0, none⟩) 1 1] (w2.alloc (.cells #[.int .u8 0] 5)) fun e w' => (∃ r, e = .returned (.tuple #[.slice (some ⟨gt, ot + N, none⟩) i (tc - N), r, .bool true])) ∧ ∃ q, w' = (w2.alloc (.cells #[.int .u8 0] 5)).drewN q) := cutZ_t gt (ot + N) (T.length - N) (tc - N) w2.heap.size i (T.drop N) hi _ hdl.out (by omega) (by omega) HCT2.out HZ2.out
      have HY : Hid (∀ w', Below W1.heap.size W1 w' → Byt w' (.slice (some ⟨gt, ot + N, none⟩) i (tc - N)) X) := fun w' hb => by
        refine ⟨some ⟨gt, ot + N, none⟩, tc - N, by rw [hXl.out], by rw [hXl.out]; have := hiN.out; omega, fun h => by simp at h, fun _ => ⟨gt, ot + N, rfl, Nat.lt_of_lt_of_le hgt (Nat.le_trans HBL.out.size hb.size), fun j hj => ?_⟩⟩
        rw [hXl.out] at hj
        rw [HCT.out w' (HBL.out.trans (hb.mono HBL.out.size)) j (by have := hiN.out; omega), HX.out, List.getD_eq_getElem?_getD, List.getD_eq_getElem?_getD, List.getElem?_take_of_lt hj]
      clear gz hi hir
      go_upto_region 4 with (go_at_call 89; refine cC.out.mono ?_; rintro e w3 ⟨⟨rr, rfl⟩, q, hq⟩; have Hw3 : Hid (Below W1.heap.size W1 w3) := (by unfold Hid; rw [hq]; exact below_drewX HA2.out q); clear hq)
      clear k1 k2 hsl cC
      go_upto_region 5 with (go_at_call 27; refine (refuse_f _ _ _).mono ?_; rintro e w9 ⟨rfl, hw9⟩; subst hw9)
      have k3 := HC0.out w3 Hw3.out
      have k4 := HC4.out w3 Hw3.out
      go_upto_region 6 with fail
      clear k4
      obtain ⟨EQ, hEQ⟩ : ∃ EQ, EQ = EE := ⟨_, rfl⟩
      have r6 := HR6.out w3 Hw3.out
      have c60 := cell_of_row w3 (w.heap.size + 1) 0 _ _ _ r6
      have c61 := cell_of_row w3 (w.heap.size + 1) 1 _ _ _ r6
      have f60 := frozen_of_row w3 (w.heap.size + 1) 0 _ _ r6
      have f61 := frozen_of_row w3 (w.heap.size + 1) 1 _ _ r6
      have HRR6 := Hid.mkI r6
      clear r6 hEQ
      by_cases d3 : KD = 3
      · have d3b : ((KD : Int) == 3) = true := by rw [beq_iff_eq]; omega
        have HE : Hid (EE = some none) := by unfold Hid; rw [HF.out, if_neg HGZ.out, if_pos (.inl d3)]
        clear d3
        go_wp2
        refine bodyPost_ret (v := .tuple #[.agg #[.string ⟨#[]⟩, .int .u64 0], .bool false]) (results_rs Tryz.results73 _ _ (w.heap.size + 1) 45 _ (0, 0) _ _ (by rfl) (by rfl) (set2_at HRR6.out _ _) Tryz.underlying45 (by rfl) size_sym) rfl ?_
        exact .inr (.inl ⟨HE.out, ⟨_, _, rfl⟩, below_set2 (HBL.out.trans (Hw3.out.mono HBL.out.size)) (by omega) _ _⟩)
      · have d3b : ((KD : Int) == 3) = false := by rw [beq_eq_false_iff_ne]; omega
        by_cases d4 : KD = 4
        · have d4b : ((KD : Int) == 4) = true := by rw [beq_iff_eq]; omega
          have HE : Hid (EE = some none) := by unfold Hid; rw [HF.out, if_neg HGZ.out, if_pos (.inr (.inl d4))]
          clear d3 d4
          go_wp2
          refine bodyPost_ret (v := .tuple #[.agg #[.string ⟨#[]⟩, .int .u64 0], .bool false]) (results_rs Tryz.results73 _ _ (w.heap.size + 1) 45 _ (0, 0) _ _ (by rfl) (by rfl) (set2_at HRR6.out _ _) Tryz.underlying45 (by rfl) size_sym) rfl ?_
          exact .inr (.inl ⟨HE.out, ⟨_, _, rfl⟩, below_set2 (HBL.out.trans (Hw3.out.mono HBL.out.size)) (by omega) _ _⟩)
        · have d4b : ((KD : Int) == 4) = false := by rw [beq_eq_false_iff_ne]; omega
          by_cases dS : NS = 0
          · have dSb : ((NS : Int) == 0) = true := by rw [beq_iff_eq]; omega
            have HE : Hid (EE = some none) := by unfold Hid; rw [HF.out, if_neg HGZ.out, if_pos (.inr (.inr (.inl dS)))]
            clear d3 d4 dS c60 c61 f60 f61
            go_upto_region 7 with (go_at_call 46; refine (cS.out _ Hw3.out _ (by first | omega | (rw [IntKind.wrap_i64]; omega) | (rw [IntKind.wrap_u64]; omega))).mono ?_; rintro e w4 ⟨rfl, hb⟩; have Hw4 : Hid (Below W1.heap.size W1 w4) := Hw3.out.trans (hb.mono (Hw3.out).size); clear hb)
            have r6 := HR6.out w4 Hw4.out
            have c60 := cell_of_row w4 (w.heap.size + 1) 0 _ _ _ r6
            have c61 := cell_of_row w4 (w.heap.size + 1) 1 _ _ _ r6
            have f60 := frozen_of_row w4 (w.heap.size + 1) 0 _ _ r6
            have f61 := frozen_of_row w4 (w.heap.size + 1) 1 _ _ r6
            replace HRR6 := Hid.mkI r6
            clear r6
            go_wp2
            refine bodyPost_ret (v := .tuple #[.agg #[.string ⟨#[]⟩, .int .u64 0], .bool false]) (results_rs Tryz.results73 _ _ (w.heap.size + 1) 45 _ (0, 0) _ _ (by rfl) (by rfl) (set2_at HRR6.out _ _) Tryz.underlying45 (by rfl) size_sym) rfl ?_
            exact .inr (.inl ⟨HE.out, ⟨_, _, rfl⟩, below_set2 (HBL.out.trans (Hw4.out.mono HBL.out.size)) (by omega) _ _⟩)
          · have dSb : ((NS : Int) == 0) = false := by rw [beq_eq_false_iff_ne]; omega
            clear c60 c61 f60 f61
            go_upto_region 8 with (go_at_call 46; refine (cS.out _ Hw3.out _ (by first | omega | (rw [IntKind.wrap_i64]; omega) | (rw [IntKind.wrap_u64]; omega))).mono ?_; rintro e w4 ⟨rfl, hb⟩; have Hw4 : Hid (Below W1.heap.size W1 w4) := Hw3.out.trans (hb.mono (Hw3.out).size); clear hb)
            have r6 := HR6.out w4 Hw4.out
            have c60 := cell_of_row w4 (w.heap.size + 1) 0 _ _ _ r6
            have c61 := cell_of_row w4 (w.heap.size + 1) 1 _ _ _ r6
            have f60 := frozen_of_row w4 (w.heap.size + 1) 0 _ _ r6
            have f61 := frozen_of_row w4 (w.heap.size + 1) 1 _ _ r6
            replace HRR6 := Hid.mkI r6
            clear r6
            cases dn : nm (strOfNums X) with
            | false =>
              have HE : Hid (EE = some none) := by unfold Hid; rw [HF.out, if_neg HGZ.out, if_pos (.inr (.inr (.inr dn)))]
              by_cases g160 : 160 < i
              · have g160I : (160 : Int) < i := by omega
                clear d3 d4 dS dn g160
                go_wp2
                refine bodyPost_ret (v := .tuple #[.agg #[.string ⟨#[]⟩, .int .u64 0], .bool false]) (results_rs Tryz.results73 _ _ (w.heap.size + 1) 45 _ (0, 0) _ _ (by rfl) (by rfl) (set2_at HRR6.out _ _) Tryz.underlying45 (by rfl) size_sym) rfl ?_
                exact .inr (.inl ⟨HE.out, ⟨_, _, rfl⟩, below_set2 (HBL.out.trans (Hw4.out.mono HBL.out.size)) (by omega) _ _⟩)
              · have g160I : ¬ (160 : Int) < i := by omega
                have hcv : (convert 29 9 (.slice (some ⟨gt, ot + N, none⟩) i (tc - N))).run Tryz.prog w4 = .ok (.string (strOfNums X)) w4 := (HY.out w4 Hw4.out).conv
                have cI : Hid (Calls Tryz.prog 36 #[.string (strOfNums X)] w4 fun e w' => e = .returned (.bool false) ∧ Below w4.heap.size w4 w') := (isName_c (strOfNums X) (by rw [str_size, hXl.out]; omega) w4 (HTB.out _ (HBL.out.trans (Hw4.out.mono HBL.out.size)))).mono fun e w' hq => ⟨by rw [hq.1, dn], hq.2⟩
                clear d3 d4 dS dn g160 c60 c61 f60 f61
                generalize strOfNums X = XS at *
                go_upto_region 9 with (go_at_call 36; refine cI.out.mono ?_; rintro e w5 ⟨rfl, hb⟩; have B45 : Hid (Below w4.heap.size w4 w5) := hb; have Hw5 : Hid (Below W1.heap.size W1 w5) := Hw4.out.trans (hb.mono (Hw4.out).size); clear hb)
                have r6 := HR6.out w5 Hw5.out
                have c60 := cell_of_row w5 (w.heap.size + 1) 0 _ _ _ r6
                have c61 := cell_of_row w5 (w.heap.size + 1) 1 _ _ _ r6
                have f60 := frozen_of_row w5 (w.heap.size + 1) 0 _ _ r6
                have f61 := frozen_of_row w5 (w.heap.size + 1) 1 _ _ r6
                replace HRR6 := Hid.mkI r6
                clear r6
                go_wp2
                refine bodyPost_ret (v := .tuple #[.agg #[.string ⟨#[]⟩, .int .u64 0], .bool false]) (results_rs Tryz.results73 _ _ (w.heap.size + 1) 45 _ (0, 0) _ _ (by rfl) (by rfl) (set2_at HRR6.out _ _) Tryz.underlying45 (by rfl) size_sym) rfl ?_
                exact .inr (.inl ⟨HE.out, ⟨_, _, rfl⟩, below_set2 (HBL.out.trans (Hw5.out.mono HBL.out.size)) (by omega) _ _⟩)
            | true =>
              have hnr := nm_room dn
              rw [str_size, hXl.out] at hnr
              have g160I : ¬ (160 : Int) < i := by omega
              have HE : Hid (EE = some (some ⟨strOfNums X, BitVec.ofNat 64 NV⟩)) := by
                unfold Hid; rw [HF.out, if_neg HGZ.out, if_neg]
                rintro (h | h | h | h)
                · exact d3 h
                · exact d4 h
                · exact dS h
                · rw [dn] at h; cases h
              have hcv : ∀ W, Below w4.heap.size w4 W → (convert 29 9 (.slice (some ⟨gt, ot + N, none⟩) i (tc - N))).run Tryz.prog W = .ok (.string (strOfNums X)) W := fun W hb => (HY.out W (Hw4.out.trans (hb.mono Hw4.out.size))).conv
              have hcv4 := hcv w4 (Below.refl _ _)
              have cI : Hid (Calls Tryz.prog 36 #[.string (strOfNums X)] w4 fun e w' => e = .returned (.bool true) ∧ Below w4.heap.size w4 w') := (isName_c (strOfNums X) (by rw [str_size, hXl.out]; omega) w4 (HTB.out _ (HBL.out.trans (Hw4.out.mono HBL.out.size)))).mono fun e w' hq => ⟨by rw [hq.1, dn], hq.2⟩
              clear d3 d4 dS dn c60 c61 f60 f61
              generalize strOfNums X = XS at *
              have HCV := Hid.mkI hcv
              clear hcv
              go_upto_region 10 with (go_at_call 36; refine cI.out.mono ?_; rintro e w5 ⟨rfl, hb⟩; have B45 : Hid (Below w4.heap.size w4 w5) := hb; have Hw5 : Hid (Below W1.heap.size W1 w5) := Hw4.out.trans (hb.mono (Hw4.out).size); clear hb)
              clear hcv4 k3
              have k5 := HC0.out w5 Hw5.out
              have := later_nonempty w5
              have hcvL : ∀ x : Later w5, (convert 29 9 (.slice (some ⟨gt, ot + N, none⟩) i (tc - N))).run Tryz.prog x.1 = .ok (.string XS) x.1 := fun x => HCV.out x.1 (B45.out.trans (x.below.mono B45.out.size))
              have hk5L : ∀ x : Later w5, x.1.cell? ⟨w.heap.size, 0, none⟩ = some (.slice (some ⟨g0, o0, none⟩) b.length cap) := fun x => HC0.out x.1 (Hw5.out.trans (x.below.mono Hw5.out.size))
              have cVL : Hid (∀ x : Later w5, ∀ pI : Int, pI = ((y + 8 : Nat) : Int) → Calls Tryz.prog 32 #[.agg #[.slice (some ⟨g0, o0, none⟩) b.length cap], .int .i64 pI] x.1 fun e w' => e = .returned (.int .u64 (NV : Int)) ∧ ∃ y' : Later w5, w' = y'.1) := fun x pI hpI => calls_later (cV.out x.1 (Hw5.out.trans (x.below.mono Hw5.out.size)) pI hpI)
              refine wp_region_later_tail (x0 := Later.start w5) 7 (by kernel_rfl) (by kernel_rfl) ?_
              simp only [List.take_succ_cons, List.take_zero, List.drop_succ_cons, List.drop_zero]
              repeat (go_big_quiet_step (first | (go_at_call 32; exact cVL.out _ _ (by first | rfl | omega | (rw [IntKind.wrap_i64]; omega)))))
              refine wpQuiet_nil ?_
              rintro w' ⟨x9, rfl⟩
              have H9 : Hid (Below W1.heap.size W1 x9.1) := Hw5.out.trans (x9.below.mono Hw5.out.size)
              have r6 := HR6.out x9.1 H9.out
              have c60 := cell_of_row x9.1 (w.heap.size + 1) 0 _ _ _ r6
              have c61 := cell_of_row x9.1 (w.heap.size + 1) 1 _ _ _ r6
              have f60 := frozen_of_row x9.1 (w.heap.size + 1) 0 _ _ r6
              have f61 := frozen_of_row x9.1 (w.heap.size + 1) 1 _ _ r6
              have HRR9 := Hid.mkI r6
              clear r6
              go_wp2
              refine bodyPost_ret (v := .tuple #[.agg #[.string XS, .int .u64 (NV : Int)], .bool true]) (results_rs Tryz.results73 _ _ (w.heap.size + 1) 45 _ (0, 0) _ _ (by rfl) (by rfl) (set2_at HRR9.out _ _) Tryz.underlying45 (by rfl) size_sym) rfl ?_
              exact .inr (.inr ⟨_, HE.out, by rw [← nat64 lV.out], below_set2 (HBL.out.trans (H9.out.mono HBL.out.size)) (by omega) _ _⟩)
end Go.Proofs.YtopddflnahfomaaGreatDoor
namespace Go.Proofs.YtopddflnahfomaaGreatDoor
set_option linter.unusedVariables false
open Go.ChangeShapes Go.WideShapes Go.ChangeAt Go.RowKit Go.Deep
theorem nan_c (x : Int) (w : World) : Calls Tryz.prog 71 #[.int .u64 x] w fun e w' => e = .returned (.bool false) ∧ w' = w := by
  go_enter Tryz.func71, Tryz.ntmps71
  go_wp2
  go_ret
  exact ⟨by simp, rfl⟩
set_option maxHeartbeats 1000000 in
theorem cmp_c (x y : Int) (w : World) : Calls Tryz.prog 53 #[.int .u64 x, .int .u64 y] w fun e w' => e = .returned (.int .i64 (Lib.compareInt x y)) ∧ w' = w := by
  go_enter Tryz.func53, Tryz.ntmps53
  go_wp2_with (go_at_call 71; refine (nan_c _ _).mono ?_; rintro e w' ⟨rfl, hw⟩; rw [hw])
  all_goals (go_ret; refine ⟨?_, rfl⟩; unfold Lib.compareInt; (repeat' split) <;> first | rfl | (exfalso; omega))
set_option maxHeartbeats 1000000 in
theorem clo_c (x y : Sg) (W : World) : Calls Tryz.prog 52 #[.agg (sgv x).toArray, .agg (sgv y).toArray] W fun e w' => e = .returned (.int .i64 (Lib.compareInt (n64 x.a) (n64 y.a))) ∧ ∃ q os', w' = Go.Sort.grow (W.drewN q) os' := by
  have hcon := fun W' => cmp_c (n64 x.a) (n64 y.a) W'
  change Calls Tryz.prog 52 #[.agg #[.int .u64 (n64 x.a), .int .u64 (n64 x.s), .int .i64 x.f, .slice x.m x.n x.c], .agg #[.int .u64 (n64 y.a), .int .u64 (n64 y.s), .int .i64 y.f, .slice y.m y.n y.c]] W _
  generalize Lib.compareInt (n64 x.a) (n64 y.a) = r at hcon ⊢
  go_enter Tryz.func52, Tryz.ntmps52
  go_wp2_with (go_at_call 53; refine (hcon _).mono ?_; rintro e w' ⟨rfl, rfl⟩)
  go_ret
  exact ⟨rfl, 0, _, by rw [Go.Sort.alloc_eq_grow, Go.Sort.alloc_eq_grow, Go.Sort.grow_grow]; rfl⟩
theorem lt_ad (x y : Sg) : ltOf (fun x y : Sg => Lib.compareInt (n64 x.a) (n64 y.a)) x y = decide (n64 x.a < n64 y.a) := by
  unfold ltOf Lib.compareInt
  by_cases h1 : n64 x.a < n64 y.a
  · simp [h1]
  · by_cases h2 : n64 y.a < n64 x.a <;> simp [h1, h2]
theorem swo_ad : Go.Sort.SWO (ltOf fun x y : Sg => Lib.compareInt (n64 x.a) (n64 y.a)) :=
  ⟨fun x => by rw [lt_ad]; simp, fun x y z h1 h2 => by rw [lt_ad] at *; simp at *; omega, fun x y z h1 h2 => by rw [lt_ad] at *; simp at *; omega⟩
set_option maxHeartbeats 1000000 in
theorem sort_c (w : World) (B : Nat) (v : Value) (L : List Sg) (hown : w.ownsRow B 42 4 v L.length (sgl L)) (hB : B ≤ w.heap.size) (hl : L.length ≤ 16) :
    Calls Tryz.prog 51 #[v, .func (.func 52) #[] #[]] w fun e w' => e = .returned (.tuple #[]) ∧ ∃ L' : List Sg, L'.Perm L ∧ L'.Pairwise (fun x y => x.a.toNat ≤ y.a.toNat) ∧ w'.ownsRow B 42 4 v L'.length (sgl L') ∧ Below B w w' ∧ KeepU w w' := by
  by_cases h0 : L = []
  · subst h0
    obtain ⟨p, cap, rfl⟩ : ∃ p cap, v = .slice p 0 cap := by
      rcases Go.Joins.ownsRow_forms hown with ⟨rfl, _⟩ | ⟨g, cap, rfl⟩
      · exact ⟨_, _, rfl⟩
      · exact ⟨_, _, rfl⟩
    have hcon := AnyF.slices_SortFunc_none { Tryz.sortSeg with } p cap (.func (.func 52) #[] #[]) w
    change Calls Tryz.prog 51 _ _ _ at hcon
    refine hcon.mono ?_
    rintro e w' ⟨rfl, rfl⟩
    exact ⟨rfl, [], .nil, .nil, hown, Below.refl _ _, KeepU.refl _⟩
  · have hne : 0 < L.length := List.length_pos_iff.2 h0
    obtain ⟨g, cap, rfl⟩ := Go.Joins.ownsRow_form hown hne
    haveI : Inhabited Sg := ⟨sgz⟩
    obtain ⟨hH, hBg, hg⟩ := own_holdsK (enc := sgv) (fun _ => rfl) hown rfl
    have eg : ∀ args w, (callFunc 52 args).run Tryz.prog w = .ok (.enter 52 args) w := enters_of Tryz.func52 (by kernel_rfl) rfl
    have hcon := AnyQ.slices_SortFunc Tryz.sortSeg 4 (fun w => by kernel_rfl) (fun w => by kernel_rfl) sgv (fun _ => rfl) (fun x u hu => by simp [sgv] at hu; rcases hu with rfl | rfl | rfl | rfl <;> rfl) (fun x y : Sg => Lib.compareInt (n64 x.a) (n64 y.a)) swo_ad 52 #[] g 0 cap L.toArray w eg (fun _ _ _ _ x y => clo_c x y _) hH hg (by simp; omega)
    change Calls Tryz.prog 51 #[.slice (some ⟨g, 0, none⟩) L.length cap, .func (.func 52) #[] #[]] _ _ at hcon
    refine hcon.mono ?_
    rintro e w' ⟨rfl, d, n, os, hp, hs, rfl⟩
    obtain ⟨p1, p2⟩ := permIn_list hp
    have s1 := sortedIn_list p2 (by simpa using hs)
    refine ⟨rfl, d.toList, p1, s1.imp (fun {x y} q => ?_), ?_, below_sortWorldK hBg hB, KeepU.other hown (fun j h1 h2 => sortWorldK_other h1 h2)⟩
    · rw [lt_ad] at q
      have q := of_decide_eq_false q
      unfold n64 at q; omega
    · have e1 : d.toList.length = L.length := by simpa using p2
      rw [e1]
      exact own_sortWorldK (enc := sgv) (fun _ => rfl) hown p2
end Go.Proofs.YtopddflnahfomaaGreatDoor
