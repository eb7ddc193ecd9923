/-
  Irl Irs.
-/
import Derived.Test.YtheeogbmljjbdaaGreatDoorN10
import Derived.Test.YtheeogbmljjbdaaGreatDoorN11
namespace Go.Proofs.YtheeogbmljjbdaaGreatDoor
set_option linter.unusedVariables false
set_option maxRecDepth 100000
open Go.ChangeShapes Go.WideShapes Go.ChangeAt Go.RowKit Go.Deep
theorem syl_snoc (L : List Sy) (x : Sy) : syl (L ++ [x]) = syl L ++ syv x := by simp [syl]
theorem own_nilN (w : World) (B : Nat) : w.ownsRow B 87 2 (.slice none 0 0) ([] : List Sy).length (syl []) := ⟨by simp [syl], .inl ⟨rfl, rfl⟩⟩
/-- One name appended to a row of the call's own. -/
theorem appS {ops : Array Oper} {rest : List Oper} {o : Oper} {a : Act} {w : World} {Q : Exit → Act → World → Prop} (hgd : o.guard = none) (s x : Operand) (ho : o.op = .call { callee := .builtin .append, args := #[s, x], argTypes := #[24, 24] })
    (B : Nat) (v : Value) (L : List Sy) (y : Sy) (hs : a.eval s = v) (hown : w.ownsRow B 87 2 v L.length (syl L))
    (h0 : Nat) (hx : a.eval x = .slice (some ⟨h0, 0, none⟩) 1 1) (hy : w.heap[h0]? = some (.cells #[.string y.s, .int .u64 (n64 y.v)] 87 (0, 0))) (hl : (L.length + 1) * 24 ≤ 140737488355328) (hB : B ≤ w.heap.size)
    (h : ∀ v' w', w'.ownsRow B 87 2 v' (L ++ [y]).length (syl (L ++ [y])) → Below B w w' → wpList Tryz.prog ops Q rest (a.put o.dst v') w') :
    wpList Tryz.prog ops Q (o :: rest) a w := by
  obtain ⟨i0, hi, hz0, hz1, hz2⟩ := info_parts info51
  refine wpList_append_own _ hgd s x 24 ho B 87 i0 (.agg #[.string ⟨#[]⟩, .int .u64 0]) 2 24 Tryz.underlying24 hi hz0 hz1 hz2 rfl (by decide) v L.length (syl L) hs hown ⟨h0, 0, none⟩ 1 1 (syv y) hx rfl ?_ ?_ (by unfold maxLen; omega) (by omega) hB ?_
  · intro j u hj
    have hj2 : j < 2 := by have := (List.getElem?_eq_some_iff.1 hj).1; simpa [syv] using this
    rw [addAt, Nat.zero_add, cell_of_row w h0 j _ _ _ hy]
    match j, hj2, hj with
    | 0, _, hj => exact hj
    | 1, _, hj => exact hj
  · intro u hu; simp [syv] at hu; rcases hu with rfl | rfl <;> rfl
  · intro v' w' h1 h2 _
    have hbl : Below B w w' := (Below.refl _ _).grown h2 hB (fun k hk => (hown.lt k hk).1)
    exact h v' w' (by rw [syl_snoc, List.length_append]; exact h1) hbl
theorem own_sliceN {w : World} {B n : Nat} {v : Value} {xs : List Value} (h : w.ownsRow B 87 2 v n xs) : ∃ m k c, v = .slice m k c := by
  rcases Go.Joins.ownsRow_forms h with ⟨rfl, _⟩ | ⟨g, cap, rfl⟩
  · exact ⟨_, _, _, rfl⟩
  · exact ⟨_, _, _, rfl⟩
theorem tnR_bad {b : List Int} {P K H : Nat} {F : Nat × Nat} (h : tbF b P K H = some F) : (tnR b P K H).2 = some F := by
  unfold tnR; rw [h, if_pos (by rfl)]
theorem tnR_go {b : List Int} {P K H : Nat} (h : tbF b P K H = none) : tnR b P K H = nmL b (txB b P H) (vl b (H + 24) 8) (vl b (H + 32) 8 / 24 - 1) := by
  unfold tnR; rw [h, if_neg (by simp)]
/-- What tableNames answers. -/
def TnP (r : List Sy × Flt) (w : World) (e : Ending) (w' : World) : Prop :=
  (r.2 = none ∧ ∃ u, e = .returned u ∧ w'.ownsRow w.heap.size 87 2 u (nSrt r.1).length (syl (nSrt r.1)) ∧ Below w.heap.size w w') ∨ (∃ F, r.2 = some F ∧ Pan w F e w')
set_option maxHeartbeats 8000000 in
theorem tableNames_c {b : List Int} (hB : AllB b) (hl : b.length ≤ 200000) (vb : Value) (P K H : Nat) (hP : P + 64 * K ≤ b.length) (hH : H + 64 ≤ b.length) (hK : K < 18446744073709551616) (w : World) (hv : Byt w vb b) (hTb : Hid (Tabs w)) :
    Calls Tryz.prog 89 #[.agg #[vb], .agg #[.int .i64 (P : Int), .int .u64 (K : Int)], .int .i64 (H : Int)] w fun e w' => TnP (tnR b P K H) w e w' := by
  have HV : Hid (∀ w', Below w.heap.size w w' → Byt w' vb b) := fun w' hb => hv.later hb rfl
  have HTB : Hid (∀ w', Below w.heap.size w w' → Tabs w') := fun w' hb => hTb.out.below hb rfl
  have HB : Hid (AllB b) := hB
  obtain ⟨a, cap, rfl, hc, _, _⟩ := hv
  obtain ⟨W1, hW1⟩ : ∃ W1, (w.alloc (.cells #[.slice a b.length cap] 65)).alloc (.cells #[.int .i64 (P : Int), .int .u64 (K : Int)] 150) = W1 := ⟨_, rfl⟩
  have HBL : Hid (Below w.heap.size w W1) := by rw [← hW1]; exact ((Below.refl _ _).alloc (Nat.le_refl _) _).alloc (by simp) _
  have hsz : Hid (W1.heap.size = w.heap.size + 2) := by unfold Hid; rw [← hW1]; simp
  have R3 : Hid (W1.heap[w.heap.size]? = some (.cells #[.slice a b.length cap] 65 (0, 0))) := by rw [← hW1]; exact heap_alloc2_old w _ _
  have R4 : Hid (W1.heap[w.heap.size + 1]? = some (.cells #[.int .i64 (P : Int), .int .u64 (K : Int)] 150 (0, 0))) := by rw [← hW1]; exact heap_alloc2_new w _ _
  have HC0 : Hid (∀ w', Below W1.heap.size W1 w' → w'.cell? ⟨w.heap.size, 0, none⟩ = some (.slice a b.length cap)) := fun w' hb => (hb.cell (by show w.heap.size < _; rw [hsz.out]; omega)).trans (cell_of_row W1 _ 0 _ _ _ R3.out)
  have HC1 : Hid (∀ w', Below W1.heap.size W1 w' → w'.cell? ⟨w.heap.size + 1, 0, none⟩ = some (.int .i64 (P : Int)) ∧ w'.cell? ⟨w.heap.size + 1, 1, none⟩ = some (.int .u64 (K : Int))) := fun w' hb => ⟨(hb.cell (by show w.heap.size + 1 < _; rw [hsz.out]; omega)).trans (cell_of_row W1 _ 0 _ _ _ R4.out), (hb.cell (by show w.heap.size + 1 < _; rw [hsz.out]; omega)).trans (cell_of_row W1 _ 1 _ _ _ R4.out)⟩
  have cE : Hid (∀ wx, Below W1.heap.size W1 wx → ∀ pI : Int, pI = ((H + 56 : Nat) : Int) → Calls Tryz.prog 56 #[.agg #[.slice a b.length cap], .int .i64 pI] wx fun e w' => e = .returned (.int .u64 ((vl b (H + 56) 8 : Nat) : Int)) ∧ Below wx.heap.size wx w') := fun wx hx pI hpI => double_c HB.out hl _ (H + 56) pI hpI (by omega) wx (HV.out _ (HBL.out.trans (hx.mono HBL.out.size)))
  have cL : Hid (∀ wx, Below W1.heap.size W1 wx → ∀ pI : Int, pI = ((H + 32 : Nat) : Int) → Calls Tryz.prog 56 #[.agg #[.slice a b.length cap], .int .i64 pI] wx fun e w' => e = .returned (.int .u64 ((vl b (H + 32) 8 : Nat) : Int)) ∧ Below wx.heap.size wx w') := fun wx hx pI hpI => double_c HB.out hl _ (H + 32) pI hpI (by omega) wx (HV.out _ (HBL.out.trans (hx.mono HBL.out.size)))
  have lM := vl_lt8 hB (H + 32) 8 (by omega)
  have lE := vl_lt8 hB (H + 56) 8 (by omega)
  have c8 : Hid (∀ wx, Below W1.heap.size W1 wx → ∀ pI : Int, pI = ((H + 24 : Nat) : Int) → Calls Tryz.prog 83 #[.agg #[.slice a b.length cap], .int .i64 pI, .int .u64 ((vl b (H + 32) 8 : Nat) : Int)] wx fun e w' => (room b (vl b (H + 24) 8) (vl b (H + 32) 8) ∧ e = .returned (.int .i64 ((vl b (H + 24) 8 : Nat) : Int)) ∧ Below wx.heap.size wx w') ∨ (¬ room b (vl b (H + 24) 8) (vl b (H + 32) 8) ∧ Pan wx (H + 24, 20) e w')) := fun wx hx pI hpI => placeAt_c HB.out hl _ (H + 24) _ pI hpI (by omega) lM wx (HV.out _ (HBL.out.trans (hx.mono HBL.out.size)))
  have cT : Hid (∀ wx, Below W1.heap.size W1 wx → Calls Tryz.prog 102 #[.agg #[.slice a b.length cap], .agg #[.int .i64 (P : Int), .int .u64 (K : Int)], .int .i64 (H : Int)] wx fun e w' => (txF b P K H = none ∧ ∃ u, e = .returned u ∧ Byt w' u (txB b P H) ∧ Below wx.heap.size wx w') ∨ (∃ F, txF b P K H = some F ∧ Pan wx F e w')) := fun wx hx => texts_c HB.out hl _ P K H hP hH hK wx (HV.out _ (HBL.out.trans (hx.mono HBL.out.size)))
  have HF : Hid (tbF b P K H = if vl b (H + 56) 8 ≠ 24 then some (H + 56, 25) else if vl b (H + 32) 8 % 24 ≠ 0 then some (H + 32, 25) else if ¬ room b (vl b (H + 24) 8) (vl b (H + 32) 8) then some (H + 24, 20) else txF b P K H) := rfl
  have HBD : Hid (∀ F, tbF b P K H = some F → (tnR b P K H).2 = some F) := fun F h => tnR_bad h
  have HGO : Hid (tbF b P K H = none → tnR b P K H = nmL b (txB b P H) (vl b (H + 24) 8) (vl b (H + 32) 8 / 24 - 1)) := fun h => tnR_go h
  have hTL : Hid (txF b P K H = none → (txB b P H).length ≤ 200000) := fun _ => by unfold txB; rw [List.length_take, List.length_drop]; omega
  generalize tnR b P K H = RR at HBD HGO ⊢
  generalize tbF b P K H = TF at HF HBD HGO
  generalize txF b P K H = XF at HF cT hTL
  generalize txB b P H = T at HGO cT hTL
  generalize vl b (H + 56) 8 = NE at cE HF lE
  generalize vl b (H + 32) 8 = M at cL c8 HF HGO lM
  generalize vl b (H + 24) 8 = A at c8 HF HGO
  have hHI : (H : Int) + 64 ≤ b.length := by omega
  have hlI : (b.length : Int) ≤ 200000 := by omega
  have iE : (NE : Int) < 18446744073709551616 := by omega
  have iM : (M : Int) < 18446744073709551616 := by omega
  have hrem : Int.tmod (M : Int) 24 = ((M % 24 : Nat) : Int) := by rw [Int.tmod_eq_emod_of_nonneg (by omega)]; omega
  have HREM := Hid.mkI hrem
  clear hrem
  have HW1 : Hid (Below W1.heap.size W1 W1) := Below.refl _ _
  go_enter Tryz.func89, Tryz.ntmps89
  go_upto_region 1 with fail
  have k1 := HC0.out W1 HW1.out
  clear hW1
  by_cases gE : NE ≠ 24
  · have gEb : ((NE : Int) != 24) = true := by rw [bne_iff_ne]; omega
    have HE : Hid (RR.2 = some (H + 56, 25)) := HBD.out _ (by rw [HF.out, if_pos gE])
    clear gE
    go_wp2_with (first | (go_at_call 56; refine (cE.out _ HW1.out _ (by first | omega | (rw [IntKind.wrap_i64]; omega) | (rw [IntKind.wrap_u64]; omega))).mono ?_; rintro e w2 ⟨rfl, hb⟩; have Hw2 : Hid (Below W1.heap.size W1 w2) := HW1.out.trans (hb.mono (HW1.out).size); clear hb) | (go_at_call 51; refine (refuse_tI 25 (H + 56) _ (by first | omega | (rw [IntKind.wrap_i64]; omega) | (rw [IntKind.wrap_u64]; omega)) _).mono ?_; rintro e w9 ⟨g, rfl, p2, p3, p4⟩))
    exact ⟨rfl, .inr ⟨_, HE.out, Pan.later (HBL.out.trans (Hw2.out.mono HBL.out.size)) ⟨g, rfl, p2, p3, p4⟩⟩⟩
  · have gEb : ((NE : Int) != 24) = false := by rw [bne_eq_false_iff_eq]; omega
    have HG1 : Hid (¬ NE ≠ 24) := gE
    clear gE
    go_upto_region 2 with (first | (go_at_call 56; refine (cE.out _ HW1.out _ (by first | omega | (rw [IntKind.wrap_i64]; omega) | (rw [IntKind.wrap_u64]; omega))).mono ?_; rintro e w2 ⟨rfl, hb⟩; have Hw2 : Hid (Below W1.heap.size W1 w2) := HW1.out.trans (hb.mono (HW1.out).size); clear hb) | (go_at_call 51; refine (refuse_f _ _ _).mono ?_; rintro e w9 ⟨rfl, hw9⟩; subst hw9))
    --@M1
    clear k1
    have k2 := HC0.out w2 Hw2.out
    go_upto_region 3 with (go_at_call 56; refine (cL.out _ Hw2.out _ (by first | omega | (rw [IntKind.wrap_i64]; omega) | (rw [IntKind.wrap_u64]; omega))).mono ?_; rintro e w3 ⟨rfl, hb⟩; have Hw3 : Hid (Below W1.heap.size W1 w3) := Hw2.out.trans (hb.mono (Hw2.out).size); clear hb)
    --@M2
    clear k2
    by_cases gM : M % 24 ≠ 0
    · have xMb : (((M % 24 : Nat) : Int) != 0) = true := by rw [bne_iff_ne]; omega
      have yMb : ((M : Int) % 24 != 0) = true := by rw [bne_iff_ne]; omega
      have gMb : ((M : Int).tmod 24 != 0) = true := by rw [HREM.out]; exact xMb
      have HE : Hid (RR.2 = some (H + 32, 25)) := HBD.out _ (by rw [HF.out, if_neg HG1.out, if_pos gM])
      clear gM
      go_wp2_with (go_at_call 51; refine (refuse_tI 25 (H + 32) _ (by first | omega | (rw [IntKind.wrap_i64]; omega) | (rw [IntKind.wrap_u64]; omega)) _).mono ?_; rintro e w9 ⟨g, rfl, p2, p3, p4⟩)
      exact ⟨rfl, .inr ⟨_, HE.out, Pan.later (HBL.out.trans (Hw3.out.mono HBL.out.size)) ⟨g, rfl, p2, p3, p4⟩⟩⟩
    · have xMb : (((M % 24 : Nat) : Int) != 0) = false := by rw [bne_eq_false_iff_eq]; omega
      have yMb : ((M : Int) % 24 != 0) = false := by rw [bne_eq_false_iff_eq]; omega
      have gMb : ((M : Int).tmod 24 != 0) = false := by rw [HREM.out]; exact xMb
      have HG2 : Hid (¬ M % 24 ≠ 0) := gM
      clear gM
      go_upto_region 4 with (go_at_call 51; refine (refuse_f _ _ _).mono ?_; rintro e w9 ⟨rfl, hw9⟩; subst hw9)
      --@M3
      clear gMb gEb xMb yMb
      have k3 := HC0.out w3 Hw3.out
      by_cases hrm : room b A M
      · have HRM : Hid (room b A M) := hrm
        have c8t : Hid (∀ wx, Below W1.heap.size W1 wx → ∀ pI : Int, pI = ((H + 24 : Nat) : Int) → Calls Tryz.prog 83 #[.agg #[.slice a b.length cap], .int .i64 pI, .int .u64 (M : Int)] wx fun e w' => e = .returned (.int .i64 (A : Int)) ∧ Below wx.heap.size wx w') := fun wx hx pI hpI => (c8.out wx hx pI hpI).mono fun e w' hq => hq.elim (fun h1 => h1.2) (fun h1 => absurd hrm h1.1)
        clear c8 hrm
        go_upto_region 5 with (go_at_call 83; refine (c8t.out _ Hw3.out _ (by first | omega | (rw [IntKind.wrap_i64]; omega) | (rw [IntKind.wrap_u64]; omega))).mono ?_; rintro e w4 ⟨rfl, hb⟩; have Hw4 : Hid (Below W1.heap.size W1 w4) := Hw3.out.trans (hb.mono (Hw3.out).size); clear hb)
        --@M4
        clear k3
        have k4 := HC0.out w4 Hw4.out
        obtain ⟨m0, m1⟩ := HC1.out w4 Hw4.out
        cases hXF : XF with
        | some F =>
          have HE : Hid (RR.2 = some F) := HBD.out _ (by rw [HF.out, if_neg HG1.out, if_neg HG2.out, if_neg (fun q => q HRM.out), hXF])
          have cTf : Hid (∀ wx, Below W1.heap.size W1 wx → Calls Tryz.prog 102 #[.agg #[.slice a b.length cap], .agg #[.int .i64 (P : Int), .int .u64 (K : Int)], .int .i64 (H : Int)] wx fun e w' => Pan wx F e w') := fun wx hx => (cT.out wx hx).mono fun e w' hq => by
            rcases hq with ⟨q, _⟩ | ⟨F', q, r⟩
            · rw [hXF] at q; cases q
            · rw [hXF] at q; cases q; exact r
          clear hXF cT
          go_wp2_with (go_at_call 102; refine (cTf.out _ Hw4.out).mono ?_; rintro e w9 ⟨g, rfl, p2, p3, p4⟩)
          exact ⟨rfl, .inr ⟨_, HE.out, Pan.later (HBL.out.trans (Hw4.out.mono HBL.out.size)) ⟨g, rfl, p2, p3, p4⟩⟩⟩
        | none =>
          have HR : Hid (RR = nmL b T A (M / 24 - 1)) := HGO.out (by rw [HF.out, if_neg HG1.out, if_neg HG2.out, if_neg (fun q => q HRM.out), hXF])
          have hTl : Hid (T.length ≤ 200000) := hTL.out hXF
          have cTt : Hid (∀ wx, Below W1.heap.size W1 wx → Calls Tryz.prog 102 #[.agg #[.slice a b.length cap], .agg #[.int .i64 (P : Int), .int .u64 (K : Int)], .int .i64 (H : Int)] wx fun e w' => ∃ um uk uc, e = .returned (.slice um uk uc) ∧ Byt w' (.slice um uk uc) T ∧ Below wx.heap.size wx w') := fun wx hx => (cT.out wx hx).mono fun e w' hq => by
            rcases hq with ⟨_, u, rfl, q1, q2⟩ | ⟨F', q, r⟩
            · obtain ⟨um, uc, rfl, r1⟩ := q1
              exact ⟨um, _, uc, rfl, ⟨um, uc, rfl, r1⟩, q2⟩
            · rw [hXF] at q; cases q
          clear hXF cT HF HBD HGO hTL
          go_upto_region 6 with (go_at_call 102; refine (cTt.out _ Hw4.out).mono ?_; rintro e w5 ⟨um, uk, uc, rfl, hq, hb⟩; have Hw5 : Hid (Below W1.heap.size W1 w5) := Hw4.out.trans (hb.mono (Hw4.out).size); have HT5 : Hid (Byt w5 (.slice um uk uc) T) := hq; clear hb hq)
          clear k4 m0 m1 cTt
          --@M5
          have hAM : (A : Int) + M ≤ b.length := by have := HRM.out; unfold room at this; omega
          have hMI : (M : Int) ≤ 200000 := by omega
          have hAI : (A : Int) ≤ 200000 := by omega
          go_wp2
          go_loopw [11, 10] (fun x y wr => ∃ (i Y : Nat) (l : List Sy) (ym : Option Addr) (yn yc : Nat), Hid (i ≤ M / 24 - 1) ∧ x = .int .i64 (Y : Int) ∧ Hid (Y = A + 24 * (i + 1)) ∧ y = .slice ym yn yc ∧ Hid (wr.ownsRow w5.heap.size 87 2 (.slice ym yn yc) l.length (syl l)) ∧ Hid (Below w5.heap.size w5 wr) ∧ Hid (nmL b T A i = (l, none))) (fun x _ _ => A + M + 24 - (intOf x).toNat)
          case atStart => exact ⟨0, A + 24, [], none, 0, 0, Nat.zero_le _, by go_num, rfl, rfl, own_nilN _ _, Below.refl _ _, rfl⟩
          case round =>
            obtain ⟨i, Y, l, ym, yn, yc, hi, rfl, HY, rfl, HO, HW5, HL⟩ := hrel
            have HW : Hid (Below W1.heap.size W1 wr) := Hw5.out.trans (HW5.out.mono Hw5.out.size)
            have HT : Hid (Byt wr (.slice um uk uc) T) := HT5.out.later HW5.out rfl
            have kr := HC0.out wr HW.out
            have hL4 : Hid (l.length ≤ 400) := by unfold Hid; have q := nmL_len b T A i; rw [HL.out] at q; exact q
            have hYl : (Y : Int) ≤ 200000 + 24 := by have := HY.out; have := hi.out; have := HG2.out; omega
            by_cases hlt : i < M / 24 - 1
            · have hlt2 : (Y : Int) < (A : Int) + M := by have := HY.out; omega
              have hY24 : Hid (Y + 24 ≤ b.length) := by unfold Hid; have := HY.out; have := HG2.out; omega
              have HLT : Hid (i + 1 ≤ M / 24 - 1) := hlt
              have cN := name_c HB.out hl hTl.out _ _ Y hY24.out wr (HV.out _ (HBL.out.trans (HW.out.mono HBL.out.size))) HT.out (HTB.out _ (HBL.out.trans (HW.out.mono HBL.out.size)))
              have HCN := Hid.mkI cN
              clear cN hlt
              go_upto_region 10 with fail
              --@M6
              cases hE : enE b T Y with
              | none =>
                have HE : Hid (RR.2 = some (Y, 25)) := by unfold Hid; rw [HR.out, nmL_stop (nmL_bad HL.out (by rw [← HY.out]; exact hE)) _ HLT.out, HY.out]
                have HCF : Hid (Calls Tryz.prog 103 #[.agg #[.slice a b.length cap], .int .i64 (Y : Int), .slice um uk uc] wr fun e w' => Pan wr (Y, 25) e w') := HCN.out.mono fun e w' hq => by
                  rcases hq with ⟨_, q⟩ | ⟨q, _⟩ | ⟨x, q, _⟩
                  · exact q
                  · rw [hE] at q; cases q
                  · rw [hE] at q; cases q
                clear hE HCN
                go_wp2_with (go_at_call 103; refine HCF.out.mono ?_; rintro e w9 ⟨g, rfl, p2, p3, p4⟩)
                exact ⟨rfl, .inr ⟨_, HE.out, Pan.later (HBL.out.trans (HW.out.mono HBL.out.size)) ⟨g, rfl, p2, p3, p4⟩⟩⟩
              | some o =>
                cases o with
                | none =>
                  have HL2 : Hid (nmL b T A (i + 1) = (l, none)) := nmL_pass HL.out (by rw [← HY.out]; exact hE)
                  have HCF : Hid (Calls Tryz.prog 103 #[.agg #[.slice a b.length cap], .int .i64 (Y : Int), .slice um uk uc] wr fun e w' => (∃ s v, e = .returned (.tuple #[.agg #[.string s, .int .u64 v], .bool false])) ∧ Below wr.heap.size wr w') := HCN.out.mono fun e w' hq => by
                    rcases hq with ⟨q, _⟩ | ⟨_, q⟩ | ⟨x, q, _⟩
                    · rw [hE] at q; cases q
                    · exact q
                    · rw [hE] at q; cases q
                  clear hE HCN
                  go_upto_region 11 with (go_at_call 103; refine HCF.out.mono ?_; rintro e w6 ⟨⟨s6, v6, rfl⟩, hb⟩; have B6 : Hid (Below wr.heap.size wr w6) := hb; clear hb)
                  clear kr
                  refine on_w (motive := fun W => Code.wp _ _ _ _ W) (Q := fun W => W.heap[w6.heap.size]? = some (.cells #[.string s6, .int .u64 v6] 87 (0, 0)) ∧ Below wr.heap.size wr W) ⟨heap_alloc_new w6 _, B6.out.alloc B6.out.size _⟩ ?_
                  generalize w6.heap.size = g7
                  rintro W7 ⟨s1, s2⟩
                  have HG7 : Hid (W7.heap[g7]? = some (.cells #[.string s6, .int .u64 v6] 87 (0, 0))) := s1
                  have B7 : Hid (Below wr.heap.size wr W7) := s2
                  have H7 : Hid (Below W1.heap.size W1 W7) := HW.out.trans (s2.mono HW.out.size)
                  have HO7 : Hid (W7.ownsRow w5.heap.size 87 2 (.slice ym yn yc) l.length (syl l)) := own_below HO.out s2
                  have H75 : Hid (Below w5.heap.size w5 W7) := HW5.out.trans (s2.mono HW5.out.size)
                  clear s1 s2
                  --@M7
                  go_wp2
                  go_roundw
                  case rel => exact ⟨i + 1, Y + 24, l, ym, yn, yc, HLT, by go_num, by unfold Hid; rw [HY.out]; omega, rfl, HO7, H75, HL2⟩
                  case measure => simp [intOf]; omega
                | some x =>
                  have HCF : Hid (Calls Tryz.prog 103 #[.agg #[.slice a b.length cap], .int .i64 (Y : Int), .slice um uk uc] wr fun e w' => e = .returned (.tuple #[.agg #[.string x.s, .int .u64 (n64 x.v)], .bool true]) ∧ Below wr.heap.size wr w') := HCN.out.mono fun e w' hq => by
                    rcases hq with ⟨q, _⟩ | ⟨q, _⟩ | ⟨x', q, r⟩
                    · rw [hE] at q; cases q
                    · rw [hE] at q; cases q
                    · rw [hE] at q; cases q; exact r
                  have HEX : Hid (enE b T (A + 24 * (i + 1)) = some (some x)) := by unfold Hid; rw [← HY.out]; exact hE
                  clear hE HCN
                  obtain ⟨sx, hsx⟩ : ∃ sx, sx = x.s := ⟨_, rfl⟩
                  obtain ⟨vx, hvx⟩ : ∃ vx, vx = n64 x.v := ⟨_, rfl⟩
                  rw [← hsx, ← hvx] at HCF
                  have HSX := Hid.mkI hsx
                  have HVX := Hid.mkI hvx
                  clear hsx hvx
                  go_upto_region 11 with (go_at_call 103; refine HCF.out.mono ?_; rintro e w6 ⟨rfl, hb⟩; have B6 : Hid (Below wr.heap.size wr w6) := hb; clear hb)
                  clear kr
                  refine on_w (motive := fun W => Code.wp _ _ _ _ W) (Q := fun W => W.heap[w6.heap.size]? = some (.cells #[.string sx, .int .u64 vx] 87 (0, 0)) ∧ Below wr.heap.size wr W) ⟨heap_alloc_new w6 _, B6.out.alloc B6.out.size _⟩ ?_
                  generalize w6.heap.size = g7
                  rintro W7 ⟨s1, s2⟩
                  have HG7 : Hid (W7.heap[g7]? = some (.cells #[.string sx, .int .u64 vx] 87 (0, 0))) := s1
                  have B7 : Hid (Below wr.heap.size wr W7) := s2
                  have H7 : Hid (Below W1.heap.size W1 W7) := HW.out.trans (s2.mono HW.out.size)
                  have HO7 : Hid (W7.ownsRow w5.heap.size 87 2 (.slice ym yn yc) l.length (syl l)) := own_below HO.out s2
                  have H75 : Hid (Below w5.heap.size w5 W7) := HW5.out.trans (s2.mono HW5.out.size)
                  clear s1 s2
                  --@M8
                  have cHas := hasN_c (.slice ym yn yc) l x W7 (Sys.of_own HO7.out) hL4.out
                  rw [← HSX.out, ← HVX.out] at cHas
                  have HCH := Hid.mkI cHas
                  clear cHas
                  have x0 := cell_of_row W7 g7 0 _ _ _ HG7.out
                  have x1 := cell_of_row W7 g7 1 _ _ _ HG7.out
                  cases hA : l.any (eqS x) with
                  | true =>
                    have HL2 : Hid (nmL b T A (i + 1) = (l, none)) := nmL_had HL.out HEX.out hA
                    rw [hA] at HCH
                    clear hA
                    go_upto_region 9 with (go_at_call 104; refine HCH.out.mono ?_; rintro e w8 ⟨rfl, hb⟩; have B8 : Hid (Below W7.heap.size W7 w8) := hb; have H8 : Hid (Below W1.heap.size W1 w8) := H7.out.trans (hb.mono H7.out.size); have H85 : Hid (Below w5.heap.size w5 w8) := H75.out.trans (hb.mono H75.out.size); clear hb)
                    clear x0 x1
                    go_wp2
                    go_roundw
                    case rel => exact ⟨i + 1, Y + 24, l, ym, yn, yc, HLT, by go_num, by unfold Hid; rw [HY.out]; omega, rfl, own_below HO7.out B8.out, H85, HL2⟩
                    case measure => simp [intOf]; omega
                  | false =>
                    rw [hA] at HCH
                    have HA := Hid.mkI hA
                    clear hA
                    go_upto_region 12 with (go_at_call 104; refine HCH.out.mono ?_; rintro e w8 ⟨rfl, hb⟩; have B8 : Hid (Below W7.heap.size W7 w8) := hb; have H8 : Hid (Below W1.heap.size W1 w8) := H7.out.trans (hb.mono H7.out.size); have H85 : Hid (Below w5.heap.size w5 w8) := H75.out.trans (hb.mono H75.out.size); clear hb)
                    clear x0 x1
                    have HO8 : Hid (w8.ownsRow w5.heap.size 87 2 (.slice ym yn yc) l.length (syl l)) := own_below HO7.out B8.out
                    have hyn : Hid (yn = l.length) := by
                      unfold Hid
                      obtain ⟨ad, cp, e, _⟩ := Sys.of_own HO8.out
                      cases e; rfl
                    have hynI : (yn : Int) ≤ 400 := by have := hyn.out; have := hL4.out; omega
                    by_cases h4 : l.length = 400
                    · have h4b : ((yn : Int) == 400) = true := by rw [beq_iff_eq]; have := hyn.out; omega
                      have HE : Hid (RR.2 = some (Y, 2)) := by unfold Hid; rw [HR.out, nmL_stop (nmL_many HL.out HEX.out HA.out h4) _ HLT.out, HY.out]
                      clear h4
                      go_wp2_with (go_at_call 51; refine (refuse_tI 2 (Y) _ (by first | omega | (rw [IntKind.wrap_i64]; omega) | (rw [IntKind.wrap_u64]; omega)) _).mono ?_; rintro e w9 ⟨g, rfl, p2, p3, p4⟩)
                      exact ⟨rfl, .inr ⟨_, HE.out, Pan.later (HBL.out.trans (H8.out.mono HBL.out.size)) ⟨g, rfl, p2, p3, p4⟩⟩⟩
                    · have h4b : ((yn : Int) == 400) = false := by rw [beq_eq_false_iff_ne]; have := hyn.out; omega
                      have HL2 : Hid (nmL b T A (i + 1) = (l ++ [x], none)) := nmL_add HL.out HEX.out HA.out h4
                      clear h4
                      go_upto_region 13 with (go_at_call 51; refine (refuse_f _ _ _).mono ?_; rintro e w9 ⟨rfl, hw9⟩; subst hw9)
                      clear h4b
                      have G8 : Hid (w8.heap[g7]? = some (.cells #[.string sx, .int .u64 vx] 87 (0, 0))) := (B8.out.block g7 (heap_lt HG7.out)).trans HG7.out
                      have x0 := cell_of_row w8 g7 0 _ _ _ G8.out
                      have x1 := cell_of_row w8 g7 1 _ _ _ G8.out
                      go_upto_region 9 with (at_builtin; have A1 : (w8.alloc (.cells #[.string sx, .int .u64 vx] 87)).ownsRow w5.heap.size 87 2 (.slice ym yn yc) l.length (syl l) := own_below HO8.out ((Below.refl _ w8).alloc (Nat.le_refl _) _); have A2 : (w8.alloc (.cells #[.string sx, .int .u64 vx] 87)).heap[w8.heap.size]? = some (.cells #[.string x.s, .int .u64 (n64 x.v)] 87 (0, 0)) := (by rw [← HSX.out, ← HVX.out]; exact heap_alloc_new w8 _); have A3 : w5.heap.size ≤ (w8.alloc (.cells #[.string sx, .int .u64 vx] 87)).heap.size := (by have := H85.out.size; simp; omega); refine appS (by rfl) _ _ (by rfl) w5.heap.size (.slice ym yn yc) l x (by rfl) A1 w8.heap.size (by rfl) A2 (by have := hL4.out; omega) A3 ?_; clear A1 A2 A3; intro v9 w9 ho9 hb9; have HO9 : Hid (w9.ownsRow w5.heap.size 87 2 v9 (l ++ [x]).length (syl (l ++ [x]))) := ho9; have H95 : Hid (Below w5.heap.size w5 w9) := (H85.out.alloc (H85.out.size) _).trans hb9; clear ho9 hb9; obtain ⟨zm, zn, zc, rfl⟩ := own_sliceN HO9.out)
                      clear x0 x1
                      go_wp2
                      go_roundw
                      case rel => exact ⟨i + 1, Y + 24, l ++ [x], zm, zn, zc, HLT, by go_num, by unfold Hid; rw [HY.out]; omega, rfl, HO9, H95, HL2⟩
                      case measure => simp [intOf]; omega
            · have hlt2 : ¬ (Y : Int) < (A : Int) + M := by have := HY.out; have := hi.out; have := HG2.out; omega
              have HIE : Hid (i = M / 24 - 1) := by have := hi.out; unfold Hid; omega
              clear hlt
              have cS := sortN_c wr w5.heap.size (.slice ym yn yc) l HO.out HW5.out.size hL4.out
              have HCS := Hid.mkI cS
              clear cS
              go_wp2_with (go_at_call 105; refine (HCS.out).mono ?_; rintro e w8 ⟨rfl, l', hp, hs, ho, hb⟩; have HP8 := Hid.mkI hp; have HS8 := Hid.mkI hs; have HO8 := Hid.mkI ho; have HB8 := Hid.mkI hb; clear hp hs ho hb)
              go_ret
              have hsl : l' = nSrt l := nSrt_unique HP8.out HS8.out
              have hRl : RR = (l, none) := by rw [HR.out, ← HIE.out]; exact HL.out
              refine .inl ⟨by rw [hRl], .slice ym yn yc, by rfl, ?_, HBL.out.trans ((HW.out.trans (HB8.out.mono Hw5.out.size)).mono HBL.out.size)⟩
              rw [hRl]
              show w8.ownsRow w.heap.size 87 2 (.slice ym yn yc) (nSrt l).length (syl (nSrt l))
              rw [← hsl]
              exact own_ge HO8.out (Nat.le_trans HBL.out.size Hw5.out.size) (fun _ _ => rfl)
      · have HE : Hid (RR.2 = some (H + 24, 20)) := HBD.out _ (by rw [HF.out, if_neg HG1.out, if_neg HG2.out, if_pos hrm])
        have c8f : Hid (∀ wx, Below W1.heap.size W1 wx → ∀ pI : Int, pI = ((H + 24 : Nat) : Int) → Calls Tryz.prog 83 #[.agg #[.slice a b.length cap], .int .i64 pI, .int .u64 (M : Int)] wx fun e w' => Pan wx (H + 24, 20) e w') := fun wx hx pI hpI => (c8.out wx hx pI hpI).mono fun e w' hq => hq.elim (fun h1 => absurd h1.1 hrm) (fun h1 => h1.2)
        clear c8 hrm
        go_wp2_with (go_at_call 83; refine (c8f.out _ Hw3.out _ (by first | omega | (rw [IntKind.wrap_i64]; omega) | (rw [IntKind.wrap_u64]; omega))).mono ?_; rintro e w9 ⟨g, rfl, p2, p3, p4⟩)
        exact ⟨rfl, .inr ⟨_, HE.out, Pan.later (HBL.out.trans (Hw3.out.mono HBL.out.size)) ⟨g, rfl, p2, p3, p4⟩⟩⟩
end Go.Proofs.YtheeogbmljjbdaaGreatDoor
namespace Go.Proofs.YtheeogbmljjbdaaGreatDoor
set_option linter.unusedVariables false
set_option maxRecDepth 100000
open Go.ChangeShapes Go.WideShapes Go.ChangeAt Go.RowKit Go.Deep
theorem nSrt_nil : nSrt [] = [] := by unfold nSrt; simp
theorem frT_hit {b : List Int} {P K i : Nat} (hi : i < K) (h : vl b (P + 64 * i + 4) 4 = 2) : frT b P (K - i) i = some i := by
  obtain ⟨r, hr⟩ : ∃ r, K - i = r + 1 := ⟨K - i - 1, by omega⟩
  rw [hr, frT, if_pos h]
theorem frT_go {b : List Int} {P K i : Nat} (hi : i < K) (h : ¬ vl b (P + 64 * i + 4) 4 = 2) : frT b P (K - i) i = frT b P (K - (i + 1)) (i + 1) := by
  obtain ⟨r, hr⟩ : ∃ r, K - i = r + 1 := ⟨K - i - 1, by omega⟩
  rw [hr, frT, if_neg h, show K - (i + 1) = r by omega]
theorem frT_end (b : List Int) (P i r : Nat) (h : r = 0) : frT b P r i = none := by subst h; rfl
theorem nsQ_none {b : List Int} {K P Z : Nat} (h1 : ¬ (K = 0 ∨ P = 0)) (h2 : ¬ Z ≠ 64) (h3 : ¬ ¬ room b P (64 * K)) (h : frT b P K 0 = none) : nsQ b K P Z = ([], none) := by
  unfold nsQ; rw [if_neg h1, if_neg h2, if_neg h3, h, Option.elim_none]
theorem nsQ_some {b : List Int} {K P Z i : Nat} (h1 : ¬ (K = 0 ∨ P = 0)) (h2 : ¬ Z ≠ 64) (h3 : ¬ ¬ room b P (64 * K)) (h : frT b P K 0 = some i) : nsQ b K P Z = tnR b P K (P + 64 * i) := by
  unfold nsQ; rw [if_neg h1, if_neg h2, if_neg h3, h, Option.elim_some]
theorem nsQ_no {b : List Int} {K P Z : Nat} (h1 : K = 0 ∨ P = 0) : nsQ b K P Z = ([], none) := by unfold nsQ; rw [if_pos h1]
theorem nsQ_head {b : List Int} {K P Z : Nat} (h1 : ¬ (K = 0 ∨ P = 0)) (h2 : Z ≠ 64) : nsQ b K P Z = ([], some (58, 22)) := by unfold nsQ; rw [if_neg h1, if_pos h2]
theorem nsQ_room {b : List Int} {K P Z : Nat} (h1 : ¬ (K = 0 ∨ P = 0)) (h2 : ¬ Z ≠ 64) (h3 : ¬ room b P (64 * K)) : nsQ b K P Z = ([], some (40, 20)) := by unfold nsQ; rw [if_neg h1, if_neg h2, if_pos h3]
theorem tnp_nil {RR : List Sy × Flt} {w w' : World} (hR : RR = ([], none)) (hb : Below w.heap.size w w') : TnP RR w (.returned (.slice none 0 0)) w' := by
  subst hR
  refine .inl ⟨rfl, _, rfl, ?_, hb⟩
  show w'.ownsRow w.heap.size 87 2 (.slice none 0 0) (nSrt []).length (syl (nSrt []))
  rw [nSrt_nil]
  exact own_nilN _ _
set_option maxHeartbeats 8000000 in
theorem names_c {b : List Int} (hB : AllB b) (hl : b.length ≤ 200000) (h64 : 64 ≤ b.length) (vb : Value) (w : World) (hv : Byt w vb b) (hTb : Hid (Tabs w)) :
    Calls Tryz.prog 55 #[.agg #[vb]] w fun e w' => TnP (nsR b) w e w' := by
  have HV : Hid (∀ w', Below w.heap.size w w' → Byt w' vb b) := fun w' hb => hv.later hb rfl
  have HTB : Hid (∀ w', Below w.heap.size w w' → Tabs w') := fun w' hb => hTb.out.below hb rfl
  have HB : Hid (AllB b) := hB
  obtain ⟨a, cap, rfl, hc, _, _⟩ := hv
  obtain ⟨W1, hW1⟩ : ∃ W1, w.alloc (.cells #[.slice a b.length cap] 65) = W1 := ⟨_, rfl⟩
  have HBL : Hid (Below w.heap.size w W1) := by rw [← hW1]; exact (Below.refl _ _).alloc (Nat.le_refl _) _
  have hsz : Hid (W1.heap.size = w.heap.size + 1) := by unfold Hid; rw [← hW1]; simp
  have R3 : Hid (W1.heap[w.heap.size]? = some (.cells #[.slice a b.length cap] 65 (0, 0))) := by unfold Hid; rw [← hW1]; exact heap_alloc_new w _
  have HC0 : Hid (∀ w', Below W1.heap.size W1 w' → w'.cell? ⟨w.heap.size, 0, none⟩ = some (.slice a b.length cap)) := fun w' hb => (hb.cell (by show w.heap.size < _; rw [hsz.out]; omega)).trans (cell_of_row W1 _ 0 _ _ _ R3.out)
  have c60 : Hid (∀ wx, Below W1.heap.size W1 wx → Calls Tryz.prog 81 #[.agg #[.slice a b.length cap], .int .i64 60] wx fun e w' => e = .returned (.int .u64 ((vl b 60 2 : Nat) : Int)) ∧ Below wx.heap.size wx w') := fun wx hx => half_c HB.out hl _ 60 60 rfl (by omega) wx (HV.out _ (HBL.out.trans (hx.mono HBL.out.size)))
  have c40 : Hid (∀ wx, Below W1.heap.size W1 wx → Calls Tryz.prog 56 #[.agg #[.slice a b.length cap], .int .i64 40] wx fun e w' => e = .returned (.int .u64 ((vl b 40 8 : Nat) : Int)) ∧ Below wx.heap.size wx w') := fun wx hx => double_c HB.out hl _ 40 40 rfl (by omega) wx (HV.out _ (HBL.out.trans (hx.mono HBL.out.size)))
  have c58 : Hid (∀ wx, Below W1.heap.size W1 wx → Calls Tryz.prog 81 #[.agg #[.slice a b.length cap], .int .i64 58] wx fun e w' => e = .returned (.int .u64 ((vl b 58 2 : Nat) : Int)) ∧ Below wx.heap.size wx w') := fun wx hx => half_c HB.out hl _ 58 58 rfl (by omega) wx (HV.out _ (HBL.out.trans (hx.mono HBL.out.size)))
  have lK : vl b 60 2 < 65536 := vl_lt hB 60 2
  have lP := vl_lt8 hB 40 8 (by omega)
  have lZ : vl b 58 2 < 65536 := vl_lt hB 58 2
  have c8 : Hid (∀ wx, Below W1.heap.size W1 wx → ∀ nI : Int, nI = ((64 * vl b 60 2 : Nat) : Int) → Calls Tryz.prog 83 #[.agg #[.slice a b.length cap], .int .i64 40, .int .u64 nI] wx fun e w' => (room b (vl b 40 8) (64 * vl b 60 2) ∧ e = .returned (.int .i64 ((vl b 40 8 : Nat) : Int)) ∧ Below wx.heap.size wx w') ∨ (¬ room b (vl b 40 8) (64 * vl b 60 2) ∧ Pan wx (40, 20) e w')) := fun wx hx nI hn => by
    subst hn
    exact placeAt_c HB.out hl _ 40 (64 * vl b 60 2) 40 rfl (by omega) (by omega) wx (HV.out _ (HBL.out.trans (hx.mono HBL.out.size)))
  have HF : Hid (nsR b = nsQ b (vl b 60 2) (vl b 40 8) (vl b 58 2)) := by unfold Hid nsR; rfl
  generalize nsR b = RR at HF ⊢
  generalize vl b 60 2 = K at c60 c8 HF lK
  generalize vl b 40 8 = P at c40 c8 HF lP
  generalize vl b 58 2 = Z at c58 HF lZ
  have hlI : (b.length : Int) ≤ 200000 := by omega
  have iK : (K : Int) < 65536 := by omega
  have iP : (P : Int) < 18446744073709551616 := by omega
  have HW1 : Hid (Below W1.heap.size W1 W1) := Below.refl _ _
  go_enter Tryz.func55, Tryz.ntmps55
  go_upto_region 1 with fail
  have k1 := HC0.out W1 HW1.out
  clear hW1
  go_upto_region 2 with (go_at_call 81; refine (c60.out _ HW1.out).mono ?_; rintro e w2 ⟨rfl, hb⟩; have Hw2 : Hid (Below W1.heap.size W1 w2) := HW1.out.trans (hb.mono (HW1.out).size); clear hb)
  clear k1
  by_cases gK : K = 0
  · have gKb : ((K : Int) == 0) = true := by rw [beq_iff_eq]; omega
    have HE : Hid (RR = ([], none)) := by unfold Hid; rw [HF.out]; exact nsQ_no (.inl gK)
    clear gK
    go_wp2
    go_ret
    exact tnp_nil HE.out (HBL.out.trans (Hw2.out.mono HBL.out.size))
  · have gKb : ((K : Int) == 0) = false := by rw [beq_eq_false_iff_ne]; omega
    have k2 := HC0.out w2 Hw2.out
    by_cases gP : P = 0
    · have gPb : ((P : Int) == 0) = true := by rw [beq_iff_eq]; omega
      have HE : Hid (RR = ([], none)) := by unfold Hid; rw [HF.out]; exact nsQ_no (.inr gP)
      clear gK gP
      go_wp2_with (go_at_call 56; refine (c40.out _ Hw2.out).mono ?_; rintro e w3 ⟨rfl, hb⟩; have Hw3 : Hid (Below W1.heap.size W1 w3) := Hw2.out.trans (hb.mono (Hw2.out).size); clear hb)
      go_ret
      exact tnp_nil HE.out (HBL.out.trans (Hw3.out.mono HBL.out.size))
    · have gPb : ((P : Int) == 0) = false := by rw [beq_eq_false_iff_ne]; omega
      have HG1 : Hid (¬ (K = 0 ∨ P = 0)) := fun h => h.elim gK gP
      clear gK gP
      go_upto_region 4 with (go_at_call 56; refine (c40.out _ Hw2.out).mono ?_; rintro e w3 ⟨rfl, hb⟩; have Hw3 : Hid (Below W1.heap.size W1 w3) := Hw2.out.trans (hb.mono (Hw2.out).size); clear hb)
      clear k2 gKb gPb
      have k3 := HC0.out w3 Hw3.out
      by_cases gZ : Z ≠ 64
      · have gZb : ((Z : Int) != 64) = true := by rw [bne_iff_ne]; omega
        have HE : Hid (RR.2 = some (58, 22)) := by unfold Hid; rw [HF.out, nsQ_head HG1.out gZ]
        clear gZ
        go_wp2_with (first | (go_at_call 81; refine (c58.out _ Hw3.out).mono ?_; rintro e w4 ⟨rfl, hb⟩; have Hw4 : Hid (Below W1.heap.size W1 w4) := Hw3.out.trans (hb.mono (Hw3.out).size); clear hb) | (go_at_call 51; refine (refuse_tI 22 (58) _ (by rfl) _).mono ?_; rintro e w9 ⟨g, rfl, p2, p3, p4⟩))
        exact ⟨rfl, .inr ⟨_, HE.out, Pan.later (HBL.out.trans (Hw4.out.mono HBL.out.size)) ⟨g, rfl, p2, p3, p4⟩⟩⟩
      · have gZb : ((Z : Int) != 64) = false := by rw [bne_eq_false_iff_eq]; omega
        have HG2 : Hid (¬ Z ≠ 64) := gZ
        clear gZ
        go_upto_region 5 with (first | (go_at_call 81; refine (c58.out _ Hw3.out).mono ?_; rintro e w4 ⟨rfl, hb⟩; have Hw4 : Hid (Below W1.heap.size W1 w4) := Hw3.out.trans (hb.mono (Hw3.out).size); clear hb) | (go_at_call 51; refine (refuse_f _ _ _).mono ?_; rintro e w9 ⟨rfl, hw9⟩; subst hw9))
        clear k3 gZb
        have k4 := HC0.out w4 Hw4.out
        by_cases hrm : room b P (64 * K)
        · have HRM : Hid (room b P (64 * K)) := hrm
          have HG3 : Hid (¬ ¬ room b P (64 * K)) := fun h => h hrm
          have c8t : Hid (∀ wx, Below W1.heap.size W1 wx → ∀ nI : Int, nI = ((64 * K : Nat) : Int) → Calls Tryz.prog 83 #[.agg #[.slice a b.length cap], .int .i64 40, .int .u64 nI] wx fun e w' => e = .returned (.int .i64 (P : Int)) ∧ Below wx.heap.size wx w') := fun wx hx nI hn => (c8.out wx hx nI hn).mono fun e w' hq => hq.elim (fun h1 => h1.2) (fun h1 => absurd hrm h1.1)
          clear c8 hrm
          have hPK : (P : Int) + 64 * K ≤ b.length := by have := HRM.out; unfold room at this; omega
          go_upto_region 6 with (go_at_call 83; refine (c8t.out _ Hw4.out _ (by first | omega | (rw [IntKind.wrap_i64]; omega) | (rw [IntKind.wrap_u64]; omega))).mono ?_; rintro e w5 ⟨rfl, hb⟩; have Hw5 : Hid (Below W1.heap.size W1 w5) := Hw4.out.trans (hb.mono (Hw4.out).size); clear hb)
          clear k4
          refine on_w (motive := fun W => Code.wp _ _ _ _ W) (Q := fun W => W.heap[w5.heap.size]? = some (.cells #[.int .i64 (P : Int), .int .u64 (K : Int)] 150 (0, 0)) ∧ Below W1.heap.size W1 W) ⟨heap_alloc_new w5 _, Hw5.out.alloc Hw5.out.size _⟩ ?_
          generalize w5.heap.size = g4
          rintro W6 ⟨s1, s2⟩
          have HG4 := Hid.mkI s1
          have H6 := Hid.mkI s2
          clear s1 s2
          have HC4 : Hid (∀ w', Below W6.heap.size W6 w' → w'.cell? ⟨g4, 0, none⟩ = some (.int .i64 (P : Int)) ∧ w'.cell? ⟨g4, 1, none⟩ = some (.int .u64 (K : Int))) := fun w' hb => ⟨(hb.cell (heap_lt HG4.out)).trans (cell_of_row W6 _ 0 _ _ _ HG4.out), (hb.cell (heap_lt HG4.out)).trans (cell_of_row W6 _ 1 _ _ _ HG4.out)⟩
          go_wp2
          go_loopw [28] (fun x wr => ∃ (i : Nat), i ≤ K ∧ x = .int .i64 (i : Int) ∧ Hid (Below W6.heap.size W6 wr) ∧ Hid (frT b P (K - i) i = frT b P K 0)) (fun x _ => K - (intOf x).toNat)
          case atStart => exact ⟨0, Nat.zero_le _, rfl, Below.refl _ _, rfl⟩
          case round =>
            obtain ⟨i, hi, rfl, HW6, HFT⟩ := hrel
            have HW : Hid (Below W1.heap.size W1 wr) := H6.out.trans (HW6.out.mono H6.out.size)
            by_cases hlt : i < K
            · have hltI : (i : Int) < K := by omega
              have HLT : Hid (i < K) := hlt
              obtain ⟨O, hO⟩ : ∃ O, O = P + 64 * i := ⟨_, rfl⟩
              have hO64 : Hid (O + 64 ≤ b.length) := by unfold Hid; omega
              have hOI : (O : Int) + 64 ≤ b.length := by omega
              have cH : Hid (∀ wx, Calls Tryz.prog 88 #[.agg #[.int .i64 (P : Int), .int .u64 (K : Int)], .int .i64 (i : Int)] wx fun e w' => e = .returned (.int .i64 (O : Int)) ∧ Below wx.heap.size wx w') := fun wx => by rw [hO]; exact header_c P K i _ rfl (by omega) wx
              have HO := Hid.mkI hO
              have cK : Hid (∀ wx, Below W1.heap.size W1 wx → ∀ pI : Int, pI = ((O + 4 : Nat) : Int) → Calls Tryz.prog 82 #[.agg #[.slice a b.length cap], .int .i64 pI] wx fun e w' => e = .returned (.int .u64 ((vl b (O + 4) 4 : Nat) : Int)) ∧ Below wx.heap.size wx w') := fun wx hx pI hpI => word_c HB.out hl _ (O + 4) pI hpI (by have := hO64.out; omega) wx (HV.out _ (HBL.out.trans (hx.mono HBL.out.size)))
              have lk := vl_lt8 HB.out (O + 4) 4 (by omega)
              have HHIT : Hid (vl b (O + 4) 4 = 2 → frT b P K 0 = some i) := fun h => by rw [← HFT.out]; exact frT_hit HLT.out (by rw [← HO.out]; exact h)
              have HGO : Hid (¬ vl b (O + 4) 4 = 2 → frT b P (K - (i + 1)) (i + 1) = frT b P K 0) := fun h => by rw [← HFT.out]; exact (frT_go HLT.out (by rw [← HO.out]; exact h)).symm
              generalize vl b (O + 4) 4 = NK at cK lk HHIT HGO
              clear hO hlt
              obtain ⟨m0, m1⟩ := HC4.out wr HW6.out
              have kr := HC0.out wr HW.out
              go_upto_region 10 with (go_at_call 88; refine (cH.out _).mono ?_; rintro e w7 ⟨rfl, hb⟩; have B7 : Hid (Below W6.heap.size W6 w7) := HW6.out.trans (hb.mono HW6.out.size); have H7 : Hid (Below W1.heap.size W1 w7) := H6.out.trans (B7.out.mono H6.out.size); clear hb)
              clear m0 m1 kr
              have k7 := HC0.out w7 H7.out
              by_cases g2 : NK = 2
              · have g2b : ((NK : Int) == 2) = true := by rw [beq_iff_eq]; omega
                have HE : Hid (RR = tnR b P K O) := by unfold Hid; rw [HF.out, HO.out]; exact nsQ_some HG1.out HG2.out HG3.out (HHIT.out g2)
                clear g2
                go_upto_region 11 with (go_at_call 82; refine (cK.out _ H7.out _ (by first | omega | (rw [IntKind.wrap_i64]; omega) | (rw [IntKind.wrap_u64]; omega))).mono ?_; rintro e w8 ⟨rfl, hb⟩; have B8 : Hid (Below W6.heap.size W6 w8) := B7.out.trans (hb.mono B7.out.size); have H8 : Hid (Below W1.heap.size W1 w8) := H6.out.trans (B8.out.mono H6.out.size); clear hb)
                clear k7
                have k8 := HC0.out w8 H8.out
                obtain ⟨m0, m1⟩ := HC4.out w8 B8.out
                have cTN : Hid (Calls Tryz.prog 89 #[.agg #[.slice a b.length cap], .agg #[.int .i64 (P : Int), .int .u64 (K : Int)], .int .i64 (O : Int)] w8 fun e w' => (∃ v, e = .returned v ∧ TnP RR w8 e w') ∨ ∃ F, RR.2 = some F ∧ Pan w8 F e w') := (tableNames_c HB.out hl _ P K O (by have := HRM.out; unfold room at this; omega) hO64.out (by omega) w8 (HV.out _ (HBL.out.trans (H8.out.mono HBL.out.size))) (HTB.out _ (HBL.out.trans (H8.out.mono HBL.out.size)))).mono fun e w' hq => by
                  rw [← HE.out] at hq
                  rcases hq with ⟨q1, u, rfl, q2⟩ | q
                  · exact .inl ⟨u, rfl, .inl ⟨q1, u, rfl, q2⟩⟩
                  · exact .inr q
                go_wp2_with (go_at_call 89; refine cTN.out.mono ?_; rintro e w9 (⟨v, rfl, hq⟩ | ⟨F, hF, g, rfl, p2, p3, p4⟩))
                · go_ret
                  rcases hq with ⟨q1, u, q, q2, q3⟩ | ⟨F, _, _, q, _⟩
                  · cases q
                    exact .inl ⟨q1, _, rfl, own_ge q2 (Nat.le_trans HBL.out.size H8.out.size) (fun _ _ => rfl), HBL.out.trans ((H8.out.trans (q3.mono H8.out.size)).mono HBL.out.size)⟩
                  · cases q
                · exact ⟨rfl, .inr ⟨F, hF, Pan.later (HBL.out.trans (H8.out.mono HBL.out.size)) ⟨g, rfl, p2, p3, p4⟩⟩⟩
              · have g2b : ((NK : Int) == 2) = false := by rw [beq_eq_false_iff_ne]; omega
                have HFT2 : Hid (frT b P (K - (i + 1)) (i + 1) = frT b P K 0) := HGO.out g2
                clear g2
                go_upto_region 12 with (go_at_call 82; refine (cK.out _ H7.out _ (by first | omega | (rw [IntKind.wrap_i64]; omega) | (rw [IntKind.wrap_u64]; omega))).mono ?_; rintro e w8 ⟨rfl, hb⟩; have B8 : Hid (Below W6.heap.size W6 w8) := B7.out.trans (hb.mono B7.out.size); have H8 : Hid (Below W1.heap.size W1 w8) := H6.out.trans (B8.out.mono H6.out.size); clear hb)
                clear k7
                go_wp2
                go_roundw
                case rel => exact ⟨i + 1, HLT.out, by go_num, B8, HFT2⟩
                case measure => simp [intOf]; omega
            · obtain rfl : i = K := by omega
              have HE : Hid (RR = ([], none)) := by unfold Hid; rw [HF.out]; exact nsQ_none HG1.out HG2.out HG3.out (by rw [← HFT.out]; exact frT_end _ _ _ _ (by omega))
              go_wp2
              go_ret
              exact tnp_nil HE.out (HBL.out.trans (HW.out.mono HBL.out.size))
        · have HE : Hid (RR.2 = some (40, 20)) := by unfold Hid; rw [HF.out, nsQ_room HG1.out HG2.out hrm]
          have c8f : Hid (∀ wx, Below W1.heap.size W1 wx → ∀ nI : Int, nI = ((64 * K : Nat) : Int) → Calls Tryz.prog 83 #[.agg #[.slice a b.length cap], .int .i64 40, .int .u64 nI] wx fun e w' => Pan wx (40, 20) e w') := fun wx hx nI hn => (c8.out wx hx nI hn).mono fun e w' hq => hq.elim (fun h1 => absurd h1.1 hrm) (fun h1 => h1.2)
          clear c8 hrm
          go_wp2_with (go_at_call 83; refine (c8f.out _ Hw4.out _ (by first | omega | (rw [IntKind.wrap_i64]; omega) | (rw [IntKind.wrap_u64]; omega))).mono ?_; rintro e w9 ⟨g, rfl, p2, p3, p4⟩)
          exact ⟨rfl, .inr ⟨_, HE.out, Pan.later (HBL.out.trans (Hw4.out.mono HBL.out.size)) ⟨g, rfl, p2, p3, p4⟩⟩⟩
end Go.Proofs.YtheeogbmljjbdaaGreatDoor
