/-
  Irl.
-/
import Derived.Test.YtopddflnahfomaaGreatDoorM13
import Derived.Test.YtopddflnahfomaaGreatDoorM15
namespace Go.Proofs.YtopddflnahfomaaGreatDoor
set_option linter.unusedVariables false
set_option maxRecDepth 100000
open Go.ChangeShapes Go.WideShapes Go.ChangeAt Go.RowKit Go.Deep
theorem syl_snoc (L : List Sy) (x : Sy) : syl (L ++ [x]) = syl L ++ syv x := by simp [syl]
theorem own_nilN (w : World) (B : Nat) : w.ownsRow B 45 2 (.slice none 0 0) ([] : List Sy).length (syl []) := ⟨by simp [syl], .inl ⟨rfl, rfl⟩⟩
/-- One name appended to a row of the call's own. -/
theorem appS {ops : Array Oper} {rest : List Oper} {o : Oper} {a : Act} {w : World} {Q : Exit → Act → World → Prop} (hgd : o.guard = none) (s x : Operand) (ho : o.op = .call { callee := .builtin .append, args := #[s, x], argTypes := #[24, 24] })
    (B : Nat) (v : Value) (L : List Sy) (y : Sy) (hs : a.eval s = v) (hown : w.ownsRow B 45 2 v L.length (syl L))
    (h0 : Nat) (hx : a.eval x = .slice (some ⟨h0, 0, none⟩) 1 1) (hy : w.heap[h0]? = some (.cells #[.string y.s, .int .u64 (n64 y.v)] 45 (0, 0))) (hl : (L.length + 1) * 24 ≤ 140737488355328) (hB : B ≤ w.heap.size)
    (h : ∀ v' w', w'.ownsRow B 45 2 v' (L ++ [y]).length (syl (L ++ [y])) → Below B w w' → wpList Tryz.prog ops Q rest (a.put o.dst v') w') :
    wpList Tryz.prog ops Q (o :: rest) a w := by
  obtain ⟨i0, hi, hz0, hz1, hz2⟩ := info_parts info51
  refine wpList_append_own _ hgd s x 24 ho B 45 i0 (.agg #[.string ⟨#[]⟩, .int .u64 0]) 2 24 Tryz.underlying24 hi hz0 hz1 hz2 rfl (by decide) v L.length (syl L) hs hown ⟨h0, 0, none⟩ 1 1 (syv y) hx rfl ?_ ?_ (by unfold maxLen; omega) (by omega) hB ?_
  · intro j u hj
    have hj2 : j < 2 := by have := (List.getElem?_eq_some_iff.1 hj).1; simpa [syv] using this
    rw [addAt, Nat.zero_add, cell_of_row w h0 j _ _ _ hy]
    match j, hj2, hj with
    | 0, _, hj => exact hj
    | 1, _, hj => exact hj
  · intro u hu; simp [syv] at hu; rcases hu with rfl | rfl <;> rfl
  · intro v' w' h1 h2 _
    have hbl : Below B w w' := (Below.refl _ _).grown h2 hB (fun k hk => (hown.lt k hk).1)
    exact h v' w' (by rw [syl_snoc, List.length_append]; exact h1) hbl
theorem own_sliceN {w : World} {B n : Nat} {v : Value} {xs : List Value} (h : w.ownsRow B 45 2 v n xs) : ∃ m k c, v = .slice m k c := by
  rcases Go.Joins.ownsRow_forms h with ⟨rfl, _⟩ | ⟨g, cap, rfl⟩
  · exact ⟨_, _, _, rfl⟩
  · exact ⟨_, _, _, rfl⟩
theorem tnR_bad {b : List Int} {P K H : Nat} {F : Nat × Nat} (h : tbF b P K H = some F) : (tnR b P K H).2 = some F := by
  unfold tnR; rw [h, if_pos (by rfl)]
theorem tnR_go {b : List Int} {P K H : Nat} (h : tbF b P K H = none) : tnR b P K H = nmL b (txB b P H) (vl b (H + 24) 8) (vl b (H + 32) 8 / 24 - 1) := by
  unfold tnR; rw [h, if_neg (by simp)]
/-- What tableNames answers. -/
def TnP (r : List Sy × Flt) (w : World) (e : Ending) (w' : World) : Prop :=
  (r.2 = none ∧ ∃ u, e = .returned u ∧ w'.ownsRow w.heap.size 45 2 u (nSrt r.1).length (syl (nSrt r.1)) ∧ Below w.heap.size w w') ∨ (∃ F, r.2 = some F ∧ Pan w F e w')
set_option maxHeartbeats 8000000 in
theorem tableNames_c {b : List Int} (hB : AllB b) (hl : b.length ≤ 200000) (vb : Value) (P K H : Nat) (hP : P + 64 * K ≤ b.length) (hH : H + 64 ≤ b.length) (hK : K < 18446744073709551616) (w : World) (hv : Byt w vb b) (hTb : Hid (Tabs w)) :
    Calls Tryz.prog 55 #[.agg #[vb], .agg #[.int .i64 (P : Int), .int .u64 (K : Int)], .int .i64 (H : Int)] w fun e w' => TnP (tnR b P K H) w e w' := by
  have HV : Hid (∀ w', Below w.heap.size w w' → Byt w' vb b) := fun w' hb => hv.later hb rfl
  have HTB : Hid (∀ w', Below w.heap.size w w' → Tabs w') := fun w' hb => hTb.out.below hb rfl
  have HB : Hid (AllB b) := hB
  obtain ⟨a, cap, rfl, hc, _, _⟩ := hv
  obtain ⟨W1, hW1⟩ : ∃ W1, (w.alloc (.cells #[.slice a b.length cap] 54)).alloc (.cells #[.int .i64 (P : Int), .int .u64 (K : Int)] 103) = W1 := ⟨_, rfl⟩
  have HBL : Hid (Below w.heap.size w W1) := by rw [← hW1]; exact ((Below.refl _ _).alloc (Nat.le_refl _) _).alloc (by simp) _
  have hsz : Hid (W1.heap.size = w.heap.size + 2) := by unfold Hid; rw [← hW1]; simp
  have R3 : Hid (W1.heap[w.heap.size]? = some (.cells #[.slice a b.length cap] 54 (0, 0))) := by rw [← hW1]; exact heap_alloc2_old w _ _
  have R4 : Hid (W1.heap[w.heap.size + 1]? = some (.cells #[.int .i64 (P : Int), .int .u64 (K : Int)] 103 (0, 0))) := by rw [← hW1]; exact heap_alloc2_new w _ _
  have HC0 : Hid (∀ w', Below W1.heap.size W1 w' → w'.cell? ⟨w.heap.size, 0, none⟩ = some (.slice a b.length cap)) := fun w' hb => (hb.cell (by show w.heap.size < _; rw [hsz.out]; omega)).trans (cell_of_row W1 _ 0 _ _ _ R3.out)
  have HC1 : Hid (∀ w', Below W1.heap.size W1 w' → w'.cell? ⟨w.heap.size + 1, 0, none⟩ = some (.int .i64 (P : Int)) ∧ w'.cell? ⟨w.heap.size + 1, 1, none⟩ = some (.int .u64 (K : Int))) := fun w' hb => ⟨(hb.cell (by show w.heap.size + 1 < _; rw [hsz.out]; omega)).trans (cell_of_row W1 _ 0 _ _ _ R4.out), (hb.cell (by show w.heap.size + 1 < _; rw [hsz.out]; omega)).trans (cell_of_row W1 _ 1 _ _ _ R4.out)⟩
  have cE : Hid (∀ wx, Below W1.heap.size W1 wx → ∀ pI : Int, pI = ((H + 56 : Nat) : Int) → Calls Tryz.prog 32 #[.agg #[.slice a b.length cap], .int .i64 pI] wx fun e w' => e = .returned (.int .u64 ((vl b (H + 56) 8 : Nat) : Int)) ∧ Below wx.heap.size wx w') := fun wx hx pI hpI => double_c HB.out hl _ (H + 56) pI hpI (by omega) wx (HV.out _ (HBL.out.trans (hx.mono HBL.out.size)))
  have cL : Hid (∀ wx, Below W1.heap.size W1 wx → ∀ pI : Int, pI = ((H + 32 : Nat) : Int) → Calls Tryz.prog 32 #[.agg #[.slice a b.length cap], .int .i64 pI] wx fun e w' => e = .returned (.int .u64 ((vl b (H + 32) 8 : Nat) : Int)) ∧ Below wx.heap.size wx w') := fun wx hx pI hpI => double_c HB.out hl _ (H + 32) pI hpI (by omega) wx (HV.out _ (HBL.out.trans (hx.mono HBL.out.size)))
  have lM := vl_lt8 hB (H + 32) 8 (by omega)
  have lE := vl_lt8 hB (H + 56) 8 (by omega)
  have c8 : Hid (∀ wx, Below W1.heap.size W1 wx → ∀ pI : Int, pI = ((H + 24 : Nat) : Int) → Calls Tryz.prog 48 #[.agg #[.slice a b.length cap], .int .i64 pI, .int .u64 ((vl b (H + 32) 8 : Nat) : Int)] wx fun e w' => (room b (vl b (H + 24) 8) (vl b (H + 32) 8) ∧ e = .returned (.int .i64 ((vl b (H + 24) 8 : Nat) : Int)) ∧ Below wx.heap.size wx w') ∨ (¬ room b (vl b (H + 24) 8) (vl b (H + 32) 8) ∧ Pan wx (H + 24, 20) e w')) := fun wx hx pI hpI => placeAt_c HB.out hl _ (H + 24) _ pI hpI (by omega) lM wx (HV.out _ (HBL.out.trans (hx.mono HBL.out.size)))
  have cT : Hid (∀ wx, Below W1.heap.size W1 wx → Calls Tryz.prog 72 #[.agg #[.slice a b.length cap], .agg #[.int .i64 (P : Int), .int .u64 (K : Int)], .int .i64 (H : Int)] wx fun e w' => (txF b P K H = none ∧ ∃ u, e = .returned u ∧ Byt w' u (txB b P H) ∧ Below wx.heap.size wx w') ∨ (∃ F, txF b P K H = some F ∧ Pan wx F e w')) := fun wx hx => texts_c HB.out hl _ P K H hP hH hK wx (HV.out _ (HBL.out.trans (hx.mono HBL.out.size)))
  have HF : Hid (tbF b P K H = if vl b (H + 56) 8 ≠ 24 then some (H + 56, 25) else if vl b (H + 32) 8 % 24 ≠ 0 then some (H + 32, 25) else if ¬ room b (vl b (H + 24) 8) (vl b (H + 32) 8) then some (H + 24, 20) else txF b P K H) := rfl
  have HBD : Hid (∀ F, tbF b P K H = some F → (tnR b P K H).2 = some F) := fun F h => tnR_bad h
  have HGO : Hid (tbF b P K H = none → tnR b P K H = nmL b (txB b P H) (vl b (H + 24) 8) (vl b (H + 32) 8 / 24 - 1)) := fun h => tnR_go h
  have hTL : Hid (txF b P K H = none → (txB b P H).length ≤ 200000) := fun _ => by unfold txB; rw [List.length_take, List.length_drop]; omega
  generalize tnR b P K H = RR at HBD HGO ⊢
  generalize tbF b P K H = TF at HF HBD HGO
  generalize txF b P K H = XF at HF cT hTL
  generalize txB b P H = T at HGO cT hTL
  generalize vl b (H + 56) 8 = NE at cE HF lE
  generalize vl b (H + 32) 8 = M at cL c8 HF HGO lM
  generalize vl b (H + 24) 8 = A at c8 HF HGO
  have hHI : (H : Int) + 64 ≤ b.length := by omega
  have hlI : (b.length : Int) ≤ 200000 := by omega
  have iE : (NE : Int) < 18446744073709551616 := by omega
  have iM : (M : Int) < 18446744073709551616 := by omega
  have hrem : Int.tmod (M : Int) 24 = ((M % 24 : Nat) : Int) := by rw [Int.tmod_eq_emod_of_nonneg (by omega)]; omega
  have HREM := Hid.mkI hrem
  clear hrem
  have HW1 : Hid (Below W1.heap.size W1 W1) := Below.refl _ _
  go_enter Tryz.func55, Tryz.ntmps55
  go_upto_region 1 with fail
  have k1 := HC0.out W1 HW1.out
  clear hW1
  by_cases gE : NE ≠ 24
  · have gEb : ((NE : Int) != 24) = true := by rw [bne_iff_ne]; omega
    have HE : Hid (RR.2 = some (H + 56, 25)) := HBD.out _ (by rw [HF.out, if_pos gE])
    clear gE
    go_wp2_with (first | (go_at_call 32; refine (cE.out _ HW1.out _ (by first | omega | (rw [IntKind.wrap_i64]; omega) | (rw [IntKind.wrap_u64]; omega))).mono ?_; rintro e w2 ⟨rfl, hb⟩; have Hw2 : Hid (Below W1.heap.size W1 w2) := HW1.out.trans (hb.mono (HW1.out).size); clear hb) | (go_at_call 27; refine (refuse_tI 25 (H + 56) _ (by first | omega | (rw [IntKind.wrap_i64]; omega) | (rw [IntKind.wrap_u64]; omega)) _).mono ?_; rintro e w9 ⟨g, rfl, p2, p3, p4⟩))
    exact ⟨rfl, .inr ⟨_, HE.out, Pan.later (HBL.out.trans (Hw2.out.mono HBL.out.size)) ⟨g, rfl, p2, p3, p4⟩⟩⟩
  · have gEb : ((NE : Int) != 24) = false := by rw [bne_eq_false_iff_eq]; omega
    have HG1 : Hid (¬ NE ≠ 24) := gE
    clear gE
    go_upto_region 2 with (first | (go_at_call 32; refine (cE.out _ HW1.out _ (by first | omega | (rw [IntKind.wrap_i64]; omega) | (rw [IntKind.wrap_u64]; omega))).mono ?_; rintro e w2 ⟨rfl, hb⟩; have Hw2 : Hid (Below W1.heap.size W1 w2) := HW1.out.trans (hb.mono (HW1.out).size); clear hb) | (go_at_call 27; refine (refuse_f _ _ _).mono ?_; rintro e w9 ⟨rfl, hw9⟩; subst hw9))
    --@M1
    clear k1
    have k2 := HC0.out w2 Hw2.out
    go_upto_region 3 with (go_at_call 32; refine (cL.out _ Hw2.out _ (by first | omega | (rw [IntKind.wrap_i64]; omega) | (rw [IntKind.wrap_u64]; omega))).mono ?_; rintro e w3 ⟨rfl, hb⟩; have Hw3 : Hid (Below W1.heap.size W1 w3) := Hw2.out.trans (hb.mono (Hw2.out).size); clear hb)
    --@M2
    clear k2
    by_cases gM : M % 24 ≠ 0
    · have xMb : (((M % 24 : Nat) : Int) != 0) = true := by rw [bne_iff_ne]; omega
      have yMb : ((M : Int) % 24 != 0) = true := by rw [bne_iff_ne]; omega
      have gMb : ((M : Int).tmod 24 != 0) = true := by rw [HREM.out]; exact xMb
      have HE : Hid (RR.2 = some (H + 32, 25)) := HBD.out _ (by rw [HF.out, if_neg HG1.out, if_pos gM])
      clear gM
      go_wp2_with (go_at_call 27; refine (refuse_tI 25 (H + 32) _ (by first | omega | (rw [IntKind.wrap_i64]; omega) | (rw [IntKind.wrap_u64]; omega)) _).mono ?_; rintro e w9 ⟨g, rfl, p2, p3, p4⟩)
      exact ⟨rfl, .inr ⟨_, HE.out, Pan.later (HBL.out.trans (Hw3.out.mono HBL.out.size)) ⟨g, rfl, p2, p3, p4⟩⟩⟩
    · have xMb : (((M % 24 : Nat) : Int) != 0) = false := by rw [bne_eq_false_iff_eq]; omega
      have yMb : ((M : Int) % 24 != 0) = false := by rw [bne_eq_false_iff_eq]; omega
      have gMb : ((M : Int).tmod 24 != 0) = false := by rw [HREM.out]; exact xMb
      have HG2 : Hid (¬ M % 24 ≠ 0) := gM
      clear gM
      go_upto_region 4 with (go_at_call 27; refine (refuse_f _ _ _).mono ?_; rintro e w9 ⟨rfl, hw9⟩; subst hw9)
      --@M3
      clear gMb gEb xMb yMb
      have k3 := HC0.out w3 Hw3.out
      by_cases hrm : room b A M
      · have HRM : Hid (room b A M) := hrm
        have c8t : Hid (∀ wx, Below W1.heap.size W1 wx → ∀ pI : Int, pI = ((H + 24 : Nat) : Int) → Calls Tryz.prog 48 #[.agg #[.slice a b.length cap], .int .i64 pI, .int .u64 (M : Int)] wx fun e w' => e = .returned (.int .i64 (A : Int)) ∧ Below wx.heap.size wx w') := fun wx hx pI hpI => (c8.out wx hx pI hpI).mono fun e w' hq => hq.elim (fun h1 => h1.2) (fun h1 => absurd hrm h1.1)
        clear c8 hrm
        go_upto_region 5 with (go_at_call 48; refine (c8t.out _ Hw3.out _ (by first | omega | (rw [IntKind.wrap_i64]; omega) | (rw [IntKind.wrap_u64]; omega))).mono ?_; rintro e w4 ⟨rfl, hb⟩; have Hw4 : Hid (Below W1.heap.size W1 w4) := Hw3.out.trans (hb.mono (Hw3.out).size); clear hb)
        --@M4
        clear k3
        have k4 := HC0.out w4 Hw4.out
        obtain ⟨m0, m1⟩ := HC1.out w4 Hw4.out
        cases hXF : XF with
        | some F =>
          have HE : Hid (RR.2 = some F) := HBD.out _ (by rw [HF.out, if_neg HG1.out, if_neg HG2.out, if_neg (fun q => q HRM.out), hXF])
          have cTf : Hid (∀ wx, Below W1.heap.size W1 wx → Calls Tryz.prog 72 #[.agg #[.slice a b.length cap], .agg #[.int .i64 (P : Int), .int .u64 (K : Int)], .int .i64 (H : Int)] wx fun e w' => Pan wx F e w') := fun wx hx => (cT.out wx hx).mono fun e w' hq => by
            rcases hq with ⟨q, _⟩ | ⟨F', q, r⟩
            · rw [hXF] at q; cases q
            · rw [hXF] at q; cases q; exact r
          clear hXF cT
          go_wp2_with (go_at_call 72; refine (cTf.out _ Hw4.out).mono ?_; rintro e w9 ⟨g, rfl, p2, p3, p4⟩)
          exact ⟨rfl, .inr ⟨_, HE.out, Pan.later (HBL.out.trans (Hw4.out.mono HBL.out.size)) ⟨g, rfl, p2, p3, p4⟩⟩⟩
        | none =>
          have HR : Hid (RR = nmL b T A (M / 24 - 1)) := HGO.out (by rw [HF.out, if_neg HG1.out, if_neg HG2.out, if_neg (fun q => q HRM.out), hXF])
          have hTl : Hid (T.length ≤ 200000) := hTL.out hXF
          have cTt : Hid (∀ wx, Below W1.heap.size W1 wx → Calls Tryz.prog 72 #[.agg #[.slice a b.length cap], .agg #[.int .i64 (P : Int), .int .u64 (K : Int)], .int .i64 (H : Int)] wx fun e w' => ∃ um uk uc, e = .returned (.slice um uk uc) ∧ Byt w' (.slice um uk uc) T ∧ Below wx.heap.size wx w') := fun wx hx => (cT.out wx hx).mono fun e w' hq => by
            rcases hq with ⟨_, u, rfl, q1, q2⟩ | ⟨F', q, r⟩
            · obtain ⟨um, uc, rfl, r1⟩ := q1
              exact ⟨um, _, uc, rfl, ⟨um, uc, rfl, r1⟩, q2⟩
            · rw [hXF] at q; cases q
          clear hXF cT HF HBD HGO hTL
          go_upto_region 6 with (go_at_call 72; refine (cTt.out _ Hw4.out).mono ?_; rintro e w5 ⟨um, uk, uc, rfl, hq, hb⟩; have Hw5 : Hid (Below W1.heap.size W1 w5) := Hw4.out.trans (hb.mono (Hw4.out).size); have HT5 : Hid (Byt w5 (.slice um uk uc) T) := hq; clear hb hq)
          clear k4 m0 m1 cTt
          --@M5
          have hAM : (A : Int) + M ≤ b.length := by have := HRM.out; unfold room at this; omega
          have hMI : (M : Int) ≤ 200000 := by omega
          have hAI : (A : Int) ≤ 200000 := by omega
          go_wp2
          go_loopw [11, 10] (fun x y wr => ∃ (i Y : Nat) (l : List Sy) (ym : Option Addr) (yn yc : Nat), Hid (i ≤ M / 24 - 1) ∧ x = .int .i64 (Y : Int) ∧ Hid (Y = A + 24 * (i + 1)) ∧ y = .slice ym yn yc ∧ Hid (wr.ownsRow w5.heap.size 45 2 (.slice ym yn yc) l.length (syl l)) ∧ Hid (Below w5.heap.size w5 wr) ∧ Hid (nmL b T A i = (l, none))) (fun x _ _ => A + M + 24 - (intOf x).toNat)
          case atStart => exact ⟨0, A + 24, [], none, 0, 0, Nat.zero_le _, by go_num, rfl, rfl, own_nilN _ _, Below.refl _ _, rfl⟩
          case round =>
            obtain ⟨i, Y, l, ym, yn, yc, hi, rfl, HY, rfl, HO, HW5, HL⟩ := hrel
            have HW : Hid (Below W1.heap.size W1 wr) := Hw5.out.trans (HW5.out.mono Hw5.out.size)
            have HT : Hid (Byt wr (.slice um uk uc) T) := HT5.out.later HW5.out rfl
            have kr := HC0.out wr HW.out
            have hL4 : Hid (l.length ≤ 400) := by unfold Hid; have q := nmL_len b T A i; rw [HL.out] at q; exact q
            have hYl : (Y : Int) ≤ 200000 + 24 := by have := HY.out; have := hi.out; have := HG2.out; omega
            by_cases hlt : i < M / 24 - 1
            · have hlt2 : (Y : Int) < (A : Int) + M := by have := HY.out; omega
              have hY24 : Hid (Y + 24 ≤ b.length) := by unfold Hid; have := HY.out; have := HG2.out; omega
              have HLT : Hid (i + 1 ≤ M / 24 - 1) := hlt
              have cN := name_c HB.out hl hTl.out _ _ Y hY24.out wr (HV.out _ (HBL.out.trans (HW.out.mono HBL.out.size))) HT.out (HTB.out _ (HBL.out.trans (HW.out.mono HBL.out.size)))
              have HCN := Hid.mkI cN
              clear cN hlt
              go_upto_region 10 with fail
              --@M6
              cases hE : enE b T Y with
              | none =>
                have HE : Hid (RR.2 = some (Y, 25)) := by unfold Hid; rw [HR.out, nmL_stop (nmL_bad HL.out (by rw [← HY.out]; exact hE)) _ HLT.out, HY.out]
                have HCF : Hid (Calls Tryz.prog 73 #[.agg #[.slice a b.length cap], .int .i64 (Y : Int), .slice um uk uc] wr fun e w' => Pan wr (Y, 25) e w') := HCN.out.mono fun e w' hq => by
                  rcases hq with ⟨_, q⟩ | ⟨q, _⟩ | ⟨x, q, _⟩
                  · exact q
                  · rw [hE] at q; cases q
                  · rw [hE] at q; cases q
                clear hE HCN
                go_wp2_with (go_at_call 73; refine HCF.out.mono ?_; rintro e w9 ⟨g, rfl, p2, p3, p4⟩)
                exact ⟨rfl, .inr ⟨_, HE.out, Pan.later (HBL.out.trans (HW.out.mono HBL.out.size)) ⟨g, rfl, p2, p3, p4⟩⟩⟩
              | some o =>
                cases o with
                | none =>
                  have HL2 : Hid (nmL b T A (i + 1) = (l, none)) := nmL_pass HL.out (by rw [← HY.out]; exact hE)
                  have HCF : Hid (Calls Tryz.prog 73 #[.agg #[.slice a b.length cap], .int .i64 (Y : Int), .slice um uk uc] wr fun e w' => (∃ s v, e = .returned (.tuple #[.agg #[.string s, .int .u64 v], .bool false])) ∧ Below wr.heap.size wr w') := HCN.out.mono fun e w' hq => by
                    rcases hq with ⟨q, _⟩ | ⟨_, q⟩ | ⟨x, q, _⟩
                    · rw [hE] at q; cases q
                    · exact q
                    · rw [hE] at q; cases q
                  clear hE HCN
                  go_upto_region 11 with (go_at_call 73; refine HCF.out.mono ?_; rintro e w6 ⟨⟨s6, v6, rfl⟩, hb⟩; have B6 : Hid (Below wr.heap.size wr w6) := hb; clear hb)
                  clear kr
                  refine on_w (motive := fun W => Code.wp _ _ _ _ W) (Q := fun W => W.heap[w6.heap.size]? = some (.cells #[.string s6, .int .u64 v6] 45 (0, 0)) ∧ Below wr.heap.size wr W) ⟨heap_alloc_new w6 _, B6.out.alloc B6.out.size _⟩ ?_
                  generalize w6.heap.size = g7
                  rintro W7 ⟨s1, s2⟩
                  have HG7 : Hid (W7.heap[g7]? = some (.cells #[.string s6, .int .u64 v6] 45 (0, 0))) := s1
                  have B7 : Hid (Below wr.heap.size wr W7) := s2
                  have H7 : Hid (Below W1.heap.size W1 W7) := HW.out.trans (s2.mono HW.out.size)
                  have HO7 : Hid (W7.ownsRow w5.heap.size 45 2 (.slice ym yn yc) l.length (syl l)) := own_below HO.out s2
                  have H75 : Hid (Below w5.heap.size w5 W7) := HW5.out.trans (s2.mono HW5.out.size)
                  clear s1 s2
                  --@M7
                  go_wp2
                  go_roundw
                  case rel => exact ⟨i + 1, Y + 24, l, ym, yn, yc, HLT, by go_num, by unfold Hid; rw [HY.out]; omega, rfl, HO7, H75, HL2⟩
                  case measure => simp [intOf]; omega
                | some x =>
                  have HCF : Hid (Calls Tryz.prog 73 #[.agg #[.slice a b.length cap], .int .i64 (Y : Int), .slice um uk uc] wr fun e w' => e = .returned (.tuple #[.agg #[.string x.s, .int .u64 (n64 x.v)], .bool true]) ∧ Below wr.heap.size wr w') := HCN.out.mono fun e w' hq => by
                    rcases hq with ⟨q, _⟩ | ⟨q, _⟩ | ⟨x', q, r⟩
                    · rw [hE] at q; cases q
                    · rw [hE] at q; cases q
                    · rw [hE] at q; cases q; exact r
                  have HEX : Hid (enE b T (A + 24 * (i + 1)) = some (some x)) := by unfold Hid; rw [← HY.out]; exact hE
                  clear hE HCN
                  obtain ⟨sx, hsx⟩ : ∃ sx, sx = x.s := ⟨_, rfl⟩
                  obtain ⟨vx, hvx⟩ : ∃ vx, vx = n64 x.v := ⟨_, rfl⟩
                  rw [← hsx, ← hvx] at HCF
                  have HSX := Hid.mkI hsx
                  have HVX := Hid.mkI hvx
                  clear hsx hvx
                  go_upto_region 11 with (go_at_call 73; refine HCF.out.mono ?_; rintro e w6 ⟨rfl, hb⟩; have B6 : Hid (Below wr.heap.size wr w6) := hb; clear hb)
                  clear kr
                  refine on_w (motive := fun W => Code.wp _ _ _ _ W) (Q := fun W => W.heap[w6.heap.size]? = some (.cells #[.string sx, .int .u64 vx] 45 (0, 0)) ∧ Below wr.heap.size wr W) ⟨heap_alloc_new w6 _, B6.out.alloc B6.out.size _⟩ ?_
                  generalize w6.heap.size = g7
                  rintro W7 ⟨s1, s2⟩
                  have HG7 : Hid (W7.heap[g7]? = some (.cells #[.string sx, .int .u64 vx] 45 (0, 0))) := s1
                  have B7 : Hid (Below wr.heap.size wr W7) := s2
                  have H7 : Hid (Below W1.heap.size W1 W7) := HW.out.trans (s2.mono HW.out.size)
                  have HO7 : Hid (W7.ownsRow w5.heap.size 45 2 (.slice ym yn yc) l.length (syl l)) := own_below HO.out s2
                  have H75 : Hid (Below w5.heap.size w5 W7) := HW5.out.trans (s2.mono HW5.out.size)
                  clear s1 s2
                  --@M8
                  have cHas := hasN_c (.slice ym yn yc) l x W7 (Sys.of_own HO7.out) hL4.out
                  rw [← HSX.out, ← HVX.out] at cHas
                  have HCH := Hid.mkI cHas
                  clear cHas
                  have x0 := cell_of_row W7 g7 0 _ _ _ HG7.out
                  have x1 := cell_of_row W7 g7 1 _ _ _ HG7.out
                  cases hA : l.any (eqS x) with
                  | true =>
                    have HL2 : Hid (nmL b T A (i + 1) = (l, none)) := nmL_had HL.out HEX.out hA
                    rw [hA] at HCH
                    clear hA
                    go_upto_region 9 with (go_at_call 74; refine HCH.out.mono ?_; rintro e w8 ⟨rfl, hb⟩; have B8 : Hid (Below W7.heap.size W7 w8) := hb; have H8 : Hid (Below W1.heap.size W1 w8) := H7.out.trans (hb.mono H7.out.size); have H85 : Hid (Below w5.heap.size w5 w8) := H75.out.trans (hb.mono H75.out.size); clear hb)
                    clear x0 x1
                    go_wp2
                    go_roundw
                    case rel => exact ⟨i + 1, Y + 24, l, ym, yn, yc, HLT, by go_num, by unfold Hid; rw [HY.out]; omega, rfl, own_below HO7.out B8.out, H85, HL2⟩
                    case measure => simp [intOf]; omega
                  | false =>
                    rw [hA] at HCH
                    have HA := Hid.mkI hA
                    clear hA
                    go_upto_region 12 with (go_at_call 74; refine HCH.out.mono ?_; rintro e w8 ⟨rfl, hb⟩; have B8 : Hid (Below W7.heap.size W7 w8) := hb; have H8 : Hid (Below W1.heap.size W1 w8) := H7.out.trans (hb.mono H7.out.size); have H85 : Hid (Below w5.heap.size w5 w8) := H75.out.trans (hb.mono H75.out.size); clear hb)
                    clear x0 x1
                    have HO8 : Hid (w8.ownsRow w5.heap.size 45 2 (.slice ym yn yc) l.length (syl l)) := own_below HO7.out B8.out
                    have hyn : Hid (yn = l.length) := by
                      unfold Hid
                      obtain ⟨ad, cp, e, _⟩ := Sys.of_own HO8.out
                      cases e; rfl
                    have hynI : (yn : Int) ≤ 400 := by have := hyn.out; have := hL4.out; omega
                    by_cases h4 : l.length = 400
                    · have h4b : ((yn : Int) == 400) = true := by rw [beq_iff_eq]; have := hyn.out; omega
                      have HE : Hid (RR.2 = some (Y, 2)) := by unfold Hid; rw [HR.out, nmL_stop (nmL_many HL.out HEX.out HA.out h4) _ HLT.out, HY.out]
                      clear h4
                      go_wp2_with (go_at_call 27; refine (refuse_tI 2 (Y) _ (by first | omega | (rw [IntKind.wrap_i64]; omega) | (rw [IntKind.wrap_u64]; omega)) _).mono ?_; rintro e w9 ⟨g, rfl, p2, p3, p4⟩)
                      exact ⟨rfl, .inr ⟨_, HE.out, Pan.later (HBL.out.trans (H8.out.mono HBL.out.size)) ⟨g, rfl, p2, p3, p4⟩⟩⟩
                    · have h4b : ((yn : Int) == 400) = false := by rw [beq_eq_false_iff_ne]; have := hyn.out; omega
                      have HL2 : Hid (nmL b T A (i + 1) = (l ++ [x], none)) := nmL_add HL.out HEX.out HA.out h4
                      clear h4
                      go_upto_region 13 with (go_at_call 27; refine (refuse_f _ _ _).mono ?_; rintro e w9 ⟨rfl, hw9⟩; subst hw9)
                      clear h4b
                      have G8 : Hid (w8.heap[g7]? = some (.cells #[.string sx, .int .u64 vx] 45 (0, 0))) := (B8.out.block g7 (heap_lt HG7.out)).trans HG7.out
                      have x0 := cell_of_row w8 g7 0 _ _ _ G8.out
                      have x1 := cell_of_row w8 g7 1 _ _ _ G8.out
                      go_upto_region 9 with (at_builtin; have A1 : (w8.alloc (.cells #[.string sx, .int .u64 vx] 45)).ownsRow w5.heap.size 45 2 (.slice ym yn yc) l.length (syl l) := own_below HO8.out ((Below.refl _ w8).alloc (Nat.le_refl _) _); have A2 : (w8.alloc (.cells #[.string sx, .int .u64 vx] 45)).heap[w8.heap.size]? = some (.cells #[.string x.s, .int .u64 (n64 x.v)] 45 (0, 0)) := (by rw [← HSX.out, ← HVX.out]; exact heap_alloc_new w8 _); have A3 : w5.heap.size ≤ (w8.alloc (.cells #[.string sx, .int .u64 vx] 45)).heap.size := (by have := H85.out.size; simp; omega); refine appS (by rfl) _ _ (by rfl) w5.heap.size (.slice ym yn yc) l x (by rfl) A1 w8.heap.size (by rfl) A2 (by have := hL4.out; omega) A3 ?_; clear A1 A2 A3; intro v9 w9 ho9 hb9; have HO9 : Hid (w9.ownsRow w5.heap.size 45 2 v9 (l ++ [x]).length (syl (l ++ [x]))) := ho9; have H95 : Hid (Below w5.heap.size w5 w9) := (H85.out.alloc (H85.out.size) _).trans hb9; clear ho9 hb9; obtain ⟨zm, zn, zc, rfl⟩ := own_sliceN HO9.out)
                      clear x0 x1
                      go_wp2
                      go_roundw
                      case rel => exact ⟨i + 1, Y + 24, l ++ [x], zm, zn, zc, HLT, by go_num, by unfold Hid; rw [HY.out]; omega, rfl, HO9, H95, HL2⟩
                      case measure => simp [intOf]; omega
            · have hlt2 : ¬ (Y : Int) < (A : Int) + M := by have := HY.out; have := hi.out; have := HG2.out; omega
              have HIE : Hid (i = M / 24 - 1) := by have := hi.out; unfold Hid; omega
              clear hlt
              have cS := sortN_c wr w5.heap.size (.slice ym yn yc) l HO.out HW5.out.size hL4.out
              have HCS := Hid.mkI cS
              clear cS
              go_wp2_with (go_at_call 75; refine (HCS.out).mono ?_; rintro e w8 ⟨rfl, l', hp, hs, ho, hb⟩; have HP8 := Hid.mkI hp; have HS8 := Hid.mkI hs; have HO8 := Hid.mkI ho; have HB8 := Hid.mkI hb; clear hp hs ho hb)
              go_ret
              have hsl : l' = nSrt l := nSrt_unique HP8.out HS8.out
              have hRl : RR = (l, none) := by rw [HR.out, ← HIE.out]; exact HL.out
              refine .inl ⟨by rw [hRl], .slice ym yn yc, by rfl, ?_, HBL.out.trans ((HW.out.trans (HB8.out.mono Hw5.out.size)).mono HBL.out.size)⟩
              rw [hRl]
              show w8.ownsRow w.heap.size 45 2 (.slice ym yn yc) (nSrt l).length (syl (nSrt l))
              rw [← hsl]
              exact own_ge HO8.out (Nat.le_trans HBL.out.size Hw5.out.size) (fun _ _ => rfl)
      · have HE : Hid (RR.2 = some (H + 24, 20)) := HBD.out _ (by rw [HF.out, if_neg HG1.out, if_neg HG2.out, if_pos hrm])
        have c8f : Hid (∀ wx, Below W1.heap.size W1 wx → ∀ pI : Int, pI = ((H + 24 : Nat) : Int) → Calls Tryz.prog 48 #[.agg #[.slice a b.length cap], .int .i64 pI, .int .u64 (M : Int)] wx fun e w' => Pan wx (H + 24, 20) e w') := fun wx hx pI hpI => (c8.out wx hx pI hpI).mono fun e w' hq => hq.elim (fun h1 => absurd h1.1 hrm) (fun h1 => h1.2)
        clear c8 hrm
        go_wp2_with (go_at_call 48; refine (c8f.out _ Hw3.out _ (by first | omega | (rw [IntKind.wrap_i64]; omega) | (rw [IntKind.wrap_u64]; omega))).mono ?_; rintro e w9 ⟨g, rfl, p2, p3, p4⟩)
        exact ⟨rfl, .inr ⟨_, HE.out, Pan.later (HBL.out.trans (Hw3.out.mono HBL.out.size)) ⟨g, rfl, p2, p3, p4⟩⟩⟩
end Go.Proofs.YtopddflnahfomaaGreatDoor
