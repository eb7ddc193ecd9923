/-
  Ixg.
-/
import Derived.Test.YtheeogbmljjbdaaGreatDoorN24
namespace Go.Proofs.YtheeogbmljjbdaaGreatDoor
set_option linter.unusedVariables false
set_option maxRecDepth 100000
open Go.ChangeShapes Go.WideShapes Go.ChangeAt Go.RowKit Go.Deep
theorem he_none {b : List Int} (h : heF b = none) : idF b 7 0 = none ∧ hdF b = none ∧ phF b = none := by
  unfold heF at h
  cases h1 : idF b 7 0 with
  | some F => rw [h1] at h; cases h
  | none =>
    cases h2 : hdF b with
    | some F => rw [h1, h2] at h; cases h
    | none =>
      cases h3 : phF b with
      | some F => rw [h1, h2, h3] at h; cases h
      | none => exact ⟨rfl, rfl, rfl⟩
theorem rd_he {b : List Int} {F : Nat × Nat} (hl : ¬ 200000 < b.length) (h : heF b = some F) : rdF b = some F := by
  unfold heF at h
  cases h1 : idF b 7 0 with
  | some G => rw [h1] at h; rw [rdF_id hl h1]; exact h
  | none =>
    cases h2 : hdF b with
    | some G => rw [h1, h2] at h; rw [rdF_hd hl h1 h2]; exact h
    | none =>
      cases h3 : phF b with
      | some G =>
        rw [h1, h2, h3] at h
        rw [rdF_pa hl h1 h2 (by unfold paF; rw [h3, if_pos (by rfl)])]; exact h
      | none => rw [h1, h2, h3] at h; cases h
theorem pa_pr {b : List Int} (h : phF b = none) : paF b = (prL b (vl b 32 8) (vl b 56 2)).2 := by
  unfold paF; rw [h, if_neg (by simp)]
theorem Dts.back {b : List Int} {B : Nat} {w : World} {L : List Sg} {l : List Pt} (h : Dts b B w L l) : ∀ x ∈ L, ∃ p ∈ l, x.a.toNat = adr p := by
  induction h with
  | nil => intro p hp; cases hp
  | @cons x q L l h1 _ ih =>
    intro y hy
    rcases List.mem_cons.1 hy with rfl | hy
    · exact ⟨q, List.mem_cons_self, by rw [h1.1]; rfl⟩
    · obtain ⟨p, hp, e⟩ := ih y hy; exact ⟨p, List.mem_cons_of_mem _ hp, e⟩
theorem Dts.apart {b : List Int} {B : Nat} {w : World} {L : List Sg} {l : List Pt} (h : Dts b B w L l) (hd : l.Pairwise (fun x y => adr x ≠ adr y)) : L.Pairwise (fun x y => x.a.toNat ≠ y.a.toNat) := by
  induction h with
  | nil => exact .nil
  | @cons x q L l h1 h2 ih =>
    rw [List.pairwise_cons] at hd ⊢
    refine ⟨fun y hy => ?_, ih hd.2⟩
    obtain ⟨p, hp, e⟩ := h2.back y hy
    have := hd.1 p hp
    rw [e, h1.1]; exact this
/-- What Read of the reference answers. -/
def RfP (b : List Int) (w : World) (e : Ending) (w' : World) : Prop :=
  (rdF b = none ∧ ∃ u v L, e = .returned (.tuple #[.agg #[.int .u64 ((vl b 24 8 : Nat) : Int), u, v], .agg #[.int .i64 0, .int .i64 0, .int .i64 0]]) ∧ ImO b w.heap.size w' u v L ∧ Below w.heap.size w w')
  ∨ (∃ F, rdF b = some F ∧ e = .returned (.tuple #[.agg #[.int .u64 0, .slice none 0 0, .slice none 0 0], .agg #[.int .i64 0, .int .i64 F.1, .int .i64 F.2]]) ∧ Below w.heap.size w w')
set_option maxHeartbeats 16000000 in
theorem rread_c {b : List Int} (hB : AllB b) (hbl : b.length ≤ 140737488355328) (vb : Value) (w : World) (hv : Byt w vb b) (hTb : Hid (Tabs w)) :
    Calls Tryz.prog 17 #[vb] w fun e w' => RfP b w e w' := by
  have HV : Hid (∀ w', Below w.heap.size w w' → Byt w' vb b) := fun w' hb => hv.later hb rfl
  have HTB : Hid (∀ w', Below w.heap.size w w' → Tabs w') := fun w' hb => hTb.out.below hb rfl
  have HB : Hid (AllB b) := hB
  obtain ⟨a, cap, rfl, hc, _, _⟩ := hv
  obtain ⟨W1, hW1⟩ : ∃ W1, (w.alloc (.cells #[.int .u64 0, .slice none 0 0, .slice none 0 0] 26)).alloc (.cells #[.int .i64 0, .int .i64 0, .int .i64 0] 46) = W1 := ⟨_, rfl⟩
  have HBL : Hid (Below w.heap.size w W1) := by rw [← hW1]; exact ((Below.refl _ _).alloc (Nat.le_refl _) _).alloc (by simp) _
  have hsz : Hid (W1.heap.size = w.heap.size + 2) := by unfold Hid; rw [← hW1]; simp
  have R3 : Hid (W1.heap[w.heap.size]? = some (.cells #[.int .u64 0, .slice none 0 0, .slice none 0 0] 26 (0, 0))) := by rw [← hW1]; exact heap_alloc2_old w _ _
  have R4 : Hid (W1.heap[w.heap.size + 1]? = some (.cells #[.int .i64 0, .int .i64 0, .int .i64 0] 46 (0, 0))) := by rw [← hW1]; exact heap_alloc2_new w _ _
  have HRI : Hid (∀ w', Below W1.heap.size W1 w' → w'.heap[w.heap.size]? = some (.cells #[.int .u64 0, .slice none 0 0, .slice none 0 0] 26 (0, 0))) := fun w' hb => (hb.block _ (by rw [hsz.out]; omega)).trans R3.out
  have HRF : Hid (∀ w', Below W1.heap.size W1 w' → w'.heap[w.heap.size + 1]? = some (.cells #[.int .i64 0, .int .i64 0, .int .i64 0] 46 (0, 0))) := fun w' hb => (hb.block _ (by rw [hsz.out]; omega)).trans R4.out
  have HBY : Hid (∀ wx, Below W1.heap.size W1 wx → Byt wx (.slice a b.length cap) b) := fun wx hx => HV.out _ (HBL.out.trans (hx.mono HBL.out.size))
  have hbI : (b.length : Int) ≤ 140737488355328 := by omega
  go_enter Tryz.func17, Tryz.ntmps17
  go_upto_region 1 with fail
  clear hW1
  by_cases hl : 200000 < b.length
  · have hlI : (200000 : Int) < b.length := by omega
    have HE : Hid (rdF b = some (200000, 3)) := rdF_long hl
    have HWX : Hid (Below W1.heap.size W1 W1) := Below.refl _ _
    clear hl
    go_wp2_with (go_at_call 31; refine (told_c _ _ _).mono ?_; rintro e wt ⟨rfl, hb⟩; have Bt := Hid.mkI hb; have Ht : Hid (Below W1.heap.size W1 wt) := HWX.out.trans (hb.mono HWX.out.size); clear hb; have rA := HRI.out wt Ht.out; have rB := HRF.out wt Ht.out; have HRA := Hid.mkI rA; have HRB := Hid.mkI rB; have a0 := cell_of_row wt w.heap.size 0 _ _ _ rA; have b0 := cell_of_row wt (w.heap.size + 1) 0 _ _ _ rB; have m0 := frozen_of_row wt w.heap.size 0 _ _ rA; have n0 := frozen_of_row wt (w.heap.size + 1) 0 _ _ rB; have a1 := cell_of_row wt w.heap.size 1 _ _ _ rA; have b1 := cell_of_row wt (w.heap.size + 1) 1 _ _ _ rB; have m1 := frozen_of_row wt w.heap.size 1 _ _ rA; have n1 := frozen_of_row wt (w.heap.size + 1) 1 _ _ rB; have a2 := cell_of_row wt w.heap.size 2 _ _ _ rA; have b2 := cell_of_row wt (w.heap.size + 1) 2 _ _ _ rB; have m2 := frozen_of_row wt w.heap.size 2 _ _ rA; have n2 := frozen_of_row wt (w.heap.size + 1) 2 _ _ rB; clear rA rB)
    have t1 := set3_at HRA.out (.int .u64 0) (.slice none 0 0) (.slice none 0 0)
    have t2 := (set3_other (w := wt) (R := w.heap.size) (k := w.heap.size + 1) (by omega) (.int .u64 0) (.slice none 0 0) (.slice none 0 0)).trans HRB.out
    have t3 := set3_at t2 (.int .i64 0) (.int .i64 (200000)) (.int .i64 (3))
    have t4 := (set3_other (k := w.heap.size) (R := w.heap.size + 1) (by omega) (.int .i64 0) (.int .i64 (200000)) (.int .i64 (3))).trans t1
    refine bodyPost_ret (v := .tuple #[.agg #[.int .u64 0, .slice none 0 0, .slice none 0 0], .agg #[.int .i64 0, .int .i64 (200000), .int .i64 (3)]]) (results_rr Tryz.results17 _ _ w.heap.size (w.heap.size + 1) 26 46 _ _ (0, 0) (0, 0) _ _ (by rfl) (by rfl) t4 t3 Tryz.underlying26 (by rfl) size_img Tryz.underlying46 (by rfl) size_flt) rfl ?_
    exact .inr ⟨_, HE.out, rfl, below_set3 (below_set3 (HBL.out.trans (Ht.out.mono HBL.out.size)) (Nat.le_refl _) _ _ _) (by omega) _ _ _⟩
  · have hlI : ¬ (200000 : Int) < b.length := by omega
    have HNL := Hid.mkI hl
    have hle : Hid (b.length ≤ 200000) := by unfold Hid; omega
    clear hl
    have cHd : Hid (Calls Tryz.prog 32 #[.slice a b.length cap] W1 fun e w' => HdA b W1 e w') := rhead_c HB.out hle.out _ W1 (HBY.out W1 (Below.refl _ _))
    obtain ⟨y1, hy1⟩ : ∃ y1 : Int, y1 = ((tl (heF b)).1 : Int) := ⟨_, rfl⟩
    obtain ⟨y2, hy2⟩ : ∃ y2 : Int, y2 = ((tl (heF b)).2 : Int) := ⟨_, rfl⟩
    have cH2 : Hid (Calls Tryz.prog 32 #[.slice a b.length cap] W1 fun e w' => e = .returned (.agg #[.int .i64 y1, .int .i64 y2]) ∧ Below W1.heap.size W1 w') := by rw [hy1, hy2]; exact cHd.out
    have HYE1 := Hid.mkI hy1
    have HYE2 := Hid.mkI hy2
    clear cHd hy1 hy2
    go_upto_region 4 with (go_at_call 32; refine cH2.out.mono ?_; rintro e w2 ⟨rfl, hb⟩; have Hw2 := Hid.mkI hb; clear hb)
    refine on_w (motive := fun W => Code.wp _ _ _ _ W) (Q := fun W => W.heap[w2.heap.size]? = some (.cells #[.int .i64 y1, .int .i64 y2] 70 (0, 0)) ∧ Below W1.heap.size W1 W ∧ W1.heap.size ≤ w2.heap.size) ⟨heap_alloc_new w2 _, Hw2.out.alloc Hw2.out.size _, Hw2.out.size⟩ ?_
    generalize w2.heap.size = g4
    rintro W3 ⟨s1, s2, s3⟩
    have HG4 := Hid.mkI s1
    have HWX := Hid.mkI s2
    have hg4 := Hid.mkI s3
    have q0 := cell_of_row W3 g4 0 _ _ _ s1
    have q1 := cell_of_row W3 g4 1 _ _ _ s1
    have HGL : Hid (g4 < W3.heap.size) := heap_lt HG4.out
    clear s1 s2 s3 Hw2 cH2
    cases hHe : heF b with
    | some F =>
      have HE : Hid (rdF b = some F) := rd_he HNL.out hHe
      have hF2 := wy_he b F hHe
      have e1 : y1 = (F.1 : Int) := by rw [HYE1.out, hHe]; rfl
      have e2 : y2 = (F.2 : Int) := by rw [HYE2.out, hHe]; rfl
      have hyb : (y2 != 0) = true := by rw [bne_iff_ne, e2]; omega
      have HY1 := Hid.mkI e1
      have HY2 := Hid.mkI e2
      clear hHe hF2 e1 e2
      go_wp2_with (go_at_call 31; refine (told_c _ _ _).mono ?_; rintro e wt ⟨rfl, hb⟩; have Bt := Hid.mkI hb; have Ht : Hid (Below W1.heap.size W1 wt) := HWX.out.trans (hb.mono HWX.out.size); clear hb; have rA := HRI.out wt Ht.out; have rB := HRF.out wt Ht.out; have HRA := Hid.mkI rA; have HRB := Hid.mkI rB; have a0 := cell_of_row wt w.heap.size 0 _ _ _ rA; have b0 := cell_of_row wt (w.heap.size + 1) 0 _ _ _ rB; have m0 := frozen_of_row wt w.heap.size 0 _ _ rA; have n0 := frozen_of_row wt (w.heap.size + 1) 0 _ _ rB; have a1 := cell_of_row wt w.heap.size 1 _ _ _ rA; have b1 := cell_of_row wt (w.heap.size + 1) 1 _ _ _ rB; have m1 := frozen_of_row wt w.heap.size 1 _ _ rA; have n1 := frozen_of_row wt (w.heap.size + 1) 1 _ _ rB; have a2 := cell_of_row wt w.heap.size 2 _ _ _ rA; have b2 := cell_of_row wt (w.heap.size + 1) 2 _ _ _ rB; have m2 := frozen_of_row wt w.heap.size 2 _ _ rA; have n2 := frozen_of_row wt (w.heap.size + 1) 2 _ _ rB; clear rA rB)
      have t1 := set3_at HRA.out (.int .u64 0) (.slice none 0 0) (.slice none 0 0)
      have t2 := (set3_other (w := wt) (R := w.heap.size) (k := w.heap.size + 1) (by omega) (.int .u64 0) (.slice none 0 0) (.slice none 0 0)).trans HRB.out
      have t3 := set3_at t2 (.int .i64 0) (.int .i64 y1) (.int .i64 y2)
      have t4 := (set3_other (k := w.heap.size) (R := w.heap.size + 1) (by omega) (.int .i64 0) (.int .i64 y1) (.int .i64 y2)).trans t1
      refine bodyPost_ret (v := .tuple #[.agg #[.int .u64 0, .slice none 0 0, .slice none 0 0], .agg #[.int .i64 0, .int .i64 y1, .int .i64 y2]]) (results_rr Tryz.results17 _ _ w.heap.size (w.heap.size + 1) 26 46 _ _ (0, 0) (0, 0) _ _ (by rfl) (by rfl) t4 t3 Tryz.underlying26 (by rfl) size_img Tryz.underlying46 (by rfl) size_flt) rfl ?_
      exact .inr ⟨_, HE.out, by rw [HY1.out, HY2.out], below_set3 (below_set3 (HBL.out.trans (Ht.out.mono HBL.out.size)) (Nat.le_refl _) _ _ _) (by omega) _ _ _⟩
    | none =>
      obtain ⟨hId, hHd, hPh⟩ := he_none hHe
      have HID := Hid.mkI hId
      have HHD := Hid.mkI hHd
      have HPH := Hid.mkI hPh
      have h64 : Hid (64 ≤ b.length) := hd_len hHd
      have e1 : y1 = 0 := by rw [HYE1.out, hHe]; rfl
      have e2 : y2 = 0 := by rw [HYE2.out, hHe]; rfl
      subst e1
      subst e2
      clear hHe hId hHd hPh HYE1 HYE2
      go_upto_region 6 with fail
      clear q0 q1
      have HPP : Hid (paF b = (prL b (vl b 32 8) (vl b 56 2)).2) := pa_pr HPH.out
      have HPL : Hid (paL b = srt (prL b (vl b 32 8) (vl b 56 2)).1) := rfl
      have HAP := Hid.mkI (prL_apart b (vl b 32 8) (vl b 56 2)).2
      have cPg : Hid (∀ wx, Below W1.heap.size W1 wx → Calls Tryz.prog 33 #[.slice a b.length cap] wx fun e w' => PgP b (prL b (vl b 32 8) (vl b 56 2)) wx e w') := fun wx hx => rprogram_c HB.out hle.out h64.out HPH.out _ wx (HBY.out wx hx)
      have HWP := Hid.mkI (wy_pr b (vl b 32 8) (vl b 56 2))
      have HLN := Hid.mkI (prL_len b (vl b 32 8) (vl b 56 2))
      have HN16 : Hid (vl b 56 2 ≤ 16) := by
        unfold Hid
        have hph := HPH.out
        unfold phF at hph
        by_cases h1 : vl b 56 2 ≠ 0 ∧ vl b 54 2 ≠ 56
        · rw [if_pos h1] at hph; cases hph
        · rw [if_neg h1] at hph
          by_cases h2 : 16 < vl b 56 2
          · rw [if_pos h2] at hph; cases hph
          · omega
      generalize prL b (vl b 32 8) (vl b 56 2) = PR at HPP HPL HAP cPg HWP HLN
      generalize vl b 56 2 = N at HLN HN16
      cases hPr : PR.2 with
      | some F =>
        have HE : Hid (rdF b = some F) := rdF_pa HNL.out HID.out HHD.out (HPP.out.trans hPr)
        have hF2 := HWP.out F hPr
        have hyb : ((F.2 : Int) != 0) = true := by rw [bne_iff_ne]; omega
        have cPf : Hid (∀ wx, Below W1.heap.size W1 wx → Calls Tryz.prog 33 #[.slice a b.length cap] wx fun e w' => e = .returned (.tuple #[.slice none 0 0, .agg #[.int .i64 F.1, .int .i64 F.2]]) ∧ Below wx.heap.size wx w') := fun wx hx => (cPg.out wx hx).mono fun e w' hq => by
          rcases hq with ⟨q, _⟩ | ⟨F', q, r⟩
          · rw [hPr] at q; cases q
          · rw [hPr] at q; cases q; exact r
        clear hPr cPg hF2
        obtain ⟨y1, hy1⟩ : ∃ y1 : Int, y1 = (F.1 : Int) := ⟨_, rfl⟩
        obtain ⟨y2, hy2⟩ : ∃ y2 : Int, y2 = (F.2 : Int) := ⟨_, rfl⟩
        rw [← hy1, ← hy2] at cPf
        rw [← hy2] at hyb
        have HY1 := Hid.mkI hy1
        have HY2 := Hid.mkI hy2
        clear hy1 hy2
        go_upto_region 7 with (go_at_call 33; refine (cPf.out _ HWX.out).mono ?_; rintro e w4 ⟨rfl, hb2⟩; have Hw4 : Hid (Below W1.heap.size W1 w4) := HWX.out.trans (hb2.mono HWX.out.size); have r4 := (hb2.block g4 (heap_lt HG4.out)).trans HG4.out; have G4f := Hid.mkI r4; have q0 := cell_of_row w4 g4 0 _ _ _ r4; have q1 := cell_of_row w4 g4 1 _ _ _ r4; have z0 := frozen_of_row w4 g4 0 _ _ r4; have z1 := frozen_of_row w4 g4 1 _ _ r4; clear r4 hb2)
        refine on_w (motive := fun W => Code.wp _ _ _ _ W) (Q := fun W => W.heap[g4]? = some (.cells #[.int .i64 y1, .int .i64 y2] 70 (0, 0)) ∧ Below W1.heap.size W1 W) ⟨set2_at G4f.out _ _, below_set2 Hw4.out hg4.out _ _⟩ ?_
        clear q0 q1 z0 z1 HWX
        rintro W5f ⟨s1, s2⟩
        have HWX := Hid.mkI s2
        have q0 := cell_of_row W5f g4 0 _ _ _ s1
        have q1 := cell_of_row W5f g4 1 _ _ _ s1
        clear s1 s2
        go_wp2_with (go_at_call 31; refine (told_c _ _ _).mono ?_; rintro e wt ⟨rfl, hb⟩; have Bt := Hid.mkI hb; have Ht : Hid (Below W1.heap.size W1 wt) := HWX.out.trans (hb.mono HWX.out.size); clear hb; have rA := HRI.out wt Ht.out; have rB := HRF.out wt Ht.out; have HRA := Hid.mkI rA; have HRB := Hid.mkI rB; have a0 := cell_of_row wt w.heap.size 0 _ _ _ rA; have b0 := cell_of_row wt (w.heap.size + 1) 0 _ _ _ rB; have m0 := frozen_of_row wt w.heap.size 0 _ _ rA; have n0 := frozen_of_row wt (w.heap.size + 1) 0 _ _ rB; have a1 := cell_of_row wt w.heap.size 1 _ _ _ rA; have b1 := cell_of_row wt (w.heap.size + 1) 1 _ _ _ rB; have m1 := frozen_of_row wt w.heap.size 1 _ _ rA; have n1 := frozen_of_row wt (w.heap.size + 1) 1 _ _ rB; have a2 := cell_of_row wt w.heap.size 2 _ _ _ rA; have b2 := cell_of_row wt (w.heap.size + 1) 2 _ _ _ rB; have m2 := frozen_of_row wt w.heap.size 2 _ _ rA; have n2 := frozen_of_row wt (w.heap.size + 1) 2 _ _ rB; clear rA rB)
        have t1 := set3_at HRA.out (.int .u64 0) (.slice none 0 0) (.slice none 0 0)
        have t2 := (set3_other (w := wt) (R := w.heap.size) (k := w.heap.size + 1) (by omega) (.int .u64 0) (.slice none 0 0) (.slice none 0 0)).trans HRB.out
        have t3 := set3_at t2 (.int .i64 0) (.int .i64 y1) (.int .i64 y2)
        have t4 := (set3_other (k := w.heap.size) (R := w.heap.size + 1) (by omega) (.int .i64 0) (.int .i64 y1) (.int .i64 y2)).trans t1
        refine bodyPost_ret (v := .tuple #[.agg #[.int .u64 0, .slice none 0 0, .slice none 0 0], .agg #[.int .i64 0, .int .i64 y1, .int .i64 y2]]) (results_rr Tryz.results17 _ _ w.heap.size (w.heap.size + 1) 26 46 _ _ (0, 0) (0, 0) _ _ (by rfl) (by rfl) t4 t3 Tryz.underlying26 (by rfl) size_img Tryz.underlying46 (by rfl) size_flt) rfl ?_
        exact .inr ⟨_, HE.out, by rw [HY1.out, HY2.out], below_set3 (below_set3 (HBL.out.trans (Ht.out.mono HBL.out.size)) (Nat.le_refl _) _ _ _) (by omega) _ _ _⟩
      | none =>
        have HPA : Hid (paF b = none) := HPP.out.trans hPr
        have cPt : Hid (∀ wx, Below W1.heap.size W1 wx → Calls Tryz.prog 33 #[.slice a b.length cap] wx fun e w' => ∃ um un uc L, e = .returned (.tuple #[.slice um un uc, .agg #[.int .i64 0, .int .i64 0]]) ∧ w'.ownsRow wx.heap.size 61 4 (.slice um un uc) L.length (sgl L) ∧ Dts b wx.heap.size w' L PR.1 ∧ Below wx.heap.size wx w') := fun wx hx => (cPg.out wx hx).mono fun e w' hq => by
          rcases hq with ⟨_, q⟩ | ⟨F', q, r⟩
          · exact q
          · rw [hPr] at q; cases q
        clear hPr cPg
        go_upto_region 7 with (go_at_call 33; refine (cPt.out _ HWX.out).mono ?_; rintro e w4 ⟨um, un, uc, L, rfl, q1, q2, hb⟩; have HS4 := Hid.mkI q1; have HD4 := Hid.mkI q2; have B4 := Hid.mkI hb; have Hw4 : Hid (Below W1.heap.size W1 w4) := HWX.out.trans (hb.mono HWX.out.size); clear q1 q2 hb; have r4 := (B4.out.block g4 (heap_lt HG4.out)).trans HG4.out; have G4 := Hid.mkI r4; have q0 := cell_of_row w4 g4 0 _ _ _ r4; have q1 := cell_of_row w4 g4 1 _ _ _ r4; have z0 := frozen_of_row w4 g4 0 _ _ r4; have z1 := frozen_of_row w4 g4 1 _ _ r4; clear r4)
        --@M1
        refine on_w (motive := fun W => Code.wp _ _ _ _ W) (Q := fun W => W.heap[g4]? = some (.cells #[.int .i64 0, .int .i64 0] 70 (0, 0)) ∧ Below W1.heap.size W1 W ∧ W.ownsRow W3.heap.size 61 4 (.slice um un uc) L.length (sgl L) ∧ Dts b W3.heap.size W L PR.1 ∧ W3.heap.size ≤ W.heap.size) ⟨set2_at G4.out _ _, below_set2 Hw4.out hg4.out _ _, own_ge HS4.out (Nat.le_refl _) (fun j hj => by have := heap_lt HG4.out; rw [heap_setCell_other _ _ j _ (by show j ≠ g4; omega), heap_setCell_other _ _ j _ (by show j ≠ g4; omega)]), HD4.out.move (Nat.le_refl _) (fun j hj => by have := heap_lt HG4.out; rw [heap_setCell_other _ _ j _ (by show j ≠ g4; omega), heap_setCell_other _ _ j _ (by show j ≠ g4; omega)]), by simp; exact B4.out.size⟩ ?_
        clear q0 q1 z0 z1 HG4 G4 HS4 HD4 Hw4
        rintro W5 ⟨s1, s2, s3, s4, s5⟩
        have HG5 := Hid.mkI s1
        have HW5 := Hid.mkI s2
        have HS5 := Hid.mkI s3
        have HD5 := Hid.mkI s4
        have HZ5 := Hid.mkI s5
        have q0 := cell_of_row W5 g4 0 _ _ _ s1
        have q1 := cell_of_row W5 g4 1 _ _ _ s1
        clear s1 s2 s3 s4 s5
        go_upto_region 9 with fail
        clear q0 q1
        have cNs : Hid (Calls Tryz.prog 34 #[.slice a b.length cap] W5 fun e w' => RnP (nsR b) W5 e w') := rnames_c HB.out hle.out h64.out _ W5 (HBY.out W5 HW5.out) (HTB.out _ (HBL.out.trans (HW5.out.mono HBL.out.size)))
        cases hNs : (nsR b).2 with
        | some F =>
          have HE : Hid (rdF b = some F) := (rdF_ns HNL.out HID.out HHD.out HPA.out).trans hNs
          have hF2 := wy_ns b F hNs
          have hyb : ((F.2 : Int) != 0) = true := by rw [bne_iff_ne]; omega
          have cNf : Hid (Calls Tryz.prog 34 #[.slice a b.length cap] W5 fun e w' => e = .returned (.tuple #[.slice none 0 0, .agg #[.int .i64 F.1, .int .i64 F.2]]) ∧ Below W5.heap.size W5 w') := cNs.out.mono fun e w' hq => by
            rcases hq with ⟨q, _⟩ | ⟨F', q, r⟩
            · rw [hNs] at q; cases q
            · rw [hNs] at q; cases q; exact r
          clear hNs cNs hF2
          obtain ⟨y1, hy1⟩ : ∃ y1 : Int, y1 = (F.1 : Int) := ⟨_, rfl⟩
          obtain ⟨y2, hy2⟩ : ∃ y2 : Int, y2 = (F.2 : Int) := ⟨_, rfl⟩
          rw [← hy1, ← hy2] at cNf
          rw [← hy2] at hyb
          have HY1 := Hid.mkI hy1
          have HY2 := Hid.mkI hy2
          clear hy1 hy2
          go_upto_region 10 with (go_at_call 34; refine cNf.out.mono ?_; rintro e w6 ⟨rfl, hb2⟩; have Hw6 : Hid (Below W1.heap.size W1 w6) := HW5.out.trans (hb2.mono HW5.out.size); have r4 := (hb2.block g4 (heap_lt HG5.out)).trans HG5.out; have G4f := Hid.mkI r4; have q0 := cell_of_row w6 g4 0 _ _ _ r4; have q1 := cell_of_row w6 g4 1 _ _ _ r4; have z0 := frozen_of_row w6 g4 0 _ _ r4; have z1 := frozen_of_row w6 g4 1 _ _ r4; clear r4 hb2)
          refine on_w (motive := fun W => Code.wp _ _ _ _ W) (Q := fun W => W.heap[g4]? = some (.cells #[.int .i64 y1, .int .i64 y2] 70 (0, 0)) ∧ Below W1.heap.size W1 W) ⟨set2_at G4f.out _ _, below_set2 Hw6.out hg4.out _ _⟩ ?_
          clear q0 q1 z0 z1 HWX
          rintro W5f ⟨s1, s2⟩
          have HWX := Hid.mkI s2
          have q0 := cell_of_row W5f g4 0 _ _ _ s1
          have q1 := cell_of_row W5f g4 1 _ _ _ s1
          clear s1 s2
          go_wp2_with (go_at_call 31; refine (told_c _ _ _).mono ?_; rintro e wt ⟨rfl, hb⟩; have Bt := Hid.mkI hb; have Ht : Hid (Below W1.heap.size W1 wt) := HWX.out.trans (hb.mono HWX.out.size); clear hb; have rA := HRI.out wt Ht.out; have rB := HRF.out wt Ht.out; have HRA := Hid.mkI rA; have HRB := Hid.mkI rB; have a0 := cell_of_row wt w.heap.size 0 _ _ _ rA; have b0 := cell_of_row wt (w.heap.size + 1) 0 _ _ _ rB; have m0 := frozen_of_row wt w.heap.size 0 _ _ rA; have n0 := frozen_of_row wt (w.heap.size + 1) 0 _ _ rB; have a1 := cell_of_row wt w.heap.size 1 _ _ _ rA; have b1 := cell_of_row wt (w.heap.size + 1) 1 _ _ _ rB; have m1 := frozen_of_row wt w.heap.size 1 _ _ rA; have n1 := frozen_of_row wt (w.heap.size + 1) 1 _ _ rB; have a2 := cell_of_row wt w.heap.size 2 _ _ _ rA; have b2 := cell_of_row wt (w.heap.size + 1) 2 _ _ _ rB; have m2 := frozen_of_row wt w.heap.size 2 _ _ rA; have n2 := frozen_of_row wt (w.heap.size + 1) 2 _ _ rB; clear rA rB)
          have t1 := set3_at HRA.out (.int .u64 0) (.slice none 0 0) (.slice none 0 0)
          have t2 := (set3_other (w := wt) (R := w.heap.size) (k := w.heap.size + 1) (by omega) (.int .u64 0) (.slice none 0 0) (.slice none 0 0)).trans HRB.out
          have t3 := set3_at t2 (.int .i64 0) (.int .i64 y1) (.int .i64 y2)
          have t4 := (set3_other (k := w.heap.size) (R := w.heap.size + 1) (by omega) (.int .i64 0) (.int .i64 y1) (.int .i64 y2)).trans t1
          refine bodyPost_ret (v := .tuple #[.agg #[.int .u64 0, .slice none 0 0, .slice none 0 0], .agg #[.int .i64 0, .int .i64 y1, .int .i64 y2]]) (results_rr Tryz.results17 _ _ w.heap.size (w.heap.size + 1) 26 46 _ _ (0, 0) (0, 0) _ _ (by rfl) (by rfl) t4 t3 Tryz.underlying26 (by rfl) size_img Tryz.underlying46 (by rfl) size_flt) rfl ?_
          exact .inr ⟨_, HE.out, by rw [HY1.out, HY2.out], below_set3 (below_set3 (HBL.out.trans (Ht.out.mono HBL.out.size)) (Nat.le_refl _) _ _ _) (by omega) _ _ _⟩
        | none =>
          have HE : Hid (rdF b = none) := (rdF_ns HNL.out HID.out HHD.out HPA.out).trans hNs
          have cNt : Hid (Calls Tryz.prog 34 #[.slice a b.length cap] W5 fun e w' => ∃ vm vn vc, e = .returned (.tuple #[.slice vm vn vc, .agg #[.int .i64 0, .int .i64 0]]) ∧ w'.ownsRow W5.heap.size 87 2 (.slice vm vn vc) (nsR b).1.length (syl (nsR b).1) ∧ Below W5.heap.size W5 w') := cNs.out.mono fun e w' hq => by
            rcases hq with ⟨_, q⟩ | ⟨F', q, r⟩
            · exact q
            · rw [hNs] at q; cases q
          have hNl := Hid.mkI (nsR_len b)
          clear hNs cNs
          obtain ⟨NL, hNL⟩ : ∃ NL, NL = (nsR b).1 := ⟨_, rfl⟩
          rw [← hNL] at cNt hNl
          have HNLE := Hid.mkI hNL
          clear hNL
          go_upto_region 10 with (go_at_call 34; refine cNt.out.mono ?_; rintro e w6 ⟨vm, vn, vc, rfl, q1, hb⟩; have HN6 := Hid.mkI q1; have B6 := Hid.mkI hb; have Hw6 : Hid (Below W1.heap.size W1 w6) := HW5.out.trans (hb.mono HW5.out.size); clear q1 hb; have r6 := (B6.out.block g4 (heap_lt HG5.out)).trans HG5.out; have G6 := Hid.mkI r6; have q0 := cell_of_row w6 g4 0 _ _ _ r6; have q1 := cell_of_row w6 g4 1 _ _ _ r6; have z0 := frozen_of_row w6 g4 0 _ _ r6; have z1 := frozen_of_row w6 g4 1 _ _ r6; clear r6)
          --@M2
          have hG4l : Hid (g4 < W3.heap.size) := HGL.out
          have HS6 : Hid (w6.ownsRow W3.heap.size 61 4 (.slice um un uc) L.length (sgl L)) := own_below HS5.out B6.out
          have HD6 : Hid (Dts b W3.heap.size w6 L PR.1) := HD5.out.next B6.out
          have hk6 : Hid (∀ j, W3.heap.size ≤ j → ((w6.setCell ⟨g4, 0, none⟩ (.int .i64 0)).setCell ⟨g4, 1, none⟩ (.int .i64 0)).heap[j]? = w6.heap[j]?) := fun j hj => by
            have := hG4l.out
            rw [heap_setCell_other _ _ j _ (by show j ≠ g4; omega), heap_setCell_other _ _ j _ (by show j ≠ g4; omega)]
          refine on_w (motive := fun W => Code.wp _ _ _ _ W) (Q := fun W => W.heap[g4]? = some (.cells #[.int .i64 0, .int .i64 0] 70 (0, 0)) ∧ Below W1.heap.size W1 W ∧ W.ownsRow W3.heap.size 61 4 (.slice um un uc) L.length (sgl L) ∧ Dts b W3.heap.size W L PR.1 ∧ W.ownsRow W5.heap.size 87 2 (.slice vm vn vc) NL.length (syl NL)) ⟨set2_at G6.out _ _, below_set2 Hw6.out hg4.out _ _, own_ge HS6.out (Nat.le_refl _) hk6.out, HD6.out.move (Nat.le_refl _) hk6.out, own_ge HN6.out (Nat.le_refl _) (fun j hj => hk6.out j (Nat.le_trans HZ5.out hj))⟩ ?_
          clear q0 q1 z0 z1 HG5 G6 HS6 HD6 HN6 Hw6 hk6
          rintro W7 ⟨s1, s2, s3, s4, s5⟩
          have HW7 := Hid.mkI s2
          have HS7 := Hid.mkI s3
          have HD7 := Hid.mkI s4
          have HN7 := Hid.mkI s5
          have q0 := cell_of_row W7 g4 0 _ _ _ s1
          have q1 := cell_of_row W7 g4 1 _ _ _ s1
          clear s1 s2 s3 s4 s5
          go_upto_region 12 with fail
          clear q0 q1
          --@M3
          have cV : Hid (Calls Tryz.prog 35 #[.slice a b.length cap, .int .i64 24, .int .i64 8] W7 fun e w' => e = .returned (.int .u64 ((vl b 24 8 : Nat) : Int)) ∧ W7 = w') := rvalue_c HB.out hle.out _ 24 8 24 8 rfl rfl (by omega) (by have := h64.out; omega) W7 (HBY.out W7 HW7.out)
          obtain ⟨EN, hEN⟩ : ∃ EN : Int, EN = ((vl b 24 8 : Nat) : Int) := ⟨_, rfl⟩
          rw [← hEN] at cV
          have HENV := Hid.mkI hEN
          clear hEN
          have cRi : Hid (Calls Tryz.prog 36 #[.slice um un uc] W7 fun e w' => ∃ am an ac, e = .returned (.slice am an ac) ∧ w'.ownsRow W7.heap.size 61 4 (.slice am an ac) (sgS L).length (sgl (sgS L)) ∧ Below W7.heap.size W7 w') := rrising_c _ L (by have q := HD7.out.len; have q2 := HLN.out; have := HN16.out; omega) (HD7.out.apart HAP.out) W7 (Sgs.of_own HS7.out)
          have cSo : Hid (∀ wx, Below W7.heap.size W7 wx → Calls Tryz.prog 37 #[.slice vm vn vc] wx fun e w' => ∃ bm bn bc, e = .returned (.slice bm bn bc) ∧ w'.ownsRow wx.heap.size 87 2 (.slice bm bn bc) (nSrt NL).length (syl (nSrt NL)) ∧ Below wx.heap.size wx w') := fun wx hx => rsorted_c _ NL hNl.out wx (Sys.of_own (own_below HN7.out hx))
          go_wp2_with (first | (go_at_call 35; refine cV.out.mono ?_; rintro e w9 ⟨rfl, hw9⟩; subst hw9) | (go_at_call 36; refine cRi.out.mono ?_; rintro e w8 ⟨am, an, ac, rfl, q1, hb⟩; have HS8 := Hid.mkI q1; have B8 := Hid.mkI hb; clear q1 hb) | (go_at_call 37; refine (cSo.out _ B8.out).mono ?_; rintro e w9 ⟨bm, bn, bc, rfl, q1, hb⟩; have HN9 := Hid.mkI q1; have B9 := Hid.mkI hb; have H9 : Hid (Below W1.heap.size W1 w9) := HW7.out.trans ((B8.out.trans (hb.mono B8.out.size)).mono HW7.out.size); clear q1 hb; have rA := HRI.out w9 H9.out; have rB := HRF.out w9 H9.out; have HRA := Hid.mkI rA; have HRB := Hid.mkI rB; have a0 := cell_of_row w9 w.heap.size 0 _ _ _ rA; have b0 := cell_of_row w9 (w.heap.size + 1) 0 _ _ _ rB; have m0 := frozen_of_row w9 w.heap.size 0 _ _ rA; have n0 := frozen_of_row w9 (w.heap.size + 1) 0 _ _ rB; have a1 := cell_of_row w9 w.heap.size 1 _ _ _ rA; have b1 := cell_of_row w9 (w.heap.size + 1) 1 _ _ _ rB; have m1 := frozen_of_row w9 w.heap.size 1 _ _ rA; have n1 := frozen_of_row w9 (w.heap.size + 1) 1 _ _ rB; have a2 := cell_of_row w9 w.heap.size 2 _ _ _ rA; have b2 := cell_of_row w9 (w.heap.size + 1) 2 _ _ _ rB; have m2 := frozen_of_row w9 w.heap.size 2 _ _ rA; have n2 := frozen_of_row w9 (w.heap.size + 1) 2 _ _ rB; clear rA rB))
          have t1 := set3_at HRA.out (.int .u64 EN) (.slice am an ac) (.slice bm bn bc)
          have t2 := (set3_other (w := w9) (R := w.heap.size) (k := w.heap.size + 1) (by omega) (.int .u64 EN) (.slice am an ac) (.slice bm bn bc)).trans HRB.out
          have t3 := set3_at t2 (.int .i64 0) (.int .i64 0) (.int .i64 0)
          have t4 := (set3_other (k := w.heap.size) (R := w.heap.size + 1) (by omega) (.int .i64 0) (.int .i64 0) (.int .i64 0)).trans t1
          refine bodyPost_ret (v := .tuple #[.agg #[.int .u64 EN, .slice am an ac, .slice bm bn bc], .agg #[.int .i64 0, .int .i64 0, .int .i64 0]]) (results_rr Tryz.results17 _ _ w.heap.size (w.heap.size + 1) 26 46 _ _ (0, 0) (0, 0) _ _ (by rfl) (by rfl) t4 t3 Tryz.underlying26 (by rfl) size_img Tryz.underlying46 (by rfl) size_flt) rfl ?_
          refine .inl ⟨HE.out, _, _, sgS L, by rw [HENV.out], ?_, below_set3 (below_set3 (HBL.out.trans (H9.out.mono HBL.out.size)) (Nat.le_refl _) _ _ _) (by omega) _ _ _⟩
          have hk : ∀ j, W1.heap.size ≤ j → ((((((w9.setCell ⟨w.heap.size, 0, none⟩ (.int .u64 EN)).setCell ⟨w.heap.size, 1, none⟩ (.slice am an ac)).setCell ⟨w.heap.size, 2, none⟩ (.slice bm bn bc)).setCell ⟨w.heap.size + 1, 0, none⟩ (.int .i64 0)).setCell ⟨w.heap.size + 1, 1, none⟩ (.int .i64 0)).setCell ⟨w.heap.size + 1, 2, none⟩ (.int .i64 0)).heap[j]? = w9.heap[j]? := fun j hj => by
            have := hsz.out
            rw [set3_other (by omega), set3_other (by omega)]
          have hw7 := HW7.out.size
          have hw8 := B8.out.size
          refine ImO.move (B := W1.heap.size) ⟨?_, ?_, ?_⟩ HBL.out.size hk
          · exact own_below (own_ge HS8.out hw7 (fun _ _ => rfl)) B9.out
          · obtain ⟨l', hp, hd⟩ := ((HD7.out.next B8.out).next B9.out).perm (sgS_perm L)
            have hl : l' = srt PR.1 := srt_unique HAP.out hp (hd.rise ((sgS_rise (HD7.out.apart HAP.out)).imp (fun h => Nat.le_of_lt h)))
            rw [HPL.out, ← hl]
            exact hd.base HWX.out.size
          · rw [← HNLE.out]
            exact own_ge HN9.out (Nat.le_trans hw7 hw8) (fun _ _ => rfl)
end Go.Proofs.YtheeogbmljjbdaaGreatDoor
