/-
  Irx.
-/
import Derived.Test.YtopddflnahfomaaGreatDoorM17
import Derived.Test.YtopddflnahfomaaGreatDoorM04
import Derived.Test.YtopddflnahfomaaGreatDoorM05
namespace Go.Proofs.YtopddflnahfomaaGreatDoor
set_option linter.unusedVariables false
set_option maxRecDepth 100000
open Go.ChangeShapes Go.WideShapes Go.ChangeAt Go.RowKit Go.Deep
/-- The first fault of a file. -/
def rdF (b : List Int) : Flt := if 200000 < b.length then some (200000, 3) else (idF b 7 0).or ((hdF b).or ((paF b).or (nsR b).2))
theorem rdF_long {b : List Int} (h : 200000 < b.length) : rdF b = some (200000, 3) := by unfold rdF; rw [if_pos h]
theorem rdF_id {b : List Int} {F : Nat × Nat} (h : ¬ 200000 < b.length) (h1 : idF b 7 0 = some F) : rdF b = some F := by unfold rdF; rw [if_neg h, h1]; rfl
theorem rdF_hd {b : List Int} {F : Nat × Nat} (h : ¬ 200000 < b.length) (h1 : idF b 7 0 = none) (h2 : hdF b = some F) : rdF b = some F := by unfold rdF; rw [if_neg h, h1, h2]; rfl
theorem rdF_pa {b : List Int} {F : Nat × Nat} (h : ¬ 200000 < b.length) (h1 : idF b 7 0 = none) (h2 : hdF b = none) (h3 : paF b = some F) : rdF b = some F := by unfold rdF; rw [if_neg h, h1, h2, h3]; rfl
theorem rdF_ns {b : List Int} (h : ¬ 200000 < b.length) (h1 : idF b 7 0 = none) (h2 : hdF b = none) (h3 : paF b = none) : rdF b = (nsR b).2 := by unfold rdF; rw [if_neg h, h1, h2, h3]; rfl
theorem hd_len {b : List Int} (h : hdF b = none) : 64 ≤ b.length := by
  unfold hdF at h
  by_cases h1 : b.length < 64
  · rw [if_pos h1] at h; cases h
  · omega
/-- An image in memory that is the call's own: what a file says. -/
structure ImO (b : List Int) (B : Nat) (w : World) (u v : Value) (L : List Sg) : Prop where
  segs : w.ownsRow B 42 4 u L.length (sgl L)
  data : Dts b B w L (paL b)
  syms : w.ownsRow B 45 2 v (nSrt (nsR b).1).length (syl (nSrt (nsR b).1))
/-- What image answers. -/
def ImP (b : List Int) (w : World) (e : Ending) (w' : World) : Prop :=
  (rdF b = none ∧ ∃ u v L, e = .returned (.agg #[.int .u64 ((vl b 24 8 : Nat) : Int), u, v]) ∧ ImO b w.heap.size w' u v L ∧ Below w.heap.size w w') ∨ (∃ F, rdF b = some F ∧ Pan w F e w')
theorem set3_at {w : World} {R : Nat} {o0 o1 o2 : Value} {t : TypeId} (h : w.heap[R]? = some (.cells #[o0, o1, o2] t (0, 0))) (a b c : Value) : (((w.setCell ⟨R, 0, none⟩ a).setCell ⟨R, 1, none⟩ b).setCell ⟨R, 2, none⟩ c).heap[R]? = some (.cells #[a, b, c] t (0, 0)) := by
  have h0 : (w.setCell ⟨R, 0, none⟩ a).heap[R]? = some (.cells #[a, o1, o2] t (0, 0)) := heap_setCell_same w R 0 _ t a h
  have h1 : ((w.setCell ⟨R, 0, none⟩ a).setCell ⟨R, 1, none⟩ b).heap[R]? = some (.cells #[a, b, o2] t (0, 0)) := heap_setCell_same _ R 1 _ t b h0
  exact heap_setCell_same _ R 2 _ t c h1
theorem below_set3 {B R : Nat} {w w' : World} (h : Below B w w') (hR : B ≤ R) (a b c : Value) : Below B w (((w'.setCell ⟨R, 0, none⟩ a).setCell ⟨R, 1, none⟩ b).setCell ⟨R, 2, none⟩ c) := ((h.setCell (p := ⟨R, 0, none⟩) hR _).setCell (p := ⟨R, 1, none⟩) hR _).setCell (p := ⟨R, 2, none⟩) hR _
theorem set3_other {w : World} {R k : Nat} (h : k ≠ R) (a b c : Value) : (((w.setCell ⟨R, 0, none⟩ a).setCell ⟨R, 1, none⟩ b).setCell ⟨R, 2, none⟩ c).heap[k]? = w.heap[k]? := by
  rw [heap_setCell_other _ _ k _ h, heap_setCell_other _ _ k _ h, heap_setCell_other _ _ k _ h]
theorem size_img : (Tryz.prog.info? 26).map (·.size) = some 3 := by kernel_rfl
theorem SgPt.move {b : List Int} {B B' : Nat} {w w' : World} {x : Sg} {p : Pt} (h : SgPt b B w x p) (hb : B' ≤ B) (k : ∀ j, B ≤ j → w'.heap[j]? = w.heap[j]?) : SgPt b B' w' x p := ⟨h.1, h.2.1, h.2.2.1, own_ge h.2.2.2 hb k⟩
theorem Dts.move {b : List Int} {B B' : Nat} {w w' : World} {L : List Sg} {l : List Pt} (h : Dts b B w L l) (hb : B' ≤ B) (k : ∀ j, B ≤ j → w'.heap[j]? = w.heap[j]?) : Dts b B' w' L l := by
  induction h with
  | nil => exact .nil
  | cons h1 _ ha ih => exact .cons (h1.move hb k) ih ha
theorem ImO.move {b : List Int} {B B' : Nat} {w w' : World} {u v : Value} {L : List Sg} (h : ImO b B w u v L) (hb : B' ≤ B) (k : ∀ j, B ≤ j → w'.heap[j]? = w.heap[j]?) : ImO b B' w' u v L := ⟨own_ge h.segs hb k, h.data.move hb k, own_ge h.syms hb k⟩
theorem Dts.next {b : List Int} {B : Nat} {w w' : World} {L : List Sg} {l : List Pt} (h : Dts b B w L l) (hb : Below w.heap.size w w') : Dts b B w' L l := h.keep (KeepU.below hb)
theorem ImO.below {b : List Int} {B : Nat} {w w' : World} {u v : Value} {L : List Sg} (h : ImO b B w u v L) (hb : Below w.heap.size w w') : ImO b B w' u v L := ⟨own_below h.segs hb, h.data.next hb, own_below h.syms hb⟩
set_option maxHeartbeats 8000000 in
theorem image_c {b : List Int} (hB : AllB b) (hbl : b.length ≤ 140737488355328) (vb : Value) (w : World) (hv : Byt w vb b) (hTb : Hid (Tabs w)) :
    Calls Tryz.prog 16 #[.agg #[vb]] w fun e w' => ImP b w e w' := by
  have HV : Hid (∀ w', Below w.heap.size w w' → Byt w' vb b) := fun w' hb => hv.later hb rfl
  have HTB : Hid (∀ w', Below w.heap.size w w' → Tabs w') := fun w' hb => hTb.out.below hb rfl
  have HB : Hid (AllB b) := hB
  obtain ⟨a, cap, rfl, hc, _, _⟩ := hv
  obtain ⟨W1, hW1⟩ : ∃ W1, (w.alloc (.cells #[.slice a b.length cap] 54)).alloc (.cells #[.int .u64 0, .slice none 0 0, .slice none 0 0] 26) = W1 := ⟨_, rfl⟩
  have HBL : Hid (Below w.heap.size w W1) := by rw [← hW1]; exact ((Below.refl _ _).alloc (Nat.le_refl _) _).alloc (by simp) _
  have hsz : Hid (W1.heap.size = w.heap.size + 2) := by unfold Hid; rw [← hW1]; simp
  have R3 : Hid (W1.heap[w.heap.size]? = some (.cells #[.slice a b.length cap] 54 (0, 0))) := by rw [← hW1]; exact heap_alloc2_old w _ _
  have R4 : Hid (W1.heap[w.heap.size + 1]? = some (.cells #[.int .u64 0, .slice none 0 0, .slice none 0 0] 26 (0, 0))) := by rw [← hW1]; exact heap_alloc2_new w _ _
  have HC0 : Hid (∀ w', Below W1.heap.size W1 w' → w'.cell? ⟨w.heap.size, 0, none⟩ = some (.slice a b.length cap)) := fun w' hb => (hb.cell (by show w.heap.size < _; rw [hsz.out]; omega)).trans (cell_of_row W1 _ 0 _ _ _ R3.out)
  have HR2 : Hid (∀ w', Below W1.heap.size W1 w' → w'.heap[w.heap.size + 1]? = some (.cells #[.int .u64 0, .slice none 0 0, .slice none 0 0] 26 (0, 0))) := fun w' hb => (hb.block _ (by rw [hsz.out]; omega)).trans R4.out
  have HW1 : Hid (Below W1.heap.size W1 W1) := Below.refl _ _
  have HBY : Hid (∀ wx, Below W1.heap.size W1 wx → Byt wx (.slice a b.length cap) b) := fun wx hx => HV.out _ (HBL.out.trans (hx.mono HBL.out.size))
  have hbI : (b.length : Int) ≤ 140737488355328 := by omega
  go_enter Tryz.func16, Tryz.ntmps16
  go_upto_region 1 with fail
  have k1 := HC0.out W1 HW1.out
  clear hW1
  by_cases hl : 200000 < b.length
  · have hlI : (200000 : Int) < b.length := by omega
    have HE : Hid (rdF b = some (200000, 3)) := rdF_long hl
    clear hl
    go_wp2_with (go_at_call 27; refine (refuse_tI 3 200000 _ (by rfl) _).mono ?_; rintro e w9 ⟨g, rfl, p2, p3, p4⟩)
    exact ⟨rfl, .inr ⟨_, HE.out, Pan.later (HBL.out.trans (HW1.out.mono HBL.out.size)) ⟨g, rfl, p2, p3, p4⟩⟩⟩
  · have hlI : ¬ (200000 : Int) < b.length := by omega
    have HNL : Hid (¬ 200000 < b.length) := hl
    have hle : Hid (b.length ≤ 200000) := by unfold Hid; omega
    clear hl
    go_upto_region 2 with (go_at_call 27; refine (refuse_f _ _ _).mono ?_; rintro e w9 ⟨rfl, hw9⟩; subst hw9)
    have cId : Hid (Calls Tryz.prog 28 #[.agg #[.slice a b.length cap]] W1 fun e w' => (idF b 7 0 = none ∧ e = .returned (.tuple #[]) ∧ Below W1.heap.size W1 w') ∨ (∃ F, idF b 7 0 = some F ∧ Pan W1 F e w')) := checkIdentity_c HB.out hle.out _ W1 (HBY.out W1 HW1.out)
    cases hId : idF b 7 0 with
    | some F =>
      have HE : Hid (rdF b = some F) := rdF_id HNL.out hId
      have cF : Hid (Calls Tryz.prog 28 #[.agg #[.slice a b.length cap]] W1 fun e w' => Pan W1 F e w') := cId.out.mono fun e w' hq => by
        rcases hq with ⟨q, _⟩ | ⟨F', q, r⟩
        · rw [hId] at q; cases q
        · rw [hId] at q; cases q; exact r
      clear cId hId
      go_wp2_with (go_at_call 28; refine cF.out.mono ?_; rintro e w9 ⟨g, rfl, p2, p3, p4⟩)
      exact ⟨rfl, .inr ⟨_, HE.out, Pan.later (HBL.out.trans (HW1.out.mono HBL.out.size)) ⟨g, rfl, p2, p3, p4⟩⟩⟩
    | none =>
      have cT : Hid (Calls Tryz.prog 28 #[.agg #[.slice a b.length cap]] W1 fun e w' => e = .returned (.tuple #[]) ∧ Below W1.heap.size W1 w') := cId.out.mono fun e w' hq => by
        rcases hq with ⟨_, q⟩ | ⟨F', q, r⟩
        · exact q
        · rw [hId] at q; cases q
      have HID := Hid.mkI hId
      clear cId hId
      go_upto_region 3 with (go_at_call 28; refine cT.out.mono ?_; rintro e w2 ⟨rfl, hb⟩; have Hw2 : Hid (Below W1.heap.size W1 w2) := hb; clear hb)
      clear k1 cT
      have k2 := HC0.out w2 Hw2.out
      have cHd : Hid (Calls Tryz.prog 29 #[.agg #[.slice a b.length cap]] w2 fun e w' => (hdF b = none ∧ e = .returned (.tuple #[]) ∧ Below w2.heap.size w2 w') ∨ (∃ F, hdF b = some F ∧ Pan w2 F e w')) := checkHead_c HB.out hle.out _ w2 (HBY.out w2 Hw2.out)
      cases hHd : hdF b with
      | some F =>
        have HE : Hid (rdF b = some F) := rdF_hd HNL.out HID.out hHd
        have cF : Hid (Calls Tryz.prog 29 #[.agg #[.slice a b.length cap]] w2 fun e w' => Pan w2 F e w') := cHd.out.mono fun e w' hq => by
          rcases hq with ⟨q, _⟩ | ⟨F', q, r⟩
          · rw [hHd] at q; cases q
          · rw [hHd] at q; cases q; exact r
        clear cHd hHd
        go_wp2_with (go_at_call 29; refine cF.out.mono ?_; rintro e w9 ⟨g, rfl, p2, p3, p4⟩)
        exact ⟨rfl, .inr ⟨_, HE.out, Pan.later (HBL.out.trans (Hw2.out.mono HBL.out.size)) ⟨g, rfl, p2, p3, p4⟩⟩⟩
      | none =>
        have cT : Hid (Calls Tryz.prog 29 #[.agg #[.slice a b.length cap]] w2 fun e w' => e = .returned (.tuple #[]) ∧ Below w2.heap.size w2 w') := cHd.out.mono fun e w' hq => by
          rcases hq with ⟨_, q⟩ | ⟨F', q, r⟩
          · exact q
          · rw [hHd] at q; cases q
        have HHD := Hid.mkI hHd
        have h64 : Hid (64 ≤ b.length) := hd_len hHd
        clear cHd hHd
        go_upto_region 4 with (go_at_call 29; refine cT.out.mono ?_; rintro e w3 ⟨rfl, hb⟩; have Hw3 : Hid (Below W1.heap.size W1 w3) := Hw2.out.trans (hb.mono Hw2.out.size); clear hb)
        clear k2 cT
        have k3 := HC0.out w3 Hw3.out
        have cPa : Hid (Calls Tryz.prog 30 #[.agg #[.slice a b.length cap]] w3 fun e w' => (paF b = none ∧ ∃ u L, e = .returned u ∧ w'.ownsRow w3.heap.size 42 4 u L.length (sgl L) ∧ Dts b w3.heap.size w' L (paL b) ∧ Below w3.heap.size w3 w') ∨ (∃ F, paF b = some F ∧ Pan w3 F e w')) := parts_c HB.out hle.out h64.out _ w3 (HBY.out w3 Hw3.out)
        cases hPa : paF b with
        | some F =>
          have HE : Hid (rdF b = some F) := rdF_pa HNL.out HID.out HHD.out hPa
          have cF : Hid (Calls Tryz.prog 30 #[.agg #[.slice a b.length cap]] w3 fun e w' => Pan w3 F e w') := cPa.out.mono fun e w' hq => by
            rcases hq with ⟨q, _⟩ | ⟨F', q, r⟩
            · rw [hPa] at q; cases q
            · rw [hPa] at q; cases q; exact r
          clear cPa hPa
          go_wp2_with (go_at_call 30; refine cF.out.mono ?_; rintro e w9 ⟨g, rfl, p2, p3, p4⟩)
          exact ⟨rfl, .inr ⟨_, HE.out, Pan.later (HBL.out.trans (Hw3.out.mono HBL.out.size)) ⟨g, rfl, p2, p3, p4⟩⟩⟩
        | none =>
          have cT : Hid (Calls Tryz.prog 30 #[.agg #[.slice a b.length cap]] w3 fun e w' => ∃ um un uc L, e = .returned (.slice um un uc) ∧ w'.ownsRow w3.heap.size 42 4 (.slice um un uc) L.length (sgl L) ∧ Dts b w3.heap.size w' L (paL b) ∧ Below w3.heap.size w3 w') := cPa.out.mono fun e w' hq => by
            rcases hq with ⟨_, u, L, rfl, q1, q2, q3⟩ | ⟨F', q, r⟩
            · obtain ⟨um, un, uc, rfl⟩ := own_slice q1
              exact ⟨um, un, uc, L, rfl, q1, q2, q3⟩
            · rw [hPa] at q; cases q
          have HPA := Hid.mkI hPa
          clear cPa hPa
          go_upto_region 5 with (go_at_call 30; refine cT.out.mono ?_; rintro e w4 ⟨um, un, uc, L, rfl, q1, q2, q3⟩; have Hw4 : Hid (Below W1.heap.size W1 w4) := Hw3.out.trans (q3.mono Hw3.out.size); have HS4 := Hid.mkI q1; have HD4 := Hid.mkI q2; clear q1 q2 q3)
          clear k3 cT
          have k4 := HC0.out w4 Hw4.out
          have cNs : Hid (Calls Tryz.prog 31 #[.agg #[.slice a b.length cap]] w4 fun e w' => TnP (nsR b) w4 e w') := names_c HB.out hle.out h64.out _ w4 (HBY.out w4 Hw4.out) (HTB.out _ (HBL.out.trans (Hw4.out.mono HBL.out.size)))
          cases hNs : (nsR b).2 with
          | some F =>
            have HE : Hid (rdF b = some F) := (rdF_ns HNL.out HID.out HHD.out HPA.out).trans hNs
            have cF : Hid (Calls Tryz.prog 31 #[.agg #[.slice a b.length cap]] w4 fun e w' => Pan w4 F e w') := cNs.out.mono fun e w' hq => by
              rcases hq with ⟨q, _⟩ | ⟨F', q, r⟩
              · rw [hNs] at q; cases q
              · rw [hNs] at q; cases q; exact r
            clear cNs hNs
            go_wp2_with (go_at_call 31; refine cF.out.mono ?_; rintro e w9 ⟨g, rfl, p2, p3, p4⟩)
            exact ⟨rfl, .inr ⟨_, HE.out, Pan.later (HBL.out.trans (Hw4.out.mono HBL.out.size)) ⟨g, rfl, p2, p3, p4⟩⟩⟩
          | none =>
            have HE : Hid (rdF b = none) := (rdF_ns HNL.out HID.out HHD.out HPA.out).trans hNs
            have cT : Hid (Calls Tryz.prog 31 #[.agg #[.slice a b.length cap]] w4 fun e w' => ∃ vm vn vc, e = .returned (.slice vm vn vc) ∧ w'.ownsRow w4.heap.size 45 2 (.slice vm vn vc) (nSrt (nsR b).1).length (syl (nSrt (nsR b).1)) ∧ Below w4.heap.size w4 w') := cNs.out.mono fun e w' hq => by
              rcases hq with ⟨_, u, rfl, q1, q3⟩ | ⟨F', q, r⟩
              · obtain ⟨um, un, uc, rfl⟩ := own_slice q1
                exact ⟨um, un, uc, rfl, q1, q3⟩
              · rw [hNs] at q; cases q
            clear cNs hNs
            go_upto_region 6 with (go_at_call 31; refine cT.out.mono ?_; rintro e w5 ⟨vm, vn, vc, rfl, q1, q3⟩; have Hw5 : Hid (Below W1.heap.size W1 w5) := Hw4.out.trans (q3.mono Hw4.out.size); have HN5 := Hid.mkI q1; have B5 : Hid (Below w4.heap.size w4 w5) := q3; clear q1 q3)
            clear k4 cT
            have k5 := HC0.out w5 Hw5.out
            have cE : Hid (Calls Tryz.prog 32 #[.agg #[.slice a b.length cap], .int .i64 24] w5 fun e w' => e = .returned (.int .u64 ((vl b 24 8 : Nat) : Int)) ∧ Below w5.heap.size w5 w') := double_c HB.out hle.out _ 24 24 rfl (by have := h64.out; omega) w5 (HBY.out w5 Hw5.out)
            have HEN : Hid (∃ EN : Int, EN = ((vl b 24 8 : Nat) : Int)) := ⟨_, rfl⟩
            obtain ⟨EN, hEN⟩ := HEN.out
            rw [← hEN] at cE
            have HENV := Hid.mkI hEN
            clear hEN HEN
            go_wp2_with (go_at_call 32; refine cE.out.mono ?_; rintro e w6 ⟨rfl, hb⟩; have B6 : Hid (Below w5.heap.size w5 w6) := hb; have Hw6 : Hid (Below W1.heap.size W1 w6) := Hw5.out.trans (hb.mono Hw5.out.size); clear hb; have r2 := HR2.out w6 Hw6.out; have c20 := cell_of_row w6 (w.heap.size + 1) 0 _ _ _ r2; have c21 := cell_of_row w6 (w.heap.size + 1) 1 _ _ _ r2; have c22 := cell_of_row w6 (w.heap.size + 1) 2 _ _ _ r2; have f20 := frozen_of_row w6 (w.heap.size + 1) 0 _ _ r2; have f21 := frozen_of_row w6 (w.heap.size + 1) 1 _ _ r2; have f22 := frozen_of_row w6 (w.heap.size + 1) 2 _ _ r2; have HRR := Hid.mkI r2; clear r2)
            refine bodyPost_ret (v := .agg #[.int .u64 EN, .slice um un uc, .slice vm vn vc]) (results_cell_row Tryz.results16 _ _ (w.heap.size + 1) 26 _ (0, 0) _ (by rfl) (set3_at HRR.out _ _ _) Tryz.underlying26 (by rfl) size_img) rfl ?_
            refine .inl ⟨HE.out, _, _, L, by rw [HENV.out], ?_, below_set3 (HBL.out.trans (Hw6.out.mono HBL.out.size)) (by omega) _ _ _⟩
            have hk : ∀ j, W1.heap.size ≤ j → (((w6.setCell ⟨w.heap.size + 1, 0, none⟩ (.int .u64 EN)).setCell ⟨w.heap.size + 1, 1, none⟩ (.slice um un uc)).setCell ⟨w.heap.size + 1, 2, none⟩ (.slice vm vn vc)).heap[j]? = w6.heap[j]? := fun j hj => set3_other (by rw [hsz.out] at hj; omega) _ _ _
            refine ImO.move (B := W1.heap.size) ⟨?_, ?_, ?_⟩ HBL.out.size hk
            · exact own_below (own_below (own_ge HS4.out Hw3.out.size (fun _ _ => rfl)) B5.out) B6.out
            · exact ((HD4.out.base Hw3.out.size).next B5.out).next B6.out
            · exact own_below (own_ge HN5.out Hw4.out.size (fun _ _ => rfl)) B6.out
end Go.Proofs.YtopddflnahfomaaGreatDoor
