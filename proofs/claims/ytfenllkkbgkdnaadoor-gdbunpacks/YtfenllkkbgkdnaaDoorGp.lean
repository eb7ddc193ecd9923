/-
  Layer 17 (gdb): Unpack of the reference.
-/
import Derived.Test.YtfenllkkbgkdnaaDoorGo
namespace Go.Proofs.YtfenllkkbgkdnaaDoor
set_option linter.unusedVariables false
set_option maxRecDepth 100000
open Go.ChangeShapes Go.WideShapes Go.ChangeAt Go.RowKit Go.Deep
theorem frm_no {l : List Int} (h : mkd l = false) : isP l = false := by unfold isP frm; rw [h]; rfl
theorem frm_has {l : List Int} {j : Nat} (hj : j < (bdy l).length) (h : (bdy l).getD j 0 = 36 ∨ (bdy l).getD j 0 = 35) : isP l = false := by
  have hm : (bdy l).getD j 0 ∈ bdy l := by rw [List.getD_eq_getElem?_getD, List.getElem?_eq_getElem hj]; simp
  unfold isP frm
  rcases h with h | h
  · rw [h] at hm
    rw [show (bdy l).contains 36 = true by simpa using hm]; simp
  · rw [h] at hm
    rw [show (bdy l).contains 35 = true by simpa using hm]; simp
theorem frm_yes {l : List Int} (h : mkd l = true) (hn : ∀ t, t < (bdy l).length → (bdy l).getD t 0 ≠ 36 ∧ (bdy l).getD t 0 ≠ 35) : isP l = okD (dgA l) (dgB l) := by
  have key : ∀ c : Int, (∀ t, t < (bdy l).length → (bdy l).getD t 0 ≠ c) → (bdy l).contains c = false := fun c hc => by
    rw [Bool.eq_false_iff]
    intro h
    rw [List.contains_iff_mem] at h
    obtain ⟨t, ht, e⟩ := List.getElem_of_mem h
    exact hc t ht (by rw [List.getD_eq_getElem?_getD, List.getElem?_eq_getElem ht]; simpa using e)
  unfold isP frm
  rw [h, key 36 (fun t ht => (hn t ht).1), key 35 (fun t ht => (hn t ht).2)]
  rfl
theorem pl_half {m : List Int} (h : (stF m).1 = true) : plE m = 1 ∧ plB m = [] := by unfold plE plB; simp [h]
theorem pl_long {m : List Int} (h : (stF m).1 = false) (h2 : 1000 < (stF m).2.length) : plE m = 3 ∧ plB m = [] := by unfold plE plB; simp [h, h2]
theorem pl_ok {m : List Int} (h : (stF m).1 = false) (h2 : ¬ 1000 < (stF m).2.length) : plE m = 0 ∧ plB m = (stF m).2 := by unfold plE plB; simp [h, h2]
theorem runp_short (l : List Int) (a : Option Addr) (c : Nat) (w : World) (hl : l.length < 4) :
    Calls Tryd.prog 8 #[.slice a l.length c] w fun e w' => ∃ u, e = .returned (.tuple #[u, .int .i64 (upE l)]) ∧ Byt w' u (upB l) ∧ Below w.heap.size w w' := by
  have hm : mkd l = false := by unfold mkd; simp; intro h; omega
  have h1 : (l.length : Int) < 4 := by omega
  obtain ⟨q1, q2⟩ := up_no (frm_no hm)
  rw [q1, q2]
  clear hl hm q1 q2
  generalize l.length = n at *
  go_enter Tryd.func8, Tryd.ntmps8
  go_wp2
  go_ret2
  exact ⟨.slice none 0 0, rfl, Byt.nil _, Below.refl _ _⟩
set_option maxHeartbeats 4000000 in
theorem runp_long (l : List Int) (a : Option Addr) (c : Nat) (w : World) (hv : Byt w (.slice a l.length c) l) (hall : AllB l) (hl : 4 ≤ l.length) (hlb : l.length ≤ 140737488351232) :
    Calls Tryd.prog 8 #[.slice a l.length c] w fun e w' => ∃ u, e = .returned (.tuple #[u, .int .i64 (upE l)]) ∧ Byt w' u (upB l) ∧ Below w.heap.size w w' := by
  obtain ⟨k, hk, hk1⟩ : ∃ k, l.length = k + 3 ∧ 1 ≤ k := ⟨l.length - 3, by omega, by omega⟩
  obtain ⟨a', c', ev, hcc, hnn, hr⟩ := hv
  have hv2 : Byt w (.slice a l.length c) l := ⟨a', c', ev, hcc, hnn, hr⟩
  simp only [Value.slice.injEq] at ev
  obtain ⟨rfl, -, rfl⟩ := ev
  obtain ⟨g, off, rfl, hg, hcell⟩ := hr (by intro e; rw [e] at hk; simp at hk)
  have hc0 : w.cell? ⟨g, off, none⟩ = some (.int .u8 (l.getD 0 0)) := hcell 0 (by omega)
  have hc1 : w.cell? ⟨g, off + k, none⟩ = some (.int .u8 (l.getD (l.length - 3) 0)) := by rw [show l.length - 3 = k by omega]; exact hcell k (by omega)
  have hcA : ∀ x : Later w, x.1.cell? ⟨g, off + (k + 1), none⟩ = some (.int .u8 (dgA l)) := later_atG hg (by unfold dgA; rw [show l.length - 2 = k + 1 by omega]; exact hcell (k + 1) (by omega))
  have hcB : ∀ x : Later w, x.1.cell? ⟨g, off + (k + 2), none⟩ = some (.int .u8 (dgB l)) := later_atG hg (by unfold dgB; rw [show l.length - 1 = k + 2 by omega]; exact hcell (k + 2) (by omega))
  have mem : ∀ j, j < l.length → 0 ≤ l.getD j 0 ∧ l.getD j 0 ≤ 255 := fun j hj => hall _ (by rw [List.getD_eq_getElem?_getD, List.getElem?_eq_getElem hj]; simp)
  have HSM : Hid (∀ x : Later w, Calls Tryd.prog 14 #[.int .u8 (dgA l), .int .u8 (dgB l)] x.1 fun e w' => e = .returned (.int .i64 (dgV (dgA l) (dgB l))) ∧ Below x.1.heap.size x.1 w') := fun x => (rdig_c _ _ (mem _ (by omega)) (mem _ (by omega)) x.1).mono fun e w' ⟨h1, h2⟩ => ⟨h1, by rw [h2]; exact Below.refl _ _⟩
  have hcut := hv2.cut 1 k c (by omega) (by omega) (Nat.le_refl _) (by omega)
  have hsl : ∀ W, (Instr.slice 22 (.slice (some ⟨g, off, none⟩) (k + 3) c) (some (.int .i64 1)) (some (.int .i64 (k : Int))) none).run Tryd.prog W = .ok (.slice (if c = 1 then (some ⟨g, off, none⟩) else (some ⟨g, off, none⟩ : Option Addr).map (fun x => x.add 1)) (k - 1) (c - 1)) W := fun W => sl_lh W (some ⟨g, off, none⟩) (k + 3) c 1 k (by omega) (by omega)
  have HBY : Hid (Byt w (.slice (if c = 1 then (some ⟨g, off, none⟩) else (some ⟨g, off, none⟩ : Option Addr).map (fun x => x.add 1)) (k - 1) (c - 1)) (bdy l)) := (by unfold bdy; rw [show l.length - 4 = k - 1 by omega]; exact hcut)
  have HMA : Hid (AllB (bdy l)) := fun z hz => hall z (List.mem_of_mem_drop (List.mem_of_mem_take hz))
  have HMK : Hid (mkd l = ((l.getD 0 0 == 36) && (l.getD (l.length - 3) 0 == 35))) := (by unfold Hid mkd; rw [show decide (4 ≤ l.length) = true by simp; omega]; rfl)
  have HML : Hid ((bdy l).length = k - 1) := (by unfold Hid bdy; rw [List.length_take, List.length_drop]; omega)
  generalize (if c = 1 then (some ⟨g, off, none⟩) else (some ⟨g, off, none⟩ : Option Addr).map (fun x => x.add 1)) = aV at *
  have HNO : Hid (isP l = false → upE l = 1 ∧ upB l = []) := up_no
  have HSU : Hid (isP l = true → ¬ valD (dgA l) (dgB l) = smN (bdy l) → upE l = 160 ∧ upB l = []) := up_sum
  have HGO : Hid (isP l = true → valD (dgA l) (dgB l) = smN (bdy l) → upE l = plE (bdy l) ∧ upB l = plB (bdy l)) := up_go
  have HFN : Hid (mkd l = false → isP l = false) := frm_no
  have HFH : Hid (∀ j, j < (bdy l).length → ((bdy l).getD j 0 = 36 ∨ (bdy l).getD j 0 = 35) → isP l = false) := fun j h1 h2 => frm_has h1 h2
  have HFY : Hid (mkd l = true → (∀ t, t < (bdy l).length → (bdy l).getD t 0 ≠ 36 ∧ (bdy l).getD t 0 ≠ 35) → isP l = okD (dgA l) (dgB l)) := fun h1 h2 => frm_yes h1 h2
  have HDV : Hid (dgV (dgA l) (dgB l) = if okD (dgA l) (dgB l) then valD (dgA l) (dgB l) else -1) := rfl
  have HVB := Hid.mk' (valD_bd (dgA l) (dgB l))
  generalize dgV (dgA l) (dgB l) = dv at *
  generalize valD (dgA l) (dgB l) = vs at *
  generalize okD (dgA l) (dgB l) = ok at *
  generalize dgA l = xA at *
  generalize dgB l = xB at *
  generalize bdy l = m at *
  generalize upE l = E at *
  generalize upB l = R at *
  generalize isP l = fb at *
  generalize mkd l = mk at *
  generalize hz0 : l.getD 0 0 = z0 at *
  generalize hz1 : l.getD (l.length - 3) 0 = z1 at *
  have hmark : ¬ (k : Int) + 3 < 4 := by omega
  have hk1' : (1 : Int) ≤ (k : Int) := by omega
  have hkb : (k : Int) < 140737488351232 := by omega
  rw [hk]
  clear hcell hcut hv2 hr hnn mem hall hz0 hz1 hk hk1 hl hlb
  go_enter Tryd.func8, Tryd.ntmps8
  by_cases e0 : z0 = 36
  · subst e0
    by_cases e1 : z1 = 35
    · subst e1
      have HM2 : Hid (mk = true) := HMK.out
      replace HFY := Hid.mk' (HFY.out HM2.out)
      clear HFN HMK HM2
      go_upto_region 4 with fail
      clear hc0 hc1
      have := later_nonempty w
      refine wp_region_later (x0 := Later.start w) (by kernel_rfl) (by kernel_rfl) ?_
      repeat (go_big_quiet_step (first | (go_at_call 14; exact calls_later (HSM.out _))))
      refine wpQuiet_nil ?_
      rintro w' ⟨x9, rfl⟩
      have HB1 := Hid.mk' x9.below
      have HBY1 := Hid.mk' (HBY.out.later x9.below rfl)
      generalize x9.1 = W1 at *
      clear this hcA hcB HSM HBY
      obtain ⟨n, hn⟩ : ∃ n, n = m.length := ⟨_, rfl⟩
      have HNL := Hid.mk' hn
      have hkn : k - 1 = n := by rw [hn]; exact HML.out.symm
      rw [hkn] at hsl HBY1
      have HNB : Hid (n < k) := (by unfold Hid; omega)
      clear hn HML hkn
      go_wp2
      go_loopw [7] (fun i wr => ∃ j : Nat, j ≤ n ∧ i = .int .i64 j ∧ Hid (∀ t, t < j → m.getD t 0 ≠ 36 ∧ m.getD t 0 ≠ 35) ∧ Hid (wr = W1)) (fun i _ => n - (intOf i).toNat)
      case atStart => exact ⟨0, Nat.zero_le _, rfl, (fun t ht => by omega), rfl⟩
      case round =>
        obtain ⟨j, hj, rfl, hno, hwr⟩ := hrel
        have hwe := hwr.out
        subst hwe
        by_cases hlt : j < n
        · have hlm : j < m.length := by rw [← HNL.out]; exact hlt
          obtain ⟨a', c', e', _, _, hcl⟩ := HBY1.out
          obtain ⟨gl, off2, rfl, hgl, hcell⟩ := hcl (by intro e; rw [e] at hlm; simp at hlm)
          simp only [Value.slice.injEq] at e'
          obtain ⟨rfl, -, rfl⟩ := e'
          have hlt2 : (j : Int) < (n : Int) := by omega
          have hjb : (j : Int) < 140737488351232 := by have := HNB.out; omega
          have hce : wr.cell? ⟨gl, off2 + j, none⟩ = some (.int .u8 (m.getD j 0)) := hcell j hlm
          by_cases z36 : m.getD j 0 = 36
          · have HER := Hid.mk' (HNO.out (HFH.out j hlm (.inl z36)))
            rw [z36] at hce
            clear hcell hcl HNO HSU HGO HFH HFY hno z36
            go_wp2
            go_ret2
            exact ⟨.slice none 0 0, by rw [HER.out.1]; rfl, by rw [HER.out.2]; exact Byt.nil _, HB1.out⟩
          · by_cases z35 : m.getD j 0 = 35
            · have HER := Hid.mk' (HNO.out (HFH.out j hlm (.inr z35)))
              rw [z35] at hce
              clear hcell hcl HNO HSU HGO HFH HFY hno z36 z35
              go_wp2
              go_ret2
              exact ⟨.slice none 0 0, by rw [HER.out.1]; rfl, by rw [HER.out.2]; exact Byt.nil _, HB1.out⟩
            · have HN2 : Hid (∀ t, t < j + 1 → m.getD t 0 ≠ 36 ∧ m.getD t 0 ≠ 35) := fun t ht => by
                by_cases e : t = j
                · subst e; exact ⟨z36, z35⟩
                · exact hno.out t (by omega)
              have y36 : (m.getD j 0 == 36) = false := beq_eq_false_iff_ne.2 z36
              have y35 : (m.getD j 0 == 35) = false := beq_eq_false_iff_ne.2 z35
              generalize m.getD j 0 = z at *
              clear hcell hcl HNO HSU HGO HFH HFY hno z36 z35
              go_wp2
              go_roundw
              case rel => exact ⟨j + 1, by omega, by go_num, HN2, trivial⟩
              case measure => simp [intOf]; omega
        · have hjn : j = n := by omega
          have hz : ¬ (j : Int) < (n : Int) := by omega
          have hfb := HFY.out (fun t ht => hno.out t (by rw [hjn, HNL.out]; exact ht))
          subst hfb
          have HML : Hid (m.length ≤ 140737488351232) := (by have := HNB.out; have := HNL.out; unfold Hid; omega)
          clear hjn hlt hno HFH HFY
          cases fb with
          | false =>
            have HER := Hid.mk' (HNO.out rfl)
            have hdv : dv = -1 := HDV.out
            subst hdv
            clear HNO HSU HGO HDV
            go_wp2
            go_ret2
            exact ⟨.slice none 0 0, by rw [HER.out.1]; rfl, by rw [HER.out.2]; exact Byt.nil _, HB1.out⟩
          | true =>
            have hdv : dv = vs := HDV.out
            subst hdv
            replace HSU := Hid.mk' (HSU.out rfl)
            replace HGO := Hid.mk' (HGO.out rfl)
            have nd : ¬ dv < 0 := by have := HVB.out.1; omega
            have HRS := Hid.mk' (rsum_c m _ wr HBY1.out HMA.out (by have := HML.out; omega))
            have HST := Hid.mk' (stands_c m _ wr HBY1.out HML.out)
            clear HNO HDV
            by_cases hs : dv = smN m
            · obtain ⟨hE1, hR1⟩ := HGO.out hs
              rw [← hs] at HRS
              cases hh : (stF m).1 with
              | true =>
                obtain ⟨q1, q2⟩ := pl_half hh
                have HER : Hid (E = 1 ∧ R = []) := ⟨hE1.trans q1, hR1.trans q2⟩
                rw [hh] at HST
                clear HGO HSU hs hE1 hR1 q1 q2 hh
                go_wp2_with (first | (go_at_call 15; refine HRS.out.mono ?_; rintro e w5 ⟨rfl, hw5⟩; have hw6 := hw5.symm; subst hw6) | (go_at_call 16; refine HST.out.mono ?_; rintro e W3 ⟨u, rfl, h1, h2⟩; have HF3 := Hid.mk' h2; clear h1 h2))
                go_ret2
                exact ⟨.slice none 0 0, by rw [HER.out.1]; rfl, by rw [HER.out.2]; exact Byt.nil _, HB1.out.trans (HF3.out.b.mono HB1.out.size)⟩
              | false =>
                rw [hh] at HST
                by_cases hlo : 1000 < (stF m).2.length
                · obtain ⟨q1, q2⟩ := pl_long hh hlo
                  have HER : Hid (E = 3 ∧ R = []) := ⟨hE1.trans q1, hR1.trans q2⟩
                  generalize (stF m).2 = O at *
                  have hlo2 : (1000 : Int) < (O.length : Int) := by omega
                  clear HGO HSU hs hE1 hR1 q1 q2 hh hlo
                  go_wp2_with (first | (go_at_call 15; refine HRS.out.mono ?_; rintro e w5 ⟨rfl, hw5⟩; have hw6 := hw5.symm; subst hw6) | (go_at_call 16; refine HST.out.mono ?_; rintro e W3 ⟨u, rfl, h1, h2⟩; have HF3 := Hid.mk' h2; obtain ⟨a9, c9, e9⟩ := lenv (h1 (by trivial)); obtain ⟨n9, hn9⟩ : ∃ n, n = O.length := ⟨_, rfl⟩; rw [← hn9] at e9 hlo2; clear hn9; subst e9; clear h1 h2))
                  go_ret2
                  exact ⟨.slice none 0 0, by rw [HER.out.1]; rfl, by rw [HER.out.2]; exact Byt.nil _, HB1.out.trans (HF3.out.b.mono HB1.out.size)⟩
                · obtain ⟨q1, q2⟩ := pl_ok hh hlo
                  have HER : Hid (E = 0 ∧ R = (stF m).2) := ⟨hE1.trans q1, hR1.trans q2⟩
                  generalize (stF m).2 = O at *
                  have hlo2 : decide ((1000 : Int) < (O.length : Int)) = false := by simp; omega
                  clear HGO HSU hs hE1 hR1 q1 q2 hh hlo
                  go_wp2_with (first | (go_at_call 15; refine HRS.out.mono ?_; rintro e w5 ⟨rfl, hw5⟩; have hw6 := hw5.symm; subst hw6) | (go_at_call 16; refine HST.out.mono ?_; rintro e W3 ⟨u, rfl, h1, h2⟩; have HF3 := Hid.mk' h2; have HU := Hid.mk' (Byt.of_own (h1 (by trivial))); obtain ⟨a9, c9, e9⟩ := lenv (h1 (by trivial)); obtain ⟨n9, hn9⟩ : ∃ n, n = O.length := ⟨_, rfl⟩; rw [← hn9] at e9 hlo2; clear hn9; subst e9; clear h1 h2))
                  go_ret2
                  exact ⟨.slice a9 n9 c9, by rw [HER.out.1]; rfl, by rw [HER.out.2]; exact HU.out, HB1.out.trans (HF3.out.b.mono HB1.out.size)⟩
            · have HER := Hid.mk' (HSU.out hs)
              have hs2 : (dv != smN m) = true := by simp [hs]
              generalize smN m = sm at *
              clear HGO HSU hs HST
              go_wp2_with (go_at_call 15; refine HRS.out.mono ?_; rintro e w5 ⟨rfl, hw5⟩; have hw6 := hw5.symm; subst hw6)
              go_ret2
              exact ⟨.slice none 0 0, by rw [HER.out.1]; rfl, by rw [HER.out.2]; exact Byt.nil _, HB1.out⟩
    · have e1c : (z1 != 35) = true := by simp [e1]
      have e1b : (z1 == 35) = false := by simp [e1]
      have HER := Hid.mk' (HNO.out (HFN.out (by rw [HMK.out, e1b]; rfl)))
      clear hcA hcB HSM HNO HSU HGO HFN HFH HFY HMK e1 e1b
      go_wp2
      go_ret2
      exact ⟨.slice none 0 0, by rw [HER.out.1]; rfl, by rw [HER.out.2]; exact Byt.nil _, Below.refl _ _⟩
  · have e0c : (z0 != 36) = true := by simp [e0]
    have e0b : (z0 == 36) = false := by simp [e0]
    have HER := Hid.mk' (HNO.out (HFN.out (by rw [HMK.out, e0b]; rfl)))
    clear hcA hcB HSM HNO HSU HGO HFN HFH HFY HMK e0 e0b
    go_wp2
    go_ret2
    exact ⟨.slice none 0 0, by rw [HER.out.1]; rfl, by rw [HER.out.2]; exact Byt.nil _, Below.refl _ _⟩
theorem runp_c (l : List Int) (a : Option Addr) (c : Nat) (w : World) (hv : Byt w (.slice a l.length c) l) (hall : AllB l) (hlb : l.length ≤ 140737488351232) :
    Calls Tryd.prog 8 #[.slice a l.length c] w fun e w' => ∃ u, e = .returned (.tuple #[u, .int .i64 (upE l)]) ∧ Byt w' u (upB l) ∧ Below w.heap.size w w' := by
  by_cases h : l.length < 4
  · exact runp_short l a c w h
  · exact runp_long l a c w hv hall (by omega) hlb
end Go.Proofs.YtfenllkkbgkdnaaDoor
