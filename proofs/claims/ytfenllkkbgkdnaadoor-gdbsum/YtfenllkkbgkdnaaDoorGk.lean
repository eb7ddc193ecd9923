/-
  Layer 17 (gdb): cut.
-/
import Derived.Test.YtfenllkkbgkdnaaDoorGj
namespace Go.Proofs.YtfenllkkbgkdnaaDoor
set_option linter.unusedVariables false
set_option maxRecDepth 100000
open Go.ChangeShapes Go.WideShapes Go.ChangeAt Go.RowKit Go.Deep
theorem later_atG {W : World} {g j : Nat} {v : Value} (hg : g < W.heap.size) (h : W.cell? ⟨g, j, none⟩ = some v) : ∀ x : Later W, x.1.cell? ⟨g, j, none⟩ = some v := fun x => (later_cell x (by exact hg)).trans h
theorem cut_short (l : List Int) (a : Option Addr) (c : Nat) (w : World) (hl : l.length < 4) :
    Calls Tryd.prog 11 #[.slice a l.length c] w fun e w' => CutP l w e w' := by
  have hm : mkd l = false := by unfold mkd; simp; intro h; omega
  have h1 : (l.length : Int) - 3 < 1 := by omega
  have HF : Hid (frm l = false) := (by unfold Hid frm; rw [hm]; rfl)
  clear hl hm
  generalize l.length = n at *
  go_enter Tryd.func11, Tryd.ntmps11
  go_wp2
  go_ret3
  exact CutP.no HF.out (Below.refl _ _)
set_option maxHeartbeats 4000000 in
theorem cut_long (l : List Int) (a : Option Addr) (c : Nat) (w : World) (hv : Byt w (.slice a l.length c) l) (hall : AllB l) (hl : 4 ≤ l.length) (hlb : l.length ≤ 140737488355328) (hE : Es w) :
    Calls Tryd.prog 11 #[.slice a l.length c] w fun e w' => CutP l w e w' := by
  obtain ⟨k, hk, hk1⟩ : ∃ k, l.length = k + 3 ∧ 1 ≤ k := ⟨l.length - 3, by omega, by omega⟩
  obtain ⟨a', c', ev, hcc, hnn, hr⟩ := hv
  have hv2 : Byt w (.slice a l.length c) l := ⟨a', c', ev, hcc, hnn, hr⟩
  simp only [Value.slice.injEq] at ev
  obtain ⟨rfl, -, rfl⟩ := ev
  obtain ⟨g, off, rfl, hg, hcell⟩ := hr (by intro e; rw [e] at hk; simp at hk)
  have hc0 : w.cell? ⟨g, off, none⟩ = some (.int .u8 (l.getD 0 0)) := hcell 0 (by omega)
  have hc1 : w.cell? ⟨g, off + k, none⟩ = some (.int .u8 (l.getD (l.length - 3) 0)) := by rw [show l.length - 3 = k by omega]; exact hcell k (by omega)
  have hcA : ∀ x : Later w, x.1.cell? ⟨g, off + (k + 1), none⟩ = some (.int .u8 (dgA l)) := later_atG hg (by unfold dgA; rw [show l.length - 2 = k + 1 by omega]; exact hcell (k + 1) (by omega))
  have hcB : ∀ x : Later w, x.1.cell? ⟨g, off + (k + 2), none⟩ = some (.int .u8 (dgB l)) := later_atG hg (by unfold dgB; rw [show l.length - 1 = k + 2 by omega]; exact hcell (k + 2) (by omega))
  have mem : ∀ j, j < l.length → 0 ≤ l.getD j 0 ∧ l.getD j 0 ≤ 255 := fun j hj => hall _ (by rw [List.getD_eq_getElem?_getD, List.getElem?_eq_getElem hj]; simp)
  have HSM : Hid (∀ x : Later w, Calls Tryd.prog 18 #[.int .u8 (dgA l), .int .u8 (dgB l)] x.1 fun e w' => e = .returned (.tuple #[.int .u8 (valD (dgA l) (dgB l)), .bool (okD (dgA l) (dgB l))]) ∧ Below x.1.heap.size x.1 w') := fun x => sumOf_c _ _ (mem _ (by omega)) (mem _ (by omega)) x.1 (hE.later x.below)
  have hcut := hv2.cut 1 k c (by omega) (by omega) (Nat.le_refl _) (by omega)
  have hsl : ∀ W, (Instr.slice 22 (.slice (some ⟨g, off, none⟩) (k + 3) c) (some (.int .i64 1)) (some (.int .i64 (k : Int))) none).run Tryd.prog W = .ok (.slice (if c = 1 then (some ⟨g, off, none⟩) else (some ⟨g, off, none⟩ : Option Addr).map (fun x => x.add 1)) (k - 1) (c - 1)) W := fun W => sl_lh W (some ⟨g, off, none⟩) (k + 3) c 1 k (by omega) (by omega)
  have HOW : Hid (∀ q, (Value.slice (if c = 1 then (some ⟨g, off, none⟩) else (some ⟨g, off, none⟩ : Option Addr).map (fun x => x.add 1)) (k - 1) (c - 1)).ownBlock = some q → q < w.heap.size) := fun q hq => by
    have e : (Value.slice (if c = 1 then (some ⟨g, off, none⟩) else (some ⟨g, off, none⟩ : Option Addr).map (fun x => x.add 1)) (k - 1) (c - 1)).ownBlock = some g := by
      split
      · rfl
      · simp [addAt, Value.ownBlock]
    rw [e] at hq
    cases hq
    exact hg
  have HBY : Hid (Byt w (.slice (if c = 1 then (some ⟨g, off, none⟩) else (some ⟨g, off, none⟩ : Option Addr).map (fun x => x.add 1)) (k - 1) (c - 1)) (bdy l)) := (by unfold bdy; rw [show l.length - 4 = k - 1 by omega]; exact hcut)
  have HMA : Hid (AllB (bdy l)) := fun z hz => hall z (List.mem_of_mem_drop (List.mem_of_mem_take hz))
  have HMK : Hid (mkd l = ((l.getD 0 0 == 36) && (l.getD (l.length - 3) 0 == 35))) := (by unfold Hid mkd; rw [show decide (4 ≤ l.length) = true by simp; omega]; rfl)
  generalize Value.slice (if c = 1 then (some ⟨g, off, none⟩) else (some ⟨g, off, none⟩ : Option Addr).map (fun x => x.add 1)) (k - 1) (c - 1) = V6 at *
  have HFR : Hid (frm l = (mkd l && !(bdy l).contains 36 && !(bdy l).contains 35)) := rfl
  have HI1 := Hid.mk' (idx_c (bdy l) V6 36 w HBY.out HMA.out (by omega))
  have HI2 := Hid.mk' (idx_c (bdy l) V6 35 w HBY.out HMA.out (by omega))
  generalize hz0 : l.getD 0 0 = z0 at *
  generalize hz1 : l.getD (l.length - 3) 0 = z1 at *
  have hmark : ¬ (k : Int) < 1 := by omega
  have hk1' : (1 : Int) ≤ (k : Int) := by omega
  have hkb : (k : Int) < 140737488355328 := by omega
  rw [hk]
  clear hcell hcut hv2 hr hnn mem hall hz0 hz1 hE hk hk1 hl hlb
  go_enter Tryd.func11, Tryd.ntmps11
  by_cases e0 : z0 = 36
  · subst e0
    by_cases e1 : z1 = 35
    · subst e1
      have HM2 : Hid (mkd l = true) := HMK.out
      rw [HM2.out] at HFR
      cases h36 : (bdy l).contains 36 with
      | true =>
        rw [h36] at HFR HI1
        have HF0 : Hid (frm l = false) := (by unfold Hid; rw [HFR.out]; rfl)
        clear hcA hcB HSM HI2 HFR h36
        go_wp2_with (go_at_call 17; refine HI1.out.mono ?_; rintro e w5 ⟨⟨i, rfl, hi⟩, hw5⟩; have hw6 := hw5.symm; subst hw6; have hi2 : 0 ≤ i := (by simpa using hi); clear hi)
        go_ret3
        exact CutP.no HF0.out (Below.refl _ _)
      | false =>
        rw [h36] at HFR HI1
        have HFL : Hid True := trivial
        cases h35 : (bdy l).contains 35 with
        | true =>
          rw [h35] at HFR HI2
          have HF0 : Hid (frm l = false) := (by unfold Hid; rw [HFR.out]; rfl)
          clear hcA hcB HSM HFR h36 h35
          go_wp2_with (first | (go_at_call 17; clear HFL; refine HI1.out.mono ?_; rintro e w5 ⟨⟨i, rfl, hi⟩, hw5⟩; have hw6 := hw5.symm; subst hw6; have hi2 : ¬ 0 ≤ i := (by simpa using hi); clear hi) | (go_at_call 17; refine HI2.out.mono ?_; rintro e w5 ⟨⟨j, rfl, hj⟩, hw5⟩; have hw6 := hw5.symm; subst hw6; have hj2 : 0 ≤ j := (by simpa using hj); clear hj))
          go_ret3
          exact CutP.no HF0.out (Below.refl _ _)
        | false =>
          rw [h35] at HFR HI2
          have HF1 : Hid (frm l = true) := HFR.out
          have HFIN : Hid (∀ w' s b, s = valD (dgA l) (dgB l) → b = okD (dgA l) (dgB l) → Below w.heap.size w w' → CutP l w (.returned (.tuple #[V6, .int .u8 s, .bool b])) w') := fun w' s b h1 h2 h3 => by
            subst h1 h2
            exact ⟨_, _, _, rfl, by rw [HF1.out]; rfl, fun _ => ⟨HBY.out.later h3 rfl, rfl, HOW.out⟩, h3⟩
          generalize valD (dgA l) (dgB l) = vs at *
          generalize okD (dgA l) (dgB l) = ok at *
          generalize dgA l = xA at *
          generalize dgB l = xB at *
          clear HFR h36 h35 HF1
          go_upto_region 7 with (first | (go_at_call 17; clear HFL; refine HI1.out.mono ?_; rintro e w5 ⟨⟨i, rfl, hi⟩, hw5⟩; have hw6 := hw5.symm; subst hw6) | (go_at_call 17; refine HI2.out.mono ?_; rintro e w5 ⟨⟨j, rfl, hj⟩, hw5⟩; have hw6 := hw5.symm; subst hw6))
          clear HI1 HI2 hc0 hc1 hsl
          have := later_nonempty w
          refine wp_region_later (x0 := Later.start w) (by kernel_rfl) (by kernel_rfl) ?_
          repeat (go_big_quiet_step (first | (go_at_call 18; exact calls_later (HSM.out _))))
          refine wpQuiet_nil ?_
          rintro w' ⟨x9, rfl⟩
          have HBX := Hid.mk' x9.below
          clear this hcA hcB HSM
          go_wp2
          go_ret3
          exact HFIN.out _ _ _ rfl rfl HBX.out
    · have e1b : (z1 == 35) = false := by simp [e1]
      have HF0 : Hid (frm l = false) := (by unfold Hid; rw [HFR.out, HMK.out, e1b]; rfl)
      have e1c : (z1 != 35) = true := by simp [e1]
      clear hcA hcB HSM HI1 HI2 HFR HMK e1b e1
      go_wp2
      go_ret3
      exact CutP.no HF0.out (Below.refl _ _)
  · have e0b : (z0 == 36) = false := by simp [e0]
    have HF0 : Hid (frm l = false) := (by unfold Hid; rw [HFR.out, HMK.out, e0b]; rfl)
    have e0c : (z0 != 36) = true := by simp [e0]
    clear hcA hcB HSM HI1 HI2 HFR HMK e0b e0
    go_wp2
    go_ret3
    exact CutP.no HF0.out (Below.refl _ _)
theorem cut_c (l : List Int) (a : Option Addr) (c : Nat) (w : World) (hv : Byt w (.slice a l.length c) l) (hall : AllB l) (hlb : l.length ≤ 140737488355328) (hE : Es w) :
    Calls Tryd.prog 11 #[.slice a l.length c] w fun e w' => CutP l w e w' := by
  by_cases h : l.length < 4
  · exact cut_short l a c w h
  · exact cut_long l a c w hv hall (by omega) hlb hE
end Go.Proofs.YtfenllkkbgkdnaaDoor
