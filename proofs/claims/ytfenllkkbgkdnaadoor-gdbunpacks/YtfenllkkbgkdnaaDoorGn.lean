/-
  Layer 17 (gdb): the reference's digits, and what a body stands for.
-/
import Derived.Test.YtfenllkkbgkdnaaDoorGm
import Derived.Test.YtfenllkkbgkdnaaDoorGe
namespace Go.Proofs.YtfenllkkbgkdnaaDoor
set_option linter.unusedVariables false
set_option maxRecDepth 100000
open Go.ChangeShapes Go.WideShapes Go.ChangeAt Go.RowKit Go.Deep
set_option maxHeartbeats 4000000 in
theorem rhexd_c (c : Int) (h0 : 0 ≤ c) (h1 : c ≤ 255) (w : World) : Calls Tryd.prog 20 #[.int .u8 c] w fun e w' => e = .returned (.int .i64 (hv c)) ∧ w' = w := by
  by_cases hd : 48 ≤ c ∧ c ≤ 57
  · have HH : Hid (hv c = c - 48) := hv_dig hd
    obtain ⟨a1, a2⟩ := hd
    rw [HH.out]
    clear HH
    go_enter Tryd.func20, Tryd.ntmps20
    go_wp2
    go_ret
    exact ⟨rfl, rfl⟩
  by_cases hl : 97 ≤ c ∧ c ≤ 102
  · have HH : Hid (hv c = c - 87) := (by unfold Hid hv; rw [if_neg hd, if_pos hl])
    obtain ⟨a1, a2⟩ := hl
    have b1 : 48 ≤ c := by omega
    have b2 : ¬ c ≤ 57 := by omega
    rw [HH.out]
    clear HH hd
    go_enter Tryd.func20, Tryd.ntmps20
    go_wp2
    go_ret
    exact ⟨by rw [show c - 87 = c - 97 + 10 by omega]; rfl, rfl⟩
  by_cases hc : 65 ≤ c ∧ c ≤ 70
  · have HH : Hid (hv c = c - 55) := (by unfold Hid hv; rw [if_neg hd, if_neg hl, if_pos hc])
    obtain ⟨a1, a2⟩ := hc
    have b1 : 48 ≤ c := by omega
    have b2 : ¬ c ≤ 57 := by omega
    have b3 : ¬ 97 ≤ c := by omega
    rw [HH.out]
    clear HH hd hl
    go_enter Tryd.func20, Tryd.ntmps20
    go_wp2
    go_ret
    exact ⟨by rw [show c - 55 = c - 65 + 10 by omega]; rfl, rfl⟩
  have HH : Hid (hv c = -1) := (by unfold Hid hv; rw [if_neg hd, if_neg hl, if_neg hc])
  rw [HH.out]
  rcases (show c < 48 ∨ (57 < c ∧ c < 65) ∨ (70 < c ∧ c < 97) ∨ 102 < c by omega) with q | q | q | q
  · have b1 : ¬ 48 ≤ c := by omega
    have b2 : ¬ 97 ≤ c := by omega
    have b3 : ¬ 65 ≤ c := by omega
    clear HH hd hl hc q
    go_enter Tryd.func20, Tryd.ntmps20
    go_wp2
    go_ret
    exact ⟨rfl, rfl⟩
  · have b1 : 48 ≤ c := by omega
    have b4 : ¬ c ≤ 57 := by omega
    have b2 : ¬ 97 ≤ c := by omega
    have b3 : ¬ 65 ≤ c := by omega
    clear HH hd hl hc q
    go_enter Tryd.func20, Tryd.ntmps20
    go_wp2
    go_ret
    exact ⟨rfl, rfl⟩
  · have b1 : 48 ≤ c := by omega
    have b4 : ¬ c ≤ 57 := by omega
    have b2 : ¬ 97 ≤ c := by omega
    have b3 : 65 ≤ c := by omega
    have b5 : ¬ c ≤ 70 := by omega
    clear HH hd hl hc q
    go_enter Tryd.func20, Tryd.ntmps20
    go_wp2
    go_ret
    exact ⟨rfl, rfl⟩
  · have b1 : 48 ≤ c := by omega
    have b4 : ¬ c ≤ 57 := by omega
    have b2 : 97 ≤ c := by omega
    have b6 : ¬ c ≤ 102 := by omega
    have b3 : 65 ≤ c := by omega
    have b5 : ¬ c ≤ 70 := by omega
    clear HH hd hl hc q
    go_enter Tryd.func20, Tryd.ntmps20
    go_wp2
    go_ret
    exact ⟨rfl, rfl⟩
def dgV (x y : Int) : Int := if okD x y then valD x y else -1
set_option maxHeartbeats 4000000 in
theorem rdig_c (x y : Int) (hx : 0 ≤ x ∧ x ≤ 255) (hy : 0 ≤ y ∧ y ≤ 255) (w : World) : Calls Tryd.prog 14 #[.int .u8 x, .int .u8 y] w fun e w' => e = .returned (.int .i64 (dgV x y)) ∧ w' = w := by
  have H1 := Hid.mk' (rhexd_c x hx.1 hx.2 w)
  have H2 := Hid.mk' (rhexd_c y hy.1 hy.2 w)
  have HV : Hid (dgV x y = if 0 ≤ hv x ∧ 0 ≤ hv y then hv x * 16 + hv y else -1) := (by
    unfold Hid dgV valD okD
    by_cases h : 0 ≤ hv x ∧ 0 ≤ hv y
    · simp [h]
    · rw [if_neg h, if_neg (by simp; omega)])
  have l1 := hv_le x
  have l2 := hv_le y
  have g1 : -1 ≤ hv x := by unfold hv; split <;> (try split) <;> (try split) <;> omega
  have g2 : -1 ≤ hv y := by unfold hv; split <;> (try split) <;> (try split) <;> omega
  generalize dgV x y = D at *
  generalize hv x = p at *
  generalize hv y = q at *
  clear hx hy
  have HFL : Hid True := trivial
  by_cases hp : 0 ≤ p
  · by_cases hq : 0 ≤ q
    · obtain rfl : D = p * 16 + q := by rw [HV.out, if_pos ⟨hp, hq⟩]
      have n1 : ¬ p < 0 := by omega
      have n2 : ¬ q < 0 := by omega
      clear HV
      go_enter Tryd.func14, Tryd.ntmps14
      go_wp2_with (first | (go_at_call 20; clear HFL; refine H1.out.mono ?_; rintro e w5 ⟨rfl, hw5⟩; have hw6 := hw5.symm; subst hw6) | (go_at_call 20; refine H2.out.mono ?_; rintro e w5 ⟨rfl, hw5⟩; have hw6 := hw5.symm; subst hw6))
      go_ret
      exact ⟨by rw [show p * 16 + q = 16 * p + q by omega]; rfl, rfl⟩
    · obtain rfl : D = -1 := by rw [HV.out, if_neg (fun h => hq h.2)]
      have n1 : ¬ p < 0 := by omega
      have n2 : q < 0 := by omega
      clear HV hq
      go_enter Tryd.func14, Tryd.ntmps14
      go_wp2_with (first | (go_at_call 20; clear HFL; refine H1.out.mono ?_; rintro e w5 ⟨rfl, hw5⟩; have hw6 := hw5.symm; subst hw6) | (go_at_call 20; refine H2.out.mono ?_; rintro e w5 ⟨rfl, hw5⟩; have hw6 := hw5.symm; subst hw6))
      go_ret
      exact ⟨rfl, rfl⟩
  · obtain rfl : D = -1 := by rw [HV.out, if_neg (fun h => hp h.1)]
    have n1 : p < 0 := by omega
    clear HV hp
    go_enter Tryd.func14, Tryd.ntmps14
    go_wp2_with (first | (go_at_call 20; clear HFL; refine H1.out.mono ?_; rintro e w5 ⟨rfl, hw5⟩; have hw6 := hw5.symm; subst hw6) | (go_at_call 20; refine H2.out.mono ?_; rintro e w5 ⟨rfl, hw5⟩; have hw6 := hw5.symm; subst hw6))
    go_ret
    exact ⟨rfl, rfl⟩
end Go.Proofs.YtfenllkkbgkdnaaDoor
