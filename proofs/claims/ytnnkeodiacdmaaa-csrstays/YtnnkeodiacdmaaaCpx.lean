/-
  within, Exists of the reference.
-/
import Derived.Test.YtnnkeodiacdmaaaCpb
namespace Go.Proofs.Ytnnkeodiacdmaaa
set_option linter.unusedVariables false
open Go.ChangeShapes Go.WideShapes Go.ChangeAt Go.RowKit Go.Deep
def wi (n lo hi : Int) : Bool := decide (lo ≤ n ∧ n ≤ hi)
/-- Is there such a register? -/
def EX (n : Int) : Bool := decide (n = 768 ∨ n = 769 ∨ n = 772 ∨ n = 773 ∨ n = 774 ∨ n = 778 ∨ n = 800 ∨ n = 928 ∨ n = 930) || wi n 3857 3861 || wi n 803 831 || wi n 832 836 || wi n 944 959 || (wi n 2816 2847 && decide (n ≠ 2817)) || wi n 3072 3103
set_option maxRecDepth 100000 in
theorem rwithin_c (n lo hi : Int) (w : World) : Calls Try.prog 24 #[.int .i64 n, .int .i64 lo, .int .i64 hi] w fun e w' => e = .returned (.bool (wi n lo hi)) ∧ w' = w := by
  by_cases h0 : lo ≤ n
  · by_cases h1 : n ≤ hi
    · rw [show wi n lo hi = true by simp [wi, h0, h1]]
      go_enter Try.func24, Try.ntmps24
      go_wp2
      go_ret
      exact ⟨by simp_all, rfl⟩
    · rw [show wi n lo hi = false by simp [wi, h1]]
      go_enter Try.func24, Try.ntmps24
      go_wp2
      go_ret
      exact ⟨by simp_all, rfl⟩
  · rw [show wi n lo hi = false by simp [wi, h0]]
    go_enter Try.func24, Try.ntmps24
    go_wp2
    go_ret
    exact ⟨by simp_all, rfl⟩
set_option maxRecDepth 100000 in
set_option maxHeartbeats 2000000 in
theorem rExists_c (n : Int) (w : World) : Calls Try.prog 14 #[.int .i64 n] w fun e w' => e = .returned (.bool (EX n)) ∧ w' = w := by
  have HW : Hid (∀ a b W, Calls Try.prog 24 #[.int .i64 n, .int .i64 a, .int .i64 b] W fun e w' => e = .returned (.bool (wi n a b)) ∧ w' = W) := fun a b W => rwithin_c n a b W
  obtain ⟨r, hr⟩ : ∃ r, EX n = r := ⟨_, rfl⟩
  have HR : Hid (EX n = r) := hr
  rw [hr]
  clear hr
  go_enter Try.func14, Try.ntmps14
  go_upto_region 12 with fail
  all_goals try (
    go_ret
    exact ⟨by have h := HR.out; unfold EX at h; rw [← h]; simp_all, rfl⟩)
  go_upto_region 14 with (go_at_call 24; refine (HW.out _ _ _).mono ?_; rintro e w1 ⟨rfl, hw1⟩; subst hw1)
  all_goals try (
    go_ret
    exact ⟨by have h := HR.out; unfold EX at h; rw [← h]; simp_all, rfl⟩)
  obtain ⟨b5, hb5⟩ : ∃ b, wi n 2816 2847 = b := ⟨_, rfl⟩
  obtain ⟨b6, hb6⟩ : ∃ b, wi n 3072 3103 = b := ⟨_, rfl⟩
  obtain ⟨b7, hb7⟩ : ∃ b, (n != 2817) = b := ⟨_, rfl⟩
  have HG : Hid (r = (b5 && b7 || b6)) := by
    have h := HR.out; unfold EX at h; rw [hb5, hb6] at h
    have e7 : decide (n ≠ 2817) = b7 := by rw [← hb7]; by_cases h9 : n = 2817 <;> simp [h9]
    rw [e7] at h
    have h := h.symm
    clear hb5 hb6 hb7 e7 HW HR
    show r = _
    simp_all
  clear HR
  cases b5 <;> cases b7 <;> cases b6 <;> go_wp2_with (go_at_call 24; refine (HW.out _ _ _).mono ?_; rintro e w2 ⟨rfl, hw2⟩; subst hw2)
  all_goals (
    go_ret
    exact ⟨by rw [HG.out]; simp_all, rfl⟩)
end Go.Proofs.Ytnnkeodiacdmaaa
