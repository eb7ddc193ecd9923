/-
  The reference's reach.
-/
import Derived.Test.YtechkhlibdkmpacEd
namespace Go.Proofs.Ytechkhlibdkmpac
set_option linter.unusedVariables false
open Go.ChangeShapes Go.WideShapes Go.ChangeAt Go.RowKit Go.Deep
def rchB (k v : Int) : Bool := if k = 85 then (decide ((-2147483648) ≤ v) && decide (v < 2147483648)) && (v.tmod 4096 == 0) else if k = 74 then (decide ((-1048576) ≤ v) && decide (v < 1048576)) && (v.tmod 2 == 0) else if k = 66 then (decide ((-4096) ≤ v) && decide (v < 4096)) && (v.tmod 2 == 0) else if k = 73 then (decide ((-2048) ≤ v) && decide (v < 2048)) else if k = 83 then (decide ((-2048) ≤ v) && decide (v < 2048)) else if k = 72 then (decide (0 ≤ v) && decide (v < 64)) else if k = 87 then (decide (0 ≤ v) && decide (v < 32)) else if k = 78 then (decide (0 ≤ v) && decide (v < 4096)) else true
set_option maxRecDepth 100000 in
set_option maxHeartbeats 4000000 in
theorem reach_c (k v : Int) (w : World) (hk : 0 ≤ k ∧ k ≤ 255) (hv : -9223372036854775808 ≤ v ∧ v ≤ 9223372036854775807) :
    Calls Try.prog 14 #[.int .u8 k, .int .i64 v] w fun e w' => e = .returned (.bool (rchB k v)) ∧ w' = w := by
  obtain ⟨b, hb⟩ : ∃ b, b = rchB k v := ⟨_, rfl⟩
  rw [← hb]
  unfold rchB at hb
  by_cases h85 : k = 85
  · rw [if_pos h85] at hb
    subst h85
    by_cases h1 : (-2147483648) ≤ v
    · by_cases h2 : v < 2147483648
      · rw [decide_eq_true h1, decide_eq_true h2] at hb
        have HE : Hid (b = (v.tmod 4096 == 0)) := hb
        clear hb
        go_enter Try.func14, Try.ntmps14
        go_wp2
        go_ret
        exact ⟨by rw [HE.out]; rfl, rfl⟩
      · rw [decide_eq_false h2] at hb
        have HE : Hid (b = false) := by unfold Hid; rw [hb]; simp
        clear hb
        go_enter Try.func14, Try.ntmps14
        go_wp2
        go_ret
        exact ⟨by rw [HE.out]; rfl, rfl⟩
    · rw [decide_eq_false h1] at hb
      have HE : Hid (b = false) := by unfold Hid; rw [hb]; simp
      clear hb
      go_enter Try.func14, Try.ntmps14
      go_wp2
      go_ret
      exact ⟨by rw [HE.out]; rfl, rfl⟩
  rw [if_neg h85] at hb
  have b85 : (k == 85) = false := by simpa using h85
  by_cases h74 : k = 74
  · rw [if_pos h74] at hb
    subst h74
    by_cases h1 : (-1048576) ≤ v
    · by_cases h2 : v < 1048576
      · rw [decide_eq_true h1, decide_eq_true h2] at hb
        have HE : Hid (b = (v.tmod 2 == 0)) := hb
        clear hb
        go_enter Try.func14, Try.ntmps14
        go_wp2
        go_ret
        exact ⟨by rw [HE.out]; rfl, rfl⟩
      · rw [decide_eq_false h2] at hb
        have HE : Hid (b = false) := by unfold Hid; rw [hb]; simp
        clear hb
        go_enter Try.func14, Try.ntmps14
        go_wp2
        go_ret
        exact ⟨by rw [HE.out]; rfl, rfl⟩
    · rw [decide_eq_false h1] at hb
      have HE : Hid (b = false) := by unfold Hid; rw [hb]; simp
      clear hb
      go_enter Try.func14, Try.ntmps14
      go_wp2
      go_ret
      exact ⟨by rw [HE.out]; rfl, rfl⟩
  rw [if_neg h74] at hb
  have b74 : (k == 74) = false := by simpa using h74
  by_cases h66 : k = 66
  · rw [if_pos h66] at hb
    subst h66
    by_cases h1 : (-4096) ≤ v
    · by_cases h2 : v < 4096
      · rw [decide_eq_true h1, decide_eq_true h2] at hb
        have HE : Hid (b = (v.tmod 2 == 0)) := hb
        clear hb
        go_enter Try.func14, Try.ntmps14
        go_wp2
        go_ret
        exact ⟨by rw [HE.out]; rfl, rfl⟩
      · rw [decide_eq_false h2] at hb
        have HE : Hid (b = false) := by unfold Hid; rw [hb]; simp
        clear hb
        go_enter Try.func14, Try.ntmps14
        go_wp2
        go_ret
        exact ⟨by rw [HE.out]; rfl, rfl⟩
    · rw [decide_eq_false h1] at hb
      have HE : Hid (b = false) := by unfold Hid; rw [hb]; simp
      clear hb
      go_enter Try.func14, Try.ntmps14
      go_wp2
      go_ret
      exact ⟨by rw [HE.out]; rfl, rfl⟩
  rw [if_neg h66] at hb
  have b66 : (k == 66) = false := by simpa using h66
  by_cases h73 : k = 73
  · rw [if_pos h73] at hb
    subst h73
    by_cases h1 : (-2048) ≤ v
    · by_cases h2 : v < 2048
      · rw [decide_eq_true h1, decide_eq_true h2] at hb
        have HE : Hid (b = true) := hb
        clear hb
        go_enter Try.func14, Try.ntmps14
        go_wp2
        go_ret
        exact ⟨by rw [HE.out]; rfl, rfl⟩
      · rw [decide_eq_false h2] at hb
        have HE : Hid (b = false) := by unfold Hid; rw [hb]; simp
        clear hb
        go_enter Try.func14, Try.ntmps14
        go_wp2
        go_ret
        exact ⟨by rw [HE.out]; rfl, rfl⟩
    · rw [decide_eq_false h1] at hb
      have HE : Hid (b = false) := by unfold Hid; rw [hb]; simp
      clear hb
      go_enter Try.func14, Try.ntmps14
      go_wp2
      go_ret
      exact ⟨by rw [HE.out]; rfl, rfl⟩
  rw [if_neg h73] at hb
  have b73 : (k == 73) = false := by simpa using h73
  by_cases h83 : k = 83
  · rw [if_pos h83] at hb
    subst h83
    by_cases h1 : (-2048) ≤ v
    · by_cases h2 : v < 2048
      · rw [decide_eq_true h1, decide_eq_true h2] at hb
        have HE : Hid (b = true) := hb
        clear hb
        go_enter Try.func14, Try.ntmps14
        go_wp2
        go_ret
        exact ⟨by rw [HE.out]; rfl, rfl⟩
      · rw [decide_eq_false h2] at hb
        have HE : Hid (b = false) := by unfold Hid; rw [hb]; simp
        clear hb
        go_enter Try.func14, Try.ntmps14
        go_wp2
        go_ret
        exact ⟨by rw [HE.out]; rfl, rfl⟩
    · rw [decide_eq_false h1] at hb
      have HE : Hid (b = false) := by unfold Hid; rw [hb]; simp
      clear hb
      go_enter Try.func14, Try.ntmps14
      go_wp2
      go_ret
      exact ⟨by rw [HE.out]; rfl, rfl⟩
  rw [if_neg h83] at hb
  have b83 : (k == 83) = false := by simpa using h83
  by_cases h72 : k = 72
  · rw [if_pos h72] at hb
    subst h72
    by_cases h1 : 0 ≤ v
    · by_cases h2 : v < 64
      · rw [decide_eq_true h1, decide_eq_true h2] at hb
        have HE : Hid (b = true) := hb
        clear hb
        go_enter Try.func14, Try.ntmps14
        go_wp2
        go_ret
        exact ⟨by rw [HE.out]; rfl, rfl⟩
      · rw [decide_eq_false h2] at hb
        have HE : Hid (b = false) := by unfold Hid; rw [hb]; simp
        clear hb
        go_enter Try.func14, Try.ntmps14
        go_wp2
        go_ret
        exact ⟨by rw [HE.out]; rfl, rfl⟩
    · rw [decide_eq_false h1] at hb
      have HE : Hid (b = false) := by unfold Hid; rw [hb]; simp
      clear hb
      go_enter Try.func14, Try.ntmps14
      go_wp2
      go_ret
      exact ⟨by rw [HE.out]; rfl, rfl⟩
  rw [if_neg h72] at hb
  have b72 : (k == 72) = false := by simpa using h72
  by_cases h87 : k = 87
  · rw [if_pos h87] at hb
    subst h87
    by_cases h1 : 0 ≤ v
    · by_cases h2 : v < 32
      · rw [decide_eq_true h1, decide_eq_true h2] at hb
        have HE : Hid (b = true) := hb
        clear hb
        go_enter Try.func14, Try.ntmps14
        go_wp2
        go_ret
        exact ⟨by rw [HE.out]; rfl, rfl⟩
      · rw [decide_eq_false h2] at hb
        have HE : Hid (b = false) := by unfold Hid; rw [hb]; simp
        clear hb
        go_enter Try.func14, Try.ntmps14
        go_wp2
        go_ret
        exact ⟨by rw [HE.out]; rfl, rfl⟩
    · rw [decide_eq_false h1] at hb
      have HE : Hid (b = false) := by unfold Hid; rw [hb]; simp
      clear hb
      go_enter Try.func14, Try.ntmps14
      go_wp2
      go_ret
      exact ⟨by rw [HE.out]; rfl, rfl⟩
  rw [if_neg h87] at hb
  have b87 : (k == 87) = false := by simpa using h87
  by_cases h78 : k = 78
  · rw [if_pos h78] at hb
    subst h78
    by_cases h1 : 0 ≤ v
    · by_cases h2 : v < 4096
      · rw [decide_eq_true h1, decide_eq_true h2] at hb
        have HE : Hid (b = true) := hb
        clear hb
        go_enter Try.func14, Try.ntmps14
        go_wp2
        go_ret
        exact ⟨by rw [HE.out]; rfl, rfl⟩
      · rw [decide_eq_false h2] at hb
        have HE : Hid (b = false) := by unfold Hid; rw [hb]; simp
        clear hb
        go_enter Try.func14, Try.ntmps14
        go_wp2
        go_ret
        exact ⟨by rw [HE.out]; rfl, rfl⟩
    · rw [decide_eq_false h1] at hb
      have HE : Hid (b = false) := by unfold Hid; rw [hb]; simp
      clear hb
      go_enter Try.func14, Try.ntmps14
      go_wp2
      go_ret
      exact ⟨by rw [HE.out]; rfl, rfl⟩
  rw [if_neg h78] at hb
  have b78 : (k == 78) = false := by simpa using h78
  have HE : Hid (b = true) := hb
  clear hb h85 h74 h66 h73 h83 h72 h87 h78
  go_enter Try.func14, Try.ntmps14
  go_wp2
  go_ret
  exact ⟨by rw [HE.out]; rfl, rfl⟩
end Go.Proofs.Ytechkhlibdkmpac
