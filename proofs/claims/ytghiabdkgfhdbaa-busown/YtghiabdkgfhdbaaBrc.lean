/-
  reach and Can of the reference.
-/
import Derived.Test.YtghiabdkgfhdbaaBrt
namespace Go.Proofs.Ytghiabdkgfhdbaa
set_option linter.unusedVariables false
open Go.ChangeShapes Go.WideShapes Go.ChangeAt Go.RowKit Go.Deep
/-- What an access reaches, by the reference's numbers. -/
def rch (n : Nat) (a z : Int) : Int :=
  if hasM n a z then 1 else if hasU a z then 10 else
  if z = 4 then (if a = 1048576 then 2 else if a = 33554432 then 3 else if a = 33570816 then 5 else if a = 33570820 then 6 else if a = 33603576 then 8 else if a = 33603580 then 9 else 0)
  else if z = 8 then (if a = 33570816 then 4 else if a = 33603576 then 7 else 0) else 0
theorem fnd_le (n : Nat) (a z : Int) : fnd n a z ≤ 6 := by
  unfold fnd
  repeat' split
  all_goals omega
theorem rch_fnd (n : Nat) (a z : Int) : (rch n a z = 0) ↔ (fnd n a z = 6) := by
  unfold rch fnd
  by_cases h1 : hasM n a z = true
  · simp [h1]
  · by_cases h2 : hasU a z = true
    · simp [h1, h2]
    · simp only [h1, h2, Bool.false_eq_true, if_false]
      unfold hasC hasS hasF
      by_cases h4 : z = 4
      · subst h4
        simp
        by_cases q1 : a = 1048576
        · subst q1; decide
        · by_cases q2 : a = 33554432
          · subst q2; decide
          · by_cases q3 : a = 33570816
            · subst q3; decide
            · by_cases q4 : a = 33570820
              · subst q4; decide
              · by_cases q5 : a = 33603576
                · subst q5; decide
                · by_cases q6 : a = 33603580
                  · subst q6; decide
                  · simp [q1, q2, q3, q4, q5, q6]
      · by_cases h8 : z = 8
        · subst h8
          simp
          by_cases q3 : a = 33570816
          · subst q3; decide
          · by_cases q5 : a = 33603576
            · subst q5; decide
            · simp [q3, q5]
        · simp [h4, h8]
set_option maxRecDepth 100000 in
set_option maxHeartbeats 8000000 in
theorem reach_c {B c : Nat} {S : St} {vr vi vo : Value} (w : World) (h : RB B c S vr vi vo w) (hn : S.ram.length ≤ 65536) (a z : Int) (ha : 0 ≤ a ∧ a ≤ 18446744073709551615) (hz : -9223372036854775808 ≤ z ∧ z ≤ 9223372036854775807) : Calls Try.prog 54 #[.pointer (some ⟨c, 0, none⟩), .int .u64 a, .int .i64 z] w fun e w' => e = .returned (.int .i64 (rch S.ram.length a z)) ∧ w' = w := by
  have HI := risRam_c w h hn a z ha hz
  obtain ⟨r, hr⟩ : ∃ r, r = rch S.ram.length a z := ⟨_, rfl⟩
  rw [← hr]
  generalize S.ram.length = n at *
  clear h
  by_cases h1 : z = 1
  · subst h1
    have ht : a.tmod 1 = a % 1 := Int.tmod_eq_emod_of_nonneg ha.1
    cases hq : hld n a 1 with
    | true =>
      rw [hq, show (decide ((1 : Int) ≤ 1) && true) = true from rfl] at HI
      rcases Bool.eq_false_or_eq_true (a % 1 == 0) with hm | hm
      · have hM : hasM n a 1 = true := by unfold hasM; rw [hq, hm]; rfl
        have HX : Hid (r = 1) := by unfold Hid; rw [hr]; simp [rch, hM]
        clear hr
        go_enter Try.func54, Try.ntmps54
        go_wp2_with (go_at_call 36; refine HI.mono ?_; rintro e w1 ⟨rfl, hw⟩; have hw2 := hw.symm; subst hw2)
        go_ret
        exact ⟨by cases HX.out; rfl, rfl⟩
      · exact absurd hm (by simp)
    | false =>
      rw [hq, show (decide ((1 : Int) ≤ 1) && false) = false from rfl] at HI
      have hM : hasM n a 1 = false := by unfold hasM; rw [hq]; simp
      rcases Int.lt_or_le a 268435456 with g1 | g1
      · have hU : hasU a 1 = false := by unfold hasU; rw [show decide (268435456 ≤ a) = false from decide_eq_false (by omega)]; rfl
        have HX : Hid (r = 0) := by unfold Hid; rw [hr]; simp [rch, hM, hU]
        clear hr
        go_enter Try.func54, Try.ntmps54
        go_wp2_with (go_at_call 36; refine HI.mono ?_; rintro e w1 ⟨rfl, hw⟩; have hw2 := hw.symm; subst hw2)
        go_ret
        exact ⟨by cases HX.out; rfl, rfl⟩
      · rcases Int.lt_or_le a 268435464 with g2 | g2
        · have hU : hasU a 1 = true := by unfold hasU; rw [show decide (268435456 ≤ a) = true from decide_eq_true g1, show decide (a < 268435464) = true from decide_eq_true g2]; rfl
          have HX : Hid (r = 10) := by unfold Hid; rw [hr]; simp [rch, hM, hU]
          clear hr
          go_enter Try.func54, Try.ntmps54
          go_wp2_with (go_at_call 36; refine HI.mono ?_; rintro e w1 ⟨rfl, hw⟩; have hw2 := hw.symm; subst hw2)
          go_ret
          exact ⟨by cases HX.out; rfl, rfl⟩
        · have hU : hasU a 1 = false := by unfold hasU; rw [show decide (a < 268435464) = false from decide_eq_false (by omega)]; simp
          have HX : Hid (r = 0) := by unfold Hid; rw [hr]; simp [rch, hM, hU]
          clear hr
          go_enter Try.func54, Try.ntmps54
          go_wp2_with (go_at_call 36; refine HI.mono ?_; rintro e w1 ⟨rfl, hw⟩; have hw2 := hw.symm; subst hw2)
          go_ret
          exact ⟨by cases HX.out; rfl, rfl⟩
  · by_cases h2 : z = 2
    · subst h2
      have ht : a.tmod 2 = a % 2 := Int.tmod_eq_emod_of_nonneg ha.1
      cases hq : hld n a 2 with
      | true =>
        rw [hq, show (decide ((1 : Int) ≤ 2) && true) = true from rfl] at HI
        rcases Bool.eq_false_or_eq_true (a % 2 == 0) with hm | hm
        · have hM : hasM n a 2 = true := by unfold hasM; rw [hq, hm]; rfl
          have HX : Hid (r = 1) := by unfold Hid; rw [hr]; simp [rch, hM]
          clear hr
          go_enter Try.func54, Try.ntmps54
          go_wp2_with (go_at_call 36; refine HI.mono ?_; rintro e w1 ⟨rfl, hw⟩; have hw2 := hw.symm; subst hw2)
          go_ret
          exact ⟨by cases HX.out; rfl, rfl⟩
        · have hM : hasM n a 2 = false := by unfold hasM; rw [hq, hm]; rfl
          have hU : hasU a 2 = false := rfl
          have HX : Hid (r = 0) := by unfold Hid; rw [hr]; simp [rch, hM, hU]
          clear hr
          go_enter Try.func54, Try.ntmps54
          go_wp2_with (go_at_call 36; refine HI.mono ?_; rintro e w1 ⟨rfl, hw⟩; have hw2 := hw.symm; subst hw2)
          go_ret
          exact ⟨by cases HX.out; rfl, rfl⟩
      | false =>
        rw [hq, show (decide ((1 : Int) ≤ 2) && false) = false from rfl] at HI
        have hM : hasM n a 2 = false := by unfold hasM; rw [hq]; simp
        have hU : hasU a 2 = false := rfl
        have HX : Hid (r = 0) := by unfold Hid; rw [hr]; simp [rch, hM, hU]
        clear hr
        go_enter Try.func54, Try.ntmps54
        go_wp2_with (go_at_call 36; refine HI.mono ?_; rintro e w1 ⟨rfl, hw⟩; have hw2 := hw.symm; subst hw2)
        go_ret
        exact ⟨by cases HX.out; rfl, rfl⟩
    · by_cases h4 : z = 4
      · subst h4
        have ht : a.tmod 4 = a % 4 := Int.tmod_eq_emod_of_nonneg ha.1
        cases hq : hld n a 4 with
        | true =>
          rw [hq, show (decide ((1 : Int) ≤ 4) && true) = true from rfl] at HI
          rcases Bool.eq_false_or_eq_true (a % 4 == 0) with hm | hm
          · have hM : hasM n a 4 = true := by unfold hasM; rw [hq, hm]; rfl
            have HX : Hid (r = 1) := by unfold Hid; rw [hr]; simp [rch, hM]
            clear hr
            go_enter Try.func54, Try.ntmps54
            go_wp2_with (go_at_call 36; refine HI.mono ?_; rintro e w1 ⟨rfl, hw⟩; have hw2 := hw.symm; subst hw2)
            go_ret
            exact ⟨by cases HX.out; rfl, rfl⟩
          · have hM : hasM n a 4 = false := by unfold hasM; rw [hq, hm]; rfl
            have hU : hasU a 4 = false := rfl
            by_cases q1048576 : a = 1048576
            · subst q1048576
              exact absurd hm (by decide)
            · have e1048576 : (a == 1048576) = false := by simpa using q1048576
              by_cases q33554432 : a = 33554432
              · subst q33554432
                exact absurd hm (by decide)
              · have e33554432 : (a == 33554432) = false := by simpa using q33554432
                by_cases q33570816 : a = 33570816
                · subst q33570816
                  exact absurd hm (by decide)
                · have e33570816 : (a == 33570816) = false := by simpa using q33570816
                  by_cases q33570820 : a = 33570820
                  · subst q33570820
                    exact absurd hm (by decide)
                  · have e33570820 : (a == 33570820) = false := by simpa using q33570820
                    by_cases q33603576 : a = 33603576
                    · subst q33603576
                      exact absurd hm (by decide)
                    · have e33603576 : (a == 33603576) = false := by simpa using q33603576
                      by_cases q33603580 : a = 33603580
                      · subst q33603580
                        exact absurd hm (by decide)
                      · have e33603580 : (a == 33603580) = false := by simpa using q33603580
                        have HX : Hid (r = 0) := by unfold Hid; rw [hr]; simp [rch, hM, hU, q1048576, q33554432, q33570816, q33570820, q33603576, q33603580]
                        clear hr
                        go_enter Try.func54, Try.ntmps54
                        go_wp2_with (go_at_call 36; refine HI.mono ?_; rintro e w1 ⟨rfl, hw⟩; have hw2 := hw.symm; subst hw2)
                        go_ret
                        exact ⟨by cases HX.out; rfl, rfl⟩
        | false =>
          rw [hq, show (decide ((1 : Int) ≤ 4) && false) = false from rfl] at HI
          have hM : hasM n a 4 = false := by unfold hasM; rw [hq]; simp
          have hU : hasU a 4 = false := rfl
          by_cases q1048576 : a = 1048576
          · subst q1048576
            have HX : Hid (r = 2) := by unfold Hid; rw [hr]; simp [rch, hM, hU]
            clear hr
            go_enter Try.func54, Try.ntmps54
            go_wp2_with (go_at_call 36; refine HI.mono ?_; rintro e w1 ⟨rfl, hw⟩; have hw2 := hw.symm; subst hw2)
            go_ret
            exact ⟨by cases HX.out; rfl, rfl⟩
          · have e1048576 : (a == 1048576) = false := by simpa using q1048576
            by_cases q33554432 : a = 33554432
            · subst q33554432
              have HX : Hid (r = 3) := by unfold Hid; rw [hr]; simp [rch, hM, hU]
              clear hr
              go_enter Try.func54, Try.ntmps54
              go_wp2_with (go_at_call 36; refine HI.mono ?_; rintro e w1 ⟨rfl, hw⟩; have hw2 := hw.symm; subst hw2)
              go_ret
              exact ⟨by cases HX.out; rfl, rfl⟩
            · have e33554432 : (a == 33554432) = false := by simpa using q33554432
              by_cases q33570816 : a = 33570816
              · subst q33570816
                have HX : Hid (r = 5) := by unfold Hid; rw [hr]; simp [rch, hM, hU]
                clear hr
                go_enter Try.func54, Try.ntmps54
                go_wp2_with (go_at_call 36; refine HI.mono ?_; rintro e w1 ⟨rfl, hw⟩; have hw2 := hw.symm; subst hw2)
                go_ret
                exact ⟨by cases HX.out; rfl, rfl⟩
              · have e33570816 : (a == 33570816) = false := by simpa using q33570816
                by_cases q33570820 : a = 33570820
                · subst q33570820
                  have HX : Hid (r = 6) := by unfold Hid; rw [hr]; simp [rch, hM, hU]
                  clear hr
                  go_enter Try.func54, Try.ntmps54
                  go_wp2_with (go_at_call 36; refine HI.mono ?_; rintro e w1 ⟨rfl, hw⟩; have hw2 := hw.symm; subst hw2)
                  go_ret
                  exact ⟨by cases HX.out; rfl, rfl⟩
                · have e33570820 : (a == 33570820) = false := by simpa using q33570820
                  by_cases q33603576 : a = 33603576
                  · subst q33603576
                    have HX : Hid (r = 8) := by unfold Hid; rw [hr]; simp [rch, hM, hU]
                    clear hr
                    go_enter Try.func54, Try.ntmps54
                    go_wp2_with (go_at_call 36; refine HI.mono ?_; rintro e w1 ⟨rfl, hw⟩; have hw2 := hw.symm; subst hw2)
                    go_ret
                    exact ⟨by cases HX.out; rfl, rfl⟩
                  · have e33603576 : (a == 33603576) = false := by simpa using q33603576
                    by_cases q33603580 : a = 33603580
                    · subst q33603580
                      have HX : Hid (r = 9) := by unfold Hid; rw [hr]; simp [rch, hM, hU]
                      clear hr
                      go_enter Try.func54, Try.ntmps54
                      go_wp2_with (go_at_call 36; refine HI.mono ?_; rintro e w1 ⟨rfl, hw⟩; have hw2 := hw.symm; subst hw2)
                      go_ret
                      exact ⟨by cases HX.out; rfl, rfl⟩
                    · have e33603580 : (a == 33603580) = false := by simpa using q33603580
                      have HX : Hid (r = 0) := by unfold Hid; rw [hr]; simp [rch, hM, hU, q1048576, q33554432, q33570816, q33570820, q33603576, q33603580]
                      clear hr
                      go_enter Try.func54, Try.ntmps54
                      go_wp2_with (go_at_call 36; refine HI.mono ?_; rintro e w1 ⟨rfl, hw⟩; have hw2 := hw.symm; subst hw2)
                      go_ret
                      exact ⟨by cases HX.out; rfl, rfl⟩
      · by_cases h8 : z = 8
        · subst h8
          have ht : a.tmod 8 = a % 8 := Int.tmod_eq_emod_of_nonneg ha.1
          cases hq : hld n a 8 with
          | true =>
            rw [hq, show (decide ((1 : Int) ≤ 8) && true) = true from rfl] at HI
            rcases Bool.eq_false_or_eq_true (a % 8 == 0) with hm | hm
            · have hM : hasM n a 8 = true := by unfold hasM; rw [hq, hm]; rfl
              have HX : Hid (r = 1) := by unfold Hid; rw [hr]; simp [rch, hM]
              clear hr
              go_enter Try.func54, Try.ntmps54
              go_wp2_with (go_at_call 36; refine HI.mono ?_; rintro e w1 ⟨rfl, hw⟩; have hw2 := hw.symm; subst hw2)
              go_ret
              exact ⟨by cases HX.out; rfl, rfl⟩
            · have hM : hasM n a 8 = false := by unfold hasM; rw [hq, hm]; rfl
              have hU : hasU a 8 = false := rfl
              by_cases q33570816 : a = 33570816
              · subst q33570816
                exact absurd hm (by decide)
              · have e33570816 : (a == 33570816) = false := by simpa using q33570816
                by_cases q33603576 : a = 33603576
                · subst q33603576
                  exact absurd hm (by decide)
                · have e33603576 : (a == 33603576) = false := by simpa using q33603576
                  have HX : Hid (r = 0) := by unfold Hid; rw [hr]; simp [rch, hM, hU, q33570816, q33603576]
                  clear hr
                  go_enter Try.func54, Try.ntmps54
                  go_wp2_with (go_at_call 36; refine HI.mono ?_; rintro e w1 ⟨rfl, hw⟩; have hw2 := hw.symm; subst hw2)
                  go_ret
                  exact ⟨by cases HX.out; rfl, rfl⟩
          | false =>
            rw [hq, show (decide ((1 : Int) ≤ 8) && false) = false from rfl] at HI
            have hM : hasM n a 8 = false := by unfold hasM; rw [hq]; simp
            have hU : hasU a 8 = false := rfl
            by_cases q33570816 : a = 33570816
            · subst q33570816
              have HX : Hid (r = 4) := by unfold Hid; rw [hr]; simp [rch, hM, hU]
              clear hr
              go_enter Try.func54, Try.ntmps54
              go_wp2_with (go_at_call 36; refine HI.mono ?_; rintro e w1 ⟨rfl, hw⟩; have hw2 := hw.symm; subst hw2)
              go_ret
              exact ⟨by cases HX.out; rfl, rfl⟩
            · have e33570816 : (a == 33570816) = false := by simpa using q33570816
              by_cases q33603576 : a = 33603576
              · subst q33603576
                have HX : Hid (r = 7) := by unfold Hid; rw [hr]; simp [rch, hM, hU]
                clear hr
                go_enter Try.func54, Try.ntmps54
                go_wp2_with (go_at_call 36; refine HI.mono ?_; rintro e w1 ⟨rfl, hw⟩; have hw2 := hw.symm; subst hw2)
                go_ret
                exact ⟨by cases HX.out; rfl, rfl⟩
              · have e33603576 : (a == 33603576) = false := by simpa using q33603576
                have HX : Hid (r = 0) := by unfold Hid; rw [hr]; simp [rch, hM, hU, q33570816, q33603576]
                clear hr
                go_enter Try.func54, Try.ntmps54
                go_wp2_with (go_at_call 36; refine HI.mono ?_; rintro e w1 ⟨rfl, hw⟩; have hw2 := hw.symm; subst hw2)
                go_ret
                exact ⟨by cases HX.out; rfl, rfl⟩
        · have e1 : (z != 1) = true := by simpa using h1
          have e2 : (z != 2) = true := by simpa using h2
          have e4 : (z != 4) = true := by simpa using h4
          have e8 : (z != 8) = true := by simpa using h8
          have HX : Hid (r = 0) := by unfold Hid; rw [hr]; simp [rch, hasM, hasU, h1, h2, h4, h8]
          clear hr HI
          go_enter Try.func54, Try.ntmps54
          go_wp2
          go_ret
          exact ⟨by cases HX.out; rfl, rfl⟩
theorem rcan_c {B c : Nat} {S : St} {vr vi vo : Value} (w : World) (h : RB B c S vr vi vo w) (hn : S.ram.length ≤ 65536) (a z k : Int) (ha : 0 ≤ a ∧ a ≤ 18446744073709551615) (hz : -9223372036854775808 ≤ z ∧ z ≤ 9223372036854775807) : Calls Try.prog 34 #[.pointer (some ⟨c, 0, none⟩), .int .u64 a, .int .i64 z, .int .i64 k] w fun e w' => e = .returned (.bool (decide (1 ≤ k ∧ k ≤ 3) && decide (fnd S.ram.length a z < 6))) ∧ w' = w := by
  have HR := reach_c w h hn a z ha hz
  have hrf := rch_fnd S.ram.length a z
  have hle := fnd_le S.ram.length a z
  obtain ⟨b, hb⟩ : ∃ b, b = (decide (1 ≤ k ∧ k ≤ 3) && decide (fnd S.ram.length a z < 6)) := ⟨_, rfl⟩
  rw [← hb]
  generalize rch S.ram.length a z = r at HR hrf
  generalize fnd S.ram.length a z = q at hb hrf hle
  clear h
  by_cases h0 : r = 0
  · subst h0
    have HX : Hid (b = false) := by unfold Hid; rw [hb, hrf.1 rfl]; simp
    clear hb hrf hle
    go_enter Try.func34, Try.ntmps34
    go_wp2_with (go_at_call 54; refine HR.mono ?_; rintro e w1 ⟨rfl, hw⟩; have hw2 := hw.symm; subst hw2)
    go_ret
    exact ⟨by cases HX.out; rfl, rfl⟩
  · have e0 : (r != 0) = true := by simpa using h0
    have HX : Hid (b = decide (1 ≤ k ∧ k ≤ 3)) := by
      unfold Hid; rw [hb, show decide (q < 6) = true from decide_eq_true (by have : ¬ q = 6 := fun e => h0 (hrf.2 e); omega)]; simp
    clear hb hrf hle
    rcases Int.lt_or_le k 1 with g1 | g1
    · have HY : Hid (b = false) := by unfold Hid; rw [HX.out]; simp; omega
      go_enter Try.func34, Try.ntmps34
      go_wp2_with (go_at_call 54; refine HR.mono ?_; rintro e w1 ⟨rfl, hw⟩; have hw2 := hw.symm; subst hw2)
      go_ret
      exact ⟨by cases HY.out; rfl, rfl⟩
    · have HY : Hid (b = decide (k ≤ 3)) := by unfold Hid; rw [HX.out]; simp [g1]
      go_enter Try.func34, Try.ntmps34
      go_wp2_with (go_at_call 54; refine HR.mono ?_; rintro e w1 ⟨rfl, hw⟩; have hw2 := hw.symm; subst hw2)
      go_ret
      exact ⟨by cases HY.out; rfl, rfl⟩
end Go.Proofs.Ytghiabdkgfhdbaa
