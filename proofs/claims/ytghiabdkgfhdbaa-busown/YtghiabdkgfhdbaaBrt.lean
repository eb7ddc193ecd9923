/-
  What the reference's bus tells: Time, Off, Output, line, Mip, IsRam.
-/
import Derived.Test.YtghiabdkgfhdbaaBtl
import Derived.Test.YtghiabdkgfhdbaaBsn
namespace Go.Proofs.Ytghiabdkgfhdbaa
set_option linter.unusedVariables false
open Go.ChangeShapes Go.WideShapes Go.ChangeAt Go.RowKit Go.Deep
theorem rtime_c {B c : Nat} {S : St} {vr vi vo : Value} (w : World) (h : RB B c S vr vi vo w) : Calls Try.prog 41 #[.pointer (some ⟨c, 0, none⟩)] w fun e w' => e = .returned (.int .u64 S.time) ∧ Below w.heap.size w w' := by
  have c3 : w.cell? ⟨c, 3, none⟩ = some (.int .u64 S.time) := h.cell 3
  clear h
  go_enter Try.func41, Try.ntmps41
  go_wp2
  go_ret
  exact ⟨rfl, Below.refl _ _⟩
theorem roff_c {B c : Nat} {S : St} {vr vi vo : Value} (w : World) (h : RB B c S vr vi vo w) : Calls Try.prog 42 #[.pointer (some ⟨c, 0, none⟩)] w fun e w' => e = .returned (.tuple #[.int .i64 S.off, .int .i64 S.code]) ∧ Below w.heap.size w w' := by
  have c13 : w.cell? ⟨c, 13, none⟩ = some (.int .i64 S.off) := h.cell 13
  have c14 : w.cell? ⟨c, 14, none⟩ = some (.int .i64 S.code) := h.cell 14
  clear h
  go_enter Try.func42, Try.ntmps42
  go_wp2
  go_quiet (fail)
  go_wp2
  go_ret2
  exact ⟨rfl, drewN_below w _⟩
theorem routput_c {B c : Nat} {S : St} {vr vi vo : Value} (w : World) (h : RB B c S vr vi vo w) (hl : S.out.length ≤ 140737488355328) : Calls Try.prog 43 #[.pointer (some ⟨c, 0, none⟩)] w fun e w' => ∃ u, e = .returned u ∧ w'.ownsRow w.heap.size 5 1 u S.out.length (bv S.out) ∧ Below w.heap.size w w' := by
  have c12 : w.cell? ⟨c, 12, none⟩ = some vo := h.cell 12
  have HB : Hid (Byt w vo S.out) := h.s.bs.o
  obtain ⟨ao, co, rfl, _⟩ := h.s.bs.o
  clear h
  go_enter Try.func43, Try.ntmps43
  go_wp2_with (at_builtin; refine appL (by rfl) _ _ (by rfl) _ _ _ [] S.out (by rfl) (World.ownsRow_nil _ _ _ _) (by rfl) HB.out (by simpa using hl) (Nat.le_refl _) ?_; intro v1 w1 ho1 hg1)
  go_ret
  exact ⟨v1, rfl, ho1, below_nil hg1⟩
theorem rline_c {B c : Nat} {S : St} {vr vi vo : Value} (w : World) (h : RB B c S vr vi vo w) (hi : 0 ≤ S.ier ∧ S.ier ≤ 255) : Calls Try.prog 57 #[.pointer (some ⟨c, 0, none⟩)] w fun e w' => e = .returned (.bool (lineB S)) ∧ w' = w := by
  have c6 : w.cell? ⟨c, 6, none⟩ = some (.int .u8 S.ier) := h.cell 6
  have c11 : w.cell? ⟨c, 11, none⟩ = some vi := h.cell 11
  obtain ⟨ai, ci, rfl, _⟩ := h.s.bs.i
  have ht : S.ier.tmod 2 = S.ier % 2 := Int.tmod_eq_emod_of_nonneg hi.1
  obtain ⟨b, hb⟩ : ∃ b, b = lineB S := ⟨_, rfl⟩
  rw [← hb]
  have HE : Hid (b = ((S.ier % 2 == 1) && decide (0 < S.inp.length))) := hb
  clear hb h
  rcases Bool.eq_false_or_eq_true (S.ier % 2 == 1) with h1 | h1
  · have HX : Hid (b = decide (0 < S.inp.length)) := by unfold Hid; rw [HE.out, h1]; rfl
    go_enter Try.func57, Try.ntmps57
    go_wp2
    go_ret
    exact ⟨by cases HX.out; rfl, rfl⟩
  · have HX : Hid (b = false) := by unfold Hid; rw [HE.out, h1]; rfl
    go_enter Try.func57, Try.ntmps57
    go_wp2
    go_ret
    exact ⟨by cases HX.out; rfl, rfl⟩
set_option maxRecDepth 100000 in
set_option maxHeartbeats 4000000 in
theorem rmip_c {B c : Nat} {S : St} {vr vi vo : Value} (w : World) (h : RB B c S vr vi vo w) (hi : 0 ≤ S.ier ∧ S.ier ≤ 255) : Calls Try.prog 39 #[.pointer (some ⟨c, 0, none⟩)] w fun e w' => e = .returned (.int .u64 (mipOf S)) ∧ Below w.heap.size w w' := by
  have c1 : w.cell? ⟨c, 1, none⟩ = some (.int .u32 S.msip) := h.cell 1
  have c2 : w.cell? ⟨c, 2, none⟩ = some (.int .u64 S.cmp) := h.cell 2
  have c3 : w.cell? ⟨c, 3, none⟩ = some (.int .u64 S.time) := h.cell 3
  have c4 : w.cell? ⟨c, 4, none⟩ = some (.bool S.ext) := h.cell 4
  have c5 : w.cell? ⟨c, 5, none⟩ = some (.bool S.soft) := h.cell 5
  have HLN : Hid (∀ k, Calls Try.prog 57 #[.pointer (some ⟨c, 0, none⟩)] (w.drewN k) fun e w' => e = .returned (.bool (lineB S)) ∧ w' = w.drewN k) := fun k => rline_c (w.drewN k) (h.later (drewN_below w k)) hi
  obtain ⟨m, hm⟩ : ∃ m, m = mipOf S := ⟨_, rfl⟩
  rw [← hm]
  have HM : Hid (m = (if S.msip = 1 ∨ S.soft = true then 8 else 0) + (if S.cmp ≤ S.time then 128 else 0) + (if S.ext = true ∨ lineB S = true then 2048 else 0)) := hm
  generalize lineB S = ln at HLN HM
  clear hm h hi
  by_cases hms : S.msip = 1
  · have e1 : (S.msip == 1) = true := by simpa using hms
    have hA : (S.msip = 1 ∨ S.soft = true) := .inl hms
    by_cases hT : S.cmp ≤ S.time
    · cases hex : S.ext with
      | true =>
        rw [hex] at c4
        have hL : (S.ext = true ∨ ln = true) := .inl hex
        have HX : Hid (m = 2184) := by unfold Hid; rw [HM.out]; simp [hA, hT, hL]
        clear HM
        go_enter Try.func39, Try.ntmps39
        go_wp2
        go_quiet (fail)
        go_wp2_with (go_at_call 57; refine (HLN.out _).mono ?_; rintro e w1 ⟨rfl, hw⟩; have hw2 := hw.symm; subst hw2)
        go_ret
        exact ⟨by rw [HX.out]; rfl, drewN_below w _⟩
      | false =>
        rw [hex] at c4
        cases hln : ln with
        | true =>
          rw [hln] at HLN
          have hL : (S.ext = true ∨ ln = true) := .inr hln
          have HX : Hid (m = 2184) := by unfold Hid; rw [HM.out]; simp [hA, hT, hL]
          clear HM
          go_enter Try.func39, Try.ntmps39
          go_wp2
          go_quiet (fail)
          go_wp2_with (go_at_call 57; refine (HLN.out _).mono ?_; rintro e w1 ⟨rfl, hw⟩; have hw2 := hw.symm; subst hw2)
          go_ret
          exact ⟨by rw [HX.out]; rfl, drewN_below w _⟩
        | false =>
          rw [hln] at HLN
          have hL : ¬ (S.ext = true ∨ ln = true) := by rw [hex, hln]; simp
          have HX : Hid (m = 136) := by unfold Hid; rw [HM.out]; simp [hA, hT, hL]
          clear HM
          go_enter Try.func39, Try.ntmps39
          go_wp2
          go_quiet (fail)
          go_wp2_with (go_at_call 57; refine (HLN.out _).mono ?_; rintro e w1 ⟨rfl, hw⟩; have hw2 := hw.symm; subst hw2)
          go_ret
          exact ⟨by rw [HX.out]; rfl, drewN_below w _⟩
    · have hT2 : S.time < S.cmp := by omega
      cases hex : S.ext with
      | true =>
        rw [hex] at c4
        have hL : (S.ext = true ∨ ln = true) := .inl hex
        have HX : Hid (m = 2056) := by unfold Hid; rw [HM.out]; simp [hA, hT, hL]
        clear HM
        go_enter Try.func39, Try.ntmps39
        go_wp2
        go_quiet (fail)
        go_wp2_with (go_at_call 57; refine (HLN.out _).mono ?_; rintro e w1 ⟨rfl, hw⟩; have hw2 := hw.symm; subst hw2)
        go_ret
        exact ⟨by rw [HX.out]; rfl, drewN_below w _⟩
      | false =>
        rw [hex] at c4
        cases hln : ln with
        | true =>
          rw [hln] at HLN
          have hL : (S.ext = true ∨ ln = true) := .inr hln
          have HX : Hid (m = 2056) := by unfold Hid; rw [HM.out]; simp [hA, hT, hL]
          clear HM
          go_enter Try.func39, Try.ntmps39
          go_wp2
          go_quiet (fail)
          go_wp2_with (go_at_call 57; refine (HLN.out _).mono ?_; rintro e w1 ⟨rfl, hw⟩; have hw2 := hw.symm; subst hw2)
          go_ret
          exact ⟨by rw [HX.out]; rfl, drewN_below w _⟩
        | false =>
          rw [hln] at HLN
          have hL : ¬ (S.ext = true ∨ ln = true) := by rw [hex, hln]; simp
          have HX : Hid (m = 8) := by unfold Hid; rw [HM.out]; simp [hA, hT, hL]
          clear HM
          go_enter Try.func39, Try.ntmps39
          go_wp2
          go_quiet (fail)
          go_wp2_with (go_at_call 57; refine (HLN.out _).mono ?_; rintro e w1 ⟨rfl, hw⟩; have hw2 := hw.symm; subst hw2)
          go_ret
          exact ⟨by rw [HX.out]; rfl, drewN_below w _⟩
  · have e1 : (S.msip == 1) = false := by simpa using hms
    cases hsf : S.soft with
    | true =>
      rw [hsf] at c5
      have hA : (S.msip = 1 ∨ S.soft = true) := .inr hsf
      by_cases hT : S.cmp ≤ S.time
      · cases hex : S.ext with
        | true =>
          rw [hex] at c4
          have hL : (S.ext = true ∨ ln = true) := .inl hex
          have HX : Hid (m = 2184) := by unfold Hid; rw [HM.out]; simp [hA, hT, hL]
          clear HM
          go_enter Try.func39, Try.ntmps39
          go_wp2
          go_quiet (fail)
          go_wp2_with (go_at_call 57; refine (HLN.out _).mono ?_; rintro e w1 ⟨rfl, hw⟩; have hw2 := hw.symm; subst hw2)
          go_ret
          exact ⟨by rw [HX.out]; rfl, drewN_below w _⟩
        | false =>
          rw [hex] at c4
          cases hln : ln with
          | true =>
            rw [hln] at HLN
            have hL : (S.ext = true ∨ ln = true) := .inr hln
            have HX : Hid (m = 2184) := by unfold Hid; rw [HM.out]; simp [hA, hT, hL]
            clear HM
            go_enter Try.func39, Try.ntmps39
            go_wp2
            go_quiet (fail)
            go_wp2_with (go_at_call 57; refine (HLN.out _).mono ?_; rintro e w1 ⟨rfl, hw⟩; have hw2 := hw.symm; subst hw2)
            go_ret
            exact ⟨by rw [HX.out]; rfl, drewN_below w _⟩
          | false =>
            rw [hln] at HLN
            have hL : ¬ (S.ext = true ∨ ln = true) := by rw [hex, hln]; simp
            have HX : Hid (m = 136) := by unfold Hid; rw [HM.out]; simp [hA, hT, hL]
            clear HM
            go_enter Try.func39, Try.ntmps39
            go_wp2
            go_quiet (fail)
            go_wp2_with (go_at_call 57; refine (HLN.out _).mono ?_; rintro e w1 ⟨rfl, hw⟩; have hw2 := hw.symm; subst hw2)
            go_ret
            exact ⟨by rw [HX.out]; rfl, drewN_below w _⟩
      · have hT2 : S.time < S.cmp := by omega
        cases hex : S.ext with
        | true =>
          rw [hex] at c4
          have hL : (S.ext = true ∨ ln = true) := .inl hex
          have HX : Hid (m = 2056) := by unfold Hid; rw [HM.out]; simp [hA, hT, hL]
          clear HM
          go_enter Try.func39, Try.ntmps39
          go_wp2
          go_quiet (fail)
          go_wp2_with (go_at_call 57; refine (HLN.out _).mono ?_; rintro e w1 ⟨rfl, hw⟩; have hw2 := hw.symm; subst hw2)
          go_ret
          exact ⟨by rw [HX.out]; rfl, drewN_below w _⟩
        | false =>
          rw [hex] at c4
          cases hln : ln with
          | true =>
            rw [hln] at HLN
            have hL : (S.ext = true ∨ ln = true) := .inr hln
            have HX : Hid (m = 2056) := by unfold Hid; rw [HM.out]; simp [hA, hT, hL]
            clear HM
            go_enter Try.func39, Try.ntmps39
            go_wp2
            go_quiet (fail)
            go_wp2_with (go_at_call 57; refine (HLN.out _).mono ?_; rintro e w1 ⟨rfl, hw⟩; have hw2 := hw.symm; subst hw2)
            go_ret
            exact ⟨by rw [HX.out]; rfl, drewN_below w _⟩
          | false =>
            rw [hln] at HLN
            have hL : ¬ (S.ext = true ∨ ln = true) := by rw [hex, hln]; simp
            have HX : Hid (m = 8) := by unfold Hid; rw [HM.out]; simp [hA, hT, hL]
            clear HM
            go_enter Try.func39, Try.ntmps39
            go_wp2
            go_quiet (fail)
            go_wp2_with (go_at_call 57; refine (HLN.out _).mono ?_; rintro e w1 ⟨rfl, hw⟩; have hw2 := hw.symm; subst hw2)
            go_ret
            exact ⟨by rw [HX.out]; rfl, drewN_below w _⟩
    | false =>
      rw [hsf] at c5
      have hA : ¬ (S.msip = 1 ∨ S.soft = true) := by rw [hsf]; simp [hms]
      by_cases hT : S.cmp ≤ S.time
      · cases hex : S.ext with
        | true =>
          rw [hex] at c4
          have hL : (S.ext = true ∨ ln = true) := .inl hex
          have HX : Hid (m = 2176) := by unfold Hid; rw [HM.out]; simp [hA, hT, hL]
          clear HM
          go_enter Try.func39, Try.ntmps39
          go_wp2
          go_quiet (fail)
          go_wp2_with (go_at_call 57; refine (HLN.out _).mono ?_; rintro e w1 ⟨rfl, hw⟩; have hw2 := hw.symm; subst hw2)
          go_ret
          exact ⟨by rw [HX.out]; rfl, drewN_below w _⟩
        | false =>
          rw [hex] at c4
          cases hln : ln with
          | true =>
            rw [hln] at HLN
            have hL : (S.ext = true ∨ ln = true) := .inr hln
            have HX : Hid (m = 2176) := by unfold Hid; rw [HM.out]; simp [hA, hT, hL]
            clear HM
            go_enter Try.func39, Try.ntmps39
            go_wp2
            go_quiet (fail)
            go_wp2_with (go_at_call 57; refine (HLN.out _).mono ?_; rintro e w1 ⟨rfl, hw⟩; have hw2 := hw.symm; subst hw2)
            go_ret
            exact ⟨by rw [HX.out]; rfl, drewN_below w _⟩
          | false =>
            rw [hln] at HLN
            have hL : ¬ (S.ext = true ∨ ln = true) := by rw [hex, hln]; simp
            have HX : Hid (m = 128) := by unfold Hid; rw [HM.out]; simp [hA, hT, hL]
            clear HM
            go_enter Try.func39, Try.ntmps39
            go_wp2
            go_quiet (fail)
            go_wp2_with (go_at_call 57; refine (HLN.out _).mono ?_; rintro e w1 ⟨rfl, hw⟩; have hw2 := hw.symm; subst hw2)
            go_ret
            exact ⟨by rw [HX.out]; rfl, drewN_below w _⟩
      · have hT2 : S.time < S.cmp := by omega
        cases hex : S.ext with
        | true =>
          rw [hex] at c4
          have hL : (S.ext = true ∨ ln = true) := .inl hex
          have HX : Hid (m = 2048) := by unfold Hid; rw [HM.out]; simp [hA, hT, hL]
          clear HM
          go_enter Try.func39, Try.ntmps39
          go_wp2
          go_quiet (fail)
          go_wp2_with (go_at_call 57; refine (HLN.out _).mono ?_; rintro e w1 ⟨rfl, hw⟩; have hw2 := hw.symm; subst hw2)
          go_ret
          exact ⟨by rw [HX.out]; rfl, drewN_below w _⟩
        | false =>
          rw [hex] at c4
          cases hln : ln with
          | true =>
            rw [hln] at HLN
            have hL : (S.ext = true ∨ ln = true) := .inr hln
            have HX : Hid (m = 2048) := by unfold Hid; rw [HM.out]; simp [hA, hT, hL]
            clear HM
            go_enter Try.func39, Try.ntmps39
            go_wp2
            go_quiet (fail)
            go_wp2_with (go_at_call 57; refine (HLN.out _).mono ?_; rintro e w1 ⟨rfl, hw⟩; have hw2 := hw.symm; subst hw2)
            go_ret
            exact ⟨by rw [HX.out]; rfl, drewN_below w _⟩
          | false =>
            rw [hln] at HLN
            have hL : ¬ (S.ext = true ∨ ln = true) := by rw [hex, hln]; simp
            have HX : Hid (m = 0) := by unfold Hid; rw [HM.out]; simp [hA, hT, hL]
            clear HM
            go_enter Try.func39, Try.ntmps39
            go_wp2
            go_quiet (fail)
            go_wp2_with (go_at_call 57; refine (HLN.out _).mono ?_; rintro e w1 ⟨rfl, hw⟩; have hw2 := hw.symm; subst hw2)
            go_ret
            exact ⟨by rw [HX.out]; rfl, drewN_below w _⟩
theorem byteAt_c {B c : Nat} {S : St} {vr vi vo : Value} (w : World) (h : RB B c S vr vi vo w) (hn : S.ram.length ≤ 65536) (a : Int) (ha : 0 ≤ a ∧ a ≤ 18446744073709551615) : Calls Try.prog 55 #[.pointer (some ⟨c, 0, none⟩), .int .u64 a] w fun e w' => e = .returned (.bool (decide (2147483648 ≤ a ∧ a < 2147483648 + S.ram.length))) ∧ w' = w := by
  have c0 : w.cell? ⟨c, 0, none⟩ = some vr := h.cell 0
  obtain ⟨ar, cr, rfl, _⟩ := h.s.bs.r
  obtain ⟨b, hb⟩ : ∃ b, b = decide (2147483648 ≤ a ∧ a < 2147483648 + S.ram.length) := ⟨_, rfl⟩
  rw [← hb]
  have e2 : IntKind.u64.wrap (S.ram.length : Int) = S.ram.length := u64_small (by omega) (by omega)
  clear h
  rcases Int.lt_or_le a 2147483648 with h1 | h1
  · have HX : Hid (b = false) := by unfold Hid; rw [hb]; simp; omega
    clear hb
    go_enter Try.func55, Try.ntmps55
    go_wp2
    go_ret
    exact ⟨by cases HX.out; rfl, rfl⟩
  · have e1 : IntKind.u64.wrap (a - 2147483648) = a - 2147483648 := u64_small (by omega) (by omega)
    have HX : Hid (b = decide (a - 2147483648 < (S.ram.length : Int))) := by
      unfold Hid; rw [hb]; congr 1; apply propext; omega
    clear hb
    go_enter Try.func55, Try.ntmps55
    go_wp2
    go_ret
    exact ⟨by cases HX.out; rfl, rfl⟩
set_option maxRecDepth 100000 in
set_option maxHeartbeats 2000000 in
theorem risRam_c {B c : Nat} {S : St} {vr vi vo : Value} (w : World) (h : RB B c S vr vi vo w) (hn : S.ram.length ≤ 65536) (a z : Int) (ha : 0 ≤ a ∧ a ≤ 18446744073709551615) (hz : -9223372036854775808 ≤ z ∧ z ≤ 9223372036854775807) : Calls Try.prog 36 #[.pointer (some ⟨c, 0, none⟩), .int .u64 a, .int .i64 z] w fun e w' => e = .returned (.bool (decide (1 ≤ z) && hld S.ram.length a z)) ∧ w' = w := by
  have c0 : w.cell? ⟨c, 0, none⟩ = some vr := h.cell 0
  have HB : Hid (∀ x : Int, (0 ≤ x ∧ x ≤ 18446744073709551615) → Calls Try.prog 55 #[.pointer (some ⟨c, 0, none⟩), .int .u64 x] w fun e w' => e = .returned (.bool (decide (2147483648 ≤ x ∧ x < 2147483648 + S.ram.length))) ∧ w' = w) := fun x hx => byteAt_c w h hn x hx
  obtain ⟨ar, cr, rfl, _⟩ := h.s.bs.r
  obtain ⟨b, hb⟩ : ∃ b, b = (decide (1 ≤ z) && hld S.ram.length a z) := ⟨_, rfl⟩
  rw [← hb]
  have HE : Hid (b = (decide (1 ≤ z) && (decide (2147483648 ≤ a) && (decide (a - 2147483648 < S.ram.length) && (decide (0 ≤ z) && decide (z ≤ S.ram.length - (a - 2147483648))))))) := hb
  clear hb h
  generalize S.ram.length = n at *
  rcases Int.lt_or_le z 1 with h1 | h1
  · have HX : Hid (b = false) := by unfold Hid; rw [HE.out, show decide (1 ≤ z) = false from decide_eq_false (by omega)]; rfl
    go_enter Try.func36, Try.ntmps36
    go_wp2
    go_ret
    exact ⟨by cases HX.out; rfl, rfl⟩
  · rcases Int.lt_or_le n z with h2 | h2
    · have HX : Hid (b = false) := by
        unfold Hid; rw [HE.out]
        by_cases q : 2147483648 ≤ a
        · rw [show decide (z ≤ n - (a - 2147483648)) = false from decide_eq_false (by omega)]; simp
        · rw [show decide (2147483648 ≤ a) = false from decide_eq_false q]; simp
      go_enter Try.func36, Try.ntmps36
      go_wp2
      go_ret
      exact ⟨by cases HX.out; rfl, rfl⟩
    · go_enter Try.func36, Try.ntmps36
      go_wp2
      go_loopw [7] (fun i wr => ∃ k : Nat, (k : Int) ≤ z ∧ i = .int .i64 k ∧ Hid (k = 0 ∨ (2147483648 ≤ a ∧ a + (k : Int) ≤ 2147483648 + n)) ∧ wr = w) (fun i _ => z.toNat - (intOf i).toNat)
      case atStart => exact ⟨0, by omega, rfl, .inl rfl, rfl⟩
      case round =>
        obtain ⟨k, hk, rfl, hinv, rfl⟩ := hrel
        by_cases hlt : (k : Int) < z
        · have e1 : IntKind.u64.wrap (k : Int) = k := u64_small (by omega) (by omega)
          by_cases hw : a + (k : Int) ≤ 18446744073709551615
          · have e2 : IntKind.u64.wrap (a + (k : Int)) = a + k := u64_small (by omega) hw
            have HA := HB.out (a + (k : Int)) (by omega)
            have e3 : ¬ (a + (k : Int) < a) := by omega
            by_cases hin : 2147483648 ≤ a + (k : Int) ∧ a + (k : Int) < 2147483648 + n
            · rw [show decide (2147483648 ≤ a + (k : Int) ∧ a + (k : Int) < 2147483648 + n) = true from decide_eq_true hin] at HA
              have HI : Hid (k = 0 → 2147483648 ≤ a) := fun e => by omega
              go_wp2_with (go_at_call 55; refine HA.mono ?_; rintro e w1 ⟨rfl, hw⟩; have hw2 := hw.symm; subst hw2)
              go_roundw
              case rel =>
                refine ⟨k + 1, by omega, by go_num, .inr ⟨?_, by omega⟩, by trivial⟩
                rcases hinv.out with e | e
                · exact HI.out e
                · exact e.1
              case measure => simp [intOf]; omega
            · rw [show decide (2147483648 ≤ a + (k : Int) ∧ a + (k : Int) < 2147483648 + n) = false from decide_eq_false hin] at HA
              have HX : Hid (b = false) := by
                unfold Hid; rw [HE.out]
                have hinv' := hinv.out
                by_cases q : 2147483648 ≤ a
                · rw [show decide (z ≤ n - (a - 2147483648)) = false from decide_eq_false (by omega)]; simp
                · rw [show decide (2147483648 ≤ a) = false from decide_eq_false q]; simp
              go_wp2_with (go_at_call 55; refine HA.mono ?_; rintro e w1 ⟨rfl, hw⟩; have hw2 := hw.symm; subst hw2)
              go_ret
              exact ⟨by cases HX.out; rfl, rfl⟩
          · have e2 : IntKind.u64.wrap (a + (k : Int)) = a + k - 18446744073709551616 := by
              show (a + (k : Int)) % 18446744073709551616 = _
              omega
            have HA := HB.out (a + (k : Int) - 18446744073709551616) (by omega)
            rw [show decide (2147483648 ≤ a + (k : Int) - 18446744073709551616 ∧ a + (k : Int) - 18446744073709551616 < 2147483648 + n) = false from decide_eq_false (by omega)] at HA
            have HX : Hid (b = false) := by
              unfold Hid; rw [HE.out, show decide (a - 2147483648 < (n : Int)) = false from decide_eq_false (by omega)]; simp
            go_wp2_with (go_at_call 55; refine HA.mono ?_; rintro e w1 ⟨rfl, hw⟩; have hw2 := hw.symm; subst hw2)
            go_ret
            exact ⟨by cases HX.out; rfl, rfl⟩
        · have HX : Hid (b = true) := by
            unfold Hid; rw [HE.out]
            have hinv' := hinv.out
            simp; omega
          have hge : z ≤ (k : Int) := by omega
          go_wp2
          go_ret
          exact ⟨by cases HX.out; rfl, rfl⟩
end Go.Proofs.Ytghiabdkgfhdbaa
