/-
  Bra.
-/
import Derived.Test.YtnlkamfoopikhaaBpa
namespace Go.Proofs.Ytnlkamfoopikhaa
set_option linter.unusedVariables false
open Go.ChangeShapes Go.WideShapes Go.ChangeAt Go.RowKit Go.Deep
theorem ramOk_lo {n : Nat} (h : (n : Int) < 8) : ramOk n = false := by simp [ramOk]; omega
theorem ramOk_hi {n : Nat} (h : (65536 : Int) < n) : ramOk n = false := by simp [ramOk]; omega
theorem ramOk_odd {n : Nat} (h : ((n : Int) % 8 != 0) = true) : ramOk n = false := by simp [ramOk] at h ⊢; omega
theorem powOk_lo {o c : Int} (h : o < 0) : powOk o c = false := by unfold powOk; rw [if_neg (by omega), if_neg (by omega)]
theorem powOk_hi {o c : Int} (h : 2 < o) : powOk o c = false := by unfold powOk; rw [if_neg (by omega), if_neg (by omega)]
set_option maxHeartbeats 1000000 in
theorem rcanBe_c (S : St) (ar ai ao : Option Addr) (cr ci co : Nat) (w : World) :
    Calls Try.prog 19 #[.agg (stc S (.slice ar S.ram.length cr) (.slice ai S.inp.length ci) (.slice ao S.out.length co))] w fun e w' => e = .returned (.bool S.ok) ∧ Below w.heap.size w w' := by
  have HB : Hid (∀ o, Below w.heap.size w (w.alloc o)) := fun o => (Below.refl _ _).alloc (Nat.le_refl _) o
  obtain ⟨b, hb⟩ : ∃ b, b = S.ok := ⟨_, rfl⟩
  rw [← hb]
  have HE : Hid (b = (ramOk S.ram.length && decide (S.msip ≤ 1) && decide (S.ier ≤ 15) && decide (S.mcr ≤ 31) && decide ((S.inp.length : Int) ≤ 64) && decide ((S.out.length : Int) ≤ 4096) && powOk S.off S.code)) := hb
  clear hb
  unfold stc
  rcases Int.lt_or_le (S.ram.length : Int) 8 with ga | ha
  · have HX : Hid (b = false) := by unfold Hid; rw [HE.out]; simp [ramOk_lo ga]
    clear HE
    go_enter Try.func19, Try.ntmps19
    go_wp2
    go_ret
    exact ⟨by cases HX.out; rfl, HB.out _⟩
  rcases Int.lt_or_le 65536 (S.ram.length : Int) with gb | hb
  · have HX : Hid (b = false) := by unfold Hid; rw [HE.out]; simp [ramOk_hi gb]
    clear HE
    go_enter Try.func19, Try.ntmps19
    go_wp2
    go_ret
    exact ⟨by cases HX.out; rfl, HB.out _⟩
  have hm : (S.ram.length : Int).tmod 8 = (S.ram.length : Int) % 8 := Int.tmod_eq_emod_of_nonneg (by omega)
  rcases Bool.eq_false_or_eq_true (((S.ram.length : Int) % 8) != 0) with gc | hc
  · have HX : Hid (b = false) := by unfold Hid; rw [HE.out]; simp [ramOk_odd gc]
    clear HE
    go_enter Try.func19, Try.ntmps19
    go_wp2
    go_ret
    exact ⟨by cases HX.out; rfl, HB.out _⟩
  have hro : ramOk S.ram.length = true := by have hc' := hc; simp at hc'; simp [ramOk]; omega
  rcases Int.lt_or_le 1 S.msip with g0 | h0
  · have HX : Hid (b = false) := by unfold Hid; rw [HE.out]; simp [show ¬ S.msip ≤ 1 by omega]
    clear HE
    go_enter Try.func19, Try.ntmps19
    go_wp2
    go_ret
    exact ⟨by cases HX.out; rfl, HB.out _⟩
  rcases Int.lt_or_le 15 S.ier with g1 | h1
  · have HX : Hid (b = false) := by unfold Hid; rw [HE.out]; simp [show ¬ S.ier ≤ 15 by omega]
    clear HE
    go_enter Try.func19, Try.ntmps19
    go_wp2
    go_ret
    exact ⟨by cases HX.out; rfl, HB.out _⟩
  rcases Int.lt_or_le 31 S.mcr with g2 | h2
  · have HX : Hid (b = false) := by unfold Hid; rw [HE.out]; simp [show ¬ S.mcr ≤ 31 by omega]
    clear HE
    go_enter Try.func19, Try.ntmps19
    go_wp2
    go_ret
    exact ⟨by cases HX.out; rfl, HB.out _⟩
  rcases Int.lt_or_le 64 (S.inp.length : Int) with g3 | h3
  · have HX : Hid (b = false) := by unfold Hid; rw [HE.out]; simp [show ¬ (S.inp.length : Int) ≤ 64 by omega]
    clear HE
    go_enter Try.func19, Try.ntmps19
    go_wp2
    go_ret
    exact ⟨by cases HX.out; rfl, HB.out _⟩
  rcases Int.lt_or_le 4096 (S.out.length : Int) with g4 | h4
  · have HX : Hid (b = false) := by unfold Hid; rw [HE.out]; simp [show ¬ (S.out.length : Int) ≤ 4096 by omega]
    clear HE
    go_enter Try.func19, Try.ntmps19
    go_wp2
    go_ret
    exact ⟨by cases HX.out; rfl, HB.out _⟩
  rcases Int.lt_or_le S.off 0 with gd | hd
  · have HX : Hid (b = false) := by unfold Hid; rw [HE.out]; simp [powOk_lo gd]
    clear HE
    go_enter Try.func19, Try.ntmps19
    go_wp2
    go_ret
    exact ⟨by cases HX.out; rfl, HB.out _⟩
  rcases Int.lt_or_le 2 S.off with ge | he
  · have HX : Hid (b = false) := by unfold Hid; rw [HE.out]; simp [powOk_hi ge]
    clear HE
    go_enter Try.func19, Try.ntmps19
    go_wp2
    go_ret
    exact ⟨by cases HX.out; rfl, HB.out _⟩
  have HX : Hid (b = powOk S.off S.code) := by unfold Hid; rw [HE.out]; simp [hro, h0, h1, h2, h3, h4]
  clear HE
  by_cases h5 : S.off = 2
  · have e5 : (S.off == 2) = true := by simpa using h5
    have HY : Hid (b = (decide (0 ≤ S.code) && decide (S.code ≤ 65535))) := by unfold Hid; rw [HX.out, h5]; rfl
    clear HX
    rcases Int.lt_or_le S.code 0 with gf | hf
    · have HZ : Hid (b = false) := by unfold Hid; rw [HY.out]; simp; omega
      go_enter Try.func19, Try.ntmps19
      go_wp2
      go_ret
      exact ⟨by cases HZ.out; rfl, HB.out _⟩
    · have HZ : Hid (b = decide (S.code ≤ 65535)) := by unfold Hid; rw [HY.out]; simp [hf]
      go_enter Try.func19, Try.ntmps19
      go_wp2
      go_ret
      exact ⟨by cases HZ.out; rfl, HB.out _⟩
  · have e5 : (S.off == 2) = false := by simpa using h5
    have HZ : Hid (b = (S.code == 0)) := by unfold Hid; rw [HX.out, powOk, if_pos (by omega)]
    go_enter Try.func19, Try.ntmps19
    go_wp2
    go_ret
    exact ⟨by cases HZ.out; rfl, HB.out _⟩
end Go.Proofs.Ytnlkamfoopikhaa
