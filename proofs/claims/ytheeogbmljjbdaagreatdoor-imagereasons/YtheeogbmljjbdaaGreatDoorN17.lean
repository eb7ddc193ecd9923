/-
  Irn.
-/
import Derived.Test.YtheeogbmljjbdaaGreatDoorN16
namespace Go.Proofs.YtheeogbmljjbdaaGreatDoor
set_option linter.unusedVariables false
open Go.ChangeShapes Go.WideShapes Go.ChangeAt Go.RowKit Go.Deep
set_option maxRecDepth 100000 in
set_option maxHeartbeats 1000000 in
theorem rroom_c {b : List Int} (hl : b.length ≤ 200000) (vb : Value) (p n : Nat) (hp : p < 18446744073709551616) (hn : n < 18446744073709551616) (w : World) (hv : Byt w vb b) :
    Calls Tryz.prog 57 #[vb, .int .u64 p, .int .u64 n] w fun e w' => e = .returned (.bool (decide (room b p n))) ∧ w = w' := by
  obtain ⟨a, cap, rfl, hc, _, _⟩ := hv
  have hlI : (b.length : Int) ≤ 200000 := by omega
  have hpI : (p : Int) < 18446744073709551616 := by omega
  have hnI : (n : Int) < 18446744073709551616 := by omega
  have HR : Hid (room b p n ↔ p ≤ b.length ∧ n ≤ b.length - p) := by unfold Hid room; omega
  obtain ⟨d, hd⟩ : ∃ d, d = decide (room b p n) := ⟨_, rfl⟩
  rw [← hd]
  have HD : Hid (d = decide (room b p n)) := hd
  clear hd
  by_cases h1 : p ≤ b.length
  · have h1I : (p : Int) ≤ b.length := by omega
    by_cases h2 : n ≤ b.length - p
    · have h2I : (n : Int) ≤ (b.length : Int) - p := by omega
      have HE : Hid (d = true) := by unfold Hid; rw [HD.out]; exact decide_eq_true (HR.out.2 ⟨h1, h2⟩)
      clear h1 h2
      go_enter Tryz.func57, Tryz.ntmps57
      go_wp2
      go_ret
      exact ⟨by rw [HE.out]; first | rfl | (simp; done) | (simp; omega), rfl⟩
    · have h2I : (b.length : Int) - p < (n : Int) := by omega
      have HE : Hid (d = false) := by unfold Hid; rw [HD.out]; exact decide_eq_false (fun h => h2 (HR.out.1 h).2)
      clear h1 h2
      go_enter Tryz.func57, Tryz.ntmps57
      go_wp2
      go_ret
      exact ⟨by rw [HE.out]; first | rfl | (simp; done) | (simp; omega), rfl⟩
  · have h1d : ¬ ((p : Int) ≤ (b.length : Int)) := by omega
    have HE : Hid (d = false) := by unfold Hid; rw [HD.out]; exact decide_eq_false (fun h => h1 (HR.out.1 h).1)
    clear h1 hp hn hl hpI
    go_enter Tryz.func57, Tryz.ntmps57
    go_wp2
    go_ret
    exact ⟨by rw [HE.out]; first | rfl | (simp; done) | (simp; omega), rfl⟩
set_option maxHeartbeats 1000000 in
theorem rflags_c (z : Nat) (h : z ≤ 7) (w : World) : Calls Tryz.prog 58 #[.int .u64 (z : Int)] w fun e w' => e = .returned (.int .i64 ((fwN z : Nat) : Int)) ∧ w = w' := by
  have h8 : z = 0 ∨ z = 1 ∨ z = 2 ∨ z = 3 ∨ z = 4 ∨ z = 5 ∨ z = 6 ∨ z = 7 := by omega
  clear h
  rcases h8 with rfl | rfl | rfl | rfl | rfl | rfl | rfl | rfl
  all_goals
    go_enter Tryz.func58, Tryz.ntmps58
    go_wp2
    go_ret
    exact ⟨ret_int (by decide +kernel), rfl⟩
end Go.Proofs.YtheeogbmljjbdaaGreatDoor
