/-
  Places: up of the reference, aligned of the program.
-/
import Derived.Test.YtjjdpfmkbaaapaaDoorNum
namespace Go.Proofs.YtjjdpfmkbaaapaaDoor
set_option linter.unusedVariables false
open Go.ChangeShapes Go.WideShapes Go.ChangeAt Go.RowKit
/-- The first multiple of 8 from a place on. -/
def al (n : Nat) : Nat := (n + 7) / 8 * 8
theorem al_lo (n : Nat) : n ≤ al n := by unfold al; omega
theorem al_hi (n : Nat) : al n ≤ n + 7 := by unfold al; omega
theorem al_end {n m : Nat} (h1 : n ≤ m) (h2 : m ≤ al n) (h : m % 8 = 0) : m = al n := by unfold al at *; omega
theorem al_step {n m : Nat} (h1 : n ≤ m) (h2 : m ≤ al n) (h : m % 8 ≠ 0) : m + 1 ≤ al n := by unfold al at *; omega
set_option maxHeartbeats 1000000 in
theorem up_c (n : Nat) (hn : n ≤ 1152921504606846976) (w : World) : Calls Tryd.prog 16 #[.int .i64 (n : Int)] w fun e w' => e = .returned (.int .i64 ((al n : Nat) : Int)) ∧ w' = w := by
  have ha := al_hi n
  obtain ⟨A, hA⟩ : ∃ A, A = al n := ⟨_, rfl⟩
  rw [← hA] at ha ⊢
  have HA : Hid (A = al n) := hA
  clear hA
  go_enter Tryd.func16, Tryd.ntmps16
  go_wp2
  go_loopw [0] (fun v wr => ∃ m : Nat, v = .int .i64 m ∧ n ≤ m ∧ m ≤ A ∧ wr = w) (fun v _ => A - (intOf v).toNat)
  case atStart => exact ⟨n, rfl, Nat.le_refl _, by rw [HA.out]; exact al_lo n, rfl⟩
  case round =>
    obtain ⟨m, rfl, h1, h2, rfl⟩ := hrel
    by_cases h8 : m % 8 = 0
    · have h8' : ((m : Int) % 8 != 0) = false := by simp; omega
      have HE : Hid (m = A) := by unfold Hid; rw [HA.out]; rw [HA.out] at h2; exact al_end h1 h2 h8
      clear h8
      go_wp2
      go_ret
      exact ⟨ret_int (by rw [HE.out]), rfl⟩
    · have h8' : ((m : Int) % 8 != 0) = true := by simp; omega
      have HE : Hid (m + 1 ≤ A) := by unfold Hid; rw [HA.out]; rw [HA.out] at h2; exact al_step h1 h2 h8
      clear h8
      go_wp2
      go_roundw
      case rel => exact ⟨m + 1, by go_num, by omega, HE.out, trivial⟩
      case measure => simp [intOf]; have := HE.out; omega
set_option maxHeartbeats 1000000 in
theorem aligned_c (n : Nat) (hn : n ≤ 1152921504606846976) (w : World) : Calls Tryd.prog 27 #[.int .i64 (n : Int)] w fun e w' => e = .returned (.int .i64 ((al n : Nat) : Int)) ∧ w' = w := by
  have hq : (((n : Int) + 7) / 8 * 8) = ((al n : Nat) : Int) := by unfold al; omega
  have HQ : Hid ((((n : Int) + 7) / 8 * 8) = ((al n : Nat) : Int)) := hq
  clear hq
  go_enter Tryd.func27, Tryd.ntmps27
  go_wp2
  go_ret
  exact ⟨ret_int HQ.out, rfl⟩
end Go.Proofs.YtjjdpfmkbaaapaaDoor
