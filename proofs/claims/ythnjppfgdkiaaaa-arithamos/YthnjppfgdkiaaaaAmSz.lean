/-
  The reference: AmoSize.
-/
import Derived.Test.YthnjppfgdkiaaaaKn
import Derived.Test.YthnjppfgdkiaaaaMem
namespace Go.Proofs.Ythnjppfgdkiaaaa
open Go.ChangeShapes Go.WideShapes Go.ChangeAt Go.RowKit
theorem wordAmos_any (w : World) : Calls Try.prog 44 #[] w fun e w' => e = .returned (.slice (some ⟨w.heap.size, 0, none⟩) 9 9) ∧ w' = w.alloc (.cells #[.int .i64 77, .int .i64 78, .int .i64 79, .int .i64 80, .int .i64 81, .int .i64 82, .int .i64 83, .int .i64 84, .int .i64 85] 3) := by
  go_enter Try.func44, Try.ntmps44
  go_wp2
  go_ret
  exact ⟨rfl, rfl⟩
theorem longAmos_any (w : World) : Calls Try.prog 45 #[] w fun e w' => e = .returned (.slice (some ⟨w.heap.size, 0, none⟩) 9 9) ∧ w' = w.alloc (.cells #[.int .i64 88, .int .i64 89, .int .i64 90, .int .i64 91, .int .i64 92, .int .i64 93, .int .i64 94, .int .i64 95, .int .i64 96] 3) := by
  go_enter Try.func45, Try.ntmps45
  go_wp2
  go_ret
  exact ⟨rfl, rfl⟩
def asz (k : Int) : Int := if 77 ≤ k ∧ k ≤ 85 then 4 else if 88 ≤ k ∧ k ≤ 96 then 8 else 0
set_option maxHeartbeats 1000000 in
theorem amoSize_any (op : Int) (w : World) : Calls Try.prog 43 #[.int .i64 op] w fun e w' => e = .returned (.int .i64 (asz op)) ∧ Below w.heap.size w w' := by
  obtain ⟨W, hW⟩ : ∃ W, W = (w.alloc (.cells #[.int .i64 77, .int .i64 78, .int .i64 79, .int .i64 80, .int .i64 81, .int .i64 82, .int .i64 83, .int .i64 84, .int .i64 85] 3)).alloc (.cells #[.int .i64 88, .int .i64 89, .int .i64 90, .int .i64 91, .int .i64 92, .int .i64 93, .int .i64 94, .int .i64 95, .int .i64 96] 3) := ⟨_, rfl⟩
  have hf0 : ∀ k : Nat, k < 9 → W.cell? ⟨w.heap.size, k, none⟩ = some (.int .i64 (77 + (k : Int))) := fun k hk => by
    rw [hW, alloc2_0]
    match k, hk with
    | 0, _ => rfl
    | 1, _ => rfl
    | 2, _ => rfl
    | 3, _ => rfl
    | 4, _ => rfl
    | 5, _ => rfl
    | 6, _ => rfl
    | 7, _ => rfl
    | 8, _ => rfl
  have hf1 : ∀ k : Nat, k < 9 → W.cell? ⟨w.heap.size + 1, k, none⟩ = some (.int .i64 (88 + (k : Int))) := fun k hk => by
    rw [hW, alloc2_1]
    match k, hk with
    | 0, _ => rfl
    | 1, _ => rfl
    | 2, _ => rfl
    | 3, _ => rfl
    | 4, _ => rfl
    | 5, _ => rfl
    | 6, _ => rfl
    | 7, _ => rfl
    | 8, _ => rfl
  have hbel : Below w.heap.size w W := by
    rw [hW]; exact ((Below.refl _ _).alloc (Nat.le_refl _) _).alloc (by simp) _
  go_enter Try.func43, Try.ntmps43
  go_wp2_with (first | (go_at_call 44; refine (wordAmos_any _).mono ?_; rintro e w' ⟨rfl, rfl⟩) | (go_at_call 45; refine (longAmos_any _).mono ?_; rintro e w' ⟨rfl, rfl⟩))
  rw [← hW]
  have HB : Hid (Below w.heap.size w W) := hbel
  clear hW hbel
  go_loop [5] (fun i => ∃ k : Nat, k ≤ 9 ∧ i = .int .i64 k ∧ Hid ((op < 77 ∨ 77 + (k : Int) ≤ op) ∧ (op < 88 ∨ 88 + (k : Int) ≤ op))) (fun i => 9 - (intOf i).toNat)
  case atStart => exact ⟨0, Nat.zero_le _, rfl, by show _ ∧ _; omega⟩
  case round =>
    obtain ⟨k, hk, rfl, hh⟩ := hrel
    by_cases hlt : k < 9
    · have h0 := hf0 k hlt
      have h1 := hf1 k hlt
      have hl1 : (0 : Int) ≤ (k : Int) := by omega
      have hl2 : (k : Int) < 9 := by omega
      clear hf0 hf1
      by_cases e0 : op = 77 + (k : Int)
      · have t0 : (77 + (k : Int) == op) = true := by simp [e0]
        have ha : Hid (asz op = 4) := by show asz op = 4; unfold asz; rw [if_pos (by omega)]
        clear e0
        go_wp2
        go_ret
        exact ⟨ret_int ha.out.symm, HB.out⟩
      · have t0 : (77 + (k : Int) == op) = false := by simp; omega
        by_cases e1 : op = 88 + (k : Int)
        · have t1 : (88 + (k : Int) == op) = true := by simp [e1]
          have ha : Hid (asz op = 8) := by show asz op = 8; unfold asz; rw [if_neg (by omega), if_pos (by omega)]
          clear e0 e1
          go_wp2
          go_ret
          exact ⟨ret_int ha.out.symm, HB.out⟩
        · have t1 : (88 + (k : Int) == op) = false := by simp; omega
          have hn : Hid ((op < 77 ∨ 77 + ((k + 1 : Nat) : Int) ≤ op) ∧ (op < 88 ∨ 88 + ((k + 1 : Nat) : Int) ≤ op)) := by
            have := hh.out
            show _ ∧ _; omega
          clear e0 e1 hh
          go_wp2
          go_round
          case rel => exact ⟨k + 1, by omega, by go_num, hn⟩
          case measure => simp [intOf]; omega
    · have hl2 : (9 : Int) ≤ (k : Int) := by omega
      have ha : Hid (asz op = 0) := by
        have := hh.out
        show asz op = 0; unfold asz; rw [if_neg (by omega), if_neg (by omega)]
      clear hf0 hf1 hh
      go_wp2
      go_ret
      exact ⟨ret_int ha.out.symm, HB.out⟩
end Go.Proofs.Ythnjppfgdkiaaaa
