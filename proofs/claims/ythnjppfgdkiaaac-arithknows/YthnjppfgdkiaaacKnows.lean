/-
  ArithKnows: the walk, by cases.
-/
import Derived.Test.YthnjppfgdkiaaacKnB
import Derived.Deep.RegionWith
namespace Go.Proofs.Ythnjppfgdkiaaac.arithKnows
open Go.ChangeShapes Go.WideShapes Go.ChangeAt Go.RowKit
set_option linter.unusedVariables false
def alA (k : Nat) : Int := if k < 15 then 35 + (k : Int) else 47 + (k : Int)
def nA (op : Int) (k : Nat) : Int := if (22 ≤ op ∧ op < 35 + (min k 15 : Nat)) ∨ (62 ≤ op ∧ op < 47 + (k : Int)) then 1 else 0
theorem nA_hit (op : Int) (k : Nat) (h : alA k = op) : nA op (k + 1) = 1 := by
  unfold alA at h; unfold nA; rw [if_pos]; split at h <;> omega
theorem nA_miss (op : Int) (k : Nat) (h : ¬ alA k = op) : nA op (k + 1) = nA op k := by
  unfold alA at h; unfold nA
  split at h
  · split <;> split <;> first | rfl | omega
  · split <;> split <;> first | rfl | omega
theorem all_cell (W w : World) (hW : W = w.alloc (.cells #[.int .i64 35, .int .i64 36, .int .i64 37, .int .i64 38, .int .i64 39, .int .i64 40, .int .i64 41, .int .i64 42, .int .i64 43, .int .i64 44, .int .i64 45, .int .i64 46, .int .i64 47, .int .i64 48, .int .i64 49, .int .i64 62, .int .i64 63, .int .i64 64, .int .i64 65, .int .i64 66, .int .i64 67, .int .i64 68, .int .i64 69, .int .i64 70, .int .i64 71, .int .i64 72, .int .i64 73, .int .i64 74] 3)) (k : Nat) (hk : k < 28) : W.cell? ⟨w.heap.size, k, none⟩ = some (.int .i64 (alA k)) := by
  rw [hW, World.cell?_alloc_at _ _ _ _ rfl]
  match k, hk with
  | 0, _ => rfl
  | 1, _ => rfl
  | 2, _ => rfl
  | 3, _ => rfl
  | 4, _ => rfl
  | 5, _ => rfl
  | 6, _ => rfl
  | 7, _ => rfl
  | 8, _ => rfl
  | 9, _ => rfl
  | 10, _ => rfl
  | 11, _ => rfl
  | 12, _ => rfl
  | 13, _ => rfl
  | 14, _ => rfl
  | 15, _ => rfl
  | 16, _ => rfl
  | 17, _ => rfl
  | 18, _ => rfl
  | 19, _ => rfl
  | 20, _ => rfl
  | 21, _ => rfl
  | 22, _ => rfl
  | 23, _ => rfl
  | 24, _ => rfl
  | 25, _ => rfl
  | 26, _ => rfl
  | 27, _ => rfl
  | m + 28, h => exact absurd h (by omega)

set_option maxHeartbeats 1000000 in
theorem k_lt5 (op : Int) (h2 : op ≤ 4) (hz : nA op 0 = 0) (hn : nA op 28 = 0) (az : asz op = 0) (r1 r3 : Int) (r2 : Bool)
    (hC : ∀ w : World, Calls Try.prog 12 #[.int .i64 op, .int .u64 5, .int .u64 3] w fun e w' => e = .returned (.tuple #[.int .u64 r1, .bool false]) ∧ Below w.heap.size w w')
    (hT : ∀ w : World, Calls Try.prog 13 #[.int .i64 op, .int .u64 5, .int .u64 3] w fun e w' => e = .returned (.tuple #[.bool r2, .bool false]) ∧ Below w.heap.size w w')
    (hM : ∀ w : World, Calls Try.prog 14 #[.int .i64 op, .int .u64 5, .int .u64 3] w fun e w' => e = .returned (.tuple #[.int .u64 r3, .bool false]) ∧ Below w.heap.size w w') (w : World) :
    Calls Try.prog 4 #[.int .i64 op] w fun e w' => e = .returned (.bool true) ∧ Below w.heap.size w w' := by
  obtain ⟨W, hW⟩ : ∃ W, W = w.alloc (.cells #[.int .i64 35, .int .i64 36, .int .i64 37, .int .i64 38, .int .i64 39, .int .i64 40, .int .i64 41, .int .i64 42, .int .i64 43, .int .i64 44, .int .i64 45, .int .i64 46, .int .i64 47, .int .i64 48, .int .i64 49, .int .i64 62, .int .i64 63, .int .i64 64, .int .i64 65, .int .i64 66, .int .i64 67, .int .i64 68, .int .i64 69, .int .i64 70, .int .i64 71, .int .i64 72, .int .i64 73, .int .i64 74] 3) := ⟨_, rfl⟩
  have hf := all_cell W w hW
  have hbel : Below w.heap.size w W := by rw [hW]; exact (Below.refl _ _).alloc (Nat.le_refl _) _
  have HZ : Hid (nA op 0 = 0) := hz
  have HN : Hid (nA op 28 = 0) := hn
  clear hz hn
  go_enter Try.func4, Try.ntmps4
  go_wp2_with (go_at_call 10; refine (all_any _).mono ?_; rintro e w' ⟨rfl, rfl⟩)
  rw [← hW]
  have HB : Hid (Below w.heap.size w W) := hbel
  clear hW hbel
  go_loop [3, 5] (fun n i => ∃ k : Nat, k ≤ 28 ∧ i = .int .i64 k ∧ n = .int .i64 (nA op k)) (fun _ i => 28 - (intOf i).toNat)
  case atStart => exact ⟨0, Nat.zero_le _, rfl, by rw [HZ.out]⟩
  case round =>
    obtain ⟨k, hk, rfl, rfl⟩ := hrel
    by_cases hlt : k < 28
    · have h0 := hf k hlt
      have hl1 : (0 : Int) ≤ (k : Int) := by omega
      have hl2 : (k : Int) < 28 := by omega
      clear hf hC hT hM az
      by_cases e0 : alA k = op
      · have t0 : (alA k == op) = true := by simp [e0]
        have hn := nA_hit op k e0
        have H1 : Hid (nA op (k + 1) = 1) := hn
        clear e0 hn
        go_wp2
        go_round
        case rel => exact ⟨k + 1, by omega, by go_num, by rw [H1.out]⟩
        case measure => simp [intOf]; omega
      · have t0 : (alA k == op) = false := by simpa using e0
        have H1 : Hid (nA op (k + 1) = nA op k) := nA_miss op k e0
        clear e0
        go_wp2
        go_round
        case rel => exact ⟨k + 1, by omega, by go_num, by rw [H1.out]⟩
        case measure => simp [intOf]; omega
    · have hl2 : (28 : Int) ≤ (k : Int) := by omega
      have hk28 : k = 28 := by omega
      subst hk28
      have hn := HN.out
      clear hf
      go_wp2_with (first
        | (go_at_call 11; refine (calls_later (x := Later.start W) (amoSize_any _ _)).mono ?_; rintro e w' ⟨rfl, y, rfl⟩)
        | (go_at_call 12; refine (calls_later (hC _)).mono ?_; rintro e w' ⟨rfl, y, rfl⟩)
        | (go_at_call 13; refine (calls_later (hT _)).mono ?_; rintro e w' ⟨rfl, y, rfl⟩)
        | (go_at_call 14; refine (calls_later (hM _)).mono ?_; rintro e w' ⟨rfl, y, rfl⟩))
      go_ret
      exact ⟨rfl, HB.out.trans ((Later.below _).mono HB.out.size)⟩

set_option maxHeartbeats 1000000 in
theorem k_br (op : Int) (h1 : 5 ≤ op) (h2 : op ≤ 10) (hz : nA op 0 = 0) (hn : nA op 28 = 0) (az : asz op = 0) (r1 r3 : Int) (r2 : Bool)
    (hC : ∀ w : World, Calls Try.prog 12 #[.int .i64 op, .int .u64 5, .int .u64 3] w fun e w' => e = .returned (.tuple #[.int .u64 r1, .bool false]) ∧ Below w.heap.size w w')
    (hT : ∀ w : World, Calls Try.prog 13 #[.int .i64 op, .int .u64 5, .int .u64 3] w fun e w' => e = .returned (.tuple #[.bool r2, .bool true]) ∧ Below w.heap.size w w')
    (hM : ∀ w : World, Calls Try.prog 14 #[.int .i64 op, .int .u64 5, .int .u64 3] w fun e w' => e = .returned (.tuple #[.int .u64 r3, .bool false]) ∧ Below w.heap.size w w') (w : World) :
    Calls Try.prog 4 #[.int .i64 op] w fun e w' => e = .returned (.bool true) ∧ Below w.heap.size w w' := by
  obtain ⟨W, hW⟩ : ∃ W, W = w.alloc (.cells #[.int .i64 35, .int .i64 36, .int .i64 37, .int .i64 38, .int .i64 39, .int .i64 40, .int .i64 41, .int .i64 42, .int .i64 43, .int .i64 44, .int .i64 45, .int .i64 46, .int .i64 47, .int .i64 48, .int .i64 49, .int .i64 62, .int .i64 63, .int .i64 64, .int .i64 65, .int .i64 66, .int .i64 67, .int .i64 68, .int .i64 69, .int .i64 70, .int .i64 71, .int .i64 72, .int .i64 73, .int .i64 74] 3) := ⟨_, rfl⟩
  have hf := all_cell W w hW
  have hbel : Below w.heap.size w W := by rw [hW]; exact (Below.refl _ _).alloc (Nat.le_refl _) _
  have HZ : Hid (nA op 0 = 0) := hz
  have HN : Hid (nA op 28 = 0) := hn
  clear hz hn
  go_enter Try.func4, Try.ntmps4
  go_wp2_with (go_at_call 10; refine (all_any _).mono ?_; rintro e w' ⟨rfl, rfl⟩)
  rw [← hW]
  have HB : Hid (Below w.heap.size w W) := hbel
  clear hW hbel
  go_loop [3, 5] (fun n i => ∃ k : Nat, k ≤ 28 ∧ i = .int .i64 k ∧ n = .int .i64 (nA op k)) (fun _ i => 28 - (intOf i).toNat)
  case atStart => exact ⟨0, Nat.zero_le _, rfl, by rw [HZ.out]⟩
  case round =>
    obtain ⟨k, hk, rfl, rfl⟩ := hrel
    by_cases hlt : k < 28
    · have h0 := hf k hlt
      have hl1 : (0 : Int) ≤ (k : Int) := by omega
      have hl2 : (k : Int) < 28 := by omega
      clear hf hC hT hM az
      by_cases e0 : alA k = op
      · have t0 : (alA k == op) = true := by simp [e0]
        have hn := nA_hit op k e0
        have H1 : Hid (nA op (k + 1) = 1) := hn
        clear e0 hn
        go_wp2
        go_round
        case rel => exact ⟨k + 1, by omega, by go_num, by rw [H1.out]⟩
        case measure => simp [intOf]; omega
      · have t0 : (alA k == op) = false := by simpa using e0
        have H1 : Hid (nA op (k + 1) = nA op k) := nA_miss op k e0
        clear e0
        go_wp2
        go_round
        case rel => exact ⟨k + 1, by omega, by go_num, by rw [H1.out]⟩
        case measure => simp [intOf]; omega
    · have hl2 : (28 : Int) ≤ (k : Int) := by omega
      have hk28 : k = 28 := by omega
      subst hk28
      have hn := HN.out
      clear hf
      go_wp2_with (first
        | (go_at_call 11; refine (calls_later (x := Later.start W) (amoSize_any _ _)).mono ?_; rintro e w' ⟨rfl, y, rfl⟩)
        | (go_at_call 12; refine (calls_later (hC _)).mono ?_; rintro e w' ⟨rfl, y, rfl⟩)
        | (go_at_call 13; refine (calls_later (hT _)).mono ?_; rintro e w' ⟨rfl, y, rfl⟩)
        | (go_at_call 14; refine (calls_later (hM _)).mono ?_; rintro e w' ⟨rfl, y, rfl⟩))
      go_ret
      exact ⟨rfl, HB.out.trans ((Later.below _).mono HB.out.size)⟩

set_option maxHeartbeats 1000000 in
theorem k_gap (op : Int) (h1 : 11 ≤ op) (h2 : op ≤ 21) (hz : nA op 0 = 0) (hn : nA op 28 = 0) (az : asz op = 0) (r1 r3 : Int) (r2 : Bool)
    (hC : ∀ w : World, Calls Try.prog 12 #[.int .i64 op, .int .u64 5, .int .u64 3] w fun e w' => e = .returned (.tuple #[.int .u64 r1, .bool false]) ∧ Below w.heap.size w w')
    (hT : ∀ w : World, Calls Try.prog 13 #[.int .i64 op, .int .u64 5, .int .u64 3] w fun e w' => e = .returned (.tuple #[.bool r2, .bool false]) ∧ Below w.heap.size w w')
    (hM : ∀ w : World, Calls Try.prog 14 #[.int .i64 op, .int .u64 5, .int .u64 3] w fun e w' => e = .returned (.tuple #[.int .u64 r3, .bool false]) ∧ Below w.heap.size w w') (w : World) :
    Calls Try.prog 4 #[.int .i64 op] w fun e w' => e = .returned (.bool true) ∧ Below w.heap.size w w' := by
  obtain ⟨W, hW⟩ : ∃ W, W = w.alloc (.cells #[.int .i64 35, .int .i64 36, .int .i64 37, .int .i64 38, .int .i64 39, .int .i64 40, .int .i64 41, .int .i64 42, .int .i64 43, .int .i64 44, .int .i64 45, .int .i64 46, .int .i64 47, .int .i64 48, .int .i64 49, .int .i64 62, .int .i64 63, .int .i64 64, .int .i64 65, .int .i64 66, .int .i64 67, .int .i64 68, .int .i64 69, .int .i64 70, .int .i64 71, .int .i64 72, .int .i64 73, .int .i64 74] 3) := ⟨_, rfl⟩
  have hf := all_cell W w hW
  have hbel : Below w.heap.size w W := by rw [hW]; exact (Below.refl _ _).alloc (Nat.le_refl _) _
  have HZ : Hid (nA op 0 = 0) := hz
  have HN : Hid (nA op 28 = 0) := hn
  clear hz hn
  go_enter Try.func4, Try.ntmps4
  go_wp2_with (go_at_call 10; refine (all_any _).mono ?_; rintro e w' ⟨rfl, rfl⟩)
  rw [← hW]
  have HB : Hid (Below w.heap.size w W) := hbel
  clear hW hbel
  go_loop [3, 5] (fun n i => ∃ k : Nat, k ≤ 28 ∧ i = .int .i64 k ∧ n = .int .i64 (nA op k)) (fun _ i => 28 - (intOf i).toNat)
  case atStart => exact ⟨0, Nat.zero_le _, rfl, by rw [HZ.out]⟩
  case round =>
    obtain ⟨k, hk, rfl, rfl⟩ := hrel
    by_cases hlt : k < 28
    · have h0 := hf k hlt
      have hl1 : (0 : Int) ≤ (k : Int) := by omega
      have hl2 : (k : Int) < 28 := by omega
      clear hf hC hT hM az
      by_cases e0 : alA k = op
      · have t0 : (alA k == op) = true := by simp [e0]
        have hn := nA_hit op k e0
        have H1 : Hid (nA op (k + 1) = 1) := hn
        clear e0 hn
        go_wp2
        go_round
        case rel => exact ⟨k + 1, by omega, by go_num, by rw [H1.out]⟩
        case measure => simp [intOf]; omega
      · have t0 : (alA k == op) = false := by simpa using e0
        have H1 : Hid (nA op (k + 1) = nA op k) := nA_miss op k e0
        clear e0
        go_wp2
        go_round
        case rel => exact ⟨k + 1, by omega, by go_num, by rw [H1.out]⟩
        case measure => simp [intOf]; omega
    · have hl2 : (28 : Int) ≤ (k : Int) := by omega
      have hk28 : k = 28 := by omega
      subst hk28
      have hn := HN.out
      clear hf
      go_wp2_with (first
        | (go_at_call 11; refine (calls_later (x := Later.start W) (amoSize_any _ _)).mono ?_; rintro e w' ⟨rfl, y, rfl⟩)
        | (go_at_call 12; refine (calls_later (hC _)).mono ?_; rintro e w' ⟨rfl, y, rfl⟩)
        | (go_at_call 13; refine (calls_later (hT _)).mono ?_; rintro e w' ⟨rfl, y, rfl⟩)
        | (go_at_call 14; refine (calls_later (hM _)).mono ?_; rintro e w' ⟨rfl, y, rfl⟩))
      go_ret
      exact ⟨rfl, HB.out.trans ((Later.below _).mono HB.out.size)⟩

set_option maxHeartbeats 1000000 in
theorem k_imm (op : Int) (h1 : 22 ≤ op) (h2 : op ≤ 34) (hz : nA op 0 = 1) (hn : nA op 28 = 1) (az : asz op = 0) (r1 r3 : Int) (r2 : Bool)
    (hC : ∀ w : World, Calls Try.prog 12 #[.int .i64 op, .int .u64 5, .int .u64 3] w fun e w' => e = .returned (.tuple #[.int .u64 r1, .bool true]) ∧ Below w.heap.size w w')
    (hT : ∀ w : World, Calls Try.prog 13 #[.int .i64 op, .int .u64 5, .int .u64 3] w fun e w' => e = .returned (.tuple #[.bool r2, .bool false]) ∧ Below w.heap.size w w')
    (hM : ∀ w : World, Calls Try.prog 14 #[.int .i64 op, .int .u64 5, .int .u64 3] w fun e w' => e = .returned (.tuple #[.int .u64 r3, .bool false]) ∧ Below w.heap.size w w') (w : World) :
    Calls Try.prog 4 #[.int .i64 op] w fun e w' => e = .returned (.bool true) ∧ Below w.heap.size w w' := by
  obtain ⟨W, hW⟩ : ∃ W, W = w.alloc (.cells #[.int .i64 35, .int .i64 36, .int .i64 37, .int .i64 38, .int .i64 39, .int .i64 40, .int .i64 41, .int .i64 42, .int .i64 43, .int .i64 44, .int .i64 45, .int .i64 46, .int .i64 47, .int .i64 48, .int .i64 49, .int .i64 62, .int .i64 63, .int .i64 64, .int .i64 65, .int .i64 66, .int .i64 67, .int .i64 68, .int .i64 69, .int .i64 70, .int .i64 71, .int .i64 72, .int .i64 73, .int .i64 74] 3) := ⟨_, rfl⟩
  have hf := all_cell W w hW
  have hbel : Below w.heap.size w W := by rw [hW]; exact (Below.refl _ _).alloc (Nat.le_refl _) _
  have HZ : Hid (nA op 0 = 1) := hz
  have HN : Hid (nA op 28 = 1) := hn
  clear hz hn
  go_enter Try.func4, Try.ntmps4
  go_wp2_with (go_at_call 10; refine (all_any _).mono ?_; rintro e w' ⟨rfl, rfl⟩)
  rw [← hW]
  have HB : Hid (Below w.heap.size w W) := hbel
  clear hW hbel
  go_loop [3, 5] (fun n i => ∃ k : Nat, k ≤ 28 ∧ i = .int .i64 k ∧ n = .int .i64 (nA op k)) (fun _ i => 28 - (intOf i).toNat)
  case atStart => exact ⟨0, Nat.zero_le _, rfl, by rw [HZ.out]⟩
  case round =>
    obtain ⟨k, hk, rfl, rfl⟩ := hrel
    by_cases hlt : k < 28
    · have h0 := hf k hlt
      have hl1 : (0 : Int) ≤ (k : Int) := by omega
      have hl2 : (k : Int) < 28 := by omega
      clear hf hC hT hM az
      by_cases e0 : alA k = op
      · have t0 : (alA k == op) = true := by simp [e0]
        have hn := nA_hit op k e0
        have H1 : Hid (nA op (k + 1) = 1) := hn
        clear e0 hn
        go_wp2
        go_round
        case rel => exact ⟨k + 1, by omega, by go_num, by rw [H1.out]⟩
        case measure => simp [intOf]; omega
      · have t0 : (alA k == op) = false := by simpa using e0
        have H1 : Hid (nA op (k + 1) = nA op k) := nA_miss op k e0
        clear e0
        go_wp2
        go_round
        case rel => exact ⟨k + 1, by omega, by go_num, by rw [H1.out]⟩
        case measure => simp [intOf]; omega
    · have hl2 : (28 : Int) ≤ (k : Int) := by omega
      have hk28 : k = 28 := by omega
      subst hk28
      have hn := HN.out
      clear hf
      go_wp2_with (first
        | (go_at_call 11; refine (calls_later (x := Later.start W) (amoSize_any _ _)).mono ?_; rintro e w' ⟨rfl, y, rfl⟩)
        | (go_at_call 12; refine (calls_later (hC _)).mono ?_; rintro e w' ⟨rfl, y, rfl⟩)
        | (go_at_call 13; refine (calls_later (hT _)).mono ?_; rintro e w' ⟨rfl, y, rfl⟩)
        | (go_at_call 14; refine (calls_later (hM _)).mono ?_; rintro e w' ⟨rfl, y, rfl⟩))
      go_ret
      exact ⟨rfl, HB.out.trans ((Later.below _).mono HB.out.size)⟩

set_option maxHeartbeats 1000000 in
theorem k_reg (op : Int) (h1 : 35 ≤ op) (hz : nA op 0 = 0) (hn : nA op 28 = 1) (az : asz op = 0) (r1 r3 : Int) (r2 : Bool)
    (hC : ∀ w : World, Calls Try.prog 12 #[.int .i64 op, .int .u64 5, .int .u64 3] w fun e w' => e = .returned (.tuple #[.int .u64 r1, .bool true]) ∧ Below w.heap.size w w')
    (hT : ∀ w : World, Calls Try.prog 13 #[.int .i64 op, .int .u64 5, .int .u64 3] w fun e w' => e = .returned (.tuple #[.bool r2, .bool false]) ∧ Below w.heap.size w w')
    (hM : ∀ w : World, Calls Try.prog 14 #[.int .i64 op, .int .u64 5, .int .u64 3] w fun e w' => e = .returned (.tuple #[.int .u64 r3, .bool false]) ∧ Below w.heap.size w w') (w : World) :
    Calls Try.prog 4 #[.int .i64 op] w fun e w' => e = .returned (.bool true) ∧ Below w.heap.size w w' := by
  obtain ⟨W, hW⟩ : ∃ W, W = w.alloc (.cells #[.int .i64 35, .int .i64 36, .int .i64 37, .int .i64 38, .int .i64 39, .int .i64 40, .int .i64 41, .int .i64 42, .int .i64 43, .int .i64 44, .int .i64 45, .int .i64 46, .int .i64 47, .int .i64 48, .int .i64 49, .int .i64 62, .int .i64 63, .int .i64 64, .int .i64 65, .int .i64 66, .int .i64 67, .int .i64 68, .int .i64 69, .int .i64 70, .int .i64 71, .int .i64 72, .int .i64 73, .int .i64 74] 3) := ⟨_, rfl⟩
  have hf := all_cell W w hW
  have hbel : Below w.heap.size w W := by rw [hW]; exact (Below.refl _ _).alloc (Nat.le_refl _) _
  have HZ : Hid (nA op 0 = 0) := hz
  have HN : Hid (nA op 28 = 1) := hn
  clear hz hn
  go_enter Try.func4, Try.ntmps4
  go_wp2_with (go_at_call 10; refine (all_any _).mono ?_; rintro e w' ⟨rfl, rfl⟩)
  rw [← hW]
  have HB : Hid (Below w.heap.size w W) := hbel
  clear hW hbel
  go_loop [3, 5] (fun n i => ∃ k : Nat, k ≤ 28 ∧ i = .int .i64 k ∧ n = .int .i64 (nA op k)) (fun _ i => 28 - (intOf i).toNat)
  case atStart => exact ⟨0, Nat.zero_le _, rfl, by rw [HZ.out]⟩
  case round =>
    obtain ⟨k, hk, rfl, rfl⟩ := hrel
    by_cases hlt : k < 28
    · have h0 := hf k hlt
      have hl1 : (0 : Int) ≤ (k : Int) := by omega
      have hl2 : (k : Int) < 28 := by omega
      clear hf hC hT hM az
      by_cases e0 : alA k = op
      · have t0 : (alA k == op) = true := by simp [e0]
        have hn := nA_hit op k e0
        have H1 : Hid (nA op (k + 1) = 1) := hn
        clear e0 hn
        go_wp2
        go_round
        case rel => exact ⟨k + 1, by omega, by go_num, by rw [H1.out]⟩
        case measure => simp [intOf]; omega
      · have t0 : (alA k == op) = false := by simpa using e0
        have H1 : Hid (nA op (k + 1) = nA op k) := nA_miss op k e0
        clear e0
        go_wp2
        go_round
        case rel => exact ⟨k + 1, by omega, by go_num, by rw [H1.out]⟩
        case measure => simp [intOf]; omega
    · have hl2 : (28 : Int) ≤ (k : Int) := by omega
      have hk28 : k = 28 := by omega
      subst hk28
      have hn := HN.out
      clear hf
      go_wp2_with (first
        | (go_at_call 11; refine (calls_later (x := Later.start W) (amoSize_any _ _)).mono ?_; rintro e w' ⟨rfl, y, rfl⟩)
        | (go_at_call 12; refine (calls_later (hC _)).mono ?_; rintro e w' ⟨rfl, y, rfl⟩)
        | (go_at_call 13; refine (calls_later (hT _)).mono ?_; rintro e w' ⟨rfl, y, rfl⟩)
        | (go_at_call 14; refine (calls_later (hM _)).mono ?_; rintro e w' ⟨rfl, y, rfl⟩))
      go_ret
      exact ⟨rfl, HB.out.trans ((Later.below _).mono HB.out.size)⟩

set_option maxHeartbeats 1000000 in
theorem k_amw (op : Int) (h1 : 35 ≤ op) (hz : nA op 0 = 0) (hn : nA op 28 = 0) (az : asz op = 4) (r1 r3 : Int) (r2 : Bool)
    (hC : ∀ w : World, Calls Try.prog 12 #[.int .i64 op, .int .u64 5, .int .u64 3] w fun e w' => e = .returned (.tuple #[.int .u64 r1, .bool false]) ∧ Below w.heap.size w w')
    (hT : ∀ w : World, Calls Try.prog 13 #[.int .i64 op, .int .u64 5, .int .u64 3] w fun e w' => e = .returned (.tuple #[.bool r2, .bool false]) ∧ Below w.heap.size w w')
    (hM : ∀ w : World, Calls Try.prog 14 #[.int .i64 op, .int .u64 5, .int .u64 3] w fun e w' => e = .returned (.tuple #[.int .u64 r3, .bool true]) ∧ Below w.heap.size w w') (w : World) :
    Calls Try.prog 4 #[.int .i64 op] w fun e w' => e = .returned (.bool true) ∧ Below w.heap.size w w' := by
  obtain ⟨W, hW⟩ : ∃ W, W = w.alloc (.cells #[.int .i64 35, .int .i64 36, .int .i64 37, .int .i64 38, .int .i64 39, .int .i64 40, .int .i64 41, .int .i64 42, .int .i64 43, .int .i64 44, .int .i64 45, .int .i64 46, .int .i64 47, .int .i64 48, .int .i64 49, .int .i64 62, .int .i64 63, .int .i64 64, .int .i64 65, .int .i64 66, .int .i64 67, .int .i64 68, .int .i64 69, .int .i64 70, .int .i64 71, .int .i64 72, .int .i64 73, .int .i64 74] 3) := ⟨_, rfl⟩
  have hf := all_cell W w hW
  have hbel : Below w.heap.size w W := by rw [hW]; exact (Below.refl _ _).alloc (Nat.le_refl _) _
  have HZ : Hid (nA op 0 = 0) := hz
  have HN : Hid (nA op 28 = 0) := hn
  clear hz hn
  go_enter Try.func4, Try.ntmps4
  go_wp2_with (go_at_call 10; refine (all_any _).mono ?_; rintro e w' ⟨rfl, rfl⟩)
  rw [← hW]
  have HB : Hid (Below w.heap.size w W) := hbel
  clear hW hbel
  go_loop [3, 5] (fun n i => ∃ k : Nat, k ≤ 28 ∧ i = .int .i64 k ∧ n = .int .i64 (nA op k)) (fun _ i => 28 - (intOf i).toNat)
  case atStart => exact ⟨0, Nat.zero_le _, rfl, by rw [HZ.out]⟩
  case round =>
    obtain ⟨k, hk, rfl, rfl⟩ := hrel
    by_cases hlt : k < 28
    · have h0 := hf k hlt
      have hl1 : (0 : Int) ≤ (k : Int) := by omega
      have hl2 : (k : Int) < 28 := by omega
      clear hf hC hT hM az
      by_cases e0 : alA k = op
      · have t0 : (alA k == op) = true := by simp [e0]
        have hn := nA_hit op k e0
        have H1 : Hid (nA op (k + 1) = 1) := hn
        clear e0 hn
        go_wp2
        go_round
        case rel => exact ⟨k + 1, by omega, by go_num, by rw [H1.out]⟩
        case measure => simp [intOf]; omega
      · have t0 : (alA k == op) = false := by simpa using e0
        have H1 : Hid (nA op (k + 1) = nA op k) := nA_miss op k e0
        clear e0
        go_wp2
        go_round
        case rel => exact ⟨k + 1, by omega, by go_num, by rw [H1.out]⟩
        case measure => simp [intOf]; omega
    · have hl2 : (28 : Int) ≤ (k : Int) := by omega
      have hk28 : k = 28 := by omega
      subst hk28
      have hn := HN.out
      clear hf
      go_wp2_with (first
        | (go_at_call 11; refine (calls_later (x := Later.start W) (amoSize_any _ _)).mono ?_; rintro e w' ⟨rfl, y, rfl⟩)
        | (go_at_call 12; refine (calls_later (hC _)).mono ?_; rintro e w' ⟨rfl, y, rfl⟩)
        | (go_at_call 13; refine (calls_later (hT _)).mono ?_; rintro e w' ⟨rfl, y, rfl⟩)
        | (go_at_call 14; refine (calls_later (hM _)).mono ?_; rintro e w' ⟨rfl, y, rfl⟩))
      go_ret
      exact ⟨rfl, HB.out.trans ((Later.below _).mono HB.out.size)⟩

set_option maxHeartbeats 1000000 in
theorem k_amd (op : Int) (h1 : 35 ≤ op) (hz : nA op 0 = 0) (hn : nA op 28 = 0) (az : asz op = 8) (r1 r3 : Int) (r2 : Bool)
    (hC : ∀ w : World, Calls Try.prog 12 #[.int .i64 op, .int .u64 5, .int .u64 3] w fun e w' => e = .returned (.tuple #[.int .u64 r1, .bool false]) ∧ Below w.heap.size w w')
    (hT : ∀ w : World, Calls Try.prog 13 #[.int .i64 op, .int .u64 5, .int .u64 3] w fun e w' => e = .returned (.tuple #[.bool r2, .bool false]) ∧ Below w.heap.size w w')
    (hM : ∀ w : World, Calls Try.prog 14 #[.int .i64 op, .int .u64 5, .int .u64 3] w fun e w' => e = .returned (.tuple #[.int .u64 r3, .bool true]) ∧ Below w.heap.size w w') (w : World) :
    Calls Try.prog 4 #[.int .i64 op] w fun e w' => e = .returned (.bool true) ∧ Below w.heap.size w w' := by
  obtain ⟨W, hW⟩ : ∃ W, W = w.alloc (.cells #[.int .i64 35, .int .i64 36, .int .i64 37, .int .i64 38, .int .i64 39, .int .i64 40, .int .i64 41, .int .i64 42, .int .i64 43, .int .i64 44, .int .i64 45, .int .i64 46, .int .i64 47, .int .i64 48, .int .i64 49, .int .i64 62, .int .i64 63, .int .i64 64, .int .i64 65, .int .i64 66, .int .i64 67, .int .i64 68, .int .i64 69, .int .i64 70, .int .i64 71, .int .i64 72, .int .i64 73, .int .i64 74] 3) := ⟨_, rfl⟩
  have hf := all_cell W w hW
  have hbel : Below w.heap.size w W := by rw [hW]; exact (Below.refl _ _).alloc (Nat.le_refl _) _
  have HZ : Hid (nA op 0 = 0) := hz
  have HN : Hid (nA op 28 = 0) := hn
  clear hz hn
  go_enter Try.func4, Try.ntmps4
  go_wp2_with (go_at_call 10; refine (all_any _).mono ?_; rintro e w' ⟨rfl, rfl⟩)
  rw [← hW]
  have HB : Hid (Below w.heap.size w W) := hbel
  clear hW hbel
  go_loop [3, 5] (fun n i => ∃ k : Nat, k ≤ 28 ∧ i = .int .i64 k ∧ n = .int .i64 (nA op k)) (fun _ i => 28 - (intOf i).toNat)
  case atStart => exact ⟨0, Nat.zero_le _, rfl, by rw [HZ.out]⟩
  case round =>
    obtain ⟨k, hk, rfl, rfl⟩ := hrel
    by_cases hlt : k < 28
    · have h0 := hf k hlt
      have hl1 : (0 : Int) ≤ (k : Int) := by omega
      have hl2 : (k : Int) < 28 := by omega
      clear hf hC hT hM az
      by_cases e0 : alA k = op
      · have t0 : (alA k == op) = true := by simp [e0]
        have hn := nA_hit op k e0
        have H1 : Hid (nA op (k + 1) = 1) := hn
        clear e0 hn
        go_wp2
        go_round
        case rel => exact ⟨k + 1, by omega, by go_num, by rw [H1.out]⟩
        case measure => simp [intOf]; omega
      · have t0 : (alA k == op) = false := by simpa using e0
        have H1 : Hid (nA op (k + 1) = nA op k) := nA_miss op k e0
        clear e0
        go_wp2
        go_round
        case rel => exact ⟨k + 1, by omega, by go_num, by rw [H1.out]⟩
        case measure => simp [intOf]; omega
    · have hl2 : (28 : Int) ≤ (k : Int) := by omega
      have hk28 : k = 28 := by omega
      subst hk28
      have hn := HN.out
      clear hf
      go_wp2_with (first
        | (go_at_call 11; refine (calls_later (x := Later.start W) (amoSize_any _ _)).mono ?_; rintro e w' ⟨rfl, y, rfl⟩)
        | (go_at_call 12; refine (calls_later (hC _)).mono ?_; rintro e w' ⟨rfl, y, rfl⟩)
        | (go_at_call 13; refine (calls_later (hT _)).mono ?_; rintro e w' ⟨rfl, y, rfl⟩)
        | (go_at_call 14; refine (calls_later (hM _)).mono ?_; rintro e w' ⟨rfl, y, rfl⟩))
      go_ret
      exact ⟨rfl, HB.out.trans ((Later.below _).mono HB.out.size)⟩

set_option maxHeartbeats 1000000 in
theorem k_no (op : Int) (h1 : 35 ≤ op) (hz : nA op 0 = 0) (hn : nA op 28 = 0) (az : asz op = 0) (r1 r3 : Int) (r2 : Bool)
    (hC : ∀ w : World, Calls Try.prog 12 #[.int .i64 op, .int .u64 5, .int .u64 3] w fun e w' => e = .returned (.tuple #[.int .u64 r1, .bool false]) ∧ Below w.heap.size w w')
    (hT : ∀ w : World, Calls Try.prog 13 #[.int .i64 op, .int .u64 5, .int .u64 3] w fun e w' => e = .returned (.tuple #[.bool r2, .bool false]) ∧ Below w.heap.size w w')
    (hM : ∀ w : World, Calls Try.prog 14 #[.int .i64 op, .int .u64 5, .int .u64 3] w fun e w' => e = .returned (.tuple #[.int .u64 r3, .bool false]) ∧ Below w.heap.size w w') (w : World) :
    Calls Try.prog 4 #[.int .i64 op] w fun e w' => e = .returned (.bool true) ∧ Below w.heap.size w w' := by
  obtain ⟨W, hW⟩ : ∃ W, W = w.alloc (.cells #[.int .i64 35, .int .i64 36, .int .i64 37, .int .i64 38, .int .i64 39, .int .i64 40, .int .i64 41, .int .i64 42, .int .i64 43, .int .i64 44, .int .i64 45, .int .i64 46, .int .i64 47, .int .i64 48, .int .i64 49, .int .i64 62, .int .i64 63, .int .i64 64, .int .i64 65, .int .i64 66, .int .i64 67, .int .i64 68, .int .i64 69, .int .i64 70, .int .i64 71, .int .i64 72, .int .i64 73, .int .i64 74] 3) := ⟨_, rfl⟩
  have hf := all_cell W w hW
  have hbel : Below w.heap.size w W := by rw [hW]; exact (Below.refl _ _).alloc (Nat.le_refl _) _
  have HZ : Hid (nA op 0 = 0) := hz
  have HN : Hid (nA op 28 = 0) := hn
  clear hz hn
  go_enter Try.func4, Try.ntmps4
  go_wp2_with (go_at_call 10; refine (all_any _).mono ?_; rintro e w' ⟨rfl, rfl⟩)
  rw [← hW]
  have HB : Hid (Below w.heap.size w W) := hbel
  clear hW hbel
  go_loop [3, 5] (fun n i => ∃ k : Nat, k ≤ 28 ∧ i = .int .i64 k ∧ n = .int .i64 (nA op k)) (fun _ i => 28 - (intOf i).toNat)
  case atStart => exact ⟨0, Nat.zero_le _, rfl, by rw [HZ.out]⟩
  case round =>
    obtain ⟨k, hk, rfl, rfl⟩ := hrel
    by_cases hlt : k < 28
    · have h0 := hf k hlt
      have hl1 : (0 : Int) ≤ (k : Int) := by omega
      have hl2 : (k : Int) < 28 := by omega
      clear hf hC hT hM az
      by_cases e0 : alA k = op
      · have t0 : (alA k == op) = true := by simp [e0]
        have hn := nA_hit op k e0
        have H1 : Hid (nA op (k + 1) = 1) := hn
        clear e0 hn
        go_wp2
        go_round
        case rel => exact ⟨k + 1, by omega, by go_num, by rw [H1.out]⟩
        case measure => simp [intOf]; omega
      · have t0 : (alA k == op) = false := by simpa using e0
        have H1 : Hid (nA op (k + 1) = nA op k) := nA_miss op k e0
        clear e0
        go_wp2
        go_round
        case rel => exact ⟨k + 1, by omega, by go_num, by rw [H1.out]⟩
        case measure => simp [intOf]; omega
    · have hl2 : (28 : Int) ≤ (k : Int) := by omega
      have hk28 : k = 28 := by omega
      subst hk28
      have hn := HN.out
      clear hf
      go_wp2_with (first
        | (go_at_call 11; refine (calls_later (x := Later.start W) (amoSize_any _ _)).mono ?_; rintro e w' ⟨rfl, y, rfl⟩)
        | (go_at_call 12; refine (calls_later (hC _)).mono ?_; rintro e w' ⟨rfl, y, rfl⟩)
        | (go_at_call 13; refine (calls_later (hT _)).mono ?_; rintro e w' ⟨rfl, y, rfl⟩)
        | (go_at_call 14; refine (calls_later (hM _)).mono ?_; rintro e w' ⟨rfl, y, rfl⟩))
      go_ret
      exact ⟨rfl, HB.out.trans ((Later.below _).mono HB.out.size)⟩

theorem walk (op : Int) (w : World) : Calls Try.prog 4 #[.int .i64 op] w fun e w' => e = .returned (.bool true) ∧ Below w.heap.size w w' := by
  obtain ⟨r1, hC⟩ := cp_all op
  obtain ⟨r2, hT⟩ := tn_all op
  obtain ⟨r3, hM⟩ := mo_all op
  have ec : cK op = decide ((22 ≤ op ∧ op < 50) ∨ (62 ≤ op ∧ op < 75)) := rfl
  have et : tK op = decide (5 ≤ op ∧ op ≤ 10) := rfl
  have em : mK op = decide ((77 ≤ op ∧ op ≤ 85) ∨ (88 ≤ op ∧ op ≤ 96)) := rfl
  rw [ec] at hC
  rw [et] at hT
  rw [em] at hM
  clear ec et em
  by_cases g1 : op ≤ 4
  · rw [decide_eq_false (by omega)] at hC
    rw [decide_eq_false (by omega)] at hT
    rw [decide_eq_false (by omega)] at hM
    exact k_lt5 op (by omega) (by unfold nA; rw [if_neg (by omega)]) (by unfold nA; rw [if_neg (by omega)]) (by unfold asz; rw [if_neg (by omega), if_neg (by omega)]) r1 r3 r2 hC hT hM w
  by_cases g2 : op ≤ 10
  · rw [decide_eq_false (by omega)] at hC
    rw [decide_eq_true (by omega)] at hT
    rw [decide_eq_false (by omega)] at hM
    exact k_br op (by omega) (by omega) (by unfold nA; rw [if_neg (by omega)]) (by unfold nA; rw [if_neg (by omega)]) (by unfold asz; rw [if_neg (by omega), if_neg (by omega)]) r1 r3 r2 hC hT hM w
  by_cases g3 : op ≤ 21
  · rw [decide_eq_false (by omega)] at hC
    rw [decide_eq_false (by omega)] at hT
    rw [decide_eq_false (by omega)] at hM
    exact k_gap op (by omega) (by omega) (by unfold nA; rw [if_neg (by omega)]) (by unfold nA; rw [if_neg (by omega)]) (by unfold asz; rw [if_neg (by omega), if_neg (by omega)]) r1 r3 r2 hC hT hM w
  by_cases g4 : op ≤ 34
  · rw [decide_eq_true (by omega)] at hC
    rw [decide_eq_false (by omega)] at hT
    rw [decide_eq_false (by omega)] at hM
    exact k_imm op (by omega) (by omega) (by unfold nA; rw [if_pos (by omega)]) (by unfold nA; rw [if_pos (by omega)]) (by unfold asz; rw [if_neg (by omega), if_neg (by omega)]) r1 r3 r2 hC hT hM w
  by_cases g5 : op < 50 ∨ (62 ≤ op ∧ op < 75)
  · rw [decide_eq_true (by omega)] at hC
    rw [decide_eq_false (by omega)] at hT
    rw [decide_eq_false (by omega)] at hM
    exact k_reg op (by omega) (by unfold nA; rw [if_neg (by omega)]) (by unfold nA; rw [if_pos (by omega)]) (by unfold asz; rw [if_neg (by omega), if_neg (by omega)]) r1 r3 r2 hC hT hM w
  by_cases g6 : 77 ≤ op ∧ op ≤ 85
  · rw [decide_eq_false (by omega)] at hC
    rw [decide_eq_false (by omega)] at hT
    rw [decide_eq_true (by omega)] at hM
    exact k_amw op (by omega) (by unfold nA; rw [if_neg (by omega)]) (by unfold nA; rw [if_neg (by omega)]) (by unfold asz; rw [if_pos (by omega)]) r1 r3 r2 hC hT hM w
  by_cases g7 : 88 ≤ op ∧ op ≤ 96
  · rw [decide_eq_false (by omega)] at hC
    rw [decide_eq_false (by omega)] at hT
    rw [decide_eq_true (by omega)] at hM
    exact k_amd op (by omega) (by unfold nA; rw [if_neg (by omega)]) (by unfold nA; rw [if_neg (by omega)]) (by unfold asz; rw [if_neg (by omega), if_pos (by omega)]) r1 r3 r2 hC hT hM w
  · rw [decide_eq_false (by omega)] at hC
    rw [decide_eq_false (by omega)] at hT
    rw [decide_eq_false (by omega)] at hM
    exact k_no op (by omega) (by unfold nA; rw [if_neg (by omega)]) (by unfold nA; rw [if_neg (by omega)]) (by unfold asz; rw [if_neg (by omega), if_neg (by omega)]) r1 r3 r2 hC hT hM w

theorem own : ownKnob Try.prog.godebug = none := by kernel_rfl
set_option maxRecDepth 100000 in
theorem lifted (os : Os) (started : os.Started) (H : Type) (enc : TypeId × Value → H) :
    ReturnsInHanded {} Try.checked os 4 .any (Rows.arithKnowsSpec.pre6 enc Try.prog Try.f4 Rows.arithKnowsRow.domain false) (Rows.arithKnowsSpec.post enc Try.prog Try.f4 false true false false) := by
  refine returnsInHanded_of_change (C := Try.checked) own started (by kernel_rfl) Try.func4
    (ChangeSpec.witness6 (enc := enc) (C := Try.checked) false ⟨#[], #[.int .i64 0], []⟩ 8 (by kernel_rfl) (by kernel_rfl) (by kernel_rfl) (by kernel_rfl)) ?_
  intro W base args ds gs before hval0 hW hcnd _
  have hval : ∀ (j : Nat) t v, Try.f4.params[j]? = some t → args[j]? = some v → Value.okWide Try.prog W .any base t v := hval0
  have hW' := hW
  obtain ⟨p, q, hA0, hV, rfl, hfz, hnd⟩ := hW
  have hA : DataW.TrodAll enc Try.prog W 0 (fun _ => true) true Try.f4.params.toList args.toList ds p := hA0
  rw [Try.params4] at hA hval
  obtain ⟨v0, vs0, d0, ds0, p0, q0, hargs, rfl, rfl, h0, r0⟩ := trodAll_cons hA
  obtain ⟨rfl, rfl, rfl⟩ := trodAll_nil r0
  obtain rfl : args = #[v0] := by cases args; simp_all
  obtain ⟨rfl, rfl⟩ := trodVars_none hV
  obtain ⟨a0, rfl, rfl, rfl, w0⟩ := open_int Try.underlying3 (hval 0 3 v0 rfl rfl) h0
  clear hA0 hval0
  refine (walk a0 W).mono fun e W' ⟨he, bel⟩ => ?_
  subst he
  exact ⟨_, rfl, _, _, _, [], _, [], hW', trodAll_mk1 (shut_bool Try.underlying4 _), trodAll_cons_mk (shut_int Try.underlying3 w0) trodAll_mk0, rfl, bel.frame _, fun h => by cases h⟩
theorem over : Rows.arithKnowsRow.holds Try.pinned (OpenSpec.ofChange Rows.arithKnowsSpec) :=
  OpenClaim.holds_of_wide 4 Try.f4 rfl rfl rfl rfl rfl rfl rfl ⟨rfl, rfl, rfl, rfl, rfl⟩ rfl rfl rfl rfl rfl (by kernel_rfl) Try.func4 (by kernel_rfl)
    (of_decide_eq_true (by kernel_rfl)) (by unfold Func.isWrapper; first | (rw [if_pos (by decide +kernel)]; kernel_rfl) | (rw [if_neg (by decide +kernel)]; exact ⟨rfl, rfl⟩))
    (fun os started H enc _ => lifted os started H enc)
end Go.Proofs.Ythnjppfgdkiaaac.arithKnows
namespace Go.Proofs.Ythnjppfgdkiaaac
theorem arithKnows_holds : Rows.ArithKnowsSaid := arithKnows.over
end Go.Proofs.Ythnjppfgdkiaaac
#print axioms Go.Proofs.Ythnjppfgdkiaaac.arithKnows_holds
