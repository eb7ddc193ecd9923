/-
  The reference: register, long.
-/
import Derived.Test.YthnjppfgdkiaaacC7
import Derived.Test.YthnjppfgdkiaaacMem
namespace Go.Proofs.Ythnjppfgdkiaaac
open Go.ChangeShapes Go.WideShapes Go.ChangeAt Go.RowKit

def rgf (k : Nat) : Int := [22, 23, 24, 25, 26, 27, 28, 29, 30, 31, 32, 33, 34].getD k 0
def rgt (k : Nat) : Int := [35, 38, 39, 40, 43, 44, 37, 41, 42, 45, 47, 48, 49].getD k 0
/-- The table's answer. -/
def rg (op : Int) : Int := if op = 22 then 35 else if op = 23 then 38 else if op = 24 then 39 else if op = 25 then 40 else if op = 26 then 43 else if op = 27 then 44 else if op = 28 then 37 else if op = 29 then 41 else if op = 30 then 42 else if op = 31 then 45 else if op = 32 then 47 else if op = 33 then 48 else if op = 34 then 49 else op
theorem rg_hit (k : Nat) (hk : k < 13) : rg (rgf k) = rgt k := by
  match k, hk with
  | 0, _ => rfl
  | 1, _ => rfl
  | 2, _ => rfl
  | 3, _ => rfl
  | 4, _ => rfl
  | 5, _ => rfl
  | 6, _ => rfl
  | 7, _ => rfl
  | 8, _ => rfl
  | 9, _ => rfl
  | 10, _ => rfl
  | 11, _ => rfl
  | 12, _ => rfl
theorem rg_miss (op : Int) (h : ∀ j, j < 13 → rgf j ≠ op) : rg op = op := by
  have h0 : op ≠ 22 := fun e => h 0 (by decide) e.symm
  have h1 : op ≠ 23 := fun e => h 1 (by decide) e.symm
  have h2 : op ≠ 24 := fun e => h 2 (by decide) e.symm
  have h3 : op ≠ 25 := fun e => h 3 (by decide) e.symm
  have h4 : op ≠ 26 := fun e => h 4 (by decide) e.symm
  have h5 : op ≠ 27 := fun e => h 5 (by decide) e.symm
  have h6 : op ≠ 28 := fun e => h 6 (by decide) e.symm
  have h7 : op ≠ 29 := fun e => h 7 (by decide) e.symm
  have h8 : op ≠ 30 := fun e => h 8 (by decide) e.symm
  have h9 : op ≠ 31 := fun e => h 9 (by decide) e.symm
  have h10 : op ≠ 32 := fun e => h 10 (by decide) e.symm
  have h11 : op ≠ 33 := fun e => h 11 (by decide) e.symm
  have h12 : op ≠ 34 := fun e => h 12 (by decide) e.symm
  unfold rg; rw [if_neg h0, if_neg h1, if_neg h2, if_neg h3, if_neg h4, if_neg h5, if_neg h6, if_neg h7, if_neg h8, if_neg h9, if_neg h10, if_neg h11, if_neg h12]

set_option maxHeartbeats 1000000 in
theorem register_any (op : Int) (w : World) : Calls Try.prog 22 #[.int .i64 op] w fun e w' => e = .returned (.int .i64 (rg op)) ∧ Below w.heap.size w w' := by
  obtain ⟨W, hW⟩ : ∃ W, W = (w.alloc (.cells #[.int .i64 22, .int .i64 23, .int .i64 24, .int .i64 25, .int .i64 26, .int .i64 27, .int .i64 28, .int .i64 29, .int .i64 30, .int .i64 31, .int .i64 32, .int .i64 33, .int .i64 34] 3)).alloc (.cells #[.int .i64 35, .int .i64 38, .int .i64 39, .int .i64 40, .int .i64 43, .int .i64 44, .int .i64 37, .int .i64 41, .int .i64 42, .int .i64 45, .int .i64 47, .int .i64 48, .int .i64 49] 3) := ⟨_, rfl⟩
  have hf0 : ∀ k : Nat, k < 13 → W.cell? ⟨w.heap.size, k, none⟩ = some (.int .i64 (rgf k)) := fun k hk => by
    rw [hW, alloc2_0]
    match k, hk with
    | 0, _ => rfl
    | 1, _ => rfl
    | 2, _ => rfl
    | 3, _ => rfl
    | 4, _ => rfl
    | 5, _ => rfl
    | 6, _ => rfl
    | 7, _ => rfl
    | 8, _ => rfl
    | 9, _ => rfl
    | 10, _ => rfl
    | 11, _ => rfl
    | 12, _ => rfl
  have hf1 : ∀ k : Nat, k < 13 → W.cell? ⟨w.heap.size + 1, k, none⟩ = some (.int .i64 (rgt k)) := fun k hk => by
    rw [hW, alloc2_1]
    match k, hk with
    | 0, _ => rfl
    | 1, _ => rfl
    | 2, _ => rfl
    | 3, _ => rfl
    | 4, _ => rfl
    | 5, _ => rfl
    | 6, _ => rfl
    | 7, _ => rfl
    | 8, _ => rfl
    | 9, _ => rfl
    | 10, _ => rfl
    | 11, _ => rfl
    | 12, _ => rfl
  have hbel : Below w.heap.size w W := by
    rw [hW]; exact ((Below.refl _ _).alloc (Nat.le_refl _) _).alloc (by simp) _
  obtain ⟨R, hR⟩ : ∃ R, R = rg op := ⟨_, rfl⟩
  rw [← hR]
  have HR : Hid (R = rg op) := hR
  clear hR
  go_enter Try.func22, Try.ntmps22
  go_wp2_with fail
  rw [← hW]
  have HB : Hid (Below w.heap.size w W) := hbel
  clear hW hbel
  go_loop [5] (fun i => ∃ k : Nat, k ≤ 13 ∧ i = .int .i64 k ∧ Hid (∀ j, j < k → rgf j ≠ op)) (fun i => 13 - (intOf i).toNat)
  case atStart => exact ⟨0, Nat.zero_le _, rfl, fun j hj => absurd hj (by omega)⟩
  case round =>
    obtain ⟨k, hk, rfl, hh⟩ := hrel
    by_cases hlt : k < 13
    · have h0 := hf0 k hlt
      have h1 := hf1 k hlt
      have hl1 : (0 : Int) ≤ (k : Int) := by omega
      have hl2 : (k : Int) < 13 := by omega
      clear hf0 hf1
      by_cases e0 : rgf k = op
      · have t0 : (rgf k == op) = true := by simp [e0]
        have ha : Hid (R = rgt k) := by show R = rgt k; rw [HR.out, ← e0]; exact rg_hit k hlt
        clear e0
        go_wp2
        go_ret
        exact ⟨ret_int ha.out.symm, HB.out⟩
      · have t0 : (rgf k == op) = false := by simpa using e0
        have hn : Hid (∀ j, j < k + 1 → rgf j ≠ op) := fun j hj => by
          by_cases e : j = k
          · rw [e]; exact e0
          · exact hh.out j (by omega)
        clear e0 hh
        go_wp2
        go_round
        case rel => exact ⟨k + 1, by omega, by go_num, hn⟩
        case measure => simp [intOf]; omega
    · have hl2 : (13 : Int) ≤ (k : Int) := by omega
      have ha : Hid (R = op) := by
        show R = op; rw [HR.out]; exact rg_miss op (fun j hj => hh.out j (by omega))
      clear hf0 hf1 hh
      go_wp2
      go_ret
      exact ⟨ret_int ha.out.symm, HB.out⟩

def lof (k : Nat) : Int := [45, 46, 47, 48, 49, 70, 71, 72, 73, 74].getD k 0
def lot (k : Nat) : Int := [35, 36, 37, 41, 42, 62, 66, 67, 68, 69].getD k 0
/-- The table's answer. -/
def lo (op : Int) : Int := if op = 45 then 35 else if op = 46 then 36 else if op = 47 then 37 else if op = 48 then 41 else if op = 49 then 42 else if op = 70 then 62 else if op = 71 then 66 else if op = 72 then 67 else if op = 73 then 68 else if op = 74 then 69 else 0
theorem lo_hit (k : Nat) (hk : k < 10) : lo (lof k) = lot k := by
  match k, hk with
  | 0, _ => rfl
  | 1, _ => rfl
  | 2, _ => rfl
  | 3, _ => rfl
  | 4, _ => rfl
  | 5, _ => rfl
  | 6, _ => rfl
  | 7, _ => rfl
  | 8, _ => rfl
  | 9, _ => rfl
theorem lo_miss (op : Int) (h : ∀ j, j < 10 → lof j ≠ op) : lo op = 0 := by
  have h0 : op ≠ 45 := fun e => h 0 (by decide) e.symm
  have h1 : op ≠ 46 := fun e => h 1 (by decide) e.symm
  have h2 : op ≠ 47 := fun e => h 2 (by decide) e.symm
  have h3 : op ≠ 48 := fun e => h 3 (by decide) e.symm
  have h4 : op ≠ 49 := fun e => h 4 (by decide) e.symm
  have h5 : op ≠ 70 := fun e => h 5 (by decide) e.symm
  have h6 : op ≠ 71 := fun e => h 6 (by decide) e.symm
  have h7 : op ≠ 72 := fun e => h 7 (by decide) e.symm
  have h8 : op ≠ 73 := fun e => h 8 (by decide) e.symm
  have h9 : op ≠ 74 := fun e => h 9 (by decide) e.symm
  unfold lo; rw [if_neg h0, if_neg h1, if_neg h2, if_neg h3, if_neg h4, if_neg h5, if_neg h6, if_neg h7, if_neg h8, if_neg h9]

set_option maxHeartbeats 1000000 in
theorem long_any (op : Int) (w : World) : Calls Try.prog 24 #[.int .i64 op] w fun e w' => e = .returned (.int .i64 (lo op)) ∧ Below w.heap.size w w' := by
  obtain ⟨W, hW⟩ : ∃ W, W = (w.alloc (.cells #[.int .i64 45, .int .i64 46, .int .i64 47, .int .i64 48, .int .i64 49, .int .i64 70, .int .i64 71, .int .i64 72, .int .i64 73, .int .i64 74] 3)).alloc (.cells #[.int .i64 35, .int .i64 36, .int .i64 37, .int .i64 41, .int .i64 42, .int .i64 62, .int .i64 66, .int .i64 67, .int .i64 68, .int .i64 69] 3) := ⟨_, rfl⟩
  have hf0 : ∀ k : Nat, k < 10 → W.cell? ⟨w.heap.size, k, none⟩ = some (.int .i64 (lof k)) := fun k hk => by
    rw [hW, alloc2_0]
    match k, hk with
    | 0, _ => rfl
    | 1, _ => rfl
    | 2, _ => rfl
    | 3, _ => rfl
    | 4, _ => rfl
    | 5, _ => rfl
    | 6, _ => rfl
    | 7, _ => rfl
    | 8, _ => rfl
    | 9, _ => rfl
  have hf1 : ∀ k : Nat, k < 10 → W.cell? ⟨w.heap.size + 1, k, none⟩ = some (.int .i64 (lot k)) := fun k hk => by
    rw [hW, alloc2_1]
    match k, hk with
    | 0, _ => rfl
    | 1, _ => rfl
    | 2, _ => rfl
    | 3, _ => rfl
    | 4, _ => rfl
    | 5, _ => rfl
    | 6, _ => rfl
    | 7, _ => rfl
    | 8, _ => rfl
    | 9, _ => rfl
  have hbel : Below w.heap.size w W := by
    rw [hW]; exact ((Below.refl _ _).alloc (Nat.le_refl _) _).alloc (by simp) _
  obtain ⟨R, hR⟩ : ∃ R, R = lo op := ⟨_, rfl⟩
  rw [← hR]
  have HR : Hid (R = lo op) := hR
  clear hR
  go_enter Try.func24, Try.ntmps24
  go_wp2_with fail
  rw [← hW]
  have HB : Hid (Below w.heap.size w W) := hbel
  clear hW hbel
  go_loop [5] (fun i => ∃ k : Nat, k ≤ 10 ∧ i = .int .i64 k ∧ Hid (∀ j, j < k → lof j ≠ op)) (fun i => 10 - (intOf i).toNat)
  case atStart => exact ⟨0, Nat.zero_le _, rfl, fun j hj => absurd hj (by omega)⟩
  case round =>
    obtain ⟨k, hk, rfl, hh⟩ := hrel
    by_cases hlt : k < 10
    · have h0 := hf0 k hlt
      have h1 := hf1 k hlt
      have hl1 : (0 : Int) ≤ (k : Int) := by omega
      have hl2 : (k : Int) < 10 := by omega
      clear hf0 hf1
      by_cases e0 : lof k = op
      · have t0 : (lof k == op) = true := by simp [e0]
        have ha : Hid (R = lot k) := by show R = lot k; rw [HR.out, ← e0]; exact lo_hit k hlt
        clear e0
        go_wp2
        go_ret
        exact ⟨ret_int ha.out.symm, HB.out⟩
      · have t0 : (lof k == op) = false := by simpa using e0
        have hn : Hid (∀ j, j < k + 1 → lof j ≠ op) := fun j hj => by
          by_cases e : j = k
          · rw [e]; exact e0
          · exact hh.out j (by omega)
        clear e0 hh
        go_wp2
        go_round
        case rel => exact ⟨k + 1, by omega, by go_num, hn⟩
        case measure => simp [intOf]; omega
    · have hl2 : (10 : Int) ≤ (k : Int) := by omega
      have ha : Hid (R = 0) := by
        show R = 0; rw [HR.out]; exact lo_miss op (fun j hj => hh.out j (by omega))
      clear hf0 hf1 hh
      go_wp2
      go_ret
      exact ⟨ret_int ha.out.symm, HB.out⟩
end Go.Proofs.Ythnjppfgdkiaaac
