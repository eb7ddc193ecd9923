/-
  The reference: Amo.
-/
import Derived.Test.YthnjppfgdkiaaaaRa
import Derived.Test.YthnjppfgdkiaaaaAmSz
import Derived.Test.YthnjppfgdkiaaaaPa
namespace Go.Proofs.Ythnjppfgdkiaaaa
open Go.ChangeShapes Go.WideShapes Go.ChangeAt Go.RowKit
theorem split_w (x : BitVec 64) (w : World) : Calls Try.prog 32 #[.int .u64 (n64 x), .int .i64 32] w fun e w' => ∃ v, e = .returned v ∧ Lst w' v (bl (x.toNat % 2 ^ 32) 32) ∧ Below w.heap.size w w' := by
  rw [bl_mod]; exact split_any x 32 (by decide) (by decide) w
theorem split_d (x : BitVec 64) (w : World) : Calls Try.prog 32 #[.int .u64 (n64 x), .int .i64 64] w fun e w' => ∃ v, e = .returned v ∧ Lst w' v (bl (x.toNat % 2 ^ 64) 64) ∧ Below w.heap.size w w' := by
  rw [bl_mod]; exact split_any x 64 (by decide) (by decide) w
theorem refAmo_none (k : Int) (h : asz k = 0) (a b : Int) (w : World) : Calls Try.prog 28 #[.int .i64 k, .int .u64 a, .int .u64 b] w fun e w' => e = .returned (.tuple #[.int .u64 0, .bool false]) ∧ Below w.heap.size w w' := by
  go_enter Try.func28, Try.ntmps28
  go_wp2_with fail
  refine (amoSize_any k _).mono ?_
  rintro e w1 ⟨rfl, b1⟩
  have B1 : Hid (Below w.heap.size w w1) := b1
  clear b1
  go_wp2
  go_ret2
  exact ⟨rfl, B1.out⟩

set_option maxHeartbeats 1000000 in
theorem refAmo_word (i : Nat) (hi : i < 9) (op : Int) (hop : op = 77 + (i : Int)) (x y : BitVec 64) (w : World) : Calls Try.prog 28 #[.int .i64 op, .int .u64 (n64 x), .int .u64 (n64 y)] w fun e w' => e = .returned (.tuple #[.int .u64 (n64 (jv (wdn (aR i 32 (x.toNat % 2 ^ 32) (y.toNat % 2 ^ 32)) 32) 64)), .bool true]) ∧ Below w.heap.size w w' := by
  have az : asz op = 4 := by unfold asz; rw [if_pos (by omega)]
  have HO : Hid (op = 77 + (i : Int)) := hop
  clear hop
  go_enter Try.func28, Try.ntmps28
  go_wp2_with fail
  refine (amoSize_any op _).mono ?_
  rintro e w1 ⟨rfl, b1⟩
  have B1 : Hid (Below w.heap.size w w1) := b1
  clear b1
  go_wp2_with fail
  refine (wordAmos_any _).mono ?_
  rintro e w' ⟨rfl, rfl⟩
  go_wp2_with fail
  obtain ⟨W, hW⟩ : ∃ W, W = w1.alloc (.cells #[.int .i64 77, .int .i64 78, .int .i64 79, .int .i64 80, .int .i64 81, .int .i64 82, .int .i64 83, .int .i64 84, .int .i64 85] 3) := ⟨_, rfl⟩
  have hf : ∀ k : Nat, k < 9 → W.cell? ⟨w1.heap.size, k, none⟩ = some (.int .i64 (77 + (k : Int))) := fun k hk => by
    rw [hW, World.cell?_alloc_at _ _ _ _ rfl]
    match k, hk with
    | 0, _ => rfl
    | 1, _ => rfl
    | 2, _ => rfl
    | 3, _ => rfl
    | 4, _ => rfl
    | 5, _ => rfl
    | 6, _ => rfl
    | 7, _ => rfl
    | 8, _ => rfl
  have B2 : Hid (Below w1.heap.size w1 W) := by
    show Below w1.heap.size w1 W
    rw [hW]; exact (Below.refl _ _).alloc (Nat.le_refl _) _
  rw [← hW]
  clear hW
  go_loopw [10] (fun q wr => ∃ k : Nat, k ≤ i ∧ q = .int .i64 k ∧ wr = W) (fun q _ => 9 - (intOf q).toNat)
  case atStart => exact ⟨0, Nat.zero_le _, rfl, rfl⟩
  case round =>
    obtain ⟨k, hk, rfl, rfl⟩ := hrel
    have hc := hf k (by omega)
    have hl1 : (0 : Int) ≤ (k : Int) := by omega
    have hl2 : (k : Int) < 9 := by omega
    clear hf
    by_cases hlt : k < i
    · have t0 : (77 + (k : Int) == op) = false := by have := HO.out; simp; omega
      go_wp2_with fail
      go_roundw
      case rel => exact ⟨k + 1, by omega, by go_num, trivial⟩
      case measure => simp [intOf]; omega
    · have t0 : (77 + (k : Int) == op) = true := by have := HO.out; simp; omega
      have hki : k = i := by omega
      subst hki
      go_wp2_with fail
      refine (split_w x _).mono ?_
      rintro e w3 ⟨v3, rfl, l3, b3⟩
      have L3 : Hid (Lst w3 v3 (bl (x.toNat % 2 ^ 32) 32)) := l3
      have B3 : Hid (Below wr.heap.size wr w3) := b3
      clear l3 b3
      go_wp2_with fail
      refine (split_w y _).mono ?_
      rintro e w4 ⟨v4, rfl, l4, b4⟩
      have L4 : Hid (Lst w4 v4 (bl (y.toNat % 2 ^ 32) 32)) := l4
      have B4 : Hid (Below w3.heap.size w3 w4) := b4
      clear l4 b4
      go_wp2_with fail
      refine (ra_any k hi _ _ 32 (by decide) (by decide) (Nat.mod_lt _ (by decide)) (Nat.mod_lt _ (by decide)) v3 v4 _ (L3.out.later B4.out) L4.out).mono ?_
      rintro e w5 ⟨v5, rfl, l5, b5⟩
      have L5 : Hid (Lst w5 v5 (bl (aR k 32 (x.toNat % 2 ^ 32) (y.toNat % 2 ^ 32)) 32)) := l5
      have B5 : Hid (Below w4.heap.size w4 w5) := b5
      clear l5 b5
      go_wp2_with fail
      refine (widen_64 _ 32 (by decide) (by decide) v5 _ L5.out).mono ?_
      rintro e w6 ⟨v6, rfl, l6, b6⟩
      have L6 : Hid (Lst w6 v6 (bl (wdn (aR k 32 (x.toNat % 2 ^ 32) (y.toNat % 2 ^ 32)) 32) 64)) := l6
      have B6 : Hid (Below w5.heap.size w5 w6) := b6
      clear l6 b6
      go_wp2_with fail
      refine (join_any _ 64 (by decide) v6 _ L6.out).mono ?_
      rintro e w7 ⟨rfl, rfl⟩
      have C2 := B1.out.trans (B2.out.mono B1.out.size)
      have C3 := C2.trans (B3.out.mono C2.size)
      have C4 := C3.trans (B4.out.mono C3.size)
      have C5 := C4.trans (B5.out.mono C4.size)
      have C6 := C5.trans (B6.out.mono C5.size)
      have C : Hid (Below w.heap.size w w7) := C6
      clear C2 C3 C4 C5 C6
      go_wp2
      go_ret2
      exact ⟨rfl, C.out⟩

set_option maxHeartbeats 1000000 in
theorem refAmo_long (i : Nat) (hi : i < 9) (op : Int) (hop : op = 88 + (i : Int)) (x y : BitVec 64) (w : World) : Calls Try.prog 28 #[.int .i64 op, .int .u64 (n64 x), .int .u64 (n64 y)] w fun e w' => e = .returned (.tuple #[.int .u64 (n64 (jv (wdn (aR i 64 (x.toNat % 2 ^ 64) (y.toNat % 2 ^ 64)) 64) 64)), .bool true]) ∧ Below w.heap.size w w' := by
  have az : asz op = 8 := by unfold asz; rw [if_neg (by omega), if_pos (by omega)]
  have HO : Hid (op = 88 + (i : Int)) := hop
  clear hop
  go_enter Try.func28, Try.ntmps28
  go_wp2_with fail
  refine (amoSize_any op _).mono ?_
  rintro e w1 ⟨rfl, b1⟩
  have B1 : Hid (Below w.heap.size w w1) := b1
  clear b1
  go_wp2_with fail
  refine (wordAmos_any _).mono ?_
  rintro e w' ⟨rfl, rfl⟩
  go_wp2_with fail
  refine (longAmos_any _).mono ?_
  rintro e w' ⟨rfl, rfl⟩
  go_wp2_with fail
  obtain ⟨W, hW⟩ : ∃ W, W = (w1.alloc (.cells #[.int .i64 77, .int .i64 78, .int .i64 79, .int .i64 80, .int .i64 81, .int .i64 82, .int .i64 83, .int .i64 84, .int .i64 85] 3)).alloc (.cells #[.int .i64 88, .int .i64 89, .int .i64 90, .int .i64 91, .int .i64 92, .int .i64 93, .int .i64 94, .int .i64 95, .int .i64 96] 3) := ⟨_, rfl⟩
  have hf : ∀ k : Nat, k < 9 → W.cell? ⟨w1.heap.size + 1, k, none⟩ = some (.int .i64 (88 + (k : Int))) := fun k hk => by
    rw [hW, alloc2_1]
    match k, hk with
    | 0, _ => rfl
    | 1, _ => rfl
    | 2, _ => rfl
    | 3, _ => rfl
    | 4, _ => rfl
    | 5, _ => rfl
    | 6, _ => rfl
    | 7, _ => rfl
    | 8, _ => rfl
  have B2 : Hid (Below w1.heap.size w1 W) := by
    show Below w1.heap.size w1 W
    rw [hW]; exact ((Below.refl _ _).alloc (Nat.le_refl _) _).alloc (by simp) _
  rw [← hW]
  clear hW
  go_loopw [10] (fun q wr => ∃ k : Nat, k ≤ i ∧ q = .int .i64 k ∧ wr = W) (fun q _ => 9 - (intOf q).toNat)
  case atStart => exact ⟨0, Nat.zero_le _, rfl, rfl⟩
  case round =>
    obtain ⟨k, hk, rfl, rfl⟩ := hrel
    have hc := hf k (by omega)
    have hl1 : (0 : Int) ≤ (k : Int) := by omega
    have hl2 : (k : Int) < 9 := by omega
    clear hf
    by_cases hlt : k < i
    · have t0 : (88 + (k : Int) == op) = false := by have := HO.out; simp; omega
      go_wp2_with fail
      go_roundw
      case rel => exact ⟨k + 1, by omega, by go_num, trivial⟩
      case measure => simp [intOf]; omega
    · have t0 : (88 + (k : Int) == op) = true := by have := HO.out; simp; omega
      have hki : k = i := by omega
      subst hki
      go_wp2_with fail
      refine (split_d x _).mono ?_
      rintro e w3 ⟨v3, rfl, l3, b3⟩
      have L3 : Hid (Lst w3 v3 (bl (x.toNat % 2 ^ 64) 64)) := l3
      have B3 : Hid (Below wr.heap.size wr w3) := b3
      clear l3 b3
      go_wp2_with fail
      refine (split_d y _).mono ?_
      rintro e w4 ⟨v4, rfl, l4, b4⟩
      have L4 : Hid (Lst w4 v4 (bl (y.toNat % 2 ^ 64) 64)) := l4
      have B4 : Hid (Below w3.heap.size w3 w4) := b4
      clear l4 b4
      go_wp2_with fail
      refine (ra_any k hi _ _ 64 (by decide) (by decide) (Nat.mod_lt _ (by decide)) (Nat.mod_lt _ (by decide)) v3 v4 _ (L3.out.later B4.out) L4.out).mono ?_
      rintro e w5 ⟨v5, rfl, l5, b5⟩
      have L5 : Hid (Lst w5 v5 (bl (aR k 64 (x.toNat % 2 ^ 64) (y.toNat % 2 ^ 64)) 64)) := l5
      have B5 : Hid (Below w4.heap.size w4 w5) := b5
      clear l5 b5
      go_wp2_with fail
      refine (widen_64 _ 64 (by decide) (by decide) v5 _ L5.out).mono ?_
      rintro e w6 ⟨v6, rfl, l6, b6⟩
      have L6 : Hid (Lst w6 v6 (bl (wdn (aR k 64 (x.toNat % 2 ^ 64) (y.toNat % 2 ^ 64)) 64) 64)) := l6
      have B6 : Hid (Below w5.heap.size w5 w6) := b6
      clear l6 b6
      go_wp2_with fail
      refine (join_any _ 64 (by decide) v6 _ L6.out).mono ?_
      rintro e w7 ⟨rfl, rfl⟩
      have C2 := B1.out.trans (B2.out.mono B1.out.size)
      have C3 := C2.trans (B3.out.mono C2.size)
      have C4 := C3.trans (B4.out.mono C3.size)
      have C5 := C4.trans (B5.out.mono C4.size)
      have C6 := C5.trans (B6.out.mono C5.size)
      have C : Hid (Below w.heap.size w w7) := C6
      clear C2 C3 C4 C5 C6
      go_wp2
      go_ret2
      exact ⟨rfl, C.out⟩
end Go.Proofs.Ythnjppfgdkiaaaa
