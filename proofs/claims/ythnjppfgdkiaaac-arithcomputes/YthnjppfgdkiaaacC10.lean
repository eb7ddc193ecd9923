/-
  The reference: Compute.
-/
import Derived.Test.YthnjppfgdkiaaacC9
import Derived.Test.YthnjppfgdkiaaacRWide
namespace Go.Proofs.Ythnjppfgdkiaaac
open Go.ChangeShapes Go.WideShapes Go.ChangeAt Go.RowKit
theorem widen_c (A n : Nat) (hn0 : 0 < n) (hn : n ≤ 200) (va : Value) (w : World) (la : Lst w va (bl A n)) :
    Calls Try.prog 28 #[va, .int .i64 64, .bool true] w fun e w' => ∃ v, e = .returned v ∧ Lst w' v (bl (wdn A n) 64) ∧ Below w.heap.size w w' := by
  have h := widen_true A n 64 hn0 (by decide) hn (by decide) va w la
  rw [mk_congr (g := bt (wdn A n)) (fun j hj => by rw [wdn_bit A n j hj]; rfl)] at h
  exact h
/-- The number k is one of n bits under the number q: what 'one' gives, widened. -/
def OneIs (q : Int) (A Bn n N : Nat) : Prop := ∀ (va vb : Value) (w : World), Lst w va (bl A n) → Lst w vb (bl Bn n) →
    Calls Try.prog 25 #[.int .i64 q, va, vb] w fun e w' => ∃ v, e = .returned (.tuple #[v, .bool true]) ∧ Lst w' v (bl N n) ∧ Below w.heap.size w w'
theorem bl_low (x : BitVec 64) (n : Nat) : bl x.toNat n = bl (x.toNat % 2 ^ n) n := (bl_mod x.toNat n).symm

set_option maxHeartbeats 2000000 in
theorem comp_64 (k q : Int) (x y : BitVec 64) (N : Nat) (hr : rg k = q) (hl : lo q = 0) (h3 : q ≠ 63 ∧ q ≠ 64 ∧ q ≠ 65) (ho : OneIs q (x.toNat % 2 ^ 64) (y.toNat % 2 ^ 64) 64 N) (w : World) :
    Calls Try.prog 15 #[.int .i64 k, .int .u64 (n64 x), .int .u64 (n64 y)] w fun e w' => e = .returned (.tuple #[.int .u64 (n64 (jv (wdn N 64) 64)), .bool true]) ∧ Below w.heap.size w w' := by
  have HO : Hid (OneIs q (x.toNat % 2 ^ 64) (y.toNat % 2 ^ 64) 64 N) := ho
  have t63 : (q == 63) = false := by simpa using h3.1
  have t64 : (q == 64) = false := by simpa using h3.2.1
  have t65 : (q == 65) = false := by simpa using h3.2.2
  clear ho h3
  go_enter Try.func15, Try.ntmps15
  go_wp2_with fail
  refine (register_any k _).mono ?_
  rintro e w1 ⟨rfl, b1⟩
  have B1 : Hid (Below w.heap.size w w1) := b1
  clear b1
  rw [hr]
  go_wp2_with fail
  refine (long_any q _).mono ?_
  rintro e w2 ⟨rfl, b2⟩
  have B2 : Hid (Below w.heap.size w w2) := B1.out.trans (b2.mono B1.out.size)
  clear b2
  rw [hl]
  go_wp2_with fail
  refine (split_any x 64 (by decide) (by decide) _).mono ?_
  rintro e w3 ⟨v3, rfl, l3, b3⟩
  have L3 : Hid (Lst w3 v3 (bl x.toNat 64)) := l3
  clear l3
  have B3 : Hid (Below w.heap.size w w3) := B2.out.trans (b3.mono B2.out.size)
  clear b3
  go_wp2_with fail
  refine (split_any y 64 (by decide) (by decide) _).mono ?_
  rintro e w4 ⟨v4, rfl, l4, b4⟩
  have L4 : Hid (Lst w4 v4 (bl y.toNat 64)) := l4
  clear l4
  have L3' := Lst.lh L3 b4
  have B4 : Hid (Below w.heap.size w w4) := B3.out.trans (b4.mono B3.out.size)
  clear b4
  go_wp2_with fail
  refine (HO.out _ _ _ (bl_low x 64 ▸ L3'.out) (bl_low y 64 ▸ L4.out)).mono ?_
  rintro e w5 ⟨v5, rfl, l5, b5⟩
  have L5 : Hid (Lst w5 v5 (bl N 64)) := l5
  clear l5
  have B5 : Hid (Below w.heap.size w w5) := B4.out.trans (b5.mono B4.out.size)
  clear b5
  go_wp2_with fail
  refine (widen_c N 64 (by decide) (by decide) _ _ L5.out).mono ?_
  rintro e w6 ⟨v6, rfl, l6, b6⟩
  have L6 : Hid (Lst w6 v6 (bl (wdn N 64) 64)) := l6
  clear l6
  have B6 : Hid (Below w.heap.size w w6) := B5.out.trans (b6.mono B5.out.size)
  clear b6
  go_wp2_with fail
  refine (join_any (wdn N 64) 64 (by decide) _ _ L6.out).mono ?_
  rintro e w7 ⟨rfl, rfl⟩
  go_wp2
  go_ret2
  exact ⟨rfl, B6.out⟩

set_option maxHeartbeats 2000000 in
theorem comp_32 (k q p : Int) (x y : BitVec 64) (N : Nat) (hr : rg k = q) (hl : lo q = p) (hp : p ≠ 0) (h3 : q ≠ 63 ∧ q ≠ 64 ∧ q ≠ 65) (ho : OneIs p (x.toNat % 2 ^ 32) (y.toNat % 2 ^ 32) 32 N) (w : World) :
    Calls Try.prog 15 #[.int .i64 k, .int .u64 (n64 x), .int .u64 (n64 y)] w fun e w' => e = .returned (.tuple #[.int .u64 (n64 (jv (wdn N 32) 64)), .bool true]) ∧ Below w.heap.size w w' := by
  have HO : Hid (OneIs p (x.toNat % 2 ^ 32) (y.toNat % 2 ^ 32) 32 N) := ho
  have t63 : (q == 63) = false := by simpa using h3.1
  have t64 : (q == 64) = false := by simpa using h3.2.1
  have t65 : (q == 65) = false := by simpa using h3.2.2
  have tp : (p != 0) = true := by simpa using hp
  clear ho h3 hp
  go_enter Try.func15, Try.ntmps15
  go_wp2_with fail
  refine (register_any k _).mono ?_
  rintro e w1 ⟨rfl, b1⟩
  have B1 : Hid (Below w.heap.size w w1) := b1
  clear b1
  rw [hr]
  go_wp2_with fail
  refine (long_any q _).mono ?_
  rintro e w2 ⟨rfl, b2⟩
  have B2 : Hid (Below w.heap.size w w2) := B1.out.trans (b2.mono B1.out.size)
  clear b2
  rw [hl]
  go_wp2_with fail
  refine (split_any x 32 (by decide) (by decide) _).mono ?_
  rintro e w3 ⟨v3, rfl, l3, b3⟩
  have L3 : Hid (Lst w3 v3 (bl x.toNat 32)) := l3
  clear l3
  have B3 : Hid (Below w.heap.size w w3) := B2.out.trans (b3.mono B2.out.size)
  clear b3
  go_wp2_with fail
  refine (split_any y 32 (by decide) (by decide) _).mono ?_
  rintro e w4 ⟨v4, rfl, l4, b4⟩
  have L4 : Hid (Lst w4 v4 (bl y.toNat 32)) := l4
  clear l4
  have L3' := Lst.lh L3 b4
  have B4 : Hid (Below w.heap.size w w4) := B3.out.trans (b4.mono B3.out.size)
  clear b4
  go_wp2_with fail
  refine (HO.out _ _ _ (bl_low x 32 ▸ L3'.out) (bl_low y 32 ▸ L4.out)).mono ?_
  rintro e w5 ⟨v5, rfl, l5, b5⟩
  have L5 : Hid (Lst w5 v5 (bl N 32)) := l5
  clear l5
  have B5 : Hid (Below w.heap.size w w5) := B4.out.trans (b5.mono B4.out.size)
  clear b5
  go_wp2_with fail
  refine (widen_c N 32 (by decide) (by decide) _ _ L5.out).mono ?_
  rintro e w6 ⟨v6, rfl, l6, b6⟩
  have L6 : Hid (Lst w6 v6 (bl (wdn N 32) 64)) := l6
  clear l6
  have B6 : Hid (Below w.heap.size w w6) := B5.out.trans (b6.mono B5.out.size)
  clear b6
  go_wp2_with fail
  refine (join_any (wdn N 32) 64 (by decide) _ _ L6.out).mono ?_
  rintro e w7 ⟨rfl, rfl⟩
  go_wp2
  go_ret2
  exact ⟨rfl, B6.out⟩
end Go.Proofs.Ythnjppfgdkiaaac
