/-
  The reference: the quotients, the shift's number.
-/
import Derived.Test.YthnjppfgdkiaaacC5
namespace Go.Proofs.Ythnjppfgdkiaaac
open Go.ChangeShapes Go.WideShapes Go.ChangeAt Go.RowKit
theorem dec0 : decide (0 = 0) = true := rfl

set_option maxHeartbeats 2000000 in
theorem quo66 (A Bn n : Nat) (hn0 : 0 < n) (hn : n ≤ 100) (hA : Hid (A < 2 ^ n)) (hB : Hid (Bn < 2 ^ n)) (va vb : Value) (w : World) (la : Lst w va (bl A n)) (lb : Lst w vb (bl Bn n)) :
    Calls Try.prog 78 #[.int .i64 66, va, vb] w fun e w' => ∃ v, e = .returned v ∧ Lst w' v (bl (if Bn = 0 then tnd 0 n else sq A Bn n) n) ∧ Below w.heap.size w w' := by
  have La : Hid (Lst w va (bl A n)) := la
  have Lb : Hid (Lst w vb (bl Bn n)) := lb
  obtain ⟨g, off, cap, rfl, h1, h2, h3⟩ := la
  clear lb h3
  rw [bl_length] at h1
  rw [bl_length]
  rw [bl_length] at La
  rcases Nat.eq_zero_or_pos Bn with rfl | hp
  · rw [if_pos rfl]
    go_enter Try.func78, Try.ntmps78
    go_wp2_with fail
    refine (none_any 0 n hn0 (by omega) (Nat.two_pow_pos n) _ _ Lb.out).mono ?_
    rintro e w0 ⟨rfl, rfl⟩
    rw [dec0]
    go_wp2_with fail
    refine (ones_any n hn0 (by omega) _).mono ?_
    rintro e w1 ⟨v1, rfl, l1, b1⟩
    have L1 : Hid (Lst w1 v1 (bl (tnd 0 n) n)) := l1
    have B1 : Hid (Below w0.heap.size w0 w1) := b1
    clear l1 b1
    go_wp2
    go_ret
    exact ⟨_, rfl, L1.out, B1.out⟩
  · have hz : decide (Bn = 0) = false := decide_eq_false (by omega)
    rw [if_neg (by omega)]
    have h0 : Hid (0 < Bn) := hp
    clear hp
    go_enter Try.func78, Try.ntmps78
    go_wp2_with fail
    refine (none_any Bn n hn0 (by omega) hB.out _ _ Lb.out).mono ?_
    rintro e w0 ⟨rfl, rfl⟩
    rw [hz]
    go_wp2_with fail
    refine (divided_any A Bn n hn0 hn hA.out hB.out h0.out _ _ _ La.out Lb.out).mono ?_
    rintro e w1 ⟨v1, v1b, rfl, l1, l1b, b1⟩
    have L1a : Hid (Lst w1 v1 (bl (A / Bn) n)) := l1
    have L1b : Hid (Lst w1 v1b (bl (A % Bn) n)) := l1b
    have La1 := Lst.lh La b1; have Lb1 := Lst.lh Lb b1
    have B1 : Hid (Below w0.heap.size w0 w1) := b1
    clear l1 l1b b1
    go_wp2_with fail
    refine (dividedSigned_any A Bn n hn0 hn hA.out hB.out h0.out _ _ _ La1.out Lb1.out).mono ?_
    rintro e w2 ⟨v2, v2b, rfl, l2, l2b, b2⟩
    have L2a : Hid (Lst w2 v2 (bl (sq A Bn n) n)) := l2
    have L2b : Hid (Lst w2 v2b (bl (sr A Bn n) n)) := l2b
    have B2 : Hid (Below w0.heap.size w0 w2) := B1.out.trans (b2.mono B1.out.size)
    clear l2 l2b b2
    go_wp2
    go_ret
    exact ⟨_, rfl, L2a.out, B2.out⟩

set_option maxHeartbeats 2000000 in
theorem quo67 (A Bn n : Nat) (hn0 : 0 < n) (hn : n ≤ 100) (hA : Hid (A < 2 ^ n)) (hB : Hid (Bn < 2 ^ n)) (va vb : Value) (w : World) (la : Lst w va (bl A n)) (lb : Lst w vb (bl Bn n)) :
    Calls Try.prog 78 #[.int .i64 67, va, vb] w fun e w' => ∃ v, e = .returned v ∧ Lst w' v (bl (if Bn = 0 then tnd 0 n else A / Bn) n) ∧ Below w.heap.size w w' := by
  have La : Hid (Lst w va (bl A n)) := la
  have Lb : Hid (Lst w vb (bl Bn n)) := lb
  obtain ⟨g, off, cap, rfl, h1, h2, h3⟩ := la
  clear lb h3
  rw [bl_length] at h1
  rw [bl_length]
  rw [bl_length] at La
  rcases Nat.eq_zero_or_pos Bn with rfl | hp
  · rw [if_pos rfl]
    go_enter Try.func78, Try.ntmps78
    go_wp2_with fail
    refine (none_any 0 n hn0 (by omega) (Nat.two_pow_pos n) _ _ Lb.out).mono ?_
    rintro e w0 ⟨rfl, rfl⟩
    rw [dec0]
    go_wp2_with fail
    refine (ones_any n hn0 (by omega) _).mono ?_
    rintro e w1 ⟨v1, rfl, l1, b1⟩
    have L1 : Hid (Lst w1 v1 (bl (tnd 0 n) n)) := l1
    have B1 : Hid (Below w0.heap.size w0 w1) := b1
    clear l1 b1
    go_wp2
    go_ret
    exact ⟨_, rfl, L1.out, B1.out⟩
  · have hz : decide (Bn = 0) = false := decide_eq_false (by omega)
    rw [if_neg (by omega)]
    have h0 : Hid (0 < Bn) := hp
    clear hp
    go_enter Try.func78, Try.ntmps78
    go_wp2_with fail
    refine (none_any Bn n hn0 (by omega) hB.out _ _ Lb.out).mono ?_
    rintro e w0 ⟨rfl, rfl⟩
    rw [hz]
    go_wp2_with fail
    refine (divided_any A Bn n hn0 hn hA.out hB.out h0.out _ _ _ La.out Lb.out).mono ?_
    rintro e w1 ⟨v1, v1b, rfl, l1, l1b, b1⟩
    have L1a : Hid (Lst w1 v1 (bl (A / Bn) n)) := l1
    have L1b : Hid (Lst w1 v1b (bl (A % Bn) n)) := l1b
    have La1 := Lst.lh La b1; have Lb1 := Lst.lh Lb b1
    have B1 : Hid (Below w0.heap.size w0 w1) := b1
    clear l1 l1b b1
    go_wp2
    go_ret
    exact ⟨_, rfl, L1a.out, B1.out⟩

set_option maxHeartbeats 2000000 in
theorem quo68 (A Bn n : Nat) (hn0 : 0 < n) (hn : n ≤ 100) (hA : Hid (A < 2 ^ n)) (hB : Hid (Bn < 2 ^ n)) (va vb : Value) (w : World) (la : Lst w va (bl A n)) (lb : Lst w vb (bl Bn n)) :
    Calls Try.prog 78 #[.int .i64 68, va, vb] w fun e w' => ∃ v, e = .returned v ∧ Lst w' v (bl (if Bn = 0 then A else sr A Bn n) n) ∧ Below w.heap.size w w' := by
  have La : Hid (Lst w va (bl A n)) := la
  have Lb : Hid (Lst w vb (bl Bn n)) := lb
  obtain ⟨g, off, cap, rfl, h1, h2, h3⟩ := la
  clear lb h3
  rw [bl_length] at h1
  rw [bl_length]
  rw [bl_length] at La
  rcases Nat.eq_zero_or_pos Bn with rfl | hp
  · rw [if_pos rfl]
    go_enter Try.func78, Try.ntmps78
    go_wp2_with fail
    refine (none_any 0 n hn0 (by omega) (Nat.two_pow_pos n) _ _ Lb.out).mono ?_
    rintro e w0 ⟨rfl, rfl⟩
    rw [dec0]
    go_wp2
    go_ret
    exact ⟨_, rfl, La.out, Below.refl _ _⟩
  · have hz : decide (Bn = 0) = false := decide_eq_false (by omega)
    rw [if_neg (by omega)]
    have h0 : Hid (0 < Bn) := hp
    clear hp
    go_enter Try.func78, Try.ntmps78
    go_wp2_with fail
    refine (none_any Bn n hn0 (by omega) hB.out _ _ Lb.out).mono ?_
    rintro e w0 ⟨rfl, rfl⟩
    rw [hz]
    go_wp2_with fail
    refine (divided_any A Bn n hn0 hn hA.out hB.out h0.out _ _ _ La.out Lb.out).mono ?_
    rintro e w1 ⟨v1, v1b, rfl, l1, l1b, b1⟩
    have L1a : Hid (Lst w1 v1 (bl (A / Bn) n)) := l1
    have L1b : Hid (Lst w1 v1b (bl (A % Bn) n)) := l1b
    have La1 := Lst.lh La b1; have Lb1 := Lst.lh Lb b1
    have B1 : Hid (Below w0.heap.size w0 w1) := b1
    clear l1 l1b b1
    go_wp2_with fail
    refine (dividedSigned_any A Bn n hn0 hn hA.out hB.out h0.out _ _ _ La1.out Lb1.out).mono ?_
    rintro e w2 ⟨v2, v2b, rfl, l2, l2b, b2⟩
    have L2a : Hid (Lst w2 v2 (bl (sq A Bn n) n)) := l2
    have L2b : Hid (Lst w2 v2b (bl (sr A Bn n) n)) := l2b
    have B2 : Hid (Below w0.heap.size w0 w2) := B1.out.trans (b2.mono B1.out.size)
    clear l2 l2b b2
    go_wp2
    go_ret
    exact ⟨_, rfl, L2b.out, B2.out⟩

set_option maxHeartbeats 2000000 in
theorem quo69 (A Bn n : Nat) (hn0 : 0 < n) (hn : n ≤ 100) (hA : Hid (A < 2 ^ n)) (hB : Hid (Bn < 2 ^ n)) (va vb : Value) (w : World) (la : Lst w va (bl A n)) (lb : Lst w vb (bl Bn n)) :
    Calls Try.prog 78 #[.int .i64 69, va, vb] w fun e w' => ∃ v, e = .returned v ∧ Lst w' v (bl (if Bn = 0 then A else A % Bn) n) ∧ Below w.heap.size w w' := by
  have La : Hid (Lst w va (bl A n)) := la
  have Lb : Hid (Lst w vb (bl Bn n)) := lb
  obtain ⟨g, off, cap, rfl, h1, h2, h3⟩ := la
  clear lb h3
  rw [bl_length] at h1
  rw [bl_length]
  rw [bl_length] at La
  rcases Nat.eq_zero_or_pos Bn with rfl | hp
  · rw [if_pos rfl]
    go_enter Try.func78, Try.ntmps78
    go_wp2_with fail
    refine (none_any 0 n hn0 (by omega) (Nat.two_pow_pos n) _ _ Lb.out).mono ?_
    rintro e w0 ⟨rfl, rfl⟩
    rw [dec0]
    go_wp2
    go_ret
    exact ⟨_, rfl, La.out, Below.refl _ _⟩
  · have hz : decide (Bn = 0) = false := decide_eq_false (by omega)
    rw [if_neg (by omega)]
    have h0 : Hid (0 < Bn) := hp
    clear hp
    go_enter Try.func78, Try.ntmps78
    go_wp2_with fail
    refine (none_any Bn n hn0 (by omega) hB.out _ _ Lb.out).mono ?_
    rintro e w0 ⟨rfl, rfl⟩
    rw [hz]
    go_wp2_with fail
    refine (divided_any A Bn n hn0 hn hA.out hB.out h0.out _ _ _ La.out Lb.out).mono ?_
    rintro e w1 ⟨v1, v1b, rfl, l1, l1b, b1⟩
    have L1a : Hid (Lst w1 v1 (bl (A / Bn) n)) := l1
    have L1b : Hid (Lst w1 v1b (bl (A % Bn) n)) := l1b
    have La1 := Lst.lh La b1; have Lb1 := Lst.lh Lb b1
    have B1 : Hid (Below w0.heap.size w0 w1) := b1
    clear l1 l1b b1
    go_wp2
    go_ret
    exact ⟨_, rfl, L1b.out, B1.out⟩

theorem shift_32 (A : Nat) (va : Value) (w : World) (la : Lst w va (bl A 32)) :
    Calls Try.prog 72 #[va] w fun e w' => e = .returned (.int .i64 ((A % 32 : Nat) : Int)) ∧ w' = w := by
  have La : Hid (Lst w va (bl A 32)) := la
  obtain ⟨g, off, cap, rfl, h1, h2, h3⟩ := la
  clear h3
  rw [bl_length] at h1
  rw [bl_length]
  rw [bl_length] at La
  have hj : n64 (jv A 32) = ((A % 4294967296 : Nat) : Int) := by unfold n64; rw [jv_toNat A 32 (by decide)]
  have hz : ((A % 4294967296 : Nat) : Int) % 32 = ((A % 32 : Nat) : Int) := by omega
  go_enter Try.func72, Try.ntmps72
  go_wp2_with fail
  refine (join_any A 32 (by decide) _ _ La.out).mono ?_
  rintro e w0 ⟨rfl, rfl⟩
  rw [hj]
  obtain ⟨z, hz'⟩ : ∃ z : Int, z = ((A % 4294967296 : Nat) : Int) := ⟨_, rfl⟩
  rw [← hz'] at hz ⊢
  have hz0 : 0 ≤ z := by omega
  have hz1 : z < 4294967296 := by omega
  clear hz' hj
  have hm0 : 0 ≤ z % 32 := by omega
  have hm1 : z % 32 < 32 := by omega
  go_wp2
  go_ret
  refine ⟨ret_int ?_, rfl⟩
  rw [← hz]
  omega

theorem shift_64 (A : Nat) (va : Value) (w : World) (la : Lst w va (bl A 64)) :
    Calls Try.prog 72 #[va] w fun e w' => e = .returned (.int .i64 ((A % 64 : Nat) : Int)) ∧ w' = w := by
  have La : Hid (Lst w va (bl A 64)) := la
  obtain ⟨g, off, cap, rfl, h1, h2, h3⟩ := la
  clear h3
  rw [bl_length] at h1
  rw [bl_length]
  rw [bl_length] at La
  have hj : n64 (jv A 64) = ((A % 18446744073709551616 : Nat) : Int) := by unfold n64; rw [jv_toNat A 64 (by decide)]
  have hz : ((A % 18446744073709551616 : Nat) : Int) % 64 = ((A % 64 : Nat) : Int) := by omega
  go_enter Try.func72, Try.ntmps72
  go_wp2_with fail
  refine (join_any A 64 (by decide) _ _ La.out).mono ?_
  rintro e w0 ⟨rfl, rfl⟩
  rw [hj]
  obtain ⟨z, hz'⟩ : ∃ z : Int, z = ((A % 18446744073709551616 : Nat) : Int) := ⟨_, rfl⟩
  rw [← hz'] at hz ⊢
  have hz0 : 0 ≤ z := by omega
  have hz1 : z < 18446744073709551616 := by omega
  clear hz' hj
  have hm0 : 0 ≤ z % 64 := by omega
  have hm1 : z % 64 < 64 := by omega
  go_wp2
  go_ret
  refine ⟨ret_int ?_, rfl⟩
  rw [← hz]
  omega
end Go.Proofs.Ythnjppfgdkiaaac
