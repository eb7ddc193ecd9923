/-
  The reference: one.
-/
import Derived.Test.YthnjppfgdkiaaacC6
import Derived.Test.YthnjppfgdkiaaacBw
namespace Go.Proofs.Ythnjppfgdkiaaac
open Go.ChangeShapes Go.WideShapes Go.ChangeAt Go.RowKit
set_option linter.unusedVariables false
theorem shift_any (A n : Nat) (hn : n = 32 ∨ n = 64) (va : Value) (w : World) (la : Lst w va (bl A n)) :
    Calls Try.prog 72 #[va] w fun e w' => e = .returned (.int .i64 ((A % n : Nat) : Int)) ∧ w' = w := by
  rcases hn with rfl | rfl
  · exact shift_32 A va w la
  · exact shift_64 A va w la
theorem down_0 (A n sh : Nat) (hn0 : 0 < n) (hn : n ≤ 200) (hsh : sh ≤ n) (hA : A < 2 ^ n) (va : Value) (w : World) (la : Lst w va (bl A n)) :
    Calls Try.prog 73 #[va, .int .i64 (sh : Int), .int .i64 0] w fun e w' => ∃ v, e = .returned v ∧ Lst w' v (bl (A / 2 ^ sh) n) ∧ Below w.heap.size w w' := by
  rw [show bl (A / 2 ^ sh) n = mk (fun j => if j + sh < n then bt A (j + sh) else 0) n from mk_congr (fun j hj => by
    rw [bt_test, Nat.testBit_div_two_pow, bt_test]
    by_cases h : j + sh < n
    · rw [if_pos h]
    · rw [if_neg h, Nat.testBit_lt_two_pow (Nat.lt_of_lt_of_le hA (Nat.pow_le_pow_right (by decide) (by omega)))]; rfl)]
  exact down_any A n sh 0 hn0 hn hsh va w la

set_option maxHeartbeats 1000000 in
theorem one_35 (A Bn n : Nat) (hn : n = 32 ∨ n = 64) (hA : Hid (A < 2 ^ n)) (hB : Hid (Bn < 2 ^ n)) (va vb : Value) (w : World) (la : Lst w va (bl A n)) (lb : Lst w vb (bl Bn n)) :
    Calls Try.prog 25 #[.int .i64 35, va, vb] w fun e w' => ∃ v, e = .returned (.tuple #[v, .bool true]) ∧ Lst w' v (bl (A + Bn + 0) n) ∧ Below w.heap.size w w' := by
  have hN0 : 0 < n := by omega
  have hM : Hid (Bn % n ≤ n) := Nat.le_of_lt (Nat.mod_lt _ hN0)
  have La : Hid (Lst w va (bl A n)) := la
  have Lb : Hid (Lst w vb (bl Bn n)) := lb
  obtain ⟨g, off, cap, rfl, h1, h2, h3⟩ := la
  clear lb h3
  rw [bl_length] at h1
  rw [bl_length]
  rw [bl_length] at La
  obtain ⟨N, hN⟩ : ∃ N : Nat, N = (A + Bn + 0) := ⟨_, rfl⟩
  rw [← hN]
  have HN := Hid.out (p := Hid _) (show Hid (Hid _) from hN)
  clear hN
  go_enter Try.func25, Try.ntmps25
  go_wp2_with fail
  refine (plus_any A Bn 0 n hN0 (by omega) (by decide) _ _ _ La.out Lb.out).mono ?_
  rintro e w1 ⟨v1, rfl, l1, b1⟩
  have L1 : Hid (Lst w1 v1 (bl N n)) := by rw [HN.out]; exact l1
  have B1 := Hid.out (p := Hid _) (show Hid (Hid _) from b1)
  clear l1 b1
  go_wp2
  go_ret2
  exact ⟨_, rfl, L1.out, B1.out⟩

set_option maxHeartbeats 1000000 in
theorem one_36 (A Bn n : Nat) (hn : n = 32 ∨ n = 64) (hA : Hid (A < 2 ^ n)) (hB : Hid (Bn < 2 ^ n)) (va vb : Value) (w : World) (la : Lst w va (bl A n)) (lb : Lst w vb (bl Bn n)) :
    Calls Try.prog 25 #[.int .i64 36, va, vb] w fun e w' => ∃ v, e = .returned (.tuple #[v, .bool true]) ∧ Lst w' v (bl (mns A Bn n) n) ∧ Below w.heap.size w w' := by
  have hN0 : 0 < n := by omega
  have hM : Hid (Bn % n ≤ n) := Nat.le_of_lt (Nat.mod_lt _ hN0)
  have La : Hid (Lst w va (bl A n)) := la
  have Lb : Hid (Lst w vb (bl Bn n)) := lb
  obtain ⟨g, off, cap, rfl, h1, h2, h3⟩ := la
  clear lb h3
  rw [bl_length] at h1
  rw [bl_length]
  rw [bl_length] at La
  obtain ⟨N, hN⟩ : ∃ N : Nat, N = (mns A Bn n) := ⟨_, rfl⟩
  rw [← hN]
  have HN := Hid.out (p := Hid _) (show Hid (Hid _) from hN)
  clear hN
  go_enter Try.func25, Try.ntmps25
  go_wp2_with fail
  refine (minus_any A Bn n hN0 (by omega) _ _ _ La.out Lb.out).mono ?_
  rintro e w1 ⟨v1, rfl, l1, b1⟩
  have L1 : Hid (Lst w1 v1 (bl N n)) := by rw [HN.out]; exact l1
  have B1 := Hid.out (p := Hid _) (show Hid (Hid _) from b1)
  clear l1 b1
  go_wp2
  go_ret2
  exact ⟨_, rfl, L1.out, B1.out⟩

set_option maxHeartbeats 1000000 in
theorem one_37 (A Bn n : Nat) (hn : n = 32 ∨ n = 64) (hA : Hid (A < 2 ^ n)) (hB : Hid (Bn < 2 ^ n)) (va vb : Value) (w : World) (la : Lst w va (bl A n)) (lb : Lst w vb (bl Bn n)) :
    Calls Try.prog 25 #[.int .i64 37, va, vb] w fun e w' => ∃ v, e = .returned (.tuple #[v, .bool true]) ∧ Lst w' v (bl (A * 2 ^ (Bn % n)) n) ∧ Below w.heap.size w w' := by
  have hN0 : 0 < n := by omega
  have hM : Hid (Bn % n ≤ n) := Nat.le_of_lt (Nat.mod_lt _ hN0)
  have La : Hid (Lst w va (bl A n)) := la
  have Lb : Hid (Lst w vb (bl Bn n)) := lb
  obtain ⟨g, off, cap, rfl, h1, h2, h3⟩ := la
  clear lb h3
  rw [bl_length] at h1
  rw [bl_length]
  rw [bl_length] at La
  obtain ⟨N, hN⟩ : ∃ N : Nat, N = (A * 2 ^ (Bn % n)) := ⟨_, rfl⟩
  rw [← hN]
  have HN := Hid.out (p := Hid _) (show Hid (Hid _) from hN)
  clear hN
  go_enter Try.func25, Try.ntmps25
  go_wp2_with fail
  refine (shift_any Bn n hn _ _ Lb.out).mono ?_
  rintro e w1 ⟨rfl, rfl⟩
  go_wp2_with fail
  refine (up_any A (Bn % n) n hN0 (by omega) hM.out _ _ La.out).mono ?_
  rintro e w2 ⟨v2, rfl, l2, b2⟩
  have L2 : Hid (Lst w2 v2 (bl N n)) := by rw [HN.out]; exact l2
  have B2 := Hid.out (p := Hid _) (show Hid (Hid _) from b2)
  clear l2 b2
  go_wp2
  go_ret2
  exact ⟨_, rfl, L2.out, B2.out⟩

set_option maxHeartbeats 1000000 in
theorem one_41 (A Bn n : Nat) (hn : n = 32 ∨ n = 64) (hA : Hid (A < 2 ^ n)) (hB : Hid (Bn < 2 ^ n)) (va vb : Value) (w : World) (la : Lst w va (bl A n)) (lb : Lst w vb (bl Bn n)) :
    Calls Try.prog 25 #[.int .i64 41, va, vb] w fun e w' => ∃ v, e = .returned (.tuple #[v, .bool true]) ∧ Lst w' v (bl (A / 2 ^ (Bn % n)) n) ∧ Below w.heap.size w w' := by
  have hN0 : 0 < n := by omega
  have hM : Hid (Bn % n ≤ n) := Nat.le_of_lt (Nat.mod_lt _ hN0)
  have La : Hid (Lst w va (bl A n)) := la
  have Lb : Hid (Lst w vb (bl Bn n)) := lb
  obtain ⟨g, off, cap, rfl, h1, h2, h3⟩ := la
  clear lb h3
  rw [bl_length] at h1
  rw [bl_length]
  rw [bl_length] at La
  obtain ⟨N, hN⟩ : ∃ N : Nat, N = (A / 2 ^ (Bn % n)) := ⟨_, rfl⟩
  rw [← hN]
  have HN := Hid.out (p := Hid _) (show Hid (Hid _) from hN)
  clear hN
  go_enter Try.func25, Try.ntmps25
  go_wp2_with fail
  refine (shift_any Bn n hn _ _ Lb.out).mono ?_
  rintro e w1 ⟨rfl, rfl⟩
  go_wp2_with fail
  refine (down_0 A n (Bn % n) hN0 (by omega) hM.out hA.out _ _ La.out).mono ?_
  rintro e w2 ⟨v2, rfl, l2, b2⟩
  have L2 : Hid (Lst w2 v2 (bl N n)) := by rw [HN.out]; exact l2
  have B2 := Hid.out (p := Hid _) (show Hid (Hid _) from b2)
  clear l2 b2
  go_wp2
  go_ret2
  exact ⟨_, rfl, L2.out, B2.out⟩

set_option maxHeartbeats 1000000 in
theorem one_38 (A Bn n : Nat) (hn : n = 32 ∨ n = 64) (hA : Hid (A < 2 ^ n)) (hB : Hid (Bn < 2 ^ n)) (va vb : Value) (w : World) (la : Lst w va (bl A n)) (lb : Lst w vb (bl Bn n)) :
    Calls Try.prog 25 #[.int .i64 38, va, vb] w fun e w' => ∃ v, e = .returned (.tuple #[v, .bool true]) ∧ Lst w' v (bl ((decide (sval n A < sval n Bn)).toNat) n) ∧ Below w.heap.size w w' := by
  have hN0 : 0 < n := by omega
  have hM : Hid (Bn % n ≤ n) := Nat.le_of_lt (Nat.mod_lt _ hN0)
  have La : Hid (Lst w va (bl A n)) := la
  have Lb : Hid (Lst w vb (bl Bn n)) := lb
  obtain ⟨g, off, cap, rfl, h1, h2, h3⟩ := la
  clear lb h3
  rw [bl_length] at h1
  rw [bl_length]
  rw [bl_length] at La
  obtain ⟨N, hN⟩ : ∃ N : Nat, N = ((decide (sval n A < sval n Bn)).toNat) := ⟨_, rfl⟩
  rw [← hN]
  have HN := Hid.out (p := Hid _) (show Hid (Hid _) from hN)
  clear hN
  go_enter Try.func25, Try.ntmps25
  go_wp2_with fail
  refine (lessSigned_any A Bn n hN0 (by omega) hA.out hB.out _ _ _ La.out Lb.out).mono ?_
  rintro e w1 ⟨rfl, b1⟩
  have B1 : Hid (Below w.heap.size w w1) := b1
  clear b1
  go_wp2_with fail
  refine (yes_any (decide (sval n A < sval n Bn)) n hN0 (by omega) _).mono ?_
  rintro e w2 ⟨v2, rfl, l2, b2⟩
  have L2 : Hid (Lst w2 v2 (bl N n)) := by rw [HN.out]; exact l2
  have B2 : Hid (Below w.heap.size w w2) := B1.out.trans (b2.mono B1.out.size)
  clear l2 b2
  go_wp2
  go_ret2
  exact ⟨_, rfl, L2.out, B2.out⟩

set_option maxHeartbeats 1000000 in
theorem one_39 (A Bn n : Nat) (hn : n = 32 ∨ n = 64) (hA : Hid (A < 2 ^ n)) (hB : Hid (Bn < 2 ^ n)) (va vb : Value) (w : World) (la : Lst w va (bl A n)) (lb : Lst w vb (bl Bn n)) :
    Calls Try.prog 25 #[.int .i64 39, va, vb] w fun e w' => ∃ v, e = .returned (.tuple #[v, .bool true]) ∧ Lst w' v (bl ((decide (A < Bn)).toNat) n) ∧ Below w.heap.size w w' := by
  have hN0 : 0 < n := by omega
  have hM : Hid (Bn % n ≤ n) := Nat.le_of_lt (Nat.mod_lt _ hN0)
  have La : Hid (Lst w va (bl A n)) := la
  have Lb : Hid (Lst w vb (bl Bn n)) := lb
  obtain ⟨g, off, cap, rfl, h1, h2, h3⟩ := la
  clear lb h3
  rw [bl_length] at h1
  rw [bl_length]
  rw [bl_length] at La
  obtain ⟨N, hN⟩ : ∃ N : Nat, N = ((decide (A < Bn)).toNat) := ⟨_, rfl⟩
  rw [← hN]
  have HN := Hid.out (p := Hid _) (show Hid (Hid _) from hN)
  clear hN
  go_enter Try.func25, Try.ntmps25
  go_wp2_with fail
  refine (less_any A Bn n hN0 (by omega) hA.out hB.out _ _ _ La.out Lb.out).mono ?_
  rintro e w1 ⟨rfl, b1⟩
  have B1 : Hid (Below w.heap.size w w1) := b1
  clear b1
  go_wp2_with fail
  refine (yes_any (decide (A < Bn)) n hN0 (by omega) _).mono ?_
  rintro e w2 ⟨v2, rfl, l2, b2⟩
  have L2 : Hid (Lst w2 v2 (bl N n)) := by rw [HN.out]; exact l2
  have B2 : Hid (Below w.heap.size w w2) := B1.out.trans (b2.mono B1.out.size)
  clear l2 b2
  go_wp2
  go_ret2
  exact ⟨_, rfl, L2.out, B2.out⟩

set_option maxHeartbeats 1000000 in
theorem one_40 (A Bn n : Nat) (hn : n = 32 ∨ n = 64) (hA : Hid (A < 2 ^ n)) (hB : Hid (Bn < 2 ^ n)) (va vb : Value) (w : World) (la : Lst w va (bl A n)) (lb : Lst w vb (bl Bn n)) :
    Calls Try.prog 25 #[.int .i64 40, va, vb] w fun e w' => ∃ v, e = .returned (.tuple #[v, .bool true]) ∧ Lst w' v (bl (A ^^^ Bn) n) ∧ Below w.heap.size w w' := by
  have hN0 : 0 < n := by omega
  have hM : Hid (Bn % n ≤ n) := Nat.le_of_lt (Nat.mod_lt _ hN0)
  have La : Hid (Lst w va (bl A n)) := la
  have Lb : Hid (Lst w vb (bl Bn n)) := lb
  obtain ⟨g, off, cap, rfl, h1, h2, h3⟩ := la
  clear lb h3
  rw [bl_length] at h1
  rw [bl_length]
  rw [bl_length] at La
  obtain ⟨N, hN⟩ : ∃ N : Nat, N = (A ^^^ Bn) := ⟨_, rfl⟩
  rw [← hN]
  have HN := Hid.out (p := Hid _) (show Hid (Hid _) from hN)
  clear hN
  go_enter Try.func25, Try.ntmps25
  go_wp2_with fail
  refine (bitwise_xor A Bn n hN0 (by omega) _ _ _ La.out Lb.out).mono ?_
  rintro e w1 ⟨v1, rfl, l1, b1⟩
  have L1 : Hid (Lst w1 v1 (bl N n)) := by rw [HN.out]; exact l1
  have B1 := Hid.out (p := Hid _) (show Hid (Hid _) from b1)
  clear l1 b1
  go_wp2
  go_ret2
  exact ⟨_, rfl, L1.out, B1.out⟩

set_option maxHeartbeats 1000000 in
theorem one_43 (A Bn n : Nat) (hn : n = 32 ∨ n = 64) (hA : Hid (A < 2 ^ n)) (hB : Hid (Bn < 2 ^ n)) (va vb : Value) (w : World) (la : Lst w va (bl A n)) (lb : Lst w vb (bl Bn n)) :
    Calls Try.prog 25 #[.int .i64 43, va, vb] w fun e w' => ∃ v, e = .returned (.tuple #[v, .bool true]) ∧ Lst w' v (bl (A ||| Bn) n) ∧ Below w.heap.size w w' := by
  have hN0 : 0 < n := by omega
  have hM : Hid (Bn % n ≤ n) := Nat.le_of_lt (Nat.mod_lt _ hN0)
  have La : Hid (Lst w va (bl A n)) := la
  have Lb : Hid (Lst w vb (bl Bn n)) := lb
  obtain ⟨g, off, cap, rfl, h1, h2, h3⟩ := la
  clear lb h3
  rw [bl_length] at h1
  rw [bl_length]
  rw [bl_length] at La
  obtain ⟨N, hN⟩ : ∃ N : Nat, N = (A ||| Bn) := ⟨_, rfl⟩
  rw [← hN]
  have HN := Hid.out (p := Hid _) (show Hid (Hid _) from hN)
  clear hN
  go_enter Try.func25, Try.ntmps25
  go_wp2_with fail
  refine (bitwise_or A Bn n hN0 (by omega) _ _ _ La.out Lb.out).mono ?_
  rintro e w1 ⟨v1, rfl, l1, b1⟩
  have L1 : Hid (Lst w1 v1 (bl N n)) := by rw [HN.out]; exact l1
  have B1 := Hid.out (p := Hid _) (show Hid (Hid _) from b1)
  clear l1 b1
  go_wp2
  go_ret2
  exact ⟨_, rfl, L1.out, B1.out⟩

set_option maxHeartbeats 1000000 in
theorem one_44 (A Bn n : Nat) (hn : n = 32 ∨ n = 64) (hA : Hid (A < 2 ^ n)) (hB : Hid (Bn < 2 ^ n)) (va vb : Value) (w : World) (la : Lst w va (bl A n)) (lb : Lst w vb (bl Bn n)) :
    Calls Try.prog 25 #[.int .i64 44, va, vb] w fun e w' => ∃ v, e = .returned (.tuple #[v, .bool true]) ∧ Lst w' v (bl (A &&& Bn) n) ∧ Below w.heap.size w w' := by
  have hN0 : 0 < n := by omega
  have hM : Hid (Bn % n ≤ n) := Nat.le_of_lt (Nat.mod_lt _ hN0)
  have La : Hid (Lst w va (bl A n)) := la
  have Lb : Hid (Lst w vb (bl Bn n)) := lb
  obtain ⟨g, off, cap, rfl, h1, h2, h3⟩ := la
  clear lb h3
  rw [bl_length] at h1
  rw [bl_length]
  rw [bl_length] at La
  obtain ⟨N, hN⟩ : ∃ N : Nat, N = (A &&& Bn) := ⟨_, rfl⟩
  rw [← hN]
  have HN := Hid.out (p := Hid _) (show Hid (Hid _) from hN)
  clear hN
  go_enter Try.func25, Try.ntmps25
  go_wp2_with fail
  refine (bitwise_and A Bn n hN0 (by omega) _ _ _ La.out Lb.out).mono ?_
  rintro e w1 ⟨v1, rfl, l1, b1⟩
  have L1 : Hid (Lst w1 v1 (bl N n)) := by rw [HN.out]; exact l1
  have B1 := Hid.out (p := Hid _) (show Hid (Hid _) from b1)
  clear l1 b1
  go_wp2
  go_ret2
  exact ⟨_, rfl, L1.out, B1.out⟩

set_option maxHeartbeats 1000000 in
theorem one_62 (A Bn n : Nat) (hn : n = 32 ∨ n = 64) (hA : Hid (A < 2 ^ n)) (hB : Hid (Bn < 2 ^ n)) (va vb : Value) (w : World) (la : Lst w va (bl A n)) (lb : Lst w vb (bl Bn n)) :
    Calls Try.prog 25 #[.int .i64 62, va, vb] w fun e w' => ∃ v, e = .returned (.tuple #[v, .bool true]) ∧ Lst w' v (bl (A * (Bn % 2 ^ n)) n) ∧ Below w.heap.size w w' := by
  have hN0 : 0 < n := by omega
  have hM : Hid (Bn % n ≤ n) := Nat.le_of_lt (Nat.mod_lt _ hN0)
  have La : Hid (Lst w va (bl A n)) := la
  have Lb : Hid (Lst w vb (bl Bn n)) := lb
  obtain ⟨g, off, cap, rfl, h1, h2, h3⟩ := la
  clear lb h3
  rw [bl_length] at h1
  rw [bl_length]
  rw [bl_length] at La
  obtain ⟨N, hN⟩ : ∃ N : Nat, N = (A * (Bn % 2 ^ n)) := ⟨_, rfl⟩
  rw [← hN]
  have HN := Hid.out (p := Hid _) (show Hid (Hid _) from hN)
  clear hN
  go_enter Try.func25, Try.ntmps25
  go_wp2_with fail
  refine (times_any A Bn n hN0 (by omega) _ _ _ La.out Lb.out).mono ?_
  rintro e w1 ⟨v1, rfl, l1, b1⟩
  have L1 : Hid (Lst w1 v1 (bl N n)) := by rw [HN.out]; exact l1
  have B1 := Hid.out (p := Hid _) (show Hid (Hid _) from b1)
  clear l1 b1
  go_wp2
  go_ret2
  exact ⟨_, rfl, L1.out, B1.out⟩

set_option maxHeartbeats 1000000 in
theorem one_66 (A Bn n : Nat) (hn : n = 32 ∨ n = 64) (hA : Hid (A < 2 ^ n)) (hB : Hid (Bn < 2 ^ n)) (va vb : Value) (w : World) (la : Lst w va (bl A n)) (lb : Lst w vb (bl Bn n)) :
    Calls Try.prog 25 #[.int .i64 66, va, vb] w fun e w' => ∃ v, e = .returned (.tuple #[v, .bool true]) ∧ Lst w' v (bl (if Bn = 0 then tnd 0 n else sq A Bn n) n) ∧ Below w.heap.size w w' := by
  have hN0 : 0 < n := by omega
  have hM : Hid (Bn % n ≤ n) := Nat.le_of_lt (Nat.mod_lt _ hN0)
  have La : Hid (Lst w va (bl A n)) := la
  have Lb : Hid (Lst w vb (bl Bn n)) := lb
  obtain ⟨g, off, cap, rfl, h1, h2, h3⟩ := la
  clear lb h3
  rw [bl_length] at h1
  rw [bl_length]
  rw [bl_length] at La
  obtain ⟨N, hN⟩ : ∃ N : Nat, N = (if Bn = 0 then tnd 0 n else sq A Bn n) := ⟨_, rfl⟩
  rw [← hN]
  have HN := Hid.out (p := Hid _) (show Hid (Hid _) from hN)
  clear hN
  go_enter Try.func25, Try.ntmps25
  go_wp2_with fail
  refine (quo66 A Bn n hN0 (by omega) hA hB _ _ _ La.out Lb.out).mono ?_
  rintro e w1 ⟨v1, rfl, l1, b1⟩
  have L1 : Hid (Lst w1 v1 (bl N n)) := by rw [HN.out]; exact l1
  have B1 := Hid.out (p := Hid _) (show Hid (Hid _) from b1)
  clear l1 b1
  go_wp2
  go_ret2
  exact ⟨_, rfl, L1.out, B1.out⟩

set_option maxHeartbeats 1000000 in
theorem one_67 (A Bn n : Nat) (hn : n = 32 ∨ n = 64) (hA : Hid (A < 2 ^ n)) (hB : Hid (Bn < 2 ^ n)) (va vb : Value) (w : World) (la : Lst w va (bl A n)) (lb : Lst w vb (bl Bn n)) :
    Calls Try.prog 25 #[.int .i64 67, va, vb] w fun e w' => ∃ v, e = .returned (.tuple #[v, .bool true]) ∧ Lst w' v (bl (if Bn = 0 then tnd 0 n else A / Bn) n) ∧ Below w.heap.size w w' := by
  have hN0 : 0 < n := by omega
  have hM : Hid (Bn % n ≤ n) := Nat.le_of_lt (Nat.mod_lt _ hN0)
  have La : Hid (Lst w va (bl A n)) := la
  have Lb : Hid (Lst w vb (bl Bn n)) := lb
  obtain ⟨g, off, cap, rfl, h1, h2, h3⟩ := la
  clear lb h3
  rw [bl_length] at h1
  rw [bl_length]
  rw [bl_length] at La
  obtain ⟨N, hN⟩ : ∃ N : Nat, N = (if Bn = 0 then tnd 0 n else A / Bn) := ⟨_, rfl⟩
  rw [← hN]
  have HN := Hid.out (p := Hid _) (show Hid (Hid _) from hN)
  clear hN
  go_enter Try.func25, Try.ntmps25
  go_wp2_with fail
  refine (quo67 A Bn n hN0 (by omega) hA hB _ _ _ La.out Lb.out).mono ?_
  rintro e w1 ⟨v1, rfl, l1, b1⟩
  have L1 : Hid (Lst w1 v1 (bl N n)) := by rw [HN.out]; exact l1
  have B1 := Hid.out (p := Hid _) (show Hid (Hid _) from b1)
  clear l1 b1
  go_wp2
  go_ret2
  exact ⟨_, rfl, L1.out, B1.out⟩

set_option maxHeartbeats 1000000 in
theorem one_68 (A Bn n : Nat) (hn : n = 32 ∨ n = 64) (hA : Hid (A < 2 ^ n)) (hB : Hid (Bn < 2 ^ n)) (va vb : Value) (w : World) (la : Lst w va (bl A n)) (lb : Lst w vb (bl Bn n)) :
    Calls Try.prog 25 #[.int .i64 68, va, vb] w fun e w' => ∃ v, e = .returned (.tuple #[v, .bool true]) ∧ Lst w' v (bl (if Bn = 0 then A else sr A Bn n) n) ∧ Below w.heap.size w w' := by
  have hN0 : 0 < n := by omega
  have hM : Hid (Bn % n ≤ n) := Nat.le_of_lt (Nat.mod_lt _ hN0)
  have La : Hid (Lst w va (bl A n)) := la
  have Lb : Hid (Lst w vb (bl Bn n)) := lb
  obtain ⟨g, off, cap, rfl, h1, h2, h3⟩ := la
  clear lb h3
  rw [bl_length] at h1
  rw [bl_length]
  rw [bl_length] at La
  obtain ⟨N, hN⟩ : ∃ N : Nat, N = (if Bn = 0 then A else sr A Bn n) := ⟨_, rfl⟩
  rw [← hN]
  have HN := Hid.out (p := Hid _) (show Hid (Hid _) from hN)
  clear hN
  go_enter Try.func25, Try.ntmps25
  go_wp2_with fail
  refine (quo68 A Bn n hN0 (by omega) hA hB _ _ _ La.out Lb.out).mono ?_
  rintro e w1 ⟨v1, rfl, l1, b1⟩
  have L1 : Hid (Lst w1 v1 (bl N n)) := by rw [HN.out]; exact l1
  have B1 := Hid.out (p := Hid _) (show Hid (Hid _) from b1)
  clear l1 b1
  go_wp2
  go_ret2
  exact ⟨_, rfl, L1.out, B1.out⟩

set_option maxHeartbeats 1000000 in
theorem one_69 (A Bn n : Nat) (hn : n = 32 ∨ n = 64) (hA : Hid (A < 2 ^ n)) (hB : Hid (Bn < 2 ^ n)) (va vb : Value) (w : World) (la : Lst w va (bl A n)) (lb : Lst w vb (bl Bn n)) :
    Calls Try.prog 25 #[.int .i64 69, va, vb] w fun e w' => ∃ v, e = .returned (.tuple #[v, .bool true]) ∧ Lst w' v (bl (if Bn = 0 then A else A % Bn) n) ∧ Below w.heap.size w w' := by
  have hN0 : 0 < n := by omega
  have hM : Hid (Bn % n ≤ n) := Nat.le_of_lt (Nat.mod_lt _ hN0)
  have La : Hid (Lst w va (bl A n)) := la
  have Lb : Hid (Lst w vb (bl Bn n)) := lb
  obtain ⟨g, off, cap, rfl, h1, h2, h3⟩ := la
  clear lb h3
  rw [bl_length] at h1
  rw [bl_length]
  rw [bl_length] at La
  obtain ⟨N, hN⟩ : ∃ N : Nat, N = (if Bn = 0 then A else A % Bn) := ⟨_, rfl⟩
  rw [← hN]
  have HN := Hid.out (p := Hid _) (show Hid (Hid _) from hN)
  clear hN
  go_enter Try.func25, Try.ntmps25
  go_wp2_with fail
  refine (quo69 A Bn n hN0 (by omega) hA hB _ _ _ La.out Lb.out).mono ?_
  rintro e w1 ⟨v1, rfl, l1, b1⟩
  have L1 : Hid (Lst w1 v1 (bl N n)) := by rw [HN.out]; exact l1
  have B1 := Hid.out (p := Hid _) (show Hid (Hid _) from b1)
  clear l1 b1
  go_wp2
  go_ret2
  exact ⟨_, rfl, L1.out, B1.out⟩
end Go.Proofs.Ythnjppfgdkiaaac
