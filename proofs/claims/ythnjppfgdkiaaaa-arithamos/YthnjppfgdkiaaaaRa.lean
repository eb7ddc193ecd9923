/-
  The reference: amo on lists of bits.
-/
import Derived.Test.YthnjppfgdkiaaaaBw
namespace Go.Proofs.Ythnjppfgdkiaaaa
open Go.ChangeShapes Go.WideShapes Go.ChangeAt Go.RowKit
def pick (c : Bool) (A B : Nat) : Nat := if c then B else A
def aR (i n A B : Nat) : Nat := match i with
  | 0 => B
  | 1 => A + B + 0
  | 2 => A ^^^ B
  | 3 => A &&& B
  | 4 => A ||| B
  | 5 => pick (decide (sval n B < sval n A)) A B
  | 6 => pick (decide (sval n A < sval n B)) A B
  | 7 => pick (decide (B < A)) A B
  | _ => pick (decide (A < B)) A B

set_option linter.unusedVariables false in
theorem ra_0 (A Bn n : Nat) (hn0 : 0 < n) (hn : n ≤ 200) (hA : A < 2 ^ n) (hBn : Bn < 2 ^ n) (va vb : Value) (w : World) (la : Lst w va (bl A n)) (lb : Lst w vb (bl Bn n)) :
    Calls Try.prog 46 #[.int .i64 0, va, vb] w fun e w' => ∃ v, e = .returned v ∧ Lst w' v (bl (aR 0 n A Bn) n) ∧ Below w.heap.size w w' := by
  have La : Hid (Lst w va (bl A n)) := la
  have Lb : Hid (Lst w vb (bl Bn n)) := lb
  clear la lb
  go_enter Try.func46, Try.ntmps46
  go_wp2
  go_ret
  exact ⟨_, rfl, Lb.out, Below.refl _ _⟩

set_option linter.unusedVariables false in
theorem ra_1 (A Bn n : Nat) (hn0 : 0 < n) (hn : n ≤ 200) (hA : A < 2 ^ n) (hBn : Bn < 2 ^ n) (va vb : Value) (w : World) (la : Lst w va (bl A n)) (lb : Lst w vb (bl Bn n)) :
    Calls Try.prog 46 #[.int .i64 1, va, vb] w fun e w' => ∃ v, e = .returned v ∧ Lst w' v (bl (aR 1 n A Bn) n) ∧ Below w.heap.size w w' := by
  have La : Hid (Lst w va (bl A n)) := la
  have Lb : Hid (Lst w vb (bl Bn n)) := lb
  clear la lb
  go_enter Try.func46, Try.ntmps46
  go_wp2_with fail
  refine (plus_any A Bn 0 n hn0 hn (by decide) va vb _ La.out Lb.out).mono ?_
  rintro e w1 ⟨v1, rfl, l1, b1⟩
  have L1 : Hid (Lst w1 v1 _) := l1
  have B1 : Hid (Below w.heap.size w w1) := b1
  clear l1 b1
  go_wp2
  go_ret
  exact ⟨_, rfl, L1.out, B1.out⟩

set_option linter.unusedVariables false in
theorem ra_2 (A Bn n : Nat) (hn0 : 0 < n) (hn : n ≤ 200) (hA : A < 2 ^ n) (hBn : Bn < 2 ^ n) (va vb : Value) (w : World) (la : Lst w va (bl A n)) (lb : Lst w vb (bl Bn n)) :
    Calls Try.prog 46 #[.int .i64 2, va, vb] w fun e w' => ∃ v, e = .returned v ∧ Lst w' v (bl (aR 2 n A Bn) n) ∧ Below w.heap.size w w' := by
  have La : Hid (Lst w va (bl A n)) := la
  have Lb : Hid (Lst w vb (bl Bn n)) := lb
  clear la lb
  go_enter Try.func46, Try.ntmps46
  go_wp2_with fail
  refine (bitwise_xor A Bn n hn0 hn va vb _ La.out Lb.out).mono ?_
  rintro e w1 ⟨v1, rfl, l1, b1⟩
  have L1 : Hid (Lst w1 v1 _) := l1
  have B1 : Hid (Below w.heap.size w w1) := b1
  clear l1 b1
  go_wp2
  go_ret
  exact ⟨_, rfl, L1.out, B1.out⟩

set_option linter.unusedVariables false in
theorem ra_3 (A Bn n : Nat) (hn0 : 0 < n) (hn : n ≤ 200) (hA : A < 2 ^ n) (hBn : Bn < 2 ^ n) (va vb : Value) (w : World) (la : Lst w va (bl A n)) (lb : Lst w vb (bl Bn n)) :
    Calls Try.prog 46 #[.int .i64 3, va, vb] w fun e w' => ∃ v, e = .returned v ∧ Lst w' v (bl (aR 3 n A Bn) n) ∧ Below w.heap.size w w' := by
  have La : Hid (Lst w va (bl A n)) := la
  have Lb : Hid (Lst w vb (bl Bn n)) := lb
  clear la lb
  go_enter Try.func46, Try.ntmps46
  go_wp2_with fail
  refine (bitwise_and A Bn n hn0 hn va vb _ La.out Lb.out).mono ?_
  rintro e w1 ⟨v1, rfl, l1, b1⟩
  have L1 : Hid (Lst w1 v1 _) := l1
  have B1 : Hid (Below w.heap.size w w1) := b1
  clear l1 b1
  go_wp2
  go_ret
  exact ⟨_, rfl, L1.out, B1.out⟩

set_option linter.unusedVariables false in
theorem ra_4 (A Bn n : Nat) (hn0 : 0 < n) (hn : n ≤ 200) (hA : A < 2 ^ n) (hBn : Bn < 2 ^ n) (va vb : Value) (w : World) (la : Lst w va (bl A n)) (lb : Lst w vb (bl Bn n)) :
    Calls Try.prog 46 #[.int .i64 4, va, vb] w fun e w' => ∃ v, e = .returned v ∧ Lst w' v (bl (aR 4 n A Bn) n) ∧ Below w.heap.size w w' := by
  have La : Hid (Lst w va (bl A n)) := la
  have Lb : Hid (Lst w vb (bl Bn n)) := lb
  clear la lb
  go_enter Try.func46, Try.ntmps46
  go_wp2_with fail
  refine (bitwise_or A Bn n hn0 hn va vb _ La.out Lb.out).mono ?_
  rintro e w1 ⟨v1, rfl, l1, b1⟩
  have L1 : Hid (Lst w1 v1 _) := l1
  have B1 : Hid (Below w.heap.size w w1) := b1
  clear l1 b1
  go_wp2
  go_ret
  exact ⟨_, rfl, L1.out, B1.out⟩

set_option linter.unusedVariables false in
theorem ra_5 (A Bn n : Nat) (hn0 : 0 < n) (hn : n ≤ 200) (hA : A < 2 ^ n) (hBn : Bn < 2 ^ n) (va vb : Value) (w : World) (la : Lst w va (bl A n)) (lb : Lst w vb (bl Bn n)) :
    Calls Try.prog 46 #[.int .i64 5, va, vb] w fun e w' => ∃ v, e = .returned v ∧ Lst w' v (bl (aR 5 n A Bn) n) ∧ Below w.heap.size w w' := by
  have La : Hid (Lst w va (bl A n)) := la
  have Lb : Hid (Lst w vb (bl Bn n)) := lb
  clear la lb
  by_cases hc : sval n Bn < sval n A
  · have hr : aR 5 n A Bn = Bn := by show pick (decide (sval n Bn < sval n A)) A Bn = Bn; rw [decide_eq_true hc]; rfl
    have HR : Hid (aR 5 n A Bn = Bn) := hr
    have hd : decide (sval n Bn < sval n A) = true := decide_eq_true hc
    clear hr hc
    have hcall := lessSigned_any Bn A n hn0 hn hBn hA vb va _ Lb.out La.out
    rw [hd] at hcall
    have HC : Hid (Calls Try.prog 33 _ w fun e w' => e = .returned (.bool true) ∧ Below w.heap.size w w') := hcall
    clear hcall hd
    go_enter Try.func46, Try.ntmps46
    go_wp2_with fail
    refine HC.out.mono ?_
    rintro e w1 ⟨rfl, b1⟩
    have B1 : Hid (Below w.heap.size w w1) := b1
    clear b1
    go_wp2
    go_ret
    exact ⟨_, rfl, by rw [HR.out]; exact Lb.out.later B1.out, B1.out⟩
  · have hr : aR 5 n A Bn = A := by show pick (decide (sval n Bn < sval n A)) A Bn = A; rw [decide_eq_false hc]; rfl
    have HR : Hid (aR 5 n A Bn = A) := hr
    have hd : decide (sval n Bn < sval n A) = false := decide_eq_false hc
    clear hr hc
    have hcall := lessSigned_any Bn A n hn0 hn hBn hA vb va _ Lb.out La.out
    rw [hd] at hcall
    have HC : Hid (Calls Try.prog 33 _ w fun e w' => e = .returned (.bool false) ∧ Below w.heap.size w w') := hcall
    clear hcall hd
    go_enter Try.func46, Try.ntmps46
    go_wp2_with fail
    refine HC.out.mono ?_
    rintro e w1 ⟨rfl, b1⟩
    have B1 : Hid (Below w.heap.size w w1) := b1
    clear b1
    go_wp2
    go_ret
    exact ⟨_, rfl, by rw [HR.out]; exact La.out.later B1.out, B1.out⟩

set_option linter.unusedVariables false in
theorem ra_6 (A Bn n : Nat) (hn0 : 0 < n) (hn : n ≤ 200) (hA : A < 2 ^ n) (hBn : Bn < 2 ^ n) (va vb : Value) (w : World) (la : Lst w va (bl A n)) (lb : Lst w vb (bl Bn n)) :
    Calls Try.prog 46 #[.int .i64 6, va, vb] w fun e w' => ∃ v, e = .returned v ∧ Lst w' v (bl (aR 6 n A Bn) n) ∧ Below w.heap.size w w' := by
  have La : Hid (Lst w va (bl A n)) := la
  have Lb : Hid (Lst w vb (bl Bn n)) := lb
  clear la lb
  by_cases hc : sval n A < sval n Bn
  · have hr : aR 6 n A Bn = Bn := by show pick (decide (sval n A < sval n Bn)) A Bn = Bn; rw [decide_eq_true hc]; rfl
    have HR : Hid (aR 6 n A Bn = Bn) := hr
    have hd : decide (sval n A < sval n Bn) = true := decide_eq_true hc
    clear hr hc
    have hcall := lessSigned_any A Bn n hn0 hn hA hBn va vb _ La.out Lb.out
    rw [hd] at hcall
    have HC : Hid (Calls Try.prog 33 _ w fun e w' => e = .returned (.bool true) ∧ Below w.heap.size w w') := hcall
    clear hcall hd
    go_enter Try.func46, Try.ntmps46
    go_wp2_with fail
    refine HC.out.mono ?_
    rintro e w1 ⟨rfl, b1⟩
    have B1 : Hid (Below w.heap.size w w1) := b1
    clear b1
    go_wp2
    go_ret
    exact ⟨_, rfl, by rw [HR.out]; exact Lb.out.later B1.out, B1.out⟩
  · have hr : aR 6 n A Bn = A := by show pick (decide (sval n A < sval n Bn)) A Bn = A; rw [decide_eq_false hc]; rfl
    have HR : Hid (aR 6 n A Bn = A) := hr
    have hd : decide (sval n A < sval n Bn) = false := decide_eq_false hc
    clear hr hc
    have hcall := lessSigned_any A Bn n hn0 hn hA hBn va vb _ La.out Lb.out
    rw [hd] at hcall
    have HC : Hid (Calls Try.prog 33 _ w fun e w' => e = .returned (.bool false) ∧ Below w.heap.size w w') := hcall
    clear hcall hd
    go_enter Try.func46, Try.ntmps46
    go_wp2_with fail
    refine HC.out.mono ?_
    rintro e w1 ⟨rfl, b1⟩
    have B1 : Hid (Below w.heap.size w w1) := b1
    clear b1
    go_wp2
    go_ret
    exact ⟨_, rfl, by rw [HR.out]; exact La.out.later B1.out, B1.out⟩

set_option linter.unusedVariables false in
theorem ra_7 (A Bn n : Nat) (hn0 : 0 < n) (hn : n ≤ 200) (hA : A < 2 ^ n) (hBn : Bn < 2 ^ n) (va vb : Value) (w : World) (la : Lst w va (bl A n)) (lb : Lst w vb (bl Bn n)) :
    Calls Try.prog 46 #[.int .i64 7, va, vb] w fun e w' => ∃ v, e = .returned v ∧ Lst w' v (bl (aR 7 n A Bn) n) ∧ Below w.heap.size w w' := by
  have La : Hid (Lst w va (bl A n)) := la
  have Lb : Hid (Lst w vb (bl Bn n)) := lb
  clear la lb
  by_cases hc : Bn < A
  · have hr : aR 7 n A Bn = Bn := by show pick (decide (Bn < A)) A Bn = Bn; rw [decide_eq_true hc]; rfl
    have HR : Hid (aR 7 n A Bn = Bn) := hr
    have hd : decide (Bn < A) = true := decide_eq_true hc
    clear hr hc
    have hcall := less_any Bn A n hn0 hn hBn hA vb va _ Lb.out La.out
    rw [hd] at hcall
    have HC : Hid (Calls Try.prog 34 _ w fun e w' => e = .returned (.bool true) ∧ Below w.heap.size w w') := hcall
    clear hcall hd
    go_enter Try.func46, Try.ntmps46
    go_wp2_with fail
    refine HC.out.mono ?_
    rintro e w1 ⟨rfl, b1⟩
    have B1 : Hid (Below w.heap.size w w1) := b1
    clear b1
    go_wp2
    go_ret
    exact ⟨_, rfl, by rw [HR.out]; exact Lb.out.later B1.out, B1.out⟩
  · have hr : aR 7 n A Bn = A := by show pick (decide (Bn < A)) A Bn = A; rw [decide_eq_false hc]; rfl
    have HR : Hid (aR 7 n A Bn = A) := hr
    have hd : decide (Bn < A) = false := decide_eq_false hc
    clear hr hc
    have hcall := less_any Bn A n hn0 hn hBn hA vb va _ Lb.out La.out
    rw [hd] at hcall
    have HC : Hid (Calls Try.prog 34 _ w fun e w' => e = .returned (.bool false) ∧ Below w.heap.size w w') := hcall
    clear hcall hd
    go_enter Try.func46, Try.ntmps46
    go_wp2_with fail
    refine HC.out.mono ?_
    rintro e w1 ⟨rfl, b1⟩
    have B1 : Hid (Below w.heap.size w w1) := b1
    clear b1
    go_wp2
    go_ret
    exact ⟨_, rfl, by rw [HR.out]; exact La.out.later B1.out, B1.out⟩

set_option linter.unusedVariables false in
theorem ra_8 (A Bn n : Nat) (hn0 : 0 < n) (hn : n ≤ 200) (hA : A < 2 ^ n) (hBn : Bn < 2 ^ n) (va vb : Value) (w : World) (la : Lst w va (bl A n)) (lb : Lst w vb (bl Bn n)) :
    Calls Try.prog 46 #[.int .i64 8, va, vb] w fun e w' => ∃ v, e = .returned v ∧ Lst w' v (bl (aR 8 n A Bn) n) ∧ Below w.heap.size w w' := by
  have La : Hid (Lst w va (bl A n)) := la
  have Lb : Hid (Lst w vb (bl Bn n)) := lb
  clear la lb
  by_cases hc : A < Bn
  · have hr : aR 8 n A Bn = Bn := by show pick (decide (A < Bn)) A Bn = Bn; rw [decide_eq_true hc]; rfl
    have HR : Hid (aR 8 n A Bn = Bn) := hr
    have hd : decide (A < Bn) = true := decide_eq_true hc
    clear hr hc
    have hcall := less_any A Bn n hn0 hn hA hBn va vb _ La.out Lb.out
    rw [hd] at hcall
    have HC : Hid (Calls Try.prog 34 _ w fun e w' => e = .returned (.bool true) ∧ Below w.heap.size w w') := hcall
    clear hcall hd
    go_enter Try.func46, Try.ntmps46
    go_wp2_with fail
    refine HC.out.mono ?_
    rintro e w1 ⟨rfl, b1⟩
    have B1 : Hid (Below w.heap.size w w1) := b1
    clear b1
    go_wp2
    go_ret
    exact ⟨_, rfl, by rw [HR.out]; exact Lb.out.later B1.out, B1.out⟩
  · have hr : aR 8 n A Bn = A := by show pick (decide (A < Bn)) A Bn = A; rw [decide_eq_false hc]; rfl
    have HR : Hid (aR 8 n A Bn = A) := hr
    have hd : decide (A < Bn) = false := decide_eq_false hc
    clear hr hc
    have hcall := less_any A Bn n hn0 hn hA hBn va vb _ La.out Lb.out
    rw [hd] at hcall
    have HC : Hid (Calls Try.prog 34 _ w fun e w' => e = .returned (.bool false) ∧ Below w.heap.size w w') := hcall
    clear hcall hd
    go_enter Try.func46, Try.ntmps46
    go_wp2_with fail
    refine HC.out.mono ?_
    rintro e w1 ⟨rfl, b1⟩
    have B1 : Hid (Below w.heap.size w w1) := b1
    clear b1
    go_wp2
    go_ret
    exact ⟨_, rfl, by rw [HR.out]; exact La.out.later B1.out, B1.out⟩

theorem ra_any (i : Nat) (hi : i < 9) (A Bn n : Nat) (hn0 : 0 < n) (hn : n ≤ 200) (hA : A < 2 ^ n) (hBn : Bn < 2 ^ n) (va vb : Value) (w : World) (la : Lst w va (bl A n)) (lb : Lst w vb (bl Bn n)) :
    Calls Try.prog 46 #[.int .i64 (i : Int), va, vb] w fun e w' => ∃ v, e = .returned v ∧ Lst w' v (bl (aR i n A Bn) n) ∧ Below w.heap.size w w' := by
  match i, hi with
  | 0, _ => exact ra_0 A Bn n hn0 hn hA hBn va vb w la lb
  | 1, _ => exact ra_1 A Bn n hn0 hn hA hBn va vb w la lb
  | 2, _ => exact ra_2 A Bn n hn0 hn hA hBn va vb w la lb
  | 3, _ => exact ra_3 A Bn n hn0 hn hA hBn va vb w la lb
  | 4, _ => exact ra_4 A Bn n hn0 hn hA hBn va vb w la lb
  | 5, _ => exact ra_5 A Bn n hn0 hn hA hBn va vb w la lb
  | 6, _ => exact ra_6 A Bn n hn0 hn hA hBn va vb w la lb
  | 7, _ => exact ra_7 A Bn n hn0 hn hA hBn va vb w la lb
  | 8, _ => exact ra_8 A Bn n hn0 hn hA hBn va vb w la lb
end Go.Proofs.Ythnjppfgdkiaaaa
