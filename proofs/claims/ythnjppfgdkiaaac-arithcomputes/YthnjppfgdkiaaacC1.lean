/-
  The reference: turned, minus, ones, none.
-/
import Derived.Test.YthnjppfgdkiaaacMu
namespace Go.Proofs.Ythnjppfgdkiaaac
open Go.ChangeShapes Go.WideShapes Go.ChangeAt Go.RowKit
/-- Every one of n bits the other one. -/
def tnd (A n : Nat) : Nat := 2 ^ n - (A % 2 ^ n + 1)
theorem tnd_bit (A n j : Nat) (hj : j < n) : bt (tnd A n) j = 1 - bt A j := by
  unfold tnd
  rw [bt_test, bt_test, Nat.testBit_two_pow_sub_succ (Nat.mod_lt _ (Nat.two_pow_pos n)), Nat.testBit_mod_two_pow]
  simp only [hj, decide_true, Bool.true_and]
  cases A.testBit j <;> rfl

set_option maxHeartbeats 1000000 in
theorem turned_any (A n : Nat) (hn0 : 0 < n) (hn : n ≤ 200) (va : Value) (w : World) (la : Lst w va (bl A n)) :
    Calls Try.prog 85 #[va] w fun e w' => ∃ v, e = .returned v ∧ Lst w' v (bl (tnd A n) n) ∧ Below w.heap.size w w' := by
  rw [show bl (tnd A n) n = mk (fun j => 1 - bt A j) n from mk_congr (fun j hj => tnd_bit A n j hj)]
  obtain ⟨B, hB⟩ : ∃ B, B = w.heap.size := ⟨_, rfl⟩
  obtain ⟨g, off, cap, rfl, h1, h2, h3⟩ := la
  rw [bl_length] at h1 h3
  rw [bl_length]
  go_enter Try.func85, Try.ntmps85
  go_wp2
  go_loopw [3, 4] (fun v i wr => ∃ k : Nat, k ≤ n ∧ i = .int .i64 k ∧ wr.ownsRow B 3 1 v (mk (fun j => 1 - bt A j) k).length ((mk (fun j => 1 - bt A j) k).map (Value.int .i64)) ∧ Below B w wr ∧ B ≤ wr.heap.size) (fun _ i _ => n - (intOf i).toNat)
  case atStart => exact ⟨0, Nat.zero_le _, rfl, World.ownsRow_nil _ _ _ _, Below.refl _ _, by omega⟩
  case round =>
    obtain ⟨k, hk, rfl, hown, hbel, hsz⟩ := hrel
    have H : Hid (B = w.heap.size) := hB
    have Hb : Hid (Below B w wr) := hbel
    have Ho : Hid (wr.ownsRow B 3 1 u3 (mk (fun j => 1 - bt A j) k).length ((mk (fun j => 1 - bt A j) k).map (Value.int .i64))) := hown
    clear hB hbel hown
    by_cases hlt : k < n
    · have hl1 : (0 : Int) ≤ (k : Int) := by omega
      have hl2 : (k : Int) < (n : Int) := by omega
      have hlen : (mk (fun j => 1 - bt A j) k).length ≤ 1000 := by rw [mk_length]; omega
      have ha := (Hb.out.cell (p := ⟨g, off + k, none⟩) (by rw [H.out]; exact h2)).trans (h3 k hlt)
      rw [bl_get _ _ _ hlt] at ha
      have b1 := bt_lo A k; have b2 := bt_hi A k
      clear h3
      go_wp2_with (at_builtin; refine app1 (by rfl) _ _ (by rfl) B _ (mk (fun j => 1 - bt A j) k) (1 - bt A k) (by rfl) Ho.out (by rfl) hlen hsz ?_; intro v' w1 hown1 hbel1)
      have R := mk_next (f := fun j => 1 - bt A j) rfl H.out Hb.out hown1 hbel1
      have HR := Hid.out (p := Hid _) (show Hid (Hid _) from R)
      clear hown1 hbel1 R
      go_wp2
      go_roundw
      case rel => exact ⟨k + 1, by omega, by go_num, HR.out.1, HR.out.2.1, HR.out.2.2⟩
      case measure => simp [intOf]; omega
    · have hl2 : (n : Int) ≤ (k : Int) := by omega
      have hkn : k = n := by omega
      subst hkn
      clear h3
      go_wp2
      go_ret
      exact ⟨_, rfl, Lst.of_own Ho.out (by rw [mk_length]; omega), H.out ▸ Hb.out⟩

/-- The difference of n bits. -/
def mns (A B n : Nat) : Nat := A + tnd B n + 1
theorem mns_mod (A B n : Nat) (hB : B < 2 ^ n) : mns A B n % 2 ^ n = (A + (2 ^ n - B)) % 2 ^ n := by
  unfold mns tnd; rw [Nat.mod_eq_of_lt hB]; congr 1; omega
theorem minus_any (A Bn n : Nat) (hn0 : 0 < n) (hn : n ≤ 200) (va vb : Value) (w : World) (la : Lst w va (bl A n)) (lb : Lst w vb (bl Bn n)) :
    Calls Try.prog 70 #[va, vb] w fun e w' => ∃ v, e = .returned v ∧ Lst w' v (bl (mns A Bn n) n) ∧ Below w.heap.size w w' := by
  have La : Hid (Lst w va (bl A n)) := la
  have Lb : Hid (Lst w vb (bl Bn n)) := lb
  clear la lb
  go_enter Try.func70, Try.ntmps70
  go_wp2_with fail
  refine (turned_any Bn n hn0 hn vb _ Lb.out).mono ?_
  rintro e w1 ⟨v1, rfl, l1, b1⟩
  have L1 : Hid (Lst w1 v1 (bl (tnd Bn n) n)) := l1
  have La1 : Hid (Lst w1 va (bl A n)) := La.out.later b1
  have B1 : Hid (Below w.heap.size w w1) := b1
  clear l1 b1
  go_wp2_with fail
  refine (plus_any A (tnd Bn n) 1 n hn0 hn (by decide) va v1 _ La1.out L1.out).mono ?_
  rintro e w2 ⟨v2, rfl, l2, b2⟩
  have L2 : Hid (Lst w2 v2 (bl (mns A Bn n) n)) := l2
  have B2 : Hid (Below w.heap.size w w2) := B1.out.trans (b2.mono B1.out.size)
  clear l2 b2
  go_wp2
  go_ret
  exact ⟨_, rfl, L2.out, B2.out⟩
theorem ones_any (n : Nat) (hn0 : 0 < n) (hn : n ≤ 200) (w : World) :
    Calls Try.prog 87 #[.int .i64 (n : Int)] w fun e w' => ∃ v, e = .returned v ∧ Lst w' v (bl (tnd 0 n) n) ∧ Below w.heap.size w w' := by
  go_enter Try.func87, Try.ntmps87
  go_wp2_with fail
  refine (zeros_lst n (by omega) _).mono ?_
  rintro e w1 ⟨v1, rfl, l1, b1⟩
  have L1 : Hid (Lst w1 v1 (bl 0 n)) := l1
  have B1 : Hid (Below w.heap.size w w1) := b1
  clear l1 b1
  go_wp2_with fail
  refine (turned_any 0 n hn0 hn v1 _ L1.out).mono ?_
  rintro e w2 ⟨v2, rfl, l2, b2⟩
  have L2 : Hid (Lst w2 v2 (bl (tnd 0 n) n)) := l2
  have B2 : Hid (Below w.heap.size w w2) := B1.out.trans (b2.mono B1.out.size)
  clear l2 b2
  go_wp2
  go_ret
  exact ⟨_, rfl, L2.out, B2.out⟩

set_option maxHeartbeats 1000000 in
theorem none_any (A n : Nat) (hn0 : 0 < n) (hn : n ≤ 200) (hA : A < 2 ^ n) (va : Value) (w : World) (la : Lst w va (bl A n)) :
    Calls Try.prog 86 #[va] w fun e w' => e = .returned (.bool (decide (A = 0))) ∧ w' = w := by
  obtain ⟨g, off, cap, rfl, h1, h2, h3⟩ := la
  rw [bl_length] at h1 h3
  rw [bl_length]
  go_enter Try.func86, Try.ntmps86
  go_wp2
  go_loop [3] (fun i => ∃ k : Nat, k ≤ n ∧ i = .int .i64 k ∧ Hid (A % 2 ^ k = 0)) (fun i => n - (intOf i).toNat)
  case atStart => exact ⟨0, Nat.zero_le _, rfl, by show A % 2 ^ 0 = 0; simp [Nat.mod_one]⟩
  case round =>
    obtain ⟨k, hk, rfl, hh⟩ := hrel
    by_cases hlt : k < n
    · have ha := h3 k hlt
      rw [bl_get _ _ _ hlt] at ha
      have hl1 : (0 : Int) ≤ (k : Int) := by omega
      have hl2 : (k : Int) < (n : Int) := by omega
      clear h3
      rcases bt_cases A k with h0 | h0
      · have HM : Hid (A % 2 ^ (k + 1) = 0) := by
          show A % 2 ^ (k + 1) = 0
          unfold bt at h0; rw [Nat.mod_pow_succ, hh.out, show A / 2 ^ k % 2 = 0 by omega]; simp
        rw [h0] at ha
        clear h0 hh
        go_wp2
        go_round
        case rel => exact ⟨k + 1, by omega, by go_num, HM⟩
        case measure => simp [intOf]; omega
      · have HM : Hid (decide (A = 0) = false) := by
          show decide (A = 0) = false
          refine decide_eq_false (fun hc => ?_)
          unfold bt at h0; rw [hc] at h0; simp at h0
        rw [h0] at ha
        clear h0 hh
        go_wp2
        go_ret
        exact ⟨ret_boolR HM.out.symm, rfl⟩
    · have hl2 : (n : Int) ≤ (k : Int) := by omega
      have hkn : k = n := by omega
      subst hkn
      have HM : Hid (decide (A = 0) = true) := by
        show decide (A = 0) = true
        exact decide_eq_true (by have := hh.out; rwa [Nat.mod_eq_of_lt hA] at this)
      clear h3 hh
      go_wp2
      go_ret
      exact ⟨ret_boolR HM.out.symm, rfl⟩
end Go.Proofs.Ythnjppfgdkiaaac
