/-
  Bits and Extend: the program's and the reference's.
-/
import Derived.Test.YthnjppfgdkiaaaaNt
import Derived.Test.YthnjppfgdkiaaaaRef5
namespace Go.Proofs.Ythnjppfgdkiaaaa
open Go.ChangeShapes Go.WideShapes Go.ChangeAt Go.RowKit

def bb (x : BitVec 64) (j : Nat) : BitVec 64 := BitVec.ofNat 64 (x.toNat / 2 ^ j % 2)
theorem n64_bb (x : BitVec 64) (j : Nat) : n64 (bb x j) = bt x.toNat j := by
  unfold n64 bb bt; rw [BitVec.toNat_ofNat]; omega
theorem bit_int (x : BitVec 64) (j : Nat) (z : Int) (hz : z = (j : Int)) (hj : j < 64) (w : World) : Calls Try.prog 35 #[.int .u64 (n64 x), .int .i64 z] w fun e w' => e = .returned (.int .u64 (n64 (bb x j))) ∧ w' = w := by
  subst hz
  have hx := n64_lo x
  have hl : (j : Int) < 64 := by omega
  go_enter Try.func35, Try.ntmps35
  go_wp2
  go_ret
  exact ⟨ret_int ((bit_and x j).trans (n64_bb x j).symm), rfl⟩

theorem jv_bb (x : BitVec 64) (lo k : Nat) (hk : k < 64) : jv (x.toNat / 2 ^ lo) k ||| (bb x (lo + k) <<< k) = jv (x.toNat / 2 ^ lo) (k + 1) := by
  rw [← jv_or _ _ hk]; unfold bb; rw [Nat.div_div_eq_div_mul, ← Nat.pow_add]

set_option maxHeartbeats 1000000 in
theorem bits_in (x : BitVec 64) (hi lo : Nat) (h1 : lo ≤ hi) (h2 : hi ≤ 63) (w : World) : Calls Try.prog 11 #[.int .u64 (n64 x), .int .i64 (hi : Int), .int .i64 (lo : Int)] w fun e w' => e = .returned (.int .u64 (n64 (jv (x.toNat / 2 ^ lo) (hi + 1 - lo)))) ∧ w' = w := by
  have g1 : (lo : Int) ≤ (hi : Int) := by omega
  have g2 : (hi : Int) ≤ 63 := by omega
  have g3 : (0 : Int) ≤ (lo : Int) := by omega
  have d1 : decide (hi < lo) = false := decide_eq_false (by omega)
  go_enter Try.func11, Try.ntmps11
  go_wp2
  go_loopw [7, 24] (fun v i wr => ∃ k : Nat, k ≤ hi + 1 - lo ∧ i = .int .i64 k ∧ v = .int .u64 (n64 (jv (x.toNat / 2 ^ lo) k)) ∧ wr = w) (fun _ i _ => 64 - (intOf i).toNat)
  case atStart => exact ⟨0, Nat.zero_le _, rfl, by unfold jv; simp [Nat.mod_one]; rfl, rfl⟩
  case round =>
    obtain ⟨k, hk, rfl, rfl, rfl⟩ := hrel
    by_cases hlt : k < hi + 1 - lo
    · have hl2 : (k : Int) < (hi : Int) - (lo : Int) + 1 := by omega
      have hl3 : (k : Int) < 64 := by omega
      have HJ : Hid (jv (x.toNat / 2 ^ lo) k ||| (bb x (lo + k) <<< k) = jv (x.toNat / 2 ^ lo) (k + 1)) := jv_bb x lo k (by omega)
      go_wp2_with (go_at_call 35; refine (bit_int x (lo + k) _ (by omega) (by omega) _).mono ?_; rintro e w' ⟨rfl, rfl⟩)
      go_roundw
      case rel => exact ⟨k + 1, by omega, by go_num, by rw [n64_shl, n64_or, HJ.out], trivial⟩
      case measure => simp [intOf]; omega
    · have hl2 : (hi : Int) - (lo : Int) + 1 ≤ (k : Int) := by omega
      have hkn : k = hi + 1 - lo := by omega
      have HK : Hid (k = hi + 1 - lo) := hkn
      clear hkn
      go_wp2
      go_ret
      exact ⟨ret_int (by rw [HK.out]), rfl⟩

theorem Lst.part {w : World} {v : Value} {N m lo n : Nat} (h : Lst w v (bl N m)) (hm : lo + n ≤ m) : ∃ g off cap, v = .slice (some ⟨g, off, none⟩) m cap ∧ m ≤ cap ∧ Lst w (.slice (some ⟨g, off + lo, none⟩) n (cap - lo)) (bl (N / 2 ^ lo) n) := by
  obtain ⟨g, off, cap, rfl, h1, h2, h3⟩ := h
  rw [bl_length] at h1 h3
  refine ⟨g, off, cap, by rw [bl_length], h1, g, off + lo, cap - lo, by rw [bl_length], by rw [bl_length]; omega, h2, fun j hj => ?_⟩
  rw [bl_length] at hj
  have := h3 (lo + j) (by omega)
  rw [bl_get _ _ _ (by omega)] at this
  rw [bl_get _ _ _ hj, show off + lo + j = off + (lo + j) by omega, this]
  unfold bt; rw [Nat.div_div_eq_div_mul, ← Nat.pow_add]

theorem split_64' (x : BitVec 64) (w : World) : Calls Try.prog 32 #[.int .u64 (n64 x), .int .i64 64] w fun e w' => ∃ v, e = .returned v ∧ Lst w' v (bl x.toNat 64) ∧ Below w.heap.size w w' := split_any x 64 (by decide) (by decide) w

set_option maxHeartbeats 1000000 in
theorem refBits_in (x : BitVec 64) (hi lo : Nat) (h1 : lo ≤ hi) (h2 : hi ≤ 63) (w : World) : Calls Try.prog 12 #[.int .u64 (n64 x), .int .i64 (hi : Int), .int .i64 (lo : Int)] w fun e w' => e = .returned (.int .u64 (n64 (jv (x.toNat / 2 ^ lo) (hi + 1 - lo)))) ∧ Below w.heap.size w w' := by
  have g1 : (lo : Int) ≤ (hi : Int) := by omega
  have g2 : (hi : Int) ≤ 63 := by omega
  have g3 : (0 : Int) ≤ (lo : Int) := by omega
  go_enter Try.func12, Try.ntmps12
  go_wp2_with fail
  refine (split_64' x _).mono ?_
  rintro e w1 ⟨v1, rfl, l1, b1⟩
  obtain ⟨g, off, cap, rfl, hc, l2⟩ := l1.part (lo := lo) (n := hi + 1 - lo) (by omega)
  have L2 : Hid (Lst w1 (.slice (some ⟨g, off + lo, none⟩) (hi + 1 - lo) (cap - lo)) (bl (x.toNat / 2 ^ lo) (hi + 1 - lo))) := l2
  have B1 : Hid (Below w.heap.size w w1) := b1
  clear l1 l2 b1
  have hc2 : (hi : Int) + 1 ≤ (cap : Int) := by omega
  go_wp2_with fail
  refine (join_any (x.toNat / 2 ^ lo) (hi + 1 - lo) (by omega) _ _ L2.out).mono ?_
  rintro e w2 ⟨rfl, rfl⟩
  go_wp2
  go_ret
  exact ⟨rfl, B1.out⟩

/-- Outside: both answer 0. -/
theorem bits_out (x : BitVec 64) (hi lo : Int) (h : lo < 0 ∨ 63 < hi ∨ hi < lo) (w : World) : Calls Try.prog 11 #[.int .u64 (n64 x), .int .i64 hi, .int .i64 lo] w fun e w' => e = .returned (.int .u64 0) ∧ w' = w := by
  by_cases a1 : lo < 0
  · go_enter Try.func11, Try.ntmps11
    go_wp2
    go_ret
    exact ⟨rfl, rfl⟩
  · have a1' : 0 ≤ lo := by omega
    by_cases a2 : 63 < hi
    · go_enter Try.func11, Try.ntmps11
      go_wp2
      go_ret
      exact ⟨rfl, rfl⟩
    · have a2' : hi ≤ 63 := by omega
      have a3 : hi < lo := by omega
      clear h
      go_enter Try.func11, Try.ntmps11
      go_wp2
      go_ret
      exact ⟨rfl, rfl⟩
theorem refBits_out (x : BitVec 64) (hi lo : Int) (h : lo < 0 ∨ 63 < hi ∨ hi < lo) (w : World) : Calls Try.prog 12 #[.int .u64 (n64 x), .int .i64 hi, .int .i64 lo] w fun e w' => e = .returned (.int .u64 0) ∧ w' = w := by
  by_cases a1 : lo < 0
  · go_enter Try.func12, Try.ntmps12
    go_wp2
    go_ret
    exact ⟨rfl, rfl⟩
  · have a1' : 0 ≤ lo := by omega
    by_cases a2 : 63 < hi
    · go_enter Try.func12, Try.ntmps12
      go_wp2
      go_ret
      exact ⟨rfl, rfl⟩
    · have a2' : hi ≤ 63 := by omega
      have a3 : hi < lo := by omega
      clear h
      go_enter Try.func12, Try.ntmps12
      go_wp2
      go_ret
      exact ⟨rfl, rfl⟩

/-! Extend -/
theorem jv_ext (x : BitVec 64) (n k : Nat) (hn0 : 0 < n) (hk : k < 64) : jv (wdn x.toNat n) k ||| (bb x (min k (n - 1)) <<< k) = jv (wdn x.toNat n) (k + 1) := by
  rw [← jv_or _ _ hk]
  have h := wdn_bit x.toNat n k hk
  have e : wdn x.toNat n / 2 ^ k % 2 = x.toNat / 2 ^ (min k (n - 1)) % 2 := by
    unfold bt at h
    by_cases hl : k < n
    · rw [if_pos hl] at h; rw [Nat.min_eq_left (by omega)]; omega
    · rw [if_neg hl] at h; rw [Nat.min_eq_right (by omega)]; omega
  unfold bb; rw [e]

set_option maxHeartbeats 1000000 in
theorem extend_in (x : BitVec 64) (n : Nat) (h1 : 0 < n) (h2 : n < 64) (w : World) : Calls Try.prog 13 #[.int .u64 (n64 x), .int .i64 (n : Int)] w fun e w' => e = .returned (.int .u64 (n64 (jv (wdn x.toNat n) 64))) ∧ w' = w := by
  have g1 : (0 : Int) < (n : Int) := by omega
  have g2 : (n : Int) < 64 := by omega
  have d1 : decide (n = 0) = false := decide_eq_false (by omega)
  go_enter Try.func13, Try.ntmps13
  go_wp2
  go_loopw [5, 12] (fun v i wr => ∃ k : Nat, k ≤ 64 ∧ i = .int .i64 k ∧ v = .int .u64 (n64 (jv (wdn x.toNat n) k)) ∧ wr = w) (fun _ i _ => 64 - (intOf i).toNat)
  case atStart => exact ⟨0, Nat.zero_le _, rfl, by unfold jv; simp [Nat.mod_one]; rfl, rfl⟩
  case round =>
    obtain ⟨k, hk, rfl, rfl, rfl⟩ := hrel
    by_cases hlt : k < 64
    · have hl3 : (k : Int) < 64 := by omega
      have HJ : Hid (jv (wdn x.toNat n) k ||| (bb x (min k (n - 1)) <<< k) = jv (wdn x.toNat n) (k + 1)) := jv_ext x n k h1 hlt
      by_cases hm : k ≤ n - 1
      all_goals
        have hm2 : (if k ≤ n - 1 then (k : Int) ≤ (n : Int) - 1 else (n : Int) - 1 < (k : Int)) := by split <;> omega
        simp only [hm, if_true, if_false] at hm2
        clear hm
        go_wp2_with (go_at_call 35; refine (bit_int x (min k (n - 1)) _ (by omega) (by omega) _).mono ?_; rintro e w' ⟨rfl, rfl⟩)
        go_roundw
        case rel => exact ⟨k + 1, by omega, by go_num, by rw [n64_shl, n64_or, HJ.out], trivial⟩
        case measure => simp [intOf]; omega
    · have hl2 : (64 : Int) ≤ (k : Int) := by omega
      have hkn : k = 64 := by omega
      subst hkn
      go_wp2
      go_ret
      exact ⟨rfl, rfl⟩

theorem widen_64 (A n : Nat) (hn0 : 0 < n) (hn : n ≤ 200) (va : Value) (w : World) (la : Lst w va (bl A n)) :
    Calls Try.prog 37 #[va, .int .i64 64, .bool true] w fun e w' => ∃ v, e = .returned v ∧ Lst w' v (bl (wdn A n) 64) ∧ Below w.heap.size w w' := by
  have h := widen_true A n 64 hn0 (by decide) hn (by decide) va w la
  rw [mk_congr (g := bt (wdn A n)) (fun j hj => by rw [wdn_bit A n j hj]; rfl)] at h
  exact h

set_option maxHeartbeats 1000000 in
theorem refExtend_in (x : BitVec 64) (n : Nat) (h1 : 0 < n) (h2 : n < 64) (w : World) : Calls Try.prog 14 #[.int .u64 (n64 x), .int .i64 (n : Int)] w fun e w' => e = .returned (.int .u64 (n64 (jv (wdn x.toNat n) 64))) ∧ Below w.heap.size w w' := by
  have g1 : (0 : Int) < (n : Int) := by omega
  have g2 : (n : Int) < 64 := by omega
  go_enter Try.func14, Try.ntmps14
  go_wp2_with fail
  refine (split_any x n h1 (by omega) _).mono ?_
  rintro e w1 ⟨v1, rfl, l1, b1⟩
  have L1 : Hid (Lst w1 v1 (bl x.toNat n)) := l1
  have B1 : Hid (Below w.heap.size w w1) := b1
  clear l1 b1
  go_wp2_with fail
  refine (widen_64 x.toNat n h1 (by omega) v1 _ L1.out).mono ?_
  rintro e w2 ⟨v2, rfl, l2, b2⟩
  have L2 : Hid (Lst w2 v2 (bl (wdn x.toNat n) 64)) := l2
  have B2 : Hid (Below w1.heap.size w1 w2) := b2
  clear l2 b2
  go_wp2_with fail
  refine (join_any (wdn x.toNat n) 64 (by omega) v2 _ L2.out).mono ?_
  rintro e w3 ⟨rfl, rfl⟩
  go_wp2
  go_ret
  exact ⟨rfl, B1.out.trans (B2.out.mono B1.out.size)⟩

theorem extend_lo (x : BitVec 64) (n : Int) (h : n ≤ 0) (w : World) : Calls Try.prog 13 #[.int .u64 (n64 x), .int .i64 n] w fun e w' => e = .returned (.int .u64 0) ∧ w' = w := by
  go_enter Try.func13, Try.ntmps13
  go_wp2
  go_ret
  exact ⟨rfl, rfl⟩
theorem extend_hi (x : BitVec 64) (n : Int) (h : 64 ≤ n) (w : World) : Calls Try.prog 13 #[.int .u64 (n64 x), .int .i64 n] w fun e w' => e = .returned (.int .u64 (n64 x)) ∧ w' = w := by
  have h0 : 0 < n := by omega
  go_enter Try.func13, Try.ntmps13
  go_wp2
  go_ret
  exact ⟨rfl, rfl⟩
theorem refExtend_lo (x : BitVec 64) (n : Int) (h : n ≤ 0) (w : World) : Calls Try.prog 14 #[.int .u64 (n64 x), .int .i64 n] w fun e w' => e = .returned (.int .u64 0) ∧ w' = w := by
  have h0 : n < 64 := by omega
  go_enter Try.func14, Try.ntmps14
  go_wp2
  go_ret
  exact ⟨rfl, rfl⟩
theorem refExtend_hi (x : BitVec 64) (n : Int) (h : 64 ≤ n) (w : World) : Calls Try.prog 14 #[.int .u64 (n64 x), .int .i64 n] w fun e w' => e = .returned (.int .u64 (n64 x)) ∧ w' = w := by
  go_enter Try.func14, Try.ntmps14
  go_wp2
  go_ret
  exact ⟨rfl, rfl⟩

theorem same_below {P : Program} {f : FuncId} {args : Array Value} {v : Value} {w : World} (h : Calls P f args w fun e w' => e = .returned v ∧ w' = w) : Calls P f args w fun e w' => e = .returned v ∧ Below w.heap.size w w' :=
  h.mono fun _ _ ⟨he, hw⟩ => ⟨he, by rw [hw]; exact Below.refl _ _⟩
theorem bits_both (x : BitVec 64) (hi lo : Int) : ∃ r : Int, (∀ w : World, Calls Try.prog 11 #[.int .u64 (n64 x), .int .i64 hi, .int .i64 lo] w fun e w' => e = .returned (.int .u64 r) ∧ Below w.heap.size w w') ∧
    (∀ w : World, Calls Try.prog 12 #[.int .u64 (n64 x), .int .i64 hi, .int .i64 lo] w fun e w' => e = .returned (.int .u64 r) ∧ Below w.heap.size w w') := by
  by_cases h : lo < 0 ∨ 63 < hi ∨ hi < lo
  · exact ⟨0, fun w => same_below (bits_out x hi lo h w), fun w => same_below (refBits_out x hi lo h w)⟩
  · obtain ⟨a, rfl⟩ : ∃ a : Nat, hi = (a : Int) := ⟨hi.toNat, by omega⟩
    obtain ⟨b, rfl⟩ : ∃ b : Nat, lo = (b : Int) := ⟨lo.toNat, by omega⟩
    exact ⟨_, fun w => same_below (bits_in x a b (by omega) (by omega) w), fun w => refBits_in x a b (by omega) (by omega) w⟩
theorem extend_both (x : BitVec 64) (n : Int) : ∃ r : Int, (∀ w : World, Calls Try.prog 13 #[.int .u64 (n64 x), .int .i64 n] w fun e w' => e = .returned (.int .u64 r) ∧ Below w.heap.size w w') ∧
    (∀ w : World, Calls Try.prog 14 #[.int .u64 (n64 x), .int .i64 n] w fun e w' => e = .returned (.int .u64 r) ∧ Below w.heap.size w w') := by
  by_cases h : n ≤ 0
  · exact ⟨0, fun w => same_below (extend_lo x n h w), fun w => same_below (refExtend_lo x n h w)⟩
  by_cases g : 64 ≤ n
  · exact ⟨_, fun w => same_below (extend_hi x n g w), fun w => same_below (refExtend_hi x n g w)⟩
  · obtain ⟨a, rfl⟩ : ∃ a : Nat, n = (a : Int) := ⟨n.toNat, by omega⟩
    exact ⟨_, fun w => same_below (extend_in x a (by omega) (by omega) w), fun w => refExtend_in x a (by omega) (by omega) w⟩
end Go.Proofs.Ythnjppfgdkiaaaa
