/-
  Span of the reference: a range of a power of two.
-/
import Derived.Test.YtckgjfkodgeagaaDoorPse
namespace Go.Proofs.YtckgjfkodgeagaaDoor
set_option linter.unusedVariables false
open Go.ChangeShapes Go.WideShapes Go.ChangeAt Go.RowKit Go.Deep
/-- The bits of an Addr: ones, then a zero. -/
theorem on_bit (x : BitVec 64) (h : x.toNat < 2 ^ 54) (m : Nat) (hm : m ≤ on x) : bits .and .u64 (n64 x / 2 ^ m) 1 = if m = on x then 0 else 1 := by
  obtain ⟨⟨r, hr⟩, _⟩ := on_rep x h
  have hp : 0 < 2 ^ on x := Nat.pow_pos (by omega)
  have h1 : x.toNat + 1 = 2 ^ on x * (2 * r + 1) := by
    rw [hr, Nat.pow_succ, Nat.mul_add, Nat.mul_one, Nat.mul_assoc]
    omega
  have hpm : 0 < 2 ^ m := Nat.pow_pos (by omega)
  obtain ⟨d, hd⟩ : ∃ d, on x = m + d := ⟨on x - m, by omega⟩
  have h2 : x.toNat + 1 = 2 ^ m * (2 ^ d * (2 * r + 1)) := by rw [h1, hd, Nat.pow_add, Nat.mul_assoc]
  have hK : 0 < 2 ^ d * (2 * r + 1) := Nat.mul_pos (Nat.pow_pos (by omega)) (by omega)
  have h3 : x.toNat / 2 ^ m = 2 ^ d * (2 * r + 1) - 1 := by
    generalize 2 ^ d * (2 * r + 1) = K at h2 hK
    obtain ⟨q, rfl⟩ : ∃ q, K = q + 1 := ⟨K - 1, by omega⟩
    have e1 : x.toNat = 2 ^ m * q + (2 ^ m - 1) := by rw [Nat.mul_add, Nat.mul_one] at h2; omega
    rw [e1, Nat.mul_add_div hpm, Nat.div_eq_of_lt (by omega)]
    omega
  have e0 : bits .and .u64 (n64 x / 2 ^ m) 1 = n64 ((x >>> m) &&& 1#64) := by rw [n64_shr]; exact n64_and (x >>> m) 1#64
  rw [e0]
  unfold n64
  rw [BitVec.toNat_and, BitVec.toNat_ushiftRight, Nat.shiftRight_eq_div_pow, h3, show (1#64 : BitVec 64).toNat = 1 from rfl, Nat.and_one_is_mod]
  by_cases hmn : m = on x
  · rw [if_pos hmn]
    have : d = 0 := by omega
    subst this
    rw [Nat.pow_zero, Nat.one_mul]
    omega
  · rw [if_neg hmn]
    obtain ⟨d', rfl⟩ : ∃ d', d = d' + 1 := ⟨d - 1, by omega⟩
    have e2 : 2 ^ (d' + 1) * (2 * r + 1) = 2 * (2 ^ d' * (2 * r + 1)) := by rw [Nat.pow_succ, Nat.mul_comm (2 ^ d') 2, Nat.mul_assoc]
    rw [e2] at hK ⊢
    omega
def zsz (k : Nat) : Int := ((2 ^ (k + 3) : Nat) : Int)
theorem zsz_step (k : Nat) (hk : k < 54) : IntKind.u64.wrap (2 * zsz k) = zsz (k + 1) := by
  unfold zsz
  have h1 : 2 ^ (k + 1 + 3) ≤ 2 ^ 57 := Nat.pow_le_pow_right (by omega) (by omega)
  have e : 2 ^ (k + 1 + 3) = 2 * 2 ^ (k + 3) := by rw [show k + 1 + 3 = (k + 3) + 1 by omega, Nat.pow_succ, Nat.mul_comm]
  rw [IntKind.wrap_u64]
  rw [e] at h1 ⊢
  omega
theorem zsz_pos (k : Nat) : 0 < zsz k := by unfold zsz; have : 0 < 2 ^ (k + 3) := Nat.pow_pos (by omega); omega
theorem rnp_first (x : BitVec 64) (h54 : x.toNat < 2 ^ 54) (h : on x < 54) : IntKind.u64.wrap (IntKind.u64.wrap ((n64 (x <<< 2)).tdiv (zsz (on x))) * zsz (on x)) = n64 (npF x) := by
  have hz : zsz (on x) = n64 (1#64 <<< (on x + 3)) := by unfold zsz n64; rw [one_shl _ (by omega)]
  rw [hz, n64_udivw, n64_mul]
  congr 1
  apply BitVec.eq_of_toNat_eq
  have hb := np_bound x h54 h
  rw [BitVec.toNat_mul, BitVec.toNat_udiv, one_shl _ (by omega), four_toNat x h54, four_div x h54 h, npF, if_neg (by omega), BitVec.toNat_ofNat, Nat.mul_comm]
theorem rnp_last (x : BitVec 64) (h54 : x.toNat < 2 ^ 54) (h : on x < 54) : IntKind.u64.wrap (n64 (npF x) + IntKind.u64.wrap (zsz (on x) - 1)) = n64 (npL x) := by
  have hz : zsz (on x) = n64 (1#64 <<< (on x + 3)) := by unfold zsz n64; rw [one_shl _ (by omega)]
  have e1 : IntKind.u64.wrap (n64 (1#64 <<< (on x + 3)) - 1) = n64 (1#64 <<< (on x + 3) - 1#64) := n64_sub (1#64 <<< (on x + 3)) 1#64
  rw [hz, e1, n64_add]
  congr 1
  apply BitVec.eq_of_toNat_eq
  have hb := np_bound x h54 h
  rw [BitVec.toNat_add, mask_toNat _ (by omega), npF, if_neg (by omega), npL, if_neg (by omega), BitVec.toNat_ofNat, BitVec.toNat_ofNat, Nat.mod_eq_of_lt (a := 2 ^ (on x + 3) * (x.toNat / 2 ^ (on x + 1))) (by omega)]
set_option maxRecDepth 100000 in
set_option maxHeartbeats 2000000 in
theorem rSpan_3 (c : Nat → BitVec 8) (a : Nat → BitVec 64) (k : Nat) (hk : k < 16) (hq : kd (PC c k) = 3#8) (w : World) :
    Calls Tryd.prog 8 #[.agg (pc c a), .int .i64 k] w fun e w' => e = .returned (sp3 (spI (PC c) (PA a) k)) ∧ Below w.heap.size w w' := by
  obtain ⟨W0, hW0, r0, b0, s0⟩ := start1 w (pc c a) 26
  have HS : Hid (W0.heap.size = w.heap.size + 1) := s0
  clear s0
  obtain ⟨X, hX⟩ : ∃ X, X = spI (PC c) (PA a) k := ⟨_, rfl⟩
  rw [← hX]
  rw [spI_in _ _ _ hk] at hX
  have hk2 : (k : Int) < 16 := by omega
  have hn0 : ¬ (k : Int) < 0 := by omega
  have hn1 : ¬ (15 : Int) < k := by omega
  have HK : Hid (∀ W, Calls Tryd.prog 22 #[.agg (pc (PC c) (PA a)), .int .i64 k] W fun e w' => e = .returned (.int .i64 3) ∧ Below W.heap.size W w') := fun W => by
    have := rkind_c (PC c) (PA a) k hk W
    rw [hq] at this
    exact this
  have e9 : X = some (npF (PA a k), npL (PA a k)) := by rw [hX, spn, if_neg (by rw [hq]; decide), if_neg (by rw [hq]; decide), if_pos hq]
  subst e9
  clear hX hq
  have h54 := PA_lt a k
  obtain ⟨x, hx⟩ : ∃ x, x = PA a k := ⟨_, rfl⟩
  rw [← hx] at h54 ⊢
  go_enter Tryd.func8, Tryd.ntmps8
  go_upto_region 1 with fail
  clear hW0
  go_upto_region 2 with (first | (refine wpList_load_rowG (by rfl) _ _ (by rfl) _ (by rfl) 26 _ (0, 0) _ r0.out Tryd.underlying26 (by rfl) (by rw [pc_size]; kernel_rfl) ?_) | (go_at_call 21; refine (rProper_c c a _).mono ?_; rintro e w1 ⟨rfl, hb1⟩; have HB1 : Hid (Below W0.heap.size W0 w1) := hb1; clear hb1) | (refine wpList_store_row (by rfl) _ _ _ (by rfl) (by rfl) _ _ _ (by rfl) (by rfl) (r0.out.later HB1.out (by rw [HS.out]; omega)) (by rw [pc_size]; kernel_rfl) (by rw [pc_size, pc_size]) (pc_ones _ _) ?_))
  obtain ⟨W2, hW2, r2, b2, s2⟩ := start_p (pc (PC c) (PA a)) r0.out b0.out (by rw [HS.out]; omega) HB1.out
  rw [hW2]
  clear hW2 HB1 r0 b0 HS
  have c1 := prow_addr r2.out k hk
  rw [← hx] at c1
  clear hx
  go_wp2_with (first | (refine wpList_load_rowG (by rfl) _ _ (by rfl) _ (by rfl) 26 _ (0, 0) _ r2.out Tryd.underlying26 (by rfl) (by rw [pc_size]; kernel_rfl) ?_) | (go_at_call 22; refine (HK.out _).mono ?_; rintro e w3 ⟨rfl, hb⟩; have HB3 : Hid (Below w.heap.size w w3) := b2.out.trans (hb.mono (Nat.le_of_lt s2.out)); have R3 := r2.out.later hb s2.out; clear hb R3))
  have HBit : Hid (∀ m, m ≤ on x → bits .and .u64 (n64 x / 2 ^ m) 1 = if m = on x then 0 else 1) := fun m hm => on_bit x h54 m hm
  have hon := (on_rep x h54).2
  go_loopw [9] (fun i wr => ∃ m : Nat, m ≤ on x ∧ i = .int .i64 m ∧ wr = w3) (fun i _ => 54 - (intOf i).toNat)
  case atStart => exact ⟨0, by omega, rfl, rfl⟩
  case round =>
    obtain ⟨m, hm, rfl, rfl⟩ := hrel
    by_cases hlt : m < on x
    · have hb := HBit.out m hm
      rw [if_neg (by omega)] at hb
      have hlt2 : (m : Int) < 54 := by omega
      go_wp2
      go_roundw
      case rel => exact ⟨m + 1, by omega, by go_num, trivial⟩
      case measure => simp [intOf]; omega
    · obtain rfl : m = on x := by omega
      by_cases h9 : on x = 54
      · have e1 : n64 (npF x) = 0 := by unfold npF; rw [if_pos h9]; rfl
        have e2 : n64 (npL x) = 18446744073709551615 := by unfold npL; rw [if_pos h9]; rfl
        have E : Hid (sp3 (some (npF x, npL x)) = .tuple #[.int .u64 0, .int .u64 18446744073709551615, .bool true]) := by unfold Hid sp3; simp [sF, sL, e1, e2]
        rw [h9]
        have e54 : ((54 : Nat) : Int) = 54 := rfl
        rw [e54]
        clear e1 e2 HBit hm hlt
        go_wp2
        go_ret3
        exact ⟨by rw [E.out]; rfl, HB3.out⟩
      · have hb := HBit.out (on x) (Nat.le_refl _)
        rw [if_pos rfl] at hb
        have hlt2 : (on x : Int) < 54 := by omega
        have hne : ((on x : Int) == 54) = false := by
          have : ¬ (on x : Int) = 54 := by omega
          simpa using this
        have HF1 : Hid (IntKind.u64.wrap (IntKind.u64.wrap ((n64 (x <<< 2)).tdiv (zsz (on x))) * zsz (on x)) = n64 (npF x)) := rnp_first x h54 (by omega)
        have HF2 : Hid (IntKind.u64.wrap (n64 (npF x) + IntKind.u64.wrap (zsz (on x) - 1)) = n64 (npL x)) := rnp_last x h54 (by omega)
        have HON : Hid (on x < 54) := by unfold Hid; omega
        clear HBit hm hlt h9
        have hzz : zsz 0 = 8 := rfl
        go_wp2
        rw [← hzz]
        have HR : Hid (wr = wr) := rfl
        go_loopw [10, 11] (fun z i wr' => ∃ m : Nat, m ≤ on x ∧ i = .int .i64 m ∧ z = .int .u64 (zsz m) ∧ wr' = wr) (fun _ i _ => 54 - (intOf i).toNat)
        case atStart => exact ⟨0, by omega, rfl, rfl, rfl⟩
        case round =>
          obtain ⟨m, hm, rfl, rfl, rfl⟩ := hrel
          by_cases hlt : m < on x
          · have hlt3 : (m : Int) < (on x : Int) := by omega
            have HZ : Hid (IntKind.u64.wrap (2 * zsz m) = zsz (m + 1)) := zsz_step m (by have := HON.out; omega)
            go_wp2
            go_roundw
            case rel => exact ⟨m + 1, by omega, by go_num, by rw [HZ.out], trivial⟩
            case measure => have := HON.out; simp [intOf]; omega
          · obtain rfl : m = on x := by omega
            have hzp := zsz_pos (on x)
            have hz0 : ¬ zsz (on x) = 0 := by omega
            have hz1 : (zsz (on x) == 0) = false := by simpa using hz0
            have m1 := four_mul x
            clear hlt hm hzz
            go_wp2
            go_ret3
            refine ⟨?_, HB3.out⟩
            have q1 := HF1.out
            have q2 := HF2.out
            simp_all [sp3, sF, sL]
theorem rSpan_c (c : Nat → BitVec 8) (a : Nat → BitVec 64) (i : Int) (w : World) :
    Calls Tryd.prog 8 #[.agg (pc c a), .int .i64 i] w fun e w' => e = .returned (sp3 (spI (PC c) (PA a) i)) ∧ Below w.heap.size w w' := by
  by_cases h : 0 ≤ i ∧ i < 16
  · obtain ⟨k, rfl⟩ : ∃ k : Nat, i = k := ⟨i.toNat, by omega⟩
    have hk : k < 16 := by omega
    rcases kd_cases (PC c k) with hq | hq | hq | hq
    · exact rSpan_0 c a k hk hq w
    · exact rSpan_1 c a k hk hq w
    · exact rSpan_2 c a k hk hq w
    · exact rSpan_3 c a k hk hq w
  · exact rSpan_out c a i h w
end Go.Proofs.YtckgjfkodgeagaaDoor
