/-
  Psf Psg Psh.
-/
import Derived.Test.YtidfndgedopghaaGreatDoorM08
namespace Go.Proofs.YtidfndgedopghaaGreatDoor
set_option linter.unusedVariables false
open Go.ChangeShapes Go.WideShapes Go.ChangeAt Go.RowKit Go.Deep
/-- The bits of an Addr: ones, then a zero. -/
theorem on_bit (x : BitVec 64) (h : x.toNat < 2 ^ 54) (m : Nat) (hm : m ≤ on x) : bits .and .u64 (n64 x / 2 ^ m) 1 = if m = on x then 0 else 1 := by
  obtain ⟨⟨r, hr⟩, _⟩ := on_rep x h
  have hp : 0 < 2 ^ on x := Nat.pow_pos (by omega)
  have h1 : x.toNat + 1 = 2 ^ on x * (2 * r + 1) := by
    rw [hr, Nat.pow_succ, Nat.mul_add, Nat.mul_one, Nat.mul_assoc]
    omega
  have hpm : 0 < 2 ^ m := Nat.pow_pos (by omega)
  obtain ⟨d, hd⟩ : ∃ d, on x = m + d := ⟨on x - m, by omega⟩
  have h2 : x.toNat + 1 = 2 ^ m * (2 ^ d * (2 * r + 1)) := by rw [h1, hd, Nat.pow_add, Nat.mul_assoc]
  have hK : 0 < 2 ^ d * (2 * r + 1) := Nat.mul_pos (Nat.pow_pos (by omega)) (by omega)
  have h3 : x.toNat / 2 ^ m = 2 ^ d * (2 * r + 1) - 1 := by
    generalize 2 ^ d * (2 * r + 1) = K at h2 hK
    obtain ⟨q, rfl⟩ : ∃ q, K = q + 1 := ⟨K - 1, by omega⟩
    have e1 : x.toNat = 2 ^ m * q + (2 ^ m - 1) := by rw [Nat.mul_add, Nat.mul_one] at h2; omega
    rw [e1, Nat.mul_add_div hpm, Nat.div_eq_of_lt (by omega)]
    omega
  have e0 : bits .and .u64 (n64 x / 2 ^ m) 1 = n64 ((x >>> m) &&& 1#64) := by rw [n64_shr]; exact n64_and (x >>> m) 1#64
  rw [e0]
  unfold n64
  rw [BitVec.toNat_and, BitVec.toNat_ushiftRight, Nat.shiftRight_eq_div_pow, h3, show (1#64 : BitVec 64).toNat = 1 from rfl, Nat.and_one_is_mod]
  by_cases hmn : m = on x
  · rw [if_pos hmn]
    have : d = 0 := by omega
    subst this
    rw [Nat.pow_zero, Nat.one_mul]
    omega
  · rw [if_neg hmn]
    obtain ⟨d', rfl⟩ : ∃ d', d = d' + 1 := ⟨d - 1, by omega⟩
    have e2 : 2 ^ (d' + 1) * (2 * r + 1) = 2 * (2 ^ d' * (2 * r + 1)) := by rw [Nat.pow_succ, Nat.mul_comm (2 ^ d') 2, Nat.mul_assoc]
    rw [e2] at hK ⊢
    omega
def zsz (k : Nat) : Int := ((2 ^ (k + 3) : Nat) : Int)
theorem zsz_step (k : Nat) (hk : k < 54) : IntKind.u64.wrap (2 * zsz k) = zsz (k + 1) := by
  unfold zsz
  have h1 : 2 ^ (k + 1 + 3) ≤ 2 ^ 57 := Nat.pow_le_pow_right (by omega) (by omega)
  have e : 2 ^ (k + 1 + 3) = 2 * 2 ^ (k + 3) := by rw [show k + 1 + 3 = (k + 3) + 1 by omega, Nat.pow_succ, Nat.mul_comm]
  rw [IntKind.wrap_u64]
  rw [e] at h1 ⊢
  omega
theorem zsz_pos (k : Nat) : 0 < zsz k := by unfold zsz; have : 0 < 2 ^ (k + 3) := Nat.pow_pos (by omega); omega
theorem rnp_first (x : BitVec 64) (h54 : x.toNat < 2 ^ 54) (h : on x < 54) : IntKind.u64.wrap (IntKind.u64.wrap ((n64 (x <<< 2)).tdiv (zsz (on x))) * zsz (on x)) = n64 (npF x) := by
  have hz : zsz (on x) = n64 (1#64 <<< (on x + 3)) := by unfold zsz n64; rw [one_shl _ (by omega)]
  rw [hz, n64_udivw, n64_mul]
  congr 1
  apply BitVec.eq_of_toNat_eq
  have hb := np_bound x h54 h
  rw [BitVec.toNat_mul, BitVec.toNat_udiv, one_shl _ (by omega), four_toNat x h54, four_div x h54 h, npF, if_neg (by omega), BitVec.toNat_ofNat, Nat.mul_comm]
theorem rnp_last (x : BitVec 64) (h54 : x.toNat < 2 ^ 54) (h : on x < 54) : IntKind.u64.wrap (n64 (npF x) + IntKind.u64.wrap (zsz (on x) - 1)) = n64 (npL x) := by
  have hz : zsz (on x) = n64 (1#64 <<< (on x + 3)) := by unfold zsz n64; rw [one_shl _ (by omega)]
  have e1 : IntKind.u64.wrap (n64 (1#64 <<< (on x + 3)) - 1) = n64 (1#64 <<< (on x + 3) - 1#64) := n64_sub (1#64 <<< (on x + 3)) 1#64
  rw [hz, e1, n64_add]
  congr 1
  apply BitVec.eq_of_toNat_eq
  have hb := np_bound x h54 h
  rw [BitVec.toNat_add, mask_toNat _ (by omega), npF, if_neg (by omega), npL, if_neg (by omega), BitVec.toNat_ofNat, BitVec.toNat_ofNat, Nat.mod_eq_of_lt (a := 2 ^ (on x + 3) * (x.toNat / 2 ^ (on x + 1))) (by omega)]
set_option maxRecDepth 100000 in
set_option maxHeartbeats 2000000 in
theorem rSpan_3 (c : Nat → BitVec 8) (a : Nat → BitVec 64) (k : Nat) (hk : k < 16) (hq : kd (PC c k) = 3#8) (w : World) :
    Calls Tryz.prog 160 #[.agg (pc c a), .int .i64 k] w fun e w' => e = .returned (sp3 (spI (PC c) (PA a) k)) ∧ Below w.heap.size w w' := by
  obtain ⟨W0, hW0, r0, b0, s0⟩ := start1 w (pc c a) 28
  have HS : Hid (W0.heap.size = w.heap.size + 1) := s0
  clear s0
  obtain ⟨X, hX⟩ : ∃ X, X = spI (PC c) (PA a) k := ⟨_, rfl⟩
  rw [← hX]
  rw [spI_in _ _ _ hk] at hX
  have hk2 : (k : Int) < 16 := by omega
  have hn0 : ¬ (k : Int) < 0 := by omega
  have hn1 : ¬ (15 : Int) < k := by omega
  have HK : Hid (∀ W, Calls Tryz.prog 168 #[.agg (pc (PC c) (PA a)), .int .i64 k] W fun e w' => e = .returned (.int .i64 3) ∧ Below W.heap.size W w') := fun W => by
    have := rkind_c (PC c) (PA a) k hk W
    rw [hq] at this
    exact this
  have e9 : X = some (npF (PA a k), npL (PA a k)) := by rw [hX, spn, if_neg (by rw [hq]; decide), if_neg (by rw [hq]; decide), if_pos hq]
  subst e9
  clear hX hq
  have h54 := PA_lt a k
  obtain ⟨x, hx⟩ : ∃ x, x = PA a k := ⟨_, rfl⟩
  rw [← hx] at h54 ⊢
  go_enter Tryz.func160, Tryz.ntmps160
  go_upto_region 1 with fail
  clear hW0
  go_upto_region 2 with (first | (refine wpList_load_rowG (by rfl) _ _ (by rfl) _ (by rfl) 28 _ (0, 0) _ r0.out Tryz.underlying28 (by rfl) (by rw [pc_size]; kernel_rfl) ?_) | (go_at_call 47; refine (rProper_c c a _).mono ?_; rintro e w1 ⟨rfl, hb1⟩; have HB1 : Hid (Below W0.heap.size W0 w1) := hb1; clear hb1) | (refine wpList_store_row (by rfl) _ _ _ (by rfl) (by rfl) _ _ _ (by rfl) (by rfl) (r0.out.later HB1.out (by rw [HS.out]; omega)) (by rw [pc_size]; kernel_rfl) (by rw [pc_size, pc_size]) (pc_ones _ _) ?_))
  obtain ⟨W2, hW2, r2, b2, s2⟩ := start_p (pc (PC c) (PA a)) r0.out b0.out (by rw [HS.out]; omega) HB1.out
  rw [hW2]
  clear hW2 HB1 r0 b0 HS
  have c1 := prow_addr r2.out k hk
  rw [← hx] at c1
  clear hx
  go_wp2_with (first | (refine wpList_load_rowG (by rfl) _ _ (by rfl) _ (by rfl) 28 _ (0, 0) _ r2.out Tryz.underlying28 (by rfl) (by rw [pc_size]; kernel_rfl) ?_) | (go_at_call 168; refine (HK.out _).mono ?_; rintro e w3 ⟨rfl, hb⟩; have HB3 : Hid (Below w.heap.size w w3) := b2.out.trans (hb.mono (Nat.le_of_lt s2.out)); have R3 := r2.out.later hb s2.out; clear hb R3))
  have HBit : Hid (∀ m, m ≤ on x → bits .and .u64 (n64 x / 2 ^ m) 1 = if m = on x then 0 else 1) := fun m hm => on_bit x h54 m hm
  have hon := (on_rep x h54).2
  go_loopw [9] (fun i wr => ∃ m : Nat, m ≤ on x ∧ i = .int .i64 m ∧ wr = w3) (fun i _ => 54 - (intOf i).toNat)
  case atStart => exact ⟨0, by omega, rfl, rfl⟩
  case round =>
    obtain ⟨m, hm, rfl, rfl⟩ := hrel
    by_cases hlt : m < on x
    · have hb := HBit.out m hm
      rw [if_neg (by omega)] at hb
      have hlt2 : (m : Int) < 54 := by omega
      go_wp2
      go_roundw
      case rel => exact ⟨m + 1, by omega, by go_num, trivial⟩
      case measure => simp [intOf]; omega
    · obtain rfl : m = on x := by omega
      by_cases h9 : on x = 54
      · have e1 : n64 (npF x) = 0 := by unfold npF; rw [if_pos h9]; rfl
        have e2 : n64 (npL x) = 18446744073709551615 := by unfold npL; rw [if_pos h9]; rfl
        have E : Hid (sp3 (some (npF x, npL x)) = .tuple #[.int .u64 0, .int .u64 18446744073709551615, .bool true]) := by unfold Hid sp3; simp [sF, sL, e1, e2]
        rw [h9]
        have e54 : ((54 : Nat) : Int) = 54 := rfl
        rw [e54]
        clear e1 e2 HBit hm hlt
        go_wp2
        go_ret3
        exact ⟨by rw [E.out]; rfl, HB3.out⟩
      · have hb := HBit.out (on x) (Nat.le_refl _)
        rw [if_pos rfl] at hb
        have hlt2 : (on x : Int) < 54 := by omega
        have hne : ((on x : Int) == 54) = false := by
          have : ¬ (on x : Int) = 54 := by omega
          simpa using this
        have HF1 : Hid (IntKind.u64.wrap (IntKind.u64.wrap ((n64 (x <<< 2)).tdiv (zsz (on x))) * zsz (on x)) = n64 (npF x)) := rnp_first x h54 (by omega)
        have HF2 : Hid (IntKind.u64.wrap (n64 (npF x) + IntKind.u64.wrap (zsz (on x) - 1)) = n64 (npL x)) := rnp_last x h54 (by omega)
        have HON : Hid (on x < 54) := by unfold Hid; omega
        clear HBit hm hlt h9
        have hzz : zsz 0 = 8 := rfl
        go_wp2
        rw [← hzz]
        have HR : Hid (wr = wr) := rfl
        go_loopw [10, 11] (fun z i wr' => ∃ m : Nat, m ≤ on x ∧ i = .int .i64 m ∧ z = .int .u64 (zsz m) ∧ wr' = wr) (fun _ i _ => 54 - (intOf i).toNat)
        case atStart => exact ⟨0, by omega, rfl, rfl, rfl⟩
        case round =>
          obtain ⟨m, hm, rfl, rfl, rfl⟩ := hrel
          by_cases hlt : m < on x
          · have hlt3 : (m : Int) < (on x : Int) := by omega
            have HZ : Hid (IntKind.u64.wrap (2 * zsz m) = zsz (m + 1)) := zsz_step m (by have := HON.out; omega)
            go_wp2
            go_roundw
            case rel => exact ⟨m + 1, by omega, by go_num, by rw [HZ.out], trivial⟩
            case measure => have := HON.out; simp [intOf]; omega
          · obtain rfl : m = on x := by omega
            have hzp := zsz_pos (on x)
            have hz0 : ¬ zsz (on x) = 0 := by omega
            have hz1 : (zsz (on x) == 0) = false := by simpa using hz0
            have m1 := four_mul x
            clear hlt hm hzz
            go_wp2
            go_ret3
            refine ⟨?_, HB3.out⟩
            have q1 := HF1.out
            have q2 := HF2.out
            simp_all [sp3, sF, sL]
theorem rSpan_c (c : Nat → BitVec 8) (a : Nat → BitVec 64) (i : Int) (w : World) :
    Calls Tryz.prog 160 #[.agg (pc c a), .int .i64 i] w fun e w' => e = .returned (sp3 (spI (PC c) (PA a) i)) ∧ Below w.heap.size w w' := by
  by_cases h : 0 ≤ i ∧ i < 16
  · obtain ⟨k, rfl⟩ : ∃ k : Nat, i = k := ⟨i.toNat, by omega⟩
    have hk : k < 16 := by omega
    rcases kd_cases (PC c k) with hq | hq | hq | hq
    · exact rSpan_0 c a k hk hq w
    · exact rSpan_1 c a k hk hq w
    · exact rSpan_2 c a k hk hq w
    · exact rSpan_3 c a k hk hq w
  · exact rSpan_out c a i h w
end Go.Proofs.YtidfndgedopghaaGreatDoor
namespace Go.Proofs.YtidfndgedopghaaGreatDoor
set_option linter.unusedVariables false
open Go.ChangeShapes Go.WideShapes Go.ChangeAt Go.RowKit Go.Deep
/-- Whether a range has a byte; how many of an access's first k bytes it has. -/
def inR (f l x : BitVec 64) : Bool := decide (n64 f ≤ n64 x) && decide (n64 x ≤ n64 l)
def hcn (f l ad : BitVec 64) : Nat → Nat
  | 0 => 0
  | k + 1 => hcn f l ad k + (if inR f l (ad + BitVec.ofNat 64 k) = true then 1 else 0)
theorem hcn_le (f l ad : BitVec 64) : ∀ k, hcn f l ad k ≤ k
  | 0 => Nat.le_refl _
  | k + 1 => by have := hcn_le f l ad k; rw [hcn]; split <;> omega
theorem ad_add (ad : BitVec 64) (k : Nat) (hk : k < 8) : IntKind.u64.wrap (n64 ad + (k : Int)) = n64 (ad + BitVec.ofNat 64 k) := by
  have e : (k : Int) = n64 (BitVec.ofNat 64 k) := by
    unfold n64; rw [BitVec.toNat_ofNat, Nat.mod_eq_of_lt (by omega)]
  rw [e, n64_add]
/-- How many bytes of an access an entry has. -/
def hn (c : Nat → BitVec 8) (a : Nat → BitVec 64) (ad : BitVec 64) (s : Nat) (k : Nat) : Nat := match spn c a k with | none => 0 | some (f, l) => hcn f l ad s
/-- The first entry from i on, of n, that has one. -/
def mtF (h : Nat → Nat) (s : Nat) : Nat → Nat → Int × Bool
  | 0, _ => (-1, false)
  | n + 1, i => if 0 < h i then ((i : Int), (h i : Int) == (s : Int)) else mtF h s n (i + 1)
def MT (h : Nat → Nat) (s : Nat) : Int × Bool := mtF h s 16 0
set_option maxRecDepth 100000 in
set_option maxHeartbeats 2000000 in
theorem held_c (f l ad : BitVec 64) (s : Nat) (hs : s ≤ 8) (w : World) :
    Calls Tryz.prog 133 #[.agg #[.int .u64 (n64 f), .int .u64 (n64 l)], .int .u64 (n64 ad), .int .i64 s] w fun e w' => e = .returned (.int .i64 (hcn f l ad s : Nat)) ∧ Below w.heap.size w w' := by
  obtain ⟨W0, hW0, r0, b0, s0⟩ := start1 w #[Value.int .u64 (n64 f), .int .u64 (n64 l)] 118
  clear s0
  have c0 : W0.cell? ⟨w.heap.size, 0, none⟩ = some (.int .u64 (n64 f)) := r0.out.cell 0
  have c1 : W0.cell? ⟨w.heap.size, 1, none⟩ = some (.int .u64 (n64 l)) := r0.out.cell 1
  have hs2 : (s : Int) ≤ 8 := by omega
  go_enter Tryz.func133, Tryz.ntmps133
  go_wp2
  clear hW0 r0
  go_loopw [7, 11] (fun n i wr => ∃ k : Nat, k ≤ s ∧ i = .int .i64 k ∧ n = .int .i64 (hcn f l ad k : Nat) ∧ wr = W0) (fun _ i _ => s - (intOf i).toNat)
  case atStart => exact ⟨0, by omega, rfl, rfl, rfl⟩
  case round =>
    obtain ⟨k, hk, rfl, rfl, rfl⟩ := hrel
    by_cases hlt : k < s
    · have hlt2 : (k : Int) < s := by omega
      have HA := ad_add ad k (by omega)
      have hle := hcn_le f l ad k
      have HC : Hid (hcn f l ad (k + 1) = hcn f l ad k + (if inR f l (ad + BitVec.ofNat 64 k) = true then 1 else 0)) := rfl
      generalize hcn f l ad k = q at HC hle ⊢
      generalize ad + BitVec.ofNat 64 k = x at HA HC
      have hq : (q : Int) ≤ 8 := by omega
      by_cases h1 : n64 f ≤ n64 x
      · by_cases h2 : n64 x ≤ n64 l
        · have h3 : hcn f l ad (k + 1) = q + 1 := by rw [HC.out, if_pos (by simp [inR, h1, h2])]
          have H3 : Hid (hcn f l ad (k + 1) = q + 1) := h3
          clear HC h3
          go_wp2
          go_roundw
          case rel => exact ⟨k + 1, by omega, by go_num, by rw [H3.out]; go_num, trivial⟩
          case measure => simp [intOf]; omega
        · have h3 : hcn f l ad (k + 1) = q := by rw [HC.out, if_neg (by simp [inR, h2])]; rfl
          have H3 : Hid (hcn f l ad (k + 1) = q) := h3
          clear HC h3
          go_wp2
          go_roundw
          case rel => exact ⟨k + 1, by omega, by go_num, by rw [H3.out], trivial⟩
          case measure => simp [intOf]; omega
      · have h3 : hcn f l ad (k + 1) = q := by rw [HC.out, if_neg (by simp [inR, h1])]; rfl
        have H3 : Hid (hcn f l ad (k + 1) = q) := h3
        clear HC h3
        go_wp2
        go_roundw
        case rel => exact ⟨k + 1, by omega, by go_num, by rw [H3.out], trivial⟩
        case measure => simp [intOf]; omega
    · obtain rfl : k = s := by omega
      go_wp2
      go_ret
      exact ⟨rfl, b0.out⟩
theorem mtF_hit (h : Nat → Nat) (s n i : Nat) (hi : 0 < h i) : mtF h s (n + 1) i = ((i : Int), (h i : Int) == (s : Int)) := by rw [mtF, if_pos hi]
theorem mtF_miss (h : Nat → Nat) (s n i : Nat) (hi : ¬ 0 < h i) : mtF h s (n + 1) i = mtF h s n (i + 1) := by rw [mtF, if_neg hi]
set_option maxRecDepth 100000 in
set_option maxHeartbeats 2000000 in
theorem match_c (c : Nat → BitVec 8) (a : Nat → BitVec 64) (hA : ∀ j, (a j).toNat < 2 ^ 54) (ad : BitVec 64) (s : Nat) (hs : s ≤ 8) (g : Nat) (w : World) (hT : Tb w) (hg : Row w g (ec c a) 89) :
    Calls Tryz.prog 54 #[.pointer (some ⟨g, 0, none⟩), .int .u64 (n64 ad), .int .i64 s] w fun e w' => e = .returned (.tuple #[.int .i64 (MT (hn c a ad s) s).1, .bool (MT (hn c a ad s) s).2]) ∧ Below w.heap.size w w' := by
  have hlg := hg.lt
  have HG : Hid (Row w g (ec c a) 89) := hg
  have HT : Hid (Tb w) := hT
  have HSp : Hid (∀ (k : Nat), k < 16 → ∀ W, Tb W → Row W g (ec c a) 89 → Calls Tryz.prog 132 #[.pointer (some ⟨g, 0, none⟩), .int .i64 k] W fun e w' => e = .returned (.tuple #[.agg #[.int .u64 (n64 (sF (spn c a k))), .int .u64 (n64 (sL (spn c a k)))], .bool (spn c a k).isSome]) ∧ Below W.heap.size W w') := fun k hk W h1 h2 => espan_c c a hA g k hk W h1 h2
  obtain ⟨m1, hm1⟩ : ∃ m1, m1 = (MT (hn c a ad s) s).1 := ⟨_, rfl⟩
  obtain ⟨m2, hm2⟩ : ∃ m2, m2 = (MT (hn c a ad s) s).2 := ⟨_, rfl⟩
  rw [← hm1, ← hm2]
  have HM : Hid (mtF (hn c a ad s) s 16 0 = (m1, m2)) := by unfold Hid; rw [hm1, hm2]; rfl
  clear hm1 hm2 hg hT hA
  go_enter Tryz.func54, Tryz.ntmps54
  go_wp2
  go_loopw [12] (fun i wr => ∃ k : Nat, k ≤ 16 ∧ i = .int .i64 k ∧ Hid (mtF (hn c a ad s) s (16 - k) k = (m1, m2)) ∧ Hid (Row wr g (ec c a) 89) ∧ Hid (Tb wr) ∧ Hid (Below w.heap.size w wr)) (fun i _ => 16 - (intOf i).toNat)
  case atStart => exact ⟨0, by omega, rfl, HM, HG, HT, Below.refl _ _⟩
  case round =>
    clear HM HG HT
    obtain ⟨k, hk, rfl, hm, h0, h1, hb⟩ := hrel
    by_cases hlt : k < 16
    · have hlt2 : (k : Int) < 16 := by omega
      obtain ⟨n, hn1⟩ : ∃ n, 16 - k = n + 1 := ⟨15 - k, by omega⟩
      have HN : Hid (16 - (k + 1) = n) := by unfold Hid; omega
      rw [hn1] at hm
      have hlw := h0.out.lt
      have hS := HSp.out k hlt wr h1.out h0.out
      have HH : Hid (hn c a ad s k = match spn c a k with | none => 0 | some (f, l) => hcn f l ad s) := rfl
      cases hX : spn c a k with
      | none =>
        rw [hX] at hS HH
        have hmiss := hm.out
        rw [mtF_miss _ _ _ _ (by rw [HH.out]; simp), ← HN.out] at hmiss
        have HMs : Hid (mtF (hn c a ad s) s (16 - (k + 1)) (k + 1) = (m1, m2)) := hmiss
        have HSS : Hid (Calls Tryz.prog 132 #[.pointer (some ⟨g, 0, none⟩), .int .i64 k] wr fun e w' => e = .returned (.tuple #[.agg #[.int .u64 0, .int .u64 0], .bool false]) ∧ Below wr.heap.size wr w') := hS
        clear hmiss hX hS HH hn1 hm
        go_wp2_with (go_at_call 132; refine HSS.out.mono ?_; rintro e w1 ⟨rfl, hb1⟩; have HB1 : Hid (Below wr.heap.size wr w1) := hb1; clear hb1)
        go_roundw
        case rel => exact ⟨k + 1, by omega, by go_num, HMs, (h0.out.later HB1.out hlw).old (Nat.lt_of_lt_of_le hlw HB1.out.size) _, (h1.out.next HB1.out).alloc _, (hb.out.trans (HB1.out.mono hb.out.size)).alloc (Nat.le_trans hb.out.size HB1.out.size) _⟩
        case measure => simp [intOf]; omega
      | some fl =>
        obtain ⟨f, l⟩ := fl
        rw [hX] at hS HH
        have HSS : Hid (Calls Tryz.prog 132 #[.pointer (some ⟨g, 0, none⟩), .int .i64 k] wr fun e w' => e = .returned (.tuple #[.agg #[.int .u64 (n64 f), .int .u64 (n64 l)], .bool true]) ∧ Below wr.heap.size wr w') := hS
        have HHd : Hid (∀ W, Calls Tryz.prog 133 #[.agg #[.int .u64 (n64 f), .int .u64 (n64 l)], .int .u64 (n64 ad), .int .i64 s] W fun e w' => e = .returned (.int .i64 (hn c a ad s k : Nat)) ∧ Below W.heap.size W w') := fun W => by
          rw [HH.out]
          exact held_c f l ad s hs W
        clear hX hS HH
        obtain ⟨q, hq⟩ : ∃ q, q = hn c a ad s k := ⟨_, rfl⟩
        rw [← hq] at HHd
        by_cases hpos : 0 < q
        · have hhit := hm.out
          rw [mtF_hit _ _ _ _ (by rw [← hq]; exact hpos), ← hq] at hhit
          simp only [Prod.mk.injEq] at hhit
          obtain ⟨z1, z2⟩ := hhit
          have Z1 : Hid ((k : Int) = m1) := z1
          have Z2 : Hid (((q : Int) == (s : Int)) = m2) := z2
          have hpos2 : (0 : Int) < q := by omega
          clear z1 z2 hq hm hn1
          go_wp2_with (first | (go_at_call 132; refine HSS.out.mono ?_; rintro e w1 ⟨rfl, hb1⟩; have HB1 : Hid (Below w.heap.size w w1) := hb.out.trans (hb1.mono hb.out.size); clear hb1) | (go_at_call 133; refine (HHd.out _).mono ?_; rintro e w2 ⟨rfl, hb2⟩; have HB2 : Hid (Below w.heap.size w w2) := (HB1.out.alloc HB1.out.size _).trans (hb2.mono (Nat.le_trans HB1.out.size (by simp))); clear hb2))
          go_ret2
          refine ⟨?_, HB2.out⟩
          have y1 := Z1.out
          have y2 := Z2.out
          simp_all
        · have hmiss := hm.out
          rw [mtF_miss _ _ _ _ (by rw [← hq]; exact hpos), ← HN.out] at hmiss
          have HMs : Hid (mtF (hn c a ad s) s (16 - (k + 1)) (k + 1) = (m1, m2)) := hmiss
          obtain rfl : q = 0 := by omega
          have hz : ((0 : Nat) : Int) = 0 := rfl
          rw [hz] at HHd
          clear hmiss hq hm hn1 hpos hz
          go_wp2_with (first | (go_at_call 132; refine HSS.out.mono ?_; rintro e w1 ⟨rfl, hb1⟩; have HB1 : Hid (Below wr.heap.size wr w1) := hb1; clear hb1) | (go_at_call 133; refine (HHd.out _).mono ?_; rintro e w2 ⟨rfl, hb2⟩; have HB2 : Hid (Below wr.heap.size wr w2) := (HB1.out.alloc HB1.out.size _).trans (hb2.mono (Nat.le_trans HB1.out.size (by simp))); clear hb2))
          go_roundw
          case rel => exact ⟨k + 1, by omega, by go_num, HMs, h0.out.later HB2.out hlw, h1.out.next HB2.out, hb.out.trans (HB2.out.mono hb.out.size)⟩
          case measure => simp [intOf]; omega
    · obtain rfl : k = 16 := by omega
      have e16 : ((16 : Nat) : Int) = 16 := rfl
      rw [e16]
      have hq := hm.out
      simp only [Nat.sub_self, mtF, Prod.mk.injEq] at hq
      obtain ⟨z1, z2⟩ := hq
      clear hm hk hlt e16
      subst z1
      subst z2
      go_wp2
      go_ret2
      exact ⟨rfl, hb.out⟩
/-- Match's answer. -/
def mA (c : Nat → BitVec 8) (a : Nat → BitVec 64) (ad : BitVec 64) (i : Int) : Int × Bool := if 1 ≤ i ∧ i ≤ 8 then MT (hn c a ad i.toNat) i.toNat else (-1, false)
theorem mA_in (c : Nat → BitVec 8) (a : Nat → BitVec 64) (ad : BitVec 64) (s : Nat) (h1 : 1 ≤ s) (h8 : s ≤ 8) : mA c a ad s = MT (hn c a ad s) s := by unfold mA; rw [if_pos (by omega)]; rfl
theorem mA_out (c : Nat → BitVec 8) (a : Nat → BitVec 64) (ad : BitVec 64) (i : Int) (h : ¬ (1 ≤ i ∧ i ≤ 8)) : mA c a ad i = (-1, false) := by unfold mA; rw [if_neg h]
def mtV (p : Int × Bool) : Value := .tuple #[.int .i64 p.1, .bool p.2]
end Go.Proofs.YtidfndgedopghaaGreatDoor
namespace Go.Proofs.YtidfndgedopghaaGreatDoor
set_option linter.unusedVariables false
open Go.ChangeShapes Go.WideShapes Go.ChangeAt Go.RowKit Go.Deep
/-- Whether an entry has a byte. -/
def hdB (c : Nat → BitVec 8) (a : Nat → BitVec 64) (k : Nat) (x : BitVec 64) : Bool := match spn c a k with | none => false | some (f, l) => inR f l x
theorem hn_zero (c : Nat → BitVec 8) (a : Nat → BitVec 64) (ad : BitVec 64) (k : Nat) : hn c a ad 0 k = 0 := by unfold hn; split <;> rfl
theorem hn_succ (c : Nat → BitVec 8) (a : Nat → BitVec 64) (ad : BitVec 64) (j k : Nat) : hn c a ad (j + 1) k = hn c a ad j k + (if hdB c a k (ad + BitVec.ofNat 64 j) = true then 1 else 0) := by
  unfold hn hdB
  cases spn c a k with
  | none => rfl
  | some fl => rfl
theorem hn_le (c : Nat → BitVec 8) (a : Nat → BitVec 64) (ad : BitVec 64) (j k : Nat) : hn c a ad j k ≤ j := by
  unfold hn; split
  · omega
  · exact hcn_le _ _ _ _
set_option maxRecDepth 100000 in
set_option maxHeartbeats 2000000 in
theorem rHolds_c (c : Nat → BitVec 8) (a : Nat → BitVec 64) (k : Nat) (hk : k < 16) (x : BitVec 64) (w : World) :
    Calls Tryz.prog 134 #[.agg (pc c a), .int .i64 k, .int .u64 (n64 x)] w fun e w' => e = .returned (.bool (hdB (PC c) (PA a) k x)) ∧ Below w.heap.size w w' := by
  obtain ⟨W0, hW0, r0, b0, s0⟩ := start1 w (pc c a) 28
  have HS : Hid (W0.heap.size = w.heap.size + 1) := s0
  clear s0
  have hB := rSpan_c c a k
  rw [spI_in _ _ _ hk] at hB
  have HH : Hid (hdB (PC c) (PA a) k x = match spn (PC c) (PA a) k with | none => false | some (f, l) => inR f l x) := rfl
  obtain ⟨q, hq⟩ : ∃ q, q = hdB (PC c) (PA a) k x := ⟨_, rfl⟩
  rw [← hq] at HH ⊢
  clear hq
  cases hX : spn (PC c) (PA a) k with
  | none =>
    rw [hX] at hB HH
    have HB : Hid (∀ W : World, Calls Tryz.prog 160 #[.agg (pc c a), .int .i64 k] W fun e w' => e = .returned (.tuple #[.int .u64 0, .int .u64 0, .bool false]) ∧ Below W.heap.size W w') := hB
    have e9 : q = false := HH.out
    subst e9
    clear hB hX HH
    go_enter Tryz.func134, Tryz.ntmps134
    go_upto_region 1 with fail
    clear hW0
    go_wp2_with (first | (refine wpList_load_rowG (by rfl) _ _ (by rfl) _ (by rfl) 28 _ (0, 0) _ r0.out Tryz.underlying28 (by rfl) (by rw [pc_size]; kernel_rfl) ?_) | (go_at_call 160; refine (HB.out _).mono ?_; rintro e w1 ⟨rfl, hb⟩; have HB1 : Hid (Below W0.heap.size W0 w1) := hb; clear hb))
    go_ret
    exact ⟨rfl, b0.out.trans (HB1.out.mono (by rw [HS.out]; omega))⟩
  | some fl =>
    obtain ⟨f, l⟩ := fl
    rw [hX] at hB HH
    have HB : Hid (∀ W : World, Calls Tryz.prog 160 #[.agg (pc c a), .int .i64 k] W fun e w' => e = .returned (.tuple #[.int .u64 (n64 f), .int .u64 (n64 l), .bool true]) ∧ Below W.heap.size W w') := hB
    have HQ : Hid (q = (decide (n64 f ≤ n64 x) && decide (n64 x ≤ n64 l))) := HH
    clear hB hX HH
    by_cases h1 : n64 f ≤ n64 x
    · go_enter Tryz.func134, Tryz.ntmps134
      go_upto_region 1 with fail
      clear hW0
      go_wp2_with (first | (refine wpList_load_rowG (by rfl) _ _ (by rfl) _ (by rfl) 28 _ (0, 0) _ r0.out Tryz.underlying28 (by rfl) (by rw [pc_size]; kernel_rfl) ?_) | (go_at_call 160; refine (HB.out _).mono ?_; rintro e w1 ⟨rfl, hb⟩; have HB1 : Hid (Below W0.heap.size W0 w1) := hb; clear hb))
      go_ret
      exact ⟨by rw [HQ.out, decide_eq_true h1, Bool.true_and]; first | done | rfl, b0.out.trans (HB1.out.mono (by rw [HS.out]; omega))⟩
    · go_enter Tryz.func134, Tryz.ntmps134
      go_upto_region 1 with fail
      clear hW0
      go_wp2_with (first | (refine wpList_load_rowG (by rfl) _ _ (by rfl) _ (by rfl) 28 _ (0, 0) _ r0.out Tryz.underlying28 (by rfl) (by rw [pc_size]; kernel_rfl) ?_) | (go_at_call 160; refine (HB.out _).mono ?_; rintro e w1 ⟨rfl, hb⟩; have HB1 : Hid (Below W0.heap.size W0 w1) := hb; clear hb))
      go_ret
      exact ⟨by rw [HQ.out, decide_eq_false (show ¬ n64 f ≤ n64 x by omega), Bool.false_and]; first | done | rfl, b0.out.trans (HB1.out.mono (by rw [HS.out]; omega))⟩
set_option maxRecDepth 100000 in
set_option maxHeartbeats 2000000 in
theorem rMatch_in (c : Nat → BitVec 8) (a : Nat → BitVec 64) (ad : BitVec 64) (s : Nat) (h1 : 1 ≤ s) (h8 : s ≤ 8) (w : World) :
    Calls Tryz.prog 57 #[.agg (pc c a), .int .u64 (n64 ad), .int .i64 s] w fun e w' => e = .returned (.tuple #[.int .i64 (MT (hn (PC c) (PA a) ad s) s).1, .bool (MT (hn (PC c) (PA a) ad s) s).2]) ∧ Below w.heap.size w w' := by
  obtain ⟨W0, hW0, r0, b0, s0⟩ := start1 w (pc c a) 28
  have HS : Hid (W0.heap.size = w.heap.size + 1) := s0
  clear s0
  have n1 : ¬ (s : Int) < 1 := by omega
  have n8' : ¬ (8 : Int) < s := by omega
  have hs8 : (s : Int) ≤ 8 := by omega
  obtain ⟨m1, hm1⟩ : ∃ m1, m1 = (MT (hn (PC c) (PA a) ad s) s).1 := ⟨_, rfl⟩
  obtain ⟨m2, hm2⟩ : ∃ m2, m2 = (MT (hn (PC c) (PA a) ad s) s).2 := ⟨_, rfl⟩
  rw [← hm1, ← hm2]
  have HM : Hid (mtF (hn (PC c) (PA a) ad s) s 16 0 = (m1, m2)) := by unfold Hid; rw [hm1, hm2]; rfl
  have HHo : Hid (∀ (k : Nat), k < 16 → ∀ (x : BitVec 64) W, Calls Tryz.prog 134 #[.agg (pc c a), .int .i64 k, .int .u64 (n64 x)] W fun e w' => e = .returned (.bool (hdB (PC c) (PA a) k x)) ∧ Below W.heap.size W w') := fun k hk x W => rHolds_c c a k hk x W
  clear hm1 hm2
  go_enter Tryz.func57, Tryz.ntmps57
  go_wp2
  clear hW0
  go_loopw [8] (fun i wr => ∃ k : Nat, k ≤ 16 ∧ i = .int .i64 k ∧ Hid (mtF (hn (PC c) (PA a) ad s) s (16 - k) k = (m1, m2)) ∧ Hid (Row wr w.heap.size (pc c a) 28) ∧ Hid (Below w.heap.size w wr)) (fun i _ => 16 - (intOf i).toNat)
  case atStart => exact ⟨0, by omega, rfl, HM, r0, b0⟩
  case round =>
    clear HM r0 b0 HS
    obtain ⟨k, hk, rfl, hm, h0, hb⟩ := hrel
    by_cases hlt : k < 16
    · have hlt2 : (k : Int) < 16 := by omega
      obtain ⟨n, hn1⟩ : ∃ n, 16 - k = n + 1 := ⟨15 - k, by omega⟩
      have HN : Hid (16 - (k + 1) = n) := by unfold Hid; omega
      rw [hn1] at hm
      have HZ : Hid (hn (PC c) (PA a) ad 0 k = 0) := hn_zero _ _ _ _
      clear hn1
      go_wp2
      go_loopw [9, 10] (fun q i wq => ∃ j : Nat, j ≤ s ∧ i = .int .i64 j ∧ q = .int .i64 (hn (PC c) (PA a) ad j k : Nat) ∧ Hid (Row wq w.heap.size (pc c a) 28) ∧ Hid (Below w.heap.size w wq)) (fun _ i _ => s - (intOf i).toNat)
      case atStart => exact ⟨0, by omega, rfl, by rw [HZ.out]; rfl, h0, hb⟩
      case round =>
        clear h0 hb
        obtain ⟨j, hj, rfl, rfl, g0, gb⟩ := hrel
        by_cases hjl : j < s
        · have hjl2 : (j : Int) < s := by omega
          have HA := ad_add ad j (by omega)
          have HC : Hid (hn (PC c) (PA a) ad (j + 1) k = hn (PC c) (PA a) ad j k + (if hdB (PC c) (PA a) k (ad + BitVec.ofNat 64 j) = true then 1 else 0)) := hn_succ _ _ _ _ _
          have hle := hn_le (PC c) (PA a) ad j k
          have hcall := fun W => HHo.out k hlt (ad + BitVec.ofNat 64 j) W
          generalize hn (PC c) (PA a) ad j k = q at HC hle ⊢
          generalize ad + BitVec.ofNat 64 j = x at HA HC hcall
          have hq8 : (q : Int) ≤ 8 := by omega
          have glt := g0.out.lt
          cases hv : hdB (PC c) (PA a) k x with
          | true =>
            rw [hv] at HC hcall
            have H3 : Hid (hn (PC c) (PA a) ad (j + 1) k = q + 1) := HC
            have HCL : Hid (∀ W, Calls Tryz.prog 134 #[.agg (pc c a), .int .i64 k, .int .u64 (n64 x)] W fun e w' => e = .returned (.bool true) ∧ Below W.heap.size W w') := hcall
            clear HC hcall hv
            go_wp2_with (first | (refine wpList_load_rowG (by rfl) _ _ (by rfl) _ (by rfl) 28 _ (0, 0) _ g0.out Tryz.underlying28 (by rfl) (by rw [pc_size]; kernel_rfl) ?_) | (go_at_call 134; refine (HCL.out _).mono ?_; rintro e w3 ⟨rfl, hb3⟩; have HB3 : Hid (Below wr.heap.size wr w3) := hb3; clear hb3))
            go_roundw
            case rel => exact ⟨j + 1, by omega, by go_num, by rw [H3.out]; go_num, g0.out.later HB3.out glt, gb.out.trans (HB3.out.mono gb.out.size)⟩
            case measure => simp [intOf]; omega
          | false =>
            rw [hv] at HC hcall
            have H3 : Hid (hn (PC c) (PA a) ad (j + 1) k = q) := HC
            have HCL : Hid (∀ W, Calls Tryz.prog 134 #[.agg (pc c a), .int .i64 k, .int .u64 (n64 x)] W fun e w' => e = .returned (.bool false) ∧ Below W.heap.size W w') := hcall
            clear HC hcall hv
            go_wp2_with (first | (refine wpList_load_rowG (by rfl) _ _ (by rfl) _ (by rfl) 28 _ (0, 0) _ g0.out Tryz.underlying28 (by rfl) (by rw [pc_size]; kernel_rfl) ?_) | (go_at_call 134; refine (HCL.out _).mono ?_; rintro e w3 ⟨rfl, hb3⟩; have HB3 : Hid (Below wr.heap.size wr w3) := hb3; clear hb3))
            go_roundw
            case rel => exact ⟨j + 1, by omega, by go_num, by rw [H3.out], g0.out.later HB3.out glt, gb.out.trans (HB3.out.mono gb.out.size)⟩
            case measure => simp [intOf]; omega
        · obtain rfl : j = s := by omega
          obtain ⟨q, hq⟩ : ∃ q, q = hn (PC c) (PA a) ad j k := ⟨_, rfl⟩
          rw [← hq]
          by_cases hpos : 0 < q
          · have hhit := hm.out
            rw [mtF_hit _ _ _ _ (by rw [← hq]; exact hpos), ← hq] at hhit
            simp only [Prod.mk.injEq] at hhit
            obtain ⟨z1, z2⟩ := hhit
            have Z1 : Hid ((k : Int) = m1) := z1
            have Z2 : Hid (((q : Int) == (j : Int)) = m2) := z2
            have hpos2 : (0 : Int) < q := by omega
            clear z1 z2 hq hm
            go_wp2
            go_ret2
            refine ⟨?_, gb.out⟩
            have y1 := Z1.out
            have y2 := Z2.out
            simp_all
          · have hmiss := hm.out
            rw [mtF_miss _ _ _ _ (by rw [← hq]; exact hpos), ← HN.out] at hmiss
            have HMs : Hid (mtF (hn (PC c) (PA a) ad j) j (16 - (k + 1)) (k + 1) = (m1, m2)) := hmiss
            obtain rfl : q = 0 := by omega
            have hz : ((0 : Nat) : Int) = 0 := rfl
            rw [hz]
            clear hmiss hq hm hpos hz
            go_wp2
            go_roundw
            case rel => exact ⟨k + 1, by omega, by go_num, HMs, g0, gb⟩
            case measure => simp [intOf]; omega
    · obtain rfl : k = 16 := by omega
      have e16 : ((16 : Nat) : Int) = 16 := rfl
      rw [e16]
      have hq := hm.out
      simp only [Nat.sub_self, mtF, Prod.mk.injEq] at hq
      obtain ⟨z1, z2⟩ := hq
      clear hm hk hlt e16
      subst z1
      subst z2
      go_wp2
      go_ret2
      exact ⟨rfl, hb.out⟩
set_option maxRecDepth 100000 in
set_option maxHeartbeats 2000000 in
theorem rMatch_c (c : Nat → BitVec 8) (a : Nat → BitVec 64) (ad : BitVec 64) (i : Int) (w : World) :
    Calls Tryz.prog 57 #[.agg (pc c a), .int .u64 (n64 ad), .int .i64 i] w fun e w' => e = .returned (mtV (mA (PC c) (PA a) ad i)) ∧ Below w.heap.size w w' := by
  by_cases h : 1 ≤ i ∧ i ≤ 8
  · obtain ⟨s, rfl⟩ : ∃ s : Nat, i = s := ⟨i.toNat, by omega⟩
    rw [mA_in _ _ _ _ (by omega) (by omega)]
    exact rMatch_in c a ad s (by omega) (by omega) w
  · rw [mA_out _ _ _ _ h]
    obtain ⟨W0, hW0, r0, b0, s0⟩ := start1 w (pc c a) 28
    clear s0
    by_cases h1 : i < 1
    · clear h
      go_enter Tryz.func57, Tryz.ntmps57
      go_wp2
      go_ret2
      exact ⟨rfl, b0.out⟩
    · have h2 : (8 : Int) < i := by omega
      clear h
      go_enter Tryz.func57, Tryz.ntmps57
      go_wp2
      go_ret2
      exact ⟨rfl, b0.out⟩
end Go.Proofs.YtidfndgedopghaaGreatDoor
