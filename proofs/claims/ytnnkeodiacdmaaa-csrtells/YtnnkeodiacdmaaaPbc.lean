/-
  Cfg of the program and of the reference.
-/
import Derived.Test.YtnnkeodiacdmaaaPbm
namespace Go.Proofs.Ytnnkeodiacdmaaa
set_option linter.unusedVariables false
open Go.ChangeShapes Go.WideShapes Go.ChangeAt Go.RowKit Go.Deep
/-- The number of the first k bytes, the lowest first. -/
def VF (x : Nat → Nat) : Nat → Nat
  | 0 => 0
  | k + 1 => VF x k + x k * 256 ^ k
/-- The number of the k bytes from the eighth downwards. -/
def VR (x : Nat → Nat) : Nat → Nat
  | 0 => 0
  | m + 1 => VR x m * 256 + x (7 - m)
theorem VF_lt (x : Nat → Nat) (hx : ∀ j, x j < 256) : ∀ k, VF x k < 256 ^ k
  | 0 => by simp [VF]
  | k + 1 => by
    have := VF_lt x hx k
    have h := hx k
    have h2 : x k * 256 ^ k ≤ 255 * 256 ^ k := Nat.mul_le_mul_right _ (by omega)
    rw [VF, Nat.pow_succ]
    omega
theorem VR_8 (x : Nat → Nat) : VR x 8 = VF x 8 := by simp [VR, VF]; omega
theorem VR_lt (x : Nat → Nat) (hx : ∀ j, x j < 256) : ∀ k, VR x k < 256 ^ k
  | 0 => by simp [VR]
  | k + 1 => by
    have := VR_lt x hx k
    have h := hx (7 - k)
    rw [VR, Nat.pow_succ]
    omega
def cby (c : Nat → BitVec 8) (f : Nat) : Nat → Nat := fun j => (c (f + j)).toNat
theorem cby_lt (c : Nat → BitVec 8) (f j : Nat) : cby c f j < 256 := (c (f + j)).isLt
/-- Eight Cfg bytes as one number. -/
def cfgV (c : Nat → BitVec 8) (f : Nat) : Int := ((VF (cby c f) 8 : Nat) : Int)
theorem or_byte (x : Nat → Nat) (hx : ∀ j, x j < 256) (k : Nat) (hk : k < 8) : bits .or .u64 ((VF x k : Nat) : Int) (IntKind.u64.wrap (((x k : Nat) : Int) * 2 ^ (8 * k))) = ((VF x (k + 1) : Nat) : Int) := by
  have h1 := VF_lt x hx k
  have hp : (256 : Nat) ^ k = 2 ^ (8 * k) := by rw [show (256 : Nat) = 2 ^ 8 from rfl, ← Nat.pow_mul]
  have h2 : x k * 256 ^ k ≤ 255 * 256 ^ k := Nat.mul_le_mul_right _ (by have := hx k; omega)
  have h3 : 256 * 256 ^ k ≤ 18446744073709551616 := by
    rw [show 256 * 256 ^ k = 256 ^ (k + 1) by rw [Nat.pow_succ, Nat.mul_comm]]
    exact Nat.le_trans (Nat.pow_le_pow_right (by omega) (show k + 1 ≤ 8 by omega)) (by decide)
  have e1 : IntKind.u64.wrap (((x k : Nat) : Int) * 2 ^ (8 * k)) = ((x k * 256 ^ k : Nat) : Int) := by
    rw [hp] at h2 h3 ⊢
    rw [show (((x k : Nat) : Int) * 2 ^ (8 * k)) = ((x k * 2 ^ (8 * k) : Nat) : Int) by push_cast; rfl, IntKind.wrap_u64]
    omega
  rw [e1]
  have e2 : bits .or .u64 ((VF x k : Nat) : Int) ((x k * 256 ^ k : Nat) : Int) = ((VF x k ||| x k * 256 ^ k : Nat) : Int) := by
    have a1 : ((VF x k : Nat) : Int) = n64 (BitVec.ofNat 64 (VF x k)) := by unfold n64; rw [BitVec.toNat_ofNat, Nat.mod_eq_of_lt (by omega)]
    have a2 : ((x k * 256 ^ k : Nat) : Int) = n64 (BitVec.ofNat 64 (x k * 256 ^ k)) := by unfold n64; rw [BitVec.toNat_ofNat, Nat.mod_eq_of_lt (by omega)]
    rw [a1, a2, n64_or]
    unfold n64
    rw [BitVec.toNat_or, BitVec.toNat_ofNat, BitVec.toNat_ofNat, Nat.mod_eq_of_lt (by omega), Nat.mod_eq_of_lt (by omega)]
  rw [e2, VF]
  congr 1
  rw [hp] at h1 ⊢
  have := Nat.two_pow_add_eq_or_of_lt h1 (x k)
  rw [Nat.or_comm, Nat.mul_comm (x k), ← this, Nat.add_comm]
set_option maxRecDepth 100000 in
set_option maxHeartbeats 1000000 in
theorem Cfg_none (c : Nat → BitVec 8) (a : Nat → BitVec 64) (i : Int) (h0 : ¬ i = 0) (h2 : ¬ i = 2) (w : World) :
    Calls Try.prog 56 #[.agg (pc c a), .int .i64 i] w fun e w' => e = .returned (.int .u64 0) ∧ Below w.heap.size w w' := by
  obtain ⟨W0, hW0, r0, b0, s0⟩ := start1 w (pc c a) 27
  clear s0
  have HF : Hid (∀ W, Calls Try.prog 59 #[.int .i64 i] W fun e w' => e = .returned (.tuple #[.int .i64 0, .bool false]) ∧ w' = W) := fun W => firstOf_n i h0 h2 W
  clear h0 h2
  go_enter Try.func56, Try.ntmps56
  go_wp2_with (go_at_call 59; refine (HF.out _).mono ?_; rintro e w1 ⟨rfl, hw⟩; have hw2 := hw.symm; subst hw2)
  go_ret
  exact ⟨rfl, b0.out⟩
set_option maxRecDepth 100000 in
set_option maxHeartbeats 1000000 in
theorem Cfg_at (c : Nat → BitVec 8) (a : Nat → BitVec 64) (i : Int) (f : Nat) (hf : f ≤ 8) (hF : ∀ W, Calls Try.prog 59 #[.int .i64 i] W fun e w' => e = .returned (.tuple #[.int .i64 f, .bool true]) ∧ w' = W) (w : World) :
    Calls Try.prog 56 #[.agg (pc c a), .int .i64 i] w fun e w' => e = .returned (.int .u64 (cfgV (PC c) f)) ∧ Below w.heap.size w w' := by
  obtain ⟨W0, hW0, r0, b0, s0⟩ := start1 w (pc c a) 27
  have HS : Hid (W0.heap.size = w.heap.size + 1) := s0
  clear s0
  have HF : Hid (∀ W, Calls Try.prog 59 #[.int .i64 i] W fun e w' => e = .returned (.tuple #[.int .i64 f, .bool true]) ∧ w' = W) := hF
  clear hF
  go_enter Try.func56, Try.ntmps56
  go_upto_region 1 with fail
  clear hW0
  go_upto_region 6 with (first | (go_at_call 59; refine (HF.out _).mono ?_; rintro e w1 ⟨rfl, hw⟩; have hw2 := hw.symm; subst hw2) | (refine wpList_load_rowG (by rfl) _ _ (by rfl) _ (by rfl) 27 _ (0, 0) _ r0.out Try.underlying27 (by rfl) (by rw [pc_size]; kernel_rfl) ?_) | (go_at_call 28; refine (of_p c a _).mono ?_; rintro e w1 ⟨rfl, hb1⟩; have HB1 : Hid (Below W0.heap.size W0 w1) := hb1; clear hb1) | (refine wpList_store_new (by rfl) _ _ _ (by rfl) (by rfl) _ _ (by rfl) (by rfl) (by rw [ec_size]; kernel_rfl) (by rw [ec_size]; rfl) (ec_ones _ _) ?_))
  obtain ⟨W2, hW2, r2, b2, s2⟩ := start1 w1 (ec (PC c) (PA a)) 71
  rw [hW2]
  have t1 : Below w.heap.size w w1 := b0.out.trans (HB1.out.mono (by rw [HS.out]; omega))
  have b3 : Hid (Below w.heap.size w W2) := t1.trans (b2.out.mono t1.size)
  clear t1 s2 b2 hW2 HB1 r0 b0 HS HF
  generalize w1.heap.size = g at *
  go_wp2
  go_loopw [8, 19] (fun v i wr => ∃ k : Nat, k ≤ 8 ∧ i = .int .i64 k ∧ v = .int .u64 ((VF (cby (PC c) f) k : Nat) : Int) ∧ wr = W2) (fun _ i _ => 8 - (intOf i).toNat)
  case atStart => exact ⟨0, by omega, rfl, rfl, rfl⟩
  case round =>
    obtain ⟨k, hk, rfl, rfl, rfl⟩ := hrel
    by_cases hlt : k < 8
    · have hlt2 : (k : Int) < 8 := by omega
      have c0 := row_cfg r2.out (f + k) (by omega)
      have hf2 : (f : Int) + k < 16 := by omega
      have HO := or_byte (cby (PC c) f) (cby_lt _ _) k hlt
      have HO2 : Hid (bits .or .u64 ((VF (cby (PC c) f) k : Nat) : Int) (IntKind.u64.wrap (n8 (PC c (f + k)) * 2 ^ (8 * k))) = ((VF (cby (PC c) f) (k + 1) : Nat) : Int)) := HO
      clear HO
      generalize ((VF (cby (PC c) f) k : Nat) : Int) = v0 at *
      go_wp2
      go_roundw
      case rel =>
        refine ⟨k + 1, by omega, by go_num, ?_, trivial⟩
        rw [show IntKind.u64.wrap (n8 (PC c (f + k))) = n8 (PC c (f + k)) by rw [IntKind.wrap_u64]; have := n8_lo (PC c (f + k)); have := n8_hi (PC c (f + k)); omega, HO2.out]
      case measure => simp [intOf]; omega
    · obtain rfl : k = 8 := by omega
      have e8 : ((8 : Nat) : Int) = 8 := rfl
      rw [e8]
      clear hk hlt e8
      have hV : ((VF (cby (PC c) f) 8 : Nat) : Int) = cfgV (PC c) f := rfl
      rw [hV]
      clear hV
      go_wp2
      go_ret
      exact ⟨rfl, b3.out⟩
theorem Cfg_0 (c : Nat → BitVec 8) (a : Nat → BitVec 64) (w : World) : Calls Try.prog 56 #[.agg (pc c a), .int .i64 0] w fun e w' => e = .returned (.int .u64 (cfgV (PC c) 0)) ∧ Below w.heap.size w w' :=
  Cfg_at c a 0 0 (by omega) firstOf_0 w
theorem Cfg_2 (c : Nat → BitVec 8) (a : Nat → BitVec 64) (w : World) : Calls Try.prog 56 #[.agg (pc c a), .int .i64 2] w fun e w' => e = .returned (.int .u64 (cfgV (PC c) 8)) ∧ Below w.heap.size w w' :=
  Cfg_at c a 2 8 (by omega) firstOf_2 w
/-- What Cfg answers. -/
def cfgR (c : Nat → BitVec 8) (i : Int) : Int := if i = 0 then cfgV c 0 else if i = 2 then cfgV c 8 else 0
theorem Cfg_c (c : Nat → BitVec 8) (a : Nat → BitVec 64) (i : Int) (w : World) : Calls Try.prog 56 #[.agg (pc c a), .int .i64 i] w fun e w' => e = .returned (.int .u64 (cfgR (PC c) i)) ∧ Below w.heap.size w w' := by
  by_cases h0 : i = 0
  · subst h0; rw [cfgR, if_pos rfl]; exact Cfg_0 c a w
  · by_cases h2 : i = 2
    · subst h2; rw [cfgR, if_neg h0, if_pos rfl]; exact Cfg_2 c a w
    · rw [cfgR, if_neg h0, if_neg h2]; exact Cfg_none c a i h0 h2 w
end Go.Proofs.Ytnnkeodiacdmaaa
