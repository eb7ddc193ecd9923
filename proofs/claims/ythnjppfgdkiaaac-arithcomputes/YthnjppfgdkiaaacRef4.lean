/-
  The reference: Join.
-/
import Derived.Test.YthnjppfgdkiaaacRef2
namespace Go.Proofs.Ythnjppfgdkiaaac
open Go.ChangeShapes Go.WideShapes Go.ChangeAt Go.RowKit

def mk (f : Nat → Int) (n : Nat) : List Int := (List.range n).map f
theorem mk_length (f : Nat → Int) (n : Nat) : (mk f n).length = n := by simp [mk]
theorem mk_succ (f : Nat → Int) (n : Nat) : mk f (n + 1) = mk f n ++ [f n] := by simp [mk, List.range_succ]
theorem mk_bl (N n : Nat) : mk (bt N) n = bl N n := rfl
theorem mk_congr {f g : Nat → Int} {n : Nat} (h : ∀ j, j < n → f j = g j) : mk f n = mk g n := by
  unfold mk; apply List.map_congr_left; intro j hj; exact h j (List.mem_range.1 hj)
theorem bt_lo (N k : Nat) : 0 ≤ bt N k := by unfold bt; omega
theorem bt_hi (N k : Nat) : bt N k ≤ 1 := by unfold bt; omega

def jv (A k : Nat) : BitVec 64 := BitVec.ofNat 64 (A % 2 ^ k)
theorem jv_miss {A k : Nat} (h : bt A k = 0) : jv A (k + 1) = jv A k := by
  unfold jv; rw [Nat.mod_pow_succ]; unfold bt at h
  rw [show A / 2 ^ k % 2 = 0 by omega]; simp
theorem jv_hit {A k : Nat} (h : bt A k = 1) : jv A (k + 1) = jv A k + (1#64 <<< k) := by
  unfold jv; rw [Nat.mod_pow_succ]; unfold bt at h
  rw [show A / 2 ^ k % 2 = 1 by omega, Nat.mul_one, BitVec.ofNat_add]
  congr 1
  apply BitVec.eq_of_toNat_eq
  rw [BitVec.toNat_shiftLeft, Nat.shiftLeft_eq, BitVec.toNat_ofNat]
  show _ = 1 * 2 ^ k % 2 ^ 64
  rw [Nat.one_mul]
theorem one_wrapR (n : Nat) : IntKind.u64.wrap (2 ^ n) = n64 (1#64 <<< n) := by
  have h := n64_shl 1#64 n
  rw [show n64 1#64 = 1 from rfl, Int.one_mul] at h
  exact h

set_option maxHeartbeats 1000000 in
theorem join_any (A n : Nat) (hn : n ≤ 64) (va : Value) (w : World) (la : Lst w va (bl A n)) :
    Calls Try.prog 27 #[va] w fun e w' => e = .returned (.int .u64 (n64 (jv A n))) ∧ w' = w := by
  obtain ⟨g, off, cap, rfl, h1, h2, h3⟩ := la
  rw [bl_length] at h1 h3
  rw [bl_length]
  have rw1 := one_wrapR
  have rw2 := n64_add
  go_enter Try.func27, Try.ntmps27
  go_wp2
  go_loop [3, 4] (fun v i => ∃ k : Nat, k ≤ n ∧ i = .int .i64 k ∧ v = .int .u64 (n64 (jv A k))) (fun _ i => n - (intOf i).toNat)
  case atStart => exact ⟨0, Nat.zero_le _, rfl, by unfold jv; simp [Nat.mod_one]; rfl⟩
  case round =>
    obtain ⟨k, hk, rfl, rfl⟩ := hrel
    by_cases hlt : k < n
    · have ha := h3 k hlt
      rw [bl_get _ _ _ hlt] at ha
      have hl1 : (0 : Int) ≤ (k : Int) := by omega
      have hl2 : (k : Int) < (n : Int) := by omega
      have hl3 : (k : Int) < 64 := by omega
      clear h3
      rcases bt_cases A k with h0 | h0
      · have HJ : Hid (jv A (k + 1) = jv A k) := jv_miss h0
        rw [h0] at ha
        clear h0
        go_wp2
        go_round
        case rel => exact ⟨k + 1, by omega, by go_num, by rw [HJ.out]⟩
        case measure => simp [intOf]; omega
      · have HJ : Hid (jv A (k + 1) = jv A k + (1#64 <<< k)) := jv_hit h0
        rw [h0] at ha
        clear h0
        go_wp2
        go_round
        case rel => exact ⟨k + 1, by omega, by go_num, by rw [HJ.out]⟩
        case measure => simp [intOf]; omega
    · have hl2 : (n : Int) ≤ (k : Int) := by omega
      have hkn : k = n := by omega
      subst hkn
      clear h3
      go_wp2
      go_ret
      exact ⟨rfl, rfl⟩
end Go.Proofs.Ythnjppfgdkiaaac
