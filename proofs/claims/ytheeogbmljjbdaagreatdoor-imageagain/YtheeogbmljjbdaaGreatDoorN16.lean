/-
  Irm.
-/
import Derived.Test.YtheeogbmljjbdaaGreatDoorN01
import Derived.Deep.Cut
namespace Go.Proofs.YtheeogbmljjbdaaGreatDoor
set_option linter.unusedVariables false
open Go.ChangeShapes Go.WideShapes Go.ChangeAt Go.RowKit Go.Deep
theorem vl_front (b : List Int) (p m : Nat) : vl b p (m + 1) = (b.getD p 0).toNat + 256 * vl b (p + 1) m := by
  induction m with
  | zero =>
    unfold vl
    simp only [tkN, Nat.zero_add, Nat.pow_zero, Nat.mul_one, Nat.mul_zero, Nat.add_zero]
    rw [drop_getD, Nat.add_zero]
  | succ m ih =>
    have e1 : vl b p (m + 2) = vl b p (m + 1) + (b.getD (p + (m + 1)) 0).toNat * 256 ^ (m + 1) := by
      show tkN (b.drop p) (m + 1) + ((b.drop p).getD (m + 1) 0).toNat * 256 ^ (m + 1) = _
      rw [drop_getD]; rfl
    have e2 : vl b (p + 1) (m + 1) = vl b (p + 1) m + (b.getD (p + 1 + m) 0).toNat * 256 ^ m := by
      show tkN (b.drop (p + 1)) m + ((b.drop (p + 1)).getD m 0).toNat * 256 ^ m = _
      rw [drop_getD]; rfl
    rw [e1, ih, e2, show p + (m + 1) = p + 1 + m by omega, Nat.mul_add, Nat.pow_succ]
    have e3 : (b.getD (p + 1 + m) 0).toNat * (256 ^ m * 256) = 256 * ((b.getD (p + 1 + m) 0).toNat * 256 ^ m) := by rw [← Nat.mul_assoc, Nat.mul_comm]
    rw [e3]
    omega
set_option maxRecDepth 100000 in
set_option maxHeartbeats 2000000 in
theorem rvalue_c {b : List Int} (hB : AllB b) (hl : b.length ≤ 200000) (vb : Value) (p k : Nat) (pI kI : Int) (hpI : pI = p) (hkI : kI = k) (hk : k ≤ 8) (hp : p + k ≤ b.length) (w : World) (hv : Byt w vb b) :
    Calls Tryz.prog 35 #[vb, .int .i64 pI, .int .i64 kI] w fun e w' => e = .returned (.int .u64 ((vl b p k : Nat) : Int)) ∧ w = w' := by
  subst hpI hkI
  obtain ⟨a, cap, rfl, hc, _, hr⟩ := hv
  have HB : Hid (AllB b) := hB
  have HR : Hid (b ≠ [] → ∃ g off, a = some ⟨g, off, none⟩ ∧ g < w.heap.size ∧ ∀ j, j < b.length → w.cell? ⟨g, off + j, none⟩ = some (.int .u8 (b.getD j 0))) := hr
  have hkJ : (k : Int) ≤ 8 := by omega
  have hpJ : (p : Int) + k ≤ b.length := by omega
  have hlI : (b.length : Int) ≤ 200000 := by omega
  have HP : Hid (p + k ≤ b.length) := hp
  clear hr hB
  go_enter Tryz.func35, Tryz.ntmps35
  go_wp2
  go_loopw [7, 8] (fun v i wr => ∃ j : Nat, j ≤ k ∧ i = .int .i64 ((j : Int) - 1) ∧ v = .int .u64 ((vl b (p + j) (k - j) : Nat) : Int) ∧ wr = w) (fun _ i _ => (intOf i + 1).toNat)
  case atStart => exact ⟨k, Nat.le_refl _, rfl, by rw [Nat.sub_self]; rfl, rfl⟩
  case round =>
    obtain ⟨j, hj, rfl, rfl, rfl⟩ := hrel
    by_cases h0 : 0 < j
    · obtain ⟨q, rfl⟩ : ∃ q, j = q + 1 := ⟨j - 1, by omega⟩
      obtain ⟨g, off, rfl, _, hcell⟩ := HR.out (by intro e; have := HP.out; rw [e] at this; simp only [List.length_nil] at this; omega)
      have hqI : (((q + 1 : Nat) : Int) - 1) = (q : Int) := by omega
      rw [hqI]
      have h0I : (0 : Int) ≤ (q : Int) := by omega
      have hpq : (p : Int) + q < b.length := by omega
      have hq8 : (q : Int) < 8 := by omega
      have hce := hcell (p + q) (by have := HP.out; omega)
      have hby := getD_byte HB.out (p + q)
      have HF : Hid (vl b (p + q) (k - q) = (b.getD (p + q) 0).toNat + 256 * vl b (p + (q + 1)) (k - (q + 1))) := by
        unfold Hid
        rw [show k - q = (k - (q + 1)) + 1 by omega, vl_front, show p + (q + 1) = p + q + 1 by omega]
      have hlt := vl_lt8 HB.out (p + q) (k - q) (by omega)
      clear hcell
      obtain ⟨z, hz⟩ : ∃ z, z = b.getD (p + q) 0 := ⟨_, rfl⟩
      rw [← hz] at hce hby HF
      clear hz
      obtain ⟨V, hV⟩ : ∃ V, V = vl b (p + (q + 1)) (k - (q + 1)) := ⟨_, rfl⟩
      rw [← hV] at HF ⊢
      clear hV
      have hVb : (V : Int) * 256 < 18446744073709551616 := by have := HF.out; omega
      have hVc : (V : Int) * 256 + z < 18446744073709551616 := by have := HF.out; omega
      have HV2 : Hid ((V : Int) * 256 + z = ((vl b (p + q) (k - q) : Nat) : Int)) := by unfold Hid; have := HF.out; omega
      clear hlt
      go_wp2
      --@CUT
      go_roundw
      case rel => exact ⟨q, by omega, rfl, by rw [HV2.out], trivial⟩
      case measure => simp only [intOf]; omega
    · obtain rfl : j = 0 := by omega
      have h0I : ¬ ((0 : Int) ≤ (((0 : Nat) : Int) - 1)) := by omega
      go_wp2
      go_ret
      exact ⟨rfl, rfl⟩
end Go.Proofs.YtheeogbmljjbdaaGreatDoor
