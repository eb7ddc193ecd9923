/-
  The reference: one, the signed shift and the rest.
-/
import Derived.Test.YthnjppfgdkiaaacC8
import Derived.Deep.RegionWith
namespace Go.Proofs.Ythnjppfgdkiaaac
open Go.ChangeShapes Go.WideShapes Go.ChangeAt Go.RowKit
set_option linter.unusedVariables false
/-- The signed shift of n bits. -/
def srn (A n sh : Nat) : Nat := ((BitVec.ofNat n A).sshiftRight sh).toNat
theorem srn_bl (A n sh : Nat) (hn0 : 0 < n) : bl (srn A n sh) n = mk (fun j => if j + sh < n then bt A (j + sh) else bt A (n - 1)) n :=
  mk_congr (fun j hj => by
    unfold srn
    rw [bt_test, BitVec.testBit_toNat, BitVec.getLsbD_sshiftRight]
    have h1 : decide (n ≤ j) = false := decide_eq_false (by omega)
    rw [h1, Bool.not_false, Bool.true_and, Nat.add_comm sh j]
    by_cases h : j + sh < n
    · rw [if_pos h, if_pos h, BitVec.getLsbD_ofNat, bt_test]; simp [h]
    · rw [if_neg h, if_neg h, BitVec.msb_eq_getLsbD_last, BitVec.getLsbD_ofNat, bt_test]; simp [show n - 1 < n by omega])

set_option maxHeartbeats 2000000 in
theorem one_42_32 (A Bn : Nat) (va vb : Value) (w : World) (la : Lst w va (bl A 32)) (lb : Lst w vb (bl Bn 32)) :
    Calls Try.prog 25 #[.int .i64 42, va, vb] w fun e w' => ∃ v, e = .returned (.tuple #[v, .bool true]) ∧ Lst w' v (bl (srn A 32 (Bn % 32)) 32) ∧ Below w.heap.size w w' := by
  have La : Hid (Lst w va (bl A 32)) := la
  have Lb : Hid (Lst w vb (bl Bn 32)) := lb
  obtain ⟨g, off, cap, rfl, h1, h2, h3⟩ := la
  rw [bl_length] at h1 h3
  rw [bl_length]
  rw [bl_length] at La
  obtain ⟨l, hl⟩ : ∃ l, l = bl (srn A 32 (Bn % 32)) 32 := ⟨_, rfl⟩
  rw [← hl]
  rw [srn_bl A 32 _ (by decide)] at hl
  have ha := h3 31 (by omega)
  rw [bl_get _ _ _ (by omega)] at ha
  obtain ⟨z, hz⟩ : ∃ z : Int, z = ((Bn % 32 : Nat) : Int) := ⟨_, rfl⟩
  obtain ⟨t, ht⟩ : ∃ t : Int, t = bt A 31 := ⟨_, rfl⟩
  have DN : Hid (∀ w', Lst w' (.slice (some ⟨g, off, none⟩) 32 cap) (bl A 32) → Calls Try.prog 73 #[.slice (some ⟨g, off, none⟩) 32 cap, .int .i64 z, .int .i64 t] w' fun e w'' => ∃ v, e = .returned v ∧ Lst w'' v l ∧ Below w'.heap.size w' w'') := fun w' h => by
    rw [hl, hz, ht]; exact down_any A 32 (Bn % 32) (bt A 31) (by decide) (by decide) (Nat.le_of_lt (Nat.mod_lt _ (by decide))) _ _ h
  have SH : Hid (∀ w', Lst w' vb (bl Bn 32) → Calls Try.prog 72 #[vb] w' fun e w'' => e = .returned (.int .i64 z) ∧ w'' = w') := fun w' h => by
    rw [hz]; exact shift_32 Bn vb w' h
  rw [← ht] at ha
  clear h3 lb hl hz ht
  go_enter Try.func25, Try.ntmps25
  go_wp2_with fail
  go_region_with (first
    | (go_at_call 72; refine (SH.out _ ?_).mono ?_; exact Lb.out.later (below_drewN (Below.refl _ _) 1); rintro e w' ⟨rfl, rfl⟩)
    | (go_at_call 73; refine (DN.out _ ?_).mono ?_; exact La.out.later (below_drewN (Below.refl _ _) 1); rintro e w' ⟨v1, rfl, l1, b1⟩))
  all_goals (try go_wp2)
  all_goals go_ret2
  all_goals exact ⟨_, rfl, l1, (below_drewN (Below.refl _ _) 1).trans b1⟩

set_option maxHeartbeats 2000000 in
theorem one_42_64 (A Bn : Nat) (va vb : Value) (w : World) (la : Lst w va (bl A 64)) (lb : Lst w vb (bl Bn 64)) :
    Calls Try.prog 25 #[.int .i64 42, va, vb] w fun e w' => ∃ v, e = .returned (.tuple #[v, .bool true]) ∧ Lst w' v (bl (srn A 64 (Bn % 64)) 64) ∧ Below w.heap.size w w' := by
  have La : Hid (Lst w va (bl A 64)) := la
  have Lb : Hid (Lst w vb (bl Bn 64)) := lb
  obtain ⟨g, off, cap, rfl, h1, h2, h3⟩ := la
  rw [bl_length] at h1 h3
  rw [bl_length]
  rw [bl_length] at La
  obtain ⟨l, hl⟩ : ∃ l, l = bl (srn A 64 (Bn % 64)) 64 := ⟨_, rfl⟩
  rw [← hl]
  rw [srn_bl A 64 _ (by decide)] at hl
  have ha := h3 63 (by omega)
  rw [bl_get _ _ _ (by omega)] at ha
  obtain ⟨z, hz⟩ : ∃ z : Int, z = ((Bn % 64 : Nat) : Int) := ⟨_, rfl⟩
  obtain ⟨t, ht⟩ : ∃ t : Int, t = bt A 63 := ⟨_, rfl⟩
  have DN : Hid (∀ w', Lst w' (.slice (some ⟨g, off, none⟩) 64 cap) (bl A 64) → Calls Try.prog 73 #[.slice (some ⟨g, off, none⟩) 64 cap, .int .i64 z, .int .i64 t] w' fun e w'' => ∃ v, e = .returned v ∧ Lst w'' v l ∧ Below w'.heap.size w' w'') := fun w' h => by
    rw [hl, hz, ht]; exact down_any A 64 (Bn % 64) (bt A 63) (by decide) (by decide) (Nat.le_of_lt (Nat.mod_lt _ (by decide))) _ _ h
  have SH : Hid (∀ w', Lst w' vb (bl Bn 64) → Calls Try.prog 72 #[vb] w' fun e w'' => e = .returned (.int .i64 z) ∧ w'' = w') := fun w' h => by
    rw [hz]; exact shift_64 Bn vb w' h
  rw [← ht] at ha
  clear h3 lb hl hz ht
  go_enter Try.func25, Try.ntmps25
  go_wp2_with fail
  go_region_with (first
    | (go_at_call 72; refine (SH.out _ ?_).mono ?_; exact Lb.out.later (below_drewN (Below.refl _ _) 1); rintro e w' ⟨rfl, rfl⟩)
    | (go_at_call 73; refine (DN.out _ ?_).mono ?_; exact La.out.later (below_drewN (Below.refl _ _) 1); rintro e w' ⟨v1, rfl, l1, b1⟩))
  all_goals (try go_wp2)
  all_goals go_ret2
  all_goals exact ⟨_, rfl, l1, (below_drewN (Below.refl _ _) 1).trans b1⟩

theorem one_42 (A Bn n : Nat) (hn : n = 32 ∨ n = 64) (hA : Hid (A < 2 ^ n)) (hB : Hid (Bn < 2 ^ n)) (va vb : Value) (w : World) (la : Lst w va (bl A n)) (lb : Lst w vb (bl Bn n)) :
    Calls Try.prog 25 #[.int .i64 42, va, vb] w fun e w' => ∃ v, e = .returned (.tuple #[v, .bool true]) ∧ Lst w' v (bl (srn A n (Bn % n)) n) ∧ Below w.heap.size w w' := by
  rcases hn with rfl | rfl
  · exact one_42_32 A Bn va vb w la lb
  · exact one_42_64 A Bn va vb w la lb
set_option maxHeartbeats 2000000 in
theorem one_none (op : Int) (A n : Nat) (hop : op ≠ 35 ∧ op ≠ 36 ∧ op ≠ 37 ∧ op ≠ 41 ∧ op ≠ 42 ∧ op ≠ 38 ∧ op ≠ 39 ∧ op ≠ 40 ∧ op ≠ 43 ∧ op ≠ 44 ∧ op ≠ 62 ∧ op ≠ 66 ∧ op ≠ 67 ∧ op ≠ 68 ∧ op ≠ 69) (va vb : Value) (w : World) (la : Lst w va (bl A n)) :
    Calls Try.prog 25 #[.int .i64 op, va, vb] w fun e w' => e = .returned (.tuple #[.slice none 0 0, .bool false]) ∧ w' = w := by
  obtain ⟨g, off, cap, rfl, h1, h2, h3⟩ := la
  obtain ⟨n35, n36, n37, n41, n42, n38, n39, n40, n43, n44, n62, n66, n67, n68, n69⟩ := hop
  have t35 : (op == 35) = false := by simpa using n35
  have t36 : (op == 36) = false := by simpa using n36
  have t37 : (op == 37) = false := by simpa using n37
  have t41 : (op == 41) = false := by simpa using n41
  have t42 : (op == 42) = false := by simpa using n42
  have t38 : (op == 38) = false := by simpa using n38
  have t39 : (op == 39) = false := by simpa using n39
  have t40 : (op == 40) = false := by simpa using n40
  have t43 : (op == 43) = false := by simpa using n43
  have t44 : (op == 44) = false := by simpa using n44
  have t62 : (op == 62) = false := by simpa using n62
  have t66 : (op == 66) = false := by simpa using n66
  have t67 : (op == 67) = false := by simpa using n67
  have t68 : (op == 68) = false := by simpa using n68
  have t69 : (op == 69) = false := by simpa using n69
  clear h3
  clear n35 n36 n37 n41 n42 n38 n39 n40 n43 n44 n62 n66 n67 n68 n69
  go_enter Try.func25, Try.ntmps25
  go_wp2
  go_ret2
  exact ⟨rfl, rfl⟩
end Go.Proofs.Ythnjppfgdkiaaac
