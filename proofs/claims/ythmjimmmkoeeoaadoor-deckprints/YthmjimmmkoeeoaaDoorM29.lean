/-
  Ds.
-/
import Derived.Test.YthmjimmmkoeeoaaDoorM28
namespace Go.Proofs.YthmjimmmkoeeoaaDoor
set_option linter.unusedVariables false
set_option maxRecDepth 100000
open Go.ChangeShapes Go.WideShapes Go.ChangeAt Go.RowKit Go.Deep Go.Shelf
def rnL : List Tx := [[109, 118, 101, 110, 100, 111, 114, 105, 100], [109, 97, 114, 99, 104, 105, 100], [109, 105, 109, 112, 105, 100], [109, 104, 97, 114, 116, 105, 100], [109, 99, 111, 110, 102, 105, 103, 112, 116, 114], [109, 115, 116, 97, 116, 117, 115], [109, 105, 115, 97], [109, 105, 101], [109, 116, 118, 101, 99], [109, 99, 111, 117, 110, 116, 101, 114, 101, 110], [109, 101, 110, 118, 99, 102, 103], [109, 99, 111, 117, 110, 116, 105, 110, 104, 105, 98, 105, 116], [109, 115, 99, 114, 97, 116, 99, 104], [109, 101, 112, 99], [109, 99, 97, 117, 115, 101], [109, 116, 118, 97, 108], [109, 105, 112], [112, 109, 112, 99, 102, 103, 48], [112, 109, 112, 99, 102, 103, 50], [109, 99, 121, 99, 108, 101], [109, 105, 110, 115, 116, 114, 101, 116], [99, 121, 99, 108, 101], [116, 105, 109, 101], [105, 110, 115, 116, 114, 101, 116]]
def ruL : List Int := [3857, 3858, 3859, 3860, 3861, 768, 769, 772, 773, 774, 778, 800, 832, 833, 834, 835, 836, 928, 930, 2816, 2818, 3072, 3073, 3074]
def r12 : List Int := [768, 773, 772, 774, 800, 778, 832, 833, 834, 835, 2816, 2818]
def rpL : List Nat := [5, 8, 7, 9, 11, 10, 12, 13, 14, 15, 19, 20]
/-- The reference's tables. -/
structure Rt (w : World) : Prop where
  rg : Rg w
  nm : ∀ i, i < 24 → w.cell? ⟨3, i, none⟩ = some (.string (tS (rnL.getD i [])))
  nu : ∀ i, i < 24 → w.cell? ⟨2, i, none⟩ = some (.int .i64 (ruL.getD i 0))
  cs : ∀ i, i < 12 → w.cell? ⟨0, i, none⟩ = some (.int .i64 (r12.getD i 0))
theorem Rt.next {w w' : World} (h : Rt w) (b : Below w.heap.size w w') : Rt w' :=
  ⟨h.rg.next b, fun i hi => (b.cell (p := ⟨3, i, none⟩) (World.block_lt_of_cell? w _ (h.nm i hi))).trans (h.nm i hi), fun i hi => (b.cell (p := ⟨2, i, none⟩) (World.block_lt_of_cell? w _ (h.nu i hi))).trans (h.nu i hi), fun i hi => (b.cell (p := ⟨0, i, none⟩) (World.block_lt_of_cell? w _ (h.cs i hi))).trans (h.cs i hi)⟩
theorem rp_spec : ∀ i, i < 12 → rpL.getD i 0 < 24 ∧ ruL.getD (rpL.getD i 0) 0 = r12.getD i 0 ∧ rnL.getD (rpL.getD i 0) [] = csN.getD i [] ∧ ∀ k, k < rpL.getD i 0 → ruL.getD k 0 ≠ r12.getD i 0 := by decide
theorem r12_rng : ∀ i, i < 12 → 0 ≤ r12.getD i 0 ∧ r12.getD i 0 ≤ 4095 := by decide
set_option maxHeartbeats 4000000 in
theorem rcsr_c (i : Nat) (hi : i < 12) (w : World) (hT : Rt w) : Calls Tryd.prog 32 #[.int .i64 (r12.getD i 0)] w fun e w' => e = .returned (.string (tS (csN.getD i []))) ∧ w' = w := by
  obtain ⟨p1, p2, p3, p4⟩ := rp_spec i hi
  obtain ⟨q1, q2⟩ := r12_rng i hi
  have HNU : Hid (∀ j, j < 24 → w.cell? ⟨2, j, none⟩ = some (.int .i64 (ruL.getD j 0))) := hT.nu
  have HNM : Hid (w.cell? ⟨3, rpL.getD i 0, none⟩ = some (.string (tS (csN.getD i [])))) := by unfold Hid; rw [← p3]; exact hT.nm _ p1
  generalize r12.getD i 0 = n at *
  generalize rpL.getD i 0 = J at *
  generalize tS (csN.getD i []) = s at *
  have HP4 : Hid (∀ k, k < J → ruL.getD k 0 ≠ n) := p4
  have g1 : ¬ n < 0 := by omega
  have g2 : ¬ (4095 : Int) < n := by omega
  clear p3 p4 hT hi q1 q2
  go_enter Tryd.func32, Tryd.ntmps32
  go_upto_region 4 with fail
  go_loop [3] (fun v => ∃ k : Nat, k ≤ J ∧ v = .int .i64 k) (fun v => J - (intOf v).toNat)
  case atStart => exact ⟨0, Nat.zero_le _, rfl⟩
  case round =>
    obtain ⟨k, hk, rfl⟩ := hrel
    have hk24 : (k : Int) < 24 := by omega
    have c1 := HNU.out k (by omega)
    by_cases hlt : k < J
    · have hne : (ruL.getD k 0 == n) = false := by simpa using HP4.out k hlt
      generalize ruL.getD k 0 = z at c1 hne
      go_wp2
      go_round
      case rel => exact ⟨k + 1, hlt, by go_num⟩
      case measure => simp [intOf]; omega
    · have hke : k = J := by omega
      subst hke
      rw [p2] at c1
      have c2 := HNM.out
      clear hlt
      go_wp2
      go_ret
      exact ⟨rfl, rfl⟩
theorem rreg2_c (n : Nat) (hn : n < 32) (w : World) (hT : Rt w) : Calls Tryd.prog 30 #[.int .i64 n] w fun e w' => e = .returned (.string (tS (rgN.getD n []))) ∧ w' = w := by have := rreg_c (n : Int) w hT.rg; rw [regS_nat n hn] at this; exact this
theorem cat_c (a b : Tx) (h : a.length + b.length ≤ 1000000) (W : World) : (binOp .add 9 (.string (tS a)) (.string (tS b))).run Tryd.prog W = .ok (.string (tS (a ++ b))) W := by
  have e : ¬ (9223372036854775807 < (tS a).size + (tS b).size) := by rw [tS_size, tS_size]; omega
  have e2 : ¬ (9223372036854775807 < a.length + b.length) := by omega
  rw [← tS_append]
  simp [binOp, e2, tS_size, go_sem]
set_option maxHeartbeats 4000000 in
theorem field_c (g : Nat) (n : Nat) (hn : n < 12) (w : World) : Calls Tryd.prog 31 #[.pointer (some ⟨g, 0, none⟩), .int .i64 n] w fun e w' => e = .returned (.pointer (some ⟨g, 35 + n, none⟩)) ∧ w' = w := by
  rcases (by omega : n = 0 ∨ n = 1 ∨ n = 2 ∨ n = 3 ∨ n = 4 ∨ n = 5 ∨ n = 6 ∨ n = 7 ∨ n = 8 ∨ n = 9 ∨ n = 10 ∨ n = 11) with rfl | rfl | rfl | rfl | rfl | rfl | rfl | rfl | rfl | rfl | rfl | rfl
  all_goals
    clear hn
    go_enter Tryd.func31, Tryd.ntmps31
    go_wp2
    go_ret
    exact ⟨rfl, rfl⟩
end Go.Proofs.YthmjimmmkoeeoaaDoor
