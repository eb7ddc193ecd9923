/-
  behind of the reference.
-/
import Derived.Test.YtjjdpfmkbaaapaaDoorIne
namespace Go.Proofs.YtjjdpfmkbaaapaaDoor
set_option linter.unusedVariables false
open Go.ChangeShapes Go.WideShapes Go.ChangeAt Go.RowKit Go.Deep
theorem below2 (w : World) (a b : Obj) : Below w.heap.size w ((w.alloc a).alloc b) := ((Below.refl _ _).alloc (Nat.le_refl _) _).alloc (by simp) _
set_option maxHeartbeats 1000000 in
theorem behind_c (s t : ByteArray) (x y : BitVec 64) (w : World) :
    Calls Tryd.prog 30 #[.agg #[.string s, .int .u64 (n64 x)], .agg #[.string t, .int .u64 (n64 y)]] w fun e w' => e = .returned (.bool (ahead s x t y)) ∧ Below w.heap.size w w' := by
  obtain ⟨R, hR⟩ : ∃ R, R = ahead s x t y := ⟨_, rfl⟩
  rw [← hR]
  have HR : Hid (R = ahead s x t y) := hR
  clear hR
  by_cases h1 : x.toNat < y.toNat
  · have g1 : n64 x < n64 y := by unfold n64; omega
    have HP : Hid (R = true) := by unfold Hid; rw [HR.out]; unfold ahead; simp [h1]
    clear h1
    go_enter Tryd.func30, Tryd.ntmps30
    go_wp2
    go_ret
    exact ⟨by rw [HP.out]; rfl, below2 _ _ _⟩
  · have g1 : n64 y ≤ n64 x := by unfold n64; omega
    have g1d : decide (n64 x < n64 y) = false := decide_eq_false (by omega)
    by_cases h2 : x.toNat = y.toNat
    · have e2 : (n64 y == n64 x) = true := by unfold n64; rw [h2]; simp
      have tri := less_tri s.toList t.toList
      have HPr : Hid (R = Op.bytesLess s.toList t.toList) := by unfold Hid; rw [HR.out]; unfold ahead; simp [h2]; rfl
      clear h1 h2
      cases k1 : Op.bytesLess t.toList s.toList with
      | true =>
        rw [k1] at tri
        have HP : Hid (R = false) := by unfold Hid; rw [HPr.out, tri]; rfl
        clear tri
        go_enter Tryd.func30, Tryd.ntmps30
        go_wp2
        go_ret
        exact ⟨by rw [HP.out]; rfl, below2 _ _ _⟩
      | false =>
        cases k2 : (t.toList == s.toList) with
        | true =>
          rw [k1, k2] at tri
          have HP : Hid (R = false) := by unfold Hid; rw [HPr.out, tri]; rfl
          clear tri
          go_enter Tryd.func30, Tryd.ntmps30
          go_wp2
          go_ret
          exact ⟨by rw [HP.out]; rfl, below2 _ _ _⟩
        | false =>
          rw [k1, k2] at tri
          have HP : Hid (R = true) := by unfold Hid; rw [HPr.out, tri]; rfl
          clear tri
          go_enter Tryd.func30, Tryd.ntmps30
          go_wp2
          go_ret
          exact ⟨by rw [HP.out]; rfl, below2 _ _ _⟩
    · have e2 : (n64 y == n64 x) = false := by unfold n64; simp; omega
      have HP : Hid (R = false) := by unfold Hid; rw [HR.out]; unfold ahead; simp [h1, h2]
      clear h1 h2
      go_enter Tryd.func30, Tryd.ntmps30
      go_wp2
      go_ret
      exact ⟨by rw [HP.out]; rfl, below2 _ _ _⟩
end Go.Proofs.YtjjdpfmkbaaapaaDoor
