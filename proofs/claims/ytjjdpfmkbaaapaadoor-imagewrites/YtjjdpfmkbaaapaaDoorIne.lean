/-
  compareNames of the program.
-/
import Derived.Test.YtjjdpfmkbaaapaaDoorInd
import Derived.StillTailTactics
namespace Go.Proofs.YtjjdpfmkbaaapaaDoor
set_option linter.unusedVariables false
open Go.ChangeShapes Go.WideShapes Go.ChangeAt Go.RowKit Go.Deep
/-- What compareNames tells. -/
def cz (s t : ByteArray) (x y : BitVec 64) : Int :=
  if (if x.toNat < y.toNat then (-1 : Int) else if y.toNat < x.toNat then 1 else 0) = 0 then (if lS s t then -1 else if s.toList == t.toList then 0 else 1) else (if x.toNat < y.toNat then (-1 : Int) else if y.toNat < x.toNat then 1 else 0)
theorem or_b (g : Nat) (a b z : Int) (hz : Hid (z = if a = 0 then b else a)) (w : World) (h0 : w.cell? ⟨g, 0, none⟩ = some (.int .i64 a)) (h1 : w.cell? ⟨g, 1, none⟩ = some (.int .i64 b)) :
    Calls Tryd.prog 46 #[.slice (some ⟨g, 0, none⟩) 2 2] w fun e w' => e = .returned (.int .i64 z) ∧ Hid (Below w.heap.size w w') :=
  (or_c g a b z hz w h0 h1).mono fun e w' ⟨h1, h2⟩ => ⟨h1, by rw [h2]; exact Below.refl _ _⟩
set_option maxHeartbeats 2000000 in
set_option maxRecDepth 100000 in
theorem compare_c (s t : ByteArray) (x y : BitVec 64) (w : World) :
    Calls Tryd.prog 35 #[.agg #[.string s, .int .u64 (n64 x)], .agg #[.string t, .int .u64 (n64 y)]] w fun e w' => ∃ z, e = .returned (.int .i64 z) ∧ decide (0 ≤ z) = !ahead s x t y ∧ Hid (z = cz s t x y) ∧ Below w.heap.size w w' := by
  obtain ⟨a, ha⟩ : ∃ a : Int, a = if x.toNat < y.toNat then -1 else if y.toNat < x.toNat then 1 else 0 := ⟨_, rfl⟩
  obtain ⟨b, hb⟩ : ∃ b : Int, b = if lS s t then -1 else if s.toList == t.toList then 0 else 1 := ⟨_, rfl⟩
  obtain ⟨z, hz⟩ : ∃ z : Int, z = if a = 0 then b else a := ⟨_, rfl⟩
  have HA : Hid (a = if x.toNat < y.toNat then -1 else if y.toNat < x.toNat then 1 else 0) := ha
  have HB : Hid (b = if lS s t then -1 else if s.toList == t.toList then 0 else 1) := hb
  have HZ : Hid (z = if a = 0 then b else a) := hz
  have HE : Hid (decide (0 ≤ z) = !ahead s x t y) := by
    unfold Hid ahead
    rw [hz, ha, hb]
    by_cases h1 : x.toNat < y.toNat
    · simp [h1]
    · by_cases h2 : y.toNat < x.toNat
      · have : ¬ x.toNat = y.toNat := by omega
        simp [h1, h2, this]
      · have : x.toNat = y.toNat := by omega
        cases lS s t
        · simp [this]; split <;> simp
        · simp [this]
  have HZC : Hid (z = cz s t x y) := by unfold Hid cz; rw [hz, ha, hb]
  clear ha hb hz
  go_enter Tryd.func35, Tryd.ntmps35
  go_wp2_with fail
  have k0 : ((w.alloc (.cells #[.string s, .int .u64 (n64 x)] 60)).alloc (.cells #[.string t, .int .u64 (n64 y)] 60)).cell? ⟨w.heap.size, 0, none⟩ = some (.string s) := by rw [alloc2_0]; rfl
  have k1 : ((w.alloc (.cells #[.string s, .int .u64 (n64 x)] 60)).alloc (.cells #[.string t, .int .u64 (n64 y)] 60)).cell? ⟨w.heap.size, 1, none⟩ = some (.int .u64 (n64 x)) := by rw [alloc2_0]; rfl
  have k2 : ((w.alloc (.cells #[.string s, .int .u64 (n64 x)] 60)).alloc (.cells #[.string t, .int .u64 (n64 y)] 60)).cell? ⟨w.heap.size + 1, 0, none⟩ = some (.string t) := by rw [alloc2_1]; rfl
  have k3 : ((w.alloc (.cells #[.string s, .int .u64 (n64 x)] 60)).alloc (.cells #[.string t, .int .u64 (n64 y)] 60)).cell? ⟨w.heap.size + 1, 1, none⟩ = some (.int .u64 (n64 y)) := by rw [alloc2_1]; rfl
  have HB2 : Hid (Below w.heap.size w ((w.alloc (.cells #[.string s, .int .u64 (n64 x)] 60)).alloc (.cells #[.string t, .int .u64 (n64 y)] 60))) := ((Below.refl _ _).alloc (Nat.le_refl _) _).alloc (by simp) _
  generalize (w.alloc (.cells #[.string s, .int .u64 (n64 x)] 60)).alloc (.cells #[.string t, .int .u64 (n64 y)] 60) = W2 at *
  refine wp_region_still_tail 10 (by kernel_rfl) (by kernel_rfl) ?_
  change wpStill _ _ W2.drew (fun a' => wpList _ _ _ _ a' W2.drew) _ _
  simp only [List.take_succ_cons, List.take_zero, List.drop_succ_cons, List.drop_zero]
  still_step
  still_step
  still_step
  still_step
  still_call (cmpU_c x y _ a HA)
  still_step
  still_step
  still_step
  still_step
  still_call (cmpS_c s t _ b HB)
  refine wpStill_nil ?_
  go_wp2_with (go_at_call 46; refine (or_b W2.heap.size a b z HZ _ (by simp) (by simp)).mono ?_; rintro e w' ⟨rfl, hbl⟩)
  go_ret
  have h0 := HB2.out.alloc HB2.out.size (.cells #[.int .i64 a, .int .i64 b] 3)
  exact ⟨z, rfl, HE.out, HZC, h0.drew.trans ((show Below _ _ _ from hbl.out).mono (Nat.le_trans HB2.out.size (by simp)))⟩
theorem compare_z (s t : ByteArray) (x y : BitVec 64) (w : World) :
    Calls Tryd.prog 35 #[.agg #[.string s, .int .u64 (n64 x)], .agg #[.string t, .int .u64 (n64 y)]] w fun e w' => e = .returned (.int .i64 (cz s t x y)) ∧ Below w.heap.size w w' := by
  refine (compare_c s t x y w).mono ?_
  rintro e w' ⟨z, rfl, _, h, hb⟩
  exact ⟨by rw [h.out], hb⟩
theorem cz_ahead (s t : ByteArray) (x y : BitVec 64) : decide (0 ≤ cz s t x y) = !ahead s x t y := by
  unfold cz ahead
  by_cases h1 : x.toNat < y.toNat
  · simp [h1]
  · by_cases h2 : y.toNat < x.toNat
    · have : ¬ x.toNat = y.toNat := by omega
      simp [h1, h2, this]
    · have : x.toNat = y.toNat := by omega
      cases lS s t
      · simp [this]; split <;> simp
      · simp [this]
end Go.Proofs.YtjjdpfmkbaaapaaDoor
