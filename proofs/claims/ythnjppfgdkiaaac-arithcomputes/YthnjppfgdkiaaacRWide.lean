/-
  The reference: Wide.
-/
import Derived.Test.YthnjppfgdkiaaacMu
import Derived.Test.YthnjppfgdkiaaacHp
import Derived.Deep.RegionWith
namespace Go.Proofs.Ythnjppfgdkiaaac
open Go.ChangeShapes Go.WideShapes Go.ChangeAt Go.RowKit
theorem split_64w (x : BitVec 64) (w : World) : Calls Try.prog 26 #[.int .u64 (n64 x), .int .i64 64] w fun e w' => ∃ v, e = .returned v ∧ Lst w' v (bl x.toNat 64) ∧ Below w.heap.size w w' := split_any x 64 (by decide) (by decide) w
theorem widen_128 (A : Nat) (s : Bool) (h : A < 2 ^ 64) (va : Value) (w : World) (la : Lst w va (bl A 64)) :
    Calls Try.prog 28 #[va, .int .i64 128, .bool s] w fun e w' => ∃ v, e = .returned v ∧ Lst w' v (bl (w128 A s) 128) ∧ Below w.heap.size w w' := by
  cases s
  · have hh := widen_false A 64 128 (by decide) (by decide) (by decide) (by decide) va w la
    rw [mk_congr (g := bt (w128 A false)) (fun j hj => by rw [w128_bit A false h j hj]; rfl)] at hh
    exact hh
  · have hh := widen_true A 64 128 (by decide) (by decide) (by decide) (by decide) va w la
    rw [mk_congr (g := bt (w128 A true)) (fun j hj => by rw [w128_bit A true h j hj]; rfl)] at hh
    exact hh
theorem Lst.partW {w : World} {v : Value} {N m lo n : Nat} (h : Lst w v (bl N m)) (hm : lo + n ≤ m) : ∃ g off cap, v = .slice (some ⟨g, off, none⟩) m cap ∧ m ≤ cap ∧ Lst w (.slice (some ⟨g, off + lo, none⟩) n (cap - lo)) (bl (N / 2 ^ lo) n) ∧ Lst w (.slice (some ⟨g, off, none⟩) n cap) (bl N n) := by
  obtain ⟨g, off, cap, rfl, h1, h2, h3⟩ := h
  rw [bl_length] at h1 h3
  refine ⟨g, off, cap, by rw [bl_length], h1, ⟨g, off + lo, cap - lo, by rw [bl_length], by rw [bl_length]; omega, h2, fun j hj => ?_⟩, g, off, cap, by rw [bl_length], by rw [bl_length]; omega, h2, fun j hj => ?_⟩
  · rw [bl_length] at hj
    have := h3 (lo + j) (by omega)
    rw [bl_get _ _ _ (by omega)] at this
    rw [bl_get _ _ _ hj, show off + lo + j = off + (lo + j) by omega, this]
    unfold bt; rw [Nat.div_div_eq_div_mul, ← Nat.pow_add]
  · rw [bl_length] at hj
    have := h3 j (by omega)
    rw [bl_get _ _ _ (by omega)] at this
    rw [bl_get _ _ _ hj, this]

set_option maxHeartbeats 1000000 in
theorem refWide_any (x y : BitVec 64) (sa sb : Bool) (w : World) : Calls Try.prog 23 #[.int .u64 (n64 x), .int .u64 (n64 y), .bool sa, .bool sb] w fun e w' =>
    e = .returned (.tuple #[.int .u64 (n64 (hiP x y - (if sa && ng x then y else 0#64) - (if sb && ng y then x else 0#64))), .int .u64 (n64 (x * y))]) ∧ Below w.heap.size w w' := by
  rw [← wide_hi x y sa sb, ← wide_lo x y sa sb]
  go_enter Try.func23, Try.ntmps23
  go_wp2_with fail
  refine (split_64w x _).mono ?_
  rintro e w1 ⟨v1, rfl, l1, b1⟩
  have L1 : Hid (Lst w1 v1 (bl x.toNat 64)) := l1
  have B1 : Hid (Below w.heap.size w w1) := b1
  clear l1 b1
  go_wp2_with fail
  refine (widen_128 x.toNat sa x.isLt v1 _ L1.out).mono ?_
  rintro e w2 ⟨v2, rfl, l2, b2⟩
  have L2 : Hid (Lst w2 v2 (bl (w128 x.toNat sa) 128)) := l2
  have B2 : Hid (Below w.heap.size w w2) := B1.out.trans (b2.mono B1.out.size)
  clear l2 b2
  go_wp2_with fail
  refine (split_64w y _).mono ?_
  rintro e w3 ⟨v3, rfl, l3, b3⟩
  have L3 : Hid (Lst w3 v3 (bl y.toNat 64)) := l3
  have L2' : Hid (Lst w3 v2 (bl (w128 x.toNat sa) 128)) := L2.out.later b3
  have B3 : Hid (Below w.heap.size w w3) := B2.out.trans (b3.mono B2.out.size)
  clear l3 b3
  go_wp2_with fail
  refine (widen_128 y.toNat sb y.isLt v3 _ L3.out).mono ?_
  rintro e w4 ⟨v4, rfl, l4, b4⟩
  have L4 : Hid (Lst w4 v4 (bl (w128 y.toNat sb) 128)) := l4
  have L2'' : Hid (Lst w4 v2 (bl (w128 x.toNat sa) 128)) := L2'.out.later b4
  have B4 : Hid (Below w.heap.size w w4) := B3.out.trans (b4.mono B3.out.size)
  clear l4 b4
  go_wp2_with fail
  refine (times_any _ _ 128 (by decide) (by decide) v2 v4 _ L2''.out L4.out).mono ?_
  rintro e w5 ⟨v5, rfl, l5, b5⟩
  obtain ⟨g, off, cap, rfl, hc, l6, l7⟩ := l5.partW (lo := 64) (n := 64) (by decide)
  have L6 : Hid (Lst w5 (.slice (some ⟨g, off + 64, none⟩) 64 (cap - 64)) (bl (w128 x.toNat sa * (w128 y.toNat sb % 2 ^ 128) / 2 ^ 64) 64)) := l6
  have L7 : Hid (Lst w5 (.slice (some ⟨g, off, none⟩) 64 cap) (bl (w128 x.toNat sa * (w128 y.toNat sb % 2 ^ 128)) 64)) := l7
  have B5 : Hid (Below w.heap.size w w5) := B4.out.trans (b5.mono B4.out.size)
  clear l5 l6 l7 b5
  have hc2 : (64 : Int) ≤ (cap : Int) := by omega
  have hc3 : (128 : Int) ≤ (cap : Int) := by omega
  have hc4 : ¬ cap = 64 := by omega
  go_wp2_with fail
  refine wp_region_quiet_lit (by kernel_rfl) (by kernel_rfl) ?_
  go_big_quiet_step (fail)
  go_big_quiet_step (fail)
  go_big_quiet_step ((go_at_call 27; exact Calls.quiet_of_same (join_any (w128 x.toNat sa * (w128 y.toNat sb % 2 ^ 128) / 2 ^ 64) 64 (by decide) _ _ (L6.out.later (below_drewN (Below.refl _ _) _)))))
  go_big_quiet_step (fail)
  go_big_quiet_step (fail)
  go_big_quiet_step ((go_at_call 27; exact Calls.quiet_of_same (join_any (w128 x.toNat sa * (w128 y.toNat sb % 2 ^ 128)) 64 (by decide) _ _ (L7.out.later (below_drewN (Below.refl _ _) _)))))
  repeat (go_big_quiet_step (fail))
  refine wpQuiet_nil ?_
  rintro _ ⟨nq, rfl⟩
  go_wp2
  go_ret2
  exact ⟨rfl, below_drewN B5.out _⟩
end Go.Proofs.Ythnjppfgdkiaaac
