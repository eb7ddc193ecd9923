/-
  Hex of the reference, for numbers below 4096.
-/
import Derived.Test.YtechkhlibdkmpaaDoorSb
namespace Go.Proofs.YtechkhlibdkmpaaDoor
set_option linter.unusedVariables false
open Go.ChangeShapes Go.WideShapes Go.ChangeAt Go.RowKit Go.Deep Go.Shelf
def hd (a : Nat) : UInt8 := if a < 10 then UInt8.ofNat (48 + a) else UInt8.ofNat (87 + a)
/-- One hex digit. -/
def dg (a : Nat) : ByteArray := ⟨#[hd a]⟩
def hxD : ByteArray := ⟨#[48, 49, 50, 51, 52, 53, 54, 55, 56, 57, 97, 98, 99, 100, 101, 102]⟩
theorem dg_ext : ∀ a : Nat, a < 16 → hxD.extract a (a + 1) = dg a
  | 0, _ => by rfl
  | 1, _ => by rfl
  | 2, _ => by rfl
  | 3, _ => by rfl
  | 4, _ => by rfl
  | 5, _ => by rfl
  | 6, _ => by rfl
  | 7, _ => by rfl
  | 8, _ => by rfl
  | 9, _ => by rfl
  | 10, _ => by rfl
  | 11, _ => by rfl
  | 12, _ => by rfl
  | 13, _ => by rfl
  | 14, _ => by rfl
  | 15, _ => by rfl
  | a + 16, h => absurd h (by omega)
/-- The hex digits of a number below 4096. -/
def hx (v : Nat) : ByteArray := if v < 16 then dg v else if v < 256 then dg (v / 16) ++ dg (v % 16) else dg (v / 256) ++ dg (v / 16 % 16) ++ dg (v % 16)
theorem hx_size (v : Nat) : (hx v).size ≤ 3 := by
  unfold hx
  have h1 : ∀ a, (dg a).size = 1 := fun a => rfl
  split
  · rw [h1]; omega
  · split
    · rw [ByteArray.size_append, h1, h1]; omega
    · rw [ByteArray.size_append, ByteArray.size_append, h1, h1, h1]; omega
theorem wrapU (z : Int) (h : 0 ≤ z ∧ z < 18446744073709551616) : IntKind.u64.wrap z = z := by
  have : IntKind.u64.wrap z = z % 18446744073709551616 := by first | rfl | (unfold IntKind.wrap; simp [IntKind.signed, IntKind.bits])
  rw [this]
  omega
set_option maxRecDepth 100000 in
set_option maxHeartbeats 2000000 in
theorem rhex_1 (v : Nat) (h : v < 16) (w : World) : Calls Tryd.prog 23 #[.int .u64 v] w fun e w' => e = .returned (.string (dg v)) ∧ Below w.heap.size w w' := by
  have h1 : (v : Int) < 16 := by omega
  have e := dg_ext v h
  go_enter Tryd.func23, Tryd.ntmps23
  go_wp2
  go_ret
  exact ⟨by rw [← e]; rfl, Below.refl _ _⟩
set_option maxRecDepth 100000 in
set_option maxHeartbeats 2000000 in
theorem rhex_s (v : Nat) (h1 : 16 ≤ v) (h2 : v < 4096) (s : ByteArray) (hs : s.size ≤ 10) (IH : ∀ w : World, Calls Tryd.prog 23 #[.int .u64 ((v / 16 : Nat) : Int)] w fun e w' => e = .returned (.string s) ∧ Below w.heap.size w w') (w : World) :
    Calls Tryd.prog 23 #[.int .u64 v] w fun e w' => e = .returned (.string (s ++ dg (v % 16))) ∧ Below w.heap.size w w' := by
  obtain ⟨q, hq0⟩ : ∃ q : Nat, q = v / 16 := ⟨_, rfl⟩
  obtain ⟨r, hr0⟩ : ∃ r : Nat, r = v % 16 := ⟨_, rfl⟩
  have e := dg_ext r (by omega)
  have hI : ¬ ((v : Int) < 16) := by omega
  have hq1 : (v : Int) / 16 = (q : Int) := by omega
  have hq2 : Int.tdiv (v : Int) 16 = (q : Int) := by rw [Int.tdiv_eq_ediv_of_nonneg (by omega)]; omega
  have hr1 : (v : Int) % 16 = (r : Int) := by omega
  have hr2 : Int.tmod (v : Int) 16 = (r : Int) := by rw [Int.tmod_eq_emod_of_nonneg (by omega)]; omega
  have w1 : IntKind.u64.wrap (q : Int) = q := wrapU _ (by omega)
  have w2 : IntKind.u64.wrap ((r : Int) + 1) = r + 1 := wrapU _ (by omega)
  have hr16 : (r : Int) < 16 := by omega
  have hr17 : (r : Int) + 1 ≤ 16 := by omega
  rw [← hq0] at IH
  rw [← hr0]
  have HD : Hid (∀ w : World, Calls Tryd.prog 23 #[.int .u64 q] w fun e w' => e = .returned (.string s) ∧ Below w.heap.size w w') := IH
  have HE : Hid (hxD.extract r (r + 1) = dg r) := e
  have hsz : ¬ (9223372036854775807 < s.size + (dg r).size) := by
    have : (dg r).size = 1 := rfl
    omega
  have hsz2 : ¬ (9223372036854775807 < s.size + 1) := by omega
  clear IH e hq0 hr0 h1 h2 hs
  go_enter Tryd.func23, Tryd.ntmps23
  go_wp2
  --@CUT
  go_region_with (first | (go_at_call 23; refine (HD.out _).mono ?_; rintro e w1 ⟨rfl, hb⟩; have HB1 : Hid _ := hb; clear hb))
  --@CUT2
  all_goals go_wp2
  all_goals go_ret
  all_goals exact ⟨by rw [← HE.out]; rfl, (Below.drew (Below.refl w.heap.size w)).trans HB1.out⟩
theorem rhex_c (v : Nat) (h : v < 4096) (w : World) : Calls Tryd.prog 23 #[.int .u64 v] w fun e w' => e = .returned (.string (hx v)) ∧ Below w.heap.size w w' := by
  by_cases h1 : v < 16
  · rw [show hx v = dg v from if_pos h1]
    exact rhex_1 v h1 w
  · by_cases h2 : v < 256
    · rw [show hx v = dg (v / 16) ++ dg (v % 16) by unfold hx; rw [if_neg h1, if_pos h2]]
      exact rhex_s v (by omega) h _ (by show 1 ≤ 10; omega) (rhex_1 (v / 16) (by omega)) w
    · rw [show hx v = dg (v / 256) ++ dg (v / 16 % 16) ++ dg (v % 16) by unfold hx; rw [if_neg h1, if_neg h2]]
      refine rhex_s v (by omega) h _ (by show 2 ≤ 10; omega) (fun w => ?_) w
      have := rhex_s (v / 16) (by omega) (by omega) (dg (v / 256)) (by show 1 ≤ 10; omega) (fun w => by rw [show v / 16 / 16 = v / 256 by omega]; exact rhex_1 (v / 256) (by omega) w) w
      exact this
end Go.Proofs.YtechkhlibdkmpaaDoor
