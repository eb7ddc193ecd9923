/-
  Ind Ine Iry Irz Ina.
-/
import Derived.Test.YtopddflnahfomaaGreatDoorM01
import Derived.Test.YtopddflnahfomaaGreatDoorM09
import Derived.WalkSmall
import Derived.Deep.RegionWith
import Derived.StillTailTactics
import Derived.Test.YtopddflnahfomaaGreatDoorM08
import Derived.Test.YtopddflnahfomaaGreatDoorRows
import Derived.WalkKit
import Derived.WalkMore
import Derived.ProofKit
import Derived.Below
import Derived.Lib.OthersKept
namespace Go.Proofs.YtopddflnahfomaaGreatDoor
set_option linter.unusedVariables false
open Go.ChangeShapes Go.WideShapes Go.ChangeAt Go.RowKit Go.Deep
/-- The order of texts, as Go has it. -/
def lS (s t : ByteArray) : Bool := Op.bytesLess s.toList t.toList
theorem less_tri : ∀ x y : List UInt8, Op.bytesLess x y = (!Op.bytesLess y x && !(y == x))
  | [], [] => rfl
  | [], _ :: _ => rfl
  | _ :: _, [] => rfl
  | a :: x, b :: y => by
    have ih := less_tri x y
    have e0 : ((b :: y) == (a :: x)) = ((b == a) && (y == x)) := rfl
    rw [e0]
    unfold Op.bytesLess
    rcases Nat.lt_trichotomy a.toNat b.toNat with h | h | h
    · have h1 : a < b := UInt8.lt_iff_toNat_lt.2 h
      have h2 : ¬ b < a := fun q => by have := UInt8.lt_iff_toNat_lt.1 q; omega
      have h3 : (b == a) = false := by rw [Bool.eq_false_iff]; intro q; have := eq_of_beq q; rw [this] at h; omega
      simp [h1, h2, h3]
    · have h0 : a = b := UInt8.toNat_inj.1 h
      subst h0
      have h1 : ¬ a < a := fun q => by have := UInt8.lt_iff_toNat_lt.1 q; omega
      simp [h1]
      exact ih
    · have h1 : b < a := UInt8.lt_iff_toNat_lt.2 h
      have h2 : ¬ a < b := fun q => by have := UInt8.lt_iff_toNat_lt.1 q; omega
      have h3 : (a == b) = false := by rw [Bool.eq_false_iff]; intro q; have := eq_of_beq q; rw [this] at h; omega
      simp [h1, h2, h3]
theorem cmpU_c (x y : BitVec 64) (w : World) (z : Int) (hz : Hid (z = if x.toNat < y.toNat then -1 else if y.toNat < x.toNat then 1 else 0)) :
    Calls Tryz.prog 53 #[.int .u64 (n64 x), .int .u64 (n64 y)] w fun e w' => e = .returned (.int .i64 z) ∧ w' = w := by
  have hzz := hz.out
  by_cases h1 : x.toNat < y.toNat
  · rw [if_pos h1] at hzz
    subst hzz
    have g : n64 x < n64 y := by unfold n64; omega
    clear hz h1
    go_enter Tryz.func53, Tryz.ntmps53
    go_wp2
    go_ret
    exact ⟨rfl, rfl⟩
  · rw [if_neg h1] at hzz
    have g : n64 y ≤ n64 x := by unfold n64; omega
    by_cases h2 : y.toNat < x.toNat
    · rw [if_pos h2] at hzz
      subst hzz
      have g2 : n64 y < n64 x := by unfold n64; omega
      clear hz h1 h2 g
      go_enter Tryz.func53, Tryz.ntmps53
      go_wp2
      go_ret
      exact ⟨rfl, rfl⟩
    · rw [if_neg h2] at hzz
      subst hzz
      have g2 : n64 x ≤ n64 y := by unfold n64; omega
      clear hz h1 h2
      go_enter Tryz.func53, Tryz.ntmps53
      go_wp2
      go_ret
      exact ⟨rfl, rfl⟩
theorem cmpS_c (s t : ByteArray) (w : World) (z : Int) (hz : Hid (z = if lS s t then -1 else if s.toList == t.toList then 0 else 1)) :
    Calls Tryz.prog 62 #[.string s, .string t] w fun e w' => e = .returned (.int .i64 z) ∧ w' = w := by
  have hzz := hz.out
  unfold lS at hzz
  cases h1 : Op.bytesLess s.toList t.toList with
  | true =>
    rw [h1] at hzz
    simp only [if_true] at hzz
    subst hzz
    clear hz
    go_enter Tryz.func62, Tryz.ntmps62
    go_wp2
    go_ret
    exact ⟨rfl, rfl⟩
  | false =>
    rw [h1] at hzz
    cases h2 : (s.toList == t.toList) with
    | true =>
      rw [h2] at hzz
      simp only [if_true, Bool.false_eq_true, if_false] at hzz
      subst hzz
      clear hz
      go_enter Tryz.func62, Tryz.ntmps62
      go_wp2
      go_ret
      exact ⟨rfl, rfl⟩
    | false =>
      rw [h2] at hzz
      simp only [Bool.false_eq_true, if_false] at hzz
      subst hzz
      clear hz
      go_enter Tryz.func62, Tryz.ntmps62
      go_wp2
      go_ret
      exact ⟨rfl, rfl⟩
set_option maxHeartbeats 1000000 in
theorem or_c (g : Nat) (a b z : Int) (hz : Hid (z = if a = 0 then b else a)) (w : World) (h0 : w.cell? ⟨g, 0, none⟩ = some (.int .i64 a)) (h1 : w.cell? ⟨g, 1, none⟩ = some (.int .i64 b)) :
    Calls Tryz.prog 61 #[.slice (some ⟨g, 0, none⟩) 2 2] w fun e w' => e = .returned (.int .i64 z) ∧ w' = w := by
  go_enter Tryz.func61, Tryz.ntmps61
  go_wp2
  go_loopw [8] (fun i wr => Hid (i = .int .i64 0 ∨ (i = .int .i64 1 ∧ a = 0) ∨ (i = .int .i64 2 ∧ a = 0 ∧ b = 0)) ∧ wr = w) (fun i _ => 2 - (intOf i).toNat)
  case atStart => exact ⟨.inl rfl, rfl⟩
  case round =>
    obtain ⟨hi, rfl⟩ := hrel
    rcases hi.out with rfl | ⟨rfl, ha⟩ | ⟨rfl, ha, hb⟩
    · clear hi
      by_cases ha : a = 0
      · have HA : Hid (a = 0) := ha
        have ha' : (a != 0) = false := by simp [ha]
        clear ha
        go_wp2
        go_roundw
        case rel => exact ⟨.inr (.inl ⟨rfl, HA.out⟩), trivial⟩
        case measure => simp [intOf]
      · have HA : Hid (z = a) := by unfold Hid; rw [hz.out, if_neg ha]
        have ha' : (a != 0) = true := by simp [ha]
        clear ha
        go_wp2
        go_ret
        exact ⟨by rw [HA.out]; rfl, rfl⟩
    · have HA : Hid (a = 0) := ha
      clear hi ha
      by_cases hb : b = 0
      · have HB : Hid (b = 0) := hb
        have hb' : (b != 0) = false := by simp [hb]
        clear hb
        go_wp2
        go_roundw
        case rel => exact ⟨.inr (.inr ⟨rfl, HA.out, HB.out⟩), trivial⟩
        case measure => simp [intOf]
      · have HB : Hid (z = b) := by unfold Hid; rw [hz.out, if_pos HA.out]
        have hb' : (b != 0) = true := by simp [hb]
        clear hb
        go_wp2
        go_ret
        exact ⟨by rw [HB.out]; rfl, rfl⟩
    · have HB : Hid (z = 0) := by unfold Hid; rw [hz.out, if_pos ha, hb]
      clear hi ha hb
      go_wp2
      go_ret
      exact ⟨by rw [HB.out]; rfl, rfl⟩
/-- A name that stands ahead of another. -/
def ahead (s : ByteArray) (x : BitVec 64) (t : ByteArray) (y : BitVec 64) : Bool := decide (x.toNat < y.toNat) || (decide (x.toNat = y.toNat) && lS s t)
end Go.Proofs.YtopddflnahfomaaGreatDoor
namespace Go.Proofs.YtopddflnahfomaaGreatDoor
set_option linter.unusedVariables false
open Go.ChangeShapes Go.WideShapes Go.ChangeAt Go.RowKit Go.Deep
/-- What compareNames tells. -/
def cz (s t : ByteArray) (x y : BitVec 64) : Int :=
  if (if x.toNat < y.toNat then (-1 : Int) else if y.toNat < x.toNat then 1 else 0) = 0 then (if lS s t then -1 else if s.toList == t.toList then 0 else 1) else (if x.toNat < y.toNat then (-1 : Int) else if y.toNat < x.toNat then 1 else 0)
theorem or_b (g : Nat) (a b z : Int) (hz : Hid (z = if a = 0 then b else a)) (w : World) (h0 : w.cell? ⟨g, 0, none⟩ = some (.int .i64 a)) (h1 : w.cell? ⟨g, 1, none⟩ = some (.int .i64 b)) :
    Calls Tryz.prog 61 #[.slice (some ⟨g, 0, none⟩) 2 2] w fun e w' => e = .returned (.int .i64 z) ∧ Hid (Below w.heap.size w w') :=
  (or_c g a b z hz w h0 h1).mono fun e w' ⟨h1, h2⟩ => ⟨h1, by rw [h2]; exact Below.refl _ _⟩
set_option maxHeartbeats 2000000 in
set_option maxRecDepth 100000 in
theorem compare_c (s t : ByteArray) (x y : BitVec 64) (w : World) :
    Calls Tryz.prog 37 #[.agg #[.string s, .int .u64 (n64 x)], .agg #[.string t, .int .u64 (n64 y)]] w fun e w' => ∃ z, e = .returned (.int .i64 z) ∧ decide (0 ≤ z) = !ahead s x t y ∧ Hid (z = cz s t x y) ∧ Below w.heap.size w w' := by
  obtain ⟨a, ha⟩ : ∃ a : Int, a = if x.toNat < y.toNat then -1 else if y.toNat < x.toNat then 1 else 0 := ⟨_, rfl⟩
  obtain ⟨b, hb⟩ : ∃ b : Int, b = if lS s t then -1 else if s.toList == t.toList then 0 else 1 := ⟨_, rfl⟩
  obtain ⟨z, hz⟩ : ∃ z : Int, z = if a = 0 then b else a := ⟨_, rfl⟩
  have HA : Hid (a = if x.toNat < y.toNat then -1 else if y.toNat < x.toNat then 1 else 0) := ha
  have HB : Hid (b = if lS s t then -1 else if s.toList == t.toList then 0 else 1) := hb
  have HZ : Hid (z = if a = 0 then b else a) := hz
  have HE : Hid (decide (0 ≤ z) = !ahead s x t y) := by
    unfold Hid ahead
    rw [hz, ha, hb]
    by_cases h1 : x.toNat < y.toNat
    · simp [h1]
    · by_cases h2 : y.toNat < x.toNat
      · have : ¬ x.toNat = y.toNat := by omega
        simp [h1, h2, this]
      · have : x.toNat = y.toNat := by omega
        cases lS s t
        · simp [this]; split <;> simp
        · simp [this]
  have HZC : Hid (z = cz s t x y) := by unfold Hid cz; rw [hz, ha, hb]
  clear ha hb hz
  go_enter Tryz.func37, Tryz.ntmps37
  go_wp2_with fail
  have k0 : ((w.alloc (.cells #[.string s, .int .u64 (n64 x)] 45)).alloc (.cells #[.string t, .int .u64 (n64 y)] 45)).cell? ⟨w.heap.size, 0, none⟩ = some (.string s) := by rw [alloc2_0]; rfl
  have k1 : ((w.alloc (.cells #[.string s, .int .u64 (n64 x)] 45)).alloc (.cells #[.string t, .int .u64 (n64 y)] 45)).cell? ⟨w.heap.size, 1, none⟩ = some (.int .u64 (n64 x)) := by rw [alloc2_0]; rfl
  have k2 : ((w.alloc (.cells #[.string s, .int .u64 (n64 x)] 45)).alloc (.cells #[.string t, .int .u64 (n64 y)] 45)).cell? ⟨w.heap.size + 1, 0, none⟩ = some (.string t) := by rw [alloc2_1]; rfl
  have k3 : ((w.alloc (.cells #[.string s, .int .u64 (n64 x)] 45)).alloc (.cells #[.string t, .int .u64 (n64 y)] 45)).cell? ⟨w.heap.size + 1, 1, none⟩ = some (.int .u64 (n64 y)) := by rw [alloc2_1]; rfl
  have HB2 : Hid (Below w.heap.size w ((w.alloc (.cells #[.string s, .int .u64 (n64 x)] 45)).alloc (.cells #[.string t, .int .u64 (n64 y)] 45))) := ((Below.refl _ _).alloc (Nat.le_refl _) _).alloc (by simp) _
  generalize (w.alloc (.cells #[.string s, .int .u64 (n64 x)] 45)).alloc (.cells #[.string t, .int .u64 (n64 y)] 45) = W2 at *
  refine wp_region_still_tail 10 (by kernel_rfl) (by kernel_rfl) ?_
  change wpStill _ _ W2.drew (fun a' => wpList _ _ _ _ a' W2.drew) _ _
  simp only [List.take_succ_cons, List.take_zero, List.drop_succ_cons, List.drop_zero]
  still_step
  still_step
  still_step
  still_step
  still_call (cmpU_c x y _ a HA)
  still_step
  still_step
  still_step
  still_step
  still_call (cmpS_c s t _ b HB)
  refine wpStill_nil ?_
  go_wp2_with (go_at_call 61; refine (or_b W2.heap.size a b z HZ _ (by simp) (by simp)).mono ?_; rintro e w' ⟨rfl, hbl⟩)
  go_ret
  have h0 := HB2.out.alloc HB2.out.size (.cells #[.int .i64 a, .int .i64 b] 3)
  exact ⟨z, rfl, HE.out, HZC, h0.drew.trans ((show Below _ _ _ from hbl.out).mono (Nat.le_trans HB2.out.size (by simp)))⟩
theorem compare_z (s t : ByteArray) (x y : BitVec 64) (w : World) :
    Calls Tryz.prog 37 #[.agg #[.string s, .int .u64 (n64 x)], .agg #[.string t, .int .u64 (n64 y)]] w fun e w' => e = .returned (.int .i64 (cz s t x y)) ∧ Below w.heap.size w w' := by
  refine (compare_c s t x y w).mono ?_
  rintro e w' ⟨z, rfl, _, h, hb⟩
  exact ⟨by rw [h.out], hb⟩
theorem cz_ahead (s t : ByteArray) (x y : BitVec 64) : decide (0 ≤ cz s t x y) = !ahead s x t y := by
  unfold cz ahead
  by_cases h1 : x.toNat < y.toNat
  · simp [h1]
  · by_cases h2 : y.toNat < x.toNat
    · have : ¬ x.toNat = y.toNat := by omega
      simp [h1, h2, this]
    · have : x.toNat = y.toNat := by omega
      cases lS s t
      · simp [this]; split <;> simp
      · simp [this]
end Go.Proofs.YtopddflnahfomaaGreatDoor
namespace Go.Proofs.YtopddflnahfomaaGreatDoor
set_option linter.unusedVariables false
open Go.ChangeShapes Go.WideShapes Go.ChangeAt Go.RowKit Go.Deep
set_option maxHeartbeats 2000000 in
set_option maxRecDepth 100000 in
/-- compareNames, and that it makes blocks alone. -/
theorem compare_g (s t : ByteArray) (x y : BitVec 64) (w : World) :
    Calls Tryz.prog 37 #[.agg #[.string s, .int .u64 (n64 x)], .agg #[.string t, .int .u64 (n64 y)]] w fun e w' => e = .returned (.int .i64 (cz s t x y)) ∧ ∃ q os', w' = Go.Sort.grow (w.drewN q) os' := by
  obtain ⟨a, ha⟩ : ∃ a : Int, a = if x.toNat < y.toNat then -1 else if y.toNat < x.toNat then 1 else 0 := ⟨_, rfl⟩
  obtain ⟨b, hb⟩ : ∃ b : Int, b = if lS s t then -1 else if s.toList == t.toList then 0 else 1 := ⟨_, rfl⟩
  obtain ⟨z, hz⟩ : ∃ z : Int, z = if a = 0 then b else a := ⟨_, rfl⟩
  have HA : Hid (a = if x.toNat < y.toNat then -1 else if y.toNat < x.toNat then 1 else 0) := ha
  have HB : Hid (b = if lS s t then -1 else if s.toList == t.toList then 0 else 1) := hb
  have HZ : Hid (z = if a = 0 then b else a) := hz
  have HZC : Hid (z = cz s t x y) := by unfold Hid cz; rw [hz, ha, hb]
  clear ha hb hz
  go_enter Tryz.func37, Tryz.ntmps37
  go_wp2_with fail
  have k0 : ((w.alloc (.cells #[.string s, .int .u64 (n64 x)] 45)).alloc (.cells #[.string t, .int .u64 (n64 y)] 45)).cell? ⟨w.heap.size, 0, none⟩ = some (.string s) := by rw [alloc2_0]; rfl
  have k1 : ((w.alloc (.cells #[.string s, .int .u64 (n64 x)] 45)).alloc (.cells #[.string t, .int .u64 (n64 y)] 45)).cell? ⟨w.heap.size, 1, none⟩ = some (.int .u64 (n64 x)) := by rw [alloc2_0]; rfl
  have k2 : ((w.alloc (.cells #[.string s, .int .u64 (n64 x)] 45)).alloc (.cells #[.string t, .int .u64 (n64 y)] 45)).cell? ⟨w.heap.size + 1, 0, none⟩ = some (.string t) := by rw [alloc2_1]; rfl
  have k3 : ((w.alloc (.cells #[.string s, .int .u64 (n64 x)] 45)).alloc (.cells #[.string t, .int .u64 (n64 y)] 45)).cell? ⟨w.heap.size + 1, 1, none⟩ = some (.int .u64 (n64 y)) := by rw [alloc2_1]; rfl
  have HG2 : Hid (∃ os : Array Obj, (w.alloc (.cells #[.string s, .int .u64 (n64 x)] 45)).alloc (.cells #[.string t, .int .u64 (n64 y)] 45) = Go.Sort.grow w os) := ⟨_, by rw [Go.Sort.alloc_eq_grow, Go.Sort.alloc_eq_grow, Go.Sort.grow_grow]⟩
  generalize (w.alloc (.cells #[.string s, .int .u64 (n64 x)] 45)).alloc (.cells #[.string t, .int .u64 (n64 y)] 45) = W2 at *
  refine wp_region_still_tail 10 (by kernel_rfl) (by kernel_rfl) ?_
  change wpStill _ _ W2.drew (fun a' => wpList _ _ _ _ a' W2.drew) _ _
  simp only [List.take_succ_cons, List.take_zero, List.drop_succ_cons, List.drop_zero]
  still_step
  still_step
  still_step
  still_step
  still_call (cmpU_c x y _ a HA)
  still_step
  still_step
  still_step
  still_step
  still_call (cmpS_c s t _ b HB)
  refine wpStill_nil ?_
  go_wp2_with (go_at_call 61; refine (or_c W2.heap.size a b z HZ _ (by simp) (by simp)).mono ?_; rintro e w' ⟨rfl, hw⟩; rw [hw])
  go_ret
  refine ⟨by rw [← HZC.out]; rfl, ?_⟩
  obtain ⟨os, ho⟩ := HG2.out
  rw [ho]
  exact ⟨1, _, by rw [Go.Sort.alloc_eq_grow, Go.Sort.grow_grow]; rfl⟩
theorem lS_lt (s t : ByteArray) : lS s t = decide (s.toList < t.toList) := bytesLess_eq _ _
/-- A name comes ahead of another. -/
def ahS (x y : Sy) : Bool := ahead x.s x.v y.s y.v
theorem ahS_iff (x y : Sy) : ahS x y = true ↔ x.v.toNat < y.v.toNat ∨ (x.v.toNat = y.v.toNat ∧ x.s.toList < y.s.toList) := by
  unfold ahS ahead; rw [lS_lt]; simp
theorem lt_nm (x y : Sy) : ltOf (fun x y : Sy => cz x.s y.s x.v y.v) x y = ahS x y := by
  have q := cz_ahead x.s y.s x.v y.v
  unfold ltOf ahS
  cases h : ahead x.s x.v y.s y.v
  · rw [h] at q; simp at q; simp; omega
  · rw [h] at q; simp at q; simp; omega
theorem ahS_no {x y : Sy} : ahS x y = false ↔ y.v.toNat < x.v.toNat ∨ (x.v.toNat = y.v.toNat ∧ ¬ x.s.toList < y.s.toList) := by
  rw [Bool.eq_false_iff, Ne, ahS_iff]
  constructor
  · intro h
    rcases Nat.lt_trichotomy x.v.toNat y.v.toNat with q | q | q
    · exact absurd (.inl q) h
    · exact .inr ⟨q, fun r => h (.inr ⟨q, r⟩)⟩
    · exact .inl q
  · rintro (q | ⟨q, r⟩) (h | ⟨h, g⟩)
    · omega
    · omega
    · omega
    · exact r g
theorem swo_nm : Go.Sort.SWO (ltOf fun x y : Sy => cz x.s y.s x.v y.v) := by
  refine ⟨fun x => ?_, fun x y z h1 h2 => ?_, fun x y z h1 h2 => ?_⟩
  · rw [lt_nm, ahS_no]; exact .inr ⟨rfl, List.lt_irrefl _⟩
  · rw [lt_nm, ahS_iff] at *
    rcases h1 with h1 | ⟨h1, g1⟩ <;> rcases h2 with h2 | ⟨h2, g2⟩
    · left; omega
    · left; omega
    · left; omega
    · exact .inr ⟨by omega, List.lt_trans g1 g2⟩
  · rw [lt_nm, ahS_no] at *
    rcases h1 with h1 | ⟨h1, g1⟩ <;> rcases h2 with h2 | ⟨h2, g2⟩
    · left; omega
    · left; omega
    · left; omega
    · refine .inr ⟨by omega, ?_⟩
      rw [List.not_lt] at *; exact List.le_trans g2 g1
set_option maxHeartbeats 1000000 in
theorem sortN_c (w : World) (B : Nat) (v : Value) (L : List Sy) (hown : w.ownsRow B 45 2 v L.length (syl L)) (hB : B ≤ w.heap.size) (hl : L.length ≤ 400) :
    Calls Tryz.prog 75 #[v, .func (.func 37) #[] #[]] w fun e w' => e = .returned (.tuple #[]) ∧ ∃ L' : List Sy, L'.Perm L ∧ L'.Pairwise (fun x y => ahS y x = false) ∧ w'.ownsRow B 45 2 v L'.length (syl L') ∧ Below B w w' := by
  by_cases h0 : L = []
  · subst h0
    obtain ⟨p, cap, rfl⟩ : ∃ p cap, v = .slice p 0 cap := by
      rcases Go.Joins.ownsRow_forms hown with ⟨rfl, _⟩ | ⟨g, cap, rfl⟩
      · exact ⟨_, _, rfl⟩
      · exact ⟨_, _, rfl⟩
    have hcon := AnyF.slices_SortFunc_none { Tryz.sortSym with } p cap (.func (.func 37) #[] #[]) w
    change Calls Tryz.prog 75 _ _ _ at hcon
    refine hcon.mono ?_
    rintro e w' ⟨rfl, rfl⟩
    exact ⟨rfl, [], .nil, .nil, hown, Below.refl _ _⟩
  · have hne : 0 < L.length := List.length_pos_iff.2 h0
    obtain ⟨g, cap, rfl⟩ := Go.Joins.ownsRow_form hown hne
    haveI : Inhabited Sy := ⟨syz⟩
    obtain ⟨hH, hBg, hg⟩ := own_holdsK (enc := syv) (fun _ => rfl) hown rfl
    have eg : ∀ args w, (callFunc 37 args).run Tryz.prog w = .ok (.enter 37 args) w := enters_of Tryz.func37 (by kernel_rfl) rfl
    have hcon := AnyQ.slices_SortFunc Tryz.sortSym 2 (fun w => by kernel_rfl) (fun w => by kernel_rfl) syv (fun _ => rfl) (fun x u hu => by simp [syv] at hu; rcases hu with rfl | rfl <;> rfl) (fun x y : Sy => cz x.s y.s x.v y.v) swo_nm 37 #[] g 0 cap L.toArray w eg (fun _ _ _ _ x y => compare_g x.s y.s x.v y.v _) hH hg (by simp; omega)
    change Calls Tryz.prog 75 #[.slice (some ⟨g, 0, none⟩) L.length cap, .func (.func 37) #[] #[]] _ _ at hcon
    refine hcon.mono ?_
    rintro e w' ⟨rfl, d, n, os, hp, hs, rfl⟩
    obtain ⟨p1, p2⟩ := permIn_list hp
    have s1 := sortedIn_list p2 (by simpa using hs)
    refine ⟨rfl, d.toList, p1, s1.imp (fun {x y} q => by rw [← lt_nm]; exact q), ?_, below_sortWorldK hBg hB⟩
    have e1 : d.toList.length = L.length := by simpa using p2
    rw [e1]
    exact own_sortWorldK (enc := syv) (fun _ => rfl) hown p2
end Go.Proofs.YtopddflnahfomaaGreatDoor
namespace Go.Proofs.YtopddflnahfomaaGreatDoor
set_option linter.unusedVariables false
open Go.ChangeShapes Go.WideShapes Go.ChangeAt Go.RowKit Go.Deep
/-- Two names are one. -/
def eqS (x y : Sy) : Bool := x.s.toList == y.s.toList && n64 x.v == n64 y.v
theorem eq_sym : EqlAt Tryz.prog 45 (fun x : Sy => .agg (syv x).toArray) eqS := by
  refine ⟨fun x y w => ?_, GuardAt.agg _ (by kernel_rfl)⟩
  have u3 := Tryz.underlying9
  have a3 := Tryz.isAgg9
  have z3 := Tryz.sizeOf9
  have u4 := Tryz.underlying22
  have a4 := Tryz.isAgg22
  have z4 := Tryz.sizeOf22
  have hS : Tryz.prog.underlying 45 = some (.struct (Tryz.prog.fieldsOf 45)) := by kernel_rfl
  have hp : Tryz.prog.stoodInHeld 45 = false := by kernel_rfl
  simp only [syv, eqS]
  rw [run_eql_struct, show (10000 : Nat) = 9999 + 1 from rfl, run_equalIn_agg w 9999 45 _ _ hS hp]
  simp only [Program.fieldsOf, Tryz.underlying45]
  go_simp
  by_cases h1 : x.s.toList = y.s.toList <;> by_cases h2 : n64 x.v = n64 y.v <;> simp [h1, h2]
set_option maxHeartbeats 1000000 in
theorem index0_c (p : Option Addr) (c : Nat) (s : ByteArray) (v : Int) (w : World) :
    Calls Tryz.prog 90 #[.slice p 0 c, .agg #[.string s, .int .u64 v]] w fun e w' => e = .returned (.int .i64 (-1)) ∧ Below w.heap.size w w' := by
  have HB : Hid (Below w.heap.size w (w.alloc (.cells #[.string s, .int .u64 v] 45))) := (Below.refl _ _).alloc (Nat.le_refl _) _
  go_enter Tryz.func90, Tryz.ntmps90
  go_wp2
  refine wp_loop_rounds 1 ?_
  rw [rounds_succ]
  go_wp2
  go_ret
  exact ⟨rfl, HB.out⟩
set_option maxHeartbeats 1000000 in
theorem hasN_c (v : Value) (N : List Sy) (x : Sy) (w : World) (hs : Sys w v N) (hl : N.length ≤ 400) :
    Calls Tryz.prog 74 #[v, .agg #[.string x.s, .int .u64 (n64 x.v)]] w fun e w' => e = .returned (.bool (N.any (eqS x))) ∧ Below w.heap.size w w' := by
  obtain ⟨ad, cap, rfl, h1, h2⟩ := hs
  by_cases h0 : N = []
  · subst h0
    have HI := fun W => index0_c ad cap x.s (n64 x.v) W
    have HB : Hid (Below w.heap.size w (w.alloc (.cells #[.string x.s, .int .u64 (n64 x.v)] 45))) := (Below.refl _ _).alloc (Nat.le_refl _) _
    have hk0 : (w.alloc (.cells #[.string x.s, .int .u64 (n64 x.v)] 45)).cell? ⟨w.heap.size, 0, none⟩ = some (.string x.s) := by simp
    have hk1 : (w.alloc (.cells #[.string x.s, .int .u64 (n64 x.v)] 45)).cell? ⟨w.heap.size, 1, none⟩ = some (.int .u64 (n64 x.v)) := by simp
    change Calls Tryz.prog 74 #[.slice ad 0 cap, .agg #[.string x.s, .int .u64 (n64 x.v)]] w fun e w' => e = .returned (.bool false) ∧ Below w.heap.size w w'
    go_enter Tryz.func74, Tryz.ntmps74
    go_wp2_with (go_at_call 90; refine (HI _).mono ?_; rintro e w2 ⟨rfl, hb⟩; have HB2 : Hid (Below w.heap.size w w2) := HB.out.trans (hb.mono HB.out.size); clear hb)
    go_ret
    exact ⟨rfl, HB2.out⟩
  · obtain ⟨g, off, rfl, hg, hc⟩ := h2 h0
    haveI : Inhabited Sy := ⟨syz⟩
    have hcon := AnyQ.slices_Contains Tryz.hasSym 2 (fun w => by kernel_rfl) (fun w => by kernel_rfl) syv (fun _ => rfl) eqS eq_sym g off N.length cap N x w (Nat.le_refl _) (by omega) (fun j hj i u hu => by
      obtain ⟨c0, c1⟩ := hc j hj
      have e : N[j]! = sy N j := by unfold sy; simp [hj]
      rw [e] at hu
      match i, hu with
      | 0, hu => rw [Nat.add_zero, c0]; exact hu
      | 1, hu => rw [c1]; exact hu
      | i + 2, hu => simp [syv] at hu)
    rw [List.take_length] at hcon
    exact hcon
end Go.Proofs.YtopddflnahfomaaGreatDoor
namespace Go.Proofs.YtopddflnahfomaaGreatDoor
set_option linter.unusedVariables false
open Go.RowKit Go.Shelf Go.Lib
/-- The tables of the library, as their initialisers lay them. -/
def Tabs (w : World) : Prop :=
  Lib.TabIs Tryz.prog w "unicode.properties" .u8 Lib.propertiesTab ∧ RVar (Tryz.laysLetter_ren.g 8) letterT w ∧ Lib.Utf8Tabs (Tryz.laysValid_ren.g 3) (Tryz.laysValid_ren.g 4) w
theorem Tabs.below {w w' : World} (h : Tabs w) {B : Nat} (hb : Below B w w') (hB : B = w.heap.size) : Tabs w' := by
  subst hB
  exact ⟨TabIs_below (g := Tryz.laysLetter_ren.g 7) (by kernel_rfl) h.1 hb, RVar_below h.2.1 hb, Utf8Tabs_below h.2.2 hb⟩
/-- A rune that can stand in a name; one that can't stand ahead. -/
def rk (L : Bool) (r : Int) : Bool := L || (decide (48 ≤ r) && decide (r ≤ 57)) || r == 95 || r == 46 || r == 36
def fk (r : Int) : Bool := (decide (48 ≤ r) && decide (r ≤ 57)) || r == 36
def okr (s : ByteArray) (pos : Nat) : Bool := rk (isLetterU (Utf8.decode s pos).1) (Utf8.decode s pos).1 && !(pos == 0 && fk (Utf8.decode s pos).1)
/-- All runes from a place on, by at most so many. -/
def okFrom (s : ByteArray) : Nat → Nat → Bool
  | 0, _ => true
  | f + 1, pos => if pos < s.size then okr s pos && okFrom s f (pos + (Utf8.decode s pos).2) else true
def nm (s : ByteArray) : Bool := Lib.validD s.data.toList && (okFrom s s.size 0 && (decide (1 ≤ Lib.runeCount s) && decide (Lib.runeCount s ≤ 40)))
theorem okFrom_end (s : ByteArray) (f pos : Nat) (h : ¬ pos < s.size) : okFrom s f pos = true := by cases f <;> simp [okFrom, h]
theorem cls (r : Int) : (48 ≤ r ∧ r ≤ 57) ∨ r = 95 ∨ r = 46 ∨ r = 36 ∨ (r < 48 ∧ r ≠ 46 ∧ r ≠ 36) ∨ (57 < r ∧ r ≠ 95) := by omega
theorem letter_c (r : Int) (w : World) (hlo : -2147483648 ≤ r) (hhi : r ≤ 2147483647) (hT : Tabs w) (L : Bool) (hL : Hid (L = isLetterU r)) :
    Calls Tryz.prog 77 #[.int .i32 r] w fun e w' => e = .returned (.bool L) ∧ Hid (Below w.heap.size w w') := by
  rw [hL.out]; exact Any.unicode_IsLetter_all Tryz.laysLetter (by kernel_rfl) r w hlo hhi hT.1 hT.2.1
theorem valid_c (s : ByteArray) (w : World) (hs : s.size ≤ 9223372036854775807) (hT : Tabs w) (V : Bool) (hV : Hid (V = Lib.validD s.data.toList)) :
    Calls Tryz.prog 57 #[.string s] w fun e w' => e = .returned (.bool V) ∧ Hid (Below w.heap.size w w') := by
  rw [hV.out]; exact Any.utf8_ValidString Tryz.laysValid s w hs hT.2.2
theorem count_c (s : ByteArray) (w : World) (hs : s.size < 9223372036854775807) (C : Int) (hC : Hid (C = Lib.runeCount s)) :
    Calls Tryz.prog 58 #[.string s] w fun e w' => e = .returned (.int .i64 C) ∧ Hid (Below w.heap.size w w') := by
  rw [hC.out]
  refine (Any.utf8_RuneCountInString Tryz.laysCount s w hs).mono ?_
  rintro e w' ⟨rfl, pos, rfl⟩
  exact ⟨rfl, (Below.refl _ _).alloc (Nat.le_refl _) _⟩
theorem digit_c (r : Int) (w : World) (D : Bool) (hD : Hid (D = (decide (48 ≤ r) && decide (r ≤ 57)))) :
    Calls Tryz.prog 60 #[.int .i32 r] w fun e w' => e = .returned (.bool D) ∧ w = w' := by
  have hd := hD.out
  by_cases h1 : 48 ≤ r
  · by_cases h2 : r ≤ 57
    · simp [h1, h2] at hd
      subst hd
      clear hD
      go_enter Tryz.func60, Tryz.ntmps60
      go_wp2
      go_ret
      exact ⟨rfl, rfl⟩
    · have h3 : 57 < r := by omega
      simp [h1, h2] at hd
      subst hd
      have h4 : decide (r ≤ 57) = false := decide_eq_false h2
      clear hD h2
      go_enter Tryz.func60, Tryz.ntmps60
      go_wp2
      go_ret
      exact ⟨rfl, rfl⟩
  · have h3 : r < 48 := by omega
    simp [h1] at hd
    subst hd
    clear hD h1
    go_enter Tryz.func60, Tryz.ntmps60
    go_wp2
    go_ret
    exact ⟨rfl, rfl⟩
set_option maxHeartbeats 1000000 in
theorem rune_c (r : Int) (w : World) (hlo : -2147483648 ≤ r) (hhi : r ≤ 2147483647) (hT : Tabs w) (L K : Bool) (hL : Hid (L = isLetterU r)) (hK : Hid (K = rk L r)) :
    Calls Tryz.prog 59 #[.int .i32 r] w fun e w' => e = .returned (.bool K) ∧ Hid (Below w.heap.size w w') := by
  have cL := letter_c r w hlo hhi hT L hL
  have cD := fun w' (D : Bool) (hD : Hid (D = (decide (48 ≤ r) && decide (r ≤ 57)))) => digit_c r w' D hD
  have hk := hK.out
  cases L with
  | true =>
    obtain rfl : K = true := by rw [hk]; simp [rk]
    clear cD hk hK
    go_enter Tryz.func59, Tryz.ntmps59
    go_wp2_with (go_at_call 77; refine cL.mono ?_; rintro e w1 ⟨rfl, hb⟩)
    go_ret
    exact ⟨rfl, hb⟩
  | false =>
    rcases cls r with ⟨h1, h2⟩ | rfl | rfl | rfl | ⟨h1, h2, h3⟩ | ⟨h1, h2⟩
    · skip
      obtain rfl : K = true := by rw [hk]; simp [rk]; try omega
      have cD' := fun w' => cD w' true (by unfold Hid; simp; try omega)
      clear cD hk hK
      go_enter Tryz.func59, Tryz.ntmps59
      go_wp2_with (first | (go_at_call 77; refine cL.mono ?_; rintro e w1 ⟨rfl, hb⟩) | (go_at_call 60; refine (cD' _).mono ?_; rintro e w2 ⟨rfl, rfl⟩))
      go_ret
      exact ⟨rfl, hb⟩
    · skip
      obtain rfl : K = true := by rw [hk]; simp [rk]; try omega
      have cD' := fun w' => cD w' false (by unfold Hid; simp; try omega)
      clear cD hk hK
      go_enter Tryz.func59, Tryz.ntmps59
      go_wp2_with (first | (go_at_call 77; refine cL.mono ?_; rintro e w1 ⟨rfl, hb⟩) | (go_at_call 60; refine (cD' _).mono ?_; rintro e w2 ⟨rfl, rfl⟩))
      go_ret
      exact ⟨rfl, hb⟩
    · skip
      obtain rfl : K = true := by rw [hk]; simp [rk]; try omega
      have cD' := fun w' => cD w' false (by unfold Hid; simp; try omega)
      clear cD hk hK
      go_enter Tryz.func59, Tryz.ntmps59
      go_wp2_with (first | (go_at_call 77; refine cL.mono ?_; rintro e w1 ⟨rfl, hb⟩) | (go_at_call 60; refine (cD' _).mono ?_; rintro e w2 ⟨rfl, rfl⟩))
      go_ret
      exact ⟨rfl, hb⟩
    · skip
      obtain rfl : K = true := by rw [hk]; simp [rk]; try omega
      have cD' := fun w' => cD w' false (by unfold Hid; simp; try omega)
      clear cD hk hK
      go_enter Tryz.func59, Tryz.ntmps59
      go_wp2_with (first | (go_at_call 77; refine cL.mono ?_; rintro e w1 ⟨rfl, hb⟩) | (go_at_call 60; refine (cD' _).mono ?_; rintro e w2 ⟨rfl, rfl⟩))
      go_ret
      exact ⟨rfl, hb⟩
    · skip
      have e1 : (r == 95) = false := by simp; omega
      have e2 : (r == 46) = false := by simp; omega
      have e3 : (r == 36) = false := by simp; omega
      obtain rfl : K = false := by rw [hk]; simp [rk]; try omega
      have cD' := fun w' => cD w' false (by unfold Hid; simp; try omega)
      clear cD hk hK
      go_enter Tryz.func59, Tryz.ntmps59
      go_wp2_with (first | (go_at_call 77; refine cL.mono ?_; rintro e w1 ⟨rfl, hb⟩) | (go_at_call 60; refine (cD' _).mono ?_; rintro e w2 ⟨rfl, rfl⟩))
      go_ret
      exact ⟨rfl, hb⟩
    · skip
      have e1 : (r == 95) = false := by simp; omega
      have e2 : (r == 46) = false := by simp; omega
      have e3 : (r == 36) = false := by simp; omega
      obtain rfl : K = false := by rw [hk]; simp [rk]; try omega
      have cD' := fun w' => cD w' false (by unfold Hid; simp; try omega)
      clear cD hk hK
      go_enter Tryz.func59, Tryz.ntmps59
      go_wp2_with (first | (go_at_call 77; refine cL.mono ?_; rintro e w1 ⟨rfl, hb⟩) | (go_at_call 60; refine (cD' _).mono ?_; rintro e w2 ⟨rfl, rfl⟩))
      go_ret
      exact ⟨rfl, hb⟩
end Go.Proofs.YtopddflnahfomaaGreatDoor
