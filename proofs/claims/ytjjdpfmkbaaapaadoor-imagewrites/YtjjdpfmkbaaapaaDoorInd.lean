/-
  The order of names: compareNames of the program, behind of the reference.
-/
import Derived.Test.YtjjdpfmkbaaapaaDoorNum
import Derived.Test.YtjjdpfmkbaaapaaDoorMem
import Derived.WalkSmall
import Derived.Deep.RegionWith
namespace Go.Proofs.YtjjdpfmkbaaapaaDoor
set_option linter.unusedVariables false
open Go.ChangeShapes Go.WideShapes Go.ChangeAt Go.RowKit Go.Deep
/-- The order of texts, as Go has it. -/
def lS (s t : ByteArray) : Bool := Op.bytesLess s.toList t.toList
theorem less_tri : ∀ x y : List UInt8, Op.bytesLess x y = (!Op.bytesLess y x && !(y == x))
  | [], [] => rfl
  | [], _ :: _ => rfl
  | _ :: _, [] => rfl
  | a :: x, b :: y => by
    have ih := less_tri x y
    have e0 : ((b :: y) == (a :: x)) = ((b == a) && (y == x)) := rfl
    rw [e0]
    unfold Op.bytesLess
    rcases Nat.lt_trichotomy a.toNat b.toNat with h | h | h
    · have h1 : a < b := UInt8.lt_iff_toNat_lt.2 h
      have h2 : ¬ b < a := fun q => by have := UInt8.lt_iff_toNat_lt.1 q; omega
      have h3 : (b == a) = false := by rw [Bool.eq_false_iff]; intro q; have := eq_of_beq q; rw [this] at h; omega
      simp [h1, h2, h3]
    · have h0 : a = b := UInt8.toNat_inj.1 h
      subst h0
      have h1 : ¬ a < a := fun q => by have := UInt8.lt_iff_toNat_lt.1 q; omega
      simp [h1]
      exact ih
    · have h1 : b < a := UInt8.lt_iff_toNat_lt.2 h
      have h2 : ¬ a < b := fun q => by have := UInt8.lt_iff_toNat_lt.1 q; omega
      have h3 : (a == b) = false := by rw [Bool.eq_false_iff]; intro q; have := eq_of_beq q; rw [this] at h; omega
      simp [h1, h2, h3]
theorem cmpU_c (x y : BitVec 64) (w : World) (z : Int) (hz : Hid (z = if x.toNat < y.toNat then -1 else if y.toNat < x.toNat then 1 else 0)) :
    Calls Tryd.prog 47 #[.int .u64 (n64 x), .int .u64 (n64 y)] w fun e w' => e = .returned (.int .i64 z) ∧ w' = w := by
  have hzz := hz.out
  by_cases h1 : x.toNat < y.toNat
  · rw [if_pos h1] at hzz
    subst hzz
    have g : n64 x < n64 y := by unfold n64; omega
    clear hz h1
    go_enter Tryd.func47, Tryd.ntmps47
    go_wp2
    go_ret
    exact ⟨rfl, rfl⟩
  · rw [if_neg h1] at hzz
    have g : n64 y ≤ n64 x := by unfold n64; omega
    by_cases h2 : y.toNat < x.toNat
    · rw [if_pos h2] at hzz
      subst hzz
      have g2 : n64 y < n64 x := by unfold n64; omega
      clear hz h1 h2 g
      go_enter Tryd.func47, Tryd.ntmps47
      go_wp2
      go_ret
      exact ⟨rfl, rfl⟩
    · rw [if_neg h2] at hzz
      subst hzz
      have g2 : n64 x ≤ n64 y := by unfold n64; omega
      clear hz h1 h2
      go_enter Tryd.func47, Tryd.ntmps47
      go_wp2
      go_ret
      exact ⟨rfl, rfl⟩
theorem cmpS_c (s t : ByteArray) (w : World) (z : Int) (hz : Hid (z = if lS s t then -1 else if s.toList == t.toList then 0 else 1)) :
    Calls Tryd.prog 48 #[.string s, .string t] w fun e w' => e = .returned (.int .i64 z) ∧ w' = w := by
  have hzz := hz.out
  unfold lS at hzz
  cases h1 : Op.bytesLess s.toList t.toList with
  | true =>
    rw [h1] at hzz
    simp only [if_true] at hzz
    subst hzz
    clear hz
    go_enter Tryd.func48, Tryd.ntmps48
    go_wp2
    go_ret
    exact ⟨rfl, rfl⟩
  | false =>
    rw [h1] at hzz
    cases h2 : (s.toList == t.toList) with
    | true =>
      rw [h2] at hzz
      simp only [if_true, Bool.false_eq_true, if_false] at hzz
      subst hzz
      clear hz
      go_enter Tryd.func48, Tryd.ntmps48
      go_wp2
      go_ret
      exact ⟨rfl, rfl⟩
    | false =>
      rw [h2] at hzz
      simp only [Bool.false_eq_true, if_false] at hzz
      subst hzz
      clear hz
      go_enter Tryd.func48, Tryd.ntmps48
      go_wp2
      go_ret
      exact ⟨rfl, rfl⟩
set_option maxHeartbeats 1000000 in
theorem or_c (g : Nat) (a b z : Int) (hz : Hid (z = if a = 0 then b else a)) (w : World) (h0 : w.cell? ⟨g, 0, none⟩ = some (.int .i64 a)) (h1 : w.cell? ⟨g, 1, none⟩ = some (.int .i64 b)) :
    Calls Tryd.prog 46 #[.slice (some ⟨g, 0, none⟩) 2 2] w fun e w' => e = .returned (.int .i64 z) ∧ w' = w := by
  go_enter Tryd.func46, Tryd.ntmps46
  go_wp2
  go_loopw [8] (fun i wr => Hid (i = .int .i64 0 ∨ (i = .int .i64 1 ∧ a = 0) ∨ (i = .int .i64 2 ∧ a = 0 ∧ b = 0)) ∧ wr = w) (fun i _ => 2 - (intOf i).toNat)
  case atStart => exact ⟨.inl rfl, rfl⟩
  case round =>
    obtain ⟨hi, rfl⟩ := hrel
    rcases hi.out with rfl | ⟨rfl, ha⟩ | ⟨rfl, ha, hb⟩
    · clear hi
      by_cases ha : a = 0
      · have HA : Hid (a = 0) := ha
        have ha' : (a != 0) = false := by simp [ha]
        clear ha
        go_wp2
        go_roundw
        case rel => exact ⟨.inr (.inl ⟨rfl, HA.out⟩), trivial⟩
        case measure => simp [intOf]
      · have HA : Hid (z = a) := by unfold Hid; rw [hz.out, if_neg ha]
        have ha' : (a != 0) = true := by simp [ha]
        clear ha
        go_wp2
        go_ret
        exact ⟨by rw [HA.out]; rfl, rfl⟩
    · have HA : Hid (a = 0) := ha
      clear hi ha
      by_cases hb : b = 0
      · have HB : Hid (b = 0) := hb
        have hb' : (b != 0) = false := by simp [hb]
        clear hb
        go_wp2
        go_roundw
        case rel => exact ⟨.inr (.inr ⟨rfl, HA.out, HB.out⟩), trivial⟩
        case measure => simp [intOf]
      · have HB : Hid (z = b) := by unfold Hid; rw [hz.out, if_pos HA.out]
        have hb' : (b != 0) = true := by simp [hb]
        clear hb
        go_wp2
        go_ret
        exact ⟨by rw [HB.out]; rfl, rfl⟩
    · have HB : Hid (z = 0) := by unfold Hid; rw [hz.out, if_pos ha, hb]
      clear hi ha hb
      go_wp2
      go_ret
      exact ⟨by rw [HB.out]; rfl, rfl⟩
/-- A name that stands ahead of another. -/
def ahead (s : ByteArray) (x : BitVec 64) (t : ByteArray) (y : BitVec 64) : Bool := decide (x.toNat < y.toNat) || (decide (x.toNat = y.toNat) && lS s t)
end Go.Proofs.YtjjdpfmkbaaapaaDoor
