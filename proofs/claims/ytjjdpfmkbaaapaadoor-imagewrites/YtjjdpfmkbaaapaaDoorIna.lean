/-
  Names: which runes, and the two walks over a text.
-/
import Derived.Test.YtjjdpfmkbaaapaaDoorRows
import Derived.Test.YtjjdpfmkbaaapaaDoorShelf
import Derived.WalkKit
import Derived.WalkMore
import Derived.ProofKit
import Derived.Below
import Derived.Lib.OthersKept
import Derived.WalkSmall
namespace Go.Proofs.YtjjdpfmkbaaapaaDoor
set_option linter.unusedVariables false
open Go.RowKit Go.Shelf Go.Lib
/-- The tables of the library, as their initialisers lay them. -/
def Tabs (w : World) : Prop :=
  Lib.TabIs Tryd.prog w "unicode.properties" .u8 Lib.propertiesTab ∧ RVar (Tryd.laysLetter_ren.g 8) letterT w ∧ Lib.Utf8Tabs (Tryd.laysValid_ren.g 3) (Tryd.laysValid_ren.g 4) w
theorem Tabs.below {w w' : World} (h : Tabs w) {B : Nat} (hb : Below B w w') (hB : B = w.heap.size) : Tabs w' := by
  subst hB
  exact ⟨TabIs_below (g := Tryd.laysLetter_ren.g 7) (by kernel_rfl) h.1 hb, RVar_below h.2.1 hb, Utf8Tabs_below h.2.2 hb⟩
/-- A rune that can stand in a name; one that can't stand ahead. -/
def rk (L : Bool) (r : Int) : Bool := L || (decide (48 ≤ r) && decide (r ≤ 57)) || r == 95 || r == 46 || r == 36
def fk (r : Int) : Bool := (decide (48 ≤ r) && decide (r ≤ 57)) || r == 36
def okr (s : ByteArray) (pos : Nat) : Bool := rk (isLetterU (Utf8.decode s pos).1) (Utf8.decode s pos).1 && !(pos == 0 && fk (Utf8.decode s pos).1)
/-- All runes from a place on, by at most so many. -/
def okFrom (s : ByteArray) : Nat → Nat → Bool
  | 0, _ => true
  | f + 1, pos => if pos < s.size then okr s pos && okFrom s f (pos + (Utf8.decode s pos).2) else true
def nm (s : ByteArray) : Bool := Lib.validD s.data.toList && (okFrom s s.size 0 && (decide (1 ≤ Lib.runeCount s) && decide (Lib.runeCount s ≤ 40)))
theorem okFrom_end (s : ByteArray) (f pos : Nat) (h : ¬ pos < s.size) : okFrom s f pos = true := by cases f <;> simp [okFrom, h]
theorem cls (r : Int) : (48 ≤ r ∧ r ≤ 57) ∨ r = 95 ∨ r = 46 ∨ r = 36 ∨ (r < 48 ∧ r ≠ 46 ∧ r ≠ 36) ∨ (57 < r ∧ r ≠ 95) := by omega
theorem letter_c (r : Int) (w : World) (hlo : -2147483648 ≤ r) (hhi : r ≤ 2147483647) (hT : Tabs w) (L : Bool) (hL : Hid (L = isLetterU r)) :
    Calls Tryd.prog 42 #[.int .i32 r] w fun e w' => e = .returned (.bool L) ∧ Hid (Below w.heap.size w w') := by
  rw [hL.out]; exact Any.unicode_IsLetter_all Tryd.laysLetter (by kernel_rfl) r w hlo hhi hT.1 hT.2.1
theorem valid_c (s : ByteArray) (w : World) (hs : s.size ≤ 9223372036854775807) (hT : Tabs w) (V : Bool) (hV : Hid (V = Lib.validD s.data.toList)) :
    Calls Tryd.prog 41 #[.string s] w fun e w' => e = .returned (.bool V) ∧ Hid (Below w.heap.size w w') := by
  rw [hV.out]; exact Any.utf8_ValidString Tryd.laysValid s w hs hT.2.2
theorem count_c (s : ByteArray) (w : World) (hs : s.size < 9223372036854775807) (C : Int) (hC : Hid (C = Lib.runeCount s)) :
    Calls Tryd.prog 43 #[.string s] w fun e w' => e = .returned (.int .i64 C) ∧ Hid (Below w.heap.size w w') := by
  rw [hC.out]
  refine (Any.utf8_RuneCountInString Tryd.laysCount s w hs).mono ?_
  rintro e w' ⟨rfl, pos, rfl⟩
  exact ⟨rfl, (Below.refl _ _).alloc (Nat.le_refl _) _⟩
theorem digit_c (r : Int) (w : World) (D : Bool) (hD : Hid (D = (decide (48 ≤ r) && decide (r ≤ 57)))) :
    Calls Tryd.prog 45 #[.int .i32 r] w fun e w' => e = .returned (.bool D) ∧ w = w' := by
  have hd := hD.out
  by_cases h1 : 48 ≤ r
  · by_cases h2 : r ≤ 57
    · simp [h1, h2] at hd
      subst hd
      clear hD
      go_enter Tryd.func45, Tryd.ntmps45
      go_wp2
      go_ret
      exact ⟨rfl, rfl⟩
    · have h3 : 57 < r := by omega
      simp [h1, h2] at hd
      subst hd
      have h4 : decide (r ≤ 57) = false := decide_eq_false h2
      clear hD h2
      go_enter Tryd.func45, Tryd.ntmps45
      go_wp2
      go_ret
      exact ⟨rfl, rfl⟩
  · have h3 : r < 48 := by omega
    simp [h1] at hd
    subst hd
    clear hD h1
    go_enter Tryd.func45, Tryd.ntmps45
    go_wp2
    go_ret
    exact ⟨rfl, rfl⟩
set_option maxHeartbeats 1000000 in
theorem rune_c (r : Int) (w : World) (hlo : -2147483648 ≤ r) (hhi : r ≤ 2147483647) (hT : Tabs w) (L K : Bool) (hL : Hid (L = isLetterU r)) (hK : Hid (K = rk L r)) :
    Calls Tryd.prog 44 #[.int .i32 r] w fun e w' => e = .returned (.bool K) ∧ Hid (Below w.heap.size w w') := by
  have cL := letter_c r w hlo hhi hT L hL
  have cD := fun w' (D : Bool) (hD : Hid (D = (decide (48 ≤ r) && decide (r ≤ 57)))) => digit_c r w' D hD
  have hk := hK.out
  cases L with
  | true =>
    obtain rfl : K = true := by rw [hk]; simp [rk]
    clear cD hk hK
    go_enter Tryd.func44, Tryd.ntmps44
    go_wp2_with (go_at_call 42; refine cL.mono ?_; rintro e w1 ⟨rfl, hb⟩)
    go_ret
    exact ⟨rfl, hb⟩
  | false =>
    rcases cls r with ⟨h1, h2⟩ | rfl | rfl | rfl | ⟨h1, h2, h3⟩ | ⟨h1, h2⟩
    · skip
      obtain rfl : K = true := by rw [hk]; simp [rk]; try omega
      have cD' := fun w' => cD w' true (by unfold Hid; simp; try omega)
      clear cD hk hK
      go_enter Tryd.func44, Tryd.ntmps44
      go_wp2_with (first | (go_at_call 42; refine cL.mono ?_; rintro e w1 ⟨rfl, hb⟩) | (go_at_call 45; refine (cD' _).mono ?_; rintro e w2 ⟨rfl, rfl⟩))
      go_ret
      exact ⟨rfl, hb⟩
    · skip
      obtain rfl : K = true := by rw [hk]; simp [rk]; try omega
      have cD' := fun w' => cD w' false (by unfold Hid; simp; try omega)
      clear cD hk hK
      go_enter Tryd.func44, Tryd.ntmps44
      go_wp2_with (first | (go_at_call 42; refine cL.mono ?_; rintro e w1 ⟨rfl, hb⟩) | (go_at_call 45; refine (cD' _).mono ?_; rintro e w2 ⟨rfl, rfl⟩))
      go_ret
      exact ⟨rfl, hb⟩
    · skip
      obtain rfl : K = true := by rw [hk]; simp [rk]; try omega
      have cD' := fun w' => cD w' false (by unfold Hid; simp; try omega)
      clear cD hk hK
      go_enter Tryd.func44, Tryd.ntmps44
      go_wp2_with (first | (go_at_call 42; refine cL.mono ?_; rintro e w1 ⟨rfl, hb⟩) | (go_at_call 45; refine (cD' _).mono ?_; rintro e w2 ⟨rfl, rfl⟩))
      go_ret
      exact ⟨rfl, hb⟩
    · skip
      obtain rfl : K = true := by rw [hk]; simp [rk]; try omega
      have cD' := fun w' => cD w' false (by unfold Hid; simp; try omega)
      clear cD hk hK
      go_enter Tryd.func44, Tryd.ntmps44
      go_wp2_with (first | (go_at_call 42; refine cL.mono ?_; rintro e w1 ⟨rfl, hb⟩) | (go_at_call 45; refine (cD' _).mono ?_; rintro e w2 ⟨rfl, rfl⟩))
      go_ret
      exact ⟨rfl, hb⟩
    · skip
      have e1 : (r == 95) = false := by simp; omega
      have e2 : (r == 46) = false := by simp; omega
      have e3 : (r == 36) = false := by simp; omega
      obtain rfl : K = false := by rw [hk]; simp [rk]; try omega
      have cD' := fun w' => cD w' false (by unfold Hid; simp; try omega)
      clear cD hk hK
      go_enter Tryd.func44, Tryd.ntmps44
      go_wp2_with (first | (go_at_call 42; refine cL.mono ?_; rintro e w1 ⟨rfl, hb⟩) | (go_at_call 45; refine (cD' _).mono ?_; rintro e w2 ⟨rfl, rfl⟩))
      go_ret
      exact ⟨rfl, hb⟩
    · skip
      have e1 : (r == 95) = false := by simp; omega
      have e2 : (r == 46) = false := by simp; omega
      have e3 : (r == 36) = false := by simp; omega
      obtain rfl : K = false := by rw [hk]; simp [rk]; try omega
      have cD' := fun w' => cD w' false (by unfold Hid; simp; try omega)
      clear cD hk hK
      go_enter Tryd.func44, Tryd.ntmps44
      go_wp2_with (first | (go_at_call 42; refine cL.mono ?_; rintro e w1 ⟨rfl, hb⟩) | (go_at_call 45; refine (cD' _).mono ?_; rintro e w2 ⟨rfl, rfl⟩))
      go_ret
      exact ⟨rfl, hb⟩
end Go.Proofs.YtjjdpfmkbaaapaaDoor
