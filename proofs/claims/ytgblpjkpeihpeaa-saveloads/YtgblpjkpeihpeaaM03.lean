/-
  Bpa.
-/
import Derived.Test.YtgblpjkpeihpeaaM02
namespace Go.Proofs.Ytgblpjkpeihpeaa
set_option linter.unusedVariables false
open Go.ChangeShapes Go.WideShapes Go.ChangeAt Go.RowKit Go.Deep
/-- All that a bus keeps. -/
structure St where
  ram : List Int
  msip : Int
  cmp : Int
  time : Int
  ext : Bool
  soft : Bool
  ier : Int
  lcr : Int
  mcr : Int
  scr : Int
  ov : Bool
  inp : List Int
  out : List Int
  off : Int
  code : Int
/-- Its cells, the lists being these values. -/
def stc (S : St) (vr vi vo : Value) : Array Value := #[vr, .int .u32 S.msip, .int .u64 S.cmp, .int .u64 S.time, .bool S.ext, .bool S.soft, .int .u8 S.ier, .int .u8 S.lcr, .int .u8 S.mcr, .int .u8 S.scr, .bool S.ov, vi, vo, .int .i64 S.off, .int .i64 S.code]
def ramOk (n : Nat) : Bool := decide (8 ≤ (n : Int)) && decide ((n : Int) ≤ 65536) && ((n : Int) % 8 == 0)
def powOk (off code : Int) : Bool := if off = 0 ∨ off = 1 then code == 0 else if off = 2 then decide (0 ≤ code) && decide (code ≤ 65535) else false
def St.ok (S : St) : Bool := ramOk S.ram.length && decide (S.msip ≤ 1) && decide (S.ier ≤ 15) && decide (S.mcr ≤ 31) && decide ((S.inp.length : Int) ≤ 64) && decide ((S.out.length : Int) ≤ 4096) && powOk S.off S.code
theorem isRamSize_c (n : Nat) (w : World) : Calls Try.prog 64 #[.int .i64 n] w fun e w' => e = .returned (.bool (ramOk n)) ∧ w' = w := by
  unfold ramOk
  by_cases h1 : 8 ≤ (n : Int)
  · by_cases h2 : (n : Int) ≤ 65536
    · have hm : (n : Int).tmod 8 = (n : Int) % 8 := Int.tmod_eq_emod_of_nonneg (by omega)
      go_enter Try.func64, Try.ntmps64
      go_wp2
      go_ret
      simp [h1, h2]
    · have h2' : (65536 : Int) < n := by omega
      go_enter Try.func64, Try.ntmps64
      go_wp2
      go_ret
      simp
      omega
  · have h1' : (n : Int) < 8 := by omega
    go_enter Try.func64, Try.ntmps64
    go_wp2
    go_ret
    simp
    omega
theorem isPower_c (off code : Int) (w : World) : Calls Try.prog 65 #[.int .i64 off, .int .i64 code] w fun e w' => e = .returned (.bool (powOk off code)) ∧ w' = w := by
  unfold powOk
  by_cases h0 : off = 0
  · subst h0
    go_enter Try.func65, Try.ntmps65
    go_wp2
    go_ret
    simp
  · by_cases h1 : off = 1
    · subst h1
      go_enter Try.func65, Try.ntmps65
      go_wp2
      go_ret
      simp
    · by_cases h2 : off = 2
      · subst h2
        by_cases h3 : 0 ≤ code
        · go_enter Try.func65, Try.ntmps65
          go_wp2
          go_ret
          simp
        · have h3' : code < 0 := by omega
          go_enter Try.func65, Try.ntmps65
          go_wp2
          go_ret
          simp
          omega
      · have e0 : (off == 0) = false := by simpa using h0
        have e1 : (off == 1) = false := by simpa using h1
        have e2 : (off == 2) = false := by simpa using h2
        go_enter Try.func65, Try.ntmps65
        go_wp2
        go_ret
        simp
set_option maxHeartbeats 1000000 in
theorem canBe_c (S : St) (ar ai ao : Option Addr) (cr ci co : Nat) (w : World) :
    Calls Try.prog 40 #[.agg (stc S (.slice ar S.ram.length cr) (.slice ai S.inp.length ci) (.slice ao S.out.length co))] w fun e w' => e = .returned (.bool S.ok) ∧ Below w.heap.size w w' := by
  have HB : Hid (∀ o, Below w.heap.size w (w.alloc o)) := fun o => (Below.refl _ _).alloc (Nat.le_refl _) o
  obtain ⟨b, hb⟩ : ∃ b, b = S.ok := ⟨_, rfl⟩
  rw [← hb]
  have HK : Hid (b = S.ok) := hb
  clear hb
  unfold stc
  generalize hr : ramOk S.ram.length = r
  generalize hp : powOk S.off S.code = p
  have hR := isRamSize_c S.ram.length
  have hP := isPower_c S.off S.code
  rw [hr] at hR
  rw [hp] at hP
  have HE : Hid (b = (r && decide (S.msip ≤ 1) && decide (S.ier ≤ 15) && decide (S.mcr ≤ 31) && decide ((S.inp.length : Int) ≤ 64) && decide ((S.out.length : Int) ≤ 4096) && p)) := by
    unfold Hid; rw [HK.out, St.ok, hr, hp]
  clear HK hr hp
  cases r with
  | false =>
    go_enter Try.func40, Try.ntmps40
    go_wp2_with (go_at_call 64; refine (hR _).mono ?_; rintro e w' ⟨rfl, rfl⟩)
    go_ret
    exact ⟨by rw [HE.out]; rfl, HB.out _⟩
  | true =>
    -- the rest
    rcases Int.lt_or_le 1 S.msip with g0 | h0
    · have HX : Hid (b = false) := by unfold Hid; rw [HE.out]; simp [show ¬ S.msip ≤ 1 by omega]
      clear HE
      go_enter Try.func40, Try.ntmps40
      go_wp2_with (first | (go_at_call 64; refine (hR _).mono ?_; rintro e w' ⟨rfl, rfl⟩) | (go_at_call 65; refine (hP _).mono ?_; rintro e w' ⟨rfl, rfl⟩))
      go_ret
      exact ⟨by cases HX.out; rfl, HB.out _⟩
    rcases Int.lt_or_le 15 S.ier with g1 | h1
    · have HX : Hid (b = false) := by unfold Hid; rw [HE.out]; simp [show ¬ S.ier ≤ 15 by omega]
      clear HE
      go_enter Try.func40, Try.ntmps40
      go_wp2_with (first | (go_at_call 64; refine (hR _).mono ?_; rintro e w' ⟨rfl, rfl⟩) | (go_at_call 65; refine (hP _).mono ?_; rintro e w' ⟨rfl, rfl⟩))
      go_ret
      exact ⟨by cases HX.out; rfl, HB.out _⟩
    rcases Int.lt_or_le 31 S.mcr with g2 | h2
    · have HX : Hid (b = false) := by unfold Hid; rw [HE.out]; simp [show ¬ S.mcr ≤ 31 by omega]
      clear HE
      go_enter Try.func40, Try.ntmps40
      go_wp2_with (first | (go_at_call 64; refine (hR _).mono ?_; rintro e w' ⟨rfl, rfl⟩) | (go_at_call 65; refine (hP _).mono ?_; rintro e w' ⟨rfl, rfl⟩))
      go_ret
      exact ⟨by cases HX.out; rfl, HB.out _⟩
    rcases Int.lt_or_le 64 (S.inp.length : Int) with g3 | h3
    · have HX : Hid (b = false) := by unfold Hid; rw [HE.out]; simp [show ¬ (S.inp.length : Int) ≤ 64 by omega]
      clear HE
      go_enter Try.func40, Try.ntmps40
      go_wp2_with (first | (go_at_call 64; refine (hR _).mono ?_; rintro e w' ⟨rfl, rfl⟩) | (go_at_call 65; refine (hP _).mono ?_; rintro e w' ⟨rfl, rfl⟩))
      go_ret
      exact ⟨by cases HX.out; rfl, HB.out _⟩
    rcases Int.lt_or_le 4096 (S.out.length : Int) with g4 | h4
    · have HX : Hid (b = false) := by unfold Hid; rw [HE.out]; simp [show ¬ (S.out.length : Int) ≤ 4096 by omega]
      clear HE
      go_enter Try.func40, Try.ntmps40
      go_wp2_with (first | (go_at_call 64; refine (hR _).mono ?_; rintro e w' ⟨rfl, rfl⟩) | (go_at_call 65; refine (hP _).mono ?_; rintro e w' ⟨rfl, rfl⟩))
      go_ret
      exact ⟨by cases HX.out; rfl, HB.out _⟩
    have HX : Hid (b = p) := by unfold Hid; rw [HE.out]; simp [h0, h1, h2, h3, h4]
    clear HE
    go_enter Try.func40, Try.ntmps40
    go_wp2_with (first | (go_at_call 64; refine (hR _).mono ?_; rintro e w' ⟨rfl, rfl⟩) | (go_at_call 65; refine (hP _).mono ?_; rintro e w' ⟨rfl, rfl⟩))
    go_ret
    exact ⟨by cases HX.out; rfl, HB.out _⟩
end Go.Proofs.Ytgblpjkpeihpeaa
