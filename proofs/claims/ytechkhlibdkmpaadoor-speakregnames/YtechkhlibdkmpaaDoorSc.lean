/-
  RegOf of both.
-/
import Derived.Test.YtechkhlibdkmpaaDoorSb
namespace Go.Proofs.YtechkhlibdkmpaaDoor
set_option linter.unusedVariables false
open Go.ChangeShapes Go.WideShapes Go.ChangeAt Go.RowKit Go.Deep Go.Shelf
def xS (n : Nat) : ByteArray := ⟨#[120]⟩ ++ decS n
def hitR (s : ByteArray) (n : Nat) : Bool := s.toList == (rgS n).toList || s.toList == (xS n).toList
def findR (s : ByteArray) : Option Nat := (List.range 32).find? (hitR s)
theorem find_range {p : Nat → Bool} {N k : Nat} (hk : k < N) (hno : ∀ j, j < k → p j = false) (hp : p k = true) : (List.range N).find? p = some k := by
  rw [List.find?_range_eq_some]
  exact ⟨hp, by simpa using hk, fun j hj => by simp [hno j hj]⟩
theorem find_range_no {p : Nat → Bool} {N : Nat} (hno : ∀ j, j < N → p j = false) : (List.range N).find? p = none := by
  rw [List.find?_eq_none]
  intro j hj
  simp [hno j (by simpa using hj)]
def regOfV (s : ByteArray) : Value := if s.toList = [102, 112] then .tuple #[.int .i64 8, .bool true] else match findR s with | some n => .tuple #[.int .i64 n, .bool true] | none => .tuple #[.int .i64 0, .bool false]
theorem decS_size (n : Nat) (h : n < 100) : (decS n).size ≤ 2 := by
  by_cases hs : n < 10
  · rw [decS_small n hs]; show 1 ≤ 2; omega
  · rw [decS_big n hs, decS_small (n / 10) (by omega)]; show 2 ≤ 2; omega
set_option maxRecDepth 100000 in
set_option maxHeartbeats 2000000 in
theorem regOf_c (s : ByteArray) (w : World) : Calls Tryd.prog 9 #[.string s] w fun e w' => e = .returned (regOfV s) ∧ Below w.heap.size w w' := by
  by_cases hf : s.toList = [102, 112]
  · have e : regOfV s = .tuple #[.int .i64 8, .bool true] := if_pos hf
    rw [e]
    have hq : (s.toList == [102, 112]) = true := by simp [hf]
    clear e hf
    go_enter Tryd.func9, Tryd.ntmps9
    go_wp2
    go_ret2
    exact ⟨rfl, Below.refl _ _⟩
  · obtain ⟨v, hv⟩ : ∃ v, v = regOfV s := ⟨_, rfl⟩
    have e : regOfV s = match findR s with | some n => .tuple #[.int .i64 n, .bool true] | none => .tuple #[.int .i64 0, .bool false] := if_neg hf
    rw [← hv] at e
    have HV : Hid (v = match findR s with | some n => .tuple #[.int .i64 n, .bool true] | none => .tuple #[.int .i64 0, .bool false]) := e
    rw [← hv]
    have hq : (s.toList == [102, 112]) = false := by simpa using hf
    clear e hf hv
    have HW : Hid (∀ w : World, Calls Tryd.prog 15 #[] w fun e w' => e = .returned (.agg rgTab) ∧ Below w.heap.size w w') := fun w => (registerNames_c w).mono fun e w' ⟨a, b⟩ => ⟨a, by rw [b]; exact (Below.refl _ _).alloc (Nat.le_refl _) _⟩
    go_enter Tryd.func9, Tryd.ntmps9
    go_wp2_with (first | (go_at_call 15; refine (HW.out _).mono ?_; rintro e w1 ⟨rfl, hb⟩; have HB : Hid (Below w.heap.size w w1) := hb; clear hb))
    --@CUT
    go_loopw [4, 5, 9] (fun a b i wr => ∃ k : Nat, k ≤ 32 ∧ i = .int .i64 k ∧ Hid (∀ j, j < k → hitR s j = false) ∧ wr = w1) (fun _ _ i _ => 32 - (intOf i).toNat)
    case atStart => exact ⟨0, Nat.zero_le _, rfl, (fun j hj => by omega), rfl⟩
    case round =>
      obtain ⟨k, hk, rfl, hno, hwr⟩ := hrel
      subst hwr
      by_cases hlt : k < 32
      · have hlt2 : (k : Int) < 32 := by omega
        have hix := rgIdx k hlt
        have hit : Hid (hitR s k = (s.toList == (rgS k).toList || s.toList == (xS k).toList)) := rfl
        have hsz : ¬ 9223372036854775807 < 1 + (decS k).size := by have := decS_size k (by omega); omega
        have HI : Hid (∀ w : World, Calls Tryd.prog 16 #[.int .i64 k] w fun e w' => e = .returned (.string (decS k)) ∧ w' = w) := itoa_c k (by omega)
        unfold xS at hit
        generalize rgS k = r at hix hit
        generalize decS k = d at hsz hit HI
        cases h1 : (s.toList == r.toList)
        · cases h2 : (s.toList == (⟨#[120]⟩ ++ d : ByteArray).toList)
          · go_wp2_with (first | (go_at_call 16; refine (HI.out _).mono ?_; rintro e w2 ⟨rfl, hw⟩; have hw2 := hw.symm; subst hw2))
            go_roundw
            · refine ⟨k + 1, by omega, by simp, fun j hj => ?_, by trivial⟩
              rcases Nat.lt_or_eq_of_le (Nat.le_of_lt_succ hj) with hj | rfl
              · exact hno.out j hj
              · rw [hit.out, h1, h2]; rfl
            · simp only [intOf]; omega
          · go_wp2_with (first | (go_at_call 16; refine (HI.out _).mono ?_; rintro e w2 ⟨rfl, hw⟩; have hw2 := hw.symm; subst hw2))
            go_ret2
            refine ⟨?_, HB.out⟩
            rw [HV.out, show findR s = some k from find_range hlt hno.out (by rw [hit.out, h1, h2]; rfl)]
            rfl
        · go_wp2
          go_ret2
          refine ⟨?_, HB.out⟩
          rw [HV.out, show findR s = some k from find_range hlt hno.out (by rw [hit.out, h1]; rfl)]
          rfl
      · obtain rfl : k = 32 := by omega
        rw [show ((32 : Nat) : Int) = (32 : Int) from rfl]
        go_wp2
        go_ret2
        refine ⟨?_, HB.out⟩
        rw [HV.out, show findR s = none from find_range_no hno.out]
        rfl
set_option maxRecDepth 100000 in
set_option maxHeartbeats 2000000 in
theorem rregOf_c (s : ByteArray) (w : World) (hR : Rg w) : Calls Tryd.prog 10 #[.string s] w fun e w' => e = .returned (regOfV s) ∧ Below w.heap.size w w' := by
  by_cases hf : s.toList = [102, 112]
  · have e : regOfV s = .tuple #[.int .i64 8, .bool true] := if_pos hf
    rw [e]
    have hq : (s.toList == [102, 112]) = true := by simp [hf]
    clear e hf hR
    go_enter Tryd.func10, Tryd.ntmps10
    go_wp2
    go_ret2
    exact ⟨rfl, Below.refl _ _⟩
  · obtain ⟨v, hv⟩ : ∃ v, v = regOfV s := ⟨_, rfl⟩
    have e : regOfV s = match findR s with | some n => .tuple #[.int .i64 n, .bool true] | none => .tuple #[.int .i64 0, .bool false] := if_neg hf
    rw [← hv] at e
    have HV : Hid (v = match findR s with | some n => .tuple #[.int .i64 n, .bool true] | none => .tuple #[.int .i64 0, .bool false]) := e
    rw [← hv]
    have hq : (s.toList == [102, 112]) = false := by simpa using hf
    have HR : Hid (Rg w) := hR
    clear e hf hv hR
    go_enter Tryd.func10, Tryd.ntmps10
    go_wp2
    go_loopw [4] (fun i wr => ∃ k : Nat, k ≤ 32 ∧ i = .int .i64 k ∧ Hid (∀ j, j < k → hitR s j = false) ∧ Hid (Below w.heap.size w wr)) (fun i _ => 32 - (intOf i).toNat)
    case atStart => exact ⟨0, Nat.zero_le _, rfl, (fun j hj => by omega), Below.refl _ _⟩
    case round =>
      obtain ⟨k, hk, rfl, hno, HB⟩ := hrel
      by_cases hlt : k < 32
      · have hlt2 : (k : Int) < 32 := by omega
        have hc := (HR.out.next HB.out) k hlt
        have hit : Hid (hitR s k = (s.toList == (rgS k).toList || s.toList == (xS k).toList)) := rfl
        have hsz : ¬ 9223372036854775807 < 1 + (decS k).size := by have := decS_size k (by omega); omega
        have HI : Hid (∀ w : World, Calls Tryd.prog 17 #[.int .i64 k] w fun e w' => e = .returned (.string (decS k)) ∧ Below w.heap.size w w') := decimal_c k (by omega)
        unfold xS at hit
        generalize rgS k = r at hc hit
        generalize decS k = d at hsz hit HI
        cases h1 : (s.toList == r.toList)
        · cases h2 : (s.toList == (⟨#[120]⟩ ++ d : ByteArray).toList)
          · go_wp2_with (first | (go_at_call 17; refine (HI.out _).mono ?_; rintro e w2 ⟨rfl, hb⟩; have HB2 : Hid (Below w.heap.size w w2) := HB.out.trans (hb.mono HB.out.size); clear hb))
            go_roundw
            · refine ⟨k + 1, by omega, by simp, fun j hj => ?_, HB2.out⟩
              rcases Nat.lt_or_eq_of_le (Nat.le_of_lt_succ hj) with hj | rfl
              · exact hno.out j hj
              · rw [hit.out, h1, h2]; rfl
            · simp only [intOf]; omega
          · go_wp2_with (first | (go_at_call 17; refine (HI.out _).mono ?_; rintro e w2 ⟨rfl, hb⟩; have HB2 : Hid (Below w.heap.size w w2) := HB.out.trans (hb.mono HB.out.size); clear hb))
            go_ret2
            refine ⟨?_, HB2.out⟩
            rw [HV.out, show findR s = some k from find_range hlt hno.out (by rw [hit.out, h1, h2]; rfl)]
            rfl
        · go_wp2
          go_ret2
          refine ⟨?_, HB.out⟩
          rw [HV.out, show findR s = some k from find_range hlt hno.out (by rw [hit.out, h1]; rfl)]
          rfl
      · obtain rfl : k = 32 := by omega
        rw [show ((32 : Nat) : Int) = (32 : Int) from rfl]
        go_wp2
        go_ret2
        refine ⟨?_, HB.out⟩
        rw [HV.out, show findR s = none from find_range_no hno.out]
        rfl
theorem regOfV_form (s : ByteArray) : ∃ (n : Int) (b : Bool), regOfV s = .tuple #[.int .i64 n, .bool b] := by
  unfold regOfV
  split
  · exact ⟨_, _, rfl⟩
  · split
    · exact ⟨_, _, rfl⟩
    · exact ⟨_, _, rfl⟩
end Go.Proofs.YtechkhlibdkmpaaDoor
