/-
  Number of the reference.
-/
import Derived.Test.YtechkhlibdkmpaaDoorSj
import Derived.Lib.IndexBytes
namespace Go.Proofs.YtechkhlibdkmpaaDoor
set_option linter.unusedVariables false
open Go.ChangeShapes Go.WideShapes Go.ChangeAt Go.RowKit Go.Deep Go.Shelf Go.Lib
theorem ext_drop (s : ByteArray) (k : Nat) : (s.extract k s.size).toList = s.toList.drop k := by
  rw [ByteArray.toList_eq, ByteArray.toList_eq]
  exact Lib.extract_to_end s k
theorem ext_size (s : ByteArray) (k : Nat) : (s.extract k s.size).size = s.size - k := by
  rw [ByteArray.size_extract]
  omega
theorem toList_len (s : ByteArray) : s.toList.length = s.size := by
  rw [ByteArray.toList_eq, Array.length_toList]
  rfl
/-- Some answer of Number. -/
def NumAns (e : Ending) : Prop := ∃ (z : Int) (b : Bool), e = .returned (.tuple #[.int .u64 z, .bool b])
theorem get_lt (s : ByteArray) (i : Nat) : (s.get! i).toNat < 256 := (s.get! i).toNat_lt
set_option maxRecDepth 100000 in
set_option maxHeartbeats 4000000 in
theorem num_p0 (s : ByteArray) (w : World) (hsz : s.size ≤ 140737488355328) (h0 : s.size = 0) : Calls Tryd.prog 25 #[.string s] w fun e w' => e = .returned (whV 10 s.toList) ∧ Below w.heap.size w w' := by
  have HE : Hid (whV 10 s.toList = .tuple #[.int .u64 0, .bool false]) := by
    have hq : s.toList = [] := List.eq_nil_of_length_eq_zero (by rw [toList_len]; exact h0)
    unfold Hid
    rw [hq]
    rfl
  rw [HE.out]
  clear HE
  have he : s = ⟨#[]⟩ := by
    cases s with
    | mk d => have : d.size = 0 := h0; simp at this; rw [this]
  subst he
  clear h0
  go_enter Tryd.func25, Tryd.ntmps25
  go_wp2
  go_ret2
  exact ⟨rfl, Below.refl _ _⟩
set_option maxRecDepth 100000 in
set_option maxHeartbeats 4000000 in
theorem num_p1 (s : ByteArray) (w : World) (hsz : s.size ≤ 140737488355328) (h0 : 0 < s.size) (hm : ¬ (s.get! 0).toNat = 45) (h1 : s.size = 1) : Calls Tryd.prog 25 #[.string s] w fun e w' => e = .returned (whV 10 s.toList) ∧ Below w.heap.size w w' := by
  have hI0 : (0 : Int) < s.size := by omega
  have i0 : ∀ w, (Instr.index 9 (.string s) (.int .i64 0)).run Tryd.prog w = .ok (.int .u8 ((s.get! 0).toNat : Int)) w := fun w => sIdx s 0 h0 .i64 w
  have hm1 : (((s.get! 0).toNat : Int) == 45) = false := by rw [beq_eq_false_iff_ne]; omega
  have h2 : ¬ ((2 : Int) ≤ s.size) := by omega
  have hz0 : ((s.size : Int) == 0) = false := by rw [beq_eq_false_iff_ne]; omega
  obtain ⟨R, hR⟩ : ∃ R, R = whV 10 s.toList := ⟨_, rfl⟩
  rw [← hR]
  have HN : Hid (val 10 s.toList 0 = none → R = .tuple #[.int .u64 0, .bool false]) := fun h => by rw [hR]; unfold whV; rw [h]
  have HY : Hid (∀ v, val 10 s.toList 0 = some v → R = .tuple #[.int .u64 v, .bool true]) := fun v h => by
    have hne : s.toList.isEmpty = false := by
      cases hq : s.toList with
      | nil => have := toList_len s; rw [hq] at this; simp at this hz0; omega
      | cons _ _ => rfl
    rw [hR]; unfold whV; rw [h, hne]; rfl
  clear hR
  generalize ((s.get! 0).toNat : Int) = b0 at *
  clear hm
  go_enter Tryd.func25, Tryd.ntmps25
  go_wp2
  --@CUT1
  go_loopw [6, 7, 8] (fun a i _ wr => ∃ k v : Nat, i = .int .i64 k ∧ a = .int .u64 v ∧ v < 18446744073709551616 ∧ k ≤ s.size ∧ Hid (val 10 (s.toList.drop k) v = val 10 s.toList 0) ∧ wr = w) (fun _ i _ _ => s.size - (RowKit.intOf i).toNat)
  case atStart => exact ⟨0, 0, rfl, rfl, by omega, Nat.zero_le _, rfl, rfl⟩
  case round =>
    obtain ⟨k, v, rfl, rfl, hv, hks, hvl, hwr⟩ := hrel
    subst hwr
    by_cases hp : k < s.size
    · have hpI : (k : Int) < s.size := by omega
      have hix := fun w => sIdx s k hp .i64 w
      have hkI : (k : Int) ≤ 140737488355328 := by omega
      have hst : val 10 (s.toList.drop k) v = if dgv (s.get! k).toNat < 10 ∧ v ≤ (18446744073709551615 - dgv (s.get! k).toNat) / 10 then val 10 (s.toList.drop (k + 1)) (v * 10 + dgv (s.get! k).toNat) else none := by rw [drop_get s k hp]; rfl
      have HST : Hid (val 10 s.toList 0 = if dgv (s.get! k).toNat < 10 ∧ v ≤ (18446744073709551615 - dgv (s.get! k).toNat) / 10 then val 10 (s.toList.drop (k + 1)) (v * 10 + dgv (s.get! k).toNat) else none) := hvl.out.symm.trans hst
      have HDG : Hid (∀ w : World, Calls Tryd.prog 30 #[.int .u8 ((s.get! k).toNat : Int), .int .i64 10] w fun e w' => e = .returned (.int .i64 (if dgv (s.get! k).toNat < 10 then (dgv (s.get! k).toNat : Int) else -1)) ∧ w' = w) := rdigit_10 _ (get_lt s k)
      have hdl := dgv_le (s.get! k).toNat
      generalize dgv (s.get! k).toNat = x at HST HDG hdl
      generalize ((s.get! k).toNat : Int) = cz at hix HDG
      clear hst hvl
      by_cases hx : x < 10
      · rw [if_pos hx] at HDG
        obtain ⟨q, hq⟩ : ∃ q : Nat, q = (18446744073709551615 - x) / 10 := ⟨_, rfl⟩
        have hq1 : (18446744073709551615 - (x : Int)) / 10 = (q : Int) := by omega
        have hq2 : Int.tdiv (18446744073709551615 - (x : Int)) 10 = (q : Int) := by rw [Int.tdiv_eq_ediv_of_nonneg (by omega)]; omega
        have hqb : (q : Int) ≤ 18446744073709551615 := by omega
        have hxn : ¬ ((x : Int) < 0) := by omega
        have hxb : (x : Int) ≤ 16 := by omega
        have wx : IntKind.u64.wrap (x : Int) = x := wrapV _ (by omega)
        by_cases hvq : v ≤ q
        · have hvI : ¬ ((q : Int) < v) := by omega
          obtain ⟨v2, hv2⟩ : ∃ v2 : Nat, v2 = v * 10 + x := ⟨_, rfl⟩
          have hv3 : v2 < 18446744073709551616 := by omega
          have hm1 : IntKind.u64.wrap ((v : Int) * 10) = (v : Int) * 10 := wrapV _ (by omega)
          have hm2 : IntKind.u64.wrap ((v : Int) * 10 + x) = (v2 : Int) := by rw [wrapV _ (by omega)]; omega
          have HV2 : Hid (val 10 (s.toList.drop (k + 1)) v2 = val 10 s.toList 0) := by
            unfold Hid
            rw [HST.out, if_pos ⟨hx, by omega⟩, hv2]
          clear hq hv2
          go_wp2_with (first | (go_at_call 30; refine (HDG.out _).mono ?_; rintro e w1 ⟨rfl, hw⟩; have hw2 := hw.symm; subst hw2))
          --@CUTL
          go_roundw
          · exact ⟨k + 1, v2, by simp, rfl, hv3, by omega, HV2.out, by trivial⟩
          · simp only [RowKit.intOf]; omega
        · have hvI : (q : Int) < v := by omega
          have HV : Hid (val 10 s.toList 0 = none) := by unfold Hid; rw [HST.out, if_neg (by omega)]
          clear hq
          go_wp2_with (first | (go_at_call 30; refine (HDG.out _).mono ?_; rintro e w1 ⟨rfl, hw⟩; have hw2 := hw.symm; subst hw2))
          go_ret2
          exact ⟨by rw [HN.out (HV.out)]; rfl, Below.refl _ _⟩
      · rw [if_neg hx] at HDG
        have HV : Hid (val 10 s.toList 0 = none) := by unfold Hid; rw [HST.out, if_neg (by omega)]
        go_wp2_with (first | (go_at_call 30; refine (HDG.out _).mono ?_; rintro e w1 ⟨rfl, hw⟩; have hw2 := hw.symm; subst hw2))
        go_ret2
        exact ⟨by rw [HN.out (HV.out)]; rfl, Below.refl _ _⟩
    · have hpI : ¬ ((k : Int) < s.size) := by omega
      have HV : Hid (val 10 s.toList 0 = some v) := by
        unfold Hid
        rw [← hvl.out, List.drop_eq_nil_of_le (by rw [toList_len]; omega)]
        rfl
      clear hvl
      go_wp2
      --@CUTE
      go_ret2
      exact ⟨by rw [HY.out v HV.out]; rfl, Below.refl _ _⟩
set_option maxRecDepth 100000 in
set_option maxHeartbeats 4000000 in
theorem num_p2 (s : ByteArray) (w : World) (hsz : s.size ≤ 140737488355328) (h0 : 0 < s.size) (hm : ¬ (s.get! 0).toNat = 45) (h1 : 2 ≤ s.size) (hz : ¬ (s.get! 0).toNat = 48) : Calls Tryd.prog 25 #[.string s] w fun e w' => e = .returned (whV 10 s.toList) ∧ Below w.heap.size w w' := by
  have hI0 : (0 : Int) < s.size := by omega
  have i0 : ∀ w, (Instr.index 9 (.string s) (.int .i64 0)).run Tryd.prog w = .ok (.int .u8 ((s.get! 0).toNat : Int)) w := fun w => sIdx s 0 h0 .i64 w
  have hm1 : (((s.get! 0).toNat : Int) == 45) = false := by rw [beq_eq_false_iff_ne]; omega
  have h2 : (2 : Int) ≤ s.size := by omega
  have h2b : (1 : Int) < s.size := by omega
  have j0 : ∀ w, (Instr.index 9 (.string s) (.int .i64 0)).run Tryd.prog w = .ok (.int .u8 ((s.get! 0).toNat : Int)) w := fun w => sIdx s 0 (by omega) .i64 w
  have k0 : (((s.get! 0).toNat : Int) == 48) = false := by rw [beq_eq_false_iff_ne]; omega
  have hz0 : ((s.size : Int) == 0) = false := by rw [beq_eq_false_iff_ne]; omega
  obtain ⟨R, hR⟩ : ∃ R, R = whV 10 s.toList := ⟨_, rfl⟩
  rw [← hR]
  have HN : Hid (val 10 s.toList 0 = none → R = .tuple #[.int .u64 0, .bool false]) := fun h => by rw [hR]; unfold whV; rw [h]
  have HY : Hid (∀ v, val 10 s.toList 0 = some v → R = .tuple #[.int .u64 v, .bool true]) := fun v h => by
    have hne : s.toList.isEmpty = false := by
      cases hq : s.toList with
      | nil => have := toList_len s; rw [hq] at this; simp at this hz0; omega
      | cons _ _ => rfl
    rw [hR]; unfold whV; rw [h, hne]; rfl
  clear hR
  generalize ((s.get! 0).toNat : Int) = b0 at *
  clear hm hz
  go_enter Tryd.func25, Tryd.ntmps25
  go_wp2
  --@CUT1
  go_loopw [6, 7, 8] (fun a i _ wr => ∃ k v : Nat, i = .int .i64 k ∧ a = .int .u64 v ∧ v < 18446744073709551616 ∧ k ≤ s.size ∧ Hid (val 10 (s.toList.drop k) v = val 10 s.toList 0) ∧ wr = w) (fun _ i _ _ => s.size - (RowKit.intOf i).toNat)
  case atStart => exact ⟨0, 0, rfl, rfl, by omega, Nat.zero_le _, rfl, rfl⟩
  case round =>
    obtain ⟨k, v, rfl, rfl, hv, hks, hvl, hwr⟩ := hrel
    subst hwr
    by_cases hp : k < s.size
    · have hpI : (k : Int) < s.size := by omega
      have hix := fun w => sIdx s k hp .i64 w
      have hkI : (k : Int) ≤ 140737488355328 := by omega
      have hst : val 10 (s.toList.drop k) v = if dgv (s.get! k).toNat < 10 ∧ v ≤ (18446744073709551615 - dgv (s.get! k).toNat) / 10 then val 10 (s.toList.drop (k + 1)) (v * 10 + dgv (s.get! k).toNat) else none := by rw [drop_get s k hp]; rfl
      have HST : Hid (val 10 s.toList 0 = if dgv (s.get! k).toNat < 10 ∧ v ≤ (18446744073709551615 - dgv (s.get! k).toNat) / 10 then val 10 (s.toList.drop (k + 1)) (v * 10 + dgv (s.get! k).toNat) else none) := hvl.out.symm.trans hst
      have HDG : Hid (∀ w : World, Calls Tryd.prog 30 #[.int .u8 ((s.get! k).toNat : Int), .int .i64 10] w fun e w' => e = .returned (.int .i64 (if dgv (s.get! k).toNat < 10 then (dgv (s.get! k).toNat : Int) else -1)) ∧ w' = w) := rdigit_10 _ (get_lt s k)
      have hdl := dgv_le (s.get! k).toNat
      generalize dgv (s.get! k).toNat = x at HST HDG hdl
      generalize ((s.get! k).toNat : Int) = cz at hix HDG
      clear hst hvl
      by_cases hx : x < 10
      · rw [if_pos hx] at HDG
        obtain ⟨q, hq⟩ : ∃ q : Nat, q = (18446744073709551615 - x) / 10 := ⟨_, rfl⟩
        have hq1 : (18446744073709551615 - (x : Int)) / 10 = (q : Int) := by omega
        have hq2 : Int.tdiv (18446744073709551615 - (x : Int)) 10 = (q : Int) := by rw [Int.tdiv_eq_ediv_of_nonneg (by omega)]; omega
        have hqb : (q : Int) ≤ 18446744073709551615 := by omega
        have hxn : ¬ ((x : Int) < 0) := by omega
        have hxb : (x : Int) ≤ 16 := by omega
        have wx : IntKind.u64.wrap (x : Int) = x := wrapV _ (by omega)
        by_cases hvq : v ≤ q
        · have hvI : ¬ ((q : Int) < v) := by omega
          obtain ⟨v2, hv2⟩ : ∃ v2 : Nat, v2 = v * 10 + x := ⟨_, rfl⟩
          have hv3 : v2 < 18446744073709551616 := by omega
          have hm1 : IntKind.u64.wrap ((v : Int) * 10) = (v : Int) * 10 := wrapV _ (by omega)
          have hm2 : IntKind.u64.wrap ((v : Int) * 10 + x) = (v2 : Int) := by rw [wrapV _ (by omega)]; omega
          have HV2 : Hid (val 10 (s.toList.drop (k + 1)) v2 = val 10 s.toList 0) := by
            unfold Hid
            rw [HST.out, if_pos ⟨hx, by omega⟩, hv2]
          clear hq hv2
          go_wp2_with (first | (go_at_call 30; refine (HDG.out _).mono ?_; rintro e w1 ⟨rfl, hw⟩; have hw2 := hw.symm; subst hw2))
          --@CUTL
          go_roundw
          · exact ⟨k + 1, v2, by simp, rfl, hv3, by omega, HV2.out, by trivial⟩
          · simp only [RowKit.intOf]; omega
        · have hvI : (q : Int) < v := by omega
          have HV : Hid (val 10 s.toList 0 = none) := by unfold Hid; rw [HST.out, if_neg (by omega)]
          clear hq
          go_wp2_with (first | (go_at_call 30; refine (HDG.out _).mono ?_; rintro e w1 ⟨rfl, hw⟩; have hw2 := hw.symm; subst hw2))
          go_ret2
          exact ⟨by rw [HN.out (HV.out)]; rfl, Below.refl _ _⟩
      · rw [if_neg hx] at HDG
        have HV : Hid (val 10 s.toList 0 = none) := by unfold Hid; rw [HST.out, if_neg (by omega)]
        go_wp2_with (first | (go_at_call 30; refine (HDG.out _).mono ?_; rintro e w1 ⟨rfl, hw⟩; have hw2 := hw.symm; subst hw2))
        go_ret2
        exact ⟨by rw [HN.out (HV.out)]; rfl, Below.refl _ _⟩
    · have hpI : ¬ ((k : Int) < s.size) := by omega
      have HV : Hid (val 10 s.toList 0 = some v) := by
        unfold Hid
        rw [← hvl.out, List.drop_eq_nil_of_le (by rw [toList_len]; omega)]
        rfl
      clear hvl
      go_wp2
      --@CUTE
      go_ret2
      exact ⟨by rw [HY.out v HV.out]; rfl, Below.refl _ _⟩
set_option maxRecDepth 100000 in
set_option maxHeartbeats 4000000 in
theorem num_p3 (s : ByteArray) (w : World) (hsz : s.size ≤ 140737488355328) (h0 : 0 < s.size) (hm : ¬ (s.get! 0).toNat = 45) (h1 : 2 ≤ s.size) (hz : (s.get! 0).toNat = 48) (hy : ¬ (s.get! 1).toNat = 120) : Calls Tryd.prog 25 #[.string s] w fun e w' => e = .returned (whV 10 s.toList) ∧ Below w.heap.size w w' := by
  have hI0 : (0 : Int) < s.size := by omega
  have i0 : ∀ w, (Instr.index 9 (.string s) (.int .i64 0)).run Tryd.prog w = .ok (.int .u8 ((s.get! 0).toNat : Int)) w := fun w => sIdx s 0 h0 .i64 w
  have hm1 : (((s.get! 0).toNat : Int) == 45) = false := by rw [beq_eq_false_iff_ne]; omega
  have h2 : (2 : Int) ≤ s.size := by omega
  have h2b : (1 : Int) < s.size := by omega
  have j0 : ∀ w, (Instr.index 9 (.string s) (.int .i64 0)).run Tryd.prog w = .ok (.int .u8 ((s.get! 0).toNat : Int)) w := fun w => sIdx s 0 (by omega) .i64 w
  have k0 : (((s.get! 0).toNat : Int) == 48) = true := by rw [beq_iff_eq]; omega
  have j1 : ∀ w, (Instr.index 9 (.string s) (.int .i64 1)).run Tryd.prog w = .ok (.int .u8 ((s.get! 1).toNat : Int)) w := fun w => sIdx s 1 (by omega) .i64 w
  have k1 : (((s.get! 1).toNat : Int) == 120) = false := by rw [beq_eq_false_iff_ne]; omega
  have hz0 : ((s.size : Int) == 0) = false := by rw [beq_eq_false_iff_ne]; omega
  obtain ⟨R, hR⟩ : ∃ R, R = whV 10 s.toList := ⟨_, rfl⟩
  rw [← hR]
  have HN : Hid (val 10 s.toList 0 = none → R = .tuple #[.int .u64 0, .bool false]) := fun h => by rw [hR]; unfold whV; rw [h]
  have HY : Hid (∀ v, val 10 s.toList 0 = some v → R = .tuple #[.int .u64 v, .bool true]) := fun v h => by
    have hne : s.toList.isEmpty = false := by
      cases hq : s.toList with
      | nil => have := toList_len s; rw [hq] at this; simp at this hz0; omega
      | cons _ _ => rfl
    rw [hR]; unfold whV; rw [h, hne]; rfl
  clear hR
  generalize ((s.get! 0).toNat : Int) = b0 at *
  clear hm hz hy
  go_enter Tryd.func25, Tryd.ntmps25
  go_wp2
  --@CUT1
  go_loopw [6, 7, 8] (fun a i _ wr => ∃ k v : Nat, i = .int .i64 k ∧ a = .int .u64 v ∧ v < 18446744073709551616 ∧ k ≤ s.size ∧ Hid (val 10 (s.toList.drop k) v = val 10 s.toList 0) ∧ wr = w) (fun _ i _ _ => s.size - (RowKit.intOf i).toNat)
  case atStart => exact ⟨0, 0, rfl, rfl, by omega, Nat.zero_le _, rfl, rfl⟩
  case round =>
    obtain ⟨k, v, rfl, rfl, hv, hks, hvl, hwr⟩ := hrel
    subst hwr
    by_cases hp : k < s.size
    · have hpI : (k : Int) < s.size := by omega
      have hix := fun w => sIdx s k hp .i64 w
      have hkI : (k : Int) ≤ 140737488355328 := by omega
      have hst : val 10 (s.toList.drop k) v = if dgv (s.get! k).toNat < 10 ∧ v ≤ (18446744073709551615 - dgv (s.get! k).toNat) / 10 then val 10 (s.toList.drop (k + 1)) (v * 10 + dgv (s.get! k).toNat) else none := by rw [drop_get s k hp]; rfl
      have HST : Hid (val 10 s.toList 0 = if dgv (s.get! k).toNat < 10 ∧ v ≤ (18446744073709551615 - dgv (s.get! k).toNat) / 10 then val 10 (s.toList.drop (k + 1)) (v * 10 + dgv (s.get! k).toNat) else none) := hvl.out.symm.trans hst
      have HDG : Hid (∀ w : World, Calls Tryd.prog 30 #[.int .u8 ((s.get! k).toNat : Int), .int .i64 10] w fun e w' => e = .returned (.int .i64 (if dgv (s.get! k).toNat < 10 then (dgv (s.get! k).toNat : Int) else -1)) ∧ w' = w) := rdigit_10 _ (get_lt s k)
      have hdl := dgv_le (s.get! k).toNat
      generalize dgv (s.get! k).toNat = x at HST HDG hdl
      generalize ((s.get! k).toNat : Int) = cz at hix HDG
      clear hst hvl
      by_cases hx : x < 10
      · rw [if_pos hx] at HDG
        obtain ⟨q, hq⟩ : ∃ q : Nat, q = (18446744073709551615 - x) / 10 := ⟨_, rfl⟩
        have hq1 : (18446744073709551615 - (x : Int)) / 10 = (q : Int) := by omega
        have hq2 : Int.tdiv (18446744073709551615 - (x : Int)) 10 = (q : Int) := by rw [Int.tdiv_eq_ediv_of_nonneg (by omega)]; omega
        have hqb : (q : Int) ≤ 18446744073709551615 := by omega
        have hxn : ¬ ((x : Int) < 0) := by omega
        have hxb : (x : Int) ≤ 16 := by omega
        have wx : IntKind.u64.wrap (x : Int) = x := wrapV _ (by omega)
        by_cases hvq : v ≤ q
        · have hvI : ¬ ((q : Int) < v) := by omega
          obtain ⟨v2, hv2⟩ : ∃ v2 : Nat, v2 = v * 10 + x := ⟨_, rfl⟩
          have hv3 : v2 < 18446744073709551616 := by omega
          have hm1 : IntKind.u64.wrap ((v : Int) * 10) = (v : Int) * 10 := wrapV _ (by omega)
          have hm2 : IntKind.u64.wrap ((v : Int) * 10 + x) = (v2 : Int) := by rw [wrapV _ (by omega)]; omega
          have HV2 : Hid (val 10 (s.toList.drop (k + 1)) v2 = val 10 s.toList 0) := by
            unfold Hid
            rw [HST.out, if_pos ⟨hx, by omega⟩, hv2]
          clear hq hv2
          go_wp2_with (first | (go_at_call 30; refine (HDG.out _).mono ?_; rintro e w1 ⟨rfl, hw⟩; have hw2 := hw.symm; subst hw2))
          --@CUTL
          go_roundw
          · exact ⟨k + 1, v2, by simp, rfl, hv3, by omega, HV2.out, by trivial⟩
          · simp only [RowKit.intOf]; omega
        · have hvI : (q : Int) < v := by omega
          have HV : Hid (val 10 s.toList 0 = none) := by unfold Hid; rw [HST.out, if_neg (by omega)]
          clear hq
          go_wp2_with (first | (go_at_call 30; refine (HDG.out _).mono ?_; rintro e w1 ⟨rfl, hw⟩; have hw2 := hw.symm; subst hw2))
          go_ret2
          exact ⟨by rw [HN.out (HV.out)]; rfl, Below.refl _ _⟩
      · rw [if_neg hx] at HDG
        have HV : Hid (val 10 s.toList 0 = none) := by unfold Hid; rw [HST.out, if_neg (by omega)]
        go_wp2_with (first | (go_at_call 30; refine (HDG.out _).mono ?_; rintro e w1 ⟨rfl, hw⟩; have hw2 := hw.symm; subst hw2))
        go_ret2
        exact ⟨by rw [HN.out (HV.out)]; rfl, Below.refl _ _⟩
    · have hpI : ¬ ((k : Int) < s.size) := by omega
      have HV : Hid (val 10 s.toList 0 = some v) := by
        unfold Hid
        rw [← hvl.out, List.drop_eq_nil_of_le (by rw [toList_len]; omega)]
        rfl
      clear hvl
      go_wp2
      --@CUTE
      go_ret2
      exact ⟨by rw [HY.out v HV.out]; rfl, Below.refl _ _⟩
set_option maxRecDepth 100000 in
set_option maxHeartbeats 4000000 in
theorem num_p4e (s : ByteArray) (w : World) (hsz : s.size ≤ 140737488355328) (h0 : 0 < s.size) (hm : ¬ (s.get! 0).toNat = 45) (h1 : 2 ≤ s.size) (hz : (s.get! 0).toNat = 48) (hy : (s.get! 1).toNat = 120) (h3 : s.size = 2) : Calls Tryd.prog 25 #[.string s] w fun e w' => e = .returned (whV 16 (s.extract 2 s.size).toList) ∧ Below w.heap.size w w' := by
  have hI0 : (0 : Int) < s.size := by omega
  have i0 : ∀ w, (Instr.index 9 (.string s) (.int .i64 0)).run Tryd.prog w = .ok (.int .u8 ((s.get! 0).toNat : Int)) w := fun w => sIdx s 0 h0 .i64 w
  have hm1 : (((s.get! 0).toNat : Int) == 45) = false := by rw [beq_eq_false_iff_ne]; omega
  have h2 : (2 : Int) ≤ s.size := by omega
  have h2b : (1 : Int) < s.size := by omega
  have j0 : ∀ w, (Instr.index 9 (.string s) (.int .i64 0)).run Tryd.prog w = .ok (.int .u8 ((s.get! 0).toNat : Int)) w := fun w => sIdx s 0 (by omega) .i64 w
  have k0 : (((s.get! 0).toNat : Int) == 48) = true := by rw [beq_iff_eq]; omega
  have j1 : ∀ w, (Instr.index 9 (.string s) (.int .i64 1)).run Tryd.prog w = .ok (.int .u8 ((s.get! 1).toNat : Int)) w := fun w => sIdx s 1 (by omega) .i64 w
  have k1 : (((s.get! 1).toNat : Int) == 120) = true := by rw [beq_iff_eq]; omega
  have hus : (s.extract 2 s.size).size = s.size - 2 := ext_size s 2
  obtain ⟨u, hu⟩ : ∃ u, s.extract 2 s.size = u := ⟨_, rfl⟩
  rw [hu] at hus
  have hz0 : ((u.size : Int) == 0) = true := by rw [beq_iff_eq]; omega
  rw [hu]
  have HE : Hid (whV 16 u.toList = .tuple #[.int .u64 0, .bool false]) := by
    have hq : u.toList = [] := List.eq_nil_of_length_eq_zero (by rw [toList_len]; omega)
    unfold Hid
    rw [hq]
    rfl
  rw [HE.out]
  clear HE
  generalize ((s.get! 0).toNat : Int) = b0 at *
  have hub : u.size ≤ 140737488355328 := by omega
  clear hus hm hz hy
  go_enter Tryd.func25, Tryd.ntmps25
  go_upto_region 8 with fail
  try rw [hu]
  clear hu
  go_wp2
  go_ret2
  exact ⟨rfl, Below.refl _ _⟩
set_option maxRecDepth 100000 in
set_option maxHeartbeats 4000000 in
theorem num_p4 (s : ByteArray) (w : World) (hsz : s.size ≤ 140737488355328) (h0 : 0 < s.size) (hm : ¬ (s.get! 0).toNat = 45) (h1 : 2 ≤ s.size) (hz : (s.get! 0).toNat = 48) (hy : (s.get! 1).toNat = 120) (h3 : s.size > 2) : Calls Tryd.prog 25 #[.string s] w fun e w' => e = .returned (whV 16 (s.extract 2 s.size).toList) ∧ Below w.heap.size w w' := by
  have hI0 : (0 : Int) < s.size := by omega
  have i0 : ∀ w, (Instr.index 9 (.string s) (.int .i64 0)).run Tryd.prog w = .ok (.int .u8 ((s.get! 0).toNat : Int)) w := fun w => sIdx s 0 h0 .i64 w
  have hm1 : (((s.get! 0).toNat : Int) == 45) = false := by rw [beq_eq_false_iff_ne]; omega
  have h2 : (2 : Int) ≤ s.size := by omega
  have h2b : (1 : Int) < s.size := by omega
  have j0 : ∀ w, (Instr.index 9 (.string s) (.int .i64 0)).run Tryd.prog w = .ok (.int .u8 ((s.get! 0).toNat : Int)) w := fun w => sIdx s 0 (by omega) .i64 w
  have k0 : (((s.get! 0).toNat : Int) == 48) = true := by rw [beq_iff_eq]; omega
  have j1 : ∀ w, (Instr.index 9 (.string s) (.int .i64 1)).run Tryd.prog w = .ok (.int .u8 ((s.get! 1).toNat : Int)) w := fun w => sIdx s 1 (by omega) .i64 w
  have k1 : (((s.get! 1).toNat : Int) == 120) = true := by rw [beq_iff_eq]; omega
  have hus : (s.extract 2 s.size).size = s.size - 2 := ext_size s 2
  obtain ⟨u, hu⟩ : ∃ u, s.extract 2 s.size = u := ⟨_, rfl⟩
  rw [hu] at hus
  have hz0 : ((u.size : Int) == 0) = false := by rw [beq_eq_false_iff_ne]; omega
  rw [hu]
  obtain ⟨R, hR⟩ : ∃ R, R = whV 16 u.toList := ⟨_, rfl⟩
  rw [← hR]
  have HN : Hid (val 16 u.toList 0 = none → R = .tuple #[.int .u64 0, .bool false]) := fun h => by rw [hR]; unfold whV; rw [h]
  have HY : Hid (∀ v, val 16 u.toList 0 = some v → R = .tuple #[.int .u64 v, .bool true]) := fun v h => by
    have hne : u.toList.isEmpty = false := by
      cases hq : u.toList with
      | nil => have := toList_len u; rw [hq] at this; simp at this hz0; omega
      | cons _ _ => rfl
    rw [hR]; unfold whV; rw [h, hne]; rfl
  clear hR
  generalize ((s.get! 0).toNat : Int) = b0 at *
  have hub : u.size ≤ 140737488355328 := by omega
  clear hus hm hz hy
  go_enter Tryd.func25, Tryd.ntmps25
  go_upto_region 8 with fail
  try rw [hu]
  clear hu
  go_wp2
  --@CUT1
  go_loopw [6, 7, 8] (fun a i _ wr => ∃ k v : Nat, i = .int .i64 k ∧ a = .int .u64 v ∧ v < 18446744073709551616 ∧ k ≤ u.size ∧ Hid (val 16 (u.toList.drop k) v = val 16 u.toList 0) ∧ wr = w) (fun _ i _ _ => u.size - (RowKit.intOf i).toNat)
  case atStart => exact ⟨0, 0, rfl, rfl, by omega, Nat.zero_le _, rfl, rfl⟩
  case round =>
    obtain ⟨k, v, rfl, rfl, hv, hks, hvl, hwr⟩ := hrel
    subst hwr
    by_cases hp : k < u.size
    · have hpI : (k : Int) < u.size := by omega
      have hix := fun w => sIdx u k hp .i64 w
      have hkI : (k : Int) ≤ 140737488355328 := by omega
      have hst : val 16 (u.toList.drop k) v = if dgv (u.get! k).toNat < 16 ∧ v ≤ (18446744073709551615 - dgv (u.get! k).toNat) / 16 then val 16 (u.toList.drop (k + 1)) (v * 16 + dgv (u.get! k).toNat) else none := by rw [drop_get u k hp]; rfl
      have HST : Hid (val 16 u.toList 0 = if dgv (u.get! k).toNat < 16 ∧ v ≤ (18446744073709551615 - dgv (u.get! k).toNat) / 16 then val 16 (u.toList.drop (k + 1)) (v * 16 + dgv (u.get! k).toNat) else none) := hvl.out.symm.trans hst
      have HDG : Hid (∀ w : World, Calls Tryd.prog 30 #[.int .u8 ((u.get! k).toNat : Int), .int .i64 16] w fun e w' => e = .returned (.int .i64 (if dgv (u.get! k).toNat < 16 then (dgv (u.get! k).toNat : Int) else -1)) ∧ w' = w) := rdigit_16 _ (get_lt u k)
      have hdl := dgv_le (u.get! k).toNat
      generalize dgv (u.get! k).toNat = x at HST HDG hdl
      generalize ((u.get! k).toNat : Int) = cz at hix HDG
      clear hst hvl
      by_cases hx : x < 16
      · rw [if_pos hx] at HDG
        obtain ⟨q, hq⟩ : ∃ q : Nat, q = (18446744073709551615 - x) / 16 := ⟨_, rfl⟩
        have hq1 : (18446744073709551615 - (x : Int)) / 16 = (q : Int) := by omega
        have hq2 : Int.tdiv (18446744073709551615 - (x : Int)) 16 = (q : Int) := by rw [Int.tdiv_eq_ediv_of_nonneg (by omega)]; omega
        have hqb : (q : Int) ≤ 18446744073709551615 := by omega
        have hxn : ¬ ((x : Int) < 0) := by omega
        have hxb : (x : Int) ≤ 16 := by omega
        have wx : IntKind.u64.wrap (x : Int) = x := wrapV _ (by omega)
        by_cases hvq : v ≤ q
        · have hvI : ¬ ((q : Int) < v) := by omega
          obtain ⟨v2, hv2⟩ : ∃ v2 : Nat, v2 = v * 16 + x := ⟨_, rfl⟩
          have hv3 : v2 < 18446744073709551616 := by omega
          have hm1 : IntKind.u64.wrap ((v : Int) * 16) = (v : Int) * 16 := wrapV _ (by omega)
          have hm2 : IntKind.u64.wrap ((v : Int) * 16 + x) = (v2 : Int) := by rw [wrapV _ (by omega)]; omega
          have HV2 : Hid (val 16 (u.toList.drop (k + 1)) v2 = val 16 u.toList 0) := by
            unfold Hid
            rw [HST.out, if_pos ⟨hx, by omega⟩, hv2]
          clear hq hv2
          go_wp2_with (first | (go_at_call 30; refine (HDG.out _).mono ?_; rintro e w1 ⟨rfl, hw⟩; have hw2 := hw.symm; subst hw2))
          --@CUTL
          go_roundw
          · exact ⟨k + 1, v2, by simp, rfl, hv3, by omega, HV2.out, by trivial⟩
          · simp only [RowKit.intOf]; omega
        · have hvI : (q : Int) < v := by omega
          have HV : Hid (val 16 u.toList 0 = none) := by unfold Hid; rw [HST.out, if_neg (by omega)]
          clear hq
          go_wp2_with (first | (go_at_call 30; refine (HDG.out _).mono ?_; rintro e w1 ⟨rfl, hw⟩; have hw2 := hw.symm; subst hw2))
          go_ret2
          exact ⟨by rw [HN.out (HV.out)]; rfl, Below.refl _ _⟩
      · rw [if_neg hx] at HDG
        have HV : Hid (val 16 u.toList 0 = none) := by unfold Hid; rw [HST.out, if_neg (by omega)]
        go_wp2_with (first | (go_at_call 30; refine (HDG.out _).mono ?_; rintro e w1 ⟨rfl, hw⟩; have hw2 := hw.symm; subst hw2))
        go_ret2
        exact ⟨by rw [HN.out (HV.out)]; rfl, Below.refl _ _⟩
    · have hpI : ¬ ((k : Int) < u.size) := by omega
      have HV : Hid (val 16 u.toList 0 = some v) := by
        unfold Hid
        rw [← hvl.out, List.drop_eq_nil_of_le (by rw [toList_len]; omega)]
        rfl
      clear hvl
      go_wp2
      --@CUTE
      go_ret2
      exact ⟨by rw [HY.out v HV.out]; rfl, Below.refl _ _⟩
set_option maxRecDepth 100000 in
set_option maxHeartbeats 4000000 in
theorem num_m0 (s : ByteArray) (w : World) (hsz : s.size ≤ 140737488355328) (h0 : 0 < s.size) (hm : (s.get! 0).toNat = 45) (h1 : s.size = 1) : Calls Tryd.prog 25 #[.string s] w fun e w' => NumAns e ∧ Below w.heap.size w w' := by
  have hI0 : (0 : Int) < s.size := by omega
  have i0 : ∀ w, (Instr.index 9 (.string s) (.int .i64 0)).run Tryd.prog w = .ok (.int .u8 ((s.get! 0).toNat : Int)) w := fun w => sIdx s 0 h0 .i64 w
  have hm1 : (((s.get! 0).toNat : Int) == 45) = true := by rw [beq_iff_eq]; omega
  have hI1 : (1 : Int) ≤ s.size := by omega
  have hts : (s.extract 1 s.size).size = s.size - 1 := ext_size s 1
  obtain ⟨t, ht⟩ : ∃ t, s.extract 1 s.size = t := ⟨_, rfl⟩
  rw [ht] at hts
  have hz0 : ((t.size : Int) == 0) = true := by rw [beq_iff_eq]; omega
  have h2 : ¬ ((2 : Int) ≤ t.size) := by omega
  generalize ((s.get! 0).toNat : Int) = b0 at i0 hm1
  have htb : t.size ≤ 140737488355328 := by omega
  clear hts hm
  go_enter Tryd.func25, Tryd.ntmps25
  go_upto_region 4 with fail
  try rw [ht]
  clear ht i0 hm1 hI0 hI1
  go_wp2
  go_ret2
  exact ⟨⟨_, _, rfl⟩, Below.refl _ _⟩
set_option maxRecDepth 100000 in
set_option maxHeartbeats 4000000 in
theorem num_m1 (s : ByteArray) (w : World) (hsz : s.size ≤ 140737488355328) (h0 : 0 < s.size) (hm : (s.get! 0).toNat = 45) (h1 : (s.extract 1 s.size).size = 1) : Calls Tryd.prog 25 #[.string s] w fun e w' => NumAns e ∧ Below w.heap.size w w' := by
  have hI0 : (0 : Int) < s.size := by omega
  have i0 : ∀ w, (Instr.index 9 (.string s) (.int .i64 0)).run Tryd.prog w = .ok (.int .u8 ((s.get! 0).toNat : Int)) w := fun w => sIdx s 0 h0 .i64 w
  have hm1 : (((s.get! 0).toNat : Int) == 45) = true := by rw [beq_iff_eq]; omega
  have hI1 : (1 : Int) ≤ s.size := by omega
  have hts : (s.extract 1 s.size).size = s.size - 1 := ext_size s 1
  obtain ⟨t, ht⟩ : ∃ t, s.extract 1 s.size = t := ⟨_, rfl⟩
  rw [ht] at hts h1
  have h2 : ¬ ((2 : Int) ≤ t.size) := by omega
  have hz0 : ((t.size : Int) == 0) = false := by rw [beq_eq_false_iff_ne]; omega
  generalize ((s.get! 0).toNat : Int) = b0 at i0 hm1
  have htb : t.size ≤ 140737488355328 := by omega
  clear hts hm
  go_enter Tryd.func25, Tryd.ntmps25
  go_upto_region 4 with fail
  try rw [ht]
  clear ht i0 hm1 hI0 hI1
  go_wp2
  --@CUT1
  go_loopw [6, 7, 8] (fun a i _ wr => ∃ k v : Nat, i = .int .i64 k ∧ a = .int .u64 v ∧ v < 18446744073709551616 ∧ k ≤ t.size ∧ Hid (val 10 (t.toList.drop k) v = val 10 t.toList 0) ∧ wr = w) (fun _ i _ _ => t.size - (RowKit.intOf i).toNat)
  case atStart => exact ⟨0, 0, rfl, rfl, by omega, Nat.zero_le _, rfl, rfl⟩
  case round =>
    obtain ⟨k, v, rfl, rfl, hv, hks, hvl, hwr⟩ := hrel
    subst hwr
    by_cases hp : k < t.size
    · have hpI : (k : Int) < t.size := by omega
      have hix := fun w => sIdx t k hp .i64 w
      have hkI : (k : Int) ≤ 140737488355328 := by omega
      have hst : val 10 (t.toList.drop k) v = if dgv (t.get! k).toNat < 10 ∧ v ≤ (18446744073709551615 - dgv (t.get! k).toNat) / 10 then val 10 (t.toList.drop (k + 1)) (v * 10 + dgv (t.get! k).toNat) else none := by rw [drop_get t k hp]; rfl
      have HST : Hid (val 10 t.toList 0 = if dgv (t.get! k).toNat < 10 ∧ v ≤ (18446744073709551615 - dgv (t.get! k).toNat) / 10 then val 10 (t.toList.drop (k + 1)) (v * 10 + dgv (t.get! k).toNat) else none) := hvl.out.symm.trans hst
      have HDG : Hid (∀ w : World, Calls Tryd.prog 30 #[.int .u8 ((t.get! k).toNat : Int), .int .i64 10] w fun e w' => e = .returned (.int .i64 (if dgv (t.get! k).toNat < 10 then (dgv (t.get! k).toNat : Int) else -1)) ∧ w' = w) := rdigit_10 _ (get_lt t k)
      have hdl := dgv_le (t.get! k).toNat
      generalize dgv (t.get! k).toNat = x at HST HDG hdl
      generalize ((t.get! k).toNat : Int) = cz at hix HDG
      clear hst hvl
      by_cases hx : x < 10
      · rw [if_pos hx] at HDG
        obtain ⟨q, hq⟩ : ∃ q : Nat, q = (18446744073709551615 - x) / 10 := ⟨_, rfl⟩
        have hq1 : (18446744073709551615 - (x : Int)) / 10 = (q : Int) := by omega
        have hq2 : Int.tdiv (18446744073709551615 - (x : Int)) 10 = (q : Int) := by rw [Int.tdiv_eq_ediv_of_nonneg (by omega)]; omega
        have hqb : (q : Int) ≤ 18446744073709551615 := by omega
        have hxn : ¬ ((x : Int) < 0) := by omega
        have hxb : (x : Int) ≤ 16 := by omega
        have wx : IntKind.u64.wrap (x : Int) = x := wrapV _ (by omega)
        by_cases hvq : v ≤ q
        · have hvI : ¬ ((q : Int) < v) := by omega
          obtain ⟨v2, hv2⟩ : ∃ v2 : Nat, v2 = v * 10 + x := ⟨_, rfl⟩
          have hv3 : v2 < 18446744073709551616 := by omega
          have hm1 : IntKind.u64.wrap ((v : Int) * 10) = (v : Int) * 10 := wrapV _ (by omega)
          have hm2 : IntKind.u64.wrap ((v : Int) * 10 + x) = (v2 : Int) := by rw [wrapV _ (by omega)]; omega
          have HV2 : Hid (val 10 (t.toList.drop (k + 1)) v2 = val 10 t.toList 0) := by
            unfold Hid
            rw [HST.out, if_pos ⟨hx, by omega⟩, hv2]
          clear hq hv2
          go_wp2_with (first | (go_at_call 30; refine (HDG.out _).mono ?_; rintro e w1 ⟨rfl, hw⟩; have hw2 := hw.symm; subst hw2))
          --@CUTL
          go_roundw
          · exact ⟨k + 1, v2, by simp, rfl, hv3, by omega, HV2.out, by trivial⟩
          · simp only [RowKit.intOf]; omega
        · have hvI : (q : Int) < v := by omega
          have HV : Hid (val 10 t.toList 0 = none) := by unfold Hid; rw [HST.out, if_neg (by omega)]
          clear hq
          go_wp2_with (first | (go_at_call 30; refine (HDG.out _).mono ?_; rintro e w1 ⟨rfl, hw⟩; have hw2 := hw.symm; subst hw2))
          go_ret2
          exact ⟨⟨_, _, rfl⟩, Below.refl _ _⟩
      · rw [if_neg hx] at HDG
        have HV : Hid (val 10 t.toList 0 = none) := by unfold Hid; rw [HST.out, if_neg (by omega)]
        go_wp2_with (first | (go_at_call 30; refine (HDG.out _).mono ?_; rintro e w1 ⟨rfl, hw⟩; have hw2 := hw.symm; subst hw2))
        go_ret2
        exact ⟨⟨_, _, rfl⟩, Below.refl _ _⟩
    · have hpI : ¬ ((k : Int) < t.size) := by omega
      have HV : Hid (val 10 t.toList 0 = some v) := by
        unfold Hid
        rw [← hvl.out, List.drop_eq_nil_of_le (by rw [toList_len]; omega)]
        rfl
      clear hvl
      by_cases hbig : (9223372036854775808 : Int) < v
      · go_wp2
        go_ret2
        exact ⟨⟨_, _, rfl⟩, Below.refl _ _⟩
      · go_wp2
        go_ret2
        exact ⟨⟨_, _, rfl⟩, Below.refl _ _⟩
set_option maxRecDepth 100000 in
set_option maxHeartbeats 4000000 in
theorem num_m2 (s : ByteArray) (w : World) (hsz : s.size ≤ 140737488355328) (h0 : 0 < s.size) (hm : (s.get! 0).toNat = 45) (h1 : 2 ≤ (s.extract 1 s.size).size) (hz : ¬ ((s.extract 1 s.size).get! 0).toNat = 48) : Calls Tryd.prog 25 #[.string s] w fun e w' => NumAns e ∧ Below w.heap.size w w' := by
  have hI0 : (0 : Int) < s.size := by omega
  have i0 : ∀ w, (Instr.index 9 (.string s) (.int .i64 0)).run Tryd.prog w = .ok (.int .u8 ((s.get! 0).toNat : Int)) w := fun w => sIdx s 0 h0 .i64 w
  have hm1 : (((s.get! 0).toNat : Int) == 45) = true := by rw [beq_iff_eq]; omega
  have hI1 : (1 : Int) ≤ s.size := by omega
  have hts : (s.extract 1 s.size).size = s.size - 1 := ext_size s 1
  obtain ⟨t, ht⟩ : ∃ t, s.extract 1 s.size = t := ⟨_, rfl⟩
  rw [ht] at hts h1 hz
  have h2 : (2 : Int) ≤ t.size := by omega
  have h2b : (1 : Int) < t.size := by omega
  have j0 : ∀ w, (Instr.index 9 (.string t) (.int .i64 0)).run Tryd.prog w = .ok (.int .u8 ((t.get! 0).toNat : Int)) w := fun w => sIdx t 0 (by omega) .i64 w
  have k0 : (((t.get! 0).toNat : Int) == 48) = false := by rw [beq_eq_false_iff_ne]; omega
  have hz0 : ((t.size : Int) == 0) = false := by rw [beq_eq_false_iff_ne]; omega
  generalize ((s.get! 0).toNat : Int) = b0 at i0 hm1
  have htb : t.size ≤ 140737488355328 := by omega
  clear hts hm hz
  go_enter Tryd.func25, Tryd.ntmps25
  go_upto_region 4 with fail
  try rw [ht]
  clear ht i0 hm1 hI0 hI1
  go_wp2
  --@CUT1
  go_loopw [6, 7, 8] (fun a i _ wr => ∃ k v : Nat, i = .int .i64 k ∧ a = .int .u64 v ∧ v < 18446744073709551616 ∧ k ≤ t.size ∧ Hid (val 10 (t.toList.drop k) v = val 10 t.toList 0) ∧ wr = w) (fun _ i _ _ => t.size - (RowKit.intOf i).toNat)
  case atStart => exact ⟨0, 0, rfl, rfl, by omega, Nat.zero_le _, rfl, rfl⟩
  case round =>
    obtain ⟨k, v, rfl, rfl, hv, hks, hvl, hwr⟩ := hrel
    subst hwr
    by_cases hp : k < t.size
    · have hpI : (k : Int) < t.size := by omega
      have hix := fun w => sIdx t k hp .i64 w
      have hkI : (k : Int) ≤ 140737488355328 := by omega
      have hst : val 10 (t.toList.drop k) v = if dgv (t.get! k).toNat < 10 ∧ v ≤ (18446744073709551615 - dgv (t.get! k).toNat) / 10 then val 10 (t.toList.drop (k + 1)) (v * 10 + dgv (t.get! k).toNat) else none := by rw [drop_get t k hp]; rfl
      have HST : Hid (val 10 t.toList 0 = if dgv (t.get! k).toNat < 10 ∧ v ≤ (18446744073709551615 - dgv (t.get! k).toNat) / 10 then val 10 (t.toList.drop (k + 1)) (v * 10 + dgv (t.get! k).toNat) else none) := hvl.out.symm.trans hst
      have HDG : Hid (∀ w : World, Calls Tryd.prog 30 #[.int .u8 ((t.get! k).toNat : Int), .int .i64 10] w fun e w' => e = .returned (.int .i64 (if dgv (t.get! k).toNat < 10 then (dgv (t.get! k).toNat : Int) else -1)) ∧ w' = w) := rdigit_10 _ (get_lt t k)
      have hdl := dgv_le (t.get! k).toNat
      generalize dgv (t.get! k).toNat = x at HST HDG hdl
      generalize ((t.get! k).toNat : Int) = cz at hix HDG
      clear hst hvl
      by_cases hx : x < 10
      · rw [if_pos hx] at HDG
        obtain ⟨q, hq⟩ : ∃ q : Nat, q = (18446744073709551615 - x) / 10 := ⟨_, rfl⟩
        have hq1 : (18446744073709551615 - (x : Int)) / 10 = (q : Int) := by omega
        have hq2 : Int.tdiv (18446744073709551615 - (x : Int)) 10 = (q : Int) := by rw [Int.tdiv_eq_ediv_of_nonneg (by omega)]; omega
        have hqb : (q : Int) ≤ 18446744073709551615 := by omega
        have hxn : ¬ ((x : Int) < 0) := by omega
        have hxb : (x : Int) ≤ 16 := by omega
        have wx : IntKind.u64.wrap (x : Int) = x := wrapV _ (by omega)
        by_cases hvq : v ≤ q
        · have hvI : ¬ ((q : Int) < v) := by omega
          obtain ⟨v2, hv2⟩ : ∃ v2 : Nat, v2 = v * 10 + x := ⟨_, rfl⟩
          have hv3 : v2 < 18446744073709551616 := by omega
          have hm1 : IntKind.u64.wrap ((v : Int) * 10) = (v : Int) * 10 := wrapV _ (by omega)
          have hm2 : IntKind.u64.wrap ((v : Int) * 10 + x) = (v2 : Int) := by rw [wrapV _ (by omega)]; omega
          have HV2 : Hid (val 10 (t.toList.drop (k + 1)) v2 = val 10 t.toList 0) := by
            unfold Hid
            rw [HST.out, if_pos ⟨hx, by omega⟩, hv2]
          clear hq hv2
          go_wp2_with (first | (go_at_call 30; refine (HDG.out _).mono ?_; rintro e w1 ⟨rfl, hw⟩; have hw2 := hw.symm; subst hw2))
          --@CUTL
          go_roundw
          · exact ⟨k + 1, v2, by simp, rfl, hv3, by omega, HV2.out, by trivial⟩
          · simp only [RowKit.intOf]; omega
        · have hvI : (q : Int) < v := by omega
          have HV : Hid (val 10 t.toList 0 = none) := by unfold Hid; rw [HST.out, if_neg (by omega)]
          clear hq
          go_wp2_with (first | (go_at_call 30; refine (HDG.out _).mono ?_; rintro e w1 ⟨rfl, hw⟩; have hw2 := hw.symm; subst hw2))
          go_ret2
          exact ⟨⟨_, _, rfl⟩, Below.refl _ _⟩
      · rw [if_neg hx] at HDG
        have HV : Hid (val 10 t.toList 0 = none) := by unfold Hid; rw [HST.out, if_neg (by omega)]
        go_wp2_with (first | (go_at_call 30; refine (HDG.out _).mono ?_; rintro e w1 ⟨rfl, hw⟩; have hw2 := hw.symm; subst hw2))
        go_ret2
        exact ⟨⟨_, _, rfl⟩, Below.refl _ _⟩
    · have hpI : ¬ ((k : Int) < t.size) := by omega
      have HV : Hid (val 10 t.toList 0 = some v) := by
        unfold Hid
        rw [← hvl.out, List.drop_eq_nil_of_le (by rw [toList_len]; omega)]
        rfl
      clear hvl
      by_cases hbig : (9223372036854775808 : Int) < v
      · go_wp2
        go_ret2
        exact ⟨⟨_, _, rfl⟩, Below.refl _ _⟩
      · go_wp2
        go_ret2
        exact ⟨⟨_, _, rfl⟩, Below.refl _ _⟩
set_option maxRecDepth 100000 in
set_option maxHeartbeats 4000000 in
theorem num_m3 (s : ByteArray) (w : World) (hsz : s.size ≤ 140737488355328) (h0 : 0 < s.size) (hm : (s.get! 0).toNat = 45) (h1 : 2 ≤ (s.extract 1 s.size).size) (hz : ((s.extract 1 s.size).get! 0).toNat = 48) (hy : ¬ ((s.extract 1 s.size).get! 1).toNat = 120) : Calls Tryd.prog 25 #[.string s] w fun e w' => NumAns e ∧ Below w.heap.size w w' := by
  have hI0 : (0 : Int) < s.size := by omega
  have i0 : ∀ w, (Instr.index 9 (.string s) (.int .i64 0)).run Tryd.prog w = .ok (.int .u8 ((s.get! 0).toNat : Int)) w := fun w => sIdx s 0 h0 .i64 w
  have hm1 : (((s.get! 0).toNat : Int) == 45) = true := by rw [beq_iff_eq]; omega
  have hI1 : (1 : Int) ≤ s.size := by omega
  have hts : (s.extract 1 s.size).size = s.size - 1 := ext_size s 1
  obtain ⟨t, ht⟩ : ∃ t, s.extract 1 s.size = t := ⟨_, rfl⟩
  rw [ht] at hts h1 hz hy
  have h2 : (2 : Int) ≤ t.size := by omega
  have h2b : (1 : Int) < t.size := by omega
  have j0 : ∀ w, (Instr.index 9 (.string t) (.int .i64 0)).run Tryd.prog w = .ok (.int .u8 ((t.get! 0).toNat : Int)) w := fun w => sIdx t 0 (by omega) .i64 w
  have k0 : (((t.get! 0).toNat : Int) == 48) = true := by rw [beq_iff_eq]; omega
  have j1 : ∀ w, (Instr.index 9 (.string t) (.int .i64 1)).run Tryd.prog w = .ok (.int .u8 ((t.get! 1).toNat : Int)) w := fun w => sIdx t 1 (by omega) .i64 w
  have k1 : (((t.get! 1).toNat : Int) == 120) = false := by rw [beq_eq_false_iff_ne]; omega
  have hz0 : ((t.size : Int) == 0) = false := by rw [beq_eq_false_iff_ne]; omega
  generalize ((s.get! 0).toNat : Int) = b0 at i0 hm1
  have htb : t.size ≤ 140737488355328 := by omega
  clear hts hm hz hy
  go_enter Tryd.func25, Tryd.ntmps25
  go_upto_region 4 with fail
  try rw [ht]
  clear ht i0 hm1 hI0 hI1
  go_wp2
  --@CUT1
  go_loopw [6, 7, 8] (fun a i _ wr => ∃ k v : Nat, i = .int .i64 k ∧ a = .int .u64 v ∧ v < 18446744073709551616 ∧ k ≤ t.size ∧ Hid (val 10 (t.toList.drop k) v = val 10 t.toList 0) ∧ wr = w) (fun _ i _ _ => t.size - (RowKit.intOf i).toNat)
  case atStart => exact ⟨0, 0, rfl, rfl, by omega, Nat.zero_le _, rfl, rfl⟩
  case round =>
    obtain ⟨k, v, rfl, rfl, hv, hks, hvl, hwr⟩ := hrel
    subst hwr
    by_cases hp : k < t.size
    · have hpI : (k : Int) < t.size := by omega
      have hix := fun w => sIdx t k hp .i64 w
      have hkI : (k : Int) ≤ 140737488355328 := by omega
      have hst : val 10 (t.toList.drop k) v = if dgv (t.get! k).toNat < 10 ∧ v ≤ (18446744073709551615 - dgv (t.get! k).toNat) / 10 then val 10 (t.toList.drop (k + 1)) (v * 10 + dgv (t.get! k).toNat) else none := by rw [drop_get t k hp]; rfl
      have HST : Hid (val 10 t.toList 0 = if dgv (t.get! k).toNat < 10 ∧ v ≤ (18446744073709551615 - dgv (t.get! k).toNat) / 10 then val 10 (t.toList.drop (k + 1)) (v * 10 + dgv (t.get! k).toNat) else none) := hvl.out.symm.trans hst
      have HDG : Hid (∀ w : World, Calls Tryd.prog 30 #[.int .u8 ((t.get! k).toNat : Int), .int .i64 10] w fun e w' => e = .returned (.int .i64 (if dgv (t.get! k).toNat < 10 then (dgv (t.get! k).toNat : Int) else -1)) ∧ w' = w) := rdigit_10 _ (get_lt t k)
      have hdl := dgv_le (t.get! k).toNat
      generalize dgv (t.get! k).toNat = x at HST HDG hdl
      generalize ((t.get! k).toNat : Int) = cz at hix HDG
      clear hst hvl
      by_cases hx : x < 10
      · rw [if_pos hx] at HDG
        obtain ⟨q, hq⟩ : ∃ q : Nat, q = (18446744073709551615 - x) / 10 := ⟨_, rfl⟩
        have hq1 : (18446744073709551615 - (x : Int)) / 10 = (q : Int) := by omega
        have hq2 : Int.tdiv (18446744073709551615 - (x : Int)) 10 = (q : Int) := by rw [Int.tdiv_eq_ediv_of_nonneg (by omega)]; omega
        have hqb : (q : Int) ≤ 18446744073709551615 := by omega
        have hxn : ¬ ((x : Int) < 0) := by omega
        have hxb : (x : Int) ≤ 16 := by omega
        have wx : IntKind.u64.wrap (x : Int) = x := wrapV _ (by omega)
        by_cases hvq : v ≤ q
        · have hvI : ¬ ((q : Int) < v) := by omega
          obtain ⟨v2, hv2⟩ : ∃ v2 : Nat, v2 = v * 10 + x := ⟨_, rfl⟩
          have hv3 : v2 < 18446744073709551616 := by omega
          have hm1 : IntKind.u64.wrap ((v : Int) * 10) = (v : Int) * 10 := wrapV _ (by omega)
          have hm2 : IntKind.u64.wrap ((v : Int) * 10 + x) = (v2 : Int) := by rw [wrapV _ (by omega)]; omega
          have HV2 : Hid (val 10 (t.toList.drop (k + 1)) v2 = val 10 t.toList 0) := by
            unfold Hid
            rw [HST.out, if_pos ⟨hx, by omega⟩, hv2]
          clear hq hv2
          go_wp2_with (first | (go_at_call 30; refine (HDG.out _).mono ?_; rintro e w1 ⟨rfl, hw⟩; have hw2 := hw.symm; subst hw2))
          --@CUTL
          go_roundw
          · exact ⟨k + 1, v2, by simp, rfl, hv3, by omega, HV2.out, by trivial⟩
          · simp only [RowKit.intOf]; omega
        · have hvI : (q : Int) < v := by omega
          have HV : Hid (val 10 t.toList 0 = none) := by unfold Hid; rw [HST.out, if_neg (by omega)]
          clear hq
          go_wp2_with (first | (go_at_call 30; refine (HDG.out _).mono ?_; rintro e w1 ⟨rfl, hw⟩; have hw2 := hw.symm; subst hw2))
          go_ret2
          exact ⟨⟨_, _, rfl⟩, Below.refl _ _⟩
      · rw [if_neg hx] at HDG
        have HV : Hid (val 10 t.toList 0 = none) := by unfold Hid; rw [HST.out, if_neg (by omega)]
        go_wp2_with (first | (go_at_call 30; refine (HDG.out _).mono ?_; rintro e w1 ⟨rfl, hw⟩; have hw2 := hw.symm; subst hw2))
        go_ret2
        exact ⟨⟨_, _, rfl⟩, Below.refl _ _⟩
    · have hpI : ¬ ((k : Int) < t.size) := by omega
      have HV : Hid (val 10 t.toList 0 = some v) := by
        unfold Hid
        rw [← hvl.out, List.drop_eq_nil_of_le (by rw [toList_len]; omega)]
        rfl
      clear hvl
      by_cases hbig : (9223372036854775808 : Int) < v
      · go_wp2
        go_ret2
        exact ⟨⟨_, _, rfl⟩, Below.refl _ _⟩
      · go_wp2
        go_ret2
        exact ⟨⟨_, _, rfl⟩, Below.refl _ _⟩
set_option maxRecDepth 100000 in
set_option maxHeartbeats 4000000 in
theorem num_m4e (s : ByteArray) (w : World) (hsz : s.size ≤ 140737488355328) (h0 : 0 < s.size) (hm : (s.get! 0).toNat = 45) (h1 : 2 ≤ (s.extract 1 s.size).size) (hz : ((s.extract 1 s.size).get! 0).toNat = 48) (hy : ((s.extract 1 s.size).get! 1).toNat = 120) (h3 : (s.extract 1 s.size).size = 2) : Calls Tryd.prog 25 #[.string s] w fun e w' => NumAns e ∧ Below w.heap.size w w' := by
  have hI0 : (0 : Int) < s.size := by omega
  have i0 : ∀ w, (Instr.index 9 (.string s) (.int .i64 0)).run Tryd.prog w = .ok (.int .u8 ((s.get! 0).toNat : Int)) w := fun w => sIdx s 0 h0 .i64 w
  have hm1 : (((s.get! 0).toNat : Int) == 45) = true := by rw [beq_iff_eq]; omega
  have hI1 : (1 : Int) ≤ s.size := by omega
  have hts : (s.extract 1 s.size).size = s.size - 1 := ext_size s 1
  obtain ⟨t, ht⟩ : ∃ t, s.extract 1 s.size = t := ⟨_, rfl⟩
  rw [ht] at hts h1 hz hy h3
  have h2 : (2 : Int) ≤ t.size := by omega
  have h2b : (1 : Int) < t.size := by omega
  have j0 : ∀ w, (Instr.index 9 (.string t) (.int .i64 0)).run Tryd.prog w = .ok (.int .u8 ((t.get! 0).toNat : Int)) w := fun w => sIdx t 0 (by omega) .i64 w
  have k0 : (((t.get! 0).toNat : Int) == 48) = true := by rw [beq_iff_eq]; omega
  have j1 : ∀ w, (Instr.index 9 (.string t) (.int .i64 1)).run Tryd.prog w = .ok (.int .u8 ((t.get! 1).toNat : Int)) w := fun w => sIdx t 1 (by omega) .i64 w
  have k1 : (((t.get! 1).toNat : Int) == 120) = true := by rw [beq_iff_eq]; omega
  have hus : (t.extract 2 t.size).size = t.size - 2 := ext_size t 2
  obtain ⟨u, hu⟩ : ∃ u, t.extract 2 t.size = u := ⟨_, rfl⟩
  rw [hu] at hus
  have hz0 : ((u.size : Int) == 0) = true := by rw [beq_iff_eq]; omega
  generalize ((s.get! 0).toNat : Int) = b0 at i0 hm1
  have htb : t.size ≤ 140737488355328 := by omega
  have hub : u.size ≤ 140737488355328 := by omega
  clear hts hus hm hz hy
  go_enter Tryd.func25, Tryd.ntmps25
  go_upto_region 4 with fail
  try rw [ht]
  clear ht i0 hm1 hI0 hI1
  go_upto_region 8 with fail
  try rw [hu]
  clear hu
  go_wp2
  go_ret2
  exact ⟨⟨_, _, rfl⟩, Below.refl _ _⟩
set_option maxRecDepth 100000 in
set_option maxHeartbeats 4000000 in
theorem num_m4 (s : ByteArray) (w : World) (hsz : s.size ≤ 140737488355328) (h0 : 0 < s.size) (hm : (s.get! 0).toNat = 45) (h1 : 2 ≤ (s.extract 1 s.size).size) (hz : ((s.extract 1 s.size).get! 0).toNat = 48) (hy : ((s.extract 1 s.size).get! 1).toNat = 120) (h3 : (s.extract 1 s.size).size > 2) : Calls Tryd.prog 25 #[.string s] w fun e w' => NumAns e ∧ Below w.heap.size w w' := by
  have hI0 : (0 : Int) < s.size := by omega
  have i0 : ∀ w, (Instr.index 9 (.string s) (.int .i64 0)).run Tryd.prog w = .ok (.int .u8 ((s.get! 0).toNat : Int)) w := fun w => sIdx s 0 h0 .i64 w
  have hm1 : (((s.get! 0).toNat : Int) == 45) = true := by rw [beq_iff_eq]; omega
  have hI1 : (1 : Int) ≤ s.size := by omega
  have hts : (s.extract 1 s.size).size = s.size - 1 := ext_size s 1
  obtain ⟨t, ht⟩ : ∃ t, s.extract 1 s.size = t := ⟨_, rfl⟩
  rw [ht] at hts h1 hz hy h3
  have h2 : (2 : Int) ≤ t.size := by omega
  have h2b : (1 : Int) < t.size := by omega
  have j0 : ∀ w, (Instr.index 9 (.string t) (.int .i64 0)).run Tryd.prog w = .ok (.int .u8 ((t.get! 0).toNat : Int)) w := fun w => sIdx t 0 (by omega) .i64 w
  have k0 : (((t.get! 0).toNat : Int) == 48) = true := by rw [beq_iff_eq]; omega
  have j1 : ∀ w, (Instr.index 9 (.string t) (.int .i64 1)).run Tryd.prog w = .ok (.int .u8 ((t.get! 1).toNat : Int)) w := fun w => sIdx t 1 (by omega) .i64 w
  have k1 : (((t.get! 1).toNat : Int) == 120) = true := by rw [beq_iff_eq]; omega
  have hus : (t.extract 2 t.size).size = t.size - 2 := ext_size t 2
  obtain ⟨u, hu⟩ : ∃ u, t.extract 2 t.size = u := ⟨_, rfl⟩
  rw [hu] at hus
  have hz0 : ((u.size : Int) == 0) = false := by rw [beq_eq_false_iff_ne]; omega
  generalize ((s.get! 0).toNat : Int) = b0 at i0 hm1
  have htb : t.size ≤ 140737488355328 := by omega
  have hub : u.size ≤ 140737488355328 := by omega
  clear hts hus hm hz hy
  go_enter Tryd.func25, Tryd.ntmps25
  go_upto_region 4 with fail
  try rw [ht]
  clear ht i0 hm1 hI0 hI1
  go_upto_region 8 with fail
  try rw [hu]
  clear hu
  go_wp2
  --@CUT1
  go_loopw [6, 7, 8] (fun a i _ wr => ∃ k v : Nat, i = .int .i64 k ∧ a = .int .u64 v ∧ v < 18446744073709551616 ∧ k ≤ u.size ∧ Hid (val 16 (u.toList.drop k) v = val 16 u.toList 0) ∧ wr = w) (fun _ i _ _ => u.size - (RowKit.intOf i).toNat)
  case atStart => exact ⟨0, 0, rfl, rfl, by omega, Nat.zero_le _, rfl, rfl⟩
  case round =>
    obtain ⟨k, v, rfl, rfl, hv, hks, hvl, hwr⟩ := hrel
    subst hwr
    by_cases hp : k < u.size
    · have hpI : (k : Int) < u.size := by omega
      have hix := fun w => sIdx u k hp .i64 w
      have hkI : (k : Int) ≤ 140737488355328 := by omega
      have hst : val 16 (u.toList.drop k) v = if dgv (u.get! k).toNat < 16 ∧ v ≤ (18446744073709551615 - dgv (u.get! k).toNat) / 16 then val 16 (u.toList.drop (k + 1)) (v * 16 + dgv (u.get! k).toNat) else none := by rw [drop_get u k hp]; rfl
      have HST : Hid (val 16 u.toList 0 = if dgv (u.get! k).toNat < 16 ∧ v ≤ (18446744073709551615 - dgv (u.get! k).toNat) / 16 then val 16 (u.toList.drop (k + 1)) (v * 16 + dgv (u.get! k).toNat) else none) := hvl.out.symm.trans hst
      have HDG : Hid (∀ w : World, Calls Tryd.prog 30 #[.int .u8 ((u.get! k).toNat : Int), .int .i64 16] w fun e w' => e = .returned (.int .i64 (if dgv (u.get! k).toNat < 16 then (dgv (u.get! k).toNat : Int) else -1)) ∧ w' = w) := rdigit_16 _ (get_lt u k)
      have hdl := dgv_le (u.get! k).toNat
      generalize dgv (u.get! k).toNat = x at HST HDG hdl
      generalize ((u.get! k).toNat : Int) = cz at hix HDG
      clear hst hvl
      by_cases hx : x < 16
      · rw [if_pos hx] at HDG
        obtain ⟨q, hq⟩ : ∃ q : Nat, q = (18446744073709551615 - x) / 16 := ⟨_, rfl⟩
        have hq1 : (18446744073709551615 - (x : Int)) / 16 = (q : Int) := by omega
        have hq2 : Int.tdiv (18446744073709551615 - (x : Int)) 16 = (q : Int) := by rw [Int.tdiv_eq_ediv_of_nonneg (by omega)]; omega
        have hqb : (q : Int) ≤ 18446744073709551615 := by omega
        have hxn : ¬ ((x : Int) < 0) := by omega
        have hxb : (x : Int) ≤ 16 := by omega
        have wx : IntKind.u64.wrap (x : Int) = x := wrapV _ (by omega)
        by_cases hvq : v ≤ q
        · have hvI : ¬ ((q : Int) < v) := by omega
          obtain ⟨v2, hv2⟩ : ∃ v2 : Nat, v2 = v * 16 + x := ⟨_, rfl⟩
          have hv3 : v2 < 18446744073709551616 := by omega
          have hm1 : IntKind.u64.wrap ((v : Int) * 16) = (v : Int) * 16 := wrapV _ (by omega)
          have hm2 : IntKind.u64.wrap ((v : Int) * 16 + x) = (v2 : Int) := by rw [wrapV _ (by omega)]; omega
          have HV2 : Hid (val 16 (u.toList.drop (k + 1)) v2 = val 16 u.toList 0) := by
            unfold Hid
            rw [HST.out, if_pos ⟨hx, by omega⟩, hv2]
          clear hq hv2
          go_wp2_with (first | (go_at_call 30; refine (HDG.out _).mono ?_; rintro e w1 ⟨rfl, hw⟩; have hw2 := hw.symm; subst hw2))
          --@CUTL
          go_roundw
          · exact ⟨k + 1, v2, by simp, rfl, hv3, by omega, HV2.out, by trivial⟩
          · simp only [RowKit.intOf]; omega
        · have hvI : (q : Int) < v := by omega
          have HV : Hid (val 16 u.toList 0 = none) := by unfold Hid; rw [HST.out, if_neg (by omega)]
          clear hq
          go_wp2_with (first | (go_at_call 30; refine (HDG.out _).mono ?_; rintro e w1 ⟨rfl, hw⟩; have hw2 := hw.symm; subst hw2))
          go_ret2
          exact ⟨⟨_, _, rfl⟩, Below.refl _ _⟩
      · rw [if_neg hx] at HDG
        have HV : Hid (val 16 u.toList 0 = none) := by unfold Hid; rw [HST.out, if_neg (by omega)]
        go_wp2_with (first | (go_at_call 30; refine (HDG.out _).mono ?_; rintro e w1 ⟨rfl, hw⟩; have hw2 := hw.symm; subst hw2))
        go_ret2
        exact ⟨⟨_, _, rfl⟩, Below.refl _ _⟩
    · have hpI : ¬ ((k : Int) < u.size) := by omega
      have HV : Hid (val 16 u.toList 0 = some v) := by
        unfold Hid
        rw [← hvl.out, List.drop_eq_nil_of_le (by rw [toList_len]; omega)]
        rfl
      clear hvl
      by_cases hbig : (9223372036854775808 : Int) < v
      · go_wp2
        go_ret2
        exact ⟨⟨_, _, rfl⟩, Below.refl _ _⟩
      · go_wp2
        go_ret2
        exact ⟨⟨_, _, rfl⟩, Below.refl _ _⟩
end Go.Proofs.YtechkhlibdkmpaaDoor
