/-
  Layer 17 (gdb): the reference's digits, sum, special.
-/
import Derived.Test.YtfenllkkbgkdnaaGd
import Derived.Deep.RegionWith
namespace Go.Proofs.Ytfenllkkbgkdnaa
set_option linter.unusedVariables false
set_option maxRecDepth 100000
open Go.ChangeShapes Go.WideShapes Go.ChangeAt Go.RowKit Go.Deep
def hd (a : Nat) : UInt8 := if a < 10 then UInt8.ofNat (48 + a) else UInt8.ofNat (87 + a)
/-- One hex digit. -/
def dg (a : Nat) : ByteArray := ⟨#[hd a]⟩
def hxD : ByteArray := ⟨#[48, 49, 50, 51, 52, 53, 54, 55, 56, 57, 97, 98, 99, 100, 101, 102]⟩
theorem dg_ext : ∀ a : Nat, a < 16 → hxD.extract a (a + 1) = dg a
  | 0, _ => by rfl
  | 1, _ => by rfl
  | 2, _ => by rfl
  | 3, _ => by rfl
  | 4, _ => by rfl
  | 5, _ => by rfl
  | 6, _ => by rfl
  | 7, _ => by rfl
  | 8, _ => by rfl
  | 9, _ => by rfl
  | 10, _ => by rfl
  | 11, _ => by rfl
  | 12, _ => by rfl
  | 13, _ => by rfl
  | 14, _ => by rfl
  | 15, _ => by rfl
  | a + 16, h => absurd h (by omega)
theorem wrapU (z : Int) (h : 0 ≤ z ∧ z < 18446744073709551616) : IntKind.u64.wrap z = z := by
  have : IntKind.u64.wrap z = z % 18446744073709551616 := by first | rfl | (unfold IntKind.wrap; simp [IntKind.signed, IntKind.bits])
  rw [this]
  omega
set_option maxRecDepth 100000 in
set_option maxHeartbeats 2000000 in
theorem rhex_1 (v : Nat) (h : v < 16) (w : World) : Calls Try.prog 12 #[.int .u64 v] w fun e w' => e = .returned (.string (dg v)) ∧ Below w.heap.size w w' := by
  have h1 : (v : Int) < 16 := by omega
  have e := dg_ext v h
  go_enter Try.func12, Try.ntmps12
  go_wp2
  go_ret
  exact ⟨by rw [← e]; rfl, Below.refl _ _⟩
set_option maxRecDepth 100000 in
set_option maxHeartbeats 2000000 in
theorem rhex_s (v : Nat) (h1 : 16 ≤ v) (h2 : v < 4096) (s : ByteArray) (hs : s.size ≤ 10) (IH : ∀ w : World, Calls Try.prog 12 #[.int .u64 ((v / 16 : Nat) : Int)] w fun e w' => e = .returned (.string s) ∧ Below w.heap.size w w') (w : World) :
    Calls Try.prog 12 #[.int .u64 v] w fun e w' => e = .returned (.string (s ++ dg (v % 16))) ∧ Below w.heap.size w w' := by
  obtain ⟨q, hq0⟩ : ∃ q : Nat, q = v / 16 := ⟨_, rfl⟩
  obtain ⟨r, hr0⟩ : ∃ r : Nat, r = v % 16 := ⟨_, rfl⟩
  have e := dg_ext r (by omega)
  have hI : ¬ ((v : Int) < 16) := by omega
  have hq1 : (v : Int) / 16 = (q : Int) := by omega
  have hq2 : Int.tdiv (v : Int) 16 = (q : Int) := by rw [Int.tdiv_eq_ediv_of_nonneg (by omega)]; omega
  have hr1 : (v : Int) % 16 = (r : Int) := by omega
  have hr2 : Int.tmod (v : Int) 16 = (r : Int) := by rw [Int.tmod_eq_emod_of_nonneg (by omega)]; omega
  have w1 : IntKind.u64.wrap (q : Int) = q := wrapU _ (by omega)
  have w2 : IntKind.u64.wrap ((r : Int) + 1) = r + 1 := wrapU _ (by omega)
  have hr16 : (r : Int) < 16 := by omega
  have hr17 : (r : Int) + 1 ≤ 16 := by omega
  rw [← hq0] at IH
  rw [← hr0]
  have HD : Hid (∀ w : World, Calls Try.prog 12 #[.int .u64 q] w fun e w' => e = .returned (.string s) ∧ Below w.heap.size w w') := IH
  have HE : Hid (hxD.extract r (r + 1) = dg r) := e
  have hsz : ¬ (9223372036854775807 < s.size + (dg r).size) := by
    have : (dg r).size = 1 := rfl
    omega
  have hsz2 : ¬ (9223372036854775807 < s.size + 1) := by omega
  clear IH e hq0 hr0 h1 h2 hs
  go_enter Try.func12, Try.ntmps12
  go_wp2
  go_region_with (first | (go_at_call 12; refine (HD.out _).mono ?_; rintro e w1 ⟨rfl, hb⟩; have HB1 : Hid _ := hb; clear hb))
  all_goals go_wp2
  all_goals go_ret
  all_goals exact ⟨by rw [← HE.out]; rfl, (Below.drew (Below.refl w.heap.size w)).trans HB1.out⟩
theorem dg_two (a b : Nat) (ha : a < 16) (hb : b < 16) : dg a ++ dg b = strOfNums [hd1 a, hd1 b] := by
  have e : ∀ a : Nat, a < 16 → hd a = UInt8.ofNat (hd1 (a : Int)).toNat := fun a ha => by
    unfold hd hd1
    by_cases h : a < 10
    · rw [if_pos h, if_pos (by omega)]; congr 1
    · rw [if_neg h, if_neg (by omega)]; congr 1
  refine ByteArray.ext ?_
  rw [ByteArray.data_append]
  unfold strOfNums dg
  simp [e a ha, e b hb]
set_option maxHeartbeats 2000000 in
theorem dgt_c (v : Nat) (h : v < 256) (w : World) : Calls Try.prog 10 #[.int .u64 v, .int .i64 2] w fun e w' => e = .returned (.string (strOfNums (hex1 v))) ∧ Below w.heap.size w w' := by
  have HX : Hid (strOfNums (hex1 v) = dg (v / 16) ++ dg (v % 16)) := (by
    unfold Hid hex1
    rw [dg_two _ _ (by omega) (by omega)]
    rfl)
  rw [HX.out]
  by_cases h1 : v < 16
  · have HR := Hid.mk' (rhex_1 v h1 w)
    rw [show v / 16 = 0 by omega, show v % 16 = v by omega]
    have z1 : (dg v).size = 1 := rfl
    have z2 : (dg 0 ++ dg v).size = 2 := by rw [ByteArray.size_append]; rfl
    have HA : Hid ((⟨#[48]⟩ : ByteArray) ++ dg v = dg 0 ++ dg v) := rfl
    generalize dg v = s0 at *
    generalize hs1 : dg 0 ++ s0 = s1 at *
    have ha := HA.out
    have n1 : ((s0.size : Nat) : Int) < 2 := by omega
    have n2 : ¬ ((s1.size : Nat) : Int) < 2 := by omega
    have n3 : ¬ (9223372036854775807 < 1 + s0.size) := by omega
    clear hs1 h h1 HX
    go_enter Try.func10, Try.ntmps10
    go_wp2_with (go_at_call 12; refine HR.out.mono ?_; rintro e W1 ⟨rfl, hb1⟩; have HB1 := Hid.mk' hb1; clear hb1)
    go_loopw [5] (fun x wr => ∃ s, (s = s0 ∨ s = s1) ∧ x = .string s ∧ Hid (wr = W1)) (fun x _ => match x with | .string s => 2 - s.size | _ => 0)
    case atStart => exact ⟨s0, .inl rfl, rfl, rfl⟩
    case round =>
      obtain ⟨s, hs, rfl, hw⟩ := hrel
      rcases hs with rfl | rfl
      · go_wp2
        go_roundw
        case rel => exact ⟨s1, .inr rfl, by first | rfl | rw [HA.out], hw⟩
        case measure => simp [z1, z2]
      · go_wp2
        go_ret
        exact ⟨rfl, by rw [hw.out]; exact HB1.out⟩
  · have HR := Hid.mk' (rhex_s v (by omega) (by omega) _ (by show 1 ≤ 10; omega) (rhex_1 (v / 16) (by omega)) w)
    have z2 : (dg (v / 16) ++ dg (v % 16)).size = 2 := by rw [ByteArray.size_append]; rfl
    generalize dg (v / 16) ++ dg (v % 16) = s1 at *
    have n2 : ¬ ((s1.size : Nat) : Int) < 2 := by omega
    clear h h1 HX
    go_enter Try.func10, Try.ntmps10
    go_wp2_with (go_at_call 12; refine HR.out.mono ?_; rintro e W1 ⟨rfl, hb1⟩; have HB1 := Hid.mk' hb1; clear hb1)
    go_loopw [5] (fun x wr => x = .string s1 ∧ Hid (wr = W1)) (fun x _ => 0)
    case atStart => exact ⟨rfl, rfl⟩
    case round =>
      obtain ⟨rfl, hw⟩ := hrel
      go_wp2
      go_ret
      exact ⟨rfl, by rw [hw.out]; exact HB1.out⟩
set_option maxHeartbeats 2000000 in
theorem rspc_c (c : Int) (w : World) : Calls Try.prog 9 #[.int .u8 c] w fun e w' => e = .returned (.bool (spc c)) ∧ w' = w := by
  obtain ⟨b, hb⟩ : ∃ b, b = spc c := ⟨_, rfl⟩
  have HS := Hid.mk' hb
  rw [← hb]
  clear hb
  by_cases q1 : c = 35
  · subst q1
    have e : b = true := HS.out
    subst e
    go_enter Try.func9, Try.ntmps9
    go_wp2
    go_ret
    exact ⟨rfl, rfl⟩
  by_cases q2 : c = 36
  · subst q2
    have e : b = true := HS.out
    subst e
    go_enter Try.func9, Try.ntmps9
    go_wp2
    go_ret
    exact ⟨rfl, rfl⟩
  by_cases q3 : c = 125
  · subst q3
    have e : b = true := HS.out
    subst e
    go_enter Try.func9, Try.ntmps9
    go_wp2
    go_ret
    exact ⟨rfl, rfl⟩
  have r1 : (c == 35) = false := by simp [q1]
  have r2 : (c == 36) = false := by simp [q2]
  have r3 : (c == 125) = false := by simp [q3]
  have e : b = (c == 42) := by rw [HS.out]; unfold spc; rw [r1, r2, r3]; rfl
  subst e
  generalize hc4 : (c == 42) = b4
  cases b4
  · go_enter Try.func9, Try.ntmps9
    go_wp2
    go_ret
    exact ⟨rfl, rfl⟩
  · go_enter Try.func9, Try.ntmps9
    go_wp2
    go_ret
    exact ⟨rfl, rfl⟩
set_option maxHeartbeats 2000000 in
theorem rsum_c (l : List Int) (v : Value) (w : World) (hv : Byt w v l) (hall : AllB l) (hl : l.length ≤ 1000000) :
    Calls Try.prog 11 #[v] w fun e w' => e = .returned (.int .i64 (smN l)) ∧ w' = w := by
  obtain ⟨a, cap, rfl, hc, _, hr⟩ := hv
  have HR : Hid (l ≠ [] → ∃ g off, a = some ⟨g, off, none⟩ ∧ g < w.heap.size ∧ ∀ j, j < l.length → w.cell? ⟨g, off + j, none⟩ = some (.int .u8 (l.getD j 0))) := hr
  have HAL := Hid.mk' hall
  clear hr hall
  go_enter Try.func11, Try.ntmps11
  go_wp2
  go_loopw [3, 4] (fun x i wr => ∃ k : Nat, k ≤ l.length ∧ i = .int .i64 k ∧ x = .int .i64 (smN (l.take k)) ∧ wr = w) (fun _ i _ => l.length - (intOf i).toNat)
  case atStart => exact ⟨0, Nat.zero_le _, rfl, rfl, rfl⟩
  case round =>
    obtain ⟨k, hk, rfl, rfl, hwr⟩ := hrel
    subst hwr
    by_cases hlt : k < l.length
    · obtain ⟨gl, off, rfl, hgl, hcell⟩ := HR.out (by intro e; rw [e] at hlt; simp at hlt)
      have hlt2 : (k : Int) < (l.length : Int) := by omega
      have hce : wr.cell? ⟨gl, off + k, none⟩ = some (.int .u8 (l.getD k 0)) := hcell k hlt
      have HS : Hid (smN (l.take (k + 1)) = (smN (l.take k) + l.getD k 0) % 256) := smN_take hlt
      obtain ⟨sb0, sb1⟩ := smN_bd (l.take k)
      obtain ⟨cb0, cb1⟩ : 0 ≤ l.getD k 0 ∧ l.getD k 0 ≤ 255 := HAL.out _ (by rw [List.getD_eq_getElem?_getD, List.getElem?_eq_getElem hlt]; simp)
      generalize smN (l.take k) = s at *
      generalize l.getD k 0 = c at *
      have hm : Int.tmod (s + c) 256 = (s + c) % 256 := Int.tmod_eq_emod_of_nonneg (by omega)
      clear hcell HR
      go_wp2
      go_roundw
      case rel => exact ⟨k + 1, by omega, by go_num, by rw [HS.out], trivial⟩
      case measure => simp [intOf]; omega
    · have hkn : k = l.length := by omega
      have hz : ¬ (k : Int) < (l.length : Int) := by omega
      have HE : Hid (smN (l.take k) = smN l) := (by unfold Hid; rw [hkn, List.take_length])
      rw [HE.out]
      clear hkn hlt
      go_wp2
      go_ret
      exact ⟨rfl, rfl⟩
end Go.Proofs.Ytfenllkkbgkdnaa
