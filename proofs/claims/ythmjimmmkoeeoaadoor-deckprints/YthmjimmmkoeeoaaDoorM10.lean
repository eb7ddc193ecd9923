/-
  Dd.
-/
import Derived.Test.YthmjimmmkoeeoaaDoorM08
import Derived.Test.YthmjimmmkoeeoaaDoorM09
namespace Go.Proofs.YthmjimmmkoeeoaaDoor
set_option linter.unusedVariables false
set_option maxRecDepth 100000
open Go.ChangeShapes Go.WideShapes Go.ChangeAt Go.RowKit Go.Deep Go.Shelf
/-- What of the library's table is looked at. -/
def Tz (w : World) : Prop := w.cell? ⟨7, 15, none⟩ = some (.int .u8 4)
theorem Tz.lt {w : World} (h : Tz w) : 7 < w.heap.size := World.block_lt_of_cell? w _ h
theorem Tz.next {w w' : World} (h : Tz w) (b : Below w.heap.size w w') : Tz w' := (b.cell (p := ⟨7, 15, none⟩) h.lt).trans h
theorem tz16_c (w : World) (h : Tz w) : Calls Tryd.prog 88 #[.int .u64 16] w fun e w' => e = .returned (.int .i64 4) ∧ w' = w := by
  unfold Tz at h
  have h1 : bits .and .u64 16 (IntKind.u64.wrap (-16)) = 16 := by kernel_rfl
  have h2 : IntKind.u64.wrap 4573923408821661840 = 4573923408821661840 := by kernel_rfl
  go_enter Tryd.func88, Tryd.ntmps88
  go_wp2
  go_ret
  exact ⟨rfl, rfl⟩
theorem tz_c (w : World) (h : Tz w) : Calls Tryd.prog 84 #[.int .u64 16] w fun e w' => e = .returned (.int .i64 4) ∧ w' = w := by
  have H : Hid (Calls Tryd.prog 88 #[.int .u64 16] w fun e w' => e = .returned (.int .i64 4) ∧ w' = w) := tz16_c w h
  clear h
  go_enter Tryd.func84, Tryd.ntmps84
  go_wp2_with (first | (go_at_call 88; refine H.out.mono ?_; rintro e w1 ⟨rfl, hw⟩; have hw2 := hw.symm; subst hw2))
  go_ret
  exact ⟨rfl, rfl⟩
theorem pow2_c (w : World) : Calls Tryd.prog 83 #[.int .i64 16] w fun e w' => e = .returned (.bool true) ∧ w' = w := by
  have h1 : bits .and .i64 16 15 = 0 := by kernel_rfl
  go_enter Tryd.func83, Tryd.ntmps83
  go_wp2
  go_ret
  exact ⟨rfl, rfl⟩
theorem dIdx : ∀ (n : Nat) (h : n < 16) (w : World), (Instr.index 9 (.string ⟨#[48, 49, 50, 51, 52, 53, 54, 55, 56, 57, 97, 98, 99, 100, 101, 102, 103, 104, 105, 106, 107, 108, 109, 110, 111, 112, 113, 114, 115, 116, 117, 118, 119, 120, 121, 122]⟩) (.int .u64 (n : Int))).run Tryd.prog w = .ok (.int .u8 ((hd n).toNat : Int)) w
  | 0, _, w => by kernel_rfl
  | 1, _, w => by kernel_rfl
  | 2, _, w => by kernel_rfl
  | 3, _, w => by kernel_rfl
  | 4, _, w => by kernel_rfl
  | 5, _, w => by kernel_rfl
  | 6, _, w => by kernel_rfl
  | 7, _, w => by kernel_rfl
  | 8, _, w => by kernel_rfl
  | 9, _, w => by kernel_rfl
  | 10, _, w => by kernel_rfl
  | 11, _, w => by kernel_rfl
  | 12, _, w => by kernel_rfl
  | 13, _, w => by kernel_rfl
  | 14, _, w => by kernel_rfl
  | 15, _, w => by kernel_rfl
  | n + 16, h, _ => absurd h (by omega)
theorem and15 (a : Nat) (h : a < 18446744073709551616) : bits .and .u64 (a : Int) 15 = ((a % 16 : Nat) : Int) := by
  show IntKind.u64.wrap ((BitVec.ofInt 64 (a : Int) &&& BitVec.ofInt 64 15).toNat : Int) = _
  have e : (BitVec.ofInt 64 (a : Int) &&& BitVec.ofInt 64 15).toNat = a % 16 := by
    rw [BitVec.toNat_and, BitVec.toNat_ofInt]
    have e1 : ((a : Int) % ((2 ^ 64 : Nat) : Int)).toNat = a := by omega
    have e2 : (BitVec.ofInt 64 15).toNat = 2 ^ 4 - 1 := by decide
    rw [e1, e2, Nat.and_two_pow_sub_one_eq_mod]
  rw [e]
  exact wrapU _ (by omega)
def Z65 : Array Value := Array.replicate 65 (.int .u8 0)
theorem zero65 (w : World) : (zeroValue 130).run Tryd.prog w = .ok (.agg Z65) w := by kernel_rfl
/-- The buffer: from place m on, its k bytes are the last k hex digits of v. -/
def Bf (v g m k : Nat) (w : World) : Prop := m + k = 65 ∧ ∃ C : Array Value, C.size = 65 ∧ w.heap[g]? = some (.cells C 130 (0, 0)) ∧ ∀ j, j < k → C[64 - j]? = some (.int .u8 ((hd (v / 16 ^ j % 16)).toNat : Int))
theorem Bf.put {v g m k : Nat} {w : World} (h : Bf v g (m + 1) k w) (d : UInt8) (hd2 : d = hd (v / 16 ^ k % 16)) : Bf v g m (k + 1) (w.setCell ⟨g, m, none⟩ (.int .u8 (d.toNat : Int))) := by
  obtain ⟨hm, C, hC, hr, hd⟩ := h
  refine ⟨by omega, C.setIfInBounds m (.int .u8 (d.toNat : Int)), by simpa using hC, ?_, fun j hj => ?_⟩
  · simp [World.setCell, hr, Array.getElem?_modify]
  · rcases Nat.lt_or_eq_of_le (Nat.le_of_lt_succ hj) with hj | rfl
    · rw [Array.getElem?_setIfInBounds_ne (by omega)]
      exact hd j hj
    · rw [show 64 - j = m by omega, Array.getElem?_setIfInBounds_self_of_lt (by omega), hd2]
theorem Bf.there {v g m k : Nat} {w : World} (h : Bf v g m k w) (j : Nat) (hj : j < 65) : (∃ u, w.cell? ⟨g, j, none⟩ = some u) ∧ w.frozen? ⟨g, j, none⟩ = false := by
  obtain ⟨_, C, hC, hr, _⟩ := h
  exact ⟨⟨C[j], by rw [cell_of_row w g j _ _ _ hr]; exact Array.getElem?_eq_getElem (by omega)⟩, frozen_of_row w g j _ _ hr⟩
theorem hx_list (k : Nat) : ∀ v : Nat, v / 16 ^ k < 16 → (k = 0 ∨ 16 ≤ v / 16 ^ (k - 1)) → hxL v = (List.range (k + 1)).map fun j => hd (v / 16 ^ (k - j) % 16) := by
  induction k with
  | zero =>
    intro v hlt _
    have h : v < 16 := by simpa using hlt
    rw [hxL_one h]
    simp [List.range_succ, Nat.mod_eq_of_lt h]
  | succ k ih =>
    intro v hlt hpre
    have h16 : 16 ≤ v / 16 ^ k := by rcases hpre with h | h; · omega
                                     · simpa using h
    have hv : ¬ v < 16 := by
      intro h
      have : v / 16 ^ k ≤ v := Nat.div_le_self _ _
      omega
    have e : ∀ j, v / 16 / 16 ^ j = v / 16 ^ (j + 1) := fun j => by rw [Nat.div_div_eq_div_mul, Nat.pow_succ, Nat.mul_comm]
    rw [hxL_more hv, ih (v / 16) (by rw [e]; exact hlt) (by
      by_cases h0 : k = 0
      · exact .inl h0
      · refine .inr ?_
        rw [e, show k - 1 + 1 = k by omega]; exact h16), List.range_succ (n := k + 1), List.map_append]
    congr 1
    · apply List.map_congr_left
      intro j hj
      have : j < k + 1 := by simpa using hj
      rw [e, show k - j + 1 = k + 1 - j by omega]
    · simp
theorem Bf.tell {v g m k : Nat} {w : World} (h : Bf v g m (k + 1) w) (hlt : v / 16 ^ k < 16) (hpre : k = 0 ∨ 16 ≤ v / 16 ^ (k - 1)) (n : Nat) (hn : n = k + 1) : (convert 44 9 (.slice (some ⟨g, m, none⟩) n n)).run Tryd.prog w = .ok (.string (tS (hxL v))) w := by
  subst hn
  obtain ⟨hm, C, hC, hr, hd2⟩ := h
  have hx := run_convert_bytes_arg (P := Tryd.prog) w 44 5 Tryd.underlying44 Tryd.underlying5 g m (k + 1) (k + 1) ((List.range (k + 1)).map fun j => ((hd (v / 16 ^ (k - j) % 16)).toNat : Int)) (by simp) (fun i hi => by
    rw [cell_of_row w g (m + i) _ _ _ hr, show m + i = 64 - (k - i) by omega, hd2 (k - i) (by omega)]
    simp [List.getD, hi]) 9 Tryd.underlying9
  rw [hx, hx_list k v hlt hpre]
  unfold tS
  congr 3
  unfold strOfNums
  simp
set_option maxHeartbeats 4000000 in
theorem fbits_c (v : Nat) (hv : v < 18446744073709551616) (w : World) (hT : Tz w) : Calls Tryd.prog 73 #[.slice none 0 0, .int .u64 v, .int .i64 16, .bool false, .bool false] w fun e w' => e = .returned (.tuple #[.slice none 0 0, .string (tS (hxL v))]) ∧ Below w.heap.size w w' := by
  obtain ⟨W, hW⟩ : ∃ W, w.alloc (.cells Z65 130) = W := ⟨_, rfl⟩
  have HBW : Hid (Below w.heap.size w W) := by unfold Hid; rw [← hW]; exact (Below.refl _ _).alloc (Nat.le_refl _) _
  have HF0 : Hid (Bf v w.heap.size 65 0 W) := ⟨rfl, Z65, by decide, by rw [← hW]; exact heap_alloc_new w _, fun j hj => by omega⟩
  have HTW : Hid (Tz W) := hT.next HBW.out
  have hz := zero65
  have HTC : Hid (Calls Tryd.prog 84 #[.int .u64 16] W fun e w' => e = .returned (.int .i64 4) ∧ w' = W) := tz_c W HTW.out
  have HP : Hid (Calls Tryd.prog 83 #[.int .i64 16] W fun e w' => e = .returned (.bool true) ∧ w' = W) := pow2_c W
  clear hT
  obtain ⟨s, hs⟩ : ∃ s, s = tS (hxL v) := ⟨_, rfl⟩
  rw [← hs]
  have HS : Hid (s = tS (hxL v)) := hs
  clear hs
  go_enter Tryd.func73, Tryd.ntmps73
  go_upto_region 4 with fail
  clear hW hz
  --@U1
  go_wp2_with (first | (go_at_call 84; refine HTC.out.mono ?_; rintro e w1 ⟨rfl, hw⟩; have hw2 := hw.symm; subst hw2) | (go_at_call 83; refine HP.out.mono ?_; rintro e w1 ⟨rfl, hw⟩; have hw2 := hw.symm; subst hw2))
  --@U2
  go_loopw [1, 13] (fun a i wr => ∃ k m : Nat, k ≤ 15 ∧ 50 ≤ m ∧ m ≤ 65 ∧ a = .int .u64 ((v / 16 ^ k : Nat) : Int) ∧ i = .int .i64 m ∧ Hid (k = 0 ∨ 16 ≤ v / 16 ^ (k - 1)) ∧ Hid (Bf v w.heap.size m k wr) ∧ Hid (Below w.heap.size w wr)) (fun a _ _ => (intOf a).toNat)
  case atStart => exact ⟨0, 65, by omega, by omega, by omega, by simp, rfl, .inl rfl, HF0.out, HBW.out⟩
  case round =>
    obtain ⟨k, m, hk, hm0, hm1, rfl, rfl, hpre, HF, HB⟩ := hrel
    clear HF0 HBW HTW HTC HP
    obtain ⟨m, rfl⟩ : ∃ m', m = m' + 1 := ⟨m - 1, by omega⟩
    have HMK : Hid (m + 1 + k = 65) := HF.out.1
    obtain ⟨u, hu⟩ : ∃ u, u = v / 16 ^ k := ⟨_, rfl⟩
    rw [← hu]
    have hule : u ≤ v := by rw [hu]; exact Nat.div_le_self _ _
    have hi := and15 u (by omega)
    obtain ⟨d, hd0⟩ : ∃ d, d = u % 16 := ⟨_, rfl⟩
    rw [← hd0] at hi
    have hix := dIdx d (by omega)
    have hdI : (d : Int) < 36 := by omega
    have HD : Hid (hd d = hd (v / 16 ^ k % 16)) := by unfold Hid; rw [hd0, hu]
    have HD2 : Hid (u < 16 → hd u = hd (v / 16 ^ k % 16)) := fun h => by rw [← hu, Nat.mod_eq_of_lt h]
    have HQ : Hid (u / 16 = v / 16 ^ (k + 1)) := by unfold Hid; rw [hu, Nat.div_div_eq_div_mul, Nat.pow_succ]
    obtain ⟨⟨c0, hc0⟩, hf0⟩ := HF.out.there m (by omega)
    have e1 : (((m + 1 : Nat) : Int) - 1) = (m : Int) := by omega
    have e2 : IntKind.i64.wrap (m : Int) = m := wrapI _ (by omega)
    have e3 : (m : Int) < 65 := by omega
    have e4 : (m : Int) ≤ 65 := by omega
    obtain ⟨n, hn⟩ : ∃ n : Nat, n = 65 - m := ⟨_, rfl⟩
    have e5 : (65 : Int) - (m : Int) = (n : Int) := by omega
    have e6 : 65 - m = n := hn.symm
    have HNK : Hid (n = k + 1) := by have := HMK.out; unfold Hid; omega
    clear hule
    by_cases hlt : u < 16
    · have hI : (u : Int) < 16 := by omega
      have hI2 : ¬ ((16 : Int) ≤ u) := by omega
      have hI3 : (u : Int) < 36 := by omega
      have hix3 := dIdx u hlt
      have htl := (Bf.put HF.out (hd u) (HD2.out hlt)).tell (by rw [← hu]; exact hlt) hpre.out n HNK.out
      have HBF : Hid (Below w.heap.size w (wr.setCell ⟨w.heap.size, m, none⟩ (.int .u8 ((hd u).toNat : Int)))) := Below.setCell HB.out (Nat.le_refl _) _
      rw [← HS.out] at htl
      clear hi hix HQ hu hd0 hn
      --@U3
      go_wp2
      --@U4
      go_ret2
      exact ⟨rfl, HBF.out⟩
    · have hI : ¬ ((u : Int) < 16) := by omega
      have hI2 : (16 : Int) ≤ u := by omega
      obtain ⟨q, hq0⟩ : ∃ q : Nat, q = u / 16 := ⟨_, rfl⟩
      have hq1 : (u : Int) / 16 = (q : Int) := by omega
      have HQ2 : Hid (q = v / 16 ^ (k + 1)) := hq0.trans HQ.out
      have HQL : Hid (q < u) := by unfold Hid; omega
      have HK15 : Hid (k + 1 ≤ 15) := by
        unfold Hid
        rcases Nat.lt_or_ge k 15 with h | h
        · omega
        · exfalso
          have : k = 15 := by omega
          subst this
          have : v / 16 ^ 15 < 16 := by rw [Nat.div_lt_iff_lt_mul (by omega)]; omega
          omega
      have HBF : Hid (Below w.heap.size w (wr.setCell ⟨w.heap.size, m, none⟩ (.int .u8 ((hd d).toNat : Int)))) := Below.setCell HB.out (Nat.le_refl _) _
      have HPF : Hid (Bf v w.heap.size m (k + 1) (wr.setCell ⟨w.heap.size, m, none⟩ (.int .u8 ((hd d).toNat : Int)))) := Bf.put HF.out (hd d) HD.out
      have HU : Hid (u = v / 16 ^ k) := hu
      have HU2 : Hid (16 ≤ u) := by unfold Hid; omega
      clear hu hd0 hq0 hn
      --@U5
      go_wp2
      --@U6
      go_roundw
      · exact ⟨k + 1, m, HK15.out, by have := HMK.out; have := HK15.out; omega, by omega, by rw [← HQ2.out], rfl, .inr (by rw [Nat.add_sub_cancel, ← HU.out]; exact HU2.out), HPF.out, HBF.out⟩
      · have := HQL.out
        simp only [intOf]; omega
theorem ifmt_c (v : Nat) (hv : v < 18446744073709551616) (w : World) (hT : Tz w) : Calls Tryd.prog 57 #[.int .u64 v, .int .i64 16] w fun e w' => e = .returned (.string (tS (hxL v))) ∧ Below w.heap.size w w' := by
  have H : Hid (Calls Tryd.prog 73 #[.slice none 0 0, .int .u64 v, .int .i64 16, .bool false, .bool false] w fun e w' => e = .returned (.tuple #[.slice none 0 0, .string (tS (hxL v))]) ∧ Below w.heap.size w w') := fbits_c v hv w hT
  generalize tS (hxL v) = s at H
  clear hT
  go_enter Tryd.func57, Tryd.ntmps57
  go_wp2_with (first | (go_at_call 73; refine H.out.mono ?_; rintro e w1 ⟨rfl, hb⟩; have HB : Hid (Below w.heap.size w w1) := hb; clear hb))
  go_ret
  exact ⟨rfl, HB.out⟩
theorem fmt_c (v : Nat) (hv : v < 18446744073709551616) (w : World) (hT : Tz w) : Calls Tryd.prog 42 #[.int .u64 v, .int .i64 16] w fun e w' => e = .returned (.string (tS (hxL v))) ∧ Below w.heap.size w w' := by
  have H : Hid (Calls Tryd.prog 57 #[.int .u64 v, .int .i64 16] w fun e w' => e = .returned (.string (tS (hxL v))) ∧ Below w.heap.size w w') := ifmt_c v hv w hT
  generalize tS (hxL v) = s at H
  clear hT
  go_enter Tryd.func42, Tryd.ntmps42
  go_wp2_with (first | (go_at_call 57; refine H.out.mono ?_; rintro e w1 ⟨rfl, hb⟩; have HB : Hid (Below w.heap.size w w1) := hb; clear hb))
  go_ret
  exact ⟨rfl, HB.out⟩
/-- Hex of the program. -/
theorem phx_c (v : BitVec 64) (w : World) (hT : Tz w) : Calls Tryd.prog 22 #[.int .u64 (n64 v)] w fun e w' => e = .returned (.string (tS (hxT v))) ∧ Below w.heap.size w w' := by
  have H : Hid (Calls Tryd.prog 42 #[.int .u64 (n64 v), .int .i64 16] w fun e w' => e = .returned (.string (tS (hxL v.toNat))) ∧ Below w.heap.size w w') := fmt_c v.toNat v.isLt w hT
  have HE : Hid ((⟨#[48, 120]⟩ : ByteArray) ++ tS (hxL v.toNat) = tS (hxT v)) := hxS v
  have hsz : ¬ (9223372036854775807 < 2 + (tS (hxL v.toNat)).size) := by have := hxL_64 v; rw [tS_size]; omega
  generalize tS (hxL v.toNat) = s at H hsz HE
  clear hT
  go_enter Tryd.func22, Tryd.ntmps22
  go_wp2_with (first | (go_at_call 42; refine H.out.mono ?_; rintro e w1 ⟨rfl, hb⟩; have HB : Hid (Below w.heap.size w w1) := hb; clear hb))
  go_ret
  exact ⟨by rw [← HE.out]; rfl, HB.out⟩
end Go.Proofs.YthmjimmmkoeeoaaDoor
