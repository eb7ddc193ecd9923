/-
  strconv.FormatUint in hex digits, for numbers below 4096; Hex of the program.
-/
import Derived.Test.YtechkhlibdkmpaaDoorSd
import Derived.Deep.CutRange
namespace Go.Proofs.YtechkhlibdkmpaaDoor
set_option linter.unusedVariables false
open Go.ChangeShapes Go.WideShapes Go.ChangeAt Go.RowKit Go.Deep Go.Shelf
/-- What of the library's table is looked at. -/
def Tz (w : World) : Prop := w.cell? ⟨5, 15, none⟩ = some (.int .u8 4)
theorem Tz.lt {w : World} (h : Tz w) : 5 < w.heap.size := World.block_lt_of_cell? w _ h
theorem Tz.next {w w' : World} (h : Tz w) (b : Below w.heap.size w w') : Tz w' := (b.cell (p := ⟨5, 15, none⟩) h.lt).trans h
theorem tz16_c (w : World) (h : Tz w) : Calls Tryd.prog 46 #[.int .u64 16] w fun e w' => e = .returned (.int .i64 4) ∧ w' = w := by
  unfold Tz at h
  have h1 : bits .and .u64 16 (IntKind.u64.wrap (-16)) = 16 := by kernel_rfl
  have h2 : IntKind.u64.wrap 4573923408821661840 = 4573923408821661840 := by kernel_rfl
  go_enter Tryd.func46, Tryd.ntmps46
  go_wp2
  go_ret
  exact ⟨rfl, rfl⟩
theorem tz_c (w : World) (h : Tz w) : Calls Tryd.prog 44 #[.int .u64 16] w fun e w' => e = .returned (.int .i64 4) ∧ w' = w := by
  have H : Hid (Calls Tryd.prog 46 #[.int .u64 16] w fun e w' => e = .returned (.int .i64 4) ∧ w' = w) := tz16_c w h
  clear h
  go_enter Tryd.func44, Tryd.ntmps44
  go_wp2_with (first | (go_at_call 46; refine H.out.mono ?_; rintro e w1 ⟨rfl, hw⟩; have hw2 := hw.symm; subst hw2))
  go_ret
  exact ⟨rfl, rfl⟩
theorem pow2_c (w : World) : Calls Tryd.prog 43 #[.int .i64 16] w fun e w' => e = .returned (.bool true) ∧ w' = w := by
  have h1 : bits .and .i64 16 15 = 0 := by kernel_rfl
  go_enter Tryd.func43, Tryd.ntmps43
  go_wp2
  go_ret
  exact ⟨rfl, rfl⟩
theorem dIdx : ∀ (n : Nat) (h : n < 16) (w : World), (Instr.index 9 (.string ⟨#[48, 49, 50, 51, 52, 53, 54, 55, 56, 57, 97, 98, 99, 100, 101, 102, 103, 104, 105, 106, 107, 108, 109, 110, 111, 112, 113, 114, 115, 116, 117, 118, 119, 120, 121, 122]⟩) (.int .u64 (n : Int))).run Tryd.prog w = .ok (.int .u8 ((hd n).toNat : Int)) w
  | 0, _, w => by kernel_rfl
  | 1, _, w => by kernel_rfl
  | 2, _, w => by kernel_rfl
  | 3, _, w => by kernel_rfl
  | 4, _, w => by kernel_rfl
  | 5, _, w => by kernel_rfl
  | 6, _, w => by kernel_rfl
  | 7, _, w => by kernel_rfl
  | 8, _, w => by kernel_rfl
  | 9, _, w => by kernel_rfl
  | 10, _, w => by kernel_rfl
  | 11, _, w => by kernel_rfl
  | 12, _, w => by kernel_rfl
  | 13, _, w => by kernel_rfl
  | 14, _, w => by kernel_rfl
  | 15, _, w => by kernel_rfl
  | n + 16, h, _ => absurd h (by omega)
theorem and15 (a : Nat) (h : a < 18446744073709551616) : bits .and .u64 (a : Int) 15 = ((a % 16 : Nat) : Int) := by
  show IntKind.u64.wrap ((BitVec.ofInt 64 (a : Int) &&& BitVec.ofInt 64 15).toNat : Int) = _
  have e : (BitVec.ofInt 64 (a : Int) &&& BitVec.ofInt 64 15).toNat = a % 16 := by
    rw [BitVec.toNat_and, BitVec.toNat_ofInt]
    have e1 : ((a : Int) % ((2 ^ 64 : Nat) : Int)).toNat = a := by omega
    have e2 : (BitVec.ofInt 64 15).toNat = 2 ^ 4 - 1 := by decide
    rw [e1, e2, Nat.and_two_pow_sub_one_eq_mod]
  rw [e]
  exact wrapU _ (by omega)
def Z65 : Array Value := Array.replicate 65 (.int .u8 0)
theorem zero65 (w : World) : (zeroValue 64).run Tryd.prog w = .ok (.agg Z65) w := by kernel_rfl
/-- The buffer: its last k bytes are the last k hex digits of v. -/
def Bf (v g k : Nat) (w : World) : Prop := ∃ C : Array Value, C.size = 65 ∧ w.heap[g]? = some (.cells C 64 (0, 0)) ∧ ∀ j, j < k → C[64 - j]? = some (.int .u8 ((hd (v / 16 ^ j % 16)).toNat : Int))
theorem Bf.put {v g k : Nat} {w : World} (h : Bf v g k w) (hk : k < 65) (d : UInt8) (hd2 : d = hd (v / 16 ^ k % 16)) : Bf v g (k + 1) (w.setCell ⟨g, 64 - k, none⟩ (.int .u8 (d.toNat : Int))) := by
  obtain ⟨C, hC, hr, hd⟩ := h
  refine ⟨C.setIfInBounds (64 - k) (.int .u8 (d.toNat : Int)), by simpa using hC, ?_, fun j hj => ?_⟩
  · simp [World.setCell, hr, Array.getElem?_modify]
  · rcases Nat.lt_or_eq_of_le (Nat.le_of_lt_succ hj) with hj | rfl
    · rw [Array.getElem?_setIfInBounds_ne (by omega)]
      exact hd j hj
    · rw [Array.getElem?_setIfInBounds_self_of_lt (by omega), hd2]
theorem Bf.there {v g k : Nat} {w : World} (h : Bf v g k w) (j : Nat) (hj : j < 65) : (∃ u, w.cell? ⟨g, j, none⟩ = some u) ∧ w.frozen? ⟨g, j, none⟩ = false := by
  obtain ⟨C, hC, hr, _⟩ := h
  exact ⟨⟨C[j], by rw [cell_of_row w g j _ _ _ hr]; exact Array.getElem?_eq_getElem (by omega)⟩, frozen_of_row w g j _ _ hr⟩
theorem Bf.tell {v g k : Nat} {w : World} (h : Bf v g (k + 1) w) (hk : k < 3) (s : ByteArray) (hs : s = ⟨((List.range (k + 1)).map fun j => hd (v / 16 ^ (k - j) % 16)).toArray⟩) : (convert 46 9 (.slice (some ⟨g, 64 - k, none⟩) (k + 1) (k + 1))).run Tryd.prog w = .ok (.string s) w := by
  obtain ⟨C, hC, hr, hd2⟩ := h
  have hx := run_convert_bytes_arg (P := Tryd.prog) w 46 5 Tryd.underlying46 Tryd.underlying5 g (64 - k) (k + 1) (k + 1) ((List.range (k + 1)).map fun j => ((hd (v / 16 ^ (k - j) % 16)).toNat : Int)) (by simp) (fun i hi => by
    rw [cell_of_row w g (64 - k + i) _ _ _ hr, show 64 - k + i = 64 - (k - i) by omega, hd2 (k - i) (by omega)]
    simp [List.getD, hi]) 9 Tryd.underlying9
  rw [hx, hs]
  congr 3
  unfold strOfNums
  simp
theorem hx_list (v : Nat) (hv : v < 4096) (k : Nat) (hk : k ≤ 2) (u : Nat) (hu : u = v / 16 ^ k) (hlt : u < 16) (hpre : k = 0 ∨ 16 ≤ v / 16 ^ (k - 1)) : hx v = ⟨((List.range (k + 1)).map fun j => hd (v / 16 ^ (k - j) % 16)).toArray⟩ := by
  obtain rfl | rfl | rfl : k = 0 ∨ k = 1 ∨ k = 2 := by omega
  · have h : v < 16 := by rw [hu] at hlt; simpa using hlt
    rw [show hx v = dg v from if_pos h]
    show (⟨#[hd v]⟩ : ByteArray) = ⟨#[hd (v / 16 ^ 0 % 16)]⟩
    rw [show v / 16 ^ 0 % 16 = v by simp; omega]
  · have h1 : v / 16 < 16 := by rw [hu] at hlt; simpa using hlt
    have h2 : 16 ≤ v := by rcases hpre with h | h <;> simp at h; exact h
    rw [show hx v = dg (v / 16) ++ dg (v % 16) by unfold hx; rw [if_neg (by omega), if_pos (by omega)]]
    show (⟨#[hd (v / 16), hd (v % 16)]⟩ : ByteArray) = ⟨#[hd (v / 16 ^ 1 % 16), hd (v / 16 ^ 0 % 16)]⟩
    rw [show v / 16 ^ 1 % 16 = v / 16 by show v / 16 % 16 = v / 16; omega, show v / 16 ^ 0 % 16 = v % 16 by simp]
  · have h2 : 16 ≤ v / 16 := by rcases hpre with h | h <;> simp at h; exact h
    rw [show hx v = dg (v / 256) ++ dg (v / 16 % 16) ++ dg (v % 16) by unfold hx; rw [if_neg (by omega), if_neg (by omega)]]
    show (⟨#[hd (v / 256), hd (v / 16 % 16), hd (v % 16)]⟩ : ByteArray) = ⟨#[hd (v / 16 ^ 2 % 16), hd (v / 16 ^ 1 % 16), hd (v / 16 ^ 0 % 16)]⟩
    rw [show v / 16 ^ 2 % 16 = v / 256 by show v / 256 % 16 = v / 256; omega, show v / 16 ^ 1 % 16 = v / 16 % 16 by simp, show v / 16 ^ 0 % 16 = v % 16 by simp]
set_option maxRecDepth 100000 in
set_option maxHeartbeats 4000000 in
theorem fbits_c (v : Nat) (hv : v < 4096) (w : World) (hT : Tz w) : Calls Tryd.prog 38 #[.slice none 0 0, .int .u64 v, .int .i64 16, .bool false, .bool false] w fun e w' => e = .returned (.tuple #[.slice none 0 0, .string (hx v)]) ∧ Below w.heap.size w w' := by
  obtain ⟨W, hW⟩ : ∃ W, w.alloc (.cells Z65 64) = W := ⟨_, rfl⟩
  have HBW : Hid (Below w.heap.size w W) := by unfold Hid; rw [← hW]; exact (Below.refl _ _).alloc (Nat.le_refl _) _
  have HF0 : Hid (Bf v w.heap.size 0 W) := ⟨Z65, by decide, by rw [← hW]; exact heap_alloc_new w _, fun j hj => by omega⟩
  have HTW : Hid (Tz W) := hT.next HBW.out
  have hz := zero65
  have HTC : Hid (Calls Tryd.prog 44 #[.int .u64 16] W fun e w' => e = .returned (.int .i64 4) ∧ w' = W) := tz_c W HTW.out
  have HP : Hid (Calls Tryd.prog 43 #[.int .i64 16] W fun e w' => e = .returned (.bool true) ∧ w' = W) := pow2_c W
  obtain ⟨s, hs⟩ : ∃ s, s = hx v := ⟨_, rfl⟩
  rw [← hs]
  have HS : Hid (s = hx v) := hs
  clear hT hs
  go_enter Tryd.func38, Tryd.ntmps38
  go_upto_region 4 with fail
  clear hW hz
  --@CUT1
  go_wp2_with (first | (go_at_call 44; refine HTC.out.mono ?_; rintro e w1 ⟨rfl, hw⟩; have hw2 := hw.symm; subst hw2) | (go_at_call 43; refine HP.out.mono ?_; rintro e w1 ⟨rfl, hw⟩; have hw2 := hw.symm; subst hw2))
  --@CUT2
  have HB0 : Hid (Below w.heap.size w W) := HBW.out
  go_loopw [1, 13] (fun a i wr => ∃ k : Nat, k ≤ 2 ∧ a = .int .u64 ((v / 16 ^ k : Nat) : Int) ∧ i = .int .i64 (65 - k) ∧ Hid (k = 0 ∨ 16 ≤ v / 16 ^ (k - 1)) ∧ Hid (Bf v w.heap.size k wr) ∧ Hid (Below w.heap.size w wr)) (fun a _ _ => (intOf a).toNat)
  case atStart => exact ⟨0, by omega, by simp, rfl, .inl rfl, HF0.out, HBW.out⟩
  case round =>
    obtain ⟨k, hk, rfl, rfl, hpre, HF, HB⟩ := hrel
    clear HF0 HBW HTW HTC HP HB0
    obtain ⟨u, hu⟩ : ∃ u, u = v / 16 ^ k := ⟨_, rfl⟩
    rw [← hu]
    have hi := and15 u (by have := Nat.div_le_self v (16 ^ k); omega)
    obtain ⟨d, hd0⟩ : ∃ d, d = u % 16 := ⟨_, rfl⟩
    rw [← hd0] at hi
    have hix := dIdx d (by omega)
    have hdI : (d : Int) < 36 := by omega
    have hix2 : u < 16 → ∀ w, (Instr.index 9 (.string ⟨#[48, 49, 50, 51, 52, 53, 54, 55, 56, 57, 97, 98, 99, 100, 101, 102, 103, 104, 105, 106, 107, 108, 109, 110, 111, 112, 113, 114, 115, 116, 117, 118, 119, 120, 121, 122]⟩) (.int .u64 (u : Int))).run Tryd.prog w = .ok (.int .u8 ((hd u).toNat : Int)) w := fun h => dIdx u h
    have HD : Hid (hd d = hd (v / 16 ^ k % 16)) := by unfold Hid; rw [hd0, hu]
    have HD2 : Hid (u < 16 → hd u = hd (v / 16 ^ k % 16)) := fun h => by rw [← hu, Nat.mod_eq_of_lt h]
    have HQ : Hid (u / 16 = v / 16 ^ (k + 1)) := by unfold Hid; rw [hu, Nat.div_div_eq_div_mul, Nat.pow_succ]
    have HS0 : Hid (u < 16 → s = ⟨((List.range (k + 1)).map fun j => hd (v / 16 ^ (k - j) % 16)).toArray⟩) := fun hlt => by
      rw [HS.out]
      exact hx_list v hv k hk u hu hlt hpre.out
    obtain rfl | rfl | rfl : k = 0 ∨ k = 1 ∨ k = 2 := by omega
    · obtain ⟨⟨c0, hc0⟩, hf0⟩ := HF.out.there 64 (by omega)
      rw [show (65 - ((0 : Nat) : Int)) = (65 : Int) from rfl]
      by_cases hlt : u < 16
      · have hI : (u : Int) < 16 := by omega
        have hI2 : ¬ ((16 : Int) ≤ u) := by omega
        have hI3 : (u : Int) < 36 := by omega
        have hix3 := hix2 hlt
        have htl := (Bf.put HF.out (by omega) (hd u) (HD2.out hlt)).tell (by omega) s (HS0.out hlt)
        have HBF : Hid (Below w.heap.size w (wr.setCell ⟨w.heap.size, 64, none⟩ (.int .u8 ((hd u).toNat : Int)))) := Below.setCell HB.out (Nat.le_refl _) _
        clear hix2 hi hix HQ hu hd0
        go_wp2
        --@CUT3_0
        go_ret2
        exact ⟨rfl, HBF.out⟩
      · have hI : ¬ ((u : Int) < 16) := by omega
        have hI2 : (16 : Int) ≤ u := by omega
        obtain ⟨q, hq0⟩ : ∃ q : Nat, q = u / 16 := ⟨_, rfl⟩
        have hq1 : (u : Int) / 16 = (q : Int) := by omega
        have HQ2 : Hid (q = v / 16 ^ 1) := hq0.trans HQ.out
        have HQL : Hid (q < u) := by unfold Hid; omega
        have HBF : Hid (Below w.heap.size w (wr.setCell ⟨w.heap.size, 64, none⟩ (.int .u8 ((hd d).toNat : Int)))) := Below.setCell HB.out (Nat.le_refl _) _
        have HPF : Hid (Bf v w.heap.size 1 (wr.setCell ⟨w.heap.size, 64, none⟩ (.int .u8 ((hd d).toNat : Int)))) := Bf.put HF.out (by omega) (hd d) HD.out
        have HU : Hid (u = v / 16 ^ 0) := hu
        clear hix2 hu hd0 hq0
        go_wp2
        --@CUT4_0
        go_roundw
        · exact ⟨1, by omega, by rw [← HQ2.out], rfl, .inr (by show 16 ≤ v / 16 ^ 0; rw [← HU.out]; omega), HPF.out, HBF.out⟩
        · have := HQL.out
          simp only [intOf]; omega
    · obtain ⟨⟨c0, hc0⟩, hf0⟩ := HF.out.there 63 (by omega)
      rw [show (65 - ((1 : Nat) : Int)) = (64 : Int) from rfl]
      by_cases hlt : u < 16
      · have hI : (u : Int) < 16 := by omega
        have hI2 : ¬ ((16 : Int) ≤ u) := by omega
        have hI3 : (u : Int) < 36 := by omega
        have hix3 := hix2 hlt
        have htl := (Bf.put HF.out (by omega) (hd u) (HD2.out hlt)).tell (by omega) s (HS0.out hlt)
        have HBF : Hid (Below w.heap.size w (wr.setCell ⟨w.heap.size, 63, none⟩ (.int .u8 ((hd u).toNat : Int)))) := Below.setCell HB.out (Nat.le_refl _) _
        clear hix2 hi hix HQ hu hd0
        go_wp2
        --@CUT3_1
        go_ret2
        exact ⟨rfl, HBF.out⟩
      · have hI : ¬ ((u : Int) < 16) := by omega
        have hI2 : (16 : Int) ≤ u := by omega
        obtain ⟨q, hq0⟩ : ∃ q : Nat, q = u / 16 := ⟨_, rfl⟩
        have hq1 : (u : Int) / 16 = (q : Int) := by omega
        have HQ2 : Hid (q = v / 16 ^ 2) := hq0.trans HQ.out
        have HQL : Hid (q < u) := by unfold Hid; omega
        have HBF : Hid (Below w.heap.size w (wr.setCell ⟨w.heap.size, 63, none⟩ (.int .u8 ((hd d).toNat : Int)))) := Below.setCell HB.out (Nat.le_refl _) _
        have HPF : Hid (Bf v w.heap.size 2 (wr.setCell ⟨w.heap.size, 63, none⟩ (.int .u8 ((hd d).toNat : Int)))) := Bf.put HF.out (by omega) (hd d) HD.out
        have HU : Hid (u = v / 16 ^ 1) := hu
        clear hix2 hu hd0 hq0
        go_wp2
        --@CUT4_1
        go_roundw
        · exact ⟨2, by omega, by rw [← HQ2.out], rfl, .inr (by show 16 ≤ v / 16 ^ 1; rw [← HU.out]; omega), HPF.out, HBF.out⟩
        · have := HQL.out
          simp only [intOf]; omega
    · obtain ⟨⟨c0, hc0⟩, hf0⟩ := HF.out.there 62 (by omega)
      rw [show (65 - ((2 : Nat) : Int)) = (63 : Int) from rfl]
      by_cases hlt : u < 16
      · have hI : (u : Int) < 16 := by omega
        have hI2 : ¬ ((16 : Int) ≤ u) := by omega
        have hI3 : (u : Int) < 36 := by omega
        have hix3 := hix2 hlt
        have htl := (Bf.put HF.out (by omega) (hd u) (HD2.out hlt)).tell (by omega) s (HS0.out hlt)
        have HBF : Hid (Below w.heap.size w (wr.setCell ⟨w.heap.size, 62, none⟩ (.int .u8 ((hd u).toNat : Int)))) := Below.setCell HB.out (Nat.le_refl _) _
        clear hix2 hi hix HQ hu hd0
        go_wp2
        --@CUT3_2
        go_ret2
        exact ⟨rfl, HBF.out⟩
      · have hI : ¬ ((u : Int) < 16) := by omega
        have hI2 : (16 : Int) ≤ u := by omega
        obtain ⟨q, hq0⟩ : ∃ q : Nat, q = u / 16 := ⟨_, rfl⟩
        have hq1 : (u : Int) / 16 = (q : Int) := by omega
        have HQ2 : Hid (q = v / 16 ^ 3) := hq0.trans HQ.out
        have HQL : Hid (q < u) := by unfold Hid; omega
        have HBF : Hid (Below w.heap.size w (wr.setCell ⟨w.heap.size, 62, none⟩ (.int .u8 ((hd d).toNat : Int)))) := Below.setCell HB.out (Nat.le_refl _) _
        have HPF : Hid (Bf v w.heap.size 3 (wr.setCell ⟨w.heap.size, 62, none⟩ (.int .u8 ((hd d).toNat : Int)))) := Bf.put HF.out (by omega) (hd d) HD.out
        have HU : Hid (u = v / 16 ^ 2) := hu
        clear hix2 hu hd0 hq0
        exfalso
        have h3 : v / 16 ^ 2 < 16 := by show v / 256 < 16; omega
        have := HU.out
        omega
end Go.Proofs.YtechkhlibdkmpaaDoor
