/-
  De Cms.
-/
import Derived.Test.YthmjimmmkoeeoaaDoorM10
import Derived.Test.YthmjimmmkoeeoaaDoorM11
import Derived.Deep.MidRow
import Derived.Test.YthmjimmmkoeeoaaDoorM06
import Derived.Test.YthmjimmmkoeeoaaDoorM03
namespace Go.Proofs.YthmjimmmkoeeoaaDoor
set_option linter.unusedVariables false
set_option maxRecDepth 100000
open Go.ChangeShapes Go.WideShapes Go.ChangeAt Go.RowKit Go.Deep Go.Shelf Go.Sort
theorem below_alc (w : World) (o : Obj) : Below w.heap.size w (w.alloc o) := (Below.refl _ _).alloc (Nat.le_refl _) _
theorem below_grow (w : World) (k : Nat) (os : Array Obj) : Below w.heap.size w (grow (w.drewN k) os) :=
  ⟨rfl, rfl, rfl, by show w.heap.size ≤ (w.heap ++ os).size; simp, fun j hj => by show (w.heap ++ os)[j]? = w.heap[j]?; rw [Array.getElem?_append_left hj]⟩
/-- The library's table of powers of ten. -/
def Pw (w : World) : Prop := Lib.TabIs Tryd.prog w "internal/strconv.uint64pow10" .u64 Lib.pow10Tab
theorem Pw.next {w w' : World} (h : Pw w) (b : Below w.heap.size w w') : Pw w' := by
  unfold Pw Lib.TabIs World.var? at *
  cases hg : Tryd.prog.globalNamed "internal/strconv.uint64pow10" with
  | none => simp [hg] at h
  | some g =>
    simp only [hg, Option.bind_some] at h ⊢
    have hlt : g < w.heap.size := by
      rcases Nat.lt_or_ge g w.heap.size with h' | h'
      · exact h'
      · rw [Array.getElem?_eq_none h'] at h; simp at h
    rw [b.block g hlt]
    exact h
theorem itoa_c (n : Nat) (h : n < 9223372036854775808) (w : World) (hp : Pw w) : Calls Tryd.prog 21 #[.int .i64 n] w fun e w' => e = .returned (.string (tS (dcL n))) ∧ Below w.heap.size w w' :=
  (Any.strconv_Itoa Tryd.laysItoaM n (by omega) (by omega) w hp).mono fun e w' ⟨he, k, os, hw⟩ => ⟨by rw [he, Lib.itoa_nonneg]; rfl, by rw [hw]; exact below_grow w k os⟩
theorem joined_c (xs : List Tx) (g o c : Nat) (w : World) (hc : ∀ (j : Nat) x, xs[j]? = some x → w.cell? ⟨g, o + j, none⟩ = some (.string (tS x))) (hg : g < w.heap.size) (hn : xs.length ≤ 1000) (hcap : xs.length ≤ c) (hl : (jw xs).length ≤ 1000000) :
    Calls Tryd.prog 40 #[.slice (some ⟨g, o, none⟩) xs.length c] w fun e w' => e = .returned (.string (tS (jw xs))) ∧ Below w.heap.size w w' := by
  have H : Hid (Calls Tryd.prog 55 #[.slice (some ⟨g, o, none⟩) xs.length c, .string ⟨#[32]⟩] w fun e w' => e = .returned (.string (tS (jw xs))) ∧ Below w.heap.size w w') := by
    have e1 : (xs.map tS).map (·.data.toList) = xs := by
      rw [List.map_map]
      have : ∀ l : List Tx, l.map ((fun x : ByteArray => x.data.toList) ∘ tS) = l := fun l => by
        induction l with
        | nil => rfl
        | cons a r ih => simp only [List.map_cons, ih, Function.comp]; rw [tS_list]
      exact this xs
    have := Any.strings_Join Tryd.laysJoin Tryd.exJoin g o c (xs.map tS) ⟨#[32]⟩ w (fun j x hx => by
      rw [List.getElem?_map] at hx
      obtain ⟨y, hy, rfl⟩ := Option.map_eq_some_iff.1 hx
      exact hc j y hy) hg (by simp; omega) (by simpa using hcap) (by rw [e1]; show (jw xs).length ≤ _; omega)
    rw [e1, List.length_map] at this
    exact this
  clear hc
  generalize tS (jw xs) = s at H
  go_enter Tryd.func40, Tryd.ntmps40
  go_wp2_with (first | (go_at_call 55; refine H.out.mono ?_; rintro e w1 ⟨rfl, hb⟩; have HB : Hid (Below w.heap.size w w1) := hb; clear hb))
  go_ret
  exact ⟨rfl, HB.out⟩
theorem mode_c (m : Int) (w : World) : Calls Tryd.prog 58 #[.int .i64 m] w fun e w' => e = .returned (.string (tS (if m = 3 then [109] else [117]))) ∧ w' = w := by
  by_cases h : m = 3
  · rw [if_pos h]; subst h
    go_enter Tryd.func58, Tryd.ntmps58
    go_wp2
    go_ret
    exact ⟨rfl, rfl⟩
  · rw [if_neg h]
    have hb : (m == 3) = false := by simpa using h
    go_enter Tryd.func58, Tryd.ntmps58
    go_wp2
    go_ret
    exact ⟨rfl, rfl⟩
theorem flags_c (f : Int) (h : 0 ≤ f ∧ f ≤ 7) (w : World) : Calls Tryd.prog 47 #[.int .i64 f] w fun e w' => e = .returned (.string (tS (flT f))) ∧ w' = w := by
  obtain ⟨h0, h7⟩ := h
  rcases (by omega : f = 0 ∨ f = 1 ∨ f = 2 ∨ f = 3 ∨ f = 4 ∨ f = 5 ∨ f = 6 ∨ f = 7) with rfl | rfl | rfl | rfl | rfl | rfl | rfl | rfl
  all_goals
    clear h0 h7
    have a0 : bits .and .i64 0 1 = 0 := by kernel_rfl
    have a1 : bits .and .i64 0 2 = 0 := by kernel_rfl
    have a2 : bits .and .i64 0 4 = 0 := by kernel_rfl
    have b1_1 : bits .and .i64 1 1 = 1 := by kernel_rfl
    have b1_2 : bits .and .i64 1 2 = 0 := by kernel_rfl
    have b1_4 : bits .and .i64 1 4 = 0 := by kernel_rfl
    have b2_1 : bits .and .i64 2 1 = 0 := by kernel_rfl
    have b2_2 : bits .and .i64 2 2 = 2 := by kernel_rfl
    have b2_4 : bits .and .i64 2 4 = 0 := by kernel_rfl
    have b3_1 : bits .and .i64 3 1 = 1 := by kernel_rfl
    have b3_2 : bits .and .i64 3 2 = 2 := by kernel_rfl
    have b3_4 : bits .and .i64 3 4 = 0 := by kernel_rfl
    have b4_1 : bits .and .i64 4 1 = 0 := by kernel_rfl
    have b4_2 : bits .and .i64 4 2 = 0 := by kernel_rfl
    have b4_4 : bits .and .i64 4 4 = 4 := by kernel_rfl
    have b5_1 : bits .and .i64 5 1 = 1 := by kernel_rfl
    have b5_2 : bits .and .i64 5 2 = 0 := by kernel_rfl
    have b5_4 : bits .and .i64 5 4 = 4 := by kernel_rfl
    have b6_1 : bits .and .i64 6 1 = 0 := by kernel_rfl
    have b6_2 : bits .and .i64 6 2 = 2 := by kernel_rfl
    have b6_4 : bits .and .i64 6 4 = 4 := by kernel_rfl
    have b7_1 : bits .and .i64 7 1 = 1 := by kernel_rfl
    have b7_2 : bits .and .i64 7 2 = 2 := by kernel_rfl
    have b7_4 : bits .and .i64 7 4 = 4 := by kernel_rfl
    have s0 : (⟨#[]⟩ : ByteArray) ++ (⟨#[114]⟩ : ByteArray) = (⟨#[114]⟩ : ByteArray) := rfl
    have s1 : (⟨#[]⟩ : ByteArray) ++ (⟨#[119]⟩ : ByteArray) = (⟨#[119]⟩ : ByteArray) := rfl
    have s2 : (⟨#[114]⟩ : ByteArray) ++ (⟨#[119]⟩ : ByteArray) = (⟨#[114, 119]⟩ : ByteArray) := rfl
    have s3 : (⟨#[]⟩ : ByteArray) ++ (⟨#[120]⟩ : ByteArray) = (⟨#[120]⟩ : ByteArray) := rfl
    have s4 : (⟨#[114]⟩ : ByteArray) ++ (⟨#[120]⟩ : ByteArray) = (⟨#[114, 120]⟩ : ByteArray) := rfl
    have s5 : (⟨#[119]⟩ : ByteArray) ++ (⟨#[120]⟩ : ByteArray) = (⟨#[119, 120]⟩ : ByteArray) := rfl
    have s6 : (⟨#[114, 119]⟩ : ByteArray) ++ (⟨#[120]⟩ : ByteArray) = (⟨#[114, 119, 120]⟩ : ByteArray) := rfl
    have n7 : ((⟨#[114]⟩ : ByteArray) == (⟨#[]⟩ : ByteArray)) = false := rfl
    have n8 : ((⟨#[119]⟩ : ByteArray) == (⟨#[]⟩ : ByteArray)) = false := rfl
    have n9 : ((⟨#[114, 119]⟩ : ByteArray) == (⟨#[]⟩ : ByteArray)) = false := rfl
    have n10 : ((⟨#[120]⟩ : ByteArray) == (⟨#[]⟩ : ByteArray)) = false := rfl
    have n11 : ((⟨#[114, 120]⟩ : ByteArray) == (⟨#[]⟩ : ByteArray)) = false := rfl
    have n12 : ((⟨#[119, 120]⟩ : ByteArray) == (⟨#[]⟩ : ByteArray)) = false := rfl
    have n13 : ((⟨#[114, 119, 120]⟩ : ByteArray) == (⟨#[]⟩ : ByteArray)) = false := rfl
    go_enter Tryd.func47, Tryd.ntmps47
    go_wp2
    go_ret
    exact ⟨rfl, rfl⟩
/-- FormatUint at base 10. -/
theorem arr24 : Tryd.prog.arrayLen 115 = 24 := by kernel_rfl
theorem elem24 : Tryd.prog.elem 115 = 5 := by kernel_rfl
theorem size5 (w : World) : (sizeOf 5).run Tryd.prog w = .ok 1 w := by kernel_rfl
theorem zero24 (w : World) : (zeroValue 115).run Tryd.prog w = .ok (.agg Lib.zeros24) w := by kernel_rfl
set_option maxHeartbeats 2000000 in
theorem ifu_c (u : Nat) (hu : u < 9223372036854775808) (w : World) (hp : Pw w) : Calls Tryd.prog 57 #[.int .u64 u, .int .i64 10] w fun e w' => e = .returned (.string (tS (dcL u))) ∧ Below w.heap.size w w' := by
  by_cases hs : u < 100
  · have hI : (u : Int) < 100 := by omega
    have hw : IntKind.i64.wrap (u : Int) = u := wrapI _ (by omega)
    have HC : Hid (∀ w : World, Calls Tryd.prog 70 #[.int .i64 u] w fun e w' => e = .returned (.string (tS (dcL u))) ∧ w' = w) := fun w => Any.internal_strconv_small Tryd.laysSmall u hs w
    generalize tS (dcL u) = s at HC
    clear hs hp
    go_enter Tryd.func57, Tryd.ntmps57
    go_wp2_with (first | (go_at_call 70; refine (HC.out _).mono ?_; rintro e w1 ⟨rfl, hw⟩; have hw2 := hw.symm; subst hw2))
    go_ret
    exact ⟨rfl, Below.refl _ _⟩
  · have hI : ¬ (u : Int) < 100 := by omega
    have hu1 : 1 ≤ u := by omega
    have hu64 : u < 18446744073709551616 := by omega
    have hnd20 : Lib.nDigits u ≤ 20 := by have := Lib.numDigits_eq u hu1 hu64; split at this <;> omega
    have hsl1 : ∀ W, (Instr.sliceAt 115 (.pointer (some ⟨w.heap.size, 0, none⟩)) none (some (.int .i64 (Lib.nDigits u : Int))) none).run Tryd.prog W = .ok (.slice (some ⟨w.heap.size, 0, none⟩) (Lib.nDigits u) 24) W := fun W => by
      rw [run_sliceAt_array_h W 115 ⟨w.heap.size, 0, none⟩ (by kernel_rfl) .i64 (Lib.nDigits u : Int) (by omega) (by rw [arr24]; omega), arr24, elem24, size5]
      simp only [Result.andThen_ok]
      unfold slicedAt
      simp [Addr.add]
    have hH0 : Holds (fun (b : UInt8) => Value.int .u8 (b.toNat : Int)) (w.alloc (.cells Lib.zeros24 115)) w.heap.size 0 (Array.replicate (Lib.nDigits u) (0 : UInt8)) := fun j hj => by
      have hj' : j < Lib.nDigits u := by simpa using hj
      refine ⟨?_, World.frozen?_alloc_new _ _ _ _⟩
      rw [World.cell?_alloc_new, Lib.zeros24_at _ (by omega), getElem!_pos _ j hj]
      simp
    have hfmt := Any.internal_strconv_formatBase10 Tryd.laysBase10 w.heap.size 0 24 u (Array.replicate (Lib.nDigits u) 0) (w.alloc (.cells Lib.zeros24 115)) hH0 (by rw [Array.size_replicate]; exact Lib.lt_pow_nDigits u) hu64 (by rw [Array.size_replicate]; omega)
    rw [Array.size_replicate] at hfmt
    have HH0 : Hid (Holds (fun (b : UInt8) => Value.int .u8 (b.toNat : Int)) (w.alloc (.cells Lib.zeros24 115)) w.heap.size 0 (Array.replicate (Lib.nDigits u) (0 : UInt8))) := hH0
    have HF : Hid (Calls Tryd.prog 72 #[.slice (some ⟨w.heap.size, 0, none⟩) (Lib.nDigits u) 24, .int .u64 u] (w.alloc (.cells Lib.zeros24 115)) fun e w' => e = .returned (.tuple #[]) ∧ ∃ (n v' : Nat) (dk : Array UInt8), w' = (putRow (fun (b : UInt8) => Value.int .u8 (b.toNat : Int)) (w.alloc (.cells Lib.zeros24 115)) w.heap.size 0 dk).drewN n ∧ Lib.FmtInv (Lib.nDigits u) u 0 v' dk) := hfmt
    have HD : Hid (∀ W, Pw W → Calls Tryd.prog 71 #[.int .u64 u] W fun e w' => e = .returned (.int .i64 (Lib.nDigits u)) ∧ w' = W) := fun W h => Any.internal_strconv_numDigits Tryd.laysDigits u hu1 hu64 W h
    have HPW : Hid (Pw (w.alloc (.cells Lib.zeros24 115))) := hp.next (below_alc _ _)
    have hz := zero24
    clear hH0 hfmt hp hs
    go_enter Tryd.func57, Tryd.ntmps57
    go_wp2_with (first | (go_at_call 71; refine (HD.out _ HPW.out).mono ?_; rintro e w1 ⟨rfl, hw⟩; have hw2 := hw.symm; subst hw2))
    go_at_call 72
    refine HF.out.mono ?_
    rintro e w' ⟨rfl, k, v', dk, rfl, hFm⟩
    have hcv : (convert 44 9 (.slice (some ⟨w.heap.size, 0, none⟩) (Lib.nDigits u) 24)).run Tryd.prog ((putRow (fun (b : UInt8) => Value.int .u8 (b.toNat : Int)) (w.alloc (.cells Lib.zeros24 115)) w.heap.size 0 dk).drewN k) = .ok (.string (tS (dcL u))) ((putRow (fun (b : UInt8) => Value.int .u8 (b.toNat : Int)) (w.alloc (.cells Lib.zeros24 115)) w.heap.size 0 dk).drewN k) := by
      have h := run_convert_bytes_back (P := Tryd.prog) ((putRow (fun (b : UInt8) => Value.int .u8 (b.toNat : Int)) (w.alloc (.cells Lib.zeros24 115)) w.heap.size 0 dk).drewN k) 44 9 5 ⟨w.heap.size, 0, none⟩ 24 (Lib.decDigits u) Tryd.underlying44 Tryd.underlying5 Tryd.underlying9 (fun j hj => by
        rw [Lib.row_is_numeral hFm j hj, Lib.add_plain, World.cell?_drewN]
        exact cell?_putRow (fun (b : UInt8) => Value.int .u8 (b.toNat : Int)) _ w.heap.size 0 _ dk HH0.out (by rw [hFm.size, Array.size_replicate]) j (by rw [hFm.size]; rw [Lib.decDigits_length] at hj; exact hj))
      rw [Lib.decDigits_length] at h
      exact h
    have HB : Hid (Below w.heap.size w ((putRow (fun (b : UInt8) => Value.int .u8 (b.toNat : Int)) (w.alloc (.cells Lib.zeros24 115)) w.heap.size 0 dk).drewN k)) := by
      unfold Hid
      rw [alloc_eq_grow]
      obtain ⟨os', _, e⟩ := putRow_grow_new (fun (b : UInt8) => Value.int .u8 (b.toNat : Int)) w #[.cells Lib.zeros24 115] w.heap.size 0 dk (Nat.le_refl _)
      rw [e]; exact below_grow w k os'
    clear hFm HF HH0
    generalize (putRow (fun (b : UInt8) => Value.int .u8 (b.toNat : Int)) (w.alloc (.cells Lib.zeros24 115)) w.heap.size 0 dk).drewN k = w9 at *
    go_wp2
    go_ret
    exact ⟨rfl, HB.out⟩
theorem fu10_c (u : Nat) (hu : u < 9223372036854775808) (w : World) (hp : Pw w) : Calls Tryd.prog 42 #[.int .u64 u, .int .i64 10] w fun e w' => e = .returned (.string (tS (dcL u))) ∧ Below w.heap.size w w' := by
  have H : Hid (Calls Tryd.prog 57 #[.int .u64 u, .int .i64 10] w fun e w' => e = .returned (.string (tS (dcL u))) ∧ Below w.heap.size w w') := ifu_c u hu w hp
  generalize tS (dcL u) = s at H
  clear hp
  go_enter Tryd.func42, Tryd.ntmps42
  go_wp2_with (first | (go_at_call 57; refine H.out.mono ?_; rintro e w1 ⟨rfl, hb⟩; have HB : Hid (Below w.heap.size w w1) := hb; clear hb))
  go_ret
  exact ⟨rfl, HB.out⟩
theorem rgS_tS (n : Nat) : rgS n = tS (rgN.getD n []) := rfl
theorem regS_nat (n : Nat) (h : n < 32) : regS (n : Int) = tS (rgN.getD n []) := by unfold regS; rw [if_pos (by omega), Int.toNat_natCast]; rfl
end Go.Proofs.YthmjimmmkoeeoaaDoor
namespace Go.Proofs.YthmjimmmkoeeoaaDoor
set_option linter.unusedVariables false
open Go.ChangeShapes Go.WideShapes Go.ChangeAt Go.RowKit Go.Deep
theorem bits6144 : ∀ i, i < 11 → (6144#64).getLsbD i = false := by decide
theorem and6144 (v : BitVec 64) : v &&& 6144#64 = (v >>> 11 &&& 3#64) <<< 11 := by
  rw [BitVec.shiftLeft_and_distrib, show (3#64 <<< 11 : BitVec 64) = 6144#64 by decide]
  apply BitVec.eq_of_getLsbD_eq
  intro i hi
  by_cases h : i < 11
  · simp [bits6144 i h]
  · simp [hi, h, Nat.add_sub_cancel' (Nat.le_of_not_lt h)]
theorem mask6144 (v : BitVec 64) : (v &&& 2234504#64) >>> 11 &&& 3#64 = v >>> 11 &&& 3#64 := by
  rw [BitVec.ushiftRight_and_distrib, BitVec.and_assoc, show ((2234504#64) >>> 11 &&& 3#64 : BitVec 64) = 3#64 by decide]
theorem four {z : BitVec 64} (h : z.toNat ≤ 3) : z = 0#64 ∨ z = 1#64 ∨ z = 2#64 ∨ z = 3#64 := by
  have : z.toNat = 0 ∨ z.toNat = 1 ∨ z.toNat = 2 ∨ z.toNat = 3 := by omega
  rcases this with e | e | e | e
  · exact Or.inl (BitVec.eq_of_toNat_eq e)
  · exact Or.inr (Or.inl (BitVec.eq_of_toNat_eq e))
  · exact Or.inr (Or.inr (Or.inl (BitVec.eq_of_toNat_eq e)))
  · exact Or.inr (Or.inr (Or.inr (BitVec.eq_of_toNat_eq e)))
theorem and3_le (v : BitVec 64) : (v &&& 3#64).toNat ≤ 3 := by rw [BitVec.toNat_and]; exact Nat.le_trans Nat.and_le_right (by decide)
/-- MPP is 1 or 2: just where it is neither 0 nor all ones. -/
theorem mq_iff (v : BitVec 64) : mq v ↔ ¬ (v &&& 6144#64 = 0#64 ∨ v &&& 6144#64 = 6144#64) := by
  unfold mq
  rw [and6144]
  rcases four (and3_le (v >>> 11)) with e | e | e | e <;> rw [e] <;> decide
theorem mq_mask (v : BitVec 64) : mq (v &&& 2234504#64) ↔ mq v := by unfold mq; rw [mask6144]
/-- Does MPP name a mode? -/
def nm (v : BitVec 64) : Bool := decide (¬ mq v)
/-- MPP. -/
def bfB (v : BitVec 64) : BitVec 64 := v >>> 11 &&& 3#64
theorem bf_alt (v : BitVec 64) : (v &&& 6144#64) >>> 11 = bfB v := by
  unfold bfB
  rw [BitVec.ushiftRight_and_distrib, show ((6144#64) >>> 11 : BitVec 64) = 3#64 by decide]
theorem bf_le (v : BitVec 64) : n64 (bfB v) ≤ 3 := by
  have h := and3_le (v >>> 11)
  unfold bfB n64; omega
theorem nm_alt (v : BitVec 64) : nm v = (n64 (bfB v) == 0 || n64 (bfB v) == 3) := by
  unfold nm mq bfB
  rcases four (and3_le (v >>> 11)) with e | e | e | e <;> rw [e] <;> decide
set_option maxRecDepth 100000 in
theorem before_c (v : BitVec 64) (w : World) : Calls Tryd.prog 76 #[.int .u64 (n64 v)] w fun e w' => e = .returned (.int .i64 (n64 (bfB v))) ∧ w' = w := by
  have b0 : bits .and .u64 (n64 v) 6144 = n64 (v &&& 6144#64) := n64_and v 6144#64
  have b1 : n64 (v &&& 6144#64) / (2048 : Int) = n64 ((v &&& 6144#64) >>> 11) := n64_shr _ 11
  rw [bf_alt] at b1
  have hlo := n64_lo (bfB v)
  have hhi := bf_le v
  generalize n64 (bfB v) = z at b1 hlo hhi ⊢
  generalize n64 (v &&& 6144#64) = y at b0 b1
  go_enter Tryd.func76, Tryd.ntmps76
  go_wp2
  go_ret
  exact ⟨by rfl, rfl⟩
set_option maxRecDepth 100000 in
theorem namesMode_c (v : BitVec 64) (w : World) : Calls Tryd.prog 62 #[.int .u64 (n64 v)] w fun e w' => e = .returned (.bool (nm v)) ∧ w' = w := by
  have HB : Hid (∀ W, Calls Tryd.prog 76 #[.int .u64 (n64 v)] W fun e w' => e = .returned (.int .i64 (n64 (bfB v))) ∧ w' = W) := before_c v
  rw [nm_alt]
  generalize n64 (bfB v) = z at HB ⊢
  by_cases h0 : z = 0
  · subst h0
    go_enter Tryd.func62, Tryd.ntmps62
    go_wp2_with (go_at_call 76; refine (HB.out _).mono ?_; rintro e w1 ⟨rfl, hw1⟩; subst hw1)
    go_ret
    exact ⟨rfl, rfl⟩
  · have e0 : (z == 0) = false := by simp [h0]
    rw [e0, Bool.false_or]
    go_enter Tryd.func62, Tryd.ntmps62
    go_wp2_with (go_at_call 76; refine (HB.out _).mono ?_; rintro e w1 ⟨rfl, hw1⟩; subst hw1)
    go_ret
    exact ⟨by rfl, rfl⟩
end Go.Proofs.YthmjimmmkoeeoaaDoor
