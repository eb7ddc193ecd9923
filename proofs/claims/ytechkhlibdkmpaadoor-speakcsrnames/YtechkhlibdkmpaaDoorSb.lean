/-
  RegOf of both; the reference's Decimal.
-/
import Derived.Test.YtechkhlibdkmpaaDoorSa
import Derived.Test.YtechkhlibdkmpaaDoorShelf
import Derived.Deep.RegionWith
import Derived.Laws.BytesArg
import Derived.Deep.CutRange
namespace Go.Proofs.YtechkhlibdkmpaaDoor
set_option linter.unusedVariables false
open Go.ChangeShapes Go.WideShapes Go.ChangeAt Go.RowKit Go.Deep Go.Shelf
/-- A number's decimal digits, as a text. -/
def decS (n : Nat) : ByteArray := ⟨(Lib.decDigits n).toArray⟩
theorem itoa_c (n : Nat) (h : n < 100) (w : World) : Calls Tryd.prog 16 #[.int .i64 n] w fun e w' => e = .returned (.string (decS n)) ∧ w' = w := Any.strconv_Itoa_small Tryd.laysItoa n h w
theorem decS_small (n : Nat) (h : n < 10) : decS n = ⟨#[UInt8.ofNat (48 + n)]⟩ := by
  unfold decS
  rw [Lib.decDigits, dif_pos h]
theorem decS_big (n : Nat) (h : ¬ n < 10) : decS n = ⟨((decS (n / 10)).data.toList ++ [UInt8.ofNat (48 + n % 10)]).toArray⟩ := by
  unfold decS
  rw [Lib.decDigits, dif_neg h]
theorem wrapI (z : Int) (h : -9223372036854775808 ≤ z ∧ z ≤ 9223372036854775807) : IntKind.i64.wrap z = z := by
  have : IntKind.i64.wrap z = (z + 9223372036854775808) % 18446744073709551616 - 9223372036854775808 := by
    first | rfl | (unfold IntKind.wrap; simp [IntKind.signed, IntKind.bits]; omega)
  rw [this]
  omega
theorem wrapB (z : Int) (h : 0 ≤ z ∧ z < 256) : IntKind.u8.wrap z = z := by
  have : IntKind.u8.wrap z = z % 256 := by first | rfl | (unfold IntKind.wrap; simp [IntKind.signed, IntKind.bits])
  rw [this]
  omega
/-- One byte, made a text. -/
theorem conv1 (w : World) (z : Int) : (convert 46 9 (.slice (some ⟨w.heap.size, 0, none⟩) 1 1)).run Tryd.prog (w.alloc (.cells #[.int .u8 z] 5)) = .ok (.string ⟨#[UInt8.ofNat z.toNat]⟩) (w.alloc (.cells #[.int .u8 z] 5)) := by
  have h := run_convert_bytes_arg (P := Tryd.prog) (w.alloc (.cells #[.int .u8 z] 5)) 46 5 Tryd.underlying46 Tryd.underlying5 w.heap.size 0 1 1 [z] rfl (fun i hi => by
    obtain rfl : i = 0 := by omega
    exact cell_of_row _ w.heap.size 0 _ _ _ (heap_alloc_new w _)) 9 Tryd.underlying9
  exact h
set_option maxRecDepth 100000 in
set_option maxHeartbeats 2000000 in
theorem decimal_s (n : Nat) (h : n < 10) (w : World) : Calls Tryd.prog 17 #[.int .i64 n] w fun e w' => e = .returned (.string (decS n)) ∧ Below w.heap.size w w' := by
  have e1 : (⟨#[UInt8.ofNat ((48 + n : Int)).toNat]⟩ : ByteArray) = decS n := by
    rw [decS_small n h]
    congr 4
  have h1 : (n : Int) < 10 := by omega
  have hcv := conv1 w (48 + n)
  rw [e1] at hcv
  go_enter Tryd.func17, Tryd.ntmps17
  go_wp2
  go_ret
  exact ⟨rfl, (Below.refl _ _).alloc (Nat.le_refl _) _⟩
set_option maxRecDepth 100000 in
set_option maxHeartbeats 2000000 in
theorem decimal_c (n : Nat) (h : n < 100) (w : World) : Calls Tryd.prog 17 #[.int .i64 n] w fun e w' => e = .returned (.string (decS n)) ∧ Below w.heap.size w w' := by
  by_cases hs : n < 10
  · exact decimal_s n hs w
  · obtain ⟨a, ha⟩ : ∃ a, a = n / 10 := ⟨_, rfl⟩
    obtain ⟨b, hb⟩ : ∃ b, b = n % 10 := ⟨_, rfl⟩
    have e1 : (⟨#[UInt8.ofNat ((48 + b : Int)).toNat]⟩ : ByteArray) = ⟨#[UInt8.ofNat (48 + b)]⟩ := by congr 4
    have e2 := decS_big n hs
    rw [← ha, ← hb] at e2
    have h1 : ¬ ((n : Int) < 10) := by omega
    have hq : Int.tdiv (n : Int) 10 = (a : Int) := by rw [Int.tdiv_eq_ediv_of_nonneg (by omega)]; omega
    have hr : Int.tmod (n : Int) 10 = (b : Int) := by rw [Int.tmod_eq_emod_of_nonneg (by omega)]; omega
    have hb9 : b < 10 := by omega
    have hbI : 48 + (b : Int) < 256 := by omega
    have hcv : ∀ w : World, (convert 46 9 (.slice (some ⟨w.heap.size, 0, none⟩) 1 1)).run Tryd.prog (w.alloc (.cells #[.int .u8 (48 + b)] 5)) = .ok (.string ⟨#[UInt8.ofNat (48 + b)]⟩) (w.alloc (.cells #[.int .u8 (48 + b)] 5)) := fun w => by rw [← e1]; exact conv1 w (48 + b)
    have w1 : IntKind.i64.wrap (a : Int) = a := wrapI _ (by omega)
    have w2 : IntKind.i64.wrap (48 + (b : Int)) = 48 + b := wrapI _ (by omega)
    have w3 : IntKind.u8.wrap (48 + (b : Int)) = 48 + b := wrapB _ (by omega)
    have HD : Hid (∀ w : World, Calls Tryd.prog 17 #[.int .i64 a] w fun e w' => e = .returned (.string (decS a)) ∧ Below w.heap.size w w') := decimal_s a (by omega)
    have HE : Hid (decS n = decS a ++ ⟨#[UInt8.ofNat (48 + b)]⟩) := by
      rw [e2]
      apply ByteArray.ext
      rw [ByteArray.data_append]
      apply Array.toList_inj.1
      simp
    have HC : Hid (∀ w1, Below (w.alloc (.cells #[.int .u8 (48 + b)] 5)).heap.size (w.alloc (.cells #[.int .u8 (48 + b)] 5)).drew w1 → (convert 46 9 (.slice (some ⟨w.heap.size, 0, none⟩) 1 1)).run Tryd.prog w1 = .ok (.string ⟨#[UInt8.ofNat (48 + b)]⟩) w1) := fun w1 hb => by
      rw [← e1]
      exact run_convert_bytes_arg (P := Tryd.prog) w1 46 5 Tryd.underlying46 Tryd.underlying5 w.heap.size 0 1 1 [48 + b] rfl (fun i hi => by
        obtain rfl : i = 0 := by omega
        exact (hb.cell (p := ⟨w.heap.size, 0, none⟩) (by simp)).trans (cell_of_row _ w.heap.size 0 _ _ _ (heap_alloc_new w _))) 9 Tryd.underlying9
    have hcv0 : (convert 46 9 (.slice (some ⟨w.heap.size, 0, none⟩) 1 1)).run Tryd.prog (w.alloc (.cells #[.int .u8 (48 + b)] 5)).drew = .ok (.string ⟨#[UInt8.ofNat (48 + b)]⟩) (w.alloc (.cells #[.int .u8 (48 + b)] 5)).drew := HC.out _ (Below.refl _ _)
    have hsz : ¬ (9223372036854775807 < (decS a).size + (⟨#[UInt8.ofNat (48 + b)]⟩ : ByteArray).size) := by
      have h1 : (decS a).size = 1 := by rw [decS_small a (by omega)]; rfl
      have h2 : (⟨#[UInt8.ofNat (48 + b)]⟩ : ByteArray).size = 1 := rfl
      omega
    clear e1 e2 ha hb hs h
    generalize decS n = dn at HE ⊢
    generalize decS a = da at HE HD hsz
    generalize (⟨#[UInt8.ofNat (48 + b)]⟩ : ByteArray) = ub at hcv HE hsz HC hcv0
    go_enter Tryd.func17, Tryd.ntmps17
    go_wp2
    --@CUT
    go_region_with (first | (go_at_call 17; refine (HD.out _).mono ?_; rintro e w1 ⟨rfl, hb⟩; have HB1 : Hid _ := hb; (try have hcv1 := HC.out w1 hb); clear hb))
    --@CUT2
    all_goals go_wp2
    all_goals go_ret
    all_goals refine ⟨by rw [HE.out]; rfl, ?_⟩
    all_goals first | exact Below.alloc ((Below.drew (Below.refl w.heap.size w)).trans HB1.out) HB1.out.size _ | exact (Below.drew ((Below.refl w.heap.size w).alloc (Nat.le_refl _) (.cells #[.int .u8 (48 + b)] 5))).trans (Below.mono HB1.out (by show w.heap.size ≤ (w.alloc (.cells #[.int .u8 (48 + b)] 5)).heap.size; simp))
end Go.Proofs.YtechkhlibdkmpaaDoor
