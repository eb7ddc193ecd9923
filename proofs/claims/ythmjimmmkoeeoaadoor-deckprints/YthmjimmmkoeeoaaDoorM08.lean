/-
  Dc.
-/
import Derived.Test.YthmjimmmkoeeoaaDoorM07
import Derived.Deep.RegionWith
import Derived.Laws.BytesArg
import Derived.Deep.CutRange
namespace Go.Proofs.YthmjimmmkoeeoaaDoor
set_option linter.unusedVariables false
set_option maxRecDepth 100000
open Go.ChangeShapes Go.WideShapes Go.ChangeAt Go.RowKit Go.Deep
theorem wrapI (z : Int) (h : -9223372036854775808 ≤ z ∧ z ≤ 9223372036854775807) : IntKind.i64.wrap z = z := by
  have : IntKind.i64.wrap z = (z + 9223372036854775808) % 18446744073709551616 - 9223372036854775808 := by
    first | rfl | (unfold IntKind.wrap; simp [IntKind.signed, IntKind.bits]; omega)
  rw [this]
  omega
theorem wrapB (z : Int) (h : 0 ≤ z ∧ z < 256) : IntKind.u8.wrap z = z := by
  have : IntKind.u8.wrap z = z % 256 := by first | rfl | (unfold IntKind.wrap; simp [IntKind.signed, IntKind.bits])
  rw [this]
  omega
/-- One byte, made a text. -/
theorem conv1 (w : World) (z : Int) : (convert 44 9 (.slice (some ⟨w.heap.size, 0, none⟩) 1 1)).run Tryd.prog (w.alloc (.cells #[.int .u8 z] 5)) = .ok (.string ⟨#[UInt8.ofNat z.toNat]⟩) (w.alloc (.cells #[.int .u8 z] 5)) := by
  have h := run_convert_bytes_arg (P := Tryd.prog) (w.alloc (.cells #[.int .u8 z] 5)) 44 5 Tryd.underlying44 Tryd.underlying5 w.heap.size 0 1 1 [z] rfl (fun i hi => by
    obtain rfl : i = 0 := by omega
    exact cell_of_row _ w.heap.size 0 _ _ _ (heap_alloc_new w _)) 9 Tryd.underlying9
  exact h
def hxD : ByteArray := ⟨#[48, 49, 50, 51, 52, 53, 54, 55, 56, 57, 97, 98, 99, 100, 101, 102]⟩
theorem dg_ext : ∀ a : Nat, a < 16 → hxD.extract a (a + 1) = tS [hd a]
  | 0, _ => by rfl
  | 1, _ => by rfl
  | 2, _ => by rfl
  | 3, _ => by rfl
  | 4, _ => by rfl
  | 5, _ => by rfl
  | 6, _ => by rfl
  | 7, _ => by rfl
  | 8, _ => by rfl
  | 9, _ => by rfl
  | 10, _ => by rfl
  | 11, _ => by rfl
  | 12, _ => by rfl
  | 13, _ => by rfl
  | 14, _ => by rfl
  | 15, _ => by rfl
  | a + 16, h => absurd h (by omega)
theorem wrapU (z : Int) (h : 0 ≤ z ∧ z < 18446744073709551616) : IntKind.u64.wrap z = z := by
  have : IntKind.u64.wrap z = z % 18446744073709551616 := by first | rfl | (unfold IntKind.wrap; simp [IntKind.signed, IntKind.bits])
  rw [this]
  omega
theorem hd_1 (a : Nat) (h : a < 16) : hxD.extract a (a + 1) = tS [hd a] := dg_ext a h
set_option maxHeartbeats 2000000 in
theorem rhex_1 (v : Nat) (h : v < 16) (w : World) : Calls Tryd.prog 29 #[.int .u64 v] w fun e w' => e = .returned (.string (tS [hd v])) ∧ Below w.heap.size w w' := by
  have h1 : (v : Int) < 16 := by omega
  have e := dg_ext v h
  go_enter Tryd.func29, Tryd.ntmps29
  go_wp2
  go_ret
  exact ⟨by rw [← e]; rfl, Below.refl _ _⟩
set_option maxHeartbeats 2000000 in
theorem rhex_s (v : Nat) (h1 : 16 ≤ v) (h2 : v < 18446744073709551616) (s : ByteArray) (hs : s.size ≤ 100) (IH : ∀ w : World, Calls Tryd.prog 29 #[.int .u64 ((v / 16 : Nat) : Int)] w fun e w' => e = .returned (.string s) ∧ Below w.heap.size w w') (w : World) :
    Calls Tryd.prog 29 #[.int .u64 v] w fun e w' => e = .returned (.string (s ++ tS [hd (v % 16)])) ∧ Below w.heap.size w w' := by
  obtain ⟨q, hq0⟩ : ∃ q : Nat, q = v / 16 := ⟨_, rfl⟩
  obtain ⟨r, hr0⟩ : ∃ r : Nat, r = v % 16 := ⟨_, rfl⟩
  have e := dg_ext r (by omega)
  have hI : ¬ ((v : Int) < 16) := by omega
  have hq1 : (v : Int) / 16 = (q : Int) := by omega
  have hq2 : Int.tdiv (v : Int) 16 = (q : Int) := by rw [Int.tdiv_eq_ediv_of_nonneg (by omega)]; omega
  have hr1 : (v : Int) % 16 = (r : Int) := by omega
  have hr2 : Int.tmod (v : Int) 16 = (r : Int) := by rw [Int.tmod_eq_emod_of_nonneg (by omega)]; omega
  have w1 : IntKind.u64.wrap (q : Int) = q := wrapU _ (by omega)
  have w2 : IntKind.u64.wrap ((r : Int) + 1) = r + 1 := wrapU _ (by omega)
  have hr16 : (r : Int) < 16 := by omega
  have hr17 : (r : Int) + 1 ≤ 16 := by omega
  rw [← hq0] at IH
  rw [← hr0]
  have HD : Hid (∀ w : World, Calls Tryd.prog 29 #[.int .u64 q] w fun e w' => e = .returned (.string s) ∧ Below w.heap.size w w') := IH
  have HE : Hid (hxD.extract r (r + 1) = tS [hd r]) := e
  have hsz : ¬ (9223372036854775807 < s.size + (tS [hd r]).size) := by
    have : (tS [hd r]).size = 1 := rfl
    omega
  have hsz2 : ¬ (9223372036854775807 < s.size + 1) := by omega
  clear IH e hq0 hr0 h1 h2 hs
  go_enter Tryd.func29, Tryd.ntmps29
  go_wp2
  go_region_with (first | (go_at_call 29; refine (HD.out _).mono ?_; rintro e w1 ⟨rfl, hb⟩; have HB1 : Hid _ := hb; clear hb))
  all_goals go_wp2
  all_goals go_ret
  all_goals exact ⟨by rw [← HE.out]; rfl, (Below.drew (Below.refl w.heap.size w)).trans HB1.out⟩
theorem rhex_n (v : Nat) (h : v < 18446744073709551616) (w : World) : Calls Tryd.prog 29 #[.int .u64 v] w fun e w' => e = .returned (.string (tS (hxL v))) ∧ Below w.heap.size w w' := by
  induction v using Nat.strongRecOn generalizing w with
  | _ v ih =>
    by_cases h1 : v < 16
    · rw [hxL_one h1]; exact rhex_1 v h1 w
    · rw [hxL_more h1, ← tS_append]
      refine rhex_s v (by omega) h _ ?_ (fun w => ih (v / 16) (by omega) (by omega) w) w
      rw [tS_size]
      have := hxL_len (v / 16) 15 (by omega)
      omega
theorem rhex_c (v : BitVec 64) (w : World) : Calls Tryd.prog 29 #[.int .u64 (n64 v)] w fun e w' => e = .returned (.string (tS (hxL v.toNat))) ∧ Below w.heap.size w w' := rhex_n v.toNat v.isLt w
theorem hxS (v : BitVec 64) : (⟨#[48, 120]⟩ : ByteArray) ++ tS (hxL v.toNat) = tS (hxT v) := tS_append [48, 120] _
/-- hex of the reference. -/
theorem rhx_c (v : BitVec 64) (w : World) : Calls Tryd.prog 12 #[.int .u64 (n64 v)] w fun e w' => e = .returned (.string (tS (hxT v))) ∧ Below w.heap.size w w' := by
  have HE : Hid ((⟨#[48, 120]⟩ : ByteArray) ++ tS (hxL v.toNat) = tS (hxT v)) := hxS v
  have HC : Hid (∀ w : World, Calls Tryd.prog 29 #[.int .u64 (n64 v)] w fun e w' => e = .returned (.string (tS (hxL v.toNat))) ∧ Below w.heap.size w w') := fun w => rhex_c v w
  have hsz : ¬ (9223372036854775807 < (⟨#[48, 120]⟩ : ByteArray).size + (tS (hxL v.toNat)).size) := by
    have := hxL_64 v
    rw [tS_size]; show ¬ (9223372036854775807 < 2 + _); omega
  have hsz2 : ¬ (9223372036854775807 < 2 + (tS (hxL v.toNat)).size) := hsz
  generalize tS (hxL v.toNat) = s at HE HC hsz hsz2
  go_enter Tryd.func12, Tryd.ntmps12
  go_wp2_with (first | (go_at_call 29; refine (HC.out _).mono ?_; rintro e w1 ⟨rfl, hb⟩; have HB : Hid _ := hb; clear hb))
  go_ret
  exact ⟨by rw [← HE.out]; rfl, HB.out⟩
set_option maxHeartbeats 2000000 in
theorem rdec_1 (n : Nat) (h : n < 10) (w : World) : Calls Tryd.prog 11 #[.int .i64 n] w fun e w' => e = .returned (.string (tS (dcL n))) ∧ Below w.heap.size w w' := by
  have e1 : (⟨#[UInt8.ofNat ((48 + n : Int)).toNat]⟩ : ByteArray) = tS (dcL n) := by
    rw [dcL_one h]
    show (⟨#[_]⟩ : ByteArray) = ⟨#[_]⟩
    congr 4
  have h1 : (n : Int) < 10 := by omega
  have hcv := conv1 w (48 + n)
  rw [e1] at hcv
  go_enter Tryd.func11, Tryd.ntmps11
  go_wp2
  go_ret
  exact ⟨rfl, (Below.refl _ _).alloc (Nat.le_refl _) _⟩
set_option maxHeartbeats 2000000 in
theorem rdec_s (n : Nat) (hs : ¬ n < 10) (h : n < 9223372036854775808) (s : ByteArray) (hss : s.size ≤ 100) (IH : ∀ w : World, Calls Tryd.prog 11 #[.int .i64 ((n / 10 : Nat) : Int)] w fun e w' => e = .returned (.string s) ∧ Below w.heap.size w w') (w : World) : Calls Tryd.prog 11 #[.int .i64 n] w fun e w' => e = .returned (.string (s ++ tS [UInt8.ofNat (48 + n % 10)])) ∧ Below w.heap.size w w' := by
  obtain ⟨a, ha⟩ : ∃ a, a = n / 10 := ⟨_, rfl⟩
  obtain ⟨b, hb⟩ : ∃ b, b = n % 10 := ⟨_, rfl⟩
  have e1 : (⟨#[UInt8.ofNat ((48 + b : Int)).toNat]⟩ : ByteArray) = ⟨#[UInt8.ofNat (48 + b)]⟩ := by congr 4
  rw [← ha] at IH
  rw [← hb]
  have h1 : ¬ ((n : Int) < 10) := by omega
  have hq : Int.tdiv (n : Int) 10 = (a : Int) := by rw [Int.tdiv_eq_ediv_of_nonneg (by omega)]; omega
  have hr : Int.tmod (n : Int) 10 = (b : Int) := by rw [Int.tmod_eq_emod_of_nonneg (by omega)]; omega
  have hb9 : b < 10 := by omega
  have hbI : 48 + (b : Int) < 256 := by omega
  have hcv : ∀ w : World, (convert 44 9 (.slice (some ⟨w.heap.size, 0, none⟩) 1 1)).run Tryd.prog (w.alloc (.cells #[.int .u8 (48 + b)] 5)) = .ok (.string ⟨#[UInt8.ofNat (48 + b)]⟩) (w.alloc (.cells #[.int .u8 (48 + b)] 5)) := fun w => by rw [← e1]; exact conv1 w (48 + b)
  have w1 : IntKind.i64.wrap (a : Int) = a := wrapI _ (by omega)
  have w2 : IntKind.i64.wrap (48 + (b : Int)) = 48 + b := wrapI _ (by omega)
  have w3 : IntKind.u8.wrap (48 + (b : Int)) = 48 + b := wrapB _ (by omega)
  have HD : Hid (∀ w : World, Calls Tryd.prog 11 #[.int .i64 a] w fun e w' => e = .returned (.string s) ∧ Below w.heap.size w w') := IH
  have HE : Hid (tS [UInt8.ofNat (48 + b)] = ⟨#[UInt8.ofNat (48 + b)]⟩) := rfl
  have HC : Hid (∀ w1, Below (w.alloc (.cells #[.int .u8 (48 + b)] 5)).heap.size (w.alloc (.cells #[.int .u8 (48 + b)] 5)).drew w1 → (convert 44 9 (.slice (some ⟨w.heap.size, 0, none⟩) 1 1)).run Tryd.prog w1 = .ok (.string ⟨#[UInt8.ofNat (48 + b)]⟩) w1) := fun w1 hb => by
    rw [← e1]
    exact run_convert_bytes_arg (P := Tryd.prog) w1 44 5 Tryd.underlying44 Tryd.underlying5 w.heap.size 0 1 1 [48 + b] rfl (fun i hi => by
      obtain rfl : i = 0 := by omega
      exact (hb.cell (p := ⟨w.heap.size, 0, none⟩) (by simp)).trans (cell_of_row _ w.heap.size 0 _ _ _ (heap_alloc_new w _))) 9 Tryd.underlying9
  have hcv0 : (convert 44 9 (.slice (some ⟨w.heap.size, 0, none⟩) 1 1)).run Tryd.prog (w.alloc (.cells #[.int .u8 (48 + b)] 5)).drew = .ok (.string ⟨#[UInt8.ofNat (48 + b)]⟩) (w.alloc (.cells #[.int .u8 (48 + b)] 5)).drew := HC.out _ (Below.refl _ _)
  have hsz : ¬ (9223372036854775807 < s.size + (⟨#[UInt8.ofNat (48 + b)]⟩ : ByteArray).size) := by
    have h1 := hss
    have h2 : (⟨#[UInt8.ofNat (48 + b)]⟩ : ByteArray).size = 1 := rfl
    omega
  clear e1 ha hb hs h IH hss
  generalize tS [UInt8.ofNat (48 + b)] = dn at HE ⊢
  generalize (⟨#[UInt8.ofNat (48 + b)]⟩ : ByteArray) = ub at hcv HE hsz HC hcv0
  go_enter Tryd.func11, Tryd.ntmps11
  go_wp2
  go_region_with (first | (go_at_call 11; refine (HD.out _).mono ?_; rintro e w1 ⟨rfl, hb⟩; have HB1 : Hid _ := hb; (try have hcv1 := HC.out w1 hb); clear hb))
  all_goals go_wp2
  all_goals go_ret
  all_goals refine ⟨by rw [HE.out]; rfl, ?_⟩
  all_goals first | exact Below.alloc ((Below.drew (Below.refl w.heap.size w)).trans HB1.out) HB1.out.size _ | exact (Below.drew ((Below.refl w.heap.size w).alloc (Nat.le_refl _) (.cells #[.int .u8 (48 + b)] 5))).trans (Below.mono HB1.out (by show w.heap.size ≤ (w.alloc (.cells #[.int .u8 (48 + b)] 5)).heap.size; simp))
theorem rdec_c (n : Nat) (h : n < 9223372036854775808) (w : World) : Calls Tryd.prog 11 #[.int .i64 n] w fun e w' => e = .returned (.string (tS (dcL n))) ∧ Below w.heap.size w w' := by
  induction n using Nat.strongRecOn generalizing w with
  | _ n ih =>
    by_cases h1 : n < 10
    · exact rdec_1 n h1 w
    · rw [dcL_more h1, ← tS_append]
      refine rdec_s n h1 h _ ?_ (fun w => ih (n / 10) (by omega) (by omega) w) w
      rw [tS_size]
      have := dcL_len (n / 10) 18 (by omega)
      omega
/-- Two hex digits of a byte. -/
theorem rdig_c (z : Int) (h : 0 ≤ z ∧ z ≤ 255) (w : World) : Calls Tryd.prog 53 #[.int .u64 z, .int .i64 2] w fun e w' => e = .returned (.string (tS (b2 z))) ∧ Below w.heap.size w w' := by
  obtain ⟨n, rfl⟩ := Int.eq_ofNat_of_zero_le h.1
  have hn : n < 256 := by omega
  have HC : Hid (∀ w : World, Calls Tryd.prog 29 #[.int .u64 n] w fun e w' => e = .returned (.string (tS (hxL n))) ∧ Below w.heap.size w w') := fun w => rhex_n n (by omega) w
  unfold b2
  rw [Int.toNat_natCast]
  by_cases h1 : n < 16
  · have e1 : hxL n = [hd n] := hxL_one h1
    rw [e1] at HC
    have e2 : n / 16 = 0 := by omega
    have e3 : n % 16 = n := by omega
    rw [e2, e3]
    have HE : Hid ((⟨#[48]⟩ : ByteArray) ++ tS [hd n] = tS [hd 0, hd n]) := tS_append [48] [hd n]
    have q1 : (tS [hd n]).size = 1 := rfl
    have q2 : ((⟨#[48]⟩ : ByteArray) ++ tS [hd n]).size = 2 := by rw [HE.out]; rfl
    generalize tS [hd n] = s at HE HC q1 q2
    clear e1 e2 e3 hn h1
    go_enter Tryd.func53, Tryd.ntmps53
    go_wp2_with (first | (go_at_call 29; refine (HC.out _).mono ?_; rintro e w1 ⟨rfl, hb⟩; have HB : Hid _ := hb; clear hb))
    go_loop [5] (fun v => ∃ k : Nat, k ≤ 1 ∧ v = .string (if k = 0 then s else (⟨#[48]⟩ : ByteArray) ++ s)) (fun v => 2 - (match v with | .string x => x.size | _ => 0))
    case atStart => exact ⟨0, by omega, rfl⟩
    case round =>
      obtain ⟨k, hk, rfl⟩ := hrel
      obtain rfl | rfl : k = 0 ∨ k = 1 := by omega
      · rw [if_pos rfl]
        go_wp2
        go_round
        case rel => exact ⟨1, by omega, rfl⟩
        case measure =>
          show 2 - ((⟨#[48]⟩ : ByteArray) ++ s).size < 2 - s.size
          rw [q1, q2]; omega
      · rw [if_neg (by omega)]
        rw [HE.out] at q2 ⊢
        go_wp2
        go_ret
        exact ⟨rfl, HB.out⟩
  · have e1 : hxL n = [hd (n / 16), hd (n % 16)] := by rw [hxL_more h1, hxL_one (by omega)]; rfl
    rw [e1] at HC
    have q1 : (tS [hd (n / 16), hd (n % 16)]).size = 2 := rfl
    generalize tS [hd (n / 16), hd (n % 16)] = s at HC q1 ⊢
    clear e1 hn h1
    go_enter Tryd.func53, Tryd.ntmps53
    go_wp2_with (first | (go_at_call 29; refine (HC.out _).mono ?_; rintro e w1 ⟨rfl, hb⟩; have HB : Hid _ := hb; clear hb))
    go_loop [5] (fun v => v = .string s) (fun v => 0)
    case atStart => rfl
    case round =>
      subst hrel
      go_wp2
      go_ret
      exact ⟨rfl, HB.out⟩
end Go.Proofs.YthmjimmmkoeeoaaDoor
