/-
  The reference: down, yes, shift, size.
-/
import Derived.Test.YthnjppfgdkiaaacC1
namespace Go.Proofs.Ythnjppfgdkiaaac
open Go.ChangeShapes Go.WideShapes Go.ChangeAt Go.RowKit
/-- What is moved down by sh, 'inn' coming in from above, behind k rounds. -/
def df (A n sh : Nat) (inn : Int) (k j : Nat) : Int := if j < k then (if j + sh < n then bt A (j + sh) else inn) else 0
theorem df_step {A n sh : Nat} {inn b : Int} {k : Nat} {C : Array Value} (hc : ∀ j, j < n → C[j]? = some (.int .i64 (df A n sh inn k j))) (hs : C.size = n) (hk : k < n) (hb : b = if k + sh < n then bt A (k + sh) else inn) :
    (C.setIfInBounds k (.int .i64 b)).size = n ∧ ∀ j, j < n → (C.setIfInBounds k (.int .i64 b))[j]? = some (.int .i64 (df A n sh inn (k + 1) j)) := by
  refine ⟨by simp [hs], fun j hj => ?_⟩
  rw [Array.getElem?_setIfInBounds]
  by_cases e : k = j
  · subst e
    rw [if_pos rfl, if_pos (by omega)]; unfold df; rw [if_pos (by omega), hb]
  · rw [if_neg e, hc j hj]; unfold df
    by_cases h : j < k
    · rw [if_pos h, if_pos (show j < k + 1 by omega)]
    · rw [if_neg h, if_neg (show ¬ j < k + 1 by omega)]
set_option maxHeartbeats 1000000 in
theorem down_any (A n sh : Nat) (inn : Int) (hn0 : 0 < n) (hn : n ≤ 200) (hsh : sh ≤ n) (va : Value) (w : World) (la : Lst w va (bl A n)) :
    Calls Try.prog 73 #[va, .int .i64 (sh : Int), .int .i64 inn] w fun e w' => ∃ v, e = .returned v ∧ Lst w' v (mk (fun j => if j + sh < n then bt A (j + sh) else inn) n) ∧ Below w.heap.size w w' := by
  obtain ⟨g, off, cap, rfl, h1, h2, h3⟩ := la
  rw [bl_length] at h1 h3
  rw [bl_length]
  go_enter Try.func73, Try.ntmps73
  go_wp2_with fail
  refine (zeros_any n (by omega) _).mono ?_
  rintro e w' ⟨rfl, rfl⟩
  go_wp2_with fail
  go_loopw [8] (fun q wr => ∃ k : Nat, k ≤ n ∧ q = .int .i64 k ∧ ∃ C : Array Value, wr = w.alloc (.cells C 3) ∧ C.size = n ∧ Hid (∀ j, j < n → C[j]? = some (.int .i64 (df A n sh inn k j)))) (fun q _ => n - (intOf q).toNat)
  case atStart => exact ⟨0, Nat.zero_le _, rfl, zc n, rfl, zc_size n, fun j hj => by rw [zc_get n j hj]; unfold df; rw [if_neg (by omega)]⟩
  case round =>
    obtain ⟨k, hk, rfl, C, rfl, hC, hf⟩ := hrel
    by_cases hlt : k < n
    · have hl1 : (0 : Int) ≤ (k : Int) := by omega
      have hl3 : (k : Int) < (n : Int) := by omega
      have hz := hf.out k hlt
      by_cases hin : k + sh < n
      · have ha := h3 (k + sh) hin
        rw [bl_get _ _ _ hin] at ha
        have hl2 : (k : Int) + (sh : Int) < (n : Int) := by omega
        have HS := df_step (b := bt A (k + sh)) hf.out hC hlt (by rw [if_pos hin])
        have HH : Hid ((C.setIfInBounds k (.int .i64 (bt A (k + sh)))).size = n ∧ ∀ j, j < n → (C.setIfInBounds k (.int .i64 (bt A (k + sh))))[j]? = some (.int .i64 (df A n sh inn (k + 1) j))) := HS
        clear h3 HS
        go_wp2_with fail
        go_roundw
        case rel => exact ⟨k + 1, by omega, by go_num, _, rfl, HH.out.1, HH.out.2⟩
        case measure => simp [intOf]; omega
      · have hl2 : (n : Int) ≤ (k : Int) + (sh : Int) := by omega
        have HS := df_step (b := inn) hf.out hC hlt (by rw [if_neg hin])
        have HH : Hid ((C.setIfInBounds k (.int .i64 (inn))).size = n ∧ ∀ j, j < n → (C.setIfInBounds k (.int .i64 (inn)))[j]? = some (.int .i64 (df A n sh inn (k + 1) j))) := HS
        clear h3 HS
        go_wp2_with fail
        go_roundw
        case rel => exact ⟨k + 1, by omega, by go_num, _, rfl, HH.out.1, HH.out.2⟩
        case measure => simp [intOf]; omega
    · have hl2 : (n : Int) ≤ (k : Int) := by omega
      have hkn : k = n := by omega
      subst hkn
      have HC : Hid (C.size = k) := hC
      clear h3 hC
      go_wp2
      go_ret
      refine ⟨_, rfl, Lst.of_block (fun j hj => ?_), (Below.refl _ _).alloc (Nat.le_refl _) _⟩
      rw [hf.out j hj]; unfold df; rw [if_pos hj]

/-- 1 or 0, of n bits. -/
theorem yes_any (c : Bool) (n : Nat) (hn0 : 0 < n) (hn : n ≤ 200) (w : World) :
    Calls Try.prog 74 #[.bool c, .int .i64 (n : Int)] w fun e w' => ∃ v, e = .returned v ∧ Lst w' v (bl c.toNat n) ∧ Below w.heap.size w w' := by
  have hz := zc_get n 0 hn0
  cases c
  · go_enter Try.func74, Try.ntmps74
    go_wp2_with fail
    refine (zeros_any n (by omega) _).mono ?_
    rintro e w' ⟨rfl, rfl⟩
    go_wp2
    go_ret
    refine ⟨_, rfl, ?_, (Below.refl _ _).alloc (Nat.le_refl _) _⟩
    rw [← mk_bl]
    exact Lst.of_block (fun j hj => by rw [zc_get n j hj]; unfold bt; simp)
  · have hl : (0 : Int) < (n : Int) := by omega
    go_enter Try.func74, Try.ntmps74
    go_wp2_with fail
    refine (zeros_any n (by omega) _).mono ?_
    rintro e w' ⟨rfl, rfl⟩
    go_wp2
    go_ret
    refine ⟨_, rfl, ?_, (Below.refl _ _).alloc (Nat.le_refl _) _⟩
    rw [← mk_bl]
    refine Lst.of_block (fun j hj => ?_)
    rw [Array.getElem?_setIfInBounds]
    by_cases e : 0 = j
    · subst e; rw [if_pos rfl, if_pos (by rw [zc_size]; exact hj)]; rfl
    · rw [if_neg e, zc_get n j hj]; unfold bt
      have : 1 / 2 ^ j = 0 := Nat.div_eq_of_lt (Nat.one_lt_two_pow (by omega))
      show some (Value.int .i64 0) = some (.int .i64 ((1 / 2 ^ j % 2 : Nat) : Int))
      rw [this]; rfl

theorem size_ref (A n : Nat) (hn0 : 0 < n) (hn : n ≤ 200) (va : Value) (w : World) (la : Lst w va (bl A n)) :
    Calls Try.prog 92 #[va] w fun e w' => ∃ v, e = .returned v ∧ Lst w' v (bl (if bt A (n - 1) = 1 then mns 0 A n else A) n) ∧ Below w.heap.size w w' := by
  have La : Hid (Lst w va (bl A n)) := la
  obtain ⟨g, off, cap, rfl, h1, h2, h3⟩ := la
  rw [bl_length] at h1 h3
  rw [bl_length]
  rw [bl_length] at La
  obtain ⟨m, rfl⟩ : ∃ m, n = m + 1 := ⟨n - 1, by omega⟩
  have ha := h3 m (by omega)
  rw [bl_get _ _ _ (by omega)] at ha
  rw [Nat.add_sub_cancel]
  have hl1 : (0 : Int) ≤ (m : Int) := by omega
  clear h3
  by_cases h0 : bt A m = 1
  · rw [if_pos h0]
    rw [h0] at ha
    clear h0
    go_enter Try.func92, Try.ntmps92
    go_wp2_with fail
    refine (zeros_lst (m + 1) (by omega) _).mono ?_
    rintro e w1 ⟨v1, rfl, l1, b1⟩
    have L1 : Hid (Lst w1 v1 (bl 0 (m + 1))) := l1
    have La1 := Hid.out (p := Hid _) (show Hid (Hid _) from La.out.later b1)
    have B1 : Hid (Below w.heap.size w w1) := b1
    clear l1 b1
    go_wp2_with fail
    refine (minus_any 0 A (m + 1) hn0 hn _ _ _ L1.out La1.out).mono ?_
    rintro e w2 ⟨v2, rfl, l2, b2⟩
    have L2 : Hid (Lst w2 v2 (bl (mns 0 A (m + 1)) (m + 1))) := l2
    have B2 : Hid (Below w.heap.size w w2) := B1.out.trans (b2.mono B1.out.size)
    clear l2 b2
    go_wp2
    go_ret
    exact ⟨_, rfl, L2.out, B2.out⟩
  · rw [if_neg h0]
    have h1 : bt A m = 0 := by rcases bt_cases A m with h | h; exact h; exact absurd h h0
    rw [h1] at ha
    clear h0 h1
    go_enter Try.func92, Try.ntmps92
    go_wp2
    go_ret
    exact ⟨_, rfl, La.out, Below.refl _ _⟩
end Go.Proofs.Ythnjppfgdkiaaac
