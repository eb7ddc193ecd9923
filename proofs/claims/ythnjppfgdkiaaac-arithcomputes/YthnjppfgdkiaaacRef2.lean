/-
  The reference: less, lessSigned.
-/
import Derived.Test.YthnjppfgdkiaaacRef1
namespace Go.Proofs.Ythnjppfgdkiaaac
open Go.ChangeShapes Go.WideShapes Go.ChangeAt Go.RowKit

theorem ret_boolR {a b : Bool} (h : a = b) : Ending.returned (.bool a) = .returned (.bool b) := by rw [h]
theorem up_div (A m : Nat) : A / 2 ^ m = 2 * (A / 2 ^ (m + 1)) + A / 2 ^ m % 2 := by
  rw [Nat.pow_succ, ← Nat.div_div_eq_div_mul]; omega
theorem lt_of_div {A B m : Nat} (h : A / 2 ^ m < B / 2 ^ m) : A < B := by
  rcases Nat.lt_or_ge A B with h1 | h1
  · exact h1
  · have := Nat.div_le_div_right (c := 2 ^ m) h1; omega

set_option maxHeartbeats 1000000 in
theorem less_any (A B n : Nat) (hn0 : 0 < n) (hn : n ≤ 200) (hA : A < 2 ^ n) (hB : B < 2 ^ n) (va vb : Value) (w : World) (la : Lst w va (bl A n)) (lb : Lst w vb (bl B n)) :
    Calls Try.prog 76 #[va, vb] w fun e w' => e = .returned (.bool (decide (A < B))) ∧ Below w.heap.size w w' := by
  obtain ⟨g, off, cap, rfl, h1, h2, h3⟩ := la
  obtain ⟨g', off', cap', rfl, h1', h2', h3'⟩ := lb
  rw [bl_length] at h1 h1' h3 h3'
  rw [bl_length, bl_length]
  go_enter Try.func76, Try.ntmps76
  go_wp2
  go_loopw [5] (fun i wr => ∃ k : Nat, k ≤ n ∧ i = .int .i64 ((k : Int) - 1) ∧ Hid (A / 2 ^ k = B / 2 ^ k) ∧ ∃ q, wr = w.drewN q) (fun i _ => (intOf i + 1).toNat)
  case atStart => exact ⟨n, Nat.le_refl _, rfl, by show A / 2 ^ n = B / 2 ^ n; rw [Nat.div_eq_of_lt hA, Nat.div_eq_of_lt hB], 0, rfl⟩
  case round =>
    obtain ⟨k, hk, rfl, hh, q, rfl⟩ := hrel
    match k, hk, hh with
    | 0, hk, hh =>
      have hab : Hid (decide (A < B) = false) := by
        have := hh.out; simp at this; show decide (A < B) = false; simp; omega
      clear hh
      go_wp2
      go_ret
      exact ⟨ret_boolR hab.out.symm, below_drewN (Below.refl _ _) _⟩
    | m + 1, hk, hh =>
      rw [show (((m + 1 : Nat) : Int) - 1) = (m : Int) from by omega]
      have ha := h3 m (by omega)
      have hb := h3' m (by omega)
      rw [bl_get _ _ _ (by omega)] at ha hb
      have hl1 : (0 : Int) ≤ (m : Int) := by omega
      have hl2 : (m : Int) < (n : Int) := by omega
      have ua := up_div A m
      have ub := up_div B m
      rw [hh.out] at ua
      clear h3 h3' hh
      by_cases e : A / 2 ^ m % 2 = B / 2 ^ m % 2
      · have t0 : (bt A m != bt B m) = false := by unfold bt; rw [e]; simp
        have hn' : Hid (A / 2 ^ m = B / 2 ^ m) := by show A / 2 ^ m = B / 2 ^ m; omega
        clear ua ub e
        go_wp2_with fail
        go_quiet (fail)
        go_wp2
        go_roundw
        case rel => exact ⟨m, by omega, by go_num, hn', _, rfl⟩
        case measure => simp [intOf]
      · have t0 : (bt A m != bt B m) = true := by unfold bt; simp only [bne_iff_ne, ne_eq]; omega
        have hr : Hid (decide (bt A m < bt B m) = decide (A < B)) := by
          show decide (bt A m < bt B m) = decide (A < B)
          unfold bt
          rcases Nat.lt_or_ge A B with h | h
          · have := Nat.div_le_div_right (c := 2 ^ m) (Nat.le_of_lt h)
            rw [decide_eq_true h, decide_eq_true (by omega)]
          · have := Nat.div_le_div_right (c := 2 ^ m) h
            rw [decide_eq_false (by omega), decide_eq_false (by omega)]
        clear ua ub e
        go_wp2_with fail
        go_quiet (fail)
        go_wp2_with fail
        go_quiet (fail)
        go_wp2
        go_ret
        exact ⟨ret_boolR hr.out, below_drewN (below_drewN (below_drewN (Below.refl _ _) _) _) _⟩

/-- A number of n bits, signed. -/
def sval (n A : Nat) : Int := if A / 2 ^ (n - 1) % 2 = 1 then (A : Int) - (2 ^ n : Nat) else (A : Int)
theorem sval_lt {A B n : Nat} (hA : A < 2 ^ n) (hB : B < 2 ^ n) :
    (A / 2 ^ (n - 1) % 2 = B / 2 ^ (n - 1) % 2 → decide (sval n A < sval n B) = decide (A < B)) ∧ (A / 2 ^ (n - 1) % 2 ≠ B / 2 ^ (n - 1) % 2 → decide (sval n A < sval n B) = decide (bt B (n - 1) < bt A (n - 1))) := by
  unfold sval bt
  refine ⟨fun h => ?_, fun h => ?_⟩
  · rw [h]; congr 1; apply propext; split <;> omega
  · congr 1; apply propext
    split
    · split
      · omega
      · constructor <;> intro _ <;> omega
    · split
      · constructor
        · intro _; omega
        · intro _; omega
      · omega
set_option maxHeartbeats 1000000 in
theorem lessSigned_any (A B n : Nat) (hn0 : 0 < n) (hn : n ≤ 200) (hA : A < 2 ^ n) (hB : B < 2 ^ n) (va vb : Value) (w : World) (la : Lst w va (bl A n)) (lb : Lst w vb (bl B n)) :
    Calls Try.prog 75 #[va, vb] w fun e w' => e = .returned (.bool (decide (sval n A < sval n B))) ∧ Below w.heap.size w w' := by
  have la0 := la
  have lb0 := lb
  obtain ⟨g, off, cap, rfl, h1, h2, h3⟩ := la
  obtain ⟨g', off', cap', rfl, h1', h2', h3'⟩ := lb
  have hs := sval_lt hA hB
  obtain ⟨m, rfl⟩ : ∃ m, n = m + 1 := ⟨n - 1, by omega⟩
  rw [bl_length] at h1 h1' h3 h3'
  have ha := h3 m (by omega)
  have hb := h3' m (by omega)
  rw [bl_get _ _ _ (by omega)] at ha hb
  rw [Nat.add_sub_cancel] at hs
  clear h3 h3'
  rw [bl_length, bl_length] at *
  have hl1 : (0 : Int) ≤ (m : Int) := by omega
  have Hla : Hid (Lst w (.slice (some ⟨g, off, none⟩) (m + 1) cap) (bl A (m + 1))) := la0
  have Hlb : Hid (Lst w (.slice (some ⟨g', off', none⟩) (m + 1) cap') (bl B (m + 1))) := lb0
  clear la0 lb0
  by_cases e : A / 2 ^ m % 2 = B / 2 ^ m % 2
  · have t0 : (bt A m != bt B m) = false := by unfold bt; rw [e]; simp
    have hr : Hid (decide (sval (m + 1) A < sval (m + 1) B) = decide (A < B)) := hs.1 e
    clear hs e
    go_enter Try.func75, Try.ntmps75
    go_wp2_with fail
    go_quiet (fail)
    go_wp2_with fail
    refine (less_any A B (m + 1) (by omega) (by omega) hA hB _ _ _ (Hla.out.later (below_drewN (Below.refl _ _) _)) (Hlb.out.later (below_drewN (Below.refl _ _) _))).mono ?_
    rintro e w' ⟨rfl, hbel⟩
    have HB : Hid (Below (w.drewN nq).heap.size (w.drewN nq) w') := hbel
    clear hbel
    go_wp2
    go_ret
    exact ⟨ret_boolR hr.out.symm, (below_drewN (Below.refl _ _) _).trans HB.out⟩
  · have t0 : (bt A m != bt B m) = true := by unfold bt; simp only [bne_iff_ne, ne_eq]; omega
    have hr : Hid (decide (sval (m + 1) A < sval (m + 1) B) = decide (bt B m < bt A m)) := hs.2 e
    clear hs e
    go_enter Try.func75, Try.ntmps75
    go_wp2_with fail
    go_quiet (fail)
    go_wp2_with fail
    go_quiet (fail)
    go_wp2
    go_ret
    exact ⟨ret_boolR hr.out.symm, below_drewN (below_drewN (Below.refl _ _) _) _⟩
end Go.Proofs.Ythnjppfgdkiaaac
