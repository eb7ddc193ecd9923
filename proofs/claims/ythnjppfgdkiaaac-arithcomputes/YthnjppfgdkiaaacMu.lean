/-
  The reference: zeros, up, times.
-/
import Derived.Test.YthnjppfgdkiaaacNt
import Derived.Test.YthnjppfgdkiaaacRef5
import Derived.Deep.OwnRows
namespace Go.Proofs.Ythnjppfgdkiaaac
open Go.ChangeShapes Go.WideShapes Go.ChangeAt Go.RowKit
def zc (n : Nat) : Array Value := madeCells #[.int .i64 0] n
theorem zc_size (n : Nat) : (zc n).size = n := size_madeCells _ _
theorem zc_get (n j : Nat) (h : j < n) : (zc n)[j]? = some (.int .i64 0) := by
  unfold zc madeCells; simp [h, Nat.mod_one]
theorem zeros_any (n : Nat) (hn : n ≤ 1000) (w : World) : Calls Try.prog 84 #[.int .i64 (n : Int)] w fun e w' => e = .returned (.slice (some ⟨w.heap.size, 0, none⟩) n n) ∧ w' = w.alloc (.cells (zc n) 3) := by
  have hmk := fun w => run_make_row' (P := Try.prog) 28 3 (.int .i64 0) 8 Try.underlying28 info3 rfl .i64 .i64 n (by omega) (by omega) w
  go_enter Try.func84, Try.ntmps84
  go_wp2
  go_ret
  exact ⟨rfl, rfl⟩
theorem Lst.of_block {w : World} {f : Nat → Int} {n : Nat} {C : Array Value} {e : TypeId} (hc : ∀ j, j < n → C[j]? = some (.int .i64 (f j))) : Lst (w.alloc (.cells C e)) (.slice (some ⟨w.heap.size, 0, none⟩) n n) (mk f n) := by
  refine ⟨w.heap.size, 0, n, by rw [mk_length], by rw [mk_length]; exact Nat.le_refl _, by simp, fun j hj => ?_⟩
  rw [mk_length] at hj
  rw [World.cell?_alloc_at _ _ _ _ rfl, Nat.zero_add, hc j hj]
  simp [mk, hj]
theorem zeros_lst (n : Nat) (hn : n ≤ 1000) (w : World) : Calls Try.prog 84 #[.int .i64 (n : Int)] w fun e w' => ∃ v, e = .returned v ∧ Lst w' v (bl 0 n) ∧ Below w.heap.size w w' :=
  (zeros_any n hn w).mono fun _ _ ⟨he, hw⟩ => ⟨_, he, by
    rw [hw, ← mk_bl]
    refine Lst.of_block (fun j hj => ?_)
    rw [zc_get n j hj]; unfold bt; simp, by rw [hw]; exact (Below.refl _ _).alloc (Nat.le_refl _) _⟩

/-- What the row holds behind k stores. -/
def uf (A sh k j : Nat) : Int := if sh ≤ j ∧ j < sh + k then bt A (j - sh) else 0
theorem uf_step {A sh k n : Nat} {C : Array Value} (hs : C.size = n) (hc : ∀ j, j < n → C[j]? = some (.int .i64 (uf A sh k j))) (hk : k + sh < n) :
    (C.setIfInBounds (k + sh) (.int .i64 (bt A k))).size = n ∧ ∀ j, j < n → (C.setIfInBounds (k + sh) (.int .i64 (bt A k)))[j]? = some (.int .i64 (uf A sh (k + 1) j)) := by
  refine ⟨by simp [hs], fun j hj => ?_⟩
  rw [Array.getElem?_setIfInBounds]
  by_cases e : k + sh = j
  · subst e
    rw [if_pos rfl, if_pos (by omega)]; unfold uf; rw [if_pos (by omega)]; congr 3; omega
  · rw [if_neg e, hc j hj]; unfold uf; congr 2
    by_cases h : sh ≤ j ∧ j < sh + k
    · rw [if_pos h, if_pos (by omega)]
    · rw [if_neg h, if_neg (by omega)]
theorem uf_end (A sh n j : Nat) (hj : j < n) : uf A sh (n - sh) j = bt (A * 2 ^ sh) j := by
  unfold uf
  by_cases h : sh ≤ j
  · rw [if_pos (by omega)]; unfold bt
    have : A * 2 ^ sh / 2 ^ j = A / 2 ^ (j - sh) := by
      rw [show 2 ^ j = 2 ^ sh * 2 ^ (j - sh) by rw [← Nat.pow_add]; congr 1; omega, Nat.mul_comm A, Nat.mul_div_mul_left _ _ (Nat.two_pow_pos sh)]
    rw [this]
  · rw [if_neg (by omega), bt_test, Nat.mul_comm, Nat.testBit_two_pow_mul]; simp; omega

set_option maxHeartbeats 1000000 in
theorem up_any (A sh n : Nat) (hn0 : 0 < n) (hn : n ≤ 200) (hsh : sh ≤ n) (va : Value) (w : World) (la : Lst w va (bl A n)) :
    Calls Try.prog 71 #[va, .int .i64 (sh : Int)] w fun e w' => ∃ v, e = .returned v ∧ Lst w' v (bl (A * 2 ^ sh) n) ∧ Below w.heap.size w w' := by
  obtain ⟨g, off, cap, rfl, h1, h2, h3⟩ := la
  rw [bl_length] at h1 h3
  rw [bl_length]
  go_enter Try.func71, Try.ntmps71
  go_wp2_with fail
  refine (zeros_any n (by omega) _).mono ?_
  rintro e w' ⟨rfl, rfl⟩
  go_wp2_with fail
  go_loopw [6] (fun q wr => ∃ k : Nat, k ≤ n - sh ∧ q = .int .i64 k ∧ ∃ C : Array Value, wr = w.alloc (.cells C 3) ∧ C.size = n ∧ Hid (∀ j, j < n → C[j]? = some (.int .i64 (uf A sh k j)))) (fun q _ => n - (intOf q).toNat)
  case atStart => exact ⟨0, Nat.zero_le _, rfl, zc n, rfl, zc_size n, fun j hj => by rw [zc_get n j hj]; unfold uf; rw [if_neg (by omega)]⟩
  case round =>
    obtain ⟨k, hk, rfl, C, rfl, hC, hf⟩ := hrel
    by_cases hlt : k + sh < n
    · have ha := h3 k (by omega)
      rw [bl_get _ _ _ (by omega)] at ha
      have hl1 : (0 : Int) ≤ (k : Int) := by omega
      have hl2 : (k : Int) + (sh : Int) < (n : Int) := by omega
      have hl3 : (k : Int) < (n : Int) := by omega
      have hne : g < w.heap.size := h2
      have hz := hf.out (k + sh) hlt
      have HS := uf_step hC hf.out hlt
      have HH : Hid ((C.setIfInBounds (k + sh) (.int .i64 (bt A k))).size = n ∧ ∀ j, j < n → (C.setIfInBounds (k + sh) (.int .i64 (bt A k)))[j]? = some (.int .i64 (uf A sh (k + 1) j))) := HS
      have HC : Hid (C.size = n) := hC
      clear h3 HS hC
      go_wp2_with fail
      go_roundw
      case rel => exact ⟨k + 1, by omega, by go_num, _, rfl, HH.out.1, HH.out.2⟩
      case measure => simp [intOf]; omega
    · have hl2 : (n : Int) ≤ (k : Int) + (sh : Int) := by omega
      have hkn : k = n - sh := by omega
      have HK : Hid (k = n - sh) := hkn
      have HC : Hid (C.size = n) := hC
      clear h3 hkn hC
      go_wp2
      go_ret
      refine ⟨_, rfl, ?_, (Below.refl _ _).alloc (Nat.le_refl _) _⟩
      rw [← mk_bl]
      exact Lst.of_block (fun j hj => by rw [hf.out j hj, HK.out, uf_end A sh n j hj])

set_option maxHeartbeats 1000000 in
theorem times_any (A Bn n : Nat) (hn0 : 0 < n) (hn : n ≤ 200) (va vb : Value) (w : World) (la : Lst w va (bl A n)) (lb : Lst w vb (bl Bn n)) :
    Calls Try.prog 68 #[va, vb] w fun e w' => ∃ v, e = .returned v ∧ Lst w' v (bl (A * (Bn % 2 ^ n)) n) ∧ Below w.heap.size w w' := by
  have La : Hid (Lst w va (bl A n)) := la
  obtain ⟨ga, offa, capa, hva, ha1⟩ := la
  rw [bl_length] at hva
  obtain ⟨g, off, cap, rfl, h1, h2, h3⟩ := lb
  rw [bl_length] at h1 h3
  rw [bl_length]
  subst hva
  clear ha1
  go_enter Try.func68, Try.ntmps68
  go_wp2_with fail
  refine (zeros_lst n (by omega) _).mono ?_
  rintro e w1 ⟨v1, rfl, l1, b1⟩
  have L1 : Hid (Lst w1 v1 (bl 0 n)) := l1
  have B1 : Hid (Below w.heap.size w w1) := b1
  clear l1 b1
  go_wp2_with fail
  go_loopw [5, 6] (fun v q wr => ∃ k : Nat, k ≤ n ∧ q = .int .i64 k ∧ Hid (Lst wr v (bl (A * (Bn % 2 ^ k)) n)) ∧ Hid (Below w.heap.size w wr)) (fun _ q _ => n - (intOf q).toNat)
  case atStart => exact ⟨0, Nat.zero_le _, rfl, by rw [Nat.pow_zero, Nat.mod_one, Nat.mul_zero]; exact L1, B1⟩
  case round =>
    obtain ⟨k, hk, rfl, hL, hB⟩ := hrel
    by_cases hlt : k < n
    · have hb := (hB.out.cell (p := ⟨g, off + k, none⟩) h2).trans (h3 k hlt)
      rw [bl_get _ _ _ hlt] at hb
      have hl1 : (0 : Int) ≤ (k : Int) := by omega
      have hl2 : (k : Int) < (n : Int) := by omega
      clear h3
      rcases bt_cases Bn k with h0 | h0
      · have HM : Hid (Bn % 2 ^ (k + 1) = Bn % 2 ^ k) := by
          show Bn % 2 ^ (k + 1) = Bn % 2 ^ k
          unfold bt at h0; rw [Nat.mod_pow_succ, show Bn / 2 ^ k % 2 = 0 by omega, Nat.mul_zero, Nat.add_zero]
        rw [h0] at hb
        clear h0
        go_wp2_with fail
        go_roundw
        case rel => exact ⟨k + 1, by omega, by go_num, by rw [HM.out]; exact hL, hB⟩
        case measure => simp [intOf]; omega
      · have HM : Hid (A * (Bn % 2 ^ (k + 1)) = A * (Bn % 2 ^ k) + A * 2 ^ k + 0) := by
          show A * (Bn % 2 ^ (k + 1)) = A * (Bn % 2 ^ k) + A * 2 ^ k + 0
          unfold bt at h0; rw [Nat.mod_pow_succ, show Bn / 2 ^ k % 2 = 1 by omega, Nat.mul_one, Nat.mul_add, Nat.add_zero]
        rw [h0] at hb
        clear h0
        go_wp2_with fail
        refine (up_any A k n hn0 hn hk _ _ (La.out.later hB.out)).mono ?_
        rintro e w2 ⟨v2, rfl, l2, b2⟩
        have L2 : Hid (Lst w2 v2 (bl (A * 2 ^ k) n)) := l2
        have L0 : Hid (Lst w2 u5 (bl (A * (Bn % 2 ^ k)) n)) := hL.out.later b2
        have B2 : Hid (Below w.heap.size w w2) := hB.out.trans (b2.mono hB.out.size)
        clear l2 b2 hb
        go_wp2_with fail
        refine (plus_any _ _ 0 n hn0 hn (by decide) _ _ _ L0.out L2.out).mono ?_
        rintro e w3 ⟨v3, rfl, l3, b3⟩
        have L3 : Hid (Lst w3 v3 (bl (A * (Bn % 2 ^ k) + A * 2 ^ k + 0) n)) := l3
        have B3 : Hid (Below w.heap.size w w3) := B2.out.trans (b3.mono B2.out.size)
        clear l3 b3
        go_wp2_with fail
        go_roundw
        case rel => exact ⟨k + 1, by omega, by go_num, by rw [HM.out]; exact L3, B3⟩
        case measure => simp [intOf]; omega
    · have hl2 : (n : Int) ≤ (k : Int) := by omega
      have hkn : k = n := by omega
      subst hkn
      clear h3
      go_wp2
      go_ret
      exact ⟨_, rfl, hL.out, hB.out⟩
end Go.Proofs.Ythnjppfgdkiaaac
