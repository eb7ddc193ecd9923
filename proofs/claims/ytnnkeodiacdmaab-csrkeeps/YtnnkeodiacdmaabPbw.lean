/-
  SetAddr, SetCfg of the program and of the reference.
-/
import Derived.Test.YtnnkeodiacdmaabPbm
namespace Go.Proofs.Ytnnkeodiacdmaab
set_option linter.unusedVariables false
open Go.ChangeShapes Go.WideShapes Go.ChangeAt Go.RowKit Go.Deep
/-- What SetAddr leaves of Addr. -/
def sA (c : Nat → BitVec 8) (a : Nat → BitVec 64) (i : Int) (v : BitVec 64) : Nat → BitVec 64 := if aL c i then a else upd a i.toNat (pad v)
theorem aL_false {c : Nat → BitVec 8} {i : Int} (h : aL c i = false) : 0 ≤ i ∧ i < 16 := by
  by_cases hi : 0 ≤ i ∧ i < 16
  · exact hi
  · rw [aL_out _ _ hi] at h; cases h
theorem cL_false {c : Nat → BitVec 8} {i : Int} (h : cL c i = false) : 0 ≤ i ∧ i < 16 := by
  by_cases hi : 0 ≤ i ∧ i < 16
  · exact hi
  · rw [cL_out _ _ hi] at h; cases h
set_option maxRecDepth 100000 in
set_option maxHeartbeats 1000000 in
theorem SetAddr_c (c : Nat → BitVec 8) (a : Nat → BitVec 64) (i : Int) (v : BitVec 64) (w : World) :
    Calls Try.prog 66 #[.agg (pc c a), .int .i64 i, .int .u64 (n64 v)] w fun e w' => e = .returned (.agg (pc (PC c) (sA (PC c) (PA a) i v))) ∧ Below w.heap.size w w' := by
  obtain ⟨W0, hW0, r0, r1, b0, s0⟩ := start2 w (pc c a) pz 27 27
  have HS : Hid (W0.heap.size = w.heap.size + 2) := s0
  clear s0
  obtain ⟨a', ha'⟩ : ∃ a', a' = sA (PC c) (PA a) i v := ⟨_, rfl⟩
  rw [← ha']
  have HA' : Hid (a' = sA (PC c) (PA a) i v) := ha'
  clear ha'
  have hca : Hid (∀ (g : Nat) (W : World), Row W g (ec (PC c) (PA a)) 70 → Calls Try.prog 69 #[.pointer (some ⟨g, 0, none⟩), .int .i64 i] W fun e w' => e = .returned (.bool (aL (PC c) i)) ∧ Below W.heap.size W w') := fun g W h => addrLocked_c _ _ g i W h
  go_enter Try.func66, Try.ntmps66
  go_upto_region 1 with fail
  rw [pc_zero, ← pz, hW0]
  clear hW0
  go_upto_region 2 with (first | (refine wpList_load_rowG (by rfl) _ _ (by rfl) _ (by rfl) 27 _ (0, 0) _ r0.out Try.underlying27 (by rfl) (by rw [pc_size]; kernel_rfl) ?_) | (go_at_call 30; refine (of_p c a _).mono ?_; rintro e w1 ⟨rfl, hb1⟩; have HB1 : Hid (Below W0.heap.size W0 w1) := hb1; clear hb1) | (refine wpList_store_new (by rfl) _ _ _ (by rfl) (by rfl) _ _ (by rfl) (by rfl) (by rw [ec_size]; kernel_rfl) (by rw [ec_size]; rfl) (ec_ones _ _) ?_))
  obtain ⟨W2, hW2, r2, b2, s2⟩ := start1 w1 (ec (PC c) (PA a)) 70
  rw [hW2]
  have t1 : Below w.heap.size w w1 := b0.out.trans (HB1.out.mono (by rw [HS.out]; omega))
  have hgs : w.heap.size + 2 ≤ w1.heap.size := by have := HB1.out.size; rw [HS.out] at this; exact this
  have b3 : Hid (Below w.heap.size w W2) := t1.trans (b2.out.mono t1.size)
  have r3 : Hid (Row W2 (w.heap.size + 1) pz 27) := (r1.out.later HB1.out (by rw [HS.out]; omega)).later b2.out (by omega)
  have HGL : Hid (w.heap.size + 2 ≤ w1.heap.size ∧ W2.heap.size = w1.heap.size + 1) := ⟨hgs, s2⟩
  clear t1 s2 b2 hW2 HB1 r0 b0 HS r1 hgs
  generalize w1.heap.size = g at *
  cases hl : aL (PC c) i with
  | true =>
    rw [hl] at hca
    have e9 : a' = PA a := by rw [HA'.out, sA, if_pos hl]
    subst e9
    clear hl
    go_wp2_with (first | (go_at_call 69; refine (hca.out g W2 r2.out).mono ?_; rintro e w4 ⟨rfl, hb⟩; have HB4 : Hid (Below W2.heap.size W2 w4) := hb; clear hb) | (go_at_call 31; refine (told_c (PC c) (PA a) g w4 (r2.out.later HB4.out (by have := HGL.out.1; rw [HGL.out.2]; omega))).mono ?_; rintro e w5 ⟨rfl, hb⟩; have HB5 : Hid (Below W2.heap.size W2 w5) := HB4.out.trans (hb.mono HB4.out.size); clear hb) | (refine wpList_store_row (by rfl) _ _ _ (by rfl) (by rfl) _ _ _ (by rfl) (by rfl) (r3.out.later HB5.out (by have := HGL.out.1; rw [HGL.out.2]; omega)) (by rw [pc_size]; kernel_rfl) (by rw [pc_size, pz_size]) (pc_ones _ _) ?_))
    have h9 : Row w5 (w.heap.size + 1) pz 27 := r3.out.later HB5.out (by have := HGL.out.1; rw [HGL.out.2]; omega)
    refine bodyPost_ret (v := .agg (pc (PC c) (PA a))) ?_ rfl ⟨rfl, ?_⟩
    · exact results_cell_row Try.results66 _ _ (w.heap.size + 1) 27 _ (0, 0) _ (by rfl) (setRow_heap _ _ _ _ _ _ h9) Try.underlying27 (by rfl) (by rw [pc_size]; kernel_rfl)
    · exact below_row (b3.out.trans (HB5.out.mono (by have := HGL.out.1; rw [HGL.out.2]; omega))) (by omega) _
  | false =>
    rw [hl] at hca
    obtain ⟨h0, h16⟩ := aL_false hl
    obtain ⟨k, rfl⟩ : ∃ k : Nat, i = k := ⟨i.toNat, by omega⟩
    have hk : k < 16 := by omega
    have e9 : a' = upd (PA a) k (pad v) := by rw [HA'.out, sA, if_neg (by rw [hl]; simp)]; rfl
    have HE9 : Hid (ec (PC c) a' = (ec (PC c) (PA a)).setIfInBounds (k * 2 + 1) (.int .u64 (n64 (pad v)))) := by rw [ec_addr _ _ _ _ hk, e9]; rfl
    clear hl h0 e9 HA'
    have hp := n64_pad v
    have HR : Hid (∀ W, Below W2.heap.size W2 W → Row W g (ec (PC c) (PA a)) 70) := fun W hb => r2.out.later hb (by rw [HGL.out.2]; omega)
    go_wp2_with (first | (go_at_call 69; refine (hca.out g W2 r2.out).mono ?_; rintro e w4 ⟨rfl, hb⟩; have HB4 : Hid (Below W2.heap.size W2 w4) := hb; have r4 := HR.out w4 hb; have R4 : Hid (Row w4 g (ec (PC c) (PA a)) 70) := r4; have c4 := row_addr r4 k hk; have f4 := r4.froz (k * 2 + 1); clear hb r4) | (go_at_call 31; refine (told_c (PC c) a' g _ (by rw [HE9.out]; exact Row.put R4.out _)).mono ?_; rintro e w5 ⟨rfl, hb⟩; have HB5 : Hid (Below g W2 w5) := (below_put (i := k * 2 + 1) (HB4.out.mono (by rw [HGL.out.2]; omega)) (Nat.le_refl g) (.int .u64 (n64 (pad v)))).trans (hb.mono (by have := HB4.out.size; rw [HGL.out.2] at this; simp [World.setCell]; omega)); clear hb) | (refine wpList_store_row (by rfl) _ _ _ (by rfl) (by rfl) _ _ _ (by rfl) (by rfl) (r3.out.later HB5.out (by have := HGL.out.1; omega)) (by rw [pc_size]; kernel_rfl) (by rw [pc_size, pz_size]) (pc_ones _ _) ?_))
    have h9 : Row w5 (w.heap.size + 1) pz 27 := r3.out.later HB5.out (by have := HGL.out.1; omega)
    refine bodyPost_ret (v := .agg (pc (PC c) a')) ?_ rfl ⟨rfl, ?_⟩
    · exact results_cell_row Try.results66 _ _ (w.heap.size + 1) 27 _ (0, 0) _ (by rfl) (setRow_heap _ _ _ _ _ _ h9) Try.underlying27 (by rfl) (by rw [pc_size]; kernel_rfl)
    · exact below_row (b3.out.trans (HB5.out.mono (by have := HGL.out.1; omega))) (by omega) _
end Go.Proofs.Ytnnkeodiacdmaab
