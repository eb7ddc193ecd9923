/-
  SetAddr, SetCfg of the reference.
-/
import Derived.Test.YtnnkeodiacdmaabPbx
namespace Go.Proofs.Ytnnkeodiacdmaab
set_option linter.unusedVariables false
open Go.ChangeShapes Go.WideShapes Go.ChangeAt Go.RowKit Go.Deep
theorem pcl_twice : ∀ x : BitVec 8, pcl (pcl x) = pcl x := by decide +kernel
theorem pad_twice (x : BitVec 64) : pad (pad x) = pad x := by unfold pad; rw [BitVec.and_assoc, BitVec.and_self]
theorem PC_twice (c : Nat → BitVec 8) : PC (PC c) = PC c := funext fun j => pcl_twice (c j)
theorem PA_twice (a : Nat → BitVec 64) : PA (PA a) = PA a := funext fun j => pad_twice (a j)
set_option maxRecDepth 100000 in
set_option maxHeartbeats 1000000 in
theorem rSetAddr_c (c : Nat → BitVec 8) (a : Nat → BitVec 64) (i : Int) (v : BitVec 64) (w : World) :
    Calls Try.prog 41 #[.agg (pc c a), .int .i64 i, .int .u64 (n64 v)] w fun e w' => e = .returned (.agg (pc (PC c) (sA (PC c) (PA a) i v))) ∧ Below w.heap.size w w' := by
  obtain ⟨W0, hW0, r0, r1, b0, s0⟩ := start2 w (pc c a) pz 27 27
  have HS : Hid (W0.heap.size = w.heap.size + 2) := s0
  clear s0
  obtain ⟨a', ha'⟩ : ∃ a', a' = sA (PC c) (PA a) i v := ⟨_, rfl⟩
  rw [← ha']
  have HA' : Hid (a' = sA (PC c) (PA a) i v) := ha'
  clear ha'
  have hca : Hid (∀ (W : World), Calls Try.prog 50 #[.agg (pc (PC c) (PA a)), .int .i64 i] W fun e w' => e = .returned (.tuple #[.bool (cL (PC c) i), .bool (aL (PC c) i)]) ∧ Below W.heap.size W w') := fun W => by
    have := rLocked_c (PC c) (PA a) i W
    rw [PC_twice] at this
    exact this
  generalize cL (PC c) i = q1 at hca
  go_enter Try.func41, Try.ntmps41
  go_upto_region 1 with fail
  rw [pc_zero, ← pz, hW0]
  clear hW0
  go_upto_region 2 with (first | (refine wpList_load_rowG (by rfl) _ _ (by rfl) _ (by rfl) 27 _ (0, 0) _ r0.out Try.underlying27 (by rfl) (by rw [pc_size]; kernel_rfl) ?_) | (go_at_call 28; refine (rProper_c c a _).mono ?_; rintro e w1 ⟨rfl, hb1⟩; have HB1 : Hid (Below W0.heap.size W0 w1) := hb1; clear hb1) | (refine wpList_store_row (by rfl) _ _ _ (by rfl) (by rfl) _ _ _ (by rfl) (by rfl) (r0.out.later HB1.out (by rw [HS.out]; omega)) (by rw [pc_size]; kernel_rfl) (by rw [pc_size, pc_size]) (pc_ones _ _) ?_))
  obtain ⟨W2, hW2, r2, b2, s2⟩ := start_p (pc (PC c) (PA a)) r0.out b0.out (by rw [HS.out]; omega) HB1.out
  have r3 : Hid (Row W2 (w.heap.size + 1) pz 27) := by rw [← hW2]; exact (setRow_other _ _ _ _ (by omega)).trans (r1.out.later HB1.out (by rw [HS.out]; omega))
  have HGL : Hid (w.heap.size + 2 ≤ W2.heap.size) := by rw [← hW2]; unfold Hid; rw [size_setRow]; have := HB1.out.size; rw [HS.out] at this; exact this
  rw [hW2]
  clear hW2 HB1 r0 b0 HS r1 s2
  cases hl : aL (PC c) i with
  | true =>
    rw [hl] at hca
    have e9 : a' = PA a := by rw [HA'.out, sA, if_pos hl]
    subst e9
    clear hl
    go_wp2_with (first | (refine wpList_load_rowG (by rfl) _ _ (by rfl) _ (by rfl) 27 _ (0, 0) _ r2.out Try.underlying27 (by rfl) (by rw [pc_size]; kernel_rfl) ?_) | (refine wpList_load_rowG (by rfl) _ _ (by rfl) _ (by rfl) 27 _ (0, 0) _ R4.out Try.underlying27 (by rfl) (by rw [pc_size]; kernel_rfl) ?_) | (go_at_call 50; refine (hca.out W2).mono ?_; rintro e w4 ⟨rfl, hb⟩; have HB4 : Hid (Below W2.heap.size W2 w4) := hb; have R4 : Hid (Row w4 w.heap.size (pc (PC c) (PA a)) 27) := r2.out.later hb (by have := HGL.out; omega); clear hb) | (refine wpList_store_row (by rfl) _ _ _ (by rfl) (by rfl) _ _ _ (by rfl) (by rfl) (r3.out.later HB4.out (by have := HGL.out; omega)) (by rw [pc_size]; kernel_rfl) (by rw [pc_size, pz_size]) (pc_ones _ _) ?_))
    have h9 : Row w4 (w.heap.size + 1) pz 27 := r3.out.later HB4.out (by have := HGL.out; omega)
    refine bodyPost_ret (v := .agg (pc (PC c) (PA a))) ?_ rfl ⟨rfl, ?_⟩
    · exact results_cell_row Try.results41 _ _ (w.heap.size + 1) 27 _ (0, 0) _ (by rfl) (setRow_heap _ _ _ _ _ _ h9) Try.underlying27 (by rfl) (by rw [pc_size]; kernel_rfl)
    · exact below_row (b2.out.trans (HB4.out.mono (by have := HGL.out; omega))) (by omega) _
  | false =>
    rw [hl] at hca
    obtain ⟨h0, h16⟩ := aL_false hl
    obtain ⟨k, rfl⟩ : ∃ k : Nat, i = k := ⟨i.toNat, by omega⟩
    have hk : k < 16 := by omega
    have e9 : a' = upd (PA a) k (pad v) := by rw [HA'.out, sA, if_neg (by rw [hl]; simp)]; rfl
    have HE9 : Hid (pc (PC c) a' = (pc (PC c) (PA a)).setIfInBounds (16 + k) (.int .u64 (n64 (pad v)))) := by rw [pc_addr _ _ _ _ hk, e9]; rfl
    clear hl h0 e9 HA'
    have hp := n64_pad v
    have HL : Hid (∀ W, Below W2.heap.size W2 W → Row W w.heap.size (pc (PC c) (PA a)) 27) := fun W hb => r2.out.later hb (by have := HGL.out; omega)
    go_upto_region 5 with (first | (refine wpList_load_rowG (by rfl) _ _ (by rfl) _ (by rfl) 27 _ (0, 0) _ r2.out Try.underlying27 (by rfl) (by rw [pc_size]; kernel_rfl) ?_) | (go_at_call 50; refine (hca.out W2).mono ?_; rintro e w4 ⟨rfl, hb⟩; have HB4 : Hid (Below W2.heap.size W2 w4) := hb; have r4 := HL.out w4 hb; have R4 : Hid (Row w4 w.heap.size (pc (PC c) (PA a)) 27) := r4; have c4 := prow_addr r4 k hk; have f4 := r4.froz (16 + k); clear hb r4))
    have R5 : Hid (Row (w4.setCell ⟨w.heap.size, 16 + k, none⟩ (.int .u64 (n64 (pad v)))) w.heap.size (pc (PC c) a') 27) := by rw [HE9.out]; exact Row.put R4.out _
    have R6 : Hid (Row (w4.setCell ⟨w.heap.size, 16 + k, none⟩ (.int .u64 (n64 (pad v)))) (w.heap.size + 1) pz 27) := Row.other (r3.out.later HB4.out (by have := HGL.out; omega)) (by omega) _
    have B6 : Hid (Below w.heap.size w (w4.setCell ⟨w.heap.size, 16 + k, none⟩ (.int .u64 (n64 (pad v))))) := below_put (b2.out.trans (HB4.out.mono (by have := HGL.out; omega))) (Nat.le_refl _) _
    generalize w4.setCell ⟨w.heap.size, 16 + k, none⟩ (.int .u64 (n64 (pad v))) = w6 at *
    go_wp2_with (first | (refine wpList_load_rowG (by rfl) _ _ (by rfl) _ (by rfl) 27 _ (0, 0) _ R5.out Try.underlying27 (by rfl) (by rw [pc_size]; kernel_rfl) ?_) | (refine wpList_store_row (by rfl) _ _ _ (by rfl) (by rfl) _ _ _ (by rfl) (by rfl) R6.out (by rw [pc_size]; kernel_rfl) (by rw [pc_size, pz_size]) (pc_ones _ _) ?_))
    refine bodyPost_ret (v := .agg (pc (PC c) a')) ?_ rfl ⟨rfl, ?_⟩
    · exact results_cell_row Try.results41 _ _ (w.heap.size + 1) 27 _ (0, 0) _ (by rfl) (setRow_heap _ _ _ _ _ _ R6.out) Try.underlying27 (by rfl) (by rw [pc_size]; kernel_rfl)
    · exact below_row B6.out (by omega) _
theorem sC0_start (c : Nat → BitVec 8) (v : BitVec 64) : upto 0 (sC c 0 v) c = c := sC_start c 0 v
theorem sC0_end (c : Nat → BitVec 8) (v : BitVec 64) : upto 8 (sC c 0 v) c = sC c 0 v := sC_end c 0 v
theorem sC0_locked (c : Nat → BitVec 8) (k : Nat) (v : BitVec 64) (h : lk (c k) = true) : upto (k + 1) (sC c 0 v) c = upto k (sC c 0 v) c := by
  have := sC_locked c 0 k v (by rw [Nat.zero_add]; exact h)
  simpa only [Nat.zero_add] using this
theorem sC0_open (c : Nat → BitVec 8) (k : Nat) (hk : k < 8) (v : BitVec 64) (h : lk (c k) = false) : upd (upto k (sC c 0 v) c) k (pcl (bty v k)) = upto (k + 1) (sC c 0 v) c := by
  have := sC_open c 0 k hk v (by rw [Nat.zero_add]; exact h)
  simpa only [Nat.zero_add] using this
theorem sC8_start (c : Nat → BitVec 8) (v : BitVec 64) : upto (8 + 0) (sC c 8 v) c = c := sC_start c 8 v
theorem sC8_end (c : Nat → BitVec 8) (v : BitVec 64) : upto (8 + 8) (sC c 8 v) c = sC c 8 v := sC_end c 8 v
theorem sC8_locked (c : Nat → BitVec 8) (k : Nat) (v : BitVec 64) (h : lk (c (8 + k)) = true) : upto (8 + (k + 1)) (sC c 8 v) c = upto (8 + k) (sC c 8 v) c := sC_locked c 8 k v h
theorem sC8_open (c : Nat → BitVec 8) (k : Nat) (hk : k < 8) (v : BitVec 64) (h : lk (c (8 + k)) = false) : upd (upto (8 + k) (sC c 8 v) c) (8 + k) (pcl (bty v k)) = upto (8 + (k + 1)) (sC c 8 v) c := sC_open c 8 k hk v h
set_option maxRecDepth 100000 in
set_option maxHeartbeats 1000000 in
theorem rSetCfg_none (c : Nat → BitVec 8) (a : Nat → BitVec 64) (i : Int) (v : BitVec 64) (h0 : ¬ i = 0) (h2 : ¬ i = 2) (w : World) :
    Calls Try.prog 40 #[.agg (pc c a), .int .i64 i, .int .u64 (n64 v)] w fun e w' => e = .returned (.agg (pc (PC c) (PA a))) ∧ Below w.heap.size w w' := by
  obtain ⟨W0, hW0, r0, r1, b0, s0⟩ := start2 w (pc c a) pz 27 27
  have HS : Hid (W0.heap.size = w.heap.size + 2) := s0
  clear s0
  have n0 : (i != 0) = true := by simpa using h0
  have n2 : (i != 2) = true := by simpa using h2
  clear h0 h2
  go_enter Try.func40, Try.ntmps40
  go_upto_region 1 with fail
  rw [pc_zero, ← pz, hW0]
  clear hW0
  go_upto_region 2 with (first | (refine wpList_load_rowG (by rfl) _ _ (by rfl) _ (by rfl) 27 _ (0, 0) _ r0.out Try.underlying27 (by rfl) (by rw [pc_size]; kernel_rfl) ?_) | (go_at_call 28; refine (rProper_c c a _).mono ?_; rintro e w1 ⟨rfl, hb1⟩; have HB1 : Hid (Below W0.heap.size W0 w1) := hb1; clear hb1) | (refine wpList_store_row (by rfl) _ _ _ (by rfl) (by rfl) _ _ _ (by rfl) (by rfl) (r0.out.later HB1.out (by rw [HS.out]; omega)) (by rw [pc_size]; kernel_rfl) (by rw [pc_size, pc_size]) (pc_ones _ _) ?_))
  obtain ⟨W2, hW2, r2, b2, s2⟩ := start_p (pc (PC c) (PA a)) r0.out b0.out (by rw [HS.out]; omega) HB1.out
  have r3 : Hid (Row W2 (w.heap.size + 1) pz 27) := by rw [← hW2]; exact (setRow_other _ _ _ _ (by omega)).trans (r1.out.later HB1.out (by rw [HS.out]; omega))
  have HGL : Hid (w.heap.size + 2 ≤ W2.heap.size) := by rw [← hW2]; unfold Hid; rw [size_setRow]; have := HB1.out.size; rw [HS.out] at this; exact this
  rw [hW2]
  clear hW2 HB1 r0 b0 HS r1 s2
  go_wp2_with (first | (refine wpList_load_rowG (by rfl) _ _ (by rfl) _ (by rfl) 27 _ (0, 0) _ r2.out Try.underlying27 (by rfl) (by rw [pc_size]; kernel_rfl) ?_) | (refine wpList_store_row (by rfl) _ _ _ (by rfl) (by rfl) _ _ _ (by rfl) (by rfl) r3.out (by rw [pc_size]; kernel_rfl) (by rw [pc_size, pz_size]) (pc_ones _ _) ?_))
  refine bodyPost_ret (v := .agg (pc (PC c) (PA a))) ?_ rfl ⟨rfl, ?_⟩
  · exact results_cell_row Try.results40 _ _ (w.heap.size + 1) 27 _ (0, 0) _ (by rfl) (setRow_heap _ _ _ _ _ _ r3.out) Try.underlying27 (by rfl) (by rw [pc_size]; kernel_rfl)
  · exact below_row b2.out (by omega) _
set_option maxRecDepth 100000 in
set_option maxHeartbeats 1000000 in
theorem rSetCfg_0 (c : Nat → BitVec 8) (a : Nat → BitVec 64) (v : BitVec 64) (w : World) :
    Calls Try.prog 40 #[.agg (pc c a), .int .i64 0, .int .u64 (n64 v)] w fun e w' => e = .returned (.agg (pc (sC (PC c) 0 v) (PA a))) ∧ Below w.heap.size w w' := by
  obtain ⟨W0, hW0, r0, r1, b0, s0⟩ := start2 w (pc c a) pz 27 27
  have HS : Hid (W0.heap.size = w.heap.size + 2) := s0
  clear s0
  go_enter Try.func40, Try.ntmps40
  go_upto_region 1 with fail
  rw [pc_zero, ← pz, hW0]
  clear hW0
  go_upto_region 2 with (first | (refine wpList_load_rowG (by rfl) _ _ (by rfl) _ (by rfl) 27 _ (0, 0) _ r0.out Try.underlying27 (by rfl) (by rw [pc_size]; kernel_rfl) ?_) | (go_at_call 28; refine (rProper_c c a _).mono ?_; rintro e w1 ⟨rfl, hb1⟩; have HB1 : Hid (Below W0.heap.size W0 w1) := hb1; clear hb1) | (refine wpList_store_row (by rfl) _ _ _ (by rfl) (by rfl) _ _ _ (by rfl) (by rfl) (r0.out.later HB1.out (by rw [HS.out]; omega)) (by rw [pc_size]; kernel_rfl) (by rw [pc_size, pc_size]) (pc_ones _ _) ?_))
  obtain ⟨W2, hW2, r2, b2, s2⟩ := start_p (pc (PC c) (PA a)) r0.out b0.out (by rw [HS.out]; omega) HB1.out
  have r3 : Hid (Row W2 (w.heap.size + 1) pz 27) := by rw [← hW2]; exact (setRow_other _ _ _ _ (by omega)).trans (r1.out.later HB1.out (by rw [HS.out]; omega))
  have HGL : Hid (w.heap.size + 2 ≤ W2.heap.size) := by rw [← hW2]; unfold Hid; rw [size_setRow]; have := HB1.out.size; rw [HS.out] at this; exact this
  rw [hW2]
  clear hW2 HB1 r0 b0 HS r1 s2
  go_upto_region 5 with (first | (refine wpList_load_rowG (by rfl) _ _ (by rfl) _ (by rfl) 27 _ (0, 0) _ r2.out Try.underlying27 (by rfl) (by rw [pc_size]; kernel_rfl) ?_) | (refine wpList_store_new (by rfl) _ _ _ (by rfl) (by rfl) _ _ (by rfl) (by rfl) (by rw [pc_size]; kernel_rfl) (by rw [pc_size]; rfl) (pc_ones _ _) ?_))
  have q2 : Hid (Row (W2.alloc (.cells (pc (PC c) (PA a)) 27)) w.heap.size (pc (PC c) (PA a)) 27) := r2.out.old (by have := HGL.out; omega) _
  have q3 : Hid (Row (W2.alloc (.cells (pc (PC c) (PA a)) 27)) (w.heap.size + 1) pz 27) := r3.out.old (by have := HGL.out; omega) _
  have q4 : Hid (Row (W2.alloc (.cells (pc (PC c) (PA a)) 27)) W2.heap.size (pc (PC c) (PA a)) 27) := Row.new _ _ _
  have q5 : Hid (Below w.heap.size w (W2.alloc (.cells (pc (PC c) (PA a)) 27))) := b2.out.alloc b2.out.size _
  generalize W2.alloc (.cells (pc (PC c) (PA a)) 27) = W4 at *
  generalize W2.heap.size = g at *
  clear r2 r3 b2
  go_wp2
  go_loopw [8] (fun i wr => ∃ k : Nat, k ≤ 8 ∧ i = .int .i64 k ∧ Hid (Row wr w.heap.size (pc (PC c) (PA a)) 27) ∧ Hid (Row wr (w.heap.size + 1) pz 27) ∧ Hid (Row wr g (pc (upto k (sC (PC c) 0 v) (PC c)) (PA a)) 27) ∧ Hid (Below w.heap.size w wr)) (fun i _ => 8 - (intOf i).toNat)
  case atStart => exact ⟨0, by omega, rfl, q2, q3, by rw [sC0_start]; exact q4, q5⟩
  case round =>
    clear q2 q3 q4 q5
    obtain ⟨k, hk, rfl, h0, h1, h2, hb⟩ := hrel
    have HG := HGL.out
    by_cases hlt : k < 8
    · have hlt2 : (k : Int) < 8 := by omega
      have hfn : k < 16 := by omega
      have hlg := h2.out.lt
      have eL : cL (PC c) (k : Int) = lk (PC c k) := cL_in (PC c) k hfn
      have hc := rLocked_c (PC c) (PA a) (k : Int) wr
      rw [PC_twice, eL] at hc
      clear eL
      generalize aL (PC c) (k : Int) = z9 at hc
      have hpp : ∀ W, Calls Try.prog 42 #[.int .u8 (n8 (bty v k))] W fun e w' => e = .returned (.int .u8 (n8 (pcl (bty v k)))) ∧ w' = W := fun W => cleaned_c _ W
      have HPP : Hid (∀ W, Calls Try.prog 42 #[.int .u8 (n8 (bty v k))] W fun e w' => e = .returned (.int .u8 (n8 (pcl (bty v k)))) ∧ w' = W) := hpp
      clear hpp
      cases hl : lk (PC c k) with
      | true =>
        rw [hl] at hc
        have HC : Hid (Calls Try.prog 50 #[.agg (pc (PC c) (PA a)), .int .i64 (k : Int)] wr fun e w' => e = .returned (.tuple #[.bool true, .bool z9]) ∧ Below wr.heap.size wr w') := hc
        have HE : Hid (upto (k + 1) (sC (PC c) 0 v) (PC c) = upto k (sC (PC c) 0 v) (PC c)) := sC0_locked _ _ _ hl
        clear hc hl
        go_wp2_with (first | (refine wpList_load_rowG (by rfl) _ _ (by rfl) _ (by rfl) 27 _ (0, 0) _ h0.out Try.underlying27 (by rfl) (by rw [pc_size]; kernel_rfl) ?_) | (go_at_call 50; refine HC.out.mono ?_; rintro e w4 ⟨rfl, hb4⟩; have HB4 : Hid (Below wr.heap.size wr w4) := hb4; clear hb4))
        go_roundw
        case rel =>
          exact ⟨k + 1, by omega, by go_num, h0.out.later HB4.out (by omega), h1.out.later HB4.out (by omega), by rw [HE.out]; exact h2.out.later HB4.out hlg, hb.out.trans (HB4.out.mono hb.out.size)⟩
        case measure => simp [intOf]; omega
      | false =>
        rw [hl] at hc
        have HC : Hid (Calls Try.prog 50 #[.agg (pc (PC c) (PA a)), .int .i64 (k : Int)] wr fun e w' => e = .returned (.tuple #[.bool false, .bool z9]) ∧ Below wr.heap.size wr w') := hc
        have HE : Hid (upd (upto k (sC (PC c) 0 v) (PC c)) k (pcl (bty v k)) = upto (k + 1) (sC (PC c) 0 v) (PC c)) := sC0_open _ _ hlt _ hl
        clear hc hl
        have hby := bty_int v k
        go_wp2_with (first | (refine wpList_load_rowG (by rfl) _ _ (by rfl) _ (by rfl) 27 _ (0, 0) _ h0.out Try.underlying27 (by rfl) (by rw [pc_size]; kernel_rfl) ?_) | (go_at_call 50; refine HC.out.mono ?_; rintro e w4 ⟨rfl, hb4⟩; have HB4 : Hid (Below wr.heap.size wr w4) := hb4; have r4 := h2.out.later hb4 hlg; have R4 : Hid (Row w4 g (pc (upto k (sC (PC c) 0 v) (PC c)) (PA a)) 27) := r4; have c4 := prow_cfg r4 k hfn; have f4 := r4.froz k; clear hb4 r4) | (go_at_call 42; refine (HPP.out _).mono ?_; rintro e w9 ⟨rfl, hw⟩; have hw2 := hw.symm; subst hw2))
        go_roundw
        case rel =>
          refine ⟨k + 1, by omega, by go_num, ?_, ?_, ?_, ?_⟩
          · exact Row.other (h0.out.later HB4.out (by omega)) (by omega) _
          · exact Row.other (h1.out.later HB4.out (by omega)) (by omega) _
          · have h := Row.put (i := k) R4.out (.int .u8 (n8 (pcl (bty v k))))
            rw [pc_cfg _ _ _ _ hfn, HE.out] at h
            exact h
          · exact below_put (hb.out.trans (HB4.out.mono hb.out.size)) (by omega) _
        case measure => simp [intOf]; omega
    · obtain rfl : k = 8 := by omega
      have e8 : ((8 : Nat) : Int) = 8 := rfl
      rw [e8]
      clear hk hlt e8
      rw [sC0_end] at h2
      go_wp2_with (first | (refine wpList_load_rowG (by rfl) _ _ (by rfl) _ (by rfl) 27 _ (0, 0) _ h2.out Try.underlying27 (by rfl) (by rw [pc_size]; kernel_rfl) ?_) | (refine wpList_store_row (by rfl) _ _ _ (by rfl) (by rfl) _ _ _ (by rfl) (by rfl) h1.out (by rw [pc_size]; kernel_rfl) (by rw [pc_size, pz_size]) (pc_ones _ _) ?_))
      refine bodyPost_ret (v := .agg (pc (sC (PC c) 0 v) (PA a))) ?_ rfl ⟨rfl, ?_⟩
      · exact results_cell_row Try.results40 _ _ (w.heap.size + 1) 27 _ (0, 0) _ (by rfl) (setRow_heap _ _ _ _ _ _ h1.out) Try.underlying27 (by rfl) (by rw [pc_size]; kernel_rfl)
      · exact below_row hb.out (by omega) _
set_option maxRecDepth 100000 in
set_option maxHeartbeats 1000000 in
theorem rSetCfg_2 (c : Nat → BitVec 8) (a : Nat → BitVec 64) (v : BitVec 64) (w : World) :
    Calls Try.prog 40 #[.agg (pc c a), .int .i64 2, .int .u64 (n64 v)] w fun e w' => e = .returned (.agg (pc (sC (PC c) 8 v) (PA a))) ∧ Below w.heap.size w w' := by
  obtain ⟨W0, hW0, r0, r1, b0, s0⟩ := start2 w (pc c a) pz 27 27
  have HS : Hid (W0.heap.size = w.heap.size + 2) := s0
  clear s0
  go_enter Try.func40, Try.ntmps40
  go_upto_region 1 with fail
  rw [pc_zero, ← pz, hW0]
  clear hW0
  go_upto_region 2 with (first | (refine wpList_load_rowG (by rfl) _ _ (by rfl) _ (by rfl) 27 _ (0, 0) _ r0.out Try.underlying27 (by rfl) (by rw [pc_size]; kernel_rfl) ?_) | (go_at_call 28; refine (rProper_c c a _).mono ?_; rintro e w1 ⟨rfl, hb1⟩; have HB1 : Hid (Below W0.heap.size W0 w1) := hb1; clear hb1) | (refine wpList_store_row (by rfl) _ _ _ (by rfl) (by rfl) _ _ _ (by rfl) (by rfl) (r0.out.later HB1.out (by rw [HS.out]; omega)) (by rw [pc_size]; kernel_rfl) (by rw [pc_size, pc_size]) (pc_ones _ _) ?_))
  obtain ⟨W2, hW2, r2, b2, s2⟩ := start_p (pc (PC c) (PA a)) r0.out b0.out (by rw [HS.out]; omega) HB1.out
  have r3 : Hid (Row W2 (w.heap.size + 1) pz 27) := by rw [← hW2]; exact (setRow_other _ _ _ _ (by omega)).trans (r1.out.later HB1.out (by rw [HS.out]; omega))
  have HGL : Hid (w.heap.size + 2 ≤ W2.heap.size) := by rw [← hW2]; unfold Hid; rw [size_setRow]; have := HB1.out.size; rw [HS.out] at this; exact this
  rw [hW2]
  clear hW2 HB1 r0 b0 HS r1 s2
  go_upto_region 5 with (first | (refine wpList_load_rowG (by rfl) _ _ (by rfl) _ (by rfl) 27 _ (0, 0) _ r2.out Try.underlying27 (by rfl) (by rw [pc_size]; kernel_rfl) ?_) | (refine wpList_store_new (by rfl) _ _ _ (by rfl) (by rfl) _ _ (by rfl) (by rfl) (by rw [pc_size]; kernel_rfl) (by rw [pc_size]; rfl) (pc_ones _ _) ?_))
  have q2 : Hid (Row (W2.alloc (.cells (pc (PC c) (PA a)) 27)) w.heap.size (pc (PC c) (PA a)) 27) := r2.out.old (by have := HGL.out; omega) _
  have q3 : Hid (Row (W2.alloc (.cells (pc (PC c) (PA a)) 27)) (w.heap.size + 1) pz 27) := r3.out.old (by have := HGL.out; omega) _
  have q4 : Hid (Row (W2.alloc (.cells (pc (PC c) (PA a)) 27)) W2.heap.size (pc (PC c) (PA a)) 27) := Row.new _ _ _
  have q5 : Hid (Below w.heap.size w (W2.alloc (.cells (pc (PC c) (PA a)) 27))) := b2.out.alloc b2.out.size _
  generalize W2.alloc (.cells (pc (PC c) (PA a)) 27) = W4 at *
  generalize W2.heap.size = g at *
  clear r2 r3 b2
  go_wp2
  go_loopw [8] (fun i wr => ∃ k : Nat, k ≤ 8 ∧ i = .int .i64 k ∧ Hid (Row wr w.heap.size (pc (PC c) (PA a)) 27) ∧ Hid (Row wr (w.heap.size + 1) pz 27) ∧ Hid (Row wr g (pc (upto (8 + k) (sC (PC c) 8 v) (PC c)) (PA a)) 27) ∧ Hid (Below w.heap.size w wr)) (fun i _ => 8 - (intOf i).toNat)
  case atStart => exact ⟨0, by omega, rfl, q2, q3, by rw [sC8_start]; exact q4, q5⟩
  case round =>
    clear q2 q3 q4 q5
    obtain ⟨k, hk, rfl, h0, h1, h2, hb⟩ := hrel
    have HG := HGL.out
    by_cases hlt : k < 8
    · have hlt2 : (k : Int) < 8 := by omega
      have hfn : (8 + k) < 16 := by omega
      have hlg := h2.out.lt
      have eL : cL (PC c) (8 + (k : Int)) = lk (PC c (8 + k)) := cL_in (PC c) (8 + k) hfn
      have hc := rLocked_c (PC c) (PA a) (8 + (k : Int)) wr
      rw [PC_twice, eL] at hc
      clear eL
      generalize aL (PC c) (8 + (k : Int)) = z9 at hc
      have hpp : ∀ W, Calls Try.prog 42 #[.int .u8 (n8 (bty v k))] W fun e w' => e = .returned (.int .u8 (n8 (pcl (bty v k)))) ∧ w' = W := fun W => cleaned_c _ W
      have HPP : Hid (∀ W, Calls Try.prog 42 #[.int .u8 (n8 (bty v k))] W fun e w' => e = .returned (.int .u8 (n8 (pcl (bty v k)))) ∧ w' = W) := hpp
      clear hpp
      cases hl : lk (PC c (8 + k)) with
      | true =>
        rw [hl] at hc
        have HC : Hid (Calls Try.prog 50 #[.agg (pc (PC c) (PA a)), .int .i64 (8 + (k : Int))] wr fun e w' => e = .returned (.tuple #[.bool true, .bool z9]) ∧ Below wr.heap.size wr w') := hc
        have HE : Hid (upto (8 + (k + 1)) (sC (PC c) 8 v) (PC c) = upto (8 + k) (sC (PC c) 8 v) (PC c)) := sC8_locked _ _ _ hl
        clear hc hl
        go_wp2_with (first | (refine wpList_load_rowG (by rfl) _ _ (by rfl) _ (by rfl) 27 _ (0, 0) _ h0.out Try.underlying27 (by rfl) (by rw [pc_size]; kernel_rfl) ?_) | (go_at_call 50; refine HC.out.mono ?_; rintro e w4 ⟨rfl, hb4⟩; have HB4 : Hid (Below wr.heap.size wr w4) := hb4; clear hb4))
        go_roundw
        case rel =>
          exact ⟨k + 1, by omega, by go_num, h0.out.later HB4.out (by omega), h1.out.later HB4.out (by omega), by rw [HE.out]; exact h2.out.later HB4.out hlg, hb.out.trans (HB4.out.mono hb.out.size)⟩
        case measure => simp [intOf]; omega
      | false =>
        rw [hl] at hc
        have HC : Hid (Calls Try.prog 50 #[.agg (pc (PC c) (PA a)), .int .i64 (8 + (k : Int))] wr fun e w' => e = .returned (.tuple #[.bool false, .bool z9]) ∧ Below wr.heap.size wr w') := hc
        have HE : Hid (upd (upto (8 + k) (sC (PC c) 8 v) (PC c)) (8 + k) (pcl (bty v k)) = upto (8 + (k + 1)) (sC (PC c) 8 v) (PC c)) := sC8_open _ _ hlt _ hl
        clear hc hl
        have hby := bty_int v k
        go_wp2_with (first | (refine wpList_load_rowG (by rfl) _ _ (by rfl) _ (by rfl) 27 _ (0, 0) _ h0.out Try.underlying27 (by rfl) (by rw [pc_size]; kernel_rfl) ?_) | (go_at_call 50; refine HC.out.mono ?_; rintro e w4 ⟨rfl, hb4⟩; have HB4 : Hid (Below wr.heap.size wr w4) := hb4; have r4 := h2.out.later hb4 hlg; have R4 : Hid (Row w4 g (pc (upto (8 + k) (sC (PC c) 8 v) (PC c)) (PA a)) 27) := r4; have c4 := prow_cfg r4 (8 + k) hfn; have f4 := r4.froz (8 + k); clear hb4 r4) | (go_at_call 42; refine (HPP.out _).mono ?_; rintro e w9 ⟨rfl, hw⟩; have hw2 := hw.symm; subst hw2))
        go_roundw
        case rel =>
          refine ⟨k + 1, by omega, by go_num, ?_, ?_, ?_, ?_⟩
          · exact Row.other (h0.out.later HB4.out (by omega)) (by omega) _
          · exact Row.other (h1.out.later HB4.out (by omega)) (by omega) _
          · have h := Row.put (i := (8 + k)) R4.out (.int .u8 (n8 (pcl (bty v k))))
            rw [pc_cfg _ _ _ _ hfn, HE.out] at h
            exact h
          · exact below_put (hb.out.trans (HB4.out.mono hb.out.size)) (by omega) _
        case measure => simp [intOf]; omega
    · obtain rfl : k = 8 := by omega
      have e8 : ((8 : Nat) : Int) = 8 := rfl
      rw [e8]
      clear hk hlt e8
      rw [sC8_end] at h2
      go_wp2_with (first | (refine wpList_load_rowG (by rfl) _ _ (by rfl) _ (by rfl) 27 _ (0, 0) _ h2.out Try.underlying27 (by rfl) (by rw [pc_size]; kernel_rfl) ?_) | (refine wpList_store_row (by rfl) _ _ _ (by rfl) (by rfl) _ _ _ (by rfl) (by rfl) h1.out (by rw [pc_size]; kernel_rfl) (by rw [pc_size, pz_size]) (pc_ones _ _) ?_))
      refine bodyPost_ret (v := .agg (pc (sC (PC c) 8 v) (PA a))) ?_ rfl ⟨rfl, ?_⟩
      · exact results_cell_row Try.results40 _ _ (w.heap.size + 1) 27 _ (0, 0) _ (by rfl) (setRow_heap _ _ _ _ _ _ h1.out) Try.underlying27 (by rfl) (by rw [pc_size]; kernel_rfl)
      · exact below_row hb.out (by omega) _
theorem rSetCfg_c (c : Nat → BitVec 8) (a : Nat → BitVec 64) (i : Int) (v : BitVec 64) (w : World) :
    Calls Try.prog 40 #[.agg (pc c a), .int .i64 i, .int .u64 (n64 v)] w fun e w' => e = .returned (.agg (pc (sR (PC c) i v) (PA a))) ∧ Below w.heap.size w w' := by
  by_cases h0 : i = 0
  · subst h0; rw [sR, if_pos rfl]; exact rSetCfg_0 c a v w
  · by_cases h2 : i = 2
    · subst h2; rw [sR, if_neg h0, if_pos rfl]; exact rSetCfg_2 c a v w
    · rw [sR, if_neg h0, if_neg h2]; exact rSetCfg_none c a i v h0 h2 w
end Go.Proofs.Ytnnkeodiacdmaab
