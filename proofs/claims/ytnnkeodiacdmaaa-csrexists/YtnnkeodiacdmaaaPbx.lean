/-
  SetCfg of the program.
-/
import Derived.Test.YtnnkeodiacdmaaaPbw
namespace Go.Proofs.Ytnnkeodiacdmaaa
set_option linter.unusedVariables false
open Go.ChangeShapes Go.WideShapes Go.ChangeAt Go.RowKit Go.Deep
/-- A byte of a word. -/
def bty (v : BitVec 64) (k : Nat) : BitVec 8 := (v >>> (8 * k)).setWidth 8
theorem bty_int (v : BitVec 64) (k : Nat) : IntKind.u8.wrap (n64 v / 2 ^ (8 * k)) = n8 (bty v k) := by
  rw [n64_shr, wrap_n8]
  congr 1
/-- What a write of the eight Cfg bytes from the one of number f on leaves. -/
def sC (c : Nat → BitVec 8) (f : Nat) (v : BitVec 64) : Nat → BitVec 8 := fun j => if f ≤ j ∧ j < f + 8 ∧ lk (c j) = false then pcl (bty v (j - f)) else c j
def sR (c : Nat → BitVec 8) (i : Int) (v : BitVec 64) : Nat → BitVec 8 := if i = 0 then sC c 0 v else if i = 2 then sC c 8 v else c
theorem sC_end (c : Nat → BitVec 8) (f : Nat) (v : BitVec 64) : upto (f + 8) (sC c f v) c = sC c f v := by
  funext j; unfold upto
  split
  · rfl
  · unfold sC; rw [if_neg (by omega)]
theorem sC_start (c : Nat → BitVec 8) (f : Nat) (v : BitVec 64) : upto (f + 0) (sC c f v) c = c := by
  funext j; unfold upto
  split
  · unfold sC; rw [if_neg (by omega)]
  · rfl
theorem sC_locked (c : Nat → BitVec 8) (f k : Nat) (v : BitVec 64) (h : lk (c (f + k)) = true) : upto (f + (k + 1)) (sC c f v) c = upto (f + k) (sC c f v) c := by
  funext j; unfold upto
  by_cases e : j = f + k
  · subst e
    rw [if_pos (by omega), if_neg (by omega), sC, if_neg (by rw [h]; simp)]
  · by_cases h1 : j < f + k
    · rw [if_pos (by omega), if_pos h1]
    · rw [if_neg (by omega), if_neg h1]
theorem sC_open (c : Nat → BitVec 8) (f k : Nat) (hk : k < 8) (v : BitVec 64) (h : lk (c (f + k)) = false) : upd (upto (f + k) (sC c f v) c) (f + k) (pcl (bty v k)) = upto (f + (k + 1)) (sC c f v) c := by
  have := upto_succ (f + k) (sC c f v) c
  rw [show f + (k + 1) = f + k + 1 by omega, ← this]
  congr 1
  rw [sC, if_pos ⟨by omega, by omega, h⟩, Nat.add_sub_cancel_left]
set_option maxRecDepth 100000 in
set_option maxHeartbeats 1000000 in
theorem SetCfg_none (c : Nat → BitVec 8) (a : Nat → BitVec 64) (i : Int) (v : BitVec 64) (h0 : ¬ i = 0) (h2 : ¬ i = 2) (w : World) :
    Calls Try.prog 57 #[.agg (pc c a), .int .i64 i, .int .u64 (n64 v)] w fun e w' => e = .returned (.agg (pc (PC c) (PA a))) ∧ Below w.heap.size w w' := by
  obtain ⟨W0, hW0, r0, r1, b0, s0⟩ := start2 w (pc c a) pz 27 27
  have HS : Hid (W0.heap.size = w.heap.size + 2) := s0
  clear s0
  have HF : Hid (∀ W, Calls Try.prog 59 #[.int .i64 i] W fun e w' => e = .returned (.tuple #[.int .i64 0, .bool false]) ∧ w' = W) := fun W => firstOf_n i h0 h2 W
  clear h0 h2
  go_enter Try.func57, Try.ntmps57
  go_upto_region 1 with fail
  rw [pc_zero, ← pz, hW0]
  clear hW0
  go_wp2_with (first | (refine wpList_load_rowG (by rfl) _ _ (by rfl) _ (by rfl) 27 _ (0, 0) _ r0.out Try.underlying27 (by rfl) (by rw [pc_size]; kernel_rfl) ?_) | (go_at_call 28; refine (of_p c a _).mono ?_; rintro e w1 ⟨rfl, hb1⟩; have HB1 : Hid (Below W0.heap.size W0 w1) := hb1; clear hb1) | (go_at_call 59; refine (HF.out _).mono ?_; rintro e w9 ⟨rfl, hw⟩; have hw2 := hw.symm; subst hw2) | (go_at_call 29; refine (told_c (PC c) (PA a) _ _ (Row.new _ _ _)).mono ?_; rintro e w2 ⟨rfl, hb2⟩; have HB2 : Hid (Below w1.heap.size w1 w2) := (Below.alloc (Below.refl _ _) (Nat.le_refl _) _).trans (hb2.mono (by simp)); clear hb2) | (refine wpList_store_row (by rfl) _ _ _ (by rfl) (by rfl) _ _ _ (by rfl) (by rfl) ((r1.out.later HB1.out (by rw [HS.out]; omega)).later HB2.out (Nat.lt_of_lt_of_le (by rw [HS.out]; omega) HB1.out.size)) (by rw [pc_size]; kernel_rfl) (by rw [pc_size, pz_size]) (pc_ones _ _) ?_) | (refine wpList_store_new (by rfl) _ _ _ (by rfl) (by rfl) _ _ (by rfl) (by rfl) (by rw [ec_size]; kernel_rfl) (by rw [ec_size]; rfl) (ec_ones _ _) ?_))
  have h9 : Row w2 (w.heap.size + 1) pz 27 := (r1.out.later HB1.out (by rw [HS.out]; omega)).later HB2.out (Nat.lt_of_lt_of_le (by rw [HS.out]; omega) HB1.out.size)
  refine bodyPost_ret (v := .agg (pc (PC c) (PA a))) ?_ rfl ⟨rfl, ?_⟩
  · exact results_cell_row Try.results57 _ _ (w.heap.size + 1) 27 _ (0, 0) _ (by rfl) (setRow_heap _ _ _ _ _ _ h9) Try.underlying27 (by rfl) (by rw [pc_size]; kernel_rfl)
  · exact below_row ((b0.out.trans (HB1.out.mono (by rw [HS.out]; omega))).trans (HB2.out.mono (Nat.le_trans (by rw [HS.out]; omega) HB1.out.size))) (by omega) _
set_option maxRecDepth 100000 in
set_option maxHeartbeats 1000000 in
theorem SetCfg_at (c : Nat → BitVec 8) (a : Nat → BitVec 64) (i : Int) (v : BitVec 64) (f : Nat) (hf : f ≤ 8) (hF : ∀ W, Calls Try.prog 59 #[.int .i64 i] W fun e w' => e = .returned (.tuple #[.int .i64 f, .bool true]) ∧ w' = W) (w : World) :
    Calls Try.prog 57 #[.agg (pc c a), .int .i64 i, .int .u64 (n64 v)] w fun e w' => e = .returned (.agg (pc (sC (PC c) f v) (PA a))) ∧ Below w.heap.size w w' := by
  obtain ⟨W0, hW0, r0, r1, b0, s0⟩ := start2 w (pc c a) pz 27 27
  have HS : Hid (W0.heap.size = w.heap.size + 2) := s0
  clear s0
  have HF : Hid (∀ W, Calls Try.prog 59 #[.int .i64 i] W fun e w' => e = .returned (.tuple #[.int .i64 f, .bool true]) ∧ w' = W) := hF
  clear hF
  go_enter Try.func57, Try.ntmps57
  go_upto_region 1 with fail
  rw [pc_zero, ← pz, hW0]
  clear hW0
  go_upto_region 2 with (first | (refine wpList_load_rowG (by rfl) _ _ (by rfl) _ (by rfl) 27 _ (0, 0) _ r0.out Try.underlying27 (by rfl) (by rw [pc_size]; kernel_rfl) ?_) | (go_at_call 28; refine (of_p c a _).mono ?_; rintro e w1 ⟨rfl, hb1⟩; have HB1 : Hid (Below W0.heap.size W0 w1) := hb1; clear hb1) | (refine wpList_store_new (by rfl) _ _ _ (by rfl) (by rfl) _ _ (by rfl) (by rfl) (by rw [ec_size]; kernel_rfl) (by rw [ec_size]; rfl) (ec_ones _ _) ?_))
  obtain ⟨W2, hW2, r2, b2, s2⟩ := start1 w1 (ec (PC c) (PA a)) 71
  rw [hW2]
  have t1 : Below w.heap.size w w1 := b0.out.trans (HB1.out.mono (by rw [HS.out]; omega))
  have hgs : w.heap.size + 2 ≤ w1.heap.size := by have := HB1.out.size; rw [HS.out] at this; exact this
  have b3 : Hid (Below w.heap.size w W2) := t1.trans (b2.out.mono t1.size)
  have r3 : Hid (Row W2 (w.heap.size + 1) pz 27) := (r1.out.later HB1.out (by rw [HS.out]; omega)).later b2.out (by omega)
  have HGL : Hid (w.heap.size + 2 ≤ w1.heap.size) := hgs
  clear t1 s2 b2 hW2 HB1 r0 b0 HS r1 hgs
  generalize w1.heap.size = g at *
  go_wp2_with (go_at_call 59; refine (HF.out _).mono ?_; rintro e w9 ⟨rfl, hw⟩; have hw2 := hw.symm; subst hw2)
  go_loopw [21] (fun i wr => ∃ k : Nat, k ≤ 8 ∧ i = .int .i64 k ∧ Hid (Row wr g (ec (upto (f + k) (sC (PC c) f v) (PC c)) (PA a)) 71) ∧ Hid (Row wr (w.heap.size + 1) pz 27) ∧ Hid (Below w.heap.size w wr)) (fun i _ => 8 - (intOf i).toNat)
  case atStart => exact ⟨0, by omega, rfl, by rw [sC_start]; exact r2, r3, b3⟩
  case round =>
    clear r2 r3 b3
    obtain ⟨k, hk, rfl, h0, h1, hb⟩ := hrel
    have HG := HGL.out
    by_cases hlt : k < 8
    · have hlt2 : (k : Int) < 8 := by omega
      have hf2 : (f : Int) + k < 16 := by omega
      have hfn : f + k < 16 := by omega
      have hlg := h0.out.lt
      have eL : cL (upto (f + k) (sC (PC c) f v) (PC c)) ((f : Int) + k) = lk (PC c (f + k)) := by
        have := cL_in (upto (f + k) (sC (PC c) f v) (PC c)) (f + k) hfn
        rw [show (((f + k : Nat) : Int)) = (f : Int) + k by omega] at this
        rw [this, upto, if_neg (by omega)]
      have hc := cfgLocked_c (upto (f + k) (sC (PC c) f v) (PC c)) (PA a) g ((f : Int) + k) wr h0.out
      rw [eL] at hc
      clear eL
      cases hl : lk (PC c (f + k)) with
      | true =>
        rw [hl] at hc
        have HC : Hid (Calls Try.prog 60 #[.pointer (some ⟨g, 0, none⟩), .int .i64 ((f : Int) + k)] wr fun e w' => e = .returned (.bool true) ∧ Below wr.heap.size wr w') := hc
        have HE : Hid (upto (f + (k + 1)) (sC (PC c) f v) (PC c) = upto (f + k) (sC (PC c) f v) (PC c)) := sC_locked _ _ _ _ hl
        clear hc hl
        go_wp2_with (go_at_call 60; refine HC.out.mono ?_; rintro e w4 ⟨rfl, hb4⟩; have HB4 : Hid (Below wr.heap.size wr w4) := hb4; clear hb4)
        go_roundw
        case rel =>
          exact ⟨k + 1, by omega, by go_num, by rw [HE.out]; exact h0.out.later HB4.out hlg, h1.out.later HB4.out (by omega), hb.out.trans (HB4.out.mono hb.out.size)⟩
        case measure => simp [intOf]; omega
      | false =>
        rw [hl] at hc
        have HC : Hid (Calls Try.prog 60 #[.pointer (some ⟨g, 0, none⟩), .int .i64 ((f : Int) + k)] wr fun e w' => e = .returned (.bool false) ∧ Below wr.heap.size wr w') := hc
        have HE : Hid (upd (upto (f + k) (sC (PC c) f v) (PC c)) (f + k) (pcl (bty v k)) = upto (f + (k + 1)) (sC (PC c) f v) (PC c)) := sC_open _ _ _ hlt _ hl
        clear hc hl
        have hby := bty_int v k
        go_wp2_with (first | (go_at_call 60; refine HC.out.mono ?_; rintro e w4 ⟨rfl, hb4⟩; have HB4 : Hid (Below wr.heap.size wr w4) := hb4; have r4 := h0.out.later hb4 hlg; have R4 : Hid (Row w4 g (ec (upto (f + k) (sC (PC c) f v) (PC c)) (PA a)) 71) := r4; have c4 := row_cfg r4 (f + k) hfn; have f4 := r4.froz ((f + k) * 2); clear hb4 r4) | (go_at_call 39; refine (properCfg_c (bty v k) _).mono ?_; rintro e w9 ⟨rfl, hw⟩; have hw2 := hw.symm; subst hw2))
        go_roundw
        case rel =>
          refine ⟨k + 1, by omega, by go_num, ?_, ?_, ?_⟩
          · have h := Row.put (i := (f + k) * 2) R4.out (.int .u8 (n8 (pcl (bty v k))))
            rw [ec_cfg _ _ _ _ hfn, HE.out] at h
            exact h
          · exact Row.other (h1.out.later HB4.out (by omega)) (by omega) _
          · exact below_put (hb.out.trans (HB4.out.mono hb.out.size)) (by omega) _
        case measure => simp [intOf]; omega
    · obtain rfl : k = 8 := by omega
      have e8 : ((8 : Nat) : Int) = 8 := rfl
      rw [e8]
      clear hk hlt e8
      rw [sC_end] at h0
      have hlg := h0.out.lt
      go_wp2_with (first | (go_at_call 29; refine (told_c (sC (PC c) f v) (PA a) g wr h0.out).mono ?_; rintro e w5 ⟨rfl, hb5⟩; have HB5 : Hid (Below wr.heap.size wr w5) := hb5; clear hb5) | (refine wpList_store_row (by rfl) _ _ _ (by rfl) (by rfl) _ _ _ (by rfl) (by rfl) (h1.out.later HB5.out (by omega)) (by rw [pc_size]; kernel_rfl) (by rw [pc_size, pz_size]) (pc_ones _ _) ?_))
      have h9 : Row w5 (w.heap.size + 1) pz 27 := h1.out.later HB5.out (by omega)
      refine bodyPost_ret (v := .agg (pc (sC (PC c) f v) (PA a))) ?_ rfl ⟨rfl, ?_⟩
      · exact results_cell_row Try.results57 _ _ (w.heap.size + 1) 27 _ (0, 0) _ (by rfl) (setRow_heap _ _ _ _ _ _ h9) Try.underlying27 (by rfl) (by rw [pc_size]; kernel_rfl)
      · exact below_row (hb.out.trans (HB5.out.mono hb.out.size)) (by omega) _
theorem SetCfg_c (c : Nat → BitVec 8) (a : Nat → BitVec 64) (i : Int) (v : BitVec 64) (w : World) :
    Calls Try.prog 57 #[.agg (pc c a), .int .i64 i, .int .u64 (n64 v)] w fun e w' => e = .returned (.agg (pc (sR (PC c) i v) (PA a))) ∧ Below w.heap.size w w' := by
  by_cases h0 : i = 0
  · subst h0; rw [sR, if_pos rfl]; exact SetCfg_at c a 0 v 0 (by omega) firstOf_0 w
  · by_cases h2 : i = 2
    · subst h2; rw [sR, if_neg h0, if_pos rfl]; exact SetCfg_at c a 2 v 8 (by omega) firstOf_2 w
    · rw [sR, if_neg h0, if_neg h2]; exact SetCfg_none c a i v h0 h2 w
end Go.Proofs.Ytnnkeodiacdmaaa
