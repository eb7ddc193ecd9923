/-
  Pbp.
-/
import Derived.Test.YtnlkamfoopikhaaPbo
namespace Go.Proofs.Ytnlkamfoopikhaa
set_option linter.unusedVariables false
open Go.ChangeShapes Go.WideShapes Go.ChangeAt Go.RowKit Go.Deep
theorem start1 (w : World) (cs : Array Value) (t : TypeId) : ∃ W, w.alloc (.cells cs t) = W ∧ Hid (Row W w.heap.size cs t) ∧ Hid (Below w.heap.size w W) ∧ W.heap.size = w.heap.size + 1 :=
  ⟨_, rfl, Row.new _ _ _, (Below.refl _ _).alloc (Nat.le_refl _) _, by simp⟩
theorem start2 (w : World) (cs cs' : Array Value) (t t' : TypeId) : ∃ W, (w.alloc (.cells cs t)).alloc (.cells cs' t') = W ∧ Hid (Row W w.heap.size cs t) ∧ Hid (Row W (w.heap.size + 1) cs' t') ∧ Hid (Below w.heap.size w W) ∧ W.heap.size = w.heap.size + 2 :=
  ⟨_, rfl, (Row.new _ _ _).old (by simp) _, by have := Row.new (w.alloc (.cells cs t)) cs' t'; simpa [Hid] using this, ((Below.refl _ _).alloc (Nat.le_refl _) _).alloc (by simp) _, by simp⟩
def pz : Array Value := pc (fun _ => 0#8) (fun _ => 0#64)
theorem pz_size : pz.size = 32 := pc_size _ _
/-- The entries that are proper. -/
def PC (c : Nat → BitVec 8) : Nat → BitVec 8 := fun j => pcl (c j)
def PA (a : Nat → BitVec 64) : Nat → BitVec 64 := fun j => pad (a j)
theorem of_p (c : Nat → BitVec 8) (a : Nat → BitVec 64) (w : World) :
    Calls Try.prog 67 #[.agg (pc c a)] w fun e w' => e = .returned (.agg (ec (PC c) (PA a))) ∧ Below w.heap.size w w' := of_c c a w
set_option maxRecDepth 100000 in
set_option maxHeartbeats 1000000 in
theorem Proper_c (c : Nat → BitVec 8) (a : Nat → BitVec 64) (w : World) :
    Calls Try.prog 45 #[.agg (pc c a)] w fun e w' => e = .returned (.agg (pc (PC c) (PA a))) ∧ Below w.heap.size w w' := by
  obtain ⟨W0, hW0, r0, r1, b0, s0⟩ := start2 w (pc c a) pz 27 27
  have HS : Hid (W0.heap.size = w.heap.size + 2) := s0
  clear s0
  go_enter Try.func45, Try.ntmps45
  go_upto_region 1 with fail
  rw [pc_zero, ← pz, hW0]
  clear hW0
  go_wp2_with (first | (refine wpList_load_row (by rfl) _ _ (by rfl) _ (by rfl) 27 _ (0, 0) _ r0.out Try.underlying27 (by rfl) (by rw [pc_size]; kernel_rfl) ?_) | (go_at_call 67; refine (of_p c a _).mono ?_; rintro e w1 ⟨rfl, hb1⟩; have HB1 : Hid (Below W0.heap.size W0 w1) := hb1; clear hb1) | (go_at_call 68; refine (told_c (PC c) (PA a) _ _ (Row.new _ _ _)).mono ?_; rintro e w2 ⟨rfl, hb2⟩; have HB2 : Hid (Below w1.heap.size w1 w2) := (Below.alloc (Below.refl _ _) (Nat.le_refl _) _).trans (hb2.mono (by simp)); clear hb2) | (refine wpList_store_row (by rfl) _ _ _ (by rfl) (by rfl) _ _ _ (by rfl) (by rfl) ((r1.out.later HB1.out (by rw [HS.out]; omega)).later HB2.out (Nat.lt_of_lt_of_le (by rw [HS.out]; omega) HB1.out.size)) (by rw [pc_size]; kernel_rfl) (by rw [pc_size, pz_size]) (pc_ones _ _) ?_) | (refine wpList_store_new (by rfl) _ _ _ (by rfl) (by rfl) _ _ (by rfl) (by rfl) (by rw [ec_size]; kernel_rfl) (by rw [ec_size]; rfl) (ec_ones _ _) ?_))
  have h9 : Row w2 (w.heap.size + 1) pz 27 := (r1.out.later HB1.out (by rw [HS.out]; omega)).later HB2.out (Nat.lt_of_lt_of_le (by rw [HS.out]; omega) HB1.out.size)
  refine bodyPost_ret (v := .agg (pc (PC c) (PA a))) ?_ rfl ⟨rfl, ?_⟩
  · exact results_cell_row Try.results45 _ _ (w.heap.size + 1) 27 _ (0, 0) _ (by rfl) (setRow_heap _ _ _ _ _ _ h9) Try.underlying27 (by rfl) (by rw [pc_size]; kernel_rfl)
  · exact below_row ((b0.out.trans (HB1.out.mono (by rw [HS.out]; omega))).trans (HB2.out.mono (Nat.le_trans (by rw [HS.out]; omega) HB1.out.size))) (by omega) _
set_option maxRecDepth 100000 in
set_option maxHeartbeats 1000000 in
theorem rProper_c (c : Nat → BitVec 8) (a : Nat → BitVec 64) (w : World) :
    Calls Try.prog 52 #[.agg (pc c a)] w fun e w' => e = .returned (.agg (pc (PC c) (PA a))) ∧ Below w.heap.size w w' := by
  go_enter Try.func52, Try.ntmps52
  go_wp2
  rw [pc_zero, ← pz]
  go_loopw [3] (fun i wr => ∃ k : Nat, k ≤ 16 ∧ i = .int .i64 k ∧ Hid (Row wr w.heap.size (pc (upto k (PC c) c) (upto k (PA a) a)) 27) ∧ Hid (Row wr (w.heap.size + 1) pz 27) ∧ Hid (Below w.heap.size w wr)) (fun i _ => 16 - (intOf i).toNat)
  case atStart =>
    obtain ⟨W0, hW0, r0, r1, b0, s0⟩ := start2 w (pc c a) pz 27 27
    rw [hW0]
    refine ⟨0, by omega, rfl, ?_, r1, b0⟩
    rw [upto_zero, upto_zero]
    exact r0
  case round =>
    obtain ⟨k, hk, rfl, h0, h1, hb⟩ := hrel
    by_cases hlt : k < 16
    · have hlt2 : (k : Int) < 16 := by omega
      have c0 : wr.cell? ⟨w.heap.size, k, none⟩ = some (.int .u8 (n8 (c k))) := by rw [h0.out.cell, pc_at _ _ _ (by omega), pcell, if_pos hlt, upto, if_neg (by omega)]
      have c1 : wr.cell? ⟨w.heap.size, 16 + k, none⟩ = some (.int .u64 (n64 (a k))) := by rw [h0.out.cell, pc_at _ _ _ (by omega), pcell, if_neg (by omega), Nat.add_sub_cancel_left, upto, if_neg (by omega)]
      have f0 := h0.out.froz k
      have f1 := h0.out.froz (16 + k)
      have hp := n64_pad (a k)
      have ne1 : ¬ 16 + k = k := by omega
      have ne2 : ¬ k = 16 + k := by omega
      go_wp2_with (go_at_call 70; refine (cleaned_c (c k) _).mono ?_; rintro e w1 ⟨rfl, hw⟩; have hw2 := hw.symm; subst hw2)
      go_roundw
      case rel =>
        refine ⟨k + 1, by omega, by go_num, ?_, ?_, ?_⟩
        · have h := Row.put (i := 16 + k) (Row.put (i := k) h0.out (.int .u8 (n8 (PC c k)))) (.int .u64 (n64 (PA a k)))
          rw [pc_cfg _ _ _ _ hlt, pc_addr _ _ _ _ hlt, upto_succ k (PC c), upto_succ k (PA a)] at h
          exact h
        · exact Row.other (Row.other h1.out (by omega) _) (by omega) _
        · exact below_put (below_put hb.out (by omega) _) (by omega) _
      case measure => simp [intOf]; omega
    · obtain rfl : k = 16 := by omega
      have e16 : ((16 : Nat) : Int) = 16 := rfl
      rw [e16]
      clear hk hlt
      have he : pc (upto 16 (PC c) c) (upto 16 (PA a) a) = pc (PC c) (PA a) := pc_congr fun j hj => by simp [upto, hj]
      rw [he] at h0
      clear he
      go_wp2_with (first | (refine wpList_load_row (by rfl) _ _ (by rfl) _ (by rfl) 27 _ (0, 0) _ h0.out Try.underlying27 (by rfl) (by rw [pc_size]; kernel_rfl) ?_) | (refine wpList_store_row (by rfl) _ _ _ (by rfl) (by rfl) _ _ _ (by rfl) (by rfl) h1.out (by rw [pc_size]; kernel_rfl) (by rw [pc_size, pz_size]) (pc_ones _ _) ?_))
      refine bodyPost_ret (v := .agg (pc (PC c) (PA a))) ?_ rfl ⟨rfl, ?_⟩
      · exact results_cell_row Try.results52 _ _ (w.heap.size + 1) 27 _ (0, 0) _ (by rfl) (setRow_heap _ _ _ _ _ _ h1.out) Try.underlying27 (by rfl) (by rw [pc_size]; kernel_rfl)
      · exact below_row hb.out (by omega) _
end Go.Proofs.Ytnlkamfoopikhaa
