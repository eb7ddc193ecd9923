/-
  CsrWrites: its walk.
-/
import Derived.Test.YtnnkeodiacdmaabCla
namespace Go.Proofs.Ytnnkeodiacdmaab
set_option linter.unusedVariables false
open Go.ChangeShapes Go.WideShapes Go.ChangeAt Go.RowKit Go.Deep
set_option maxRecDepth 100000 in
set_option maxHeartbeats 1000000 in
theorem cwrites_walk (hc : CWr) (k : Cp) (n : Int) (v m t : BitVec 64) (hi : I64 n) (w : World) :
    Calls Try.prog 6 #[.agg (akk k n v m t)] w fun e w' => e = .returned (.bool true) ∧ Below w.heap.size w w' := by
  have hz := zero_cpu
  obtain ⟨W0, hW0, r0, b0, s0⟩ := start1 w (akk k n v m t) 33
  have hlt : Hid (w.heap.size < W0.heap.size) := by unfold Hid; omega
  clear s0
  have hA : Hid (∀ W : World, Calls Try.prog 12 #[.agg (cpc k), .int .i64 n, .int .u64 (n64 v)] W fun e w' => e = .returned (.tuple #[.agg (cpc (WR k n v)), .bool (WK k n)]) ∧ Below W.heap.size W w') := hc k n v hi
  have hB : Hid (∀ W : World, Calls Try.prog 15 #[.agg (cpc k), .int .i64 n, .int .u64 (n64 v)] W fun e w' => e = .returned (.tuple #[.agg (cpc (WR k n v)), .bool (WK k n)]) ∧ Below W.heap.size W w') := rWrite_c k n v
  have heq : ∀ W, (Op.equalIn 10000 31 (.agg (cpc (WR k n v))) (.agg (cpc (WR k n v)))).run Try.prog W = .ok true W := fun W => eq_cpu W _
  generalize WR k n v = q1 at hA hB heq
  generalize WK k n = q2 at hA hB
  obtain ⟨a0, c1, c2, c3, c4⟩ := r0.out.akk
  have HL : Hid (∀ j u, (cpc k)[j]? = some u → W0.cell? ⟨w.heap.size, 0 + j, none⟩ = some u) := a0.agg
  clear a0 c3 c4
  go_enter Try.func6, Try.ntmps6
  go_upto_region 1 with fail
  clear hW0
  go_upto_region 2 with (first | (refine wpList_load_agg (by rfl) 31 _ (by rfl) w.heap.size 0 (by rfl) (cpc k) _ HL.out Try.underlying31 (by rfl) (info_cpu _) ?_) | (go_at_call 12; refine (hA.out _).mono ?_; rintro e w1 ⟨rfl, hb⟩; have Bw1 : Hid (Below W0.heap.size W0 w1) := hb; clear hb) | (refine wpList_store_new (by rfl) _ _ _ (by rfl) (by rfl) _ _ (by rfl) (by rfl) (info_cpu _) (by rw [cpc_size, cpc_size]) (cpc_ones _) ?_))
  clear c1 c2 HL
  refine go_on2 (motive := fun W => Code.wp _ _ _ _ W) (a := w) (B := w.heap.size) (n := w1.heap.size + 1) ((r0.out.later Bw1.out hlt.out).old (Nat.lt_of_lt_of_le hlt.out Bw1.out.size) _) (Row.new w1 (cpc q1) 31) ((b0.out.trans (Bw1.out.mono (Nat.le_of_lt hlt.out))).alloc (Nat.le_trans (Nat.le_of_lt hlt.out) Bw1.out.size) _) (by simp) ?_
  have hl1 : Hid (w.heap.size < w1.heap.size) := Nat.lt_of_lt_of_le hlt.out Bw1.out.size
  clear r0 b0 Bw1 hlt hA
  intro W2 q0 p0 c0 t0
  have R0 : Hid (Row W2 w.heap.size (akk k n v m t) 33) := q0
  have R1 : Hid (Row W2 w1.heap.size (cpc q1) 31) := p0
  have BB : Hid (Below w.heap.size w W2) := c0
  have S2 : Hid (W2.heap.size = w1.heap.size + 1) := t0
  obtain ⟨a1, d1, d2, d3, d4⟩ := q0.akk
  have HL : Hid (∀ j u, (cpc k)[j]? = some u → W2.cell? ⟨w.heap.size, 0 + j, none⟩ = some u) := a1.agg
  clear a1 d3 d4 q0 p0 c0 t0
  go_upto_region 3 with (first | (refine wpList_load_agg (by rfl) 31 _ (by rfl) w.heap.size 0 (by rfl) (cpc k) _ HL.out Try.underlying31 (by rfl) (info_cpu _) ?_) | (go_at_call 15; refine (hB.out _).mono ?_; rintro e w3 ⟨rfl, hb⟩; have Bw3 : Hid (Below W2.heap.size W2 w3) := hb; clear hb) | (refine wpList_store_new (by rfl) _ _ _ (by rfl) (by rfl) _ _ (by rfl) (by rfl) (info_cpu _) (by rw [cpc_size, cpc_size]) (cpc_ones _) ?_))
  clear d1 d2 HL
  refine go_on2 (motive := fun W => Code.wp _ _ _ _ W) (a := w) (B := w.heap.size) (n := w3.heap.size + 1) ((R1.out.later Bw3.out (by rw [S2.out]; omega)).old (Nat.lt_of_lt_of_le (by rw [S2.out]; omega) Bw3.out.size) _) (Row.new w3 (cpc q1) 31) ((BB.out.trans (Bw3.out.mono BB.out.size)).alloc (Nat.le_trans BB.out.size Bw3.out.size) _) (by simp) ?_
  clear R0 R1 BB S2 Bw3 hB hz
  intro W4 q0 p0 c0 t0
  have R1 : Hid (Row W4 w1.heap.size (cpc q1) 31) := q0
  have R2 : Hid (Row W4 w3.heap.size (cpc q1) 31) := p0
  have BB : Hid (Below w.heap.size w W4) := c0
  clear q0 p0 c0 t0
  go_wp2_with (first | (refine wpList_load_row (by rfl) _ _ (by rfl) _ (by rfl) 31 _ (0, 0) _ R1.out Try.underlying31 (by rfl) (info_cpu _) ?_) | (refine wpList_load_row (by rfl) _ _ (by rfl) _ (by rfl) 31 _ (0, 0) _ R2.out Try.underlying31 (by rfl) (info_cpu _) ?_))
  go_ret
  exact ⟨rfl, BB.out⟩
end Go.Proofs.Ytnnkeodiacdmaab
