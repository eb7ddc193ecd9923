/-
  CsrReads: its walk.
-/
import Derived.Test.YtnnkeodiacdmaabCla
namespace Go.Proofs.Ytnnkeodiacdmaab
set_option linter.unusedVariables false
open Go.ChangeShapes Go.WideShapes Go.ChangeAt Go.RowKit Go.Deep
set_option maxRecDepth 100000 in
set_option maxHeartbeats 1000000 in
theorem creads_walk (hc : CRd) (k : Cp) (n : Int) (v m t : BitVec 64) (hi : I64 n) (w : World) :
    Calls Try.prog 5 #[.agg (akk k n v m t)] w fun e w' => e = .returned (.bool true) ∧ Below w.heap.size w w' := by
  obtain ⟨W0, hW0, r0, b0, s0⟩ := start1 w (akk k n v m t) 33
  have hlt : Hid (w.heap.size < W0.heap.size) := by unfold Hid; omega
  clear s0
  have hA : Hid (∀ W : World, Calls Try.prog 9 #[.agg (cpc k), .int .u64 (n64 m), .int .u64 (n64 t), .int .i64 n] W fun e w' => e = .returned (.tuple #[.int .u64 (RD k m t n), .bool (RK k n)]) ∧ Below W.heap.size W w') := hc k m t n hi
  have hB : Hid (∀ W : World, Calls Try.prog 14 #[.agg (cpc k), .int .u64 (n64 m), .int .u64 (n64 t), .int .i64 n] W fun e w' => e = .returned (.tuple #[.int .u64 (RD k m t n), .bool (RK k n)]) ∧ Below W.heap.size W w') := rRead_c k m t n
  generalize RD k m t n = q1 at hA hB
  generalize RK k n = q2 at hA hB
  obtain ⟨a0, c1, c2, c3, c4⟩ := r0.out.akk
  have HL : Hid (∀ j u, (cpc k)[j]? = some u → W0.cell? ⟨w.heap.size, 0 + j, none⟩ = some u) := a0.agg
  clear a0 c2
  go_enter Try.func5, Try.ntmps5
  go_upto_region 1 with fail
  clear hW0
  go_upto_region 2 with (first | (refine wpList_load_agg (by rfl) 31 _ (by rfl) w.heap.size 0 (by rfl) (cpc k) _ HL.out Try.underlying31 (by rfl) (info_cpu _) ?_) | (go_at_call 9; refine (hA.out _).mono ?_; rintro e w1 ⟨rfl, hb⟩; have Bw1 : Hid (Below W0.heap.size W0 w1) := hb; clear hb))
  clear c1 c3 c4 HL
  obtain ⟨a1, d1, d2, d3, d4⟩ := (r0.out.later Bw1.out hlt.out).akk
  have HL : Hid (∀ j u, (cpc k)[j]? = some u → w1.cell? ⟨w.heap.size, 0 + j, none⟩ = some u) := a1.agg
  clear a1 d2
  go_upto_region 3 with (first | (refine wpList_load_agg (by rfl) 31 _ (by rfl) w.heap.size 0 (by rfl) (cpc k) _ HL.out Try.underlying31 (by rfl) (info_cpu _) ?_) | (go_at_call 14; refine (hB.out _).mono ?_; rintro e w2 ⟨rfl, hb⟩; have Bw2 : Hid (Below w1.heap.size w1 w2) := hb; clear hb))
  clear d1 d3 d4 HL
  go_wp2
  go_ret
  exact ⟨rfl, b0.out.trans ((Bw1.out.trans (Bw2.out.mono Bw1.out.size)).mono (Nat.le_of_lt hlt.out))⟩
end Go.Proofs.Ytnnkeodiacdmaab
