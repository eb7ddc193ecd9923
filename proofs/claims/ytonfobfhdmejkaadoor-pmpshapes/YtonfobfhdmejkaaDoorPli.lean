/-
  live: an open entry over everything lets U read.
-/
import Derived.Test.YtonfobfhdmejkaaDoorPsj
import Derived.Test.YtonfobfhdmejkaaDoorPbc
import Derived.Test.YtonfobfhdmejkaaDoorPbx
namespace Go.Proofs.YtonfobfhdmejkaaDoor
set_option linter.unusedVariables false
open Go.ChangeShapes Go.WideShapes Go.ChangeAt Go.RowKit Go.Deep
def lz8 : Nat → BitVec 8 := fun _ => 0#8
def lz64 : Nat → BitVec 64 := fun _ => 0#64
def lvC1 : Nat → BitVec 8 := PC lz8
def lvA1 : Nat → BitVec 64 := sA (PC lz8) (PA lz64) 0 18014398509481983#64
def lvC2 : Nat → BitVec 8 := sR (PC lvC1) 0 27#64
def lvA2 : Nat → BitVec 64 := PA lvA1
theorem lv_1 : ckA (PC lvC2) (PA lvA2) 0 2147483648#64 4 1 = true := by kernel_rfl
theorem lv_2 : ckA (PC lvC2) (PA lvA2) 0 2147483648#64 4 4 = false := by kernel_rfl
theorem lv_3 : ckA (PC lz8) (PA lz64) 0 0#64 1 1 = false := by kernel_rfl
theorem lv_4 : cfgR (PC lvC2) 0 = 27 := by kernel_rfl
theorem lv_5 : grA (PC lvC2) (PA lvA2) 5#64 2 = true := by kernel_rfl
set_option maxRecDepth 100000 in
set_option maxHeartbeats 2000000 in
theorem live_c (w : World) (hT : Tb w) : Calls Tryd.prog 4 #[] w fun e w' => e = .returned (.bool true) ∧ Below w.heap.size w w' := by
  have HT : Hid (Tb w) := hT
  have h1 : Hid (∀ W, Calls Tryd.prog 5 #[.agg (pc lz8 lz64), .int .i64 0, .int .u64 18014398509481983] W fun e w' => e = .returned (.agg (pc lvC1 lvA1)) ∧ Below W.heap.size W w') := fun W => SetAddr_c lz8 lz64 0 18014398509481983#64 W
  have h2 : Hid (∀ W, Calls Tryd.prog 8 #[.agg (pc lvC1 lvA1), .int .i64 0, .int .u64 27] W fun e w' => e = .returned (.agg (pc lvC2 lvA2)) ∧ Below W.heap.size W w') := fun W => SetCfg_c lvC1 lvA1 0 27#64 W
  have h3 : Hid (∀ W, Tb W → Calls Tryd.prog 9 #[.agg (pc lvC2 lvA2), .int .i64 0, .int .u64 2147483648, .int .i64 4, .int .i64 1] W fun e w' => e = .returned (.bool true) ∧ Below W.heap.size W w') := fun W h => by
    have := Check_c lvC2 lvA2 0 2147483648#64 4 1 W h
    rw [lv_1] at this
    exact this
  have h4 : Hid (∀ W, Tb W → Calls Tryd.prog 9 #[.agg (pc lvC2 lvA2), .int .i64 0, .int .u64 2147483648, .int .i64 4, .int .i64 4] W fun e w' => e = .returned (.bool false) ∧ Below W.heap.size W w') := fun W h => by
    have := Check_c lvC2 lvA2 0 2147483648#64 4 4 W h
    rw [lv_2] at this
    exact this
  have h5 : Hid (∀ W, Tb W → Calls Tryd.prog 9 #[.agg (pc lz8 lz64), .int .i64 0, .int .u64 0, .int .i64 1, .int .i64 1] W fun e w' => e = .returned (.bool false) ∧ Below W.heap.size W w') := fun W h => by
    have := Check_c lz8 lz64 0 0#64 1 1 W h
    rw [lv_3] at this
    exact this
  have h6 : Hid (∀ W, Calls Tryd.prog 10 #[.agg (pc lvC2 lvA2), .int .i64 0] W fun e w' => e = .returned (.int .u64 27) ∧ Below W.heap.size W w') := fun W => by
    have := Cfg_c lvC2 lvA2 0 W
    rw [lv_4] at this
    exact this
  have h7 : Hid (∀ W, Tb W → Calls Tryd.prog 7 #[.agg (pc lvC2 lvA2), .int .u64 5, .int .i64 2] W fun e w' => e = .returned (.bool true) ∧ Below W.heap.size W w') := fun W h => by
    have := Granted_c lvC2 lvA2 5#64 2 W h
    rw [lv_5] at this
    exact this
  have hz : pc (fun _ => 0#8) (fun _ => 0#64) = pc lz8 lz64 := rfl
  have Z1 : Hid ((pc lvC1 lvA1).size = 32 ∧ (pc lvC1 lvA1).all (·.oneCell') = true) := ⟨pc_size _ _, pc_ones _ _⟩
  have Z2 : Hid ((pc lvC2 lvA2).size = 32 ∧ (pc lvC2 lvA2).all (·.oneCell') = true) := ⟨pc_size _ _, pc_ones _ _⟩
  generalize pc lvC1 lvA1 = P1 at *
  generalize pc lvC2 lvA2 = P2 at *
  clear hT
  go_enter Tryd.func4, Tryd.ntmps4
  go_upto_region 2 with (first | (go_at_call 5; rw [pc_zero, hz]; refine (h1.out _).mono ?_; rintro e w1 ⟨rfl, hb⟩; have B1 : Hid (Below w.heap.size w w1) := hb; clear hb) | (refine wpList_store_new (by rfl) _ _ _ (by rfl) (by rfl) _ _ (by rfl) (by rfl) (by rw [Z1.out.1]; kernel_rfl) (by rw [Z1.out.1]; rfl) Z1.out.2 ?_))
  obtain ⟨W1, hW1, R1, q1, s1⟩ := start1 w1 P1 28
  rw [hW1]
  have B2 : Hid (Below w.heap.size w W1) := B1.out.trans (q1.out.mono B1.out.size)
  have HG : Hid (w.heap.size ≤ w1.heap.size ∧ W1.heap.size = w1.heap.size + 1) := ⟨B1.out.size, s1⟩
  clear hW1 q1 s1 B1
  generalize w1.heap.size = g at *
  go_upto_region 3 with (first | (refine wpList_load_rowG (by rfl) _ _ (by rfl) _ (by rfl) 28 _ (0, 0) _ R1.out Tryd.underlying28 (by rfl) (by rw [Z1.out.1]; kernel_rfl) ?_) | (go_at_call 8; refine (h2.out _).mono ?_; rintro e w2 ⟨rfl, hb⟩; have C2 : Hid (Below W1.heap.size W1 w2) := hb; clear hb) | (refine wpList_store_row (by rfl) _ _ _ (by rfl) (by rfl) _ _ _ (by rfl) (by rfl) (R1.out.later C2.out (by rw [HG.out.2]; omega)) (by rw [Z2.out.1]; kernel_rfl) (by rw [Z1.out.1, Z2.out.1]) Z2.out.2 ?_))
  obtain ⟨W2, hW2, R2, B3⟩ : ∃ W2, w2.setRow g P2 = W2 ∧ Hid (Row W2 g P2 28) ∧ Hid (Below w.heap.size w W2 ∧ g < W2.heap.size) := ⟨_, rfl, setRow_heap _ _ _ _ _ _ (R1.out.later C2.out (by rw [HG.out.2]; omega)), below_row (B2.out.trans (C2.out.mono B2.out.size)) HG.out.1 _, by have := C2.out.size; rw [HG.out.2] at this; rw [size_setRow]; omega⟩
  rw [hW2]
  have T2 : Hid (Tb W2) := HT.out.next B3.out.1
  clear hW2 R1 B2 C2 HG
  have AT : Hid (∀ W, Below W2.heap.size W2 W → Row W g P2 28 ∧ Tb W) := fun W hb => ⟨R2.out.later hb B3.out.2, T2.out.next hb⟩
  have F1 : Hid True := trivial
  go_wp2_with (first | (refine wpList_load_rowG (by rfl) _ _ (by rfl) _ (by rfl) 28 _ (0, 0) _ R2.out Tryd.underlying28 (by rfl) (by rw [Z2.out.1]; kernel_rfl) ?_) | (refine wpList_load_rowG (by rfl) _ _ (by rfl) _ (by rfl) 28 _ (0, 0) _ (AT.out _ D1.out).1 Tryd.underlying28 (by rfl) (by rw [Z2.out.1]; kernel_rfl) ?_) | (refine wpList_load_rowG (by rfl) _ _ (by rfl) _ (by rfl) 28 _ (0, 0) _ (AT.out _ D3.out).1 Tryd.underlying28 (by rfl) (by rw [Z2.out.1]; kernel_rfl) ?_) | (refine wpList_load_rowG (by rfl) _ _ (by rfl) _ (by rfl) 28 _ (0, 0) _ (AT.out _ D4.out).1 Tryd.underlying28 (by rfl) (by rw [Z2.out.1]; kernel_rfl) ?_) | (go_at_call 9; clear F1; refine (h3.out _ T2.out).mono ?_; rintro e w3 ⟨rfl, hb⟩; have D1 : Hid (Below W2.heap.size W2 w3) := hb; clear hb; have F2 : Hid True := trivial) | (go_at_call 9; clear F2; refine (h4.out _ (AT.out _ D1.out).2).mono ?_; rintro e w4 ⟨rfl, hb⟩; have D2 : Hid (Below W2.heap.size W2 w4) := D1.out.trans (hb.mono D1.out.size); clear hb; have F3 : Hid True := trivial) | (go_at_call 9; clear F3; rw [pc_zero, hz]; refine (h5.out _ (AT.out _ D2.out).2).mono ?_; rintro e w5 ⟨rfl, hb⟩; have D3 : Hid (Below W2.heap.size W2 w5) := D2.out.trans (hb.mono D2.out.size); clear hb) | (go_at_call 10; refine (h6.out _).mono ?_; rintro e w6 ⟨rfl, hb⟩; have D4 : Hid (Below W2.heap.size W2 w6) := D3.out.trans (hb.mono D3.out.size); clear hb) | (go_at_call 7; refine (h7.out _ (AT.out _ D4.out).2).mono ?_; rintro e w7 ⟨rfl, hb⟩; have D5 : Hid (Below W2.heap.size W2 w7) := D4.out.trans (hb.mono D4.out.size); clear hb))
  go_ret
  exact ⟨rfl, B3.out.1.trans (D5.out.mono B3.out.1.size)⟩
end Go.Proofs.YtonfobfhdmejkaaDoor
