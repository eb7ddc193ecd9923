/-
  upper and Encode of the reference.
-/
import Derived.Test.YtechkhlibdkmpacEt
import Derived.Test.YtechkhlibdkmpacEg
import Derived.Deep.RegionHeld3
import Derived.Deep.CutRange
namespace Go.Proofs.Ytechkhlibdkmpac
set_option linter.unusedVariables false
open Go.ChangeShapes Go.WideShapes Go.ChangeAt Go.RowKit Go.Deep
theorem top_k (t : Int) (k : Nat) : t % 4294967296 * ((2 ^ k : Nat) : Int) % 4294967296 = n32 (BitVec.ofInt 32 t <<< k) := by
  have h := shl32 (BitVec.ofInt 32 t) k
  rw [← mod32] at h
  exact h
theorem top25 (t : Int) : t % 4294967296 * 33554432 % 4294967296 = n32 (BitVec.ofInt 32 t <<< 25) := top_k t 25
theorem top26 (t : Int) : t % 4294967296 * 67108864 % 4294967296 = n32 (BitVec.ofInt 32 t <<< 26) := top_k t 26
theorem top27 (t : Int) : t % 4294967296 * 134217728 % 4294967296 = n32 (BitVec.ofInt 32 t <<< 27) := top_k t 27
theorem top12 (t : Int) : t % 4294967296 * 4096 % 4294967296 = n32 (BitVec.ofInt 32 t <<< 12) := top_k t 12
theorem top7 (t : Int) : t % 4294967296 * 128 % 4294967296 = n32 (BitVec.ofInt 32 t <<< 7) := top_k t 7
theorem top15 (t : Int) : t % 4294967296 * 32768 % 4294967296 = n32 (BitVec.ofInt 32 t <<< 15) := top_k t 15
theorem top20 (t : Int) : t % 4294967296 * 1048576 % 4294967296 = n32 (BitVec.ofInt 32 t <<< 20) := top_k t 20
def pkL : List (Nat × Nat × Nat) := [(20, 20, 31), (10, 1, 21), (11, 11, 20), (19, 12, 12), (12, 12, 31), (10, 5, 25), (4, 1, 8), (11, 11, 7), (11, 5, 25), (4, 0, 7), (5, 0, 20), (4, 0, 20), (11, 0, 20)]
theorem pick_g (v : Int) (hi lo pt : Nat) (w : World) (hv : I64 v) (hm : (hi, lo, pt) ∈ pkL) : Calls Try.prog 22 #[.int .i64 v, .int .i64 hi, .int .i64 lo, .int .i64 pt] w fun e w' => e = .returned (.int .u32 (n32 (pkB v hi lo pt))) ∧ w' = w := by
  unfold pkL at hm
  simp only [List.mem_cons, Prod.mk.injEq, List.not_mem_nil, or_false] at hm
  rcases hm with ⟨rfl, rfl, rfl⟩ | ⟨rfl, rfl, rfl⟩ | ⟨rfl, rfl, rfl⟩ | ⟨rfl, rfl, rfl⟩ | ⟨rfl, rfl, rfl⟩ | ⟨rfl, rfl, rfl⟩ | ⟨rfl, rfl, rfl⟩ | ⟨rfl, rfl, rfl⟩ | ⟨rfl, rfl, rfl⟩ | ⟨rfl, rfl, rfl⟩ | ⟨rfl, rfl, rfl⟩ | ⟨rfl, rfl, rfl⟩ | ⟨rfl, rfl, rfl⟩
  · exact pick_20_20_31 v w hv
  · exact pick_10_1_21 v w hv
  · exact pick_11_11_20 v w hv
  · exact pick_19_12_12 v w hv
  · exact pick_12_12_31 v w hv
  · exact pick_10_5_25 v w hv
  · exact pick_4_1_8 v w hv
  · exact pick_11_11_7 v w hv
  · exact pick_11_5_25 v w hv
  · exact pick_4_0_7 v w hv
  · exact pick_5_0_20 v w hv
  · exact pick_4_0_20 v w hv
  · exact pick_11_0_20 v w hv
set_option maxRecDepth 100000 in
set_option maxHeartbeats 2000000 in
theorem up_U (x : Ins) (op code f3 top : Int) (w : World) (hx : InsOk x) : Calls Try.prog 16 #[.agg #[.int .i64 op, .int .i64 code, .int .i64 f3, .int .i64 top, .int .u8 85], .agg #[.int .i64 x.op, .int .i64 x.rd, .int .i64 x.rs1, .int .i64 x.rs2, .int .i64 x.imm, .bool x.aq, .bool x.rl, .int .i64 x.len, .int .u32 x.raw]] w fun e w' => e = .returned (.int .u32 (n32 (BitVec.ofInt 32 x.imm &&& 4294963200#32))) ∧ Below w.heap.size w w' := by
  have hv := hx.imm
  unfold I64 at hv
  go_enter Try.func16, Try.ntmps16
  go_wp2
  go_ret
  refine ⟨?_, ?_⟩
  · refine congrArg (fun z => Ending.returned (Value.int .u32 z)) ?_
    rw [and32, ofInt_mod32]
    rfl
  · first | exact (below_al w _).trans ((below_al _ _).mono (below_al w _).size) | exact Below.drewN ((below_al w _).trans ((below_al _ _).mono (below_al w _).size)) _
set_option maxRecDepth 100000 in
set_option maxHeartbeats 2000000 in
theorem up_J (x : Ins) (op code f3 top : Int) (w : World) (hx : InsOk x) : Calls Try.prog 16 #[.agg #[.int .i64 op, .int .i64 code, .int .i64 f3, .int .i64 top, .int .u8 74], .agg #[.int .i64 x.op, .int .i64 x.rd, .int .i64 x.rs1, .int .i64 x.rs2, .int .i64 x.imm, .bool x.aq, .bool x.rl, .int .i64 x.len, .int .u32 x.raw]] w fun e w' => e = .returned (.int .u32 (n32 (pkB x.imm 20 20 31 + pkB x.imm 10 1 21 + pkB x.imm 11 11 20 + pkB x.imm 19 12 12))) ∧ Below w.heap.size w w' := by
  have hv := hx.imm
  have HP0 : Hid (∀ w : World, Calls Try.prog 22 #[.int .i64 x.imm, .int .i64 20, .int .i64 20, .int .i64 31] w fun e w' => e = .returned (.int .u32 (n32 (pkB x.imm 20 20 31))) ∧ w' = w) := fun w => pick_20_20_31 x.imm w hv
  have HP1 : Hid (∀ w : World, Calls Try.prog 22 #[.int .i64 x.imm, .int .i64 10, .int .i64 1, .int .i64 21] w fun e w' => e = .returned (.int .u32 (n32 (pkB x.imm 10 1 21))) ∧ w' = w) := fun w => pick_10_1_21 x.imm w hv
  have HP2 : Hid (∀ w : World, Calls Try.prog 22 #[.int .i64 x.imm, .int .i64 11, .int .i64 11, .int .i64 20] w fun e w' => e = .returned (.int .u32 (n32 (pkB x.imm 11 11 20))) ∧ w' = w) := fun w => pick_11_11_20 x.imm w hv
  have HP3 : Hid (∀ w : World, Calls Try.prog 22 #[.int .i64 x.imm, .int .i64 19, .int .i64 12, .int .i64 12] w fun e w' => e = .returned (.int .u32 (n32 (pkB x.imm 19 12 12))) ∧ w' = w) := fun w => pick_19_12_12 x.imm w hv
  unfold I64 at hv
  go_enter Try.func16, Try.ntmps16
  go_wp2_with (first | (go_at_call 22; refine (HP0.out _).mono ?_; rintro e w1 ⟨rfl, hw⟩; have hw2 := hw.symm; subst hw2; clear HP0) | (go_at_call 22; refine (HP1.out _).mono ?_; rintro e w1 ⟨rfl, hw⟩; have hw2 := hw.symm; subst hw2; clear HP1) | (go_at_call 22; refine (HP2.out _).mono ?_; rintro e w1 ⟨rfl, hw⟩; have hw2 := hw.symm; subst hw2; clear HP2) | (go_at_call 22; refine (HP3.out _).mono ?_; rintro e w1 ⟨rfl, hw⟩; have hw2 := hw.symm; subst hw2; clear HP3))
  go_ret
  refine ⟨?_, ?_⟩
  · refine congrArg (fun z => Ending.returned (Value.int .u32 z)) ?_
    simp only [← add32]
    omega
  · first | exact (below_al w _).trans ((below_al _ _).mono (below_al w _).size) | exact Below.drewN ((below_al w _).trans ((below_al _ _).mono (below_al w _).size)) _
set_option maxRecDepth 100000 in
set_option maxHeartbeats 2000000 in
theorem up_B (x : Ins) (op code f3 top : Int) (w : World) (hx : InsOk x) : Calls Try.prog 16 #[.agg #[.int .i64 op, .int .i64 code, .int .i64 f3, .int .i64 top, .int .u8 66], .agg #[.int .i64 x.op, .int .i64 x.rd, .int .i64 x.rs1, .int .i64 x.rs2, .int .i64 x.imm, .bool x.aq, .bool x.rl, .int .i64 x.len, .int .u32 x.raw]] w fun e w' => e = .returned (.int .u32 (n32 (pkB x.imm 12 12 31 + pkB x.imm 10 5 25 + pkB x.imm 4 1 8 + pkB x.imm 11 11 7))) ∧ Below w.heap.size w w' := by
  have hv := hx.imm
  have HP0 : Hid (∀ w : World, Calls Try.prog 22 #[.int .i64 x.imm, .int .i64 12, .int .i64 12, .int .i64 31] w fun e w' => e = .returned (.int .u32 (n32 (pkB x.imm 12 12 31))) ∧ w' = w) := fun w => pick_12_12_31 x.imm w hv
  have HP1 : Hid (∀ w : World, Calls Try.prog 22 #[.int .i64 x.imm, .int .i64 10, .int .i64 5, .int .i64 25] w fun e w' => e = .returned (.int .u32 (n32 (pkB x.imm 10 5 25))) ∧ w' = w) := fun w => pick_10_5_25 x.imm w hv
  have HP2 : Hid (∀ w : World, Calls Try.prog 22 #[.int .i64 x.imm, .int .i64 4, .int .i64 1, .int .i64 8] w fun e w' => e = .returned (.int .u32 (n32 (pkB x.imm 4 1 8))) ∧ w' = w) := fun w => pick_4_1_8 x.imm w hv
  have HP3 : Hid (∀ w : World, Calls Try.prog 22 #[.int .i64 x.imm, .int .i64 11, .int .i64 11, .int .i64 7] w fun e w' => e = .returned (.int .u32 (n32 (pkB x.imm 11 11 7))) ∧ w' = w) := fun w => pick_11_11_7 x.imm w hv
  unfold I64 at hv
  go_enter Try.func16, Try.ntmps16
  go_wp2_with (first | (go_at_call 22; refine (HP0.out _).mono ?_; rintro e w1 ⟨rfl, hw⟩; have hw2 := hw.symm; subst hw2; clear HP0) | (go_at_call 22; refine (HP1.out _).mono ?_; rintro e w1 ⟨rfl, hw⟩; have hw2 := hw.symm; subst hw2; clear HP1) | (go_at_call 22; refine (HP2.out _).mono ?_; rintro e w1 ⟨rfl, hw⟩; have hw2 := hw.symm; subst hw2; clear HP2) | (go_at_call 22; refine (HP3.out _).mono ?_; rintro e w1 ⟨rfl, hw⟩; have hw2 := hw.symm; subst hw2; clear HP3))
  go_ret
  refine ⟨?_, ?_⟩
  · refine congrArg (fun z => Ending.returned (Value.int .u32 z)) ?_
    simp only [← add32]
    omega
  · first | exact (below_al w _).trans ((below_al _ _).mono (below_al w _).size) | exact Below.drewN ((below_al w _).trans ((below_al _ _).mono (below_al w _).size)) _
set_option maxRecDepth 100000 in
set_option maxHeartbeats 2000000 in
theorem up_S (x : Ins) (op code f3 top : Int) (w : World) (hx : InsOk x) : Calls Try.prog 16 #[.agg #[.int .i64 op, .int .i64 code, .int .i64 f3, .int .i64 top, .int .u8 83], .agg #[.int .i64 x.op, .int .i64 x.rd, .int .i64 x.rs1, .int .i64 x.rs2, .int .i64 x.imm, .bool x.aq, .bool x.rl, .int .i64 x.len, .int .u32 x.raw]] w fun e w' => e = .returned (.int .u32 (n32 (pkB x.imm 11 5 25 + pkB x.imm 4 0 7))) ∧ Below w.heap.size w w' := by
  have hv := hx.imm
  have HP0 : Hid (∀ w : World, Calls Try.prog 22 #[.int .i64 x.imm, .int .i64 11, .int .i64 5, .int .i64 25] w fun e w' => e = .returned (.int .u32 (n32 (pkB x.imm 11 5 25))) ∧ w' = w) := fun w => pick_11_5_25 x.imm w hv
  have HP1 : Hid (∀ w : World, Calls Try.prog 22 #[.int .i64 x.imm, .int .i64 4, .int .i64 0, .int .i64 7] w fun e w' => e = .returned (.int .u32 (n32 (pkB x.imm 4 0 7))) ∧ w' = w) := fun w => pick_4_0_7 x.imm w hv
  unfold I64 at hv
  go_enter Try.func16, Try.ntmps16
  go_wp2_with (first | (go_at_call 22; refine (HP0.out _).mono ?_; rintro e w1 ⟨rfl, hw⟩; have hw2 := hw.symm; subst hw2; clear HP0) | (go_at_call 22; refine (HP1.out _).mono ?_; rintro e w1 ⟨rfl, hw⟩; have hw2 := hw.symm; subst hw2; clear HP1))
  go_ret
  refine ⟨?_, ?_⟩
  · refine congrArg (fun z => Ending.returned (Value.int .u32 z)) ?_
    simp only [← add32]
  · first | exact (below_al w _).trans ((below_al _ _).mono (below_al w _).size) | exact Below.drewN ((below_al w _).trans ((below_al _ _).mono (below_al w _).size)) _
set_option maxRecDepth 100000 in
set_option maxHeartbeats 2000000 in
theorem up_H (x : Ins) (op code f3 top : Int) (w : World) (hx : InsOk x) : Calls Try.prog 16 #[.agg #[.int .i64 op, .int .i64 code, .int .i64 f3, .int .i64 top, .int .u8 72], .agg #[.int .i64 x.op, .int .i64 x.rd, .int .i64 x.rs1, .int .i64 x.rs2, .int .i64 x.imm, .bool x.aq, .bool x.rl, .int .i64 x.len, .int .u32 x.raw]] w fun e w' => e = .returned (.int .u32 (n32 (BitVec.ofInt 32 top <<< 26 + pkB x.imm 5 0 20))) ∧ Below w.heap.size w w' := by
  have hv := hx.imm
  have HP0 : Hid (∀ w : World, Calls Try.prog 22 #[.int .i64 x.imm, .int .i64 5, .int .i64 0, .int .i64 20] w fun e w' => e = .returned (.int .u32 (n32 (pkB x.imm 5 0 20))) ∧ w' = w) := fun w => pick_5_0_20 x.imm w hv
  unfold I64 at hv
  go_enter Try.func16, Try.ntmps16
  go_wp2_with (first | (go_at_call 22; refine (HP0.out _).mono ?_; rintro e w1 ⟨rfl, hw⟩; have hw2 := hw.symm; subst hw2; clear HP0))
  go_ret
  refine ⟨?_, ?_⟩
  · refine congrArg (fun z => Ending.returned (Value.int .u32 z)) ?_
    simp only [← add32, ← top26]
    omega
  · first | exact (below_al w _).trans ((below_al _ _).mono (below_al w _).size) | exact Below.drewN ((below_al w _).trans ((below_al _ _).mono (below_al w _).size)) _
set_option maxRecDepth 100000 in
set_option maxHeartbeats 2000000 in
theorem up_W (x : Ins) (op code f3 top : Int) (w : World) (hx : InsOk x) : Calls Try.prog 16 #[.agg #[.int .i64 op, .int .i64 code, .int .i64 f3, .int .i64 top, .int .u8 87], .agg #[.int .i64 x.op, .int .i64 x.rd, .int .i64 x.rs1, .int .i64 x.rs2, .int .i64 x.imm, .bool x.aq, .bool x.rl, .int .i64 x.len, .int .u32 x.raw]] w fun e w' => e = .returned (.int .u32 (n32 (BitVec.ofInt 32 top <<< 25 + pkB x.imm 4 0 20))) ∧ Below w.heap.size w w' := by
  have hv := hx.imm
  have HP0 : Hid (∀ w : World, Calls Try.prog 22 #[.int .i64 x.imm, .int .i64 4, .int .i64 0, .int .i64 20] w fun e w' => e = .returned (.int .u32 (n32 (pkB x.imm 4 0 20))) ∧ w' = w) := fun w => pick_4_0_20 x.imm w hv
  unfold I64 at hv
  go_enter Try.func16, Try.ntmps16
  go_wp2_with (first | (go_at_call 22; refine (HP0.out _).mono ?_; rintro e w1 ⟨rfl, hw⟩; have hw2 := hw.symm; subst hw2; clear HP0))
  go_ret
  refine ⟨?_, ?_⟩
  · refine congrArg (fun z => Ending.returned (Value.int .u32 z)) ?_
    simp only [← add32, ← top25]
    omega
  · first | exact (below_al w _).trans ((below_al _ _).mono (below_al w _).size) | exact Below.drewN ((below_al w _).trans ((below_al _ _).mono (below_al w _).size)) _
set_option maxRecDepth 100000 in
set_option maxHeartbeats 2000000 in
theorem up_R (x : Ins) (op code f3 top : Int) (w : World) (hx : InsOk x) : Calls Try.prog 16 #[.agg #[.int .i64 op, .int .i64 code, .int .i64 f3, .int .i64 top, .int .u8 82], .agg #[.int .i64 x.op, .int .i64 x.rd, .int .i64 x.rs1, .int .i64 x.rs2, .int .i64 x.imm, .bool x.aq, .bool x.rl, .int .i64 x.len, .int .u32 x.raw]] w fun e w' => e = .returned (.int .u32 (n32 (BitVec.ofInt 32 top <<< 25))) ∧ Below w.heap.size w w' := by
  have hv := hx.imm
  unfold I64 at hv
  go_enter Try.func16, Try.ntmps16
  go_wp2
  go_ret
  refine ⟨?_, ?_⟩
  · exact congrArg (fun z => Ending.returned (Value.int .u32 z)) (top25 top)
  · first | exact (below_al w _).trans ((below_al _ _).mono (below_al w _).size) | exact Below.drewN ((below_al w _).trans ((below_al _ _).mono (below_al w _).size)) _
set_option maxRecDepth 100000 in
set_option maxHeartbeats 2000000 in
theorem up_L (x : Ins) (op code f3 top : Int) (w : World) (hx : InsOk x) : Calls Try.prog 16 #[.agg #[.int .i64 op, .int .i64 code, .int .i64 f3, .int .i64 top, .int .u8 76], .agg #[.int .i64 x.op, .int .i64 x.rd, .int .i64 x.rs1, .int .i64 x.rs2, .int .i64 x.imm, .bool x.aq, .bool x.rl, .int .i64 x.len, .int .u32 x.raw]] w fun e w' => e = .returned (.int .u32 (n32 (BitVec.ofInt 32 top <<< 27 + (if x.aq then 1#32 <<< 26 else 0#32) + (if x.rl then 1#32 <<< 25 else 0#32)))) ∧ Below w.heap.size w w' := by
  have hv := hx.imm
  unfold I64 at hv
  have HBa : Hid (∀ w : World, Calls Try.prog 23 #[.bool x.aq, .int .i64 26] w fun e w' => e = .returned (.int .u32 (n32 (if x.aq then 1#32 <<< 26 else 0#32))) ∧ w' = w) := fun w => bit_c x.aq 26 (.inr rfl) w
  have HBr : Hid (∀ w : World, Calls Try.prog 23 #[.bool x.rl, .int .i64 25] w fun e w' => e = .returned (.int .u32 (n32 (if x.rl then 1#32 <<< 25 else 0#32))) ∧ w' = w) := fun w => bit_c x.rl 25 (.inl rfl) w
  generalize (if x.aq then 1#32 <<< 26 else 0#32 : BitVec 32) = qa at HBa ⊢
  generalize (if x.rl then 1#32 <<< 25 else 0#32 : BitVec 32) = qr at HBr ⊢
  obtain ⟨W, hW⟩ : ∃ W, (w.alloc (.cells #[.int .i64 op, .int .i64 code, .int .i64 f3, .int .i64 top, .int .u8 76] 40)).alloc (.cells #[.int .i64 x.op, .int .i64 x.rd, .int .i64 x.rs1, .int .i64 x.rs2, .int .i64 x.imm, .bool x.aq, .bool x.rl, .int .i64 x.len, .int .u32 x.raw] 24) = W := ⟨_, rfl⟩
  have HBW : Hid (Below w.heap.size w W) := by unfold Hid; rw [← hW]; exact (below_al w _).trans ((below_al _ _).mono (below_al w _).size)
  have k1 : W.heap[w.heap.size]? = some (.cells #[.int .i64 op, .int .i64 code, .int .i64 f3, .int .i64 top, .int .u8 76] 40 (0, 0)) := by rw [← hW]; exact (Below.heap_alloc _ _ _ (by simp)).trans (heap_alloc_new w _)
  have k2 : W.heap[w.heap.size + 1]? = some (.cells #[.int .i64 x.op, .int .i64 x.rd, .int .i64 x.rs1, .int .i64 x.rs2, .int .i64 x.imm, .bool x.aq, .bool x.rl, .int .i64 x.len, .int .u32 x.raw] 24 (0, 0)) := by rw [← hW]; have := heap_alloc_new (w.alloc (.cells #[.int .i64 op, .int .i64 code, .int .i64 f3, .int .i64 top, .int .u8 76] 40)) (.cells #[.int .i64 x.op, .int .i64 x.rd, .int .i64 x.rs1, .int .i64 x.rs2, .int .i64 x.imm, .bool x.aq, .bool x.rl, .int .i64 x.len, .int .u32 x.raw] 24); simpa using this
  have f3c : W.cell? ⟨w.heap.size, 3, none⟩ = some (.int .i64 top) := cell_of_row W _ 3 _ _ _ k1
  have f4c : W.cell? ⟨w.heap.size, 4, none⟩ = some (.int .u8 76) := cell_of_row W _ 4 _ _ _ k1
  have i4c : W.cell? ⟨w.heap.size + 1, 4, none⟩ = some (.int .i64 x.imm) := cell_of_row W _ 4 _ _ _ k2
  have i5c : W.cell? ⟨w.heap.size + 1, 5, none⟩ = some (.bool x.aq) := cell_of_row W _ 5 _ _ _ k2
  have i6c : W.cell? ⟨w.heap.size + 1, 6, none⟩ = some (.bool x.rl) := cell_of_row W _ 6 _ _ _ k2
  clear k1 k2
  go_enter Try.func16, Try.ntmps16
  go_upto_region 1 with fail
  clear hW
  go_wp2
  --@CUT
  go_region_held3 (fun w' => w'.cell? ⟨w.heap.size + 1, 5, none⟩ = some (.bool x.aq) ∧ w'.cell? ⟨w.heap.size + 1, 6, none⟩ = some (.bool x.rl)) (exact ⟨i5c, i6c⟩) (first | (go_at_call_of 23 (Value.bool x.aq); refine (HBa.out _).mono ?_; rintro e w1 ⟨rfl, hw⟩; have hw2 := hw.symm; subst hw2) | (go_at_call_of 23 (Value.bool x.rl); refine (HBr.out _).mono ?_; rintro e w1 ⟨rfl, hw⟩; have hw2 := hw.symm; subst hw2))
  --@CUT2
  all_goals go_wp2
  all_goals go_ret
  all_goals refine ⟨?_, by first | exact HBW.out | exact Below.drew HBW.out⟩
  --@CUT3
  all_goals refine congrArg (fun z => Ending.returned (Value.int .u32 z)) ?_
  all_goals simp only [wrap_u32, ← add32, ← top27]
  all_goals omega
set_option maxRecDepth 100000 in
set_option maxHeartbeats 2000000 in
theorem up_A (x : Ins) (op code f3 top : Int) (w : World) (hx : InsOk x) : Calls Try.prog 16 #[.agg #[.int .i64 op, .int .i64 code, .int .i64 f3, .int .i64 top, .int .u8 65], .agg #[.int .i64 x.op, .int .i64 x.rd, .int .i64 x.rs1, .int .i64 x.rs2, .int .i64 x.imm, .bool x.aq, .bool x.rl, .int .i64 x.len, .int .u32 x.raw]] w fun e w' => e = .returned (.int .u32 (n32 (BitVec.ofInt 32 top <<< 27 + (if x.aq then 1#32 <<< 26 else 0#32) + (if x.rl then 1#32 <<< 25 else 0#32)))) ∧ Below w.heap.size w w' := by
  have hv := hx.imm
  unfold I64 at hv
  have HBa : Hid (∀ w : World, Calls Try.prog 23 #[.bool x.aq, .int .i64 26] w fun e w' => e = .returned (.int .u32 (n32 (if x.aq then 1#32 <<< 26 else 0#32))) ∧ w' = w) := fun w => bit_c x.aq 26 (.inr rfl) w
  have HBr : Hid (∀ w : World, Calls Try.prog 23 #[.bool x.rl, .int .i64 25] w fun e w' => e = .returned (.int .u32 (n32 (if x.rl then 1#32 <<< 25 else 0#32))) ∧ w' = w) := fun w => bit_c x.rl 25 (.inl rfl) w
  generalize (if x.aq then 1#32 <<< 26 else 0#32 : BitVec 32) = qa at HBa ⊢
  generalize (if x.rl then 1#32 <<< 25 else 0#32 : BitVec 32) = qr at HBr ⊢
  obtain ⟨W, hW⟩ : ∃ W, (w.alloc (.cells #[.int .i64 op, .int .i64 code, .int .i64 f3, .int .i64 top, .int .u8 65] 40)).alloc (.cells #[.int .i64 x.op, .int .i64 x.rd, .int .i64 x.rs1, .int .i64 x.rs2, .int .i64 x.imm, .bool x.aq, .bool x.rl, .int .i64 x.len, .int .u32 x.raw] 24) = W := ⟨_, rfl⟩
  have HBW : Hid (Below w.heap.size w W) := by unfold Hid; rw [← hW]; exact (below_al w _).trans ((below_al _ _).mono (below_al w _).size)
  have k1 : W.heap[w.heap.size]? = some (.cells #[.int .i64 op, .int .i64 code, .int .i64 f3, .int .i64 top, .int .u8 65] 40 (0, 0)) := by rw [← hW]; exact (Below.heap_alloc _ _ _ (by simp)).trans (heap_alloc_new w _)
  have k2 : W.heap[w.heap.size + 1]? = some (.cells #[.int .i64 x.op, .int .i64 x.rd, .int .i64 x.rs1, .int .i64 x.rs2, .int .i64 x.imm, .bool x.aq, .bool x.rl, .int .i64 x.len, .int .u32 x.raw] 24 (0, 0)) := by rw [← hW]; have := heap_alloc_new (w.alloc (.cells #[.int .i64 op, .int .i64 code, .int .i64 f3, .int .i64 top, .int .u8 65] 40)) (.cells #[.int .i64 x.op, .int .i64 x.rd, .int .i64 x.rs1, .int .i64 x.rs2, .int .i64 x.imm, .bool x.aq, .bool x.rl, .int .i64 x.len, .int .u32 x.raw] 24); simpa using this
  have f3c : W.cell? ⟨w.heap.size, 3, none⟩ = some (.int .i64 top) := cell_of_row W _ 3 _ _ _ k1
  have f4c : W.cell? ⟨w.heap.size, 4, none⟩ = some (.int .u8 65) := cell_of_row W _ 4 _ _ _ k1
  have i4c : W.cell? ⟨w.heap.size + 1, 4, none⟩ = some (.int .i64 x.imm) := cell_of_row W _ 4 _ _ _ k2
  have i5c : W.cell? ⟨w.heap.size + 1, 5, none⟩ = some (.bool x.aq) := cell_of_row W _ 5 _ _ _ k2
  have i6c : W.cell? ⟨w.heap.size + 1, 6, none⟩ = some (.bool x.rl) := cell_of_row W _ 6 _ _ _ k2
  clear k1 k2
  go_enter Try.func16, Try.ntmps16
  go_upto_region 1 with fail
  clear hW
  go_wp2
  --@CUT
  go_region_held3 (fun w' => w'.cell? ⟨w.heap.size + 1, 5, none⟩ = some (.bool x.aq) ∧ w'.cell? ⟨w.heap.size + 1, 6, none⟩ = some (.bool x.rl)) (exact ⟨i5c, i6c⟩) (first | (go_at_call_of 23 (Value.bool x.aq); refine (HBa.out _).mono ?_; rintro e w1 ⟨rfl, hw⟩; have hw2 := hw.symm; subst hw2) | (go_at_call_of 23 (Value.bool x.rl); refine (HBr.out _).mono ?_; rintro e w1 ⟨rfl, hw⟩; have hw2 := hw.symm; subst hw2))
  --@CUT2
  all_goals go_wp2
  all_goals go_ret
  all_goals refine ⟨?_, by first | exact HBW.out | exact Below.drew HBW.out⟩
  --@CUT3
  all_goals refine congrArg (fun z => Ending.returned (Value.int .u32 z)) ?_
  all_goals simp only [wrap_u32, ← add32, ← top27]
  all_goals omega
set_option maxRecDepth 100000 in
set_option maxHeartbeats 2000000 in
theorem up_I (x : Ins) (op code f3 top : Int) (w : World) (hx : InsOk x) : Calls Try.prog 16 #[.agg #[.int .i64 op, .int .i64 code, .int .i64 f3, .int .i64 top, .int .u8 73], .agg #[.int .i64 x.op, .int .i64 x.rd, .int .i64 x.rs1, .int .i64 x.rs2, .int .i64 x.imm, .bool x.aq, .bool x.rl, .int .i64 x.len, .int .u32 x.raw]] w fun e w' => e = .returned (.int .u32 (n32 (pkB x.imm 11 0 20))) ∧ Below w.heap.size w w' := by
  have hv := hx.imm
  have HP0 : Hid (∀ w : World, Calls Try.prog 22 #[.int .i64 x.imm, .int .i64 11, .int .i64 0, .int .i64 20] w fun e w' => e = .returned (.int .u32 (n32 (pkB x.imm 11 0 20))) ∧ w' = w) := fun w => pick_11_0_20 x.imm w hv
  unfold I64 at hv
  go_enter Try.func16, Try.ntmps16
  go_wp2_with (first | (go_at_call 22; refine (HP0.out _).mono ?_; rintro e w1 ⟨rfl, hw⟩; have hw2 := hw.symm; subst hw2; clear HP0))
  go_ret
  refine ⟨?_, ?_⟩
  · rfl
  · first | exact (below_al w _).trans ((below_al _ _).mono (below_al w _).size) | exact Below.drewN ((below_al w _).trans ((below_al _ _).mono (below_al w _).size)) _
set_option maxRecDepth 100000 in
set_option maxHeartbeats 2000000 in
theorem up_N (x : Ins) (op code f3 top : Int) (w : World) (hx : InsOk x) : Calls Try.prog 16 #[.agg #[.int .i64 op, .int .i64 code, .int .i64 f3, .int .i64 top, .int .u8 78], .agg #[.int .i64 x.op, .int .i64 x.rd, .int .i64 x.rs1, .int .i64 x.rs2, .int .i64 x.imm, .bool x.aq, .bool x.rl, .int .i64 x.len, .int .u32 x.raw]] w fun e w' => e = .returned (.int .u32 (n32 (pkB x.imm 11 0 20))) ∧ Below w.heap.size w w' := by
  have hv := hx.imm
  have HP0 : Hid (∀ w : World, Calls Try.prog 22 #[.int .i64 x.imm, .int .i64 11, .int .i64 0, .int .i64 20] w fun e w' => e = .returned (.int .u32 (n32 (pkB x.imm 11 0 20))) ∧ w' = w) := fun w => pick_11_0_20 x.imm w hv
  unfold I64 at hv
  go_enter Try.func16, Try.ntmps16
  go_wp2_with (first | (go_at_call 22; refine (HP0.out _).mono ?_; rintro e w1 ⟨rfl, hw⟩; have hw2 := hw.symm; subst hw2; clear HP0))
  go_ret
  refine ⟨?_, ?_⟩
  · rfl
  · first | exact (below_al w _).trans ((below_al _ _).mono (below_al w _).size) | exact Below.drewN ((below_al w _).trans ((below_al _ _).mono (below_al w _).size)) _
end Go.Proofs.Ytechkhlibdkmpac
