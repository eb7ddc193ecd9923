/-
  Encode of the reference.
-/
import Derived.Test.YtechkhlibdkmpacEu
import Derived.Test.YtechkhlibdkmpacEr
namespace Go.Proofs.Ytechkhlibdkmpac
set_option linter.unusedVariables false
open Go.ChangeShapes Go.WideShapes Go.ChangeAt Go.RowKit Go.Deep
def sUJ : ByteArray := ⟨#[85, 74]⟩
theorem fmSize : (Try.prog.info? 40).map (·.size) = some 5 := by kernel_rfl
set_option maxRecDepth 100000 in
set_option maxHeartbeats 2000000 in
theorem renc_bad (x : Ins) (w : World) (hx : InsOk x) (rc : Int) (hrc : rck x = rc) (h0 : rc ≠ 0) : Calls Try.prog 9 #[.agg (insv x)] w fun e w' => e = .returned (.tuple #[.int .u32 0, .int .i64 rc]) ∧ Below w.heap.size w w' := by
  have HK : Hid (∀ w : World, Calls Try.prog 7 #[.agg #[.int .i64 x.op, .int .i64 x.rd, .int .i64 x.rs1, .int .i64 x.rs2, .int .i64 x.imm, .bool x.aq, .bool x.rl, .int .i64 x.len, .int .u32 x.raw]] w fun e w' => e = .returned (.int .i64 rc) ∧ Below w.heap.size w w') := fun w => hrc ▸ rcheck_c x w hx
  obtain ⟨W, hW⟩ : ∃ W, w.alloc (.cells #[.int .i64 x.op, .int .i64 x.rd, .int .i64 x.rs1, .int .i64 x.rs2, .int .i64 x.imm, .bool x.aq, .bool x.rl, .int .i64 x.len, .int .u32 x.raw] 24) = W := ⟨_, rfl⟩
  have HBW : Hid (Below w.heap.size w W) := by unfold Hid; rw [← hW]; exact below_al w _
  have K1 : Hid (W.heap[w.heap.size]? = some (.cells #[.int .i64 x.op, .int .i64 x.rd, .int .i64 x.rs1, .int .i64 x.rs2, .int .i64 x.imm, .bool x.aq, .bool x.rl, .int .i64 x.len, .int .u32 x.raw] 24 (0, 0))) := by unfold Hid; rw [← hW]; exact heap_alloc_new w _
  have hq : (rc == 0) = false := by simpa using h0
  clear hx hrc
  unfold insv
  go_enter Try.func9, Try.ntmps9
  go_upto_region 1 with fail
  clear hW
  go_wp2_with (first | (refine wpList_load_row (by rfl) _ _ (by rfl) _ (by rfl) 24 _ (0, 0) _ K1.out Try.underlying24 (by rfl) insSize ?_) | (go_at_call 7; refine (HK.out _).mono ?_; rintro e w2 ⟨rfl, hb⟩; have HB2 : Hid (Below W.heap.size W w2) := hb; clear hb))
  go_ret2
  exact ⟨rfl, HBW.out.trans (HB2.out.mono HBW.out.size)⟩
set_option maxRecDepth 100000 in
set_option maxHeartbeats 2000000 in
theorem renc_Z (x : Ins) (w : World) (hx : InsOk x) (hrc : rck x = 0) (op code f3 top : Int) (hfm : fmOf x.op = ⟨op, code, f3, top, 90⟩) : Calls Try.prog 9 #[.agg (insv x)] w fun e w' => e = .returned (.tuple #[.int .u32 (n32 (BitVec.ofInt 32 top)), .int .i64 0]) ∧ Below w.heap.size w w' := by
  have HK : Hid (∀ w : World, Calls Try.prog 7 #[.agg #[.int .i64 x.op, .int .i64 x.rd, .int .i64 x.rs1, .int .i64 x.rs2, .int .i64 x.imm, .bool x.aq, .bool x.rl, .int .i64 x.len, .int .u32 x.raw]] w fun e w' => e = .returned (.int .i64 0) ∧ Below w.heap.size w w') := fun w => hrc ▸ rcheck_c x w hx
  obtain ⟨W, hW⟩ : ∃ W, w.alloc (.cells #[.int .i64 x.op, .int .i64 x.rd, .int .i64 x.rs1, .int .i64 x.rs2, .int .i64 x.imm, .bool x.aq, .bool x.rl, .int .i64 x.len, .int .u32 x.raw] 24) = W := ⟨_, rfl⟩
  have HBW : Hid (Below w.heap.size w W) := by unfold Hid; rw [← hW]; exact below_al w _
  have K1 : Hid (W.heap[w.heap.size]? = some (.cells #[.int .i64 x.op, .int .i64 x.rd, .int .i64 x.rs1, .int .i64 x.rs2, .int .i64 x.imm, .bool x.aq, .bool x.rl, .int .i64 x.len, .int .u32 x.raw] 24 (0, 0))) := by unfold Hid; rw [← hW]; exact heap_alloc_new w _
  have HF : Hid (∀ w : World, Calls Try.prog 11 #[.int .i64 x.op] w fun e w' => e = .returned (.agg #[.int .i64 op, .int .i64 code, .int .i64 f3, .int .i64 top, .int .u8 90]) ∧ Below w.heap.size w w') := fun w => (form_c x.op w hx.op).mono fun e w' ⟨he, hb⟩ => ⟨by rw [he, hfm]; rfl, hb⟩
  have a0 : W.cell? ⟨w.heap.size, 0, none⟩ = some (.int .i64 x.op) := cell_of_row W _ 0 _ _ _ K1.out
  have HRX : Hid (I64 x.rd ∧ I64 x.rs1 ∧ I64 x.rs2) := ⟨hx.rd, hx.rs1, hx.rs2⟩
  clear hx hrc hfm
  unfold insv
  go_enter Try.func9, Try.ntmps9
  go_upto_region 1 with fail
  clear hW
  go_upto_region 5 with (first | (refine wpList_load_row (by rfl) _ _ (by rfl) _ (by rfl) 24 _ (0, 0) _ K1.out Try.underlying24 (by rfl) insSize ?_) | (go_at_call 7; refine (HK.out _).mono ?_; rintro e w2 ⟨rfl, hb⟩; have HB2 : Hid (Below W.heap.size W w2) := hb; have a0 : w2.cell? ⟨w.heap.size, 0, none⟩ = some (.int .i64 x.op) := cell_of_row w2 _ 0 _ _ _ ((hb.block _ (Array.getElem?_eq_some_iff.1 K1.out).1).trans K1.out); clear hb) | (go_at_call 11; refine (HF.out _).mono ?_; rintro e w3 ⟨rfl, hb⟩; have HB3 : Hid (Below W.heap.size W w3) := HB2.out.trans (hb.mono HB2.out.size); clear hb) | (refine wpList_store_new (w := w3) (by rfl) 40 _ _ (by rfl) (by rfl) _ #[.int .i64 op, .int .i64 code, .int .i64 f3, .int .i64 top, .int .u8 90] (by rfl) (by rfl) fmSize (by rfl) (formOne _ _ _ _ _) ?_))
  generalize hW4 : w3.alloc (.cells #[.int .i64 op, .int .i64 code, .int .i64 f3, .int .i64 top, .int .u8 90] 40) = W4
  have h34 : Below w3.heap.size w3 W4 := by rw [← hW4]; exact below_al w3 _
  have HB4 : Hid (Below W.heap.size W W4) := HB3.out.trans (h34.mono HB3.out.size)
  have KF : Hid (W4.heap[w3.heap.size]? = some (.cells #[.int .i64 op, .int .i64 code, .int .i64 f3, .int .i64 top, .int .u8 90] 40 (0, 0))) := by unfold Hid; rw [← hW4]; exact heap_alloc_new w3 _
  have KI : Hid (W4.heap[w.heap.size]? = some (.cells #[.int .i64 x.op, .int .i64 x.rd, .int .i64 x.rs1, .int .i64 x.rs2, .int .i64 x.imm, .bool x.aq, .bool x.rl, .int .i64 x.len, .int .u32 x.raw] 24 (0, 0))) := (HB4.out.block _ (Array.getElem?_eq_some_iff.1 K1.out).1).trans K1.out
  have HCF : Hid (∀ w', Below W4.heap.size W4 w' → w'.cell? ⟨w3.heap.size, 0, none⟩ = some (.int .i64 op) ∧ w'.cell? ⟨w3.heap.size, 1, none⟩ = some (.int .i64 code) ∧ w'.cell? ⟨w3.heap.size, 2, none⟩ = some (.int .i64 f3) ∧ w'.cell? ⟨w3.heap.size, 3, none⟩ = some (.int .i64 top) ∧ w'.cell? ⟨w3.heap.size, 4, none⟩ = some (.int .u8 90)) := fun w' hb => by
    have hr : w'.heap[w3.heap.size]? = some (.cells #[.int .i64 op, .int .i64 code, .int .i64 f3, .int .i64 top, .int .u8 90] 40 (0, 0)) := (hb.block _ (Array.getElem?_eq_some_iff.1 KF.out).1).trans KF.out
    exact ⟨cell_of_row w' _ 0 _ _ _ hr, cell_of_row w' _ 1 _ _ _ hr, cell_of_row w' _ 2 _ _ _ hr, cell_of_row w' _ 3 _ _ _ hr, cell_of_row w' _ 4 _ _ _ hr⟩
  have HCI : Hid (∀ w', Below W4.heap.size W4 w' → w'.cell? ⟨w.heap.size, 0, none⟩ = some (.int .i64 x.op) ∧ w'.cell? ⟨w.heap.size, 1, none⟩ = some (.int .i64 x.rd) ∧ w'.cell? ⟨w.heap.size, 2, none⟩ = some (.int .i64 x.rs1) ∧ w'.cell? ⟨w.heap.size, 3, none⟩ = some (.int .i64 x.rs2) ∧ w'.cell? ⟨w.heap.size, 4, none⟩ = some (.int .i64 x.imm) ∧ w'.cell? ⟨w.heap.size, 5, none⟩ = some (.bool x.aq) ∧ w'.cell? ⟨w.heap.size, 6, none⟩ = some (.bool x.rl) ∧ w'.cell? ⟨w.heap.size, 7, none⟩ = some (.int .i64 x.len) ∧ w'.cell? ⟨w.heap.size, 8, none⟩ = some (.int .u32 x.raw)) := fun w' hb => by
    have hr : w'.heap[w.heap.size]? = some (.cells #[.int .i64 x.op, .int .i64 x.rd, .int .i64 x.rs1, .int .i64 x.rs2, .int .i64 x.imm, .bool x.aq, .bool x.rl, .int .i64 x.len, .int .u32 x.raw] 24 (0, 0)) := (hb.block _ (Array.getElem?_eq_some_iff.1 KI.out).1).trans KI.out
    exact ⟨cell_of_row w' _ 0 _ _ _ hr, cell_of_row w' _ 1 _ _ _ hr, cell_of_row w' _ 2 _ _ _ hr, cell_of_row w' _ 3 _ _ _ hr, cell_of_row w' _ 4 _ _ _ hr, cell_of_row w' _ 5 _ _ _ hr, cell_of_row w' _ 6 _ _ _ hr, cell_of_row w' _ 7 _ _ _ hr, cell_of_row w' _ 8 _ _ _ hr⟩
  clear hW4 h34 a0
  obtain ⟨b0, b1, b2, b3, b4⟩ := HCF.out W4 (Below.refl _ _)
  obtain ⟨a0, a1, a2, a3, a4, a5, a6, a7, a8⟩ := HCI.out W4 (Below.refl _ _)
  generalize w3.heap.size = s3 at *
  --@CUT1
  go_wp2
  --@CUT2
  go_ret2
  exact ⟨by rw [← mod32]; rfl, HBW.out.trans (HB4.out.mono HBW.out.size)⟩
set_option maxRecDepth 100000 in
set_option maxHeartbeats 2000000 in
theorem renc_u (x : Ins) (w : World) (hx : InsOk x) (hrc : rck x = 0) (op code f3 top k : Int) (hfm : fmOf x.op = ⟨op, code, f3, top, k⟩) (hk : (k == 90) = false) (hk8 : 0 ≤ k ∧ k ≤ 255) (huj : inS k sUJ = true) (u : BitVec 32)
    (hU : ∀ w : World, Calls Try.prog 16 #[.agg #[.int .i64 op, .int .i64 code, .int .i64 f3, .int .i64 top, .int .u8 k], .agg #[.int .i64 x.op, .int .i64 x.rd, .int .i64 x.rs1, .int .i64 x.rs2, .int .i64 x.imm, .bool x.aq, .bool x.rl, .int .i64 x.len, .int .u32 x.raw]] w fun e w' => e = .returned (.int .u32 (n32 u)) ∧ Below w.heap.size w w') : Calls Try.prog 9 #[.agg (insv x)] w fun e w' => e = .returned (.tuple #[.int .u32 (n32 (BitVec.ofInt 32 code + u + BitVec.ofInt 32 x.rd <<< 7 + BitVec.ofInt 32 x.rs1 <<< 15 + BitVec.ofInt 32 x.rs2 <<< 20)), .int .i64 0]) ∧ Below w.heap.size w w' := by
  have HU : Hid (∀ w : World, Calls Try.prog 16 #[.agg #[.int .i64 op, .int .i64 code, .int .i64 f3, .int .i64 top, .int .u8 k], .agg #[.int .i64 x.op, .int .i64 x.rd, .int .i64 x.rs1, .int .i64 x.rs2, .int .i64 x.imm, .bool x.aq, .bool x.rl, .int .i64 x.len, .int .u32 x.raw]] w fun e w' => e = .returned (.int .u32 (n32 u)) ∧ Below w.heap.size w w') := hU
  have HO : Hid (∀ w : World, Calls Try.prog 13 #[.int .u8 k, .string ⟨#[85, 74]⟩] w fun e w' => e = .returned (.bool true) ∧ w' = w) := fun w => huj ▸ one_s k sUJ w hk8 (by decide)
  obtain ⟨A, hA⟩ : ∃ A : BitVec 32, A = BitVec.ofInt 32 code + u := ⟨_, rfl⟩
  have HA : Hid (A = BitVec.ofInt 32 code + u) := hA
  rw [← hA]
  clear hU huj hA
  have HK : Hid (∀ w : World, Calls Try.prog 7 #[.agg #[.int .i64 x.op, .int .i64 x.rd, .int .i64 x.rs1, .int .i64 x.rs2, .int .i64 x.imm, .bool x.aq, .bool x.rl, .int .i64 x.len, .int .u32 x.raw]] w fun e w' => e = .returned (.int .i64 0) ∧ Below w.heap.size w w') := fun w => hrc ▸ rcheck_c x w hx
  obtain ⟨W, hW⟩ : ∃ W, w.alloc (.cells #[.int .i64 x.op, .int .i64 x.rd, .int .i64 x.rs1, .int .i64 x.rs2, .int .i64 x.imm, .bool x.aq, .bool x.rl, .int .i64 x.len, .int .u32 x.raw] 24) = W := ⟨_, rfl⟩
  have HBW : Hid (Below w.heap.size w W) := by unfold Hid; rw [← hW]; exact below_al w _
  have K1 : Hid (W.heap[w.heap.size]? = some (.cells #[.int .i64 x.op, .int .i64 x.rd, .int .i64 x.rs1, .int .i64 x.rs2, .int .i64 x.imm, .bool x.aq, .bool x.rl, .int .i64 x.len, .int .u32 x.raw] 24 (0, 0))) := by unfold Hid; rw [← hW]; exact heap_alloc_new w _
  have HF : Hid (∀ w : World, Calls Try.prog 11 #[.int .i64 x.op] w fun e w' => e = .returned (.agg #[.int .i64 op, .int .i64 code, .int .i64 f3, .int .i64 top, .int .u8 k]) ∧ Below w.heap.size w w') := fun w => (form_c x.op w hx.op).mono fun e w' ⟨he, hb⟩ => ⟨by rw [he, hfm]; rfl, hb⟩
  have a0 : W.cell? ⟨w.heap.size, 0, none⟩ = some (.int .i64 x.op) := cell_of_row W _ 0 _ _ _ K1.out
  have HRX : Hid (I64 x.rd ∧ I64 x.rs1 ∧ I64 x.rs2) := ⟨hx.rd, hx.rs1, hx.rs2⟩
  clear hx hrc hfm
  unfold insv
  go_enter Try.func9, Try.ntmps9
  go_upto_region 1 with fail
  clear hW
  go_upto_region 5 with (first | (refine wpList_load_row (by rfl) _ _ (by rfl) _ (by rfl) 24 _ (0, 0) _ K1.out Try.underlying24 (by rfl) insSize ?_) | (go_at_call 7; refine (HK.out _).mono ?_; rintro e w2 ⟨rfl, hb⟩; have HB2 : Hid (Below W.heap.size W w2) := hb; have a0 : w2.cell? ⟨w.heap.size, 0, none⟩ = some (.int .i64 x.op) := cell_of_row w2 _ 0 _ _ _ ((hb.block _ (Array.getElem?_eq_some_iff.1 K1.out).1).trans K1.out); clear hb) | (go_at_call 11; refine (HF.out _).mono ?_; rintro e w3 ⟨rfl, hb⟩; have HB3 : Hid (Below W.heap.size W w3) := HB2.out.trans (hb.mono HB2.out.size); clear hb) | (refine wpList_store_new (w := w3) (by rfl) 40 _ _ (by rfl) (by rfl) _ #[.int .i64 op, .int .i64 code, .int .i64 f3, .int .i64 top, .int .u8 k] (by rfl) (by rfl) fmSize (by rfl) (formOne _ _ _ _ _) ?_))
  generalize hW4 : w3.alloc (.cells #[.int .i64 op, .int .i64 code, .int .i64 f3, .int .i64 top, .int .u8 k] 40) = W4
  have h34 : Below w3.heap.size w3 W4 := by rw [← hW4]; exact below_al w3 _
  have HB4 : Hid (Below W.heap.size W W4) := HB3.out.trans (h34.mono HB3.out.size)
  have KF : Hid (W4.heap[w3.heap.size]? = some (.cells #[.int .i64 op, .int .i64 code, .int .i64 f3, .int .i64 top, .int .u8 k] 40 (0, 0))) := by unfold Hid; rw [← hW4]; exact heap_alloc_new w3 _
  have KI : Hid (W4.heap[w.heap.size]? = some (.cells #[.int .i64 x.op, .int .i64 x.rd, .int .i64 x.rs1, .int .i64 x.rs2, .int .i64 x.imm, .bool x.aq, .bool x.rl, .int .i64 x.len, .int .u32 x.raw] 24 (0, 0))) := (HB4.out.block _ (Array.getElem?_eq_some_iff.1 K1.out).1).trans K1.out
  have HCF : Hid (∀ w', Below W4.heap.size W4 w' → w'.cell? ⟨w3.heap.size, 0, none⟩ = some (.int .i64 op) ∧ w'.cell? ⟨w3.heap.size, 1, none⟩ = some (.int .i64 code) ∧ w'.cell? ⟨w3.heap.size, 2, none⟩ = some (.int .i64 f3) ∧ w'.cell? ⟨w3.heap.size, 3, none⟩ = some (.int .i64 top) ∧ w'.cell? ⟨w3.heap.size, 4, none⟩ = some (.int .u8 k)) := fun w' hb => by
    have hr : w'.heap[w3.heap.size]? = some (.cells #[.int .i64 op, .int .i64 code, .int .i64 f3, .int .i64 top, .int .u8 k] 40 (0, 0)) := (hb.block _ (Array.getElem?_eq_some_iff.1 KF.out).1).trans KF.out
    exact ⟨cell_of_row w' _ 0 _ _ _ hr, cell_of_row w' _ 1 _ _ _ hr, cell_of_row w' _ 2 _ _ _ hr, cell_of_row w' _ 3 _ _ _ hr, cell_of_row w' _ 4 _ _ _ hr⟩
  have HCI : Hid (∀ w', Below W4.heap.size W4 w' → w'.cell? ⟨w.heap.size, 0, none⟩ = some (.int .i64 x.op) ∧ w'.cell? ⟨w.heap.size, 1, none⟩ = some (.int .i64 x.rd) ∧ w'.cell? ⟨w.heap.size, 2, none⟩ = some (.int .i64 x.rs1) ∧ w'.cell? ⟨w.heap.size, 3, none⟩ = some (.int .i64 x.rs2) ∧ w'.cell? ⟨w.heap.size, 4, none⟩ = some (.int .i64 x.imm) ∧ w'.cell? ⟨w.heap.size, 5, none⟩ = some (.bool x.aq) ∧ w'.cell? ⟨w.heap.size, 6, none⟩ = some (.bool x.rl) ∧ w'.cell? ⟨w.heap.size, 7, none⟩ = some (.int .i64 x.len) ∧ w'.cell? ⟨w.heap.size, 8, none⟩ = some (.int .u32 x.raw)) := fun w' hb => by
    have hr : w'.heap[w.heap.size]? = some (.cells #[.int .i64 x.op, .int .i64 x.rd, .int .i64 x.rs1, .int .i64 x.rs2, .int .i64 x.imm, .bool x.aq, .bool x.rl, .int .i64 x.len, .int .u32 x.raw] 24 (0, 0)) := (hb.block _ (Array.getElem?_eq_some_iff.1 KI.out).1).trans KI.out
    exact ⟨cell_of_row w' _ 0 _ _ _ hr, cell_of_row w' _ 1 _ _ _ hr, cell_of_row w' _ 2 _ _ _ hr, cell_of_row w' _ 3 _ _ _ hr, cell_of_row w' _ 4 _ _ _ hr, cell_of_row w' _ 5 _ _ _ hr, cell_of_row w' _ 6 _ _ _ hr, cell_of_row w' _ 7 _ _ _ hr, cell_of_row w' _ 8 _ _ _ hr⟩
  clear hW4 h34 a0
  obtain ⟨b0, b1, b2, b3, b4⟩ := HCF.out W4 (Below.refl _ _)
  obtain ⟨a0, a1, a2, a3, a4, a5, a6, a7, a8⟩ := HCI.out W4 (Below.refl _ _)
  generalize w3.heap.size = s3 at *
  --@CUT1
  go_upto_region 7 with fail
  --@CUT2
  have HB0 : Hid (Below W4.heap.size W4 W4) := Below.refl _ _
  go_cut [6] from 21 to 27 (fun v wx => v = .int .u32 (n32 A) ∧ Below W4.heap.size W4 wx)
  case first =>
    go_region_held3 (fun w' => (w'.cell? ⟨s3, 0, none⟩ = some (.int .i64 op) ∧ w'.cell? ⟨s3, 1, none⟩ = some (.int .i64 code) ∧ w'.cell? ⟨s3, 2, none⟩ = some (.int .i64 f3) ∧ w'.cell? ⟨s3, 3, none⟩ = some (.int .i64 top) ∧ w'.cell? ⟨s3, 4, none⟩ = some (.int .u8 k)) ∧ (w'.cell? ⟨w.heap.size, 0, none⟩ = some (.int .i64 x.op) ∧ w'.cell? ⟨w.heap.size, 1, none⟩ = some (.int .i64 x.rd) ∧ w'.cell? ⟨w.heap.size, 2, none⟩ = some (.int .i64 x.rs1) ∧ w'.cell? ⟨w.heap.size, 3, none⟩ = some (.int .i64 x.rs2) ∧ w'.cell? ⟨w.heap.size, 4, none⟩ = some (.int .i64 x.imm) ∧ w'.cell? ⟨w.heap.size, 5, none⟩ = some (.bool x.aq) ∧ w'.cell? ⟨w.heap.size, 6, none⟩ = some (.bool x.rl) ∧ w'.cell? ⟨w.heap.size, 7, none⟩ = some (.int .i64 x.len) ∧ w'.cell? ⟨w.heap.size, 8, none⟩ = some (.int .u32 x.raw))) (first | exact ⟨HCF.out _ HB0.out, HCI.out _ HB0.out⟩ | exact ⟨HCF.out _ (Below.drew HB0.out), HCI.out _ (Below.drew HB0.out)⟩) (first | (go_at_call 16; refine (HU.out _).mono ?_; rintro e w5 ⟨rfl, hb⟩; have HB1 : Hid (Below W4.heap.size W4 w5) := (by first | exact HB0.out.trans (hb.mono HB0.out.size) | exact (Below.drew HB0.out).trans (hb.mono HB0.out.size)); clear HB0; have HB0 := HB1; clear HB1 hb))
    --@CUT3
    all_goals go_wp2_with fail
    all_goals go_meet
    all_goals refine ⟨?_, HB0.out⟩
    all_goals rw [HA.out]
    --@CUT3b
    all_goals first | (simp only [wrap_u32, mod32 code, add32]; done) | (rw [← add32, ← mod32])
  case rest =>
    obtain ⟨rfl, hb⟩ := hcut
    have HB5 : Hid (Below W4.heap.size W4 wc) := hb
    clear hb b0 b1 b2 b3 b4 a0 a1 a2 a3 a4 a5 a6 a7 a8 HB0
    obtain ⟨b0, b1, b2, b3, b4⟩ := HCF.out wc HB5.out
    obtain ⟨a0, a1, a2, a3, a4, a5, a6, a7, a8⟩ := HCI.out wc HB5.out
    --@CUT4
    go_wp2_with (first | (go_at_call 13; refine (HO.out _).mono ?_; rintro e w6 ⟨rfl, hw⟩; have hw2 := hw.symm; subst hw2))
    --@CUT5
    go_ret2
    refine ⟨?_, HBW.out.trans ((HB4.out.trans (HB5.out.mono HB4.out.size)).mono HBW.out.size)⟩
    refine congrArg (fun z => Ending.returned (Value.tuple #[Value.int .u32 z, Value.int .i64 0])) ?_
    simp only [← add32, ← top7, ← top15, ← top20]
    generalize x.rd % 4294967296 * 128 = t1
    generalize x.rs1 % 4294967296 * 32768 = t2
    generalize x.rs2 % 4294967296 * 1048576 = t3

    generalize n32 A = t5

    omega
set_option maxRecDepth 100000 in
set_option maxHeartbeats 2000000 in
theorem renc_n (x : Ins) (w : World) (hx : InsOk x) (hrc : rck x = 0) (op code f3 top k : Int) (hfm : fmOf x.op = ⟨op, code, f3, top, k⟩) (hk : (k == 90) = false) (hk8 : 0 ≤ k ∧ k ≤ 255) (huj : inS k sUJ = false) (u : BitVec 32)
    (hU : ∀ w : World, Calls Try.prog 16 #[.agg #[.int .i64 op, .int .i64 code, .int .i64 f3, .int .i64 top, .int .u8 k], .agg #[.int .i64 x.op, .int .i64 x.rd, .int .i64 x.rs1, .int .i64 x.rs2, .int .i64 x.imm, .bool x.aq, .bool x.rl, .int .i64 x.len, .int .u32 x.raw]] w fun e w' => e = .returned (.int .u32 (n32 u)) ∧ Below w.heap.size w w') : Calls Try.prog 9 #[.agg (insv x)] w fun e w' => e = .returned (.tuple #[.int .u32 (n32 (BitVec.ofInt 32 code + u + BitVec.ofInt 32 f3 <<< 12 + BitVec.ofInt 32 x.rd <<< 7 + BitVec.ofInt 32 x.rs1 <<< 15 + BitVec.ofInt 32 x.rs2 <<< 20)), .int .i64 0]) ∧ Below w.heap.size w w' := by
  have HU : Hid (∀ w : World, Calls Try.prog 16 #[.agg #[.int .i64 op, .int .i64 code, .int .i64 f3, .int .i64 top, .int .u8 k], .agg #[.int .i64 x.op, .int .i64 x.rd, .int .i64 x.rs1, .int .i64 x.rs2, .int .i64 x.imm, .bool x.aq, .bool x.rl, .int .i64 x.len, .int .u32 x.raw]] w fun e w' => e = .returned (.int .u32 (n32 u)) ∧ Below w.heap.size w w') := hU
  have HO : Hid (∀ w : World, Calls Try.prog 13 #[.int .u8 k, .string ⟨#[85, 74]⟩] w fun e w' => e = .returned (.bool false) ∧ w' = w) := fun w => huj ▸ one_s k sUJ w hk8 (by decide)
  obtain ⟨A, hA⟩ : ∃ A : BitVec 32, A = BitVec.ofInt 32 code + u := ⟨_, rfl⟩
  have HA : Hid (A = BitVec.ofInt 32 code + u) := hA
  rw [← hA]
  clear hU huj hA
  have HK : Hid (∀ w : World, Calls Try.prog 7 #[.agg #[.int .i64 x.op, .int .i64 x.rd, .int .i64 x.rs1, .int .i64 x.rs2, .int .i64 x.imm, .bool x.aq, .bool x.rl, .int .i64 x.len, .int .u32 x.raw]] w fun e w' => e = .returned (.int .i64 0) ∧ Below w.heap.size w w') := fun w => hrc ▸ rcheck_c x w hx
  obtain ⟨W, hW⟩ : ∃ W, w.alloc (.cells #[.int .i64 x.op, .int .i64 x.rd, .int .i64 x.rs1, .int .i64 x.rs2, .int .i64 x.imm, .bool x.aq, .bool x.rl, .int .i64 x.len, .int .u32 x.raw] 24) = W := ⟨_, rfl⟩
  have HBW : Hid (Below w.heap.size w W) := by unfold Hid; rw [← hW]; exact below_al w _
  have K1 : Hid (W.heap[w.heap.size]? = some (.cells #[.int .i64 x.op, .int .i64 x.rd, .int .i64 x.rs1, .int .i64 x.rs2, .int .i64 x.imm, .bool x.aq, .bool x.rl, .int .i64 x.len, .int .u32 x.raw] 24 (0, 0))) := by unfold Hid; rw [← hW]; exact heap_alloc_new w _
  have HF : Hid (∀ w : World, Calls Try.prog 11 #[.int .i64 x.op] w fun e w' => e = .returned (.agg #[.int .i64 op, .int .i64 code, .int .i64 f3, .int .i64 top, .int .u8 k]) ∧ Below w.heap.size w w') := fun w => (form_c x.op w hx.op).mono fun e w' ⟨he, hb⟩ => ⟨by rw [he, hfm]; rfl, hb⟩
  have a0 : W.cell? ⟨w.heap.size, 0, none⟩ = some (.int .i64 x.op) := cell_of_row W _ 0 _ _ _ K1.out
  have HRX : Hid (I64 x.rd ∧ I64 x.rs1 ∧ I64 x.rs2) := ⟨hx.rd, hx.rs1, hx.rs2⟩
  clear hx hrc hfm
  unfold insv
  go_enter Try.func9, Try.ntmps9
  go_upto_region 1 with fail
  clear hW
  go_upto_region 5 with (first | (refine wpList_load_row (by rfl) _ _ (by rfl) _ (by rfl) 24 _ (0, 0) _ K1.out Try.underlying24 (by rfl) insSize ?_) | (go_at_call 7; refine (HK.out _).mono ?_; rintro e w2 ⟨rfl, hb⟩; have HB2 : Hid (Below W.heap.size W w2) := hb; have a0 : w2.cell? ⟨w.heap.size, 0, none⟩ = some (.int .i64 x.op) := cell_of_row w2 _ 0 _ _ _ ((hb.block _ (Array.getElem?_eq_some_iff.1 K1.out).1).trans K1.out); clear hb) | (go_at_call 11; refine (HF.out _).mono ?_; rintro e w3 ⟨rfl, hb⟩; have HB3 : Hid (Below W.heap.size W w3) := HB2.out.trans (hb.mono HB2.out.size); clear hb) | (refine wpList_store_new (w := w3) (by rfl) 40 _ _ (by rfl) (by rfl) _ #[.int .i64 op, .int .i64 code, .int .i64 f3, .int .i64 top, .int .u8 k] (by rfl) (by rfl) fmSize (by rfl) (formOne _ _ _ _ _) ?_))
  generalize hW4 : w3.alloc (.cells #[.int .i64 op, .int .i64 code, .int .i64 f3, .int .i64 top, .int .u8 k] 40) = W4
  have h34 : Below w3.heap.size w3 W4 := by rw [← hW4]; exact below_al w3 _
  have HB4 : Hid (Below W.heap.size W W4) := HB3.out.trans (h34.mono HB3.out.size)
  have KF : Hid (W4.heap[w3.heap.size]? = some (.cells #[.int .i64 op, .int .i64 code, .int .i64 f3, .int .i64 top, .int .u8 k] 40 (0, 0))) := by unfold Hid; rw [← hW4]; exact heap_alloc_new w3 _
  have KI : Hid (W4.heap[w.heap.size]? = some (.cells #[.int .i64 x.op, .int .i64 x.rd, .int .i64 x.rs1, .int .i64 x.rs2, .int .i64 x.imm, .bool x.aq, .bool x.rl, .int .i64 x.len, .int .u32 x.raw] 24 (0, 0))) := (HB4.out.block _ (Array.getElem?_eq_some_iff.1 K1.out).1).trans K1.out
  have HCF : Hid (∀ w', Below W4.heap.size W4 w' → w'.cell? ⟨w3.heap.size, 0, none⟩ = some (.int .i64 op) ∧ w'.cell? ⟨w3.heap.size, 1, none⟩ = some (.int .i64 code) ∧ w'.cell? ⟨w3.heap.size, 2, none⟩ = some (.int .i64 f3) ∧ w'.cell? ⟨w3.heap.size, 3, none⟩ = some (.int .i64 top) ∧ w'.cell? ⟨w3.heap.size, 4, none⟩ = some (.int .u8 k)) := fun w' hb => by
    have hr : w'.heap[w3.heap.size]? = some (.cells #[.int .i64 op, .int .i64 code, .int .i64 f3, .int .i64 top, .int .u8 k] 40 (0, 0)) := (hb.block _ (Array.getElem?_eq_some_iff.1 KF.out).1).trans KF.out
    exact ⟨cell_of_row w' _ 0 _ _ _ hr, cell_of_row w' _ 1 _ _ _ hr, cell_of_row w' _ 2 _ _ _ hr, cell_of_row w' _ 3 _ _ _ hr, cell_of_row w' _ 4 _ _ _ hr⟩
  have HCI : Hid (∀ w', Below W4.heap.size W4 w' → w'.cell? ⟨w.heap.size, 0, none⟩ = some (.int .i64 x.op) ∧ w'.cell? ⟨w.heap.size, 1, none⟩ = some (.int .i64 x.rd) ∧ w'.cell? ⟨w.heap.size, 2, none⟩ = some (.int .i64 x.rs1) ∧ w'.cell? ⟨w.heap.size, 3, none⟩ = some (.int .i64 x.rs2) ∧ w'.cell? ⟨w.heap.size, 4, none⟩ = some (.int .i64 x.imm) ∧ w'.cell? ⟨w.heap.size, 5, none⟩ = some (.bool x.aq) ∧ w'.cell? ⟨w.heap.size, 6, none⟩ = some (.bool x.rl) ∧ w'.cell? ⟨w.heap.size, 7, none⟩ = some (.int .i64 x.len) ∧ w'.cell? ⟨w.heap.size, 8, none⟩ = some (.int .u32 x.raw)) := fun w' hb => by
    have hr : w'.heap[w.heap.size]? = some (.cells #[.int .i64 x.op, .int .i64 x.rd, .int .i64 x.rs1, .int .i64 x.rs2, .int .i64 x.imm, .bool x.aq, .bool x.rl, .int .i64 x.len, .int .u32 x.raw] 24 (0, 0)) := (hb.block _ (Array.getElem?_eq_some_iff.1 KI.out).1).trans KI.out
    exact ⟨cell_of_row w' _ 0 _ _ _ hr, cell_of_row w' _ 1 _ _ _ hr, cell_of_row w' _ 2 _ _ _ hr, cell_of_row w' _ 3 _ _ _ hr, cell_of_row w' _ 4 _ _ _ hr, cell_of_row w' _ 5 _ _ _ hr, cell_of_row w' _ 6 _ _ _ hr, cell_of_row w' _ 7 _ _ _ hr, cell_of_row w' _ 8 _ _ _ hr⟩
  clear hW4 h34 a0
  obtain ⟨b0, b1, b2, b3, b4⟩ := HCF.out W4 (Below.refl _ _)
  obtain ⟨a0, a1, a2, a3, a4, a5, a6, a7, a8⟩ := HCI.out W4 (Below.refl _ _)
  generalize w3.heap.size = s3 at *
  --@CUT1
  go_upto_region 7 with fail
  --@CUT2
  have HB0 : Hid (Below W4.heap.size W4 W4) := Below.refl _ _
  go_cut [6] from 21 to 27 (fun v wx => v = .int .u32 (n32 A) ∧ Below W4.heap.size W4 wx)
  case first =>
    go_region_held3 (fun w' => (w'.cell? ⟨s3, 0, none⟩ = some (.int .i64 op) ∧ w'.cell? ⟨s3, 1, none⟩ = some (.int .i64 code) ∧ w'.cell? ⟨s3, 2, none⟩ = some (.int .i64 f3) ∧ w'.cell? ⟨s3, 3, none⟩ = some (.int .i64 top) ∧ w'.cell? ⟨s3, 4, none⟩ = some (.int .u8 k)) ∧ (w'.cell? ⟨w.heap.size, 0, none⟩ = some (.int .i64 x.op) ∧ w'.cell? ⟨w.heap.size, 1, none⟩ = some (.int .i64 x.rd) ∧ w'.cell? ⟨w.heap.size, 2, none⟩ = some (.int .i64 x.rs1) ∧ w'.cell? ⟨w.heap.size, 3, none⟩ = some (.int .i64 x.rs2) ∧ w'.cell? ⟨w.heap.size, 4, none⟩ = some (.int .i64 x.imm) ∧ w'.cell? ⟨w.heap.size, 5, none⟩ = some (.bool x.aq) ∧ w'.cell? ⟨w.heap.size, 6, none⟩ = some (.bool x.rl) ∧ w'.cell? ⟨w.heap.size, 7, none⟩ = some (.int .i64 x.len) ∧ w'.cell? ⟨w.heap.size, 8, none⟩ = some (.int .u32 x.raw))) (first | exact ⟨HCF.out _ HB0.out, HCI.out _ HB0.out⟩ | exact ⟨HCF.out _ (Below.drew HB0.out), HCI.out _ (Below.drew HB0.out)⟩) (first | (go_at_call 16; refine (HU.out _).mono ?_; rintro e w5 ⟨rfl, hb⟩; have HB1 : Hid (Below W4.heap.size W4 w5) := (by first | exact HB0.out.trans (hb.mono HB0.out.size) | exact (Below.drew HB0.out).trans (hb.mono HB0.out.size)); clear HB0; have HB0 := HB1; clear HB1 hb))
    --@CUT3
    all_goals go_wp2_with fail
    all_goals go_meet
    all_goals refine ⟨?_, HB0.out⟩
    all_goals rw [HA.out]
    --@CUT3b
    all_goals first | (simp only [wrap_u32, mod32 code, add32]; done) | (rw [← add32, ← mod32])
  case rest =>
    obtain ⟨rfl, hb⟩ := hcut
    have HB5 : Hid (Below W4.heap.size W4 wc) := hb
    clear hb b0 b1 b2 b3 b4 a0 a1 a2 a3 a4 a5 a6 a7 a8 HB0
    obtain ⟨b0, b1, b2, b3, b4⟩ := HCF.out wc HB5.out
    obtain ⟨a0, a1, a2, a3, a4, a5, a6, a7, a8⟩ := HCI.out wc HB5.out
    --@CUT4
    go_wp2_with (first | (go_at_call 13; refine (HO.out _).mono ?_; rintro e w6 ⟨rfl, hw⟩; have hw2 := hw.symm; subst hw2))
    --@CUT5
    go_ret2
    refine ⟨?_, HBW.out.trans ((HB4.out.trans (HB5.out.mono HB4.out.size)).mono HBW.out.size)⟩
    refine congrArg (fun z => Ending.returned (Value.tuple #[Value.int .u32 z, Value.int .i64 0])) ?_
    simp only [← add32, ← top7, ← top15, ← top20, ← top12]
    generalize x.rd % 4294967296 * 128 = t1
    generalize x.rs1 % 4294967296 * 32768 = t2
    generalize x.rs2 % 4294967296 * 1048576 = t3
    generalize f3 % 4294967296 * 4096 = t4
    generalize n32 A = t5

    omega
end Go.Proofs.Ytechkhlibdkmpac
