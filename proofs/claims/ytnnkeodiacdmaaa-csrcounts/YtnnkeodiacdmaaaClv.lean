/-
  live, and what it comes to.
-/
import Derived.Test.YtnnkeodiacdmaaaClb
namespace Go.Proofs.Ytnnkeodiacdmaaa
set_option linter.unusedVariables false
open Go.ChangeShapes Go.WideShapes Go.ChangeAt Go.RowKit Go.Deep

def LV : Cp := WR cM 832 77#64
theorem LV_ok : WK cM 832 = true := by decide +kernel
theorem LV_rk : RK LV 832 = true := by decide +kernel
theorem LV_rd : RD LV 0#64 0#64 832 = 77 := by decide +kernel
theorem cM_rk : RK cM 769 = true := by decide +kernel
theorem cM_rd : RD cM 0#64 0#64 769 = 9223372036855828741 := by decide +kernel
set_option maxRecDepth 100000 in
set_option maxHeartbeats 1000000 in
theorem live_c (hr : CRd) (hw : CWr) (w : World) : Calls Try.prog 16 #[] w fun e w' => e = .returned (.bool true) ∧ Below w.heap.size w w' := by
  have hz := zero_cpu
  have HW : Hid (∀ W : World, Calls Try.prog 15 #[.agg (cpc cM), .int .i64 832, .int .u64 77] W fun e w' => e = .returned (.tuple #[.agg (cpc LV), .bool true]) ∧ Below W.heap.size W w') := fun W => by
    have h := hw cM 832 77#64 (by unfold I64; omega) W
    rw [LV_ok] at h; exact h
  have HR : Hid (∀ W : World, Calls Try.prog 17 #[.agg (cpc LV), .int .u64 0, .int .u64 0, .int .i64 832] W fun e w' => e = .returned (.tuple #[.int .u64 77, .bool true]) ∧ Below W.heap.size W w') := fun W => by
    have h := hr LV 0#64 0#64 832 (by unfold I64; omega) W
    rw [LV_rk, LV_rd] at h; exact h
  have HM : Hid (∀ W : World, Calls Try.prog 17 #[.agg (cpc cM), .int .u64 0, .int .u64 0, .int .i64 769] W fun e w' => e = .returned (.tuple #[.int .u64 9223372036855828741, .bool true]) ∧ Below W.heap.size W w') := fun W => by
    have h := hr cM 0#64 0#64 769 (by unfold I64; omega) W
    rw [cM_rk, cM_rd] at h; exact h
  go_enter Try.func16, Try.ntmps16
  have hm : (cpc cz).setIfInBounds 33 (.int .i64 3) = cpc cM := cpc_md cz 3
  go_upto_region 1 with fail
  go_upto_region 2 with (refine wpList_store_last (by rfl) _ _ _ (by rfl) (by rfl) _ _ _ (by rfl) (by rfl) (by rfl) (info_cpu _) (by rw [cpc_size, cpc_size]) (cpc_ones _) ?_)
  clear hm
  refine go_onP (motive := fun W => Code.wp _ _ _ _ W) (Q := fun W => Row W w.heap.size (cpc cM) 31 ∧ Below w.heap.size w W) ⟨Row.new w (cpc cM) 31, (Below.refl _ _).alloc (Nat.le_refl _) _⟩ ?_
  rintro W1 ⟨q0, c0⟩
  have G1 : Hid (Row W1 w.heap.size (cpc cM) 31) := q0
  have BB : Hid (Below w.heap.size w W1) := c0
  clear q0 c0
  go_upto_region 3 with (first | (refine wpList_load_row (by rfl) _ _ (by rfl) _ (by rfl) 31 _ (0, 0) _ G1.out Try.underlying31 (by rfl) (info_cpu _) ?_) | (go_at_call 15; refine (HW.out _).mono ?_; rintro e w2 ⟨rfl, hb⟩; have Bw2 : Hid (Below W1.heap.size W1 w2) := hb; clear hb) | (refine wpList_store_last (by rfl) _ _ _ (by rfl) (by rfl) _ _ _ (by rfl) (by rfl) (by rfl) (info_cpu _) (by rw [cpc_size, cpc_size]) (cpc_ones _) ?_))
  refine go_onP (motive := fun W => Code.wp _ _ _ _ W) (Q := fun W => Row W w.heap.size (cpc cM) 31 ∧ Row W w2.heap.size (cpc LV) 31 ∧ Below w.heap.size w W) ⟨G1.out.ca Bw2.out _, Row.new w2 (cpc LV) 31, below_ca BB.out Bw2.out BB.out.size _⟩ ?_
  clear G1 BB Bw2 HW hz
  rintro W3 ⟨q0, q1, c0⟩
  have G1 : Hid (Row W3 w.heap.size (cpc cM) 31) := q0
  have G2 : Hid (Row W3 w2.heap.size (cpc LV) 31) := q1
  have BB : Hid (Below w.heap.size w W3) := c0
  clear q0 q1 c0
  go_upto_region 4 with (first | (refine wpList_load_row (by rfl) _ _ (by rfl) _ (by rfl) 31 _ (0, 0) _ G2.out Try.underlying31 (by rfl) (info_cpu _) ?_) | (go_at_call 17; refine (HR.out _).mono ?_; rintro e w4 ⟨rfl, hb⟩; have Bw4 : Hid (Below W3.heap.size W3 w4) := hb; clear hb))
  have G3 : Hid (Row w4 w.heap.size (cpc cM) 31) := G1.out.cb Bw4.out
  go_upto_region 5 with (first | (refine wpList_load_row (by rfl) _ _ (by rfl) _ (by rfl) 31 _ (0, 0) _ G3.out Try.underlying31 (by rfl) (info_cpu _) ?_) | (go_at_call 17; refine (HM.out _).mono ?_; rintro e w5 ⟨rfl, hb⟩; have Bw5 : Hid (Below w4.heap.size w4 w5) := hb; clear hb))
  go_wp2
  go_ret
  exact ⟨rfl, (BB.out.trans (Bw4.out.mono BB.out.size)).trans (Bw5.out.mono (Nat.le_trans BB.out.size Bw4.out.size))⟩
end Go.Proofs.Ytnnkeodiacdmaaa
