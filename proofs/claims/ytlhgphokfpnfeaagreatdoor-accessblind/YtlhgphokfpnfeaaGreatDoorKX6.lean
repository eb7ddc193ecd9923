import Derived.Test.YtlhgphokfpnfeaaGreatDoorKX4
import Derived.Test.YtlhgphokfpnfeaaGreatDoorK32
import Derived.Test.YtlhgphokfpnfeaaGreatDoorK28
import Derived.Test.YtlhgphokfpnfeaaGreatDoorK11
namespace Go.Proofs.YtlhgphokfpnfeaaGreatDoor
set_option linter.unusedVariables false
open Go.ChangeShapes Go.WideShapes Go.ChangeAt Go.RowKit Go.Deep
theorem own_put {w : World} {B g n cap : Nat} {l : List Int} (h : w.ownsRow B 5 1 (.slice (some ⟨g, 0, none⟩) n cap) n (bv l)) (j : Nat) (hj : j < n) (x : Int) : (w.setCell ⟨g, j, none⟩ (.int .u8 x)).ownsRow B 5 1 (.slice (some ⟨g, 0, none⟩) n cap) n (bv (l.set j x)) := by
  have hl := h.1
  rw [bv_length] at hl
  rcases h.2 with ⟨h0, _⟩ | ⟨g', cap', cur, ev, h1, hrow, h3, h4, h5, h6⟩
  · cases h0
  · cases ev
    refine ⟨by rw [bv_length, List.length_set]; exact hl, .inr ⟨g, cap, _, rfl, h1, heap_setCell_same w g j _ _ _ hrow, h3, h4, by rw [Array.size_setIfInBounds]; exact h5, ?_⟩⟩
    rw [Array.toList_setIfInBounds, List.take_set, h6, bv_set]
theorem otc_ts (o : Ot) : (otc o).extract 4 (4 + 3) = tpc o.t := by
  apply Array.ext_getElem?
  intro j
  rw [Array.getElem?_extract]
  match j with
  | 0 => rw [if_pos (by rw [otc_size]; omega), otc_at _ _ (by omega)]; rfl
  | 1 => rw [if_pos (by rw [otc_size]; omega), otc_at _ _ (by omega)]; rfl
  | 2 => rw [if_pos (by rw [otc_size]; omega), otc_at _ _ (by omega)]; rfl
  | j + 3 => rw [if_neg (by rw [otc_size]; omega)]; rfl
theorem otc_cs (o : Ot) : (otc o).extract 7 (7 + 82) = cpc o.K := by
  apply Array.ext_getElem?
  intro j
  rw [Array.getElem?_extract]
  by_cases h : j < 82
  · rw [if_pos (by rw [otc_size]; omega), otc_at _ _ (by omega), cpc_at _ _ h]
    unfold otcell
    rw [if_neg (by omega), if_neg (by omega), if_neg (by omega), if_neg (by omega), if_neg (by omega), if_neg (by omega), if_neg (by omega), show 7 + j - 7 = j by omega]
  · rw [if_neg (by rw [otc_size]; omega), Array.getElem?_eq_none (by rw [cpc_size]; omega)]
theorem cmp_out (w : World) (d : Nat) (o p : Ot) : Cmp Tryz.prog w (d + 5) 52 (.agg (otc o)) (.agg (otc p)) (o.A = p.A ∧ o.B = p.B ∧ o.N = p.N ∧ o.ok = p.ok ∧ (o.t.is = p.t.is ∧ o.t.ca = p.t.ca ∧ o.t.tv = p.t.tv ∧ True) ∧ cpc o.K = cpc p.K ∧ True) := by
  refine Cmp.struct Tryz.underlying52 (by kernel_rfl) ?_
  refine CmpF.cons (by decide) (run_part_plain w (by kernel_rfl) (otc_at o 0 (by omega))) (run_part_plain w (by kernel_rfl) (otc_at p 0 (by omega))) (Cmp.int Tryz.underlying22) ?_
  refine CmpF.cons (by decide) (run_part_plain w (by kernel_rfl) (otc_at o 1 (by omega))) (run_part_plain w (by kernel_rfl) (otc_at p 1 (by omega))) (Cmp.int Tryz.underlying22) ?_
  refine CmpF.cons (by decide) (run_part_plain w (by kernel_rfl) (otc_at o 2 (by omega))) (run_part_plain w (by kernel_rfl) (otc_at p 2 (by omega))) (Cmp.int Tryz.underlying3) ?_
  refine CmpF.cons (by decide) (run_part_plain w (by kernel_rfl) (otc_at o 3 (by omega))) (run_part_plain w (by kernel_rfl) (otc_at p 3 (by omega))) (Cmp.bool Tryz.underlying4) ?_
  refine CmpF.cons (by decide) (part_agg Tryz.underlying48 rfl (by kernel_rfl)) (part_agg Tryz.underlying48 rfl (by kernel_rfl)) (by rw [otc_ts, otc_ts]; exact cmp_trap w (d + 2) _ _) ?_
  refine CmpF.cons (by decide) (part_agg Tryz.underlying31 rfl (by kernel_rfl)) (part_agg Tryz.underlying31 rfl (by kernel_rfl)) (by rw [otc_cs, otc_cs]; exact cmp_cpu w d _ _) ?_
  exact CmpF.nil
theorem eq_out (w : World) (o : Ot) : (Op.equalIn 10000 52 (.agg (otc o)) (.agg (otc o))).run Tryz.prog w = .ok true w := by
  obtain ⟨r, hr, h⟩ := cmp_out w 9995 o o
  rw [hr, h.2 ⟨rfl, rfl, rfl, rfl, ⟨rfl, rfl, rfl, trivial⟩, rfl, trivial⟩]
end Go.Proofs.YtlhgphokfpnfeaaGreatDoor
