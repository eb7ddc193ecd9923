/- ArithHalves: the operations of halves, by their place in the list -/
import Derived.Test.YthnjppfgdkiaaabHal
import Derived.Test.YthnjppfgdkiaaabMem
import Derived.Deep.RegionWith
namespace Go.Proofs.Ythnjppfgdkiaaab.arithHalves
open Go.ChangeShapes Go.WideShapes Go.ChangeAt Go.RowKit

def words (k : Nat) : Int := ([45, 46, 47, 48, 49, 70, 71, 72, 73, 74] : List Int).getD k 0
def wopV (k : Nat) (x y : BitVec 64) : BitVec 64 := ([wid (x + y), wid (x - y), wid (x <<< (n64 y % 32 % 64).toNat), wid (low x >>> (n64 y % 32 % 64).toNat), wid ((wid x).sshiftRight (n64 y % 32 % 64).toNat), wid (x * y), wid (qDiv (wid x) (wid y)), wid (qDivu (low x) (low y)), wid (qRem (wid x) (wid y)), wid (qRemu (low x) (low y))] : List (BitVec 64)).getD k 0#64
theorem op_word (k : Nat) (hk : k < 10) (x y : BitVec 64) (w : World) : Calls Try.prog 9 #[.int .i64 (words k), .int .u64 (n64 x), .int .u64 (n64 y)] w fun e w' => e = .returned (.int .u64 (n64 (wopV k x y))) ∧ Below w.heap.size w w' := by
  match k, hk with
  | 0, _ => exact o_addw x y w
  | 1, _ => exact o_subw x y w
  | 2, _ => exact o_sllw x y w
  | 3, _ => exact o_srlw x y w
  | 4, _ => exact o_sraw x y w
  | 5, _ => exact o_mulw x y w
  | 6, _ => exact o_divw x y w
  | 7, _ => exact o_divuw x y w
  | 8, _ => exact o_remw x y w
  | 9, _ => exact o_remuw x y w
theorem wop_wid (k : Nat) (hk : k < 10) (x y : BitVec 64) : wid (wopV k x y) = wopV k x y := by
  match k, hk with
  | 0, _ => exact wid_wid _
  | 1, _ => exact wid_wid _
  | 2, _ => exact wid_wid _
  | 3, _ => exact wid_wid _
  | 4, _ => exact wid_wid _
  | 5, _ => exact wid_wid _
  | 6, _ => exact wid_wid _
  | 7, _ => exact wid_wid _
  | 8, _ => exact wid_wid _
  | 9, _ => exact wid_wid _
theorem sw_sub (x y : BitVec 64) : (x - y).setWidth 32 = x.setWidth 32 - y.setWidth 32 := by
  rw [BitVec.sub_eq_add_neg, BitVec.setWidth_add _ _ (by decide), BitVec.setWidth_neg_of_le (by decide), BitVec.sub_eq_add_neg]
theorem sw_shl (x : BitVec 64) (n : Nat) : (x <<< n).setWidth 32 = (x.setWidth 32) <<< n := by
  ext i hi
  simp only [BitVec.getElem_setWidth, BitVec.getElem_shiftLeft, BitVec.getLsbD_shiftLeft]
  by_cases h : i < n
  · simp [h]
  · simp [h, show i < 64 by omega]
theorem wop_congr (k : Nat) (hk : k < 10) {x y x' y' : BitVec 64} (hx : x.setWidth 32 = x'.setWidth 32) (hy : y.setWidth 32 = y'.setWidth 32) : wopV k x y = wopV k x' y' := by
  match k, hk with
  | 0, _ => exact wid_congr (by rw [BitVec.setWidth_add _ _ (by decide), BitVec.setWidth_add _ _ (by decide), hx, hy])
  | 1, _ => exact wid_congr (by rw [sw_sub, sw_sub, hx, hy])
  | 2, _ => exact wid_congr (by rw [mod32_congr hy, sw_shl, sw_shl, hx])
  | 3, _ => show wid _ = wid _; rw [mod32_congr hy, low_congr hx]
  | 4, _ => show wid _ = wid _; rw [mod32_congr hy, wid_congr hx]
  | 5, _ => exact wid_congr (by rw [BitVec.setWidth_mul _ _ (by decide), BitVec.setWidth_mul _ _ (by decide), hx, hy])
  | 6, _ => show wid _ = wid _; rw [wid_congr hx, wid_congr hy]
  | 7, _ => show wid _ = wid _; rw [low_congr hx, low_congr hy]
  | 8, _ => show wid _ = wid _; rw [wid_congr hx, wid_congr hy]
  | 9, _ => show wid _ = wid _; rw [low_congr hx, low_congr hy]
theorem unary_mask : Op.unary .xor (.int .u64 4294967295) = pure (.int .u64 (n64 hiMask)) := unary_com 4294967295#64
end Go.Proofs.Ythnjppfgdkiaaab.arithHalves
