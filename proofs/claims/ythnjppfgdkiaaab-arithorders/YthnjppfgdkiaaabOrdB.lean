/- ArithOrders -/
import Derived.Test.YthnjppfgdkiaaabLeafN
import Derived.Test.YthnjppfgdkiaaabTk
import Derived.Test.YthnjppfgdkiaaabAm
import Derived.Deep.RegionWith
namespace Go.Proofs.Ythnjppfgdkiaaab.arithOrders
open Go.ChangeShapes Go.WideShapes Go.ChangeAt Go.RowKit

def topB : BitVec 64 := BitVec.twoPow 64 63
theorem top_xor (x : BitVec 64) : x ^^^ topB = x + topB := by
  unfold topB
  by_cases h : x.getLsbD 63 = true
  · have h1 : (x ^^^ BitVec.twoPow 64 63) + BitVec.twoPow 64 63 = x := by
      rw [BitVec.add_eq_or_of_and_eq_zero]
      · ext i hi
        simp [BitVec.getElem_twoPow]
        by_cases e : i = 63
        · subst e; simpa [BitVec.getLsbD_eq_getElem] using h.symm
        · simp [e]
      · ext i hi
        simp [BitVec.getElem_twoPow]
        intro h1 h2; subst h2; simp [BitVec.getLsbD_eq_getElem] at h; simp [h] at h1
    have h2 : BitVec.twoPow 64 63 + BitVec.twoPow 64 63 = 0#64 := by decide
    calc x ^^^ BitVec.twoPow 64 63 = (x ^^^ BitVec.twoPow 64 63) + (BitVec.twoPow 64 63 + BitVec.twoPow 64 63) := by rw [h2, BitVec.add_zero]
      _ = x + BitVec.twoPow 64 63 := by rw [← BitVec.add_assoc, h1]
  · rw [BitVec.add_eq_or_of_and_eq_zero]
    · ext i hi
      simp [BitVec.getElem_twoPow]
      by_cases e : i = 63
      · subst e; simp [BitVec.getLsbD_eq_getElem] at h; simp [h]
      · simp [e]
    · ext i hi
      simp [BitVec.getElem_twoPow]
      intro h1 h2; subst h2; simp [BitVec.getLsbD_eq_getElem] at h; simp [h] at h1

theorem n64_top : n64 topB = 9223372036854775808 := by decide
theorem tk_top (a b : BitVec 64) (v : Bool) (h : uLt (a ^^^ topB) (b ^^^ topB) = v) (w : World) : Calls Try.prog 18 #[.int .i64 9, .int .u64 (bits .xor .u64 (n64 a) 9223372036854775808), .int .u64 (bits .xor .u64 (n64 b) 9223372036854775808)] w fun e w' => e = .returned (.bool v) ∧ Below w.heap.size w w' := by
  have h1 := n64_xor a topB
  have h2 := n64_xor b topB
  rw [n64_top] at h1 h2
  rw [h1, h2]
  exact tk_5 _ _ v h w
theorem top_lt (a b : BitVec 64) : uLt (a ^^^ topB) (b ^^^ topB) = sLt a b := by
  have h : ∀ x : BitVec 64, n64 (x ^^^ topB) = x.toInt + 9223372036854775808 := fun x => by
    rw [top_xor, ← n64_add, IntKind.wrap_u64, ← wrap64_n64, n64_top]
    have := n64_lo x; have := n64_hi x
    unfold wrap64; omega
  unfold uLt sLt
  rw [h, h, Bool.eq_iff_iff]
  simp only [decide_eq_true_eq]
  omega
end Go.Proofs.Ythnjppfgdkiaaab.arithOrders
