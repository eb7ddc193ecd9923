/-
  told of the reference.
-/
import Derived.Test.YtnnkeodiacdmaaaCpx
import Derived.Test.YtnnkeodiacdmaaaCpr
import Derived.Test.YtnnkeodiacdmaaaPbc
import Derived.Test.YtnnkeodiacdmaaaPby
namespace Go.Proofs.Ytnnkeodiacdmaaa
set_option linter.unusedVariables false
open Go.ChangeShapes Go.WideShapes Go.ChangeAt Go.RowKit Go.Deep
/-- What a register that is there tells. -/
def TO (k : Cp) (mip time : BitVec 64) (n : Int) : Int :=
  if n = 3859 then 1 else if n = 768 then n64 (k.s 0) else if n = 769 then 9223372036855828741 else if n = 772 then n64 (k.s 2) else if n = 773 then n64 (k.s 1) else if n = 774 then n64 (k.s 3) else if n = 778 then n64 (k.s 5) else if n = 800 then n64 (k.s 4) else if n = 832 then n64 (k.s 6) else if n = 833 then n64 (k.s 7) else if n = 834 then n64 (k.s 8) else if n = 835 then n64 (k.s 9) else if n = 836 then n64 (mip &&& 2184#64) else if n = 928 then cfgR (PC k.c) 0 else if n = 930 then cfgR (PC k.c) 2 else if n = 2816 then n64 (k.s 10) else if n = 3072 then n64 (k.s 10) else if n = 2818 then n64 (k.s 11) else if n = 3074 then n64 (k.s 11) else if n = 3073 then n64 time else if 944 ≤ n ∧ n ≤ 959 then n64 (k.a (n - 944).toNat) else 0
theorem told_start (k : Cp) (w : World) : ∃ W0, w.alloc (.cells (cpc k) 31) = W0 ∧ Hid (Row W0 w.heap.size (cpc k) 31) ∧ Hid (Below w.heap.size w W0) := by
  obtain ⟨W0, hW0, r0, b0, s0⟩ := start1 w (cpc k) 31
  exact ⟨W0, hW0, r0, b0⟩
end Go.Proofs.Ytnnkeodiacdmaaa
