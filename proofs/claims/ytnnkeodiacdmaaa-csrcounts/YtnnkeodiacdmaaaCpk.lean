/-
  kept of the reference.
-/
import Derived.Test.YtnnkeodiacdmaaaCpf
namespace Go.Proofs.Ytnnkeodiacdmaaa
set_option linter.unusedVariables false
open Go.ChangeShapes Go.WideShapes Go.ChangeAt Go.RowKit Go.Deep
/-- mstatus as it is written. -/
def stW (old v : BitVec 64) : BitVec 64 := if mq v then v &&& ~~~6144#64 ||| old &&& 6144#64 else v
/-- A Cpu with a register written, ahead of Proper. -/
def KW (k : Cp) (n : Int) (v : BitVec 64) : Cp :=
  if n = 768 then { k with s := upd k.s 0 (stW (k.s 0) v) } else if n = 772 then { k with s := upd k.s 2 v } else if n = 773 then { k with s := upd k.s 1 v } else if n = 774 then { k with s := upd k.s 3 v } else if n = 778 then { k with s := upd k.s 5 v } else if n = 800 then { k with s := upd k.s 4 v } else if n = 832 then { k with s := upd k.s 6 v } else if n = 833 then { k with s := upd k.s 7 v } else if n = 834 then { k with s := upd k.s 8 v } else if n = 835 then { k with s := upd k.s 9 v } else if n = 2816 then { k with s := upd k.s 10 v } else if n = 2818 then { k with s := upd k.s 11 v } else if n = 928 then { k with c := sR (PC k.c) 0 v, a := PA k.a } else if n = 930 then { k with c := sR (PC k.c) 2 v, a := PA k.a } else if 944 ≤ n ∧ n ≤ 959 then { k with c := PC k.c, a := sA (PC k.c) (PA k.a) (n - 944) v } else k
end Go.Proofs.Ytnnkeodiacdmaaa
