import Derived.Test.YtiffkbmppmejhaaGreatDoorK31
namespace Go.Proofs.YtiffkbmppmejhaaGreatDoor
set_option linter.unusedVariables false
set_option maxRecDepth 100000
set_option maxHeartbeats 8000000
open Go.ChangeShapes Go.WideShapes Go.ChangeAt Go.RowKit Go.Deep _root_.Go.Proofs.Tryz
theorem dW {ops : Array Oper} {rest : List Oper} {o : Oper} {a : Act} {w : World} {Q : Exit → Act → World → Prop} (hgd : o.guard = none) (x y : Operand) (ho : o.op = .store 22 x y) (hd : o.dst = none)
  (g off : Nat) (z u : Int) (hx : a.eval x = .pointer (some ⟨g, off, none⟩)) (hy : a.eval y = .int .u64 z) (hc : w.cell? ⟨g, off, none⟩ = some (.int .u64 u)) (hf : w.frozen? ⟨g, off, none⟩ = false)
  (h : wpList prog ops Q rest a (w.setCell ⟨g, off, none⟩ (.int .u64 z))) : wpList prog ops Q (o :: rest) a w :=
 wpList_plain hgd fun _ hK => by
  unfold Oper.wp execOp
  simp only [ho, hx, hy]
  go_simp
  simpa [Oper.upon, Act.put, hd] using hK _ _ h
theorem kQ {cs : Array Value} (h : cs.size = 89) (K : Cp) : 7 + (cpc K).size ≤ cs.size := by
 have q := aD K
 omega
theorem iT {cs : Array Value} (h : cs.size = 89) (t : Tp) : 4 + (tpc t).size ≤ cs.size := by
 have q : (tpc t).size = 3 := rfl
 omega
theorem gJ {cs : Array Value} (h : cs.size = 89) (i : Nat) (v : Value) : (cs.setIfInBounds i v).size = 89 := by
 rw [Array.size_setIfInBounds, h]
end Go.Proofs.YtiffkbmppmejhaaGreatDoor
