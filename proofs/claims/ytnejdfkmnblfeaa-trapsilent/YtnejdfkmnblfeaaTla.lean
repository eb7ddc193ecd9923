/-
  What the laws of layer 10 ask of the program.
-/
import Derived.Test.YtnejdfkmnblfeaaTre
namespace Go.Proofs.Ytnejdfkmnblfeaa
set_option linter.unusedVariables false
open Go.ChangeShapes Go.WideShapes Go.ChangeAt Go.RowKit Go.Deep
def TPd : Prop := ∀ (k : Cp) (mip : BitVec 64) (W : World), Calls Try.prog 9 #[.agg (cpc k), .int .u64 (n64 mip)] W fun e w' => e = .returned (.tuple #[.int .i64 (PD k mip).1, .bool (PD k mip).2]) ∧ Below W.heap.size W w'
def TEn : Prop := ∀ (k : Cp) (cause tval : BitVec 64) (W : World), Calls Try.prog 13 #[.agg (cpc k), .int .u64 (n64 cause), .int .u64 (n64 tval)] W fun e w' => e = .returned (.agg (cpc (ENc k cause tval))) ∧ Below W.heap.size W w'
def TRt : Prop := ∀ (k : Cp) (W : World), Calls Try.prog 14 #[.agg (cpc k)] W fun e w' => e = .returned (.tuple #[.agg (cpc (RTc k)), .bool (RTk k)]) ∧ Below W.heap.size W w'
def TWt : Prop := ∀ (k : Cp) (W : World), Calls Try.prog 15 #[.agg (cpc k)] W fun e w' => e = .returned (.tuple #[.agg (cpc (WTc k)), .bool (WTk k)]) ∧ Below W.heap.size W w'
def TEf : Prop := ∀ (k : Cp) (W : World), Calls Try.prog 17 #[.agg (cpc k)] W fun e w' => e = .returned (.int .i64 (EF k)) ∧ Below W.heap.size W w'
end Go.Proofs.Ytnejdfkmnblfeaa
