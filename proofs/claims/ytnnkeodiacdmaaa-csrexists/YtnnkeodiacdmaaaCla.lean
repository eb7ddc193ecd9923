/-
  What the laws ask of the program.
-/
import Derived.Test.YtnnkeodiacdmaaaCpn
import Derived.Test.YtnnkeodiacdmaaaCpw
import Derived.Test.YtnnkeodiacdmaaaCoq
import Derived.ShutString
import Derived.ChangeOld
import Derived.BigRegion
import Derived.BigQuiet
import Derived.Deep.QuietTactic
namespace Go.Proofs.Ytnnkeodiacdmaaa
set_option linter.unusedVariables false
open Go.ChangeShapes Go.WideShapes Go.ChangeAt Go.RowKit Go.Deep
def CPr : Prop := ∀ (k : Cp) (W : World), Calls Try.prog 9 #[.agg (cpc k)] W fun e w' => e = .returned (.agg (cpc (PR k))) ∧ Below W.heap.size W w'
def CEx : Prop := ∀ (n : Int), I64 n → ∀ (W : World), Calls Try.prog 13 #[.int .i64 n] W fun e w' => e = .returned (.bool (EX n)) ∧ Below W.heap.size W w'
def CRd : Prop := ∀ (k : Cp) (mip time : BitVec 64) (n : Int), I64 n → ∀ (W : World), Calls Try.prog 17 #[.agg (cpc k), .int .u64 (n64 mip), .int .u64 (n64 time), .int .i64 n] W fun e w' => e = .returned (.tuple #[.int .u64 (RD k mip time n), .bool (RK k n)]) ∧ Below W.heap.size W w'
def CWr : Prop := ∀ (k : Cp) (n : Int) (v : BitVec 64), I64 n → ∀ (W : World), Calls Try.prog 15 #[.agg (cpc k), .int .i64 n, .int .u64 (n64 v)] W fun e w' => e = .returned (.tuple #[.agg (cpc (WR k n v)), .bool (WK k n)]) ∧ Below W.heap.size W w'
def CCo : Prop := ∀ (k u : Cp) (ret wc wn : Bool) (W : World), Calls Try.prog 10 #[.agg (cpc k), .agg (cpc u), .bool ret, .bool wc, .bool wn] W fun e w' => e = .returned (.agg (cpc (CO k u ret wc wn))) ∧ Below W.heap.size W w'
theorem later_at {W : World} {g j : Nat} {v : Value} (hg : g < W.heap.size) (h : W.cell? ⟨g, j, none⟩ = some v) : ∀ x : Later W, x.1.cell? ⟨g, j, none⟩ = some v := fun x => (later_cell x (by exact hg)).trans h
end Go.Proofs.Ytnnkeodiacdmaaa
