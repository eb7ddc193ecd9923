/-
  The reference's Check.
-/
import Derived.Test.YtechkhlibdkmpacEe
import Derived.BigQuiet
import Derived.Deep.QuietTactic
namespace Go.Proofs.Ytechkhlibdkmpac
set_option linter.unusedVariables false
open Go.ChangeShapes Go.WideShapes Go.ChangeAt Go.RowKit Go.Deep
/-- A record. -/
structure Ins where
  op : Int
  rd : Int
  rs1 : Int
  rs2 : Int
  imm : Int
  aq : Bool
  rl : Bool
  len : Int
  raw : Int
def insv (x : Ins) : Array Value := #[.int .i64 x.op, .int .i64 x.rd, .int .i64 x.rs1, .int .i64 x.rs2, .int .i64 x.imm, .bool x.aq, .bool x.rl, .int .i64 x.len, .int .u32 x.raw]
def I64 (n : Int) : Prop := -9223372036854775808 ≤ n ∧ n ≤ 9223372036854775807
structure InsOk (x : Ins) : Prop where
  op : I64 x.op
  rd : I64 x.rd
  rs1 : I64 x.rs1
  rs2 : I64 x.rs2
  imm : I64 x.imm
def strNums (s : ByteArray) : List Int := s.data.toList.map fun b => (b.toNat : Int)
theorem str_back (s : ByteArray) : strOfNums (strNums s) = s := by
  cases s with
  | mk d =>
    unfold strOfNums strNums
    congr 1
    apply Array.ext'
    simp only [List.map_map]
    conv => rhs; rw [← List.map_id d.toList]
    apply List.map_congr_left
    intro b _
    simp
theorem strNums_all (s : ByteArray) : AllB (strNums s) := by
  intro x hx
  simp only [strNums, List.mem_map] at hx
  obtain ⟨b, _, rfl⟩ := hx
  have := b.toNat_lt
  omega
/-- Is a letter among others? -/
def inS (c : Int) (s : ByteArray) : Bool := isIn c (strNums s)
theorem one_s (c : Int) (s : ByteArray) (w : World) (hc : 0 ≤ c ∧ c ≤ 255) (hn : (strNums s).length ≤ 100) :
    Calls Try.prog 13 #[.int .u8 c, .string s] w fun e w' => e = .returned (.bool (inS c s)) ∧ w' = w := by
  have q := one_c c (strNums s) w hc (strNums_all s) hn
  rw [str_back] at q
  exact q
def sRd : ByteArray := ⟨#[85, 74, 73, 72, 87, 82, 78, 76, 65]⟩
def sR1 : ByteArray := ⟨#[73, 66, 83, 72, 87, 82, 78, 76, 65]⟩
def sR2 : ByteArray := ⟨#[66, 83, 82, 65]⟩
def sIm : ByteArray := ⟨#[85, 74, 73, 66, 83, 72, 87, 78]⟩
def sOr : ByteArray := ⟨#[76, 65]⟩
theorem kind_all : ∀ x ∈ FL, 0 ≤ x.kind ∧ x.kind ≤ 255 := by decide
theorem fmOf_kind (op : Int) : 0 ≤ (fmOf op).kind ∧ (fmOf op).kind ≤ 255 := by
  unfold fmOf
  cases h : FL.find? (fun x => x.op == op) with
  | none => decide
  | some x => exact kind_all x (List.mem_of_find?_eq_some h)
end Go.Proofs.Ytechkhlibdkmpac
