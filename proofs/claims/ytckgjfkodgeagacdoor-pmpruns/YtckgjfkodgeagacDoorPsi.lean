/-
  Granted, Check of the program and of the reference.
-/
import Derived.Test.YtckgjfkodgeagacDoorPsh
namespace Go.Proofs.YtckgjfkodgeagacDoor
set_option linter.unusedVariables false
open Go.ChangeShapes Go.WideShapes Go.ChangeAt Go.RowKit Go.Deep
theorem mtF_cases (h : Nat → Nat) (s : Nat) : ∀ n i, (mtF h s n i).1 = -1 ∧ (mtF h s n i).2 = false ∨ ∃ k : Nat, k < i + n ∧ (mtF h s n i).1 = (k : Int)
  | 0, i => .inl ⟨rfl, rfl⟩
  | n + 1, i => by
    rw [mtF]
    split
    · exact .inr ⟨i, by omega, rfl⟩
    · rcases mtF_cases h s n (i + 1) with h1 | ⟨k, hk, h1⟩
      · exact .inl h1
      · exact .inr ⟨k, by omega, h1⟩
theorem MT_cases (h : Nat → Nat) (s : Nat) : MT h s = (-1, false) ∨ ∃ (k : Nat) (q : Bool), k < 16 ∧ MT h s = ((k : Int), q) := by
  rcases mtF_cases h s 16 0 with ⟨h1, h2⟩ | ⟨k, hk, h1⟩
  · exact .inl (Prod.ext h1 h2)
  · exact .inr ⟨k, _, by omega, Prod.ext h1 rfl⟩
theorem bits_i64 (u v : Int) : bits .and .i64 u v = IntKind.i64.wrap ((BitVec.ofInt 64 u &&& BitVec.ofInt 64 v).toNat : Int) := rfl
theorem ofInt_wrap (y : BitVec 64) : BitVec.ofInt 64 (IntKind.i64.wrap (y.toNat : Int)) = y := by
  have e : IntKind.i64.wrap (y.toNat : Int) = wrap64 (n64 y) := by
    unfold wrap64 n64; simp [IntKind.wrap, IntKind.signed, IntKind.bits]; split <;> omega
  rw [e, wrap64_n64, BitVec.ofInt_toInt]
theorem ofInt_rts : ∀ x : BitVec 8, BitVec.ofInt 64 (n8 (rts x)) = BitVec.ofInt 64 (n8 x) &&& BitVec.ofInt 64 7 := by decide +kernel
theorem grant_bits (x : BitVec 8) (b : Int) : bits .and .i64 (bits .and .i64 (n8 x) b) 7 = bits .and .i64 (n8 (rts x)) b := by
  rw [bits_i64 (n8 x) b, bits_i64 _ 7, ofInt_wrap, bits_i64, ofInt_rts]
  congr 3
  rw [BitVec.and_assoc, BitVec.and_assoc, BitVec.and_comm (BitVec.ofInt 64 b)]
theorem check_bits : ∀ x : BitVec 8, ∀ b ∈ [(1 : Int), 2, 3, 4, 5, 6, 7], bits .and .i64 (n8 x) b = bits .and .i64 (n8 (rts x)) b := by decide +kernel
theorem pcl_twice' : ∀ x : BitVec 8, pcl (pcl x) = pcl x := by decide +kernel
theorem PC_twice' (c : Nat → BitVec 8) : PC (PC c) = PC c := funext fun j => pcl_twice' (c j)
theorem PA_twice' (a : Nat → BitVec 64) : PA (PA a) = PA a := funext fun j => by show pad (pad (a j)) = pad (a j); unfold pad; rw [BitVec.and_assoc, BitVec.and_self]
/-- Granted's answer. -/
def grA (c : Nat → BitVec 8) (a : Nat → BitVec 64) (ad : BitVec 64) (b : Int) : Bool := if (MT (hn c a ad 1) 1).1 < 0 then false else (bits .and .i64 (n8 (rts (c (MT (hn c a ad 1) 1).1.toNat))) b != 0)
end Go.Proofs.YtckgjfkodgeagacDoor
