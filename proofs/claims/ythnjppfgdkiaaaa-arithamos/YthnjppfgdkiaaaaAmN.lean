/-
  Atomics: the program's answers and the reference's are one: the numbers.
-/
import Derived.Test.YthnjppfgdkiaaaaRm
import Derived.Test.YthnjppfgdkiaaaaHalN
import Derived.Test.YthnjppfgdkiaaaaAmo
namespace Go.Proofs.Ythnjppfgdkiaaaa
open Go.ChangeShapes Go.WideShapes Go.ChangeAt Go.RowKit
theorem jw64 (R : Nat) : jv (wdn R 64) 64 = BitVec.ofNat 64 R := by
  apply BitVec.eq_of_toNat_eq
  rw [jv_toNat _ _ (by decide), BitVec.toNat_ofNat]
  unfold wdn; simp
theorem jw32 (R : Nat) : jv (wdn R 32) 64 = (BitVec.ofNat 32 R).signExtend 64 := by
  apply BitVec.eq_of_getLsbD_eq
  intro i hi
  have h1 : (jv (wdn R 32) 64).getLsbD i = (wdn R 32).testBit i := by
    show (jv (wdn R 32) 64).toNat.testBit i = _
    rw [jv_toNat _ _ (by decide), Nat.testBit_mod_two_pow]; simp [hi]
  have h2 := wdn_bit R 32 i hi
  rw [bt_test, bt_test, bt_test] at h2
  rw [h1, BitVec.getLsbD_signExtend, BitVec.msb_eq_getLsbD_last]
  simp only [hi, decide_true, Bool.true_and, BitVec.getLsbD_ofNat]
  by_cases hl : i < 32
  · simp only [hl, if_true, decide_true, Bool.true_and] at h2 ⊢
    cases ha : (wdn R 32).testBit i <;> cases hb : R.testBit i <;> simp [ha, hb] at h2 ⊢
  · simp only [hl, if_false] at h2 ⊢
    cases ha : (wdn R 32).testBit i <;> cases hb : R.testBit 31 <;> simp [ha, hb] at h2 ⊢
theorem svs (x : BitVec 64) : sval 32 (x.toNat % 2 ^ 32) = (wid x).toInt := by
  unfold wid; rw [BitVec.toInt_signExtend_of_le (by decide), BitVec.toInt_eq_toNat_cond, BitVec.toNat_setWidth]
  unfold sval
  have := Nat.mod_lt x.toNat (show 0 < 2 ^ 32 by decide)
  simp only [Nat.reduceSub, Nat.reducePow] at *
  split <;> split <;> omega
theorem sv64 (x : BitVec 64) : sval 64 (x.toNat % 2 ^ 64) = x.toInt := by
  rw [Nat.mod_eq_of_lt x.isLt]
  unfold sval; rw [BitVec.toInt_eq_toNat_cond]; have := x.isLt; simp only [Nat.reduceSub, Nat.reducePow] at *; split <;> split <;> omega
theorem uw (x y : BitVec 64) : decide (x.toNat % 2 ^ 32 < y.toNat % 2 ^ 32) = uLt (wid x) (wid y) := by
  have h : ∀ z : BitVec 64, n64 (wid z) = if z.toNat % 4294967296 < 2147483648 then ((z.toNat % 4294967296 : Nat) : Int) else ((z.toNat % 4294967296 : Nat) : Int) + 18446744069414584320 := fun z => by
    have h1 := svs z
    have h2 := BitVec.toInt_eq_toNat_cond (wid z)
    have h3 := (wid z).isLt
    unfold sval at h1
    unfold n64
    simp only [Nat.reduceSub, Nat.reducePow] at *
    split <;> split at h1 <;> split at h2 <;> omega
  unfold uLt; rw [h, h, Bool.eq_iff_iff]; simp only [decide_eq_true_eq]
  split <;> split <;> omega
theorem ofNat32 (x : BitVec 64) : BitVec.ofNat 32 (x.toNat % 2 ^ 32) = x.setWidth 32 := by
  apply BitVec.eq_of_toNat_eq; simp
theorem ofNat64 (x : BitVec 64) : BitVec.ofNat 64 (x.toNat % 2 ^ 64) = x := by
  apply BitVec.eq_of_toNat_eq; rw [BitVec.toNat_ofNat, Nat.mod_mod, Nat.mod_eq_of_lt x.isLt]
theorem sx (x : BitVec 64) : (BitVec.ofNat 32 (x.toNat % 2 ^ 32)).signExtend 64 = wid x := by rw [ofNat32]; rfl
theorem pickW (c : Bool) (x y : BitVec 64) : (BitVec.ofNat 32 (pick c (x.toNat % 2 ^ 32) (y.toNat % 2 ^ 32))).signExtend 64 = wid (if c then wid y else wid x) := by
  cases c
  · exact (sx x).trans (wid_wid x).symm
  · exact (sx y).trans (wid_wid y).symm
theorem pickD (c : Bool) (x y : BitVec 64) : BitVec.ofNat 64 (pick c (x.toNat % 2 ^ 64) (y.toNat % 2 ^ 64)) = if c then y else x := by
  cases c
  · exact ofNat64 x
  · exact ofNat64 y
def mW (i : Nat) (x y : BitVec 64) : BitVec 64 := ([wid (wid y), wid (wid x + wid y), wid (wid x ^^^ wid y), wid (wid x &&& wid y), wid (wid x ||| wid y), wid (sMin (wid x) (wid y)), wid (sMax (wid x) (wid y)), wid (uMin (wid x) (wid y)), wid (uMax (wid x) (wid y))] : List (BitVec 64)).getD i 0#64
def mD (i : Nat) (x y : BitVec 64) : BitVec 64 := ([y, x + y, x ^^^ y, x &&& y, x ||| y, sMin x y, sMax x y, uMin x y, uMax x y] : List (BitVec 64)).getD i 0#64
theorem ofx (n A B : Nat) : BitVec.ofNat n (A ^^^ B) = BitVec.ofNat n A ^^^ BitVec.ofNat n B := by
  apply BitVec.eq_of_toNat_eq; rw [BitVec.toNat_xor, BitVec.toNat_ofNat, BitVec.toNat_ofNat, BitVec.toNat_ofNat, Nat.xor_mod_two_pow]
theorem ofa (n A B : Nat) : BitVec.ofNat n (A &&& B) = BitVec.ofNat n A &&& BitVec.ofNat n B := by
  apply BitVec.eq_of_toNat_eq; rw [BitVec.toNat_and, BitVec.toNat_ofNat, BitVec.toNat_ofNat, BitVec.toNat_ofNat, Nat.and_mod_two_pow]
theorem ofo (n A B : Nat) : BitVec.ofNat n (A ||| B) = BitVec.ofNat n A ||| BitVec.ofNat n B := by
  apply BitVec.eq_of_toNat_eq; rw [BitVec.toNat_or, BitVec.toNat_ofNat, BitVec.toNat_ofNat, BitVec.toNat_ofNat, Nat.or_mod_two_pow]
theorem ltu (x y : BitVec 64) : decide (x.toNat < y.toNat) = uLt x y := by unfold uLt n64; rw [Bool.eq_iff_iff]; simp only [decide_eq_true_eq]; omega
theorem mD_ref (i : Nat) (hi : i < 9) (x y : BitVec 64) : jv (wdn (aR i 64 (x.toNat % 2 ^ 64) (y.toNat % 2 ^ 64)) 64) 64 = mD i x y := by
  rw [jw64]
  match i, hi with
  | 0, _ => exact ofNat64 y
  | 1, _ => show BitVec.ofNat 64 (x.toNat % 2 ^ 64 + y.toNat % 2 ^ 64 + 0) = x + y; rw [Nat.add_zero, BitVec.ofNat_add, ofNat64, ofNat64]
  | 2, _ => show BitVec.ofNat 64 (x.toNat % 2 ^ 64 ^^^ y.toNat % 2 ^ 64) = x ^^^ y; rw [ofx, ofNat64, ofNat64]
  | 3, _ => show BitVec.ofNat 64 (x.toNat % 2 ^ 64 &&& y.toNat % 2 ^ 64) = x &&& y; rw [ofa, ofNat64, ofNat64]
  | 4, _ => show BitVec.ofNat 64 (x.toNat % 2 ^ 64 ||| y.toNat % 2 ^ 64) = x ||| y; rw [ofo, ofNat64, ofNat64]
  | 5, _ => refine (pickD _ x y).trans ?_; rw [sv64, sv64]; rfl
  | 6, _ => refine (pickD _ x y).trans ?_; rw [sv64, sv64]; rfl
  | 7, _ => refine (pickD _ x y).trans ?_; rw [Nat.mod_eq_of_lt x.isLt, Nat.mod_eq_of_lt y.isLt, ltu]; rfl
  | 8, _ => refine (pickD _ x y).trans ?_; rw [Nat.mod_eq_of_lt x.isLt, Nat.mod_eq_of_lt y.isLt, ltu]; rfl
theorem mW_ref (i : Nat) (hi : i < 9) (x y : BitVec 64) : jv (wdn (aR i 32 (x.toNat % 2 ^ 32) (y.toNat % 2 ^ 32)) 32) 64 = mW i x y := by
  rw [jw32]
  match i, hi with
  | 0, _ => exact (sx y).trans (wid_wid y).symm
  | 1, _ => exact congrArg (BitVec.signExtend 64) (by show BitVec.ofNat 32 (x.toNat % 2 ^ 32 + y.toNat % 2 ^ 32 + 0) = (wid x + wid y).setWidth 32; rw [Nat.add_zero, BitVec.ofNat_add, ofNat32, ofNat32, BitVec.setWidth_add _ _ (by decide), sw_wid, sw_wid])
  | 2, _ => exact congrArg (BitVec.signExtend 64) (by show BitVec.ofNat 32 (x.toNat % 2 ^ 32 ^^^ y.toNat % 2 ^ 32) = (wid x ^^^ wid y).setWidth 32; rw [ofx, ofNat32, ofNat32, BitVec.setWidth_xor, sw_wid, sw_wid])
  | 3, _ => exact congrArg (BitVec.signExtend 64) (by show BitVec.ofNat 32 (x.toNat % 2 ^ 32 &&& y.toNat % 2 ^ 32) = (wid x &&& wid y).setWidth 32; rw [ofa, ofNat32, ofNat32, BitVec.setWidth_and, sw_wid, sw_wid])
  | 4, _ => exact congrArg (BitVec.signExtend 64) (by show BitVec.ofNat 32 (x.toNat % 2 ^ 32 ||| y.toNat % 2 ^ 32) = (wid x ||| wid y).setWidth 32; rw [ofo, ofNat32, ofNat32, BitVec.setWidth_or, sw_wid, sw_wid])
  | 5, _ => refine (pickW _ x y).trans ?_; rw [svs, svs]; rfl
  | 6, _ => refine (pickW _ x y).trans ?_; rw [svs, svs]; rfl
  | 7, _ => refine (pickW _ x y).trans ?_; rw [uw]; rfl
  | 8, _ => refine (pickW _ x y).trans ?_; rw [uw]; rfl
theorem arith_mW (i : Nat) (hi : i < 9) (x y : BitVec 64) (w : World) : Calls Try.prog 27 #[.int .i64 (77 + (i : Int)), .int .u64 (n64 x), .int .u64 (n64 y)] w fun e w' => e = .returned (.tuple #[.int .u64 (n64 (mW i x y)), .bool true]) ∧ Below w.heap.size w w' := by
  match i, hi with
  | 0, _ => exact m_swapW x y w
  | 1, _ => exact m_addW x y w
  | 2, _ => exact m_xorW x y w
  | 3, _ => exact m_andW x y w
  | 4, _ => exact m_orW x y w
  | 5, _ => exact m_lesserW x y w
  | 6, _ => exact m_greaterW x y w
  | 7, _ => exact m_lesserPlainW x y w
  | 8, _ => exact m_greaterPlainW x y w
theorem arith_mD (i : Nat) (hi : i < 9) (x y : BitVec 64) (w : World) : Calls Try.prog 27 #[.int .i64 (88 + (i : Int)), .int .u64 (n64 x), .int .u64 (n64 y)] w fun e w' => e = .returned (.tuple #[.int .u64 (n64 (mD i x y)), .bool true]) ∧ Below w.heap.size w w' := by
  match i, hi with
  | 0, _ => exact m_swapD x y w
  | 1, _ => exact m_addD x y w
  | 2, _ => exact m_xorD x y w
  | 3, _ => exact m_andD x y w
  | 4, _ => exact m_orD x y w
  | 5, _ => exact m_lesserD x y w
  | 6, _ => exact m_greaterD x y w
  | 7, _ => exact m_lesserPlainD x y w
  | 8, _ => exact m_greaterPlainD x y w
end Go.Proofs.Ythnjppfgdkiaaaa
