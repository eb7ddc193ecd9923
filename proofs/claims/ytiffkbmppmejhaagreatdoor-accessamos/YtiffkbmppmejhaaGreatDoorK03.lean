import Derived.Test.YtiffkbmppmejhaaGreatDoorK01
import Derived.Test.YtiffkbmppmejhaaGreatDoorK02
import Derived.StillTailTactics
namespace Go.Proofs.YtiffkbmppmejhaaGreatDoor
set_option linter.unusedVariables false
set_option maxRecDepth 100000
set_option maxHeartbeats 8000000
open Go.ChangeShapes Go.WideShapes Go.ChangeAt Go.RowKit _root_.Go.Proofs.Tryz
theorem uZ (x : BitVec 64) (w : World) : Calls prog 95 #[.int .u64 (n64 x), .int .i64 32] w fun e w' => ∃ v, e = .returned v ∧ Lst w' v (bl (x.toNat % 2 ^ 32) 32) ∧ Below w.heap.size w w' := by
 rw [yF]; exact oE x 32 (by decide) (by decide) w
theorem uY (x : BitVec 64) (w : World) : Calls prog 95 #[.int .u64 (n64 x), .int .i64 64] w fun e w' => ∃ v, e = .returned v ∧ Lst w' v (bl (x.toNat % 2 ^ 64) 64) ∧ Below w.heap.size w w' := by
 rw [yF]; exact oE x 64 (by decide) (by decide) w
theorem rN (i : Nat) (hi : i < 9) (op : Int) (hop : op = 77 + (i : Int)) (x y : BitVec 64) (w : World) : Calls prog 65 #[.int .i64 op, .int .u64 (n64 x), .int .u64 (n64 y)] w fun e w' => e = .returned (.tuple #[.int .u64 (n64 (jv (wdn (aR i 32 (x.toNat % 2 ^ 32) (y.toNat % 2 ^ 32)) 32) 64)), .bool true]) ∧ Below w.heap.size w w' := by
 have az : asz op = 4 := by unfold asz; rw [if_pos (by omega)]
 have HO := hid hop
 clear hop
 go_enter func65, ntmps65
 go_wp2_with fail
 refine (hJ op _).mono ?_
 rintro e w1 ⟨rfl, b1⟩
 have B1 := hid b1
 clear b1
 go_wp2_with fail
 refine (gV _).mono ?_
 rintro e w' ⟨rfl, rfl⟩
 go_wp2_with fail
 obtain ⟨W, hW⟩ : ∃ W, W = w1.alloc (.cells #[.int .i64 77, .int .i64 78, .int .i64 79, .int .i64 80, .int .i64 81, .int .i64 82, .int .i64 83, .int .i64 84, .int .i64 85] 3) := ⟨_, rfl⟩
 have hf : ∀ k : Nat, k < 9 → W.cell? ⟨w1.heap.size, k, none⟩ = some (.int .i64 (77 + (k : Int))) := fun k hk => by
  rw [hW, World.cell?_alloc_at _ _ _ _ rfl]
  match k, hk with
  | 0, _ => rfl
  | 1, _ => rfl
  | 2, _ => rfl
  | 3, _ => rfl
  | 4, _ => rfl
  | 5, _ => rfl
  | 6, _ => rfl
  | 7, _ => rfl
  | 8, _ => rfl
 have B2 : Hid (Below w1.heap.size w1 W) := by
  show Below w1.heap.size w1 W
  rw [hW]; exact (Below.refl _ _).alloc (Nat.le_refl _) _
 rw [← hW]
 clear hW
 go_loopw [10] (fun q wr => ∃ k : Nat, k ≤ i ∧ q = .int .i64 k ∧ wr = W) (fun q _ => 9 - (intOf q).toNat)
 case atStart => exact ⟨0, Nat.zero_le _, rfl, rfl⟩
 case round =>
  obtain ⟨k, hk, rfl, rfl⟩ := hrel
  have hc := hf k (by omega)
  have hl1 : (0 : Int) ≤ (k : Int) := by omega
  have hl2 : (k : Int) < 9 := by omega
  clear hf
  by_cases hlt : k < i
  ·have t0 : (77 + (k : Int) == op) = false := by have := HO.out; simp; omega
   go_wp2_with fail
   go_roundw
   case rel => exact ⟨k + 1, by omega, by go_num, trivial⟩
   case measure => simp [intOf]; omega
  ·have t0 : (77 + (k : Int) == op) = true := by have := HO.out; simp; omega
   have hki : k = i := by omega
   subst hki
   go_wp2_with fail
   refine (uZ x _).mono ?_
   rintro e w3 ⟨v3, rfl, l3, b3⟩
   have L3 := hid l3
   have B3 := hid b3
   clear l3 b3
   go_wp2_with fail
   refine (uZ y _).mono ?_
   rintro e w4 ⟨v4, rfl, l4, b4⟩
   have L4 := hid l4
   have B4 := hid b4
   clear l4 b4
   go_wp2_with fail
   refine (AQ k hi _ _ 32 (by decide) (by decide) (Nat.mod_lt _ (by decide)) (Nat.mod_lt _ (by decide)) v3 v4 _ (L3.out.later B4.out) L4.out).mono ?_
   rintro e w5 ⟨v5, rfl, l5, b5⟩
   have L5 := hid l5
   have B5 := hid b5
   clear l5 b5
   go_wp2_with fail
   refine (rU _ 32 (by decide) (by decide) v5 _ L5.out).mono ?_
   rintro e w6 ⟨v6, rfl, l6, b6⟩
   have L6 := hid l6
   have B6 := hid b6
   clear l6 b6
   go_wp2_with fail
   refine (qR _ 64 (by decide) v6 _ L6.out).mono ?_
   rintro e w7 ⟨rfl, rfl⟩
   have C2 := B1.out.trans (B2.out.mono B1.out.size)
   have C3 := C2.trans (B3.out.mono C2.size)
   have C4 := C3.trans (B4.out.mono C3.size)
   have C5 := C4.trans (B5.out.mono C4.size)
   have C6 := C5.trans (B6.out.mono C5.size)
   have C : Hid (Below w.heap.size w w7) := C6
   clear C2 C3 C4 C5 C6
   go_wp2
   go_ret2
   exact ⟨rfl, C.out⟩

theorem rM (i : Nat) (hi : i < 9) (op : Int) (hop : op = 88 + (i : Int)) (x y : BitVec 64) (w : World) : Calls prog 65 #[.int .i64 op, .int .u64 (n64 x), .int .u64 (n64 y)] w fun e w' => e = .returned (.tuple #[.int .u64 (n64 (jv (wdn (aR i 64 (x.toNat % 2 ^ 64) (y.toNat % 2 ^ 64)) 64) 64)), .bool true]) ∧ Below w.heap.size w w' := by
 have az : asz op = 8 := by unfold asz; rw [if_neg (by omega), if_pos (by omega)]
 have HO := hid hop
 clear hop
 go_enter func65, ntmps65
 go_wp2_with fail
 refine (hJ op _).mono ?_
 rintro e w1 ⟨rfl, b1⟩
 have B1 := hid b1
 clear b1
 go_wp2_with fail
 refine (gV _).mono ?_
 rintro e w' ⟨rfl, rfl⟩
 go_wp2_with fail
 refine (jP _).mono ?_
 rintro e w' ⟨rfl, rfl⟩
 go_wp2_with fail
 obtain ⟨W, hW⟩ : ∃ W, W = (w1.alloc (.cells #[.int .i64 77, .int .i64 78, .int .i64 79, .int .i64 80, .int .i64 81, .int .i64 82, .int .i64 83, .int .i64 84, .int .i64 85] 3)).alloc (.cells #[.int .i64 88, .int .i64 89, .int .i64 90, .int .i64 91, .int .i64 92, .int .i64 93, .int .i64 94, .int .i64 95, .int .i64 96] 3) := ⟨_, rfl⟩
 have hf : ∀ k : Nat, k < 9 → W.cell? ⟨w1.heap.size + 1, k, none⟩ = some (.int .i64 (88 + (k : Int))) := fun k hk => by
  rw [hW, pR]
  match k, hk with
  | 0, _ => rfl
  | 1, _ => rfl
  | 2, _ => rfl
  | 3, _ => rfl
  | 4, _ => rfl
  | 5, _ => rfl
  | 6, _ => rfl
  | 7, _ => rfl
  | 8, _ => rfl
 have B2 : Hid (Below w1.heap.size w1 W) := by
  show Below w1.heap.size w1 W
  rw [hW]; exact ((Below.refl _ _).alloc (Nat.le_refl _) _).alloc (by simp) _
 rw [← hW]
 clear hW
 go_loopw [10] (fun q wr => ∃ k : Nat, k ≤ i ∧ q = .int .i64 k ∧ wr = W) (fun q _ => 9 - (intOf q).toNat)
 case atStart => exact ⟨0, Nat.zero_le _, rfl, rfl⟩
 case round =>
  obtain ⟨k, hk, rfl, rfl⟩ := hrel
  have hc := hf k (by omega)
  have hl1 : (0 : Int) ≤ (k : Int) := by omega
  have hl2 : (k : Int) < 9 := by omega
  clear hf
  by_cases hlt : k < i
  ·have t0 : (88 + (k : Int) == op) = false := by have := HO.out; simp; omega
   go_wp2_with fail
   go_roundw
   case rel => exact ⟨k + 1, by omega, by go_num, trivial⟩
   case measure => simp [intOf]; omega
  ·have t0 : (88 + (k : Int) == op) = true := by have := HO.out; simp; omega
   have hki : k = i := by omega
   subst hki
   go_wp2_with fail
   refine (uY x _).mono ?_
   rintro e w3 ⟨v3, rfl, l3, b3⟩
   have L3 := hid l3
   have B3 := hid b3
   clear l3 b3
   go_wp2_with fail
   refine (uY y _).mono ?_
   rintro e w4 ⟨v4, rfl, l4, b4⟩
   have L4 := hid l4
   have B4 := hid b4
   clear l4 b4
   go_wp2_with fail
   refine (AQ k hi _ _ 64 (by decide) (by decide) (Nat.mod_lt _ (by decide)) (Nat.mod_lt _ (by decide)) v3 v4 _ (L3.out.later B4.out) L4.out).mono ?_
   rintro e w5 ⟨v5, rfl, l5, b5⟩
   have L5 := hid l5
   have B5 := hid b5
   clear l5 b5
   go_wp2_with fail
   refine (rU _ 64 (by decide) (by decide) v5 _ L5.out).mono ?_
   rintro e w6 ⟨v6, rfl, l6, b6⟩
   have L6 := hid l6
   have B6 := hid b6
   clear l6 b6
   go_wp2_with fail
   refine (qR _ 64 (by decide) v6 _ L6.out).mono ?_
   rintro e w7 ⟨rfl, rfl⟩
   have C2 := B1.out.trans (B2.out.mono B1.out.size)
   have C3 := C2.trans (B3.out.mono C2.size)
   have C4 := C3.trans (B4.out.mono C3.size)
   have C5 := C4.trans (B5.out.mono C4.size)
   have C6 := C5.trans (B6.out.mono C5.size)
   have C : Hid (Below w.heap.size w w7) := C6
   clear C2 C3 C4 C5 C6
   go_wp2
   go_ret2
   exact ⟨rfl, C.out⟩
theorem gU (x : BitVec 64) : (wid x).setWidth 32 = x.setWidth 32 := by
 unfold wid; ext i hi
 simp only [BitVec.getElem_setWidth]
 rw [BitVec.getLsbD_signExtend]
 simp [hi, show i < 64 by omega]
theorem xQ {x y : BitVec 64} (h : x.setWidth 32 = y.setWidth 32) : wid x = wid y := by unfold wid; rw [h]
theorem pJ (x : BitVec 64) : wid (wid x) = wid x := xQ (gU x)
theorem jw64 (R : Nat) : jv (wdn R 64) 64 = BitVec.ofNat 64 R := by
 apply BitVec.eq_of_toNat_eq
 rw [qS _ _ (by decide), BitVec.toNat_ofNat]
 unfold wdn; simp
theorem jw32 (R : Nat) : jv (wdn R 32) 64 = (BitVec.ofNat 32 R).signExtend 64 := by
 apply BitVec.eq_of_getLsbD_eq
 intro i hi
 have h1 : (jv (wdn R 32) 64).getLsbD i = (wdn R 32).testBit i := by
  show (jv (wdn R 32) 64).toNat.testBit i = _
  rw [qS _ _ (by decide), Nat.testBit_mod_two_pow]; simp [hi]
 have h2 := vC R 32 i hi
 rw [cK, cK, cK] at h2
 rw [h1, BitVec.getLsbD_signExtend, BitVec.msb_eq_getLsbD_last]
 simp only [hi, decide_true, Bool.true_and, BitVec.getLsbD_ofNat]
 by_cases hl : i < 32
 ·simp only [hl, if_true, decide_true, Bool.true_and] at h2 ⊢
  cases ha : (wdn R 32).testBit i <;> cases hb : R.testBit i <;> simp [ha, hb] at h2 ⊢
 ·simp only [hl, if_false] at h2 ⊢
  cases ha : (wdn R 32).testBit i <;> cases hb : R.testBit 31 <;> simp [ha, hb] at h2 ⊢
theorem svs (x : BitVec 64) : dK 32 (x.toNat % 2 ^ 32) = (wid x).toInt := by
 unfold wid; rw [BitVec.toInt_signExtend_of_le (by decide), BitVec.toInt_eq_toNat_cond, BitVec.toNat_setWidth]
 unfold dK
 have := Nat.mod_lt x.toNat (show 0 < 2 ^ 32 by decide)
 simp only [Nat.reduceSub, Nat.reducePow] at *
 split <;> split <;> omega
theorem GP (x : BitVec 64) : dK 64 (x.toNat % 2 ^ 64) = x.toInt := by
 rw [Nat.mod_eq_of_lt x.isLt]
 unfold dK; rw [BitVec.toInt_eq_toNat_cond]; have := x.isLt; simp only [Nat.reduceSub, Nat.reducePow] at *; split <;> split <;> omega
theorem uw (x y : BitVec 64) : decide (x.toNat % 2 ^ 32 < y.toNat % 2 ^ 32) = uLt (wid x) (wid y) := by
 have h : ∀ z : BitVec 64, n64 (wid z) = if z.toNat % 4294967296 < 2147483648 then ((z.toNat % 4294967296 : Nat) : Int) else ((z.toNat % 4294967296 : Nat) : Int) + 18446744069414584320 := fun z => by
  have h1 := svs z
  have h2 := BitVec.toInt_eq_toNat_cond (wid z)
  have h3 := (wid z).isLt
  unfold dK at h1
  unfold n64
  simp only [Nat.reduceSub, Nat.reducePow] at *
  split <;> split at h1 <;> split at h2 <;> omega
 unfold uLt; rw [h, h, Bool.eq_iff_iff]; simp only [decide_eq_true_eq]
 split <;> split <;> omega
theorem fG (x : BitVec 64) : BitVec.ofNat 32 (x.toNat % 2 ^ 32) = x.setWidth 32 := by
 apply BitVec.eq_of_toNat_eq; simp
theorem eQ (x : BitVec 64) : BitVec.ofNat 64 (x.toNat % 2 ^ 64) = x := by
 apply BitVec.eq_of_toNat_eq; rw [BitVec.toNat_ofNat, Nat.mod_mod, Nat.mod_eq_of_lt x.isLt]
theorem sx (x : BitVec 64) : (BitVec.ofNat 32 (x.toNat % 2 ^ 32)).signExtend 64 = wid x := by rw [fG]; rfl
theorem uV (c : Bool) (x y : BitVec 64) : (BitVec.ofNat 32 (jT c (x.toNat % 2 ^ 32) (y.toNat % 2 ^ 32))).signExtend 64 = wid (if c then wid y else wid x) := by
 cases c
 ·exact (sx x).trans (pJ x).symm
 ·exact (sx y).trans (pJ y).symm
theorem uU (c : Bool) (x y : BitVec 64) : BitVec.ofNat 64 (jT c (x.toNat % 2 ^ 64) (y.toNat % 2 ^ 64)) = if c then y else x := by
 cases c
 ·exact eQ x
 ·exact eQ y
def mW (i : Nat) (x y : BitVec 64) : BitVec 64 := ([wid (wid y), wid (wid x + wid y), wid (wid x ^^^ wid y), wid (wid x &&& wid y), wid (wid x ||| wid y), wid (xG (wid x) (wid y)), wid (xF (wid x) (wid y)), wid (xO (wid x) (wid y)), wid (xN (wid x) (wid y))] : List (BitVec 64)).getD i 0#64
def mD (i : Nat) (x y : BitVec 64) : BitVec 64 := ([y, x + y, x ^^^ y, x &&& y, x ||| y, xG x y, xF x y, xO x y, xN x y] : List (BitVec 64)).getD i 0#64
theorem ofx (n A B : Nat) : BitVec.ofNat n (A ^^^ B) = BitVec.ofNat n A ^^^ BitVec.ofNat n B := by
 apply BitVec.eq_of_toNat_eq; rw [BitVec.toNat_xor, BitVec.toNat_ofNat, BitVec.toNat_ofNat, BitVec.toNat_ofNat, Nat.xor_mod_two_pow]
theorem ofa (n A B : Nat) : BitVec.ofNat n (A &&& B) = BitVec.ofNat n A &&& BitVec.ofNat n B := by
 apply BitVec.eq_of_toNat_eq; rw [BitVec.toNat_and, BitVec.toNat_ofNat, BitVec.toNat_ofNat, BitVec.toNat_ofNat, Nat.and_mod_two_pow]
theorem ofo (n A B : Nat) : BitVec.ofNat n (A ||| B) = BitVec.ofNat n A ||| BitVec.ofNat n B := by
 apply BitVec.eq_of_toNat_eq; rw [BitVec.toNat_or, BitVec.toNat_ofNat, BitVec.toNat_ofNat, BitVec.toNat_ofNat, Nat.or_mod_two_pow]
theorem ltu (x y : BitVec 64) : decide (x.toNat < y.toNat) = uLt x y := by unfold uLt n64; rw [Bool.eq_iff_iff]; simp only [decide_eq_true_eq]; omega
theorem MG (i : Nat) (hi : i < 9) (x y : BitVec 64) : jv (wdn (aR i 64 (x.toNat % 2 ^ 64) (y.toNat % 2 ^ 64)) 64) 64 = mD i x y := by
 rw [jw64]
 match i, hi with
 | 0, _ => exact eQ y
 | 1, _ => show BitVec.ofNat 64 (x.toNat % 2 ^ 64 + y.toNat % 2 ^ 64 + 0) = x + y; rw [Nat.add_zero, BitVec.ofNat_add, eQ, eQ]
 | 2, _ => show BitVec.ofNat 64 (x.toNat % 2 ^ 64 ^^^ y.toNat % 2 ^ 64) = x ^^^ y; rw [ofx, eQ, eQ]
 | 3, _ => show BitVec.ofNat 64 (x.toNat % 2 ^ 64 &&& y.toNat % 2 ^ 64) = x &&& y; rw [ofa, eQ, eQ]
 | 4, _ => show BitVec.ofNat 64 (x.toNat % 2 ^ 64 ||| y.toNat % 2 ^ 64) = x ||| y; rw [ofo, eQ, eQ]
 | 5, _ => refine (uU _ x y).trans ?_; rw [GP, GP]; rfl
 | 6, _ => refine (uU _ x y).trans ?_; rw [GP, GP]; rfl
 | 7, _ => refine (uU _ x y).trans ?_; rw [Nat.mod_eq_of_lt x.isLt, Nat.mod_eq_of_lt y.isLt, ltu]; rfl
 | 8, _ => refine (uU _ x y).trans ?_; rw [Nat.mod_eq_of_lt x.isLt, Nat.mod_eq_of_lt y.isLt, ltu]; rfl
theorem MH (i : Nat) (hi : i < 9) (x y : BitVec 64) : jv (wdn (aR i 32 (x.toNat % 2 ^ 32) (y.toNat % 2 ^ 32)) 32) 64 = mW i x y := by
 rw [jw32]
 match i, hi with
 | 0, _ => exact (sx y).trans (pJ y).symm
 | 1, _ => exact congrArg (BitVec.signExtend 64) (by show BitVec.ofNat 32 (x.toNat % 2 ^ 32 + y.toNat % 2 ^ 32 + 0) = (wid x + wid y).setWidth 32; rw [Nat.add_zero, BitVec.ofNat_add, fG, fG, BitVec.setWidth_add _ _ (by decide), gU, gU])
 | 2, _ => exact congrArg (BitVec.signExtend 64) (by show BitVec.ofNat 32 (x.toNat % 2 ^ 32 ^^^ y.toNat % 2 ^ 32) = (wid x ^^^ wid y).setWidth 32; rw [ofx, fG, fG, BitVec.setWidth_xor, gU, gU])
 | 3, _ => exact congrArg (BitVec.signExtend 64) (by show BitVec.ofNat 32 (x.toNat % 2 ^ 32 &&& y.toNat % 2 ^ 32) = (wid x &&& wid y).setWidth 32; rw [ofa, fG, fG, BitVec.setWidth_and, gU, gU])
 | 4, _ => exact congrArg (BitVec.signExtend 64) (by show BitVec.ofNat 32 (x.toNat % 2 ^ 32 ||| y.toNat % 2 ^ 32) = (wid x ||| wid y).setWidth 32; rw [ofo, fG, fG, BitVec.setWidth_or, gU, gU])
 | 5, _ => refine (uV _ x y).trans ?_; rw [svs, svs]; rfl
 | 6, _ => refine (uV _ x y).trans ?_; rw [svs, svs]; rfl
 | 7, _ => refine (uV _ x y).trans ?_; rw [uw]; rfl
 | 8, _ => refine (uV _ x y).trans ?_; rw [uw]; rfl
theorem yE (i : Nat) (hi : i < 9) (x y : BitVec 64) (w : World) : Calls prog 52 #[.int .i64 (77 + (i : Int)), .int .u64 (n64 x), .int .u64 (n64 y)] w fun e w' => e = .returned (.tuple #[.int .u64 (n64 (mW i x y)), .bool true]) ∧ Below w.heap.size w w' := by
 match i, hi with
 | 0, _ => exact EO x y w
 | 1, _ => exact MJ x y w
 | 2, _ => exact MN x y w
 | 3, _ => exact ML x y w
 | 4, _ => exact TA x y w
 | 5, _ => exact wH x y w
 | 6, _ => exact sN x y w
 | 7, _ => exact mI x y w
 | 8, _ => exact lF x y w
theorem yD (i : Nat) (hi : i < 9) (x y : BitVec 64) (w : World) : Calls prog 52 #[.int .i64 (88 + (i : Int)), .int .u64 (n64 x), .int .u64 (n64 y)] w fun e w' => e = .returned (.tuple #[.int .u64 (n64 (mD i x y)), .bool true]) ∧ Below w.heap.size w w' := by
 match i, hi with
 | 0, _ => exact EN x y w
 | 1, _ => exact MI x y w
 | 2, _ => exact MM x y w
 | 3, _ => exact MK x y w
 | 4, _ => exact SZ x y w
 | 5, _ => exact wG x y w
 | 6, _ => exact sM x y w
 | 7, _ => exact mH x y w
 | 8, _ => exact lE x y w
end Go.Proofs.YtiffkbmppmejhaaGreatDoor
namespace Go.Proofs.YtiffkbmppmejhaaGreatDoor
set_option linter.unusedVariables false
set_option maxRecDepth 100000
set_option maxHeartbeats 8000000
open Go.ChangeShapes Go.WideShapes Go.ChangeAt Go.RowKit Go.Deep _root_.Go.Proofs.Tryz
section
variable {P : Program} {ops : Array Oper} {md : Region.Mode} {C : World → Prop}
def nA (P : Program) (md : Region.Mode) (ops : Array Oper) (C : World → Prop) (n : Nat) (L : Array Bool → Act → Prop) : Nat → Array Bool → Act → Prop
 | 0, listed, a => L listed a
 | f + 1, listed, a => Region.ready md ops listed ≠ [] ∧ ∀ i ∈ Region.ready md ops listed, i < n ∧ qOp P ops C i (nA P md ops C n L f (listed.setIfInBounds i true)) a
theorem nC {n g : Nat} {L : Array Bool → Act → Prop} {Q' : Exit → Act → World → Prop} (hL : ∀ listed a w, C w → L listed a → wpAny P md ops Q' g listed a w) :
  ∀ (f : Nat) (listed : Array Bool) (a : Act) (w : World), C w → nA P md ops C n L f listed a → wpAny P md ops Q' (f + g) listed a w
 | 0, listed, a, w, hw, h => by rw [Nat.zero_add]; exact hL _ _ _ hw h
 | f + 1, listed, a, w, hw, h => by
  rw [Nat.add_right_comm f 1 g]
  exact ⟨fun h0 => absurd h0 h.1, fun i hi => wpOp_of_qOp hw (fun a' w' hw' h' => nC hL f _ a' w' hw' h') (h.2 i hi).2⟩
theorem iL {n i : Nat} {listed : Array Bool} (hs : Region.sinkB md ops n = true) (hc : Region.chainB md ops n = true) (hn : n < ops.size) (inv : HeadInv md ops n listed) (hin : i < n) (hr : i ∈ Region.ready md ops listed) :
  ∀ j ∈ Region.ready md ops listed, j < n := fun j hj => by
 rcases Nat.lt_or_ge j n with h | h
 ·exact h
 ·exact absurd hj (tail_waits hs hc hn inv _ i rfl hin (mem_ready.1 hr).1 j h)
theorem pK {n i : Nat} {oi : Oper} {v : Value} {L : Array Bool → Act → Prop} (hi : ops[i]? = some oi) (hsel : ∀ (j : Nat) (o : Oper) cs b, ops[j]? = some o → o.op ≠ .select cs b)
  (hs : Region.sinkB md ops n = true) (hc : Region.chainB md ops n = true) (hn : n < ops.size) (hin : i < n) (hdone : ∀ listed a, L listed a → ∀ j ∈ Region.ready md ops listed, n ≤ j) :
  ∀ (f : Nat) (listed : Array Bool) (a : Act), HeadInv md ops n listed →
   (∀ j oj, ops[j]? = some oj → j ≠ i → listed.getD j true = false → (∀ e ∈ oj.after, Region.binds md e = true → e.on ≠ i) → oi.apart ops oj = true) →
   i ∈ Region.ready md ops listed → YieldsIn P ops C oi v a →
   nA P md ops C n L f (listed.setIfInBounds i true) (a.put oi.dst v) → nA P md ops C n L (f + 1) listed a := by
 intro f
 induction f with
 | zero =>
  intro listed a inv _ hr hy H
  refine ⟨List.ne_nil_of_mem hr, fun j hj => ⟨iL hs hc hn inv hin hr j hj, ?_⟩⟩
  by_cases e : j = i
  ·subst e; exact hy.qOp hi H
  ·have h1 := hdone _ _ H j (ready_mono hj e)
   have h2 := iL hs hc hn inv hin hr j hj
   omega
 | succ f ih =>
  intro listed a inv hfree hr hy H
  refine ⟨List.ne_nil_of_mem hr, fun j hj => ⟨iL hs hc hn inv hin hr j hj, ?_⟩⟩
  by_cases e : j = i
  ·subst e; exact hy.qOp hi H
  ·obtain ⟨hun, oj, hoj, hall⟩ := mem_ready.1 hj
   have hap : oi.apart ops oj = true := hfree j oj hoj e hun fun q hq hb heq => by
    have h1 := hall q hq hb
    rw [heq, getD_both (mem_ready.1 hr).1] at h1
    cases h1
   refine qOp_mono (fun a' h3 => ih (listed.setIfInBounds j true) a' (inv.set hj (iL hs hc hn inv hin hr j hj)) (fun k ok hk hki hunk hno => ?_) (ready_mono hr (Ne.symm e)) h3.1 ?_)
    (qOp_put hoj hap (fun cs b => hsel i oi cs b hi) (fun cs b => hsel j oj cs b hoj) hy (H.2 j (ready_mono hj e)).2)
   ·refine hfree k ok hk hki ?_ hno
    by_cases e2 : j = k
    ·subst e2; exact hun
    ·rwa [getD_set_ne true e2] at hunk
   ·rw [Array.setIfInBounds_comm _ _ e]; exact h3.2
theorem nB {n g : Nat} {Lq : Act → Prop} (hsel : Region.noSelect ops = true) (hs : Region.sinkB md ops n = true) (hc : Region.chainB md ops n = true) (hn : n < ops.size) :
  ∀ (l : List Oper) (k : Nat) (listed : Array Bool) (a : Act), (∀ j, j < l.length → l[j]? = ops[k + j]?) → k + l.length = n → HeadInv md ops n listed →
  Region.lexHead md ops g l.length k listed = true → wpQuiet P ops C Lq l a → nA P md ops C n (fun listed' a' => Region.seqB md ops g n listed' = true ∧ Lq a') l.length listed a
 | [], k, listed, a, _, hk, _, hB, h => by
  obtain rfl : k = n := by simpa using hk
  exact ⟨by simpa [Region.lexHead] using hB, h⟩
 | o :: l, k, listed, a, hl, hk, inv, hB, h => by
  simp only [List.length_cons] at hk
  have h0 : ops[k]? = some o := by simpa using (hl 0 (by simp)).symm
  simp only [List.length_cons, Region.lexHead, Bool.and_eq_true] at hB
  have hr : k ∈ Region.ready md ops listed := by simpa using hB.1.1
  obtain ⟨v, hy, hK⟩ := yieldsIn_of_qOp (K := wpQuiet P ops C Lq l) h0 (by unfold qOp; simp only [h0]; exact h)
  refine pK h0 (Region.noSelect_spec hsel) hs hc hn (by omega) (fun listed' a' hL => seqB_ready hL.1) l.length listed a inv (Region.free_spec h0 hB.1.2) hr hy ?_
  refine nB hsel hs hc hn l (k + 1) _ _ (fun j hj => ?_) (by omega) (inv.set hr (by omega)) hB.2 hK
  have := hl (j + 1) (by simp; omega)
  simpa [Nat.add_assoc, Nat.add_comm 1 j] using this
theorem iH {id : Nat} {Q : Exit → Act → World → Prop} {a : Act} {w : World} {l : List Oper} (n : Nat) (hm : P.follows .mixedOrders = true) (hB : Region.lexTailB .any l.toArray n = true) (hC : C { w with drawn := w.drawn + 1 })
  (h : wpQuiet P l.toArray C (fun a' => ∀ w', C w' → wpList P l.toArray Q (l.drop n) a' w') (l.take n) a) : (Code.region id l.toArray true).wp P Q a w := by
 simp only [Region.lexTailB, Bool.and_eq_true, decide_eq_true_eq] at hB
 obtain ⟨⟨⟨⟨hsel, hn⟩, hs⟩, hc⟩, hlex⟩ := hB
 have hn' : n < l.length := by simpa using hn
 have ht : (l.take n).length = n := by simp; omega
 have hd : (l.drop n).length = l.toArray.size - n := by simp
 have H := nB (md := .any) (g := l.toArray.size - n) hsel hs hc hn (l.take n) 0 (Array.replicate l.toArray.size false) a (fun j hj => by
  rw [ht] at hj
  simp [hj]) (by simpa using ht) ⟨by simp, fun j oj _ hl => (by rw [getD_replicate_false] at hl; cases hl), fun t _ ht' => getD_in (by simpa using ht') (getD_replicate_false _ _)⟩ (by rw [ht]; exact hlex) h
 have G := nC (Q' := Q) (g := l.toArray.size - n) (fun listed a' w' hw' hL => by
  have := wpAny_of_seq (md := .any) (Q' := Q) (l.drop n) n listed a' w' (fun j => by simp [List.getElem?_drop]) (by rw [hd]; exact hL.1) (hL.2 w' hw')
  rwa [hd] at this) _ _ _ _ hC H
 rw [ht, show n + (l.toArray.size - n) = l.toArray.size by omega] at G
 exact wp_region_any hm G
end
theorem aM {P : Program} {id : Nat} {Q : Exit → Act → World → Prop} {a : Act} {W : World} {x0 : bV W} {l : List Oper} (n : Nat) (hm : P.follows .mixedOrders = true) (hB : Region.lexTailB .any l.toArray n = true)
  (h : wpQuiet P l.toArray (fun w' => ∃ x : bV W, w' = x.1) (fun a' => ∀ w', (∃ x : bV W, w' = x.1) → wpList P l.toArray Q (l.drop n) a' w') (l.take n) a) : (Code.region id l.toArray true).wp P Q a x0.1 :=
 iH (C := fun w' => ∃ x : bV W, w' = x.1) n hm hB ⟨⟨_, x0.2.drew⟩, rfl⟩ h
end Go.Proofs.YtiffkbmppmejhaaGreatDoor
