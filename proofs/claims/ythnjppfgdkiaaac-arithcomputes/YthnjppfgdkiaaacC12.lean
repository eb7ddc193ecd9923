/-
  The reference: Compute, each number.
-/
import Derived.Test.YthnjppfgdkiaaacC11
import Derived.Test.YthnjppfgdkiaaacKnN
namespace Go.Proofs.Ythnjppfgdkiaaac
open Go.ChangeShapes Go.WideShapes Go.ChangeAt Go.RowKit
set_option linter.unusedVariables false
theorem c64 (k q : Int) (x y W : BitVec 64) (N : Nat) (hr : rg k = q) (hl : lo q = 0) (h3 : q ≠ 63 ∧ q ≠ 64 ∧ q ≠ 65) (ho : OneIs q x.toNat y.toNat 64 N) (he : BitVec.ofNat 64 N = W) (w : World) :
    Calls Try.prog 15 #[.int .i64 k, .int .u64 (n64 x), .int .u64 (n64 y)] w fun e w' => e = .returned (.tuple #[.int .u64 (n64 W), .bool true]) ∧ Below w.heap.size w w' := by
  have h := comp_64 k q x y N hr hl h3 (by rw [Nat.mod_eq_of_lt x.isLt, Nat.mod_eq_of_lt y.isLt]; exact ho) w
  rw [e64, he] at h; exact h
theorem c32 (k q p : Int) (x y Z : BitVec 64) (N : Nat) (hr : rg k = q) (hl : lo q = p) (hp : p ≠ 0) (h3 : q ≠ 63 ∧ q ≠ 64 ∧ q ≠ 65) (ho : OneIs p (x.setWidth 32).toNat (y.setWidth 32).toNat 32 N) (he : BitVec.ofNat 32 N = Z.setWidth 32) (w : World) :
    Calls Try.prog 15 #[.int .i64 k, .int .u64 (n64 x), .int .u64 (n64 y)] w fun e w' => e = .returned (.tuple #[.int .u64 (n64 (wid Z)), .bool true]) ∧ Below w.heap.size w w' := by
  have h := comp_32 k q p x y N hr hl hp h3 (by rw [lowN, lowN]; exact ho) w
  rw [e32, he] at h; exact h
theorem if_n {n : Nat} (b : BitVec n) (z r : Nat) (Z R : BitVec n) (hz : BitVec.ofNat n z = Z) (hr : BitVec.ofNat n r = R) : BitVec.ofNat n (if b.toNat = 0 then z else r) = if b = 0#n then Z else R := by
  by_cases h : b = 0#n
  · rw [if_pos h, if_pos (by rw [h]; simp), hz]
  · rw [if_neg h, if_neg (fun e => h (BitVec.eq_of_toNat_eq (by rw [e]; simp))), hr]
theorem on_self {n : Nat} (a : BitVec n) : BitVec.ofNat n a.toNat = a := by simp
theorem w_sub (x y : BitVec 64) : (x - y).setWidth 32 = x.setWidth 32 - y.setWidth 32 := by
  apply BitVec.eq_of_toNat_eq; simp [BitVec.toNat_sub]; omega
theorem rc_35 (k : Int) (hk : rg k = 35) (x y : BitVec 64) (w : World) :
    Calls Try.prog 15 #[.int .i64 k, .int .u64 (n64 x), .int .u64 (n64 y)] w fun e w' => e = .returned (.tuple #[.int .u64 (n64 (x + y)), .bool true]) ∧ Below w.heap.size w w' :=
  c64 k 35 x y _ _ hk rfl (by decide) (fun va vb w la lb => one_35 _ _ 64 (Or.inr rfl) (BitVec.isLt _) (BitVec.isLt _) va vb w la lb) (on_add x y) w
theorem rc_36 (k : Int) (hk : rg k = 36) (x y : BitVec 64) (w : World) :
    Calls Try.prog 15 #[.int .i64 k, .int .u64 (n64 x), .int .u64 (n64 y)] w fun e w' => e = .returned (.tuple #[.int .u64 (n64 (x - y)), .bool true]) ∧ Below w.heap.size w w' :=
  c64 k 36 x y _ _ hk rfl (by decide) (fun va vb w la lb => one_36 _ _ 64 (Or.inr rfl) (BitVec.isLt _) (BitVec.isLt _) va vb w la lb) (on_sub x y) w
theorem rc_37 (k : Int) (hk : rg k = 37) (x y : BitVec 64) (w : World) :
    Calls Try.prog 15 #[.int .i64 k, .int .u64 (n64 x), .int .u64 (n64 y)] w fun e w' => e = .returned (.tuple #[.int .u64 (n64 (x <<< (n64 y % 64).toNat)), .bool true]) ∧ Below w.heap.size w w' :=
  c64 k 37 x y _ _ hk rfl (by decide) (fun va vb w la lb => one_37 _ _ 64 (Or.inr rfl) (BitVec.isLt _) (BitVec.isLt _) va vb w la lb) ((by rw [sh64]; exact on_shl x _)) w
theorem rc_41 (k : Int) (hk : rg k = 41) (x y : BitVec 64) (w : World) :
    Calls Try.prog 15 #[.int .i64 k, .int .u64 (n64 x), .int .u64 (n64 y)] w fun e w' => e = .returned (.tuple #[.int .u64 (n64 (x >>> (n64 y % 64).toNat)), .bool true]) ∧ Below w.heap.size w w' :=
  c64 k 41 x y _ _ hk rfl (by decide) (fun va vb w la lb => one_41 _ _ 64 (Or.inr rfl) (BitVec.isLt _) (BitVec.isLt _) va vb w la lb) ((by rw [sh64]; exact on_shr x _)) w
theorem rc_42 (k : Int) (hk : rg k = 42) (x y : BitVec 64) (w : World) :
    Calls Try.prog 15 #[.int .i64 k, .int .u64 (n64 x), .int .u64 (n64 y)] w fun e w' => e = .returned (.tuple #[.int .u64 (n64 (x.sshiftRight (n64 y % 64).toNat)), .bool true]) ∧ Below w.heap.size w w' :=
  c64 k 42 x y _ _ hk rfl (by decide) (fun va vb w la lb => one_42 _ _ 64 (Or.inr rfl) (BitVec.isLt _) (BitVec.isLt _) va vb w la lb) ((by rw [sh64]; exact on_sra x _)) w
theorem rc_38 (k : Int) (hk : rg k = 38) (x y : BitVec 64) (w : World) :
    Calls Try.prog 15 #[.int .i64 k, .int .u64 (n64 x), .int .u64 (n64 y)] w fun e w' => e = .returned (.tuple #[.int .u64 (n64 (bSlt x y)), .bool true]) ∧ Below w.heap.size w w' :=
  c64 k 38 x y _ _ hk rfl (by decide) (fun va vb w la lb => one_38 _ _ 64 (Or.inr rfl) (BitVec.isLt _) (BitVec.isLt _) va vb w la lb) (yes_slt x y) w
theorem rc_39 (k : Int) (hk : rg k = 39) (x y : BitVec 64) (w : World) :
    Calls Try.prog 15 #[.int .i64 k, .int .u64 (n64 x), .int .u64 (n64 y)] w fun e w' => e = .returned (.tuple #[.int .u64 (n64 (bSltu x y)), .bool true]) ∧ Below w.heap.size w w' :=
  c64 k 39 x y _ _ hk rfl (by decide) (fun va vb w la lb => one_39 _ _ 64 (Or.inr rfl) (BitVec.isLt _) (BitVec.isLt _) va vb w la lb) (yes_sltu x y) w
theorem rc_40 (k : Int) (hk : rg k = 40) (x y : BitVec 64) (w : World) :
    Calls Try.prog 15 #[.int .i64 k, .int .u64 (n64 x), .int .u64 (n64 y)] w fun e w' => e = .returned (.tuple #[.int .u64 (n64 (x ^^^ y)), .bool true]) ∧ Below w.heap.size w w' :=
  c64 k 40 x y _ _ hk rfl (by decide) (fun va vb w la lb => one_40 _ _ 64 (Or.inr rfl) (BitVec.isLt _) (BitVec.isLt _) va vb w la lb) (on_xor x y) w
theorem rc_43 (k : Int) (hk : rg k = 43) (x y : BitVec 64) (w : World) :
    Calls Try.prog 15 #[.int .i64 k, .int .u64 (n64 x), .int .u64 (n64 y)] w fun e w' => e = .returned (.tuple #[.int .u64 (n64 (x ||| y)), .bool true]) ∧ Below w.heap.size w w' :=
  c64 k 43 x y _ _ hk rfl (by decide) (fun va vb w la lb => one_43 _ _ 64 (Or.inr rfl) (BitVec.isLt _) (BitVec.isLt _) va vb w la lb) (on_or x y) w
theorem rc_44 (k : Int) (hk : rg k = 44) (x y : BitVec 64) (w : World) :
    Calls Try.prog 15 #[.int .i64 k, .int .u64 (n64 x), .int .u64 (n64 y)] w fun e w' => e = .returned (.tuple #[.int .u64 (n64 (x &&& y)), .bool true]) ∧ Below w.heap.size w w' :=
  c64 k 44 x y _ _ hk rfl (by decide) (fun va vb w la lb => one_44 _ _ 64 (Or.inr rfl) (BitVec.isLt _) (BitVec.isLt _) va vb w la lb) (on_and x y) w
theorem rc_62 (k : Int) (hk : rg k = 62) (x y : BitVec 64) (w : World) :
    Calls Try.prog 15 #[.int .i64 k, .int .u64 (n64 x), .int .u64 (n64 y)] w fun e w' => e = .returned (.tuple #[.int .u64 (n64 (x * y)), .bool true]) ∧ Below w.heap.size w w' :=
  c64 k 62 x y _ _ hk rfl (by decide) (fun va vb w la lb => one_62 _ _ 64 (Or.inr rfl) (BitVec.isLt _) (BitVec.isLt _) va vb w la lb) (on_mul x y) w
theorem rc_66 (k : Int) (hk : rg k = 66) (x y : BitVec 64) (w : World) :
    Calls Try.prog 15 #[.int .i64 k, .int .u64 (n64 x), .int .u64 (n64 y)] w fun e w' => e = .returned (.tuple #[.int .u64 (n64 (qDiv x y)), .bool true]) ∧ Below w.heap.size w w' :=
  c64 k 66 x y _ _ hk rfl (by decide) (fun va vb w la lb => one_66 _ _ 64 (Or.inr rfl) (BitVec.isLt _) (BitVec.isLt _) va vb w la lb) (if_n y _ _ _ _ (on_ones 64) (on_sdiv x y (by decide))) w
theorem rc_67 (k : Int) (hk : rg k = 67) (x y : BitVec 64) (w : World) :
    Calls Try.prog 15 #[.int .i64 k, .int .u64 (n64 x), .int .u64 (n64 y)] w fun e w' => e = .returned (.tuple #[.int .u64 (n64 (qDivu x y)), .bool true]) ∧ Below w.heap.size w w' :=
  c64 k 67 x y _ _ hk rfl (by decide) (fun va vb w la lb => one_67 _ _ 64 (Or.inr rfl) (BitVec.isLt _) (BitVec.isLt _) va vb w la lb) (if_n y _ _ _ _ (on_ones 64) (on_div x y)) w
theorem rc_68 (k : Int) (hk : rg k = 68) (x y : BitVec 64) (w : World) :
    Calls Try.prog 15 #[.int .i64 k, .int .u64 (n64 x), .int .u64 (n64 y)] w fun e w' => e = .returned (.tuple #[.int .u64 (n64 (qRem x y)), .bool true]) ∧ Below w.heap.size w w' :=
  c64 k 68 x y _ _ hk rfl (by decide) (fun va vb w la lb => one_68 _ _ 64 (Or.inr rfl) (BitVec.isLt _) (BitVec.isLt _) va vb w la lb) (if_n y _ _ _ _ (on_self x) (on_srem x y (by decide))) w
theorem rc_69 (k : Int) (hk : rg k = 69) (x y : BitVec 64) (w : World) :
    Calls Try.prog 15 #[.int .i64 k, .int .u64 (n64 x), .int .u64 (n64 y)] w fun e w' => e = .returned (.tuple #[.int .u64 (n64 (qRemu x y)), .bool true]) ∧ Below w.heap.size w w' :=
  c64 k 69 x y _ _ hk rfl (by decide) (fun va vb w la lb => one_69 _ _ 64 (Or.inr rfl) (BitVec.isLt _) (BitVec.isLt _) va vb w la lb) (if_n y _ _ _ _ (on_self x) (on_mod x y)) w
theorem rc_45 (k : Int) (hk : rg k = 45) (x y : BitVec 64) (w : World) :
    Calls Try.prog 15 #[.int .i64 k, .int .u64 (n64 x), .int .u64 (n64 y)] w fun e w' => e = .returned (.tuple #[.int .u64 (n64 (wid (x + y))), .bool true]) ∧ Below w.heap.size w w' :=
  c32 k 45 35 x y _ _ hk rfl (by decide) (by decide) (fun va vb w la lb => one_35 _ _ 32 (Or.inl rfl) (BitVec.isLt _) (BitVec.isLt _) va vb w la lb) ((on_add (x.setWidth 32) (y.setWidth 32)).trans (BitVec.setWidth_add x y (by decide)).symm) w
theorem rc_46 (k : Int) (hk : rg k = 46) (x y : BitVec 64) (w : World) :
    Calls Try.prog 15 #[.int .i64 k, .int .u64 (n64 x), .int .u64 (n64 y)] w fun e w' => e = .returned (.tuple #[.int .u64 (n64 (wid (x - y))), .bool true]) ∧ Below w.heap.size w w' :=
  c32 k 46 36 x y _ _ hk rfl (by decide) (by decide) (fun va vb w la lb => one_36 _ _ 32 (Or.inl rfl) (BitVec.isLt _) (BitVec.isLt _) va vb w la lb) ((on_sub (x.setWidth 32) (y.setWidth 32)).trans (w_sub x y).symm) w
theorem rc_47 (k : Int) (hk : rg k = 47) (x y : BitVec 64) (w : World) :
    Calls Try.prog 15 #[.int .i64 k, .int .u64 (n64 x), .int .u64 (n64 y)] w fun e w' => e = .returned (.tuple #[.int .u64 (n64 (wid (x <<< (n64 y % 32 % 64).toNat))), .bool true]) ∧ Below w.heap.size w w' :=
  c32 k 47 37 x y _ _ hk rfl (by decide) (by decide) (fun va vb w la lb => one_37 _ _ 32 (Or.inl rfl) (BitVec.isLt _) (BitVec.isLt _) va vb w la lb) (by rw [sh32, w_shl, lowN]; exact on_shl (x.setWidth 32) _) w
theorem rc_48 (k : Int) (hk : rg k = 48) (x y : BitVec 64) (w : World) :
    Calls Try.prog 15 #[.int .i64 k, .int .u64 (n64 x), .int .u64 (n64 y)] w fun e w' => e = .returned (.tuple #[.int .u64 (n64 (wid (low x >>> (n64 y % 32 % 64).toNat))), .bool true]) ∧ Below w.heap.size w w' :=
  c32 k 48 41 x y _ _ hk rfl (by decide) (by decide) (fun va vb w la lb => one_41 _ _ 32 (Or.inl rfl) (BitVec.isLt _) (BitVec.isLt _) va vb w la lb) (by rw [sh32, w_shr, lowN]; exact on_shr (x.setWidth 32) _) w
theorem rc_49 (k : Int) (hk : rg k = 49) (x y : BitVec 64) (w : World) :
    Calls Try.prog 15 #[.int .i64 k, .int .u64 (n64 x), .int .u64 (n64 y)] w fun e w' => e = .returned (.tuple #[.int .u64 (n64 (wid ((wid x).sshiftRight (n64 y % 32 % 64).toNat))), .bool true]) ∧ Below w.heap.size w w' :=
  c32 k 49 42 x y _ _ hk rfl (by decide) (by decide) (fun va vb w la lb => one_42 _ _ 32 (Or.inl rfl) (BitVec.isLt _) (BitVec.isLt _) va vb w la lb) (by rw [sh32, w_sra x _ (Nat.mod_lt _ (by decide)), lowN]; exact on_sra (x.setWidth 32) _) w
theorem rc_70 (k : Int) (hk : rg k = 70) (x y : BitVec 64) (w : World) :
    Calls Try.prog 15 #[.int .i64 k, .int .u64 (n64 x), .int .u64 (n64 y)] w fun e w' => e = .returned (.tuple #[.int .u64 (n64 (wid (x * y))), .bool true]) ∧ Below w.heap.size w w' :=
  c32 k 70 62 x y _ _ hk rfl (by decide) (by decide) (fun va vb w la lb => one_62 _ _ 32 (Or.inl rfl) (BitVec.isLt _) (BitVec.isLt _) va vb w la lb) ((on_mul (x.setWidth 32) (y.setWidth 32)).trans (BitVec.setWidth_mul x y (by decide)).symm) w
theorem rc_71 (k : Int) (hk : rg k = 71) (x y : BitVec 64) (w : World) :
    Calls Try.prog 15 #[.int .i64 k, .int .u64 (n64 x), .int .u64 (n64 y)] w fun e w' => e = .returned (.tuple #[.int .u64 (n64 (wid (qDiv (wid x) (wid y)))), .bool true]) ∧ Below w.heap.size w w' :=
  c32 k 71 66 x y _ _ hk rfl (by decide) (by decide) (fun va vb w la lb => one_66 _ _ 32 (Or.inl rfl) (BitVec.isLt _) (BitVec.isLt _) va vb w la lb) ((if_n (y.setWidth 32) _ _ _ _ (on_ones 32) (on_sdiv (x.setWidth 32) (y.setWidth 32) (by decide))).trans (w_sdiv x y).symm) w
theorem rc_72 (k : Int) (hk : rg k = 72) (x y : BitVec 64) (w : World) :
    Calls Try.prog 15 #[.int .i64 k, .int .u64 (n64 x), .int .u64 (n64 y)] w fun e w' => e = .returned (.tuple #[.int .u64 (n64 (wid (qDivu (low x) (low y)))), .bool true]) ∧ Below w.heap.size w w' :=
  c32 k 72 67 x y _ _ hk rfl (by decide) (by decide) (fun va vb w la lb => one_67 _ _ 32 (Or.inl rfl) (BitVec.isLt _) (BitVec.isLt _) va vb w la lb) ((if_n (y.setWidth 32) _ _ _ _ (on_ones 32) (on_div (x.setWidth 32) (y.setWidth 32))).trans (w_udiv x y).symm) w
theorem rc_73 (k : Int) (hk : rg k = 73) (x y : BitVec 64) (w : World) :
    Calls Try.prog 15 #[.int .i64 k, .int .u64 (n64 x), .int .u64 (n64 y)] w fun e w' => e = .returned (.tuple #[.int .u64 (n64 (wid (qRem (wid x) (wid y)))), .bool true]) ∧ Below w.heap.size w w' :=
  c32 k 73 68 x y _ _ hk rfl (by decide) (by decide) (fun va vb w la lb => one_68 _ _ 32 (Or.inl rfl) (BitVec.isLt _) (BitVec.isLt _) va vb w la lb) ((if_n (y.setWidth 32) _ _ _ _ (on_self (x.setWidth 32)) (on_srem (x.setWidth 32) (y.setWidth 32) (by decide))).trans (w_srem x y).symm) w
theorem rc_74 (k : Int) (hk : rg k = 74) (x y : BitVec 64) (w : World) :
    Calls Try.prog 15 #[.int .i64 k, .int .u64 (n64 x), .int .u64 (n64 y)] w fun e w' => e = .returned (.tuple #[.int .u64 (n64 (wid (qRemu (low x) (low y)))), .bool true]) ∧ Below w.heap.size w w' :=
  c32 k 74 69 x y _ _ hk rfl (by decide) (by decide) (fun va vb w la lb => one_69 _ _ 32 (Or.inl rfl) (BitVec.isLt _) (BitVec.isLt _) va vb w la lb) ((if_n (y.setWidth 32) _ _ _ _ (on_self (x.setWidth 32)) (on_mod (x.setWidth 32) (y.setWidth 32))).trans (w_umod x y).symm) w
set_option maxHeartbeats 1000000 in
theorem rc_63 (x y : BitVec 64) (w : World) :
    Calls Try.prog 15 #[.int .i64 63, .int .u64 (n64 x), .int .u64 (n64 y)] w fun e w' => e = .returned (.tuple #[.int .u64 (n64 (hiP x y - exc x y - exc y x)), .bool true]) ∧ Below w.heap.size w w' := by
  obtain ⟨V, hV⟩ : ∃ V, V = (hiP x y - exc x y - exc y x) := ⟨_, rfl⟩
  rw [← hV]
  have hW : hiP x y - (if true && ng x then y else 0#64) - (if true && ng y then x else 0#64) = V := by rw [hV]; exact rfl
  have HW : Hid (∀ w', Calls Try.prog 23 #[.int .u64 (n64 x), .int .u64 (n64 y), .bool true, .bool true] w' fun e w'' => e = .returned (.tuple #[.int .u64 (n64 V), .int .u64 (n64 (x * y))]) ∧ Below w'.heap.size w' w'') := fun w' => by
    have h := refWide_any x y true true w'
    rw [hW] at h; exact h
  clear hV hW
  have hr : rg 63 = 63 := rfl
  go_enter Try.func15, Try.ntmps15
  go_wp2_with fail
  refine (register_any 63 _).mono ?_
  rintro e w1 ⟨rfl, b1⟩
  rw [hr]
  have B1 : Hid (Below w.heap.size w w1) := b1
  clear b1
  go_wp2_with fail
  refine (HW.out _).mono ?_
  rintro e w2 ⟨rfl, b2⟩
  have B2 : Hid (Below w.heap.size w w2) := B1.out.trans (b2.mono B1.out.size)
  clear b2
  go_wp2
  go_ret2
  exact ⟨rfl, B2.out⟩
set_option maxHeartbeats 1000000 in
theorem rc_64 (x y : BitVec 64) (w : World) :
    Calls Try.prog 15 #[.int .i64 64, .int .u64 (n64 x), .int .u64 (n64 y)] w fun e w' => e = .returned (.tuple #[.int .u64 (n64 (hiP x y - exc x y)), .bool true]) ∧ Below w.heap.size w w' := by
  obtain ⟨V, hV⟩ : ∃ V, V = (hiP x y - exc x y) := ⟨_, rfl⟩
  rw [← hV]
  have hW : hiP x y - (if true && ng x then y else 0#64) - (if false && ng y then x else 0#64) = V := by rw [hV]; exact BitVec.sub_zero _
  have HW : Hid (∀ w', Calls Try.prog 23 #[.int .u64 (n64 x), .int .u64 (n64 y), .bool true, .bool false] w' fun e w'' => e = .returned (.tuple #[.int .u64 (n64 V), .int .u64 (n64 (x * y))]) ∧ Below w'.heap.size w' w'') := fun w' => by
    have h := refWide_any x y true false w'
    rw [hW] at h; exact h
  clear hV hW
  have hr : rg 64 = 64 := rfl
  go_enter Try.func15, Try.ntmps15
  go_wp2_with fail
  refine (register_any 64 _).mono ?_
  rintro e w1 ⟨rfl, b1⟩
  rw [hr]
  have B1 : Hid (Below w.heap.size w w1) := b1
  clear b1
  go_wp2_with fail
  refine (HW.out _).mono ?_
  rintro e w2 ⟨rfl, b2⟩
  have B2 : Hid (Below w.heap.size w w2) := B1.out.trans (b2.mono B1.out.size)
  clear b2
  go_wp2
  go_ret2
  exact ⟨rfl, B2.out⟩
set_option maxHeartbeats 1000000 in
theorem rc_65 (x y : BitVec 64) (w : World) :
    Calls Try.prog 15 #[.int .i64 65, .int .u64 (n64 x), .int .u64 (n64 y)] w fun e w' => e = .returned (.tuple #[.int .u64 (n64 (hiP x y)), .bool true]) ∧ Below w.heap.size w w' := by
  obtain ⟨V, hV⟩ : ∃ V, V = (hiP x y) := ⟨_, rfl⟩
  rw [← hV]
  have hW : hiP x y - (if false && ng x then y else 0#64) - (if false && ng y then x else 0#64) = V := by rw [hV]; exact (BitVec.sub_zero _).trans (BitVec.sub_zero _)
  have HW : Hid (∀ w', Calls Try.prog 23 #[.int .u64 (n64 x), .int .u64 (n64 y), .bool false, .bool false] w' fun e w'' => e = .returned (.tuple #[.int .u64 (n64 V), .int .u64 (n64 (x * y))]) ∧ Below w'.heap.size w' w'') := fun w' => by
    have h := refWide_any x y false false w'
    rw [hW] at h; exact h
  clear hV hW
  have hr : rg 65 = 65 := rfl
  go_enter Try.func15, Try.ntmps15
  go_wp2_with fail
  refine (register_any 65 _).mono ?_
  rintro e w1 ⟨rfl, b1⟩
  rw [hr]
  have B1 : Hid (Below w.heap.size w w1) := b1
  clear b1
  go_wp2_with fail
  refine (HW.out _).mono ?_
  rintro e w2 ⟨rfl, b2⟩
  have B2 : Hid (Below w.heap.size w w2) := B1.out.trans (b2.mono B1.out.size)
  clear b2
  go_wp2
  go_ret2
  exact ⟨rfl, B2.out⟩
set_option maxHeartbeats 2000000 in
theorem rc_none (k : Int) (h : cK k = false) (x y : BitVec 64) (w : World) :
    Calls Try.prog 15 #[.int .i64 k, .int .u64 (n64 x), .int .u64 (n64 y)] w fun e w' => e = .returned (.tuple #[.int .u64 0, .bool false]) ∧ Below w.heap.size w w' := by
  have hk : ¬ ((22 ≤ k ∧ k < 50) ∨ (62 ≤ k ∧ k < 75)) := by unfold cK at h; simpa using h
  have hr : rg k = k := by unfold rg; repeat rw [if_neg (by omega)]
  have hl : lo k = 0 := by unfold lo; repeat rw [if_neg (by omega)]
  have HO : Hid (k ≠ 35 ∧ k ≠ 36 ∧ k ≠ 37 ∧ k ≠ 41 ∧ k ≠ 42 ∧ k ≠ 38 ∧ k ≠ 39 ∧ k ≠ 40 ∧ k ≠ 43 ∧ k ≠ 44 ∧ k ≠ 62 ∧ k ≠ 66 ∧ k ≠ 67 ∧ k ≠ 68 ∧ k ≠ 69) := by refine ⟨?_, ?_, ?_, ?_, ?_, ?_, ?_, ?_, ?_, ?_, ?_, ?_, ?_, ?_, ?_⟩ <;> omega
  have t63 : (k == 63) = false := by simp; omega
  have t64 : (k == 64) = false := by simp; omega
  have t65 : (k == 65) = false := by simp; omega
  clear hk h
  go_enter Try.func15, Try.ntmps15
  go_wp2_with fail
  refine (register_any k _).mono ?_
  rintro e w1 ⟨rfl, b1⟩
  rw [hr]
  have B1 : Hid (Below w.heap.size w w1) := b1
  clear b1
  go_wp2_with fail
  refine (long_any k _).mono ?_
  rintro e w2 ⟨rfl, b2⟩
  rw [hl]
  have B2 : Hid (Below w.heap.size w w2) := B1.out.trans (b2.mono B1.out.size)
  clear b2
  go_wp2_with fail
  refine (split_any x 64 (by decide) (by decide) _).mono ?_
  rintro e w3 ⟨v3, rfl, l3, b3⟩
  have L3 : Hid (Lst w3 v3 (bl x.toNat 64)) := l3
  have B3 : Hid (Below w.heap.size w w3) := B2.out.trans (b3.mono B2.out.size)
  clear l3 b3
  go_wp2_with fail
  refine (split_any y 64 (by decide) (by decide) _).mono ?_
  rintro e w4 ⟨v4, rfl, l4, b4⟩
  have L3' := Lst.lh L3 b4
  have B4 : Hid (Below w.heap.size w w4) := B3.out.trans (b4.mono B3.out.size)
  clear l4 b4
  go_wp2_with fail
  refine (one_none k x.toNat 64 HO.out _ _ _ L3'.out).mono ?_
  rintro e w5 ⟨rfl, rfl⟩
  go_wp2
  go_ret2
  exact ⟨rfl, B4.out⟩
end Go.Proofs.Ythnjppfgdkiaaac
