/-
  Layer 16 (save): the sum of bytes, of the program and of the reference.
-/
import Derived.Test.YtnlkamfoopikhaaHe
namespace Go.Proofs.Ytnlkamfoopikhaa
set_option linter.unusedVariables false
set_option maxRecDepth 100000
open Go.ChangeShapes Go.WideShapes Go.ChangeAt Go.RowKit Go.Deep
def n32 (x : BitVec 32) : Int := (x.toNat : Int)
theorem n32_lo (x : BitVec 32) : 0 ≤ n32 x := by unfold n32; omega
theorem n32_hi (x : BitVec 32) : n32 x < 4294967296 := by unfold n32; have := x.isLt; omega
theorem ofInt_n32 (x : BitVec 32) : BitVec.ofInt 32 (n32 x) = x := by
  unfold n32
  apply BitVec.eq_of_toNat_eq
  rw [BitVec.toNat_ofInt]
  have := x.isLt
  omega
theorem wrap_n32 (x : BitVec 32) : IntKind.u32.wrap (n32 x) = n32 x := by
  show n32 x % 4294967296 = n32 x
  have := x.isLt
  unfold n32; omega
theorem n32_and (x y : BitVec 32) : bits .and .u32 (n32 x) (n32 y) = n32 (x &&& y) := by
  show IntKind.u32.wrap ((BitVec.ofInt 32 (n32 x) &&& BitVec.ofInt 32 (n32 y)).toNat : Int) = _
  rw [ofInt_n32, ofInt_n32]; exact wrap_n32 _
theorem n32_xor (x y : BitVec 32) : bits .xor .u32 (n32 x) (n32 y) = n32 (x ^^^ y) := by
  show IntKind.u32.wrap ((BitVec.ofInt 32 (n32 x) ^^^ BitVec.ofInt 32 (n32 y)).toNat : Int) = _
  rw [ofInt_n32, ofInt_n32]; exact wrap_n32 _
theorem n32_xor' (x : BitVec 32) (b : Int) : bits .xor .u32 (n32 x) b = n32 (x ^^^ BitVec.ofInt 32 b) := by
  show IntKind.u32.wrap ((BitVec.ofInt 32 (n32 x) ^^^ BitVec.ofInt 32 b).toNat : Int) = _
  rw [ofInt_n32]; exact wrap_n32 _
theorem n32_xorm (x : BitVec 32) (b : Int) : bits .xor .u32 (n32 x) (b % 4294967296) = n32 (x ^^^ BitVec.ofInt 32 b) := by
  rw [n32_xor']
  congr 2
  apply BitVec.eq_of_toNat_eq
  rw [BitVec.toNat_ofInt, BitVec.toNat_ofInt]
  omega
theorem n32_shr (x : BitVec 32) (k : Nat) : n32 x / 2 ^ k = n32 (x >>> k) := by
  unfold n32; rw [BitVec.toNat_ushiftRight, Nat.shiftRight_eq_div_pow, Int.natCast_ediv, Int.natCast_pow]; rfl
/-- The sum moved by one bit. -/
def cst (x : BitVec 32) : BitVec 32 := if x &&& 1#32 = 1#32 then (x >>> 1) ^^^ 3988292384#32 else x >>> 1
def cstN (x : BitVec 32) : Nat → BitVec 32
  | 0 => x
  | k + 1 => cst (cstN x k)
theorem and_one (x : BitVec 32) : x &&& 1#32 = if x.getLsbD 0 then 1#32 else 0#32 := by
  apply BitVec.eq_of_getLsbD_eq
  intro i hi
  rw [BitVec.getLsbD_and]
  cases i with
  | zero => cases x.getLsbD 0 <;> simp
  | succ i => cases x.getLsbD 0 <;> simp
theorem cst_bit (x : BitVec 32) : cst x = (x >>> 1) ^^^ (if x.getLsbD 0 then 3988292384#32 else 0#32) := by
  unfold cst
  rw [and_one]
  cases h : x.getLsbD 0 <;> simp
theorem cst_xor (x y : BitVec 32) : cst (x ^^^ y) = cst x ^^^ cst y := by
  rw [cst_bit, cst_bit, cst_bit, BitVec.getLsbD_xor, BitVec.ushiftRight_xor_distrib]
  cases x.getLsbD 0 <;> cases y.getLsbD 0 <;> simp
  · ac_rfl
  · ac_rfl
  · rw [show (x >>> 1 ^^^ 3988292384#32 ^^^ (y >>> 1 ^^^ 3988292384#32)) = (x >>> 1 ^^^ y >>> 1) ^^^ (3988292384#32 ^^^ 3988292384#32) by ac_rfl, BitVec.xor_self, BitVec.xor_zero]
theorem cst_even (x : BitVec 32) (h : x.toNat % 2 = 0) : cst x = x >>> 1 := by
  rw [cst_bit]
  have : x.getLsbD 0 = false := by
    rw [BitVec.getLsbD, Nat.testBit_zero]; simp; omega
  rw [this]; simp
theorem cstN_xor (x y : BitVec 32) : ∀ k, cstN (x ^^^ y) k = cstN x k ^^^ cstN y k
  | 0 => rfl
  | k + 1 => by rw [cstN, cstN_xor x y k, cst_xor]; rfl
theorem cst4_high (x : BitVec 32) (h : x.toNat % 16 = 0) : cstN x 4 = x >>> 4 := by
  have s : ∀ (y : BitVec 32) k, (y >>> k).toNat = y.toNat / 2 ^ k := fun y k => by rw [BitVec.toNat_ushiftRight, Nat.shiftRight_eq_div_pow]
  show cst (cst (cst (cst x))) = _
  rw [cst_even x (by omega), cst_even (x >>> 1) (by rw [s]; omega), ← BitVec.shiftRight_add, cst_even (x >>> (1 + 1)) (by rw [s]; omega), ← BitVec.shiftRight_add, cst_even (x >>> (1 + 1 + 1)) (by rw [s]; omega), ← BitVec.shiftRight_add]
theorem split16 (x : BitVec 32) : x = (x &&& ~~~15#32) ^^^ (x &&& 15#32) := by
  apply BitVec.eq_of_getLsbD_eq
  intro i hi
  rw [BitVec.getLsbD_xor, BitVec.getLsbD_and, BitVec.getLsbD_and, BitVec.getLsbD_not]
  cases x.getLsbD i <;> cases (15#32).getLsbD i <;> simp [hi]
theorem cst4_tab (x : BitVec 32) : cstN x 4 = (x >>> 4) ^^^ cstN (x &&& 15#32) 4 := by
  have h1 : (x &&& ~~~15#32).toNat % 16 = 0 := by
    have : ∀ i, i < 4 → (x &&& ~~~15#32).getLsbD i = false := by
      intro i hi
      rw [BitVec.getLsbD_and, BitVec.getLsbD_not]
      match i, hi with
      | 0, _ => simp
      | 1, _ => simp
      | 2, _ => simp
      | 3, _ => simp
    apply Nat.eq_of_testBit_eq
    intro j
    rw [show (16 : Nat) = 2 ^ 4 from rfl, Nat.testBit_mod_two_pow, Nat.zero_testBit]
    by_cases hj : j < 4
    · have := this j hj
      rw [BitVec.getLsbD] at this
      rw [this]; simp
    · simp [hj]
  have h2 : (x &&& ~~~15#32) >>> 4 = x >>> 4 := by
    apply BitVec.eq_of_getLsbD_eq
    intro i hi
    rw [BitVec.getLsbD_ushiftRight, BitVec.getLsbD_ushiftRight, BitVec.getLsbD_and, BitVec.getLsbD_not]
    have h15 : (15#32).getLsbD (4 + i) = false := by
      rw [BitVec.getLsbD, BitVec.toNat_ofNat]
      apply Nat.testBit_lt_two_pow
      calc 15 % 2 ^ 32 < 2 ^ 4 := by decide
        _ ≤ 2 ^ (4 + i) := Nat.pow_le_pow_right (by decide) (by omega)
    rw [h15]
    by_cases h : 4 + i < 32
    · simp [h]
    · rw [BitVec.getLsbD_of_ge x (4 + i) (by omega)]; simp
  conv => lhs; rw [split16 x, cstN_xor, cst4_high _ h1, h2]
/-- A byte taken in. -/
def cby (x : BitVec 32) (b : Int) : BitVec 32 := cstN (cstN (x ^^^ BitVec.ofInt 32 b) 4) 4
def crc (l : List Int) : BitVec 32 := l.foldl cby 4294967295#32
def sumB (l : List Int) : BitVec 32 := ~~~ (crc l)
theorem crc_take (l : List Int) (k : Nat) (h : k < l.length) : crc (l.take (k + 1)) = cby (crc (l.take k)) (l.getD k 0) := by
  unfold crc
  rw [List.take_add_one, List.foldl_append]
  simp [h]
/-- The program's table, made as far as k. -/
def tnc (k : Nat) (v : Int) (i : Nat) : Value := .int .u32 (if i < k then n32 (cstN (BitVec.ofNat 32 i) 4) else if i = k then v else 0)
def tnR (k : Nat) (v : Int) : Array Value := Array.ofFn (n := 16) fun i => tnc k v i.val
theorem tnR_size (k : Nat) (v : Int) : (tnR k v).size = 16 := by simp [tnR]
theorem tnR_at (k : Nat) (v : Int) (i : Nat) (h : i < 16) : (tnR k v)[i]? = some (tnc k v i) := by simp [tnR, h]
theorem tnR_ext {k k' : Nat} {v v' : Int} (h : ∀ i, i < 16 → tnc k v i = tnc k' v' i) : tnR k v = tnR k' v' := by
  apply Array.ext_getElem?
  intro i
  by_cases hi : i < 16
  · rw [tnR_at _ _ _ hi, tnR_at _ _ _ hi, h i hi]
  · simp [tnR, hi]
theorem tnR_set (k : Nat) (v v' : Int) (hk : k < 16) : (tnR k v).setIfInBounds k (.int .u32 v') = tnR k v' := by
  apply Array.ext_getElem?
  intro i
  rw [Array.getElem?_setIfInBounds]
  by_cases e : k = i
  · subst e
    rw [if_pos rfl, if_pos (by rw [tnR_size]; exact hk), tnR_at _ _ _ hk]
    simp [tnc]
  · rw [if_neg e]
    by_cases hi : i < 16
    · rw [tnR_at _ _ _ hi, tnR_at _ _ _ hi]
      simp [tnc, Ne.symm e]
    · simp [tnR, hi]
theorem tnR_next (k : Nat) : tnR k (n32 (cstN (BitVec.ofNat 32 k) 4)) = tnR (k + 1) 0 := by
  refine tnR_ext fun i hi => ?_
  unfold tnc
  by_cases h1 : i < k
  · rw [if_pos h1, if_pos (by omega)]
  · by_cases h2 : i = k
    · subst h2; rw [if_neg h1, if_pos rfl, if_pos (by omega)]
    · rw [if_neg h1, if_neg h2, if_neg (by omega)]; simp
theorem tnR_ones (k : Nat) (v : Int) : (tnR k v).all (·.oneCell') = true := by
  rw [Array.all_eq_true]; intro i hi; simp [tnR, tnc]; rfl
theorem zero_tn (w : World) : (zeroValue 115).run Try.prog w = .ok (.agg (tnR 0 0)) w := by kernel_rfl
theorem info_tn (k : Nat) (v : Int) : (Try.prog.info? 115).map (·.size) = some (tnR k v).size := by rw [tnR_size]; kernel_rfl
theorem sstep_c (x : BitVec 32) (w : World) : Calls Try.prog 69 #[.int .u32 (n32 x)] w fun e w' => e = .returned (.int .u32 (n32 (cst x))) ∧ w' = w := by
  have b1 : bits .and .u32 (n32 x) 1 = n32 (x &&& 1#32) := n32_and x 1#32
  have b2 : n32 x / (2 : Int) = n32 (x >>> 1) := n32_shr x 1
  have b3 : bits .xor .u32 (n32 (x >>> 1)) 3988292384 = n32 ((x >>> 1) ^^^ 3988292384#32) := n32_xor _ 3988292384#32
  unfold cst
  by_cases h : x &&& 1#32 = 1#32
  · rw [if_pos h]
    have b4 : n32 (x &&& 1#32) = 1 := by rw [h]; rfl
    rw [b4] at b1
    generalize (x >>> 1) ^^^ 3988292384#32 = y at *
    generalize x >>> 1 = z at *
    clear h b4
    go_enter Try.func69, Try.ntmps69
    go_wp2
    go_ret
    exact ⟨rfl, rfl⟩
  · rw [if_neg h]
    have b4 : n32 (x &&& 1#32) = 0 := by
      rw [and_one] at h ⊢
      cases e : x.getLsbD 0
      · rfl
      · rw [e] at h; exact absurd rfl h
    rw [b4] at b1
    generalize x >>> 1 = z at *
    clear h b4 b3
    go_enter Try.func69, Try.ntmps69
    go_wp2
    go_ret
    exact ⟨rfl, rfl⟩
end Go.Proofs.Ytnlkamfoopikhaa
