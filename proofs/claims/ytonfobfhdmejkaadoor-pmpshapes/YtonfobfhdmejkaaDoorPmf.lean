/-
  PmpShapes: the entries that it makes.
-/
import Derived.Test.YtonfobfhdmejkaaDoorPme
import Derived.Test.YtonfobfhdmejkaaDoorPli
namespace Go.Proofs.YtonfobfhdmejkaaDoor
set_option linter.unusedVariables false
open Go.ChangeShapes Go.WideShapes Go.ChangeAt Go.RowKit Go.Deep
theorem spI_at (c : Nat → BitVec 8) (a : Nat → BitVec 64) (k : Nat) (hk : k < 16) : spI c a k = spn c a k := by unfold spI; rw [if_pos (by omega)]; rfl
theorem PC_one (k : Nat) (x : BitVec 8) (h : pcl x = x) : PC (upd lz8 k x) = upd lz8 k x := by
  funext j; unfold PC upd lz8; split
  · exact h
  · rfl
theorem PC_nil : PC lz8 = lz8 := by funext j; show pcl 0#8 = 0#8; decide
theorem PA_nil : PA lz64 = lz64 := by funext j; show pad 0#64 = 0#64; decide
theorem PA_one (f : Nat → BitVec 64) (k : Nat) (x : BitVec 64) (hf : PA f = f) (h : pad x = x) : PA (upd f k x) = upd f k x := by
  funext j; show pad (upd f k x j) = _; unfold upd; split
  · exact h
  · exact congrFun hf j
theorem aL_nil (k : Nat) (hk : k < 16) : aL lz8 k = false := by
  rw [aL_in _ _ hk]
  have h1 : lk (lz8 k) = false := by show lk 0#8 = false; decide +kernel
  have h2 : lk (lz8 (k + 1)) = false := by show lk 0#8 = false; decide +kernel
  unfold nx
  rw [h1, h2]; simp
theorem aL_nine (k : Nat) (hk : k < 15) : aL (upd lz8 (k + 1) 9#8) k = false := by
  rw [aL_in _ _ (by omega)]
  have h1 : lk (upd lz8 (k + 1) 9#8 k) = false := by
    unfold upd lz8; rw [if_neg (by omega)]; decide +kernel
  have h2 : lk (upd lz8 (k + 1) 9#8 (k + 1)) = false := by
    unfold upd; rw [if_pos rfl]; decide +kernel
  unfold nx
  rw [h1, h2]; simp
theorem spn_nil (c : Nat → BitVec 8) (a : Nat → BitVec 64) (j : Nat) (h : c j = 0#8) : spn c a j = none := by
  unfold spn; rw [h, if_neg (by decide), if_neg (by decide), if_neg (by decide)]
theorem spn_na (c : Nat → BitVec 8) (a : Nat → BitVec 64) (j : Nat) (h : c j = 25#8) : spn c a j = some (npF (a j), npL (a j)) := by
  unfold spn; rw [h, if_neg (by decide), if_neg (by decide), if_pos (by decide)]
theorem spn_n4 (c : Nat → BitVec 8) (a : Nat → BitVec 64) (j : Nat) (h : c j = 17#8) : spn c a j = some (a j <<< 2, a j <<< 2 + 3#64) := by
  unfold spn; rw [h, if_neg (by decide), if_pos (by decide)]
theorem spn_to (c : Nat → BitVec 8) (a : Nat → BitVec 64) (j : Nat) (h : c j = 9#8) : spn c a j = (if n64 (a j) ≤ n64 (frm a j) then none else some (frm a j <<< 2, a j <<< 2 - 1#64)) := by
  unfold spn; rw [h, if_pos (by decide)]
theorem gr_in {c : Nat → BitVec 8} {a : Nat → BitVec 64} {k : Nat} {F L ad : BitVec 64} (hk : k < 16) (h0 : ∀ j, j ≠ k → c j = 0#8) (h1 : c k = 25#8) (hs : spn c a k = some (F, L)) (hi : inR F L ad = true) : grA c a ad 1 = true := by
  have e : MT (hn c a ad 1) 1 = ((k : Int), (hn c a ad 1 k : Int) == ((1 : Nat) : Int)) := MT_at 1 hk (fun j hj => by
    rw [hn_one]; unfold hdB; rw [spn_nil c a j (h0 j (by omega))]; rfl) (by rw [hn_one]; unfold hdB; rw [hs]; simp only [hi, if_true]; omega)
  unfold grA
  rw [e]
  simp only
  rw [if_neg (by omega), show (k : Int).toNat = k from rfl, h1]
  decide +kernel
theorem gr_out {c : Nat → BitVec 8} {a : Nat → BitVec 64} {k : Nat} {F L ad : BitVec 64} (h0 : ∀ j, j ≠ k → c j = 0#8) (hs : spn c a k = some (F, L)) (hi : inR F L ad = false) : grA c a ad 1 = false := by
  have e : MT (hn c a ad 1) 1 = (-1, false) := MT_none 1 (fun j hj => by
    rw [hn_one]; unfold hdB
    by_cases q : j = k
    · rw [q, hs]; simp only [hi]; rfl
    · rw [spn_nil c a j (h0 j q)]; rfl)
  unfold grA
  rw [e]; rfl
theorem upd_at {α : Type} (f : Nat → α) (k : Nat) (x : α) : upd f k x k = x := by unfold upd; rw [if_pos rfl]
theorem upd_ne {α : Type} (f : Nat → α) (k j : Nat) (x : α) (h : j ≠ k) : upd f k x j = f j := by unfold upd; rw [if_neg h]
theorem upd_twice {α : Type} (f : Nat → α) (k : Nat) (x y : α) : upd (upd f k x) k y = upd f k y := by funext j; unfold upd; split <;> rfl
section
variable (k n : Nat) (b : BitVec 64)
def eA : Nat → BitVec 64 := upd lz64 k (shA n b)
theorem eA_ok (hn : n ≤ 53) : PA (eA k n b) = eA k n b := PA_one _ _ _ PA_nil (pad_eq _ (shA_lt n hn b))
theorem eA_at : eA k n b k = shA n b := upd_at _ _ _
theorem set_sh (hk : k < 16) (hn : n ≤ 53) (w : World) : Calls Tryd.prog 5 #[.agg (pc lz8 lz64), .int .i64 k, .int .u64 (n64 (shA n b))] w fun e w' => e = .returned (.agg (pc lz8 (eA k n b))) ∧ Below w.heap.size w w' := by
  have h := SetAddr_c lz8 lz64 k (shA n b) w
  rw [PC_nil, PA_nil] at h
  have e : sA lz8 lz64 k (shA n b) = eA k n b := by
    unfold sA; rw [aL_nil k hk, pad_eq _ (shA_lt n hn b)]; rfl
  rw [e] at h
  exact h
theorem span_na (hk : k < 16) (hn : n ≤ 53) (w : World) (hT : Tb w) : Calls Tryd.prog 6 #[.agg (pc (upd lz8 k 25#8) (eA k n b)), .int .i64 k] w fun e w' => e = .returned (.tuple #[.int .u64 (n64 (shF n b)), .int .u64 (n64 (npL (shA n b))), .bool true]) ∧ Below w.heap.size w w' := by
  have h := Span_c (upd lz8 k 25#8) (eA k n b) k w hT
  rw [PC_one k 25#8 (by decide), eA_ok k n b hn, spI_at _ _ _ hk, spn_na _ _ _ (upd_at _ _ _), eA_at, sh_first n hn] at h
  exact h
theorem span_n4 (hk : k < 16) (hn : n ≤ 53) (w : World) (hT : Tb w) : Calls Tryd.prog 6 #[.agg (pc (upd lz8 k 17#8) (eA k n b)), .int .i64 k] w fun e w' => e = .returned (.tuple #[.int .u64 (n64 (shA n b <<< 2)), .int .u64 (n64 (shA n b <<< 2 + 3#64)), .bool true]) ∧ Below w.heap.size w w' := by
  have h := Span_c (upd lz8 k 17#8) (eA k n b) k w hT
  rw [PC_one k 17#8 (by decide), eA_ok k n b hn, spI_at _ _ _ hk, spn_n4 _ _ _ (upd_at _ _ _), eA_at] at h
  exact h
theorem gr_c (hk : k < 16) (hn : n ≤ 53) (ad : BitVec 64) (v : Bool) (hv : inR (shF n b) (npL (shA n b)) ad = v) (w : World) (hT : Tb w) : Calls Tryd.prog 7 #[.agg (pc (upd lz8 k 25#8) (eA k n b)), .int .u64 (n64 ad), .int .i64 1] w fun e w' => e = .returned (.bool v) ∧ Below w.heap.size w w' := by
  have h := Granted_c (upd lz8 k 25#8) (eA k n b) ad 1 w hT
  rw [PC_one k 25#8 (by decide), eA_ok k n b hn] at h
  have hs : spn (upd lz8 k 25#8) (eA k n b) k = some (shF n b, npL (shA n b)) := by rw [spn_na _ _ _ (upd_at _ _ _), eA_at, sh_first n hn]
  cases v with
  | true => rw [gr_in hk (fun j hj => (upd_ne lz8 k j 25#8 hj).trans rfl) (upd_at _ _ _) hs hv] at h; exact h
  | false => rw [gr_out (fun j hj => (upd_ne lz8 k j 25#8 hj).trans rfl) hs hv] at h; exact h
theorem in_lo (hn : n ≤ 53) : inR (shF n b) (npL (shA n b)) (shF n b) = true := by
  obtain ⟨h1, h2⟩ := sh_last n hn b
  unfold inR n64
  rw [decide_eq_true (by omega), decide_eq_true (by omega)]; rfl
theorem in_hi (hn : n ≤ 53) : inR (shF n b) (npL (shA n b)) (npL (shA n b)) = true := by
  obtain ⟨h1, h2⟩ := sh_last n hn b
  unfold inR n64
  rw [decide_eq_true (by omega), decide_eq_true (by omega)]; rfl
theorem in_below (hn : n ≤ 53) : inR (shF n b) (npL (shA n b)) (shF n b - 1#64) = false := by
  obtain ⟨h1, h2⟩ := sh_last n hn b
  unfold inR n64
  rw [BitVec.toNat_sub, show (1#64).toNat = 1 from rfl]
  by_cases h0 : (shF n b).toNat = 0
  · rw [Bool.and_eq_false_iff]; right; exact decide_eq_false (by omega)
  · rw [Bool.and_eq_false_iff]; left; exact decide_eq_false (by have := (shF n b).isLt; omega)
theorem in_above (hn : n ≤ 53) : inR (shF n b) (npL (shA n b)) (npL (shA n b) + 1#64) = false := by
  obtain ⟨h1, h2⟩ := sh_last n hn b
  unfold inR n64
  rw [BitVec.toNat_add, show (1#64).toNat = 1 from rfl]
  rw [Bool.and_eq_false_iff]; right; exact decide_eq_false (by omega)
/-- TOR: the Addrs, the one ahead written. -/
def eB (tt : BitVec 64) : Nat → BitVec 64 := if k = 0 then eA k n b else upd (eA k n b) (k - 1) (pad tt)
def eF (tt : BitVec 64) : BitVec 64 := if k = 0 then 0#64 else pad tt
theorem eB_ok (hn : n ≤ 53) (tt : BitVec 64) : PA (eB k n b tt) = eB k n b tt := by
  unfold eB; split
  · exact eA_ok k n b hn
  · exact PA_one _ _ _ (eA_ok k n b hn) (by unfold pad; rw [BitVec.and_assoc, BitVec.and_self])
theorem eB_at (tt : BitVec 64) : eB k n b tt k = shA n b := by
  unfold eB; split
  · exact eA_at k n b
  · rw [upd_ne _ _ _ _ (by omega)]; exact eA_at k n b
theorem eB_frm (tt : BitVec 64) : frm (eB k n b tt) k = eF k tt := by
  unfold frm eF eB; split
  · rfl
  · rw [upd_at]
theorem set_to (k : Nat) (hk : k < 15) (hn : n ≤ 53) (tt : BitVec 64) (w : World) : Calls Tryd.prog 5 #[.agg (pc (upd lz8 (k + 1) 9#8) (eA (k + 1) n b)), .int .i64 k, .int .u64 (n64 tt)] w fun e w' => e = .returned (.agg (pc (upd lz8 (k + 1) 9#8) (eB (k + 1) n b tt))) ∧ Below w.heap.size w w' := by
  have h := SetAddr_c (upd lz8 (k + 1) 9#8) (eA (k + 1) n b) k tt w
  rw [PC_one _ 9#8 (by decide), eA_ok _ n b hn] at h
  have e : sA (upd lz8 (k + 1) 9#8) (eA (k + 1) n b) k tt = eB (k + 1) n b tt := by
    unfold sA eB; rw [aL_nine k hk, if_neg (show ¬ (k + 1 = 0) by omega)]; rfl
  rw [e] at h
  exact h
theorem span_to (hk : k < 16) (hn : n ≤ 53) (tt : BitVec 64) (w : World) (hT : Tb w) (o : Option (BitVec 64 × BitVec 64)) (ho : (if n64 (shA n b) ≤ n64 (eF k tt) then none else some (eF k tt <<< 2, shA n b <<< 2 - 1#64)) = o) :
    Calls Tryd.prog 6 #[.agg (pc (upd lz8 k 9#8) (eB k n b tt)), .int .i64 k] w fun e w' => e = .returned (.tuple #[.int .u64 (n64 (sF o)), .int .u64 (n64 (sL o)), .bool o.isSome]) ∧ Below w.heap.size w w' := by
  have h := Span_c (upd lz8 k 9#8) (eB k n b tt) k w hT
  rw [PC_one k 9#8 (by decide), eB_ok k n b hn, spI_at _ _ _ hk, spn_to _ _ _ (upd_at _ _ _), eB_at, eB_frm, ho] at h
  exact h
end
theorem shl2_le {x y : BitVec 64} (hx : x.toNat < 2 ^ 54) (hy : y.toNat < 2 ^ 54) : n64 (x <<< 2) ≤ n64 (y <<< 2) ↔ n64 x ≤ n64 y := by
  unfold n64; rw [four_toNat x hx, four_toNat y hy]; omega
theorem to_from (tt : BitVec 64) : tt <<< 10 >>> 8 = pad tt <<< 2 := by
  apply BitVec.eq_of_toNat_eq
  rw [four_toNat _ (pad_lt tt), pad_nat, BitVec.toNat_ushiftRight, BitVec.toNat_shiftLeft, Nat.shiftLeft_eq, Nat.shiftRight_eq_div_pow]
  omega
end Go.Proofs.YtonfobfhdmejkaaDoor
