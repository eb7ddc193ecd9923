import Derived.Test.YtdpfjhacmlnklaaGreatDoorK14
import Derived.Laws.ResultCell
import Derived.OwnWalk
import Derived.Test.YtdpfjhacmlnklaaGreatDoorTie
import Derived.Test.YtdpfjhacmlnklaaGreatDoorCards
import Derived.PinnedBridge
import Derived.Lay
import Derived.LaidOnce
import Derived.SevenTiedAt
import Derived.Lib.LaidU8T
namespace Go.Proofs.YtdpfjhacmlnklaaGreatDoor
set_option linter.unusedVariables false
set_option maxRecDepth 100000
set_option maxHeartbeats 8000000
open Go.ChangeShapes Go.WideShapes Go.ChangeAt Go.RowKit Go.Deep _root_.Go.Proofs.Tryz
def on (a : BitVec 64) : Nat := tz (~~~a)
theorem tO (a : BitVec 64) (h : a.toNat < 2 ^ 54) : (∃ r, a.toNat = 2 ^ (on a + 1) * r + (2 ^ on a - 1)) ∧ on a ≤ 54 := by
 have hx : (~~~a).toNat = 2 ^ 64 - 1 - a.toNat := BitVec.toNat_not
 have h0 : (~~~a).toNat ≠ 0 := by rw [hx]; omega
 have e : on a = Lib.ctzFrom 64 (~~~a).toNat := by unfold on tz Lib.ctz; rw [if_neg h0]
 obtain ⟨m, hm, hk⟩ := Lib.ctzFrom_spec 64 (~~~a).toNat (by omega) (~~~a).isLt
 rw [← e] at hm hk
 rw [hx] at hm
 generalize on a = n at *
 have hp : 0 < 2 ^ n := Nat.pow_pos (by omega)
 obtain ⟨d, hd⟩ : ∃ d, 64 = n + (d + 1) := ⟨63 - n, by omega⟩
 have h64 : (2 : Nat) ^ 64 = 2 ^ n * (2 * 2 ^ d) := by rw [hd, Nat.pow_add, Nat.pow_succ, Nat.mul_comm (2 ^ d) 2]
 have hA : a.toNat + 2 ^ n * (2 * m + 1) + 1 = 2 ^ n * (2 * 2 ^ d) := by rw [← h64]; omega
 have hmd : m < 2 ^ d := by
  apply Nat.lt_of_not_le
  intro hle
  have : 2 ^ n * (2 * 2 ^ d) ≤ 2 ^ n * (2 * m + 1) := Nat.mul_le_mul_left _ (by omega)
  omega
 obtain ⟨r, hr⟩ : ∃ r, 2 ^ d = m + r + 1 := ⟨2 ^ d - m - 1, by omega⟩
 have hA2 : a.toNat = 2 ^ (n + 1) * r + (2 ^ n - 1) := by
  rw [hr] at hA
  have e2 : 2 ^ n * (2 * (m + r + 1)) = 2 ^ n * (2 * m + 1) + 2 ^ n * (2 * r) + 2 ^ n := by
   rw [show 2 * (m + r + 1) = (2 * m + 1) + 2 * r + 1 by omega, Nat.mul_add, Nat.mul_add, Nat.mul_one]
  have e3 : 2 ^ (n + 1) * r = 2 ^ n * (2 * r) := by rw [Nat.pow_succ, Nat.mul_assoc]
  rw [e3]
  omega
 refine ⟨⟨r, hA2⟩, ?_⟩
 apply Nat.le_of_not_lt
 intro hlt
 have h1 : (2 : Nat) ^ 55 ≤ 2 ^ n := Nat.pow_le_pow_right (by omega) (by omega)
 have h2 : (2 : Nat) ^ 55 = 2 * 2 ^ 54 := by decide
 have h3 : 2 ^ n - 1 ≤ a.toNat := by rw [hA2]; omega
 omega
theorem BY (a : BitVec 64) (h : a.toNat < 2 ^ 54) : a.toNat = 2 ^ (on a + 1) * (a.toNat / 2 ^ (on a + 1)) + (2 ^ on a - 1) := by
 obtain ⟨⟨r, hr⟩, _⟩ := tO a h
 have hp : 0 < 2 ^ on a := Nat.pow_pos (by omega)
 have hq : 2 ^ on a - 1 < 2 ^ (on a + 1) := by rw [Nat.pow_succ]; omega
 have : a.toNat / 2 ^ (on a + 1) = r := by
  rw [hr, Nat.mul_add_div (Nat.pow_pos (by omega)), Nat.div_eq_of_lt hq, Nat.add_zero]
 rw [this]
 exact hr
def npF (a : BitVec 64) : BitVec 64 := if on a = 54 then 0#64 else BitVec.ofNat 64 (2 ^ (on a + 3) * (a.toNat / 2 ^ (on a + 1)))
def npL (a : BitVec 64) : BitVec 64 := if on a = 54 then ~~~0#64 else BitVec.ofNat 64 (2 ^ (on a + 3) * (a.toNat / 2 ^ (on a + 1)) + (2 ^ (on a + 3) - 1))
theorem mQ (a : BitVec 64) (h : a.toNat < 2 ^ 54) (hn : on a < 54) : 2 ^ (on a + 3) * (a.toNat / 2 ^ (on a + 1)) + (2 ^ (on a + 3) - 1) < 2 ^ 58 := by
 have hd := BY a h
 have e : 2 ^ (on a + 3) * (a.toNat / 2 ^ (on a + 1)) = 4 * (2 ^ (on a + 1) * (a.toNat / 2 ^ (on a + 1))) := by
  rw [show on a + 3 = (on a + 1) + 2 by omega, Nat.pow_add (m := on a + 1)]
  rw [Nat.mul_comm (2 ^ (on a + 1)) (2 ^ 2), Nat.mul_assoc]
 have hp : 2 ^ (on a + 3) ≤ 2 ^ 56 := Nat.pow_le_pow_right (by omega) (by omega)
 rw [e]
 omega
theorem sI (a : BitVec 64) (h : a.toNat < 2 ^ 54) (hn : on a < 54) : 4 * a.toNat / 2 ^ (on a + 3) = a.toNat / 2 ^ (on a + 1) := by
 rw [show on a + 3 = 2 + (on a + 1) by omega, Nat.pow_add]
 rw [show (2 : Nat) ^ 2 = 4 from rfl, Nat.mul_div_mul_left _ _ (by omega)]
theorem pU (x : BitVec 64) (k : Nat) (hk : k < 64) : (x &&& ~~~(1#64 <<< k - 1#64)).toNat = 2 ^ k * (x.toNat / 2 ^ k) := by
 have hm : (1#64 <<< k - 1#64).toNat = 2 ^ k - 1 := by
  have h1 : 2 ^ k < 2 ^ 64 := Nat.pow_lt_pow_right (by omega) hk
  have h2 : 0 < 2 ^ k := Nat.pow_pos (by omega)
  have e1 : (1#64 <<< k).toNat = 2 ^ k := by
   rw [BitVec.toNat_shiftLeft, Nat.shiftLeft_eq, show (1#64 : BitVec 64).toNat = 1 from rfl, Nat.one_mul, Nat.mod_eq_of_lt h1]
  rw [BitVec.toNat_sub, e1, show (1#64 : BitVec 64).toNat = 1 from rfl]
  omega
 apply Nat.eq_of_testBit_eq
 intro i
 rw [← BitVec.getLsbD, BitVec.getLsbD_and, BitVec.getLsbD_not, BitVec.getLsbD, BitVec.getLsbD, hm, Nat.testBit_two_pow_sub_one, Nat.mul_comm, Nat.testBit_mul_two_pow, Nat.testBit_div_two_pow]
 by_cases h1 : k ≤ i
 ·rw [Nat.sub_add_cancel h1]
  by_cases h2 : i < 64
  ·simp [h1, h2, show ¬ i < k by omega]
  ·have : x.toNat.testBit i = false := Nat.testBit_lt_two_pow (Nat.lt_of_lt_of_le x.isLt (Nat.pow_le_pow_right (by omega) (by omega)))
   simp [this]
 ·simp [h1, show i < k by omega]
theorem jU (x : BitVec 64) : Op.unary .xor (.int .u64 (n64 x)) = pure (.int .u64 (n64 (~~~x))) := by
 have h : bits .xor .u64 (n64 (~~~0#64)) (n64 x) = n64 (~~~x) := by
  rw [oU]; congr 1
 show pure (Value.int IntKind.u64 (bits .xor .u64 (n64 (~~~0#64)) (n64 x))) = _
 rw [h]
theorem tJ (a : BitVec 64) (h : on a = 54) (w : World) (hT : Tb w) : Calls prog 81 #[.int .u64 (n64 a)] w fun e w' => e = .returned (.agg #[.int .u64 (n64 (npF a)), .int .u64 (n64 (npL a))]) ∧ Below w.heap.size w w' := by
 have e1 : npF a = 0#64 := by unfold npF; rw [if_pos h]
 have e2 : npL a = ~~~0#64 := by unfold npL; rw [if_pos h]
 have f1 : n64 (npF a) = 0 := by rw [e1]; rfl
 have f2 : n64 (npL a) = 18446744073709551615 := by rw [e2]; rfl
 rw [f1, f2]
 have HC : Hid (∀ W, Tb W → Calls prog 101 #[.int .u64 (n64 (~~~a))] W fun e w' => e = .returned (.int .i64 54) ∧ w' = W) := fun W hW => by
  have := ES (~~~a) W hW
  rw [show tz (~~~a) = 54 from h] at this
  exact this
 have HT := hid hT
 have hu := jU a
 clear e1 e2 f1 f2 hT h
 generalize ~~~a = a2 at hu HC
 go_enter func81, ntmps81
 go_wp2_with (go_at_call 101; refine (HC.out _ (HT.out.alloc _)).mono ?_; rintro e w1 ⟨rfl, hw⟩; have hw2 := hw.symm; subst hw2)
 exact bodyPost_ret (v := .agg #[.int .u64 0, .int .u64 18446744073709551615]) (results_cell_row results81 _ _ w.heap.size 142 _ (0, 0) _ (by rfl) (heap_alloc_last w _) underlying142 (by rfl) (by kernel_rfl)) rfl ⟨rfl, (Below.refl _ _).alloc (Nat.le_refl _) _⟩
theorem wR (k : Nat) (hk : k < 64) : (1#64 <<< k).toNat = 2 ^ k := by
 rw [BitVec.toNat_shiftLeft, Nat.shiftLeft_eq, show (1#64 : BitVec 64).toNat = 1 from rfl, Nat.one_mul, Nat.mod_eq_of_lt (Nat.pow_lt_pow_right (by omega) hk)]
theorem nM (k : Nat) (hk : k < 64) : (1#64 <<< k - 1#64).toNat = 2 ^ k - 1 := by
 have h1 : 2 ^ k < 2 ^ 64 := Nat.pow_lt_pow_right (by omega) hk
 have h2 : 0 < 2 ^ k := Nat.pow_pos (by omega)
 rw [BitVec.toNat_sub, wR k hk, show (1#64 : BitVec 64).toNat = 1 from rfl]
 omega
theorem mI (k : Nat) : IntKind.u64.wrap (IntKind.u64.wrap (2 ^ k) - 1) = n64 (1#64 <<< k - 1#64) := by
 have h1 : IntKind.u64.wrap ((2 : Int) ^ k) = n64 (1#64 <<< k) := by
  have := gG 1#64 k
  rw [show n64 1#64 = 1 from rfl, Int.one_mul] at this
  exact this
 rw [h1]
 exact gH (1#64 <<< k) 1#64
theorem nF (a : BitVec 64) (h : a.toNat < 2 ^ 54) : (a <<< 2).toNat = 4 * a.toNat := by
 rw [BitVec.toNat_shiftLeft, Nat.shiftLeft_eq]
 omega
theorem tM (a : BitVec 64) (h54 : a.toNat < 2 ^ 54) (h : on a < 54) : bits .andNot .u64 (IntKind.u64.wrap (n64 a * 4)) (IntKind.u64.wrap (IntKind.u64.wrap (2 ^ (on a + 1 + 2)) - 1)) = n64 (npF a) := by
 rw [mI, show n64 a * (4 : Int) = n64 a * 2 ^ 2 from rfl, gG, jL]
 congr 1
 apply BitVec.eq_of_toNat_eq
 have hb := mQ a h54 h
 rw [pU _ _ (by omega), nF a h54, show on a + 1 + 2 = on a + 3 by omega, sI a h54 h, npF, if_neg (by omega), BitVec.toNat_ofNat, Nat.mod_eq_of_lt (by omega)]
theorem wQ (a : BitVec 64) (h54 : a.toNat < 2 ^ 54) (h : on a < 54) : bits .or .u64 (n64 (npF a)) (IntKind.u64.wrap (IntKind.u64.wrap (2 ^ (on a + 1 + 2)) - 1)) = n64 (npL a) := by
 rw [mI, jM]
 congr 1
 apply BitVec.eq_of_toNat_eq
 have hb := mQ a h54 h
 have hp : 0 < 2 ^ (on a + 3) := Nat.pow_pos (by omega)
 rw [BitVec.toNat_or, nM _ (by omega), show on a + 1 + 2 = on a + 3 by omega, npF, if_neg (by omega), npL, if_neg (by omega), BitVec.toNat_ofNat, BitVec.toNat_ofNat, Nat.mod_eq_of_lt (by omega), Nat.mod_eq_of_lt (by omega)]
 exact (Nat.two_pow_add_eq_or_of_lt (show 2 ^ (on a + 3) - 1 < 2 ^ (on a + 3) by omega) _).symm
theorem tK (a : BitVec 64) (h54 : a.toNat < 2 ^ 54) (h : on a < 54) (w : World) (hT : Tb w) : Calls prog 81 #[.int .u64 (n64 a)] w fun e w' => e = .returned (.agg #[.int .u64 (n64 (npF a)), .int .u64 (n64 (npL a))]) ∧ Below w.heap.size w w' := by
 have HC : Hid (∀ W, Tb W → Calls prog 101 #[.int .u64 (n64 (~~~a))] W fun e w' => e = .returned (.int .i64 (on a : Nat)) ∧ w' = W) := fun W hW => ES (~~~a) W hW
 have HT := hid hT
 have hu := jU a
 obtain ⟨n, hn⟩ : ∃ n, n = on a := ⟨_, rfl⟩
 rw [← hn] at HC
 have hnn : ((n : Int) == 54) = false := by
  have : ¬ (n : Int) = 54 := by omega
  simpa using this
 have hn54 : (n : Int) < 54 := by omega
 have HX1 := tM a h54 h
 have HX2 := wQ a h54 h
 generalize n64 (npF a) = x1 at HX1 HX2 ⊢
 generalize n64 (npL a) = x2 at HX2 ⊢
 clear hT h54
 generalize ~~~a = a2 at hu HC
 go_enter func81, ntmps81
 go_wp2_with (go_at_call 101; refine (HC.out _ (HT.out.alloc _)).mono ?_; rintro e w1 ⟨rfl, hw⟩; have hw2 := hw.symm; subst hw2)
 refine bodyPost_ret (results_cell_row results81 _ _ w.heap.size 142 _ (0, 0) _ (by rfl) (heap_alloc_last w _) underlying142 (by rfl) (by kernel_rfl)) rfl ⟨?_, (Below.refl _ _).alloc (Nat.le_refl _) _⟩
 simp_all
theorem wP (a : BitVec 64) (h54 : a.toNat < 2 ^ 54) (w : World) (hT : Tb w) : Calls prog 81 #[.int .u64 (n64 a)] w fun e w' => e = .returned (.agg #[.int .u64 (n64 (npF a)), .int .u64 (n64 (npL a))]) ∧ Below w.heap.size w w' := by
 by_cases h : on a = 54
 ·exact tJ a h w hT
 ·exact tK a h54 (by have := (tO a h54).2; omega) w hT
theorem bG {P : Program} {fn : Func} {p u : Tmp} {ty : TypeId} (h : fn.results = #[.cell p ty, .tmp u]) (tmps : Array Value) (w : World) (g : Nat) (t : TypeId) (cs : Array Value) (fr : Nat × Nat) (d : TypeDesc) (v : Value)
  (hp : tmps.getD p undef = .pointer (some ⟨g, 0, none⟩)) (hv : tmps.getD u undef = v) (hg : w.heap[g]? = some (.cells cs t fr))
  (hu : P.underlying ty = some d) (hd : (match d with | .struct _ | .array _ _ => true | _ => false) = true) (hi : (P.info? ty).map (·.size) = some cs.size) :
  (results fn tmps).run P w = .ok (.tuple #[.agg cs, v]) w := by
 rw [results_cell_tmp h]
 have hp' : tmps[p]?.getD undef = .pointer (some ⟨g, 0, none⟩) := by simpa using hp
 have hv' : tmps[u]?.getD undef = v := by simpa using hv
 simp [hp', hv', asAddr, run_loadVar_row w g t ty cs fr d hg hu hd hi, Result.andThen]
def frm (a : Nat → BitVec 64) (k : Nat) : BitVec 64 := if k = 0 then 0#64 else a (k - 1)
def spn (c : Nat → BitVec 8) (a : Nat → BitVec 64) (k : Nat) : Option (BitVec 64 × BitVec 64) :=
 if kd (c k) = 1#8 then (if n64 (a k) ≤ n64 (frm a k) then none else some (frm a k <<< 2, a k <<< 2 - 1#64))
 else if kd (c k) = 2#8 then some (a k <<< 2, a k <<< 2 + 3#64)
 else if kd (c k) = 3#8 then some (npF (a k), npL (a k)) else none
def sF (o : Option (BitVec 64 × BitVec 64)) : BitVec 64 := (o.getD (0#64, 0#64)).1
def sL (o : Option (BitVec 64 × BitVec 64)) : BitVec 64 := (o.getD (0#64, 0#64)).2
def spV (o : Option (BitVec 64 × BitVec 64)) : Value := .agg #[.int .u64 (n64 (sF o)), .int .u64 (n64 (sL o))]
def iD (a : Nat → BitVec 64) (k : Nat) : Option (BitVec 64 × BitVec 64) := if n64 (a k) ≤ n64 (frm a k) then none else some (frm a k <<< 2, a k <<< 2 - 1#64)
theorem ER (c : Nat → BitVec 8) (a : Nat → BitVec 64) (g k : Nat) (hk : k < 16) (w : World) (hg : Row w g (ec c a) 85) :
  Calls prog 80 #[.pointer (some ⟨g, 0, none⟩), .int .i64 k] w fun e w' => e = .returned (.tuple #[spV (iD a k), .bool (iD a k).isSome]) ∧ Below w.heap.size w w' := by
 have hk2 : (k : Int) < 16 := by omega
 have c1 := dT hg k hk
 have hlg := hg.lt
 have e4 : IntKind.u64.wrap (n64 (a k) * 4) = n64 (a k <<< 2) := gG (a k) 2
 have e5 : IntKind.u64.wrap (n64 (a k <<< 2) - 1) = n64 (a k <<< 2 - 1#64) := gH (a k <<< 2) 1#64
 have e6 : IntKind.u64.wrap (n64 (frm a k) * 4) = n64 (frm a k <<< 2) := gG (frm a k) 2
 obtain ⟨X, hX⟩ : ∃ X, X = iD a k := ⟨_, rfl⟩
 rw [← hX]
 have HX := hid hX
 clear hX
 cases k with
 | zero =>
  have hfr : frm a 0 = 0#64 := rfl
  by_cases hc : n64 (a 0) ≤ n64 (frm a 0)
  ·have e9 : X = none := by rw [HX.out, iD, if_pos hc]
   subst e9
   rw [hfr] at hc
   have hc2 : n64 (a 0) ≤ 0 := hc
   clear HX hg hc hfr e6
   go_enter func80, ntmps80
   go_wp2
   exact bodyPost_ret (bG results80 _ _ w.heap.size 142 _ (0, 0) _ _ (by rfl) (by rfl) (heap_alloc_last w _) underlying142 (by rfl) (by kernel_rfl)) rfl ⟨rfl, (Below.refl _ _).alloc (Nat.le_refl _) _⟩
  ·have e9 : X = some (0#64 <<< 2, a 0 <<< 2 - 1#64) := by rw [HX.out, iD, if_neg hc, hfr]
   subst e9
   rw [hfr] at hc
   have hc2 : ¬ n64 (a 0) ≤ 0 := hc
   clear HX hg hc hfr e6
   go_enter func80, ntmps80
   go_wp2
   exact bodyPost_ret (bG results80 _ _ w.heap.size 142 _ (0, 0) _ _ (by rfl) (by rfl) (heap_alloc_last w _) underlying142 (by rfl) (by kernel_rfl)) rfl ⟨by simp_all [spV, sF, sL, n64], (Below.refl _ _).alloc (Nat.le_refl _) _⟩
 | succ j =>
  have hfr : frm a (j + 1) = a j := rfl
  have c2 := dT hg j (by omega)
  rw [hfr] at e6
  have hj2 : (j : Int) + 1 < 16 := by omega
  have ej : ((j + 1 : Nat) : Int) = (j : Int) + 1 := by omega
  rw [ej]
  have hj3 : (0 : Int) < (j : Int) + 1 := by omega
  by_cases hc : n64 (a (j + 1)) ≤ n64 (frm a (j + 1))
  ·have e9 : X = none := by rw [HX.out, iD, if_pos hc]
   subst e9
   rw [hfr] at hc
   clear HX hg hfr hk2 hk ej
   go_enter func80, ntmps80
   go_wp2
   exact bodyPost_ret (bG results80 _ _ w.heap.size 142 _ (0, 0) _ _ (by rfl) (by rfl) (heap_alloc_last w _) underlying142 (by rfl) (by kernel_rfl)) rfl ⟨rfl, (Below.refl _ _).alloc (Nat.le_refl _) _⟩
  ·have e9 : X = some (a j <<< 2, a (j + 1) <<< 2 - 1#64) := by rw [HX.out, iD, if_neg hc, hfr]
   subst e9
   rw [hfr] at hc
   clear HX hg hfr hk2 hk ej
   go_enter func80, ntmps80
   go_wp2
   exact bodyPost_ret (bG results80 _ _ w.heap.size 142 _ (0, 0) _ _ (by rfl) (by rfl) (heap_alloc_last w _) underlying142 (by rfl) (by kernel_rfl)) rfl ⟨by simp_all [spV, sF, sL], (Below.refl _ _).alloc (Nat.le_refl _) _⟩
theorem sQ : ∀ x : BitVec 8, kd x = 0#8 ∨ kd x = 1#8 ∨ kd x = 2#8 ∨ kd x = 3#8 := by decide +kernel
theorem CC (x : BitVec 64) : (pad x).toNat < 2 ^ 54 := by
 unfold pad
 rw [BitVec.toNat_and]
 exact Nat.and_lt_two_pow _ (by decide)
theorem xH {w : World} {g : Nat} {x y : Value} {t : TypeId} (h : Row w g #[x, y] t) (u v : Value) : Row ((w.setCell ⟨g, 0, none⟩ u).setCell ⟨g, 1, none⟩ v) g #[u, v] t := by
 have := Row.put (i := 1) (Row.put (i := 0) h u) v
 simpa using this
theorem vU (c : Nat → BitVec 8) (a : Nat → BitVec 64) (hA : ∀ j, (a j).toNat < 2 ^ 54) (g k : Nat) (hk : k < 16) (w : World) (hT : Tb w) (hg : Row w g (ec c a) 85) :
  Calls prog 58 #[.pointer (some ⟨g, 0, none⟩), .int .i64 k] w fun e w' => e = .returned (.tuple #[spV (spn c a k), .bool (spn c a k).isSome]) ∧ Below w.heap.size w w' := by
 have hk2 : (k : Int) < 16 := by omega
 have hlg := hg.lt
 have HG := hid hg
 obtain ⟨W0, hW0, r0, b0, s0⟩ := dO w #[Value.int .u64 0, .int .u64 0] 142
 have HS := hid s0
 have HGW : Hid (Row W0 g (ec c a) 85) := by rw [← hW0]; exact hg.old hlg _
 have HT : Hid (Tb W0) := by rw [← hW0]; exact hT.alloc _
 have c0 := iK HGW.out k hk
 have c1 := dT HGW.out k hk
 have HK : Hid (∀ W, Calls prog 79 #[.agg #[.int .u8 (n8 (c k)), .int .u64 (n64 (a k))]] W fun e w' => e = .returned (.int .u8 (n8 (kd (c k)))) ∧ Below W.heap.size W w') := fun W => vS _ _ W
 have HTor : Hid (∀ W, Row W g (ec c a) 85 → Calls prog 80 #[.pointer (some ⟨g, 0, none⟩), .int .i64 k] W fun e w' => e = .returned (.tuple #[.agg #[.int .u64 (n64 (sF (iD a k))), .int .u64 (n64 (sL (iD a k)))], .bool (iD a k).isSome]) ∧ Below W.heap.size W w') := fun W h => ER c a g k hk W h
 have HNap : Hid (∀ W, Tb W → Calls prog 81 #[.int .u64 (n64 (a k))] W fun e w' => e = .returned (.agg #[.int .u64 (n64 (npF (a k))), .int .u64 (n64 (npL (a k)))]) ∧ Below W.heap.size W w') := fun W h => wP (a k) (hA k) W h
 have e4 : IntKind.u64.wrap (n64 (a k) * 4) = n64 (a k <<< 2) := gG (a k) 2
 have e5 : IntKind.u64.wrap (IntKind.u64.wrap (n64 (a k <<< 2) + 4) - 1) = n64 (a k <<< 2 + 3#64) := by
  have h1 : IntKind.u64.wrap (n64 (a k <<< 2) + 4) = n64 (a k <<< 2 + 4#64) := iG (a k <<< 2) 4#64
  rw [h1]
  have h2 : IntKind.u64.wrap (n64 (a k <<< 2 + 4#64) - 1) = n64 (a k <<< 2 + 4#64 - 1#64) := gH (a k <<< 2 + 4#64) 1#64
  rw [h2]
  congr 1
  rw [BitVec.sub_eq_add_neg, BitVec.add_assoc]
  rfl
 obtain ⟨X, hX⟩ : ∃ X, X = spn c a k := ⟨_, rfl⟩
 rw [← hX]
 have HX := hid hX
 have HCell : Hid (∀ W, Below W0.heap.size W0 W → W.cell? ⟨g, k * 2 + 1, none⟩ = some (.int .u64 (n64 (a k))) ∧ Row W g (ec c a) 85 ∧ Tb W ∧ Row W w.heap.size #[.int .u64 0, .int .u64 0] 142 ∧ Below w.heap.size w W ∧ w.heap.size + 1 ≤ W.heap.size) := fun W hb => by
  have hh := HGW.out.later hb (by rw [HS.out]; omega)
  exact ⟨dT hh k hk, hh, HT.out.next hb, r0.out.later hb (by rw [HS.out]; omega), b0.out.trans (hb.mono (by rw [HS.out]; omega)), by have := hb.size; rw [HS.out] at this; exact this⟩
 clear hX hg s0 hT hA
 rcases sQ (c k) with hq | hq | hq | hq
 ·have e9 : X = none := by rw [HX.out, spn, if_neg (by rw [hq]; decide), if_neg (by rw [hq]; decide), if_neg (by rw [hq]; decide)]
  subst e9
  rw [hq] at HK
  have hz : n8 0#8 = 0 := rfl
  rw [hz] at HK
  clear hq HX hz
  go_enter func58, ntmps58
  go_upto_region 1 with fail
  clear hW0
  go_wp2_with ((go_at_call 79; refine (HK.out _).mono ?_; rintro e w1 ⟨rfl, hb⟩; have HB1 := hid hb; obtain ⟨d1, d2, d3, d4, d5, d6⟩ := HCell.out w1 hb; have D2 := hid d2; have D3 := hid d3; have D4 := hid d4; have D5 := hid d5; have c8 := d4.cell 0; have c9 := d4.cell 1; have f8 := d4.froz 0; have f9 := d4.froz 1; clear hb d2 d3 d4 d5))
  refine bodyPost_ret (bG results58 _ _ w.heap.size 142 _ (0, 0) _ _ (by rfl) (by rfl) (xH D4.out _ _) underlying142 (by rfl) (by kernel_rfl)) rfl ⟨?_, aS (aS D5.out (Nat.le_refl _) _) (Nat.le_refl _) _⟩
  rfl
 ·have e9 : X = iD a k := by rw [HX.out, spn, if_pos hq]; rfl
  subst e9
  rw [hq] at HK
  have hz : n8 1#8 = 1 := rfl
  rw [hz] at HK
  clear hq HX hz
  generalize iD a k = X at HTor ⊢
  go_enter func58, ntmps58
  go_upto_region 1 with fail
  clear hW0
  go_wp2_with (first | (go_at_call 79; refine (HK.out _).mono ?_; rintro e w1 ⟨rfl, hb⟩; have HB1 := hid hb; obtain ⟨d1, d2, d3, d4, d5, d6⟩ := HCell.out w1 hb; have D2 := hid d2; have D3 := hid d3; have D4 := hid d4; have D5 := hid d5; have c8 := d4.cell 0; have c9 := d4.cell 1; have f8 := d4.froz 0; have f9 := d4.froz 1; clear hb d2 d3 d4 d5) | (go_at_call 80; refine (HTor.out w1 D2.out).mono ?_; rintro e w2 ⟨rfl, hb⟩; have HB2 : Hid (Below W0.heap.size W0 w2) := HB1.out.trans (hb.mono HB1.out.size); obtain ⟨g1, g2, g3, g4, g5, g6⟩ := HCell.out w2 HB2.out; have G4 := hid g4; have G5 := hid g5; have k8 := g4.cell 0; have k9 := g4.cell 1; have l8 := g4.froz 0; have l9 := g4.froz 1; clear hb g2 g3 g4 g5))
  refine bodyPost_ret (bG results58 _ _ w.heap.size 142 _ (0, 0) _ _ (by rfl) (by rfl) (xH G4.out _ _) underlying142 (by rfl) (by kernel_rfl)) rfl ⟨?_, aS (aS G5.out (Nat.le_refl _) _) (Nat.le_refl _) _⟩
  rfl
 ·have e9 : X = some (a k <<< 2, a k <<< 2 + 3#64) := by rw [HX.out, spn, if_neg (by rw [hq]; decide), if_pos hq]
  subst e9
  rw [hq] at HK
  have hz : n8 2#8 = 2 := rfl
  rw [hz] at HK
  clear hq HX hz
  go_enter func58, ntmps58
  go_upto_region 1 with fail
  clear hW0
  go_wp2_with ((go_at_call 79; refine (HK.out _).mono ?_; rintro e w1 ⟨rfl, hb⟩; have HB1 := hid hb; obtain ⟨d1, d2, d3, d4, d5, d6⟩ := HCell.out w1 hb; have D2 := hid d2; have D3 := hid d3; have D4 := hid d4; have D5 := hid d5; have c8 := d4.cell 0; have c9 := d4.cell 1; have f8 := d4.froz 0; have f9 := d4.froz 1; clear hb d2 d3 d4 d5))
  refine bodyPost_ret (bG results58 _ _ w.heap.size 142 _ (0, 0) _ _ (by rfl) (by rfl) (xH D4.out _ _) underlying142 (by rfl) (by kernel_rfl)) rfl ⟨?_, aS (aS D5.out (Nat.le_refl _) _) (Nat.le_refl _) _⟩
  simp_all [spV, sF, sL]
 ·have e9 : X = some (npF (a k), npL (a k)) := by rw [HX.out, spn, if_neg (by rw [hq]; decide), if_neg (by rw [hq]; decide), if_pos hq]
  subst e9
  rw [hq] at HK
  have hz : n8 3#8 = 3 := rfl
  rw [hz] at HK
  clear hq HX hz
  go_enter func58, ntmps58
  go_upto_region 1 with fail
  clear hW0
  go_wp2_with (first | (go_at_call 79; refine (HK.out _).mono ?_; rintro e w1 ⟨rfl, hb⟩; have HB1 := hid hb; obtain ⟨d1, d2, d3, d4, d5, d6⟩ := HCell.out w1 hb; have D2 := hid d2; have D3 := hid d3; have D4 := hid d4; have D5 := hid d5; have c8 := d4.cell 0; have c9 := d4.cell 1; have f8 := d4.froz 0; have f9 := d4.froz 1; clear hb d2 d3 d4 d5) | (go_at_call 81; refine (HNap.out w1 D3.out).mono ?_; rintro e w2 ⟨rfl, hb⟩; have HB2 : Hid (Below W0.heap.size W0 w2) := HB1.out.trans (hb.mono HB1.out.size); obtain ⟨g1, g2, g3, g4, g5, g6⟩ := HCell.out w2 HB2.out; have G4 := hid g4; have G5 := hid g5; have k8 := g4.cell 0; have k9 := g4.cell 1; have l8 := g4.froz 0; have l9 := g4.froz 1; clear hb g2 g3 g4 g5))
  refine bodyPost_ret (bG results58 _ _ w.heap.size 142 _ (0, 0) _ _ (by rfl) (by rfl) (xH G4.out _ _) underlying142 (by rfl) (by kernel_rfl)) rfl ⟨?_, aS (aS G5.out (Nat.le_refl _) _) (Nat.le_refl _) _⟩
  rfl
theorem CX (a : Nat → BitVec 64) : ∀ j, (PA a j).toNat < 2 ^ 54 := fun j => CC (a j)
theorem below_drewN {B : Nat} {w w' : World} (h : Below B w w') (n : Nat) : Below B w (w'.drewN n) := ⟨h.os, h.tape, h.output, h.size, h.block⟩
def inR (f l x : BitVec 64) : Bool := decide (n64 f ≤ n64 x) && decide (n64 x ≤ n64 l)
def hcn (f l ad : BitVec 64) : Nat → Nat
 | 0 => 0
 | k + 1 => hcn f l ad k + (if inR f l (ad + BitVec.ofNat 64 k) = true then 1 else 0)
theorem sN (f l ad : BitVec 64) : ∀ k, hcn f l ad k ≤ k
 | 0 => Nat.le_refl _
 | k + 1 => by have := sN f l ad k; rw [hcn]; split <;> omega
theorem yU (ad : BitVec 64) (k : Nat) (hk : k < 8) : IntKind.u64.wrap (n64 ad + (k : Int)) = n64 (ad + BitVec.ofNat 64 k) := by
 have e : (k : Int) = n64 (BitVec.ofNat 64 k) := by
  unfold n64; rw [BitVec.toNat_ofNat, Nat.mod_eq_of_lt (by omega)]
 rw [e, iG]
def hn (c : Nat → BitVec 8) (a : Nat → BitVec 64) (ad : BitVec 64) (s : Nat) (k : Nat) : Nat := match spn c a k with | none => 0 | some (f, l) => hcn f l ad s
def mtF (h : Nat → Nat) (s : Nat) : Nat → Nat → Int × Bool
 | 0, _ => (-1, false)
 | n + 1, i => if 0 < h i then ((i : Int), (h i : Int) == (s : Int)) else mtF h s n (i + 1)
def MT (h : Nat → Nat) (s : Nat) : Int × Bool := mtF h s 16 0
theorem BI (f l ad : BitVec 64) (s : Nat) (hs : s ≤ 8) (w : World) :
  Calls prog 59 #[.agg #[.int .u64 (n64 f), .int .u64 (n64 l)], .int .u64 (n64 ad), .int .i64 s] w fun e w' => e = .returned (.int .i64 (hcn f l ad s : Nat)) ∧ Below w.heap.size w w' := by
 obtain ⟨W0, hW0, r0, b0, s0⟩ := dO w #[Value.int .u64 (n64 f), .int .u64 (n64 l)] 142
 clear s0
 have c0 : W0.cell? ⟨w.heap.size, 0, none⟩ = some (.int .u64 (n64 f)) := r0.out.cell 0
 have c1 : W0.cell? ⟨w.heap.size, 1, none⟩ = some (.int .u64 (n64 l)) := r0.out.cell 1
 have hs2 : (s : Int) ≤ 8 := by omega
 go_enter func59, ntmps59
 go_wp2
 clear hW0 r0
 go_loopw [7, 11] (fun n i wr => ∃ k : Nat, k ≤ s ∧ i = .int .i64 k ∧ n = .int .i64 (hcn f l ad k : Nat) ∧ wr = W0) (fun _ i _ => s - (intOf i).toNat)
 case atStart => exact ⟨0, by omega, rfl, rfl, rfl⟩
 case round =>
  obtain ⟨k, hk, rfl, rfl, rfl⟩ := hrel
  by_cases hlt : k < s
  ·have hlt2 : (k : Int) < s := by omega
   have HA := yU ad k (by omega)
   have hle := sN f l ad k
   have HC : Hid (hcn f l ad (k + 1) = hcn f l ad k + (if inR f l (ad + BitVec.ofNat 64 k) = true then 1 else 0)) := rfl
   generalize hcn f l ad k = q at HC hle ⊢
   generalize ad + BitVec.ofNat 64 k = x at HA HC
   have hq : (q : Int) ≤ 8 := by omega
   by_cases h1 : n64 f ≤ n64 x
   ·by_cases h2 : n64 x ≤ n64 l
    ·have h3 : hcn f l ad (k + 1) = q + 1 := by rw [HC.out, if_pos (by simp [inR, h1, h2])]
     have H3 := hid h3
     clear HC h3
     go_wp2
     go_roundw
     case rel => exact ⟨k + 1, by omega, by go_num, by rw [H3.out]; go_num, trivial⟩
     case measure => simp [intOf]; omega
    ·have h3 : hcn f l ad (k + 1) = q := by rw [HC.out, if_neg (by simp [inR, h2])]; rfl
     have H3 := hid h3
     clear HC h3
     go_wp2
     go_roundw
     case rel => exact ⟨k + 1, by omega, by go_num, by rw [H3.out], trivial⟩
     case measure => simp [intOf]; omega
   ·have h3 : hcn f l ad (k + 1) = q := by rw [HC.out, if_neg (by simp [inR, h1])]; rfl
    have H3 := hid h3
    clear HC h3
    go_wp2
    go_roundw
    case rel => exact ⟨k + 1, by omega, by go_num, by rw [H3.out], trivial⟩
    case measure => simp [intOf]; omega
  ·obtain rfl : k = s := by omega
   go_wp2
   go_ret
   exact ⟨rfl, b0.out⟩
theorem wH (h : Nat → Nat) (s n i : Nat) (hi : 0 < h i) : mtF h s (n + 1) i = ((i : Int), (h i : Int) == (s : Int)) := by rw [mtF, if_pos hi]
theorem mO (h : Nat → Nat) (s n i : Nat) (hi : ¬ 0 < h i) : mtF h s (n + 1) i = mtF h s n (i + 1) := by rw [mtF, if_neg hi]
theorem wE (c : Nat → BitVec 8) (a : Nat → BitVec 64) (hA : ∀ j, (a j).toNat < 2 ^ 54) (ad : BitVec 64) (s : Nat) (hs : s ≤ 8) (g : Nat) (w : World) (hT : Tb w) (hg : Row w g (ec c a) 85) :
  Calls prog 35 #[.pointer (some ⟨g, 0, none⟩), .int .u64 (n64 ad), .int .i64 s] w fun e w' => e = .returned (.tuple #[.int .i64 (MT (hn c a ad s) s).1, .bool (MT (hn c a ad s) s).2]) ∧ Below w.heap.size w w' := by
 have hlg := hg.lt
 have HG := hid hg
 have HT := hid hT
 have HSp : Hid (∀ (k : Nat), k < 16 → ∀ W, Tb W → Row W g (ec c a) 85 → Calls prog 58 #[.pointer (some ⟨g, 0, none⟩), .int .i64 k] W fun e w' => e = .returned (.tuple #[.agg #[.int .u64 (n64 (sF (spn c a k))), .int .u64 (n64 (sL (spn c a k)))], .bool (spn c a k).isSome]) ∧ Below W.heap.size W w') := fun k hk W h1 h2 => vU c a hA g k hk W h1 h2
 obtain ⟨m1, hm1⟩ : ∃ m1, m1 = (MT (hn c a ad s) s).1 := ⟨_, rfl⟩
 obtain ⟨m2, hm2⟩ : ∃ m2, m2 = (MT (hn c a ad s) s).2 := ⟨_, rfl⟩
 rw [← hm1, ← hm2]
 have HM : Hid (mtF (hn c a ad s) s 16 0 = (m1, m2)) := by unfold Hid; rw [hm1, hm2]; rfl
 clear hm1 hm2 hg hT hA
 go_enter func35, ntmps35
 go_wp2
 go_loopw [12] (fun i wr => ∃ k : Nat, k ≤ 16 ∧ i = .int .i64 k ∧ Hid (mtF (hn c a ad s) s (16 - k) k = (m1, m2)) ∧ Hid (Row wr g (ec c a) 85) ∧ Hid (Tb wr) ∧ Hid (Below w.heap.size w wr)) (fun i _ => 16 - (intOf i).toNat)
 case atStart => exact ⟨0, by omega, rfl, HM, HG, HT, Below.refl _ _⟩
 case round =>
  clear HM HG HT
  obtain ⟨k, hk, rfl, hm, h0, h1, hb⟩ := hrel
  by_cases hlt : k < 16
  ·have hlt2 : (k : Int) < 16 := by omega
   obtain ⟨n, hn1⟩ : ∃ n, 16 - k = n + 1 := ⟨15 - k, by omega⟩
   have HN : Hid (16 - (k + 1) = n) := by unfold Hid; omega
   rw [hn1] at hm
   have hlw := h0.out.lt
   have hS := HSp.out k hlt wr h1.out h0.out
   have HH : Hid (hn c a ad s k = match spn c a k with | none => 0 | some (f, l) => hcn f l ad s) := rfl
   cases hX : spn c a k with
   | none =>
    rw [hX] at hS HH
    have hmiss := hm.out
    rw [mO _ _ _ _ (by rw [HH.out]; simp), ← HN.out] at hmiss
    have HMs : Hid (mtF (hn c a ad s) s (16 - (k + 1)) (k + 1) = (m1, m2)) := hmiss
    have HSS : Hid (Calls prog 58 #[.pointer (some ⟨g, 0, none⟩), .int .i64 k] wr fun e w' => e = .returned (.tuple #[.agg #[.int .u64 0, .int .u64 0], .bool false]) ∧ Below wr.heap.size wr w') := hS
    clear hmiss hX hS HH hn1 hm
    go_wp2_with (go_at_call 58; refine HSS.out.mono ?_; rintro e w1 ⟨rfl, hb1⟩; have HB1 := hid hb1; clear hb1)
    go_roundw
    case rel => exact ⟨k + 1, by omega, by go_num, HMs, (h0.out.later HB1.out hlw).old (Nat.lt_of_lt_of_le hlw HB1.out.size) _, (h1.out.next HB1.out).alloc _, (hb.out.trans (HB1.out.mono hb.out.size)).alloc (Nat.le_trans hb.out.size HB1.out.size) _⟩
    case measure => simp [intOf]; omega
   | some fl =>
    obtain ⟨f, l⟩ := fl
    rw [hX] at hS HH
    have HSS : Hid (Calls prog 58 #[.pointer (some ⟨g, 0, none⟩), .int .i64 k] wr fun e w' => e = .returned (.tuple #[.agg #[.int .u64 (n64 f), .int .u64 (n64 l)], .bool true]) ∧ Below wr.heap.size wr w') := hS
    have HHd : Hid (∀ W, Calls prog 59 #[.agg #[.int .u64 (n64 f), .int .u64 (n64 l)], .int .u64 (n64 ad), .int .i64 s] W fun e w' => e = .returned (.int .i64 (hn c a ad s k : Nat)) ∧ Below W.heap.size W w') := fun W => by
     rw [HH.out]
     exact BI f l ad s hs W
    clear hX hS HH
    obtain ⟨q, hq⟩ : ∃ q, q = hn c a ad s k := ⟨_, rfl⟩
    rw [← hq] at HHd
    by_cases hpos : 0 < q
    ·have hhit := hm.out
     rw [wH _ _ _ _ (by rw [← hq]; exact hpos), ← hq] at hhit
     simp only [Prod.mk.injEq] at hhit
     obtain ⟨z1, z2⟩ := hhit
     have Z1 := hid z1
     have Z2 := hid z2
     have hpos2 : (0 : Int) < q := by omega
     clear z1 z2 hq hm hn1
     go_wp2_with (first | (go_at_call 58; refine HSS.out.mono ?_; rintro e w1 ⟨rfl, hb1⟩; have HB1 : Hid (Below w.heap.size w w1) := hb.out.trans (hb1.mono hb.out.size); clear hb1) | (go_at_call 59; refine (HHd.out _).mono ?_; rintro e w2 ⟨rfl, hb2⟩; have HB2 : Hid (Below w.heap.size w w2) := (HB1.out.alloc HB1.out.size _).trans (hb2.mono (Nat.le_trans HB1.out.size (by simp))); clear hb2))
     go_ret2
     refine ⟨?_, HB2.out⟩
     have y1 := Z1.out
     have y2 := Z2.out
     simp_all
    ·have hmiss := hm.out
     rw [mO _ _ _ _ (by rw [← hq]; exact hpos), ← HN.out] at hmiss
     have HMs : Hid (mtF (hn c a ad s) s (16 - (k + 1)) (k + 1) = (m1, m2)) := hmiss
     obtain rfl : q = 0 := by omega
     have hz : ((0 : Nat) : Int) = 0 := rfl
     rw [hz] at HHd
     clear hmiss hq hm hn1 hpos hz
     go_wp2_with (first | (go_at_call 58; refine HSS.out.mono ?_; rintro e w1 ⟨rfl, hb1⟩; have HB1 := hid hb1; clear hb1) | (go_at_call 59; refine (HHd.out _).mono ?_; rintro e w2 ⟨rfl, hb2⟩; have HB2 : Hid (Below wr.heap.size wr w2) := (HB1.out.alloc HB1.out.size _).trans (hb2.mono (Nat.le_trans HB1.out.size (by simp))); clear hb2))
     go_roundw
     case rel => exact ⟨k + 1, by omega, by go_num, HMs, h0.out.later HB2.out hlw, h1.out.next HB2.out, hb.out.trans (HB2.out.mono hb.out.size)⟩
     case measure => simp [intOf]; omega
  ·obtain rfl : k = 16 := by omega
   have e16 : ((16 : Nat) : Int) = 16 := rfl
   rw [e16]
   have hq := hm.out
   simp only [Nat.sub_self, mtF, Prod.mk.injEq] at hq
   obtain ⟨z1, z2⟩ := hq
   clear hm hk hlt e16
   subst z1
   subst z2
   go_wp2
   go_ret2
   exact ⟨rfl, hb.out⟩
theorem kP (h : Nat → Nat) (s : Nat) : ∀ n i, (mtF h s n i).1 = -1 ∧ (mtF h s n i).2 = false ∨ ∃ k : Nat, k < i + n ∧ (mtF h s n i).1 = (k : Int)
 | 0, i => .inl ⟨rfl, rfl⟩
 | n + 1, i => by
  rw [mtF]
  split
  ·exact .inr ⟨i, by omega, rfl⟩
  ·rcases kP h s n (i + 1) with h1 | ⟨k, hk, h1⟩
   ·exact .inl h1
   ·exact .inr ⟨k, by omega, h1⟩
theorem rA (h : Nat → Nat) (s : Nat) : MT h s = (-1, false) ∨ ∃ (k : Nat) (q : Bool), k < 16 ∧ MT h s = ((k : Int), q) := by
 rcases kP h s 16 0 with ⟨h1, h2⟩ | ⟨k, hk, h1⟩
 ·exact .inl (Prod.ext h1 h2)
 ·exact .inr ⟨k, _, by omega, Prod.ext h1 rfl⟩
def rP (m s b : Int) : Prop := (m = 0 ∨ m = 3) ∧ (1 ≤ s ∧ s ≤ 8) ∧ (1 ≤ b ∧ b ≤ 7)
def ckM (c : Nat → BitVec 8) (m : Int) (p : Int × Bool) (b : Int) : Bool := if p.1 < 0 then decide (m = 3) else if p.2 = false then false else if m = 0 ∨ lk (c p.1.toNat) = true then (bits .and .i64 (n8 (rts (c p.1.toNat))) b == b) else true
def ckA (c : Nat → BitVec 8) (a : Nat → BitVec 64) (m : Int) (ad : BitVec 64) (s b : Int) : Bool := if (m = 0 ∨ m = 3) ∧ (1 ≤ s ∧ s ≤ 8) ∧ (1 ≤ b ∧ b ≤ 7) then ckM c m (MT (hn c a ad s.toNat) s.toNat) b else false
theorem yZ (c : Nat → BitVec 8) (a : Nat → BitVec 64) (m : Int) (ad : BitVec 64) (s b : Int) (h : ¬ rP m s b) : ckA c a m ad s b = false := by unfold ckA; exact if_neg h
theorem vM (c : Nat → BitVec 8) (a : Nat → BitVec 64) (m : Int) (ad : BitVec 64) (s : Nat) (b : Int) (h : rP m s b) : ckA c a m ad s b = ckM c m (MT (hn c a ad s) s) b := by unfold ckA; exact if_pos h
theorem rN (c : Nat → BitVec 8) (m b : Int) : ckM c m (-1, false) b = decide (m = 3) := rfl
theorem rO (c : Nat → BitVec 8) (m b : Int) (k : Nat) : ckM c m ((k : Int), false) b = false := by unfold ckM; rw [if_neg (by show ¬ (k : Int) < 0; omega), if_pos rfl]
theorem kK (c : Nat → BitVec 8) (m b : Int) (k : Nat) (h : m = 0 ∨ lk (c k) = true) : ckM c m ((k : Int), true) b = (bits .and .i64 (n8 (rts (c k))) b == b) := by unfold ckM; rw [if_neg (by show ¬ (k : Int) < 0; omega), if_neg (by simp)]; exact if_pos h
theorem rM (c : Nat → BitVec 8) (m b : Int) (k : Nat) (h : ¬ (m = 0 ∨ lk (c k) = true)) : ckM c m ((k : Int), true) b = true := by unfold ckM; rw [if_neg (by show ¬ (k : Int) < 0; omega), if_neg (by simp)]; exact if_neg h
theorem qZ (c : Nat → BitVec 8) (a : Nat → BitVec 64) (m : Int) (ad : BitVec 64) (s b : Int) (h : ¬ rP m s b) (w : World) :
  Calls prog 14 #[.agg (pc c a), .int .i64 m, .int .u64 (n64 ad), .int .i64 s, .int .i64 b] w fun e w' => e = .returned (.bool false) ∧ Below w.heap.size w w' := by
 obtain ⟨W0, hW0, r0, b0, s0⟩ := dO w (pc c a) 27
 have HS := hid s0
 clear s0
 have hM := mF m
 have hZ := mG s
 have hR := jC b
 by_cases h1 : m = 0 ∨ m = 3
 ·by_cases h2 : 1 ≤ s ∧ s ≤ 8
  ·have h3 : ¬ (1 ≤ b ∧ b ≤ 7) := fun h3 => h ⟨h1, h2, h3⟩
   rw [decide_eq_true h1] at hM
   rw [decide_eq_true h2] at hZ
   rw [decide_eq_false h3] at hR
   have HM : Hid (∀ W, Calls prog 31 #[.int .i64 m] W fun e w' => e = .returned (.bool true) ∧ w' = W) := hM
   have HZ : Hid (∀ W, Calls prog 32 #[.int .i64 s] W fun e w' => e = .returned (.bool true) ∧ w' = W) := hZ
   have HR : Hid (∀ W, Calls prog 33 #[.int .i64 b] W fun e w' => e = .returned (.bool false) ∧ w' = W) := hR
   clear h h1 h2 h3 hM hZ hR
   go_enter func14, ntmps14
   go_wp2_with (first | (go_at_call 31; refine (HM.out _).mono ?_; rintro e w9 ⟨rfl, hw⟩; have hw2 := hw.symm; subst hw2) | (go_at_call 32; refine (HZ.out _).mono ?_; rintro e w9 ⟨rfl, hw⟩; have hw2 := hw.symm; subst hw2) | (go_at_call 33; refine (HR.out _).mono ?_; rintro e w9 ⟨rfl, hw⟩; have hw2 := hw.symm; subst hw2))
   go_ret
   exact ⟨rfl, b0.out⟩
  ·rw [decide_eq_true h1] at hM
   rw [decide_eq_false h2] at hZ
   have HM : Hid (∀ W, Calls prog 31 #[.int .i64 m] W fun e w' => e = .returned (.bool true) ∧ w' = W) := hM
   have HZ : Hid (∀ W, Calls prog 32 #[.int .i64 s] W fun e w' => e = .returned (.bool false) ∧ w' = W) := hZ
   clear h h1 h2 hM hZ hR
   go_enter func14, ntmps14
   go_wp2_with (first | (go_at_call 31; refine (HM.out _).mono ?_; rintro e w9 ⟨rfl, hw⟩; have hw2 := hw.symm; subst hw2) | (go_at_call 32; refine (HZ.out _).mono ?_; rintro e w9 ⟨rfl, hw⟩; have hw2 := hw.symm; subst hw2))
   go_ret
   exact ⟨rfl, b0.out⟩
 ·rw [decide_eq_false h1] at hM
  have HM : Hid (∀ W, Calls prog 31 #[.int .i64 m] W fun e w' => e = .returned (.bool false) ∧ w' = W) := hM
  clear h h1 hM hZ hR
  go_enter func14, ntmps14
  go_wp2_with ((go_at_call 31; refine (HM.out _).mono ?_; rintro e w9 ⟨rfl, hw⟩; have hw2 := hw.symm; subst hw2))
  go_ret
  exact ⟨rfl, b0.out⟩
theorem pF (c : Nat → BitVec 8) (a : Nat → BitVec 64) (m : Int) (ad : BitVec 64) (s : Nat) (b : Int) (h : rP m s b) (w : World) (hT : Tb w) :
  Calls prog 14 #[.agg (pc c a), .int .i64 m, .int .u64 (n64 ad), .int .i64 s, .int .i64 b] w fun e w' => e = .returned (.bool (ckM (PC c) m (MT (hn (PC c) (PA a) ad s) s) b)) ∧ Below w.heap.size w w' := by
 obtain ⟨W0, hW0, r0, b0, s0⟩ := dO w (pc c a) 27
 have HS := hid s0
 clear s0
 have HT := hid hT
 clear hT
 have hM := mF m
 have hZ := mG s
 have hR := jC b
 obtain ⟨h1, h2, h3⟩ := h
 rw [decide_eq_true h1] at hM
 rw [decide_eq_true h2] at hZ
 rw [decide_eq_true h3] at hR
 have HM : Hid (∀ W, Calls prog 31 #[.int .i64 m] W fun e w' => e = .returned (.bool true) ∧ w' = W) := hM
 have HZ : Hid (∀ W, Calls prog 32 #[.int .i64 s] W fun e w' => e = .returned (.bool true) ∧ w' = W) := hZ
 have HR : Hid (∀ W, Calls prog 33 #[.int .i64 b] W fun e w' => e = .returned (.bool true) ∧ w' = W) := hR
 have HSp : Hid (∀ g W, Tb W → Row W g (ec (PC c) (PA a)) 85 → Calls prog 35 #[.pointer (some ⟨g, 0, none⟩), .int .u64 (n64 ad), .int .i64 s] W fun e w' => e = .returned (.tuple #[.int .i64 (MT (hn (PC c) (PA a) ad s) s).1, .bool (MT (hn (PC c) (PA a) ad s) s).2]) ∧ Below W.heap.size W w') := fun g W h1 h2 => wE (PC c) (PA a) (CX a) ad s (by omega) g W h1 h2
 obtain ⟨G, hG⟩ : ∃ G, G = ckM (PC c) m (MT (hn (PC c) (PA a) ad s) s) b := ⟨_, rfl⟩
 rw [← hG]
 have HG := hid hG
 have HMo := hid h1
 clear hM hZ hR h1 h2 h3 hG
 have HCL : Hid (∀ (g k : Nat) W, k < 16 → Row W g (ec (PC c) (PA a)) 85 → Calls prog 36 #[.pointer (some ⟨g, 0, none⟩), .int .i64 k] W fun e w' => e = .returned (.bool (lk (PC c k))) ∧ Below W.heap.size W w') := fun g k W hk h => by
  have := lY (PC c) (PA a) g k W h
  rw [yH _ _ hk] at this
  exact this
 have HRt : Hid (∀ (k : Nat) W, Calls prog 37 #[.agg #[.int .u8 (n8 (PC c k)), .int .u64 (n64 (PA a k))]] W fun e w' => e = .returned (.int .i64 (n8 (rts (PC c k)))) ∧ Below W.heap.size W w') := fun k W => pZ _ _ W
 go_enter func14, ntmps14
 go_upto_region 1 with fail
 clear hW0
 go_upto_region 4 with (first | (refine gX (by rfl) _ _ (by rfl) _ (by rfl) 27 _ (0, 0) _ r0.out underlying27 (by rfl) (by rw [bQ]; kernel_rfl) ?_) | (go_at_call 31; refine (HM.out _).mono ?_; rintro e w9 ⟨rfl, hw⟩; have hw2 := hw.symm; subst hw2) | (go_at_call 32; refine (HZ.out _).mono ?_; rintro e w9 ⟨rfl, hw⟩; have hw2 := hw.symm; subst hw2) | (go_at_call 33; refine (HR.out _).mono ?_; rintro e w9 ⟨rfl, hw⟩; have hw2 := hw.symm; subst hw2) | (go_at_call 34; refine (EK c a _).mono ?_; rintro e w1 ⟨rfl, hb1⟩; have HB1 := hid hb1; clear hb1) | (refine aK (by rfl) _ _ _ (by rfl) (by rfl) _ _ (by rfl) (by rfl) (by rw [cK]; kernel_rfl) (by rw [cK]; rfl) (kV _ _) ?_))
 obtain ⟨W2, hW2, r2, b2, s2⟩ := dO w1 (ec (PC c) (PA a)) 85
 rw [hW2]
 have t1 : Below w.heap.size w w1 := b0.out.trans (HB1.out.mono (by rw [HS.out]; omega))
 have b3 : Hid (Below w.heap.size w W2) := t1.trans (b2.out.mono t1.size)
 have T2 : Hid (Tb W2) := HT.out.next b3.out
 have HGL := hid s2
 clear t1 s2 b2 hW2 HB1 r0 b0 HS
 generalize w1.heap.size = g at *
 rcases rA (hn (PC c) (PA a) ad s) s with hm | ⟨k, q, hk, hm⟩
 ·rw [hm] at HSp HG
  rw [rN] at HG
  clear hm
  go_wp2_with (go_at_call 35; refine (HSp.out g W2 T2.out r2.out).mono ?_; rintro e w5 ⟨rfl, hb⟩; have HB5 := hid hb; clear hb)
  go_ret
  refine ⟨?_, b3.out.trans (HB5.out.mono b3.out.size)⟩
  rw [HG.out]
  rcases HMo.out with rfl | rfl <;> rfl
 ·rw [hm] at HSp HG
  clear hm
  have hk2 : (k : Int) < 16 := by omega
  have hk3 : ((k : Int) == -1) = false := by rw [beq_eq_false_iff_ne]; omega
  have HR5 : Hid (∀ W, Below W2.heap.size W2 W → Row W g (ec (PC c) (PA a)) 85) := fun W hb => r2.out.later hb (by rw [HGL.out]; omega)
  cases q with
  | false =>
   rw [rO] at HG
   have e9 := HG.out
   subst e9
   go_wp2_with (go_at_call 35; refine (HSp.out g W2 T2.out r2.out).mono ?_; rintro e w5 ⟨rfl, hb⟩; have HB5 := hid hb; clear hb)
   go_ret
   exact ⟨rfl, b3.out.trans (HB5.out.mono b3.out.size)⟩
  | true =>
   rcases HMo.out with hm0 | hm3
   ·subst hm0
    rw [kK _ _ _ _ (.inl rfl)] at HG
    go_wp2_with (first | (go_at_call 35; refine (HSp.out g W2 T2.out r2.out).mono ?_; rintro e w5 ⟨rfl, hb⟩; have HB5 := hid hb; have r5 := HR5.out w5 hb; have d0 := iK r5 k hk; have d1 := dT r5 k hk; clear hb r5) | (go_at_call 37; refine (HRt.out k _).mono ?_; rintro e w6 ⟨rfl, hb⟩; have HB6 : Hid (Below W2.heap.size W2 w6) := HB5.out.trans (hb.mono HB5.out.size); clear hb))
    go_ret
    exact ⟨by rw [HG.out]; first | done | rfl, b3.out.trans (HB6.out.mono b3.out.size)⟩
   ·subst hm3
    cases hl : lk (PC c k) with
    | true =>
     rw [kK _ _ _ _ (.inr hl)] at HG
     have HCK : Hid (∀ W, Row W g (ec (PC c) (PA a)) 85 → Calls prog 36 #[.pointer (some ⟨g, 0, none⟩), .int .i64 k] W fun e w' => e = .returned (.bool true) ∧ Below W.heap.size W w') := fun W h => by
      have := HCL.out g k W hk h
      rw [hl] at this
      exact this
     clear hl
     go_wp2_with (first | (go_at_call 35; refine (HSp.out g W2 T2.out r2.out).mono ?_; rintro e w5 ⟨rfl, hb⟩; have HB5 := hid hb; clear hb) | (go_at_call 36; refine (HCK.out _ (HR5.out w5 HB5.out)).mono ?_; rintro e w7 ⟨rfl, hb⟩; have HB7 : Hid (Below W2.heap.size W2 w7) := HB5.out.trans (hb.mono HB5.out.size); have r5 := HR5.out w7 HB7.out; have d0 := iK r5 k hk; have d1 := dT r5 k hk; clear hb r5) | (go_at_call 37; refine (HRt.out k _).mono ?_; rintro e w6 ⟨rfl, hb⟩; have HB6 : Hid (Below W2.heap.size W2 w6) := HB7.out.trans (hb.mono HB7.out.size); clear hb))
     go_ret
     exact ⟨by rw [HG.out]; first | done | rfl, b3.out.trans (HB6.out.mono b3.out.size)⟩
    | false =>
     rw [rM _ _ _ _ (by rw [hl]; simp)] at HG
     have e9 := HG.out
     subst e9
     have HCK : Hid (∀ W, Row W g (ec (PC c) (PA a)) 85 → Calls prog 36 #[.pointer (some ⟨g, 0, none⟩), .int .i64 k] W fun e w' => e = .returned (.bool false) ∧ Below W.heap.size W w') := fun W h => by
      have := HCL.out g k W hk h
      rw [hl] at this
      exact this
     clear hl
     go_wp2_with (first | (go_at_call 35; refine (HSp.out g W2 T2.out r2.out).mono ?_; rintro e w5 ⟨rfl, hb⟩; have HB5 := hid hb; clear hb) | (go_at_call 36; refine (HCK.out _ (HR5.out w5 HB5.out)).mono ?_; rintro e w7 ⟨rfl, hb⟩; have HB7 : Hid (Below W2.heap.size W2 w7) := HB5.out.trans (hb.mono HB5.out.size); clear hb))
     go_ret
     exact ⟨rfl, b3.out.trans (HB7.out.mono b3.out.size)⟩
theorem vB (c : Nat → BitVec 8) (a : Nat → BitVec 64) (m : Int) (ad : BitVec 64) (s b : Int) (w : World) (hT : Tb w) :
  Calls prog 14 #[.agg (pc c a), .int .i64 m, .int .u64 (n64 ad), .int .i64 s, .int .i64 b] w fun e w' => e = .returned (.bool (ckA (PC c) (PA a) m ad s b)) ∧ Below w.heap.size w w' := by
 by_cases h : rP m s b
 ·obtain ⟨q, rfl⟩ : ∃ q : Nat, s = q := ⟨s.toNat, by have := h.2.1; omega⟩
  rw [vM _ _ _ _ _ _ h]
  exact pF c a m ad q b h w hT
 ·rw [yZ _ _ _ _ _ _ h]
  exact qZ c a m ad s b h w
end Go.Proofs.YtdpfjhacmlnklaaGreatDoor
namespace Go.Proofs.YtdpfjhacmlnklaaGreatDoor
set_option linter.unusedVariables false
set_option maxRecDepth 100000
set_option maxHeartbeats 8000000
open Go.ChangeShapes Go.WideShapes Go.ChangeAt Go.RowKit Go.Deep Go.Lib Go.Shelf _root_.Go.Proofs.Tryz
theorem CJ : (Rows.laid_math_bits_deBruijn64tab : DataW Unit) = tabData .u8 (Lib.deBruijn64tab.map Int.ofNat) := by kernel_rfl
theorem yN {W : World} (h : VarReads prog W "math/bits.deBruijn64tab" (Rows.laid_math_bits_deBruijn64tab : DataW Unit)) : Tb W := by
 rw [CJ] at h
 obtain ⟨g', t', cs, fuel, p, hg', ht', hvar, hd⟩ := h
 obtain rfl := Option.some.inj ((show prog.globalNamed "math/bits.deBruijn64tab" = some 0 by kernel_rfl).symm.trans hg')
 obtain rfl := Option.some.inj ((show (prog.globals[0]?).map (·.type) = some 182 by kernel_rfl).symm.trans ht')
 have hc := cells_of_tab underlying182 underlying5 (by kernel_rfl) (by kernel_rfl) hd
 intro j hj
 have hh : ∃ t fr, W.heap[0]? = some (.cells cs t fr) := by
  unfold World.var? at hvar
  rw [hg'] at hvar
  simp only [Option.bind_some] at hvar
  split at hvar
  ·rename_i c1 t1 fr1 hq
   simp only [Option.some.injEq] at hvar
   subst hvar
   exact ⟨t1, fr1, hq⟩
  ·cases hvar
 obtain ⟨t, fr, hh⟩ := hh
 rw [cell_of_row W 0 j cs t fr hh, ← Array.getElem?_toList, hc, List.getElem?_map, List.getElem?_map, List.getElem?_eq_getElem (show j < Lib.deBruijn64tab.length from hj)]
 simp [List.getD, List.getElem?_eq_getElem (show j < Lib.deBruijn64tab.length from hj)]
end Go.Proofs.YtdpfjhacmlnklaaGreatDoor
