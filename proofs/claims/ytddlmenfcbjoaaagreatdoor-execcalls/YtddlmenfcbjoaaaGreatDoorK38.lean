import Derived.Test.YtddlmenfcbjoaaaGreatDoorK35
import Derived.Test.YtddlmenfcbjoaaaGreatDoorK37
namespace Go.Proofs.YtddlmenfcbjoaaaGreatDoor
set_option linter.unusedVariables false
set_option maxRecDepth 100000
set_option maxHeartbeats 8000000
open Go.MuLone Go.ChangeShapes Go.WideShapes Go.ChangeAt Go.RowKit Go.Deep _root_.Go.Proofs.Tryz
def gV (x : Nat → BitVec 64) : Array Value := Array.ofFn (n := 32) fun i => .int .u64 (n64 (x i.val))
theorem jT (x : Nat → BitVec 64) : (gV x).size = 32 := by simp [gV]
theorem uM (x : Nat → BitVec 64) (i : Nat) (h : i < 32) : (gV x)[i]? = some (.int .u64 (n64 (x i))) := by simp [gV, h]
theorem MS (k : Cp) : (cpc k).extract 1 (1 + 32) = gV k.x := by
 apply Array.ext_getElem?
 intro i
 by_cases h : i < 32
 ·rw [xM k i h, uM _ _ h]
 ·rw [Array.getElem?_eq_none (by rw [Array.size_extract, aE]; omega), Array.getElem?_eq_none (by rw [jT]; omega)]
theorem OU (w : World) (x : Nat → BitVec 64) : (Op.equalIn 10000 23 (.agg (gV x)) (.agg (gV x))).run prog w = .ok true w := by
 obtain ⟨r, hr, h⟩ := FU w 9998 { cz with x := x } { cz with x := x }
 rw [MS] at hr
 rw [hr, h.2 (fun _ _ => rfl)]
theorem GQ (x y : Operand) (u v : Array Value) (w : World) : (eqGuard .neq 23 x y (.agg u) (.agg v)).run prog w = .ok () w := by kernel_rfl
theorem lO (x : Nat → BitVec 64) : (prog.info? 23).map (·.size) = some (gV x).size := by rw [jT]; kernel_rfl
theorem qR {w : World} {g : Nat} {k : Cp} {t : TypeId} (h : Row w g (cpc k) t) : ∀ j v, (gV k.x)[j]? = some v → w.cell? ⟨g, 1 + j, none⟩ = some v := fun j v hv => by
 have hj : j < 32 := by have := (Array.getElem?_eq_some_iff.1 hv).1; rwa [jT] at this
 rw [h.cell, bG k _ (by omega), fV _ _ hj, ← uM _ _ hj]; exact hv
theorem EG (x : Nat → BitVec 64) : (gV x).all (·.oneCell') = true := by
 rw [Array.all_eq_true]; intro i hi; simp [gV]; rfl
theorem VT (k : Cp) (x : Nat → BitVec 64) : gQ (cpc k) 1 (gV x).toList = cpc { k with x := x } := by
 apply Array.ext_getElem?
 intro j
 have hl : (gV x).toList.length = 32 := by rw [Array.length_toList, jT]
 rw [lP _ _ _ _ (by rw [hl, aE]; omega), hl]
 by_cases hj : j < 82
 ·by_cases h : 1 ≤ j ∧ j < 1 + 32
  ·rw [if_pos h, Array.getElem?_toList, uM _ _ (by omega), bG _ _ hj]
   obtain ⟨m, rfl⟩ : ∃ m, j = 1 + m := ⟨j - 1, by omega⟩
   rw [fV _ _ (by omega), Nat.add_sub_cancel_left]
  ·rw [if_neg h, bG _ _ hj, bG _ _ hj]
   unfold cF
   repeat' split
   all_goals first | rfl | (exfalso; omega)
 ·rw [if_neg (by omega), Array.getElem?_eq_none (by rw [aE]; omega), Array.getElem?_eq_none (by rw [aE]; omega)]
theorem yJ {w : World} {g : Nat} {k : Cp} {t : TypeId} (h : Row w g (cpc k) t) : ∀ j v, (#[.bool k.rv, .int .u64 (n64 k.ra), .int .i64 k.rs] : Array Value)[j]? = some v → w.cell? ⟨g, 79 + j, none⟩ = some v := fun j v hv => by
 rw [h.cell, ← hv, ← tK k]
 have hj : j < 3 := by have := (Array.getElem?_eq_some_iff.1 hv).1; simpa using this
 rw [Array.getElem?_extract, if_pos (by rw [aE]; omega)]
theorem oW {V : ZqZ} {S : St} {b : Nat} {c : Cp} {i : Ins} {N : Nat} (hf : fmF i.op = some N) (ft : ftB i = true) : dR V S b c i = rnK (aU V S (szK (wk0 b (PR c) i) N) (grI N)) := by
 have e1 : dR V S b c i = rnM V S (wk0 b (PR c) i) := rfl
 rw [e1]
 unfold rnM
 rw [show (wk0 b (PR c) i).i.op = i.op from rfl, hf]
 show (if ftB i = true then rnK (aU V S (szK (wk0 b (PR c) i) N) (grI N)) else _) = _
 rw [if_pos ft]
theorem AE {p : BitVec 64} (h : p &&& ~~~1#64 = p) : (p + iB 4) &&& ~~~1#64 = p + 4#64 := by
 have key : ∀ q : BitVec 64, q.toNat % 2 = 0 → q &&& ~~~1#64 = q := fun q hq => by
  apply BitVec.eq_of_getLsbD_eq
  intro i hi
  rw [BitVec.getLsbD_and, BitVec.getLsbD_not]
  by_cases e : i = 0
  ·subst e
   have : q.getLsbD 0 = false := by
    rw [BitVec.getLsbD, Nat.testBit_zero]; simp [hq]
   rw [this]; rfl
  ·have : (1#64).getLsbD i = false := by
    simp [BitVec.getLsbD_one, e]
   rw [this]; simp [hi]
 have h0 : p.getLsbD 0 = false := by rw [← h]; simp
 have hp : p.toNat % 2 = 0 := by
  rw [BitVec.getLsbD, Nat.testBit_zero] at h0
  simpa using h0
 rw [show iB 4 = 4#64 by decide]
 have := p.isLt
 apply key
 rw [BitVec.toNat_add]; simp only [ZqR]; omega
theorem zK (c : Cp) : (PR c).pc &&& ~~~1#64 = (PR c).pc := by
 show c.pc &&& ~~~1#64 &&& ~~~1#64 = c.pc &&& ~~~1#64
 rw [BitVec.and_assoc, BitVec.and_self]
theorem yO (raw : BitVec 32) : IntKind.u64.wrap (n32 raw) = n64 (rB raw) := by
 rw [dM]; unfold n64 rB n32; congr 1; rw [BitVec.toNat_setWidth, BitVec.ofInt_natCast, ZqR]
end Go.Proofs.YtddlmenfcbjoaaaGreatDoor
