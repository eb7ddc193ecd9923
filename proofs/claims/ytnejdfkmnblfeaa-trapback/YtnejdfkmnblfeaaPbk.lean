/-
  Locks: cfgLocked, addrLocked, Locked; SetAddr, SetCfg, Cfg of the program and of the reference.
-/
import Derived.Test.YtnejdfkmnblfeaaPop
namespace Go.Proofs.Ytnejdfkmnblfeaa
set_option linter.unusedVariables false
open Go.ChangeShapes Go.WideShapes Go.ChangeAt Go.RowKit Go.Deep
/-- Whether the Cfg, the Addr takes no write. -/
def cL (c : Nat → BitVec 8) (i : Int) : Bool := if 0 ≤ i ∧ i < 16 then lk (c i.toNat) else true
def nx (c : Nat → BitVec 8) (k : Nat) : Bool := decide (k < 15) && lk (c (k + 1)) && decide (kd (c (k + 1)) = 1#8)
def aL (c : Nat → BitVec 8) (i : Int) : Bool := if 0 ≤ i ∧ i < 16 then (lk (c i.toNat) || nx c i.toNat) else true
theorem cL_in (c : Nat → BitVec 8) (k : Nat) (h : k < 16) : cL c k = lk (c k) := by unfold cL; rw [if_pos (by omega)]; simp
theorem cL_out (c : Nat → BitVec 8) (i : Int) (h : ¬ (0 ≤ i ∧ i < 16)) : cL c i = true := by unfold cL; rw [if_neg h]
theorem aL_in (c : Nat → BitVec 8) (k : Nat) (h : k < 16) : aL c k = (lk (c k) || nx c k) := by unfold aL; rw [if_pos (by omega)]; simp
theorem aL_out (c : Nat → BitVec 8) (i : Int) (h : ¬ (0 ≤ i ∧ i < 16)) : aL c i = true := by unfold aL; rw [if_neg h]
theorem row_cfg {w : World} {g : Nat} {c : Nat → BitVec 8} {a : Nat → BitVec 64} {t : TypeId} (h : Row w g (ec c a) t) (k : Nat) (hk : k < 16) : w.cell? ⟨g, k * 2, none⟩ = some (.int .u8 (n8 (c k))) := by
  rw [h.cell, ec_at _ _ _ (by omega), ecell, if_pos (by omega), Nat.mul_div_cancel _ (by omega)]
theorem row_addr {w : World} {g : Nat} {c : Nat → BitVec 8} {a : Nat → BitVec 64} {t : TypeId} (h : Row w g (ec c a) t) (k : Nat) (hk : k < 16) : w.cell? ⟨g, k * 2 + 1, none⟩ = some (.int .u64 (n64 (a k))) := by
  rw [h.cell, ec_at _ _ _ (by omega), ecell, if_neg (by omega), show (k * 2 + 1) / 2 = k by omega]
theorem prow_cfg {w : World} {g : Nat} {c : Nat → BitVec 8} {a : Nat → BitVec 64} {t : TypeId} (h : Row w g (pc c a) t) (k : Nat) (hk : k < 16) : w.cell? ⟨g, k, none⟩ = some (.int .u8 (n8 (c k))) := by
  rw [h.cell, pc_at _ _ _ (by omega), pcell, if_pos hk]
theorem prow_addr {w : World} {g : Nat} {c : Nat → BitVec 8} {a : Nat → BitVec 64} {t : TypeId} (h : Row w g (pc c a) t) (k : Nat) (hk : k < 16) : w.cell? ⟨g, 16 + k, none⟩ = some (.int .u64 (n64 (a k))) := by
  rw [h.cell, pc_at _ _ _ (by omega), pcell, if_neg (by omega), Nat.add_sub_cancel_left]
end Go.Proofs.Ytnejdfkmnblfeaa
