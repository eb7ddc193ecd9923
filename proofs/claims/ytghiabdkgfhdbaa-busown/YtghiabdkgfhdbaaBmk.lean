/-
  BusMakes: the walk.
-/
import Derived.Test.YtghiabdkgfhdbaaBgo
import Derived.Deep.RegionHeld3
namespace Go.Proofs.Ytghiabdkgfhdbaa
set_option linter.unusedVariables false
open Go.ChangeShapes Go.WideShapes Go.ChangeAt Go.RowKit Go.Deep
/-- Two states that are the same. -/
def SameC (S : St) : Prop := ∀ vr vi vo ur ui uo w1, Bs S vr vi vo w1 → Bs S ur ui uo w1 → Calls Try.prog 14 #[.agg (stc S vr vi vo), .agg (stc S ur ui uo)] w1 fun e w' => e = .returned (.bool true) ∧ Below w1.heap.size w1 w'
theorem same_any (S : St) : SameC S := fun vr vi vo ur ui uo w1 h1 h2 => same_c S vr vi vo ur ui uo w1 h1 h2
theorem PB.drew {B : Nat} {L : Lay} {S : St} {w : World} (h : PB B L S w) : PB B L S w.drew := ⟨h.hb, h.hm, h.hp, h.hs, h.hc, h.hk, h.hu, h.hq, h.wr, h.wi, h.wo, h.ri, h.ro, h.io, h.lb, h.lm, h.lp, h.ls, h.lc, h.lk, h.lu, h.lq⟩
theorem ramOkZ_eq {z : Int} (h : ramOkZ z = true) : ∃ n : Nat, z = n ∧ ramOk n = true := by
  have h0 : 0 ≤ z := by simp [ramOkZ] at h; omega
  exact ⟨z.toNat, by omega, by rw [← ramOkZ_nat, Int.toNat_of_nonneg h0]; exact h⟩
theorem below_al_trans {w w1 : World} {o : Obj} (hb : Below (w.alloc o).heap.size (w.alloc o) w1) : Below w.heap.size w w1 := box_below hb
end Go.Proofs.Ytghiabdkgfhdbaa
