/-
  Same, From, New, State of the reference; From that refuses, New of the program.
-/
import Derived.Test.YtghiabdkgfhdbaaBcp
import Derived.Test.YtghiabdkgfhdbaaBra
namespace Go.Proofs.Ytghiabdkgfhdbaa
set_option linter.unusedVariables false
open Go.ChangeShapes Go.WideShapes Go.ChangeAt Go.RowKit Go.Deep
/-- The cells of a state whose lists lie in this world. -/
structure Bs (S : St) (vr vi vo : Value) (w : World) : Prop where
  r : Byt w vr S.ram
  i : Byt w vi S.inp
  o : Byt w vo S.out
theorem Bs.later {S : St} {vr vi vo : Value} {w w' : World} (h : Bs S vr vi vo w) (hb : Below w.heap.size w w') : Bs S vr vi vo w' := ⟨h.r.later hb rfl, h.i.later hb rfl, h.o.later hb rfl⟩
theorem Sv.bs {B : Nat} {S : St} {vr vi vo : Value} {w : World} (h : Sv B S vr vi vo w) : Bs S vr vi vo w := ⟨Byt.of_own h.r, Byt.of_own h.i, Byt.of_own h.o⟩
theorem Sv.later {B : Nat} {S : St} {vr vi vo : Value} {w w' : World} (h : Sv B S vr vi vo w) (hb : Below w.heap.size w w') : Sv B S vr vi vo w' := ⟨own_later h.r hb rfl, own_later h.i hb rfl, own_later h.o hb rfl, h.ri, h.ro, h.io⟩
set_option maxHeartbeats 2000000 in
theorem same_c (S : St) (vr vi vo ur ui uo : Value) (w : World) (ha : Bs S vr vi vo w) (hb : Bs S ur ui uo w) :
    Calls Try.prog 14 #[.agg (stc S vr vi vo), .agg (stc S ur ui uo)] w fun e w' => e = .returned (.bool true) ∧ Below w.heap.size w w' := by
  have HB : Hid (∀ o o', Below w.heap.size w ((w.alloc o).alloc o')) := fun o o' => ((Below.refl _ _).alloc (Nat.le_refl _) o).alloc (by simp) o'
  have k1 := fun o o' => (ha.r.later (HB.out o o') rfl).conv
  have k2 := fun o o' => (ha.i.later (HB.out o o') rfl).conv
  have k3 := fun o o' => (ha.o.later (HB.out o o') rfl).conv
  have k4 := fun o o' => (hb.r.later (HB.out o o') rfl).conv
  have k5 := fun o o' => (hb.i.later (HB.out o o') rfl).conv
  have k6 := fun o o' => (hb.o.later (HB.out o o') rfl).conv
  obtain ⟨x1, y1, e1, _⟩ := ha.r
  obtain ⟨x2, y2, e2, _⟩ := ha.i
  obtain ⟨x3, y3, e3, _⟩ := ha.o
  obtain ⟨x4, y4, e4, _⟩ := hb.r
  obtain ⟨x5, y5, e5, _⟩ := hb.i
  obtain ⟨x6, y6, e6, _⟩ := hb.o
  clear ha hb
  generalize strOfNums S.ram = sr at k1 k4
  generalize strOfNums S.inp = si at k2 k5
  generalize strOfNums S.out = so at k3 k6
  subst e1 e2 e3 e4 e5 e6
  unfold stc
  go_enter Try.func14, Try.ntmps14
  go_wp2
  go_ret
  exact ⟨rfl, HB.out _ _⟩
end Go.Proofs.Ytghiabdkgfhdbaa
