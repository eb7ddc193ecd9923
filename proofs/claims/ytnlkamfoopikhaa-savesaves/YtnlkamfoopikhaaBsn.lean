/-
  Bsn.
-/
import Derived.Test.YtnlkamfoopikhaaBsm
namespace Go.Proofs.Ytnlkamfoopikhaa
set_option linter.unusedVariables false
open Go.ChangeShapes Go.WideShapes Go.ChangeAt Go.RowKit Go.Deep
theorem box_cell {w w1 : World} {C : Array Value} {T : TypeId} (hb : Below (w.alloc (.cells C T)).heap.size (w.alloc (.cells C T)) w1) (j : Nat) : w1.cell? ⟨w.heap.size, j, none⟩ = C[j]? := by
  rw [hb.cell (by simp)]; exact cell_of_row _ _ _ _ _ _ (alloc_at w _)
theorem box_below {w w1 : World} {o : Obj} (hb : Below (w.alloc o).heap.size (w.alloc o) w1) : Below w.heap.size w w1 := ((Below.refl _ _).alloc (Nat.le_refl _) _).trans (hb.mono (by simp))
theorem from_bad (S : St) (ar ai ao : Option Addr) (cr ci co : Nat) (w : World) (hok : S.ok = false) :
    Calls Try.prog 18 #[.agg (stc S (.slice ar S.ram.length cr) (.slice ai S.inp.length ci) (.slice ao S.out.length co))] w fun e w' => e = .returned (.tuple #[.pointer none, .int .i64 31]) ∧ Below w.heap.size w w' := by
  have hC := canBe_c S ar ai ao cr ci co
  rw [hok] at hC
  unfold stc at hC ⊢
  go_enter Try.func18, Try.ntmps18
  go_wp2_with (go_at_call 40; refine (hC _).mono ?_; rintro e w1 ⟨rfl, hb1⟩)
  go_ret2
  exact ⟨rfl, box_below hb1⟩
end Go.Proofs.Ytnlkamfoopikhaa
