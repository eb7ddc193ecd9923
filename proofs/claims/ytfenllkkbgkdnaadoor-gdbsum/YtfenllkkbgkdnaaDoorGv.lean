/-
  Layer 17 (gdb): a Flip that came in; GdbSum.
-/
import Derived.Test.YtfenllkkbgkdnaaDoorGt
namespace Go.Proofs.YtfenllkkbgkdnaaDoor
set_option linter.unusedVariables false
set_option maxRecDepth 100000
open Go.ChangeShapes Go.WideShapes Go.ChangeAt Go.RowKit Go.Deep
section
variable {H : Type} {enc : TypeId × Value → H} {w : World} {base : Nat} {held : Bool}
theorem open_flip {fuel : Nat} {cs : List Value} {y : DataW H × List MemPlace} (h : DataW.trod enc Tryd.prog w base (fun _ => true) held fuel 28 cs = some y) (hz : ∀ q ∈ y.1.weights Tryd.prog 28, q ≤ reachBytes) :
    ∃ (l : List Int) (a : Option Addr) (c : Nat) (K C : Int), cs = [.slice a l.length c, .int .i64 K, .int .u8 C] ∧ Byt w (.slice a l.length c) l ∧ AllB l ∧ l.length ≤ 140737488351232 ∧ (0 ≤ C ∧ C ≤ 255) := by
  obtain ⟨xs, n, _, rfl, hl, hlen, hf⟩ := DataW.trod_struct Tryd.underlying28 h
  rw [show Tryd.prog.cellsOf 28 = 3 by kernel_rfl] at hl
  match cs, hl, xs, (show xs.length = 3 from hlen), hf, hz with
  | [v0, v1, v2], _, [y0, y1, y2], _, hf, hz =>
    have g0 : DataW.trod enc Tryd.prog w base (fun _ => true) held n 22 [v0] = some y0 := by
      have := hf 0 _ rfl
      simpa [show Tryd.prog.cellsOf 22 = 1 by kernel_rfl] using this
    have g1 : DataW.trod enc Tryd.prog w base (fun _ => true) held n 3 [v1] = some y1 := by
      have := hf 1 _ rfl
      simpa [show Tryd.prog.cellsOf 3 = 1 by kernel_rfl] using this
    have g2 : DataW.trod enc Tryd.prog w base (fun _ => true) held n 5 [v2] = some y2 := by
      have := hf 2 _ rfl
      simpa [cellsU8] using this
    have z0 : ∀ q ∈ y0.1.weights Tryd.prog 22, q ≤ reachBytes := fun q hq => hz q (by
      simp only [DataW.weights, Tryd.underlying28]
      exact DataW.weights_mem_each (j := 0) (t := 22) (d := y0.1) rfl rfl q hq)
    obtain ⟨l, a, c, e0, b0, m0, n0⟩ := open_bytes g0 z0
    subst e0
    obtain ⟨K, e1, _, _⟩ := DataW.trod_int Tryd.underlying3 g1
    obtain ⟨C, e2, _, w2⟩ := DataW.trod_int Tryd.underlying5 g2
    simp only [List.cons.injEq, and_true] at e1 e2
    subst e1 e2
    have hb8 := bounds_u8 w2
    exact ⟨l, a, c, K, C, rfl, b0, m0, n0, by omega, by omega⟩
end
theorem gdbSum_c (l : List Int) (a : Option Addr) (c : Nat) (K C : Int) (w : World) (hv : Byt w (.slice a l.length c) l) (hall : AllB l) (hl : l.length ≤ 140737488351232) (hC : 0 ≤ C ∧ C ≤ 255) (hE : Es w) :
    Calls Tryd.prog 4 #[.agg #[.slice a l.length c, .int .i64 K, .int .u8 C]] w fun e w' => e = .returned (.bool true) ∧ Below w.heap.size w w' := by
  by_cases h : 1000 < l.length
  · exact gdbSum_long l a c K C w hv hall hl h
  · exact gdbSum_short l a c K C w hv hall (by omega) hC hE
end Go.Proofs.YtfenllkkbgkdnaaDoor
