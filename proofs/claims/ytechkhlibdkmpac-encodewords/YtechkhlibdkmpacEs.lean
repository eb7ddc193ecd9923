/-
  An api.Instr argument opened.
-/
import Derived.Test.YtechkhlibdkmpacEr
namespace Go.Proofs.Ytechkhlibdkmpac
set_option linter.unusedVariables false
open Go.ChangeShapes Go.WideShapes Go.ChangeAt Go.RowKit Go.Deep
theorem list9 {α : Type} {l : List α} (h : l.length = 9) : ∃ a b c d e f g i j, l = [a, b, c, d, e, f, g, i, j] := by
  match l, h with
  | [a, b, c, d, e, f, g, i, j], _ => exact ⟨a, b, c, d, e, f, g, i, j, rfl⟩
theorem i64_bounds {n : Int} (h : (Lit.int .i64 n).wf = true) : I64 n := by
  unfold I64
  have h1 : (decide (IntKind.i64.min ≤ n) && decide (n ≤ IntKind.i64.max)) = true := h
  have e1 : IntKind.i64.min = -9223372036854775808 := by kernel_rfl
  have e2 : IntKind.i64.max = 9223372036854775807 := by kernel_rfl
  rw [e1, e2] at h1
  simpa using h1
theorem cellsIns : Try.prog.cellsOf 24 = 9 := by kernel_rfl
theorem cells_int : Try.prog.cellsOf 3 = 1 := by kernel_rfl
theorem cells_int64 : Try.prog.cellsOf 2 = 1 := by kernel_rfl
theorem cells_bool : Try.prog.cellsOf 4 = 1 := by kernel_rfl
theorem cells_uint32 : Try.prog.cellsOf 22 = 1 := by kernel_rfl
theorem open_ins {H : Type} {enc : TypeId × Value → H} {w : World} {base fuel : Nat} {sp : Nat → Bool} {held : Bool} {cs : List Value} {y : DataW H × List MemPlace}
    (h : DataW.trod enc Try.prog w base sp held fuel 24 cs = some y) : ∃ x : Ins, cs = (insv x).toList ∧ InsOk x := by
  obtain ⟨xs, n, _, _, hl, hlen, hf⟩ := DataW.trod_struct Try.underlying24 h
  rw [cellsIns] at hl
  obtain ⟨v0, v1, v2, v3, v4, v5, v6, v7, v8, rfl⟩ := list9 hl
  obtain ⟨y0, y1, y2, y3, y4, y5, y6, y7, y8, rfl⟩ := list9 (show xs.length = 9 from hlen)
  have g0 : DataW.trod enc Try.prog w base sp held n 3 [v0] = some y0 := by
    have := hf 0 _ rfl
    simpa [cells_int] using this
  have g1 : DataW.trod enc Try.prog w base sp held n 3 [v1] = some y1 := by
    have := hf 1 _ rfl
    simpa [cells_int] using this
  have g2 : DataW.trod enc Try.prog w base sp held n 3 [v2] = some y2 := by
    have := hf 2 _ rfl
    simpa [cells_int] using this
  have g3 : DataW.trod enc Try.prog w base sp held n 3 [v3] = some y3 := by
    have := hf 3 _ rfl
    simpa [cells_int] using this
  have g4 : DataW.trod enc Try.prog w base sp held n 2 [v4] = some y4 := by
    have := hf 4 _ rfl
    simpa [cells_int64] using this
  have g5 : DataW.trod enc Try.prog w base sp held n 4 [v5] = some y5 := by
    have := hf 5 _ rfl
    simpa [cells_bool] using this
  have g6 : DataW.trod enc Try.prog w base sp held n 4 [v6] = some y6 := by
    have := hf 6 _ rfl
    simpa [cells_bool] using this
  have g7 : DataW.trod enc Try.prog w base sp held n 3 [v7] = some y7 := by
    have := hf 7 _ rfl
    simpa [cells_int] using this
  have g8 : DataW.trod enc Try.prog w base sp held n 22 [v8] = some y8 := by
    have := hf 8 _ rfl
    simpa [cells_uint32] using this
  obtain ⟨i0, e0, h0, w0⟩ := DataW.trod_int Try.underlying3 g0
  simp only [List.cons.injEq, and_true] at e0
  subst e0
  obtain ⟨i1, e1, h1, w1⟩ := DataW.trod_int Try.underlying3 g1
  simp only [List.cons.injEq, and_true] at e1
  subst e1
  obtain ⟨i2, e2, h2, w2⟩ := DataW.trod_int Try.underlying3 g2
  simp only [List.cons.injEq, and_true] at e2
  subst e2
  obtain ⟨i3, e3, h3, w3⟩ := DataW.trod_int Try.underlying3 g3
  simp only [List.cons.injEq, and_true] at e3
  subst e3
  obtain ⟨i4, e4, h4, w4⟩ := DataW.trod_int Try.underlying2 g4
  simp only [List.cons.injEq, and_true] at e4
  subst e4
  obtain ⟨i5, e5, h5⟩ := DataW.trod_bool Try.underlying4 g5
  simp only [List.cons.injEq, and_true] at e5
  subst e5
  obtain ⟨i6, e6, h6⟩ := DataW.trod_bool Try.underlying4 g6
  simp only [List.cons.injEq, and_true] at e6
  subst e6
  obtain ⟨i7, e7, h7, w7⟩ := DataW.trod_int Try.underlying3 g7
  simp only [List.cons.injEq, and_true] at e7
  subst e7
  obtain ⟨i8, e8, h8, w8⟩ := DataW.trod_int Try.underlying22 g8
  simp only [List.cons.injEq, and_true] at e8
  subst e8
  exact ⟨⟨i0, i1, i2, i3, i4, i5, i6, i7, i8⟩, rfl, ⟨i64_bounds w0, i64_bounds w1, i64_bounds w2, i64_bounds w3, i64_bounds w4⟩⟩
end Go.Proofs.Ytechkhlibdkmpac
