/-
  An Ask, a Tally, a Run that came in, opened.
-/
import Derived.Test.YtnnkeodiacdmaabCop
namespace Go.Proofs.Ytnnkeodiacdmaab
set_option linter.unusedVariables false
open Go.ChangeShapes Go.WideShapes Go.ChangeAt Go.RowKit Go.Deep
/-- The cells of an Ask. -/
def akk (k : Cp) (n : Int) (v m t : BitVec 64) : Array Value := cpc k ++ #[.int .i64 n, .int .u64 (n64 v), .int .u64 (n64 m), .int .u64 (n64 t)]
theorem akk_size (k : Cp) (n : Int) (v m t : BitVec 64) : (akk k n v m t).size = 86 := by simp [akk, cpc_size]
/-- The cells of a Tally. -/
def tly (k u : Cp) (r c m : Bool) : Array Value := cpc k ++ cpc u ++ #[.bool r, .bool c, .bool m]
theorem tly_size (k u : Cp) (r c m : Bool) : (tly k u r c m).size = 167 := by simp [tly, cpc_size]
theorem Row.akk {w : World} {g : Nat} {k : Cp} {n : Int} {v m t : BitVec 64} {T : TypeId} (h : Row w g (akk k n v m t) T) :
    At w g 0 k ∧ w.cell? ⟨g, 82, none⟩ = some (.int .i64 n) ∧ w.cell? ⟨g, 83, none⟩ = some (.int .u64 (n64 v)) ∧ w.cell? ⟨g, 84, none⟩ = some (.int .u64 (n64 m)) ∧ w.cell? ⟨g, 85, none⟩ = some (.int .u64 (n64 t)) := by
  have q : ∀ j, 82 ≤ j → w.cell? ⟨g, j, none⟩ = #[Value.int .i64 n, .int .u64 (n64 v), .int .u64 (n64 m), .int .u64 (n64 t)][j - 82]? := fun j hj => by
    rw [h.cell]; unfold Go.Proofs.Ytnnkeodiacdmaab.akk; rw [Array.getElem?_append_right (by rw [cpc_size]; exact hj), cpc_size]
  refine ⟨fun j hj => ?_, q 82 (by omega), q 83 (by omega), q 84 (by omega), q 85 (by omega)⟩
  rw [h.cell, Nat.zero_add]; unfold Go.Proofs.Ytnnkeodiacdmaab.akk; rw [Array.getElem?_append_left (by rw [cpc_size]; exact hj), cpc_at _ _ hj]
theorem Row.tly {w : World} {g : Nat} {k u : Cp} {r c m : Bool} {T : TypeId} (h : Row w g (tly k u r c m) T) :
    At w g 0 k ∧ At w g 82 u ∧ w.cell? ⟨g, 164, none⟩ = some (.bool r) ∧ w.cell? ⟨g, 165, none⟩ = some (.bool c) ∧ w.cell? ⟨g, 166, none⟩ = some (.bool m) := by
  have hs : (cpc k ++ cpc u).size = 164 := by simp [cpc_size]
  have q : ∀ j, 164 ≤ j → w.cell? ⟨g, j, none⟩ = #[Value.bool r, .bool c, .bool m][j - 164]? := fun j hj => by
    rw [h.cell]; unfold Go.Proofs.Ytnnkeodiacdmaab.tly; rw [Array.getElem?_append_right (by rw [hs]; exact hj), hs]
  refine ⟨fun j hj => ?_, fun j hj => ?_, q 164 (by omega), q 165 (by omega), q 166 (by omega)⟩
  · rw [h.cell, Nat.zero_add]; unfold Go.Proofs.Ytnnkeodiacdmaab.tly; rw [Array.getElem?_append_left (by rw [hs]; omega), Array.getElem?_append_left (by rw [cpc_size]; omega), cpc_at _ _ hj]
  · rw [h.cell]; unfold Go.Proofs.Ytnnkeodiacdmaab.tly; rw [Array.getElem?_append_left (by rw [hs]; omega), Array.getElem?_append_right (by rw [cpc_size]; omega), cpc_size, show 82 + j - 82 = j by omega, cpc_at _ _ hj]
section
variable {H : Type} {enc : TypeId × Value → H} {w : World} {base : Nat} {held : Bool}
theorem cells_int : Try.prog.cellsOf 3 = 1 := by kernel_rfl
theorem cells_u64 : Try.prog.cellsOf 22 = 1 := by kernel_rfl
theorem cells_bool : Try.prog.cellsOf 4 = 1 := by kernel_rfl
theorem open_akk {fuel : Nat} {cs : List Value} {y : DataW H × List MemPlace} (h : DataW.trod enc Try.prog w base (fun _ => true) held fuel 33 cs = some y) : ∃ (k : Cp) (n : Int) (v m t : BitVec 64), cs = (akk k n v m t).toList ∧ I64 n := by
  obtain ⟨xs, n, _, rfl, hl, hlen, hf⟩ := DataW.trod_struct Try.underlying33 h
  rw [show Try.prog.cellsOf 33 = 86 by kernel_rfl] at hl
  match xs, (show xs.length = 5 from hlen), hf with
  | [y0, y1, y2, y3, y4], _, hf =>
    have g0 : DataW.trod enc Try.prog w base (fun _ => true) held n 31 ((cs.drop 0).take 82) = some y0 := by
      have := hf 0 _ rfl
      have this : DataW.trod enc Try.prog w base (fun _ => true) held n 31 ((cs.drop 0).take (Try.prog.cellsOf 31)) = some y0 := this
      rwa [cells_cpu] at this
    have g1 : DataW.trod enc Try.prog w base (fun _ => true) held n 3 ((cs.drop 82).take 1) = some y1 := by
      have := hf 1 _ rfl
      have this : DataW.trod enc Try.prog w base (fun _ => true) held n 3 ((cs.drop 82).take (Try.prog.cellsOf 3)) = some y1 := this
      rwa [cells_int] at this
    have g2 : DataW.trod enc Try.prog w base (fun _ => true) held n 22 ((cs.drop 83).take 1) = some y2 := by
      have := hf 2 _ rfl
      have this : DataW.trod enc Try.prog w base (fun _ => true) held n 22 ((cs.drop 83).take (Try.prog.cellsOf 22)) = some y2 := this
      rwa [cells_u64] at this
    have g3 : DataW.trod enc Try.prog w base (fun _ => true) held n 22 ((cs.drop 84).take 1) = some y3 := by
      have := hf 3 _ rfl
      have this : DataW.trod enc Try.prog w base (fun _ => true) held n 22 ((cs.drop 84).take (Try.prog.cellsOf 22)) = some y3 := this
      rwa [cells_u64] at this
    have g4 : DataW.trod enc Try.prog w base (fun _ => true) held n 22 ((cs.drop 85).take 1) = some y4 := by
      have := hf 4 _ rfl
      have this : DataW.trod enc Try.prog w base (fun _ => true) held n 22 ((cs.drop 85).take (Try.prog.cellsOf 22)) = some y4 := this
      rwa [cells_u64] at this
    obtain ⟨k, k0⟩ := open_cpu g0
    obtain ⟨i1, k1, _, w1⟩ := DataW.trod_int Try.underlying3 g1
    obtain ⟨i2, k2, _, w2⟩ := DataW.trod_int Try.underlying22 g2
    obtain ⟨i3, k3, _, w3⟩ := DataW.trod_int Try.underlying22 g3
    obtain ⟨i4, k4, _, w4⟩ := DataW.trod_int Try.underlying22 g4
    obtain ⟨v, rfl⟩ := n64_of w2
    obtain ⟨m, rfl⟩ := n64_of w3
    obtain ⟨t, rfl⟩ := n64_of w4
    refine ⟨k, i1, v, m, t, ?_, bounds_i64 w1⟩
    have q : ∀ j, j < 86 → cs.drop j = (cs.drop j).take 1 ++ cs.drop (j + 1) := fun j hj => by
      rw [← List.drop_drop, List.take_append_drop]
    have q0 : cs = (cs.drop 0).take 82 ++ cs.drop 82 := by simp
    rw [q0, k0, q 82 (by omega), k1, q 83 (by omega), k2, q 84 (by omega), k3, q 85 (by omega), k4, List.drop_eq_nil_of_le (by omega)]
    simp [akk]
theorem open_akk1 {b0 : Nat} {v : Value} {d : DataW H} {p : List MemPlace} (hv : Value.okWide Try.prog w .any b0 33 v) (h : DataW.Trod enc Try.prog w base (fun _ => true) held 33 v d p) : ∃ (k : Cp) (n : Int) (x m t : BitVec 64), v = .agg (akk k n x m t) ∧ I64 n := by
  obtain ⟨cs, rfl, _⟩ := okWide_struct Try.underlying33 hv
  obtain ⟨fuel, hf⟩ := h
  obtain ⟨k, n, x, m, t, e, hn⟩ := open_akk hf
  refine ⟨k, n, x, m, t, ?_, hn⟩
  cases cs
  simpa [Value.cells] using congrArg List.toArray e
end
end Go.Proofs.Ytnnkeodiacdmaab
