/-
  Pop.
-/
import Derived.Test.YtnlkamfoopikhaaPbe
import Derived.SizedLaws
import Derived.OpenShut
namespace Go.Proofs.Ytnlkamfoopikhaa
set_option linter.unusedVariables false
open Go.ChangeShapes Go.WideShapes Go.ChangeAt Go.RowKit Go.Deep
section
variable {H : Type} {enc : TypeId × Value → H} {w : World} {base : Nat} {held : Bool}
theorem open_ints16 {k : IntKind} {t e : TypeId} {fuel : Nat} {cs : List Value} {y : DataW H × List MemPlace} (ht : Try.prog.underlying t = some (.array 16 e)) (he : Try.prog.underlying e = some (.int k)) (hce : Try.prog.cellsOf e = 1)
    (h : DataW.trod enc Try.prog w base (fun _ => true) held fuel t cs = some y) (hl : cs.length = 16) : ∀ j, j < 16 → ∃ n, cs[j]? = some (.int k n) ∧ (Lit.int k n).wf = true := by
  obtain ⟨xs, m, _, _, _, hxl, hx⟩ := DataW.trod_array ht h
  intro j hj
  have h1 := hx j hj
  obtain ⟨q, hq⟩ : ∃ q, xs[j]? = some q := ⟨_, List.getElem?_eq_getElem (by omega)⟩
  rw [hq, hce, Nat.mul_one] at h1
  obtain ⟨n, e0, _, hw⟩ := DataW.trod_int he h1
  refine ⟨n, ?_, hw⟩
  have h2 : ((cs.drop j).take 1)[0]? = some (.int k n) := by rw [e0]; rfl
  simpa using h2
theorem cells_pmp : Try.prog.cellsOf 27 = 32 := by kernel_rfl
theorem cells_c16 : Try.prog.cellsOf 24 = 16 := by kernel_rfl
theorem cells_a16 : Try.prog.cellsOf 25 = 16 := by kernel_rfl
theorem open_pmp {fuel : Nat} {cs : List Value} {y : DataW H × List MemPlace} (h : DataW.trod enc Try.prog w base (fun _ => true) held fuel 27 cs = some y) : ∃ (c : Nat → BitVec 8) (a : Nat → BitVec 64), cs = (pc c a).toList := by
  obtain ⟨xs, n, _, rfl, hl, hlen, hf⟩ := DataW.trod_struct Try.underlying27 h
  rw [cells_pmp] at hl
  match xs, (show xs.length = 2 from hlen), hf with
  | [y0, y1], _, hf =>
    have g0 : DataW.trod enc Try.prog w base (fun _ => true) held n 24 (cs.take 16) = some y0 := by
      have := hf 0 _ rfl
      simpa [cells_c16] using this
    have g1 : DataW.trod enc Try.prog w base (fun _ => true) held n 25 ((cs.drop 16).take 16) = some y1 := by
      have := hf 1 _ rfl
      simpa [cells_a16] using this
    have o0 := open_ints16 Try.underlying24 Try.underlying5 (by kernel_rfl) g0 (by simp; omega)
    have o1 := open_ints16 Try.underlying25 Try.underlying22 (by kernel_rfl) g1 (by simp; omega)
    have p0 : ∀ j, ∃ x : BitVec 8, j < 16 → cs[j]? = some (.int .u8 (n8 x)) := fun j => by
      by_cases hj : j < 16
      · obtain ⟨z, hz, hw⟩ := o0 j hj
        obtain ⟨x, rfl⟩ := n8_of hw
        exact ⟨x, fun _ => by rw [List.getElem?_take_of_lt hj] at hz; exact hz⟩
      · exact ⟨0#8, fun h => absurd h hj⟩
    have p1 : ∀ j, ∃ x : BitVec 64, j < 16 → cs[16 + j]? = some (.int .u64 (n64 x)) := fun j => by
      by_cases hj : j < 16
      · obtain ⟨z, hz, hw⟩ := o1 j hj
        obtain ⟨x, rfl⟩ := n64_of hw
        exact ⟨x, fun _ => by rw [List.getElem?_take_of_lt hj, List.getElem?_drop] at hz; exact hz⟩
      · exact ⟨0#64, fun h => absurd h hj⟩
    refine ⟨fun j => (p0 j).choose, fun j => (p1 j).choose, ?_⟩
    apply List.ext_getElem?
    intro j
    rw [Array.getElem?_toList (xs := pc _ _)]
    by_cases hj : j < 32
    · rw [pc_at _ _ _ hj, pcell]
      split
      · rename_i h16
        exact (p0 j).choose_spec h16
      · rename_i h16
        exact (congrArg (fun q => cs[q]?) (show j = 16 + (j - 16) by omega)).trans ((p1 (j - 16)).choose_spec (by omega))
    · rw [List.getElem?_eq_none (by omega), Array.getElem?_eq_none (by rw [pc_size]; omega)]
/-- The cells of an Ask. -/
def askc (c : Nat → BitVec 8) (a : Nat → BitVec 64) (i : Int) (v : BitVec 64) (m : Int) (ad : BitVec 64) (s b : Int) : Array Value := pc c a ++ #[.int .i64 i, .int .u64 (n64 v), .int .i64 m, .int .u64 (n64 ad), .int .i64 s, .int .i64 b]
theorem askc_size (c : Nat → BitVec 8) (a : Nat → BitVec 64) (i : Int) (v : BitVec 64) (m : Int) (ad : BitVec 64) (s b : Int) : (askc c a i v m ad s b).size = 38 := by simp [askc, pc_size]
def I64 (n : Int) : Prop := -9223372036854775808 ≤ n ∧ n ≤ 9223372036854775807
theorem open_ask {T : TypeId} {fuel : Nat} {cs : List Value} {y : DataW H × List MemPlace} {f0 f1 f2 f3 f4 f5 f6 : Field} (hT : Try.prog.underlying T = some (.struct #[f0, f1, f2, f3, f4, f5, f6])) (hC : Try.prog.cellsOf T = 38)
    (e0 : f0.type = 27 ∧ f0.offset = 0) (e1 : f1.type = 3 ∧ f1.offset = 32) (e2 : f2.type = 22 ∧ f2.offset = 33) (e3 : f3.type = 3 ∧ f3.offset = 34) (e4 : f4.type = 22 ∧ f4.offset = 35) (e5 : f5.type = 3 ∧ f5.offset = 36) (e6 : f6.type = 3 ∧ f6.offset = 37)
    (h : DataW.trod enc Try.prog w base (fun _ => true) held fuel T cs = some y) :
    ∃ (c : Nat → BitVec 8) (a : Nat → BitVec 64) (i : Int) (v : BitVec 64) (m : Int) (ad : BitVec 64) (s b : Int), cs = (askc c a i v m ad s b).toList ∧ I64 i ∧ I64 m ∧ I64 s ∧ I64 b := by
  obtain ⟨xs, n, _, rfl, hl, hlen, hf⟩ := DataW.trod_struct hT h
  rw [hC] at hl
  have cI : Try.prog.cellsOf 3 = 1 := by kernel_rfl
  have cU : Try.prog.cellsOf 22 = 1 := by kernel_rfl
  match xs, (show xs.length = 7 from hlen), hf with
  | [y0, y1, y2, y3, y4, y5, y6], _, hf =>
    have g0 := hf 0 f0 rfl
    have g1 := hf 1 f1 rfl
    have g2 := hf 2 f2 rfl
    have g3 := hf 3 f3 rfl
    have g4 := hf 4 f4 rfl
    have g5 := hf 5 f5 rfl
    have g6 := hf 6 f6 rfl
    rw [e0.1, e0.2, cells_pmp] at g0
    rw [e1.1, e1.2, cI] at g1
    rw [e2.1, e2.2, cU] at g2
    rw [e3.1, e3.2, cI] at g3
    rw [e4.1, e4.2, cU] at g4
    rw [e5.1, e5.2, cI] at g5
    rw [e6.1, e6.2, cI] at g6
    obtain ⟨c, a, k0⟩ := open_pmp g0
    obtain ⟨i1, k1, _, w1⟩ := DataW.trod_int Try.underlying3 g1
    obtain ⟨i2, k2, _, w2⟩ := DataW.trod_int Try.underlying22 g2
    obtain ⟨i3, k3, _, w3⟩ := DataW.trod_int Try.underlying3 g3
    obtain ⟨i4, k4, _, w4⟩ := DataW.trod_int Try.underlying22 g4
    obtain ⟨i5, k5, _, w5⟩ := DataW.trod_int Try.underlying3 g5
    obtain ⟨i6, k6, _, w6⟩ := DataW.trod_int Try.underlying3 g6
    obtain ⟨v, rfl⟩ := n64_of w2
    obtain ⟨ad, rfl⟩ := n64_of w4
    refine ⟨c, a, i1, v, i3, ad, i5, i6, ?_, bounds_i64 w1, bounds_i64 w3, bounds_i64 w5, bounds_i64 w6⟩
    have t : ∀ k, k < 38 → cs.drop k = (cs.drop k).take 1 ++ cs.drop (k + 1) := fun k hk => by
      rw [← List.drop_drop, List.take_append_drop]
    have q : cs = (cs.drop 0).take 32 ++ cs.drop 32 := by simp
    rw [q, k0, t 32 (by omega), k1, t 33 (by omega), k2, t 34 (by omega), k3, t 35 (by omega), k4, t 36 (by omega), k5, t 37 (by omega), k6, List.drop_eq_nil_of_le (by omega)]
    simp [askc]
end
end Go.Proofs.Ytnlkamfoopikhaa
