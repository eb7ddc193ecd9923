/-
  A script that came in: its reading opened.
-/
import Derived.Test.YtnejdfkmnblfeabTla
namespace Go.Proofs.Ytnejdfkmnblfeab
set_option linter.unusedVariables false
open Go.ChangeShapes Go.WideShapes Go.ChangeAt Go.RowKit Go.Deep
/-- One of a script. -/
structure Ac where
  kd : Int
  ca : BitVec 64
  tv : BitVec 64
  nn : BitVec 64
def ac0 : Ac := ⟨0, 0#64, 0#64, 0#64⟩
def acv (x : Ac) : List Value := [.int .i64 x.kd, .int .u64 (n64 x.ca), .int .u64 (n64 x.tv), .int .u64 (n64 x.nn)]
section
variable {H : Type} {enc : TypeId × Value → H} {w : World} {base : Nat} {held : Bool}
theorem cellsAct : Try.prog.cellsOf 40 = 4 := by kernel_rfl
theorem bytesAct : Try.prog.bytesOf 40 = 32 := by kernel_rfl
theorem choose_list {α : Type} (d : α) {P : Nat → α → Prop} (n : Nat) : (∀ i, i < n → ∃ x, P i x) → ∃ L : List α, L.length = n ∧ ∀ i, i < n → P i (L.getD i d) := by
  induction n with
  | zero => intro _; exact ⟨[], rfl, fun i hi => by omega⟩
  | succ n ih =>
    intro h
    obtain ⟨L, hl, hp⟩ := ih (fun i hi => h i (by omega))
    obtain ⟨x, hx⟩ := h n (by omega)
    refine ⟨L ++ [x], by rw [List.length_append, hl]; rfl, fun i hi => ?_⟩
    by_cases e : i = n
    · subst e
      have : (L ++ [x]).getD i d = x := by unfold List.getD; rw [List.getElem?_append_right (by omega), hl, Nat.sub_self]; rfl
      rw [this]; exact hx
    · have : (L ++ [x]).getD i d = L.getD i d := by unfold List.getD; rw [List.getElem?_append_left (by omega)]
      rw [this]; exact hp i (by omega)
theorem open_ac {fuel : Nat} {cs : List Value} {y : DataW H × List MemPlace} (h : DataW.trod enc Try.prog w base (fun _ => true) held fuel 40 cs = some y) : ∃ x : Ac, cs = acv x ∧ I64 x.kd := by
  obtain ⟨xs, n, _, rfl, hl, hlen, hf⟩ := DataW.trod_struct Try.underlying40 h
  rw [cellsAct] at hl
  match cs, hl, xs, (show xs.length = 4 from hlen), hf with
  | [v0, v1, v2, v3], _, [y0, y1, y2, y3], _, hf =>
    have g0 : DataW.trod enc Try.prog w base (fun _ => true) held n 3 [v0] = some y0 := by
      have := hf 0 _ rfl
      simpa [show Try.prog.cellsOf 3 = 1 by kernel_rfl] using this
    have g1 : DataW.trod enc Try.prog w base (fun _ => true) held n 22 [v1] = some y1 := by
      have := hf 1 _ rfl
      simpa [show Try.prog.cellsOf 22 = 1 by kernel_rfl] using this
    have g2 : DataW.trod enc Try.prog w base (fun _ => true) held n 22 [v2] = some y2 := by
      have := hf 2 _ rfl
      simpa [show Try.prog.cellsOf 22 = 1 by kernel_rfl] using this
    have g3 : DataW.trod enc Try.prog w base (fun _ => true) held n 22 [v3] = some y3 := by
      have := hf 3 _ rfl
      simpa [show Try.prog.cellsOf 22 = 1 by kernel_rfl] using this
    obtain ⟨i0, e0, _, w0⟩ := DataW.trod_int Try.underlying3 g0
    simp only [List.cons.injEq, and_true] at e0
    subst e0
    obtain ⟨i1, e1, _, w1⟩ := DataW.trod_int Try.underlying22 g1
    simp only [List.cons.injEq, and_true] at e1
    subst e1
    obtain ⟨x1, rfl⟩ := n64_of w1
    obtain ⟨i2, e2, _, w2⟩ := DataW.trod_int Try.underlying22 g2
    simp only [List.cons.injEq, and_true] at e2
    subst e2
    obtain ⟨x2, rfl⟩ := n64_of w2
    obtain ⟨i3, e3, _, w3⟩ := DataW.trod_int Try.underlying22 g3
    simp only [List.cons.injEq, and_true] at e3
    subst e3
    obtain ⟨x3, rfl⟩ := n64_of w3
    exact ⟨⟨i0, x1, x2, x3⟩, rfl, bounds_i64 w0⟩
/-- A script in memory. -/
def Acs (w : World) (v : Value) (O : List Ac) : Prop :=
  ∃ a cap, v = .slice a O.length cap ∧ O.length ≤ cap ∧ (O ≠ [] → ∃ g off, a = some ⟨g, off, none⟩ ∧ g < w.heap.size ∧ ∀ j, j < O.length → ∀ c, c < 4 → w.cell? ⟨g, off + j * 4 + c, none⟩ = (acv (O.getD j ac0))[c]?)
theorem Acs.later {w w' : World} {v : Value} {O : List Ac} (h : Acs w v O) (hb : Below w.heap.size w w') : Acs w' v O := by
  obtain ⟨a, cap, rfl, h1, h2⟩ := h
  refine ⟨a, cap, rfl, h1, fun hn => ?_⟩
  obtain ⟨g, off, rfl, h3, h4⟩ := h2 hn
  exact ⟨g, off, rfl, Nat.lt_of_lt_of_le h3 hb.size, fun j hj c hc => by rw [hb.cell h3]; exact h4 j hj c hc⟩
theorem open_acs {fuel : Nat} {v : Value} {y : DataW H × List MemPlace} (h : DataW.trod enc Try.prog w base (fun _ => true) held fuel 38 [v] = some y) (hz : ∀ q ∈ y.1.weights Try.prog 38, q ≤ reachBytes) :
    ∃ O : List Ac, Acs w v O ∧ (∀ j, j < O.length → I64 (O.getD j ac0).kd) ∧ O.length * 32 ≤ 140737488351232 := by
  rcases DataW.trod_slice Try.underlying38 h with ⟨e, _⟩ | ⟨a, len, cap, elems, rest, n, _, e, hy, _, hl, hm, hel, hc, _, _⟩
  · simp at e
    subst e
    exact ⟨[], ⟨none, 0, rfl, Nat.le_refl _, fun hn => absurd rfl hn⟩, fun j hj => by simp at hj, by simp⟩
  · simp at e
    subst e
    have hlen : len * 32 ≤ reachBytes := by
      have hmem : (elems.length + rest.length) * 32 ∈ y.1.weights Try.prog 38 := by
        rw [hy]; simp [DataW.weights, Try.underlying38, bytesAct]
      have := hz _ hmem
      omega
    have each : ∀ i, i < len → ∃ x : Ac, (∀ c, c < 4 → w.cell? ((a.add (i * 4)).add c) = (acv x)[c]?) ∧ I64 x.kd := by
      intro i hi
      have hci := hc i hi
      rw [cellsAct] at hci
      have hei : ∃ z, elems[i]? = some z := ⟨elems[i]'(by omega), List.getElem?_eq_getElem (by omega)⟩
      obtain ⟨z, hzz⟩ := hei
      rw [hzz] at hci
      obtain ⟨cs, hcs, ht⟩ := Option.bind_eq_some_iff.1 hci
      obtain ⟨x, hx, hok⟩ := open_ac ht
      obtain ⟨_, _, hcell⟩ := World.cells?_some hcs
      exact ⟨x, fun c hc' => by rw [hcell c hc', hx], hok⟩
    obtain ⟨O, hLl, hLp⟩ := choose_list ac0 len each
    subst hLl
    refine ⟨O, ⟨some a, cap, rfl, hl, fun hne => ?_⟩, fun j hj => (hLp j hj).2, by simp only [reachBytes] at hlen; omega⟩
    have hpos : 0 < O.length := List.length_pos_iff.2 hne
    obtain ⟨b, off, spot⟩ := a
    have hc0 := (hLp 0 hpos).1 0 (by omega)
    have hsp : (((⟨b, off, spot⟩ : Addr).add (0 * 4)).add 0).spot = none := World.cell?_spot (v := .int .i64 (O.getD 0 ac0).kd) hc0
    have hspot : spot = none := by simpa [Addr.add] using hsp
    subst hspot
    have hadd : ∀ (x y : Nat), (⟨b, x, none⟩ : Addr).add y = ⟨b, x + y, none⟩ := fun x y => by unfold Addr.add; split <;> simp_all
    have hc0' : w.cell? ⟨b, off, none⟩ = some (.int .i64 (O.getD 0 ac0).kd) := by
      have := hc0; rw [hadd, hadd] at this; simpa [acv] using this
    refine ⟨b, off, rfl, World.block_lt_of_cell? w _ hc0', fun j hj c hc' => ?_⟩
    have := (hLp j hj).1 c hc'; rw [hadd, hadd] at this; exact this
end
end Go.Proofs.Ytnejdfkmnblfeab
