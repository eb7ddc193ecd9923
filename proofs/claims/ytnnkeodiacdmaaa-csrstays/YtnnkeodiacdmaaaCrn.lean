/-
  A Run that came in: its reading opened.
-/
import Derived.Test.YtnnkeodiacdmaaaClv
namespace Go.Proofs.Ytnnkeodiacdmaaa
set_option linter.unusedVariables false
open Go.ChangeShapes Go.WideShapes Go.ChangeAt Go.RowKit Go.Deep
/-- One step. -/
structure Stp where
  i : Int
  v : BitVec 64
  d : Bool
def stp0 : Stp := ⟨0, 0#64, false⟩
def stpv (x : Stp) : List Value := [.int .i64 x.i, .int .u64 (n64 x.v), .bool x.d]
section
variable {H : Type} {enc : TypeId × Value → H} {w : World} {base : Nat} {held : Bool}
theorem cellsStp : Try.prog.cellsOf 46 = 3 := by kernel_rfl
theorem bytesStp : Try.prog.bytesOf 46 = 24 := by kernel_rfl
theorem choose_list {α : Type} (d : α) {P : Nat → α → Prop} (n : Nat) : (∀ i, i < n → ∃ x, P i x) → ∃ L : List α, L.length = n ∧ ∀ i, i < n → P i (L.getD i d) := by
  induction n with
  | zero => intro _; exact ⟨[], rfl, fun i hi => by omega⟩
  | succ n ih =>
    intro h
    obtain ⟨L, hl, hp⟩ := ih (fun i hi => h i (by omega))
    obtain ⟨x, hx⟩ := h n (by omega)
    refine ⟨L ++ [x], by rw [List.length_append, hl]; rfl, fun i hi => ?_⟩
    by_cases e : i = n
    · subst e
      have : (L ++ [x]).getD i d = x := by unfold List.getD; rw [List.getElem?_append_right (by omega), hl, Nat.sub_self]; rfl
      rw [this]; exact hx
    · have : (L ++ [x]).getD i d = L.getD i d := by unfold List.getD; rw [List.getElem?_append_left (by omega)]
      rw [this]; exact hp i (by omega)
set_option maxRecDepth 100000 in
theorem open_stp {fuel : Nat} {cs : List Value} {y : DataW H × List MemPlace} (h : DataW.trod enc Try.prog w base (fun _ => true) held fuel 46 cs = some y) : ∃ x : Stp, cs = stpv x ∧ I64 x.i := by
  obtain ⟨xs, n, _, rfl, hl, hlen, hf⟩ := DataW.trod_struct Try.underlying46 h
  rw [cellsStp] at hl
  match cs, hl, xs, (show xs.length = 3 from hlen), hf with
  | [v0, v1, v2], _, [y0, y1, y2], _, hf =>
    have g0 : DataW.trod enc Try.prog w base (fun _ => true) held n 3 [v0] = some y0 := by
      have := hf 0 _ rfl
      simpa [show Try.prog.cellsOf 3 = 1 by kernel_rfl] using this
    have g1 : DataW.trod enc Try.prog w base (fun _ => true) held n 22 [v1] = some y1 := by
      have := hf 1 _ rfl
      simpa [show Try.prog.cellsOf 22 = 1 by kernel_rfl] using this
    have g2 : DataW.trod enc Try.prog w base (fun _ => true) held n 4 [v2] = some y2 := by
      have := hf 2 _ rfl
      simpa [show Try.prog.cellsOf 4 = 1 by kernel_rfl] using this
    obtain ⟨i0, e0, _, w0⟩ := DataW.trod_int Try.underlying3 g0
    simp only [List.cons.injEq, and_true] at e0
    subst e0
    obtain ⟨i1, e1, _, w1⟩ := DataW.trod_int Try.underlying22 g1
    simp only [List.cons.injEq, and_true] at e1
    subst e1
    obtain ⟨x, rfl⟩ := n64_of w1
    obtain ⟨b0, f0, _⟩ := DataW.trod_bool Try.underlying4 g2
    simp only [List.cons.injEq, and_true] at f0
    subst f0
    exact ⟨⟨i0, x, b0⟩, rfl, bounds_i64 w0⟩
/-- A list of steps in memory. -/
def Stps (w : World) (v : Value) (O : List Stp) : Prop :=
  ∃ a cap, v = .slice a O.length cap ∧ O.length ≤ cap ∧ (O ≠ [] → ∃ g off, a = some ⟨g, off, none⟩ ∧ g < w.heap.size ∧ ∀ j, j < O.length → ∀ c, c < 3 → w.cell? ⟨g, off + j * 3 + c, none⟩ = (stpv (O.getD j stp0))[c]?)
theorem Stps.later {w w' : World} {v : Value} {O : List Stp} (h : Stps w v O) (hb : Below w.heap.size w w') : Stps w' v O := by
  obtain ⟨a, cap, rfl, h1, h2⟩ := h
  refine ⟨a, cap, rfl, h1, fun hn => ?_⟩
  obtain ⟨g, off, rfl, h3, h4⟩ := h2 hn
  exact ⟨g, off, rfl, Nat.lt_of_lt_of_le h3 hb.size, fun j hj c hc => by rw [hb.cell h3]; exact h4 j hj c hc⟩
set_option maxRecDepth 100000 in
theorem open_stps {fuel : Nat} {v : Value} {y : DataW H × List MemPlace} (h : DataW.trod enc Try.prog w base (fun _ => true) held fuel 40 [v] = some y) (hz : ∀ q ∈ y.1.weights Try.prog 40, q ≤ reachBytes) :
    ∃ O : List Stp, Stps w v O ∧ (∀ j, j < O.length → I64 (O.getD j stp0).i) ∧ O.length * 24 ≤ 140737488351232 := by
  rcases DataW.trod_slice Try.underlying40 h with ⟨e, _⟩ | ⟨a, len, cap, elems, rest, n, _, e, hy, _, hl, hm, hel, hc, _, _⟩
  · simp at e
    subst e
    exact ⟨[], ⟨none, 0, rfl, Nat.le_refl _, fun hn => absurd rfl hn⟩, fun j hj => by simp at hj, by simp⟩
  · simp at e
    subst e
    have hlen : len * 24 ≤ reachBytes := by
      have hmem : (elems.length + rest.length) * 24 ∈ y.1.weights Try.prog 40 := by
        rw [hy]; simp [DataW.weights, Try.underlying40, bytesStp]
      have := hz _ hmem
      omega
    have each : ∀ i, i < len → ∃ x : Stp, (∀ c, c < 3 → w.cell? ((a.add (i * 3)).add c) = (stpv x)[c]?) ∧ I64 x.i := by
      intro i hi
      have hci := hc i hi
      rw [cellsStp] at hci
      have hei : ∃ z, elems[i]? = some z := ⟨elems[i]'(by omega), List.getElem?_eq_getElem (by omega)⟩
      obtain ⟨z, hzz⟩ := hei
      rw [hzz] at hci
      obtain ⟨cs, hcs, ht⟩ := Option.bind_eq_some_iff.1 hci
      obtain ⟨x, hx, hok⟩ := open_stp ht
      obtain ⟨_, _, hcell⟩ := World.cells?_some hcs
      exact ⟨x, fun c hc' => by rw [hcell c hc', hx], hok⟩
    obtain ⟨O, hLl, hLp⟩ := choose_list stp0 len each
    subst hLl
    refine ⟨O, ⟨some a, cap, rfl, hl, fun hne => ?_⟩, fun j hj => (hLp j hj).2, by simp only [reachBytes] at hlen; omega⟩
    have hpos : 0 < O.length := List.length_pos_iff.2 hne
    obtain ⟨b, off, spot⟩ := a
    have hc0 := (hLp 0 hpos).1 0 (by omega)
    have hsp : (((⟨b, off, spot⟩ : Addr).add (0 * 3)).add 0).spot = none := World.cell?_spot (v := .int .i64 (O.getD 0 stp0).i) hc0
    have hspot : spot = none := by simpa [Addr.add] using hsp
    subst hspot
    have hadd : ∀ (x y : Nat), (⟨b, x, none⟩ : Addr).add y = ⟨b, x + y, none⟩ := fun x y => by unfold Addr.add; split <;> simp_all
    have hc0' : w.cell? ⟨b, off, none⟩ = some (.int .i64 (O.getD 0 stp0).i) := by
      have := hc0; rw [hadd, hadd] at this; simpa [stpv] using this
    refine ⟨b, off, rfl, World.block_lt_of_cell? w _ hc0', fun j hj c hc' => ?_⟩
    have := (hLp j hj).1 c hc'; rw [hadd, hadd] at this; exact this
/-- The cells of a Run. -/
def runk (k : Cp) (m t : BitVec 64) (vO : Value) : Array Value := cpc k ++ #[.int .u64 (n64 m), .int .u64 (n64 t), vO]
theorem runk_size (k : Cp) (m t : BitVec 64) (vO : Value) : (runk k m t vO).size = 85 := by simp [runk, cpc_size]
set_option maxRecDepth 100000 in
theorem open_run {fuel : Nat} {cs : List Value} {y : DataW H × List MemPlace} (h : DataW.trod enc Try.prog w base (fun _ => true) held fuel 42 cs = some y) (hz : ∀ q ∈ y.1.weights Try.prog 42, q ≤ reachBytes) :
    ∃ (k : Cp) (m t : BitVec 64) (vO : Value) (O : List Stp), cs = (runk k m t vO).toList ∧ Stps w vO O ∧ (∀ j, j < O.length → I64 (O.getD j stp0).i) ∧ O.length * 24 ≤ 140737488351232 := by
  obtain ⟨xs, n, _, rfl, hl, hlen, hf⟩ := DataW.trod_struct Try.underlying42 h
  rw [show Try.prog.cellsOf 42 = 85 by kernel_rfl] at hl
  match xs, (show xs.length = 4 from hlen), hf, hz with
  | [y0, y1, y2, y3], _, hf, hz =>
    have g0 : DataW.trod enc Try.prog w base (fun _ => true) held n 31 ((cs.drop 0).take 82) = some y0 := by
      have := hf 0 _ rfl
      have this : DataW.trod enc Try.prog w base (fun _ => true) held n 31 ((cs.drop 0).take (Try.prog.cellsOf 31)) = some y0 := this
      rwa [cells_cpu] at this
    have g1 : DataW.trod enc Try.prog w base (fun _ => true) held n 22 ((cs.drop 82).take 1) = some y1 := by
      have := hf 1 _ rfl
      have this : DataW.trod enc Try.prog w base (fun _ => true) held n 22 ((cs.drop 82).take (Try.prog.cellsOf 22)) = some y1 := this
      rwa [cells_u64] at this
    have g2 : DataW.trod enc Try.prog w base (fun _ => true) held n 22 ((cs.drop 83).take 1) = some y2 := by
      have := hf 2 _ rfl
      have this : DataW.trod enc Try.prog w base (fun _ => true) held n 22 ((cs.drop 83).take (Try.prog.cellsOf 22)) = some y2 := this
      rwa [cells_u64] at this
    have g3 : DataW.trod enc Try.prog w base (fun _ => true) held n 40 ((cs.drop 84).take 1) = some y3 := by
      have := hf 3 _ rfl
      have this : DataW.trod enc Try.prog w base (fun _ => true) held n 40 ((cs.drop 84).take (Try.prog.cellsOf 40)) = some y3 := this
      rwa [show Try.prog.cellsOf 40 = 1 by kernel_rfl] at this
    have hd : ∃ vO, (cs.drop 84).take 1 = [vO] := by
      have hl2 : (cs.drop 84).length = 1 := by simp [hl]
      match hx : cs.drop 84, hl2 with
      | [vO], _ => exact ⟨vO, by simp⟩
    obtain ⟨vO, e1⟩ := hd
    rw [e1] at g3
    have z3 : ∀ q ∈ y3.1.weights Try.prog 40, q ≤ reachBytes := fun q hq => hz q (by
      simp only [DataW.weights, Try.underlying42]
      exact DataW.weights_mem_each (j := 3) (t := 40) (d := y3.1) rfl rfl q hq)
    obtain ⟨k, k0⟩ := open_cpu g0
    obtain ⟨i1, k1, _, w1⟩ := DataW.trod_int Try.underlying22 g1
    obtain ⟨i2, k2, _, w2⟩ := DataW.trod_int Try.underlying22 g2
    obtain ⟨m, rfl⟩ := n64_of w1
    obtain ⟨t, rfl⟩ := n64_of w2
    obtain ⟨O, hO, hok, hol⟩ := open_stps g3 z3
    refine ⟨k, m, t, vO, O, ?_, hO, hok, hol⟩
    have q : ∀ j, j < 85 → cs.drop j = (cs.drop j).take 1 ++ cs.drop (j + 1) := fun j hj => by
      rw [← List.drop_drop, List.take_append_drop]
    have q0 : cs = (cs.drop 0).take 82 ++ cs.drop 82 := by simp
    rw [q0, k0, q 82 (by omega), k1, q 83 (by omega), k2, q 84 (by omega), e1, List.drop_eq_nil_of_le (by omega)]
    simp [runk]
end
theorem Row.runk {w : World} {g : Nat} {k : Cp} {m t : BitVec 64} {vO : Value} {T : TypeId} (h : Row w g (runk k m t vO) T) :
    At w g 0 k ∧ w.cell? ⟨g, 82, none⟩ = some (.int .u64 (n64 m)) ∧ w.cell? ⟨g, 83, none⟩ = some (.int .u64 (n64 t)) ∧ w.cell? ⟨g, 84, none⟩ = some vO := by
  have q : ∀ j, 82 ≤ j → w.cell? ⟨g, j, none⟩ = #[Value.int .u64 (n64 m), .int .u64 (n64 t), vO][j - 82]? := fun j hj => by
    rw [h.cell]; unfold Go.Proofs.Ytnnkeodiacdmaaa.runk; rw [Array.getElem?_append_right (by rw [cpc_size]; exact hj), cpc_size]
  refine ⟨fun j hj => ?_, q 82 (by omega), q 83 (by omega), q 84 (by omega)⟩
  rw [h.cell, Nat.zero_add]; unfold Go.Proofs.Ytnnkeodiacdmaaa.runk; rw [Array.getElem?_append_left (by rw [cpc_size]; exact hj), cpc_at _ _ hj]
end Go.Proofs.Ytnnkeodiacdmaaa
