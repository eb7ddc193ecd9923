/-
  A Run that came in: its reading opened.
-/
import Derived.Test.YtckgjfkodgeagaaDoorPak
namespace Go.Proofs.YtckgjfkodgeagaaDoor
set_option linter.unusedVariables false
open Go.ChangeShapes Go.WideShapes Go.ChangeAt Go.RowKit Go.Deep
/-- One write. -/
structure Wri where
  d : Bool
  i : Int
  v : BitVec 64
def wri0 : Wri := ⟨false, 0, 0#64⟩
def wriv (x : Wri) : List Value := [.bool x.d, .int .i64 x.i, .int .u64 (n64 x.v)]
section
variable {H : Type} {enc : TypeId × Value → H} {w : World} {base : Nat} {held : Bool}
theorem cellsWri : Tryd.prog.cellsOf 41 = 3 := by kernel_rfl
theorem bytesWri : Tryd.prog.bytesOf 41 = 24 := by kernel_rfl
theorem choose_list {α : Type} (d : α) {P : Nat → α → Prop} (n : Nat) : (∀ i, i < n → ∃ x, P i x) → ∃ L : List α, L.length = n ∧ ∀ i, i < n → P i (L.getD i d) := by
  induction n with
  | zero => intro _; exact ⟨[], rfl, fun i hi => by omega⟩
  | succ n ih =>
    intro h
    obtain ⟨L, hl, hp⟩ := ih (fun i hi => h i (by omega))
    obtain ⟨x, hx⟩ := h n (by omega)
    refine ⟨L ++ [x], by rw [List.length_append, hl]; rfl, fun i hi => ?_⟩
    by_cases e : i = n
    · subst e
      have : (L ++ [x]).getD i d = x := by unfold List.getD; rw [List.getElem?_append_right (by omega), hl, Nat.sub_self]; rfl
      rw [this]; exact hx
    · have : (L ++ [x]).getD i d = L.getD i d := by unfold List.getD; rw [List.getElem?_append_left (by omega)]
      rw [this]; exact hp i (by omega)
theorem open_wri {fuel : Nat} {cs : List Value} {y : DataW H × List MemPlace} (h : DataW.trod enc Tryd.prog w base (fun _ => true) held fuel 41 cs = some y) : ∃ x : Wri, cs = wriv x ∧ I64 x.i := by
  obtain ⟨xs, n, _, rfl, hl, hlen, hf⟩ := DataW.trod_struct Tryd.underlying41 h
  rw [cellsWri] at hl
  match cs, hl, xs, (show xs.length = 3 from hlen), hf with
  | [v0, v1, v2], _, [y0, y1, y2], _, hf =>
    have g0 : DataW.trod enc Tryd.prog w base (fun _ => true) held n 4 [v0] = some y0 := by
      have := hf 0 _ rfl
      simpa [show Tryd.prog.cellsOf 4 = 1 by kernel_rfl] using this
    have g1 : DataW.trod enc Tryd.prog w base (fun _ => true) held n 3 [v1] = some y1 := by
      have := hf 1 _ rfl
      simpa [show Tryd.prog.cellsOf 3 = 1 by kernel_rfl] using this
    have g2 : DataW.trod enc Tryd.prog w base (fun _ => true) held n 23 [v2] = some y2 := by
      have := hf 2 _ rfl
      simpa [show Tryd.prog.cellsOf 23 = 1 by kernel_rfl] using this
    obtain ⟨b0, f0, _⟩ := DataW.trod_bool Tryd.underlying4 g0
    simp only [List.cons.injEq, and_true] at f0
    subst f0
    obtain ⟨i1, e1, _, w1⟩ := DataW.trod_int Tryd.underlying3 g1
    simp only [List.cons.injEq, and_true] at e1
    subst e1
    obtain ⟨i2, e2, _, w2⟩ := DataW.trod_int Tryd.underlying23 g2
    simp only [List.cons.injEq, and_true] at e2
    subst e2
    obtain ⟨x, rfl⟩ := n64_of w2
    exact ⟨⟨b0, i1, x⟩, rfl, bounds_i64 w1⟩
/-- A list of writes in memory. -/
def Wris (w : World) (v : Value) (O : List Wri) : Prop :=
  ∃ a cap, v = .slice a O.length cap ∧ O.length ≤ cap ∧ (O ≠ [] → ∃ g off, a = some ⟨g, off, none⟩ ∧ g < w.heap.size ∧ ∀ j, j < O.length → ∀ c, c < 3 → w.cell? ⟨g, off + j * 3 + c, none⟩ = (wriv (O.getD j wri0))[c]?)
theorem Wris.later {w w' : World} {v : Value} {O : List Wri} (h : Wris w v O) (hb : Below w.heap.size w w') : Wris w' v O := by
  obtain ⟨a, cap, rfl, h1, h2⟩ := h
  refine ⟨a, cap, rfl, h1, fun hn => ?_⟩
  obtain ⟨g, off, rfl, h3, h4⟩ := h2 hn
  exact ⟨g, off, rfl, Nat.lt_of_lt_of_le h3 hb.size, fun j hj c hc => by rw [hb.cell h3]; exact h4 j hj c hc⟩
theorem open_wris {fuel : Nat} {v : Value} {y : DataW H × List MemPlace} (h : DataW.trod enc Tryd.prog w base (fun _ => true) held fuel 35 [v] = some y) (hz : ∀ q ∈ y.1.weights Tryd.prog 35, q ≤ reachBytes) :
    ∃ O : List Wri, Wris w v O ∧ (∀ j, j < O.length → I64 (O.getD j wri0).i) ∧ O.length * 24 ≤ 140737488351232 := by
  rcases DataW.trod_slice Tryd.underlying35 h with ⟨e, _⟩ | ⟨a, len, cap, elems, rest, n, _, e, hy, _, hl, hm, hel, hc, _, _⟩
  · simp at e
    subst e
    exact ⟨[], ⟨none, 0, rfl, Nat.le_refl _, fun hn => absurd rfl hn⟩, fun j hj => by simp at hj, by simp⟩
  · simp at e
    subst e
    have hlen : len * 24 ≤ reachBytes := by
      have hmem : (elems.length + rest.length) * 24 ∈ y.1.weights Tryd.prog 35 := by
        rw [hy]; simp [DataW.weights, Tryd.underlying35, bytesWri]
      have := hz _ hmem
      omega
    have each : ∀ i, i < len → ∃ x : Wri, (∀ c, c < 3 → w.cell? ((a.add (i * 3)).add c) = (wriv x)[c]?) ∧ I64 x.i := by
      intro i hi
      have hci := hc i hi
      rw [cellsWri] at hci
      have hei : ∃ z, elems[i]? = some z := ⟨elems[i]'(by omega), List.getElem?_eq_getElem (by omega)⟩
      obtain ⟨z, hzz⟩ := hei
      rw [hzz] at hci
      obtain ⟨cs, hcs, ht⟩ := Option.bind_eq_some_iff.1 hci
      obtain ⟨x, hx, hok⟩ := open_wri ht
      obtain ⟨_, _, hcell⟩ := World.cells?_some hcs
      exact ⟨x, fun c hc' => by rw [hcell c hc', hx], hok⟩
    obtain ⟨O, hLl, hLp⟩ := choose_list wri0 len each
    subst hLl
    refine ⟨O, ⟨some a, cap, rfl, hl, fun hne => ?_⟩, fun j hj => (hLp j hj).2, by simp only [reachBytes] at hlen; omega⟩
    have hpos : 0 < O.length := List.length_pos_iff.2 hne
    obtain ⟨b, off, spot⟩ := a
    have hc0 := (hLp 0 hpos).1 0 (by omega)
    have hsp : (((⟨b, off, spot⟩ : Addr).add (0 * 3)).add 0).spot = none := World.cell?_spot (v := .bool (O.getD 0 wri0).d) hc0
    have hspot : spot = none := by simpa [Addr.add] using hsp
    subst hspot
    have hadd : ∀ (x y : Nat), (⟨b, x, none⟩ : Addr).add y = ⟨b, x + y, none⟩ := fun x y => by unfold Addr.add; split <;> simp_all
    have hc0' : w.cell? ⟨b, off, none⟩ = some (.bool (O.getD 0 wri0).d) := by
      have := hc0; rw [hadd, hadd] at this; simpa [wriv] using this
    refine ⟨b, off, rfl, World.block_lt_of_cell? w _ hc0', fun j hj c hc' => ?_⟩
    have := (hLp j hj).1 c hc'; rw [hadd, hadd] at this; exact this
/-- The cells of a Run. -/
def runc (c : Nat → BitVec 8) (a : Nat → BitVec 64) (i : Int) (v : BitVec 64) (m : Int) (ad : BitVec 64) (s b : Int) (vO : Value) : Array Value := (askc c a i v m ad s b).push vO
theorem open_run {fuel : Nat} {cs : List Value} {y : DataW H × List MemPlace} (h : DataW.trod enc Tryd.prog w base (fun _ => true) held fuel 37 cs = some y) (hz : ∀ q ∈ y.1.weights Tryd.prog 37, q ≤ reachBytes) :
    ∃ (c : Nat → BitVec 8) (a : Nat → BitVec 64) (i : Int) (v : BitVec 64) (m : Int) (ad : BitVec 64) (s b : Int) (vO : Value) (O : List Wri), cs = (runc c a i v m ad s b vO).toList ∧ Wris w vO O ∧ (∀ j, j < O.length → I64 (O.getD j wri0).i) ∧ O.length * 24 ≤ 140737488351232 := by
  obtain ⟨xs, n, _, rfl, hl, hlen, hf⟩ := DataW.trod_struct Tryd.underlying37 h
  rw [show Tryd.prog.cellsOf 37 = 39 by kernel_rfl] at hl
  match xs, (show xs.length = 2 from hlen), hf, hz with
  | [y0, y1], _, hf, hz =>
    have g0 : DataW.trod enc Tryd.prog w base (fun _ => true) held n 28 (cs.take 38) = some y0 := by
      have := hf 0 _ rfl
      simpa [show Tryd.prog.cellsOf 28 = 38 by kernel_rfl] using this
    have g1 : DataW.trod enc Tryd.prog w base (fun _ => true) held n 35 ((cs.drop 38).take 1) = some y1 := by
      have := hf 1 _ rfl
      simpa [show Tryd.prog.cellsOf 35 = 1 by kernel_rfl] using this
    have hd : ∃ vO, (cs.drop 38).take 1 = [vO] ∧ cs = cs.take 38 ++ [vO] := by
      have hl2 : (cs.drop 38).length = 1 := by simp [hl]
      match hx : cs.drop 38, hl2 with
      | [vO], _ => exact ⟨vO, by simp, by rw [← hx, List.take_append_drop]⟩
    obtain ⟨vO, e1, e2⟩ := hd
    rw [e1] at g1
    have z1 : ∀ q ∈ y1.1.weights Tryd.prog 35, q ≤ reachBytes := fun q hq => hz q (by
      simp only [DataW.weights, Tryd.underlying37]
      exact DataW.weights_mem_each (j := 1) (t := 35) (d := y1.1) rfl rfl q hq)
    obtain ⟨c, a, i, v, m, ad, s, b, hcs, _⟩ := open_ask Tryd.underlying28 (by kernel_rfl) ⟨rfl, rfl⟩ ⟨rfl, rfl⟩ ⟨rfl, rfl⟩ ⟨rfl, rfl⟩ ⟨rfl, rfl⟩ ⟨rfl, rfl⟩ ⟨rfl, rfl⟩ g0
    obtain ⟨O, hO, hok, hol⟩ := open_wris g1 z1
    refine ⟨c, a, i, v, m, ad, s, b, vO, O, ?_, hO, hok, hol⟩
    rw [e2, hcs]
    simp [runc]
end
theorem runc_ask (c : Nat → BitVec 8) (a : Nat → BitVec 64) (i : Int) (v : BitVec 64) (m : Int) (ad : BitVec 64) (s b : Int) (vO : Value) {w : World} {g : Nat} {T : TypeId} (h : Row w g (runc c a i v m ad s b vO) T) :
    (∀ j u, (askc c a i v m ad s b)[j]? = some u → w.cell? ⟨g, 0 + j, none⟩ = some u) ∧ w.cell? ⟨g, 38, none⟩ = some vO := by
  constructor
  · intro j u hu
    have hj : j < 38 := by
      by_cases hj : j < 38
      · exact hj
      · rw [Array.getElem?_eq_none (by rw [askc_size]; omega)] at hu; cases hu
    rw [h.cell, Nat.zero_add, runc, Array.getElem?_push, if_neg (by rw [askc_size]; omega)]
    exact hu
  · rw [h.cell, runc, Array.getElem?_push, if_pos (by rw [askc_size])]
theorem runc_pmp (c : Nat → BitVec 8) (a : Nat → BitVec 64) (i : Int) (v : BitVec 64) (m : Int) (ad : BitVec 64) (s b : Int) (vO : Value) {w : World} {g : Nat} {T : TypeId} (h : Row w g (runc c a i v m ad s b vO) T) :
    ∀ j u, (pc c a)[j]? = some u → w.cell? ⟨g, 0 + j, none⟩ = some u := fun j u hu => by
  have hj : j < 32 := by
    by_cases hj : j < 32
    · exact hj
    · rw [Array.getElem?_eq_none (by rw [pc_size]; omega)] at hu; cases hu
  refine (runc_ask c a i v m ad s b vO h).1 j u ?_
  rw [askc, Array.getElem?_append_left (by rw [pc_size]; exact hj)]; exact hu
end Go.Proofs.YtckgjfkodgeagaaDoor
