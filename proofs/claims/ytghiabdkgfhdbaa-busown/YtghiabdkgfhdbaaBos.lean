/-
  A story that came in: its reading opened.
-/
import Derived.Test.YtghiabdkgfhdbaaBop
namespace Go.Proofs.Ytghiabdkgfhdbaa
set_option linter.unusedVariables false
open Go.ChangeShapes Go.WideShapes Go.ChangeAt Go.RowKit Go.Deep
/-- One call of a story. -/
structure Cal where
  k : Int
  a : Int
  n : Int
  v : Int
  ab : Option Addr
  b : List Int
  cb : Nat
  t : Bool
  e : Bool
  s : Bool
  ai : Option Addr
  i : List Int
  ci : Nat
def cal0 : Cal := ⟨0, 0, 0, 0, none, [], 0, false, false, false, none, [], 0⟩
def calv (x : Cal) : List Value := [.int .i64 x.k, .int .u64 x.a, .int .i64 x.n, .int .u64 x.v, .slice x.ab x.b.length x.cb, .bool x.t, .bool x.e, .bool x.s, .slice x.ai x.i.length x.ci]
structure CalOk (w : World) (x : Cal) : Prop where
  b : Byt w (.slice x.ab x.b.length x.cb) x.b
  ba : AllB x.b
  bl : x.b.length ≤ 140737488351232
  i : Byt w (.slice x.ai x.i.length x.ci) x.i
  ia : AllB x.i
  il : x.i.length ≤ 140737488351232
  k : -9223372036854775808 ≤ x.k ∧ x.k ≤ 9223372036854775807
  a : 0 ≤ x.a ∧ x.a ≤ 18446744073709551615
  n : -9223372036854775808 ≤ x.n ∧ x.n ≤ 9223372036854775807
  v : 0 ≤ x.v ∧ x.v ≤ 18446744073709551615
section
variable {H : Type} {enc : TypeId × Value → H} {w : World} {base : Nat} {held : Bool}
theorem cellsOp : Try.prog.cellsOf 45 = 9 := by kernel_rfl
theorem cellsWorld : Try.prog.cellsOf 43 = 4 := by kernel_rfl
theorem cellsOps : Try.prog.cellsOf 27 = 1 := by kernel_rfl
theorem cellsStory : Try.prog.cellsOf 29 = 16 := by kernel_rfl
theorem bytesOp : Try.prog.bytesOf 45 = 88 := by kernel_rfl
theorem list9 {α : Type} {l : List α} (h : l.length = 9) : ∃ a0 a1 a2 a3 a4 a5 a6 a7 a8, l = [a0, a1, a2, a3, a4, a5, a6, a7, a8] := by
  match l, h with
  | [a0, a1, a2, a3, a4, a5, a6, a7, a8], _ => exact ⟨a0, a1, a2, a3, a4, a5, a6, a7, a8, rfl⟩
theorem list6 {α : Type} {l : List α} (h : l.length = 6) : ∃ a0 a1 a2 a3 a4 a5, l = [a0, a1, a2, a3, a4, a5] := by
  match l, h with
  | [a0, a1, a2, a3, a4, a5], _ => exact ⟨a0, a1, a2, a3, a4, a5, rfl⟩
theorem list4 {α : Type} {l : List α} (h : l.length = 4) : ∃ a0 a1 a2 a3, l = [a0, a1, a2, a3] := by
  match l, h with
  | [a0, a1, a2, a3], _ => exact ⟨a0, a1, a2, a3, rfl⟩
theorem list2 {α : Type} {l : List α} (h : l.length = 2) : ∃ a0 a1, l = [a0, a1] := by
  match l, h with
  | [a0, a1], _ => exact ⟨a0, a1, rfl⟩
theorem choose_list {α : Type} (d : α) {P : Nat → α → Prop} (n : Nat) : (∀ i, i < n → ∃ x, P i x) → ∃ L : List α, L.length = n ∧ ∀ i, i < n → P i (L.getD i d) := by
  induction n with
  | zero => intro _; exact ⟨[], rfl, fun i hi => by omega⟩
  | succ n ih =>
    intro h
    obtain ⟨L, hl, hp⟩ := ih (fun i hi => h i (by omega))
    obtain ⟨x, hx⟩ := h n (by omega)
    refine ⟨L ++ [x], by rw [List.length_append, hl]; rfl, fun i hi => ?_⟩
    by_cases e : i = n
    · subst e
      have : (L ++ [x]).getD i d = x := by unfold List.getD; rw [List.getElem?_append_right (by omega), hl, Nat.sub_self]; rfl
      rw [this]; exact hx
    · have : (L ++ [x]).getD i d = L.getD i d := by unfold List.getD; rw [List.getElem?_append_left (by omega)]
      rw [this]; exact hp i (by omega)
theorem weights_all {P : Program} {e : TypeId} : ∀ {ds : List (DataW H)} {i : Nat} {d : DataW H}, ds[i]? = some d → ∀ n ∈ d.weights P e, n ∈ DataW.weightsAll P e ds
  | d0 :: ds, 0, d, hd, n, hn => by
    simp only [List.getElem?_cons_zero, Option.some.injEq] at hd
    subst hd
    simp only [DataW.weightsAll, List.mem_append]
    exact Or.inl hn
  | d0 :: ds, i + 1, d, hd, n, hn => by
    simp only [List.getElem?_cons_succ] at hd
    simp only [DataW.weightsAll, List.mem_append]
    exact Or.inr (weights_all hd n hn)
  | [], i, d, hd, n, hn => by simp at hd
theorem open_cal {fuel : Nat} {cs : List Value} {y : DataW H × List MemPlace} (h : DataW.trod enc Try.prog w base (fun _ => true) held fuel 45 cs = some y) (hz : ∀ q ∈ y.1.weights Try.prog 45, q ≤ reachBytes) :
    ∃ x : Cal, cs = calv x ∧ CalOk w x := by
  obtain ⟨xs, n, _, rfl, hl, hlen, hf⟩ := DataW.trod_struct Try.underlying45 h
  rw [cellsOp] at hl
  obtain ⟨v0, v1, v2, v3, v4, v5, v6, v7, v8, rfl⟩ := list9 hl
  obtain ⟨y0, y1, y2, y3, y4, y5, rfl⟩ := list6 (show xs.length = 6 from hlen)
  have g0 : DataW.trod enc Try.prog w base (fun _ => true) held n 3 [v0] = some y0 := by
    have := hf 0 _ rfl
    simpa [cellsInt] using this
  have g1 : DataW.trod enc Try.prog w base (fun _ => true) held n 24 [v1] = some y1 := by
    have := hf 1 _ rfl
    simpa [cellsU64] using this
  have g2 : DataW.trod enc Try.prog w base (fun _ => true) held n 3 [v2] = some y2 := by
    have := hf 2 _ rfl
    simpa [cellsInt] using this
  have g3 : DataW.trod enc Try.prog w base (fun _ => true) held n 24 [v3] = some y3 := by
    have := hf 3 _ rfl
    simpa [cellsU64] using this
  have g4 : DataW.trod enc Try.prog w base (fun _ => true) held n 22 [v4] = some y4 := by
    have := hf 4 _ rfl
    simpa [cellsBy] using this
  have g5 : DataW.trod enc Try.prog w base (fun _ => true) held n 43 [v5, v6, v7, v8] = some y5 := by
    have := hf 5 _ rfl
    simpa [cellsWorld] using this
  obtain ⟨us, m, _, hy5, _, hulen, hu⟩ := DataW.trod_struct Try.underlying43 g5
  obtain ⟨u0, u1, u2, u3, rfl⟩ := list4 (show us.length = 4 from hulen)
  have k0 : DataW.trod enc Try.prog w base (fun _ => true) held m 4 [v5] = some u0 := by
    have := hu 0 _ rfl
    simpa [cellsBool] using this
  have k1 : DataW.trod enc Try.prog w base (fun _ => true) held m 4 [v6] = some u1 := by
    have := hu 1 _ rfl
    simpa [cellsBool] using this
  have k2 : DataW.trod enc Try.prog w base (fun _ => true) held m 4 [v7] = some u2 := by
    have := hu 2 _ rfl
    simpa [cellsBool] using this
  have k3 : DataW.trod enc Try.prog w base (fun _ => true) held m 22 [v8] = some u3 := by
    have := hu 3 _ rfl
    simpa [cellsBy] using this
  obtain ⟨i0, e0, h0, w0⟩ := DataW.trod_int Try.underlying3 g0
  simp only [List.cons.injEq, and_true] at e0
  subst e0
  obtain ⟨i1, e1, h1, w1⟩ := DataW.trod_int Try.underlying24 g1
  simp only [List.cons.injEq, and_true] at e1
  subst e1
  obtain ⟨i2, e2, h2, w2⟩ := DataW.trod_int Try.underlying3 g2
  simp only [List.cons.injEq, and_true] at e2
  subst e2
  obtain ⟨i3, e3, h3, w3⟩ := DataW.trod_int Try.underlying24 g3
  simp only [List.cons.injEq, and_true] at e3
  subst e3
  obtain ⟨b0, f0, _⟩ := DataW.trod_bool Try.underlying4 k0
  simp only [List.cons.injEq, and_true] at f0
  subst f0
  obtain ⟨b1, f1, _⟩ := DataW.trod_bool Try.underlying4 k1
  simp only [List.cons.injEq, and_true] at f1
  subst f1
  obtain ⟨b2, f2, _⟩ := DataW.trod_bool Try.underlying4 k2
  simp only [List.cons.injEq, and_true] at f2
  subst f2
  have z4 : ∀ q ∈ y4.1.weights Try.prog 22, q ≤ reachBytes := fun q hq => hz q (by
    simp only [DataW.weights, Try.underlying45]
    exact DataW.weights_mem_each (j := 4) (t := 22) (d := y4.1) rfl rfl q hq)
  have z5 : ∀ q ∈ u3.1.weights Try.prog 22, q ≤ reachBytes := fun q hq => hz q (by
    simp only [DataW.weights, Try.underlying45]
    refine DataW.weights_mem_each (j := 5) (t := 43) (d := y5.1) rfl rfl q ?_
    rw [hy5]
    simp only [DataW.weights, Try.underlying43]
    exact DataW.weights_mem_each (j := 3) (t := 22) (d := u3.1) rfl rfl q hq)
  obtain ⟨l4, a4, c4, e4, q4, m4, n4⟩ := open_bytes g4 z4
  obtain ⟨l8, a8, c8, e8, q8, m8, n8⟩ := open_bytes k3 z5
  subst e4 e8
  exact ⟨⟨i0, i1, i2, i3, a4, l4, c4, b0, b1, b2, a8, l8, c8⟩, rfl, q4, m4, n4, q8, m8, n8, bounds_i64 w0, bounds_u64 w1, bounds_i64 w2, bounds_u64 w3⟩
/-- A list of calls in memory. -/
def Cals (w : World) (v : Value) (O : List Cal) : Prop :=
  ∃ a cap, v = .slice a O.length cap ∧ O.length ≤ cap ∧ (O ≠ [] → ∃ g off, a = some ⟨g, off, none⟩ ∧ g < w.heap.size ∧ ∀ j, j < O.length → ∀ c, c < 9 → w.cell? ⟨g, off + j * 9 + c, none⟩ = (calv (O.getD j cal0))[c]?)
theorem Cals.later {w w' : World} {v : Value} {O : List Cal} (h : Cals w v O) (hb : Below w.heap.size w w') : Cals w' v O := by
  obtain ⟨a, cap, rfl, h1, h2⟩ := h
  refine ⟨a, cap, rfl, h1, fun hn => ?_⟩
  obtain ⟨g, off, rfl, h3, h4⟩ := h2 hn
  exact ⟨g, off, rfl, Nat.lt_of_lt_of_le h3 hb.size, fun j hj c hc => by rw [hb.cell h3]; exact h4 j hj c hc⟩
theorem open_cals {fuel : Nat} {v : Value} {y : DataW H × List MemPlace} (h : DataW.trod enc Try.prog w base (fun _ => true) held fuel 27 [v] = some y) (hz : ∀ q ∈ y.1.weights Try.prog 27, q ≤ reachBytes) :
    ∃ O : List Cal, Cals w v O ∧ (∀ j, j < O.length → CalOk w (O.getD j cal0)) ∧ O.length * 88 ≤ 140737488351232 := by
  rcases DataW.trod_slice Try.underlying27 h with ⟨e, _⟩ | ⟨a, len, cap, elems, rest, n, _, e, hy, _, hl, hm, hel, hc, _, _⟩
  · simp at e
    subst e
    exact ⟨[], ⟨none, 0, rfl, Nat.le_refl _, fun hn => absurd rfl hn⟩, fun j hj => by simp at hj, by simp⟩
  · simp at e
    subst e
    have hlen : len * 88 ≤ reachBytes := by
      have hmem : (elems.length + rest.length) * 88 ∈ y.1.weights Try.prog 27 := by
        rw [hy]; simp [DataW.weights, Try.underlying27, bytesOp]
      have := hz _ hmem
      omega
    have each : ∀ i, i < len → ∃ x : Cal, (∀ c, c < 9 → w.cell? ((a.add (i * 9)).add c) = (calv x)[c]?) ∧ CalOk w x := by
      intro i hi
      have hci := hc i hi
      rw [cellsOp] at hci
      have hei : ∃ z, elems[i]? = some z := ⟨elems[i]'(by omega), List.getElem?_eq_getElem (by omega)⟩
      obtain ⟨z, hzz⟩ := hei
      rw [hzz] at hci
      obtain ⟨cs, hcs, ht⟩ := Option.bind_eq_some_iff.1 hci
      obtain ⟨x, hx, hok⟩ := open_cal ht (fun q hq => hz q (by
        rw [hy]
        simp only [DataW.weights, Try.underlying27]
        refine List.mem_cons_of_mem _ (List.mem_append_left _ ?_)
        exact weights_all (i := i) (d := z.1) (by simp [hzz]) q hq))
      obtain ⟨_, _, hcell⟩ := World.cells?_some hcs
      exact ⟨x, fun c hc' => by rw [hcell c hc', hx], hok⟩
    obtain ⟨O, hLl, hLp⟩ := choose_list cal0 len each
    subst hLl
    refine ⟨O, ⟨some a, cap, rfl, hl, fun hne => ?_⟩, fun j hj => (hLp j hj).2, by simp only [reachBytes] at hlen; omega⟩
    have hpos : 0 < O.length := List.length_pos_iff.2 hne
    obtain ⟨b, off, spot⟩ := a
    have hc0 := (hLp 0 hpos).1 0 (by omega)
    have hsp : (((⟨b, off, spot⟩ : Addr).add (0 * 9)).add 0).spot = none := World.cell?_spot (v := .int .i64 (O.getD 0 cal0).k) hc0
    have hspot : spot = none := by simpa [Addr.add] using hsp
    subst hspot
    have hc0' : w.cell? ⟨b, off, none⟩ = some (.int .i64 (O.getD 0 cal0).k) := by
      have := hc0; rw [addAt, addAt] at this; simpa [calv] using this
    refine ⟨b, off, rfl, World.block_lt_of_cell? w _ hc0', fun j hj c hc' => ?_⟩
    have := (hLp j hj).1 c hc'; rw [addAt, addAt] at this; exact this
/-- A story's cells. -/
def stoc (S : St) (vr vi vo vO : Value) : Array Value := (stc S vr vi vo).push vO
theorem open_story {fuel : Nat} {cs : List Value} {y : DataW H × List MemPlace} (h : DataW.trod enc Try.prog w base (fun _ => true) held fuel 29 cs = some y) (hz : ∀ q ∈ y.1.weights Try.prog 29, q ≤ reachBytes) :
    ∃ (S : St) (ar ai ao : Option Addr) (cr ci co : Nat) (vO : Value) (O : List Cal), cs = (stoc S (.slice ar S.ram.length cr) (.slice ai S.inp.length ci) (.slice ao S.out.length co) vO).toList ∧ Bs S (.slice ar S.ram.length cr) (.slice ai S.inp.length ci) (.slice ao S.out.length co) w ∧ StW S ∧
      S.ram.length ≤ 140737488351232 ∧ S.inp.length ≤ 140737488351232 ∧ S.out.length ≤ 140737488351232 ∧ Cals w vO O ∧ (∀ j, j < O.length → CalOk w (O.getD j cal0)) ∧ O.length * 88 ≤ 140737488351232 := by
  obtain ⟨xs, n, _, rfl, hl, hlen, hf⟩ := DataW.trod_struct Try.underlying29 h
  rw [cellsStory] at hl
  obtain ⟨y0, y1, rfl⟩ := list2 (show xs.length = 2 from hlen)
  have g0 : DataW.trod enc Try.prog w base (fun _ => true) held n 26 (cs.take 15) = some y0 := by
    have := hf 0 _ rfl
    simpa [cellsSt] using this
  have g1 : DataW.trod enc Try.prog w base (fun _ => true) held n 27 ((cs.drop 15).take 1) = some y1 := by
    have := hf 1 _ rfl
    simpa [cellsOps] using this
  have hd : ∃ vO, (cs.drop 15).take 1 = [vO] ∧ cs = cs.take 15 ++ [vO] := by
    have hl2 : (cs.drop 15).length = 1 := by simp [hl]
    match hx : cs.drop 15, hl2 with
    | [vO], _ => exact ⟨vO, by simp, by rw [← hx, List.take_append_drop]⟩
  obtain ⟨vO, e1, e2⟩ := hd
  rw [e1] at g1
  have z0 : ∀ q ∈ y0.1.weights Try.prog 26, q ≤ reachBytes := fun q hq => hz q (by
    simp only [DataW.weights, Try.underlying29]
    exact DataW.weights_mem_each (j := 0) (t := 26) (d := y0.1) rfl rfl q hq)
  have z1 : ∀ q ∈ y1.1.weights Try.prog 27, q ≤ reachBytes := fun q hq => hz q (by
    simp only [DataW.weights, Try.underlying29]
    exact DataW.weights_mem_each (j := 1) (t := 27) (d := y1.1) rfl rfl q hq)
  obtain ⟨S, ar, ai, ao, cr, ci, co, hcs, hs, hw, lr, li, lo⟩ := open_state g0 z0
  obtain ⟨O, hO, hok, hol⟩ := open_cals g1 z1
  refine ⟨S, ar, ai, ao, cr, ci, co, vO, O, ?_, hs, hw, lr, li, lo, hO, hok, hol⟩
  rw [e2, hcs]
  simp [stoc]
end
end Go.Proofs.Ytghiabdkgfhdbaa
