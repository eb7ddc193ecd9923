/-
  Oc Od Pcd.
-/
import Derived.Test.YtidfndgedopghaaGreatDoorM49
import Derived.Test.YtidfndgedopghaaGreatDoorM12
import Derived.Test.YtidfndgedopghaaGreatDoorCards
import Derived.Test.YtidfndgedopghaaGreatDoorTie
import Derived.PinnedBridge
import Derived.Lay
import Derived.LaidOnce
import Derived.SevenTiedAt
import Derived.Lib.LaidU8T
namespace Go.Proofs.YtidfndgedopghaaGreatDoor
set_option linter.unusedVariables false
set_option maxRecDepth 100000
set_option maxHeartbeats 4000000
open Go.ChangeShapes Go.WideShapes Go.ChangeAt Go.RowKit Go.Deep
section
variable {H : Type} {enc : TypeId × Value → H} {w : World} {base : Nat} {held : Bool}
theorem cellsRw : Tryz.prog.cellsOf 52 = 16 := by kernel_rfl
theorem bytesRw : Tryz.prog.bytesOf 52 = 128 := by kernel_rfl
theorem choose_listU {α : Type} (d : α) {P : Nat → α → Prop} (n : Nat) : (∀ i, i < n → ∃ x, P i x) → ∃ L : List α, L.length = n ∧ ∀ i, i < n → P i (L.getD i d) := by
  induction n with
  | zero => intro _; exact ⟨[], rfl, fun i hi => by omega⟩
  | succ n ih =>
    intro h
    obtain ⟨L, hl, hp⟩ := ih (fun i hi => h i (by omega))
    obtain ⟨x, hx⟩ := h n (by omega)
    refine ⟨L ++ [x], by rw [List.length_append, hl]; rfl, fun i hi => ?_⟩
    by_cases e : i = n
    · subst e
      have : (L ++ [x]).getD i d = x := by unfold List.getD; rw [List.getElem?_append_right (by omega), hl, Nat.sub_self]; rfl
      rw [this]; exact hx
    · have : (L ++ [x]).getD i d = L.getD i d := by unfold List.getD; rw [List.getElem?_append_left (by omega)]
      rw [this]; exact hp i (by omega)
set_option maxHeartbeats 4000000 in
theorem open_rw {fuel : Nat} {cs : List Value} {y : DataW H × List MemPlace} (h : DataW.trod enc Tryz.prog w base (fun _ => true) held fuel 52 cs = some y) : ∃ x : Rw, cs = (rwc x).toList ∧ (Lit.int .i64 x.kd).wf = true := by
  obtain ⟨xs, n, _, rfl, hl, hlen, hf⟩ := DataW.trod_struct Tryz.underlying52 h
  rw [cellsRw] at hl
  have k1 : Tryz.prog.cellsOf 3 = 1 := by kernel_rfl
  have k2 : Tryz.prog.cellsOf 23 = 1 := by kernel_rfl
  have k3 : Tryz.prog.cellsOf 42 = 1 := by kernel_rfl
  match cs, hl, xs, (show xs.length = 16 from hlen), hf with
  | [v0, v1, v2, v3, v4, v5, v6, v7, v8, v9, v10, v11, v12, v13, v14, v15], _, [y0, y1, y2, y3, y4, y5, y6, y7, y8, y9, y10, y11, y12, y13, y14, y15], _, hf =>
    have g0 : DataW.trod enc Tryz.prog w base (fun _ => true) held n 3 [v0] = some y0 := by
      have := hf 0 _ rfl
      simpa [k1] using this
    obtain ⟨i0, e0, _, w0⟩ := DataW.trod_int Tryz.underlying3 g0
    simp only [List.cons.injEq, and_true] at e0
    subst e0
    have g1 : DataW.trod enc Tryz.prog w base (fun _ => true) held n 3 [v1] = some y1 := by
      have := hf 1 _ rfl
      simpa [k1] using this
    obtain ⟨i1, e1, _, w1⟩ := DataW.trod_int Tryz.underlying3 g1
    simp only [List.cons.injEq, and_true] at e1
    subst e1
    have g2 : DataW.trod enc Tryz.prog w base (fun _ => true) held n 3 [v2] = some y2 := by
      have := hf 2 _ rfl
      simpa [k1] using this
    obtain ⟨i2, e2, _, w2⟩ := DataW.trod_int Tryz.underlying3 g2
    simp only [List.cons.injEq, and_true] at e2
    subst e2
    have g3 : DataW.trod enc Tryz.prog w base (fun _ => true) held n 23 [v3] = some y3 := by
      have := hf 3 _ rfl
      simpa [k2] using this
    obtain ⟨i3, e3, _, w3⟩ := DataW.trod_int Tryz.underlying23 g3
    simp only [List.cons.injEq, and_true] at e3
    subst e3
    obtain ⟨x3, rfl⟩ := n64_of w3
    have g4 : DataW.trod enc Tryz.prog w base (fun _ => true) held n 42 [v4] = some y4 := by
      have := hf 4 _ rfl
      simpa [k3] using this
    obtain ⟨i4, e4, _, w4⟩ := DataW.trod_int Tryz.underlying42 g4
    simp only [List.cons.injEq, and_true] at e4
    subst e4
    have g5 : DataW.trod enc Tryz.prog w base (fun _ => true) held n 3 [v5] = some y5 := by
      have := hf 5 _ rfl
      simpa [k1] using this
    obtain ⟨i5, e5, _, w5⟩ := DataW.trod_int Tryz.underlying3 g5
    simp only [List.cons.injEq, and_true] at e5
    subst e5
    have g6 : DataW.trod enc Tryz.prog w base (fun _ => true) held n 23 [v6] = some y6 := by
      have := hf 6 _ rfl
      simpa [k2] using this
    obtain ⟨i6, e6, _, w6⟩ := DataW.trod_int Tryz.underlying23 g6
    simp only [List.cons.injEq, and_true] at e6
    subst e6
    obtain ⟨x6, rfl⟩ := n64_of w6
    have g7 : DataW.trod enc Tryz.prog w base (fun _ => true) held n 23 [v7] = some y7 := by
      have := hf 7 _ rfl
      simpa [k2] using this
    obtain ⟨i7, e7, _, w7⟩ := DataW.trod_int Tryz.underlying23 g7
    simp only [List.cons.injEq, and_true] at e7
    subst e7
    obtain ⟨x7, rfl⟩ := n64_of w7
    have g8 : DataW.trod enc Tryz.prog w base (fun _ => true) held n 3 [v8] = some y8 := by
      have := hf 8 _ rfl
      simpa [k1] using this
    obtain ⟨i8, e8, _, w8⟩ := DataW.trod_int Tryz.underlying3 g8
    simp only [List.cons.injEq, and_true] at e8
    subst e8
    have g9 : DataW.trod enc Tryz.prog w base (fun _ => true) held n 23 [v9] = some y9 := by
      have := hf 9 _ rfl
      simpa [k2] using this
    obtain ⟨i9, e9, _, w9⟩ := DataW.trod_int Tryz.underlying23 g9
    simp only [List.cons.injEq, and_true] at e9
    subst e9
    obtain ⟨x9, rfl⟩ := n64_of w9
    have g10 : DataW.trod enc Tryz.prog w base (fun _ => true) held n 3 [v10] = some y10 := by
      have := hf 10 _ rfl
      simpa [k1] using this
    obtain ⟨i10, e10, _, w10⟩ := DataW.trod_int Tryz.underlying3 g10
    simp only [List.cons.injEq, and_true] at e10
    subst e10
    have g11 : DataW.trod enc Tryz.prog w base (fun _ => true) held n 23 [v11] = some y11 := by
      have := hf 11 _ rfl
      simpa [k2] using this
    obtain ⟨i11, e11, _, w11⟩ := DataW.trod_int Tryz.underlying23 g11
    simp only [List.cons.injEq, and_true] at e11
    subst e11
    obtain ⟨x11, rfl⟩ := n64_of w11
    have g12 : DataW.trod enc Tryz.prog w base (fun _ => true) held n 3 [v12] = some y12 := by
      have := hf 12 _ rfl
      simpa [k1] using this
    obtain ⟨i12, e12, _, w12⟩ := DataW.trod_int Tryz.underlying3 g12
    simp only [List.cons.injEq, and_true] at e12
    subst e12
    have g13 : DataW.trod enc Tryz.prog w base (fun _ => true) held n 23 [v13] = some y13 := by
      have := hf 13 _ rfl
      simpa [k2] using this
    obtain ⟨i13, e13, _, w13⟩ := DataW.trod_int Tryz.underlying23 g13
    simp only [List.cons.injEq, and_true] at e13
    subst e13
    obtain ⟨x13, rfl⟩ := n64_of w13
    have g14 : DataW.trod enc Tryz.prog w base (fun _ => true) held n 23 [v14] = some y14 := by
      have := hf 14 _ rfl
      simpa [k2] using this
    obtain ⟨i14, e14, _, w14⟩ := DataW.trod_int Tryz.underlying23 g14
    simp only [List.cons.injEq, and_true] at e14
    subst e14
    obtain ⟨x14, rfl⟩ := n64_of w14
    have g15 : DataW.trod enc Tryz.prog w base (fun _ => true) held n 3 [v15] = some y15 := by
      have := hf 15 _ rfl
      simpa [k1] using this
    obtain ⟨i15, e15, _, w15⟩ := DataW.trod_int Tryz.underlying3 g15
    simp only [List.cons.injEq, and_true] at e15
    subst e15
    exact ⟨⟨i0, i1, i2, x3, i4, i5, x6, x7, i8, x9, i10, x11, i12, x13, x14, i15⟩, rfl, w1⟩
theorem open_rws {fuel : Nat} {v : Value} {y : DataW H × List MemPlace} (h : DataW.trod enc Tryz.prog w base (fun _ => true) held fuel 22 [v] = some y) (hz : ∀ q ∈ y.1.weights Tryz.prog 22, q ≤ reachBytes) :
    ∃ O : List Rw, Rws w v O ∧ (∀ r ∈ O, (Lit.int .i64 r.kd).wf = true) ∧ O.length * 128 ≤ 140737488351232 := by
  rcases DataW.trod_slice Tryz.underlying22 h with ⟨e, _⟩ | ⟨a, len, cap, elems, rest, n, _, e, hy, _, hl, hm, hel, hc, _, _⟩
  · simp at e
    subst e
    exact ⟨[], ⟨none, 0, rfl, Nat.le_refl _, fun _ => rfl, fun hn => absurd rfl hn⟩, fun j hj => by simp at hj, by simp⟩
  · simp at e
    subst e
    have hlen : len * 128 ≤ reachBytes := by
      have hmem : (elems.length + rest.length) * 128 ∈ y.1.weights Tryz.prog 22 := by
        rw [hy]; simp [DataW.weights, Tryz.underlying22, bytesRw]
      have := hz _ hmem
      omega
    have each : ∀ i, i < len → ∃ x : Rw, (∀ c, c < 16 → w.cell? ((a.add (i * 16)).add c) = (rwc x)[c]?) ∧ (Lit.int .i64 x.kd).wf = true := by
      intro i hi
      have hci := hc i hi
      rw [cellsRw] at hci
      have hei : ∃ z, elems[i]? = some z := ⟨elems[i]'(by omega), List.getElem?_eq_getElem (by omega)⟩
      obtain ⟨z, hzz⟩ := hei
      rw [hzz] at hci
      obtain ⟨cs, hcs, ht⟩ := Option.bind_eq_some_iff.1 hci
      obtain ⟨x, hx, hok⟩ := open_rw ht
      obtain ⟨_, _, hcell⟩ := World.cells?_some hcs
      exact ⟨x, fun c hc' => by rw [hcell c hc', hx, Array.getElem?_toList], hok⟩
    obtain ⟨O, hLl, hLp⟩ := choose_listU rz len each
    subst hLl
    refine ⟨O, ⟨some a, cap, rfl, hl, (fun e => by cases e), fun hne => ?_⟩, fun r hr => ?_, by simp only [reachBytes] at hlen; omega⟩
    · have hpos : 0 < O.length := List.length_pos_iff.2 hne
      obtain ⟨b, off, spot⟩ := a
      have hc0 := (hLp 0 hpos).1 0 (by omega)
      have hsp : (((⟨b, off, spot⟩ : Addr).add (0 * 16)).add 0).spot = none := World.cell?_spot (v := .int .i64 (O.getD 0 rz).st) hc0
      have hspot : spot = none := by simpa [Addr.add] using hsp
      subst hspot
      have hadd : ∀ (x y : Nat), (⟨b, x, none⟩ : Addr).add y = ⟨b, x + y, none⟩ := fun x y => by unfold Addr.add; split <;> simp_all
      have hc0' : w.cell? ⟨b, off, none⟩ = some (.int .i64 (O.getD 0 rz).st) := by
        have := hc0; rw [hadd, hadd] at this; simpa [rwc] using this
      refine ⟨b, off, rfl, World.block_lt_of_cell? w _ hc0', fun j hj c v hv => ?_⟩
      have hc16 : c < 16 := (Array.getElem?_eq_some_iff.1 hv).1
      have := (hLp j hj).1 c hc16; rw [hadd, hadd] at this; rw [this]; exact hv
    · obtain ⟨j, hj, e⟩ := List.getElem_of_mem hr
      have q := (hLp j hj).2
      have e2 : O.getD j rz = r := by simp [hj, e]
      rw [e2] at q; exact q
theorem cellsTr : Tryz.prog.cellsOf 35 = 86 := by kernel_rfl
theorem open_trace {fuel : Nat} {cs : List Value} {y : DataW H × List MemPlace} (h : DataW.trod enc Tryz.prog w base (fun _ => true) held fuel 35 cs = some y) (hz : ∀ q ∈ y.1.weights Tryz.prog 35, q ≤ reachBytes) :
    ∃ (l : List Rw) (v : Value) (K : Cp) (f c : Int) (u : Value) (ub : List Int), cs = (trc v K f c u).toList ∧ Rws w v l ∧ (∀ r ∈ l, (Lit.int .i64 r.kd).wf = true) ∧ l.length * 128 ≤ 140737488351232 ∧ Byt w u ub ∧ ub.length ≤ 140737488351232 := by
  obtain ⟨xs, n, _, rfl, hl, hlen, hf⟩ := DataW.trod_struct Tryz.underlying35 h
  rw [cellsTr] at hl
  have k0 : Tryz.prog.cellsOf 22 = 1 := by kernel_rfl
  have k1 : Tryz.prog.cellsOf 3 = 1 := by kernel_rfl
  have k2 : Tryz.prog.cellsOf 33 = 1 := by kernel_rfl
  match xs, (show xs.length = 5 from hlen), hf, hz with
  | [y0, y1, y2, y3, y4], _, hf, hz =>
    have g0 : DataW.trod enc Tryz.prog w base (fun _ => true) held n 22 ((cs.drop 0).take 1) = some y0 := by
      have := hf 0 _ rfl
      simpa [k0] using this
    have g1 : DataW.trod enc Tryz.prog w base (fun _ => true) held n 32 ((cs.drop 1).take 82) = some y1 := by
      have := hf 1 _ rfl
      simpa [cells_cpu] using this
    have g2 : DataW.trod enc Tryz.prog w base (fun _ => true) held n 3 ((cs.drop 83).take 1) = some y2 := by
      have := hf 2 _ rfl
      simpa [k1] using this
    have g3 : DataW.trod enc Tryz.prog w base (fun _ => true) held n 3 ((cs.drop 84).take 1) = some y3 := by
      have := hf 3 _ rfl
      simpa [k1] using this
    have g4 : DataW.trod enc Tryz.prog w base (fun _ => true) held n 33 ((cs.drop 85).take 1) = some y4 := by
      have := hf 4 _ rfl
      simpa [k2] using this
    have z0 : ∀ q ∈ y0.1.weights Tryz.prog 22, q ≤ reachBytes := fun q hq => hz q (by
      simp only [DataW.weights, Tryz.underlying35]
      exact DataW.weights_mem_each (j := 0) (t := 22) (d := y0.1) rfl rfl q hq)
    have z4 : ∀ q ∈ y4.1.weights Tryz.prog 33, q ≤ reachBytes := fun q hq => hz q (by
      simp only [DataW.weights, Tryz.underlying35]
      exact DataW.weights_mem_each (j := 4) (t := 33) (d := y4.1) rfl rfl q hq)
    have one : ∀ j, j < 86 → ∃ a, (cs.drop j).take 1 = [a] := fun j hj => by
      have : (cs.drop j) = cs[j]'(by omega) :: cs.drop (j + 1) := List.drop_eq_getElem_cons (by omega)
      rw [this]; exact ⟨_, rfl⟩
    obtain ⟨v, e0⟩ := one 0 (by omega)
    obtain ⟨i2, e2⟩ := one 83 (by omega)
    obtain ⟨i3, e3⟩ := one 84 (by omega)
    obtain ⟨u, e4⟩ := one 85 (by omega)
    rw [e0] at g0
    rw [e2] at g2
    rw [e3] at g3
    rw [e4] at g4
    obtain ⟨l, hR, hk, hb⟩ := open_rws g0 z0
    obtain ⟨K, hK⟩ := open_cpu g1
    obtain ⟨f, q2, _, _⟩ := DataW.trod_int Tryz.underlying3 g2
    obtain ⟨c, q3, _, _⟩ := DataW.trod_int Tryz.underlying3 g3
    simp only [List.cons.injEq, and_true] at q2 q3
    subst q2 q3
    obtain ⟨ub, au, cu, hue, hB0, -, hbl⟩ := open_bytes g4 z4
    have hB : Byt w u ub := by rw [hue]; exact hB0
    refine ⟨l, v, K, f, c, u, ub, ?_, hR, hk, hb, hB, hbl⟩
    have e : cs = (cs.drop 0).take 1 ++ ((cs.drop 1).take 82 ++ ((cs.drop 83).take 1 ++ ((cs.drop 84).take 1 ++ (cs.drop 85).take 1))) := by
      have q5 : (cs.drop 85).take 1 = cs.drop 85 := List.take_of_length_le (by rw [List.length_drop, hl]; omega)
      have s4 : (cs.drop 84).take 1 ++ cs.drop 85 = cs.drop 84 := by rw [show cs.drop 85 = (cs.drop 84).drop 1 by rw [List.drop_drop], List.take_append_drop]
      have s3 : (cs.drop 83).take 1 ++ cs.drop 84 = cs.drop 83 := by rw [show cs.drop 84 = (cs.drop 83).drop 1 by rw [List.drop_drop], List.take_append_drop]
      have s1 : (cs.drop 1).take 82 ++ cs.drop 83 = cs.drop 1 := by rw [show cs.drop 83 = (cs.drop 1).drop 82 by rw [List.drop_drop], List.take_append_drop]
      rw [q5, s4, s3, s1, List.drop_zero, List.take_append_drop]
    rw [e, e0, hK, e2, e3, e4]
    unfold trc
    simp
theorem open_trace1 {b0 : Nat} {v : Value} {d : DataW H} {p : List MemPlace} (hv : Value.okWide Tryz.prog w .any b0 35 v) (h : DataW.Trod enc Tryz.prog w base (fun _ => true) held 35 v d p) (hz : ∀ q ∈ d.weights Tryz.prog 35, q ≤ reachBytes) : ∃ (l : List Rw) (r : Value) (K : Cp) (f c : Int) (u : Value) (ub : List Int), v = .agg (trc r K f c u) ∧ Rws w r l ∧ (∀ x ∈ l, (Lit.int .i64 x.kd).wf = true) ∧ l.length * 128 ≤ 140737488351232 ∧ Byt w u ub ∧ ub.length ≤ 140737488351232 := by
  obtain ⟨cs, rfl, _⟩ := okWide_struct Tryz.underlying35 hv
  obtain ⟨fuel, hf⟩ := h
  obtain ⟨l, r, K, f, c, u, ub, e, h1, h2, h3, h4, h5⟩ := open_trace hf hz
  refine ⟨l, r, K, f, c, u, ub, ?_, h1, h2, h3, h4, h5⟩
  cases cs
  simpa [Value.cells] using congrArg List.toArray e
end
end Go.Proofs.YtidfndgedopghaaGreatDoor
namespace Go.Proofs.YtidfndgedopghaaGreatDoor
set_option linter.unusedVariables false
set_option maxRecDepth 100000
set_option maxHeartbeats 4000000
open Go.ChangeShapes Go.WideShapes Go.ChangeAt Go.RowKit Go.Deep
set_option maxHeartbeats 8000000 in
theorem watchTraces_walk (l : List Rw) (v : Value) (K : Cp) (f c : Int) (u : Value) (ub : List Int) (w : World) (hT : Tb w) (hv : Rws w v l) (hW : ∀ r ∈ l, (Lit.int .i64 r.kd).wf = true) (hl : l.length * 128 ≤ 140737488351232) (hu : Byt w u ub) (hub : ub.length ≤ 140737488351232) :
    Calls Tryz.prog 3 #[.agg (trc v K f c u)] w fun e w' => e = .returned (.bool true) ∧ Below w.heap.size w w' := by
  have hz := zero_tr
  obtain ⟨W0, hW0, r0, b0, s0⟩ := start1 w (trc v K f c u) 35
  have BB := Hid.mkU b0.out
  have HV : Hid (∀ W, Below w.heap.size w W → Rws W v l) := fun W h => hv.later h
  have HU : Hid (∀ W, Below w.heap.size w W → Byt W u ub) := fun W h => hu.later h rfl
  have HT := Hid.mkU hT
  have HC : Hid (Calls Tryz.prog 6 #[.agg (trc v K f c u)] W0 fun e w' => ∃ v' u', e = .returned (.agg (trc v' K f c u')) ∧ Rws w' v' l ∧ Byt w' u' ub ∧ Below W0.heap.size W0 w') := ctrace_c l v K f c u ub W0 (hv.later b0.out) (hu.later b0.out rfl) (by omega) (by omega)
  have HTR : Hid (∀ (v' u' : Value) (W : World), Rws W v' l → Calls Tryz.prog 7 #[.agg (trc v' K f c u')] W fun e w' => e = .returned (.tuple #[.int .i64 (trV (kpB l) l.length (enV l K)).1, .int .i64 (trV (kpB l) l.length (enV l K)).2]) ∧ Below W.heap.size W w') := fun v' u' W h => trace_c l v' K f c u' W h (by omega) hW
  have HRT : Hid (∀ (W : World), Below w.heap.size w W → Calls Tryz.prog 8 #[.agg (trc v K f c u)] W fun e w' => e = .returned (.tuple #[.int .i64 (trV (kpB l) l.length (enV l K)).1, .int .i64 (trV (kpB l) l.length (enV l K)).2]) ∧ Below W.heap.size W w') := fun W h => by rw [tr_eq]; exact rtrace_c l v K f c u W (hv.later h) (by omega)
  have HSM : Hid (∀ (v' u' : Value) (W : World), Below w.heap.size w W → Rws W v' l → Byt W u' ub → Calls Tryz.prog 9 #[.agg (trc v' K f c u'), .agg (trc v K f c u)] W fun e w' => e = .returned (.bool true) ∧ Below W.heap.size W w') := fun v' u' W h h1 h2 => strace_c l v' v K f c u' u ub W h1 (hv.later h) h2 (hu.later h rfl) (by omega)
  have HO1 := Hid.mkU hv.one
  clear hv hu hT hW hl hub b0 s0
  generalize trV (kpB l) l.length (enV l K) = Z at *
  go_enter Tryz.func3, Tryz.ntmps3
  go_upto_region 1 with fail
  clear hW0
  go_upto_region 2 with (first | (refine wpList_load_row (by rfl) _ _ (by rfl) _ (by rfl) 35 _ (0, 0) _ r0.out Tryz.underlying35 (by rfl) (info_tr ..) ?_) | (go_at_call 6; refine HC.out.mono ?_; rintro e w1 ⟨v', u', rfl, q1, q2, q3⟩; have HRX := Hid.mkU q1; have HBX := Hid.mkU q2; have HB1 := Hid.mkU q3; have HON : Hid ((trc v' K f c u').all (·.oneCell') = true) := trc_ones _ _ _ _ _ q1.one (by obtain ⟨a, cap, e, -⟩ := q2; rw [e]; rfl); clear q1 q2 q3) | (refine wpList_store_new (by rfl) 35 _ _ (by rfl) (by rfl) trz (trc v' K f c u') (by rfl) (by rfl) (info_tr ..) (by unfold trz; rw [trc_size, trc_size]) HON.out ?_))
  --@R2
  refine on_W (motive := fun W => Code.wp _ _ _ _ W) (Q := fun W => Row W w.heap.size (trc v K f c u) 35 ∧ Row W w1.heap.size (trc v' K f c u') 35 ∧ Below w.heap.size w W ∧ Rws W v' l ∧ Byt W u' ub) ⟨(r0.out.later HB1.out r0.out.lt).old (r0.out.later HB1.out r0.out.lt).lt _, Row.new _ _ _, BB.out.trans ((HB1.out.trans ((below_al _ _).mono HB1.out.size)).mono BB.out.size), HRX.out.later (below_al _ _), HBX.out.later (below_al _ _) rfl⟩ ?_
  generalize w1.heap.size = gx at *
  clear r0 BB HRX HBX HB1 HON HC hz
  rintro W2 ⟨q0, q1, q2, q3, q4⟩
  have r0 := Hid.mkU q0
  have r1 := Hid.mkU q1
  have BB := Hid.mkU q2
  have HRX := Hid.mkU q3
  have HBX := Hid.mkU q4
  clear q0 q1 q2 q3 q4 W0
  go_upto_region 3 with (first | (refine wpList_load_row (by rfl) _ _ (by rfl) _ (by rfl) 35 _ (0, 0) _ r1.out Tryz.underlying35 (by rfl) (info_tr ..) ?_) | (go_at_call 7; refine (HTR.out v' u' _ HRX.out).mono ?_; rintro e w2 ⟨rfl, hb⟩; have HB2 := Hid.mkU hb; clear hb))
  --@R3
  have r02 := Hid.mkU (r0.out.later HB2.out r0.out.lt)
  have r12 := Hid.mkU (r1.out.later HB2.out r1.out.lt)
  have BB2 := Hid.mkU (BB.out.trans (HB2.out.mono BB.out.size))
  have HRX2 := Hid.mkU (HRX.out.later HB2.out)
  have HBX2 := Hid.mkU (HBX.out.later HB2.out rfl)
  clear r0 r1 BB HRX HBX HB2 HTR
  go_upto_region 4 with (first | (refine wpList_load_row (by rfl) _ _ (by rfl) _ (by rfl) 35 _ (0, 0) _ r02.out Tryz.underlying35 (by rfl) (info_tr ..) ?_) | (go_at_call 8; refine (HRT.out _ BB2.out).mono ?_; rintro e w3 ⟨rfl, hb⟩; have HB3 := Hid.mkU hb; clear hb))
  --@R4
  have r0 := Hid.mkU (r02.out.later HB3.out r02.out.lt)
  have r1 := Hid.mkU (r12.out.later HB3.out r12.out.lt)
  have BB := Hid.mkU (BB2.out.trans (HB3.out.mono BB2.out.size))
  have HRX := Hid.mkU (HRX2.out.later HB3.out)
  have HBX := Hid.mkU (HBX2.out.later HB3.out rfl)
  clear r02 r12 BB2 HRX2 HBX2 HB3 HRT
  have HS : Hid (∀ x : Later w3, Calls Tryz.prog 9 #[.agg (trc v' K f c u'), .agg (trc v K f c u)] x.1 fun e w' => e = .returned (.bool true) ∧ Below x.1.heap.size x.1 w') := fun x => HSM.out v' u' x.1 (BB.out.trans (x.2.mono BB.out.size)) (HRX.out.later x.2) (HBX.out.later x.2 rfl)
  have HF : Hid (∀ x : Later w3, Calls Tryz.prog 10 #[] x.1 fun e w' => e = .returned (.bool true) ∧ Below x.1.heap.size x.1 w') := fun x => first_c x.1 (HT.out.next (BB.out.trans (x.2.mono BB.out.size)))
  have hne := later_nonempty w3
  clear HSM HRX HBX HV HU
  obtain ⟨z1, z2⟩ := Z
  refine wp_region_plain (x0 := Later.start w3) ?_
  (go_big_quiet_step (fail))
  (go_big_quiet_step (fail))
  (go_big_quiet_step (fail))
  (go_big_quiet_step (fail))
  (go_big_quiet_step (fail))
  (go_big_quiet_step (fail))
  (go_big_quiet_step (fail))
  (go_big_quiet_step (fail))
  (go_big_quiet_step (fail))
  (first | (go_big_quiet_want; refine quiet_load_agg 35 _ (by rfl) gx 0 (by rfl) (trc v' K f c u') _ r1.out.lt (lrow_cells r1.out) Tryz.underlying35 (by rfl) (info_tr ..) ?_; simp only [Act.put, List.setIfInBounds_toArray, List.set_cons_succ, List.set_cons_zero]; go_big_quiet_on) | (go_big_quiet_want; refine quiet_load_agg 35 _ (by rfl) w.heap.size 0 (by rfl) (trc v K f c u) _ r0.out.lt (lrow_cells r0.out) Tryz.underlying35 (by rfl) (info_tr ..) ?_; simp only [Act.put, List.setIfInBounds_toArray, List.set_cons_succ, List.set_cons_zero]; go_big_quiet_on))
  (first | (go_big_quiet_want; refine quiet_load_agg 35 _ (by rfl) gx 0 (by rfl) (trc v' K f c u') _ r1.out.lt (lrow_cells r1.out) Tryz.underlying35 (by rfl) (info_tr ..) ?_; simp only [Act.put, List.setIfInBounds_toArray, List.set_cons_succ, List.set_cons_zero]; go_big_quiet_on) | (go_big_quiet_want; refine quiet_load_agg 35 _ (by rfl) w.heap.size 0 (by rfl) (trc v K f c u) _ r0.out.lt (lrow_cells r0.out) Tryz.underlying35 (by rfl) (info_tr ..) ?_; simp only [Act.put, List.setIfInBounds_toArray, List.set_cons_succ, List.set_cons_zero]; go_big_quiet_on))
  (go_big_quiet_step ((go_at_call 9; exact calls_later (HS.out _))))
  (go_big_quiet_step (fail))
  (go_big_quiet_step (fail))
  (go_big_quiet_step ((go_at_call 10; exact calls_later (HF.out _))))
  (go_big_quiet_step (fail))
  (go_big_quiet_step (fail))
  refine wpQuiet_nil ?_
  rintro _ ⟨yq, rfl⟩
  go_wp2
  go_ret
  exact ⟨rfl, BB.out.trans (yq.2.mono BB.out.size)⟩
end Go.Proofs.YtidfndgedopghaaGreatDoor
namespace Go.Proofs.YtidfndgedopghaaGreatDoor
set_option linter.unusedVariables false
open Go.ChangeShapes Go.WideShapes Go.ChangeAt Go.RowKit Go.Deep Go.Lib Go.Shelf
theorem tab_eq : (Rows.laid_math_bits_deBruijn64tab : DataW Unit) = tabData .u8 (Lib.deBruijn64tab.map Int.ofNat) := by kernel_rfl
theorem tb_of_reads {W : World} (h : VarReads Tryz.prog W "math/bits.deBruijn64tab" (Rows.laid_math_bits_deBruijn64tab : DataW Unit)) : Tb W := by
  rw [tab_eq] at h
  obtain ⟨g', t', cs, fuel, p, hg', ht', hvar, hd⟩ := h
  obtain rfl := Option.some.inj ((show Tryz.prog.globalNamed "math/bits.deBruijn64tab" = some 0 by kernel_rfl).symm.trans hg')
  obtain rfl := Option.some.inj ((show (Tryz.prog.globals[0]?).map (·.type) = some 137 by kernel_rfl).symm.trans ht')
  have hc := cells_of_tab Tryz.underlying137 Tryz.underlying5 (by kernel_rfl) (by kernel_rfl) hd
  intro j hj
  have hh : ∃ t fr, W.heap[0]? = some (.cells cs t fr) := by
    unfold World.var? at hvar
    rw [hg'] at hvar
    simp only [Option.bind_some] at hvar
    split at hvar
    · rename_i c1 t1 fr1 hq
      simp only [Option.some.injEq] at hvar
      subst hvar
      exact ⟨t1, fr1, hq⟩
    · cases hvar
  obtain ⟨t, fr, hh⟩ := hh
  rw [cell_of_row W 0 j cs t fr hh, ← Array.getElem?_toList, hc, List.getElem?_map, List.getElem?_map, List.getElem?_eq_getElem (show j < Lib.deBruijn64tab.length from hj)]
  simp [List.getD, List.getElem?_eq_getElem (show j < Lib.deBruijn64tab.length from hj)]
end Go.Proofs.YtidfndgedopghaaGreatDoor
