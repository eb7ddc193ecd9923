/-
  Dlb.
-/
import Derived.Test.YthmjimmmkoeeoaaDoorM36
import Derived.Test.YthmjimmmkoeeoaaDoorM37
namespace Go.Proofs.YthmjimmmkoeeoaaDoor
set_option linter.unusedVariables false
set_option maxRecDepth 100000
open Go.ChangeShapes Go.WideShapes Go.ChangeAt Go.RowKit Go.Deep
section
variable {H : Type} {enc : TypeId × Value → H} {w : World} {base : Nat} {held : Bool}
theorem choose_listD {α : Type} (d : α) {P : Nat → α → Prop} (n : Nat) : (∀ i, i < n → ∃ x, P i x) → ∃ L : List α, L.length = n ∧ ∀ i, i < n → P i (L.getD i d) := by
  induction n with
  | zero => intro _; exact ⟨[], rfl, fun i hi => by omega⟩
  | succ n ih =>
    intro h
    obtain ⟨L, hl, hp⟩ := ih (fun i hi => h i (by omega))
    obtain ⟨x, hx⟩ := h n (by omega)
    refine ⟨L ++ [x], by rw [List.length_append, hl]; rfl, fun i hi => ?_⟩
    by_cases e : i = n
    · subst e
      have : (L ++ [x]).getD i d = x := by unfold List.getD; rw [List.getElem?_append_right (by omega), hl, Nat.sub_self]; rfl
      rw [this]; exact hx
    · have : (L ++ [x]).getD i d = L.getD i d := by unfold List.getD; rw [List.getElem?_append_left (by omega)]
      rw [this]; exact hp i (by omega)
theorem weights_allD {P : Program} {e : TypeId} : ∀ {ds : List (DataW H)} {i : Nat} {d : DataW H}, ds[i]? = some d → ∀ n ∈ d.weights P e, n ∈ DataW.weightsAll P e ds
  | d0 :: ds, 0, d, hd, n, hn => by
    simp only [List.getElem?_cons_zero, Option.some.injEq] at hd
    subst hd
    simp only [DataW.weightsAll, List.mem_append]
    exact Or.inl hn
  | d0 :: ds, i + 1, d, hd, n, hn => by
    simp only [List.getElem?_cons_succ] at hd
    simp only [DataW.weightsAll, List.mem_append]
    exact Or.inr (weights_allD hd n hn)
  | [], i, d, hd, n, hn => by simp at hd
theorem cellsU8D : Tryd.prog.cellsOf 5 = 1 := by kernel_rfl
theorem bytesU8D : Tryd.prog.bytesOf 5 = 1 := by kernel_rfl
theorem open_bytesB {fuel : Nat} {v : Value} {y : DataW H × List MemPlace} (h : DataW.trod enc Tryd.prog w base (fun _ => true) held fuel 44 [v] = some y) (hz : ∀ q ∈ y.1.weights Tryd.prog 44, q ≤ reachBytes) :
    ∃ l : List Int, Byt w v l ∧ AllB l ∧ l.length ≤ 140737488351232 := by
  rcases Go.ChangeShapes.open_ints Tryd.underlying44 Tryd.underlying5 cellsU8D h with ⟨e3, hy3⟩ | ⟨a, len, cap, zs, e3, _, hl, hm, hzl, hy3, hcell, hwz⟩
  · simp at e3
    subst e3
    exact ⟨[], Byt.nil w, fun x hx => by simp at hx, by simp⟩
  · simp at e3
    subst e3
    simp only [if_true] at hzl
    have hlen : (zs.take len).length = len := by simp; omega
    have hw : (lits .u8 (zs.take len) : List (DataW H)).length + (lits .u8 (zs.drop len) : List (DataW H)).length ≤ reachBytes := by
      have hmem : ((lits .u8 (zs.take len) : List (DataW H)).length + (lits .u8 (zs.drop len) : List (DataW H)).length) * 1 ∈ y.1.weights Tryd.prog 44 := by
        rw [hy3]
        simp [DataW.weights, Tryd.underlying44, bytesU8D]
      have := hz _ hmem
      omega
    have hbk : (zs.take len).length ≤ 140737488351232 := by
      simp [lits, reachBytes] at hw
      omega
    refine ⟨zs.take len, ?_, ?_, hbk⟩
    · refine ⟨some a, cap, by rw [hlen], by rw [hlen]; omega, fun e => (by cases e), fun hne => ?_⟩
      have hpos : 0 < len := by
        rcases Nat.eq_zero_or_pos len with e | e
        · subst e; simp at hne
        · exact e
      obtain ⟨b, off, spot⟩ := a
      have hc := hcell 0 (by omega)
      have hspot : spot = none := by simpa [Addr.add] using World.cell?_spot hc
      subst hspot
      refine ⟨b, off, rfl, World.block_lt_of_cell? w _ hc, fun j hj => ?_⟩
      have hj' : j < len := by rw [hlen] at hj; exact hj
      have hcj := hcell j (by omega)
      rw [addAt] at hcj
      rw [hcj]
      simp [List.getD, hj']
    · intro z hzm
      have := hwz z (List.mem_of_mem_take hzm)
      have hb8 := bounds_u8 this
      omega
theorem cellsSg : Tryd.prog.cellsOf 46 = 4 := by kernel_rfl
theorem cellsWd : Tryd.prog.cellsOf 48 = 4 := by kernel_rfl
theorem bytesSg : Tryd.prog.bytesOf 46 = 48 := by kernel_rfl
theorem bytesWd : Tryd.prog.bytesOf 48 = 32 := by kernel_rfl
theorem open_sgD {fuel : Nat} {cs : List Value} {y : DataW H × List MemPlace} (h : DataW.trod enc Tryd.prog w base (fun _ => true) held fuel 46 cs = some y) (hz : ∀ q ∈ y.1.weights Tryd.prog 46, q ≤ reachBytes) :
    ∃ x : Pt, sgE w x cs.toArray ∧ x.d.length ≤ 140737488351232 := by
  obtain ⟨y0, y1, y2, y3, m, hx, hlen, h0, h1, h2, h3⟩ := Go.Joins.trod_struct4 Tryd.underlying46 h
  have z3 : ∀ q ∈ y3.1.weights Tryd.prog 44, q ≤ reachBytes := fun q hq => hz q (by
    rw [hx]
    simp only [DataW.weights, Tryd.underlying46]
    exact DataW.weights_mem_each (j := 3) (t := 44) (d := y3.1) rfl rfl q hq)
  rw [cellsSg] at hlen
  have c0 : Tryd.prog.cellsOf 22 = 1 := by kernel_rfl
  have c1 : Tryd.prog.cellsOf 3 = 1 := by kernel_rfl
  have c2 : Tryd.prog.cellsOf 44 = 1 := by kernel_rfl
  match cs, hlen with
  | [v0, v1, v2, v3], _ =>
    simp only [c0, c1, c2] at h0 h1 h2 h3
    obtain ⟨i0, e0, _, w0⟩ := DataW.trod_int Tryd.underlying22 h0
    obtain ⟨i1, e1, _, w1⟩ := DataW.trod_int Tryd.underlying22 h1
    obtain ⟨i2, e2, _, w2⟩ := DataW.trod_int Tryd.underlying3 h2
    simp at e0 e1 e2
    subst e0 e1 e2
    obtain ⟨x0, rfl⟩ := n64_of w0
    obtain ⟨x1, rfl⟩ := n64_of w1
    obtain ⟨l, hB, hA, hl⟩ := open_bytesB (v := v3) h3 z3
    refine ⟨⟨x0, x1, i2, l⟩, ⟨v3, rfl, hB, hA⟩, hl⟩
theorem open_wdD {fuel : Nat} {cs : List Value} {y : DataW H × List MemPlace} (h : DataW.trod enc Tryd.prog w base (fun _ => true) held fuel 48 cs = some y) (hz : ∀ q ∈ y.1.weights Tryd.prog 48, q ≤ reachBytes) :
    ∃ x : Wd, wdE w x cs.toArray ∧ x.i.length ≤ 140737488351232 := by
  obtain ⟨y0, y1, y2, y3, m, hx, hlen, h0, h1, h2, h3⟩ := Go.Joins.trod_struct4 Tryd.underlying48 h
  have z3 : ∀ q ∈ y3.1.weights Tryd.prog 44, q ≤ reachBytes := fun q hq => hz q (by
    rw [hx]
    simp only [DataW.weights, Tryd.underlying48]
    exact DataW.weights_mem_each (j := 3) (t := 44) (d := y3.1) rfl rfl q hq)
  rw [cellsWd] at hlen
  have c0 : Tryd.prog.cellsOf 4 = 1 := by kernel_rfl
  have c2 : Tryd.prog.cellsOf 44 = 1 := by kernel_rfl
  match cs, hlen with
  | [v0, v1, v2, v3], _ =>
    simp only [c0, c2] at h0 h1 h2 h3
    obtain ⟨i0, e0, _⟩ := DataW.trod_bool Tryd.underlying4 h0
    obtain ⟨i1, e1, _⟩ := DataW.trod_bool Tryd.underlying4 h1
    obtain ⟨i2, e2, _⟩ := DataW.trod_bool Tryd.underlying4 h2
    simp at e0 e1 e2
    subst e0 e1 e2
    obtain ⟨l, hB, hA, hl⟩ := open_bytesB (v := v3) h3 z3
    refine ⟨⟨i0, i1, i2, l⟩, ⟨v3, rfl, hB, hA⟩, hl⟩
theorem open_ls4 {α : Type} (E : World → α → Array Value → Prop) (B : α → Nat) (z : α) {t e : TypeId} (ht : Tryd.prog.underlying t = some (.slice e)) (h4 : Tryd.prog.cellsOf e = 4) (S : Nat) (hS : Tryd.prog.bytesOf e = S)
    (one : ∀ (fuel : Nat) (cs : List Value) (y : DataW H × List MemPlace), DataW.trod enc Tryd.prog w base (fun _ => true) held fuel e cs = some y → (∀ q ∈ y.1.weights Tryd.prog e, q ≤ reachBytes) → ∃ x, E w x cs.toArray ∧ B x ≤ 140737488351232)
    {fuel : Nat} {v : Value} {y : DataW H × List MemPlace} (h : DataW.trod enc Tryd.prog w base (fun _ => true) held fuel t [v] = some y) (hz : ∀ q ∈ y.1.weights Tryd.prog t, q ≤ reachBytes) :
    ∃ L : List α, Ls4 E z w v L ∧ L.length * S ≤ 140737488351232 ∧ ∀ x ∈ L, B x ≤ 140737488351232 := by
  rcases DataW.trod_slice ht h with ⟨e, _⟩ | ⟨a, len, cap, elems, rest, n, _, e', hy, _, hl, hm, hel, hc, _, _⟩
  · simp at e
    subst e
    exact ⟨[], ⟨none, 0, rfl, Nat.le_refl _, fun _ => rfl, fun hn => absurd rfl hn⟩, by simp, fun x hx => by simp at hx⟩
  · simp at e'
    subst e'
    have hlen : len * S ≤ 140737488351232 := by
      have hmem : (elems.length + rest.length) * S ∈ y.1.weights Tryd.prog t := by
        rw [hy]; simp [DataW.weights, ht, hS]
      have h1 := hz _ hmem
      have h2 : len * S ≤ (elems.length + rest.length) * S := Nat.mul_le_mul_right S (by omega)
      have h3 : reachBytes = 140737488351232 := rfl
      omega
    have each : ∀ i, i < len → ∃ x : α, (∃ cs : Array Value, E w x cs ∧ cs.size = 4 ∧ ∀ c, c < 4 → w.cell? ((a.add (i * 4)).add c) = cs[c]?) ∧ B x ≤ 140737488351232 := by
      intro i hi
      have hci := hc i hi
      rw [h4] at hci
      have hei : ∃ z, elems[i]? = some z := ⟨elems[i]'(by omega), List.getElem?_eq_getElem (by omega)⟩
      obtain ⟨z, hzz⟩ := hei
      rw [hzz] at hci
      obtain ⟨cs, hcs, htr⟩ := Option.bind_eq_some_iff.1 hci
      have hzm : (elems.map (·.1))[i]? = some z.1 := by simp [hzz]
      obtain ⟨x, hx, hok⟩ := one _ _ _ htr (fun q hq => hz q (by
        rw [hy]
        simp only [DataW.weights, ht]
        refine List.mem_cons_of_mem _ (List.mem_append_left _ ?_)
        exact weights_allD hzm q hq))
      obtain ⟨_, hcl, hcell⟩ := World.cells?_some hcs
      exact ⟨x, ⟨cs.toArray, hx, by simpa using hcl, fun c hc' => by rw [hcell c hc', List.getElem?_toArray]⟩, hok⟩
    obtain ⟨L, hLl, hLp⟩ := choose_listD z len each
    subst hLl
    refine ⟨L, ⟨some a, cap, rfl, hl, (fun e => by cases e), fun hne => ?_⟩, hlen, fun x hx => ?_⟩
    · have hpos : 0 < L.length := List.length_pos_iff.2 hne
      obtain ⟨b, off, spot⟩ := a
      obtain ⟨⟨cs0, _, hs0, hc0⟩, _⟩ := hLp 0 hpos
      have hc0 := hc0 0 (by omega)
      have hu : cs0[0]? = some (cs0[0]'(by omega)) := Array.getElem?_eq_getElem (by omega)
      rw [hu] at hc0
      have hsp : (((⟨b, off, spot⟩ : Addr).add (0 * 4)).add 0).spot = none := World.cell?_spot hc0
      have hspot : spot = none := by simpa [Addr.add] using hsp
      subst hspot
      rw [addAt, addAt] at hc0
      refine ⟨b, off, rfl, World.block_lt_of_cell? w _ hc0, fun j hj => ?_⟩
      obtain ⟨⟨cs, hE, hs, hcc⟩, _⟩ := hLp j hj
      refine ⟨cs, hE, hs, fun c u hu => ?_⟩
      have hc4 : c < 4 := by have := (Array.getElem?_eq_some_iff.1 hu).1; omega
      have := hcc c hc4
      rw [addAt, addAt] at this
      rw [this]; exact hu
    · obtain ⟨j, hj, e⟩ := List.getElem_of_mem hx
      have q := (hLp j hj).2
      have e2 : L.getD j z = x := by simp [hj, e]
      rw [e2] at q; exact q
theorem cellsDk : Tryd.prog.cellsOf 35 = 86 := by kernel_rfl
theorem cells_cpuD : Tryd.prog.cellsOf 31 = 82 := by kernel_rfl
theorem open_deck {fuel : Nat} {cs : List Value} {y : DataW H × List MemPlace} (h : DataW.trod enc Tryd.prog w base (fun _ => true) held fuel 35 cs = some y) (hz : ∀ q ∈ y.1.weights Tryd.prog 35, q ≤ reachBytes) :
    ∃ (r : Int) (K : Cp) (mt : BitVec 64) (ps : List Pt) (ws : List Wd) (v u : Value), cs = (dkc r K mt v u).toList ∧ (-9223372036854775808 ≤ r ∧ r ≤ 9223372036854775807) ∧ Pts w v ps ∧ Wds w u ws ∧ ps.length * 48 ≤ 140737488351232 ∧ ws.length * 32 ≤ 140737488351232 ∧ (∀ p ∈ ps, p.d.length ≤ 140737488351232) ∧ ∀ x ∈ ws, x.i.length ≤ 140737488351232 := by
  obtain ⟨xs, n, _, rfl, hl, hlen, hf⟩ := DataW.trod_struct Tryd.underlying35 h
  rw [cellsDk] at hl
  have k0 : Tryd.prog.cellsOf 3 = 1 := by kernel_rfl
  have k2 : Tryd.prog.cellsOf 22 = 1 := by kernel_rfl
  have k3 : Tryd.prog.cellsOf 32 = 1 := by kernel_rfl
  have k4 : Tryd.prog.cellsOf 33 = 1 := by kernel_rfl
  match xs, (show xs.length = 5 from hlen), hf, hz with
  | [y0, y1, y2, y3, y4], _, hf, hz =>
    have g0 : DataW.trod enc Tryd.prog w base (fun _ => true) held n 3 ((cs.drop 0).take 1) = some y0 := by
      have := hf 0 _ rfl
      simpa [k0] using this
    have g1 : DataW.trod enc Tryd.prog w base (fun _ => true) held n 31 ((cs.drop 1).take 82) = some y1 := by
      have := hf 1 _ rfl
      simpa [cells_cpuD] using this
    have g2 : DataW.trod enc Tryd.prog w base (fun _ => true) held n 22 ((cs.drop 83).take 1) = some y2 := by
      have := hf 2 _ rfl
      simpa [k2] using this
    have g3 : DataW.trod enc Tryd.prog w base (fun _ => true) held n 32 ((cs.drop 84).take 1) = some y3 := by
      have := hf 3 _ rfl
      simpa [k3] using this
    have g4 : DataW.trod enc Tryd.prog w base (fun _ => true) held n 33 ((cs.drop 85).take 1) = some y4 := by
      have := hf 4 _ rfl
      simpa [k4] using this
    have z3 : ∀ q ∈ y3.1.weights Tryd.prog 32, q ≤ reachBytes := fun q hq => hz q (by
      simp only [DataW.weights, Tryd.underlying35]
      exact DataW.weights_mem_each (j := 3) (t := 32) (d := y3.1) rfl rfl q hq)
    have z4 : ∀ q ∈ y4.1.weights Tryd.prog 33, q ≤ reachBytes := fun q hq => hz q (by
      simp only [DataW.weights, Tryd.underlying35]
      exact DataW.weights_mem_each (j := 4) (t := 33) (d := y4.1) rfl rfl q hq)
    have one : ∀ j, j < 86 → ∃ a, (cs.drop j).take 1 = [a] := fun j hj => by
      have : (cs.drop j) = cs[j]'(by omega) :: cs.drop (j + 1) := List.drop_eq_getElem_cons (by omega)
      rw [this]; exact ⟨_, rfl⟩
    obtain ⟨i0, e0⟩ := one 0 (by omega)
    obtain ⟨i2, e2⟩ := one 83 (by omega)
    obtain ⟨v, e3⟩ := one 84 (by omega)
    obtain ⟨u, e4⟩ := one 85 (by omega)
    rw [e0] at g0
    rw [e2] at g2
    rw [e3] at g3
    rw [e4] at g4
    obtain ⟨K, hK⟩ := open_cpu g1
    obtain ⟨r, q0, _, w0⟩ := DataW.trod_int Tryd.underlying3 g0
    obtain ⟨m, q2, _, w2⟩ := DataW.trod_int Tryd.underlying22 g2
    simp only [List.cons.injEq, and_true] at q0 q2
    subst q0 q2
    obtain ⟨mt, rfl⟩ := n64_of w2
    obtain ⟨ps, hP, hp1, hp2⟩ := open_ls4 sgE (fun x => x.d.length) pt0 Tryd.underlying32 cellsSg 48 bytesSg (fun _ _ _ => open_sgD) g3 z3
    obtain ⟨ws, hW, hw1, hw2⟩ := open_ls4 wdE (fun x => x.i.length) wd0 Tryd.underlying33 cellsWd 32 bytesWd (fun _ _ _ => open_wdD) g4 z4
    refine ⟨r, K, mt, ps, ws, v, u, ?_, ?_, hP, hW, hp1, hw1, hp2, hw2⟩
    · have e : cs = (cs.drop 0).take 1 ++ ((cs.drop 1).take 82 ++ ((cs.drop 83).take 1 ++ ((cs.drop 84).take 1 ++ (cs.drop 85).take 1))) := by
        have q5 : (cs.drop 85).take 1 = cs.drop 85 := List.take_of_length_le (by rw [List.length_drop, hl]; omega)
        have s4 : (cs.drop 84).take 1 ++ cs.drop 85 = cs.drop 84 := by rw [show cs.drop 85 = (cs.drop 84).drop 1 by rw [List.drop_drop], List.take_append_drop]
        have s3 : (cs.drop 83).take 1 ++ cs.drop 84 = cs.drop 83 := by rw [show cs.drop 84 = (cs.drop 83).drop 1 by rw [List.drop_drop], List.take_append_drop]
        have s1 : (cs.drop 1).take 82 ++ cs.drop 83 = cs.drop 1 := by rw [show cs.drop 83 = (cs.drop 1).drop 82 by rw [List.drop_drop], List.take_append_drop]
        rw [q5, s4, s3, s1, List.drop_zero, List.take_append_drop]
      rw [e, e0, hK, e2, e3, e4]
      unfold dkc
      simp
    · exact bounds_i64 w0
theorem open_deck1 {b0 : Nat} {v : Value} {d : DataW H} {p : List MemPlace} (hv : Value.okWide Tryd.prog w .any b0 35 v) (h : DataW.Trod enc Tryd.prog w base (fun _ => true) held 35 v d p) (hz : ∀ q ∈ d.weights Tryd.prog 35, q ≤ reachBytes) :
    ∃ (r : Int) (K : Cp) (mt : BitVec 64) (ps : List Pt) (ws : List Wd) (x u : Value), v = .agg (dkc r K mt x u) ∧ (-9223372036854775808 ≤ r ∧ r ≤ 9223372036854775807) ∧ Pts w x ps ∧ Wds w u ws ∧ ps.length * 48 ≤ 140737488351232 ∧ ws.length * 32 ≤ 140737488351232 ∧ (∀ p ∈ ps, p.d.length ≤ 140737488351232) ∧ ∀ x ∈ ws, x.i.length ≤ 140737488351232 := by
  obtain ⟨cs, rfl, _⟩ := okWide_struct Tryd.underlying35 hv
  obtain ⟨fuel, hf⟩ := h
  obtain ⟨r, K, mt, ps, ws, x, u, e, h1⟩ := open_deck hf hz
  refine ⟨r, K, mt, ps, ws, x, u, ?_, h1⟩
  cases cs
  simpa [Value.cells] using congrArg List.toArray e
end
end Go.Proofs.YthmjimmmkoeeoaaDoor
