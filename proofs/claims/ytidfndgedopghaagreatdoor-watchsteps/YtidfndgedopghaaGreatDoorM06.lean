/-
  Cop Ha Bsn Hb Hc Pbk.
-/
import Derived.Test.YtidfndgedopghaaGreatDoorM05
import Derived.Test.YtidfndgedopghaaGreatDoorM03
import Derived.Test.YtidfndgedopghaaGreatDoorM04
namespace Go.Proofs.YtidfndgedopghaaGreatDoor
set_option linter.unusedVariables false
set_option maxRecDepth 100000
open Go.ChangeShapes Go.WideShapes Go.ChangeAt Go.RowKit Go.Deep
section
variable {H : Type} {enc : TypeId × Value → H} {w : World} {base : Nat} {held : Bool}
theorem take1 {cs : List Value} {o : Nat} {v : Value} (h : (cs.drop o).take 1 = [v]) : cs[o]? = some v := by
  have h2 : ((cs.drop o).take 1)[0]? = some v := by rw [h]; rfl
  simpa using h2
theorem open_ints {k : IntKind} {t e : TypeId} {fuel m : Nat} {cs : List Value} {y : DataW H × List MemPlace} (ht : Tryz.prog.underlying t = some (.array m e)) (he : Tryz.prog.underlying e = some (.int k)) (hce : Tryz.prog.cellsOf e = 1)
    (h : DataW.trod enc Tryz.prog w base (fun _ => true) held fuel t cs = some y) : ∀ j, j < m → ∃ n, cs[j]? = some (.int k n) ∧ (Lit.int k n).wf = true := by
  obtain ⟨xs, m', _, _, _, hxl, hx⟩ := DataW.trod_array ht h
  intro j hj
  have h1 := hx j hj
  obtain ⟨q, hq⟩ : ∃ q, xs[j]? = some q := ⟨_, List.getElem?_eq_getElem (by omega)⟩
  rw [hq, hce, Nat.mul_one] at h1
  obtain ⟨n, e0, _, hw⟩ := DataW.trod_int he h1
  refine ⟨n, ?_, hw⟩
  have h2 : ((cs.drop j).take 1)[0]? = some (.int k n) := by rw [e0]; rfl
  simpa using h2
theorem cells_cpu : Tryz.prog.cellsOf 32 = 82 := by kernel_rfl
set_option maxRecDepth 10000 in
set_option maxHeartbeats 1000000 in
theorem open_cpu {fuel : Nat} {cs : List Value} {y : DataW H × List MemPlace} (h : DataW.trod enc Tryz.prog w base (fun _ => true) held fuel 32 cs = some y) : ∃ k : Cp, cs = (cpc k).toList := by
  obtain ⟨xs, n, _, rfl, hl, hlen, hf⟩ := DataW.trod_struct Tryz.underlying32 h
  rw [cells_cpu] at hl
  have cI : Tryz.prog.cellsOf 3 = 1 := by kernel_rfl
  have cB : Tryz.prog.cellsOf 4 = 1 := by kernel_rfl
  have cU : Tryz.prog.cellsOf 23 = 1 := by kernel_rfl
  have cX : Tryz.prog.cellsOf 24 = 32 := by kernel_rfl
  have cP : Tryz.prog.cellsOf 28 = 32 := by kernel_rfl
  have cR : Tryz.prog.cellsOf 30 = 3 := by kernel_rfl
  match xs, (show xs.length = 18 from hlen), hf with
  | [y0, y1, y2, y3, y4, y5, y6, y7, y8, y9, y10, y11, y12, y13, y14, y15, y16, y17], _, hf =>
    have g0 : DataW.trod enc Tryz.prog w base (fun _ => true) held n 23 ((cs.drop 0).take 1) = some y0 := by
      have := hf 0 _ rfl
      have this : DataW.trod enc Tryz.prog w base (fun _ => true) held n 23 ((cs.drop 0).take (Tryz.prog.cellsOf 23)) = some y0 := this
      rwa [cU] at this
    obtain ⟨z0, e0, _, w0⟩ := DataW.trod_int Tryz.underlying23 g0
    obtain ⟨v0, rfl⟩ := n64_of w0
    replace e0 := take1 e0
    have g1 : DataW.trod enc Tryz.prog w base (fun _ => true) held n 24 ((cs.drop 1).take 32) = some y1 := by
      have := hf 1 _ rfl
      have this : DataW.trod enc Tryz.prog w base (fun _ => true) held n 24 ((cs.drop 1).take (Tryz.prog.cellsOf 24)) = some y1 := this
      rwa [cX] at this
    have g2 : DataW.trod enc Tryz.prog w base (fun _ => true) held n 3 ((cs.drop 33).take 1) = some y2 := by
      have := hf 2 _ rfl
      have this : DataW.trod enc Tryz.prog w base (fun _ => true) held n 3 ((cs.drop 33).take (Tryz.prog.cellsOf 3)) = some y2 := this
      rwa [cI] at this
    obtain ⟨v2, e2, _, w2⟩ := DataW.trod_int Tryz.underlying3 g2
    replace e2 := take1 e2
    have g3 : DataW.trod enc Tryz.prog w base (fun _ => true) held n 4 ((cs.drop 34).take 1) = some y3 := by
      have := hf 3 _ rfl
      have this : DataW.trod enc Tryz.prog w base (fun _ => true) held n 4 ((cs.drop 34).take (Tryz.prog.cellsOf 4)) = some y3 := this
      rwa [cB] at this
    obtain ⟨v3, e3, _⟩ := DataW.trod_bool Tryz.underlying4 g3
    replace e3 := take1 e3
    have g4 : DataW.trod enc Tryz.prog w base (fun _ => true) held n 23 ((cs.drop 35).take 1) = some y4 := by
      have := hf 4 _ rfl
      have this : DataW.trod enc Tryz.prog w base (fun _ => true) held n 23 ((cs.drop 35).take (Tryz.prog.cellsOf 23)) = some y4 := this
      rwa [cU] at this
    obtain ⟨z4, e4, _, w4⟩ := DataW.trod_int Tryz.underlying23 g4
    obtain ⟨v4, rfl⟩ := n64_of w4
    replace e4 := take1 e4
    have g5 : DataW.trod enc Tryz.prog w base (fun _ => true) held n 23 ((cs.drop 36).take 1) = some y5 := by
      have := hf 5 _ rfl
      have this : DataW.trod enc Tryz.prog w base (fun _ => true) held n 23 ((cs.drop 36).take (Tryz.prog.cellsOf 23)) = some y5 := this
      rwa [cU] at this
    obtain ⟨z5, e5, _, w5⟩ := DataW.trod_int Tryz.underlying23 g5
    obtain ⟨v5, rfl⟩ := n64_of w5
    replace e5 := take1 e5
    have g6 : DataW.trod enc Tryz.prog w base (fun _ => true) held n 23 ((cs.drop 37).take 1) = some y6 := by
      have := hf 6 _ rfl
      have this : DataW.trod enc Tryz.prog w base (fun _ => true) held n 23 ((cs.drop 37).take (Tryz.prog.cellsOf 23)) = some y6 := this
      rwa [cU] at this
    obtain ⟨z6, e6, _, w6⟩ := DataW.trod_int Tryz.underlying23 g6
    obtain ⟨v6, rfl⟩ := n64_of w6
    replace e6 := take1 e6
    have g7 : DataW.trod enc Tryz.prog w base (fun _ => true) held n 23 ((cs.drop 38).take 1) = some y7 := by
      have := hf 7 _ rfl
      have this : DataW.trod enc Tryz.prog w base (fun _ => true) held n 23 ((cs.drop 38).take (Tryz.prog.cellsOf 23)) = some y7 := this
      rwa [cU] at this
    obtain ⟨z7, e7, _, w7⟩ := DataW.trod_int Tryz.underlying23 g7
    obtain ⟨v7, rfl⟩ := n64_of w7
    replace e7 := take1 e7
    have g8 : DataW.trod enc Tryz.prog w base (fun _ => true) held n 23 ((cs.drop 39).take 1) = some y8 := by
      have := hf 8 _ rfl
      have this : DataW.trod enc Tryz.prog w base (fun _ => true) held n 23 ((cs.drop 39).take (Tryz.prog.cellsOf 23)) = some y8 := this
      rwa [cU] at this
    obtain ⟨z8, e8, _, w8⟩ := DataW.trod_int Tryz.underlying23 g8
    obtain ⟨v8, rfl⟩ := n64_of w8
    replace e8 := take1 e8
    have g9 : DataW.trod enc Tryz.prog w base (fun _ => true) held n 23 ((cs.drop 40).take 1) = some y9 := by
      have := hf 9 _ rfl
      have this : DataW.trod enc Tryz.prog w base (fun _ => true) held n 23 ((cs.drop 40).take (Tryz.prog.cellsOf 23)) = some y9 := this
      rwa [cU] at this
    obtain ⟨z9, e9, _, w9⟩ := DataW.trod_int Tryz.underlying23 g9
    obtain ⟨v9, rfl⟩ := n64_of w9
    replace e9 := take1 e9
    have g10 : DataW.trod enc Tryz.prog w base (fun _ => true) held n 23 ((cs.drop 41).take 1) = some y10 := by
      have := hf 10 _ rfl
      have this : DataW.trod enc Tryz.prog w base (fun _ => true) held n 23 ((cs.drop 41).take (Tryz.prog.cellsOf 23)) = some y10 := this
      rwa [cU] at this
    obtain ⟨z10, e10, _, w10⟩ := DataW.trod_int Tryz.underlying23 g10
    obtain ⟨v10, rfl⟩ := n64_of w10
    replace e10 := take1 e10
    have g11 : DataW.trod enc Tryz.prog w base (fun _ => true) held n 23 ((cs.drop 42).take 1) = some y11 := by
      have := hf 11 _ rfl
      have this : DataW.trod enc Tryz.prog w base (fun _ => true) held n 23 ((cs.drop 42).take (Tryz.prog.cellsOf 23)) = some y11 := this
      rwa [cU] at this
    obtain ⟨z11, e11, _, w11⟩ := DataW.trod_int Tryz.underlying23 g11
    obtain ⟨v11, rfl⟩ := n64_of w11
    replace e11 := take1 e11
    have g12 : DataW.trod enc Tryz.prog w base (fun _ => true) held n 23 ((cs.drop 43).take 1) = some y12 := by
      have := hf 12 _ rfl
      have this : DataW.trod enc Tryz.prog w base (fun _ => true) held n 23 ((cs.drop 43).take (Tryz.prog.cellsOf 23)) = some y12 := this
      rwa [cU] at this
    obtain ⟨z12, e12, _, w12⟩ := DataW.trod_int Tryz.underlying23 g12
    obtain ⟨v12, rfl⟩ := n64_of w12
    replace e12 := take1 e12
    have g13 : DataW.trod enc Tryz.prog w base (fun _ => true) held n 23 ((cs.drop 44).take 1) = some y13 := by
      have := hf 13 _ rfl
      have this : DataW.trod enc Tryz.prog w base (fun _ => true) held n 23 ((cs.drop 44).take (Tryz.prog.cellsOf 23)) = some y13 := this
      rwa [cU] at this
    obtain ⟨z13, e13, _, w13⟩ := DataW.trod_int Tryz.underlying23 g13
    obtain ⟨v13, rfl⟩ := n64_of w13
    replace e13 := take1 e13
    have g14 : DataW.trod enc Tryz.prog w base (fun _ => true) held n 23 ((cs.drop 45).take 1) = some y14 := by
      have := hf 14 _ rfl
      have this : DataW.trod enc Tryz.prog w base (fun _ => true) held n 23 ((cs.drop 45).take (Tryz.prog.cellsOf 23)) = some y14 := this
      rwa [cU] at this
    obtain ⟨z14, e14, _, w14⟩ := DataW.trod_int Tryz.underlying23 g14
    obtain ⟨v14, rfl⟩ := n64_of w14
    replace e14 := take1 e14
    have g15 : DataW.trod enc Tryz.prog w base (fun _ => true) held n 23 ((cs.drop 46).take 1) = some y15 := by
      have := hf 15 _ rfl
      have this : DataW.trod enc Tryz.prog w base (fun _ => true) held n 23 ((cs.drop 46).take (Tryz.prog.cellsOf 23)) = some y15 := this
      rwa [cU] at this
    obtain ⟨z15, e15, _, w15⟩ := DataW.trod_int Tryz.underlying23 g15
    obtain ⟨v15, rfl⟩ := n64_of w15
    replace e15 := take1 e15
    have g16 : DataW.trod enc Tryz.prog w base (fun _ => true) held n 28 ((cs.drop 47).take 32) = some y16 := by
      have := hf 16 _ rfl
      have this : DataW.trod enc Tryz.prog w base (fun _ => true) held n 28 ((cs.drop 47).take (Tryz.prog.cellsOf 28)) = some y16 := this
      rwa [cP] at this
    have g17 : DataW.trod enc Tryz.prog w base (fun _ => true) held n 30 ((cs.drop 79).take 3) = some y17 := by
      have := hf 17 _ rfl
      have this : DataW.trod enc Tryz.prog w base (fun _ => true) held n 30 ((cs.drop 79).take (Tryz.prog.cellsOf 30)) = some y17 := this
      rwa [cR] at this
    have oX := open_ints Tryz.underlying24 Tryz.underlying23 cU g1
    have pX : ∀ j, ∃ x : BitVec 64, j < 32 → cs[1 + j]? = some (.int .u64 (n64 x)) := fun j => by
      by_cases hj : j < 32
      · obtain ⟨z, hz, hw⟩ := oX j hj
        obtain ⟨x, rfl⟩ := n64_of hw
        exact ⟨x, fun _ => by rw [List.getElem?_take_of_lt hj, List.getElem?_drop] at hz; exact hz⟩
      · exact ⟨0#64, fun h => absurd h hj⟩
    obtain ⟨c, a, eP⟩ := open_pmp g16
    have pP : ∀ j, j < 32 → cs[47 + j]? = some (pcell c a j) := fun j hj => by
      have h2 : ((cs.drop 47).take 32)[j]? = some (pcell c a j) := by rw [eP, Array.getElem?_toList, pc_at _ _ _ hj]
      rw [List.getElem?_take_of_lt hj, List.getElem?_drop] at h2; exact h2
    obtain ⟨zs, n', _, en, hl17, hlen17, hf17⟩ := DataW.trod_struct Tryz.underlying30 g17
    match zs, (show zs.length = 3 from hlen17), hf17 with
    | [z0, z1, z2], _, hf17 =>
      have h0 : DataW.trod enc Tryz.prog w base (fun _ => true) held n' 4 (((cs.drop 79).take 3).drop 0 |>.take 1) = some z0 := by
        have := hf17 0 _ rfl
        have this : DataW.trod enc Tryz.prog w base (fun _ => true) held n' 4 (((cs.drop 79).take 3).drop 0 |>.take (Tryz.prog.cellsOf 4)) = some z0 := this
        rwa [cB] at this
      have h1 : DataW.trod enc Tryz.prog w base (fun _ => true) held n' 23 (((cs.drop 79).take 3).drop 1 |>.take 1) = some z1 := by
        have := hf17 1 _ rfl
        have this : DataW.trod enc Tryz.prog w base (fun _ => true) held n' 23 (((cs.drop 79).take 3).drop 1 |>.take (Tryz.prog.cellsOf 23)) = some z1 := this
        rwa [cU] at this
      have h2 : DataW.trod enc Tryz.prog w base (fun _ => true) held n' 3 (((cs.drop 79).take 3).drop 2 |>.take 1) = some z2 := by
        have := hf17 2 _ rfl
        have this : DataW.trod enc Tryz.prog w base (fun _ => true) held n' 3 (((cs.drop 79).take 3).drop 2 |>.take (Tryz.prog.cellsOf 3)) = some z2 := this
        rwa [cI] at this
      obtain ⟨rv, f0, _⟩ := DataW.trod_bool Tryz.underlying4 h0
      obtain ⟨i1, f1, _, u1⟩ := DataW.trod_int Tryz.underlying23 h1
      obtain ⟨ra, rfl⟩ := n64_of u1
      obtain ⟨rs, f2, _, _⟩ := DataW.trod_int Tryz.underlying3 h2
      replace f0 := take1 f0
      replace f1 := take1 f1
      replace f2 := take1 f2
      rw [List.getElem?_take_of_lt (by omega), List.getElem?_drop] at f0 f1 f2
      refine ⟨⟨v0, fun j => (pX j).choose, v2, v3, fun j => match j with | 0 => v4 | 1 => v5 | 2 => v6 | 3 => v7 | 4 => v8 | 5 => v9 | 6 => v10 | 7 => v11 | 8 => v12 | 9 => v13 | 10 => v14 | _ => v15, c, a, rv, ra, rs⟩, ?_⟩
      apply List.ext_getElem?
      intro j
      rw [Array.getElem?_toList (xs := cpc _)]
      by_cases hj : j < 82
      · rw [cpc_at _ _ hj]
        unfold cpcell
        split
        · rename_i h; subst h; exact e0
        split
        · rename_i h h'
          exact (congrArg (fun q => cs[q]?) (show j = 1 + (j - 1) by omega)).trans ((pX (j - 1)).choose_spec (by omega))
        split
        · rename_i h; subst h; exact e2
        split
        · rename_i h; subst h; exact e3
        split
        · rename_i h1 h2 h3 h4 h5
          have hs : ∀ i, i < 12 → cs[35 + i]? = some (.int .u64 (n64 (match i with | 0 => v4 | 1 => v5 | 2 => v6 | 3 => v7 | 4 => v8 | 5 => v9 | 6 => v10 | 7 => v11 | 8 => v12 | 9 => v13 | 10 => v14 | _ => v15))) := fun i hi => by
            match i, hi with
            | 0, _ => exact e4
            | 1, _ => exact e5
            | 2, _ => exact e6
            | 3, _ => exact e7
            | 4, _ => exact e8
            | 5, _ => exact e9
            | 6, _ => exact e10
            | 7, _ => exact e11
            | 8, _ => exact e12
            | 9, _ => exact e13
            | 10, _ => exact e14
            | 11, _ => exact e15
            | i + 12, h => exact absurd h (by omega)
          have := hs (j - 35) (by omega)
          rwa [show 35 + (j - 35) = j by omega] at this
        split
        · have := pP (j - 47) (by omega)
          rwa [show 47 + (j - 47) = j by omega] at this
        split
        · rename_i h; subst h; exact f0
        split
        · rename_i h; subst h; exact f1
        · have : j = 81 := by omega
          subst this; exact f2
      · rw [List.getElem?_eq_none (by omega), Array.getElem?_eq_none (by rw [cpc_size]; omega)]
theorem open_cpu1 {b0 : Nat} {v : Value} {d : DataW H} {p : List MemPlace} (hv : Value.okWide Tryz.prog w .any b0 32 v) (h : DataW.Trod enc Tryz.prog w base (fun _ => true) held 32 v d p) : ∃ k : Cp, v = .agg (cpc k) := by
  obtain ⟨cs, rfl, _⟩ := okWide_struct Tryz.underlying32 hv
  obtain ⟨fuel, hf⟩ := h
  obtain ⟨k, e⟩ := open_cpu hf
  refine ⟨k, ?_⟩
  cases cs
  simpa [Value.cells] using congrArg List.toArray e
end
end Go.Proofs.YtidfndgedopghaaGreatDoor
namespace Go.Proofs.YtidfndgedopghaaGreatDoor
set_option linter.unusedVariables false
open Go.ChangeShapes Go.WideShapes Go.ChangeAt Go.RowKit Go.Deep
/-- A whole's cells. -/
def whc (K : Cp) (S : St) (vr vi vo : Value) : Array Value := ((cpc K).toList ++ (stc S vr vi vo).toList).toArray
theorem whc_size (K : Cp) (S : St) (vr vi vo : Value) : (whc K S vr vi vo).size = 97 := by
  unfold whc; rw [List.size_toArray, List.length_append, Array.length_toList, Array.length_toList, cpc_size]; rfl
theorem whc_c (K : Cp) (S : St) (vr vi vo : Value) (j : Nat) (v : Value) (h : (cpc K)[j]? = some v) : (whc K S vr vi vo)[0 + j]? = some v := by
  have hj : j < 82 := by
    by_cases q : j < 82
    · exact q
    · rw [Array.getElem?_eq_none (by rw [cpc_size]; omega)] at h; cases h
  unfold whc
  rw [Nat.zero_add, List.getElem?_toArray, List.getElem?_append_left (by rw [Array.length_toList, cpc_size]; exact hj), Array.getElem?_toList]
  exact h
theorem whc_b (K : Cp) (S : St) (vr vi vo : Value) (j : Nat) (v : Value) (h : (stc S vr vi vo)[j]? = some v) : (whc K S vr vi vo)[82 + j]? = some v := by
  unfold whc
  rw [List.getElem?_toArray, List.getElem?_append_right (by rw [Array.length_toList, cpc_size]; omega), Array.length_toList, cpc_size, show 82 + j - 82 = j by omega, Array.getElem?_toList]
  exact h
section
variable {H : Type} {enc : TypeId × Value → H} {w : World} {base : Nat} {held : Bool}
theorem cellsWh : Tryz.prog.cellsOf 46 = 97 := by kernel_rfl
set_option maxRecDepth 100000 in
theorem open_whole {fuel : Nat} {cs : List Value} {y : DataW H × List MemPlace} (h : DataW.trod enc Tryz.prog w base (fun _ => true) held fuel 46 cs = some y) (hz : ∀ q ∈ y.1.weights Tryz.prog 46, q ≤ reachBytes) :
    ∃ (K : Cp) (S : St) (ar ai ao : Option Addr) (cr ci co : Nat), cs = (whc K S (.slice ar S.ram.length cr) (.slice ai S.inp.length ci) (.slice ao S.out.length co)).toList ∧ Bs S (.slice ar S.ram.length cr) (.slice ai S.inp.length ci) (.slice ao S.out.length co) w ∧ StW S ∧
      S.ram.length ≤ 140737488351232 ∧ S.inp.length ≤ 140737488351232 ∧ S.out.length ≤ 140737488351232 := by
  obtain ⟨xs, n, _, rfl, hl, hlen, hf⟩ := DataW.trod_struct Tryz.underlying46 h
  rw [cellsWh] at hl
  match xs, (show xs.length = 2 from hlen), hf, hz with
  | [y0, y1], _, hf, hz =>
    have g0 : DataW.trod enc Tryz.prog w base (fun _ => true) held n 32 (cs.take 82) = some y0 := by
      have := hf 0 _ rfl
      simpa [cells_cpu] using this
    have g1 : DataW.trod enc Tryz.prog w base (fun _ => true) held n 44 ((cs.drop 82).take 15) = some y1 := by
      have := hf 1 _ rfl
      simpa [cellsSt] using this
    have z1 : ∀ q ∈ y1.1.weights Tryz.prog 44, q ≤ reachBytes := fun q hq => hz q (by
      simp only [DataW.weights, Tryz.underlying46]
      exact DataW.weights_mem_each (j := 1) (t := 44) (d := y1.1) rfl rfl q hq)
    obtain ⟨K, hK⟩ := open_cpu g0
    obtain ⟨S, ar, ai, ao, cr, ci, co, hS, hBs, hW, l1, l2, l3⟩ := open_state g1 z1
    refine ⟨K, S, ar, ai, ao, cr, ci, co, ?_, hBs, hW, l1, l2, l3⟩
    have e3 : cs = cs.take 82 ++ (cs.drop 82).take 15 := by
      have q1 : (cs.drop 82).take 15 = cs.drop 82 := List.take_of_length_le (by rw [List.length_drop, hl]; omega)
      rw [q1, List.take_append_drop]
    rw [e3, hK, hS]
    unfold whc
    simp
end
end Go.Proofs.YtidfndgedopghaaGreatDoor
namespace Go.Proofs.YtidfndgedopghaaGreatDoor
set_option linter.unusedVariables false
open Go.ChangeShapes Go.WideShapes Go.ChangeAt Go.RowKit Go.Deep
theorem box_cell {w w1 : World} {C : Array Value} {T : TypeId} (hb : Below (w.alloc (.cells C T)).heap.size (w.alloc (.cells C T)) w1) (j : Nat) : w1.cell? ⟨w.heap.size, j, none⟩ = C[j]? := by
  rw [hb.cell (by simp)]; exact cell_of_row _ _ _ _ _ _ (alloc_at w _)
theorem box_below {w w1 : World} {o : Obj} (hb : Below (w.alloc o).heap.size (w.alloc o) w1) : Below w.heap.size w w1 := ((Below.refl _ _).alloc (Nat.le_refl _) _).trans (hb.mono (by simp))
end Go.Proofs.YtidfndgedopghaaGreatDoor
namespace Go.Proofs.YtidfndgedopghaaGreatDoor
set_option linter.unusedVariables false
set_option maxRecDepth 100000
open Go.ChangeShapes Go.WideShapes Go.ChangeAt Go.RowKit Go.Deep
theorem whc_cell (K : Cp) (S : St) (vr vi vo : Value) (w : World) (j : Nat) (v : Value) (h : (stc S vr vi vo)[j]? = some v) : (w.alloc (.cells (whc K S vr vi vo) 46)).cell? ⟨w.heap.size, 82 + j, none⟩ = some v := by
  rw [cell_of_row _ _ _ _ _ _ (alloc_at w _)]; exact whc_b K S vr vi vo j v h
theorem info_bst (S : St) (vr vi vo : Value) : (Tryz.prog.info? 44).map (·.size) = some (stc S vr vi vo).size := by kernel_rfl
theorem info_wh (K : Cp) (S : St) (vr vi vo : Value) : (Tryz.prog.info? 46).map (·.size) = some (whc K S vr vi vo).size := by rw [whc_size]; kernel_rfl
end Go.Proofs.YtidfndgedopghaaGreatDoor
namespace Go.Proofs.YtidfndgedopghaaGreatDoor
set_option linter.unusedVariables false
set_option maxRecDepth 100000
open Go.ChangeShapes Go.WideShapes Go.ChangeAt Go.RowKit Go.Deep
theorem Hid.mk' {p : Prop} (h : p) : Hid p := h
theorem on_W {motive Q : World → Prop} {w : World} (h : Q w) (k : ∀ W, Q W → motive W) : motive w := k w h
theorem below_al (w : World) (o : Obj) : Below w.heap.size w (w.alloc o) := (Below.refl _ _).alloc (Nat.le_refl _) o
def zS : St := ⟨[], 0, 0, 0, false, false, 0, 0, 0, 0, false, [], [], 0, 0⟩
def whz : Array Value := whc cz zS (.slice none 0 0) (.slice none 0 0) (.slice none 0 0)
theorem zero_wh (w : World) : (zeroValue 46).run Tryz.prog w = .ok (.agg whz) w := by kernel_rfl
theorem whz_size (K : Cp) (S : St) (vr vi vo : Value) : whz.size = (whc K S vr vi vo).size := by unfold whz; rw [whc_size, whc_size]
theorem whc_setr (K : Cp) (S : St) (vr vi vo u : Value) : (whc K S vr vi vo).setIfInBounds 82 u = whc K S u vi vo := by
  unfold whc
  rw [List.setIfInBounds_toArray, List.set_append_right _ _ (by rw [Array.length_toList, cpc_size]; omega), Array.length_toList, cpc_size]; rfl
theorem whc_seti (K : Cp) (S : St) (vr vi vo u : Value) : (whc K S vr vi vo).setIfInBounds 93 u = whc K S vr u vo := by
  unfold whc
  rw [List.setIfInBounds_toArray, List.set_append_right _ _ (by rw [Array.length_toList, cpc_size]; omega), Array.length_toList, cpc_size]; rfl
theorem whc_seto (K : Cp) (S : St) (vr vi vo u : Value) : (whc K S vr vi vo).setIfInBounds 94 u = whc K S vr vi u := by
  unfold whc
  rw [List.setIfInBounds_toArray, List.set_append_right _ _ (by rw [Array.length_toList, cpc_size]; omega), Array.length_toList, cpc_size]; rfl
theorem whc_ones (K : Cp) (S : St) (a b c : Option Addr) (n1 n2 n3 c1 c2 c3 : Nat) : (whc K S (.slice a n1 c1) (.slice b n2 c2) (.slice c n3 c3)).all (·.oneCell') = true := by
  unfold whc
  have h1 := cpc_ones K
  have h2 : (stc S (.slice a n1 c1) (.slice b n2 c2) (.slice c n3 c3)).all (·.oneCell') = true := by kernel_rfl
  rw [Array.all_toList.symm] at h1 h2 ⊢
  rw [List.all_append, h1, h2]; rfl
end Go.Proofs.YtidfndgedopghaaGreatDoor
namespace Go.Proofs.YtidfndgedopghaaGreatDoor
set_option linter.unusedVariables false
open Go.ChangeShapes Go.WideShapes Go.ChangeAt Go.RowKit Go.Deep
/-- Whether the Cfg, the Addr takes no write. -/
def cL (c : Nat → BitVec 8) (i : Int) : Bool := if 0 ≤ i ∧ i < 16 then lk (c i.toNat) else true
def nx (c : Nat → BitVec 8) (k : Nat) : Bool := decide (k < 15) && lk (c (k + 1)) && decide (kd (c (k + 1)) = 1#8)
def aL (c : Nat → BitVec 8) (i : Int) : Bool := if 0 ≤ i ∧ i < 16 then (lk (c i.toNat) || nx c i.toNat) else true
theorem cL_in (c : Nat → BitVec 8) (k : Nat) (h : k < 16) : cL c k = lk (c k) := by unfold cL; rw [if_pos (by omega)]; simp
theorem cL_out (c : Nat → BitVec 8) (i : Int) (h : ¬ (0 ≤ i ∧ i < 16)) : cL c i = true := by unfold cL; rw [if_neg h]
theorem aL_in (c : Nat → BitVec 8) (k : Nat) (h : k < 16) : aL c k = (lk (c k) || nx c k) := by unfold aL; rw [if_pos (by omega)]; simp
theorem aL_out (c : Nat → BitVec 8) (i : Int) (h : ¬ (0 ≤ i ∧ i < 16)) : aL c i = true := by unfold aL; rw [if_neg h]
theorem row_cfg {w : World} {g : Nat} {c : Nat → BitVec 8} {a : Nat → BitVec 64} {t : TypeId} (h : Row w g (ec c a) t) (k : Nat) (hk : k < 16) : w.cell? ⟨g, k * 2, none⟩ = some (.int .u8 (n8 (c k))) := by
  rw [h.cell, ec_at _ _ _ (by omega), ecell, if_pos (by omega), Nat.mul_div_cancel _ (by omega)]
theorem row_addr {w : World} {g : Nat} {c : Nat → BitVec 8} {a : Nat → BitVec 64} {t : TypeId} (h : Row w g (ec c a) t) (k : Nat) (hk : k < 16) : w.cell? ⟨g, k * 2 + 1, none⟩ = some (.int .u64 (n64 (a k))) := by
  rw [h.cell, ec_at _ _ _ (by omega), ecell, if_neg (by omega), show (k * 2 + 1) / 2 = k by omega]
theorem prow_cfg {w : World} {g : Nat} {c : Nat → BitVec 8} {a : Nat → BitVec 64} {t : TypeId} (h : Row w g (pc c a) t) (k : Nat) (hk : k < 16) : w.cell? ⟨g, k, none⟩ = some (.int .u8 (n8 (c k))) := by
  rw [h.cell, pc_at _ _ _ (by omega), pcell, if_pos hk]
theorem prow_addr {w : World} {g : Nat} {c : Nat → BitVec 8} {a : Nat → BitVec 64} {t : TypeId} (h : Row w g (pc c a) t) (k : Nat) (hk : k < 16) : w.cell? ⟨g, 16 + k, none⟩ = some (.int .u64 (n64 (a k))) := by
  rw [h.cell, pc_at _ _ _ (by omega), pcell, if_neg (by omega), Nat.add_sub_cancel_left]
set_option maxRecDepth 100000 in
set_option maxHeartbeats 1000000 in
theorem cfgLocked_c (c : Nat → BitVec 8) (a : Nat → BitVec 64) (g : Nat) (i : Int) (w : World) (hg : Row w g (ec c a) 89) :
    Calls Tryz.prog 161 #[.pointer (some ⟨g, 0, none⟩), .int .i64 i] w fun e w' => e = .returned (.bool (cL c i)) ∧ Below w.heap.size w w' := by
  have hE := isEntry_c i w
  by_cases h : 0 ≤ i ∧ i < 16
  · obtain ⟨k, rfl⟩ : ∃ k : Nat, i = k := ⟨i.toNat, by omega⟩
    have hk : k < 16 := by omega
    have hk2 : (k : Int) < 16 := by omega
    rw [decide_eq_true h] at hE
    rw [cL_in c k hk]
    have c0 := row_cfg hg k hk
    have c1 := row_addr hg k hk
    have hB := elocked_c (c k) (.int .u64 (n64 (a k))) w
    generalize lk (c k) = r at hB ⊢
    have HE : Hid (Calls Tryz.prog 172 #[.int .i64 k] w fun e w' => e = .returned (.bool true) ∧ w' = w) := hE
    have HB : Hid (Calls Tryz.prog 173 #[.agg #[.int .u8 (n8 (c k)), .int .u64 (n64 (a k))]] w fun e w' => e = .returned (.bool r) ∧ Below w.heap.size w w') := hB
    clear hE hB hg h
    go_enter Tryz.func161, Tryz.ntmps161
    go_wp2_with (first | (go_at_call 172; refine HE.out.mono ?_; rintro e w1 ⟨rfl, hw⟩; have hw2 := hw.symm; subst hw2) | (go_at_call 173; refine HB.out.mono ?_; rintro e w1 ⟨rfl, hb⟩))
    go_ret
    exact ⟨rfl, hb⟩
  · rw [decide_eq_false h] at hE
    rw [cL_out c i h]
    have HE : Hid (Calls Tryz.prog 172 #[.int .i64 i] w fun e w' => e = .returned (.bool false) ∧ w' = w) := hE
    clear hE hg h
    go_enter Tryz.func161, Tryz.ntmps161
    go_wp2_with (go_at_call 172; refine HE.out.mono ?_; rintro e w1 ⟨rfl, hw⟩; have hw2 := hw.symm; subst hw2)
    go_ret
    exact ⟨rfl, Below.refl _ _⟩
set_option maxRecDepth 100000 in
set_option maxHeartbeats 1000000 in
theorem addrLocked_c (c : Nat → BitVec 8) (a : Nat → BitVec 64) (g : Nat) (i : Int) (w : World) (hg : Row w g (ec c a) 89) :
    Calls Tryz.prog 162 #[.pointer (some ⟨g, 0, none⟩), .int .i64 i] w fun e w' => e = .returned (.bool (aL c i)) ∧ Below w.heap.size w w' := by
  have hE := cfgLocked_c c a g i w hg
  by_cases h : 0 ≤ i ∧ i < 16
  · obtain ⟨k, rfl⟩ : ∃ k : Nat, i = k := ⟨i.toNat, by omega⟩
    have hk : k < 16 := by omega
    have hk2 : (k : Int) < 16 := by omega
    rw [cL_in c k hk] at hE
    rw [aL_in c k hk]
    have HG : Hid (Row w g (ec c a) 89) := hg
    have hlg := hg.lt
    clear h hg
    cases hl : lk (c k) with
    | true =>
      rw [hl] at hE
      simp only [Bool.true_or]
      have HE : Hid (Calls Tryz.prog 161 #[.pointer (some ⟨g, 0, none⟩), .int .i64 k] w fun e w' => e = .returned (.bool true) ∧ Below w.heap.size w w') := hE
      clear hE hl
      go_enter Tryz.func162, Tryz.ntmps162
      go_wp2_with (go_at_call 161; refine HE.out.mono ?_; rintro e w1 ⟨rfl, hb⟩)
      go_ret
      exact ⟨rfl, hb⟩
    | false =>
      rw [hl] at hE
      simp only [Bool.false_or]
      have HE : Hid (Calls Tryz.prog 161 #[.pointer (some ⟨g, 0, none⟩), .int .i64 k] w fun e w' => e = .returned (.bool false) ∧ Below w.heap.size w w') := hE
      clear hE hl
      by_cases hk15 : k < 15
      · have hk3 : (k : Int) + 1 < 16 := by omega
        have c0 := row_cfg HG.out (k + 1) (by omega)
        have c1 := row_addr HG.out (k + 1) (by omega)
        have HC0 : Hid (∀ w1, Below w.heap.size w w1 → w1.cell? ⟨g, (k + 1) * 2, none⟩ = some (.int .u8 (n8 (c (k + 1))))) := fun w1 hb => (hb.cell (p := ⟨g, (k + 1) * 2, none⟩) hlg).trans c0
        have HC1 : Hid (∀ w1, Below w.heap.size w w1 → w1.cell? ⟨g, (k + 1) * 2 + 1, none⟩ = some (.int .u64 (n64 (a (k + 1))))) := fun w1 hb => (hb.cell (p := ⟨g, (k + 1) * 2 + 1, none⟩) hlg).trans c1
        clear c0 c1
        have hq : nx c k = (lk (c (k + 1)) && decide (kd (c (k + 1)) = 1#8)) := by unfold nx; simp [hk15]
        rw [hq]
        have HL : Hid (∀ w1, Calls Tryz.prog 173 #[.agg #[.int .u8 (n8 (c (k + 1))), .int .u64 (n64 (a (k + 1)))]] w1 fun e w' => e = .returned (.bool (lk (c (k + 1)))) ∧ Below w1.heap.size w1 w') := fun w1 => elocked_c _ _ w1
        have HK : Hid (∀ w1, Calls Tryz.prog 157 #[.agg #[.int .u8 (n8 (c (k + 1))), .int .u64 (n64 (a (k + 1)))]] w1 fun e w' => e = .returned (.int .u8 (n8 (kd (c (k + 1))))) ∧ Below w1.heap.size w1 w') := fun w1 => ekind_c _ _ w1
        clear hq
        cases hl2 : lk (c (k + 1)) with
        | false =>
          rw [hl2] at HL
          simp only [Bool.false_and]
          clear hl2
          go_enter Tryz.func162, Tryz.ntmps162
          go_wp2_with (first | (go_at_call 161; refine HE.out.mono ?_; rintro e w1 ⟨rfl, hb⟩; have HB1 : Hid (Below w.heap.size w w1) := hb; clear hb; have d0 := HC0.out w1 HB1.out; have d1 := HC1.out w1 HB1.out) | (go_at_call 173; refine (HL.out _).mono ?_; rintro e w2 ⟨rfl, hb⟩; have HB2 : Hid (Below w1.heap.size w1 w2) := hb; clear hb))
          go_ret
          exact ⟨rfl, HB1.out.trans (HB2.out.mono HB1.out.size)⟩
        | true =>
          rw [hl2] at HL
          simp only [Bool.true_and]
          clear hl2
          have HQ : Hid ((n8 (kd (c (k + 1))) == 1) = decide (kd (c (k + 1)) = 1#8)) := by
            by_cases e1 : kd (c (k + 1)) = 1#8
            · rw [e1]; rfl
            · have : ¬ n8 (kd (c (k + 1))) = 1 := fun q => e1 (n8_inj.1 (q.trans rfl))
              unfold Hid; simp [this, e1]
          generalize decide (kd (c (k + 1)) = 1#8) = q at HQ ⊢
          generalize kd (c (k + 1)) = z at HQ HK
          have hq2 := HQ.out
          go_enter Tryz.func162, Tryz.ntmps162
          go_wp2_with (first | (go_at_call 161; refine HE.out.mono ?_; rintro e w1 ⟨rfl, hb⟩; have HB1 : Hid (Below w.heap.size w w1) := hb; clear hb; have d0 := HC0.out w1 HB1.out; have d1 := HC1.out w1 HB1.out) | (go_at_call 173; refine (HL.out _).mono ?_; rintro e w2 ⟨rfl, hb⟩; have HB2 : Hid (Below w.heap.size w w2) := HB1.out.trans (hb.mono HB1.out.size); clear hb; have d2 := HC0.out w2 HB2.out; have d3 := HC1.out w2 HB2.out) | (go_at_call 157; refine (HK.out _).mono ?_; rintro e w3 ⟨rfl, hb⟩; have HB3 : Hid (Below w.heap.size w w3) := HB2.out.trans (hb.mono HB2.out.size); clear hb))
          go_ret
          exact ⟨by simp_all, HB3.out⟩
      · have hk3 : ¬ (k : Int) + 1 < 16 := by omega
        have hq : nx c k = false := by unfold nx; simp [hk15]
        rw [hq]
        clear hq
        obtain rfl : k = 15 := by omega
        have e15 : ((15 : Nat) : Int) = 15 := rfl
        rw [e15] at HE ⊢
        clear hk hk2 hk3 hk15
        go_enter Tryz.func162, Tryz.ntmps162
        go_wp2_with (go_at_call 161; refine HE.out.mono ?_; rintro e w1 ⟨rfl, hb⟩)
        go_ret
        exact ⟨rfl, hb⟩
  · rw [cL_out c i h] at hE
    rw [aL_out c i h]
    have HE : Hid (Calls Tryz.prog 161 #[.pointer (some ⟨g, 0, none⟩), .int .i64 i] w fun e w' => e = .returned (.bool true) ∧ Below w.heap.size w w') := hE
    clear hE hg h
    go_enter Tryz.func162, Tryz.ntmps162
    go_wp2_with (go_at_call 161; refine HE.out.mono ?_; rintro e w1 ⟨rfl, hb⟩)
    go_ret
    exact ⟨rfl, hb⟩
end Go.Proofs.YtidfndgedopghaaGreatDoor
