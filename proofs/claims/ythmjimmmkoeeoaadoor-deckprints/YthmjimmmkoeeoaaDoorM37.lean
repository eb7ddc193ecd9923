/-
  Cop.
-/
import Derived.Test.YthmjimmmkoeeoaaDoorM05
namespace Go.Proofs.YthmjimmmkoeeoaaDoor
set_option linter.unusedVariables false
set_option maxRecDepth 100000
open Go.ChangeShapes Go.WideShapes Go.ChangeAt Go.RowKit Go.Deep
section
variable {H : Type} {enc : TypeId × Value → H} {w : World} {base : Nat} {held : Bool}
theorem take1 {cs : List Value} {o : Nat} {v : Value} (h : (cs.drop o).take 1 = [v]) : cs[o]? = some v := by
  have h2 : ((cs.drop o).take 1)[0]? = some v := by rw [h]; rfl
  simpa using h2
theorem open_ints {k : IntKind} {t e : TypeId} {fuel m : Nat} {cs : List Value} {y : DataW H × List MemPlace} (ht : Tryd.prog.underlying t = some (.array m e)) (he : Tryd.prog.underlying e = some (.int k)) (hce : Tryd.prog.cellsOf e = 1)
    (h : DataW.trod enc Tryd.prog w base (fun _ => true) held fuel t cs = some y) : ∀ j, j < m → ∃ n, cs[j]? = some (.int k n) ∧ (Lit.int k n).wf = true := by
  obtain ⟨xs, m', _, _, _, hxl, hx⟩ := DataW.trod_array ht h
  intro j hj
  have h1 := hx j hj
  obtain ⟨q, hq⟩ : ∃ q, xs[j]? = some q := ⟨_, List.getElem?_eq_getElem (by omega)⟩
  rw [hq, hce, Nat.mul_one] at h1
  obtain ⟨n, e0, _, hw⟩ := DataW.trod_int he h1
  refine ⟨n, ?_, hw⟩
  have h2 : ((cs.drop j).take 1)[0]? = some (.int k n) := by rw [e0]; rfl
  simpa using h2
theorem cells_cpu : Tryd.prog.cellsOf 31 = 82 := by kernel_rfl
set_option maxRecDepth 10000 in
set_option maxHeartbeats 1000000 in
theorem open_cpu {fuel : Nat} {cs : List Value} {y : DataW H × List MemPlace} (h : DataW.trod enc Tryd.prog w base (fun _ => true) held fuel 31 cs = some y) : ∃ k : Cp, cs = (cpc k).toList := by
  obtain ⟨xs, n, _, rfl, hl, hlen, hf⟩ := DataW.trod_struct Tryd.underlying31 h
  rw [cells_cpu] at hl
  have cI : Tryd.prog.cellsOf 3 = 1 := by kernel_rfl
  have cB : Tryd.prog.cellsOf 4 = 1 := by kernel_rfl
  have cU : Tryd.prog.cellsOf 22 = 1 := by kernel_rfl
  have cX : Tryd.prog.cellsOf 23 = 32 := by kernel_rfl
  have cP : Tryd.prog.cellsOf 27 = 32 := by kernel_rfl
  have cR : Tryd.prog.cellsOf 29 = 3 := by kernel_rfl
  match xs, (show xs.length = 18 from hlen), hf with
  | [y0, y1, y2, y3, y4, y5, y6, y7, y8, y9, y10, y11, y12, y13, y14, y15, y16, y17], _, hf =>
    have g0 : DataW.trod enc Tryd.prog w base (fun _ => true) held n 22 ((cs.drop 0).take 1) = some y0 := by
      have := hf 0 _ rfl
      have this : DataW.trod enc Tryd.prog w base (fun _ => true) held n 22 ((cs.drop 0).take (Tryd.prog.cellsOf 22)) = some y0 := this
      rwa [cU] at this
    obtain ⟨z0, e0, _, w0⟩ := DataW.trod_int Tryd.underlying22 g0
    obtain ⟨v0, rfl⟩ := n64_of w0
    replace e0 := take1 e0
    have g1 : DataW.trod enc Tryd.prog w base (fun _ => true) held n 23 ((cs.drop 1).take 32) = some y1 := by
      have := hf 1 _ rfl
      have this : DataW.trod enc Tryd.prog w base (fun _ => true) held n 23 ((cs.drop 1).take (Tryd.prog.cellsOf 23)) = some y1 := this
      rwa [cX] at this
    have g2 : DataW.trod enc Tryd.prog w base (fun _ => true) held n 3 ((cs.drop 33).take 1) = some y2 := by
      have := hf 2 _ rfl
      have this : DataW.trod enc Tryd.prog w base (fun _ => true) held n 3 ((cs.drop 33).take (Tryd.prog.cellsOf 3)) = some y2 := this
      rwa [cI] at this
    obtain ⟨v2, e2, _, w2⟩ := DataW.trod_int Tryd.underlying3 g2
    replace e2 := take1 e2
    have g3 : DataW.trod enc Tryd.prog w base (fun _ => true) held n 4 ((cs.drop 34).take 1) = some y3 := by
      have := hf 3 _ rfl
      have this : DataW.trod enc Tryd.prog w base (fun _ => true) held n 4 ((cs.drop 34).take (Tryd.prog.cellsOf 4)) = some y3 := this
      rwa [cB] at this
    obtain ⟨v3, e3, _⟩ := DataW.trod_bool Tryd.underlying4 g3
    replace e3 := take1 e3
    have g4 : DataW.trod enc Tryd.prog w base (fun _ => true) held n 22 ((cs.drop 35).take 1) = some y4 := by
      have := hf 4 _ rfl
      have this : DataW.trod enc Tryd.prog w base (fun _ => true) held n 22 ((cs.drop 35).take (Tryd.prog.cellsOf 22)) = some y4 := this
      rwa [cU] at this
    obtain ⟨z4, e4, _, w4⟩ := DataW.trod_int Tryd.underlying22 g4
    obtain ⟨v4, rfl⟩ := n64_of w4
    replace e4 := take1 e4
    have g5 : DataW.trod enc Tryd.prog w base (fun _ => true) held n 22 ((cs.drop 36).take 1) = some y5 := by
      have := hf 5 _ rfl
      have this : DataW.trod enc Tryd.prog w base (fun _ => true) held n 22 ((cs.drop 36).take (Tryd.prog.cellsOf 22)) = some y5 := this
      rwa [cU] at this
    obtain ⟨z5, e5, _, w5⟩ := DataW.trod_int Tryd.underlying22 g5
    obtain ⟨v5, rfl⟩ := n64_of w5
    replace e5 := take1 e5
    have g6 : DataW.trod enc Tryd.prog w base (fun _ => true) held n 22 ((cs.drop 37).take 1) = some y6 := by
      have := hf 6 _ rfl
      have this : DataW.trod enc Tryd.prog w base (fun _ => true) held n 22 ((cs.drop 37).take (Tryd.prog.cellsOf 22)) = some y6 := this
      rwa [cU] at this
    obtain ⟨z6, e6, _, w6⟩ := DataW.trod_int Tryd.underlying22 g6
    obtain ⟨v6, rfl⟩ := n64_of w6
    replace e6 := take1 e6
    have g7 : DataW.trod enc Tryd.prog w base (fun _ => true) held n 22 ((cs.drop 38).take 1) = some y7 := by
      have := hf 7 _ rfl
      have this : DataW.trod enc Tryd.prog w base (fun _ => true) held n 22 ((cs.drop 38).take (Tryd.prog.cellsOf 22)) = some y7 := this
      rwa [cU] at this
    obtain ⟨z7, e7, _, w7⟩ := DataW.trod_int Tryd.underlying22 g7
    obtain ⟨v7, rfl⟩ := n64_of w7
    replace e7 := take1 e7
    have g8 : DataW.trod enc Tryd.prog w base (fun _ => true) held n 22 ((cs.drop 39).take 1) = some y8 := by
      have := hf 8 _ rfl
      have this : DataW.trod enc Tryd.prog w base (fun _ => true) held n 22 ((cs.drop 39).take (Tryd.prog.cellsOf 22)) = some y8 := this
      rwa [cU] at this
    obtain ⟨z8, e8, _, w8⟩ := DataW.trod_int Tryd.underlying22 g8
    obtain ⟨v8, rfl⟩ := n64_of w8
    replace e8 := take1 e8
    have g9 : DataW.trod enc Tryd.prog w base (fun _ => true) held n 22 ((cs.drop 40).take 1) = some y9 := by
      have := hf 9 _ rfl
      have this : DataW.trod enc Tryd.prog w base (fun _ => true) held n 22 ((cs.drop 40).take (Tryd.prog.cellsOf 22)) = some y9 := this
      rwa [cU] at this
    obtain ⟨z9, e9, _, w9⟩ := DataW.trod_int Tryd.underlying22 g9
    obtain ⟨v9, rfl⟩ := n64_of w9
    replace e9 := take1 e9
    have g10 : DataW.trod enc Tryd.prog w base (fun _ => true) held n 22 ((cs.drop 41).take 1) = some y10 := by
      have := hf 10 _ rfl
      have this : DataW.trod enc Tryd.prog w base (fun _ => true) held n 22 ((cs.drop 41).take (Tryd.prog.cellsOf 22)) = some y10 := this
      rwa [cU] at this
    obtain ⟨z10, e10, _, w10⟩ := DataW.trod_int Tryd.underlying22 g10
    obtain ⟨v10, rfl⟩ := n64_of w10
    replace e10 := take1 e10
    have g11 : DataW.trod enc Tryd.prog w base (fun _ => true) held n 22 ((cs.drop 42).take 1) = some y11 := by
      have := hf 11 _ rfl
      have this : DataW.trod enc Tryd.prog w base (fun _ => true) held n 22 ((cs.drop 42).take (Tryd.prog.cellsOf 22)) = some y11 := this
      rwa [cU] at this
    obtain ⟨z11, e11, _, w11⟩ := DataW.trod_int Tryd.underlying22 g11
    obtain ⟨v11, rfl⟩ := n64_of w11
    replace e11 := take1 e11
    have g12 : DataW.trod enc Tryd.prog w base (fun _ => true) held n 22 ((cs.drop 43).take 1) = some y12 := by
      have := hf 12 _ rfl
      have this : DataW.trod enc Tryd.prog w base (fun _ => true) held n 22 ((cs.drop 43).take (Tryd.prog.cellsOf 22)) = some y12 := this
      rwa [cU] at this
    obtain ⟨z12, e12, _, w12⟩ := DataW.trod_int Tryd.underlying22 g12
    obtain ⟨v12, rfl⟩ := n64_of w12
    replace e12 := take1 e12
    have g13 : DataW.trod enc Tryd.prog w base (fun _ => true) held n 22 ((cs.drop 44).take 1) = some y13 := by
      have := hf 13 _ rfl
      have this : DataW.trod enc Tryd.prog w base (fun _ => true) held n 22 ((cs.drop 44).take (Tryd.prog.cellsOf 22)) = some y13 := this
      rwa [cU] at this
    obtain ⟨z13, e13, _, w13⟩ := DataW.trod_int Tryd.underlying22 g13
    obtain ⟨v13, rfl⟩ := n64_of w13
    replace e13 := take1 e13
    have g14 : DataW.trod enc Tryd.prog w base (fun _ => true) held n 22 ((cs.drop 45).take 1) = some y14 := by
      have := hf 14 _ rfl
      have this : DataW.trod enc Tryd.prog w base (fun _ => true) held n 22 ((cs.drop 45).take (Tryd.prog.cellsOf 22)) = some y14 := this
      rwa [cU] at this
    obtain ⟨z14, e14, _, w14⟩ := DataW.trod_int Tryd.underlying22 g14
    obtain ⟨v14, rfl⟩ := n64_of w14
    replace e14 := take1 e14
    have g15 : DataW.trod enc Tryd.prog w base (fun _ => true) held n 22 ((cs.drop 46).take 1) = some y15 := by
      have := hf 15 _ rfl
      have this : DataW.trod enc Tryd.prog w base (fun _ => true) held n 22 ((cs.drop 46).take (Tryd.prog.cellsOf 22)) = some y15 := this
      rwa [cU] at this
    obtain ⟨z15, e15, _, w15⟩ := DataW.trod_int Tryd.underlying22 g15
    obtain ⟨v15, rfl⟩ := n64_of w15
    replace e15 := take1 e15
    have g16 : DataW.trod enc Tryd.prog w base (fun _ => true) held n 27 ((cs.drop 47).take 32) = some y16 := by
      have := hf 16 _ rfl
      have this : DataW.trod enc Tryd.prog w base (fun _ => true) held n 27 ((cs.drop 47).take (Tryd.prog.cellsOf 27)) = some y16 := this
      rwa [cP] at this
    have g17 : DataW.trod enc Tryd.prog w base (fun _ => true) held n 29 ((cs.drop 79).take 3) = some y17 := by
      have := hf 17 _ rfl
      have this : DataW.trod enc Tryd.prog w base (fun _ => true) held n 29 ((cs.drop 79).take (Tryd.prog.cellsOf 29)) = some y17 := this
      rwa [cR] at this
    have oX := open_ints Tryd.underlying23 Tryd.underlying22 cU g1
    have pX : ∀ j, ∃ x : BitVec 64, j < 32 → cs[1 + j]? = some (.int .u64 (n64 x)) := fun j => by
      by_cases hj : j < 32
      · obtain ⟨z, hz, hw⟩ := oX j hj
        obtain ⟨x, rfl⟩ := n64_of hw
        exact ⟨x, fun _ => by rw [List.getElem?_take_of_lt hj, List.getElem?_drop] at hz; exact hz⟩
      · exact ⟨0#64, fun h => absurd h hj⟩
    obtain ⟨c, a, eP⟩ := open_pmp g16
    have pP : ∀ j, j < 32 → cs[47 + j]? = some (pcell c a j) := fun j hj => by
      have h2 : ((cs.drop 47).take 32)[j]? = some (pcell c a j) := by rw [eP, Array.getElem?_toList, pc_at _ _ _ hj]
      rw [List.getElem?_take_of_lt hj, List.getElem?_drop] at h2; exact h2
    obtain ⟨zs, n', _, en, hl17, hlen17, hf17⟩ := DataW.trod_struct Tryd.underlying29 g17
    match zs, (show zs.length = 3 from hlen17), hf17 with
    | [z0, z1, z2], _, hf17 =>
      have h0 : DataW.trod enc Tryd.prog w base (fun _ => true) held n' 4 (((cs.drop 79).take 3).drop 0 |>.take 1) = some z0 := by
        have := hf17 0 _ rfl
        have this : DataW.trod enc Tryd.prog w base (fun _ => true) held n' 4 (((cs.drop 79).take 3).drop 0 |>.take (Tryd.prog.cellsOf 4)) = some z0 := this
        rwa [cB] at this
      have h1 : DataW.trod enc Tryd.prog w base (fun _ => true) held n' 22 (((cs.drop 79).take 3).drop 1 |>.take 1) = some z1 := by
        have := hf17 1 _ rfl
        have this : DataW.trod enc Tryd.prog w base (fun _ => true) held n' 22 (((cs.drop 79).take 3).drop 1 |>.take (Tryd.prog.cellsOf 22)) = some z1 := this
        rwa [cU] at this
      have h2 : DataW.trod enc Tryd.prog w base (fun _ => true) held n' 3 (((cs.drop 79).take 3).drop 2 |>.take 1) = some z2 := by
        have := hf17 2 _ rfl
        have this : DataW.trod enc Tryd.prog w base (fun _ => true) held n' 3 (((cs.drop 79).take 3).drop 2 |>.take (Tryd.prog.cellsOf 3)) = some z2 := this
        rwa [cI] at this
      obtain ⟨rv, f0, _⟩ := DataW.trod_bool Tryd.underlying4 h0
      obtain ⟨i1, f1, _, u1⟩ := DataW.trod_int Tryd.underlying22 h1
      obtain ⟨ra, rfl⟩ := n64_of u1
      obtain ⟨rs, f2, _, _⟩ := DataW.trod_int Tryd.underlying3 h2
      replace f0 := take1 f0
      replace f1 := take1 f1
      replace f2 := take1 f2
      rw [List.getElem?_take_of_lt (by omega), List.getElem?_drop] at f0 f1 f2
      refine ⟨⟨v0, fun j => (pX j).choose, v2, v3, fun j => match j with | 0 => v4 | 1 => v5 | 2 => v6 | 3 => v7 | 4 => v8 | 5 => v9 | 6 => v10 | 7 => v11 | 8 => v12 | 9 => v13 | 10 => v14 | _ => v15, c, a, rv, ra, rs⟩, ?_⟩
      apply List.ext_getElem?
      intro j
      rw [Array.getElem?_toList (xs := cpc _)]
      by_cases hj : j < 82
      · rw [cpc_at _ _ hj]
        unfold cpcell
        split
        · rename_i h; subst h; exact e0
        split
        · rename_i h h'
          exact (congrArg (fun q => cs[q]?) (show j = 1 + (j - 1) by omega)).trans ((pX (j - 1)).choose_spec (by omega))
        split
        · rename_i h; subst h; exact e2
        split
        · rename_i h; subst h; exact e3
        split
        · rename_i h1 h2 h3 h4 h5
          have hs : ∀ i, i < 12 → cs[35 + i]? = some (.int .u64 (n64 (match i with | 0 => v4 | 1 => v5 | 2 => v6 | 3 => v7 | 4 => v8 | 5 => v9 | 6 => v10 | 7 => v11 | 8 => v12 | 9 => v13 | 10 => v14 | _ => v15))) := fun i hi => by
            match i, hi with
            | 0, _ => exact e4
            | 1, _ => exact e5
            | 2, _ => exact e6
            | 3, _ => exact e7
            | 4, _ => exact e8
            | 5, _ => exact e9
            | 6, _ => exact e10
            | 7, _ => exact e11
            | 8, _ => exact e12
            | 9, _ => exact e13
            | 10, _ => exact e14
            | 11, _ => exact e15
            | i + 12, h => exact absurd h (by omega)
          have := hs (j - 35) (by omega)
          rwa [show 35 + (j - 35) = j by omega] at this
        split
        · have := pP (j - 47) (by omega)
          rwa [show 47 + (j - 47) = j by omega] at this
        split
        · rename_i h; subst h; exact f0
        split
        · rename_i h; subst h; exact f1
        · have : j = 81 := by omega
          subst this; exact f2
      · rw [List.getElem?_eq_none (by omega), Array.getElem?_eq_none (by rw [cpc_size]; omega)]
theorem open_cpu1 {b0 : Nat} {v : Value} {d : DataW H} {p : List MemPlace} (hv : Value.okWide Tryd.prog w .any b0 31 v) (h : DataW.Trod enc Tryd.prog w base (fun _ => true) held 31 v d p) : ∃ k : Cp, v = .agg (cpc k) := by
  obtain ⟨cs, rfl, _⟩ := okWide_struct Tryd.underlying31 hv
  obtain ⟨fuel, hf⟩ := h
  obtain ⟨k, e⟩ := open_cpu hf
  refine ⟨k, ?_⟩
  cases cs
  simpa [Value.cells] using congrArg List.toArray e
end
end Go.Proofs.YthmjimmmkoeeoaaDoor
