/-
  Bop.
-/
import Derived.Test.YtnlkamfoopikhaaBsm
import Derived.SizedLaws
namespace Go.Proofs.Ytnlkamfoopikhaa
set_option linter.unusedVariables false
open Go.ChangeShapes Go.WideShapes Go.ChangeAt Go.RowKit Go.Deep
section
variable {H : Type} {enc : TypeId × Value → H} {w : World} {base : Nat} {held : Bool}
theorem cellsSt : Try.prog.cellsOf 35 = 15 := by kernel_rfl
theorem cellsBy : Try.prog.cellsOf 32 = 1 := by kernel_rfl
theorem cellsU32 : Try.prog.cellsOf 33 = 1 := by kernel_rfl
theorem cellsU64 : Try.prog.cellsOf 22 = 1 := by kernel_rfl
theorem cellsU8 : Try.prog.cellsOf 5 = 1 := by kernel_rfl
theorem cellsBool : Try.prog.cellsOf 4 = 1 := by kernel_rfl
theorem cellsInt : Try.prog.cellsOf 3 = 1 := by kernel_rfl
theorem bytesU8 : Try.prog.bytesOf 5 = 1 := by kernel_rfl
theorem list15 {α : Type} {l : List α} (h : l.length = 15) : ∃ a0 a1 a2 a3 a4 a5 a6 a7 a8 a9 a10 a11 a12 a13 a14, l = [a0, a1, a2, a3, a4, a5, a6, a7, a8, a9, a10, a11, a12, a13, a14] := by
  match l, h with
  | [a0, a1, a2, a3, a4, a5, a6, a7, a8, a9, a10, a11, a12, a13, a14], _ => exact ⟨a0, a1, a2, a3, a4, a5, a6, a7, a8, a9, a10, a11, a12, a13, a14, rfl⟩
/-- A list of bytes that came in. -/
theorem open_bytes {fuel : Nat} {v : Value} {y : DataW H × List MemPlace} (h : DataW.trod enc Try.prog w base (fun _ => true) held fuel 32 [v] = some y) (hz : ∀ q ∈ y.1.weights Try.prog 32, q ≤ reachBytes) :
    ∃ (l : List Int) (a : Option Addr) (c : Nat), v = .slice a l.length c ∧ Byt w (.slice a l.length c) l ∧ AllB l ∧ l.length ≤ 140737488351232 := by
  rcases open_ints Try.underlying32 Try.underlying5 cellsU8 h with ⟨e3, hy3⟩ | ⟨a, len, cap, zs, e3, _, hl, hm, hzl, hy3, hcell, hwz⟩
  · simp at e3
    subst e3
    exact ⟨[], none, 0, rfl, Byt.nil w, fun x hx => by simp at hx, by simp⟩
  · simp at e3
    subst e3
    simp only [if_true] at hzl
    have hw : (lits .u8 (zs.take len) : List (DataW H)).length + (lits .u8 (zs.drop len) : List (DataW H)).length ≤ reachBytes := by
      have hmem : ((lits .u8 (zs.take len) : List (DataW H)).length + (lits .u8 (zs.drop len) : List (DataW H)).length) * 1 ∈ y.1.weights Try.prog 32 := by
        rw [hy3]
        simp [DataW.weights, Try.underlying32, bytesU8]
      have := hz _ hmem
      omega
    simp [lits, reachBytes] at hw
    have hlen : (zs.take len).length = len := by simp; omega
    refine ⟨zs.take len, some a, cap, by rw [hlen], ?_, ?_, by rw [hlen]; omega⟩
    · refine ⟨some a, cap, rfl, by rw [hlen]; omega, fun e => (by cases e), fun hne => ?_⟩
      have hpos : 0 < len := by
        rcases Nat.eq_zero_or_pos len with e | e
        · subst e; simp at hne
        · exact e
      obtain ⟨b, off, spot⟩ := a
      have hc := hcell 0 (by omega)
      have hspot : spot = none := by simpa [Addr.add] using World.cell?_spot hc
      subst hspot
      refine ⟨b, off, rfl, World.block_lt_of_cell? w _ hc, fun j hj => ?_⟩
      have hj' : j < len := by rw [hlen] at hj; exact hj
      have hcj := hcell j (by omega)
      rw [addAt] at hcj
      rw [hcj]
      simp [List.getD, hj']
    · intro z hzm
      have := hwz z (List.mem_of_mem_take hzm)
      have hb8 := bounds_u8 this
      omega
/-- What the numbers of a state can be. -/
structure StW (S : St) : Prop where
  r : AllB S.ram
  i : AllB S.inp
  o : AllB S.out
  msip : 0 ≤ S.msip ∧ S.msip ≤ 4294967295
  cmp : 0 ≤ S.cmp ∧ S.cmp ≤ 18446744073709551615
  time : 0 ≤ S.time ∧ S.time ≤ 18446744073709551615
  ier : 0 ≤ S.ier ∧ S.ier ≤ 255
  lcr : 0 ≤ S.lcr ∧ S.lcr ≤ 255
  mcr : 0 ≤ S.mcr ∧ S.mcr ≤ 255
  scr : 0 ≤ S.scr ∧ S.scr ≤ 255
  off : -9223372036854775808 ≤ S.off ∧ S.off ≤ 9223372036854775807
  code : -9223372036854775808 ≤ S.code ∧ S.code ≤ 9223372036854775807
theorem open_state {fuel : Nat} {cs : List Value} {y : DataW H × List MemPlace} (h : DataW.trod enc Try.prog w base (fun _ => true) held fuel 35 cs = some y) (hz : ∀ q ∈ y.1.weights Try.prog 35, q ≤ reachBytes) :
    ∃ (S : St) (ar ai ao : Option Addr) (cr ci co : Nat), cs = (stc S (.slice ar S.ram.length cr) (.slice ai S.inp.length ci) (.slice ao S.out.length co)).toList ∧ Bs S (.slice ar S.ram.length cr) (.slice ai S.inp.length ci) (.slice ao S.out.length co) w ∧ StW S ∧
      S.ram.length ≤ 140737488351232 ∧ S.inp.length ≤ 140737488351232 ∧ S.out.length ≤ 140737488351232 := by
  obtain ⟨xs, n, _, rfl, hl, hlen, hf⟩ := DataW.trod_struct Try.underlying35 h
  rw [cellsSt] at hl
  obtain ⟨v0, v1, v2, v3, v4, v5, v6, v7, v8, v9, v10, v11, v12, v13, v14, rfl⟩ := list15 hl
  obtain ⟨y0, y1, y2, y3, y4, y5, y6, y7, y8, y9, y10, y11, y12, y13, y14, rfl⟩ := list15 (show xs.length = 15 from hlen)
  have g0 : DataW.trod enc Try.prog w base (fun _ => true) held n 32 [v0] = some y0 := by
    have := hf 0 _ rfl
    simpa [cellsBy] using this
  have g1 : DataW.trod enc Try.prog w base (fun _ => true) held n 33 [v1] = some y1 := by
    have := hf 1 _ rfl
    simpa [cellsU32] using this
  have g2 : DataW.trod enc Try.prog w base (fun _ => true) held n 22 [v2] = some y2 := by
    have := hf 2 _ rfl
    simpa [cellsU64] using this
  have g3 : DataW.trod enc Try.prog w base (fun _ => true) held n 22 [v3] = some y3 := by
    have := hf 3 _ rfl
    simpa [cellsU64] using this
  have g4 : DataW.trod enc Try.prog w base (fun _ => true) held n 4 [v4] = some y4 := by
    have := hf 4 _ rfl
    simpa [cellsBool] using this
  have g5 : DataW.trod enc Try.prog w base (fun _ => true) held n 4 [v5] = some y5 := by
    have := hf 5 _ rfl
    simpa [cellsBool] using this
  have g6 : DataW.trod enc Try.prog w base (fun _ => true) held n 5 [v6] = some y6 := by
    have := hf 6 _ rfl
    simpa [cellsU8] using this
  have g7 : DataW.trod enc Try.prog w base (fun _ => true) held n 5 [v7] = some y7 := by
    have := hf 7 _ rfl
    simpa [cellsU8] using this
  have g8 : DataW.trod enc Try.prog w base (fun _ => true) held n 5 [v8] = some y8 := by
    have := hf 8 _ rfl
    simpa [cellsU8] using this
  have g9 : DataW.trod enc Try.prog w base (fun _ => true) held n 5 [v9] = some y9 := by
    have := hf 9 _ rfl
    simpa [cellsU8] using this
  have g10 : DataW.trod enc Try.prog w base (fun _ => true) held n 4 [v10] = some y10 := by
    have := hf 10 _ rfl
    simpa [cellsBool] using this
  have g11 : DataW.trod enc Try.prog w base (fun _ => true) held n 32 [v11] = some y11 := by
    have := hf 11 _ rfl
    simpa [cellsBy] using this
  have g12 : DataW.trod enc Try.prog w base (fun _ => true) held n 32 [v12] = some y12 := by
    have := hf 12 _ rfl
    simpa [cellsBy] using this
  have g13 : DataW.trod enc Try.prog w base (fun _ => true) held n 3 [v13] = some y13 := by
    have := hf 13 _ rfl
    simpa [cellsInt] using this
  have g14 : DataW.trod enc Try.prog w base (fun _ => true) held n 3 [v14] = some y14 := by
    have := hf 14 _ rfl
    simpa [cellsInt] using this
  have z0 : ∀ q ∈ y0.1.weights Try.prog 32, q ≤ reachBytes := fun q hq => hz q (by
    simp only [DataW.weights, Try.underlying35]
    exact DataW.weights_mem_each (j := 0) (t := 32) (d := y0.1) rfl rfl q hq)
  obtain ⟨l0, a0, c0, e0, b0, m0, n0⟩ := open_bytes g0 z0
  subst e0
  obtain ⟨i1, e1, h1, w1⟩ := DataW.trod_int Try.underlying33 g1
  simp only [List.cons.injEq, and_true] at e1
  subst e1
  obtain ⟨i2, e2, h2, w2⟩ := DataW.trod_int Try.underlying22 g2
  simp only [List.cons.injEq, and_true] at e2
  subst e2
  obtain ⟨i3, e3, h3, w3⟩ := DataW.trod_int Try.underlying22 g3
  simp only [List.cons.injEq, and_true] at e3
  subst e3
  obtain ⟨i4, e4, h4⟩ := DataW.trod_bool Try.underlying4 g4
  simp only [List.cons.injEq, and_true] at e4
  subst e4
  obtain ⟨i5, e5, h5⟩ := DataW.trod_bool Try.underlying4 g5
  simp only [List.cons.injEq, and_true] at e5
  subst e5
  obtain ⟨i6, e6, h6, w6⟩ := DataW.trod_int Try.underlying5 g6
  simp only [List.cons.injEq, and_true] at e6
  subst e6
  obtain ⟨i7, e7, h7, w7⟩ := DataW.trod_int Try.underlying5 g7
  simp only [List.cons.injEq, and_true] at e7
  subst e7
  obtain ⟨i8, e8, h8, w8⟩ := DataW.trod_int Try.underlying5 g8
  simp only [List.cons.injEq, and_true] at e8
  subst e8
  obtain ⟨i9, e9, h9, w9⟩ := DataW.trod_int Try.underlying5 g9
  simp only [List.cons.injEq, and_true] at e9
  subst e9
  obtain ⟨i10, e10, h10⟩ := DataW.trod_bool Try.underlying4 g10
  simp only [List.cons.injEq, and_true] at e10
  subst e10
  have z11 : ∀ q ∈ y11.1.weights Try.prog 32, q ≤ reachBytes := fun q hq => hz q (by
    simp only [DataW.weights, Try.underlying35]
    exact DataW.weights_mem_each (j := 11) (t := 32) (d := y11.1) rfl rfl q hq)
  obtain ⟨l11, a11, c11, e11, b11, m11, n11⟩ := open_bytes g11 z11
  subst e11
  have z12 : ∀ q ∈ y12.1.weights Try.prog 32, q ≤ reachBytes := fun q hq => hz q (by
    simp only [DataW.weights, Try.underlying35]
    exact DataW.weights_mem_each (j := 12) (t := 32) (d := y12.1) rfl rfl q hq)
  obtain ⟨l12, a12, c12, e12, b12, m12, n12⟩ := open_bytes g12 z12
  subst e12
  obtain ⟨i13, e13, h13, w13⟩ := DataW.trod_int Try.underlying3 g13
  simp only [List.cons.injEq, and_true] at e13
  subst e13
  obtain ⟨i14, e14, h14, w14⟩ := DataW.trod_int Try.underlying3 g14
  simp only [List.cons.injEq, and_true] at e14
  subst e14
  have b1 := bounds_u32 w1
  have b2 := bounds_u64 w2
  have b3 := bounds_u64 w3
  have b6 := bounds_u8 w6
  have b7 := bounds_u8 w7
  have b8 := bounds_u8 w8
  have b9 := bounds_u8 w9
  have b13 := bounds_i64 w13
  have b14 := bounds_i64 w14
  refine ⟨⟨l0, i1, i2, i3, i4, i5, i6, i7, i8, i9, i10, l11, l12, i13, i14⟩, a0, a11, a12, c0, c11, c12, rfl, ⟨b0, b11, b12⟩, ⟨m0, m11, m12, ?_, ?_, ?_, ?_, ?_, ?_, ?_, ?_, ?_⟩, n0, n11, n12⟩
  · exact ⟨by simpa using b1.1, by simpa using b1.2⟩
  · exact ⟨by simpa using b2.1, by simpa using b2.2⟩
  · exact ⟨by simpa using b3.1, by simpa using b3.2⟩
  · exact ⟨by simpa using b6.1, by simpa using b6.2⟩
  · exact ⟨by simpa using b7.1, by simpa using b7.2⟩
  · exact ⟨by simpa using b8.1, by simpa using b8.2⟩
  · exact ⟨by simpa using b9.1, by simpa using b9.2⟩
  · exact ⟨by simpa using b13.1, by simpa using b13.2⟩
  · exact ⟨by simpa using b14.1, by simpa using b14.2⟩
end
end Go.Proofs.Ytnlkamfoopikhaa
