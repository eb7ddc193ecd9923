/-
  Bop Pba.
-/
import Derived.Test.YtidfndgedopghaaGreatDoorQ04
import Derived.SizedLaws
import Derived.Test.YtidfndgedopghaaGreatDoorQ01
namespace Go.Proofs.YtidfndgedopghaaGreatDoor
set_option linter.unusedVariables false
open Go.ChangeShapes Go.WideShapes Go.ChangeAt Go.RowKit Go.Deep
section
variable {H : Type} {enc : TypeId × Value → H} {w : World} {base : Nat} {held : Bool}
theorem cellsSt : Tryz.prog.cellsOf 44 = 15 := by kernel_rfl
theorem cellsBy : Tryz.prog.cellsOf 33 = 1 := by kernel_rfl
theorem cellsU32 : Tryz.prog.cellsOf 42 = 1 := by kernel_rfl
theorem cellsU64 : Tryz.prog.cellsOf 23 = 1 := by kernel_rfl
theorem cellsU8 : Tryz.prog.cellsOf 5 = 1 := by kernel_rfl
theorem cellsBool : Tryz.prog.cellsOf 4 = 1 := by kernel_rfl
theorem cellsInt : Tryz.prog.cellsOf 3 = 1 := by kernel_rfl
theorem bytesU8 : Tryz.prog.bytesOf 5 = 1 := by kernel_rfl
theorem list15 {α : Type} {l : List α} (h : l.length = 15) : ∃ a0 a1 a2 a3 a4 a5 a6 a7 a8 a9 a10 a11 a12 a13 a14, l = [a0, a1, a2, a3, a4, a5, a6, a7, a8, a9, a10, a11, a12, a13, a14] := by
  match l, h with
  | [a0, a1, a2, a3, a4, a5, a6, a7, a8, a9, a10, a11, a12, a13, a14], _ => exact ⟨a0, a1, a2, a3, a4, a5, a6, a7, a8, a9, a10, a11, a12, a13, a14, rfl⟩
/-- A list of bytes that came in. -/
theorem open_bytes {fuel : Nat} {v : Value} {y : DataW H × List MemPlace} (h : DataW.trod enc Tryz.prog w base (fun _ => true) held fuel 33 [v] = some y) (hz : ∀ q ∈ y.1.weights Tryz.prog 33, q ≤ reachBytes) :
    ∃ (l : List Int) (a : Option Addr) (c : Nat), v = .slice a l.length c ∧ Byt w (.slice a l.length c) l ∧ AllB l ∧ l.length ≤ 140737488351232 := by
  rcases open_ints Tryz.underlying33 Tryz.underlying5 cellsU8 h with ⟨e3, hy3⟩ | ⟨a, len, cap, zs, e3, _, hl, hm, hzl, hy3, hcell, hwz⟩
  · simp at e3
    subst e3
    exact ⟨[], none, 0, rfl, Byt.nil w, fun x hx => by simp at hx, by simp⟩
  · simp at e3
    subst e3
    simp only [if_true] at hzl
    have hw : (lits .u8 (zs.take len) : List (DataW H)).length + (lits .u8 (zs.drop len) : List (DataW H)).length ≤ reachBytes := by
      have hmem : ((lits .u8 (zs.take len) : List (DataW H)).length + (lits .u8 (zs.drop len) : List (DataW H)).length) * 1 ∈ y.1.weights Tryz.prog 33 := by
        rw [hy3]
        simp [DataW.weights, Tryz.underlying33, bytesU8]
      have := hz _ hmem
      omega
    simp [lits, reachBytes] at hw
    have hlen : (zs.take len).length = len := by simp; omega
    refine ⟨zs.take len, some a, cap, by rw [hlen], ?_, ?_, by rw [hlen]; omega⟩
    · refine ⟨some a, cap, rfl, by rw [hlen]; omega, fun e => (by cases e), fun hne => ?_⟩
      have hpos : 0 < len := by
        rcases Nat.eq_zero_or_pos len with e | e
        · subst e; simp at hne
        · exact e
      obtain ⟨b, off, spot⟩ := a
      have hc := hcell 0 (by omega)
      have hspot : spot = none := by simpa [Addr.add] using World.cell?_spot hc
      subst hspot
      refine ⟨b, off, rfl, World.block_lt_of_cell? w _ hc, fun j hj => ?_⟩
      have hj' : j < len := by rw [hlen] at hj; exact hj
      have hcj := hcell j (by omega)
      rw [addAt] at hcj
      rw [hcj]
      simp [List.getD, hj']
    · intro z hzm
      have := hwz z (List.mem_of_mem_take hzm)
      have hb8 := bounds_u8 this
      omega
/-- What the numbers of a state can be. -/
structure StW (S : St) : Prop where
  r : AllB S.ram
  i : AllB S.inp
  o : AllB S.out
  msip : 0 ≤ S.msip ∧ S.msip ≤ 4294967295
  cmp : 0 ≤ S.cmp ∧ S.cmp ≤ 18446744073709551615
  time : 0 ≤ S.time ∧ S.time ≤ 18446744073709551615
  ier : 0 ≤ S.ier ∧ S.ier ≤ 255
  lcr : 0 ≤ S.lcr ∧ S.lcr ≤ 255
  mcr : 0 ≤ S.mcr ∧ S.mcr ≤ 255
  scr : 0 ≤ S.scr ∧ S.scr ≤ 255
  off : -9223372036854775808 ≤ S.off ∧ S.off ≤ 9223372036854775807
  code : -9223372036854775808 ≤ S.code ∧ S.code ≤ 9223372036854775807
theorem open_state {fuel : Nat} {cs : List Value} {y : DataW H × List MemPlace} (h : DataW.trod enc Tryz.prog w base (fun _ => true) held fuel 44 cs = some y) (hz : ∀ q ∈ y.1.weights Tryz.prog 44, q ≤ reachBytes) :
    ∃ (S : St) (ar ai ao : Option Addr) (cr ci co : Nat), cs = (stc S (.slice ar S.ram.length cr) (.slice ai S.inp.length ci) (.slice ao S.out.length co)).toList ∧ Bs S (.slice ar S.ram.length cr) (.slice ai S.inp.length ci) (.slice ao S.out.length co) w ∧ StW S ∧
      S.ram.length ≤ 140737488351232 ∧ S.inp.length ≤ 140737488351232 ∧ S.out.length ≤ 140737488351232 := by
  obtain ⟨xs, n, _, rfl, hl, hlen, hf⟩ := DataW.trod_struct Tryz.underlying44 h
  rw [cellsSt] at hl
  obtain ⟨v0, v1, v2, v3, v4, v5, v6, v7, v8, v9, v10, v11, v12, v13, v14, rfl⟩ := list15 hl
  obtain ⟨y0, y1, y2, y3, y4, y5, y6, y7, y8, y9, y10, y11, y12, y13, y14, rfl⟩ := list15 (show xs.length = 15 from hlen)
  have g0 : DataW.trod enc Tryz.prog w base (fun _ => true) held n 33 [v0] = some y0 := by
    have := hf 0 _ rfl
    simpa [cellsBy] using this
  have g1 : DataW.trod enc Tryz.prog w base (fun _ => true) held n 42 [v1] = some y1 := by
    have := hf 1 _ rfl
    simpa [cellsU32] using this
  have g2 : DataW.trod enc Tryz.prog w base (fun _ => true) held n 23 [v2] = some y2 := by
    have := hf 2 _ rfl
    simpa [cellsU64] using this
  have g3 : DataW.trod enc Tryz.prog w base (fun _ => true) held n 23 [v3] = some y3 := by
    have := hf 3 _ rfl
    simpa [cellsU64] using this
  have g4 : DataW.trod enc Tryz.prog w base (fun _ => true) held n 4 [v4] = some y4 := by
    have := hf 4 _ rfl
    simpa [cellsBool] using this
  have g5 : DataW.trod enc Tryz.prog w base (fun _ => true) held n 4 [v5] = some y5 := by
    have := hf 5 _ rfl
    simpa [cellsBool] using this
  have g6 : DataW.trod enc Tryz.prog w base (fun _ => true) held n 5 [v6] = some y6 := by
    have := hf 6 _ rfl
    simpa [cellsU8] using this
  have g7 : DataW.trod enc Tryz.prog w base (fun _ => true) held n 5 [v7] = some y7 := by
    have := hf 7 _ rfl
    simpa [cellsU8] using this
  have g8 : DataW.trod enc Tryz.prog w base (fun _ => true) held n 5 [v8] = some y8 := by
    have := hf 8 _ rfl
    simpa [cellsU8] using this
  have g9 : DataW.trod enc Tryz.prog w base (fun _ => true) held n 5 [v9] = some y9 := by
    have := hf 9 _ rfl
    simpa [cellsU8] using this
  have g10 : DataW.trod enc Tryz.prog w base (fun _ => true) held n 4 [v10] = some y10 := by
    have := hf 10 _ rfl
    simpa [cellsBool] using this
  have g11 : DataW.trod enc Tryz.prog w base (fun _ => true) held n 33 [v11] = some y11 := by
    have := hf 11 _ rfl
    simpa [cellsBy] using this
  have g12 : DataW.trod enc Tryz.prog w base (fun _ => true) held n 33 [v12] = some y12 := by
    have := hf 12 _ rfl
    simpa [cellsBy] using this
  have g13 : DataW.trod enc Tryz.prog w base (fun _ => true) held n 3 [v13] = some y13 := by
    have := hf 13 _ rfl
    simpa [cellsInt] using this
  have g14 : DataW.trod enc Tryz.prog w base (fun _ => true) held n 3 [v14] = some y14 := by
    have := hf 14 _ rfl
    simpa [cellsInt] using this
  have z0 : ∀ q ∈ y0.1.weights Tryz.prog 33, q ≤ reachBytes := fun q hq => hz q (by
    simp only [DataW.weights, Tryz.underlying44]
    exact DataW.weights_mem_each (j := 0) (t := 33) (d := y0.1) rfl rfl q hq)
  obtain ⟨l0, a0, c0, e0, b0, m0, n0⟩ := open_bytes g0 z0
  subst e0
  obtain ⟨i1, e1, h1, w1⟩ := DataW.trod_int Tryz.underlying42 g1
  simp only [List.cons.injEq, and_true] at e1
  subst e1
  obtain ⟨i2, e2, h2, w2⟩ := DataW.trod_int Tryz.underlying23 g2
  simp only [List.cons.injEq, and_true] at e2
  subst e2
  obtain ⟨i3, e3, h3, w3⟩ := DataW.trod_int Tryz.underlying23 g3
  simp only [List.cons.injEq, and_true] at e3
  subst e3
  obtain ⟨i4, e4, h4⟩ := DataW.trod_bool Tryz.underlying4 g4
  simp only [List.cons.injEq, and_true] at e4
  subst e4
  obtain ⟨i5, e5, h5⟩ := DataW.trod_bool Tryz.underlying4 g5
  simp only [List.cons.injEq, and_true] at e5
  subst e5
  obtain ⟨i6, e6, h6, w6⟩ := DataW.trod_int Tryz.underlying5 g6
  simp only [List.cons.injEq, and_true] at e6
  subst e6
  obtain ⟨i7, e7, h7, w7⟩ := DataW.trod_int Tryz.underlying5 g7
  simp only [List.cons.injEq, and_true] at e7
  subst e7
  obtain ⟨i8, e8, h8, w8⟩ := DataW.trod_int Tryz.underlying5 g8
  simp only [List.cons.injEq, and_true] at e8
  subst e8
  obtain ⟨i9, e9, h9, w9⟩ := DataW.trod_int Tryz.underlying5 g9
  simp only [List.cons.injEq, and_true] at e9
  subst e9
  obtain ⟨i10, e10, h10⟩ := DataW.trod_bool Tryz.underlying4 g10
  simp only [List.cons.injEq, and_true] at e10
  subst e10
  have z11 : ∀ q ∈ y11.1.weights Tryz.prog 33, q ≤ reachBytes := fun q hq => hz q (by
    simp only [DataW.weights, Tryz.underlying44]
    exact DataW.weights_mem_each (j := 11) (t := 33) (d := y11.1) rfl rfl q hq)
  obtain ⟨l11, a11, c11, e11, b11, m11, n11⟩ := open_bytes g11 z11
  subst e11
  have z12 : ∀ q ∈ y12.1.weights Tryz.prog 33, q ≤ reachBytes := fun q hq => hz q (by
    simp only [DataW.weights, Tryz.underlying44]
    exact DataW.weights_mem_each (j := 12) (t := 33) (d := y12.1) rfl rfl q hq)
  obtain ⟨l12, a12, c12, e12, b12, m12, n12⟩ := open_bytes g12 z12
  subst e12
  obtain ⟨i13, e13, h13, w13⟩ := DataW.trod_int Tryz.underlying3 g13
  simp only [List.cons.injEq, and_true] at e13
  subst e13
  obtain ⟨i14, e14, h14, w14⟩ := DataW.trod_int Tryz.underlying3 g14
  simp only [List.cons.injEq, and_true] at e14
  subst e14
  have b1 := bounds_u32 w1
  have b2 := bounds_u64 w2
  have b3 := bounds_u64 w3
  have b6 := bounds_u8 w6
  have b7 := bounds_u8 w7
  have b8 := bounds_u8 w8
  have b9 := bounds_u8 w9
  have b13 := bounds_i64 w13
  have b14 := bounds_i64 w14
  refine ⟨⟨l0, i1, i2, i3, i4, i5, i6, i7, i8, i9, i10, l11, l12, i13, i14⟩, a0, a11, a12, c0, c11, c12, rfl, ⟨b0, b11, b12⟩, ⟨m0, m11, m12, ?_, ?_, ?_, ?_, ?_, ?_, ?_, ?_, ?_⟩, n0, n11, n12⟩
  · exact ⟨by simpa using b1.1, by simpa using b1.2⟩
  · exact ⟨by simpa using b2.1, by simpa using b2.2⟩
  · exact ⟨by simpa using b3.1, by simpa using b3.2⟩
  · exact ⟨by simpa using b6.1, by simpa using b6.2⟩
  · exact ⟨by simpa using b7.1, by simpa using b7.2⟩
  · exact ⟨by simpa using b8.1, by simpa using b8.2⟩
  · exact ⟨by simpa using b9.1, by simpa using b9.2⟩
  · exact ⟨by simpa using b13.1, by simpa using b13.2⟩
  · exact ⟨by simpa using b14.1, by simpa using b14.2⟩
end
end Go.Proofs.YtidfndgedopghaaGreatDoor
namespace Go.Proofs.YtidfndgedopghaaGreatDoor
set_option linter.unusedVariables false
open Go.ChangeShapes Go.WideShapes Go.ChangeAt Go.RowKit Go.Deep
/-- A byte as the program's number. -/
def n8 (x : BitVec 8) : Int := (x.toNat : Int)
theorem n8_inj {x y : BitVec 8} : n8 x = n8 y ↔ x = y := by
  unfold n8; constructor
  · intro h; exact BitVec.eq_of_toNat_eq (by omega)
  · rintro rfl; rfl
theorem n8_lo (x : BitVec 8) : 0 ≤ n8 x := by unfold n8; omega
theorem n8_hi (x : BitVec 8) : n8 x ≤ 255 := by unfold n8; have := x.isLt; omega
theorem n8_of {n : Int} (h : (Lit.int .u8 n).wf = true) : ∃ x : BitVec 8, n = n8 x := by
  have hb := bounds_u8 h
  refine ⟨BitVec.ofNat 8 n.toNat, ?_⟩
  unfold n8; rw [BitVec.toNat_ofNat, Nat.mod_eq_of_lt (by omega)]; omega
theorem ofInt_n8 (x : BitVec 8) : BitVec.ofInt 8 (n8 x) = x := by
  unfold n8; apply BitVec.eq_of_toNat_eq; rw [BitVec.toNat_ofInt]; have := x.isLt; omega
theorem wrap_n8 (z : Int) : IntKind.u8.wrap z = n8 (BitVec.ofInt 8 z) := by
  unfold n8; rw [BitVec.toNat_ofInt]; simp [IntKind.wrap, IntKind.signed, IntKind.bits]; omega
theorem n8_and (x y : BitVec 8) : bits .and .u8 (n8 x) (n8 y) = n8 (x &&& y) := by
  show IntKind.u8.wrap ((BitVec.ofInt 8 (n8 x) &&& BitVec.ofInt 8 (n8 y)).toNat : Int) = _
  rw [ofInt_n8, ofInt_n8, wrap_n8]; exact congrArg n8 (ofInt_n8 _)
theorem n8_andNot (x y : BitVec 8) : bits .andNot .u8 (n8 x) (n8 y) = n8 (x &&& ~~~y) := by
  show IntKind.u8.wrap ((BitVec.ofInt 8 (n8 x) &&& ~~~BitVec.ofInt 8 (n8 y)).toNat : Int) = _
  rw [ofInt_n8, ofInt_n8, wrap_n8]; exact congrArg n8 (ofInt_n8 _)
theorem n64_andNot (x y : BitVec 64) : bits .andNot .u64 (n64 x) (n64 y) = n64 (x &&& ~~~y) := by
  show IntKind.u64.wrap ((BitVec.ofInt 64 (n64 x) &&& ~~~BitVec.ofInt 64 (n64 y)).toNat : Int) = _
  rw [ofInt_n64, ofInt_n64, wrap_n64]; exact congrArg n64 (ofInt_n64 _)
theorem n8_shr (x : BitVec 8) (k : Nat) : n8 x / 2 ^ k = n8 (x >>> k) := by
  unfold n8; rw [BitVec.toNat_ushiftRight, Nat.shiftRight_eq_div_pow, Int.natCast_ediv, Int.natCast_pow]; rfl
/-- What a Cfg byte keeps. -/
def pcl (x : BitVec 8) : BitVec 8 := if x &&& 1#8 = 0#8 then x &&& 0x9d#8 else x &&& 0x9f#8
/-- What an Addr keeps. -/
def pad (x : BitVec 64) : BitVec 64 := x &&& 18014398509481983#64
/-- The cells of an api.Pmp. -/
def pcell (c : Nat → BitVec 8) (a : Nat → BitVec 64) (j : Nat) : Value := if j < 16 then .int .u8 (n8 (c j)) else .int .u64 (n64 (a (j - 16)))
def pc (c : Nat → BitVec 8) (a : Nat → BitVec 64) : Array Value := Array.ofFn (n := 32) fun j => pcell c a j.val
/-- The cells of pmp's own entries. -/
def ecell (c : Nat → BitVec 8) (a : Nat → BitVec 64) (j : Nat) : Value := if j % 2 = 0 then .int .u8 (n8 (c (j / 2))) else .int .u64 (n64 (a (j / 2)))
def ec (c : Nat → BitVec 8) (a : Nat → BitVec 64) : Array Value := Array.ofFn (n := 32) fun j => ecell c a j.val
theorem pc_size (c : Nat → BitVec 8) (a : Nat → BitVec 64) : (pc c a).size = 32 := by simp [pc]
theorem ec_size (c : Nat → BitVec 8) (a : Nat → BitVec 64) : (ec c a).size = 32 := by simp [ec]
theorem pc_at (c : Nat → BitVec 8) (a : Nat → BitVec 64) (j : Nat) (h : j < 32) : (pc c a)[j]? = some (pcell c a j) := by simp [pc, h]
theorem ec_at (c : Nat → BitVec 8) (a : Nat → BitVec 64) (j : Nat) (h : j < 32) : (ec c a)[j]? = some (ecell c a j) := by simp [ec, h]
theorem pc_ones (c : Nat → BitVec 8) (a : Nat → BitVec 64) : (pc c a).all (·.oneCell') = true := by
  rw [Array.all_eq_true]; intro i hi; simp [pc, pcell]; split <;> rfl
theorem ec_ones (c : Nat → BitVec 8) (a : Nat → BitVec 64) : (ec c a).all (·.oneCell') = true := by
  rw [Array.all_eq_true]; intro i hi; simp [ec, ecell]; split <;> rfl
/-- One place of a function turned. -/
def upd {α : Type} (f : Nat → α) (k : Nat) (x : α) : Nat → α := fun j => if j = k then x else f j
theorem set_at {A B : Array Value} {k : Nat} {v : Value} {f g : Nat → Value} (hA : ∀ j, j < 32 → A[j]? = some (f j)) (hB : ∀ j, j < 32 → B[j]? = some (g j)) (sA : A.size = 32) (sB : B.size = 32) (hk : k < 32) (h1 : g k = v) (h2 : ∀ j, j < 32 → j ≠ k → g j = f j) :
    A.setIfInBounds k v = B := by
  apply Array.ext_getElem?
  intro j
  rw [Array.getElem?_setIfInBounds]
  by_cases hj : j < 32
  · rw [hA j hj, hB j hj, sA]
    by_cases e : k = j
    · subst e; rw [if_pos rfl, if_pos hk, h1]
    · rw [if_neg e, h2 j hj (fun q => e q.symm)]
  · rw [if_neg (by omega), Array.getElem?_eq_none (by omega), Array.getElem?_eq_none (by omega)]
theorem pc_cfg (c : Nat → BitVec 8) (a : Nat → BitVec 64) (k : Nat) (x : BitVec 8) (h : k < 16) : (pc c a).setIfInBounds k (.int .u8 (n8 x)) = pc (upd c k x) a := by
  refine set_at (pc_at c a) (pc_at _ a) (pc_size _ _) (pc_size _ _) (by omega) (by simp [pcell, upd, h]) fun j hj hne => ?_
  simp [pcell, upd, hne]
theorem pc_addr (c : Nat → BitVec 8) (a : Nat → BitVec 64) (k : Nat) (x : BitVec 64) (h : k < 16) : (pc c a).setIfInBounds (16 + k) (.int .u64 (n64 x)) = pc c (upd a k x) := by
  refine set_at (pc_at c a) (pc_at _ _) (pc_size _ _) (pc_size _ _) (by omega) (by simp [pcell, upd]) fun j hj hne => ?_
  unfold pcell upd
  split
  · rfl
  · rw [if_neg (by omega)]
theorem ec_cfg (c : Nat → BitVec 8) (a : Nat → BitVec 64) (k : Nat) (x : BitVec 8) (h : k < 16) : (ec c a).setIfInBounds (k * 2) (.int .u8 (n8 x)) = ec (upd c k x) a := by
  refine set_at (ec_at c a) (ec_at _ _) (ec_size _ _) (ec_size _ _) (by omega) (by simp [ecell, upd]) fun j hj hne => ?_
  unfold ecell upd
  split
  · rw [if_neg (by omega)]
  · rfl
theorem ec_addr (c : Nat → BitVec 8) (a : Nat → BitVec 64) (k : Nat) (x : BitVec 64) (h : k < 16) : (ec c a).setIfInBounds (k * 2 + 1) (.int .u64 (n64 x)) = ec c (upd a k x) := by
  refine set_at (ec_at c a) (ec_at _ _) (ec_size _ _) (ec_size _ _) (by omega) ?_ fun j hj hne => ?_
  · unfold ecell upd
    rw [if_neg (by omega), if_pos (by omega)]
  · unfold ecell upd
    split
    · rfl
    · rw [if_neg (by omega)]
theorem pc_congr {c c' : Nat → BitVec 8} {a a' : Nat → BitVec 64} (h : ∀ j, j < 16 → c j = c' j ∧ a j = a' j) : pc c a = pc c' a' := by
  apply Array.ext_getElem?
  intro j
  by_cases hj : j < 32
  · rw [pc_at _ _ _ hj, pc_at _ _ _ hj]; unfold pcell
    split
    · rw [(h j (by omega)).1]
    · rw [(h (j - 16) (by omega)).2]
  · simp [pc, hj]
theorem ec_congr {c c' : Nat → BitVec 8} {a a' : Nat → BitVec 64} (h : ∀ j, j < 16 → c j = c' j ∧ a j = a' j) : ec c a = ec c' a' := by
  apply Array.ext_getElem?
  intro j
  by_cases hj : j < 32
  · rw [ec_at _ _ _ hj, ec_at _ _ _ hj]; unfold ecell
    split
    · rw [(h (j / 2) (by omega)).1]
    · rw [(h (j / 2) (by omega)).2]
  · simp [ec, hj]
/-- Whole rows, loaded from anywhere inside a block. -/
theorem run_load_agg {P : Program} (w : World) (ty : TypeId) (g off : Nat) (cs : Array Value) (d : TypeDesc) (hc : ∀ j v, cs[j]? = some v → w.cell? ⟨g, off + j, none⟩ = some v)
    (hu : P.underlying ty = some d) (hd : (match d with | .struct _ | .array _ _ => true | _ => false) = true) (hi : (P.info? ty).map (·.size) = some cs.size) :
    (loadVar ty ⟨g, off, none⟩).run P w = .ok (.agg cs) w := by
  have hl : (loadCells ⟨g, off, none⟩ cs.toList.length).run P w = .ok cs.toList.toArray w :=
    run_loadCells_list (P := P) w ⟨g, off, none⟩ cs.toList (fun j v hv => by
      have hadd : (⟨g, off, none⟩ : Addr).add j = ⟨g, off + j, none⟩ := by unfold Addr.add; split <;> simp_all
      rw [hadd]; exact hc j v (by simpa using hv))
  cases hq : P.info? ty with
  | none => simp [hq] at hi
  | some i =>
    have hs : i.size = cs.size := by simpa [hq] using hi
    have hagg : (isAgg ty).run P w = .ok true w := by
      unfold isAgg
      rw [Sem.run_bind, run_underlying hu w]
      cases d <;> simp_all
    simp only [Array.length_toList, Array.toArray_toList] at hl
    simp [loadVar, Sem.run_bind, hagg, sizeOf, typeInfo, hq, hs, hl]
theorem wpList_load_agg {P : Program} {ops : Array Oper} {rest : List Oper} {o : Oper} {a : Act} {w : World} {Q : Exit → Act → World → Prop} (hgd : o.guard = none) (ty : TypeId) (x : Operand) (ho : o.op = .load ty x)
    (g off : Nat) (hx : a.eval x = .pointer (some ⟨g, off, none⟩)) (cs : Array Value) (d : TypeDesc) (hc : ∀ j v, cs[j]? = some v → w.cell? ⟨g, off + j, none⟩ = some v)
    (hu : P.underlying ty = some d) (hd : (match d with | .struct _ | .array _ _ => true | _ => false) = true) (hi : (P.info? ty).map (·.size) = some cs.size)
    (h : wpList P ops Q rest (a.put o.dst (.agg cs)) w) : wpList P ops Q (o :: rest) a w :=
  wpList_plain hgd fun _ hK => by
    unfold Oper.wp execOp
    simp only [ho, hx, Instr.loadAt, Instr.sureAddr, Sem.run_bind, Sem.run_pure, Result.andThen_ok, run_load_agg w ty g off cs d hc hu hd hi]
    exact hK _ _ h
theorem wpList_store_row {P : Program} {ops : Array Oper} {rest : List Oper} {o : Oper} {a : Act} {w : World} {Q : Exit → Act → World → Prop} (hgd : o.guard = none) (t : TypeId) (x y : Operand) (ho : o.op = .store t x y) (hd : o.dst = none)
    (g : Nat) (c c' : Array Value) (hx : a.eval x = .pointer (some ⟨g, 0, none⟩)) (hy : a.eval y = .agg c') (hg : w.heap[g]? = some (.cells c t (0, 0))) (hi : (P.info? t).map (·.size) = some c'.size) (hs : c.size = c'.size) (h1 : c'.all (·.oneCell') = true)
    (h : wpList P ops Q rest a (w.setRow g c')) : wpList P ops Q (o :: rest) a w :=
  wpList_plain hgd fun _ hK => by
    unfold Oper.wp execOp
    simp only [ho, hx, hy, Instr.storeAt, Instr.sureAddr, Sem.run_bind, Sem.run_pure, Result.andThen_ok, run_storeVar_row w g t t c c' hg hi hs h1]
    simpa [Oper.upon, Act.put, hd] using hK _ _ h
end Go.Proofs.YtidfndgedopghaaGreatDoor
