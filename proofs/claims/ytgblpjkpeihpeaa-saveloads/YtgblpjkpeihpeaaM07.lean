/-
  Bsv Bcp Bra Bsm Bop.
-/
import Derived.Test.YtgblpjkpeihpeaaM06
import Derived.Test.YtgblpjkpeihpeaaM03
import Derived.SizedLaws
namespace Go.Proofs.Ytgblpjkpeihpeaa
set_option linter.unusedVariables false
open Go.ChangeShapes Go.WideShapes Go.ChangeAt Go.RowKit Go.Deep Go.MuLone
theorem su_mem {L : Lay} {S : St} {vr ui : Value} {g : Nat} (j : Nat) (hj : j ≠ 84) : ∀ f, suKd L S vr ui g j ≠ .mem f := by
  intro f
  unfold suKd
  split <;> first | exact absurd rfl hj | simp
theorem su_fin : ∀ k, k < 85 → k ≠ 84 → k ∈ suNeed 84 := by decide
end Go.Proofs.Ytgblpjkpeihpeaa
namespace Go.Proofs.Ytgblpjkpeihpeaa
set_option linter.unusedVariables false
open Go.ChangeShapes Go.WideShapes Go.ChangeAt Go.RowKit Go.Deep
/-- Copied, half way: the parameter's box p, the copy t, the result r. -/
structure Cpd (C : Array Value) (p r t : Nat) (cs : Array Value) (w0 w : World) : Prop where
  b : Below w0.heap.size w0 w
  hp : w.heap[p]? = some (.cells C 35 (0, 0))
  hr : ∃ z : Array Value, w.heap[r]? = some (.cells z 35 (0, 0)) ∧ z.size = 15
  ht : w.heap[t]? = some (.cells cs 35 (0, 0))
  n1 : p ≠ t
  n2 : r ≠ t
  lt : w0.heap.size ≤ t
theorem Cpd.grow {C cs : Array Value} {p r t : Nat} {w0 w w' : World} (h : Cpd C p r t cs w0 w) (hb : Below w.heap.size w w') : Cpd C p r t cs w0 w' := by
  have k : ∀ {g : Nat} {o : Obj}, w.heap[g]? = some o → w'.heap[g]? = some o := fun {g o} hg => by rw [hb.block g (Array.getElem?_eq_some_iff.1 hg).1]; exact hg
  obtain ⟨z, hz, hs⟩ := h.hr
  exact ⟨h.b.trans (hb.mono h.b.size), k h.hp, ⟨z, k hz, hs⟩, k h.ht, h.n1, h.n2, h.lt⟩
theorem Cpd.set {C cs : Array Value} {p r t : Nat} {w0 w : World} (h : Cpd C p r t cs w0 w) (j : Nat) (v : Value) : Cpd C p r t (cs.setIfInBounds j v) w0 (w.setCell ⟨t, j, none⟩ v) := by
  obtain ⟨z, hz, hs⟩ := h.hr
  refine ⟨h.b.setCell h.lt v, ?_, ⟨z, ?_, hs⟩, heap_setCell_same w t j cs _ v h.ht, h.n1, h.n2, h.lt⟩
  · rw [Below.heap_setCell w ⟨t, j, none⟩ v p h.n1]; exact h.hp
  · rw [Below.heap_setCell w ⟨t, j, none⟩ v r h.n2]; exact hz
theorem Cpd.pcell {C cs : Array Value} {p r t : Nat} {w0 w : World} (h : Cpd C p r t cs w0 w) (j : Nat) : w.cell? ⟨p, j, none⟩ = C[j]? := cell_of_row w p j _ _ _ h.hp
theorem Cpd.tcell {C cs : Array Value} {p r t : Nat} {w0 w : World} (h : Cpd C p r t cs w0 w) (j : Nat) : w.cell? ⟨t, j, none⟩ = cs[j]? := cell_of_row w t j _ _ _ h.ht
theorem Cpd.tfree {C cs : Array Value} {p r t : Nat} {w0 w : World} (h : Cpd C p r t cs w0 w) (j : Nat) : w.frozen? ⟨t, j, none⟩ = false := frozen_of_row w t j _ _ h.ht
theorem below_nil {w w' : World} (h : w.grownBy w' (Value.slice none 0 0).ownBlock) : Below w.heap.size w w' := (Below.refl _ _).grown h (Nat.le_refl _) (fun k hk => by cases hk)
theorem Cpd.start (w : World) (C Z : Array Value) (hZ : Z.size = 15) : Cpd C w.heap.size (w.heap.size + 1) (w.heap.size + 2) C w (((w.alloc (.cells C 35)).alloc (.cells Z 35)).alloc (.cells C 35)) := by
  have e1 : (w.alloc (.cells C 35)).heap.size = w.heap.size + 1 := by simp
  have e2 : ((w.alloc (.cells C 35)).alloc (.cells Z 35)).heap.size = w.heap.size + 2 := by simp
  refine ⟨(((Below.refl _ _).alloc (Nat.le_refl _) _).alloc (by simp) _).alloc (by simp; omega) _, ?_, ⟨Z, ?_, hZ⟩, ?_, by omega, by omega, by omega⟩
  · rw [Below.heap_alloc _ _ _ (by rw [e2]; omega), Below.heap_alloc _ _ _ (by rw [e1]; omega)]; exact alloc_at w _
  · rw [Below.heap_alloc _ _ _ (by rw [e2]; omega), ← e1]; exact alloc_at _ _
  · rw [← e2]; exact alloc_at _ _
theorem Cpd.last {C cs : Array Value} {p r t : Nat} {w0 w : World} (h : Cpd C p r t cs w0 w) (hr : w0.heap.size ≤ r) (c : Array Value) : (w.setRow r c).heap[r]? = some (.cells c 35 (0, 0)) ∧ Exc (· = r) w (w.setRow r c) ∧ Below w0.heap.size w0 (w.setRow r c) := by
  obtain ⟨z, hz, hs⟩ := h.hr
  have e : Exc (· = r) w (w.setRow r c) := ⟨rfl, rfl, rfl, by simp [World.setRow], fun k hk hs => setRow_other w r _ k hs⟩
  exact ⟨setRow_heap w r _ _ _ _ hz, e, h.b.trans (e.below h.b.size (fun k hk => by rw [hk]; exact hr))⟩
theorem own_set {w : World} {B n t j : Nat} {v u : Value} {xs : List Value} (h : w.ownsRow B 5 1 v n xs) (ht : t < B) : (w.setCell ⟨t, j, none⟩ u).ownsRow B 5 1 v n xs := ownsRow_setCell_below h ht u
end Go.Proofs.Ytgblpjkpeihpeaa
namespace Go.Proofs.Ytgblpjkpeihpeaa
set_option linter.unusedVariables false
open Go.ChangeShapes Go.WideShapes Go.ChangeAt Go.RowKit Go.Deep
theorem ramOk_lo {n : Nat} (h : (n : Int) < 8) : ramOk n = false := by simp [ramOk]; omega
theorem ramOk_hi {n : Nat} (h : (65536 : Int) < n) : ramOk n = false := by simp [ramOk]; omega
theorem ramOk_odd {n : Nat} (h : ((n : Int) % 8 != 0) = true) : ramOk n = false := by simp [ramOk] at h ⊢; omega
theorem powOk_lo {o c : Int} (h : o < 0) : powOk o c = false := by unfold powOk; rw [if_neg (by omega), if_neg (by omega)]
theorem powOk_hi {o c : Int} (h : 2 < o) : powOk o c = false := by unfold powOk; rw [if_neg (by omega), if_neg (by omega)]
set_option maxHeartbeats 1000000 in
theorem rcanBe_c (S : St) (ar ai ao : Option Addr) (cr ci co : Nat) (w : World) :
    Calls Try.prog 19 #[.agg (stc S (.slice ar S.ram.length cr) (.slice ai S.inp.length ci) (.slice ao S.out.length co))] w fun e w' => e = .returned (.bool S.ok) ∧ Below w.heap.size w w' := by
  have HB : Hid (∀ o, Below w.heap.size w (w.alloc o)) := fun o => (Below.refl _ _).alloc (Nat.le_refl _) o
  obtain ⟨b, hb⟩ : ∃ b, b = S.ok := ⟨_, rfl⟩
  rw [← hb]
  have HE : Hid (b = (ramOk S.ram.length && decide (S.msip ≤ 1) && decide (S.ier ≤ 15) && decide (S.mcr ≤ 31) && decide ((S.inp.length : Int) ≤ 64) && decide ((S.out.length : Int) ≤ 4096) && powOk S.off S.code)) := hb
  clear hb
  unfold stc
  rcases Int.lt_or_le (S.ram.length : Int) 8 with ga | ha
  · have HX : Hid (b = false) := by unfold Hid; rw [HE.out]; simp [ramOk_lo ga]
    clear HE
    go_enter Try.func19, Try.ntmps19
    go_wp2
    go_ret
    exact ⟨by cases HX.out; rfl, HB.out _⟩
  rcases Int.lt_or_le 65536 (S.ram.length : Int) with gb | hb
  · have HX : Hid (b = false) := by unfold Hid; rw [HE.out]; simp [ramOk_hi gb]
    clear HE
    go_enter Try.func19, Try.ntmps19
    go_wp2
    go_ret
    exact ⟨by cases HX.out; rfl, HB.out _⟩
  have hm : (S.ram.length : Int).tmod 8 = (S.ram.length : Int) % 8 := Int.tmod_eq_emod_of_nonneg (by omega)
  rcases Bool.eq_false_or_eq_true (((S.ram.length : Int) % 8) != 0) with gc | hc
  · have HX : Hid (b = false) := by unfold Hid; rw [HE.out]; simp [ramOk_odd gc]
    clear HE
    go_enter Try.func19, Try.ntmps19
    go_wp2
    go_ret
    exact ⟨by cases HX.out; rfl, HB.out _⟩
  have hro : ramOk S.ram.length = true := by have hc' := hc; simp at hc'; simp [ramOk]; omega
  rcases Int.lt_or_le 1 S.msip with g0 | h0
  · have HX : Hid (b = false) := by unfold Hid; rw [HE.out]; simp [show ¬ S.msip ≤ 1 by omega]
    clear HE
    go_enter Try.func19, Try.ntmps19
    go_wp2
    go_ret
    exact ⟨by cases HX.out; rfl, HB.out _⟩
  rcases Int.lt_or_le 15 S.ier with g1 | h1
  · have HX : Hid (b = false) := by unfold Hid; rw [HE.out]; simp [show ¬ S.ier ≤ 15 by omega]
    clear HE
    go_enter Try.func19, Try.ntmps19
    go_wp2
    go_ret
    exact ⟨by cases HX.out; rfl, HB.out _⟩
  rcases Int.lt_or_le 31 S.mcr with g2 | h2
  · have HX : Hid (b = false) := by unfold Hid; rw [HE.out]; simp [show ¬ S.mcr ≤ 31 by omega]
    clear HE
    go_enter Try.func19, Try.ntmps19
    go_wp2
    go_ret
    exact ⟨by cases HX.out; rfl, HB.out _⟩
  rcases Int.lt_or_le 64 (S.inp.length : Int) with g3 | h3
  · have HX : Hid (b = false) := by unfold Hid; rw [HE.out]; simp [show ¬ (S.inp.length : Int) ≤ 64 by omega]
    clear HE
    go_enter Try.func19, Try.ntmps19
    go_wp2
    go_ret
    exact ⟨by cases HX.out; rfl, HB.out _⟩
  rcases Int.lt_or_le 4096 (S.out.length : Int) with g4 | h4
  · have HX : Hid (b = false) := by unfold Hid; rw [HE.out]; simp [show ¬ (S.out.length : Int) ≤ 4096 by omega]
    clear HE
    go_enter Try.func19, Try.ntmps19
    go_wp2
    go_ret
    exact ⟨by cases HX.out; rfl, HB.out _⟩
  rcases Int.lt_or_le S.off 0 with gd | hd
  · have HX : Hid (b = false) := by unfold Hid; rw [HE.out]; simp [powOk_lo gd]
    clear HE
    go_enter Try.func19, Try.ntmps19
    go_wp2
    go_ret
    exact ⟨by cases HX.out; rfl, HB.out _⟩
  rcases Int.lt_or_le 2 S.off with ge | he
  · have HX : Hid (b = false) := by unfold Hid; rw [HE.out]; simp [powOk_hi ge]
    clear HE
    go_enter Try.func19, Try.ntmps19
    go_wp2
    go_ret
    exact ⟨by cases HX.out; rfl, HB.out _⟩
  have HX : Hid (b = powOk S.off S.code) := by unfold Hid; rw [HE.out]; simp [hro, h0, h1, h2, h3, h4]
  clear HE
  by_cases h5 : S.off = 2
  · have e5 : (S.off == 2) = true := by simpa using h5
    have HY : Hid (b = (decide (0 ≤ S.code) && decide (S.code ≤ 65535))) := by unfold Hid; rw [HX.out, h5]; rfl
    clear HX
    rcases Int.lt_or_le S.code 0 with gf | hf
    · have HZ : Hid (b = false) := by unfold Hid; rw [HY.out]; simp; omega
      go_enter Try.func19, Try.ntmps19
      go_wp2
      go_ret
      exact ⟨by cases HZ.out; rfl, HB.out _⟩
    · have HZ : Hid (b = decide (S.code ≤ 65535)) := by unfold Hid; rw [HY.out]; simp [hf]
      go_enter Try.func19, Try.ntmps19
      go_wp2
      go_ret
      exact ⟨by cases HZ.out; rfl, HB.out _⟩
  · have e5 : (S.off == 2) = false := by simpa using h5
    have HZ : Hid (b = (S.code == 0)) := by unfold Hid; rw [HX.out, powOk, if_pos (by omega)]
    go_enter Try.func19, Try.ntmps19
    go_wp2
    go_ret
    exact ⟨by cases HZ.out; rfl, HB.out _⟩
end Go.Proofs.Ytgblpjkpeihpeaa
namespace Go.Proofs.Ytgblpjkpeihpeaa
set_option linter.unusedVariables false
open Go.ChangeShapes Go.WideShapes Go.ChangeAt Go.RowKit Go.Deep
/-- The cells of a state whose lists lie in this world. -/
structure Bs (S : St) (vr vi vo : Value) (w : World) : Prop where
  r : Byt w vr S.ram
  i : Byt w vi S.inp
  o : Byt w vo S.out
theorem Bs.later {S : St} {vr vi vo : Value} {w w' : World} (h : Bs S vr vi vo w) (hb : Below w.heap.size w w') : Bs S vr vi vo w' := ⟨h.r.later hb rfl, h.i.later hb rfl, h.o.later hb rfl⟩
theorem Sv.bs {B : Nat} {S : St} {vr vi vo : Value} {w : World} (h : Sv B S vr vi vo w) : Bs S vr vi vo w := ⟨Byt.of_own h.r, Byt.of_own h.i, Byt.of_own h.o⟩
theorem Sv.later {B : Nat} {S : St} {vr vi vo : Value} {w w' : World} (h : Sv B S vr vi vo w) (hb : Below w.heap.size w w') : Sv B S vr vi vo w' := ⟨own_later h.r hb rfl, own_later h.i hb rfl, own_later h.o hb rfl, h.ri, h.ro, h.io⟩
end Go.Proofs.Ytgblpjkpeihpeaa
namespace Go.Proofs.Ytgblpjkpeihpeaa
set_option linter.unusedVariables false
open Go.ChangeShapes Go.WideShapes Go.ChangeAt Go.RowKit Go.Deep
section
variable {H : Type} {enc : TypeId × Value → H} {w : World} {base : Nat} {held : Bool}
theorem cellsSt : Try.prog.cellsOf 35 = 15 := by kernel_rfl
theorem cellsBy : Try.prog.cellsOf 32 = 1 := by kernel_rfl
theorem cellsU32 : Try.prog.cellsOf 33 = 1 := by kernel_rfl
theorem cellsU64 : Try.prog.cellsOf 22 = 1 := by kernel_rfl
theorem cellsU8 : Try.prog.cellsOf 5 = 1 := by kernel_rfl
theorem cellsBool : Try.prog.cellsOf 4 = 1 := by kernel_rfl
theorem cellsInt : Try.prog.cellsOf 3 = 1 := by kernel_rfl
theorem bytesU8 : Try.prog.bytesOf 5 = 1 := by kernel_rfl
theorem list15 {α : Type} {l : List α} (h : l.length = 15) : ∃ a0 a1 a2 a3 a4 a5 a6 a7 a8 a9 a10 a11 a12 a13 a14, l = [a0, a1, a2, a3, a4, a5, a6, a7, a8, a9, a10, a11, a12, a13, a14] := by
  match l, h with
  | [a0, a1, a2, a3, a4, a5, a6, a7, a8, a9, a10, a11, a12, a13, a14], _ => exact ⟨a0, a1, a2, a3, a4, a5, a6, a7, a8, a9, a10, a11, a12, a13, a14, rfl⟩
/-- A list of bytes that came in. -/
theorem open_bytes {fuel : Nat} {v : Value} {y : DataW H × List MemPlace} (h : DataW.trod enc Try.prog w base (fun _ => true) held fuel 32 [v] = some y) (hz : ∀ q ∈ y.1.weights Try.prog 32, q ≤ reachBytes) :
    ∃ (l : List Int) (a : Option Addr) (c : Nat), v = .slice a l.length c ∧ Byt w (.slice a l.length c) l ∧ AllB l ∧ l.length ≤ 140737488351232 := by
  rcases open_ints Try.underlying32 Try.underlying5 cellsU8 h with ⟨e3, hy3⟩ | ⟨a, len, cap, zs, e3, _, hl, hm, hzl, hy3, hcell, hwz⟩
  · simp at e3
    subst e3
    exact ⟨[], none, 0, rfl, Byt.nil w, fun x hx => by simp at hx, by simp⟩
  · simp at e3
    subst e3
    simp only [if_true] at hzl
    have hw : (lits .u8 (zs.take len) : List (DataW H)).length + (lits .u8 (zs.drop len) : List (DataW H)).length ≤ reachBytes := by
      have hmem : ((lits .u8 (zs.take len) : List (DataW H)).length + (lits .u8 (zs.drop len) : List (DataW H)).length) * 1 ∈ y.1.weights Try.prog 32 := by
        rw [hy3]
        simp [DataW.weights, Try.underlying32, bytesU8]
      have := hz _ hmem
      omega
    simp [lits, reachBytes] at hw
    have hlen : (zs.take len).length = len := by simp; omega
    refine ⟨zs.take len, some a, cap, by rw [hlen], ?_, ?_, by rw [hlen]; omega⟩
    · refine ⟨some a, cap, rfl, by rw [hlen]; omega, fun e => (by cases e), fun hne => ?_⟩
      have hpos : 0 < len := by
        rcases Nat.eq_zero_or_pos len with e | e
        · subst e; simp at hne
        · exact e
      obtain ⟨b, off, spot⟩ := a
      have hc := hcell 0 (by omega)
      have hspot : spot = none := by simpa [Addr.add] using World.cell?_spot hc
      subst hspot
      refine ⟨b, off, rfl, World.block_lt_of_cell? w _ hc, fun j hj => ?_⟩
      have hj' : j < len := by rw [hlen] at hj; exact hj
      have hcj := hcell j (by omega)
      rw [addAt] at hcj
      rw [hcj]
      simp [List.getD, hj']
    · intro z hzm
      have := hwz z (List.mem_of_mem_take hzm)
      have hb8 := bounds_u8 this
      omega
/-- What the numbers of a state can be. -/
structure StW (S : St) : Prop where
  r : AllB S.ram
  i : AllB S.inp
  o : AllB S.out
  msip : 0 ≤ S.msip ∧ S.msip ≤ 4294967295
  cmp : 0 ≤ S.cmp ∧ S.cmp ≤ 18446744073709551615
  time : 0 ≤ S.time ∧ S.time ≤ 18446744073709551615
  ier : 0 ≤ S.ier ∧ S.ier ≤ 255
  lcr : 0 ≤ S.lcr ∧ S.lcr ≤ 255
  mcr : 0 ≤ S.mcr ∧ S.mcr ≤ 255
  scr : 0 ≤ S.scr ∧ S.scr ≤ 255
  off : -9223372036854775808 ≤ S.off ∧ S.off ≤ 9223372036854775807
  code : -9223372036854775808 ≤ S.code ∧ S.code ≤ 9223372036854775807
theorem open_state {fuel : Nat} {cs : List Value} {y : DataW H × List MemPlace} (h : DataW.trod enc Try.prog w base (fun _ => true) held fuel 35 cs = some y) (hz : ∀ q ∈ y.1.weights Try.prog 35, q ≤ reachBytes) :
    ∃ (S : St) (ar ai ao : Option Addr) (cr ci co : Nat), cs = (stc S (.slice ar S.ram.length cr) (.slice ai S.inp.length ci) (.slice ao S.out.length co)).toList ∧ Bs S (.slice ar S.ram.length cr) (.slice ai S.inp.length ci) (.slice ao S.out.length co) w ∧ StW S ∧
      S.ram.length ≤ 140737488351232 ∧ S.inp.length ≤ 140737488351232 ∧ S.out.length ≤ 140737488351232 := by
  obtain ⟨xs, n, _, rfl, hl, hlen, hf⟩ := DataW.trod_struct Try.underlying35 h
  rw [cellsSt] at hl
  obtain ⟨v0, v1, v2, v3, v4, v5, v6, v7, v8, v9, v10, v11, v12, v13, v14, rfl⟩ := list15 hl
  obtain ⟨y0, y1, y2, y3, y4, y5, y6, y7, y8, y9, y10, y11, y12, y13, y14, rfl⟩ := list15 (show xs.length = 15 from hlen)
  have g0 : DataW.trod enc Try.prog w base (fun _ => true) held n 32 [v0] = some y0 := by
    have := hf 0 _ rfl
    simpa [cellsBy] using this
  have g1 : DataW.trod enc Try.prog w base (fun _ => true) held n 33 [v1] = some y1 := by
    have := hf 1 _ rfl
    simpa [cellsU32] using this
  have g2 : DataW.trod enc Try.prog w base (fun _ => true) held n 22 [v2] = some y2 := by
    have := hf 2 _ rfl
    simpa [cellsU64] using this
  have g3 : DataW.trod enc Try.prog w base (fun _ => true) held n 22 [v3] = some y3 := by
    have := hf 3 _ rfl
    simpa [cellsU64] using this
  have g4 : DataW.trod enc Try.prog w base (fun _ => true) held n 4 [v4] = some y4 := by
    have := hf 4 _ rfl
    simpa [cellsBool] using this
  have g5 : DataW.trod enc Try.prog w base (fun _ => true) held n 4 [v5] = some y5 := by
    have := hf 5 _ rfl
    simpa [cellsBool] using this
  have g6 : DataW.trod enc Try.prog w base (fun _ => true) held n 5 [v6] = some y6 := by
    have := hf 6 _ rfl
    simpa [cellsU8] using this
  have g7 : DataW.trod enc Try.prog w base (fun _ => true) held n 5 [v7] = some y7 := by
    have := hf 7 _ rfl
    simpa [cellsU8] using this
  have g8 : DataW.trod enc Try.prog w base (fun _ => true) held n 5 [v8] = some y8 := by
    have := hf 8 _ rfl
    simpa [cellsU8] using this
  have g9 : DataW.trod enc Try.prog w base (fun _ => true) held n 5 [v9] = some y9 := by
    have := hf 9 _ rfl
    simpa [cellsU8] using this
  have g10 : DataW.trod enc Try.prog w base (fun _ => true) held n 4 [v10] = some y10 := by
    have := hf 10 _ rfl
    simpa [cellsBool] using this
  have g11 : DataW.trod enc Try.prog w base (fun _ => true) held n 32 [v11] = some y11 := by
    have := hf 11 _ rfl
    simpa [cellsBy] using this
  have g12 : DataW.trod enc Try.prog w base (fun _ => true) held n 32 [v12] = some y12 := by
    have := hf 12 _ rfl
    simpa [cellsBy] using this
  have g13 : DataW.trod enc Try.prog w base (fun _ => true) held n 3 [v13] = some y13 := by
    have := hf 13 _ rfl
    simpa [cellsInt] using this
  have g14 : DataW.trod enc Try.prog w base (fun _ => true) held n 3 [v14] = some y14 := by
    have := hf 14 _ rfl
    simpa [cellsInt] using this
  have z0 : ∀ q ∈ y0.1.weights Try.prog 32, q ≤ reachBytes := fun q hq => hz q (by
    simp only [DataW.weights, Try.underlying35]
    exact DataW.weights_mem_each (j := 0) (t := 32) (d := y0.1) rfl rfl q hq)
  obtain ⟨l0, a0, c0, e0, b0, m0, n0⟩ := open_bytes g0 z0
  subst e0
  obtain ⟨i1, e1, h1, w1⟩ := DataW.trod_int Try.underlying33 g1
  simp only [List.cons.injEq, and_true] at e1
  subst e1
  obtain ⟨i2, e2, h2, w2⟩ := DataW.trod_int Try.underlying22 g2
  simp only [List.cons.injEq, and_true] at e2
  subst e2
  obtain ⟨i3, e3, h3, w3⟩ := DataW.trod_int Try.underlying22 g3
  simp only [List.cons.injEq, and_true] at e3
  subst e3
  obtain ⟨i4, e4, h4⟩ := DataW.trod_bool Try.underlying4 g4
  simp only [List.cons.injEq, and_true] at e4
  subst e4
  obtain ⟨i5, e5, h5⟩ := DataW.trod_bool Try.underlying4 g5
  simp only [List.cons.injEq, and_true] at e5
  subst e5
  obtain ⟨i6, e6, h6, w6⟩ := DataW.trod_int Try.underlying5 g6
  simp only [List.cons.injEq, and_true] at e6
  subst e6
  obtain ⟨i7, e7, h7, w7⟩ := DataW.trod_int Try.underlying5 g7
  simp only [List.cons.injEq, and_true] at e7
  subst e7
  obtain ⟨i8, e8, h8, w8⟩ := DataW.trod_int Try.underlying5 g8
  simp only [List.cons.injEq, and_true] at e8
  subst e8
  obtain ⟨i9, e9, h9, w9⟩ := DataW.trod_int Try.underlying5 g9
  simp only [List.cons.injEq, and_true] at e9
  subst e9
  obtain ⟨i10, e10, h10⟩ := DataW.trod_bool Try.underlying4 g10
  simp only [List.cons.injEq, and_true] at e10
  subst e10
  have z11 : ∀ q ∈ y11.1.weights Try.prog 32, q ≤ reachBytes := fun q hq => hz q (by
    simp only [DataW.weights, Try.underlying35]
    exact DataW.weights_mem_each (j := 11) (t := 32) (d := y11.1) rfl rfl q hq)
  obtain ⟨l11, a11, c11, e11, b11, m11, n11⟩ := open_bytes g11 z11
  subst e11
  have z12 : ∀ q ∈ y12.1.weights Try.prog 32, q ≤ reachBytes := fun q hq => hz q (by
    simp only [DataW.weights, Try.underlying35]
    exact DataW.weights_mem_each (j := 12) (t := 32) (d := y12.1) rfl rfl q hq)
  obtain ⟨l12, a12, c12, e12, b12, m12, n12⟩ := open_bytes g12 z12
  subst e12
  obtain ⟨i13, e13, h13, w13⟩ := DataW.trod_int Try.underlying3 g13
  simp only [List.cons.injEq, and_true] at e13
  subst e13
  obtain ⟨i14, e14, h14, w14⟩ := DataW.trod_int Try.underlying3 g14
  simp only [List.cons.injEq, and_true] at e14
  subst e14
  have b1 := bounds_u32 w1
  have b2 := bounds_u64 w2
  have b3 := bounds_u64 w3
  have b6 := bounds_u8 w6
  have b7 := bounds_u8 w7
  have b8 := bounds_u8 w8
  have b9 := bounds_u8 w9
  have b13 := bounds_i64 w13
  have b14 := bounds_i64 w14
  refine ⟨⟨l0, i1, i2, i3, i4, i5, i6, i7, i8, i9, i10, l11, l12, i13, i14⟩, a0, a11, a12, c0, c11, c12, rfl, ⟨b0, b11, b12⟩, ⟨m0, m11, m12, ?_, ?_, ?_, ?_, ?_, ?_, ?_, ?_, ?_⟩, n0, n11, n12⟩
  · exact ⟨by simpa using b1.1, by simpa using b1.2⟩
  · exact ⟨by simpa using b2.1, by simpa using b2.2⟩
  · exact ⟨by simpa using b3.1, by simpa using b3.2⟩
  · exact ⟨by simpa using b6.1, by simpa using b6.2⟩
  · exact ⟨by simpa using b7.1, by simpa using b7.2⟩
  · exact ⟨by simpa using b8.1, by simpa using b8.2⟩
  · exact ⟨by simpa using b9.1, by simpa using b9.2⟩
  · exact ⟨by simpa using b13.1, by simpa using b13.2⟩
  · exact ⟨by simpa using b14.1, by simpa using b14.2⟩
end
end Go.Proofs.Ytgblpjkpeihpeaa
