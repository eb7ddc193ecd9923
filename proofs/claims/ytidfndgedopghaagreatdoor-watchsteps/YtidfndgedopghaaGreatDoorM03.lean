/-
  Bcp Bra Bsm Bop Pba.
-/
import Derived.Test.YtidfndgedopghaaGreatDoorM02
import Derived.SizedLaws
import Derived.Test.YtidfndgedopghaaGreatDoorM01
namespace Go.Proofs.YtidfndgedopghaaGreatDoor
set_option linter.unusedVariables false
open Go.ChangeShapes Go.WideShapes Go.ChangeAt Go.RowKit Go.Deep
/-- Copied, half way: the parameter's box p, the copy t, the result r. -/
structure Cpd (C : Array Value) (p r t : Nat) (cs : Array Value) (w0 w : World) : Prop where
  b : Below w0.heap.size w0 w
  hp : w.heap[p]? = some (.cells C 44 (0, 0))
  hr : ∃ z : Array Value, w.heap[r]? = some (.cells z 44 (0, 0)) ∧ z.size = 15
  ht : w.heap[t]? = some (.cells cs 44 (0, 0))
  n1 : p ≠ t
  n2 : r ≠ t
  lt : w0.heap.size ≤ t
theorem Cpd.grow {C cs : Array Value} {p r t : Nat} {w0 w w' : World} (h : Cpd C p r t cs w0 w) (hb : Below w.heap.size w w') : Cpd C p r t cs w0 w' := by
  have k : ∀ {g : Nat} {o : Obj}, w.heap[g]? = some o → w'.heap[g]? = some o := fun {g o} hg => by rw [hb.block g (Array.getElem?_eq_some_iff.1 hg).1]; exact hg
  obtain ⟨z, hz, hs⟩ := h.hr
  exact ⟨h.b.trans (hb.mono h.b.size), k h.hp, ⟨z, k hz, hs⟩, k h.ht, h.n1, h.n2, h.lt⟩
theorem Cpd.set {C cs : Array Value} {p r t : Nat} {w0 w : World} (h : Cpd C p r t cs w0 w) (j : Nat) (v : Value) : Cpd C p r t (cs.setIfInBounds j v) w0 (w.setCell ⟨t, j, none⟩ v) := by
  obtain ⟨z, hz, hs⟩ := h.hr
  refine ⟨h.b.setCell h.lt v, ?_, ⟨z, ?_, hs⟩, heap_setCell_same w t j cs _ v h.ht, h.n1, h.n2, h.lt⟩
  · rw [Below.heap_setCell w ⟨t, j, none⟩ v p h.n1]; exact h.hp
  · rw [Below.heap_setCell w ⟨t, j, none⟩ v r h.n2]; exact hz
theorem Cpd.pcell {C cs : Array Value} {p r t : Nat} {w0 w : World} (h : Cpd C p r t cs w0 w) (j : Nat) : w.cell? ⟨p, j, none⟩ = C[j]? := cell_of_row w p j _ _ _ h.hp
theorem Cpd.tcell {C cs : Array Value} {p r t : Nat} {w0 w : World} (h : Cpd C p r t cs w0 w) (j : Nat) : w.cell? ⟨t, j, none⟩ = cs[j]? := cell_of_row w t j _ _ _ h.ht
theorem Cpd.tfree {C cs : Array Value} {p r t : Nat} {w0 w : World} (h : Cpd C p r t cs w0 w) (j : Nat) : w.frozen? ⟨t, j, none⟩ = false := frozen_of_row w t j _ _ h.ht
theorem below_nil {w w' : World} (h : w.grownBy w' (Value.slice none 0 0).ownBlock) : Below w.heap.size w w' := (Below.refl _ _).grown h (Nat.le_refl _) (fun k hk => by cases hk)
theorem Cpd.start (w : World) (C Z : Array Value) (hZ : Z.size = 15) : Cpd C w.heap.size (w.heap.size + 1) (w.heap.size + 2) C w (((w.alloc (.cells C 44)).alloc (.cells Z 44)).alloc (.cells C 44)) := by
  have e1 : (w.alloc (.cells C 44)).heap.size = w.heap.size + 1 := by simp
  have e2 : ((w.alloc (.cells C 44)).alloc (.cells Z 44)).heap.size = w.heap.size + 2 := by simp
  refine ⟨(((Below.refl _ _).alloc (Nat.le_refl _) _).alloc (by simp) _).alloc (by simp; omega) _, ?_, ⟨Z, ?_, hZ⟩, ?_, by omega, by omega, by omega⟩
  · rw [Below.heap_alloc _ _ _ (by rw [e2]; omega), Below.heap_alloc _ _ _ (by rw [e1]; omega)]; exact alloc_at w _
  · rw [Below.heap_alloc _ _ _ (by rw [e2]; omega), ← e1]; exact alloc_at _ _
  · rw [← e2]; exact alloc_at _ _
theorem Cpd.last {C cs : Array Value} {p r t : Nat} {w0 w : World} (h : Cpd C p r t cs w0 w) (hr : w0.heap.size ≤ r) (c : Array Value) : (w.setRow r c).heap[r]? = some (.cells c 44 (0, 0)) ∧ Exc (· = r) w (w.setRow r c) ∧ Below w0.heap.size w0 (w.setRow r c) := by
  obtain ⟨z, hz, hs⟩ := h.hr
  have e : Exc (· = r) w (w.setRow r c) := ⟨rfl, rfl, rfl, by simp [World.setRow], fun k hk hs => setRow_other w r _ k hs⟩
  exact ⟨setRow_heap w r _ _ _ _ hz, e, h.b.trans (e.below h.b.size (fun k hk => by rw [hk]; exact hr))⟩
theorem own_set {w : World} {B n t j : Nat} {v u : Value} {xs : List Value} (h : w.ownsRow B 5 1 v n xs) (ht : t < B) : (w.setCell ⟨t, j, none⟩ u).ownsRow B 5 1 v n xs := ownsRow_setCell_below h ht u
set_option maxHeartbeats 4000000 in
theorem copied_c (S : St) (ar ai ao : Option Addr) (cr ci co : Nat) (w : World) (hr : Byt w (.slice ar S.ram.length cr) S.ram) (hi : Byt w (.slice ai S.inp.length ci) S.inp) (ho : Byt w (.slice ao S.out.length co) S.out)
    (lr : S.ram.length ≤ 140737488355328) (li : S.inp.length ≤ 140737488355328) (lo : S.out.length ≤ 140737488355328) :
    Calls Tryz.prog 22 #[.agg (stc S (.slice ar S.ram.length cr) (.slice ai S.inp.length ci) (.slice ao S.out.length co))] w fun e w' => ∃ ur ui uo, e = .returned (.agg (stc S ur ui uo)) ∧ Sv w.heap.size S ur ui uo w' ∧ Below w.heap.size w w' := by
  have HRc : Hid (∀ w', Below w.heap.size w w' → Byt w' (.slice ar S.ram.length cr) S.ram) := fun w' h => hr.later h rfl
  have HIc : Hid (∀ w', Below w.heap.size w w' → Byt w' (.slice ai S.inp.length ci) S.inp) := fun w' h => hi.later h rfl
  have HOc : Hid (∀ w', Below w.heap.size w w' → Byt w' (.slice ao S.out.length co) S.out) := fun w' h => ho.later h rfl
  clear hr hi ho
  unfold stc
  go_enter Tryz.func22, Tryz.ntmps22
  go_wp2_with (first | (at_builtin; refine appL (by rfl) _ _ (by rfl) _ _ _ [] S.ram (by rfl) (World.ownsRow_nil _ _ _ _) (by rfl) (HRc.out _ (Cpd.start w _ _ (by rfl)).b) (by simpa using lr) (Nat.le_refl _) ?_; intro v1 w1 ho1 hg1; obtain ⟨xa, ya, za, rfl⟩ := own_one ho1; have K1 := Cpd.grow (Cpd.start w _ _ (by rfl)) (below_nil hg1); have f1 : w1.cell? ⟨w.heap.size + 2, 0, none⟩ = some (.slice ar S.ram.length cr) := K1.tcell 0; have g1 := K1.tfree 0; have K1' := K1.set 0 (.slice xa ya za); have c1 : w1.cell? ⟨w.heap.size, 11, none⟩ = some (.slice ai S.inp.length ci) := K1.pcell 11; have HK1 : Hid _ := K1'; clear K1 K1') | (at_builtin; refine appL (by rfl) _ _ (by rfl) _ _ _ [] S.inp (by rfl) (World.ownsRow_nil _ _ _ _) (by rfl) (HIc.out _ HK1.out.b) (by simpa using li) (Nat.le_refl _) ?_; intro v2 w2 ho2 hg2; obtain ⟨xb, yb, zb, rfl⟩ := own_one ho2; have K2 := Cpd.grow HK1.out (below_nil hg2); have f2 : w2.cell? ⟨w.heap.size + 2, 11, none⟩ = some (.slice ai S.inp.length ci) := K2.tcell 11; have g2 := K2.tfree 11; have K2' := K2.set 11 (.slice xb yb zb); have c2 : w2.cell? ⟨w.heap.size, 12, none⟩ = some (.slice ao S.out.length co) := K2.pcell 12; have HK2 : Hid _ := K2'; clear K2 K2') | (at_builtin; refine appL (by rfl) _ _ (by rfl) _ _ _ [] S.out (by rfl) (World.ownsRow_nil _ _ _ _) (by rfl) (HOc.out _ HK2.out.b) (by simpa using lo) (Nat.le_refl _) ?_; intro v3 w3 ho3 hg3; obtain ⟨xc, yc, zc, rfl⟩ := own_one ho3; have K3 := Cpd.grow HK2.out (below_nil hg3); have g3 := K3.tfree 12; have t0 : w3.cell? ⟨w.heap.size + 2, 0, none⟩ = some (.slice xa ya za) := K3.tcell 0; have t1 : w3.cell? ⟨w.heap.size + 2, 1, none⟩ = some (.int .u32 S.msip) := K3.tcell 1; have t2 : w3.cell? ⟨w.heap.size + 2, 2, none⟩ = some (.int .u64 S.cmp) := K3.tcell 2; have t3 : w3.cell? ⟨w.heap.size + 2, 3, none⟩ = some (.int .u64 S.time) := K3.tcell 3; have t4 : w3.cell? ⟨w.heap.size + 2, 4, none⟩ = some (.bool S.ext) := K3.tcell 4; have t5 : w3.cell? ⟨w.heap.size + 2, 5, none⟩ = some (.bool S.soft) := K3.tcell 5; have t6 : w3.cell? ⟨w.heap.size + 2, 6, none⟩ = some (.int .u8 S.ier) := K3.tcell 6; have t7 : w3.cell? ⟨w.heap.size + 2, 7, none⟩ = some (.int .u8 S.lcr) := K3.tcell 7; have t8 : w3.cell? ⟨w.heap.size + 2, 8, none⟩ = some (.int .u8 S.mcr) := K3.tcell 8; have t9 : w3.cell? ⟨w.heap.size + 2, 9, none⟩ = some (.int .u8 S.scr) := K3.tcell 9; have t10 : w3.cell? ⟨w.heap.size + 2, 10, none⟩ = some (.bool S.ov) := K3.tcell 10; have t11 : w3.cell? ⟨w.heap.size + 2, 11, none⟩ = some (.slice xb yb zb) := K3.tcell 11; have t12 : w3.cell? ⟨w.heap.size + 2, 12, none⟩ = some (.slice ao S.out.length co) := K3.tcell 12; have t13 : w3.cell? ⟨w.heap.size + 2, 13, none⟩ = some (.int .i64 S.off) := K3.tcell 13; have t14 : w3.cell? ⟨w.heap.size + 2, 14, none⟩ = some (.int .i64 S.code) := K3.tcell 14; have HK3 : Hid _ := K3.set 12 (.slice xc yc zc); clear K3) | (refine wpList_store_row (by rfl) 44 _ _ (by rfl) (w.heap.size + 1) #[.slice xa ya za, .int .u32 S.msip, .int .u64 S.cmp, .int .u64 S.time, .bool S.ext, .bool S.soft, .int .u8 S.ier, .int .u8 S.lcr, .int .u8 S.mcr, .int .u8 S.scr, .bool S.ov, .slice xb yb zb, .slice xc yc zc, .int .i64 S.off, .int .i64 S.code] (by rfl) (by rfl) 44 _ HK3.out.hr.choose_spec.1 stSize HK3.out.hr.choose_spec.2 (stOne S) ?_))
  obtain ⟨hrow, hexc, hbel⟩ := HK3.out.last (show w.heap.size ≤ w.heap.size + 1 by omega) (stc S (.slice xa ya za) (.slice xb yb zb) (.slice xc yc zc))
  refine bodyPost_ret (v := .agg (stc S (.slice xa ya za) (.slice xb yb zb) (.slice xc yc zc))) (results_cell_row Tryz.results22 _ _ (w.heap.size + 1) 44 _ (0, 0) _ (by rfl) hrow Tryz.underlying44 (by rfl) stSize) rfl ?_
  have e1 : ∀ (u : World) (a : Addr) (v : Value), (u.setCell a v).heap.size = u.heap.size := fun u a v => by simp [World.setCell]
  have q2 := (below_nil hg2).size
  have q3 := (below_nil hg3).size
  rw [e1] at q2 q3
  have s1 : w.heap.size + 2 < w1.heap.size := by have := (Array.getElem?_eq_some_iff.1 HK1.out.ht).1; rwa [e1] at this
  have s2 : w.heap.size + 2 < w2.heap.size := by omega
  have a1 : w3.ownsRow (w.heap.size + 2 + 1) 5 1 (.slice xa ya za) S.ram.length (bv S.ram) := by
    have x1 := own_le ho1 (show w.heap.size + 2 + 1 ≤ _ by simp)
    have x2 := own_later (own_set (j := 0) (u := .slice xa ya za) x1 (Nat.lt_succ_self _)) (below_nil hg2) rfl
    exact own_later (own_set (j := 11) (u := .slice xb yb zb) x2 (Nat.lt_succ_self _)) (below_nil hg3) rfl
  have a2 : w3.ownsRow (w.heap.size + 2 + 1) 5 1 (.slice xb yb zb) S.inp.length (bv S.inp) := by
    have x1 := own_le ho2 (show w.heap.size + 2 + 1 ≤ _ by rw [e1]; omega)
    exact own_later (own_set (j := 11) (u := .slice xb yb zb) x1 (Nat.lt_succ_self _)) (below_nil hg3) rfl
  have a3 : w3.ownsRow (w.heap.size + 2 + 1) 5 1 (.slice xc yc zc) S.out.length (bv S.out) := own_le ho3 (show w.heap.size + 2 + 1 ≤ _ by rw [e1]; omega)
  have fin : ∀ {v : Value} {l : List Int}, w3.ownsRow (w.heap.size + 2 + 1) 5 1 v l.length (bv l) → ((w3.setCell ⟨w.heap.size + 2, 12, none⟩ (.slice xc yc zc)).setRow (w.heap.size + 1) (stc S (.slice xa ya za) (.slice xb yb zb) (.slice xc yc zc))).ownsRow w.heap.size 5 1 v l.length (bv l) := fun {v l} h => by
    refine own_le (own_exc (own_set (j := 12) (u := .slice xc yc zc) h (Nat.lt_succ_self _)) hexc (fun k hk e => ?_)) (show w.heap.size ≤ w.heap.size + 2 + 1 by omega)
    have := (h.lt k hk).1
    omega
  exact ⟨_, _, _, rfl, ⟨fin a1, fin a2, fin a3, own_apart ho1 ho2 (by rw [e1]; exact Nat.le_refl _), own_apart ho1 ho3 (by rw [e1]; exact q2), own_apart ho2 ho3 (by rw [e1]; exact Nat.le_refl _)⟩, hbel⟩
end Go.Proofs.YtidfndgedopghaaGreatDoor
namespace Go.Proofs.YtidfndgedopghaaGreatDoor
set_option linter.unusedVariables false
open Go.ChangeShapes Go.WideShapes Go.ChangeAt Go.RowKit Go.Deep
theorem ramOk_lo {n : Nat} (h : (n : Int) < 8) : ramOk n = false := by simp [ramOk]; omega
theorem ramOk_hi {n : Nat} (h : (65536 : Int) < n) : ramOk n = false := by simp [ramOk]; omega
theorem ramOk_odd {n : Nat} (h : ((n : Int) % 8 != 0) = true) : ramOk n = false := by simp [ramOk] at h ⊢; omega
theorem powOk_lo {o c : Int} (h : o < 0) : powOk o c = false := by unfold powOk; rw [if_neg (by omega), if_neg (by omega)]
theorem powOk_hi {o c : Int} (h : 2 < o) : powOk o c = false := by unfold powOk; rw [if_neg (by omega), if_neg (by omega)]
end Go.Proofs.YtidfndgedopghaaGreatDoor
namespace Go.Proofs.YtidfndgedopghaaGreatDoor
set_option linter.unusedVariables false
open Go.ChangeShapes Go.WideShapes Go.ChangeAt Go.RowKit Go.Deep
/-- The cells of a state whose lists lie in this world. -/
structure Bs (S : St) (vr vi vo : Value) (w : World) : Prop where
  r : Byt w vr S.ram
  i : Byt w vi S.inp
  o : Byt w vo S.out
theorem Bs.later {S : St} {vr vi vo : Value} {w w' : World} (h : Bs S vr vi vo w) (hb : Below w.heap.size w w') : Bs S vr vi vo w' := ⟨h.r.later hb rfl, h.i.later hb rfl, h.o.later hb rfl⟩
theorem Sv.bs {B : Nat} {S : St} {vr vi vo : Value} {w : World} (h : Sv B S vr vi vo w) : Bs S vr vi vo w := ⟨Byt.of_own h.r, Byt.of_own h.i, Byt.of_own h.o⟩
theorem Sv.later {B : Nat} {S : St} {vr vi vo : Value} {w w' : World} (h : Sv B S vr vi vo w) (hb : Below w.heap.size w w') : Sv B S vr vi vo w' := ⟨own_later h.r hb rfl, own_later h.i hb rfl, own_later h.o hb rfl, h.ri, h.ro, h.io⟩
set_option maxHeartbeats 2000000 in
theorem same_c (S : St) (vr vi vo ur ui uo : Value) (w : World) (ha : Bs S vr vi vo w) (hb : Bs S ur ui uo w) :
    Calls Tryz.prog 30 #[.agg (stc S vr vi vo), .agg (stc S ur ui uo)] w fun e w' => e = .returned (.bool true) ∧ Below w.heap.size w w' := by
  have HB : Hid (∀ o o', Below w.heap.size w ((w.alloc o).alloc o')) := fun o o' => ((Below.refl _ _).alloc (Nat.le_refl _) o).alloc (by simp) o'
  have k1 := fun o o' => (ha.r.later (HB.out o o') rfl).conv
  have k2 := fun o o' => (ha.i.later (HB.out o o') rfl).conv
  have k3 := fun o o' => (ha.o.later (HB.out o o') rfl).conv
  have k4 := fun o o' => (hb.r.later (HB.out o o') rfl).conv
  have k5 := fun o o' => (hb.i.later (HB.out o o') rfl).conv
  have k6 := fun o o' => (hb.o.later (HB.out o o') rfl).conv
  obtain ⟨x1, y1, e1, _⟩ := ha.r
  obtain ⟨x2, y2, e2, _⟩ := ha.i
  obtain ⟨x3, y3, e3, _⟩ := ha.o
  obtain ⟨x4, y4, e4, _⟩ := hb.r
  obtain ⟨x5, y5, e5, _⟩ := hb.i
  obtain ⟨x6, y6, e6, _⟩ := hb.o
  clear ha hb
  generalize strOfNums S.ram = sr at k1 k4
  generalize strOfNums S.inp = si at k2 k5
  generalize strOfNums S.out = so at k3 k6
  subst e1 e2 e3 e4 e5 e6
  unfold stc
  go_enter Tryz.func30, Tryz.ntmps30
  go_wp2
  go_ret
  exact ⟨rfl, HB.out _ _⟩
end Go.Proofs.YtidfndgedopghaaGreatDoor
namespace Go.Proofs.YtidfndgedopghaaGreatDoor
set_option linter.unusedVariables false
open Go.ChangeShapes Go.WideShapes Go.ChangeAt Go.RowKit Go.Deep
section
variable {H : Type} {enc : TypeId × Value → H} {w : World} {base : Nat} {held : Bool}
theorem cellsSt : Tryz.prog.cellsOf 44 = 15 := by kernel_rfl
theorem cellsBy : Tryz.prog.cellsOf 33 = 1 := by kernel_rfl
theorem cellsU32 : Tryz.prog.cellsOf 42 = 1 := by kernel_rfl
theorem cellsU64 : Tryz.prog.cellsOf 23 = 1 := by kernel_rfl
theorem cellsU8 : Tryz.prog.cellsOf 5 = 1 := by kernel_rfl
theorem cellsBool : Tryz.prog.cellsOf 4 = 1 := by kernel_rfl
theorem cellsInt : Tryz.prog.cellsOf 3 = 1 := by kernel_rfl
theorem bytesU8 : Tryz.prog.bytesOf 5 = 1 := by kernel_rfl
theorem list15 {α : Type} {l : List α} (h : l.length = 15) : ∃ a0 a1 a2 a3 a4 a5 a6 a7 a8 a9 a10 a11 a12 a13 a14, l = [a0, a1, a2, a3, a4, a5, a6, a7, a8, a9, a10, a11, a12, a13, a14] := by
  match l, h with
  | [a0, a1, a2, a3, a4, a5, a6, a7, a8, a9, a10, a11, a12, a13, a14], _ => exact ⟨a0, a1, a2, a3, a4, a5, a6, a7, a8, a9, a10, a11, a12, a13, a14, rfl⟩
/-- A list of bytes that came in. -/
theorem open_bytes {fuel : Nat} {v : Value} {y : DataW H × List MemPlace} (h : DataW.trod enc Tryz.prog w base (fun _ => true) held fuel 33 [v] = some y) (hz : ∀ q ∈ y.1.weights Tryz.prog 33, q ≤ reachBytes) :
    ∃ (l : List Int) (a : Option Addr) (c : Nat), v = .slice a l.length c ∧ Byt w (.slice a l.length c) l ∧ AllB l ∧ l.length ≤ 140737488351232 := by
  rcases open_ints Tryz.underlying33 Tryz.underlying5 cellsU8 h with ⟨e3, hy3⟩ | ⟨a, len, cap, zs, e3, _, hl, hm, hzl, hy3, hcell, hwz⟩
  · simp at e3
    subst e3
    exact ⟨[], none, 0, rfl, Byt.nil w, fun x hx => by simp at hx, by simp⟩
  · simp at e3
    subst e3
    simp only [if_true] at hzl
    have hw : (lits .u8 (zs.take len) : List (DataW H)).length + (lits .u8 (zs.drop len) : List (DataW H)).length ≤ reachBytes := by
      have hmem : ((lits .u8 (zs.take len) : List (DataW H)).length + (lits .u8 (zs.drop len) : List (DataW H)).length) * 1 ∈ y.1.weights Tryz.prog 33 := by
        rw [hy3]
        simp [DataW.weights, Tryz.underlying33, bytesU8]
      have := hz _ hmem
      omega
    simp [lits, reachBytes] at hw
    have hlen : (zs.take len).length = len := by simp; omega
    refine ⟨zs.take len, some a, cap, by rw [hlen], ?_, ?_, by rw [hlen]; omega⟩
    · refine ⟨some a, cap, rfl, by rw [hlen]; omega, fun e => (by cases e), fun hne => ?_⟩
      have hpos : 0 < len := by
        rcases Nat.eq_zero_or_pos len with e | e
        · subst e; simp at hne
        · exact e
      obtain ⟨b, off, spot⟩ := a
      have hc := hcell 0 (by omega)
      have hspot : spot = none := by simpa [Addr.add] using World.cell?_spot hc
      subst hspot
      refine ⟨b, off, rfl, World.block_lt_of_cell? w _ hc, fun j hj => ?_⟩
      have hj' : j < len := by rw [hlen] at hj; exact hj
      have hcj := hcell j (by omega)
      rw [addAt] at hcj
      rw [hcj]
      simp [List.getD, hj']
    · intro z hzm
      have := hwz z (List.mem_of_mem_take hzm)
      have hb8 := bounds_u8 this
      omega
/-- What the numbers of a state can be. -/
structure StW (S : St) : Prop where
  r : AllB S.ram
  i : AllB S.inp
  o : AllB S.out
  msip : 0 ≤ S.msip ∧ S.msip ≤ 4294967295
  cmp : 0 ≤ S.cmp ∧ S.cmp ≤ 18446744073709551615
  time : 0 ≤ S.time ∧ S.time ≤ 18446744073709551615
  ier : 0 ≤ S.ier ∧ S.ier ≤ 255
  lcr : 0 ≤ S.lcr ∧ S.lcr ≤ 255
  mcr : 0 ≤ S.mcr ∧ S.mcr ≤ 255
  scr : 0 ≤ S.scr ∧ S.scr ≤ 255
  off : -9223372036854775808 ≤ S.off ∧ S.off ≤ 9223372036854775807
  code : -9223372036854775808 ≤ S.code ∧ S.code ≤ 9223372036854775807
theorem open_state {fuel : Nat} {cs : List Value} {y : DataW H × List MemPlace} (h : DataW.trod enc Tryz.prog w base (fun _ => true) held fuel 44 cs = some y) (hz : ∀ q ∈ y.1.weights Tryz.prog 44, q ≤ reachBytes) :
    ∃ (S : St) (ar ai ao : Option Addr) (cr ci co : Nat), cs = (stc S (.slice ar S.ram.length cr) (.slice ai S.inp.length ci) (.slice ao S.out.length co)).toList ∧ Bs S (.slice ar S.ram.length cr) (.slice ai S.inp.length ci) (.slice ao S.out.length co) w ∧ StW S ∧
      S.ram.length ≤ 140737488351232 ∧ S.inp.length ≤ 140737488351232 ∧ S.out.length ≤ 140737488351232 := by
  obtain ⟨xs, n, _, rfl, hl, hlen, hf⟩ := DataW.trod_struct Tryz.underlying44 h
  rw [cellsSt] at hl
  obtain ⟨v0, v1, v2, v3, v4, v5, v6, v7, v8, v9, v10, v11, v12, v13, v14, rfl⟩ := list15 hl
  obtain ⟨y0, y1, y2, y3, y4, y5, y6, y7, y8, y9, y10, y11, y12, y13, y14, rfl⟩ := list15 (show xs.length = 15 from hlen)
  have g0 : DataW.trod enc Tryz.prog w base (fun _ => true) held n 33 [v0] = some y0 := by
    have := hf 0 _ rfl
    simpa [cellsBy] using this
  have g1 : DataW.trod enc Tryz.prog w base (fun _ => true) held n 42 [v1] = some y1 := by
    have := hf 1 _ rfl
    simpa [cellsU32] using this
  have g2 : DataW.trod enc Tryz.prog w base (fun _ => true) held n 23 [v2] = some y2 := by
    have := hf 2 _ rfl
    simpa [cellsU64] using this
  have g3 : DataW.trod enc Tryz.prog w base (fun _ => true) held n 23 [v3] = some y3 := by
    have := hf 3 _ rfl
    simpa [cellsU64] using this
  have g4 : DataW.trod enc Tryz.prog w base (fun _ => true) held n 4 [v4] = some y4 := by
    have := hf 4 _ rfl
    simpa [cellsBool] using this
  have g5 : DataW.trod enc Tryz.prog w base (fun _ => true) held n 4 [v5] = some y5 := by
    have := hf 5 _ rfl
    simpa [cellsBool] using this
  have g6 : DataW.trod enc Tryz.prog w base (fun _ => true) held n 5 [v6] = some y6 := by
    have := hf 6 _ rfl
    simpa [cellsU8] using this
  have g7 : DataW.trod enc Tryz.prog w base (fun _ => true) held n 5 [v7] = some y7 := by
    have := hf 7 _ rfl
    simpa [cellsU8] using this
  have g8 : DataW.trod enc Tryz.prog w base (fun _ => true) held n 5 [v8] = some y8 := by
    have := hf 8 _ rfl
    simpa [cellsU8] using this
  have g9 : DataW.trod enc Tryz.prog w base (fun _ => true) held n 5 [v9] = some y9 := by
    have := hf 9 _ rfl
    simpa [cellsU8] using this
  have g10 : DataW.trod enc Tryz.prog w base (fun _ => true) held n 4 [v10] = some y10 := by
    have := hf 10 _ rfl
    simpa [cellsBool] using this
  have g11 : DataW.trod enc Tryz.prog w base (fun _ => true) held n 33 [v11] = some y11 := by
    have := hf 11 _ rfl
    simpa [cellsBy] using this
  have g12 : DataW.trod enc Tryz.prog w base (fun _ => true) held n 33 [v12] = some y12 := by
    have := hf 12 _ rfl
    simpa [cellsBy] using this
  have g13 : DataW.trod enc Tryz.prog w base (fun _ => true) held n 3 [v13] = some y13 := by
    have := hf 13 _ rfl
    simpa [cellsInt] using this
  have g14 : DataW.trod enc Tryz.prog w base (fun _ => true) held n 3 [v14] = some y14 := by
    have := hf 14 _ rfl
    simpa [cellsInt] using this
  have z0 : ∀ q ∈ y0.1.weights Tryz.prog 33, q ≤ reachBytes := fun q hq => hz q (by
    simp only [DataW.weights, Tryz.underlying44]
    exact DataW.weights_mem_each (j := 0) (t := 33) (d := y0.1) rfl rfl q hq)
  obtain ⟨l0, a0, c0, e0, b0, m0, n0⟩ := open_bytes g0 z0
  subst e0
  obtain ⟨i1, e1, h1, w1⟩ := DataW.trod_int Tryz.underlying42 g1
  simp only [List.cons.injEq, and_true] at e1
  subst e1
  obtain ⟨i2, e2, h2, w2⟩ := DataW.trod_int Tryz.underlying23 g2
  simp only [List.cons.injEq, and_true] at e2
  subst e2
  obtain ⟨i3, e3, h3, w3⟩ := DataW.trod_int Tryz.underlying23 g3
  simp only [List.cons.injEq, and_true] at e3
  subst e3
  obtain ⟨i4, e4, h4⟩ := DataW.trod_bool Tryz.underlying4 g4
  simp only [List.cons.injEq, and_true] at e4
  subst e4
  obtain ⟨i5, e5, h5⟩ := DataW.trod_bool Tryz.underlying4 g5
  simp only [List.cons.injEq, and_true] at e5
  subst e5
  obtain ⟨i6, e6, h6, w6⟩ := DataW.trod_int Tryz.underlying5 g6
  simp only [List.cons.injEq, and_true] at e6
  subst e6
  obtain ⟨i7, e7, h7, w7⟩ := DataW.trod_int Tryz.underlying5 g7
  simp only [List.cons.injEq, and_true] at e7
  subst e7
  obtain ⟨i8, e8, h8, w8⟩ := DataW.trod_int Tryz.underlying5 g8
  simp only [List.cons.injEq, and_true] at e8
  subst e8
  obtain ⟨i9, e9, h9, w9⟩ := DataW.trod_int Tryz.underlying5 g9
  simp only [List.cons.injEq, and_true] at e9
  subst e9
  obtain ⟨i10, e10, h10⟩ := DataW.trod_bool Tryz.underlying4 g10
  simp only [List.cons.injEq, and_true] at e10
  subst e10
  have z11 : ∀ q ∈ y11.1.weights Tryz.prog 33, q ≤ reachBytes := fun q hq => hz q (by
    simp only [DataW.weights, Tryz.underlying44]
    exact DataW.weights_mem_each (j := 11) (t := 33) (d := y11.1) rfl rfl q hq)
  obtain ⟨l11, a11, c11, e11, b11, m11, n11⟩ := open_bytes g11 z11
  subst e11
  have z12 : ∀ q ∈ y12.1.weights Tryz.prog 33, q ≤ reachBytes := fun q hq => hz q (by
    simp only [DataW.weights, Tryz.underlying44]
    exact DataW.weights_mem_each (j := 12) (t := 33) (d := y12.1) rfl rfl q hq)
  obtain ⟨l12, a12, c12, e12, b12, m12, n12⟩ := open_bytes g12 z12
  subst e12
  obtain ⟨i13, e13, h13, w13⟩ := DataW.trod_int Tryz.underlying3 g13
  simp only [List.cons.injEq, and_true] at e13
  subst e13
  obtain ⟨i14, e14, h14, w14⟩ := DataW.trod_int Tryz.underlying3 g14
  simp only [List.cons.injEq, and_true] at e14
  subst e14
  have b1 := bounds_u32 w1
  have b2 := bounds_u64 w2
  have b3 := bounds_u64 w3
  have b6 := bounds_u8 w6
  have b7 := bounds_u8 w7
  have b8 := bounds_u8 w8
  have b9 := bounds_u8 w9
  have b13 := bounds_i64 w13
  have b14 := bounds_i64 w14
  refine ⟨⟨l0, i1, i2, i3, i4, i5, i6, i7, i8, i9, i10, l11, l12, i13, i14⟩, a0, a11, a12, c0, c11, c12, rfl, ⟨b0, b11, b12⟩, ⟨m0, m11, m12, ?_, ?_, ?_, ?_, ?_, ?_, ?_, ?_, ?_⟩, n0, n11, n12⟩
  · exact ⟨by simpa using b1.1, by simpa using b1.2⟩
  · exact ⟨by simpa using b2.1, by simpa using b2.2⟩
  · exact ⟨by simpa using b3.1, by simpa using b3.2⟩
  · exact ⟨by simpa using b6.1, by simpa using b6.2⟩
  · exact ⟨by simpa using b7.1, by simpa using b7.2⟩
  · exact ⟨by simpa using b8.1, by simpa using b8.2⟩
  · exact ⟨by simpa using b9.1, by simpa using b9.2⟩
  · exact ⟨by simpa using b13.1, by simpa using b13.2⟩
  · exact ⟨by simpa using b14.1, by simpa using b14.2⟩
end
end Go.Proofs.YtidfndgedopghaaGreatDoor
namespace Go.Proofs.YtidfndgedopghaaGreatDoor
set_option linter.unusedVariables false
open Go.ChangeShapes Go.WideShapes Go.ChangeAt Go.RowKit Go.Deep
/-- A byte as the program's number. -/
def n8 (x : BitVec 8) : Int := (x.toNat : Int)
theorem n8_inj {x y : BitVec 8} : n8 x = n8 y ↔ x = y := by
  unfold n8; constructor
  · intro h; exact BitVec.eq_of_toNat_eq (by omega)
  · rintro rfl; rfl
theorem n8_lo (x : BitVec 8) : 0 ≤ n8 x := by unfold n8; omega
theorem n8_hi (x : BitVec 8) : n8 x ≤ 255 := by unfold n8; have := x.isLt; omega
theorem n8_of {n : Int} (h : (Lit.int .u8 n).wf = true) : ∃ x : BitVec 8, n = n8 x := by
  have hb := bounds_u8 h
  refine ⟨BitVec.ofNat 8 n.toNat, ?_⟩
  unfold n8; rw [BitVec.toNat_ofNat, Nat.mod_eq_of_lt (by omega)]; omega
theorem ofInt_n8 (x : BitVec 8) : BitVec.ofInt 8 (n8 x) = x := by
  unfold n8; apply BitVec.eq_of_toNat_eq; rw [BitVec.toNat_ofInt]; have := x.isLt; omega
theorem wrap_n8 (z : Int) : IntKind.u8.wrap z = n8 (BitVec.ofInt 8 z) := by
  unfold n8; rw [BitVec.toNat_ofInt]; simp [IntKind.wrap, IntKind.signed, IntKind.bits]; omega
theorem n8_and (x y : BitVec 8) : bits .and .u8 (n8 x) (n8 y) = n8 (x &&& y) := by
  show IntKind.u8.wrap ((BitVec.ofInt 8 (n8 x) &&& BitVec.ofInt 8 (n8 y)).toNat : Int) = _
  rw [ofInt_n8, ofInt_n8, wrap_n8]; exact congrArg n8 (ofInt_n8 _)
theorem n8_andNot (x y : BitVec 8) : bits .andNot .u8 (n8 x) (n8 y) = n8 (x &&& ~~~y) := by
  show IntKind.u8.wrap ((BitVec.ofInt 8 (n8 x) &&& ~~~BitVec.ofInt 8 (n8 y)).toNat : Int) = _
  rw [ofInt_n8, ofInt_n8, wrap_n8]; exact congrArg n8 (ofInt_n8 _)
theorem n64_andNot (x y : BitVec 64) : bits .andNot .u64 (n64 x) (n64 y) = n64 (x &&& ~~~y) := by
  show IntKind.u64.wrap ((BitVec.ofInt 64 (n64 x) &&& ~~~BitVec.ofInt 64 (n64 y)).toNat : Int) = _
  rw [ofInt_n64, ofInt_n64, wrap_n64]; exact congrArg n64 (ofInt_n64 _)
theorem n8_shr (x : BitVec 8) (k : Nat) : n8 x / 2 ^ k = n8 (x >>> k) := by
  unfold n8; rw [BitVec.toNat_ushiftRight, Nat.shiftRight_eq_div_pow, Int.natCast_ediv, Int.natCast_pow]; rfl
/-- What a Cfg byte keeps. -/
def pcl (x : BitVec 8) : BitVec 8 := if x &&& 1#8 = 0#8 then x &&& 0x9d#8 else x &&& 0x9f#8
/-- What an Addr keeps. -/
def pad (x : BitVec 64) : BitVec 64 := x &&& 18014398509481983#64
/-- The cells of an api.Pmp. -/
def pcell (c : Nat → BitVec 8) (a : Nat → BitVec 64) (j : Nat) : Value := if j < 16 then .int .u8 (n8 (c j)) else .int .u64 (n64 (a (j - 16)))
def pc (c : Nat → BitVec 8) (a : Nat → BitVec 64) : Array Value := Array.ofFn (n := 32) fun j => pcell c a j.val
/-- The cells of pmp's own entries. -/
def ecell (c : Nat → BitVec 8) (a : Nat → BitVec 64) (j : Nat) : Value := if j % 2 = 0 then .int .u8 (n8 (c (j / 2))) else .int .u64 (n64 (a (j / 2)))
def ec (c : Nat → BitVec 8) (a : Nat → BitVec 64) : Array Value := Array.ofFn (n := 32) fun j => ecell c a j.val
theorem pc_size (c : Nat → BitVec 8) (a : Nat → BitVec 64) : (pc c a).size = 32 := by simp [pc]
theorem ec_size (c : Nat → BitVec 8) (a : Nat → BitVec 64) : (ec c a).size = 32 := by simp [ec]
theorem pc_at (c : Nat → BitVec 8) (a : Nat → BitVec 64) (j : Nat) (h : j < 32) : (pc c a)[j]? = some (pcell c a j) := by simp [pc, h]
theorem ec_at (c : Nat → BitVec 8) (a : Nat → BitVec 64) (j : Nat) (h : j < 32) : (ec c a)[j]? = some (ecell c a j) := by simp [ec, h]
theorem pc_ones (c : Nat → BitVec 8) (a : Nat → BitVec 64) : (pc c a).all (·.oneCell') = true := by
  rw [Array.all_eq_true]; intro i hi; simp [pc, pcell]; split <;> rfl
theorem ec_ones (c : Nat → BitVec 8) (a : Nat → BitVec 64) : (ec c a).all (·.oneCell') = true := by
  rw [Array.all_eq_true]; intro i hi; simp [ec, ecell]; split <;> rfl
/-- One place of a function turned. -/
def upd {α : Type} (f : Nat → α) (k : Nat) (x : α) : Nat → α := fun j => if j = k then x else f j
theorem set_at {A B : Array Value} {k : Nat} {v : Value} {f g : Nat → Value} (hA : ∀ j, j < 32 → A[j]? = some (f j)) (hB : ∀ j, j < 32 → B[j]? = some (g j)) (sA : A.size = 32) (sB : B.size = 32) (hk : k < 32) (h1 : g k = v) (h2 : ∀ j, j < 32 → j ≠ k → g j = f j) :
    A.setIfInBounds k v = B := by
  apply Array.ext_getElem?
  intro j
  rw [Array.getElem?_setIfInBounds]
  by_cases hj : j < 32
  · rw [hA j hj, hB j hj, sA]
    by_cases e : k = j
    · subst e; rw [if_pos rfl, if_pos hk, h1]
    · rw [if_neg e, h2 j hj (fun q => e q.symm)]
  · rw [if_neg (by omega), Array.getElem?_eq_none (by omega), Array.getElem?_eq_none (by omega)]
theorem pc_cfg (c : Nat → BitVec 8) (a : Nat → BitVec 64) (k : Nat) (x : BitVec 8) (h : k < 16) : (pc c a).setIfInBounds k (.int .u8 (n8 x)) = pc (upd c k x) a := by
  refine set_at (pc_at c a) (pc_at _ a) (pc_size _ _) (pc_size _ _) (by omega) (by simp [pcell, upd, h]) fun j hj hne => ?_
  simp [pcell, upd, hne]
theorem pc_addr (c : Nat → BitVec 8) (a : Nat → BitVec 64) (k : Nat) (x : BitVec 64) (h : k < 16) : (pc c a).setIfInBounds (16 + k) (.int .u64 (n64 x)) = pc c (upd a k x) := by
  refine set_at (pc_at c a) (pc_at _ _) (pc_size _ _) (pc_size _ _) (by omega) (by simp [pcell, upd]) fun j hj hne => ?_
  unfold pcell upd
  split
  · rfl
  · rw [if_neg (by omega)]
theorem ec_cfg (c : Nat → BitVec 8) (a : Nat → BitVec 64) (k : Nat) (x : BitVec 8) (h : k < 16) : (ec c a).setIfInBounds (k * 2) (.int .u8 (n8 x)) = ec (upd c k x) a := by
  refine set_at (ec_at c a) (ec_at _ _) (ec_size _ _) (ec_size _ _) (by omega) (by simp [ecell, upd]) fun j hj hne => ?_
  unfold ecell upd
  split
  · rw [if_neg (by omega)]
  · rfl
theorem ec_addr (c : Nat → BitVec 8) (a : Nat → BitVec 64) (k : Nat) (x : BitVec 64) (h : k < 16) : (ec c a).setIfInBounds (k * 2 + 1) (.int .u64 (n64 x)) = ec c (upd a k x) := by
  refine set_at (ec_at c a) (ec_at _ _) (ec_size _ _) (ec_size _ _) (by omega) ?_ fun j hj hne => ?_
  · unfold ecell upd
    rw [if_neg (by omega), if_pos (by omega)]
  · unfold ecell upd
    split
    · rfl
    · rw [if_neg (by omega)]
theorem pc_congr {c c' : Nat → BitVec 8} {a a' : Nat → BitVec 64} (h : ∀ j, j < 16 → c j = c' j ∧ a j = a' j) : pc c a = pc c' a' := by
  apply Array.ext_getElem?
  intro j
  by_cases hj : j < 32
  · rw [pc_at _ _ _ hj, pc_at _ _ _ hj]; unfold pcell
    split
    · rw [(h j (by omega)).1]
    · rw [(h (j - 16) (by omega)).2]
  · simp [pc, hj]
theorem ec_congr {c c' : Nat → BitVec 8} {a a' : Nat → BitVec 64} (h : ∀ j, j < 16 → c j = c' j ∧ a j = a' j) : ec c a = ec c' a' := by
  apply Array.ext_getElem?
  intro j
  by_cases hj : j < 32
  · rw [ec_at _ _ _ hj, ec_at _ _ _ hj]; unfold ecell
    split
    · rw [(h (j / 2) (by omega)).1]
    · rw [(h (j / 2) (by omega)).2]
  · simp [ec, hj]
/-- Whole rows, loaded from anywhere inside a block. -/
theorem run_load_agg {P : Program} (w : World) (ty : TypeId) (g off : Nat) (cs : Array Value) (d : TypeDesc) (hc : ∀ j v, cs[j]? = some v → w.cell? ⟨g, off + j, none⟩ = some v)
    (hu : P.underlying ty = some d) (hd : (match d with | .struct _ | .array _ _ => true | _ => false) = true) (hi : (P.info? ty).map (·.size) = some cs.size) :
    (loadVar ty ⟨g, off, none⟩).run P w = .ok (.agg cs) w := by
  have hl : (loadCells ⟨g, off, none⟩ cs.toList.length).run P w = .ok cs.toList.toArray w :=
    run_loadCells_list (P := P) w ⟨g, off, none⟩ cs.toList (fun j v hv => by
      have hadd : (⟨g, off, none⟩ : Addr).add j = ⟨g, off + j, none⟩ := by unfold Addr.add; split <;> simp_all
      rw [hadd]; exact hc j v (by simpa using hv))
  cases hq : P.info? ty with
  | none => simp [hq] at hi
  | some i =>
    have hs : i.size = cs.size := by simpa [hq] using hi
    have hagg : (isAgg ty).run P w = .ok true w := by
      unfold isAgg
      rw [Sem.run_bind, run_underlying hu w]
      cases d <;> simp_all
    simp only [Array.length_toList, Array.toArray_toList] at hl
    simp [loadVar, Sem.run_bind, hagg, sizeOf, typeInfo, hq, hs, hl]
theorem wpList_load_agg {P : Program} {ops : Array Oper} {rest : List Oper} {o : Oper} {a : Act} {w : World} {Q : Exit → Act → World → Prop} (hgd : o.guard = none) (ty : TypeId) (x : Operand) (ho : o.op = .load ty x)
    (g off : Nat) (hx : a.eval x = .pointer (some ⟨g, off, none⟩)) (cs : Array Value) (d : TypeDesc) (hc : ∀ j v, cs[j]? = some v → w.cell? ⟨g, off + j, none⟩ = some v)
    (hu : P.underlying ty = some d) (hd : (match d with | .struct _ | .array _ _ => true | _ => false) = true) (hi : (P.info? ty).map (·.size) = some cs.size)
    (h : wpList P ops Q rest (a.put o.dst (.agg cs)) w) : wpList P ops Q (o :: rest) a w :=
  wpList_plain hgd fun _ hK => by
    unfold Oper.wp execOp
    simp only [ho, hx, Instr.loadAt, Instr.sureAddr, Sem.run_bind, Sem.run_pure, Result.andThen_ok, run_load_agg w ty g off cs d hc hu hd hi]
    exact hK _ _ h
theorem wpList_store_row {P : Program} {ops : Array Oper} {rest : List Oper} {o : Oper} {a : Act} {w : World} {Q : Exit → Act → World → Prop} (hgd : o.guard = none) (t : TypeId) (x y : Operand) (ho : o.op = .store t x y) (hd : o.dst = none)
    (g : Nat) (c c' : Array Value) (hx : a.eval x = .pointer (some ⟨g, 0, none⟩)) (hy : a.eval y = .agg c') (hg : w.heap[g]? = some (.cells c t (0, 0))) (hi : (P.info? t).map (·.size) = some c'.size) (hs : c.size = c'.size) (h1 : c'.all (·.oneCell') = true)
    (h : wpList P ops Q rest a (w.setRow g c')) : wpList P ops Q (o :: rest) a w :=
  wpList_plain hgd fun _ hK => by
    unfold Oper.wp execOp
    simp only [ho, hx, hy, Instr.storeAt, Instr.sureAddr, Sem.run_bind, Sem.run_pure, Result.andThen_ok, run_storeVar_row w g t t c c' hg hi hs h1]
    simpa [Oper.upon, Act.put, hd] using hK _ _ h
end Go.Proofs.YtidfndgedopghaaGreatDoor
