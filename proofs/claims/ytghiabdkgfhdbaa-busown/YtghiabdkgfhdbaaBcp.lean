/-
  Copied of the reference.
-/
import Derived.Test.YtghiabdkgfhdbaaBsv
namespace Go.Proofs.Ytghiabdkgfhdbaa
set_option linter.unusedVariables false
open Go.ChangeShapes Go.WideShapes Go.ChangeAt Go.RowKit Go.Deep
/-- Copied, half way: the parameter's box p, the copy t, the result r. -/
structure Cp (C : Array Value) (p r t : Nat) (cs : Array Value) (w0 w : World) : Prop where
  b : Below w0.heap.size w0 w
  hp : w.heap[p]? = some (.cells C 26 (0, 0))
  hr : ∃ z : Array Value, w.heap[r]? = some (.cells z 26 (0, 0)) ∧ z.size = 15
  ht : w.heap[t]? = some (.cells cs 26 (0, 0))
  n1 : p ≠ t
  n2 : r ≠ t
  lt : w0.heap.size ≤ t
theorem Cp.grow {C cs : Array Value} {p r t : Nat} {w0 w w' : World} (h : Cp C p r t cs w0 w) (hb : Below w.heap.size w w') : Cp C p r t cs w0 w' := by
  have k : ∀ {g : Nat} {o : Obj}, w.heap[g]? = some o → w'.heap[g]? = some o := fun {g o} hg => by rw [hb.block g (Array.getElem?_eq_some_iff.1 hg).1]; exact hg
  obtain ⟨z, hz, hs⟩ := h.hr
  exact ⟨h.b.trans (hb.mono h.b.size), k h.hp, ⟨z, k hz, hs⟩, k h.ht, h.n1, h.n2, h.lt⟩
theorem Cp.set {C cs : Array Value} {p r t : Nat} {w0 w : World} (h : Cp C p r t cs w0 w) (j : Nat) (v : Value) : Cp C p r t (cs.setIfInBounds j v) w0 (w.setCell ⟨t, j, none⟩ v) := by
  obtain ⟨z, hz, hs⟩ := h.hr
  refine ⟨h.b.setCell h.lt v, ?_, ⟨z, ?_, hs⟩, heap_setCell_same w t j cs _ v h.ht, h.n1, h.n2, h.lt⟩
  · rw [Below.heap_setCell w ⟨t, j, none⟩ v p h.n1]; exact h.hp
  · rw [Below.heap_setCell w ⟨t, j, none⟩ v r h.n2]; exact hz
theorem Cp.pcell {C cs : Array Value} {p r t : Nat} {w0 w : World} (h : Cp C p r t cs w0 w) (j : Nat) : w.cell? ⟨p, j, none⟩ = C[j]? := cell_of_row w p j _ _ _ h.hp
theorem Cp.tcell {C cs : Array Value} {p r t : Nat} {w0 w : World} (h : Cp C p r t cs w0 w) (j : Nat) : w.cell? ⟨t, j, none⟩ = cs[j]? := cell_of_row w t j _ _ _ h.ht
theorem Cp.tfree {C cs : Array Value} {p r t : Nat} {w0 w : World} (h : Cp C p r t cs w0 w) (j : Nat) : w.frozen? ⟨t, j, none⟩ = false := frozen_of_row w t j _ _ h.ht
theorem below_nil {w w' : World} (h : w.grownBy w' (Value.slice none 0 0).ownBlock) : Below w.heap.size w w' := (Below.refl _ _).grown h (Nat.le_refl _) (fun k hk => by cases hk)
theorem Cp.start (w : World) (C Z : Array Value) (hZ : Z.size = 15) : Cp C w.heap.size (w.heap.size + 1) (w.heap.size + 2) C w (((w.alloc (.cells C 26)).alloc (.cells Z 26)).alloc (.cells C 26)) := by
  have e1 : (w.alloc (.cells C 26)).heap.size = w.heap.size + 1 := by simp
  have e2 : ((w.alloc (.cells C 26)).alloc (.cells Z 26)).heap.size = w.heap.size + 2 := by simp
  refine ⟨(((Below.refl _ _).alloc (Nat.le_refl _) _).alloc (by simp) _).alloc (by simp; omega) _, ?_, ⟨Z, ?_, hZ⟩, ?_, by omega, by omega, by omega⟩
  · rw [Below.heap_alloc _ _ _ (by rw [e2]; omega), Below.heap_alloc _ _ _ (by rw [e1]; omega)]; exact alloc_at w _
  · rw [Below.heap_alloc _ _ _ (by rw [e2]; omega), ← e1]; exact alloc_at _ _
  · rw [← e2]; exact alloc_at _ _
theorem Cp.last {C cs : Array Value} {p r t : Nat} {w0 w : World} (h : Cp C p r t cs w0 w) (hr : w0.heap.size ≤ r) (c : Array Value) : (w.setRow r c).heap[r]? = some (.cells c 26 (0, 0)) ∧ Exc (· = r) w (w.setRow r c) ∧ Below w0.heap.size w0 (w.setRow r c) := by
  obtain ⟨z, hz, hs⟩ := h.hr
  have e : Exc (· = r) w (w.setRow r c) := ⟨rfl, rfl, rfl, by simp [World.setRow], fun k hk hs => setRow_other w r _ k hs⟩
  exact ⟨setRow_heap w r _ _ _ _ hz, e, h.b.trans (e.below h.b.size (fun k hk => by rw [hk]; exact hr))⟩
theorem own_set {w : World} {B n t j : Nat} {v u : Value} {xs : List Value} (h : w.ownsRow B 5 1 v n xs) (ht : t < B) : (w.setCell ⟨t, j, none⟩ u).ownsRow B 5 1 v n xs := ownsRow_setCell_below h ht u
set_option maxHeartbeats 4000000 in
theorem copied_c (S : St) (ar ai ao : Option Addr) (cr ci co : Nat) (w : World) (hr : Byt w (.slice ar S.ram.length cr) S.ram) (hi : Byt w (.slice ai S.inp.length ci) S.inp) (ho : Byt w (.slice ao S.out.length co) S.out)
    (lr : S.ram.length ≤ 140737488355328) (li : S.inp.length ≤ 140737488355328) (lo : S.out.length ≤ 140737488355328) :
    Calls Try.prog 21 #[.agg (stc S (.slice ar S.ram.length cr) (.slice ai S.inp.length ci) (.slice ao S.out.length co))] w fun e w' => ∃ ur ui uo, e = .returned (.agg (stc S ur ui uo)) ∧ Sv w.heap.size S ur ui uo w' ∧ Below w.heap.size w w' := by
  have HRc : Hid (∀ w', Below w.heap.size w w' → Byt w' (.slice ar S.ram.length cr) S.ram) := fun w' h => hr.later h rfl
  have HIc : Hid (∀ w', Below w.heap.size w w' → Byt w' (.slice ai S.inp.length ci) S.inp) := fun w' h => hi.later h rfl
  have HOc : Hid (∀ w', Below w.heap.size w w' → Byt w' (.slice ao S.out.length co) S.out) := fun w' h => ho.later h rfl
  clear hr hi ho
  unfold stc
  go_enter Try.func21, Try.ntmps21
  go_wp2_with (first | (at_builtin; refine appL (by rfl) _ _ (by rfl) _ _ _ [] S.ram (by rfl) (World.ownsRow_nil _ _ _ _) (by rfl) (HRc.out _ (Cp.start w _ _ (by rfl)).b) (by simpa using lr) (Nat.le_refl _) ?_; intro v1 w1 ho1 hg1; obtain ⟨xa, ya, za, rfl⟩ := own_one ho1; have K1 := Cp.grow (Cp.start w _ _ (by rfl)) (below_nil hg1); have f1 : w1.cell? ⟨w.heap.size + 2, 0, none⟩ = some (.slice ar S.ram.length cr) := K1.tcell 0; have g1 := K1.tfree 0; have K1' := K1.set 0 (.slice xa ya za); have c1 : w1.cell? ⟨w.heap.size, 11, none⟩ = some (.slice ai S.inp.length ci) := K1.pcell 11; have HK1 : Hid _ := K1'; clear K1 K1') | (at_builtin; refine appL (by rfl) _ _ (by rfl) _ _ _ [] S.inp (by rfl) (World.ownsRow_nil _ _ _ _) (by rfl) (HIc.out _ HK1.out.b) (by simpa using li) (Nat.le_refl _) ?_; intro v2 w2 ho2 hg2; obtain ⟨xb, yb, zb, rfl⟩ := own_one ho2; have K2 := Cp.grow HK1.out (below_nil hg2); have f2 : w2.cell? ⟨w.heap.size + 2, 11, none⟩ = some (.slice ai S.inp.length ci) := K2.tcell 11; have g2 := K2.tfree 11; have K2' := K2.set 11 (.slice xb yb zb); have c2 : w2.cell? ⟨w.heap.size, 12, none⟩ = some (.slice ao S.out.length co) := K2.pcell 12; have HK2 : Hid _ := K2'; clear K2 K2') | (at_builtin; refine appL (by rfl) _ _ (by rfl) _ _ _ [] S.out (by rfl) (World.ownsRow_nil _ _ _ _) (by rfl) (HOc.out _ HK2.out.b) (by simpa using lo) (Nat.le_refl _) ?_; intro v3 w3 ho3 hg3; obtain ⟨xc, yc, zc, rfl⟩ := own_one ho3; have K3 := Cp.grow HK2.out (below_nil hg3); have g3 := K3.tfree 12; have t0 : w3.cell? ⟨w.heap.size + 2, 0, none⟩ = some (.slice xa ya za) := K3.tcell 0; have t1 : w3.cell? ⟨w.heap.size + 2, 1, none⟩ = some (.int .u32 S.msip) := K3.tcell 1; have t2 : w3.cell? ⟨w.heap.size + 2, 2, none⟩ = some (.int .u64 S.cmp) := K3.tcell 2; have t3 : w3.cell? ⟨w.heap.size + 2, 3, none⟩ = some (.int .u64 S.time) := K3.tcell 3; have t4 : w3.cell? ⟨w.heap.size + 2, 4, none⟩ = some (.bool S.ext) := K3.tcell 4; have t5 : w3.cell? ⟨w.heap.size + 2, 5, none⟩ = some (.bool S.soft) := K3.tcell 5; have t6 : w3.cell? ⟨w.heap.size + 2, 6, none⟩ = some (.int .u8 S.ier) := K3.tcell 6; have t7 : w3.cell? ⟨w.heap.size + 2, 7, none⟩ = some (.int .u8 S.lcr) := K3.tcell 7; have t8 : w3.cell? ⟨w.heap.size + 2, 8, none⟩ = some (.int .u8 S.mcr) := K3.tcell 8; have t9 : w3.cell? ⟨w.heap.size + 2, 9, none⟩ = some (.int .u8 S.scr) := K3.tcell 9; have t10 : w3.cell? ⟨w.heap.size + 2, 10, none⟩ = some (.bool S.ov) := K3.tcell 10; have t11 : w3.cell? ⟨w.heap.size + 2, 11, none⟩ = some (.slice xb yb zb) := K3.tcell 11; have t12 : w3.cell? ⟨w.heap.size + 2, 12, none⟩ = some (.slice ao S.out.length co) := K3.tcell 12; have t13 : w3.cell? ⟨w.heap.size + 2, 13, none⟩ = some (.int .i64 S.off) := K3.tcell 13; have t14 : w3.cell? ⟨w.heap.size + 2, 14, none⟩ = some (.int .i64 S.code) := K3.tcell 14; have HK3 : Hid _ := K3.set 12 (.slice xc yc zc); clear K3) | (refine wpList_store_row (by rfl) 26 _ _ (by rfl) (w.heap.size + 1) #[.slice xa ya za, .int .u32 S.msip, .int .u64 S.cmp, .int .u64 S.time, .bool S.ext, .bool S.soft, .int .u8 S.ier, .int .u8 S.lcr, .int .u8 S.mcr, .int .u8 S.scr, .bool S.ov, .slice xb yb zb, .slice xc yc zc, .int .i64 S.off, .int .i64 S.code] (by rfl) (by rfl) 26 _ HK3.out.hr.choose_spec.1 stSize HK3.out.hr.choose_spec.2 (stOne S) ?_))
  obtain ⟨hrow, hexc, hbel⟩ := HK3.out.last (show w.heap.size ≤ w.heap.size + 1 by omega) (stc S (.slice xa ya za) (.slice xb yb zb) (.slice xc yc zc))
  refine bodyPost_ret (v := .agg (stc S (.slice xa ya za) (.slice xb yb zb) (.slice xc yc zc))) (results_cell_row Try.results21 _ _ (w.heap.size + 1) 26 _ (0, 0) _ (by rfl) hrow Try.underlying26 (by rfl) stSize) rfl ?_
  have e1 : ∀ (u : World) (a : Addr) (v : Value), (u.setCell a v).heap.size = u.heap.size := fun u a v => by simp [World.setCell]
  have q2 := (below_nil hg2).size
  have q3 := (below_nil hg3).size
  rw [e1] at q2 q3
  have s1 : w.heap.size + 2 < w1.heap.size := by have := (Array.getElem?_eq_some_iff.1 HK1.out.ht).1; rwa [e1] at this
  have s2 : w.heap.size + 2 < w2.heap.size := by omega
  have a1 : w3.ownsRow (w.heap.size + 2 + 1) 5 1 (.slice xa ya za) S.ram.length (bv S.ram) := by
    have x1 := own_le ho1 (show w.heap.size + 2 + 1 ≤ _ by simp)
    have x2 := own_later (own_set (j := 0) (u := .slice xa ya za) x1 (Nat.lt_succ_self _)) (below_nil hg2) rfl
    exact own_later (own_set (j := 11) (u := .slice xb yb zb) x2 (Nat.lt_succ_self _)) (below_nil hg3) rfl
  have a2 : w3.ownsRow (w.heap.size + 2 + 1) 5 1 (.slice xb yb zb) S.inp.length (bv S.inp) := by
    have x1 := own_le ho2 (show w.heap.size + 2 + 1 ≤ _ by rw [e1]; omega)
    exact own_later (own_set (j := 11) (u := .slice xb yb zb) x1 (Nat.lt_succ_self _)) (below_nil hg3) rfl
  have a3 : w3.ownsRow (w.heap.size + 2 + 1) 5 1 (.slice xc yc zc) S.out.length (bv S.out) := own_le ho3 (show w.heap.size + 2 + 1 ≤ _ by rw [e1]; omega)
  have fin : ∀ {v : Value} {l : List Int}, w3.ownsRow (w.heap.size + 2 + 1) 5 1 v l.length (bv l) → ((w3.setCell ⟨w.heap.size + 2, 12, none⟩ (.slice xc yc zc)).setRow (w.heap.size + 1) (stc S (.slice xa ya za) (.slice xb yb zb) (.slice xc yc zc))).ownsRow w.heap.size 5 1 v l.length (bv l) := fun {v l} h => by
    refine own_le (own_exc (own_set (j := 12) (u := .slice xc yc zc) h (Nat.lt_succ_self _)) hexc (fun k hk e => ?_)) (show w.heap.size ≤ w.heap.size + 2 + 1 by omega)
    have := (h.lt k hk).1
    omega
  exact ⟨_, _, _, rfl, ⟨fin a1, fin a2, fin a3, own_apart ho1 ho2 (by rw [e1]; exact Nat.le_refl _), own_apart ho1 ho3 (by rw [e1]; exact q2), own_apart ho2 ho3 (by rw [e1]; exact Nat.le_refl _)⟩, hbel⟩
end Go.Proofs.Ytghiabdkgfhdbaa
