/-
  Bsu Bsv Bcp Bra Bsm.
-/
import Derived.Test.YtidfndgedopghaaGreatDoorQ03
namespace Go.Proofs.YtidfndgedopghaaGreatDoor
set_option linter.unusedVariables false
open Go.ChangeShapes Go.WideShapes Go.ChangeAt Go.RowKit Go.Deep Go.MuLone
def suNeed : Nat → List Nat
  | 1 => [0]
  | 2 => [1]
  | 3 => [2]
  | 4 => [3]
  | 5 => [4]
  | 6 => [5]
  | 7 => [6]
  | 9 => [8]
  | 10 => [9]
  | 11 => [10]
  | 12 => [11]
  | 13 => [12]
  | 14 => [13]
  | 16 => [15]
  | 17 => [16]
  | 18 => [17]
  | 19 => [18]
  | 20 => [19]
  | 21 => [20]
  | 23 => [22]
  | 24 => [23]
  | 25 => [24]
  | 26 => [25]
  | 27 => [26]
  | 28 => [27]
  | 30 => [29]
  | 31 => [30]
  | 32 => [31]
  | 34 => [33]
  | 35 => [34]
  | 36 => [35]
  | 38 => [37]
  | 39 => [38]
  | 40 => [39]
  | 41 => [40]
  | 42 => [41]
  | 43 => [42]
  | 45 => [44]
  | 46 => [45]
  | 47 => [46]
  | 48 => [47]
  | 49 => [48]
  | 50 => [49]
  | 52 => [51]
  | 53 => [52]
  | 54 => [53]
  | 55 => [54]
  | 56 => [55]
  | 57 => [56]
  | 59 => [58]
  | 60 => [59]
  | 61 => [60]
  | 62 => [61]
  | 63 => [62]
  | 64 => [63]
  | 68 => [67]
  | 70 => [69]
  | 71 => [70]
  | 72 => [71]
  | 73 => [72]
  | 74 => [73]
  | 75 => [74]
  | 77 => [76]
  | 78 => [77]
  | 79 => [78]
  | 80 => [79]
  | 81 => [80]
  | 82 => [81]
  | 83 => [7, 68, 14, 21, 28, 32, 36, 43, 50, 57, 64, 65, 66, 75, 82]
  | 84 => [83, 0, 1, 2, 3, 4, 5, 6, 7, 8, 9, 10, 11, 12, 13, 14, 15, 16, 17, 18, 19, 20, 21, 22, 23, 24, 25, 26, 27, 28, 29, 30, 31, 32, 33, 34, 35, 36, 37, 38, 39, 40, 41, 42, 43, 44, 45, 46, 47, 48, 49, 50, 51, 52, 53, 54, 55, 56, 57, 58, 59, 60, 61, 62, 63, 64, 65, 66, 67, 68, 69, 70, 71, 72, 73, 74, 75, 76, 77, 78, 79, 80, 81, 82]
  | _ => []
def suKd (L : Lay) (S : St) (vr ui : Value) (g : Nat) : Nat → Kd
  | 0 => .con (.pointer (some ⟨L.b, 0, none⟩))
  | 1 => .con (.pointer (some ⟨L.b, 0, none⟩))
  | 2 => .con (.pointer (some ⟨L.b, 0, none⟩))
  | 3 => .con (.pointer (some ⟨L.m, 0, none⟩))
  | 4 => .con (.pointer (some ⟨L.m, 0, none⟩))
  | 5 => .con (.pointer (some ⟨L.m, 0, none⟩))
  | 6 => .con (vr)
  | 7 => .own S.ram
  | 8 => .con (.pointer (some ⟨L.b, 0, none⟩))
  | 9 => .con (.pointer (some ⟨L.b, 0, none⟩))
  | 10 => .con (.pointer (some ⟨L.b, 2, none⟩))
  | 11 => .con (.pointer (some ⟨L.sw, 0, none⟩))
  | 12 => .con (.pointer (some ⟨L.sw, 0, none⟩))
  | 13 => .con (.pointer (some ⟨L.sw, 0, none⟩))
  | 14 => .con (.int .u32 S.msip)
  | 15 => .con (.pointer (some ⟨L.b, 0, none⟩))
  | 16 => .con (.pointer (some ⟨L.b, 0, none⟩))
  | 17 => .con (.pointer (some ⟨L.b, 3, none⟩))
  | 18 => .con (.pointer (some ⟨L.cm, 0, none⟩))
  | 19 => .con (.pointer (some ⟨L.cm, 0, none⟩))
  | 20 => .con (.pointer (some ⟨L.cm, 1, none⟩))
  | 21 => .con (.int .u64 S.cmp)
  | 22 => .con (.pointer (some ⟨L.b, 0, none⟩))
  | 23 => .con (.pointer (some ⟨L.b, 0, none⟩))
  | 24 => .con (.pointer (some ⟨L.b, 4, none⟩))
  | 25 => .con (.pointer (some ⟨L.ck, 0, none⟩))
  | 26 => .con (.pointer (some ⟨L.ck, 0, none⟩))
  | 27 => .con (.pointer (some ⟨L.ck, 1, none⟩))
  | 28 => .con (.int .u64 S.time)
  | 29 => .con (.pointer (some ⟨L.b, 0, none⟩))
  | 30 => .con (.pointer (some ⟨L.b, 0, none⟩))
  | 31 => .con (.pointer (some ⟨L.b, 6, none⟩))
  | 32 => .con (.bool S.ext)
  | 33 => .con (.pointer (some ⟨L.b, 0, none⟩))
  | 34 => .con (.pointer (some ⟨L.b, 0, none⟩))
  | 35 => .con (.pointer (some ⟨L.b, 7, none⟩))
  | 36 => .con (.bool S.soft)
  | 37 => .con (.pointer (some ⟨L.b, 0, none⟩))
  | 38 => .con (.pointer (some ⟨L.b, 0, none⟩))
  | 39 => .con (.pointer (some ⟨L.b, 5, none⟩))
  | 40 => .con (.pointer (some ⟨L.u, 0, none⟩))
  | 41 => .con (.pointer (some ⟨L.u, 0, none⟩))
  | 42 => .con (.pointer (some ⟨L.u, 0, none⟩))
  | 43 => .con (.int .u8 S.ier)
  | 44 => .con (.pointer (some ⟨L.b, 0, none⟩))
  | 45 => .con (.pointer (some ⟨L.b, 0, none⟩))
  | 46 => .con (.pointer (some ⟨L.b, 5, none⟩))
  | 47 => .con (.pointer (some ⟨L.u, 0, none⟩))
  | 48 => .con (.pointer (some ⟨L.u, 0, none⟩))
  | 49 => .con (.pointer (some ⟨L.u, 1, none⟩))
  | 50 => .con (.int .u8 S.lcr)
  | 51 => .con (.pointer (some ⟨L.b, 0, none⟩))
  | 52 => .con (.pointer (some ⟨L.b, 0, none⟩))
  | 53 => .con (.pointer (some ⟨L.b, 5, none⟩))
  | 54 => .con (.pointer (some ⟨L.u, 0, none⟩))
  | 55 => .con (.pointer (some ⟨L.u, 0, none⟩))
  | 56 => .con (.pointer (some ⟨L.u, 2, none⟩))
  | 57 => .con (.int .u8 S.mcr)
  | 58 => .con (.pointer (some ⟨L.b, 0, none⟩))
  | 59 => .con (.pointer (some ⟨L.b, 0, none⟩))
  | 60 => .con (.pointer (some ⟨L.b, 5, none⟩))
  | 61 => .con (.pointer (some ⟨L.u, 0, none⟩))
  | 62 => .con (.pointer (some ⟨L.u, 0, none⟩))
  | 63 => .con (.pointer (some ⟨L.u, 3, none⟩))
  | 64 => .con (.int .u8 S.scr)
  | 65 => .con (.bool S.ov)
  | 66 => .con (ui)
  | 67 => .con (.pointer (some ⟨L.b, 0, none⟩))
  | 68 => .own S.out
  | 69 => .con (.pointer (some ⟨L.b, 0, none⟩))
  | 70 => .con (.pointer (some ⟨L.b, 0, none⟩))
  | 71 => .con (.pointer (some ⟨L.b, 1, none⟩))
  | 72 => .con (.pointer (some ⟨L.pw, 0, none⟩))
  | 73 => .con (.pointer (some ⟨L.pw, 0, none⟩))
  | 74 => .con (.pointer (some ⟨L.pw, 0, none⟩))
  | 75 => .con (.int .i64 S.off)
  | 76 => .con (.pointer (some ⟨L.b, 0, none⟩))
  | 77 => .con (.pointer (some ⟨L.b, 0, none⟩))
  | 78 => .con (.pointer (some ⟨L.b, 1, none⟩))
  | 79 => .con (.pointer (some ⟨L.pw, 0, none⟩))
  | 80 => .con (.pointer (some ⟨L.pw, 0, none⟩))
  | 81 => .con (.pointer (some ⟨L.pw, 1, none⟩))
  | 82 => .con (.int .i64 S.code)
  | 83 => .agg (fun vs => #[vs.getD 0 undef, .int .u32 S.msip, .int .u64 S.cmp, .int .u64 S.time, .bool S.ext, .bool S.soft, .int .u8 S.ier, .int .u8 S.lcr, .int .u8 S.mcr, .int .u8 S.scr, .bool S.ov, ui, vs.getD 1 undef, .int .i64 S.off, .int .i64 S.code])
  | 84 => .mem (fun vs w => ∃ cs, vs.getD 0 undef = .agg cs ∧ w.heap[g]? = some (.cells cs 44 (0, 0)))
  | _ => .con undef
def suSlot : Nat → Nat
  | 0 => 16  | 1 => 17  | 2 => 18  | 3 => 19  | 4 => 20  | 5 => 21  | 6 => 22  | 7 => 23  | 8 => 24  | 9 => 25  | 10 => 26  | 11 => 27  | 12 => 28  | 13 => 29  | 14 => 30  | 15 => 31  | 16 => 32  | 17 => 33  | 18 => 34  | 19 => 35  | 20 => 36  | 21 => 37  | 22 => 38  | 23 => 39  | 24 => 40  | 25 => 41  | 26 => 42  | 27 => 43  | 28 => 44  | 29 => 45  | 30 => 46  | 31 => 47  | 32 => 48  | 33 => 49  | 34 => 50  | 35 => 51  | 36 => 52  | 37 => 53  | 38 => 54  | 39 => 55  | 40 => 56  | 41 => 57  | 42 => 58  | 43 => 59  | 44 => 60  | 45 => 61  | 46 => 62  | 47 => 63  | 48 => 64  | 49 => 65  | 50 => 66  | 51 => 67  | 52 => 68  | 53 => 69  | 54 => 70  | 55 => 71  | 56 => 72  | 57 => 73  | 58 => 74  | 59 => 75  | 60 => 76  | 61 => 77  | 62 => 78  | 63 => 79  | 64 => 80  | 65 => 81  | 66 => 82  | 67 => 83  | 68 => 84  | 69 => 85  | 70 => 86  | 71 => 87  | 72 => 88  | 73 => 89  | 74 => 90  | 75 => 91  | 76 => 92  | 77 => 93  | 78 => 94  | 79 => 95  | 80 => 96  | 81 => 97  | 82 => 98  | 83 => 99  | 84 => 0 | _ => 0
theorem setRow_other (w : World) (g : Nat) (cs : Array Value) (k : Nat) (h : ¬ k = g) : (w.setRow g cs).heap[k]? = w.heap[k]? := by
  unfold World.setRow
  rw [Array.getElem?_modify, if_neg (fun e => h e.symm)]
end Go.Proofs.YtidfndgedopghaaGreatDoor
namespace Go.Proofs.YtidfndgedopghaaGreatDoor
set_option linter.unusedVariables false
open Go.ChangeShapes Go.WideShapes Go.ChangeAt Go.RowKit Go.Deep Go.MuLone
theorem su_mem {L : Lay} {S : St} {vr ui : Value} {g : Nat} (j : Nat) (hj : j ≠ 84) : ∀ f, suKd L S vr ui g j ≠ .mem f := by
  intro f
  unfold suKd
  split <;> first | exact absurd rfl hj | simp
theorem su_fin : ∀ k, k < 85 → k ≠ 84 → k ∈ suNeed 84 := by decide
end Go.Proofs.YtidfndgedopghaaGreatDoor
namespace Go.Proofs.YtidfndgedopghaaGreatDoor
set_option linter.unusedVariables false
open Go.ChangeShapes Go.WideShapes Go.ChangeAt Go.RowKit Go.Deep
/-- Copied, half way: the parameter's box p, the copy t, the result r. -/
structure Cpd (C : Array Value) (p r t : Nat) (cs : Array Value) (w0 w : World) : Prop where
  b : Below w0.heap.size w0 w
  hp : w.heap[p]? = some (.cells C 44 (0, 0))
  hr : ∃ z : Array Value, w.heap[r]? = some (.cells z 44 (0, 0)) ∧ z.size = 15
  ht : w.heap[t]? = some (.cells cs 44 (0, 0))
  n1 : p ≠ t
  n2 : r ≠ t
  lt : w0.heap.size ≤ t
theorem Cpd.grow {C cs : Array Value} {p r t : Nat} {w0 w w' : World} (h : Cpd C p r t cs w0 w) (hb : Below w.heap.size w w') : Cpd C p r t cs w0 w' := by
  have k : ∀ {g : Nat} {o : Obj}, w.heap[g]? = some o → w'.heap[g]? = some o := fun {g o} hg => by rw [hb.block g (Array.getElem?_eq_some_iff.1 hg).1]; exact hg
  obtain ⟨z, hz, hs⟩ := h.hr
  exact ⟨h.b.trans (hb.mono h.b.size), k h.hp, ⟨z, k hz, hs⟩, k h.ht, h.n1, h.n2, h.lt⟩
theorem Cpd.set {C cs : Array Value} {p r t : Nat} {w0 w : World} (h : Cpd C p r t cs w0 w) (j : Nat) (v : Value) : Cpd C p r t (cs.setIfInBounds j v) w0 (w.setCell ⟨t, j, none⟩ v) := by
  obtain ⟨z, hz, hs⟩ := h.hr
  refine ⟨h.b.setCell h.lt v, ?_, ⟨z, ?_, hs⟩, heap_setCell_same w t j cs _ v h.ht, h.n1, h.n2, h.lt⟩
  · rw [Below.heap_setCell w ⟨t, j, none⟩ v p h.n1]; exact h.hp
  · rw [Below.heap_setCell w ⟨t, j, none⟩ v r h.n2]; exact hz
theorem Cpd.pcell {C cs : Array Value} {p r t : Nat} {w0 w : World} (h : Cpd C p r t cs w0 w) (j : Nat) : w.cell? ⟨p, j, none⟩ = C[j]? := cell_of_row w p j _ _ _ h.hp
theorem Cpd.tcell {C cs : Array Value} {p r t : Nat} {w0 w : World} (h : Cpd C p r t cs w0 w) (j : Nat) : w.cell? ⟨t, j, none⟩ = cs[j]? := cell_of_row w t j _ _ _ h.ht
theorem Cpd.tfree {C cs : Array Value} {p r t : Nat} {w0 w : World} (h : Cpd C p r t cs w0 w) (j : Nat) : w.frozen? ⟨t, j, none⟩ = false := frozen_of_row w t j _ _ h.ht
theorem below_nil {w w' : World} (h : w.grownBy w' (Value.slice none 0 0).ownBlock) : Below w.heap.size w w' := (Below.refl _ _).grown h (Nat.le_refl _) (fun k hk => by cases hk)
theorem Cpd.start (w : World) (C Z : Array Value) (hZ : Z.size = 15) : Cpd C w.heap.size (w.heap.size + 1) (w.heap.size + 2) C w (((w.alloc (.cells C 44)).alloc (.cells Z 44)).alloc (.cells C 44)) := by
  have e1 : (w.alloc (.cells C 44)).heap.size = w.heap.size + 1 := by simp
  have e2 : ((w.alloc (.cells C 44)).alloc (.cells Z 44)).heap.size = w.heap.size + 2 := by simp
  refine ⟨(((Below.refl _ _).alloc (Nat.le_refl _) _).alloc (by simp) _).alloc (by simp; omega) _, ?_, ⟨Z, ?_, hZ⟩, ?_, by omega, by omega, by omega⟩
  · rw [Below.heap_alloc _ _ _ (by rw [e2]; omega), Below.heap_alloc _ _ _ (by rw [e1]; omega)]; exact alloc_at w _
  · rw [Below.heap_alloc _ _ _ (by rw [e2]; omega), ← e1]; exact alloc_at _ _
  · rw [← e2]; exact alloc_at _ _
theorem Cpd.last {C cs : Array Value} {p r t : Nat} {w0 w : World} (h : Cpd C p r t cs w0 w) (hr : w0.heap.size ≤ r) (c : Array Value) : (w.setRow r c).heap[r]? = some (.cells c 44 (0, 0)) ∧ Exc (· = r) w (w.setRow r c) ∧ Below w0.heap.size w0 (w.setRow r c) := by
  obtain ⟨z, hz, hs⟩ := h.hr
  have e : Exc (· = r) w (w.setRow r c) := ⟨rfl, rfl, rfl, by simp [World.setRow], fun k hk hs => setRow_other w r _ k hs⟩
  exact ⟨setRow_heap w r _ _ _ _ hz, e, h.b.trans (e.below h.b.size (fun k hk => by rw [hk]; exact hr))⟩
theorem own_set {w : World} {B n t j : Nat} {v u : Value} {xs : List Value} (h : w.ownsRow B 5 1 v n xs) (ht : t < B) : (w.setCell ⟨t, j, none⟩ u).ownsRow B 5 1 v n xs := ownsRow_setCell_below h ht u
set_option maxHeartbeats 4000000 in
theorem copied_c (S : St) (ar ai ao : Option Addr) (cr ci co : Nat) (w : World) (hr : Byt w (.slice ar S.ram.length cr) S.ram) (hi : Byt w (.slice ai S.inp.length ci) S.inp) (ho : Byt w (.slice ao S.out.length co) S.out)
    (lr : S.ram.length ≤ 140737488355328) (li : S.inp.length ≤ 140737488355328) (lo : S.out.length ≤ 140737488355328) :
    Calls Tryz.prog 22 #[.agg (stc S (.slice ar S.ram.length cr) (.slice ai S.inp.length ci) (.slice ao S.out.length co))] w fun e w' => ∃ ur ui uo, e = .returned (.agg (stc S ur ui uo)) ∧ Sv w.heap.size S ur ui uo w' ∧ Below w.heap.size w w' := by
  have HRc : Hid (∀ w', Below w.heap.size w w' → Byt w' (.slice ar S.ram.length cr) S.ram) := fun w' h => hr.later h rfl
  have HIc : Hid (∀ w', Below w.heap.size w w' → Byt w' (.slice ai S.inp.length ci) S.inp) := fun w' h => hi.later h rfl
  have HOc : Hid (∀ w', Below w.heap.size w w' → Byt w' (.slice ao S.out.length co) S.out) := fun w' h => ho.later h rfl
  clear hr hi ho
  unfold stc
  go_enter Tryz.func22, Tryz.ntmps22
  go_wp2_with (first | (at_builtin; refine appL (by rfl) _ _ (by rfl) _ _ _ [] S.ram (by rfl) (World.ownsRow_nil _ _ _ _) (by rfl) (HRc.out _ (Cpd.start w _ _ (by rfl)).b) (by simpa using lr) (Nat.le_refl _) ?_; intro v1 w1 ho1 hg1; obtain ⟨xa, ya, za, rfl⟩ := own_one ho1; have K1 := Cpd.grow (Cpd.start w _ _ (by rfl)) (below_nil hg1); have f1 : w1.cell? ⟨w.heap.size + 2, 0, none⟩ = some (.slice ar S.ram.length cr) := K1.tcell 0; have g1 := K1.tfree 0; have K1' := K1.set 0 (.slice xa ya za); have c1 : w1.cell? ⟨w.heap.size, 11, none⟩ = some (.slice ai S.inp.length ci) := K1.pcell 11; have HK1 : Hid _ := K1'; clear K1 K1') | (at_builtin; refine appL (by rfl) _ _ (by rfl) _ _ _ [] S.inp (by rfl) (World.ownsRow_nil _ _ _ _) (by rfl) (HIc.out _ HK1.out.b) (by simpa using li) (Nat.le_refl _) ?_; intro v2 w2 ho2 hg2; obtain ⟨xb, yb, zb, rfl⟩ := own_one ho2; have K2 := Cpd.grow HK1.out (below_nil hg2); have f2 : w2.cell? ⟨w.heap.size + 2, 11, none⟩ = some (.slice ai S.inp.length ci) := K2.tcell 11; have g2 := K2.tfree 11; have K2' := K2.set 11 (.slice xb yb zb); have c2 : w2.cell? ⟨w.heap.size, 12, none⟩ = some (.slice ao S.out.length co) := K2.pcell 12; have HK2 : Hid _ := K2'; clear K2 K2') | (at_builtin; refine appL (by rfl) _ _ (by rfl) _ _ _ [] S.out (by rfl) (World.ownsRow_nil _ _ _ _) (by rfl) (HOc.out _ HK2.out.b) (by simpa using lo) (Nat.le_refl _) ?_; intro v3 w3 ho3 hg3; obtain ⟨xc, yc, zc, rfl⟩ := own_one ho3; have K3 := Cpd.grow HK2.out (below_nil hg3); have g3 := K3.tfree 12; have t0 : w3.cell? ⟨w.heap.size + 2, 0, none⟩ = some (.slice xa ya za) := K3.tcell 0; have t1 : w3.cell? ⟨w.heap.size + 2, 1, none⟩ = some (.int .u32 S.msip) := K3.tcell 1; have t2 : w3.cell? ⟨w.heap.size + 2, 2, none⟩ = some (.int .u64 S.cmp) := K3.tcell 2; have t3 : w3.cell? ⟨w.heap.size + 2, 3, none⟩ = some (.int .u64 S.time) := K3.tcell 3; have t4 : w3.cell? ⟨w.heap.size + 2, 4, none⟩ = some (.bool S.ext) := K3.tcell 4; have t5 : w3.cell? ⟨w.heap.size + 2, 5, none⟩ = some (.bool S.soft) := K3.tcell 5; have t6 : w3.cell? ⟨w.heap.size + 2, 6, none⟩ = some (.int .u8 S.ier) := K3.tcell 6; have t7 : w3.cell? ⟨w.heap.size + 2, 7, none⟩ = some (.int .u8 S.lcr) := K3.tcell 7; have t8 : w3.cell? ⟨w.heap.size + 2, 8, none⟩ = some (.int .u8 S.mcr) := K3.tcell 8; have t9 : w3.cell? ⟨w.heap.size + 2, 9, none⟩ = some (.int .u8 S.scr) := K3.tcell 9; have t10 : w3.cell? ⟨w.heap.size + 2, 10, none⟩ = some (.bool S.ov) := K3.tcell 10; have t11 : w3.cell? ⟨w.heap.size + 2, 11, none⟩ = some (.slice xb yb zb) := K3.tcell 11; have t12 : w3.cell? ⟨w.heap.size + 2, 12, none⟩ = some (.slice ao S.out.length co) := K3.tcell 12; have t13 : w3.cell? ⟨w.heap.size + 2, 13, none⟩ = some (.int .i64 S.off) := K3.tcell 13; have t14 : w3.cell? ⟨w.heap.size + 2, 14, none⟩ = some (.int .i64 S.code) := K3.tcell 14; have HK3 : Hid _ := K3.set 12 (.slice xc yc zc); clear K3) | (refine wpList_store_row (by rfl) 44 _ _ (by rfl) (w.heap.size + 1) #[.slice xa ya za, .int .u32 S.msip, .int .u64 S.cmp, .int .u64 S.time, .bool S.ext, .bool S.soft, .int .u8 S.ier, .int .u8 S.lcr, .int .u8 S.mcr, .int .u8 S.scr, .bool S.ov, .slice xb yb zb, .slice xc yc zc, .int .i64 S.off, .int .i64 S.code] (by rfl) (by rfl) 44 _ HK3.out.hr.choose_spec.1 stSize HK3.out.hr.choose_spec.2 (stOne S) ?_))
  obtain ⟨hrow, hexc, hbel⟩ := HK3.out.last (show w.heap.size ≤ w.heap.size + 1 by omega) (stc S (.slice xa ya za) (.slice xb yb zb) (.slice xc yc zc))
  refine bodyPost_ret (v := .agg (stc S (.slice xa ya za) (.slice xb yb zb) (.slice xc yc zc))) (results_cell_row Tryz.results22 _ _ (w.heap.size + 1) 44 _ (0, 0) _ (by rfl) hrow Tryz.underlying44 (by rfl) stSize) rfl ?_
  have e1 : ∀ (u : World) (a : Addr) (v : Value), (u.setCell a v).heap.size = u.heap.size := fun u a v => by simp [World.setCell]
  have q2 := (below_nil hg2).size
  have q3 := (below_nil hg3).size
  rw [e1] at q2 q3
  have s1 : w.heap.size + 2 < w1.heap.size := by have := (Array.getElem?_eq_some_iff.1 HK1.out.ht).1; rwa [e1] at this
  have s2 : w.heap.size + 2 < w2.heap.size := by omega
  have a1 : w3.ownsRow (w.heap.size + 2 + 1) 5 1 (.slice xa ya za) S.ram.length (bv S.ram) := by
    have x1 := own_le ho1 (show w.heap.size + 2 + 1 ≤ _ by simp)
    have x2 := own_later (own_set (j := 0) (u := .slice xa ya za) x1 (Nat.lt_succ_self _)) (below_nil hg2) rfl
    exact own_later (own_set (j := 11) (u := .slice xb yb zb) x2 (Nat.lt_succ_self _)) (below_nil hg3) rfl
  have a2 : w3.ownsRow (w.heap.size + 2 + 1) 5 1 (.slice xb yb zb) S.inp.length (bv S.inp) := by
    have x1 := own_le ho2 (show w.heap.size + 2 + 1 ≤ _ by rw [e1]; omega)
    exact own_later (own_set (j := 11) (u := .slice xb yb zb) x1 (Nat.lt_succ_self _)) (below_nil hg3) rfl
  have a3 : w3.ownsRow (w.heap.size + 2 + 1) 5 1 (.slice xc yc zc) S.out.length (bv S.out) := own_le ho3 (show w.heap.size + 2 + 1 ≤ _ by rw [e1]; omega)
  have fin : ∀ {v : Value} {l : List Int}, w3.ownsRow (w.heap.size + 2 + 1) 5 1 v l.length (bv l) → ((w3.setCell ⟨w.heap.size + 2, 12, none⟩ (.slice xc yc zc)).setRow (w.heap.size + 1) (stc S (.slice xa ya za) (.slice xb yb zb) (.slice xc yc zc))).ownsRow w.heap.size 5 1 v l.length (bv l) := fun {v l} h => by
    refine own_le (own_exc (own_set (j := 12) (u := .slice xc yc zc) h (Nat.lt_succ_self _)) hexc (fun k hk e => ?_)) (show w.heap.size ≤ w.heap.size + 2 + 1 by omega)
    have := (h.lt k hk).1
    omega
  exact ⟨_, _, _, rfl, ⟨fin a1, fin a2, fin a3, own_apart ho1 ho2 (by rw [e1]; exact Nat.le_refl _), own_apart ho1 ho3 (by rw [e1]; exact q2), own_apart ho2 ho3 (by rw [e1]; exact Nat.le_refl _)⟩, hbel⟩
end Go.Proofs.YtidfndgedopghaaGreatDoor
namespace Go.Proofs.YtidfndgedopghaaGreatDoor
set_option linter.unusedVariables false
open Go.ChangeShapes Go.WideShapes Go.ChangeAt Go.RowKit Go.Deep
theorem ramOk_lo {n : Nat} (h : (n : Int) < 8) : ramOk n = false := by simp [ramOk]; omega
theorem ramOk_hi {n : Nat} (h : (65536 : Int) < n) : ramOk n = false := by simp [ramOk]; omega
theorem ramOk_odd {n : Nat} (h : ((n : Int) % 8 != 0) = true) : ramOk n = false := by simp [ramOk] at h ⊢; omega
theorem powOk_lo {o c : Int} (h : o < 0) : powOk o c = false := by unfold powOk; rw [if_neg (by omega), if_neg (by omega)]
theorem powOk_hi {o c : Int} (h : 2 < o) : powOk o c = false := by unfold powOk; rw [if_neg (by omega), if_neg (by omega)]
end Go.Proofs.YtidfndgedopghaaGreatDoor
namespace Go.Proofs.YtidfndgedopghaaGreatDoor
set_option linter.unusedVariables false
open Go.ChangeShapes Go.WideShapes Go.ChangeAt Go.RowKit Go.Deep
/-- The cells of a state whose lists lie in this world. -/
structure Bs (S : St) (vr vi vo : Value) (w : World) : Prop where
  r : Byt w vr S.ram
  i : Byt w vi S.inp
  o : Byt w vo S.out
theorem Bs.later {S : St} {vr vi vo : Value} {w w' : World} (h : Bs S vr vi vo w) (hb : Below w.heap.size w w') : Bs S vr vi vo w' := ⟨h.r.later hb rfl, h.i.later hb rfl, h.o.later hb rfl⟩
theorem Sv.bs {B : Nat} {S : St} {vr vi vo : Value} {w : World} (h : Sv B S vr vi vo w) : Bs S vr vi vo w := ⟨Byt.of_own h.r, Byt.of_own h.i, Byt.of_own h.o⟩
theorem Sv.later {B : Nat} {S : St} {vr vi vo : Value} {w w' : World} (h : Sv B S vr vi vo w) (hb : Below w.heap.size w w') : Sv B S vr vi vo w' := ⟨own_later h.r hb rfl, own_later h.i hb rfl, own_later h.o hb rfl, h.ri, h.ro, h.io⟩
set_option maxHeartbeats 2000000 in
theorem same_c (S : St) (vr vi vo ur ui uo : Value) (w : World) (ha : Bs S vr vi vo w) (hb : Bs S ur ui uo w) :
    Calls Tryz.prog 30 #[.agg (stc S vr vi vo), .agg (stc S ur ui uo)] w fun e w' => e = .returned (.bool true) ∧ Below w.heap.size w w' := by
  have HB : Hid (∀ o o', Below w.heap.size w ((w.alloc o).alloc o')) := fun o o' => ((Below.refl _ _).alloc (Nat.le_refl _) o).alloc (by simp) o'
  have k1 := fun o o' => (ha.r.later (HB.out o o') rfl).conv
  have k2 := fun o o' => (ha.i.later (HB.out o o') rfl).conv
  have k3 := fun o o' => (ha.o.later (HB.out o o') rfl).conv
  have k4 := fun o o' => (hb.r.later (HB.out o o') rfl).conv
  have k5 := fun o o' => (hb.i.later (HB.out o o') rfl).conv
  have k6 := fun o o' => (hb.o.later (HB.out o o') rfl).conv
  obtain ⟨x1, y1, e1, _⟩ := ha.r
  obtain ⟨x2, y2, e2, _⟩ := ha.i
  obtain ⟨x3, y3, e3, _⟩ := ha.o
  obtain ⟨x4, y4, e4, _⟩ := hb.r
  obtain ⟨x5, y5, e5, _⟩ := hb.i
  obtain ⟨x6, y6, e6, _⟩ := hb.o
  clear ha hb
  generalize strOfNums S.ram = sr at k1 k4
  generalize strOfNums S.inp = si at k2 k5
  generalize strOfNums S.out = so at k3 k6
  subst e1 e2 e3 e4 e5 e6
  unfold stc
  go_enter Tryz.func30, Tryz.ntmps30
  go_wp2
  go_ret
  exact ⟨rfl, HB.out _ _⟩
end Go.Proofs.YtidfndgedopghaaGreatDoor
