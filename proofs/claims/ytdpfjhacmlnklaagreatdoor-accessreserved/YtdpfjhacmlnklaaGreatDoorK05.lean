import Derived.Test.YtdpfjhacmlnklaaGreatDoorK04
import Derived.Conc.MuLone
import Derived.Deep.RegionHeld3
namespace Go.Proofs.YtdpfjhacmlnklaaGreatDoor
set_option linter.unusedVariables false
set_option maxRecDepth 100000
set_option maxHeartbeats 8000000
open Go.ChangeShapes Go.WideShapes Go.ChangeAt Go.RowKit Go.Deep Go.MuLone _root_.Go.Proofs.Tryz
theorem bU {w : World} {B n T : Nat} {v : Value} {xs : List Value} {q : Nat} {cs : Array Value} {fr : Nat × Nat} (h : w.ownsRow B 5 1 v n xs) (hq : w.heap[q]? = some (.cells cs T fr)) (hT : T ≠ 5) : ∀ g, v.ownBlock = some g → g ≠ q := by
 intro g hg e
 subst e
 obtain ⟨c, fz, h1⟩ := Go.Lib.ownsRow_kind h g hg
 rw [hq] at h1
 simp at h1
 exact hT h1.2.1
theorem iT {w w1 w2 w3 : World} {q : Nat} {x y : Value} {cs : Array Value} {T : TypeId} (hq : w.heap[q]? = some (.cells cs T (0, 0))) (hx : cs[0]? = some x) (h1 : w1 = w.setCell ⟨q, 0, none⟩ y) (h2 : Below w1.heap.size w1 w2) (h3 : w3 = w2.setCell ⟨q, 0, none⟩ x) : Below w.heap.size w w3 := by
 subst h1 h3
 have hql : q < w.heap.size := (Array.getElem?_eq_some_iff.1 hq).1
 have hsz : (w.setCell ⟨q, 0, none⟩ y).heap.size = w.heap.size := by simp [World.setCell]
 have e1 : (w.setCell ⟨q, 0, none⟩ y).heap[q]? = some (.cells (cs.setIfInBounds 0 y) T (0, 0)) := heap_setCell_same w q 0 cs T y hq
 have e2 : w2.heap[q]? = some (.cells (cs.setIfInBounds 0 y) T (0, 0)) := by rw [h2.block q (by rw [hsz]; exact hql)]; exact e1
 refine ⟨h2.os, h2.tape, h2.output, ?_, fun k hk => ?_⟩
 ·have := h2.size; rw [hsz] at this; simpa [World.setCell] using this
 ·by_cases e : k = q
  ·subst e
   rw [heap_setCell_same w2 k 0 _ T x e2, hq]
   congr 2
   apply Array.ext_getElem?
   intro i
   by_cases hi : i = 0
   ·subst hi
    have : 0 < cs.size := (Array.getElem?_eq_some_iff.1 hx).1
    rw [hx]
    simp [this]
   ·rw [Array.getElem?_setIfInBounds_ne (by omega), Array.getElem?_setIfInBounds_ne (by omega)]
  ·rw [Below.heap_setCell w2 ⟨q, 0, none⟩ x k e, h2.block k (by rw [hsz]; exact hk), Below.heap_setCell w ⟨q, 0, none⟩ y k e]
theorem PB.later {B : Nat} {L : Lay} {S : St} {w w' : World} (h : PB B L S w) (hb : Below w.heap.size w w') : PB B L S w' := by
 have k : ∀ {g : Nat} {o : Obj}, w.heap[g]? = some o → w'.heap[g]? = some o := fun {g o} hg => by rw [hb.block g (Array.getElem?_eq_some_iff.1 hg).1]; exact hg
 exact ⟨k h.hb, k h.hm, k h.hp, k h.hs, k h.hc, k h.hk, k h.hu, k h.hq, eI h.wr hb rfl, eI h.wi hb rfl, eI h.wo hb rfl, h.ri, h.ro, h.io, h.lb, h.lm, h.lp, h.ls, h.lc, h.lk, h.lu, h.lq⟩
structure PCb (L : Lay) (S : St) (vr vi vo : Value) (w : World) : Prop where
 b0 : w.cell? ⟨L.b, 0, none⟩ = some (.pointer (some ⟨L.m, 0, none⟩))
 b1 : w.cell? ⟨L.b, 1, none⟩ = some (.pointer (some ⟨L.pw, 0, none⟩))
 b2 : w.cell? ⟨L.b, 2, none⟩ = some (.pointer (some ⟨L.sw, 0, none⟩))
 b3 : w.cell? ⟨L.b, 3, none⟩ = some (.pointer (some ⟨L.cm, 0, none⟩))
 b4 : w.cell? ⟨L.b, 4, none⟩ = some (.pointer (some ⟨L.ck, 0, none⟩))
 b5 : w.cell? ⟨L.b, 5, none⟩ = some (.pointer (some ⟨L.u, 0, none⟩))
 b6 : w.cell? ⟨L.b, 6, none⟩ = some (.bool S.ext)
 b7 : w.cell? ⟨L.b, 7, none⟩ = some (.bool S.soft)
 m0 : w.cell? ⟨L.m, 0, none⟩ = some vr
 p0 : w.cell? ⟨L.pw, 0, none⟩ = some (.int .i64 S.off)
 p1 : w.cell? ⟨L.pw, 1, none⟩ = some (.int .i64 S.code)
 s0 : w.cell? ⟨L.sw, 0, none⟩ = some (.int .u32 S.msip)
 c0 : w.cell? ⟨L.cm, 0, none⟩ = some (.int .u64 33570816)
 c1 : w.cell? ⟨L.cm, 1, none⟩ = some (.int .u64 S.cmp)
 k0 : w.cell? ⟨L.ck, 0, none⟩ = some (.int .u64 33603576)
 k1 : w.cell? ⟨L.ck, 1, none⟩ = some (.int .u64 S.time)
 u0 : w.cell? ⟨L.u, 0, none⟩ = some (.int .u8 S.ier)
 u1 : w.cell? ⟨L.u, 1, none⟩ = some (.int .u8 S.lcr)
 u2 : w.cell? ⟨L.u, 2, none⟩ = some (.int .u8 S.mcr)
 u3 : w.cell? ⟨L.u, 3, none⟩ = some (.int .u8 S.scr)
 u4 : w.cell? ⟨L.u, 4, none⟩ = some (.pointer (some ⟨L.q, 0, none⟩))
 u5 : w.cell? ⟨L.u, 5, none⟩ = some vo
 q2 : w.cell? ⟨L.q, 2, none⟩ = some vi
 q3 : w.cell? ⟨L.q, 3, none⟩ = some (.bool S.ov)
theorem PB.cl {B : Nat} {L : Lay} {S : St} {w : World} (h : PB B L S w) : PCb L S L.vr L.vi L.vo w :=
 ⟨cell_of_row w L.b 0 _ _ _ h.hb, cell_of_row w L.b 1 _ _ _ h.hb, cell_of_row w L.b 2 _ _ _ h.hb, cell_of_row w L.b 3 _ _ _ h.hb, cell_of_row w L.b 4 _ _ _ h.hb, cell_of_row w L.b 5 _ _ _ h.hb, cell_of_row w L.b 6 _ _ _ h.hb, cell_of_row w L.b 7 _ _ _ h.hb,
  cell_of_row w L.m 0 _ _ _ h.hm, cell_of_row w L.pw 0 _ _ _ h.hp, cell_of_row w L.pw 1 _ _ _ h.hp, cell_of_row w L.sw 0 _ _ _ h.hs, cell_of_row w L.cm 0 _ _ _ h.hc, cell_of_row w L.cm 1 _ _ _ h.hc, cell_of_row w L.ck 0 _ _ _ h.hk, cell_of_row w L.ck 1 _ _ _ h.hk,
  cell_of_row w L.u 0 _ _ _ h.hu, cell_of_row w L.u 1 _ _ _ h.hu, cell_of_row w L.u 2 _ _ _ h.hu, cell_of_row w L.u 3 _ _ _ h.hu, cell_of_row w L.u 4 _ _ _ h.hu, cell_of_row w L.u 5 _ _ _ h.hu, cell_of_row w L.q 2 _ _ _ h.hq, cell_of_row w L.q 3 _ _ _ h.hq⟩
theorem setRow_other (w : World) (g : Nat) (cs : Array Value) (k : Nat) (h : ¬ k = g) : (w.setRow g cs).heap[k]? = w.heap[k]? := by
 unfold World.setRow
 rw [Array.getElem?_modify, if_neg (fun e => h e.symm)]
end Go.Proofs.YtdpfjhacmlnklaaGreatDoor
namespace Go.Proofs.YtdpfjhacmlnklaaGreatDoor
set_option linter.unusedVariables false
set_option maxRecDepth 100000
set_option maxHeartbeats 8000000
open Go.ChangeShapes Go.WideShapes Go.ChangeAt Go.RowKit Go.Deep _root_.Go.Proofs.Tryz
theorem vP : (prog.info? 164).map (·.size) = some 6 := by kernel_rfl
def dvs (L : Lay) : Array Value := #[.iface 96 (pt L.m), .iface 100 (pt L.u), .iface 99 (pt L.ck), .iface 99 (pt L.cm), .iface 98 (pt L.sw), .iface 97 (pt L.pw)]
theorem pW {B : Nat} {L : Lay} {S : St} (w : World) (h : PB B L S w) :
  Calls prog 82 #[.pointer (some ⟨L.b, 0, none⟩)] w fun e w' => e = .returned (.agg (dvs L)) ∧ Below w.heap.size w w' := by
 have PCa : ∀ o, PCb L S L.vr L.vi L.vo (w.alloc o) := fun o => (h.later ((Below.refl _ _).alloc (Nat.le_refl _) o)).cl
 have HB : Hid (∀ o, Below w.heap.size w (w.alloc o)) := fun o => (Below.refl _ _).alloc (Nat.le_refl _) o
 have b0 := fun o => (PCa o).b0
 have b1 := fun o => (PCa o).b1
 have b2 := fun o => (PCa o).b2
 have b3 := fun o => (PCa o).b3
 have b4 := fun o => (PCa o).b4
 have b5 := fun o => (PCa o).b5
 clear PCa h
 unfold dvs pt
 go_enter func82, ntmps82
 go_wp2
 go_region_held3 (fun w' => w'.cell? ⟨L.b, 0, none⟩ = some (.pointer (some ⟨L.m, 0, none⟩)) ∧ w'.cell? ⟨L.b, 1, none⟩ = some (.pointer (some ⟨L.pw, 0, none⟩)) ∧ w'.cell? ⟨L.b, 2, none⟩ = some (.pointer (some ⟨L.sw, 0, none⟩)) ∧ w'.cell? ⟨L.b, 3, none⟩ = some (.pointer (some ⟨L.cm, 0, none⟩)) ∧ w'.cell? ⟨L.b, 4, none⟩ = some (.pointer (some ⟨L.ck, 0, none⟩)) ∧ w'.cell? ⟨L.b, 5, none⟩ = some (.pointer (some ⟨L.u, 0, none⟩))) (first | exact ⟨b0 _, b1 _, b2 _, b3 _, b4 _, b5 _⟩) (fail)
 go_wp2
 exact bodyPost_ret (v := .agg (dvs L)) (results_cell_row results82 _ _ w.heap.size 164 _ (0, 0) _ (by rfl) (cO w _) underlying164 (by rfl) vP) rfl ⟨rfl, (HB.out _).drew⟩
def hld (n : Nat) (a z : Int) : Bool := decide (2147483648 ≤ a) && (decide (a - 2147483648 < n) && (decide (0 ≤ z) && decide (z ≤ n - (a - 2147483648))))
theorem aU {z : Int} (h0 : 0 ≤ z) (h1 : z ≤ 18446744073709551615) : IntKind.u64.wrap z = z := by
 show z % 18446744073709551616 = z
 omega
theorem xR {z : Int} (h0 : z < 0) (h1 : -9223372036854775808 ≤ z) : IntKind.u64.wrap z = z + 18446744073709551616 := by
 show z % 18446744073709551616 = _
 omega
theorem gC (m n c : Nat) (ao : Option Addr) (a z : Int) (w : World) (hm : w.cell? ⟨m, 0, none⟩ = some (.slice ao n c)) (hn : n ≤ 65536) (ha : 0 ≤ a ∧ a ≤ 18446744073709551615) (hz : -9223372036854775808 ≤ z ∧ z ≤ 9223372036854775807) :
  Calls prog 63 #[.pointer (some ⟨m, 0, none⟩), .int .u64 a, .int .i64 z] w fun e w' => e = .returned (.bool (hld n a z)) ∧ Below w.heap.size w w' := by
 have HB0 : Hid (∀ k, Below w.heap.size w (w.drewN k)) := fun k => by
  induction k with
  | zero => exact Below.refl _ _
  | succ k ih => exact ih.drew
 obtain ⟨b, hb⟩ : ∃ b, b = hld n a z := ⟨_, rfl⟩
 rw [← hb]
 have HE : Hid (b = (decide (2147483648 ≤ a) && (decide (a - 2147483648 < n) && (decide (0 ≤ z) && decide (z ≤ n - (a - 2147483648)))))) := hb
 clear hb
 rcases Int.lt_or_le a 2147483648 with h1 | h1
 ·have HX : Hid (b = false) := by unfold Hid; rw [HE.out]; simp; omega
  go_enter func63, ntmps63
  go_wp2
  go_ret
  exact ⟨by cases HX.out; rfl, Below.refl _ _⟩
 ·have e1 : IntKind.u64.wrap (a - 2147483648) = a - 2147483648 := aU (by omega) (by omega)
  have e2 : IntKind.u64.wrap (n : Int) = n := aU (by omega) (by omega)
  go_enter func63, ntmps63
  go_wp2
  go_quiet (fail)
  go_wp2
  ·rename_i h2
   go_ret
   refine ⟨?_, HB0.out _⟩
   have e : decide (IntKind.u64.wrap z ≤ n - (a - 2147483648)) = b := by
    rw [HE.out]
    rcases Int.lt_or_le z 0 with h3 | h3
    ·rw [xR h3 hz.1, show decide (0 ≤ z) = false from decide_eq_false (by omega), show decide (z + 18446744073709551616 ≤ n - (a - 2147483648)) = false from decide_eq_false (by omega)]; simp
    ·rw [aU h3 (by omega)]; simp [h1, h2, h3]
   show Ending.returned (.bool (decide (IntKind.u64.wrap z ≤ n - (a - 2147483648)))) = _
   rw [e]
  ·rename_i h2
   go_ret
   refine ⟨?_, HB0.out _⟩
   have e : b = false := by rw [HE.out, show decide (a - 2147483648 < (n : Int)) = false from decide_eq_false (by omega)]; simp
   rw [e]
   rfl
def fF (n : Nat) (a z : Int) : Bool := (z == 1 || z == 2 || z == 4 || z == 8) && (a % z == 0 && hld n a z)
theorem sZ (m n c : Nat) (ao : Option Addr) (a z : Int) (w : World) (hm : w.cell? ⟨m, 0, none⟩ = some (.slice ao n c)) (hn : n ≤ 65536) (ha : 0 ≤ a ∧ a ≤ 18446744073709551615) (hz : -9223372036854775808 ≤ z ∧ z ≤ 9223372036854775807) :
  Calls prog 136 #[.pointer (some ⟨m, 0, none⟩), .int .u64 a, .int .i64 z] w fun e w' => e = .returned (.bool (fF n a z)) ∧ Below w.heap.size w w' := by
 obtain ⟨b, hb⟩ : ∃ b, b = fF n a z := ⟨_, rfl⟩
 rw [← hb]
 have HE : Hid (b = ((z == 1 || z == 2 || z == 4 || z == 8) && (a % z == 0 && hld n a z))) := hb
 clear hb
 by_cases h1 : z = 1
 ·subst h1
  have ht : a.tmod 1 = a % 1 := Int.tmod_eq_emod_of_nonneg ha.1
  have HH := gC m n c ao a 1 w hm hn ha (by omega)
  have HX : Hid (b = (a % 1 == 0 && hld n a 1)) := by unfold Hid; rw [HE.out]; rfl
  clear HE
  generalize hld n a 1 = q at HH HX
  rcases Bool.eq_false_or_eq_true (a % 1 == 0) with hq | hq
  ·go_enter func136, ntmps136
   go_wp2_with (go_at_call 63; refine HH.mono ?_; rintro e w1 ⟨rfl, hb1⟩)
   go_ret
   exact ⟨by rw [HX.out, hq]; rfl, hb1⟩
  ·exact absurd hq (by simp)
 by_cases h2 : z = 2
 ·subst h2
  have ht : a.tmod 2 = a % 2 := Int.tmod_eq_emod_of_nonneg ha.1
  have HH := gC m n c ao a 2 w hm hn ha (by omega)
  have HX : Hid (b = (a % 2 == 0 && hld n a 2)) := by unfold Hid; rw [HE.out]; rfl
  clear HE
  generalize hld n a 2 = q at HH HX
  rcases Bool.eq_false_or_eq_true (a % 2 == 0) with hq | hq
  ·go_enter func136, ntmps136
   go_wp2_with (go_at_call 63; refine HH.mono ?_; rintro e w1 ⟨rfl, hb1⟩)
   go_ret
   exact ⟨by rw [HX.out, hq]; rfl, hb1⟩
  ·go_enter func136, ntmps136
   go_wp2
   go_ret
   exact ⟨by rw [HX.out, hq]; rfl, Below.refl _ _⟩
 by_cases h4 : z = 4
 ·subst h4
  have ht : a.tmod 4 = a % 4 := Int.tmod_eq_emod_of_nonneg ha.1
  have HH := gC m n c ao a 4 w hm hn ha (by omega)
  have HX : Hid (b = (a % 4 == 0 && hld n a 4)) := by unfold Hid; rw [HE.out]; rfl
  clear HE
  generalize hld n a 4 = q at HH HX
  rcases Bool.eq_false_or_eq_true (a % 4 == 0) with hq | hq
  ·go_enter func136, ntmps136
   go_wp2_with (go_at_call 63; refine HH.mono ?_; rintro e w1 ⟨rfl, hb1⟩)
   go_ret
   exact ⟨by rw [HX.out, hq]; rfl, hb1⟩
  ·go_enter func136, ntmps136
   go_wp2
   go_ret
   exact ⟨by rw [HX.out, hq]; rfl, Below.refl _ _⟩
 by_cases h8 : z = 8
 ·subst h8
  have ht : a.tmod 8 = a % 8 := Int.tmod_eq_emod_of_nonneg ha.1
  have HH := gC m n c ao a 8 w hm hn ha (by omega)
  have HX : Hid (b = (a % 8 == 0 && hld n a 8)) := by unfold Hid; rw [HE.out]; rfl
  clear HE
  generalize hld n a 8 = q at HH HX
  rcases Bool.eq_false_or_eq_true (a % 8 == 0) with hq | hq
  ·go_enter func136, ntmps136
   go_wp2_with (go_at_call 63; refine HH.mono ?_; rintro e w1 ⟨rfl, hb1⟩)
   go_ret
   exact ⟨by rw [HX.out, hq]; rfl, hb1⟩
  ·go_enter func136, ntmps136
   go_wp2
   go_ret
   exact ⟨by rw [HX.out, hq]; rfl, Below.refl _ _⟩
 have e1 : (z == 1) = false := by simpa using h1
 have e2 : (z == 2) = false := by simpa using h2
 have e4 : (z == 4) = false := by simpa using h4
 have e8 : (z == 8) = false := by simpa using h8
 have HX : Hid (b = false) := by unfold Hid; rw [HE.out, e1, e2, e4, e8]; rfl
 clear HE
 go_enter func136, ntmps136
 go_wp2
 go_ret
 exact ⟨by cases HX.out; rfl, Below.refl _ _⟩
end Go.Proofs.YtdpfjhacmlnklaaGreatDoor
