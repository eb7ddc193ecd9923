import Derived.Test.YtdpfjhacmlnklaaGreatDoorK07
import Derived.Test.YtdpfjhacmlnklaaGreatDoorK08
import Derived.Laws.CopyOwn
namespace Go.Proofs.YtdpfjhacmlnklaaGreatDoor
set_option linter.unusedVariables false
set_option maxRecDepth 100000
set_option maxHeartbeats 8000000
open Go.ChangeShapes Go.WideShapes Go.ChangeAt Go.RowKit Go.Deep Go.MuLone _root_.Go.Proofs.Tryz
def Cut (off s : Nat) : Prop := off = 0 ∧ s = 8 ∨ off = 0 ∧ s = 4 ∨ off = 4 ∧ s = 4
def prt (N off s : Nat) : Nat := tk (((ptL N 8).drop off).take s)
theorem gO (g : Nat) (b : Int) (x : BitVec 64) (off s : Nat) (hc : Cut off s) (hb : 0 ≤ b ∧ b ≤ 4294967296) (w : World) (c0 : w.cell? ⟨g, 0, none⟩ = some (.int .u64 b)) (c1 : w.cell? ⟨g, 1, none⟩ = some (.int .u64 (n64 x))) :
  Calls prog 149 #[.pointer (some ⟨g, 0, none⟩), .int .u64 (b + (off : Int)), .int .i64 s] w fun e w' => e = .returned (.int .u64 ((prt x.toNat off s : Nat) : Int)) ∧ Below w.heap.size w w' := by
 have HPT : Hid (∀ w1 : World, w1.heap.size = w.heap.size → Calls prog 141 #[.int .u64 (n64 x), .int .i64 8] w1 fun e w' => e = .returned (.slice (some ⟨w.heap.size, 0, none⟩) 8 8) ∧ w'.ownsRow w.heap.size 5 1 (.slice (some ⟨w.heap.size, 0, none⟩) 8 8) 8 (bv (ptL x.toNat 8)) ∧ Below w1.heap.size w1 w') := fun w1 hs => by
  have := iJ x 8 w1
  rw [hs] at this ⊢
  exact this
 have HTK : Hid (∀ w1 : World, w1.ownsRow w.heap.size 5 1 (.slice (some ⟨w.heap.size, 0, none⟩) 8 8) 8 (bv (ptL x.toNat 8)) → Calls prog 139 #[.slice (some ⟨w.heap.size, off, none⟩) s (8 - off)] w1 fun e w' => e = .returned (.int .u64 ((prt x.toNat off s : Nat) : Int)) ∧ w' = w1) := fun w1 ho => by
  have hk : off + s ≤ 8 := by rcases hc with ⟨rfl, rfl⟩ | ⟨rfl, rfl⟩ | ⟨rfl, rfl⟩ <;> omega
  have h1 := oJ ho off s hk
  have h2 : cN (((ptL x.toNat 8).drop off).take s) := fun y hy => iI _ _ y (List.mem_of_mem_drop (List.mem_of_mem_take hy))
  exact jT h2 (by rw [List.length_take]; have := Nat.min_le_left s ((ptL x.toNat 8).drop off).length; omega) _ w1 h1
 generalize ((prt x.toNat off s : Nat) : Int) = R at HTK ⊢
 have hsub : IntKind.u64.wrap (b + (off : Int) - b) = (off : Int) := by
  rw [show b + (off : Int) - b = off by omega]
  exact aU (by omega) (by rcases hc with ⟨rfl, rfl⟩ | ⟨rfl, rfl⟩ | ⟨rfl, rfl⟩ <;> omega)
 have hlt : g < w.heap.size := World.block_lt_of_cell? w _ c0
 have HK : Hid (∀ w1, Below w.heap.size w w1 → w1.cell? ⟨g, 0, none⟩ = some (.int .u64 b) ∧ w1.cell? ⟨g, 1, none⟩ = some (.int .u64 (n64 x))) := fun w1 hb => ⟨(hb.cell hlt).trans c0, (hb.cell hlt).trans c1⟩
 have HK0 : Hid (w.drew.cell? ⟨g, 0, none⟩ = some (.int .u64 b) ∧ w.drew.cell? ⟨g, 1, none⟩ = some (.int .u64 (n64 x))) := ⟨c0, c1⟩
 obtain ⟨a, ha⟩ : ∃ a, a = b + (off : Int) := ⟨_, rfl⟩
 rw [← ha] at hsub ⊢
 clear ha hb
 rcases hc with ⟨rfl, rfl⟩ | ⟨rfl, rfl⟩ | ⟨rfl, rfl⟩
 ·have hsub0 : IntKind.u64.wrap (a - b) = 0 := hsub
  clear hsub
  go_enter func149, ntmps149
  go_wp2_with fail
  go_region_held3 (fun w' => w'.cell? ⟨g, 0, none⟩ = some (.int .u64 b) ∧ w'.cell? ⟨g, 1, none⟩ = some (.int .u64 (n64 x))) (first | exact HK0.out | exact HK.out _ HB1.out)
   (first | (go_at_call 141; refine (HPT.out _ (by first | rfl | simp)).mono ?_; rintro e w1 ⟨rfl, hown, hbel⟩; have HW1 := hid hown; have HB1 : Hid (Below w.heap.size w w1) := ⟨hbel.os, hbel.tape, hbel.output, hbel.size, hbel.block⟩; clear hown hbel) | (go_at_call 139; refine (HTK.out _ HW1.out).mono ?_; rintro e w2 ⟨rfl, hw⟩; have hw2 := hw.symm; subst hw2))
  all_goals go_wp2
  all_goals go_ret
  all_goals exact ⟨rfl, HB1.out⟩
 ·have hsub0 : IntKind.u64.wrap (a - b) = 0 := hsub
  clear hsub
  go_enter func149, ntmps149
  go_wp2_with fail
  go_region_held3 (fun w' => w'.cell? ⟨g, 0, none⟩ = some (.int .u64 b) ∧ w'.cell? ⟨g, 1, none⟩ = some (.int .u64 (n64 x))) (first | exact HK0.out | exact HK.out _ HB1.out)
   (first | (go_at_call 141; refine (HPT.out _ (by first | rfl | simp)).mono ?_; rintro e w1 ⟨rfl, hown, hbel⟩; have HW1 := hid hown; have HB1 : Hid (Below w.heap.size w w1) := ⟨hbel.os, hbel.tape, hbel.output, hbel.size, hbel.block⟩; clear hown hbel) | (go_at_call 139; refine (HTK.out _ HW1.out).mono ?_; rintro e w2 ⟨rfl, hw⟩; have hw2 := hw.symm; subst hw2))
  all_goals go_wp2
  all_goals go_ret
  all_goals exact ⟨rfl, HB1.out⟩
 ·have hsub0 : IntKind.u64.wrap (a - b) = 4 := hsub
  clear hsub
  go_enter func149, ntmps149
  go_wp2_with fail
  go_region_held3 (fun w' => w'.cell? ⟨g, 0, none⟩ = some (.int .u64 b) ∧ w'.cell? ⟨g, 1, none⟩ = some (.int .u64 (n64 x))) (first | exact HK0.out | exact HK.out _ HB1.out)
   (first | (go_at_call 141; refine (HPT.out _ (by first | rfl | simp)).mono ?_; rintro e w1 ⟨rfl, hown, hbel⟩; have HW1 := hid hown; have HB1 : Hid (Below w.heap.size w w1) := ⟨hbel.os, hbel.tape, hbel.output, hbel.size, hbel.block⟩; clear hown hbel) | (go_at_call 139; refine (HTK.out _ HW1.out).mono ?_; rintro e w2 ⟨rfl, hw⟩; have hw2 := hw.symm; subst hw2))
  all_goals go_wp2
  all_goals go_ret
  all_goals exact ⟨rfl, HB1.out⟩
def wrt (N off s M : Nat) : Nat := tk (splice (ptL N 8) off (ptL M s))
theorem CB {w : World} {B g : Nat} {l : List Int} (h : w.ownsRow B 5 1 (.slice (some ⟨g, 0, none⟩) 8 8) 8 (bv l)) : w.heap[g]? = some (.cells (bv l).toArray 5 (0, 0)) := by
 rcases h.2 with ⟨h0, _⟩ | ⟨g', cap, cur, ev, _, hrow, _, _, hcs, htk⟩
 ·cases h0
 ·cases ev
  rw [hrow]
  have e : cur = (bv l).toArray := by
   apply Array.toList_inj.1
   rw [← htk]
   exact (List.take_of_length_le (by rw [Array.length_toList]; omega)).symm
  rw [e]
theorem byt8 {w : World} {g : Nat} {l : List Int} (hl : l.length = 8) (h : w.heap[g]? = some (.cells (bv l).toArray 5 (0, 0))) : Byt w (.slice (some ⟨g, 0, none⟩) 8 8) l := by
 refine ⟨some ⟨g, 0, none⟩, 8, by rw [hl], by omega, fun e => (by cases e), fun _ => ⟨g, 0, rfl, (Array.getElem?_eq_some_iff.1 h).1, fun j hj => ?_⟩⟩
 rw [Nat.zero_add, cell_of_row w g j _ _ _ h, List.getElem?_toArray]
 exact eN _ _ hj
theorem fV (g : Nat) (b : Int) (x y : BitVec 64) (off s : Nat) (hc : Cut off s) (hb : 0 ≤ b ∧ b ≤ 4294967296) (w : World) (hg : w.heap[g]? = some (.cells #[.int .u64 b, .int .u64 (n64 x)] 110 (0, 0))) :
  Calls prog 150 #[.pointer (some ⟨g, 0, none⟩), .int .u64 (b + (off : Int)), .int .i64 s, .int .u64 (n64 y)] w fun e w' => e = .returned (.tuple #[]) ∧ ∃ w1, Below w.heap.size w w1 ∧ w' = w1.setCell ⟨g, 1, none⟩ (.int .u64 ((wrt x.toNat off s y.toNat : Nat) : Int)) := by
 have c0 : w.cell? ⟨g, 0, none⟩ = some (.int .u64 b) := cell_of_row w g 0 _ _ _ hg
 have c1 : w.cell? ⟨g, 1, none⟩ = some (.int .u64 (n64 x)) := cell_of_row w g 1 _ _ _ hg
 have hlt : g < w.heap.size := (Array.getElem?_eq_some_iff.1 hg).1
 have HPT : Hid (Calls prog 141 #[.int .u64 (n64 x), .int .i64 8] w fun e w' => e = .returned (.slice (some ⟨w.heap.size, 0, none⟩) 8 8) ∧ w'.ownsRow w.heap.size 5 1 (.slice (some ⟨w.heap.size, 0, none⟩) 8 8) 8 (bv (ptL x.toNat 8)) ∧ Below w.heap.size w w') := iJ x 8 w
 have hs8 : s ≤ 8 ∧ 0 < s ∧ off + s ≤ 8 := by rcases hc with ⟨rfl, rfl⟩ | ⟨rfl, rfl⟩ | ⟨rfl, rfl⟩ <;> omega
 have HPY : Hid (∀ w1 : World, Calls prog 141 #[.int .u64 (n64 y), .int .i64 s] w1 fun e w' => e = .returned (.slice (some ⟨w1.heap.size, 0, none⟩) s s) ∧ w'.ownsRow w1.heap.size 5 1 (.slice (some ⟨w1.heap.size, 0, none⟩) s s) s (bv (ptL y.toNat s)) ∧ Below w1.heap.size w1 w') := fun w1 => by
  have := iJ y s w1
  rw [rQ hs8.1] at this
  exact this
 have HTK : Hid (∀ w1 : World, w1.heap[w.heap.size]? = some (.cells (bv (splice (ptL x.toNat 8) off (ptL y.toNat s))).toArray 5 (0, 0)) → Calls prog 139 #[.slice (some ⟨w.heap.size, 0, none⟩) 8 8] w1 fun e w' => e = .returned (.int .u64 ((wrt x.toNat off s y.toNat : Nat) : Int)) ∧ w' = w1) := fun w1 ho => by
  have hl : (splice (ptL x.toNat 8) off (ptL y.toNat s)).length = 8 := by
   unfold splice
   simp only [List.length_append, List.length_take, List.length_drop, bH]
   omega
  exact jT (gY off (iI _ _) (iI _ _)) (by rw [hl]; omega) _ w1 (byt8 hl ho)
 generalize ((wrt x.toNat off s y.toNat : Nat) : Int) = R at HTK ⊢
 have hsub : IntKind.u64.wrap (b + (off : Int) - b) = (off : Int) := by
  rw [show b + (off : Int) - b = off by omega]
  exact aU (by omega) (by omega)
 have HG : Hid (∀ w1, Below w.heap.size w w1 → w1.cell? ⟨g, 0, none⟩ = some (.int .u64 b) ∧ w1.cell? ⟨g, 1, none⟩ = some (.int .u64 (n64 x)) ∧ w1.frozen? ⟨g, 1, none⟩ = false) := fun w1 hb => ⟨(hb.cell hlt).trans c0, (hb.cell hlt).trans c1, frozen_of_row w1 g 1 _ _ ((hb.block g hlt).trans hg)⟩
 have u8size : (prog.info? 5).map (·.size) = some 1 := by kernel_rfl
 obtain ⟨a, ha⟩ : ∃ a, a = b + (off : Int) := ⟨_, rfl⟩
 rw [← ha] at hsub ⊢
 clear ha hb hs8 hg
 rcases hc with ⟨rfl, rfl⟩ | ⟨rfl, rfl⟩ | ⟨rfl, rfl⟩
 ·have hsub0 : IntKind.u64.wrap (a - b) = 0 := hsub
  clear hsub
  go_enter func150, ntmps150
  go_upto_region 1 with (go_at_call 141; refine HPT.out.mono ?_; rintro e w1 ⟨rfl, hown, hbel⟩; have HW1 : Hid (w1.heap[w.heap.size]? = some (.cells (bv (ptL x.toNat 8)).toArray 5 (0, 0))) := CB hown; have HB1 := hid hbel; clear hown hbel)
  have HZ1 : Hid (w.heap.size < w1.heap.size) := (Array.getElem?_eq_some_iff.1 HW1.out).1
  have HK0 : Hid (w1.drew.cell? ⟨g, 0, none⟩ = some (.int .u64 b)) := (HG.out w1 HB1.out).1
  clear c0 c1
  go_region_held3 (fun w' => w'.cell? ⟨g, 0, none⟩ = some (.int .u64 b)) (first | exact HK0.out | exact (HG.out _ HB3.out).1 | exact (HG.out _ HB2.out).1)
   (first | (go_at_call 141; refine (HPY.out _).mono ?_; rintro e w2 ⟨rfl, hown, hbel⟩; have HW2 := hid hown; have hb2 : Below w1.heap.size w1 w2 := ⟨hbel.os, hbel.tape, hbel.output, hbel.size, hbel.block⟩; have HB2 : Hid (Below w.heap.size w w2) := HB1.out.trans (hb2.mono HB1.out.size); have HR2 : Hid (w2.heap[w.heap.size]? = some (.cells (bv (ptL x.toNat 8)).toArray 5 (0, 0))) := (hb2.block _ HZ1.out).trans HW1.out; clear hown hbel hb2) | (refine step_copy_splice rfl (.tmp 21) (.tmp 24) 32 32 rfl 5 underlying32 u8size (some ⟨w.heap.size, 0, none⟩) (some ⟨w1.heap.size, 0, none⟩) 8 8 8 8 (by simp [Act.eval]) (by simp [Act.eval]) w.heap.size 0 (bv (ptL x.toNat 8)) 5 HR2.out (bv (ptL y.toNat 8)) (by rw [bD, bH]; decide) (fun _ => ⟨rfl, _, rfl, fun j v hj => World.ownsRow.cells HW2.out rfl j v hj⟩) (by rw [bD, bD, bH, bH]; decide) (by intro v hv; simp [bv] at hv; obtain ⟨q, _, rfl⟩ := hv; rfl) w.heap.size w HB2.out (Nat.le_refl _) ?_; intro w3 hr3 hb3; have HR3 : Hid _ := hr3; have HB3 : Hid (Below w.heap.size w w3) := hb3; clear hr3 hb3))
  all_goals
   have hc3 := (HG.out w3 HB3.out)
   obtain ⟨k0, k1, k2⟩ := hc3
   have HO3 : Hid (w3.heap[w.heap.size]? = some (.cells (bv (splice (ptL x.toNat 8) 0 (ptL y.toNat 8))).toArray 5 (0, 0))) := by unfold Hid; rw [fJ]; exact HR3.out
   go_wp2_with (go_at_call 139; refine (HTK.out _ HO3.out).mono ?_; rintro e w4 ⟨rfl, hw⟩; have hw2 := hw.symm; subst hw2)
   go_end0
   exact ⟨rfl, w3, HB3.out, rfl⟩
 ·have hsub0 : IntKind.u64.wrap (a - b) = 0 := hsub
  clear hsub
  go_enter func150, ntmps150
  go_upto_region 1 with (go_at_call 141; refine HPT.out.mono ?_; rintro e w1 ⟨rfl, hown, hbel⟩; have HW1 : Hid (w1.heap[w.heap.size]? = some (.cells (bv (ptL x.toNat 8)).toArray 5 (0, 0))) := CB hown; have HB1 := hid hbel; clear hown hbel)
  have HZ1 : Hid (w.heap.size < w1.heap.size) := (Array.getElem?_eq_some_iff.1 HW1.out).1
  have HK0 : Hid (w1.drew.cell? ⟨g, 0, none⟩ = some (.int .u64 b)) := (HG.out w1 HB1.out).1
  clear c0 c1
  go_region_held3 (fun w' => w'.cell? ⟨g, 0, none⟩ = some (.int .u64 b)) (first | exact HK0.out | exact (HG.out _ HB3.out).1 | exact (HG.out _ HB2.out).1)
   (first | (go_at_call 141; refine (HPY.out _).mono ?_; rintro e w2 ⟨rfl, hown, hbel⟩; have HW2 := hid hown; have hb2 : Below w1.heap.size w1 w2 := ⟨hbel.os, hbel.tape, hbel.output, hbel.size, hbel.block⟩; have HB2 : Hid (Below w.heap.size w w2) := HB1.out.trans (hb2.mono HB1.out.size); have HR2 : Hid (w2.heap[w.heap.size]? = some (.cells (bv (ptL x.toNat 8)).toArray 5 (0, 0))) := (hb2.block _ HZ1.out).trans HW1.out; clear hown hbel hb2) | (refine step_copy_splice rfl (.tmp 21) (.tmp 24) 32 32 rfl 5 underlying32 u8size (some ⟨w.heap.size, 0, none⟩) (some ⟨w1.heap.size, 0, none⟩) 8 8 4 4 (by simp [Act.eval]) (by simp [Act.eval]) w.heap.size 0 (bv (ptL x.toNat 8)) 5 HR2.out (bv (ptL y.toNat 4)) (by rw [bD, bH]; decide) (fun _ => ⟨rfl, _, rfl, fun j v hj => World.ownsRow.cells HW2.out rfl j v hj⟩) (by rw [bD, bD, bH, bH]; decide) (by intro v hv; simp [bv] at hv; obtain ⟨q, _, rfl⟩ := hv; rfl) w.heap.size w HB2.out (Nat.le_refl _) ?_; intro w3 hr3 hb3; have HR3 : Hid _ := hr3; have HB3 : Hid (Below w.heap.size w w3) := hb3; clear hr3 hb3))
  all_goals
   have hc3 := (HG.out w3 HB3.out)
   obtain ⟨k0, k1, k2⟩ := hc3
   have HO3 : Hid (w3.heap[w.heap.size]? = some (.cells (bv (splice (ptL x.toNat 8) 0 (ptL y.toNat 4))).toArray 5 (0, 0))) := by unfold Hid; rw [fJ]; exact HR3.out
   go_wp2_with (go_at_call 139; refine (HTK.out _ HO3.out).mono ?_; rintro e w4 ⟨rfl, hw⟩; have hw2 := hw.symm; subst hw2)
   go_end0
   exact ⟨rfl, w3, HB3.out, rfl⟩
 ·have hsub0 : IntKind.u64.wrap (a - b) = 4 := hsub
  clear hsub
  go_enter func150, ntmps150
  go_upto_region 1 with (go_at_call 141; refine HPT.out.mono ?_; rintro e w1 ⟨rfl, hown, hbel⟩; have HW1 : Hid (w1.heap[w.heap.size]? = some (.cells (bv (ptL x.toNat 8)).toArray 5 (0, 0))) := CB hown; have HB1 := hid hbel; clear hown hbel)
  have HZ1 : Hid (w.heap.size < w1.heap.size) := (Array.getElem?_eq_some_iff.1 HW1.out).1
  have HK0 : Hid (w1.drew.cell? ⟨g, 0, none⟩ = some (.int .u64 b)) := (HG.out w1 HB1.out).1
  clear c0 c1
  go_region_held3 (fun w' => w'.cell? ⟨g, 0, none⟩ = some (.int .u64 b)) (first | exact HK0.out | exact (HG.out _ HB3.out).1 | exact (HG.out _ HB2.out).1)
   (first | (go_at_call 141; refine (HPY.out _).mono ?_; rintro e w2 ⟨rfl, hown, hbel⟩; have HW2 := hid hown; have hb2 : Below w1.heap.size w1 w2 := ⟨hbel.os, hbel.tape, hbel.output, hbel.size, hbel.block⟩; have HB2 : Hid (Below w.heap.size w w2) := HB1.out.trans (hb2.mono HB1.out.size); have HR2 : Hid (w2.heap[w.heap.size]? = some (.cells (bv (ptL x.toNat 8)).toArray 5 (0, 0))) := (hb2.block _ HZ1.out).trans HW1.out; clear hown hbel hb2) | (refine step_copy_splice rfl (.tmp 21) (.tmp 24) 32 32 rfl 5 underlying32 u8size (some ⟨w.heap.size, 4, none⟩) (some ⟨w1.heap.size, 0, none⟩) 4 4 4 4 (by simp [Act.eval]) (by simp [Act.eval]) w.heap.size 4 (bv (ptL x.toNat 8)) 5 HR2.out (bv (ptL y.toNat 4)) (by rw [bD, bH]; decide) (fun _ => ⟨rfl, _, rfl, fun j v hj => World.ownsRow.cells HW2.out rfl j v hj⟩) (by rw [bD, bD, bH, bH]; decide) (by intro v hv; simp [bv] at hv; obtain ⟨q, _, rfl⟩ := hv; rfl) w.heap.size w HB2.out (Nat.le_refl _) ?_; intro w3 hr3 hb3; have HR3 : Hid _ := hr3; have HB3 : Hid (Below w.heap.size w w3) := hb3; clear hr3 hb3))
  all_goals
   have hc3 := (HG.out w3 HB3.out)
   obtain ⟨k0, k1, k2⟩ := hc3
   have HO3 : Hid (w3.heap[w.heap.size]? = some (.cells (bv (splice (ptL x.toNat 8) 4 (ptL y.toNat 4))).toArray 5 (0, 0))) := by unfold Hid; rw [fJ]; exact HR3.out
   go_wp2_with (go_at_call 139; refine (HTK.out _ HO3.out).mono ?_; rintro e w4 ⟨rfl, hw⟩; have hw2 := hw.symm; subst hw2)
   go_end0
   exact ⟨rfl, w3, HB3.out, rfl⟩
end Go.Proofs.YtdpfjhacmlnklaaGreatDoor
namespace Go.Proofs.YtdpfjhacmlnklaaGreatDoor
set_option linter.unusedVariables false
set_option maxRecDepth 100000
set_option maxHeartbeats 8000000
open Go.ChangeShapes Go.WideShapes Go.ChangeAt Go.RowKit Go.Deep _root_.Go.Proofs.Tryz
theorem zK (n : Nat) (a z : Int) : fnd n a z ≤ 6 := by
 unfold fnd
 repeat' split
 all_goals omega
end Go.Proofs.YtdpfjhacmlnklaaGreatDoor
namespace Go.Proofs.YtdpfjhacmlnklaaGreatDoor
set_option linter.unusedVariables false
set_option maxRecDepth 100000
set_option maxHeartbeats 8000000
open Go.ChangeShapes Go.WideShapes Go.ChangeAt Go.RowKit Go.Deep Go.MuLone _root_.Go.Proofs.Tryz
theorem uK (N : Nat) : tk (ptL N 4) = N % 4294967296 := by
 unfold tk
 rw [bH, show min 4 8 = 4 from rfl, nZ N 4 4 (Nat.le_refl _)]
theorem xA (N : Nat) (h : N < 18446744073709551616) : prt N 0 8 = N := by
 have e : (((ptL N 8).drop 0).take 8) = ptL N 8 := rfl
 unfold prt; rw [e]; exact lL N 8 rfl h
theorem xB (N : Nat) : prt N 0 4 = N % 4294967296 := by
 have e : (((ptL N 8).drop 0).take 4) = ptL N 4 := rfl
 unfold prt; rw [e]; exact uK N
theorem tY (N : Nat) (h : N < 18446744073709551616) : prt N 4 4 = N / 4294967296 := by
 have e : (((ptL N 8).drop 4).take 4) = ptL (N / 4294967296) 4 := by
  show [((N / 256 ^ 4 % 256 : Nat) : Int), ((N / 256 ^ 5 % 256 : Nat) : Int), ((N / 256 ^ 6 % 256 : Nat) : Int), ((N / 256 ^ 7 % 256 : Nat) : Int)] = [((N / 4294967296 / 256 ^ 0 % 256 : Nat) : Int), ((N / 4294967296 / 256 ^ 1 % 256 : Nat) : Int), ((N / 4294967296 / 256 ^ 2 % 256 : Nat) : Int), ((N / 4294967296 / 256 ^ 3 % 256 : Nat) : Int)]
  simp only [List.cons.injEq, and_true]
  refine ⟨?_, ?_, ?_, ?_⟩ <;> omega
 unfold prt; rw [e, uK]; omega
theorem yC (N M : Nat) (h : M < 18446744073709551616) : wrt N 0 8 M = M := by
 have e : splice (ptL N 8) 0 (ptL M 8) = ptL M 8 := rfl
 unfold wrt; rw [e]; exact lL M 8 rfl h
theorem yD (N M : Nat) (h : N < 18446744073709551616) : wrt N 0 4 M = N / 4294967296 * 4294967296 + M % 4294967296 := by
 have e : splice (ptL N 8) 0 (ptL M 4) = ptL (N / 4294967296 * 4294967296 + M % 4294967296) 8 := by
  generalize hK : N / 4294967296 * 4294967296 + M % 4294967296 = K
  show [((M / 256 ^ 0 % 256 : Nat) : Int), ((M / 256 ^ 1 % 256 : Nat) : Int), ((M / 256 ^ 2 % 256 : Nat) : Int), ((M / 256 ^ 3 % 256 : Nat) : Int), ((N / 256 ^ 4 % 256 : Nat) : Int), ((N / 256 ^ 5 % 256 : Nat) : Int), ((N / 256 ^ 6 % 256 : Nat) : Int), ((N / 256 ^ 7 % 256 : Nat) : Int)] = [((K / 256 ^ 0 % 256 : Nat) : Int), ((K / 256 ^ 1 % 256 : Nat) : Int), ((K / 256 ^ 2 % 256 : Nat) : Int), ((K / 256 ^ 3 % 256 : Nat) : Int), ((K / 256 ^ 4 % 256 : Nat) : Int), ((K / 256 ^ 5 % 256 : Nat) : Int), ((K / 256 ^ 6 % 256 : Nat) : Int), ((K / 256 ^ 7 % 256 : Nat) : Int)]
  simp only [List.cons.injEq, and_true]
  refine ⟨?_, ?_, ?_, ?_, ?_, ?_, ?_, ?_⟩ <;> omega
 unfold wrt; rw [e]; exact lL _ 8 rfl (by omega)
theorem uU (N M : Nat) : wrt N 4 4 M = M % 4294967296 * 4294967296 + N % 4294967296 := by
 have e : splice (ptL N 8) 4 (ptL M 4) = ptL (M % 4294967296 * 4294967296 + N % 4294967296) 8 := by
  generalize hK : M % 4294967296 * 4294967296 + N % 4294967296 = K
  show [((N / 256 ^ 0 % 256 : Nat) : Int), ((N / 256 ^ 1 % 256 : Nat) : Int), ((N / 256 ^ 2 % 256 : Nat) : Int), ((N / 256 ^ 3 % 256 : Nat) : Int), ((M / 256 ^ 0 % 256 : Nat) : Int), ((M / 256 ^ 1 % 256 : Nat) : Int), ((M / 256 ^ 2 % 256 : Nat) : Int), ((M / 256 ^ 3 % 256 : Nat) : Int)] = [((K / 256 ^ 0 % 256 : Nat) : Int), ((K / 256 ^ 1 % 256 : Nat) : Int), ((K / 256 ^ 2 % 256 : Nat) : Int), ((K / 256 ^ 3 % 256 : Nat) : Int), ((K / 256 ^ 4 % 256 : Nat) : Int), ((K / 256 ^ 5 % 256 : Nat) : Int), ((K / 256 ^ 6 % 256 : Nat) : Int), ((K / 256 ^ 7 % 256 : Nat) : Int)]
  simp only [List.cons.injEq, and_true]
  refine ⟨?_, ?_, ?_, ?_, ?_, ?_, ?_, ?_⟩ <;> omega
 unfold wrt; rw [e]; exact lL _ 8 rfl (by omega)
end Go.Proofs.YtdpfjhacmlnklaaGreatDoor
