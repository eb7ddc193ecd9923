import Derived.Test.YtiffkbmppmejhaaGreatDoorK08
import Derived.Test.YtiffkbmppmejhaaGreatDoorK09
import Derived.Laws.CopyOwn
namespace Go.Proofs.YtiffkbmppmejhaaGreatDoor
set_option linter.unusedVariables false
set_option maxRecDepth 100000
set_option maxHeartbeats 8000000
open Go.ChangeShapes Go.WideShapes Go.ChangeAt Go.RowKit Go.Deep Go.MuLone _root_.Go.Proofs.Tryz
def Cut (off s : Nat) : Prop := off = 0 ∧ s = 8 ∨ off = 0 ∧ s = 4 ∨ off = 4 ∧ s = 4
def prt (N off s : Nat) : Nat := tk (((ptL N 8).drop off).take s)
theorem kE (g : Nat) (b : Int) (x : BitVec 64) (off s : Nat) (hc : Cut off s) (hb : 0 ≤ b ∧ b ≤ 4294967296) (w : World) (c0 : w.cell? ⟨g, 0, none⟩ = some (.int .u64 b)) (c1 : w.cell? ⟨g, 1, none⟩ = some (.int .u64 (n64 x))) :
  Calls prog 196 #[.pointer (some ⟨g, 0, none⟩), .int .u64 (b + (off : Int)), .int .i64 s] w fun e w' => e = .returned (.int .u64 ((prt x.toNat off s : Nat) : Int)) ∧ Below w.heap.size w w' := by
 have HPT : Hid (∀ w1 : World, w1.heap.size = w.heap.size → Calls prog 188 #[.int .u64 (n64 x), .int .i64 8] w1 fun e w' => e = .returned (.slice (some ⟨w.heap.size, 0, none⟩) 8 8) ∧ w'.ownsRow w.heap.size 5 1 (.slice (some ⟨w.heap.size, 0, none⟩) 8 8) 8 (bv (ptL x.toNat 8)) ∧ Below w1.heap.size w1 w') := fun w1 hs => by
  have := lQ x 8 w1
  rw [hs] at this ⊢
  exact this
 have HTK : Hid (∀ w1 : World, w1.ownsRow w.heap.size 5 1 (.slice (some ⟨w.heap.size, 0, none⟩) 8 8) 8 (bv (ptL x.toNat 8)) → Calls prog 186 #[.slice (some ⟨w.heap.size, off, none⟩) s (8 - off)] w1 fun e w' => e = .returned (.int .u64 ((prt x.toNat off s : Nat) : Int)) ∧ w' = w1) := fun w1 ho => by
  have hk : off + s ≤ 8 := by rcases hc with ⟨rfl, rfl⟩ | ⟨rfl, rfl⟩ | ⟨rfl, rfl⟩ <;> omega
  have h1 := tY ho off s hk
  have h2 : dS (((ptL x.toNat 8).drop off).take s) := fun y hy => lP _ _ y (List.mem_of_mem_drop (List.mem_of_mem_take hy))
  exact mX h2 (by rw [List.length_take]; have := Nat.min_le_left s ((ptL x.toNat 8).drop off).length; omega) _ w1 h1
 generalize ((prt x.toNat off s : Nat) : Int) = R at HTK ⊢
 have hsub : IntKind.u64.wrap (b + (off : Int) - b) = (off : Int) := by
  rw [show b + (off : Int) - b = off by omega]
  exact aU (by omega) (by rcases hc with ⟨rfl, rfl⟩ | ⟨rfl, rfl⟩ | ⟨rfl, rfl⟩ <;> omega)
 have hlt : g < w.heap.size := World.block_lt_of_cell? w _ c0
 have HK : Hid (∀ w1, Below w.heap.size w w1 → w1.cell? ⟨g, 0, none⟩ = some (.int .u64 b) ∧ w1.cell? ⟨g, 1, none⟩ = some (.int .u64 (n64 x))) := fun w1 hb => ⟨(hb.cell hlt).trans c0, (hb.cell hlt).trans c1⟩
 have HK0 : Hid (w.drew.cell? ⟨g, 0, none⟩ = some (.int .u64 b) ∧ w.drew.cell? ⟨g, 1, none⟩ = some (.int .u64 (n64 x))) := ⟨c0, c1⟩
 obtain ⟨a, ha⟩ : ∃ a, a = b + (off : Int) := ⟨_, rfl⟩
 rw [← ha] at hsub ⊢
 clear ha hb
 rcases hc with ⟨rfl, rfl⟩ | ⟨rfl, rfl⟩ | ⟨rfl, rfl⟩
 ·have hsub0 : IntKind.u64.wrap (a - b) = 0 := hsub
  clear hsub
  go_enter func196, ntmps196
  go_wp2_with fail
  go_region_held3 (fun w' => w'.cell? ⟨g, 0, none⟩ = some (.int .u64 b) ∧ w'.cell? ⟨g, 1, none⟩ = some (.int .u64 (n64 x))) (first | exact HK0.out | exact HK.out _ HB1.out)
   (first | (go_at_call 188; refine (HPT.out _ (by first | rfl | simp)).mono ?_; rintro e w1 ⟨rfl, hown, hbel⟩; have HW1 := hid hown; have HB1 : Hid (Below w.heap.size w w1) := ⟨hbel.os, hbel.tape, hbel.output, hbel.size, hbel.block⟩; clear hown hbel) | (go_at_call 186; refine (HTK.out _ HW1.out).mono ?_; rintro e w2 ⟨rfl, hw⟩; have hw2 := hw.symm; subst hw2))
  all_goals go_wp2
  all_goals go_ret
  all_goals exact ⟨rfl, HB1.out⟩
 ·have hsub0 : IntKind.u64.wrap (a - b) = 0 := hsub
  clear hsub
  go_enter func196, ntmps196
  go_wp2_with fail
  go_region_held3 (fun w' => w'.cell? ⟨g, 0, none⟩ = some (.int .u64 b) ∧ w'.cell? ⟨g, 1, none⟩ = some (.int .u64 (n64 x))) (first | exact HK0.out | exact HK.out _ HB1.out)
   (first | (go_at_call 188; refine (HPT.out _ (by first | rfl | simp)).mono ?_; rintro e w1 ⟨rfl, hown, hbel⟩; have HW1 := hid hown; have HB1 : Hid (Below w.heap.size w w1) := ⟨hbel.os, hbel.tape, hbel.output, hbel.size, hbel.block⟩; clear hown hbel) | (go_at_call 186; refine (HTK.out _ HW1.out).mono ?_; rintro e w2 ⟨rfl, hw⟩; have hw2 := hw.symm; subst hw2))
  all_goals go_wp2
  all_goals go_ret
  all_goals exact ⟨rfl, HB1.out⟩
 ·have hsub0 : IntKind.u64.wrap (a - b) = 4 := hsub
  clear hsub
  go_enter func196, ntmps196
  go_wp2_with fail
  go_region_held3 (fun w' => w'.cell? ⟨g, 0, none⟩ = some (.int .u64 b) ∧ w'.cell? ⟨g, 1, none⟩ = some (.int .u64 (n64 x))) (first | exact HK0.out | exact HK.out _ HB1.out)
   (first | (go_at_call 188; refine (HPT.out _ (by first | rfl | simp)).mono ?_; rintro e w1 ⟨rfl, hown, hbel⟩; have HW1 := hid hown; have HB1 : Hid (Below w.heap.size w w1) := ⟨hbel.os, hbel.tape, hbel.output, hbel.size, hbel.block⟩; clear hown hbel) | (go_at_call 186; refine (HTK.out _ HW1.out).mono ?_; rintro e w2 ⟨rfl, hw⟩; have hw2 := hw.symm; subst hw2))
  all_goals go_wp2
  all_goals go_ret
  all_goals exact ⟨rfl, HB1.out⟩
def wrt (N off s M : Nat) : Nat := tk (splice (ptL N 8) off (ptL M s))
theorem ND {w : World} {B g : Nat} {l : List Int} (h : w.ownsRow B 5 1 (.slice (some ⟨g, 0, none⟩) 8 8) 8 (bv l)) : w.heap[g]? = some (.cells (bv l).toArray 5 (0, 0)) := by
 rcases h.2 with ⟨h0, _⟩ | ⟨g', cap, cur, ev, _, hrow, _, _, hcs, htk⟩
 ·cases h0
 ·cases ev
  rw [hrow]
  have e : cur = (bv l).toArray := by
   apply Array.toList_inj.1
   rw [← htk]
   exact (List.take_of_length_le (by rw [Array.length_toList]; omega)).symm
  rw [e]
theorem byt8 {w : World} {g : Nat} {l : List Int} (hl : l.length = 8) (h : w.heap[g]? = some (.cells (bv l).toArray 5 (0, 0))) : Byt w (.slice (some ⟨g, 0, none⟩) 8 8) l := by
 refine ⟨some ⟨g, 0, none⟩, 8, by rw [hl], by omega, fun e => (by cases e), fun _ => ⟨g, 0, rfl, (Array.getElem?_eq_some_iff.1 h).1, fun j hj => ?_⟩⟩
 rw [Nat.zero_add, cell_of_row w g j _ _ _ h, List.getElem?_toArray]
 exact fC _ _ hj
theorem iZ (g : Nat) (b : Int) (x y : BitVec 64) (off s : Nat) (hc : Cut off s) (hb : 0 ≤ b ∧ b ≤ 4294967296) (w : World) (hg : w.heap[g]? = some (.cells #[.int .u64 b, .int .u64 (n64 x)] 72 (0, 0))) :
  Calls prog 197 #[.pointer (some ⟨g, 0, none⟩), .int .u64 (b + (off : Int)), .int .i64 s, .int .u64 (n64 y)] w fun e w' => e = .returned (.tuple #[]) ∧ ∃ w1, Below w.heap.size w w1 ∧ w' = w1.setCell ⟨g, 1, none⟩ (.int .u64 ((wrt x.toNat off s y.toNat : Nat) : Int)) := by
 have c0 : w.cell? ⟨g, 0, none⟩ = some (.int .u64 b) := cell_of_row w g 0 _ _ _ hg
 have c1 : w.cell? ⟨g, 1, none⟩ = some (.int .u64 (n64 x)) := cell_of_row w g 1 _ _ _ hg
 have hlt : g < w.heap.size := (Array.getElem?_eq_some_iff.1 hg).1
 have HPT : Hid (Calls prog 188 #[.int .u64 (n64 x), .int .i64 8] w fun e w' => e = .returned (.slice (some ⟨w.heap.size, 0, none⟩) 8 8) ∧ w'.ownsRow w.heap.size 5 1 (.slice (some ⟨w.heap.size, 0, none⟩) 8 8) 8 (bv (ptL x.toNat 8)) ∧ Below w.heap.size w w') := lQ x 8 w
 have hs8 : s ≤ 8 ∧ 0 < s ∧ off + s ≤ 8 := by rcases hc with ⟨rfl, rfl⟩ | ⟨rfl, rfl⟩ | ⟨rfl, rfl⟩ <;> omega
 have HPY : Hid (∀ w1 : World, Calls prog 188 #[.int .u64 (n64 y), .int .i64 s] w1 fun e w' => e = .returned (.slice (some ⟨w1.heap.size, 0, none⟩) s s) ∧ w'.ownsRow w1.heap.size 5 1 (.slice (some ⟨w1.heap.size, 0, none⟩) s s) s (bv (ptL y.toNat s)) ∧ Below w1.heap.size w1 w') := fun w1 => by
  have := lQ y s w1
  rw [yM hs8.1] at this
  exact this
 have HTK : Hid (∀ w1 : World, w1.heap[w.heap.size]? = some (.cells (bv (splice (ptL x.toNat 8) off (ptL y.toNat s))).toArray 5 (0, 0)) → Calls prog 186 #[.slice (some ⟨w.heap.size, 0, none⟩) 8 8] w1 fun e w' => e = .returned (.int .u64 ((wrt x.toNat off s y.toNat : Nat) : Int)) ∧ w' = w1) := fun w1 ho => by
  have hl : (splice (ptL x.toNat 8) off (ptL y.toNat s)).length = 8 := by
   unfold splice
   simp only [List.length_append, List.length_take, List.length_drop, bL]
   omega
  exact mX (kN off (lP _ _) (lP _ _)) (by rw [hl]; omega) _ w1 (byt8 hl ho)
 generalize ((wrt x.toNat off s y.toNat : Nat) : Int) = R at HTK ⊢
 have hsub : IntKind.u64.wrap (b + (off : Int) - b) = (off : Int) := by
  rw [show b + (off : Int) - b = off by omega]
  exact aU (by omega) (by omega)
 have HG : Hid (∀ w1, Below w.heap.size w w1 → w1.cell? ⟨g, 0, none⟩ = some (.int .u64 b) ∧ w1.cell? ⟨g, 1, none⟩ = some (.int .u64 (n64 x)) ∧ w1.frozen? ⟨g, 1, none⟩ = false) := fun w1 hb => ⟨(hb.cell hlt).trans c0, (hb.cell hlt).trans c1, frozen_of_row w1 g 1 _ _ ((hb.block g hlt).trans hg)⟩
 have u8size : (prog.info? 5).map (·.size) = some 1 := by kernel_rfl
 obtain ⟨a, ha⟩ : ∃ a, a = b + (off : Int) := ⟨_, rfl⟩
 rw [← ha] at hsub ⊢
 clear ha hb hs8 hg
 rcases hc with ⟨rfl, rfl⟩ | ⟨rfl, rfl⟩ | ⟨rfl, rfl⟩
 ·have hsub0 : IntKind.u64.wrap (a - b) = 0 := hsub
  clear hsub
  go_enter func197, ntmps197
  go_upto_region 1 with (go_at_call 188; refine HPT.out.mono ?_; rintro e w1 ⟨rfl, hown, hbel⟩; have HW1 : Hid (w1.heap[w.heap.size]? = some (.cells (bv (ptL x.toNat 8)).toArray 5 (0, 0))) := ND hown; have HB1 := hid hbel; clear hown hbel)
  have HZ1 : Hid (w.heap.size < w1.heap.size) := (Array.getElem?_eq_some_iff.1 HW1.out).1
  have HK0 : Hid (w1.drew.cell? ⟨g, 0, none⟩ = some (.int .u64 b)) := (HG.out w1 HB1.out).1
  clear c0 c1
  go_region_held3 (fun w' => w'.cell? ⟨g, 0, none⟩ = some (.int .u64 b)) (first | exact HK0.out | exact (HG.out _ HB3.out).1 | exact (HG.out _ HB2.out).1)
   (first | (go_at_call 188; refine (HPY.out _).mono ?_; rintro e w2 ⟨rfl, hown, hbel⟩; have HW2 := hid hown; have hb2 : Below w1.heap.size w1 w2 := ⟨hbel.os, hbel.tape, hbel.output, hbel.size, hbel.block⟩; have HB2 : Hid (Below w.heap.size w w2) := HB1.out.trans (hb2.mono HB1.out.size); have HR2 : Hid (w2.heap[w.heap.size]? = some (.cells (bv (ptL x.toNat 8)).toArray 5 (0, 0))) := (hb2.block _ HZ1.out).trans HW1.out; clear hown hbel hb2) | (refine step_copy_splice rfl (.tmp 21) (.tmp 24) 32 32 rfl 5 underlying32 u8size (some ⟨w.heap.size, 0, none⟩) (some ⟨w1.heap.size, 0, none⟩) 8 8 8 8 (by simp [Act.eval]) (by simp [Act.eval]) w.heap.size 0 (bv (ptL x.toNat 8)) 5 HR2.out (bv (ptL y.toNat 8)) (by rw [bK, bL]; decide) (fun _ => ⟨rfl, _, rfl, fun j v hj => World.ownsRow.cells HW2.out rfl j v hj⟩) (by rw [bK, bK, bL, bL]; decide) (by intro v hv; simp [bv] at hv; obtain ⟨q, _, rfl⟩ := hv; rfl) w.heap.size w HB2.out (Nat.le_refl _) ?_; intro w3 hr3 hb3; have HR3 : Hid _ := hr3; have HB3 : Hid (Below w.heap.size w w3) := hb3; clear hr3 hb3))
  all_goals
   have hc3 := (HG.out w3 HB3.out)
   obtain ⟨k0, k1, k2⟩ := hc3
   have HO3 : Hid (w3.heap[w.heap.size]? = some (.cells (bv (splice (ptL x.toNat 8) 0 (ptL y.toNat 8))).toArray 5 (0, 0))) := by unfold Hid; rw [iJ]; exact HR3.out
   go_wp2_with (go_at_call 186; refine (HTK.out _ HO3.out).mono ?_; rintro e w4 ⟨rfl, hw⟩; have hw2 := hw.symm; subst hw2)
   go_end0
   exact ⟨rfl, w3, HB3.out, rfl⟩
 ·have hsub0 : IntKind.u64.wrap (a - b) = 0 := hsub
  clear hsub
  go_enter func197, ntmps197
  go_upto_region 1 with (go_at_call 188; refine HPT.out.mono ?_; rintro e w1 ⟨rfl, hown, hbel⟩; have HW1 : Hid (w1.heap[w.heap.size]? = some (.cells (bv (ptL x.toNat 8)).toArray 5 (0, 0))) := ND hown; have HB1 := hid hbel; clear hown hbel)
  have HZ1 : Hid (w.heap.size < w1.heap.size) := (Array.getElem?_eq_some_iff.1 HW1.out).1
  have HK0 : Hid (w1.drew.cell? ⟨g, 0, none⟩ = some (.int .u64 b)) := (HG.out w1 HB1.out).1
  clear c0 c1
  go_region_held3 (fun w' => w'.cell? ⟨g, 0, none⟩ = some (.int .u64 b)) (first | exact HK0.out | exact (HG.out _ HB3.out).1 | exact (HG.out _ HB2.out).1)
   (first | (go_at_call 188; refine (HPY.out _).mono ?_; rintro e w2 ⟨rfl, hown, hbel⟩; have HW2 := hid hown; have hb2 : Below w1.heap.size w1 w2 := ⟨hbel.os, hbel.tape, hbel.output, hbel.size, hbel.block⟩; have HB2 : Hid (Below w.heap.size w w2) := HB1.out.trans (hb2.mono HB1.out.size); have HR2 : Hid (w2.heap[w.heap.size]? = some (.cells (bv (ptL x.toNat 8)).toArray 5 (0, 0))) := (hb2.block _ HZ1.out).trans HW1.out; clear hown hbel hb2) | (refine step_copy_splice rfl (.tmp 21) (.tmp 24) 32 32 rfl 5 underlying32 u8size (some ⟨w.heap.size, 0, none⟩) (some ⟨w1.heap.size, 0, none⟩) 8 8 4 4 (by simp [Act.eval]) (by simp [Act.eval]) w.heap.size 0 (bv (ptL x.toNat 8)) 5 HR2.out (bv (ptL y.toNat 4)) (by rw [bK, bL]; decide) (fun _ => ⟨rfl, _, rfl, fun j v hj => World.ownsRow.cells HW2.out rfl j v hj⟩) (by rw [bK, bK, bL, bL]; decide) (by intro v hv; simp [bv] at hv; obtain ⟨q, _, rfl⟩ := hv; rfl) w.heap.size w HB2.out (Nat.le_refl _) ?_; intro w3 hr3 hb3; have HR3 : Hid _ := hr3; have HB3 : Hid (Below w.heap.size w w3) := hb3; clear hr3 hb3))
  all_goals
   have hc3 := (HG.out w3 HB3.out)
   obtain ⟨k0, k1, k2⟩ := hc3
   have HO3 : Hid (w3.heap[w.heap.size]? = some (.cells (bv (splice (ptL x.toNat 8) 0 (ptL y.toNat 4))).toArray 5 (0, 0))) := by unfold Hid; rw [iJ]; exact HR3.out
   go_wp2_with (go_at_call 186; refine (HTK.out _ HO3.out).mono ?_; rintro e w4 ⟨rfl, hw⟩; have hw2 := hw.symm; subst hw2)
   go_end0
   exact ⟨rfl, w3, HB3.out, rfl⟩
 ·have hsub0 : IntKind.u64.wrap (a - b) = 4 := hsub
  clear hsub
  go_enter func197, ntmps197
  go_upto_region 1 with (go_at_call 188; refine HPT.out.mono ?_; rintro e w1 ⟨rfl, hown, hbel⟩; have HW1 : Hid (w1.heap[w.heap.size]? = some (.cells (bv (ptL x.toNat 8)).toArray 5 (0, 0))) := ND hown; have HB1 := hid hbel; clear hown hbel)
  have HZ1 : Hid (w.heap.size < w1.heap.size) := (Array.getElem?_eq_some_iff.1 HW1.out).1
  have HK0 : Hid (w1.drew.cell? ⟨g, 0, none⟩ = some (.int .u64 b)) := (HG.out w1 HB1.out).1
  clear c0 c1
  go_region_held3 (fun w' => w'.cell? ⟨g, 0, none⟩ = some (.int .u64 b)) (first | exact HK0.out | exact (HG.out _ HB3.out).1 | exact (HG.out _ HB2.out).1)
   (first | (go_at_call 188; refine (HPY.out _).mono ?_; rintro e w2 ⟨rfl, hown, hbel⟩; have HW2 := hid hown; have hb2 : Below w1.heap.size w1 w2 := ⟨hbel.os, hbel.tape, hbel.output, hbel.size, hbel.block⟩; have HB2 : Hid (Below w.heap.size w w2) := HB1.out.trans (hb2.mono HB1.out.size); have HR2 : Hid (w2.heap[w.heap.size]? = some (.cells (bv (ptL x.toNat 8)).toArray 5 (0, 0))) := (hb2.block _ HZ1.out).trans HW1.out; clear hown hbel hb2) | (refine step_copy_splice rfl (.tmp 21) (.tmp 24) 32 32 rfl 5 underlying32 u8size (some ⟨w.heap.size, 4, none⟩) (some ⟨w1.heap.size, 0, none⟩) 4 4 4 4 (by simp [Act.eval]) (by simp [Act.eval]) w.heap.size 4 (bv (ptL x.toNat 8)) 5 HR2.out (bv (ptL y.toNat 4)) (by rw [bK, bL]; decide) (fun _ => ⟨rfl, _, rfl, fun j v hj => World.ownsRow.cells HW2.out rfl j v hj⟩) (by rw [bK, bK, bL, bL]; decide) (by intro v hv; simp [bv] at hv; obtain ⟨q, _, rfl⟩ := hv; rfl) w.heap.size w HB2.out (Nat.le_refl _) ?_; intro w3 hr3 hb3; have HR3 : Hid _ := hr3; have HB3 : Hid (Below w.heap.size w w3) := hb3; clear hr3 hb3))
  all_goals
   have hc3 := (HG.out w3 HB3.out)
   obtain ⟨k0, k1, k2⟩ := hc3
   have HO3 : Hid (w3.heap[w.heap.size]? = some (.cells (bv (splice (ptL x.toNat 8) 4 (ptL y.toNat 4))).toArray 5 (0, 0))) := by unfold Hid; rw [iJ]; exact HR3.out
   go_wp2_with (go_at_call 186; refine (HTK.out _ HO3.out).mono ?_; rintro e w4 ⟨rfl, hw⟩; have hw2 := hw.symm; subst hw2)
   go_end0
   exact ⟨rfl, w3, HB3.out, rfl⟩
end Go.Proofs.YtiffkbmppmejhaaGreatDoor
namespace Go.Proofs.YtiffkbmppmejhaaGreatDoor
set_option linter.unusedVariables false
set_option maxRecDepth 100000
set_option maxHeartbeats 8000000
open Go.ChangeShapes Go.WideShapes Go.ChangeAt Go.RowKit Go.Deep _root_.Go.Proofs.Tryz
theorem FX {B c : Nat} {S : St} {vr vi vo : Value} (w : World) (h : RB B c S vr vi vo w) (hi : 0 ≤ S.ier ∧ S.ier ≤ 255) : Calls prog 120 #[.pointer (some ⟨c, 0, none⟩)] w fun e w' => e = .returned (.bool (gD S)) ∧ w' = w := by
 have c6 : w.cell? ⟨c, 6, none⟩ = some (.int .u8 S.ier) := h.cell 6
 have c11 : w.cell? ⟨c, 11, none⟩ = some vi := h.cell 11
 obtain ⟨ai, ci, rfl, _⟩ := h.s.bs.i
 have ht : S.ier.tmod 2 = S.ier % 2 := Int.tmod_eq_emod_of_nonneg hi.1
 obtain ⟨b, hb⟩ : ∃ b, b = gD S := ⟨_, rfl⟩
 rw [← hb]
 have HE : Hid (b = ((S.ier % 2 == 1) && decide (0 < S.inp.length))) := hb
 clear hb h
 rcases Bool.eq_false_or_eq_true (S.ier % 2 == 1) with h1 | h1
 ·have HX : Hid (b = decide (0 < S.inp.length)) := by unfold Hid; rw [HE.out, h1]; rfl
  go_enter func120, ntmps120
  go_wp2
  go_ret
  exact ⟨by cases HX.out; rfl, rfl⟩
 ·have HX : Hid (b = false) := by unfold Hid; rw [HE.out, h1]; rfl
  go_enter func120, ntmps120
  go_wp2
  go_ret
  exact ⟨by cases HX.out; rfl, rfl⟩
theorem yI {B c : Nat} {S : St} {vr vi vo : Value} (w : World) (h : RB B c S vr vi vo w) (hn : S.ram.length ≤ 65536) (a : Int) (ha : 0 ≤ a ∧ a ≤ 18446744073709551615) : Calls prog 91 #[.pointer (some ⟨c, 0, none⟩), .int .u64 a] w fun e w' => e = .returned (.bool (decide (2147483648 ≤ a ∧ a < 2147483648 + S.ram.length))) ∧ w' = w := by
 have c0 : w.cell? ⟨c, 0, none⟩ = some vr := h.cell 0
 obtain ⟨ar, cr, rfl, _⟩ := h.s.bs.r
 obtain ⟨b, hb⟩ : ∃ b, b = decide (2147483648 ≤ a ∧ a < 2147483648 + S.ram.length) := ⟨_, rfl⟩
 rw [← hb]
 have e2 : IntKind.u64.wrap (S.ram.length : Int) = S.ram.length := aU (by omega) (by omega)
 clear h
 rcases Int.lt_or_le a 2147483648 with h1 | h1
 ·have HX : Hid (b = false) := by unfold Hid; rw [hb]; simp; omega
  clear hb
  go_enter func91, ntmps91
  go_wp2
  go_ret
  exact ⟨by cases HX.out; rfl, rfl⟩
 ·have e1 : IntKind.u64.wrap (a - 2147483648) = a - 2147483648 := aU (by omega) (by omega)
  have HX : Hid (b = decide (a - 2147483648 < (S.ram.length : Int))) := by
   unfold Hid; rw [hb]; congr 1; apply propext; omega
  clear hb
  go_enter func91, ntmps91
  go_wp2
  go_ret
  exact ⟨by cases HX.out; rfl, rfl⟩
theorem iG {B c : Nat} {S : St} {vr vi vo : Value} (w : World) (h : RB B c S vr vi vo w) (hn : S.ram.length ≤ 65536) (a z : Int) (ha : 0 ≤ a ∧ a ≤ 18446744073709551615) (hz : -9223372036854775808 ≤ z ∧ z ≤ 9223372036854775807) : Calls prog 63 #[.pointer (some ⟨c, 0, none⟩), .int .u64 a, .int .i64 z] w fun e w' => e = .returned (.bool (decide (1 ≤ z) && hld S.ram.length a z)) ∧ w' = w := by
 have c0 : w.cell? ⟨c, 0, none⟩ = some vr := h.cell 0
 have HB : Hid (∀ x : Int, (0 ≤ x ∧ x ≤ 18446744073709551615) → Calls prog 91 #[.pointer (some ⟨c, 0, none⟩), .int .u64 x] w fun e w' => e = .returned (.bool (decide (2147483648 ≤ x ∧ x < 2147483648 + S.ram.length))) ∧ w' = w) := fun x hx => yI w h hn x hx
 obtain ⟨ar, cr, rfl, _⟩ := h.s.bs.r
 obtain ⟨b, hb⟩ : ∃ b, b = (decide (1 ≤ z) && hld S.ram.length a z) := ⟨_, rfl⟩
 rw [← hb]
 have HE : Hid (b = (decide (1 ≤ z) && (decide (2147483648 ≤ a) && (decide (a - 2147483648 < S.ram.length) && (decide (0 ≤ z) && decide (z ≤ S.ram.length - (a - 2147483648))))))) := hb
 clear hb h
 generalize S.ram.length = n at *
 rcases Int.lt_or_le z 1 with h1 | h1
 ·have HX : Hid (b = false) := by unfold Hid; rw [HE.out, show decide (1 ≤ z) = false from decide_eq_false (by omega)]; rfl
  go_enter func63, ntmps63
  go_wp2
  go_ret
  exact ⟨by cases HX.out; rfl, rfl⟩
 ·rcases Int.lt_or_le n z with h2 | h2
  ·have HX : Hid (b = false) := by
    unfold Hid; rw [HE.out]
    by_cases q : 2147483648 ≤ a
    ·rw [show decide (z ≤ n - (a - 2147483648)) = false from decide_eq_false (by omega)]; simp
    ·rw [show decide (2147483648 ≤ a) = false from decide_eq_false q]; simp
   go_enter func63, ntmps63
   go_wp2
   go_ret
   exact ⟨by cases HX.out; rfl, rfl⟩
  ·go_enter func63, ntmps63
   go_wp2
   go_loopw [7] (fun i wr => ∃ k : Nat, (k : Int) ≤ z ∧ i = .int .i64 k ∧ Hid (k = 0 ∨ (2147483648 ≤ a ∧ a + (k : Int) ≤ 2147483648 + n)) ∧ wr = w) (fun i _ => z.toNat - (intOf i).toNat)
   case atStart => exact ⟨0, by omega, rfl, .inl rfl, rfl⟩
   case round =>
    obtain ⟨k, hk, rfl, hinv, rfl⟩ := hrel
    by_cases hlt : (k : Int) < z
    ·have e1 : IntKind.u64.wrap (k : Int) = k := aU (by omega) (by omega)
     by_cases hw : a + (k : Int) ≤ 18446744073709551615
     ·have e2 : IntKind.u64.wrap (a + (k : Int)) = a + k := aU (by omega) hw
      have HA := HB.out (a + (k : Int)) (by omega)
      have e3 : ¬ (a + (k : Int) < a) := by omega
      by_cases hin : 2147483648 ≤ a + (k : Int) ∧ a + (k : Int) < 2147483648 + n
      ·rw [show decide (2147483648 ≤ a + (k : Int) ∧ a + (k : Int) < 2147483648 + n) = true from decide_eq_true hin] at HA
       have HI : Hid (k = 0 → 2147483648 ≤ a) := fun e => by omega
       go_wp2_with (go_at_call 91; refine HA.mono ?_; rintro e w1 ⟨rfl, hw⟩; have hw2 := hw.symm; subst hw2)
       go_roundw
       case rel =>
        refine ⟨k + 1, by omega, by go_num, .inr ⟨?_, by omega⟩, by trivial⟩
        rcases hinv.out with e | e
        ·exact HI.out e
        ·exact e.1
       case measure => simp [intOf]; omega
      ·rw [show decide (2147483648 ≤ a + (k : Int) ∧ a + (k : Int) < 2147483648 + n) = false from decide_eq_false hin] at HA
       have HX : Hid (b = false) := by
        unfold Hid; rw [HE.out]
        have hinv' := hinv.out
        by_cases q : 2147483648 ≤ a
        ·rw [show decide (z ≤ n - (a - 2147483648)) = false from decide_eq_false (by omega)]; simp
        ·rw [show decide (2147483648 ≤ a) = false from decide_eq_false q]; simp
       go_wp2_with (go_at_call 91; refine HA.mono ?_; rintro e w1 ⟨rfl, hw⟩; have hw2 := hw.symm; subst hw2)
       go_ret
       exact ⟨by cases HX.out; rfl, rfl⟩
     ·have e2 : IntKind.u64.wrap (a + (k : Int)) = a + k - 18446744073709551616 := by
       show (a + (k : Int)) % 18446744073709551616 = _
       omega
      have HA := HB.out (a + (k : Int) - 18446744073709551616) (by omega)
      rw [show decide (2147483648 ≤ a + (k : Int) - 18446744073709551616 ∧ a + (k : Int) - 18446744073709551616 < 2147483648 + n) = false from decide_eq_false (by omega)] at HA
      have HX : Hid (b = false) := by
       unfold Hid; rw [HE.out, show decide (a - 2147483648 < (n : Int)) = false from decide_eq_false (by omega)]; simp
      go_wp2_with (go_at_call 91; refine HA.mono ?_; rintro e w1 ⟨rfl, hw⟩; have hw2 := hw.symm; subst hw2)
      go_ret
      exact ⟨by cases HX.out; rfl, rfl⟩
    ·have HX : Hid (b = true) := by
      unfold Hid; rw [HE.out]
      have hinv' := hinv.out
      simp; omega
     have hge : z ≤ (k : Int) := by omega
     go_wp2
     go_ret
     exact ⟨by cases HX.out; rfl, rfl⟩
def rch (n : Nat) (a z : Int) : Int :=
 if dD n a z then 1 else if eA a z then 10 else
 if z = 4 then (if a = 1048576 then 2 else if a = 33554432 then 3 else if a = 33570816 then 5 else if a = 33570820 then 6 else if a = 33603576 then 8 else if a = 33603580 then 9 else 0)
 else if z = 8 then (if a = 33570816 then 4 else if a = 33603576 then 7 else 0) else 0
theorem yW (n : Nat) (a z : Int) : fnd n a z ≤ 6 := by
 unfold fnd
 repeat' split
 all_goals omega
theorem uX (n : Nat) (a z : Int) : (rch n a z = 0) ↔ (fnd n a z = 6) := by
 unfold rch fnd
 by_cases h1 : dD n a z = true
 ·simp [h1]
 ·by_cases h2 : eA a z = true
  ·simp [h1, h2]
  ·simp only [h1, h2, Bool.false_eq_true, if_false]
   unfold fD mE nG
   by_cases h4 : z = 4
   ·subst h4
    simp
    by_cases q1 : a = 1048576
    ·subst q1; decide
    ·by_cases q2 : a = 33554432
     ·subst q2; decide
     ·by_cases q3 : a = 33570816
      ·subst q3; decide
      ·by_cases q4 : a = 33570820
       ·subst q4; decide
       ·by_cases q5 : a = 33603576
        ·subst q5; decide
        ·by_cases q6 : a = 33603580
         ·subst q6; decide
         ·simp [q1, q2, q3, q4, q5, q6]
   ·by_cases h8 : z = 8
    ·subst h8
     simp
     by_cases q3 : a = 33570816
     ·subst q3; decide
     ·by_cases q5 : a = 33603576
      ·subst q5; decide
      ·simp [q3, q5]
    ·simp [h4, h8]
theorem cE {B c : Nat} {S : St} {vr vi vo : Value} (w : World) (h : RB B c S vr vi vo w) (hn : S.ram.length ≤ 65536) (a z : Int) (ha : 0 ≤ a ∧ a ≤ 18446744073709551615) (hz : -9223372036854775808 ≤ z ∧ z ≤ 9223372036854775807) : Calls prog 85 #[.pointer (some ⟨c, 0, none⟩), .int .u64 a, .int .i64 z] w fun e w' => e = .returned (.int .i64 (rch S.ram.length a z)) ∧ w' = w := by
 have HI := iG w h hn a z ha hz
 obtain ⟨r, hr⟩ : ∃ r, r = rch S.ram.length a z := ⟨_, rfl⟩
 rw [← hr]
 generalize S.ram.length = n at *
 clear h
 by_cases h1 : z = 1
 ·subst h1
  have ht : a.tmod 1 = a % 1 := Int.tmod_eq_emod_of_nonneg ha.1
  cases hq : hld n a 1 with
  | true =>
   rw [hq, show (decide ((1 : Int) ≤ 1) && true) = true from rfl] at HI
   rcases Bool.eq_false_or_eq_true (a % 1 == 0) with hm | hm
   ·have hM : dD n a 1 = true := by unfold dD; rw [hq, hm]; rfl
    have HX : Hid (r = 1) := by unfold Hid; rw [hr]; simp [rch, hM]
    clear hr
    go_enter func85, ntmps85
    go_wp2_with (go_at_call 63; refine HI.mono ?_; rintro e w1 ⟨rfl, hw⟩; have hw2 := hw.symm; subst hw2)
    go_ret
    exact ⟨by cases HX.out; rfl, rfl⟩
   ·exact absurd hm (by simp)
  | false =>
   rw [hq, show (decide ((1 : Int) ≤ 1) && false) = false from rfl] at HI
   have hM : dD n a 1 = false := by unfold dD; rw [hq]; simp
   rcases Int.lt_or_le a 268435456 with g1 | g1
   ·have hU : eA a 1 = false := by unfold eA; rw [show decide (268435456 ≤ a) = false from decide_eq_false (by omega)]; rfl
    have HX : Hid (r = 0) := by unfold Hid; rw [hr]; simp [rch, hM, hU]
    clear hr
    go_enter func85, ntmps85
    go_wp2_with (go_at_call 63; refine HI.mono ?_; rintro e w1 ⟨rfl, hw⟩; have hw2 := hw.symm; subst hw2)
    go_ret
    exact ⟨by cases HX.out; rfl, rfl⟩
   ·rcases Int.lt_or_le a 268435464 with g2 | g2
    ·have hU : eA a 1 = true := by unfold eA; rw [show decide (268435456 ≤ a) = true from decide_eq_true g1, show decide (a < 268435464) = true from decide_eq_true g2]; rfl
     have HX : Hid (r = 10) := by unfold Hid; rw [hr]; simp [rch, hM, hU]
     clear hr
     go_enter func85, ntmps85
     go_wp2_with (go_at_call 63; refine HI.mono ?_; rintro e w1 ⟨rfl, hw⟩; have hw2 := hw.symm; subst hw2)
     go_ret
     exact ⟨by cases HX.out; rfl, rfl⟩
    ·have hU : eA a 1 = false := by unfold eA; rw [show decide (a < 268435464) = false from decide_eq_false (by omega)]; simp
     have HX : Hid (r = 0) := by unfold Hid; rw [hr]; simp [rch, hM, hU]
     clear hr
     go_enter func85, ntmps85
     go_wp2_with (go_at_call 63; refine HI.mono ?_; rintro e w1 ⟨rfl, hw⟩; have hw2 := hw.symm; subst hw2)
     go_ret
     exact ⟨by cases HX.out; rfl, rfl⟩
 ·by_cases h2 : z = 2
  ·subst h2
   have ht : a.tmod 2 = a % 2 := Int.tmod_eq_emod_of_nonneg ha.1
   cases hq : hld n a 2 with
   | true =>
    rw [hq, show (decide ((1 : Int) ≤ 2) && true) = true from rfl] at HI
    rcases Bool.eq_false_or_eq_true (a % 2 == 0) with hm | hm
    ·have hM : dD n a 2 = true := by unfold dD; rw [hq, hm]; rfl
     have HX : Hid (r = 1) := by unfold Hid; rw [hr]; simp [rch, hM]
     clear hr
     go_enter func85, ntmps85
     go_wp2_with (go_at_call 63; refine HI.mono ?_; rintro e w1 ⟨rfl, hw⟩; have hw2 := hw.symm; subst hw2)
     go_ret
     exact ⟨by cases HX.out; rfl, rfl⟩
    ·have hM : dD n a 2 = false := by unfold dD; rw [hq, hm]; rfl
     have hU : eA a 2 = false := rfl
     have HX : Hid (r = 0) := by unfold Hid; rw [hr]; simp [rch, hM, hU]
     clear hr
     go_enter func85, ntmps85
     go_wp2_with (go_at_call 63; refine HI.mono ?_; rintro e w1 ⟨rfl, hw⟩; have hw2 := hw.symm; subst hw2)
     go_ret
     exact ⟨by cases HX.out; rfl, rfl⟩
   | false =>
    rw [hq, show (decide ((1 : Int) ≤ 2) && false) = false from rfl] at HI
    have hM : dD n a 2 = false := by unfold dD; rw [hq]; simp
    have hU : eA a 2 = false := rfl
    have HX : Hid (r = 0) := by unfold Hid; rw [hr]; simp [rch, hM, hU]
    clear hr
    go_enter func85, ntmps85
    go_wp2_with (go_at_call 63; refine HI.mono ?_; rintro e w1 ⟨rfl, hw⟩; have hw2 := hw.symm; subst hw2)
    go_ret
    exact ⟨by cases HX.out; rfl, rfl⟩
  ·by_cases h4 : z = 4
   ·subst h4
    have ht : a.tmod 4 = a % 4 := Int.tmod_eq_emod_of_nonneg ha.1
    cases hq : hld n a 4 with
    | true =>
     rw [hq, show (decide ((1 : Int) ≤ 4) && true) = true from rfl] at HI
     rcases Bool.eq_false_or_eq_true (a % 4 == 0) with hm | hm
     ·have hM : dD n a 4 = true := by unfold dD; rw [hq, hm]; rfl
      have HX : Hid (r = 1) := by unfold Hid; rw [hr]; simp [rch, hM]
      clear hr
      go_enter func85, ntmps85
      go_wp2_with (go_at_call 63; refine HI.mono ?_; rintro e w1 ⟨rfl, hw⟩; have hw2 := hw.symm; subst hw2)
      go_ret
      exact ⟨by cases HX.out; rfl, rfl⟩
     ·have hM : dD n a 4 = false := by unfold dD; rw [hq, hm]; rfl
      have hU : eA a 4 = false := rfl
      by_cases q1048576 : a = 1048576
      ·subst q1048576
       exact absurd hm (by decide)
      ·have e1048576 : (a == 1048576) = false := by simpa using q1048576
       by_cases q33554432 : a = 33554432
       ·subst q33554432
        exact absurd hm (by decide)
       ·have e33554432 : (a == 33554432) = false := by simpa using q33554432
        by_cases q33570816 : a = 33570816
        ·subst q33570816
         exact absurd hm (by decide)
        ·have e33570816 : (a == 33570816) = false := by simpa using q33570816
         by_cases q33570820 : a = 33570820
         ·subst q33570820
          exact absurd hm (by decide)
         ·have e33570820 : (a == 33570820) = false := by simpa using q33570820
          by_cases q33603576 : a = 33603576
          ·subst q33603576
           exact absurd hm (by decide)
          ·have e33603576 : (a == 33603576) = false := by simpa using q33603576
           by_cases q33603580 : a = 33603580
           ·subst q33603580
            exact absurd hm (by decide)
           ·have e33603580 : (a == 33603580) = false := by simpa using q33603580
            have HX : Hid (r = 0) := by unfold Hid; rw [hr]; simp [rch, hM, hU, q1048576, q33554432, q33570816, q33570820, q33603576, q33603580]
            clear hr
            go_enter func85, ntmps85
            go_wp2_with (go_at_call 63; refine HI.mono ?_; rintro e w1 ⟨rfl, hw⟩; have hw2 := hw.symm; subst hw2)
            go_ret
            exact ⟨by cases HX.out; rfl, rfl⟩
    | false =>
     rw [hq, show (decide ((1 : Int) ≤ 4) && false) = false from rfl] at HI
     have hM : dD n a 4 = false := by unfold dD; rw [hq]; simp
     have hU : eA a 4 = false := rfl
     by_cases q1048576 : a = 1048576
     ·subst q1048576
      have HX : Hid (r = 2) := by unfold Hid; rw [hr]; simp [rch, hM, hU]
      clear hr
      go_enter func85, ntmps85
      go_wp2_with (go_at_call 63; refine HI.mono ?_; rintro e w1 ⟨rfl, hw⟩; have hw2 := hw.symm; subst hw2)
      go_ret
      exact ⟨by cases HX.out; rfl, rfl⟩
     ·have e1048576 : (a == 1048576) = false := by simpa using q1048576
      by_cases q33554432 : a = 33554432
      ·subst q33554432
       have HX : Hid (r = 3) := by unfold Hid; rw [hr]; simp [rch, hM, hU]
       clear hr
       go_enter func85, ntmps85
       go_wp2_with (go_at_call 63; refine HI.mono ?_; rintro e w1 ⟨rfl, hw⟩; have hw2 := hw.symm; subst hw2)
       go_ret
       exact ⟨by cases HX.out; rfl, rfl⟩
      ·have e33554432 : (a == 33554432) = false := by simpa using q33554432
       by_cases q33570816 : a = 33570816
       ·subst q33570816
        have HX : Hid (r = 5) := by unfold Hid; rw [hr]; simp [rch, hM, hU]
        clear hr
        go_enter func85, ntmps85
        go_wp2_with (go_at_call 63; refine HI.mono ?_; rintro e w1 ⟨rfl, hw⟩; have hw2 := hw.symm; subst hw2)
        go_ret
        exact ⟨by cases HX.out; rfl, rfl⟩
       ·have e33570816 : (a == 33570816) = false := by simpa using q33570816
        by_cases q33570820 : a = 33570820
        ·subst q33570820
         have HX : Hid (r = 6) := by unfold Hid; rw [hr]; simp [rch, hM, hU]
         clear hr
         go_enter func85, ntmps85
         go_wp2_with (go_at_call 63; refine HI.mono ?_; rintro e w1 ⟨rfl, hw⟩; have hw2 := hw.symm; subst hw2)
         go_ret
         exact ⟨by cases HX.out; rfl, rfl⟩
        ·have e33570820 : (a == 33570820) = false := by simpa using q33570820
         by_cases q33603576 : a = 33603576
         ·subst q33603576
          have HX : Hid (r = 8) := by unfold Hid; rw [hr]; simp [rch, hM, hU]
          clear hr
          go_enter func85, ntmps85
          go_wp2_with (go_at_call 63; refine HI.mono ?_; rintro e w1 ⟨rfl, hw⟩; have hw2 := hw.symm; subst hw2)
          go_ret
          exact ⟨by cases HX.out; rfl, rfl⟩
         ·have e33603576 : (a == 33603576) = false := by simpa using q33603576
          by_cases q33603580 : a = 33603580
          ·subst q33603580
           have HX : Hid (r = 9) := by unfold Hid; rw [hr]; simp [rch, hM, hU]
           clear hr
           go_enter func85, ntmps85
           go_wp2_with (go_at_call 63; refine HI.mono ?_; rintro e w1 ⟨rfl, hw⟩; have hw2 := hw.symm; subst hw2)
           go_ret
           exact ⟨by cases HX.out; rfl, rfl⟩
          ·have e33603580 : (a == 33603580) = false := by simpa using q33603580
           have HX : Hid (r = 0) := by unfold Hid; rw [hr]; simp [rch, hM, hU, q1048576, q33554432, q33570816, q33570820, q33603576, q33603580]
           clear hr
           go_enter func85, ntmps85
           go_wp2_with (go_at_call 63; refine HI.mono ?_; rintro e w1 ⟨rfl, hw⟩; have hw2 := hw.symm; subst hw2)
           go_ret
           exact ⟨by cases HX.out; rfl, rfl⟩
   ·by_cases h8 : z = 8
    ·subst h8
     have ht : a.tmod 8 = a % 8 := Int.tmod_eq_emod_of_nonneg ha.1
     cases hq : hld n a 8 with
     | true =>
      rw [hq, show (decide ((1 : Int) ≤ 8) && true) = true from rfl] at HI
      rcases Bool.eq_false_or_eq_true (a % 8 == 0) with hm | hm
      ·have hM : dD n a 8 = true := by unfold dD; rw [hq, hm]; rfl
       have HX : Hid (r = 1) := by unfold Hid; rw [hr]; simp [rch, hM]
       clear hr
       go_enter func85, ntmps85
       go_wp2_with (go_at_call 63; refine HI.mono ?_; rintro e w1 ⟨rfl, hw⟩; have hw2 := hw.symm; subst hw2)
       go_ret
       exact ⟨by cases HX.out; rfl, rfl⟩
      ·have hM : dD n a 8 = false := by unfold dD; rw [hq, hm]; rfl
       have hU : eA a 8 = false := rfl
       by_cases q33570816 : a = 33570816
       ·subst q33570816
        exact absurd hm (by decide)
       ·have e33570816 : (a == 33570816) = false := by simpa using q33570816
        by_cases q33603576 : a = 33603576
        ·subst q33603576
         exact absurd hm (by decide)
        ·have e33603576 : (a == 33603576) = false := by simpa using q33603576
         have HX : Hid (r = 0) := by unfold Hid; rw [hr]; simp [rch, hM, hU, q33570816, q33603576]
         clear hr
         go_enter func85, ntmps85
         go_wp2_with (go_at_call 63; refine HI.mono ?_; rintro e w1 ⟨rfl, hw⟩; have hw2 := hw.symm; subst hw2)
         go_ret
         exact ⟨by cases HX.out; rfl, rfl⟩
     | false =>
      rw [hq, show (decide ((1 : Int) ≤ 8) && false) = false from rfl] at HI
      have hM : dD n a 8 = false := by unfold dD; rw [hq]; simp
      have hU : eA a 8 = false := rfl
      by_cases q33570816 : a = 33570816
      ·subst q33570816
       have HX : Hid (r = 4) := by unfold Hid; rw [hr]; simp [rch, hM, hU]
       clear hr
       go_enter func85, ntmps85
       go_wp2_with (go_at_call 63; refine HI.mono ?_; rintro e w1 ⟨rfl, hw⟩; have hw2 := hw.symm; subst hw2)
       go_ret
       exact ⟨by cases HX.out; rfl, rfl⟩
      ·have e33570816 : (a == 33570816) = false := by simpa using q33570816
       by_cases q33603576 : a = 33603576
       ·subst q33603576
        have HX : Hid (r = 7) := by unfold Hid; rw [hr]; simp [rch, hM, hU]
        clear hr
        go_enter func85, ntmps85
        go_wp2_with (go_at_call 63; refine HI.mono ?_; rintro e w1 ⟨rfl, hw⟩; have hw2 := hw.symm; subst hw2)
        go_ret
        exact ⟨by cases HX.out; rfl, rfl⟩
       ·have e33603576 : (a == 33603576) = false := by simpa using q33603576
        have HX : Hid (r = 0) := by unfold Hid; rw [hr]; simp [rch, hM, hU, q33570816, q33603576]
        clear hr
        go_enter func85, ntmps85
        go_wp2_with (go_at_call 63; refine HI.mono ?_; rintro e w1 ⟨rfl, hw⟩; have hw2 := hw.symm; subst hw2)
        go_ret
        exact ⟨by cases HX.out; rfl, rfl⟩
    ·have e1 : (z != 1) = true := by simpa using h1
     have e2 : (z != 2) = true := by simpa using h2
     have e4 : (z != 4) = true := by simpa using h4
     have e8 : (z != 8) = true := by simpa using h8
     have HX : Hid (r = 0) := by unfold Hid; rw [hr]; simp [rch, dD, eA, h1, h2, h4, h8]
     clear hr HI
     go_enter func85, ntmps85
     go_wp2
     go_ret
     exact ⟨by cases HX.out; rfl, rfl⟩
theorem AU {B c : Nat} {S : St} {vr vi vo : Value} (w : World) (h : RB B c S vr vi vo w) (hn : S.ram.length ≤ 65536) (a z k : Int) (ha : 0 ≤ a ∧ a ≤ 18446744073709551615) (hz : -9223372036854775808 ≤ z ∧ z ≤ 9223372036854775807) : Calls prog 59 #[.pointer (some ⟨c, 0, none⟩), .int .u64 a, .int .i64 z, .int .i64 k] w fun e w' => e = .returned (.bool (decide (1 ≤ k ∧ k ≤ 3) && decide (fnd S.ram.length a z < 6))) ∧ w' = w := by
 have HR := cE w h hn a z ha hz
 have hrf := uX S.ram.length a z
 have hle := yW S.ram.length a z
 obtain ⟨b, hb⟩ : ∃ b, b = (decide (1 ≤ k ∧ k ≤ 3) && decide (fnd S.ram.length a z < 6)) := ⟨_, rfl⟩
 rw [← hb]
 generalize rch S.ram.length a z = r at HR hrf
 generalize fnd S.ram.length a z = q at hb hrf hle
 clear h
 by_cases h0 : r = 0
 ·subst h0
  have HX : Hid (b = false) := by unfold Hid; rw [hb, hrf.1 rfl]; simp
  clear hb hrf hle
  go_enter func59, ntmps59
  go_wp2_with (go_at_call 85; refine HR.mono ?_; rintro e w1 ⟨rfl, hw⟩; have hw2 := hw.symm; subst hw2)
  go_ret
  exact ⟨by cases HX.out; rfl, rfl⟩
 ·have e0 : (r != 0) = true := by simpa using h0
  have HX : Hid (b = decide (1 ≤ k ∧ k ≤ 3)) := by
   unfold Hid; rw [hb, show decide (q < 6) = true from decide_eq_true (by have : ¬ q = 6 := fun e => h0 (hrf.2 e); omega)]; simp
  clear hb hrf hle
  rcases Int.lt_or_le k 1 with g1 | g1
  ·have HY : Hid (b = false) := by unfold Hid; rw [HX.out]; simp; omega
   go_enter func59, ntmps59
   go_wp2_with (go_at_call 85; refine HR.mono ?_; rintro e w1 ⟨rfl, hw⟩; have hw2 := hw.symm; subst hw2)
   go_ret
   exact ⟨by cases HY.out; rfl, rfl⟩
  ·have HY : Hid (b = decide (k ≤ 3)) := by unfold Hid; rw [HX.out]; simp [g1]
   go_enter func59, ntmps59
   go_wp2_with (go_at_call 85; refine HR.mono ?_; rintro e w1 ⟨rfl, hw⟩; have hw2 := hw.symm; subst hw2)
   go_ret
   exact ⟨by cases HY.out; rfl, rfl⟩
end Go.Proofs.YtiffkbmppmejhaaGreatDoor
namespace Go.Proofs.YtiffkbmppmejhaaGreatDoor
set_option linter.unusedVariables false
set_option maxRecDepth 100000
set_option maxHeartbeats 8000000
open Go.ChangeShapes Go.WideShapes Go.ChangeAt Go.RowKit Go.Deep Go.MuLone _root_.Go.Proofs.Tryz
theorem CI (N : Nat) : tk (ptL N 4) = N % 4294967296 := by
 unfold tk
 rw [bL, show min 4 8 = 4 from rfl, tH N 4 4 (Nat.le_refl _)]
theorem FJ (N : Nat) (h : N < 18446744073709551616) : prt N 0 8 = N := by
 have e : (((ptL N 8).drop 0).take 8) = ptL N 8 := rfl
 unfold prt; rw [e]; exact pI N 8 rfl h
theorem FL (N : Nat) : prt N 0 4 = N % 4294967296 := by
 have e : (((ptL N 8).drop 0).take 4) = ptL N 4 := rfl
 unfold prt; rw [e]; exact CI N
theorem AJ (N : Nat) (h : N < 18446744073709551616) : prt N 4 4 = N / 4294967296 := by
 have e : (((ptL N 8).drop 4).take 4) = ptL (N / 4294967296) 4 := by
  show [((N / 256 ^ 4 % 256 : Nat) : Int), ((N / 256 ^ 5 % 256 : Nat) : Int), ((N / 256 ^ 6 % 256 : Nat) : Int), ((N / 256 ^ 7 % 256 : Nat) : Int)] = [((N / 4294967296 / 256 ^ 0 % 256 : Nat) : Int), ((N / 4294967296 / 256 ^ 1 % 256 : Nat) : Int), ((N / 4294967296 / 256 ^ 2 % 256 : Nat) : Int), ((N / 4294967296 / 256 ^ 3 % 256 : Nat) : Int)]
  simp only [List.cons.injEq, and_true]
  refine ⟨?_, ?_, ?_, ?_⟩ <;> omega
 unfold prt; rw [e, CI]; omega
theorem IK (N M : Nat) (h : M < 18446744073709551616) : wrt N 0 8 M = M := by
 have e : splice (ptL N 8) 0 (ptL M 8) = ptL M 8 := rfl
 unfold wrt; rw [e]; exact pI M 8 rfl h
theorem IL (N M : Nat) (h : N < 18446744073709551616) : wrt N 0 4 M = N / 4294967296 * 4294967296 + M % 4294967296 := by
 have e : splice (ptL N 8) 0 (ptL M 4) = ptL (N / 4294967296 * 4294967296 + M % 4294967296) 8 := by
  generalize hK : N / 4294967296 * 4294967296 + M % 4294967296 = K
  show [((M / 256 ^ 0 % 256 : Nat) : Int), ((M / 256 ^ 1 % 256 : Nat) : Int), ((M / 256 ^ 2 % 256 : Nat) : Int), ((M / 256 ^ 3 % 256 : Nat) : Int), ((N / 256 ^ 4 % 256 : Nat) : Int), ((N / 256 ^ 5 % 256 : Nat) : Int), ((N / 256 ^ 6 % 256 : Nat) : Int), ((N / 256 ^ 7 % 256 : Nat) : Int)] = [((K / 256 ^ 0 % 256 : Nat) : Int), ((K / 256 ^ 1 % 256 : Nat) : Int), ((K / 256 ^ 2 % 256 : Nat) : Int), ((K / 256 ^ 3 % 256 : Nat) : Int), ((K / 256 ^ 4 % 256 : Nat) : Int), ((K / 256 ^ 5 % 256 : Nat) : Int), ((K / 256 ^ 6 % 256 : Nat) : Int), ((K / 256 ^ 7 % 256 : Nat) : Int)]
  simp only [List.cons.injEq, and_true]
  refine ⟨?_, ?_, ?_, ?_, ?_, ?_, ?_, ?_⟩ <;> omega
 unfold wrt; rw [e]; exact pI _ 8 rfl (by omega)
theorem CT (N M : Nat) : wrt N 4 4 M = M % 4294967296 * 4294967296 + N % 4294967296 := by
 have e : splice (ptL N 8) 4 (ptL M 4) = ptL (M % 4294967296 * 4294967296 + N % 4294967296) 8 := by
  generalize hK : M % 4294967296 * 4294967296 + N % 4294967296 = K
  show [((N / 256 ^ 0 % 256 : Nat) : Int), ((N / 256 ^ 1 % 256 : Nat) : Int), ((N / 256 ^ 2 % 256 : Nat) : Int), ((N / 256 ^ 3 % 256 : Nat) : Int), ((M / 256 ^ 0 % 256 : Nat) : Int), ((M / 256 ^ 1 % 256 : Nat) : Int), ((M / 256 ^ 2 % 256 : Nat) : Int), ((M / 256 ^ 3 % 256 : Nat) : Int)] = [((K / 256 ^ 0 % 256 : Nat) : Int), ((K / 256 ^ 1 % 256 : Nat) : Int), ((K / 256 ^ 2 % 256 : Nat) : Int), ((K / 256 ^ 3 % 256 : Nat) : Int), ((K / 256 ^ 4 % 256 : Nat) : Int), ((K / 256 ^ 5 % 256 : Nat) : Int), ((K / 256 ^ 6 % 256 : Nat) : Int), ((K / 256 ^ 7 % 256 : Nat) : Int)]
  simp only [List.cons.injEq, and_true]
  refine ⟨?_, ?_, ?_, ?_, ?_, ?_, ?_, ?_⟩ <;> omega
 unfold wrt; rw [e]; exact pI _ 8 rfl (by omega)
end Go.Proofs.YtiffkbmppmejhaaGreatDoor
