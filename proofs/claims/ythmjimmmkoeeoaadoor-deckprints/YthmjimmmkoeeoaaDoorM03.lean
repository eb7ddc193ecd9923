/-
  Pbo Pbp Pbe.
-/
import Derived.Test.YthmjimmmkoeeoaaDoorM02
import Derived.StillTailTactics
import Derived.Deep.CutRange
import Derived.BigRegion
import Derived.BigQuiet
import Derived.Deep.QuietTactic
import Derived.ChangeKeysEq
namespace Go.Proofs.YthmjimmmkoeeoaaDoor
set_option linter.unusedVariables false
open Go.ChangeShapes Go.WideShapes Go.ChangeAt Go.RowKit Go.Deep
/-- A block that is just this row. -/
def Row (w : World) (g : Nat) (cs : Array Value) (t : TypeId) : Prop := w.heap[g]? = some (.cells cs t (0, 0))
theorem ec_zero : #[Value.int .u8 0, .int .u64 0, .int .u8 0, .int .u64 0, .int .u8 0, .int .u64 0, .int .u8 0, .int .u64 0, .int .u8 0, .int .u64 0, .int .u8 0, .int .u64 0, .int .u8 0, .int .u64 0, .int .u8 0, .int .u64 0,
    .int .u8 0, .int .u64 0, .int .u8 0, .int .u64 0, .int .u8 0, .int .u64 0, .int .u8 0, .int .u64 0, .int .u8 0, .int .u64 0, .int .u8 0, .int .u64 0, .int .u8 0, .int .u64 0, .int .u8 0, .int .u64 0] = ec (fun _ => 0#8) (fun _ => 0#64) := by kernel_rfl
theorem pc_zero : #[Value.int .u8 0, .int .u8 0, .int .u8 0, .int .u8 0, .int .u8 0, .int .u8 0, .int .u8 0, .int .u8 0, .int .u8 0, .int .u8 0, .int .u8 0, .int .u8 0, .int .u8 0, .int .u8 0, .int .u8 0, .int .u8 0,
    .int .u64 0, .int .u64 0, .int .u64 0, .int .u64 0, .int .u64 0, .int .u64 0, .int .u64 0, .int .u64 0, .int .u64 0, .int .u64 0, .int .u64 0, .int .u64 0, .int .u64 0, .int .u64 0, .int .u64 0, .int .u64 0] = pc (fun _ => 0#8) (fun _ => 0#64) := by kernel_rfl
theorem Row.new (w : World) (cs : Array Value) (t : TypeId) : Row (w.alloc (.cells cs t)) w.heap.size cs t := heap_alloc_new w _
theorem Row.old {w : World} {g : Nat} {cs : Array Value} {t : TypeId} (h : Row w g cs t) (hg : g < w.heap.size) (o : Obj) : Row (w.alloc o) g cs t := (Below.heap_alloc w o g hg).trans h
theorem Row.lt {w : World} {g : Nat} {cs : Array Value} {t : TypeId} (h : Row w g cs t) : g < w.heap.size := by
  by_cases hg : g < w.heap.size
  · exact hg
  · have : w.heap[g]? = none := Array.getElem?_eq_none (by omega)
    rw [Row, this] at h; cases h
theorem Row.cell {w : World} {g : Nat} {cs : Array Value} {t : TypeId} (h : Row w g cs t) (j : Nat) : w.cell? ⟨g, j, none⟩ = cs[j]? := cell_of_row w g j cs t _ h
theorem Row.froz {w : World} {g : Nat} {cs : Array Value} {t : TypeId} (h : Row w g cs t) (j : Nat) : w.frozen? ⟨g, j, none⟩ = false := frozen_of_row w g j cs t h
theorem Row.later {w w' : World} {B g : Nat} {cs : Array Value} {t : TypeId} (h : Row w g cs t) (b : Below B w w') (hg : g < B) : Row w' g cs t := (b.block g hg).trans h
theorem Row.put {w : World} {g i : Nat} {cs : Array Value} {t : TypeId} (h : Row w g cs t) (v : Value) : Row (w.setCell ⟨g, i, none⟩ v) g (cs.setIfInBounds i v) t := heap_setCell_same w g i cs t v h
theorem Row.other {w : World} {g g' i : Nat} {cs : Array Value} {t : TypeId} (h : Row w g cs t) (hne : g ≠ g') (v : Value) : Row (w.setCell ⟨g', i, none⟩ v) g cs t := (heap_setCell_other w _ g v hne).trans h
theorem below_put {B g i : Nat} {a w : World} (h : Below B a w) (hg : B ≤ g) (v : Value) : Below B a (w.setCell ⟨g, i, none⟩ v) := Below.setCell h hg v
theorem below_row {B g : Nat} {a w : World} (h : Below B a w) (hg : B ≤ g) (cs : Array Value) : Below B a (w.setRow g cs) := h.trans ⟨rfl, rfl, rfl, by simp, fun j hj => setRow_other _ _ _ _ (by omega)⟩
/-- The first k places turned, the rest as they were. -/
def upto {α : Type} (k : Nat) (f g : Nat → α) : Nat → α := fun j => if j < k then f j else g j
theorem upto_succ {α : Type} (k : Nat) (f g : Nat → α) : upd (upto k f g) k (f k) = upto (k + 1) f g := by
  funext j; unfold upd upto
  by_cases h : j = k
  · subst h; rw [if_pos rfl, if_pos (by omega)]
  · rw [if_neg h]
    by_cases h2 : j < k
    · rw [if_pos h2, if_pos (by omega)]
    · rw [if_neg h2, if_neg (by omega)]
theorem upto_zero {α : Type} (f g : Nat → α) : upto 0 f g = g := by funext j; simp [upto]
theorem n64_pad (x : BitVec 64) : bits .and .u64 (n64 x) 18014398509481983 = n64 (pad x) := n64_and x 18014398509481983#64
theorem info48 : (Tryd.prog.info? 105).map (·.size) = some 2 := by kernel_rfl
set_option maxRecDepth 100000 in
set_option maxHeartbeats 1000000 in
theorem of_c (c : Nat → BitVec 8) (a : Nat → BitVec 64) (w : World) :
    Calls Tryd.prog 63 #[.agg (pc c a)] w fun e w' => e = .returned (.agg (ec (fun j => pcl (c j)) (fun j => pad (a j)))) ∧ Below w.heap.size w w' := by
  go_enter Tryd.func63, Tryd.ntmps63
  go_wp2
  rw [ec_zero]
  go_loopw [5] (fun i wr => ∃ k : Nat, k ≤ 16 ∧ i = .int .i64 k ∧ Hid (Row wr w.heap.size (pc c a) 27) ∧ Hid (Row wr (w.heap.size + 1) (ec (fun _ => 0#8) (fun _ => 0#64)) 107) ∧ Hid (Row wr (w.heap.size + 1 + 1) (ec (upto k (fun j => pcl (c j)) (fun _ => 0#8)) (upto k (fun j => pad (a j)) (fun _ => 0#64))) 107) ∧ Hid (Below w.heap.size w wr)) (fun i _ => 16 - (intOf i).toNat)
  case atStart =>
    refine ⟨0, by omega, rfl, ?_, ?_, ?_, ?_⟩
    · exact ((Row.new w _ _).old (by simp) _).old (by simp; omega) _
    · have := (Row.new (w.alloc (.cells (pc c a) 27)) (ec (fun _ => 0#8) (fun _ => 0#64)) 107).old (by simp) (.cells (ec (fun _ => 0#8) (fun _ => 0#64)) 107)
      simpa [Hid] using this
    · have := Row.new ((w.alloc (.cells (pc c a) 27)).alloc (.cells (ec (fun _ => 0#8) (fun _ => 0#64)) 107)) (ec (fun _ => 0#8) (fun _ => 0#64)) 107
      rw [upto_zero, upto_zero]
      simpa [Hid] using this
    · exact (((Below.refl _ _).alloc (Nat.le_refl _) _).alloc (by simp) _).alloc (by simp; omega) _
  case round =>
    obtain ⟨k, hk, rfl, h0, h1, h2, hb⟩ := hrel
    by_cases hlt : k < 16
    · have hlt2 : (k : Int) < 16 := by omega
      have c0 : wr.cell? ⟨w.heap.size, k, none⟩ = some (.int .u8 (n8 (c k))) := by rw [h0.out.cell, pc_at _ _ _ (by omega), pcell, if_pos hlt]
      have c1 : wr.cell? ⟨w.heap.size, 16 + k, none⟩ = some (.int .u64 (n64 (a k))) := by rw [h0.out.cell, pc_at _ _ _ (by omega), pcell, if_neg (by omega), Nat.add_sub_cancel_left]
      have hp := n64_pad (a k)
      go_upto_region 5 with fail
      refine wp_region_still_tail 13 (by kernel_rfl) (by kernel_rfl) ?_
      change wpStill _ _ wr.drew (fun a' => wpList _ _ _ _ a' wr.drew) _ _
      simp only [List.take_succ_cons, List.take_zero, List.drop_succ_cons, List.drop_zero]
      still_step
      still_step
      still_step
      still_step
      still_step
      still_call (properCfg_c (c k) _)
      still_step
      still_step
      still_step
      still_step
      still_step
      still_step
      still_step
      refine wpStill_nil ?_
      have d0 : ∃ v, wr.cell? ⟨w.heap.size + 1 + 1, k * 2, none⟩ = some v := ⟨_, by rw [h2.out.cell, ec_at _ _ _ (by omega)]⟩
      have d1 : ∃ v, wr.cell? ⟨w.heap.size + 1 + 1, k * 2 + 1, none⟩ = some v := ⟨_, by rw [h2.out.cell, ec_at _ _ _ (by omega)]⟩
      obtain ⟨v0, d0⟩ := d0
      obtain ⟨v1, d1⟩ := d1
      have f0 := h2.out.froz (k * 2)
      have f1 := h2.out.froz (k * 2 + 1)
      go_wp2
      go_roundw
      case rel =>
        refine ⟨k + 1, by omega, by go_num, ?_, ?_, ?_, ?_⟩
        · exact Row.other (Row.other h0.out (by omega) _) (by omega) _
        · exact Row.other (Row.other h1.out (by omega) _) (by omega) _
        · have h := Row.put (i := k * 2 + 1) (Row.put (i := k * 2) h2.out (.int .u8 (n8 (pcl (c k))))) (.int .u64 (n64 (pad (a k))))
          rw [ec_cfg _ _ _ _ hlt, ec_addr _ _ _ _ hlt, upto_succ k (fun j => pcl (c j)), upto_succ k (fun j => pad (a j))] at h
          exact h
        · exact (below_put (below_put hb.out (by omega) _) (by omega) _).drew
      case measure => simp [intOf]; omega
    · obtain rfl : k = 16 := by omega
      have e16 : ((16 : Nat) : Int) = 16 := rfl
      rw [e16]
      clear hk hlt
      have he : ec (upto 16 (fun j => pcl (c j)) fun _ => 0#8) (upto 16 (fun j => pad (a j)) fun _ => 0#64) = ec (fun j => pcl (c j)) (fun j => pad (a j)) :=
        ec_congr fun j hj => by simp [upto, hj]
      rw [he] at h2
      clear he
      go_wp2_with (first | (refine wpList_load_row (by rfl) _ _ (by rfl) _ (by rfl) 107 _ (0, 0) _ h2.out Tryd.underlying107 (by rfl) (by rw [ec_size]; kernel_rfl) ?_) | (refine wpList_store_row (by rfl) _ _ _ (by rfl) (by rfl) _ _ _ (by rfl) (by rfl) h1.out (by rw [ec_size]; kernel_rfl) (by rw [ec_size, ec_size]) (ec_ones _ _) ?_))
      refine bodyPost_ret (v := .agg (ec (fun j => pcl (c j)) (fun j => pad (a j)))) ?_ rfl ⟨rfl, ?_⟩
      · exact results_cell_row Tryd.results63 _ _ (w.heap.size + 1) 107 _ (0, 0) _ (by rfl) (setRow_heap _ _ _ _ _ _ h1.out) Tryd.underlying107 (by rfl) (by rw [ec_size]; kernel_rfl)
      · exact below_row hb.out (by omega) _
set_option maxRecDepth 100000 in
set_option maxHeartbeats 1000000 in
theorem told_c (c : Nat → BitVec 8) (a : Nat → BitVec 64) (g : Nat) (w : World) (hg : Row w g (ec c a) 107) :
    Calls Tryd.prog 64 #[.pointer (some ⟨g, 0, none⟩)] w fun e w' => e = .returned (.agg (pc c a)) ∧ Below w.heap.size w w' := by
  have hlg := hg.lt
  have HG : Hid (Row w g (ec c a) 107) := hg
  clear hg
  go_enter Tryd.func64, Tryd.ntmps64
  go_wp2
  rw [pc_zero]
  go_loopw [5] (fun i wr => ∃ k : Nat, k ≤ 16 ∧ i = .int .i64 k ∧ Hid (Row wr g (ec c a) 107) ∧ Hid (Row wr w.heap.size (pc (fun _ => 0#8) (fun _ => 0#64)) 27) ∧ Hid (Row wr (w.heap.size + 1) (pc (upto k c (fun _ => 0#8)) (upto k a (fun _ => 0#64))) 27) ∧ Hid (Below w.heap.size w wr)) (fun i _ => 16 - (intOf i).toNat)
  case atStart =>
    refine ⟨0, by omega, rfl, ?_, ?_, ?_, ?_⟩
    · exact (HG.out.old hlg _).old (by simp; omega) _
    · exact (Row.new w _ _).old (by simp) _
    · have := Row.new (w.alloc (.cells (pc (fun _ => 0#8) (fun _ => 0#64)) 27)) (pc (fun _ => 0#8) (fun _ => 0#64)) 27
      rw [upto_zero, upto_zero]
      simpa [Hid] using this
    · exact (((Below.refl _ _).alloc (Nat.le_refl _) _).alloc (by simp) _)
  case round =>
    obtain ⟨k, hk, rfl, h0, h1, h2, hb⟩ := hrel
    by_cases hlt : k < 16
    · have hlt2 : (k : Int) < 16 := by omega
      have c0 : wr.cell? ⟨g, k * 2, none⟩ = some (.int .u8 (n8 (c k))) := by rw [h0.out.cell, ec_at _ _ _ (by omega), ecell, if_pos (by omega), Nat.mul_div_cancel _ (by omega)]
      have c1 : wr.cell? ⟨g, k * 2 + 1, none⟩ = some (.int .u64 (n64 (a k))) := by rw [h0.out.cell, ec_at _ _ _ (by omega), ecell, if_neg (by omega), show (k * 2 + 1) / 2 = k by omega]
      have d0 : ∃ v, wr.cell? ⟨w.heap.size + 1, k, none⟩ = some v := ⟨_, by rw [h2.out.cell, pc_at _ _ _ (by omega)]⟩
      have d1 : ∃ v, wr.cell? ⟨w.heap.size + 1, 16 + k, none⟩ = some v := ⟨_, by rw [h2.out.cell, pc_at _ _ _ (by omega)]⟩
      obtain ⟨v0, d0⟩ := d0
      obtain ⟨v1, d1⟩ := d1
      have f0 := h2.out.froz k
      have f1 := h2.out.froz (16 + k)
      have ne1 : ¬ 16 + k = k := by omega
      have ne2 : ¬ k = 16 + k := by omega
      go_upto_region 5 with fail
      go_region
      go_wp2
      go_roundw
      case rel =>
        refine ⟨k + 1, by omega, by go_num, ?_, ?_, ?_, ?_⟩
        · exact Row.other (Row.other h0.out (by omega) _) (by omega) _
        · exact Row.other (Row.other h1.out (by omega) _) (by omega) _
        · have h := Row.put (i := 16 + k) (Row.put (i := k) h2.out (.int .u8 (n8 (c k)))) (.int .u64 (n64 (a k)))
          rw [pc_cfg _ _ _ _ hlt, pc_addr _ _ _ _ hlt, upto_succ k c, upto_succ k a] at h
          exact h
        · exact (below_put (below_put hb.out (by omega) _) (by omega) _).drew
      case measure => simp [intOf]; omega
    · obtain rfl : k = 16 := by omega
      have e16 : ((16 : Nat) : Int) = 16 := rfl
      rw [e16]
      clear hk hlt
      have he : pc (upto 16 c fun _ => 0#8) (upto 16 a fun _ => 0#64) = pc c a :=
        pc_congr fun j hj => by simp [upto, hj]
      rw [he] at h2
      clear he
      go_wp2_with (first | (refine wpList_load_row (by rfl) _ _ (by rfl) _ (by rfl) 27 _ (0, 0) _ h2.out Tryd.underlying27 (by rfl) (by rw [pc_size]; kernel_rfl) ?_) | (refine wpList_store_row (by rfl) _ _ _ (by rfl) (by rfl) _ _ _ (by rfl) (by rfl) h1.out (by rw [pc_size]; kernel_rfl) (by rw [pc_size, pc_size]) (pc_ones _ _) ?_))
      refine bodyPost_ret (v := .agg (pc c a)) ?_ rfl ⟨rfl, ?_⟩
      · exact results_cell_row Tryd.results64 _ _ w.heap.size 27 _ (0, 0) _ (by rfl) (setRow_heap _ _ _ _ _ _ h1.out) Tryd.underlying27 (by rfl) (by rw [pc_size]; kernel_rfl)
      · exact below_row hb.out (by omega) _
end Go.Proofs.YthmjimmmkoeeoaaDoor
namespace Go.Proofs.YthmjimmmkoeeoaaDoor
set_option linter.unusedVariables false
open Go.ChangeShapes Go.WideShapes Go.ChangeAt Go.RowKit Go.Deep
theorem start1 (w : World) (cs : Array Value) (t : TypeId) : ∃ W, w.alloc (.cells cs t) = W ∧ Hid (Row W w.heap.size cs t) ∧ Hid (Below w.heap.size w W) ∧ W.heap.size = w.heap.size + 1 :=
  ⟨_, rfl, Row.new _ _ _, (Below.refl _ _).alloc (Nat.le_refl _) _, by simp⟩
theorem start2 (w : World) (cs cs' : Array Value) (t t' : TypeId) : ∃ W, (w.alloc (.cells cs t)).alloc (.cells cs' t') = W ∧ Hid (Row W w.heap.size cs t) ∧ Hid (Row W (w.heap.size + 1) cs' t') ∧ Hid (Below w.heap.size w W) ∧ W.heap.size = w.heap.size + 2 :=
  ⟨_, rfl, (Row.new _ _ _).old (by simp) _, by have := Row.new (w.alloc (.cells cs t)) cs' t'; simpa [Hid] using this, ((Below.refl _ _).alloc (Nat.le_refl _) _).alloc (by simp) _, by simp⟩
def pz : Array Value := pc (fun _ => 0#8) (fun _ => 0#64)
theorem pz_size : pz.size = 32 := pc_size _ _
/-- The entries that are proper. -/
def PC (c : Nat → BitVec 8) : Nat → BitVec 8 := fun j => pcl (c j)
def PA (a : Nat → BitVec 64) : Nat → BitVec 64 := fun j => pad (a j)
theorem of_p (c : Nat → BitVec 8) (a : Nat → BitVec 64) (w : World) :
    Calls Tryd.prog 63 #[.agg (pc c a)] w fun e w' => e = .returned (.agg (ec (PC c) (PA a))) ∧ Below w.heap.size w w' := of_c c a w
set_option maxRecDepth 100000 in
set_option maxHeartbeats 1000000 in
theorem Proper_c (c : Nat → BitVec 8) (a : Nat → BitVec 64) (w : World) :
    Calls Tryd.prog 45 #[.agg (pc c a)] w fun e w' => e = .returned (.agg (pc (PC c) (PA a))) ∧ Below w.heap.size w w' := by
  obtain ⟨W0, hW0, r0, r1, b0, s0⟩ := start2 w (pc c a) pz 27 27
  have HS : Hid (W0.heap.size = w.heap.size + 2) := s0
  clear s0
  go_enter Tryd.func45, Tryd.ntmps45
  go_upto_region 1 with fail
  rw [pc_zero, ← pz, hW0]
  clear hW0
  go_wp2_with (first | (refine wpList_load_row (by rfl) _ _ (by rfl) _ (by rfl) 27 _ (0, 0) _ r0.out Tryd.underlying27 (by rfl) (by rw [pc_size]; kernel_rfl) ?_) | (go_at_call 63; refine (of_p c a _).mono ?_; rintro e w1 ⟨rfl, hb1⟩; have HB1 : Hid (Below W0.heap.size W0 w1) := hb1; clear hb1) | (go_at_call 64; refine (told_c (PC c) (PA a) _ _ (Row.new _ _ _)).mono ?_; rintro e w2 ⟨rfl, hb2⟩; have HB2 : Hid (Below w1.heap.size w1 w2) := (Below.alloc (Below.refl _ _) (Nat.le_refl _) _).trans (hb2.mono (by simp)); clear hb2) | (refine wpList_store_row (by rfl) _ _ _ (by rfl) (by rfl) _ _ _ (by rfl) (by rfl) ((r1.out.later HB1.out (by rw [HS.out]; omega)).later HB2.out (Nat.lt_of_lt_of_le (by rw [HS.out]; omega) HB1.out.size)) (by rw [pc_size]; kernel_rfl) (by rw [pc_size, pz_size]) (pc_ones _ _) ?_) | (refine wpList_store_new (by rfl) _ _ _ (by rfl) (by rfl) _ _ (by rfl) (by rfl) (by rw [ec_size]; kernel_rfl) (by rw [ec_size]; rfl) (ec_ones _ _) ?_))
  have h9 : Row w2 (w.heap.size + 1) pz 27 := (r1.out.later HB1.out (by rw [HS.out]; omega)).later HB2.out (Nat.lt_of_lt_of_le (by rw [HS.out]; omega) HB1.out.size)
  refine bodyPost_ret (v := .agg (pc (PC c) (PA a))) ?_ rfl ⟨rfl, ?_⟩
  · exact results_cell_row Tryd.results45 _ _ (w.heap.size + 1) 27 _ (0, 0) _ (by rfl) (setRow_heap _ _ _ _ _ _ h9) Tryd.underlying27 (by rfl) (by rw [pc_size]; kernel_rfl)
  · exact below_row ((b0.out.trans (HB1.out.mono (by rw [HS.out]; omega))).trans (HB2.out.mono (Nat.le_trans (by rw [HS.out]; omega) HB1.out.size))) (by omega) _
set_option maxRecDepth 100000 in
set_option maxHeartbeats 1000000 in
theorem rProper_c (c : Nat → BitVec 8) (a : Nat → BitVec 64) (w : World) :
    Calls Tryd.prog 34 #[.agg (pc c a)] w fun e w' => e = .returned (.agg (pc (PC c) (PA a))) ∧ Below w.heap.size w w' := by
  go_enter Tryd.func34, Tryd.ntmps34
  go_wp2
  rw [pc_zero, ← pz]
  go_loopw [3] (fun i wr => ∃ k : Nat, k ≤ 16 ∧ i = .int .i64 k ∧ Hid (Row wr w.heap.size (pc (upto k (PC c) c) (upto k (PA a) a)) 27) ∧ Hid (Row wr (w.heap.size + 1) pz 27) ∧ Hid (Below w.heap.size w wr)) (fun i _ => 16 - (intOf i).toNat)
  case atStart =>
    obtain ⟨W0, hW0, r0, r1, b0, s0⟩ := start2 w (pc c a) pz 27 27
    rw [hW0]
    refine ⟨0, by omega, rfl, ?_, r1, b0⟩
    rw [upto_zero, upto_zero]
    exact r0
  case round =>
    obtain ⟨k, hk, rfl, h0, h1, hb⟩ := hrel
    by_cases hlt : k < 16
    · have hlt2 : (k : Int) < 16 := by omega
      have c0 : wr.cell? ⟨w.heap.size, k, none⟩ = some (.int .u8 (n8 (c k))) := by rw [h0.out.cell, pc_at _ _ _ (by omega), pcell, if_pos hlt, upto, if_neg (by omega)]
      have c1 : wr.cell? ⟨w.heap.size, 16 + k, none⟩ = some (.int .u64 (n64 (a k))) := by rw [h0.out.cell, pc_at _ _ _ (by omega), pcell, if_neg (by omega), Nat.add_sub_cancel_left, upto, if_neg (by omega)]
      have f0 := h0.out.froz k
      have f1 := h0.out.froz (16 + k)
      have hp := n64_pad (a k)
      have ne1 : ¬ 16 + k = k := by omega
      have ne2 : ¬ k = 16 + k := by omega
      go_wp2_with (go_at_call 52; refine (cleaned_c (c k) _).mono ?_; rintro e w1 ⟨rfl, hw⟩; have hw2 := hw.symm; subst hw2)
      go_roundw
      case rel =>
        refine ⟨k + 1, by omega, by go_num, ?_, ?_, ?_⟩
        · have h := Row.put (i := 16 + k) (Row.put (i := k) h0.out (.int .u8 (n8 (PC c k)))) (.int .u64 (n64 (PA a k)))
          rw [pc_cfg _ _ _ _ hlt, pc_addr _ _ _ _ hlt, upto_succ k (PC c), upto_succ k (PA a)] at h
          exact h
        · exact Row.other (Row.other h1.out (by omega) _) (by omega) _
        · exact below_put (below_put hb.out (by omega) _) (by omega) _
      case measure => simp [intOf]; omega
    · obtain rfl : k = 16 := by omega
      have e16 : ((16 : Nat) : Int) = 16 := rfl
      rw [e16]
      clear hk hlt
      have he : pc (upto 16 (PC c) c) (upto 16 (PA a) a) = pc (PC c) (PA a) := pc_congr fun j hj => by simp [upto, hj]
      rw [he] at h0
      clear he
      go_wp2_with (first | (refine wpList_load_row (by rfl) _ _ (by rfl) _ (by rfl) 27 _ (0, 0) _ h0.out Tryd.underlying27 (by rfl) (by rw [pc_size]; kernel_rfl) ?_) | (refine wpList_store_row (by rfl) _ _ _ (by rfl) (by rfl) _ _ _ (by rfl) (by rfl) h1.out (by rw [pc_size]; kernel_rfl) (by rw [pc_size, pz_size]) (pc_ones _ _) ?_))
      refine bodyPost_ret (v := .agg (pc (PC c) (PA a))) ?_ rfl ⟨rfl, ?_⟩
      · exact results_cell_row Tryd.results34 _ _ (w.heap.size + 1) 27 _ (0, 0) _ (by rfl) (setRow_heap _ _ _ _ _ _ h1.out) Tryd.underlying27 (by rfl) (by rw [pc_size]; kernel_rfl)
      · exact below_row hb.out (by omega) _
end Go.Proofs.YthmjimmmkoeeoaaDoor
namespace Go.Proofs.YthmjimmmkoeeoaaDoor
set_option linter.unusedVariables false
open Go.ChangeShapes Go.WideShapes Go.ChangeAt Go.RowKit Go.Deep
theorem items_refl {P : Program} (w : World) (d : Nat) (e : TypeId) (kk : IntKind) (he : P.underlying e = some (.int kk)) (xs : Array Value) (c : Nat) : ∀ is : List Nat, (∀ i ∈ is, ∃ k n, (part e xs (i * c)).run P w = .ok (.int k n) w) →
    (Op.eqItems (d + 1) e c xs xs is).run P w = .ok true w
  | [], _ => by simp [Op.eqItems]
  | i :: is, h => by
    obtain ⟨k, n, hp⟩ := h i (by simp)
    have ih := items_refl w d e kk he xs c is (fun j hj => h j (by simp [hj]))
    simp only [Op.eqItems, Sem.run_bind, hp, Result.andThen_ok, run_equalIn_int w d e k kk n n he, beq_self_eq_true, Bool.not_true, Bool.false_eq_true, if_false, ih]
theorem part_pc_cfg (xs : Array Value) (w : World) : (part 24 xs 0).run Tryd.prog w = .ok (.agg (xs.extract 0 16)) w := by
  simp [part]
theorem part_pc_addr (xs : Array Value) (w : World) : (part 25 xs 16).run Tryd.prog w = .ok (.agg (xs.extract 16 32)) w := by
  simp [part]
theorem eq_cfgs (w : World) (d : Nat) (xs : Array Value) (h : ∀ i, i < 16 → ∃ n, xs[i]? = some (.int .u8 n)) : (Op.equalIn (d + 2) 24 (.agg xs) (.agg xs)).run Tryd.prog w = .ok true w := by
  cases hi : Tryd.prog.info? 5 with
  | none =>
    have hq : (Tryd.prog.info? 5).isSome = true := by kernel_rfl
    rw [hi] at hq
    cases hq
  | some i =>
    rw [run_equalIn_array w (d + 1) xs xs Tryd.underlying24 hi]
    refine items_refl w d _ _ Tryd.underlying5 xs _ _ fun j hj => ?_
    rw [show Tryd.prog.cellsOf 5 = 1 by kernel_rfl, Nat.mul_one]
    obtain ⟨n, hn⟩ := h j (by simpa using hj)
    exact ⟨_, n, run_part_plain w (by kernel_rfl) hn⟩
theorem eq_addrs (w : World) (d : Nat) (xs : Array Value) (h : ∀ i, i < 16 → ∃ n, xs[i]? = some (.int .u64 n)) : (Op.equalIn (d + 2) 25 (.agg xs) (.agg xs)).run Tryd.prog w = .ok true w := by
  cases hi : Tryd.prog.info? 22 with
  | none =>
    have hq : (Tryd.prog.info? 22).isSome = true := by kernel_rfl
    rw [hi] at hq
    cases hq
  | some i =>
    rw [run_equalIn_array w (d + 1) xs xs Tryd.underlying25 hi]
    refine items_refl w d _ _ Tryd.underlying22 xs _ _ fun j hj => ?_
    rw [show Tryd.prog.cellsOf 22 = 1 by kernel_rfl, Nat.mul_one]
    obtain ⟨n, hn⟩ := h j (by simpa using hj)
    exact ⟨_, n, run_part_plain w (by kernel_rfl) hn⟩
theorem pc_cfgs_at (c : Nat → BitVec 8) (a : Nat → BitVec 64) (i : Nat) (h : i < 16) : ((pc c a).extract 0 16)[i]? = some (.int .u8 (n8 (c i))) := by
  rw [Array.getElem?_extract, if_pos (by rw [pc_size]; omega), Nat.zero_add, pc_at _ _ _ (by omega), pcell, if_pos h]
theorem pc_addrs_at (c : Nat → BitVec 8) (a : Nat → BitVec 64) (i : Nat) (h : i < 16) : ((pc c a).extract 16 32)[i]? = some (.int .u64 (n64 (a i))) := by
  rw [Array.getElem?_extract, if_pos (by rw [pc_size]; omega), pc_at _ _ _ (by omega), pcell, if_neg (by omega), Nat.add_sub_cancel_left]
theorem eq_pc (w : World) (c : Nat → BitVec 8) (a : Nat → BitVec 64) : (Op.equalIn 10000 27 (.agg (pc c a)) (.agg (pc c a))).run Tryd.prog w = .ok true w := by
  rw [run_equalIn_struct w 9999 27 _ _ (by kernel_rfl) (by kernel_rfl)]
  have e1 := eq_cfgs w 9997 ((pc c a).extract 0 16) (fun i hi => ⟨_, pc_cfgs_at c a i hi⟩)
  have e2 := eq_addrs w 9997 ((pc c a).extract 16 32) (fun i hi => ⟨_, pc_addrs_at c a i hi⟩)
  simp [Program.fieldsOf, Tryd.underlying27, Op.eqFields, part_pc_cfg, part_pc_addr, e1, e2]
theorem quiet_load_agg {P : Program} {W : World} {o : Oper} {a : Act} {K : Act → Prop} (ty : TypeId) (x : Operand) (ho : o.op = .load ty x) (g off : Nat) (hx : a.eval x = .pointer (some ⟨g, off, none⟩)) (cs : Array Value) (d : TypeDesc)
    (hg : g < W.heap.size) (hc : ∀ j v, cs[j]? = some v → W.cell? ⟨g, off + j, none⟩ = some v) (hu : P.underlying ty = some d) (hd : (match d with | .struct _ | .array _ _ => true | _ => false) = true) (hi : (P.info? ty).map (·.size) = some cs.size)
    (hk : K (a.put o.dst (.agg cs))) : o.quiet P a (fun w' => ∃ x : Later W, w' = x.1) K := by
  refine ⟨_, fun w hw => ?_, hk⟩
  obtain ⟨y, rfl⟩ := hw
  have hl := run_load_agg (P := P) y.1 ty g off cs d (fun j v hv => (later_cell y (by exact hg)).trans (hc j v hv)) hu hd hi
  unfold Oper.quietAt execOp
  simp only [ho, hx, Instr.loadAt, Instr.sureAddr, Sem.run_bind, Sem.run_pure, Result.andThen_ok, hl]
  exact ⟨rfl, rfl⟩
end Go.Proofs.YthmjimmmkoeeoaaDoor
