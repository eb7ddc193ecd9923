/-
  Pbl Pbo Pbp Pbe Pop.
-/
import Derived.Test.YtidfndgedopghaaGreatDoorM03
import Derived.StillTailTactics
import Derived.Deep.CutRange
import Derived.BigRegion
import Derived.BigQuiet
import Derived.Deep.QuietTactic
import Derived.ChangeKeysEq
import Derived.SizedLaws
import Derived.OpenShut
namespace Go.Proofs.YtidfndgedopghaaGreatDoor
set_option linter.unusedVariables false
open Go.ChangeShapes Go.WideShapes Go.ChangeAt Go.RowKit Go.Deep
theorem n8_eq0 (x : BitVec 8) : (n8 x == 0) = decide (x = 0#8) := by
  by_cases h : x = 0#8
  · subst h; rfl
  · have : ¬ n8 x = 0 := fun e => h (n8_inj.1 (e.trans rfl))
    simp [h, this]
theorem pcl_even (x : BitVec 8) (h : x &&& 1#8 = 0#8) : pcl x = x &&& ~~~2#8 &&& 159#8 := by
  unfold pcl; rw [if_pos h, BitVec.and_assoc]; rfl
theorem pcl_odd (x : BitVec 8) (h : ¬ x &&& 1#8 = 0#8) : pcl x = x &&& 159#8 := by
  unfold pcl; rw [if_neg h]
theorem odd_159 : ∀ x : BitVec 8, x &&& 159#8 &&& 1#8 = x &&& 1#8 := by decide +kernel
theorem pcl_even' (x : BitVec 8) (h : x &&& 1#8 = 0#8) : pcl x = x &&& 159#8 &&& ~~~2#8 := by
  unfold pcl; rw [if_pos h, BitVec.and_assoc]; rfl
theorem properCfg_c (x : BitVec 8) (w : World) : Calls Tryz.prog 131 #[.int .u8 (n8 x)] w fun e w' => e = .returned (.int .u8 (n8 (pcl x))) ∧ w' = w := by
  have b1 : bits .and .u8 (n8 x) 1 = n8 (x &&& 1#8) := n8_and x 1#8
  by_cases h : x &&& 1#8 = 0#8
  · have b2 : bits .andNot .u8 (n8 x) 2 = n8 (x &&& ~~~2#8) := n8_andNot x 2#8
    have b3 : bits .and .u8 (n8 (x &&& ~~~2#8)) 159 = n8 (x &&& ~~~2#8 &&& 159#8) := n8_and _ 159#8
    have e0 : (n8 (x &&& 1#8) == 0) = true := by rw [h]; rfl
    rw [pcl_even x h]
    generalize x &&& ~~~2#8 = y at b2 b3 ⊢
    generalize x &&& 1#8 = z at b1 e0
    clear h
    go_enter Tryz.func131, Tryz.ntmps131
    go_wp2
    go_ret
    exact ⟨rfl, rfl⟩
  · have b3 : bits .and .u8 (n8 x) 159 = n8 (x &&& 159#8) := n8_and _ 159#8
    have e0 : (n8 (x &&& 1#8) == 0) = false := by rw [n8_eq0]; simpa using h
    rw [pcl_odd x h]
    generalize x &&& 1#8 = z at b1 e0
    clear h
    go_enter Tryz.func131, Tryz.ntmps131
    go_wp2
    go_ret
    exact ⟨rfl, rfl⟩
theorem cleaned_c (x : BitVec 8) (w : World) : Calls Tryz.prog 127 #[.int .u8 (n8 x)] w fun e w' => e = .returned (.int .u8 (n8 (pcl x))) ∧ w' = w := by
  have b0 : bits .and .u8 (n8 x) 159 = n8 (x &&& 159#8) := n8_and x 159#8
  have b1 : bits .and .u8 (n8 (x &&& 159#8)) 1 = n8 (x &&& 1#8) := by rw [← odd_159 x]; exact n8_and _ 1#8
  by_cases h : x &&& 1#8 = 0#8
  · have b2 : bits .andNot .u8 (n8 (x &&& 159#8)) 2 = n8 (x &&& 159#8 &&& ~~~2#8) := n8_andNot _ 2#8
    have e0 : (n8 (x &&& 1#8) == 0) = true := by rw [h]; rfl
    rw [pcl_even' x h]
    generalize x &&& 159#8 &&& ~~~2#8 = y at b2 ⊢
    generalize x &&& 159#8 = y' at b0 b1 b2
    generalize x &&& 1#8 = z at b1 e0
    clear h
    go_enter Tryz.func127, Tryz.ntmps127
    go_wp2
    go_ret
    exact ⟨rfl, rfl⟩
  · have e0 : (n8 (x &&& 1#8) == 0) = false := by rw [n8_eq0]; simpa using h
    rw [pcl_odd x h]
    generalize x &&& 159#8 = y' at b0 b1 ⊢
    generalize x &&& 1#8 = z at b1 e0
    clear h
    go_enter Tryz.func127, Tryz.ntmps127
    go_wp2
    go_ret
    exact ⟨rfl, rfl⟩
theorem isEntry_c (i : Int) (w : World) : Calls Tryz.prog 172 #[.int .i64 i] w fun e w' => e = .returned (.bool (decide (0 ≤ i ∧ i < 16))) ∧ w' = w := by
  by_cases h0 : 0 ≤ i
  · by_cases h1 : i < 16
    · go_enter Tryz.func172, Tryz.ntmps172
      go_wp2
      go_ret
      exact ⟨by simp_all, rfl⟩
    · go_enter Tryz.func172, Tryz.ntmps172
      go_wp2
      go_ret
      exact ⟨by simp_all, rfl⟩
  · have h1 : i < 16 := by omega
    go_enter Tryz.func172, Tryz.ntmps172
    go_wp2
    go_ret
    exact ⟨by simp_all, rfl⟩
/-- An entry's lock, kind, rights. -/
def lk (x : BitVec 8) : Bool := decide (¬ x &&& 128#8 = 0#8)
def kd (x : BitVec 8) : BitVec 8 := x >>> 3 &&& 3#8
def rts (x : BitVec 8) : BitVec 8 := x &&& 7#8
theorem elocked_c (x : BitVec 8) (y : Value) (w : World) : Calls Tryz.prog 173 #[.agg #[.int .u8 (n8 x), y]] w fun e w' => e = .returned (.bool (lk x)) ∧ Below w.heap.size w w' := by
  have b1 : bits .and .u8 (n8 x) 128 = n8 (x &&& 128#8) := n8_and x 128#8
  have b2 : (n8 (x &&& 128#8) != 0) = lk x := by unfold bne; rw [n8_eq0]; unfold lk; simp
  generalize x &&& 128#8 = z at b1 b2
  generalize lk x = q at b2 ⊢
  go_enter Tryz.func173, Tryz.ntmps173
  go_wp2
  go_ret
  exact ⟨by simp_all, (Below.refl _ _).alloc (Nat.le_refl _) _⟩
theorem ekind_c (x : BitVec 8) (y : Value) (w : World) : Calls Tryz.prog 157 #[.agg #[.int .u8 (n8 x), y]] w fun e w' => e = .returned (.int .u8 (n8 (kd x))) ∧ Below w.heap.size w w' := by
  have b0 : n8 x / 8 = n8 (x >>> 3) := n8_shr x 3
  have b1 : bits .and .u8 (n8 (x >>> 3)) 3 = n8 (kd x) := n8_and (x >>> 3) 3#8
  generalize kd x = z at b1 ⊢
  generalize x >>> 3 = z' at b0 b1
  go_enter Tryz.func157, Tryz.ntmps157
  go_wp2
  go_ret
  exact ⟨by simp_all, (Below.refl _ _).alloc (Nat.le_refl _) _⟩
theorem erights_c (x : BitVec 8) (y : Value) (w : World) : Calls Tryz.prog 55 #[.agg #[.int .u8 (n8 x), y]] w fun e w' => e = .returned (.int .i64 (n8 (rts x))) ∧ Below w.heap.size w w' := by
  have b1 : bits .and .u8 (n8 x) 7 = n8 (rts x) := n8_and x 7#8
  have b2 : wrap64 (n8 (rts x)) = n8 (rts x) := by have := n8_lo (rts x); have := n8_hi (rts x); unfold wrap64; omega
  generalize rts x = z at b1 b2 ⊢
  go_enter Tryz.func55, Tryz.ntmps55
  go_wp2
  go_ret
  exact ⟨by simp_all, (Below.refl _ _).alloc (Nat.le_refl _) _⟩
theorem isSize_c (i : Int) (w : World) : Calls Tryz.prog 165 #[.int .i64 i] w fun e w' => e = .returned (.bool (decide (1 ≤ i ∧ i ≤ 8))) ∧ w' = w := by
  by_cases h0 : 1 ≤ i
  · by_cases h1 : i ≤ 8
    · go_enter Tryz.func165, Tryz.ntmps165
      go_wp2
      go_ret
      exact ⟨by simp_all, rfl⟩
    · go_enter Tryz.func165, Tryz.ntmps165
      go_wp2
      go_ret
      exact ⟨by simp_all, rfl⟩
  · have h1 : i ≤ 8 := by omega
    go_enter Tryz.func165, Tryz.ntmps165
    go_wp2
    go_ret
    exact ⟨by simp_all, rfl⟩
theorem isRights_c (i : Int) (w : World) : Calls Tryz.prog 166 #[.int .i64 i] w fun e w' => e = .returned (.bool (decide (1 ≤ i ∧ i ≤ 7))) ∧ w' = w := by
  by_cases h0 : 1 ≤ i
  · by_cases h1 : i ≤ 7
    · go_enter Tryz.func166, Tryz.ntmps166
      go_wp2
      go_ret
      exact ⟨by simp_all, rfl⟩
    · go_enter Tryz.func166, Tryz.ntmps166
      go_wp2
      go_ret
      exact ⟨by simp_all, rfl⟩
  · have h1 : i ≤ 7 := by omega
    go_enter Tryz.func166, Tryz.ntmps166
    go_wp2
    go_ret
    exact ⟨by simp_all, rfl⟩
theorem isMode_c (i : Int) (w : World) : Calls Tryz.prog 164 #[.int .i64 i] w fun e w' => e = .returned (.bool (decide (i = 0 ∨ i = 3))) ∧ w' = w := by
  by_cases h0 : i = 0
  · subst h0
    go_enter Tryz.func164, Tryz.ntmps164
    go_wp2
    go_ret
    exact ⟨rfl, rfl⟩
  · by_cases h1 : i = 3
    · subst h1
      go_enter Tryz.func164, Tryz.ntmps164
      go_wp2
      go_ret
      exact ⟨rfl, rfl⟩
    · go_enter Tryz.func164, Tryz.ntmps164
      go_wp2
      go_ret
      exact ⟨by simp_all, rfl⟩
end Go.Proofs.YtidfndgedopghaaGreatDoor
namespace Go.Proofs.YtidfndgedopghaaGreatDoor
set_option linter.unusedVariables false
open Go.ChangeShapes Go.WideShapes Go.ChangeAt Go.RowKit Go.Deep
/-- A block that is just this row. -/
def Row (w : World) (g : Nat) (cs : Array Value) (t : TypeId) : Prop := w.heap[g]? = some (.cells cs t (0, 0))
theorem ec_zero : #[Value.int .u8 0, .int .u64 0, .int .u8 0, .int .u64 0, .int .u8 0, .int .u64 0, .int .u8 0, .int .u64 0, .int .u8 0, .int .u64 0, .int .u8 0, .int .u64 0, .int .u8 0, .int .u64 0, .int .u8 0, .int .u64 0,
    .int .u8 0, .int .u64 0, .int .u8 0, .int .u64 0, .int .u8 0, .int .u64 0, .int .u8 0, .int .u64 0, .int .u8 0, .int .u64 0, .int .u8 0, .int .u64 0, .int .u8 0, .int .u64 0, .int .u8 0, .int .u64 0] = ec (fun _ => 0#8) (fun _ => 0#64) := by kernel_rfl
theorem pc_zero : #[Value.int .u8 0, .int .u8 0, .int .u8 0, .int .u8 0, .int .u8 0, .int .u8 0, .int .u8 0, .int .u8 0, .int .u8 0, .int .u8 0, .int .u8 0, .int .u8 0, .int .u8 0, .int .u8 0, .int .u8 0, .int .u8 0,
    .int .u64 0, .int .u64 0, .int .u64 0, .int .u64 0, .int .u64 0, .int .u64 0, .int .u64 0, .int .u64 0, .int .u64 0, .int .u64 0, .int .u64 0, .int .u64 0, .int .u64 0, .int .u64 0, .int .u64 0, .int .u64 0] = pc (fun _ => 0#8) (fun _ => 0#64) := by kernel_rfl
theorem Row.new (w : World) (cs : Array Value) (t : TypeId) : Row (w.alloc (.cells cs t)) w.heap.size cs t := heap_alloc_new w _
theorem Row.old {w : World} {g : Nat} {cs : Array Value} {t : TypeId} (h : Row w g cs t) (hg : g < w.heap.size) (o : Obj) : Row (w.alloc o) g cs t := (Below.heap_alloc w o g hg).trans h
theorem Row.lt {w : World} {g : Nat} {cs : Array Value} {t : TypeId} (h : Row w g cs t) : g < w.heap.size := by
  by_cases hg : g < w.heap.size
  · exact hg
  · have : w.heap[g]? = none := Array.getElem?_eq_none (by omega)
    rw [Row, this] at h; cases h
theorem Row.cell {w : World} {g : Nat} {cs : Array Value} {t : TypeId} (h : Row w g cs t) (j : Nat) : w.cell? ⟨g, j, none⟩ = cs[j]? := cell_of_row w g j cs t _ h
theorem Row.froz {w : World} {g : Nat} {cs : Array Value} {t : TypeId} (h : Row w g cs t) (j : Nat) : w.frozen? ⟨g, j, none⟩ = false := frozen_of_row w g j cs t h
theorem Row.later {w w' : World} {B g : Nat} {cs : Array Value} {t : TypeId} (h : Row w g cs t) (b : Below B w w') (hg : g < B) : Row w' g cs t := (b.block g hg).trans h
theorem Row.put {w : World} {g i : Nat} {cs : Array Value} {t : TypeId} (h : Row w g cs t) (v : Value) : Row (w.setCell ⟨g, i, none⟩ v) g (cs.setIfInBounds i v) t := heap_setCell_same w g i cs t v h
theorem Row.other {w : World} {g g' i : Nat} {cs : Array Value} {t : TypeId} (h : Row w g cs t) (hne : g ≠ g') (v : Value) : Row (w.setCell ⟨g', i, none⟩ v) g cs t := (heap_setCell_other w _ g v hne).trans h
theorem below_put {B g i : Nat} {a w : World} (h : Below B a w) (hg : B ≤ g) (v : Value) : Below B a (w.setCell ⟨g, i, none⟩ v) := Below.setCell h hg v
theorem below_row {B g : Nat} {a w : World} (h : Below B a w) (hg : B ≤ g) (cs : Array Value) : Below B a (w.setRow g cs) := h.trans ⟨rfl, rfl, rfl, by simp, fun j hj => setRow_other _ _ _ _ (by omega)⟩
/-- The first k places turned, the rest as they were. -/
def upto {α : Type} (k : Nat) (f g : Nat → α) : Nat → α := fun j => if j < k then f j else g j
theorem upto_succ {α : Type} (k : Nat) (f g : Nat → α) : upd (upto k f g) k (f k) = upto (k + 1) f g := by
  funext j; unfold upd upto
  by_cases h : j = k
  · subst h; rw [if_pos rfl, if_pos (by omega)]
  · rw [if_neg h]
    by_cases h2 : j < k
    · rw [if_pos h2, if_pos (by omega)]
    · rw [if_neg h2, if_neg (by omega)]
theorem upto_zero {α : Type} (f g : Nat → α) : upto 0 f g = g := by funext j; simp [upto]
theorem n64_pad (x : BitVec 64) : bits .and .u64 (n64 x) 18014398509481983 = n64 (pad x) := n64_and x 18014398509481983#64
theorem info48 : (Tryz.prog.info? 87).map (·.size) = some 2 := by kernel_rfl
set_option maxRecDepth 100000 in
set_option maxHeartbeats 1000000 in
theorem of_c (c : Nat → BitVec 8) (a : Nat → BitVec 64) (w : World) :
    Calls Tryz.prog 53 #[.agg (pc c a)] w fun e w' => e = .returned (.agg (ec (fun j => pcl (c j)) (fun j => pad (a j)))) ∧ Below w.heap.size w w' := by
  go_enter Tryz.func53, Tryz.ntmps53
  go_wp2
  rw [ec_zero]
  go_loopw [5] (fun i wr => ∃ k : Nat, k ≤ 16 ∧ i = .int .i64 k ∧ Hid (Row wr w.heap.size (pc c a) 28) ∧ Hid (Row wr (w.heap.size + 1) (ec (fun _ => 0#8) (fun _ => 0#64)) 89) ∧ Hid (Row wr (w.heap.size + 1 + 1) (ec (upto k (fun j => pcl (c j)) (fun _ => 0#8)) (upto k (fun j => pad (a j)) (fun _ => 0#64))) 89) ∧ Hid (Below w.heap.size w wr)) (fun i _ => 16 - (intOf i).toNat)
  case atStart =>
    refine ⟨0, by omega, rfl, ?_, ?_, ?_, ?_⟩
    · exact ((Row.new w _ _).old (by simp) _).old (by simp; omega) _
    · have := (Row.new (w.alloc (.cells (pc c a) 28)) (ec (fun _ => 0#8) (fun _ => 0#64)) 89).old (by simp) (.cells (ec (fun _ => 0#8) (fun _ => 0#64)) 89)
      simpa [Hid] using this
    · have := Row.new ((w.alloc (.cells (pc c a) 28)).alloc (.cells (ec (fun _ => 0#8) (fun _ => 0#64)) 89)) (ec (fun _ => 0#8) (fun _ => 0#64)) 89
      rw [upto_zero, upto_zero]
      simpa [Hid] using this
    · exact (((Below.refl _ _).alloc (Nat.le_refl _) _).alloc (by simp) _).alloc (by simp; omega) _
  case round =>
    obtain ⟨k, hk, rfl, h0, h1, h2, hb⟩ := hrel
    by_cases hlt : k < 16
    · have hlt2 : (k : Int) < 16 := by omega
      have c0 : wr.cell? ⟨w.heap.size, k, none⟩ = some (.int .u8 (n8 (c k))) := by rw [h0.out.cell, pc_at _ _ _ (by omega), pcell, if_pos hlt]
      have c1 : wr.cell? ⟨w.heap.size, 16 + k, none⟩ = some (.int .u64 (n64 (a k))) := by rw [h0.out.cell, pc_at _ _ _ (by omega), pcell, if_neg (by omega), Nat.add_sub_cancel_left]
      have hp := n64_pad (a k)
      go_upto_region 5 with fail
      refine wp_region_still_tail 13 (by kernel_rfl) (by kernel_rfl) ?_
      change wpStill _ _ wr.drew (fun a' => wpList _ _ _ _ a' wr.drew) _ _
      simp only [List.take_succ_cons, List.take_zero, List.drop_succ_cons, List.drop_zero]
      still_step
      still_step
      still_step
      still_step
      still_step
      still_call (properCfg_c (c k) _)
      still_step
      still_step
      still_step
      still_step
      still_step
      still_step
      still_step
      refine wpStill_nil ?_
      have d0 : ∃ v, wr.cell? ⟨w.heap.size + 1 + 1, k * 2, none⟩ = some v := ⟨_, by rw [h2.out.cell, ec_at _ _ _ (by omega)]⟩
      have d1 : ∃ v, wr.cell? ⟨w.heap.size + 1 + 1, k * 2 + 1, none⟩ = some v := ⟨_, by rw [h2.out.cell, ec_at _ _ _ (by omega)]⟩
      obtain ⟨v0, d0⟩ := d0
      obtain ⟨v1, d1⟩ := d1
      have f0 := h2.out.froz (k * 2)
      have f1 := h2.out.froz (k * 2 + 1)
      go_wp2
      go_roundw
      case rel =>
        refine ⟨k + 1, by omega, by go_num, ?_, ?_, ?_, ?_⟩
        · exact Row.other (Row.other h0.out (by omega) _) (by omega) _
        · exact Row.other (Row.other h1.out (by omega) _) (by omega) _
        · have h := Row.put (i := k * 2 + 1) (Row.put (i := k * 2) h2.out (.int .u8 (n8 (pcl (c k))))) (.int .u64 (n64 (pad (a k))))
          rw [ec_cfg _ _ _ _ hlt, ec_addr _ _ _ _ hlt, upto_succ k (fun j => pcl (c j)), upto_succ k (fun j => pad (a j))] at h
          exact h
        · exact (below_put (below_put hb.out (by omega) _) (by omega) _).drew
      case measure => simp [intOf]; omega
    · obtain rfl : k = 16 := by omega
      have e16 : ((16 : Nat) : Int) = 16 := rfl
      rw [e16]
      clear hk hlt
      have he : ec (upto 16 (fun j => pcl (c j)) fun _ => 0#8) (upto 16 (fun j => pad (a j)) fun _ => 0#64) = ec (fun j => pcl (c j)) (fun j => pad (a j)) :=
        ec_congr fun j hj => by simp [upto, hj]
      rw [he] at h2
      clear he
      go_wp2_with (first | (refine wpList_load_row (by rfl) _ _ (by rfl) _ (by rfl) 89 _ (0, 0) _ h2.out Tryz.underlying89 (by rfl) (by rw [ec_size]; kernel_rfl) ?_) | (refine wpList_store_row (by rfl) _ _ _ (by rfl) (by rfl) _ _ _ (by rfl) (by rfl) h1.out (by rw [ec_size]; kernel_rfl) (by rw [ec_size, ec_size]) (ec_ones _ _) ?_))
      refine bodyPost_ret (v := .agg (ec (fun j => pcl (c j)) (fun j => pad (a j)))) ?_ rfl ⟨rfl, ?_⟩
      · exact results_cell_row Tryz.results53 _ _ (w.heap.size + 1) 89 _ (0, 0) _ (by rfl) (setRow_heap _ _ _ _ _ _ h1.out) Tryz.underlying89 (by rfl) (by rw [ec_size]; kernel_rfl)
      · exact below_row hb.out (by omega) _
set_option maxRecDepth 100000 in
set_option maxHeartbeats 1000000 in
theorem told_c (c : Nat → BitVec 8) (a : Nat → BitVec 64) (g : Nat) (w : World) (hg : Row w g (ec c a) 89) :
    Calls Tryz.prog 129 #[.pointer (some ⟨g, 0, none⟩)] w fun e w' => e = .returned (.agg (pc c a)) ∧ Below w.heap.size w w' := by
  have hlg := hg.lt
  have HG : Hid (Row w g (ec c a) 89) := hg
  clear hg
  go_enter Tryz.func129, Tryz.ntmps129
  go_wp2
  rw [pc_zero]
  go_loopw [5] (fun i wr => ∃ k : Nat, k ≤ 16 ∧ i = .int .i64 k ∧ Hid (Row wr g (ec c a) 89) ∧ Hid (Row wr w.heap.size (pc (fun _ => 0#8) (fun _ => 0#64)) 28) ∧ Hid (Row wr (w.heap.size + 1) (pc (upto k c (fun _ => 0#8)) (upto k a (fun _ => 0#64))) 28) ∧ Hid (Below w.heap.size w wr)) (fun i _ => 16 - (intOf i).toNat)
  case atStart =>
    refine ⟨0, by omega, rfl, ?_, ?_, ?_, ?_⟩
    · exact (HG.out.old hlg _).old (by simp; omega) _
    · exact (Row.new w _ _).old (by simp) _
    · have := Row.new (w.alloc (.cells (pc (fun _ => 0#8) (fun _ => 0#64)) 28)) (pc (fun _ => 0#8) (fun _ => 0#64)) 28
      rw [upto_zero, upto_zero]
      simpa [Hid] using this
    · exact (((Below.refl _ _).alloc (Nat.le_refl _) _).alloc (by simp) _)
  case round =>
    obtain ⟨k, hk, rfl, h0, h1, h2, hb⟩ := hrel
    by_cases hlt : k < 16
    · have hlt2 : (k : Int) < 16 := by omega
      have c0 : wr.cell? ⟨g, k * 2, none⟩ = some (.int .u8 (n8 (c k))) := by rw [h0.out.cell, ec_at _ _ _ (by omega), ecell, if_pos (by omega), Nat.mul_div_cancel _ (by omega)]
      have c1 : wr.cell? ⟨g, k * 2 + 1, none⟩ = some (.int .u64 (n64 (a k))) := by rw [h0.out.cell, ec_at _ _ _ (by omega), ecell, if_neg (by omega), show (k * 2 + 1) / 2 = k by omega]
      have d0 : ∃ v, wr.cell? ⟨w.heap.size + 1, k, none⟩ = some v := ⟨_, by rw [h2.out.cell, pc_at _ _ _ (by omega)]⟩
      have d1 : ∃ v, wr.cell? ⟨w.heap.size + 1, 16 + k, none⟩ = some v := ⟨_, by rw [h2.out.cell, pc_at _ _ _ (by omega)]⟩
      obtain ⟨v0, d0⟩ := d0
      obtain ⟨v1, d1⟩ := d1
      have f0 := h2.out.froz k
      have f1 := h2.out.froz (16 + k)
      have ne1 : ¬ 16 + k = k := by omega
      have ne2 : ¬ k = 16 + k := by omega
      go_upto_region 5 with fail
      go_region
      go_wp2
      go_roundw
      case rel =>
        refine ⟨k + 1, by omega, by go_num, ?_, ?_, ?_, ?_⟩
        · exact Row.other (Row.other h0.out (by omega) _) (by omega) _
        · exact Row.other (Row.other h1.out (by omega) _) (by omega) _
        · have h := Row.put (i := 16 + k) (Row.put (i := k) h2.out (.int .u8 (n8 (c k)))) (.int .u64 (n64 (a k)))
          rw [pc_cfg _ _ _ _ hlt, pc_addr _ _ _ _ hlt, upto_succ k c, upto_succ k a] at h
          exact h
        · exact (below_put (below_put hb.out (by omega) _) (by omega) _).drew
      case measure => simp [intOf]; omega
    · obtain rfl : k = 16 := by omega
      have e16 : ((16 : Nat) : Int) = 16 := rfl
      rw [e16]
      clear hk hlt
      have he : pc (upto 16 c fun _ => 0#8) (upto 16 a fun _ => 0#64) = pc c a :=
        pc_congr fun j hj => by simp [upto, hj]
      rw [he] at h2
      clear he
      go_wp2_with (first | (refine wpList_load_row (by rfl) _ _ (by rfl) _ (by rfl) 28 _ (0, 0) _ h2.out Tryz.underlying28 (by rfl) (by rw [pc_size]; kernel_rfl) ?_) | (refine wpList_store_row (by rfl) _ _ _ (by rfl) (by rfl) _ _ _ (by rfl) (by rfl) h1.out (by rw [pc_size]; kernel_rfl) (by rw [pc_size, pc_size]) (pc_ones _ _) ?_))
      refine bodyPost_ret (v := .agg (pc c a)) ?_ rfl ⟨rfl, ?_⟩
      · exact results_cell_row Tryz.results129 _ _ w.heap.size 28 _ (0, 0) _ (by rfl) (setRow_heap _ _ _ _ _ _ h1.out) Tryz.underlying28 (by rfl) (by rw [pc_size]; kernel_rfl)
      · exact below_row hb.out (by omega) _
end Go.Proofs.YtidfndgedopghaaGreatDoor
namespace Go.Proofs.YtidfndgedopghaaGreatDoor
set_option linter.unusedVariables false
open Go.ChangeShapes Go.WideShapes Go.ChangeAt Go.RowKit Go.Deep
theorem start1 (w : World) (cs : Array Value) (t : TypeId) : ∃ W, w.alloc (.cells cs t) = W ∧ Hid (Row W w.heap.size cs t) ∧ Hid (Below w.heap.size w W) ∧ W.heap.size = w.heap.size + 1 :=
  ⟨_, rfl, Row.new _ _ _, (Below.refl _ _).alloc (Nat.le_refl _) _, by simp⟩
theorem start2 (w : World) (cs cs' : Array Value) (t t' : TypeId) : ∃ W, (w.alloc (.cells cs t)).alloc (.cells cs' t') = W ∧ Hid (Row W w.heap.size cs t) ∧ Hid (Row W (w.heap.size + 1) cs' t') ∧ Hid (Below w.heap.size w W) ∧ W.heap.size = w.heap.size + 2 :=
  ⟨_, rfl, (Row.new _ _ _).old (by simp) _, by have := Row.new (w.alloc (.cells cs t)) cs' t'; simpa [Hid] using this, ((Below.refl _ _).alloc (Nat.le_refl _) _).alloc (by simp) _, by simp⟩
def pz : Array Value := pc (fun _ => 0#8) (fun _ => 0#64)
theorem pz_size : pz.size = 32 := pc_size _ _
/-- The entries that are proper. -/
def PC (c : Nat → BitVec 8) : Nat → BitVec 8 := fun j => pcl (c j)
def PA (a : Nat → BitVec 64) : Nat → BitVec 64 := fun j => pad (a j)
theorem of_p (c : Nat → BitVec 8) (a : Nat → BitVec 64) (w : World) :
    Calls Tryz.prog 53 #[.agg (pc c a)] w fun e w' => e = .returned (.agg (ec (PC c) (PA a))) ∧ Below w.heap.size w w' := of_c c a w
set_option maxRecDepth 100000 in
set_option maxHeartbeats 1000000 in
theorem Proper_c (c : Nat → BitVec 8) (a : Nat → BitVec 64) (w : World) :
    Calls Tryz.prog 49 #[.agg (pc c a)] w fun e w' => e = .returned (.agg (pc (PC c) (PA a))) ∧ Below w.heap.size w w' := by
  obtain ⟨W0, hW0, r0, r1, b0, s0⟩ := start2 w (pc c a) pz 28 28
  have HS : Hid (W0.heap.size = w.heap.size + 2) := s0
  clear s0
  go_enter Tryz.func49, Tryz.ntmps49
  go_upto_region 1 with fail
  rw [pc_zero, ← pz, hW0]
  clear hW0
  go_wp2_with (first | (refine wpList_load_row (by rfl) _ _ (by rfl) _ (by rfl) 28 _ (0, 0) _ r0.out Tryz.underlying28 (by rfl) (by rw [pc_size]; kernel_rfl) ?_) | (go_at_call 53; refine (of_p c a _).mono ?_; rintro e w1 ⟨rfl, hb1⟩; have HB1 : Hid (Below W0.heap.size W0 w1) := hb1; clear hb1) | (go_at_call 129; refine (told_c (PC c) (PA a) _ _ (Row.new _ _ _)).mono ?_; rintro e w2 ⟨rfl, hb2⟩; have HB2 : Hid (Below w1.heap.size w1 w2) := (Below.alloc (Below.refl _ _) (Nat.le_refl _) _).trans (hb2.mono (by simp)); clear hb2) | (refine wpList_store_row (by rfl) _ _ _ (by rfl) (by rfl) _ _ _ (by rfl) (by rfl) ((r1.out.later HB1.out (by rw [HS.out]; omega)).later HB2.out (Nat.lt_of_lt_of_le (by rw [HS.out]; omega) HB1.out.size)) (by rw [pc_size]; kernel_rfl) (by rw [pc_size, pz_size]) (pc_ones _ _) ?_) | (refine wpList_store_new (by rfl) _ _ _ (by rfl) (by rfl) _ _ (by rfl) (by rfl) (by rw [ec_size]; kernel_rfl) (by rw [ec_size]; rfl) (ec_ones _ _) ?_))
  have h9 : Row w2 (w.heap.size + 1) pz 28 := (r1.out.later HB1.out (by rw [HS.out]; omega)).later HB2.out (Nat.lt_of_lt_of_le (by rw [HS.out]; omega) HB1.out.size)
  refine bodyPost_ret (v := .agg (pc (PC c) (PA a))) ?_ rfl ⟨rfl, ?_⟩
  · exact results_cell_row Tryz.results49 _ _ (w.heap.size + 1) 28 _ (0, 0) _ (by rfl) (setRow_heap _ _ _ _ _ _ h9) Tryz.underlying28 (by rfl) (by rw [pc_size]; kernel_rfl)
  · exact below_row ((b0.out.trans (HB1.out.mono (by rw [HS.out]; omega))).trans (HB2.out.mono (Nat.le_trans (by rw [HS.out]; omega) HB1.out.size))) (by omega) _
set_option maxRecDepth 100000 in
set_option maxHeartbeats 1000000 in
theorem rProper_c (c : Nat → BitVec 8) (a : Nat → BitVec 64) (w : World) :
    Calls Tryz.prog 47 #[.agg (pc c a)] w fun e w' => e = .returned (.agg (pc (PC c) (PA a))) ∧ Below w.heap.size w w' := by
  go_enter Tryz.func47, Tryz.ntmps47
  go_wp2
  rw [pc_zero, ← pz]
  go_loopw [3] (fun i wr => ∃ k : Nat, k ≤ 16 ∧ i = .int .i64 k ∧ Hid (Row wr w.heap.size (pc (upto k (PC c) c) (upto k (PA a) a)) 28) ∧ Hid (Row wr (w.heap.size + 1) pz 28) ∧ Hid (Below w.heap.size w wr)) (fun i _ => 16 - (intOf i).toNat)
  case atStart =>
    obtain ⟨W0, hW0, r0, r1, b0, s0⟩ := start2 w (pc c a) pz 28 28
    rw [hW0]
    refine ⟨0, by omega, rfl, ?_, r1, b0⟩
    rw [upto_zero, upto_zero]
    exact r0
  case round =>
    obtain ⟨k, hk, rfl, h0, h1, hb⟩ := hrel
    by_cases hlt : k < 16
    · have hlt2 : (k : Int) < 16 := by omega
      have c0 : wr.cell? ⟨w.heap.size, k, none⟩ = some (.int .u8 (n8 (c k))) := by rw [h0.out.cell, pc_at _ _ _ (by omega), pcell, if_pos hlt, upto, if_neg (by omega)]
      have c1 : wr.cell? ⟨w.heap.size, 16 + k, none⟩ = some (.int .u64 (n64 (a k))) := by rw [h0.out.cell, pc_at _ _ _ (by omega), pcell, if_neg (by omega), Nat.add_sub_cancel_left, upto, if_neg (by omega)]
      have f0 := h0.out.froz k
      have f1 := h0.out.froz (16 + k)
      have hp := n64_pad (a k)
      have ne1 : ¬ 16 + k = k := by omega
      have ne2 : ¬ k = 16 + k := by omega
      go_wp2_with (go_at_call 127; refine (cleaned_c (c k) _).mono ?_; rintro e w1 ⟨rfl, hw⟩; have hw2 := hw.symm; subst hw2)
      go_roundw
      case rel =>
        refine ⟨k + 1, by omega, by go_num, ?_, ?_, ?_⟩
        · have h := Row.put (i := 16 + k) (Row.put (i := k) h0.out (.int .u8 (n8 (PC c k)))) (.int .u64 (n64 (PA a k)))
          rw [pc_cfg _ _ _ _ hlt, pc_addr _ _ _ _ hlt, upto_succ k (PC c), upto_succ k (PA a)] at h
          exact h
        · exact Row.other (Row.other h1.out (by omega) _) (by omega) _
        · exact below_put (below_put hb.out (by omega) _) (by omega) _
      case measure => simp [intOf]; omega
    · obtain rfl : k = 16 := by omega
      have e16 : ((16 : Nat) : Int) = 16 := rfl
      rw [e16]
      clear hk hlt
      have he : pc (upto 16 (PC c) c) (upto 16 (PA a) a) = pc (PC c) (PA a) := pc_congr fun j hj => by simp [upto, hj]
      rw [he] at h0
      clear he
      go_wp2_with (first | (refine wpList_load_row (by rfl) _ _ (by rfl) _ (by rfl) 28 _ (0, 0) _ h0.out Tryz.underlying28 (by rfl) (by rw [pc_size]; kernel_rfl) ?_) | (refine wpList_store_row (by rfl) _ _ _ (by rfl) (by rfl) _ _ _ (by rfl) (by rfl) h1.out (by rw [pc_size]; kernel_rfl) (by rw [pc_size, pz_size]) (pc_ones _ _) ?_))
      refine bodyPost_ret (v := .agg (pc (PC c) (PA a))) ?_ rfl ⟨rfl, ?_⟩
      · exact results_cell_row Tryz.results47 _ _ (w.heap.size + 1) 28 _ (0, 0) _ (by rfl) (setRow_heap _ _ _ _ _ _ h1.out) Tryz.underlying28 (by rfl) (by rw [pc_size]; kernel_rfl)
      · exact below_row hb.out (by omega) _
end Go.Proofs.YtidfndgedopghaaGreatDoor
namespace Go.Proofs.YtidfndgedopghaaGreatDoor
set_option linter.unusedVariables false
open Go.ChangeShapes Go.WideShapes Go.ChangeAt Go.RowKit Go.Deep
theorem items_refl {P : Program} (w : World) (d : Nat) (e : TypeId) (kk : IntKind) (he : P.underlying e = some (.int kk)) (xs : Array Value) (c : Nat) : ∀ is : List Nat, (∀ i ∈ is, ∃ k n, (part e xs (i * c)).run P w = .ok (.int k n) w) →
    (Op.eqItems (d + 1) e c xs xs is).run P w = .ok true w
  | [], _ => by simp [Op.eqItems]
  | i :: is, h => by
    obtain ⟨k, n, hp⟩ := h i (by simp)
    have ih := items_refl w d e kk he xs c is (fun j hj => h j (by simp [hj]))
    simp only [Op.eqItems, Sem.run_bind, hp, Result.andThen_ok, run_equalIn_int w d e k kk n n he, beq_self_eq_true, Bool.not_true, Bool.false_eq_true, if_false, ih]
theorem part_pc_cfg (xs : Array Value) (w : World) : (part 25 xs 0).run Tryz.prog w = .ok (.agg (xs.extract 0 16)) w := by
  simp [part]
theorem part_pc_addr (xs : Array Value) (w : World) : (part 26 xs 16).run Tryz.prog w = .ok (.agg (xs.extract 16 32)) w := by
  simp [part]
theorem eq_cfgs (w : World) (d : Nat) (xs : Array Value) (h : ∀ i, i < 16 → ∃ n, xs[i]? = some (.int .u8 n)) : (Op.equalIn (d + 2) 25 (.agg xs) (.agg xs)).run Tryz.prog w = .ok true w := by
  cases hi : Tryz.prog.info? 5 with
  | none =>
    have hq : (Tryz.prog.info? 5).isSome = true := by kernel_rfl
    rw [hi] at hq
    cases hq
  | some i =>
    rw [run_equalIn_array w (d + 1) xs xs Tryz.underlying25 hi]
    refine items_refl w d _ _ Tryz.underlying5 xs _ _ fun j hj => ?_
    rw [show Tryz.prog.cellsOf 5 = 1 by kernel_rfl, Nat.mul_one]
    obtain ⟨n, hn⟩ := h j (by simpa using hj)
    exact ⟨_, n, run_part_plain w (by kernel_rfl) hn⟩
theorem eq_addrs (w : World) (d : Nat) (xs : Array Value) (h : ∀ i, i < 16 → ∃ n, xs[i]? = some (.int .u64 n)) : (Op.equalIn (d + 2) 26 (.agg xs) (.agg xs)).run Tryz.prog w = .ok true w := by
  cases hi : Tryz.prog.info? 23 with
  | none =>
    have hq : (Tryz.prog.info? 23).isSome = true := by kernel_rfl
    rw [hi] at hq
    cases hq
  | some i =>
    rw [run_equalIn_array w (d + 1) xs xs Tryz.underlying26 hi]
    refine items_refl w d _ _ Tryz.underlying23 xs _ _ fun j hj => ?_
    rw [show Tryz.prog.cellsOf 23 = 1 by kernel_rfl, Nat.mul_one]
    obtain ⟨n, hn⟩ := h j (by simpa using hj)
    exact ⟨_, n, run_part_plain w (by kernel_rfl) hn⟩
theorem pc_cfgs_at (c : Nat → BitVec 8) (a : Nat → BitVec 64) (i : Nat) (h : i < 16) : ((pc c a).extract 0 16)[i]? = some (.int .u8 (n8 (c i))) := by
  rw [Array.getElem?_extract, if_pos (by rw [pc_size]; omega), Nat.zero_add, pc_at _ _ _ (by omega), pcell, if_pos h]
theorem pc_addrs_at (c : Nat → BitVec 8) (a : Nat → BitVec 64) (i : Nat) (h : i < 16) : ((pc c a).extract 16 32)[i]? = some (.int .u64 (n64 (a i))) := by
  rw [Array.getElem?_extract, if_pos (by rw [pc_size]; omega), pc_at _ _ _ (by omega), pcell, if_neg (by omega), Nat.add_sub_cancel_left]
theorem eq_pc (w : World) (c : Nat → BitVec 8) (a : Nat → BitVec 64) : (Op.equalIn 10000 28 (.agg (pc c a)) (.agg (pc c a))).run Tryz.prog w = .ok true w := by
  rw [run_equalIn_struct w 9999 28 _ _ (by kernel_rfl) (by kernel_rfl)]
  have e1 := eq_cfgs w 9997 ((pc c a).extract 0 16) (fun i hi => ⟨_, pc_cfgs_at c a i hi⟩)
  have e2 := eq_addrs w 9997 ((pc c a).extract 16 32) (fun i hi => ⟨_, pc_addrs_at c a i hi⟩)
  simp [Program.fieldsOf, Tryz.underlying28, Op.eqFields, part_pc_cfg, part_pc_addr, e1, e2]
theorem quiet_load_agg {P : Program} {W : World} {o : Oper} {a : Act} {K : Act → Prop} (ty : TypeId) (x : Operand) (ho : o.op = .load ty x) (g off : Nat) (hx : a.eval x = .pointer (some ⟨g, off, none⟩)) (cs : Array Value) (d : TypeDesc)
    (hg : g < W.heap.size) (hc : ∀ j v, cs[j]? = some v → W.cell? ⟨g, off + j, none⟩ = some v) (hu : P.underlying ty = some d) (hd : (match d with | .struct _ | .array _ _ => true | _ => false) = true) (hi : (P.info? ty).map (·.size) = some cs.size)
    (hk : K (a.put o.dst (.agg cs))) : o.quiet P a (fun w' => ∃ x : Later W, w' = x.1) K := by
  refine ⟨_, fun w hw => ?_, hk⟩
  obtain ⟨y, rfl⟩ := hw
  have hl := run_load_agg (P := P) y.1 ty g off cs d (fun j v hv => (later_cell y (by exact hg)).trans (hc j v hv)) hu hd hi
  unfold Oper.quietAt execOp
  simp only [ho, hx, Instr.loadAt, Instr.sureAddr, Sem.run_bind, Sem.run_pure, Result.andThen_ok, hl]
  exact ⟨rfl, rfl⟩
end Go.Proofs.YtidfndgedopghaaGreatDoor
namespace Go.Proofs.YtidfndgedopghaaGreatDoor
set_option linter.unusedVariables false
open Go.ChangeShapes Go.WideShapes Go.ChangeAt Go.RowKit Go.Deep
section
variable {H : Type} {enc : TypeId × Value → H} {w : World} {base : Nat} {held : Bool}
theorem open_ints16 {k : IntKind} {t e : TypeId} {fuel : Nat} {cs : List Value} {y : DataW H × List MemPlace} (ht : Tryz.prog.underlying t = some (.array 16 e)) (he : Tryz.prog.underlying e = some (.int k)) (hce : Tryz.prog.cellsOf e = 1)
    (h : DataW.trod enc Tryz.prog w base (fun _ => true) held fuel t cs = some y) (hl : cs.length = 16) : ∀ j, j < 16 → ∃ n, cs[j]? = some (.int k n) ∧ (Lit.int k n).wf = true := by
  obtain ⟨xs, m, _, _, _, hxl, hx⟩ := DataW.trod_array ht h
  intro j hj
  have h1 := hx j hj
  obtain ⟨q, hq⟩ : ∃ q, xs[j]? = some q := ⟨_, List.getElem?_eq_getElem (by omega)⟩
  rw [hq, hce, Nat.mul_one] at h1
  obtain ⟨n, e0, _, hw⟩ := DataW.trod_int he h1
  refine ⟨n, ?_, hw⟩
  have h2 : ((cs.drop j).take 1)[0]? = some (.int k n) := by rw [e0]; rfl
  simpa using h2
theorem cells_pmp : Tryz.prog.cellsOf 28 = 32 := by kernel_rfl
theorem cells_c16 : Tryz.prog.cellsOf 25 = 16 := by kernel_rfl
theorem cells_a16 : Tryz.prog.cellsOf 26 = 16 := by kernel_rfl
theorem open_pmp {fuel : Nat} {cs : List Value} {y : DataW H × List MemPlace} (h : DataW.trod enc Tryz.prog w base (fun _ => true) held fuel 28 cs = some y) : ∃ (c : Nat → BitVec 8) (a : Nat → BitVec 64), cs = (pc c a).toList := by
  obtain ⟨xs, n, _, rfl, hl, hlen, hf⟩ := DataW.trod_struct Tryz.underlying28 h
  rw [cells_pmp] at hl
  match xs, (show xs.length = 2 from hlen), hf with
  | [y0, y1], _, hf =>
    have g0 : DataW.trod enc Tryz.prog w base (fun _ => true) held n 25 (cs.take 16) = some y0 := by
      have := hf 0 _ rfl
      simpa [cells_c16] using this
    have g1 : DataW.trod enc Tryz.prog w base (fun _ => true) held n 26 ((cs.drop 16).take 16) = some y1 := by
      have := hf 1 _ rfl
      simpa [cells_a16] using this
    have o0 := open_ints16 Tryz.underlying25 Tryz.underlying5 (by kernel_rfl) g0 (by simp; omega)
    have o1 := open_ints16 Tryz.underlying26 Tryz.underlying23 (by kernel_rfl) g1 (by simp; omega)
    have p0 : ∀ j, ∃ x : BitVec 8, j < 16 → cs[j]? = some (.int .u8 (n8 x)) := fun j => by
      by_cases hj : j < 16
      · obtain ⟨z, hz, hw⟩ := o0 j hj
        obtain ⟨x, rfl⟩ := n8_of hw
        exact ⟨x, fun _ => by rw [List.getElem?_take_of_lt hj] at hz; exact hz⟩
      · exact ⟨0#8, fun h => absurd h hj⟩
    have p1 : ∀ j, ∃ x : BitVec 64, j < 16 → cs[16 + j]? = some (.int .u64 (n64 x)) := fun j => by
      by_cases hj : j < 16
      · obtain ⟨z, hz, hw⟩ := o1 j hj
        obtain ⟨x, rfl⟩ := n64_of hw
        exact ⟨x, fun _ => by rw [List.getElem?_take_of_lt hj, List.getElem?_drop] at hz; exact hz⟩
      · exact ⟨0#64, fun h => absurd h hj⟩
    refine ⟨fun j => (p0 j).choose, fun j => (p1 j).choose, ?_⟩
    apply List.ext_getElem?
    intro j
    rw [Array.getElem?_toList (xs := pc _ _)]
    by_cases hj : j < 32
    · rw [pc_at _ _ _ hj, pcell]
      split
      · rename_i h16
        exact (p0 j).choose_spec h16
      · rename_i h16
        exact (congrArg (fun q => cs[q]?) (show j = 16 + (j - 16) by omega)).trans ((p1 (j - 16)).choose_spec (by omega))
    · rw [List.getElem?_eq_none (by omega), Array.getElem?_eq_none (by rw [pc_size]; omega)]
/-- The cells of an Ask. -/
def askc (c : Nat → BitVec 8) (a : Nat → BitVec 64) (i : Int) (v : BitVec 64) (m : Int) (ad : BitVec 64) (s b : Int) : Array Value := pc c a ++ #[.int .i64 i, .int .u64 (n64 v), .int .i64 m, .int .u64 (n64 ad), .int .i64 s, .int .i64 b]
theorem askc_size (c : Nat → BitVec 8) (a : Nat → BitVec 64) (i : Int) (v : BitVec 64) (m : Int) (ad : BitVec 64) (s b : Int) : (askc c a i v m ad s b).size = 38 := by simp [askc, pc_size]
def I64 (n : Int) : Prop := -9223372036854775808 ≤ n ∧ n ≤ 9223372036854775807
theorem open_ask {T : TypeId} {fuel : Nat} {cs : List Value} {y : DataW H × List MemPlace} {f0 f1 f2 f3 f4 f5 f6 : Field} (hT : Tryz.prog.underlying T = some (.struct #[f0, f1, f2, f3, f4, f5, f6])) (hC : Tryz.prog.cellsOf T = 38)
    (e0 : f0.type = 28 ∧ f0.offset = 0) (e1 : f1.type = 3 ∧ f1.offset = 32) (e2 : f2.type = 23 ∧ f2.offset = 33) (e3 : f3.type = 3 ∧ f3.offset = 34) (e4 : f4.type = 23 ∧ f4.offset = 35) (e5 : f5.type = 3 ∧ f5.offset = 36) (e6 : f6.type = 3 ∧ f6.offset = 37)
    (h : DataW.trod enc Tryz.prog w base (fun _ => true) held fuel T cs = some y) :
    ∃ (c : Nat → BitVec 8) (a : Nat → BitVec 64) (i : Int) (v : BitVec 64) (m : Int) (ad : BitVec 64) (s b : Int), cs = (askc c a i v m ad s b).toList ∧ I64 i ∧ I64 m ∧ I64 s ∧ I64 b := by
  obtain ⟨xs, n, _, rfl, hl, hlen, hf⟩ := DataW.trod_struct hT h
  rw [hC] at hl
  have cI : Tryz.prog.cellsOf 3 = 1 := by kernel_rfl
  have cU : Tryz.prog.cellsOf 23 = 1 := by kernel_rfl
  match xs, (show xs.length = 7 from hlen), hf with
  | [y0, y1, y2, y3, y4, y5, y6], _, hf =>
    have g0 := hf 0 f0 rfl
    have g1 := hf 1 f1 rfl
    have g2 := hf 2 f2 rfl
    have g3 := hf 3 f3 rfl
    have g4 := hf 4 f4 rfl
    have g5 := hf 5 f5 rfl
    have g6 := hf 6 f6 rfl
    rw [e0.1, e0.2, cells_pmp] at g0
    rw [e1.1, e1.2, cI] at g1
    rw [e2.1, e2.2, cU] at g2
    rw [e3.1, e3.2, cI] at g3
    rw [e4.1, e4.2, cU] at g4
    rw [e5.1, e5.2, cI] at g5
    rw [e6.1, e6.2, cI] at g6
    obtain ⟨c, a, k0⟩ := open_pmp g0
    obtain ⟨i1, k1, _, w1⟩ := DataW.trod_int Tryz.underlying3 g1
    obtain ⟨i2, k2, _, w2⟩ := DataW.trod_int Tryz.underlying23 g2
    obtain ⟨i3, k3, _, w3⟩ := DataW.trod_int Tryz.underlying3 g3
    obtain ⟨i4, k4, _, w4⟩ := DataW.trod_int Tryz.underlying23 g4
    obtain ⟨i5, k5, _, w5⟩ := DataW.trod_int Tryz.underlying3 g5
    obtain ⟨i6, k6, _, w6⟩ := DataW.trod_int Tryz.underlying3 g6
    obtain ⟨v, rfl⟩ := n64_of w2
    obtain ⟨ad, rfl⟩ := n64_of w4
    refine ⟨c, a, i1, v, i3, ad, i5, i6, ?_, bounds_i64 w1, bounds_i64 w3, bounds_i64 w5, bounds_i64 w6⟩
    have t : ∀ k, k < 38 → cs.drop k = (cs.drop k).take 1 ++ cs.drop (k + 1) := fun k hk => by
      rw [← List.drop_drop, List.take_append_drop]
    have q : cs = (cs.drop 0).take 32 ++ cs.drop 32 := by simp
    rw [q, k0, t 32 (by omega), k1, t 33 (by omega), k2, t 34 (by omega), k3, t 35 (by omega), k4, t 36 (by omega), k5, t 37 (by omega), k6, List.drop_eq_nil_of_le (by omega)]
    simp [askc]
end
end Go.Proofs.YtidfndgedopghaaGreatDoor
