/-
  Pba Pbl Pbo.
-/
import Derived.Test.YtgblpjkpeihpeaaM01
import Derived.StillTailTactics
import Derived.Deep.CutRange
import Derived.BigRegion
import Derived.BigQuiet
import Derived.Deep.QuietTactic
namespace Go.Proofs.Ytgblpjkpeihpeaa
set_option linter.unusedVariables false
open Go.ChangeShapes Go.WideShapes Go.ChangeAt Go.RowKit Go.Deep
/-- A byte as the program's number. -/
def n8 (x : BitVec 8) : Int := (x.toNat : Int)
theorem n8_inj {x y : BitVec 8} : n8 x = n8 y ↔ x = y := by
  unfold n8; constructor
  · intro h; exact BitVec.eq_of_toNat_eq (by omega)
  · rintro rfl; rfl
theorem n8_lo (x : BitVec 8) : 0 ≤ n8 x := by unfold n8; omega
theorem n8_hi (x : BitVec 8) : n8 x ≤ 255 := by unfold n8; have := x.isLt; omega
theorem n8_of {n : Int} (h : (Lit.int .u8 n).wf = true) : ∃ x : BitVec 8, n = n8 x := by
  have hb := bounds_u8 h
  refine ⟨BitVec.ofNat 8 n.toNat, ?_⟩
  unfold n8; rw [BitVec.toNat_ofNat, Nat.mod_eq_of_lt (by omega)]; omega
theorem ofInt_n8 (x : BitVec 8) : BitVec.ofInt 8 (n8 x) = x := by
  unfold n8; apply BitVec.eq_of_toNat_eq; rw [BitVec.toNat_ofInt]; have := x.isLt; omega
theorem wrap_n8 (z : Int) : IntKind.u8.wrap z = n8 (BitVec.ofInt 8 z) := by
  unfold n8; rw [BitVec.toNat_ofInt]; simp [IntKind.wrap, IntKind.signed, IntKind.bits]; omega
theorem n8_and (x y : BitVec 8) : bits .and .u8 (n8 x) (n8 y) = n8 (x &&& y) := by
  show IntKind.u8.wrap ((BitVec.ofInt 8 (n8 x) &&& BitVec.ofInt 8 (n8 y)).toNat : Int) = _
  rw [ofInt_n8, ofInt_n8, wrap_n8]; exact congrArg n8 (ofInt_n8 _)
theorem n8_andNot (x y : BitVec 8) : bits .andNot .u8 (n8 x) (n8 y) = n8 (x &&& ~~~y) := by
  show IntKind.u8.wrap ((BitVec.ofInt 8 (n8 x) &&& ~~~BitVec.ofInt 8 (n8 y)).toNat : Int) = _
  rw [ofInt_n8, ofInt_n8, wrap_n8]; exact congrArg n8 (ofInt_n8 _)
theorem n64_andNot (x y : BitVec 64) : bits .andNot .u64 (n64 x) (n64 y) = n64 (x &&& ~~~y) := by
  show IntKind.u64.wrap ((BitVec.ofInt 64 (n64 x) &&& ~~~BitVec.ofInt 64 (n64 y)).toNat : Int) = _
  rw [ofInt_n64, ofInt_n64, wrap_n64]; exact congrArg n64 (ofInt_n64 _)
theorem n8_shr (x : BitVec 8) (k : Nat) : n8 x / 2 ^ k = n8 (x >>> k) := by
  unfold n8; rw [BitVec.toNat_ushiftRight, Nat.shiftRight_eq_div_pow, Int.natCast_ediv, Int.natCast_pow]; rfl
/-- What a Cfg byte keeps. -/
def pcl (x : BitVec 8) : BitVec 8 := if x &&& 1#8 = 0#8 then x &&& 0x9d#8 else x &&& 0x9f#8
/-- What an Addr keeps. -/
def pad (x : BitVec 64) : BitVec 64 := x &&& 18014398509481983#64
/-- The cells of an api.Pmp. -/
def pcell (c : Nat → BitVec 8) (a : Nat → BitVec 64) (j : Nat) : Value := if j < 16 then .int .u8 (n8 (c j)) else .int .u64 (n64 (a (j - 16)))
def pc (c : Nat → BitVec 8) (a : Nat → BitVec 64) : Array Value := Array.ofFn (n := 32) fun j => pcell c a j.val
/-- The cells of pmp's own entries. -/
def ecell (c : Nat → BitVec 8) (a : Nat → BitVec 64) (j : Nat) : Value := if j % 2 = 0 then .int .u8 (n8 (c (j / 2))) else .int .u64 (n64 (a (j / 2)))
def ec (c : Nat → BitVec 8) (a : Nat → BitVec 64) : Array Value := Array.ofFn (n := 32) fun j => ecell c a j.val
theorem pc_size (c : Nat → BitVec 8) (a : Nat → BitVec 64) : (pc c a).size = 32 := by simp [pc]
theorem ec_size (c : Nat → BitVec 8) (a : Nat → BitVec 64) : (ec c a).size = 32 := by simp [ec]
theorem pc_at (c : Nat → BitVec 8) (a : Nat → BitVec 64) (j : Nat) (h : j < 32) : (pc c a)[j]? = some (pcell c a j) := by simp [pc, h]
theorem ec_at (c : Nat → BitVec 8) (a : Nat → BitVec 64) (j : Nat) (h : j < 32) : (ec c a)[j]? = some (ecell c a j) := by simp [ec, h]
theorem pc_ones (c : Nat → BitVec 8) (a : Nat → BitVec 64) : (pc c a).all (·.oneCell') = true := by
  rw [Array.all_eq_true]; intro i hi; simp [pc, pcell]; split <;> rfl
theorem ec_ones (c : Nat → BitVec 8) (a : Nat → BitVec 64) : (ec c a).all (·.oneCell') = true := by
  rw [Array.all_eq_true]; intro i hi; simp [ec, ecell]; split <;> rfl
/-- One place of a function turned. -/
def upd {α : Type} (f : Nat → α) (k : Nat) (x : α) : Nat → α := fun j => if j = k then x else f j
theorem set_at {A B : Array Value} {k : Nat} {v : Value} {f g : Nat → Value} (hA : ∀ j, j < 32 → A[j]? = some (f j)) (hB : ∀ j, j < 32 → B[j]? = some (g j)) (sA : A.size = 32) (sB : B.size = 32) (hk : k < 32) (h1 : g k = v) (h2 : ∀ j, j < 32 → j ≠ k → g j = f j) :
    A.setIfInBounds k v = B := by
  apply Array.ext_getElem?
  intro j
  rw [Array.getElem?_setIfInBounds]
  by_cases hj : j < 32
  · rw [hA j hj, hB j hj, sA]
    by_cases e : k = j
    · subst e; rw [if_pos rfl, if_pos hk, h1]
    · rw [if_neg e, h2 j hj (fun q => e q.symm)]
  · rw [if_neg (by omega), Array.getElem?_eq_none (by omega), Array.getElem?_eq_none (by omega)]
theorem pc_cfg (c : Nat → BitVec 8) (a : Nat → BitVec 64) (k : Nat) (x : BitVec 8) (h : k < 16) : (pc c a).setIfInBounds k (.int .u8 (n8 x)) = pc (upd c k x) a := by
  refine set_at (pc_at c a) (pc_at _ a) (pc_size _ _) (pc_size _ _) (by omega) (by simp [pcell, upd, h]) fun j hj hne => ?_
  simp [pcell, upd, hne]
theorem pc_addr (c : Nat → BitVec 8) (a : Nat → BitVec 64) (k : Nat) (x : BitVec 64) (h : k < 16) : (pc c a).setIfInBounds (16 + k) (.int .u64 (n64 x)) = pc c (upd a k x) := by
  refine set_at (pc_at c a) (pc_at _ _) (pc_size _ _) (pc_size _ _) (by omega) (by simp [pcell, upd]) fun j hj hne => ?_
  unfold pcell upd
  split
  · rfl
  · rw [if_neg (by omega)]
theorem ec_cfg (c : Nat → BitVec 8) (a : Nat → BitVec 64) (k : Nat) (x : BitVec 8) (h : k < 16) : (ec c a).setIfInBounds (k * 2) (.int .u8 (n8 x)) = ec (upd c k x) a := by
  refine set_at (ec_at c a) (ec_at _ _) (ec_size _ _) (ec_size _ _) (by omega) (by simp [ecell, upd]) fun j hj hne => ?_
  unfold ecell upd
  split
  · rw [if_neg (by omega)]
  · rfl
theorem ec_addr (c : Nat → BitVec 8) (a : Nat → BitVec 64) (k : Nat) (x : BitVec 64) (h : k < 16) : (ec c a).setIfInBounds (k * 2 + 1) (.int .u64 (n64 x)) = ec c (upd a k x) := by
  refine set_at (ec_at c a) (ec_at _ _) (ec_size _ _) (ec_size _ _) (by omega) ?_ fun j hj hne => ?_
  · unfold ecell upd
    rw [if_neg (by omega), if_pos (by omega)]
  · unfold ecell upd
    split
    · rfl
    · rw [if_neg (by omega)]
theorem pc_congr {c c' : Nat → BitVec 8} {a a' : Nat → BitVec 64} (h : ∀ j, j < 16 → c j = c' j ∧ a j = a' j) : pc c a = pc c' a' := by
  apply Array.ext_getElem?
  intro j
  by_cases hj : j < 32
  · rw [pc_at _ _ _ hj, pc_at _ _ _ hj]; unfold pcell
    split
    · rw [(h j (by omega)).1]
    · rw [(h (j - 16) (by omega)).2]
  · simp [pc, hj]
theorem ec_congr {c c' : Nat → BitVec 8} {a a' : Nat → BitVec 64} (h : ∀ j, j < 16 → c j = c' j ∧ a j = a' j) : ec c a = ec c' a' := by
  apply Array.ext_getElem?
  intro j
  by_cases hj : j < 32
  · rw [ec_at _ _ _ hj, ec_at _ _ _ hj]; unfold ecell
    split
    · rw [(h (j / 2) (by omega)).1]
    · rw [(h (j / 2) (by omega)).2]
  · simp [ec, hj]
/-- Whole rows, loaded from anywhere inside a block. -/
theorem run_load_agg {P : Program} (w : World) (ty : TypeId) (g off : Nat) (cs : Array Value) (d : TypeDesc) (hc : ∀ j v, cs[j]? = some v → w.cell? ⟨g, off + j, none⟩ = some v)
    (hu : P.underlying ty = some d) (hd : (match d with | .struct _ | .array _ _ => true | _ => false) = true) (hi : (P.info? ty).map (·.size) = some cs.size) :
    (loadVar ty ⟨g, off, none⟩).run P w = .ok (.agg cs) w := by
  have hl : (loadCells ⟨g, off, none⟩ cs.toList.length).run P w = .ok cs.toList.toArray w :=
    run_loadCells_list (P := P) w ⟨g, off, none⟩ cs.toList (fun j v hv => by
      have hadd : (⟨g, off, none⟩ : Addr).add j = ⟨g, off + j, none⟩ := by unfold Addr.add; split <;> simp_all
      rw [hadd]; exact hc j v (by simpa using hv))
  cases hq : P.info? ty with
  | none => simp [hq] at hi
  | some i =>
    have hs : i.size = cs.size := by simpa [hq] using hi
    have hagg : (isAgg ty).run P w = .ok true w := by
      unfold isAgg
      rw [Sem.run_bind, run_underlying hu w]
      cases d <;> simp_all
    simp only [Array.length_toList, Array.toArray_toList] at hl
    simp [loadVar, Sem.run_bind, hagg, sizeOf, typeInfo, hq, hs, hl]
theorem wpList_load_agg {P : Program} {ops : Array Oper} {rest : List Oper} {o : Oper} {a : Act} {w : World} {Q : Exit → Act → World → Prop} (hgd : o.guard = none) (ty : TypeId) (x : Operand) (ho : o.op = .load ty x)
    (g off : Nat) (hx : a.eval x = .pointer (some ⟨g, off, none⟩)) (cs : Array Value) (d : TypeDesc) (hc : ∀ j v, cs[j]? = some v → w.cell? ⟨g, off + j, none⟩ = some v)
    (hu : P.underlying ty = some d) (hd : (match d with | .struct _ | .array _ _ => true | _ => false) = true) (hi : (P.info? ty).map (·.size) = some cs.size)
    (h : wpList P ops Q rest (a.put o.dst (.agg cs)) w) : wpList P ops Q (o :: rest) a w :=
  wpList_plain hgd fun _ hK => by
    unfold Oper.wp execOp
    simp only [ho, hx, Instr.loadAt, Instr.sureAddr, Sem.run_bind, Sem.run_pure, Result.andThen_ok, run_load_agg w ty g off cs d hc hu hd hi]
    exact hK _ _ h
theorem wpList_store_row {P : Program} {ops : Array Oper} {rest : List Oper} {o : Oper} {a : Act} {w : World} {Q : Exit → Act → World → Prop} (hgd : o.guard = none) (t : TypeId) (x y : Operand) (ho : o.op = .store t x y) (hd : o.dst = none)
    (g : Nat) (c c' : Array Value) (hx : a.eval x = .pointer (some ⟨g, 0, none⟩)) (hy : a.eval y = .agg c') (hg : w.heap[g]? = some (.cells c t (0, 0))) (hi : (P.info? t).map (·.size) = some c'.size) (hs : c.size = c'.size) (h1 : c'.all (·.oneCell') = true)
    (h : wpList P ops Q rest a (w.setRow g c')) : wpList P ops Q (o :: rest) a w :=
  wpList_plain hgd fun _ hK => by
    unfold Oper.wp execOp
    simp only [ho, hx, hy, Instr.storeAt, Instr.sureAddr, Sem.run_bind, Sem.run_pure, Result.andThen_ok, run_storeVar_row w g t t c c' hg hi hs h1]
    simpa [Oper.upon, Act.put, hd] using hK _ _ h
end Go.Proofs.Ytgblpjkpeihpeaa
namespace Go.Proofs.Ytgblpjkpeihpeaa
set_option linter.unusedVariables false
open Go.ChangeShapes Go.WideShapes Go.ChangeAt Go.RowKit Go.Deep
theorem n8_eq0 (x : BitVec 8) : (n8 x == 0) = decide (x = 0#8) := by
  by_cases h : x = 0#8
  · subst h; rfl
  · have : ¬ n8 x = 0 := fun e => h (n8_inj.1 (e.trans rfl))
    simp [h, this]
theorem pcl_even (x : BitVec 8) (h : x &&& 1#8 = 0#8) : pcl x = x &&& ~~~2#8 &&& 159#8 := by
  unfold pcl; rw [if_pos h, BitVec.and_assoc]; rfl
theorem pcl_odd (x : BitVec 8) (h : ¬ x &&& 1#8 = 0#8) : pcl x = x &&& 159#8 := by
  unfold pcl; rw [if_neg h]
theorem odd_159 : ∀ x : BitVec 8, x &&& 159#8 &&& 1#8 = x &&& 1#8 := by decide +kernel
theorem pcl_even' (x : BitVec 8) (h : x &&& 1#8 = 0#8) : pcl x = x &&& 159#8 &&& ~~~2#8 := by
  unfold pcl; rw [if_pos h, BitVec.and_assoc]; rfl
theorem properCfg_c (x : BitVec 8) (w : World) : Calls Try.prog 80 #[.int .u8 (n8 x)] w fun e w' => e = .returned (.int .u8 (n8 (pcl x))) ∧ w' = w := by
  have b1 : bits .and .u8 (n8 x) 1 = n8 (x &&& 1#8) := n8_and x 1#8
  by_cases h : x &&& 1#8 = 0#8
  · have b2 : bits .andNot .u8 (n8 x) 2 = n8 (x &&& ~~~2#8) := n8_andNot x 2#8
    have b3 : bits .and .u8 (n8 (x &&& ~~~2#8)) 159 = n8 (x &&& ~~~2#8 &&& 159#8) := n8_and _ 159#8
    have e0 : (n8 (x &&& 1#8) == 0) = true := by rw [h]; rfl
    rw [pcl_even x h]
    generalize x &&& ~~~2#8 = y at b2 b3 ⊢
    generalize x &&& 1#8 = z at b1 e0
    clear h
    go_enter Try.func80, Try.ntmps80
    go_wp2
    go_ret
    exact ⟨rfl, rfl⟩
  · have b3 : bits .and .u8 (n8 x) 159 = n8 (x &&& 159#8) := n8_and _ 159#8
    have e0 : (n8 (x &&& 1#8) == 0) = false := by rw [n8_eq0]; simpa using h
    rw [pcl_odd x h]
    generalize x &&& 1#8 = z at b1 e0
    clear h
    go_enter Try.func80, Try.ntmps80
    go_wp2
    go_ret
    exact ⟨rfl, rfl⟩
theorem cleaned_c (x : BitVec 8) (w : World) : Calls Try.prog 70 #[.int .u8 (n8 x)] w fun e w' => e = .returned (.int .u8 (n8 (pcl x))) ∧ w' = w := by
  have b0 : bits .and .u8 (n8 x) 159 = n8 (x &&& 159#8) := n8_and x 159#8
  have b1 : bits .and .u8 (n8 (x &&& 159#8)) 1 = n8 (x &&& 1#8) := by rw [← odd_159 x]; exact n8_and _ 1#8
  by_cases h : x &&& 1#8 = 0#8
  · have b2 : bits .andNot .u8 (n8 (x &&& 159#8)) 2 = n8 (x &&& 159#8 &&& ~~~2#8) := n8_andNot _ 2#8
    have e0 : (n8 (x &&& 1#8) == 0) = true := by rw [h]; rfl
    rw [pcl_even' x h]
    generalize x &&& 159#8 &&& ~~~2#8 = y at b2 ⊢
    generalize x &&& 159#8 = y' at b0 b1 b2
    generalize x &&& 1#8 = z at b1 e0
    clear h
    go_enter Try.func70, Try.ntmps70
    go_wp2
    go_ret
    exact ⟨rfl, rfl⟩
  · have e0 : (n8 (x &&& 1#8) == 0) = false := by rw [n8_eq0]; simpa using h
    rw [pcl_odd x h]
    generalize x &&& 159#8 = y' at b0 b1 ⊢
    generalize x &&& 1#8 = z at b1 e0
    clear h
    go_enter Try.func70, Try.ntmps70
    go_wp2
    go_ret
    exact ⟨rfl, rfl⟩
/-- An entry's lock, kind, rights. -/
def lk (x : BitVec 8) : Bool := decide (¬ x &&& 128#8 = 0#8)
def kd (x : BitVec 8) : BitVec 8 := x >>> 3 &&& 3#8
def rts (x : BitVec 8) : BitVec 8 := x &&& 7#8
end Go.Proofs.Ytgblpjkpeihpeaa
namespace Go.Proofs.Ytgblpjkpeihpeaa
set_option linter.unusedVariables false
open Go.ChangeShapes Go.WideShapes Go.ChangeAt Go.RowKit Go.Deep
/-- A block that is just this row. -/
def Row (w : World) (g : Nat) (cs : Array Value) (t : TypeId) : Prop := w.heap[g]? = some (.cells cs t (0, 0))
theorem ec_zero : #[Value.int .u8 0, .int .u64 0, .int .u8 0, .int .u64 0, .int .u8 0, .int .u64 0, .int .u8 0, .int .u64 0, .int .u8 0, .int .u64 0, .int .u8 0, .int .u64 0, .int .u8 0, .int .u64 0, .int .u8 0, .int .u64 0,
    .int .u8 0, .int .u64 0, .int .u8 0, .int .u64 0, .int .u8 0, .int .u64 0, .int .u8 0, .int .u64 0, .int .u8 0, .int .u64 0, .int .u8 0, .int .u64 0, .int .u8 0, .int .u64 0, .int .u8 0, .int .u64 0] = ec (fun _ => 0#8) (fun _ => 0#64) := by kernel_rfl
theorem pc_zero : #[Value.int .u8 0, .int .u8 0, .int .u8 0, .int .u8 0, .int .u8 0, .int .u8 0, .int .u8 0, .int .u8 0, .int .u8 0, .int .u8 0, .int .u8 0, .int .u8 0, .int .u8 0, .int .u8 0, .int .u8 0, .int .u8 0,
    .int .u64 0, .int .u64 0, .int .u64 0, .int .u64 0, .int .u64 0, .int .u64 0, .int .u64 0, .int .u64 0, .int .u64 0, .int .u64 0, .int .u64 0, .int .u64 0, .int .u64 0, .int .u64 0, .int .u64 0, .int .u64 0] = pc (fun _ => 0#8) (fun _ => 0#64) := by kernel_rfl
theorem Row.new (w : World) (cs : Array Value) (t : TypeId) : Row (w.alloc (.cells cs t)) w.heap.size cs t := heap_alloc_new w _
theorem Row.old {w : World} {g : Nat} {cs : Array Value} {t : TypeId} (h : Row w g cs t) (hg : g < w.heap.size) (o : Obj) : Row (w.alloc o) g cs t := (Below.heap_alloc w o g hg).trans h
theorem Row.lt {w : World} {g : Nat} {cs : Array Value} {t : TypeId} (h : Row w g cs t) : g < w.heap.size := by
  by_cases hg : g < w.heap.size
  · exact hg
  · have : w.heap[g]? = none := Array.getElem?_eq_none (by omega)
    rw [Row, this] at h; cases h
theorem Row.cell {w : World} {g : Nat} {cs : Array Value} {t : TypeId} (h : Row w g cs t) (j : Nat) : w.cell? ⟨g, j, none⟩ = cs[j]? := cell_of_row w g j cs t _ h
theorem Row.froz {w : World} {g : Nat} {cs : Array Value} {t : TypeId} (h : Row w g cs t) (j : Nat) : w.frozen? ⟨g, j, none⟩ = false := frozen_of_row w g j cs t h
theorem Row.later {w w' : World} {B g : Nat} {cs : Array Value} {t : TypeId} (h : Row w g cs t) (b : Below B w w') (hg : g < B) : Row w' g cs t := (b.block g hg).trans h
theorem Row.put {w : World} {g i : Nat} {cs : Array Value} {t : TypeId} (h : Row w g cs t) (v : Value) : Row (w.setCell ⟨g, i, none⟩ v) g (cs.setIfInBounds i v) t := heap_setCell_same w g i cs t v h
theorem Row.other {w : World} {g g' i : Nat} {cs : Array Value} {t : TypeId} (h : Row w g cs t) (hne : g ≠ g') (v : Value) : Row (w.setCell ⟨g', i, none⟩ v) g cs t := (heap_setCell_other w _ g v hne).trans h
theorem below_put {B g i : Nat} {a w : World} (h : Below B a w) (hg : B ≤ g) (v : Value) : Below B a (w.setCell ⟨g, i, none⟩ v) := Below.setCell h hg v
theorem below_row {B g : Nat} {a w : World} (h : Below B a w) (hg : B ≤ g) (cs : Array Value) : Below B a (w.setRow g cs) := h.trans ⟨rfl, rfl, rfl, by simp, fun j hj => setRow_other _ _ _ _ (by omega)⟩
/-- The first k places turned, the rest as they were. -/
def upto {α : Type} (k : Nat) (f g : Nat → α) : Nat → α := fun j => if j < k then f j else g j
theorem upto_succ {α : Type} (k : Nat) (f g : Nat → α) : upd (upto k f g) k (f k) = upto (k + 1) f g := by
  funext j; unfold upd upto
  by_cases h : j = k
  · subst h; rw [if_pos rfl, if_pos (by omega)]
  · rw [if_neg h]
    by_cases h2 : j < k
    · rw [if_pos h2, if_pos (by omega)]
    · rw [if_neg h2, if_neg (by omega)]
theorem upto_zero {α : Type} (f g : Nat → α) : upto 0 f g = g := by funext j; simp [upto]
theorem n64_pad (x : BitVec 64) : bits .and .u64 (n64 x) 18014398509481983 = n64 (pad x) := n64_and x 18014398509481983#64
theorem info48 : (Try.prog.info? 129).map (·.size) = some 2 := by kernel_rfl
set_option maxRecDepth 100000 in
set_option maxHeartbeats 1000000 in
theorem of_c (c : Nat → BitVec 8) (a : Nat → BitVec 64) (w : World) :
    Calls Try.prog 67 #[.agg (pc c a)] w fun e w' => e = .returned (.agg (ec (fun j => pcl (c j)) (fun j => pad (a j)))) ∧ Below w.heap.size w w' := by
  go_enter Try.func67, Try.ntmps67
  go_wp2
  rw [ec_zero]
  go_loopw [5] (fun i wr => ∃ k : Nat, k ≤ 16 ∧ i = .int .i64 k ∧ Hid (Row wr w.heap.size (pc c a) 27) ∧ Hid (Row wr (w.heap.size + 1) (ec (fun _ => 0#8) (fun _ => 0#64)) 131) ∧ Hid (Row wr (w.heap.size + 1 + 1) (ec (upto k (fun j => pcl (c j)) (fun _ => 0#8)) (upto k (fun j => pad (a j)) (fun _ => 0#64))) 131) ∧ Hid (Below w.heap.size w wr)) (fun i _ => 16 - (intOf i).toNat)
  case atStart =>
    refine ⟨0, by omega, rfl, ?_, ?_, ?_, ?_⟩
    · exact ((Row.new w _ _).old (by simp) _).old (by simp; omega) _
    · have := (Row.new (w.alloc (.cells (pc c a) 27)) (ec (fun _ => 0#8) (fun _ => 0#64)) 131).old (by simp) (.cells (ec (fun _ => 0#8) (fun _ => 0#64)) 131)
      simpa [Hid] using this
    · have := Row.new ((w.alloc (.cells (pc c a) 27)).alloc (.cells (ec (fun _ => 0#8) (fun _ => 0#64)) 131)) (ec (fun _ => 0#8) (fun _ => 0#64)) 131
      rw [upto_zero, upto_zero]
      simpa [Hid] using this
    · exact (((Below.refl _ _).alloc (Nat.le_refl _) _).alloc (by simp) _).alloc (by simp; omega) _
  case round =>
    obtain ⟨k, hk, rfl, h0, h1, h2, hb⟩ := hrel
    by_cases hlt : k < 16
    · have hlt2 : (k : Int) < 16 := by omega
      have c0 : wr.cell? ⟨w.heap.size, k, none⟩ = some (.int .u8 (n8 (c k))) := by rw [h0.out.cell, pc_at _ _ _ (by omega), pcell, if_pos hlt]
      have c1 : wr.cell? ⟨w.heap.size, 16 + k, none⟩ = some (.int .u64 (n64 (a k))) := by rw [h0.out.cell, pc_at _ _ _ (by omega), pcell, if_neg (by omega), Nat.add_sub_cancel_left]
      have hp := n64_pad (a k)
      go_upto_region 5 with fail
      refine wp_region_still_tail 13 (by kernel_rfl) (by kernel_rfl) ?_
      change wpStill _ _ wr.drew (fun a' => wpList _ _ _ _ a' wr.drew) _ _
      simp only [List.take_succ_cons, List.take_zero, List.drop_succ_cons, List.drop_zero]
      still_step
      still_step
      still_step
      still_step
      still_step
      still_call (properCfg_c (c k) _)
      still_step
      still_step
      still_step
      still_step
      still_step
      still_step
      still_step
      refine wpStill_nil ?_
      have d0 : ∃ v, wr.cell? ⟨w.heap.size + 1 + 1, k * 2, none⟩ = some v := ⟨_, by rw [h2.out.cell, ec_at _ _ _ (by omega)]⟩
      have d1 : ∃ v, wr.cell? ⟨w.heap.size + 1 + 1, k * 2 + 1, none⟩ = some v := ⟨_, by rw [h2.out.cell, ec_at _ _ _ (by omega)]⟩
      obtain ⟨v0, d0⟩ := d0
      obtain ⟨v1, d1⟩ := d1
      have f0 := h2.out.froz (k * 2)
      have f1 := h2.out.froz (k * 2 + 1)
      go_wp2
      go_roundw
      case rel =>
        refine ⟨k + 1, by omega, by go_num, ?_, ?_, ?_, ?_⟩
        · exact Row.other (Row.other h0.out (by omega) _) (by omega) _
        · exact Row.other (Row.other h1.out (by omega) _) (by omega) _
        · have h := Row.put (i := k * 2 + 1) (Row.put (i := k * 2) h2.out (.int .u8 (n8 (pcl (c k))))) (.int .u64 (n64 (pad (a k))))
          rw [ec_cfg _ _ _ _ hlt, ec_addr _ _ _ _ hlt, upto_succ k (fun j => pcl (c j)), upto_succ k (fun j => pad (a j))] at h
          exact h
        · exact (below_put (below_put hb.out (by omega) _) (by omega) _).drew
      case measure => simp [intOf]; omega
    · obtain rfl : k = 16 := by omega
      have e16 : ((16 : Nat) : Int) = 16 := rfl
      rw [e16]
      clear hk hlt
      have he : ec (upto 16 (fun j => pcl (c j)) fun _ => 0#8) (upto 16 (fun j => pad (a j)) fun _ => 0#64) = ec (fun j => pcl (c j)) (fun j => pad (a j)) :=
        ec_congr fun j hj => by simp [upto, hj]
      rw [he] at h2
      clear he
      go_wp2_with (first | (refine wpList_load_row (by rfl) _ _ (by rfl) _ (by rfl) 131 _ (0, 0) _ h2.out Try.underlying131 (by rfl) (by rw [ec_size]; kernel_rfl) ?_) | (refine wpList_store_row (by rfl) _ _ _ (by rfl) (by rfl) _ _ _ (by rfl) (by rfl) h1.out (by rw [ec_size]; kernel_rfl) (by rw [ec_size, ec_size]) (ec_ones _ _) ?_))
      refine bodyPost_ret (v := .agg (ec (fun j => pcl (c j)) (fun j => pad (a j)))) ?_ rfl ⟨rfl, ?_⟩
      · exact results_cell_row Try.results67 _ _ (w.heap.size + 1) 131 _ (0, 0) _ (by rfl) (setRow_heap _ _ _ _ _ _ h1.out) Try.underlying131 (by rfl) (by rw [ec_size]; kernel_rfl)
      · exact below_row hb.out (by omega) _
set_option maxRecDepth 100000 in
set_option maxHeartbeats 1000000 in
theorem told_c (c : Nat → BitVec 8) (a : Nat → BitVec 64) (g : Nat) (w : World) (hg : Row w g (ec c a) 131) :
    Calls Try.prog 68 #[.pointer (some ⟨g, 0, none⟩)] w fun e w' => e = .returned (.agg (pc c a)) ∧ Below w.heap.size w w' := by
  have hlg := hg.lt
  have HG : Hid (Row w g (ec c a) 131) := hg
  clear hg
  go_enter Try.func68, Try.ntmps68
  go_wp2
  rw [pc_zero]
  go_loopw [5] (fun i wr => ∃ k : Nat, k ≤ 16 ∧ i = .int .i64 k ∧ Hid (Row wr g (ec c a) 131) ∧ Hid (Row wr w.heap.size (pc (fun _ => 0#8) (fun _ => 0#64)) 27) ∧ Hid (Row wr (w.heap.size + 1) (pc (upto k c (fun _ => 0#8)) (upto k a (fun _ => 0#64))) 27) ∧ Hid (Below w.heap.size w wr)) (fun i _ => 16 - (intOf i).toNat)
  case atStart =>
    refine ⟨0, by omega, rfl, ?_, ?_, ?_, ?_⟩
    · exact (HG.out.old hlg _).old (by simp; omega) _
    · exact (Row.new w _ _).old (by simp) _
    · have := Row.new (w.alloc (.cells (pc (fun _ => 0#8) (fun _ => 0#64)) 27)) (pc (fun _ => 0#8) (fun _ => 0#64)) 27
      rw [upto_zero, upto_zero]
      simpa [Hid] using this
    · exact (((Below.refl _ _).alloc (Nat.le_refl _) _).alloc (by simp) _)
  case round =>
    obtain ⟨k, hk, rfl, h0, h1, h2, hb⟩ := hrel
    by_cases hlt : k < 16
    · have hlt2 : (k : Int) < 16 := by omega
      have c0 : wr.cell? ⟨g, k * 2, none⟩ = some (.int .u8 (n8 (c k))) := by rw [h0.out.cell, ec_at _ _ _ (by omega), ecell, if_pos (by omega), Nat.mul_div_cancel _ (by omega)]
      have c1 : wr.cell? ⟨g, k * 2 + 1, none⟩ = some (.int .u64 (n64 (a k))) := by rw [h0.out.cell, ec_at _ _ _ (by omega), ecell, if_neg (by omega), show (k * 2 + 1) / 2 = k by omega]
      have d0 : ∃ v, wr.cell? ⟨w.heap.size + 1, k, none⟩ = some v := ⟨_, by rw [h2.out.cell, pc_at _ _ _ (by omega)]⟩
      have d1 : ∃ v, wr.cell? ⟨w.heap.size + 1, 16 + k, none⟩ = some v := ⟨_, by rw [h2.out.cell, pc_at _ _ _ (by omega)]⟩
      obtain ⟨v0, d0⟩ := d0
      obtain ⟨v1, d1⟩ := d1
      have f0 := h2.out.froz k
      have f1 := h2.out.froz (16 + k)
      have ne1 : ¬ 16 + k = k := by omega
      have ne2 : ¬ k = 16 + k := by omega
      go_upto_region 5 with fail
      go_region
      go_wp2
      go_roundw
      case rel =>
        refine ⟨k + 1, by omega, by go_num, ?_, ?_, ?_, ?_⟩
        · exact Row.other (Row.other h0.out (by omega) _) (by omega) _
        · exact Row.other (Row.other h1.out (by omega) _) (by omega) _
        · have h := Row.put (i := 16 + k) (Row.put (i := k) h2.out (.int .u8 (n8 (c k)))) (.int .u64 (n64 (a k)))
          rw [pc_cfg _ _ _ _ hlt, pc_addr _ _ _ _ hlt, upto_succ k c, upto_succ k a] at h
          exact h
        · exact (below_put (below_put hb.out (by omega) _) (by omega) _).drew
      case measure => simp [intOf]; omega
    · obtain rfl : k = 16 := by omega
      have e16 : ((16 : Nat) : Int) = 16 := rfl
      rw [e16]
      clear hk hlt
      have he : pc (upto 16 c fun _ => 0#8) (upto 16 a fun _ => 0#64) = pc c a :=
        pc_congr fun j hj => by simp [upto, hj]
      rw [he] at h2
      clear he
      go_wp2_with (first | (refine wpList_load_row (by rfl) _ _ (by rfl) _ (by rfl) 27 _ (0, 0) _ h2.out Try.underlying27 (by rfl) (by rw [pc_size]; kernel_rfl) ?_) | (refine wpList_store_row (by rfl) _ _ _ (by rfl) (by rfl) _ _ _ (by rfl) (by rfl) h1.out (by rw [pc_size]; kernel_rfl) (by rw [pc_size, pc_size]) (pc_ones _ _) ?_))
      refine bodyPost_ret (v := .agg (pc c a)) ?_ rfl ⟨rfl, ?_⟩
      · exact results_cell_row Try.results68 _ _ w.heap.size 27 _ (0, 0) _ (by rfl) (setRow_heap _ _ _ _ _ _ h1.out) Try.underlying27 (by rfl) (by rw [pc_size]; kernel_rfl)
      · exact below_row hb.out (by omega) _
end Go.Proofs.Ytgblpjkpeihpeaa
