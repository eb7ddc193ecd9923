/-
  Pba Pbl.
-/
import Derived.Test.YthmjimmmkoeeoaaDoorM01
namespace Go.Proofs.YthmjimmmkoeeoaaDoor
set_option linter.unusedVariables false
open Go.ChangeShapes Go.WideShapes Go.ChangeAt Go.RowKit Go.Deep
/-- A byte as the program's number. -/
def n8 (x : BitVec 8) : Int := (x.toNat : Int)
theorem n8_inj {x y : BitVec 8} : n8 x = n8 y ↔ x = y := by
  unfold n8; constructor
  · intro h; exact BitVec.eq_of_toNat_eq (by omega)
  · rintro rfl; rfl
theorem n8_lo (x : BitVec 8) : 0 ≤ n8 x := by unfold n8; omega
theorem n8_hi (x : BitVec 8) : n8 x ≤ 255 := by unfold n8; have := x.isLt; omega
theorem n8_of {n : Int} (h : (Lit.int .u8 n).wf = true) : ∃ x : BitVec 8, n = n8 x := by
  have hb := bounds_u8 h
  refine ⟨BitVec.ofNat 8 n.toNat, ?_⟩
  unfold n8; rw [BitVec.toNat_ofNat, Nat.mod_eq_of_lt (by omega)]; omega
theorem ofInt_n8 (x : BitVec 8) : BitVec.ofInt 8 (n8 x) = x := by
  unfold n8; apply BitVec.eq_of_toNat_eq; rw [BitVec.toNat_ofInt]; have := x.isLt; omega
theorem wrap_n8 (z : Int) : IntKind.u8.wrap z = n8 (BitVec.ofInt 8 z) := by
  unfold n8; rw [BitVec.toNat_ofInt]; simp [IntKind.wrap, IntKind.signed, IntKind.bits]; omega
theorem n8_and (x y : BitVec 8) : bits .and .u8 (n8 x) (n8 y) = n8 (x &&& y) := by
  show IntKind.u8.wrap ((BitVec.ofInt 8 (n8 x) &&& BitVec.ofInt 8 (n8 y)).toNat : Int) = _
  rw [ofInt_n8, ofInt_n8, wrap_n8]; exact congrArg n8 (ofInt_n8 _)
theorem n8_andNot (x y : BitVec 8) : bits .andNot .u8 (n8 x) (n8 y) = n8 (x &&& ~~~y) := by
  show IntKind.u8.wrap ((BitVec.ofInt 8 (n8 x) &&& ~~~BitVec.ofInt 8 (n8 y)).toNat : Int) = _
  rw [ofInt_n8, ofInt_n8, wrap_n8]; exact congrArg n8 (ofInt_n8 _)
theorem n64_andNot (x y : BitVec 64) : bits .andNot .u64 (n64 x) (n64 y) = n64 (x &&& ~~~y) := by
  show IntKind.u64.wrap ((BitVec.ofInt 64 (n64 x) &&& ~~~BitVec.ofInt 64 (n64 y)).toNat : Int) = _
  rw [ofInt_n64, ofInt_n64, wrap_n64]; exact congrArg n64 (ofInt_n64 _)
theorem n8_shr (x : BitVec 8) (k : Nat) : n8 x / 2 ^ k = n8 (x >>> k) := by
  unfold n8; rw [BitVec.toNat_ushiftRight, Nat.shiftRight_eq_div_pow, Int.natCast_ediv, Int.natCast_pow]; rfl
/-- What a Cfg byte keeps. -/
def pcl (x : BitVec 8) : BitVec 8 := if x &&& 1#8 = 0#8 then x &&& 0x9d#8 else x &&& 0x9f#8
/-- What an Addr keeps. -/
def pad (x : BitVec 64) : BitVec 64 := x &&& 18014398509481983#64
/-- The cells of an api.Pmp. -/
def pcell (c : Nat → BitVec 8) (a : Nat → BitVec 64) (j : Nat) : Value := if j < 16 then .int .u8 (n8 (c j)) else .int .u64 (n64 (a (j - 16)))
def pc (c : Nat → BitVec 8) (a : Nat → BitVec 64) : Array Value := Array.ofFn (n := 32) fun j => pcell c a j.val
/-- The cells of pmp's own entries. -/
def ecell (c : Nat → BitVec 8) (a : Nat → BitVec 64) (j : Nat) : Value := if j % 2 = 0 then .int .u8 (n8 (c (j / 2))) else .int .u64 (n64 (a (j / 2)))
def ec (c : Nat → BitVec 8) (a : Nat → BitVec 64) : Array Value := Array.ofFn (n := 32) fun j => ecell c a j.val
theorem pc_size (c : Nat → BitVec 8) (a : Nat → BitVec 64) : (pc c a).size = 32 := by simp [pc]
theorem ec_size (c : Nat → BitVec 8) (a : Nat → BitVec 64) : (ec c a).size = 32 := by simp [ec]
theorem pc_at (c : Nat → BitVec 8) (a : Nat → BitVec 64) (j : Nat) (h : j < 32) : (pc c a)[j]? = some (pcell c a j) := by simp [pc, h]
theorem ec_at (c : Nat → BitVec 8) (a : Nat → BitVec 64) (j : Nat) (h : j < 32) : (ec c a)[j]? = some (ecell c a j) := by simp [ec, h]
theorem pc_ones (c : Nat → BitVec 8) (a : Nat → BitVec 64) : (pc c a).all (·.oneCell') = true := by
  rw [Array.all_eq_true]; intro i hi; simp [pc, pcell]; split <;> rfl
theorem ec_ones (c : Nat → BitVec 8) (a : Nat → BitVec 64) : (ec c a).all (·.oneCell') = true := by
  rw [Array.all_eq_true]; intro i hi; simp [ec, ecell]; split <;> rfl
/-- One place of a function turned. -/
def upd {α : Type} (f : Nat → α) (k : Nat) (x : α) : Nat → α := fun j => if j = k then x else f j
theorem set_at {A B : Array Value} {k : Nat} {v : Value} {f g : Nat → Value} (hA : ∀ j, j < 32 → A[j]? = some (f j)) (hB : ∀ j, j < 32 → B[j]? = some (g j)) (sA : A.size = 32) (sB : B.size = 32) (hk : k < 32) (h1 : g k = v) (h2 : ∀ j, j < 32 → j ≠ k → g j = f j) :
    A.setIfInBounds k v = B := by
  apply Array.ext_getElem?
  intro j
  rw [Array.getElem?_setIfInBounds]
  by_cases hj : j < 32
  · rw [hA j hj, hB j hj, sA]
    by_cases e : k = j
    · subst e; rw [if_pos rfl, if_pos hk, h1]
    · rw [if_neg e, h2 j hj (fun q => e q.symm)]
  · rw [if_neg (by omega), Array.getElem?_eq_none (by omega), Array.getElem?_eq_none (by omega)]
theorem pc_cfg (c : Nat → BitVec 8) (a : Nat → BitVec 64) (k : Nat) (x : BitVec 8) (h : k < 16) : (pc c a).setIfInBounds k (.int .u8 (n8 x)) = pc (upd c k x) a := by
  refine set_at (pc_at c a) (pc_at _ a) (pc_size _ _) (pc_size _ _) (by omega) (by simp [pcell, upd, h]) fun j hj hne => ?_
  simp [pcell, upd, hne]
theorem pc_addr (c : Nat → BitVec 8) (a : Nat → BitVec 64) (k : Nat) (x : BitVec 64) (h : k < 16) : (pc c a).setIfInBounds (16 + k) (.int .u64 (n64 x)) = pc c (upd a k x) := by
  refine set_at (pc_at c a) (pc_at _ _) (pc_size _ _) (pc_size _ _) (by omega) (by simp [pcell, upd]) fun j hj hne => ?_
  unfold pcell upd
  split
  · rfl
  · rw [if_neg (by omega)]
theorem ec_cfg (c : Nat → BitVec 8) (a : Nat → BitVec 64) (k : Nat) (x : BitVec 8) (h : k < 16) : (ec c a).setIfInBounds (k * 2) (.int .u8 (n8 x)) = ec (upd c k x) a := by
  refine set_at (ec_at c a) (ec_at _ _) (ec_size _ _) (ec_size _ _) (by omega) (by simp [ecell, upd]) fun j hj hne => ?_
  unfold ecell upd
  split
  · rw [if_neg (by omega)]
  · rfl
theorem ec_addr (c : Nat → BitVec 8) (a : Nat → BitVec 64) (k : Nat) (x : BitVec 64) (h : k < 16) : (ec c a).setIfInBounds (k * 2 + 1) (.int .u64 (n64 x)) = ec c (upd a k x) := by
  refine set_at (ec_at c a) (ec_at _ _) (ec_size _ _) (ec_size _ _) (by omega) ?_ fun j hj hne => ?_
  · unfold ecell upd
    rw [if_neg (by omega), if_pos (by omega)]
  · unfold ecell upd
    split
    · rfl
    · rw [if_neg (by omega)]
theorem pc_congr {c c' : Nat → BitVec 8} {a a' : Nat → BitVec 64} (h : ∀ j, j < 16 → c j = c' j ∧ a j = a' j) : pc c a = pc c' a' := by
  apply Array.ext_getElem?
  intro j
  by_cases hj : j < 32
  · rw [pc_at _ _ _ hj, pc_at _ _ _ hj]; unfold pcell
    split
    · rw [(h j (by omega)).1]
    · rw [(h (j - 16) (by omega)).2]
  · simp [pc, hj]
theorem ec_congr {c c' : Nat → BitVec 8} {a a' : Nat → BitVec 64} (h : ∀ j, j < 16 → c j = c' j ∧ a j = a' j) : ec c a = ec c' a' := by
  apply Array.ext_getElem?
  intro j
  by_cases hj : j < 32
  · rw [ec_at _ _ _ hj, ec_at _ _ _ hj]; unfold ecell
    split
    · rw [(h (j / 2) (by omega)).1]
    · rw [(h (j / 2) (by omega)).2]
  · simp [ec, hj]
/-- Whole rows, loaded from anywhere inside a block. -/
theorem run_load_agg {P : Program} (w : World) (ty : TypeId) (g off : Nat) (cs : Array Value) (d : TypeDesc) (hc : ∀ j v, cs[j]? = some v → w.cell? ⟨g, off + j, none⟩ = some v)
    (hu : P.underlying ty = some d) (hd : (match d with | .struct _ | .array _ _ => true | _ => false) = true) (hi : (P.info? ty).map (·.size) = some cs.size) :
    (loadVar ty ⟨g, off, none⟩).run P w = .ok (.agg cs) w := by
  have hl : (loadCells ⟨g, off, none⟩ cs.toList.length).run P w = .ok cs.toList.toArray w :=
    run_loadCells_list (P := P) w ⟨g, off, none⟩ cs.toList (fun j v hv => by
      have hadd : (⟨g, off, none⟩ : Addr).add j = ⟨g, off + j, none⟩ := by unfold Addr.add; split <;> simp_all
      rw [hadd]; exact hc j v (by simpa using hv))
  cases hq : P.info? ty with
  | none => simp [hq] at hi
  | some i =>
    have hs : i.size = cs.size := by simpa [hq] using hi
    have hagg : (isAgg ty).run P w = .ok true w := by
      unfold isAgg
      rw [Sem.run_bind, run_underlying hu w]
      cases d <;> simp_all
    simp only [Array.length_toList, Array.toArray_toList] at hl
    simp [loadVar, Sem.run_bind, hagg, sizeOf, typeInfo, hq, hs, hl]
theorem wpList_load_agg {P : Program} {ops : Array Oper} {rest : List Oper} {o : Oper} {a : Act} {w : World} {Q : Exit → Act → World → Prop} (hgd : o.guard = none) (ty : TypeId) (x : Operand) (ho : o.op = .load ty x)
    (g off : Nat) (hx : a.eval x = .pointer (some ⟨g, off, none⟩)) (cs : Array Value) (d : TypeDesc) (hc : ∀ j v, cs[j]? = some v → w.cell? ⟨g, off + j, none⟩ = some v)
    (hu : P.underlying ty = some d) (hd : (match d with | .struct _ | .array _ _ => true | _ => false) = true) (hi : (P.info? ty).map (·.size) = some cs.size)
    (h : wpList P ops Q rest (a.put o.dst (.agg cs)) w) : wpList P ops Q (o :: rest) a w :=
  wpList_plain hgd fun _ hK => by
    unfold Oper.wp execOp
    simp only [ho, hx, Instr.loadAt, Instr.sureAddr, Sem.run_bind, Sem.run_pure, Result.andThen_ok, run_load_agg w ty g off cs d hc hu hd hi]
    exact hK _ _ h
theorem wpList_store_row {P : Program} {ops : Array Oper} {rest : List Oper} {o : Oper} {a : Act} {w : World} {Q : Exit → Act → World → Prop} (hgd : o.guard = none) (t : TypeId) (x y : Operand) (ho : o.op = .store t x y) (hd : o.dst = none)
    (g : Nat) (c c' : Array Value) (hx : a.eval x = .pointer (some ⟨g, 0, none⟩)) (hy : a.eval y = .agg c') (hg : w.heap[g]? = some (.cells c t (0, 0))) (hi : (P.info? t).map (·.size) = some c'.size) (hs : c.size = c'.size) (h1 : c'.all (·.oneCell') = true)
    (h : wpList P ops Q rest a (w.setRow g c')) : wpList P ops Q (o :: rest) a w :=
  wpList_plain hgd fun _ hK => by
    unfold Oper.wp execOp
    simp only [ho, hx, hy, Instr.storeAt, Instr.sureAddr, Sem.run_bind, Sem.run_pure, Result.andThen_ok, run_storeVar_row w g t t c c' hg hi hs h1]
    simpa [Oper.upon, Act.put, hd] using hK _ _ h
end Go.Proofs.YthmjimmmkoeeoaaDoor
namespace Go.Proofs.YthmjimmmkoeeoaaDoor
set_option linter.unusedVariables false
open Go.ChangeShapes Go.WideShapes Go.ChangeAt Go.RowKit Go.Deep
theorem n8_eq0 (x : BitVec 8) : (n8 x == 0) = decide (x = 0#8) := by
  by_cases h : x = 0#8
  · subst h; rfl
  · have : ¬ n8 x = 0 := fun e => h (n8_inj.1 (e.trans rfl))
    simp [h, this]
theorem pcl_even (x : BitVec 8) (h : x &&& 1#8 = 0#8) : pcl x = x &&& ~~~2#8 &&& 159#8 := by
  unfold pcl; rw [if_pos h, BitVec.and_assoc]; rfl
theorem pcl_odd (x : BitVec 8) (h : ¬ x &&& 1#8 = 0#8) : pcl x = x &&& 159#8 := by
  unfold pcl; rw [if_neg h]
theorem odd_159 : ∀ x : BitVec 8, x &&& 159#8 &&& 1#8 = x &&& 1#8 := by decide +kernel
theorem pcl_even' (x : BitVec 8) (h : x &&& 1#8 = 0#8) : pcl x = x &&& 159#8 &&& ~~~2#8 := by
  unfold pcl; rw [if_pos h, BitVec.and_assoc]; rfl
theorem properCfg_c (x : BitVec 8) (w : World) : Calls Tryd.prog 77 #[.int .u8 (n8 x)] w fun e w' => e = .returned (.int .u8 (n8 (pcl x))) ∧ w' = w := by
  have b1 : bits .and .u8 (n8 x) 1 = n8 (x &&& 1#8) := n8_and x 1#8
  by_cases h : x &&& 1#8 = 0#8
  · have b2 : bits .andNot .u8 (n8 x) 2 = n8 (x &&& ~~~2#8) := n8_andNot x 2#8
    have b3 : bits .and .u8 (n8 (x &&& ~~~2#8)) 159 = n8 (x &&& ~~~2#8 &&& 159#8) := n8_and _ 159#8
    have e0 : (n8 (x &&& 1#8) == 0) = true := by rw [h]; rfl
    rw [pcl_even x h]
    generalize x &&& ~~~2#8 = y at b2 b3 ⊢
    generalize x &&& 1#8 = z at b1 e0
    clear h
    go_enter Tryd.func77, Tryd.ntmps77
    go_wp2
    go_ret
    exact ⟨rfl, rfl⟩
  · have b3 : bits .and .u8 (n8 x) 159 = n8 (x &&& 159#8) := n8_and _ 159#8
    have e0 : (n8 (x &&& 1#8) == 0) = false := by rw [n8_eq0]; simpa using h
    rw [pcl_odd x h]
    generalize x &&& 1#8 = z at b1 e0
    clear h
    go_enter Tryd.func77, Tryd.ntmps77
    go_wp2
    go_ret
    exact ⟨rfl, rfl⟩
theorem cleaned_c (x : BitVec 8) (w : World) : Calls Tryd.prog 52 #[.int .u8 (n8 x)] w fun e w' => e = .returned (.int .u8 (n8 (pcl x))) ∧ w' = w := by
  have b0 : bits .and .u8 (n8 x) 159 = n8 (x &&& 159#8) := n8_and x 159#8
  have b1 : bits .and .u8 (n8 (x &&& 159#8)) 1 = n8 (x &&& 1#8) := by rw [← odd_159 x]; exact n8_and _ 1#8
  by_cases h : x &&& 1#8 = 0#8
  · have b2 : bits .andNot .u8 (n8 (x &&& 159#8)) 2 = n8 (x &&& 159#8 &&& ~~~2#8) := n8_andNot _ 2#8
    have e0 : (n8 (x &&& 1#8) == 0) = true := by rw [h]; rfl
    rw [pcl_even' x h]
    generalize x &&& 159#8 &&& ~~~2#8 = y at b2 ⊢
    generalize x &&& 159#8 = y' at b0 b1 b2
    generalize x &&& 1#8 = z at b1 e0
    clear h
    go_enter Tryd.func52, Tryd.ntmps52
    go_wp2
    go_ret
    exact ⟨rfl, rfl⟩
  · have e0 : (n8 (x &&& 1#8) == 0) = false := by rw [n8_eq0]; simpa using h
    rw [pcl_odd x h]
    generalize x &&& 159#8 = y' at b0 b1 ⊢
    generalize x &&& 1#8 = z at b1 e0
    clear h
    go_enter Tryd.func52, Tryd.ntmps52
    go_wp2
    go_ret
    exact ⟨rfl, rfl⟩
/-- An entry's lock, kind, rights. -/
def lk (x : BitVec 8) : Bool := decide (¬ x &&& 128#8 = 0#8)
def kd (x : BitVec 8) : BitVec 8 := x >>> 3 &&& 3#8
def rts (x : BitVec 8) : BitVec 8 := x &&& 7#8
end Go.Proofs.YthmjimmmkoeeoaaDoor
