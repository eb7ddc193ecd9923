import Derived.Test.YtlhgphokfpnfeaaGreatDoorK01
import Derived.StillTailTactics
import Derived.Deep.CutRange
import Derived.BigRegion
import Derived.BigQuiet
import Derived.Deep.QuietTactic
import Derived.ChangeKeysEq
import Derived.SizedLaws
import Derived.OpenShut
import Derived.Lib.TrailingZeros
import Derived.Laws.ResultCell
import Derived.OwnWalk
namespace Go.Proofs.YtlhgphokfpnfeaaGreatDoor
set_option linter.unusedVariables false
open Go.ChangeShapes Go.WideShapes Go.ChangeAt Go.RowKit Go.Deep
/-- A byte as the program's number. -/
def n8 (x : BitVec 8) : Int := (x.toNat : Int)
theorem n8_inj {x y : BitVec 8} : n8 x = n8 y ↔ x = y := by
  unfold n8; constructor
  · intro h; exact BitVec.eq_of_toNat_eq (by omega)
  · rintro rfl; rfl
theorem n8_lo (x : BitVec 8) : 0 ≤ n8 x := by unfold n8; omega
theorem n8_hi (x : BitVec 8) : n8 x ≤ 255 := by unfold n8; have := x.isLt; omega
theorem n8_of {n : Int} (h : (Lit.int .u8 n).wf = true) : ∃ x : BitVec 8, n = n8 x := by
  have hb := bounds_u8 h
  refine ⟨BitVec.ofNat 8 n.toNat, ?_⟩
  unfold n8; rw [BitVec.toNat_ofNat, Nat.mod_eq_of_lt (by omega)]; omega
theorem ofInt_n8 (x : BitVec 8) : BitVec.ofInt 8 (n8 x) = x := by
  unfold n8; apply BitVec.eq_of_toNat_eq; rw [BitVec.toNat_ofInt]; have := x.isLt; omega
theorem wrap_n8 (z : Int) : IntKind.u8.wrap z = n8 (BitVec.ofInt 8 z) := by
  unfold n8; rw [BitVec.toNat_ofInt]; simp [IntKind.wrap, IntKind.signed, IntKind.bits]; omega
theorem n8_and (x y : BitVec 8) : bits .and .u8 (n8 x) (n8 y) = n8 (x &&& y) := by
  show IntKind.u8.wrap ((BitVec.ofInt 8 (n8 x) &&& BitVec.ofInt 8 (n8 y)).toNat : Int) = _
  rw [ofInt_n8, ofInt_n8, wrap_n8]; exact congrArg n8 (ofInt_n8 _)
theorem n8_andNot (x y : BitVec 8) : bits .andNot .u8 (n8 x) (n8 y) = n8 (x &&& ~~~y) := by
  show IntKind.u8.wrap ((BitVec.ofInt 8 (n8 x) &&& ~~~BitVec.ofInt 8 (n8 y)).toNat : Int) = _
  rw [ofInt_n8, ofInt_n8, wrap_n8]; exact congrArg n8 (ofInt_n8 _)
theorem n64_andNot (x y : BitVec 64) : bits .andNot .u64 (n64 x) (n64 y) = n64 (x &&& ~~~y) := by
  show IntKind.u64.wrap ((BitVec.ofInt 64 (n64 x) &&& ~~~BitVec.ofInt 64 (n64 y)).toNat : Int) = _
  rw [ofInt_n64, ofInt_n64, wrap_n64]; exact congrArg n64 (ofInt_n64 _)
theorem n8_shr (x : BitVec 8) (k : Nat) : n8 x / 2 ^ k = n8 (x >>> k) := by
  unfold n8; rw [BitVec.toNat_ushiftRight, Nat.shiftRight_eq_div_pow, Int.natCast_ediv, Int.natCast_pow]; rfl
/-- What a Cfg byte keeps. -/
def pcl (x : BitVec 8) : BitVec 8 := if x &&& 1#8 = 0#8 then x &&& 0x9d#8 else x &&& 0x9f#8
/-- What an Addr keeps. -/
def pad (x : BitVec 64) : BitVec 64 := x &&& 18014398509481983#64
/-- The cells of an api.Pmp. -/
def pcell (c : Nat → BitVec 8) (a : Nat → BitVec 64) (j : Nat) : Value := if j < 16 then .int .u8 (n8 (c j)) else .int .u64 (n64 (a (j - 16)))
def pc (c : Nat → BitVec 8) (a : Nat → BitVec 64) : Array Value := Array.ofFn (n := 32) fun j => pcell c a j.val
/-- The cells of pmp's own entries. -/
def ecell (c : Nat → BitVec 8) (a : Nat → BitVec 64) (j : Nat) : Value := if j % 2 = 0 then .int .u8 (n8 (c (j / 2))) else .int .u64 (n64 (a (j / 2)))
def ec (c : Nat → BitVec 8) (a : Nat → BitVec 64) : Array Value := Array.ofFn (n := 32) fun j => ecell c a j.val
theorem pc_size (c : Nat → BitVec 8) (a : Nat → BitVec 64) : (pc c a).size = 32 := by simp [pc]
theorem ec_size (c : Nat → BitVec 8) (a : Nat → BitVec 64) : (ec c a).size = 32 := by simp [ec]
theorem pc_at (c : Nat → BitVec 8) (a : Nat → BitVec 64) (j : Nat) (h : j < 32) : (pc c a)[j]? = some (pcell c a j) := by simp [pc, h]
theorem ec_at (c : Nat → BitVec 8) (a : Nat → BitVec 64) (j : Nat) (h : j < 32) : (ec c a)[j]? = some (ecell c a j) := by simp [ec, h]
theorem pc_ones (c : Nat → BitVec 8) (a : Nat → BitVec 64) : (pc c a).all (·.oneCell') = true := by
  rw [Array.all_eq_true]; intro i hi; simp [pc, pcell]; split <;> rfl
theorem ec_ones (c : Nat → BitVec 8) (a : Nat → BitVec 64) : (ec c a).all (·.oneCell') = true := by
  rw [Array.all_eq_true]; intro i hi; simp [ec, ecell]; split <;> rfl
/-- One place of a function turned. -/
def upd {α : Type} (f : Nat → α) (k : Nat) (x : α) : Nat → α := fun j => if j = k then x else f j
theorem set_at {A B : Array Value} {k : Nat} {v : Value} {f g : Nat → Value} (hA : ∀ j, j < 32 → A[j]? = some (f j)) (hB : ∀ j, j < 32 → B[j]? = some (g j)) (sA : A.size = 32) (sB : B.size = 32) (hk : k < 32) (h1 : g k = v) (h2 : ∀ j, j < 32 → j ≠ k → g j = f j) :
    A.setIfInBounds k v = B := by
  apply Array.ext_getElem?
  intro j
  rw [Array.getElem?_setIfInBounds]
  by_cases hj : j < 32
  · rw [hA j hj, hB j hj, sA]
    by_cases e : k = j
    · subst e; rw [if_pos rfl, if_pos hk, h1]
    · rw [if_neg e, h2 j hj (fun q => e q.symm)]
  · rw [if_neg (by omega), Array.getElem?_eq_none (by omega), Array.getElem?_eq_none (by omega)]
theorem pc_cfg (c : Nat → BitVec 8) (a : Nat → BitVec 64) (k : Nat) (x : BitVec 8) (h : k < 16) : (pc c a).setIfInBounds k (.int .u8 (n8 x)) = pc (upd c k x) a := by
  refine set_at (pc_at c a) (pc_at _ a) (pc_size _ _) (pc_size _ _) (by omega) (by simp [pcell, upd, h]) fun j hj hne => ?_
  simp [pcell, upd, hne]
theorem pc_addr (c : Nat → BitVec 8) (a : Nat → BitVec 64) (k : Nat) (x : BitVec 64) (h : k < 16) : (pc c a).setIfInBounds (16 + k) (.int .u64 (n64 x)) = pc c (upd a k x) := by
  refine set_at (pc_at c a) (pc_at _ _) (pc_size _ _) (pc_size _ _) (by omega) (by simp [pcell, upd]) fun j hj hne => ?_
  unfold pcell upd
  split
  · rfl
  · rw [if_neg (by omega)]
theorem ec_cfg (c : Nat → BitVec 8) (a : Nat → BitVec 64) (k : Nat) (x : BitVec 8) (h : k < 16) : (ec c a).setIfInBounds (k * 2) (.int .u8 (n8 x)) = ec (upd c k x) a := by
  refine set_at (ec_at c a) (ec_at _ _) (ec_size _ _) (ec_size _ _) (by omega) (by simp [ecell, upd]) fun j hj hne => ?_
  unfold ecell upd
  split
  · rw [if_neg (by omega)]
  · rfl
theorem ec_addr (c : Nat → BitVec 8) (a : Nat → BitVec 64) (k : Nat) (x : BitVec 64) (h : k < 16) : (ec c a).setIfInBounds (k * 2 + 1) (.int .u64 (n64 x)) = ec c (upd a k x) := by
  refine set_at (ec_at c a) (ec_at _ _) (ec_size _ _) (ec_size _ _) (by omega) ?_ fun j hj hne => ?_
  · unfold ecell upd
    rw [if_neg (by omega), if_pos (by omega)]
  · unfold ecell upd
    split
    · rfl
    · rw [if_neg (by omega)]
theorem pc_congr {c c' : Nat → BitVec 8} {a a' : Nat → BitVec 64} (h : ∀ j, j < 16 → c j = c' j ∧ a j = a' j) : pc c a = pc c' a' := by
  apply Array.ext_getElem?
  intro j
  by_cases hj : j < 32
  · rw [pc_at _ _ _ hj, pc_at _ _ _ hj]; unfold pcell
    split
    · rw [(h j (by omega)).1]
    · rw [(h (j - 16) (by omega)).2]
  · simp [pc, hj]
theorem ec_congr {c c' : Nat → BitVec 8} {a a' : Nat → BitVec 64} (h : ∀ j, j < 16 → c j = c' j ∧ a j = a' j) : ec c a = ec c' a' := by
  apply Array.ext_getElem?
  intro j
  by_cases hj : j < 32
  · rw [ec_at _ _ _ hj, ec_at _ _ _ hj]; unfold ecell
    split
    · rw [(h (j / 2) (by omega)).1]
    · rw [(h (j / 2) (by omega)).2]
  · simp [ec, hj]
/-- Whole rows, loaded from anywhere inside a block. -/
theorem run_load_agg {P : Program} (w : World) (ty : TypeId) (g off : Nat) (cs : Array Value) (d : TypeDesc) (hc : ∀ j v, cs[j]? = some v → w.cell? ⟨g, off + j, none⟩ = some v)
    (hu : P.underlying ty = some d) (hd : (match d with | .struct _ | .array _ _ => true | _ => false) = true) (hi : (P.info? ty).map (·.size) = some cs.size) :
    (loadVar ty ⟨g, off, none⟩).run P w = .ok (.agg cs) w := by
  have hl : (loadCells ⟨g, off, none⟩ cs.toList.length).run P w = .ok cs.toList.toArray w :=
    run_loadCells_list (P := P) w ⟨g, off, none⟩ cs.toList (fun j v hv => by
      have hadd : (⟨g, off, none⟩ : Addr).add j = ⟨g, off + j, none⟩ := by unfold Addr.add; split <;> simp_all
      rw [hadd]; exact hc j v (by simpa using hv))
  cases hq : P.info? ty with
  | none => simp [hq] at hi
  | some i =>
    have hs : i.size = cs.size := by simpa [hq] using hi
    have hagg : (isAgg ty).run P w = .ok true w := by
      unfold isAgg
      rw [Sem.run_bind, run_underlying hu w]
      cases d <;> simp_all
    simp only [Array.length_toList, Array.toArray_toList] at hl
    simp [loadVar, Sem.run_bind, hagg, sizeOf, typeInfo, hq, hs, hl]
theorem wpList_load_agg {P : Program} {ops : Array Oper} {rest : List Oper} {o : Oper} {a : Act} {w : World} {Q : Exit → Act → World → Prop} (hgd : o.guard = none) (ty : TypeId) (x : Operand) (ho : o.op = .load ty x)
    (g off : Nat) (hx : a.eval x = .pointer (some ⟨g, off, none⟩)) (cs : Array Value) (d : TypeDesc) (hc : ∀ j v, cs[j]? = some v → w.cell? ⟨g, off + j, none⟩ = some v)
    (hu : P.underlying ty = some d) (hd : (match d with | .struct _ | .array _ _ => true | _ => false) = true) (hi : (P.info? ty).map (·.size) = some cs.size)
    (h : wpList P ops Q rest (a.put o.dst (.agg cs)) w) : wpList P ops Q (o :: rest) a w :=
  wpList_plain hgd fun _ hK => by
    unfold Oper.wp execOp
    simp only [ho, hx, Instr.loadAt, Instr.sureAddr, Sem.run_bind, Sem.run_pure, Result.andThen_ok, run_load_agg w ty g off cs d hc hu hd hi]
    exact hK _ _ h
theorem wpList_store_row {P : Program} {ops : Array Oper} {rest : List Oper} {o : Oper} {a : Act} {w : World} {Q : Exit → Act → World → Prop} (hgd : o.guard = none) (t : TypeId) (x y : Operand) (ho : o.op = .store t x y) (hd : o.dst = none)
    (g : Nat) (c c' : Array Value) (hx : a.eval x = .pointer (some ⟨g, 0, none⟩)) (hy : a.eval y = .agg c') (hg : w.heap[g]? = some (.cells c t (0, 0))) (hi : (P.info? t).map (·.size) = some c'.size) (hs : c.size = c'.size) (h1 : c'.all (·.oneCell') = true)
    (h : wpList P ops Q rest a (w.setRow g c')) : wpList P ops Q (o :: rest) a w :=
  wpList_plain hgd fun _ hK => by
    unfold Oper.wp execOp
    simp only [ho, hx, hy, Instr.storeAt, Instr.sureAddr, Sem.run_bind, Sem.run_pure, Result.andThen_ok, run_storeVar_row w g t t c c' hg hi hs h1]
    simpa [Oper.upon, Act.put, hd] using hK _ _ h
end Go.Proofs.YtlhgphokfpnfeaaGreatDoor
namespace Go.Proofs.YtlhgphokfpnfeaaGreatDoor
set_option linter.unusedVariables false
open Go.ChangeShapes Go.WideShapes Go.ChangeAt Go.RowKit Go.Deep
theorem n8_eq0 (x : BitVec 8) : (n8 x == 0) = decide (x = 0#8) := by
  by_cases h : x = 0#8
  · subst h; rfl
  · have : ¬ n8 x = 0 := fun e => h (n8_inj.1 (e.trans rfl))
    simp [h, this]
theorem pcl_even (x : BitVec 8) (h : x &&& 1#8 = 0#8) : pcl x = x &&& ~~~2#8 &&& 159#8 := by
  unfold pcl; rw [if_pos h, BitVec.and_assoc]; rfl
theorem pcl_odd (x : BitVec 8) (h : ¬ x &&& 1#8 = 0#8) : pcl x = x &&& 159#8 := by
  unfold pcl; rw [if_neg h]
theorem properCfg_c (x : BitVec 8) (w : World) : Calls Tryz.prog 52 #[.int .u8 (n8 x)] w fun e w' => e = .returned (.int .u8 (n8 (pcl x))) ∧ w' = w := by
  have b1 : bits .and .u8 (n8 x) 1 = n8 (x &&& 1#8) := n8_and x 1#8
  by_cases h : x &&& 1#8 = 0#8
  · have b2 : bits .andNot .u8 (n8 x) 2 = n8 (x &&& ~~~2#8) := n8_andNot x 2#8
    have b3 : bits .and .u8 (n8 (x &&& ~~~2#8)) 159 = n8 (x &&& ~~~2#8 &&& 159#8) := n8_and _ 159#8
    have e0 : (n8 (x &&& 1#8) == 0) = true := by rw [h]; rfl
    rw [pcl_even x h]
    generalize x &&& ~~~2#8 = y at b2 b3 ⊢
    generalize x &&& 1#8 = z at b1 e0
    clear h
    go_enter Tryz.func52, Tryz.ntmps52
    go_wp2
    go_ret
    exact ⟨rfl, rfl⟩
  · have b3 : bits .and .u8 (n8 x) 159 = n8 (x &&& 159#8) := n8_and _ 159#8
    have e0 : (n8 (x &&& 1#8) == 0) = false := by rw [n8_eq0]; simpa using h
    rw [pcl_odd x h]
    generalize x &&& 1#8 = z at b1 e0
    clear h
    go_enter Tryz.func52, Tryz.ntmps52
    go_wp2
    go_ret
    exact ⟨rfl, rfl⟩
theorem isEntry_c (i : Int) (w : World) : Calls Tryz.prog 55 #[.int .i64 i] w fun e w' => e = .returned (.bool (decide (0 ≤ i ∧ i < 16))) ∧ w' = w := by
  by_cases h0 : 0 ≤ i
  · by_cases h1 : i < 16
    · go_enter Tryz.func55, Tryz.ntmps55
      go_wp2
      go_ret
      exact ⟨by simp_all, rfl⟩
    · go_enter Tryz.func55, Tryz.ntmps55
      go_wp2
      go_ret
      exact ⟨by simp_all, rfl⟩
  · have h1 : i < 16 := by omega
    go_enter Tryz.func55, Tryz.ntmps55
    go_wp2
    go_ret
    exact ⟨by simp_all, rfl⟩
/-- An entry's lock, kind, rights. -/
def lk (x : BitVec 8) : Bool := decide (¬ x &&& 128#8 = 0#8)
def kd (x : BitVec 8) : BitVec 8 := x >>> 3 &&& 3#8
def rts (x : BitVec 8) : BitVec 8 := x &&& 7#8
theorem elocked_c (x : BitVec 8) (y : Value) (w : World) : Calls Tryz.prog 56 #[.agg #[.int .u8 (n8 x), y]] w fun e w' => e = .returned (.bool (lk x)) ∧ Below w.heap.size w w' := by
  have b1 : bits .and .u8 (n8 x) 128 = n8 (x &&& 128#8) := n8_and x 128#8
  have b2 : (n8 (x &&& 128#8) != 0) = lk x := by unfold bne; rw [n8_eq0]; unfold lk; simp
  generalize x &&& 128#8 = z at b1 b2
  generalize lk x = q at b2 ⊢
  go_enter Tryz.func56, Tryz.ntmps56
  go_wp2
  go_ret
  exact ⟨by simp_all, (Below.refl _ _).alloc (Nat.le_refl _) _⟩
theorem ekind_c (x : BitVec 8) (y : Value) (w : World) : Calls Tryz.prog 76 #[.agg #[.int .u8 (n8 x), y]] w fun e w' => e = .returned (.int .u8 (n8 (kd x))) ∧ Below w.heap.size w w' := by
  have b0 : n8 x / 8 = n8 (x >>> 3) := n8_shr x 3
  have b1 : bits .and .u8 (n8 (x >>> 3)) 3 = n8 (kd x) := n8_and (x >>> 3) 3#8
  generalize kd x = z at b1 ⊢
  generalize x >>> 3 = z' at b0 b1
  go_enter Tryz.func76, Tryz.ntmps76
  go_wp2
  go_ret
  exact ⟨by simp_all, (Below.refl _ _).alloc (Nat.le_refl _) _⟩
theorem erights_c (x : BitVec 8) (y : Value) (w : World) : Calls Tryz.prog 33 #[.agg #[.int .u8 (n8 x), y]] w fun e w' => e = .returned (.int .i64 (n8 (rts x))) ∧ Below w.heap.size w w' := by
  have b1 : bits .and .u8 (n8 x) 7 = n8 (rts x) := n8_and x 7#8
  have b2 : wrap64 (n8 (rts x)) = n8 (rts x) := by have := n8_lo (rts x); have := n8_hi (rts x); unfold wrap64; omega
  generalize rts x = z at b1 b2 ⊢
  go_enter Tryz.func33, Tryz.ntmps33
  go_wp2
  go_ret
  exact ⟨by simp_all, (Below.refl _ _).alloc (Nat.le_refl _) _⟩
theorem isSize_c (i : Int) (w : World) : Calls Tryz.prog 28 #[.int .i64 i] w fun e w' => e = .returned (.bool (decide (1 ≤ i ∧ i ≤ 8))) ∧ w' = w := by
  by_cases h0 : 1 ≤ i
  · by_cases h1 : i ≤ 8
    · go_enter Tryz.func28, Tryz.ntmps28
      go_wp2
      go_ret
      exact ⟨by simp_all, rfl⟩
    · go_enter Tryz.func28, Tryz.ntmps28
      go_wp2
      go_ret
      exact ⟨by simp_all, rfl⟩
  · have h1 : i ≤ 8 := by omega
    go_enter Tryz.func28, Tryz.ntmps28
    go_wp2
    go_ret
    exact ⟨by simp_all, rfl⟩
theorem isRights_c (i : Int) (w : World) : Calls Tryz.prog 29 #[.int .i64 i] w fun e w' => e = .returned (.bool (decide (1 ≤ i ∧ i ≤ 7))) ∧ w' = w := by
  by_cases h0 : 1 ≤ i
  · by_cases h1 : i ≤ 7
    · go_enter Tryz.func29, Tryz.ntmps29
      go_wp2
      go_ret
      exact ⟨by simp_all, rfl⟩
    · go_enter Tryz.func29, Tryz.ntmps29
      go_wp2
      go_ret
      exact ⟨by simp_all, rfl⟩
  · have h1 : i ≤ 7 := by omega
    go_enter Tryz.func29, Tryz.ntmps29
    go_wp2
    go_ret
    exact ⟨by simp_all, rfl⟩
theorem isMode_c (i : Int) (w : World) : Calls Tryz.prog 27 #[.int .i64 i] w fun e w' => e = .returned (.bool (decide (i = 0 ∨ i = 3))) ∧ w' = w := by
  by_cases h0 : i = 0
  · subst h0
    go_enter Tryz.func27, Tryz.ntmps27
    go_wp2
    go_ret
    exact ⟨rfl, rfl⟩
  · by_cases h1 : i = 3
    · subst h1
      go_enter Tryz.func27, Tryz.ntmps27
      go_wp2
      go_ret
      exact ⟨rfl, rfl⟩
    · go_enter Tryz.func27, Tryz.ntmps27
      go_wp2
      go_ret
      exact ⟨by simp_all, rfl⟩
end Go.Proofs.YtlhgphokfpnfeaaGreatDoor
namespace Go.Proofs.YtlhgphokfpnfeaaGreatDoor
set_option linter.unusedVariables false
open Go.ChangeShapes Go.WideShapes Go.ChangeAt Go.RowKit Go.Deep
/-- A block that is just this row. -/
def Row (w : World) (g : Nat) (cs : Array Value) (t : TypeId) : Prop := w.heap[g]? = some (.cells cs t (0, 0))
theorem ec_zero : #[Value.int .u8 0, .int .u64 0, .int .u8 0, .int .u64 0, .int .u8 0, .int .u64 0, .int .u8 0, .int .u64 0, .int .u8 0, .int .u64 0, .int .u8 0, .int .u64 0, .int .u8 0, .int .u64 0, .int .u8 0, .int .u64 0,
    .int .u8 0, .int .u64 0, .int .u8 0, .int .u64 0, .int .u8 0, .int .u64 0, .int .u8 0, .int .u64 0, .int .u8 0, .int .u64 0, .int .u8 0, .int .u64 0, .int .u8 0, .int .u64 0, .int .u8 0, .int .u64 0] = ec (fun _ => 0#8) (fun _ => 0#64) := by kernel_rfl
theorem pc_zero : #[Value.int .u8 0, .int .u8 0, .int .u8 0, .int .u8 0, .int .u8 0, .int .u8 0, .int .u8 0, .int .u8 0, .int .u8 0, .int .u8 0, .int .u8 0, .int .u8 0, .int .u8 0, .int .u8 0, .int .u8 0, .int .u8 0,
    .int .u64 0, .int .u64 0, .int .u64 0, .int .u64 0, .int .u64 0, .int .u64 0, .int .u64 0, .int .u64 0, .int .u64 0, .int .u64 0, .int .u64 0, .int .u64 0, .int .u64 0, .int .u64 0, .int .u64 0, .int .u64 0] = pc (fun _ => 0#8) (fun _ => 0#64) := by kernel_rfl
theorem Row.new (w : World) (cs : Array Value) (t : TypeId) : Row (w.alloc (.cells cs t)) w.heap.size cs t := heap_alloc_new w _
theorem Row.old {w : World} {g : Nat} {cs : Array Value} {t : TypeId} (h : Row w g cs t) (hg : g < w.heap.size) (o : Obj) : Row (w.alloc o) g cs t := (Below.heap_alloc w o g hg).trans h
theorem Row.lt {w : World} {g : Nat} {cs : Array Value} {t : TypeId} (h : Row w g cs t) : g < w.heap.size := by
  by_cases hg : g < w.heap.size
  · exact hg
  · have : w.heap[g]? = none := Array.getElem?_eq_none (by omega)
    rw [Row, this] at h; cases h
theorem Row.cell {w : World} {g : Nat} {cs : Array Value} {t : TypeId} (h : Row w g cs t) (j : Nat) : w.cell? ⟨g, j, none⟩ = cs[j]? := cell_of_row w g j cs t _ h
theorem Row.froz {w : World} {g : Nat} {cs : Array Value} {t : TypeId} (h : Row w g cs t) (j : Nat) : w.frozen? ⟨g, j, none⟩ = false := frozen_of_row w g j cs t h
theorem Row.later {w w' : World} {B g : Nat} {cs : Array Value} {t : TypeId} (h : Row w g cs t) (b : Below B w w') (hg : g < B) : Row w' g cs t := (b.block g hg).trans h
theorem Row.put {w : World} {g i : Nat} {cs : Array Value} {t : TypeId} (h : Row w g cs t) (v : Value) : Row (w.setCell ⟨g, i, none⟩ v) g (cs.setIfInBounds i v) t := heap_setCell_same w g i cs t v h
theorem Row.other {w : World} {g g' i : Nat} {cs : Array Value} {t : TypeId} (h : Row w g cs t) (hne : g ≠ g') (v : Value) : Row (w.setCell ⟨g', i, none⟩ v) g cs t := (heap_setCell_other w _ g v hne).trans h
theorem below_put {B g i : Nat} {a w : World} (h : Below B a w) (hg : B ≤ g) (v : Value) : Below B a (w.setCell ⟨g, i, none⟩ v) := Below.setCell h hg v
theorem below_row {B g : Nat} {a w : World} (h : Below B a w) (hg : B ≤ g) (cs : Array Value) : Below B a (w.setRow g cs) := h.trans ⟨rfl, rfl, rfl, by simp, fun j hj => setRow_other _ _ _ _ (by omega)⟩
/-- The first k places turned, the rest as they were. -/
def upto {α : Type} (k : Nat) (f g : Nat → α) : Nat → α := fun j => if j < k then f j else g j
theorem upto_succ {α : Type} (k : Nat) (f g : Nat → α) : upd (upto k f g) k (f k) = upto (k + 1) f g := by
  funext j; unfold upd upto
  by_cases h : j = k
  · subst h; rw [if_pos rfl, if_pos (by omega)]
  · rw [if_neg h]
    by_cases h2 : j < k
    · rw [if_pos h2, if_pos (by omega)]
    · rw [if_neg h2, if_neg (by omega)]
theorem upto_zero {α : Type} (f g : Nat → α) : upto 0 f g = g := by funext j; simp [upto]
theorem n64_pad (x : BitVec 64) : bits .and .u64 (n64 x) 18014398509481983 = n64 (pad x) := n64_and x 18014398509481983#64
set_option maxRecDepth 100000 in
set_option maxHeartbeats 1000000 in
theorem of_c (c : Nat → BitVec 8) (a : Nat → BitVec 64) (w : World) :
    Calls Tryz.prog 30 #[.agg (pc c a)] w fun e w' => e = .returned (.agg (ec (fun j => pcl (c j)) (fun j => pad (a j)))) ∧ Below w.heap.size w w' := by
  go_enter Tryz.func30, Tryz.ntmps30
  go_wp2
  rw [ec_zero]
  go_loopw [5] (fun i wr => ∃ k : Nat, k ≤ 16 ∧ i = .int .i64 k ∧ Hid (Row wr w.heap.size (pc c a) 27) ∧ Hid (Row wr (w.heap.size + 1) (ec (fun _ => 0#8) (fun _ => 0#64)) 79) ∧ Hid (Row wr (w.heap.size + 1 + 1) (ec (upto k (fun j => pcl (c j)) (fun _ => 0#8)) (upto k (fun j => pad (a j)) (fun _ => 0#64))) 79) ∧ Hid (Below w.heap.size w wr)) (fun i _ => 16 - (intOf i).toNat)
  case atStart =>
    refine ⟨0, by omega, rfl, ?_, ?_, ?_, ?_⟩
    · exact ((Row.new w _ _).old (by simp) _).old (by simp; omega) _
    · have := (Row.new (w.alloc (.cells (pc c a) 27)) (ec (fun _ => 0#8) (fun _ => 0#64)) 79).old (by simp) (.cells (ec (fun _ => 0#8) (fun _ => 0#64)) 79)
      simpa [Hid] using this
    · have := Row.new ((w.alloc (.cells (pc c a) 27)).alloc (.cells (ec (fun _ => 0#8) (fun _ => 0#64)) 79)) (ec (fun _ => 0#8) (fun _ => 0#64)) 79
      rw [upto_zero, upto_zero]
      simpa [Hid] using this
    · exact (((Below.refl _ _).alloc (Nat.le_refl _) _).alloc (by simp) _).alloc (by simp; omega) _
  case round =>
    obtain ⟨k, hk, rfl, h0, h1, h2, hb⟩ := hrel
    by_cases hlt : k < 16
    · have hlt2 : (k : Int) < 16 := by omega
      have c0 : wr.cell? ⟨w.heap.size, k, none⟩ = some (.int .u8 (n8 (c k))) := by rw [h0.out.cell, pc_at _ _ _ (by omega), pcell, if_pos hlt]
      have c1 : wr.cell? ⟨w.heap.size, 16 + k, none⟩ = some (.int .u64 (n64 (a k))) := by rw [h0.out.cell, pc_at _ _ _ (by omega), pcell, if_neg (by omega), Nat.add_sub_cancel_left]
      have hp := n64_pad (a k)
      go_upto_region 5 with fail
      refine wp_region_still_tail 13 (by kernel_rfl) (by kernel_rfl) ?_
      change wpStill _ _ wr.drew (fun a' => wpList _ _ _ _ a' wr.drew) _ _
      simp only [List.take_succ_cons, List.take_zero, List.drop_succ_cons, List.drop_zero]
      still_step
      still_step
      still_step
      still_step
      still_step
      still_call (properCfg_c (c k) _)
      still_step
      still_step
      still_step
      still_step
      still_step
      still_step
      still_step
      refine wpStill_nil ?_
      have d0 : ∃ v, wr.cell? ⟨w.heap.size + 1 + 1, k * 2, none⟩ = some v := ⟨_, by rw [h2.out.cell, ec_at _ _ _ (by omega)]⟩
      have d1 : ∃ v, wr.cell? ⟨w.heap.size + 1 + 1, k * 2 + 1, none⟩ = some v := ⟨_, by rw [h2.out.cell, ec_at _ _ _ (by omega)]⟩
      obtain ⟨v0, d0⟩ := d0
      obtain ⟨v1, d1⟩ := d1
      have f0 := h2.out.froz (k * 2)
      have f1 := h2.out.froz (k * 2 + 1)
      go_wp2
      go_roundw
      case rel =>
        refine ⟨k + 1, by omega, by go_num, ?_, ?_, ?_, ?_⟩
        · exact Row.other (Row.other h0.out (by omega) _) (by omega) _
        · exact Row.other (Row.other h1.out (by omega) _) (by omega) _
        · have h := Row.put (i := k * 2 + 1) (Row.put (i := k * 2) h2.out (.int .u8 (n8 (pcl (c k))))) (.int .u64 (n64 (pad (a k))))
          rw [ec_cfg _ _ _ _ hlt, ec_addr _ _ _ _ hlt, upto_succ k (fun j => pcl (c j)), upto_succ k (fun j => pad (a j))] at h
          exact h
        · exact (below_put (below_put hb.out (by omega) _) (by omega) _).drew
      case measure => simp [intOf]; omega
    · obtain rfl : k = 16 := by omega
      have e16 : ((16 : Nat) : Int) = 16 := rfl
      rw [e16]
      clear hk hlt
      have he : ec (upto 16 (fun j => pcl (c j)) fun _ => 0#8) (upto 16 (fun j => pad (a j)) fun _ => 0#64) = ec (fun j => pcl (c j)) (fun j => pad (a j)) :=
        ec_congr fun j hj => by simp [upto, hj]
      rw [he] at h2
      clear he
      go_wp2_with (first | (refine wpList_load_row (by rfl) _ _ (by rfl) _ (by rfl) 79 _ (0, 0) _ h2.out Tryz.underlying79 (by rfl) (by rw [ec_size]; kernel_rfl) ?_) | (refine wpList_store_row (by rfl) _ _ _ (by rfl) (by rfl) _ _ _ (by rfl) (by rfl) h1.out (by rw [ec_size]; kernel_rfl) (by rw [ec_size, ec_size]) (ec_ones _ _) ?_))
      refine bodyPost_ret (v := .agg (ec (fun j => pcl (c j)) (fun j => pad (a j)))) ?_ rfl ⟨rfl, ?_⟩
      · exact results_cell_row Tryz.results30 _ _ (w.heap.size + 1) 79 _ (0, 0) _ (by rfl) (setRow_heap _ _ _ _ _ _ h1.out) Tryz.underlying79 (by rfl) (by rw [ec_size]; kernel_rfl)
      · exact below_row hb.out (by omega) _
set_option maxRecDepth 100000 in
set_option maxHeartbeats 1000000 in
theorem told_c (c : Nat → BitVec 8) (a : Nat → BitVec 64) (g : Nat) (w : World) (hg : Row w g (ec c a) 79) :
    Calls Tryz.prog 85 #[.pointer (some ⟨g, 0, none⟩)] w fun e w' => e = .returned (.agg (pc c a)) ∧ Below w.heap.size w w' := by
  have hlg := hg.lt
  have HG : Hid (Row w g (ec c a) 79) := hg
  clear hg
  go_enter Tryz.func85, Tryz.ntmps85
  go_wp2
  rw [pc_zero]
  go_loopw [5] (fun i wr => ∃ k : Nat, k ≤ 16 ∧ i = .int .i64 k ∧ Hid (Row wr g (ec c a) 79) ∧ Hid (Row wr w.heap.size (pc (fun _ => 0#8) (fun _ => 0#64)) 27) ∧ Hid (Row wr (w.heap.size + 1) (pc (upto k c (fun _ => 0#8)) (upto k a (fun _ => 0#64))) 27) ∧ Hid (Below w.heap.size w wr)) (fun i _ => 16 - (intOf i).toNat)
  case atStart =>
    refine ⟨0, by omega, rfl, ?_, ?_, ?_, ?_⟩
    · exact (HG.out.old hlg _).old (by simp; omega) _
    · exact (Row.new w _ _).old (by simp) _
    · have := Row.new (w.alloc (.cells (pc (fun _ => 0#8) (fun _ => 0#64)) 27)) (pc (fun _ => 0#8) (fun _ => 0#64)) 27
      rw [upto_zero, upto_zero]
      simpa [Hid] using this
    · exact (((Below.refl _ _).alloc (Nat.le_refl _) _).alloc (by simp) _)
  case round =>
    obtain ⟨k, hk, rfl, h0, h1, h2, hb⟩ := hrel
    by_cases hlt : k < 16
    · have hlt2 : (k : Int) < 16 := by omega
      have c0 : wr.cell? ⟨g, k * 2, none⟩ = some (.int .u8 (n8 (c k))) := by rw [h0.out.cell, ec_at _ _ _ (by omega), ecell, if_pos (by omega), Nat.mul_div_cancel _ (by omega)]
      have c1 : wr.cell? ⟨g, k * 2 + 1, none⟩ = some (.int .u64 (n64 (a k))) := by rw [h0.out.cell, ec_at _ _ _ (by omega), ecell, if_neg (by omega), show (k * 2 + 1) / 2 = k by omega]
      have d0 : ∃ v, wr.cell? ⟨w.heap.size + 1, k, none⟩ = some v := ⟨_, by rw [h2.out.cell, pc_at _ _ _ (by omega)]⟩
      have d1 : ∃ v, wr.cell? ⟨w.heap.size + 1, 16 + k, none⟩ = some v := ⟨_, by rw [h2.out.cell, pc_at _ _ _ (by omega)]⟩
      obtain ⟨v0, d0⟩ := d0
      obtain ⟨v1, d1⟩ := d1
      have f0 := h2.out.froz k
      have f1 := h2.out.froz (16 + k)
      have ne1 : ¬ 16 + k = k := by omega
      have ne2 : ¬ k = 16 + k := by omega
      go_upto_region 5 with fail
      go_region
      go_wp2
      go_roundw
      case rel =>
        refine ⟨k + 1, by omega, by go_num, ?_, ?_, ?_, ?_⟩
        · exact Row.other (Row.other h0.out (by omega) _) (by omega) _
        · exact Row.other (Row.other h1.out (by omega) _) (by omega) _
        · have h := Row.put (i := 16 + k) (Row.put (i := k) h2.out (.int .u8 (n8 (c k)))) (.int .u64 (n64 (a k)))
          rw [pc_cfg _ _ _ _ hlt, pc_addr _ _ _ _ hlt, upto_succ k c, upto_succ k a] at h
          exact h
        · exact (below_put (below_put hb.out (by omega) _) (by omega) _).drew
      case measure => simp [intOf]; omega
    · obtain rfl : k = 16 := by omega
      have e16 : ((16 : Nat) : Int) = 16 := rfl
      rw [e16]
      clear hk hlt
      have he : pc (upto 16 c fun _ => 0#8) (upto 16 a fun _ => 0#64) = pc c a :=
        pc_congr fun j hj => by simp [upto, hj]
      rw [he] at h2
      clear he
      go_wp2_with (first | (refine wpList_load_row (by rfl) _ _ (by rfl) _ (by rfl) 27 _ (0, 0) _ h2.out Tryz.underlying27 (by rfl) (by rw [pc_size]; kernel_rfl) ?_) | (refine wpList_store_row (by rfl) _ _ _ (by rfl) (by rfl) _ _ _ (by rfl) (by rfl) h1.out (by rw [pc_size]; kernel_rfl) (by rw [pc_size, pc_size]) (pc_ones _ _) ?_))
      refine bodyPost_ret (v := .agg (pc c a)) ?_ rfl ⟨rfl, ?_⟩
      · exact results_cell_row Tryz.results85 _ _ w.heap.size 27 _ (0, 0) _ (by rfl) (setRow_heap _ _ _ _ _ _ h1.out) Tryz.underlying27 (by rfl) (by rw [pc_size]; kernel_rfl)
      · exact below_row hb.out (by omega) _
end Go.Proofs.YtlhgphokfpnfeaaGreatDoor
namespace Go.Proofs.YtlhgphokfpnfeaaGreatDoor
set_option linter.unusedVariables false
open Go.ChangeShapes Go.WideShapes Go.ChangeAt Go.RowKit Go.Deep
theorem start1 (w : World) (cs : Array Value) (t : TypeId) : ∃ W, w.alloc (.cells cs t) = W ∧ Hid (Row W w.heap.size cs t) ∧ Hid (Below w.heap.size w W) ∧ W.heap.size = w.heap.size + 1 :=
  ⟨_, rfl, Row.new _ _ _, (Below.refl _ _).alloc (Nat.le_refl _) _, by simp⟩
theorem start2 (w : World) (cs cs' : Array Value) (t t' : TypeId) : ∃ W, (w.alloc (.cells cs t)).alloc (.cells cs' t') = W ∧ Hid (Row W w.heap.size cs t) ∧ Hid (Row W (w.heap.size + 1) cs' t') ∧ Hid (Below w.heap.size w W) ∧ W.heap.size = w.heap.size + 2 :=
  ⟨_, rfl, (Row.new _ _ _).old (by simp) _, by have := Row.new (w.alloc (.cells cs t)) cs' t'; simpa [Hid] using this, ((Below.refl _ _).alloc (Nat.le_refl _) _).alloc (by simp) _, by simp⟩
def pz : Array Value := pc (fun _ => 0#8) (fun _ => 0#64)
theorem pz_size : pz.size = 32 := pc_size _ _
/-- The entries that are proper. -/
def PC (c : Nat → BitVec 8) : Nat → BitVec 8 := fun j => pcl (c j)
def PA (a : Nat → BitVec 64) : Nat → BitVec 64 := fun j => pad (a j)
theorem of_p (c : Nat → BitVec 8) (a : Nat → BitVec 64) (w : World) :
    Calls Tryz.prog 30 #[.agg (pc c a)] w fun e w' => e = .returned (.agg (ec (PC c) (PA a))) ∧ Below w.heap.size w w' := of_c c a w
set_option maxRecDepth 100000 in
set_option maxHeartbeats 1000000 in
theorem Proper_c (c : Nat → BitVec 8) (a : Nat → BitVec 64) (w : World) :
    Calls Tryz.prog 67 #[.agg (pc c a)] w fun e w' => e = .returned (.agg (pc (PC c) (PA a))) ∧ Below w.heap.size w w' := by
  obtain ⟨W0, hW0, r0, r1, b0, s0⟩ := start2 w (pc c a) pz 27 27
  have HS : Hid (W0.heap.size = w.heap.size + 2) := s0
  clear s0
  go_enter Tryz.func67, Tryz.ntmps67
  go_upto_region 1 with fail
  rw [pc_zero, ← pz, hW0]
  clear hW0
  go_wp2_with (first | (refine wpList_load_row (by rfl) _ _ (by rfl) _ (by rfl) 27 _ (0, 0) _ r0.out Tryz.underlying27 (by rfl) (by rw [pc_size]; kernel_rfl) ?_) | (go_at_call 30; refine (of_p c a _).mono ?_; rintro e w1 ⟨rfl, hb1⟩; have HB1 : Hid (Below W0.heap.size W0 w1) := hb1; clear hb1) | (go_at_call 85; refine (told_c (PC c) (PA a) _ _ (Row.new _ _ _)).mono ?_; rintro e w2 ⟨rfl, hb2⟩; have HB2 : Hid (Below w1.heap.size w1 w2) := (Below.alloc (Below.refl _ _) (Nat.le_refl _) _).trans (hb2.mono (by simp)); clear hb2) | (refine wpList_store_row (by rfl) _ _ _ (by rfl) (by rfl) _ _ _ (by rfl) (by rfl) ((r1.out.later HB1.out (by rw [HS.out]; omega)).later HB2.out (Nat.lt_of_lt_of_le (by rw [HS.out]; omega) HB1.out.size)) (by rw [pc_size]; kernel_rfl) (by rw [pc_size, pz_size]) (pc_ones _ _) ?_) | (refine wpList_store_new (by rfl) _ _ _ (by rfl) (by rfl) _ _ (by rfl) (by rfl) (by rw [ec_size]; kernel_rfl) (by rw [ec_size]; rfl) (ec_ones _ _) ?_))
  have h9 : Row w2 (w.heap.size + 1) pz 27 := (r1.out.later HB1.out (by rw [HS.out]; omega)).later HB2.out (Nat.lt_of_lt_of_le (by rw [HS.out]; omega) HB1.out.size)
  refine bodyPost_ret (v := .agg (pc (PC c) (PA a))) ?_ rfl ⟨rfl, ?_⟩
  · exact results_cell_row Tryz.results67 _ _ (w.heap.size + 1) 27 _ (0, 0) _ (by rfl) (setRow_heap _ _ _ _ _ _ h9) Tryz.underlying27 (by rfl) (by rw [pc_size]; kernel_rfl)
  · exact below_row ((b0.out.trans (HB1.out.mono (by rw [HS.out]; omega))).trans (HB2.out.mono (Nat.le_trans (by rw [HS.out]; omega) HB1.out.size))) (by omega) _
end Go.Proofs.YtlhgphokfpnfeaaGreatDoor
namespace Go.Proofs.YtlhgphokfpnfeaaGreatDoor
set_option linter.unusedVariables false
open Go.ChangeShapes Go.WideShapes Go.ChangeAt Go.RowKit Go.Deep
theorem part_pc_cfg (xs : Array Value) (w : World) : (part 24 xs 0).run Tryz.prog w = .ok (.agg (xs.extract 0 16)) w := by
  simp [part]
theorem part_pc_addr (xs : Array Value) (w : World) : (part 25 xs 16).run Tryz.prog w = .ok (.agg (xs.extract 16 32)) w := by
  simp [part]
theorem pc_cfgs_at (c : Nat → BitVec 8) (a : Nat → BitVec 64) (i : Nat) (h : i < 16) : ((pc c a).extract 0 16)[i]? = some (.int .u8 (n8 (c i))) := by
  rw [Array.getElem?_extract, if_pos (by rw [pc_size]; omega), Nat.zero_add, pc_at _ _ _ (by omega), pcell, if_pos h]
theorem pc_addrs_at (c : Nat → BitVec 8) (a : Nat → BitVec 64) (i : Nat) (h : i < 16) : ((pc c a).extract 16 32)[i]? = some (.int .u64 (n64 (a i))) := by
  rw [Array.getElem?_extract, if_pos (by rw [pc_size]; omega), pc_at _ _ _ (by omega), pcell, if_neg (by omega), Nat.add_sub_cancel_left]
theorem quiet_load_agg {P : Program} {W : World} {o : Oper} {a : Act} {K : Act → Prop} (ty : TypeId) (x : Operand) (ho : o.op = .load ty x) (g off : Nat) (hx : a.eval x = .pointer (some ⟨g, off, none⟩)) (cs : Array Value) (d : TypeDesc)
    (hg : g < W.heap.size) (hc : ∀ j v, cs[j]? = some v → W.cell? ⟨g, off + j, none⟩ = some v) (hu : P.underlying ty = some d) (hd : (match d with | .struct _ | .array _ _ => true | _ => false) = true) (hi : (P.info? ty).map (·.size) = some cs.size)
    (hk : K (a.put o.dst (.agg cs))) : o.quiet P a (fun w' => ∃ x : Later W, w' = x.1) K := by
  refine ⟨_, fun w hw => ?_, hk⟩
  obtain ⟨y, rfl⟩ := hw
  have hl := run_load_agg (P := P) y.1 ty g off cs d (fun j v hv => (later_cell y (by exact hg)).trans (hc j v hv)) hu hd hi
  unfold Oper.quietAt execOp
  simp only [ho, hx, Instr.loadAt, Instr.sureAddr, Sem.run_bind, Sem.run_pure, Result.andThen_ok, hl]
  exact ⟨rfl, rfl⟩
end Go.Proofs.YtlhgphokfpnfeaaGreatDoor
namespace Go.Proofs.YtlhgphokfpnfeaaGreatDoor
set_option linter.unusedVariables false
open Go.ChangeShapes Go.WideShapes Go.ChangeAt Go.RowKit Go.Deep
section
variable {H : Type} {enc : TypeId × Value → H} {w : World} {base : Nat} {held : Bool}
theorem open_ints16 {k : IntKind} {t e : TypeId} {fuel : Nat} {cs : List Value} {y : DataW H × List MemPlace} (ht : Tryz.prog.underlying t = some (.array 16 e)) (he : Tryz.prog.underlying e = some (.int k)) (hce : Tryz.prog.cellsOf e = 1)
    (h : DataW.trod enc Tryz.prog w base (fun _ => true) held fuel t cs = some y) (hl : cs.length = 16) : ∀ j, j < 16 → ∃ n, cs[j]? = some (.int k n) ∧ (Lit.int k n).wf = true := by
  obtain ⟨xs, m, _, _, _, hxl, hx⟩ := DataW.trod_array ht h
  intro j hj
  have h1 := hx j hj
  obtain ⟨q, hq⟩ : ∃ q, xs[j]? = some q := ⟨_, List.getElem?_eq_getElem (by omega)⟩
  rw [hq, hce, Nat.mul_one] at h1
  obtain ⟨n, e0, _, hw⟩ := DataW.trod_int he h1
  refine ⟨n, ?_, hw⟩
  have h2 : ((cs.drop j).take 1)[0]? = some (.int k n) := by rw [e0]; rfl
  simpa using h2
theorem cells_pmp : Tryz.prog.cellsOf 27 = 32 := by kernel_rfl
theorem cells_c16 : Tryz.prog.cellsOf 24 = 16 := by kernel_rfl
theorem cells_a16 : Tryz.prog.cellsOf 25 = 16 := by kernel_rfl
theorem open_pmp {fuel : Nat} {cs : List Value} {y : DataW H × List MemPlace} (h : DataW.trod enc Tryz.prog w base (fun _ => true) held fuel 27 cs = some y) : ∃ (c : Nat → BitVec 8) (a : Nat → BitVec 64), cs = (pc c a).toList := by
  obtain ⟨xs, n, _, rfl, hl, hlen, hf⟩ := DataW.trod_struct Tryz.underlying27 h
  rw [cells_pmp] at hl
  match xs, (show xs.length = 2 from hlen), hf with
  | [y0, y1], _, hf =>
    have g0 : DataW.trod enc Tryz.prog w base (fun _ => true) held n 24 (cs.take 16) = some y0 := by
      have := hf 0 _ rfl
      simpa [cells_c16] using this
    have g1 : DataW.trod enc Tryz.prog w base (fun _ => true) held n 25 ((cs.drop 16).take 16) = some y1 := by
      have := hf 1 _ rfl
      simpa [cells_a16] using this
    have o0 := open_ints16 Tryz.underlying24 Tryz.underlying5 (by kernel_rfl) g0 (by simp; omega)
    have o1 := open_ints16 Tryz.underlying25 Tryz.underlying22 (by kernel_rfl) g1 (by simp; omega)
    have p0 : ∀ j, ∃ x : BitVec 8, j < 16 → cs[j]? = some (.int .u8 (n8 x)) := fun j => by
      by_cases hj : j < 16
      · obtain ⟨z, hz, hw⟩ := o0 j hj
        obtain ⟨x, rfl⟩ := n8_of hw
        exact ⟨x, fun _ => by rw [List.getElem?_take_of_lt hj] at hz; exact hz⟩
      · exact ⟨0#8, fun h => absurd h hj⟩
    have p1 : ∀ j, ∃ x : BitVec 64, j < 16 → cs[16 + j]? = some (.int .u64 (n64 x)) := fun j => by
      by_cases hj : j < 16
      · obtain ⟨z, hz, hw⟩ := o1 j hj
        obtain ⟨x, rfl⟩ := n64_of hw
        exact ⟨x, fun _ => by rw [List.getElem?_take_of_lt hj, List.getElem?_drop] at hz; exact hz⟩
      · exact ⟨0#64, fun h => absurd h hj⟩
    refine ⟨fun j => (p0 j).choose, fun j => (p1 j).choose, ?_⟩
    apply List.ext_getElem?
    intro j
    rw [Array.getElem?_toList (xs := pc _ _)]
    by_cases hj : j < 32
    · rw [pc_at _ _ _ hj, pcell]
      split
      · rename_i h16
        exact (p0 j).choose_spec h16
      · rename_i h16
        exact (congrArg (fun q => cs[q]?) (show j = 16 + (j - 16) by omega)).trans ((p1 (j - 16)).choose_spec (by omega))
    · rw [List.getElem?_eq_none (by omega), Array.getElem?_eq_none (by rw [pc_size]; omega)]
end
end Go.Proofs.YtlhgphokfpnfeaaGreatDoor
namespace Go.Proofs.YtlhgphokfpnfeaaGreatDoor
set_option linter.unusedVariables false
open Go.ChangeShapes Go.WideShapes Go.ChangeAt Go.RowKit Go.Deep
/-- Whether the Cfg, the Addr takes no write. -/
def cL (c : Nat → BitVec 8) (i : Int) : Bool := if 0 ≤ i ∧ i < 16 then lk (c i.toNat) else true
theorem cL_in (c : Nat → BitVec 8) (k : Nat) (h : k < 16) : cL c k = lk (c k) := by unfold cL; rw [if_pos (by omega)]; simp
theorem cL_out (c : Nat → BitVec 8) (i : Int) (h : ¬ (0 ≤ i ∧ i < 16)) : cL c i = true := by unfold cL; rw [if_neg h]
theorem row_cfg {w : World} {g : Nat} {c : Nat → BitVec 8} {a : Nat → BitVec 64} {t : TypeId} (h : Row w g (ec c a) t) (k : Nat) (hk : k < 16) : w.cell? ⟨g, k * 2, none⟩ = some (.int .u8 (n8 (c k))) := by
  rw [h.cell, ec_at _ _ _ (by omega), ecell, if_pos (by omega), Nat.mul_div_cancel _ (by omega)]
theorem row_addr {w : World} {g : Nat} {c : Nat → BitVec 8} {a : Nat → BitVec 64} {t : TypeId} (h : Row w g (ec c a) t) (k : Nat) (hk : k < 16) : w.cell? ⟨g, k * 2 + 1, none⟩ = some (.int .u64 (n64 (a k))) := by
  rw [h.cell, ec_at _ _ _ (by omega), ecell, if_neg (by omega), show (k * 2 + 1) / 2 = k by omega]
set_option maxRecDepth 100000 in
set_option maxHeartbeats 1000000 in
theorem cfgLocked_c (c : Nat → BitVec 8) (a : Nat → BitVec 64) (g : Nat) (i : Int) (w : World) (hg : Row w g (ec c a) 79) :
    Calls Tryz.prog 32 #[.pointer (some ⟨g, 0, none⟩), .int .i64 i] w fun e w' => e = .returned (.bool (cL c i)) ∧ Below w.heap.size w w' := by
  have hE := isEntry_c i w
  by_cases h : 0 ≤ i ∧ i < 16
  · obtain ⟨k, rfl⟩ : ∃ k : Nat, i = k := ⟨i.toNat, by omega⟩
    have hk : k < 16 := by omega
    have hk2 : (k : Int) < 16 := by omega
    rw [decide_eq_true h] at hE
    rw [cL_in c k hk]
    have c0 := row_cfg hg k hk
    have c1 := row_addr hg k hk
    have hB := elocked_c (c k) (.int .u64 (n64 (a k))) w
    generalize lk (c k) = r at hB ⊢
    have HE : Hid (Calls Tryz.prog 55 #[.int .i64 k] w fun e w' => e = .returned (.bool true) ∧ w' = w) := hE
    have HB : Hid (Calls Tryz.prog 56 #[.agg #[.int .u8 (n8 (c k)), .int .u64 (n64 (a k))]] w fun e w' => e = .returned (.bool r) ∧ Below w.heap.size w w') := hB
    clear hE hB hg h
    go_enter Tryz.func32, Tryz.ntmps32
    go_wp2_with (first | (go_at_call 55; refine HE.out.mono ?_; rintro e w1 ⟨rfl, hw⟩; have hw2 := hw.symm; subst hw2) | (go_at_call 56; refine HB.out.mono ?_; rintro e w1 ⟨rfl, hb⟩))
    go_ret
    exact ⟨rfl, hb⟩
  · rw [decide_eq_false h] at hE
    rw [cL_out c i h]
    have HE : Hid (Calls Tryz.prog 55 #[.int .i64 i] w fun e w' => e = .returned (.bool false) ∧ w' = w) := hE
    clear hE hg h
    go_enter Tryz.func32, Tryz.ntmps32
    go_wp2_with (go_at_call 55; refine HE.out.mono ?_; rintro e w1 ⟨rfl, hw⟩; have hw2 := hw.symm; subst hw2)
    go_ret
    exact ⟨rfl, Below.refl _ _⟩
end Go.Proofs.YtlhgphokfpnfeaaGreatDoor
namespace Go.Proofs.YtlhgphokfpnfeaaGreatDoor
set_option linter.unusedVariables false
open Go.ChangeShapes Go.WideShapes Go.ChangeAt Go.RowKit Go.Deep
theorem wpList_load_rowG {P : Program} {ops : Array Oper} {rest : List Oper} {o : Oper} {a : Act} {w : World} {Q : Exit → Act → World → Prop} (hw : Region.wanted o (yielded ops a.tmps) = true) (ty : TypeId) (x : Operand) (ho : o.op = .load ty x)
    (g : Nat) (hx : a.eval x = .pointer (some ⟨g, 0, none⟩)) (t : TypeId) (cs : Array Value) (fr : Nat × Nat) (d : TypeDesc) (hg : w.heap[g]? = some (.cells cs t fr))
    (hu : P.underlying ty = some d) (hd : (match d with | .struct _ | .array _ _ => true | _ => false) = true) (hi : (P.info? ty).map (·.size) = some cs.size)
    (h : wpList P ops Q rest (a.put o.dst (.agg cs)) w) : wpList P ops Q (o :: rest) a w :=
  BigFrame.wpList_want hw fun _ hK => wp_load_row ty x ho g hx t cs fr d hg hu hd hi (hK _ _ h)
end Go.Proofs.YtlhgphokfpnfeaaGreatDoor
namespace Go.Proofs.YtlhgphokfpnfeaaGreatDoor
set_option linter.unusedVariables false
open Go.ChangeShapes Go.WideShapes Go.ChangeAt Go.RowKit Go.Deep
/-- The library's table in its variable. -/
def Tb (w : World) : Prop := ∀ j, j < 64 → w.cell? ⟨0, j, none⟩ = some (.int .u8 ((Lib.deBruijn64tab.getD j 0 : Nat) : Int))
theorem Tb.lt {w : World} (h : Tb w) : 0 < w.heap.size := World.block_lt_of_cell? w _ (h 0 (by omega))
theorem Tb.later {w w' : World} {B : Nat} (h : Tb w) (b : Below B w w') (hB : 0 < B) : Tb w' := fun j hj => (b.cell (p := ⟨0, j, none⟩) hB).trans (h j hj)
theorem Tb.next {w w' : World} (h : Tb w) (b : Below w.heap.size w w') : Tb w' := h.later b h.lt
theorem Tb.alloc {w : World} (h : Tb w) (o : Obj) : Tb (w.alloc o) := h.next ((Below.refl _ _).alloc (Nat.le_refl _) _)
/-- The number of trailing zeros of a word. -/
def tz (x : BitVec 64) : Nat := Lib.ctz 64 x.toNat
theorem tz_zero : tz 0#64 = 64 := rfl
theorem n64_neg (x : BitVec 64) : IntKind.u64.wrap (-(n64 x)) = n64 (-x) := by
  rw [wrap_n64]
  congr 1
  apply BitVec.eq_of_toNat_eq
  rw [BitVec.toNat_ofInt, BitVec.toNat_neg]
  unfold n64
  have := x.isLt
  omega
theorem tz_key (x : BitVec 64) (h : x ≠ 0#64) : (((x &&& -x) * 285870213051353865#64) >>> 58).toNat = 2 ^ tz x * 285870213051353865 % 18446744073709551616 / 288230376151711744 ∧ tz x < 64 := by
  have h0 : x.toNat ≠ 0 := fun e => h (BitVec.eq_of_toNat_eq (by simpa using e))
  obtain ⟨hl, hk⟩ := Lib.lowest_bit 64 x.toNat h0 x.isLt
  refine ⟨?_, hk⟩
  have e1 : (x &&& -x).toNat = 2 ^ tz x := by
    rw [BitVec.toNat_and, BitVec.toNat_neg, Nat.mod_eq_of_lt (by have := x.isLt; omega)]
    exact hl
  rw [BitVec.toNat_ushiftRight, BitVec.toNat_mul, e1, Nat.shiftRight_eq_div_pow]
  rfl
theorem tz_c (x : BitVec 64) (w : World) (hT : Tb w) : Calls Tryz.prog 91 #[.int .u64 (n64 x)] w fun e w' => e = .returned (.int .i64 (tz x : Nat)) ∧ w' = w := by
  by_cases h : x = 0#64
  · subst h
    rw [tz_zero]
    have e0 : n64 0#64 = 0 := rfl
    rw [e0]
    go_enter Tryz.func91, Tryz.ntmps91
    go_wp2
    go_ret
    exact ⟨rfl, rfl⟩
  · obtain ⟨hk, h64⟩ := tz_key x h
    obtain ⟨hi, htab⟩ := Lib.deBruijn64_at _ h64
    have e0 : (n64 x == 0) = false := by
      have : ¬ n64 x = 0 := fun e => h (n64_zero e)
      simpa using this
    have e1 := n64_neg x
    have e2 := n64_and x (-x)
    have e3 : IntKind.u64.wrap (n64 (x &&& -x) * 285870213051353865) = n64 ((x &&& -x) * 285870213051353865#64) := n64_mul (x &&& -x) 285870213051353865#64
    obtain ⟨d, hd⟩ : ∃ d, d = (((x &&& -x) * 285870213051353865#64) >>> 58).toNat := ⟨_, rfl⟩
    have e4 : n64 ((x &&& -x) * 285870213051353865#64) / 288230376151711744 = (d : Int) := by
      have := n64_shr ((x &&& -x) * 285870213051353865#64) 58
      rw [hd]
      exact this
    rw [← hk, ← hd] at hi htab
    have hd64 : (d : Int) < 64 := by omega
    have c0 := hT d hi
    rw [htab] at c0
    have hw : wrap64 ((tz x : Nat) : Int) = ((tz x : Nat) : Int) := by unfold wrap64; omega
    generalize (x &&& -x) * 285870213051353865#64 = y3 at e3 e4
    generalize x &&& -x = y2 at e2 e3
    generalize -x = y1 at e1 e2
    generalize ((tz x : Nat) : Int) = t at c0 hw ⊢
    clear hk hd htab hT h
    go_enter Tryz.func91, Tryz.ntmps91
    go_wp2
    go_ret
    exact ⟨by simp_all, rfl⟩
end Go.Proofs.YtlhgphokfpnfeaaGreatDoor
namespace Go.Proofs.YtlhgphokfpnfeaaGreatDoor
set_option linter.unusedVariables false
open Go.ChangeShapes Go.WideShapes Go.ChangeAt Go.RowKit Go.Deep
/-- The trailing ones of an Addr. -/
def on (a : BitVec 64) : Nat := tz (~~~a)
theorem on_rep (a : BitVec 64) (h : a.toNat < 2 ^ 54) : (∃ r, a.toNat = 2 ^ (on a + 1) * r + (2 ^ on a - 1)) ∧ on a ≤ 54 := by
  have hx : (~~~a).toNat = 2 ^ 64 - 1 - a.toNat := BitVec.toNat_not
  have h0 : (~~~a).toNat ≠ 0 := by rw [hx]; omega
  have e : on a = Lib.ctzFrom 64 (~~~a).toNat := by unfold on tz Lib.ctz; rw [if_neg h0]
  obtain ⟨m, hm, hk⟩ := Lib.ctzFrom_spec 64 (~~~a).toNat (by omega) (~~~a).isLt
  rw [← e] at hm hk
  rw [hx] at hm
  generalize on a = n at *
  have hp : 0 < 2 ^ n := Nat.pow_pos (by omega)
  obtain ⟨d, hd⟩ : ∃ d, 64 = n + (d + 1) := ⟨63 - n, by omega⟩
  have h64 : (2 : Nat) ^ 64 = 2 ^ n * (2 * 2 ^ d) := by rw [hd, Nat.pow_add, Nat.pow_succ, Nat.mul_comm (2 ^ d) 2]
  have hA : a.toNat + 2 ^ n * (2 * m + 1) + 1 = 2 ^ n * (2 * 2 ^ d) := by rw [← h64]; omega
  have hmd : m < 2 ^ d := by
    apply Nat.lt_of_not_le
    intro hle
    have : 2 ^ n * (2 * 2 ^ d) ≤ 2 ^ n * (2 * m + 1) := Nat.mul_le_mul_left _ (by omega)
    omega
  obtain ⟨r, hr⟩ : ∃ r, 2 ^ d = m + r + 1 := ⟨2 ^ d - m - 1, by omega⟩
  have hA2 : a.toNat = 2 ^ (n + 1) * r + (2 ^ n - 1) := by
    rw [hr] at hA
    have e2 : 2 ^ n * (2 * (m + r + 1)) = 2 ^ n * (2 * m + 1) + 2 ^ n * (2 * r) + 2 ^ n := by
      rw [show 2 * (m + r + 1) = (2 * m + 1) + 2 * r + 1 by omega, Nat.mul_add, Nat.mul_add, Nat.mul_one]
    have e3 : 2 ^ (n + 1) * r = 2 ^ n * (2 * r) := by rw [Nat.pow_succ, Nat.mul_assoc]
    rw [e3]
    omega
  refine ⟨⟨r, hA2⟩, ?_⟩
  apply Nat.le_of_not_lt
  intro hlt
  have h1 : (2 : Nat) ^ 55 ≤ 2 ^ n := Nat.pow_le_pow_right (by omega) (by omega)
  have h2 : (2 : Nat) ^ 55 = 2 * 2 ^ 54 := by decide
  have h3 : 2 ^ n - 1 ≤ a.toNat := by rw [hA2]; omega
  omega
theorem on_div (a : BitVec 64) (h : a.toNat < 2 ^ 54) : a.toNat = 2 ^ (on a + 1) * (a.toNat / 2 ^ (on a + 1)) + (2 ^ on a - 1) := by
  obtain ⟨⟨r, hr⟩, _⟩ := on_rep a h
  have hp : 0 < 2 ^ on a := Nat.pow_pos (by omega)
  have hq : 2 ^ on a - 1 < 2 ^ (on a + 1) := by rw [Nat.pow_succ]; omega
  have : a.toNat / 2 ^ (on a + 1) = r := by
    rw [hr, Nat.mul_add_div (Nat.pow_pos (by omega)), Nat.div_eq_of_lt hq, Nat.add_zero]
  rw [this]
  exact hr
/-- The first and the last address. -/
def npF (a : BitVec 64) : BitVec 64 := if on a = 54 then 0#64 else BitVec.ofNat 64 (2 ^ (on a + 3) * (a.toNat / 2 ^ (on a + 1)))
def npL (a : BitVec 64) : BitVec 64 := if on a = 54 then ~~~0#64 else BitVec.ofNat 64 (2 ^ (on a + 3) * (a.toNat / 2 ^ (on a + 1)) + (2 ^ (on a + 3) - 1))
theorem np_bound (a : BitVec 64) (h : a.toNat < 2 ^ 54) (hn : on a < 54) : 2 ^ (on a + 3) * (a.toNat / 2 ^ (on a + 1)) + (2 ^ (on a + 3) - 1) < 2 ^ 58 := by
  have hd := on_div a h
  have e : 2 ^ (on a + 3) * (a.toNat / 2 ^ (on a + 1)) = 4 * (2 ^ (on a + 1) * (a.toNat / 2 ^ (on a + 1))) := by
    rw [show on a + 3 = (on a + 1) + 2 by omega, Nat.pow_add (m := on a + 1)]
    rw [Nat.mul_comm (2 ^ (on a + 1)) (2 ^ 2), Nat.mul_assoc]
  have hp : 2 ^ (on a + 3) ≤ 2 ^ 56 := Nat.pow_le_pow_right (by omega) (by omega)
  rw [e]
  omega
theorem four_div (a : BitVec 64) (h : a.toNat < 2 ^ 54) (hn : on a < 54) : 4 * a.toNat / 2 ^ (on a + 3) = a.toNat / 2 ^ (on a + 1) := by
  rw [show on a + 3 = 2 + (on a + 1) by omega, Nat.pow_add]
  rw [show (2 : Nat) ^ 2 = 4 from rfl, Nat.mul_div_mul_left _ _ (by omega)]
theorem clear_low (x : BitVec 64) (k : Nat) (hk : k < 64) : (x &&& ~~~(1#64 <<< k - 1#64)).toNat = 2 ^ k * (x.toNat / 2 ^ k) := by
  have hm : (1#64 <<< k - 1#64).toNat = 2 ^ k - 1 := by
    have h1 : 2 ^ k < 2 ^ 64 := Nat.pow_lt_pow_right (by omega) hk
    have h2 : 0 < 2 ^ k := Nat.pow_pos (by omega)
    have e1 : (1#64 <<< k).toNat = 2 ^ k := by
      rw [BitVec.toNat_shiftLeft, Nat.shiftLeft_eq, show (1#64 : BitVec 64).toNat = 1 from rfl, Nat.one_mul, Nat.mod_eq_of_lt h1]
    rw [BitVec.toNat_sub, e1, show (1#64 : BitVec 64).toNat = 1 from rfl]
    omega
  apply Nat.eq_of_testBit_eq
  intro i
  rw [← BitVec.getLsbD, BitVec.getLsbD_and, BitVec.getLsbD_not, BitVec.getLsbD, BitVec.getLsbD, hm, Nat.testBit_two_pow_sub_one, Nat.mul_comm, Nat.testBit_mul_two_pow, Nat.testBit_div_two_pow]
  by_cases h1 : k ≤ i
  · rw [Nat.sub_add_cancel h1]
    by_cases h2 : i < 64
    · simp [h1, h2, show ¬ i < k by omega]
    · have : x.toNat.testBit i = false := Nat.testBit_lt_two_pow (Nat.lt_of_lt_of_le x.isLt (Nat.pow_le_pow_right (by omega) (by omega)))
      simp [this]
  · simp [h1, show i < k by omega]
theorem unary_comP (x : BitVec 64) : Op.unary .xor (.int .u64 (n64 x)) = pure (.int .u64 (n64 (~~~x))) := by
  have h : bits .xor .u64 (n64 (~~~0#64)) (n64 x) = n64 (~~~x) := by
    rw [n64_xor]; congr 1
  show pure (Value.int IntKind.u64 (bits .xor .u64 (n64 (~~~0#64)) (n64 x))) = _
  rw [h]
set_option maxRecDepth 100000 in
set_option maxHeartbeats 1000000 in
theorem napot_54 (a : BitVec 64) (h : on a = 54) (w : World) (hT : Tb w) : Calls Tryz.prog 78 #[.int .u64 (n64 a)] w fun e w' => e = .returned (.agg #[.int .u64 (n64 (npF a)), .int .u64 (n64 (npL a))]) ∧ Below w.heap.size w w' := by
  have e1 : npF a = 0#64 := by unfold npF; rw [if_pos h]
  have e2 : npL a = ~~~0#64 := by unfold npL; rw [if_pos h]
  have f1 : n64 (npF a) = 0 := by rw [e1]; rfl
  have f2 : n64 (npL a) = 18446744073709551615 := by rw [e2]; rfl
  rw [f1, f2]
  have HC : Hid (∀ W, Tb W → Calls Tryz.prog 91 #[.int .u64 (n64 (~~~a))] W fun e w' => e = .returned (.int .i64 54) ∧ w' = W) := fun W hW => by
    have := tz_c (~~~a) W hW
    rw [show tz (~~~a) = 54 from h] at this
    exact this
  have HT : Hid (Tb w) := hT
  have hu := unary_comP a
  clear e1 e2 f1 f2 hT h
  generalize ~~~a = a2 at hu HC
  go_enter Tryz.func78, Tryz.ntmps78
  go_wp2_with (go_at_call 91; refine (HC.out _ (HT.out.alloc _)).mono ?_; rintro e w1 ⟨rfl, hw⟩; have hw2 := hw.symm; subst hw2)
  exact bodyPost_ret (v := .agg #[.int .u64 0, .int .u64 18446744073709551615]) (results_cell_row Tryz.results78 _ _ w.heap.size 139 _ (0, 0) _ (by rfl) (heap_alloc_last w _) Tryz.underlying139 (by rfl) (by kernel_rfl)) rfl ⟨rfl, (Below.refl _ _).alloc (Nat.le_refl _) _⟩
theorem one_shl (k : Nat) (hk : k < 64) : (1#64 <<< k).toNat = 2 ^ k := by
  rw [BitVec.toNat_shiftLeft, Nat.shiftLeft_eq, show (1#64 : BitVec 64).toNat = 1 from rfl, Nat.one_mul, Nat.mod_eq_of_lt (Nat.pow_lt_pow_right (by omega) hk)]
theorem mask_toNat (k : Nat) (hk : k < 64) : (1#64 <<< k - 1#64).toNat = 2 ^ k - 1 := by
  have h1 : 2 ^ k < 2 ^ 64 := Nat.pow_lt_pow_right (by omega) hk
  have h2 : 0 < 2 ^ k := Nat.pow_pos (by omega)
  rw [BitVec.toNat_sub, one_shl k hk, show (1#64 : BitVec 64).toNat = 1 from rfl]
  omega
theorem mask_int (k : Nat) : IntKind.u64.wrap (IntKind.u64.wrap (2 ^ k) - 1) = n64 (1#64 <<< k - 1#64) := by
  have h1 : IntKind.u64.wrap ((2 : Int) ^ k) = n64 (1#64 <<< k) := by
    have := n64_shl 1#64 k
    rw [show n64 1#64 = 1 from rfl, Int.one_mul] at this
    exact this
  rw [h1]
  exact n64_sub (1#64 <<< k) 1#64
theorem four_toNat (a : BitVec 64) (h : a.toNat < 2 ^ 54) : (a <<< 2).toNat = 4 * a.toNat := by
  rw [BitVec.toNat_shiftLeft, Nat.shiftLeft_eq]
  omega
theorem np_first (a : BitVec 64) (h54 : a.toNat < 2 ^ 54) (h : on a < 54) : bits .andNot .u64 (IntKind.u64.wrap (n64 a * 4)) (IntKind.u64.wrap (IntKind.u64.wrap (2 ^ (on a + 1 + 2)) - 1)) = n64 (npF a) := by
  rw [mask_int, show n64 a * (4 : Int) = n64 a * 2 ^ 2 from rfl, n64_shl, n64_andNot]
  congr 1
  apply BitVec.eq_of_toNat_eq
  have hb := np_bound a h54 h
  rw [clear_low _ _ (by omega), four_toNat a h54, show on a + 1 + 2 = on a + 3 by omega, four_div a h54 h, npF, if_neg (by omega), BitVec.toNat_ofNat, Nat.mod_eq_of_lt (by omega)]
theorem np_last (a : BitVec 64) (h54 : a.toNat < 2 ^ 54) (h : on a < 54) : bits .or .u64 (n64 (npF a)) (IntKind.u64.wrap (IntKind.u64.wrap (2 ^ (on a + 1 + 2)) - 1)) = n64 (npL a) := by
  rw [mask_int, n64_or]
  congr 1
  apply BitVec.eq_of_toNat_eq
  have hb := np_bound a h54 h
  have hp : 0 < 2 ^ (on a + 3) := Nat.pow_pos (by omega)
  rw [BitVec.toNat_or, mask_toNat _ (by omega), show on a + 1 + 2 = on a + 3 by omega, npF, if_neg (by omega), npL, if_neg (by omega), BitVec.toNat_ofNat, BitVec.toNat_ofNat, Nat.mod_eq_of_lt (by omega), Nat.mod_eq_of_lt (by omega)]
  exact (Nat.two_pow_add_eq_or_of_lt (show 2 ^ (on a + 3) - 1 < 2 ^ (on a + 3) by omega) _).symm
set_option maxRecDepth 100000 in
set_option maxHeartbeats 1000000 in
theorem napot_lt (a : BitVec 64) (h54 : a.toNat < 2 ^ 54) (h : on a < 54) (w : World) (hT : Tb w) : Calls Tryz.prog 78 #[.int .u64 (n64 a)] w fun e w' => e = .returned (.agg #[.int .u64 (n64 (npF a)), .int .u64 (n64 (npL a))]) ∧ Below w.heap.size w w' := by
  have HC : Hid (∀ W, Tb W → Calls Tryz.prog 91 #[.int .u64 (n64 (~~~a))] W fun e w' => e = .returned (.int .i64 (on a : Nat)) ∧ w' = W) := fun W hW => tz_c (~~~a) W hW
  have HT : Hid (Tb w) := hT
  have hu := unary_comP a
  obtain ⟨n, hn⟩ : ∃ n, n = on a := ⟨_, rfl⟩
  rw [← hn] at HC
  have hnn : ((n : Int) == 54) = false := by
    have : ¬ (n : Int) = 54 := by omega
    simpa using this
  have hn54 : (n : Int) < 54 := by omega
  have HX1 := np_first a h54 h
  have HX2 := np_last a h54 h
  generalize n64 (npF a) = x1 at HX1 HX2 ⊢
  generalize n64 (npL a) = x2 at HX2 ⊢
  clear hT h54
  generalize ~~~a = a2 at hu HC
  go_enter Tryz.func78, Tryz.ntmps78
  go_wp2_with (go_at_call 91; refine (HC.out _ (HT.out.alloc _)).mono ?_; rintro e w1 ⟨rfl, hw⟩; have hw2 := hw.symm; subst hw2)
  refine bodyPost_ret (results_cell_row Tryz.results78 _ _ w.heap.size 139 _ (0, 0) _ (by rfl) (heap_alloc_last w _) Tryz.underlying139 (by rfl) (by kernel_rfl)) rfl ⟨?_, (Below.refl _ _).alloc (Nat.le_refl _) _⟩
  simp_all
theorem napot_c (a : BitVec 64) (h54 : a.toNat < 2 ^ 54) (w : World) (hT : Tb w) : Calls Tryz.prog 78 #[.int .u64 (n64 a)] w fun e w' => e = .returned (.agg #[.int .u64 (n64 (npF a)), .int .u64 (n64 (npL a))]) ∧ Below w.heap.size w w' := by
  by_cases h : on a = 54
  · exact napot_54 a h w hT
  · exact napot_lt a h54 (by have := (on_rep a h54).2; omega) w hT
end Go.Proofs.YtlhgphokfpnfeaaGreatDoor
namespace Go.Proofs.YtlhgphokfpnfeaaGreatDoor
set_option linter.unusedVariables false
open Go.ChangeShapes Go.WideShapes Go.ChangeAt Go.RowKit Go.Deep
theorem results_cell_row_tmp {P : Program} {fn : Func} {p u : Tmp} {ty : TypeId} (h : fn.results = #[.cell p ty, .tmp u]) (tmps : Array Value) (w : World) (g : Nat) (t : TypeId) (cs : Array Value) (fr : Nat × Nat) (d : TypeDesc) (v : Value)
    (hp : tmps.getD p undef = .pointer (some ⟨g, 0, none⟩)) (hv : tmps.getD u undef = v) (hg : w.heap[g]? = some (.cells cs t fr))
    (hu : P.underlying ty = some d) (hd : (match d with | .struct _ | .array _ _ => true | _ => false) = true) (hi : (P.info? ty).map (·.size) = some cs.size) :
    (results fn tmps).run P w = .ok (.tuple #[.agg cs, v]) w := by
  rw [results_cell_tmp h]
  have hp' : tmps[p]?.getD undef = .pointer (some ⟨g, 0, none⟩) := by simpa using hp
  have hv' : tmps[u]?.getD undef = v := by simpa using hv
  simp [hp', hv', asAddr, run_loadVar_row w g t ty cs fr d hg hu hd hi, Result.andThen]
/-- Where a range that ends at an Addr begins. -/
def frm (a : Nat → BitVec 64) (k : Nat) : BitVec 64 := if k = 0 then 0#64 else a (k - 1)
/-- The range of an entry that is proper. -/
def spn (c : Nat → BitVec 8) (a : Nat → BitVec 64) (k : Nat) : Option (BitVec 64 × BitVec 64) :=
  if kd (c k) = 1#8 then (if n64 (a k) ≤ n64 (frm a k) then none else some (frm a k <<< 2, a k <<< 2 - 1#64))
  else if kd (c k) = 2#8 then some (a k <<< 2, a k <<< 2 + 3#64)
  else if kd (c k) = 3#8 then some (npF (a k), npL (a k)) else none
def sF (o : Option (BitVec 64 × BitVec 64)) : BitVec 64 := (o.getD (0#64, 0#64)).1
def sL (o : Option (BitVec 64 × BitVec 64)) : BitVec 64 := (o.getD (0#64, 0#64)).2
def spV (o : Option (BitVec 64 × BitVec 64)) : Value := .agg #[.int .u64 (n64 (sF o)), .int .u64 (n64 (sL o))]
def torV (a : Nat → BitVec 64) (k : Nat) : Option (BitVec 64 × BitVec 64) := if n64 (a k) ≤ n64 (frm a k) then none else some (frm a k <<< 2, a k <<< 2 - 1#64)
set_option maxRecDepth 100000 in
set_option maxHeartbeats 1000000 in
theorem tor_c (c : Nat → BitVec 8) (a : Nat → BitVec 64) (g k : Nat) (hk : k < 16) (w : World) (hg : Row w g (ec c a) 79) :
    Calls Tryz.prog 77 #[.pointer (some ⟨g, 0, none⟩), .int .i64 k] w fun e w' => e = .returned (.tuple #[spV (torV a k), .bool (torV a k).isSome]) ∧ Below w.heap.size w w' := by
  have hk2 : (k : Int) < 16 := by omega
  have c1 := row_addr hg k hk
  have hlg := hg.lt
  have e4 : IntKind.u64.wrap (n64 (a k) * 4) = n64 (a k <<< 2) := n64_shl (a k) 2
  have e5 : IntKind.u64.wrap (n64 (a k <<< 2) - 1) = n64 (a k <<< 2 - 1#64) := n64_sub (a k <<< 2) 1#64
  have e6 : IntKind.u64.wrap (n64 (frm a k) * 4) = n64 (frm a k <<< 2) := n64_shl (frm a k) 2
  obtain ⟨X, hX⟩ : ∃ X, X = torV a k := ⟨_, rfl⟩
  rw [← hX]
  have HX : Hid (X = torV a k) := hX
  clear hX
  cases k with
  | zero =>
    have hfr : frm a 0 = 0#64 := rfl
    by_cases hc : n64 (a 0) ≤ n64 (frm a 0)
    · have e9 : X = none := by rw [HX.out, torV, if_pos hc]
      subst e9
      rw [hfr] at hc
      have hc2 : n64 (a 0) ≤ 0 := hc
      clear HX hg hc hfr e6
      go_enter Tryz.func77, Tryz.ntmps77
      go_wp2
      exact bodyPost_ret (results_cell_row_tmp Tryz.results77 _ _ w.heap.size 139 _ (0, 0) _ _ (by rfl) (by rfl) (heap_alloc_last w _) Tryz.underlying139 (by rfl) (by kernel_rfl)) rfl ⟨rfl, (Below.refl _ _).alloc (Nat.le_refl _) _⟩
    · have e9 : X = some (0#64 <<< 2, a 0 <<< 2 - 1#64) := by rw [HX.out, torV, if_neg hc, hfr]
      subst e9
      rw [hfr] at hc
      have hc2 : ¬ n64 (a 0) ≤ 0 := hc
      clear HX hg hc hfr e6
      go_enter Tryz.func77, Tryz.ntmps77
      go_wp2
      exact bodyPost_ret (results_cell_row_tmp Tryz.results77 _ _ w.heap.size 139 _ (0, 0) _ _ (by rfl) (by rfl) (heap_alloc_last w _) Tryz.underlying139 (by rfl) (by kernel_rfl)) rfl ⟨by simp_all [spV, sF, sL, n64], (Below.refl _ _).alloc (Nat.le_refl _) _⟩
  | succ j =>
    have hfr : frm a (j + 1) = a j := rfl
    have c2 := row_addr hg j (by omega)
    rw [hfr] at e6
    have hj2 : (j : Int) + 1 < 16 := by omega
    have ej : ((j + 1 : Nat) : Int) = (j : Int) + 1 := by omega
    rw [ej]
    have hj3 : (0 : Int) < (j : Int) + 1 := by omega
    by_cases hc : n64 (a (j + 1)) ≤ n64 (frm a (j + 1))
    · have e9 : X = none := by rw [HX.out, torV, if_pos hc]
      subst e9
      rw [hfr] at hc
      clear HX hg hfr hk2 hk ej
      go_enter Tryz.func77, Tryz.ntmps77
      go_wp2
      exact bodyPost_ret (results_cell_row_tmp Tryz.results77 _ _ w.heap.size 139 _ (0, 0) _ _ (by rfl) (by rfl) (heap_alloc_last w _) Tryz.underlying139 (by rfl) (by kernel_rfl)) rfl ⟨rfl, (Below.refl _ _).alloc (Nat.le_refl _) _⟩
    · have e9 : X = some (a j <<< 2, a (j + 1) <<< 2 - 1#64) := by rw [HX.out, torV, if_neg hc, hfr]
      subst e9
      rw [hfr] at hc
      clear HX hg hfr hk2 hk ej
      go_enter Tryz.func77, Tryz.ntmps77
      go_wp2
      exact bodyPost_ret (results_cell_row_tmp Tryz.results77 _ _ w.heap.size 139 _ (0, 0) _ _ (by rfl) (by rfl) (heap_alloc_last w _) Tryz.underlying139 (by rfl) (by kernel_rfl)) rfl ⟨by simp_all [spV, sF, sL], (Below.refl _ _).alloc (Nat.le_refl _) _⟩
theorem kd_cases : ∀ x : BitVec 8, kd x = 0#8 ∨ kd x = 1#8 ∨ kd x = 2#8 ∨ kd x = 3#8 := by decide +kernel
theorem pad_lt (x : BitVec 64) : (pad x).toNat < 2 ^ 54 := by
  unfold pad
  rw [BitVec.toNat_and]
  exact Nat.and_lt_two_pow _ (by decide)
theorem row2 {w : World} {g : Nat} {x y : Value} {t : TypeId} (h : Row w g #[x, y] t) (u v : Value) : Row ((w.setCell ⟨g, 0, none⟩ u).setCell ⟨g, 1, none⟩ v) g #[u, v] t := by
  have := Row.put (i := 1) (Row.put (i := 0) h u) v
  simpa using this
set_option maxRecDepth 100000 in
set_option maxHeartbeats 2000000 in
theorem espan_c (c : Nat → BitVec 8) (a : Nat → BitVec 64) (hA : ∀ j, (a j).toNat < 2 ^ 54) (g k : Nat) (hk : k < 16) (w : World) (hT : Tb w) (hg : Row w g (ec c a) 79) :
    Calls Tryz.prog 53 #[.pointer (some ⟨g, 0, none⟩), .int .i64 k] w fun e w' => e = .returned (.tuple #[spV (spn c a k), .bool (spn c a k).isSome]) ∧ Below w.heap.size w w' := by
  have hk2 : (k : Int) < 16 := by omega
  have hlg := hg.lt
  have HG : Hid (Row w g (ec c a) 79) := hg
  obtain ⟨W0, hW0, r0, b0, s0⟩ := start1 w #[Value.int .u64 0, .int .u64 0] 139
  have HS : Hid (W0.heap.size = w.heap.size + 1) := s0
  have HGW : Hid (Row W0 g (ec c a) 79) := by rw [← hW0]; exact hg.old hlg _
  have HT : Hid (Tb W0) := by rw [← hW0]; exact hT.alloc _
  have c0 := row_cfg HGW.out k hk
  have c1 := row_addr HGW.out k hk
  have HK : Hid (∀ W, Calls Tryz.prog 76 #[.agg #[.int .u8 (n8 (c k)), .int .u64 (n64 (a k))]] W fun e w' => e = .returned (.int .u8 (n8 (kd (c k)))) ∧ Below W.heap.size W w') := fun W => ekind_c _ _ W
  have HTor : Hid (∀ W, Row W g (ec c a) 79 → Calls Tryz.prog 77 #[.pointer (some ⟨g, 0, none⟩), .int .i64 k] W fun e w' => e = .returned (.tuple #[.agg #[.int .u64 (n64 (sF (torV a k))), .int .u64 (n64 (sL (torV a k)))], .bool (torV a k).isSome]) ∧ Below W.heap.size W w') := fun W h => tor_c c a g k hk W h
  have HNap : Hid (∀ W, Tb W → Calls Tryz.prog 78 #[.int .u64 (n64 (a k))] W fun e w' => e = .returned (.agg #[.int .u64 (n64 (npF (a k))), .int .u64 (n64 (npL (a k)))]) ∧ Below W.heap.size W w') := fun W h => napot_c (a k) (hA k) W h
  have e4 : IntKind.u64.wrap (n64 (a k) * 4) = n64 (a k <<< 2) := n64_shl (a k) 2
  have e5 : IntKind.u64.wrap (IntKind.u64.wrap (n64 (a k <<< 2) + 4) - 1) = n64 (a k <<< 2 + 3#64) := by
    have h1 : IntKind.u64.wrap (n64 (a k <<< 2) + 4) = n64 (a k <<< 2 + 4#64) := n64_add (a k <<< 2) 4#64
    rw [h1]
    have h2 : IntKind.u64.wrap (n64 (a k <<< 2 + 4#64) - 1) = n64 (a k <<< 2 + 4#64 - 1#64) := n64_sub (a k <<< 2 + 4#64) 1#64
    rw [h2]
    congr 1
    rw [BitVec.sub_eq_add_neg, BitVec.add_assoc]
    rfl
  obtain ⟨X, hX⟩ : ∃ X, X = spn c a k := ⟨_, rfl⟩
  rw [← hX]
  have HX : Hid (X = spn c a k) := hX
  have HCell : Hid (∀ W, Below W0.heap.size W0 W → W.cell? ⟨g, k * 2 + 1, none⟩ = some (.int .u64 (n64 (a k))) ∧ Row W g (ec c a) 79 ∧ Tb W ∧ Row W w.heap.size #[.int .u64 0, .int .u64 0] 139 ∧ Below w.heap.size w W ∧ w.heap.size + 1 ≤ W.heap.size) := fun W hb => by
    have hh := HGW.out.later hb (by rw [HS.out]; omega)
    exact ⟨row_addr hh k hk, hh, HT.out.next hb, r0.out.later hb (by rw [HS.out]; omega), b0.out.trans (hb.mono (by rw [HS.out]; omega)), by have := hb.size; rw [HS.out] at this; exact this⟩
  clear hX hg s0 hT hA
  rcases kd_cases (c k) with hq | hq | hq | hq
  · have e9 : X = none := by rw [HX.out, spn, if_neg (by rw [hq]; decide), if_neg (by rw [hq]; decide), if_neg (by rw [hq]; decide)]
    subst e9
    rw [hq] at HK
    have hz : n8 0#8 = 0 := rfl
    rw [hz] at HK
    clear hq HX hz
    go_enter Tryz.func53, Tryz.ntmps53
    go_upto_region 1 with fail
    clear hW0
    go_wp2_with ((go_at_call 76; refine (HK.out _).mono ?_; rintro e w1 ⟨rfl, hb⟩; have HB1 : Hid (Below W0.heap.size W0 w1) := hb; obtain ⟨d1, d2, d3, d4, d5, d6⟩ := HCell.out w1 hb; have D2 : Hid (Row w1 g (ec c a) 79) := d2; have D3 : Hid (Tb w1) := d3; have D4 : Hid (Row w1 w.heap.size #[.int .u64 0, .int .u64 0] 139) := d4; have D5 : Hid (Below w.heap.size w w1) := d5; have c8 := d4.cell 0; have c9 := d4.cell 1; have f8 := d4.froz 0; have f9 := d4.froz 1; clear hb d2 d3 d4 d5))
    refine bodyPost_ret (results_cell_row_tmp Tryz.results53 _ _ w.heap.size 139 _ (0, 0) _ _ (by rfl) (by rfl) (row2 D4.out _ _) Tryz.underlying139 (by rfl) (by kernel_rfl)) rfl ⟨?_, below_put (below_put D5.out (Nat.le_refl _) _) (Nat.le_refl _) _⟩
    rfl
  · have e9 : X = torV a k := by rw [HX.out, spn, if_pos hq]; rfl
    subst e9
    rw [hq] at HK
    have hz : n8 1#8 = 1 := rfl
    rw [hz] at HK
    clear hq HX hz
    generalize torV a k = X at HTor ⊢
    go_enter Tryz.func53, Tryz.ntmps53
    go_upto_region 1 with fail
    clear hW0
    go_wp2_with (first | (go_at_call 76; refine (HK.out _).mono ?_; rintro e w1 ⟨rfl, hb⟩; have HB1 : Hid (Below W0.heap.size W0 w1) := hb; obtain ⟨d1, d2, d3, d4, d5, d6⟩ := HCell.out w1 hb; have D2 : Hid (Row w1 g (ec c a) 79) := d2; have D3 : Hid (Tb w1) := d3; have D4 : Hid (Row w1 w.heap.size #[.int .u64 0, .int .u64 0] 139) := d4; have D5 : Hid (Below w.heap.size w w1) := d5; have c8 := d4.cell 0; have c9 := d4.cell 1; have f8 := d4.froz 0; have f9 := d4.froz 1; clear hb d2 d3 d4 d5) | (go_at_call 77; refine (HTor.out w1 D2.out).mono ?_; rintro e w2 ⟨rfl, hb⟩; have HB2 : Hid (Below W0.heap.size W0 w2) := HB1.out.trans (hb.mono HB1.out.size); obtain ⟨g1, g2, g3, g4, g5, g6⟩ := HCell.out w2 HB2.out; have G4 : Hid (Row w2 w.heap.size #[.int .u64 0, .int .u64 0] 139) := g4; have G5 : Hid (Below w.heap.size w w2) := g5; have k8 := g4.cell 0; have k9 := g4.cell 1; have l8 := g4.froz 0; have l9 := g4.froz 1; clear hb g2 g3 g4 g5))
    refine bodyPost_ret (results_cell_row_tmp Tryz.results53 _ _ w.heap.size 139 _ (0, 0) _ _ (by rfl) (by rfl) (row2 G4.out _ _) Tryz.underlying139 (by rfl) (by kernel_rfl)) rfl ⟨?_, below_put (below_put G5.out (Nat.le_refl _) _) (Nat.le_refl _) _⟩
    rfl
  · have e9 : X = some (a k <<< 2, a k <<< 2 + 3#64) := by rw [HX.out, spn, if_neg (by rw [hq]; decide), if_pos hq]
    subst e9
    rw [hq] at HK
    have hz : n8 2#8 = 2 := rfl
    rw [hz] at HK
    clear hq HX hz
    go_enter Tryz.func53, Tryz.ntmps53
    go_upto_region 1 with fail
    clear hW0
    go_wp2_with ((go_at_call 76; refine (HK.out _).mono ?_; rintro e w1 ⟨rfl, hb⟩; have HB1 : Hid (Below W0.heap.size W0 w1) := hb; obtain ⟨d1, d2, d3, d4, d5, d6⟩ := HCell.out w1 hb; have D2 : Hid (Row w1 g (ec c a) 79) := d2; have D3 : Hid (Tb w1) := d3; have D4 : Hid (Row w1 w.heap.size #[.int .u64 0, .int .u64 0] 139) := d4; have D5 : Hid (Below w.heap.size w w1) := d5; have c8 := d4.cell 0; have c9 := d4.cell 1; have f8 := d4.froz 0; have f9 := d4.froz 1; clear hb d2 d3 d4 d5))
    refine bodyPost_ret (results_cell_row_tmp Tryz.results53 _ _ w.heap.size 139 _ (0, 0) _ _ (by rfl) (by rfl) (row2 D4.out _ _) Tryz.underlying139 (by rfl) (by kernel_rfl)) rfl ⟨?_, below_put (below_put D5.out (Nat.le_refl _) _) (Nat.le_refl _) _⟩
    simp_all [spV, sF, sL]
  · have e9 : X = some (npF (a k), npL (a k)) := by rw [HX.out, spn, if_neg (by rw [hq]; decide), if_neg (by rw [hq]; decide), if_pos hq]
    subst e9
    rw [hq] at HK
    have hz : n8 3#8 = 3 := rfl
    rw [hz] at HK
    clear hq HX hz
    go_enter Tryz.func53, Tryz.ntmps53
    go_upto_region 1 with fail
    clear hW0
    go_wp2_with (first | (go_at_call 76; refine (HK.out _).mono ?_; rintro e w1 ⟨rfl, hb⟩; have HB1 : Hid (Below W0.heap.size W0 w1) := hb; obtain ⟨d1, d2, d3, d4, d5, d6⟩ := HCell.out w1 hb; have D2 : Hid (Row w1 g (ec c a) 79) := d2; have D3 : Hid (Tb w1) := d3; have D4 : Hid (Row w1 w.heap.size #[.int .u64 0, .int .u64 0] 139) := d4; have D5 : Hid (Below w.heap.size w w1) := d5; have c8 := d4.cell 0; have c9 := d4.cell 1; have f8 := d4.froz 0; have f9 := d4.froz 1; clear hb d2 d3 d4 d5) | (go_at_call 78; refine (HNap.out w1 D3.out).mono ?_; rintro e w2 ⟨rfl, hb⟩; have HB2 : Hid (Below W0.heap.size W0 w2) := HB1.out.trans (hb.mono HB1.out.size); obtain ⟨g1, g2, g3, g4, g5, g6⟩ := HCell.out w2 HB2.out; have G4 : Hid (Row w2 w.heap.size #[.int .u64 0, .int .u64 0] 139) := g4; have G5 : Hid (Below w.heap.size w w2) := g5; have k8 := g4.cell 0; have k9 := g4.cell 1; have l8 := g4.froz 0; have l9 := g4.froz 1; clear hb g2 g3 g4 g5))
    refine bodyPost_ret (results_cell_row_tmp Tryz.results53 _ _ w.heap.size 139 _ (0, 0) _ _ (by rfl) (by rfl) (row2 G4.out _ _) Tryz.underlying139 (by rfl) (by kernel_rfl)) rfl ⟨?_, below_put (below_put G5.out (Nat.le_refl _) _) (Nat.le_refl _) _⟩
    rfl
end Go.Proofs.YtlhgphokfpnfeaaGreatDoor
namespace Go.Proofs.YtlhgphokfpnfeaaGreatDoor
set_option linter.unusedVariables false
open Go.ChangeShapes Go.WideShapes Go.ChangeAt Go.RowKit Go.Deep
theorem PA_lt (a : Nat → BitVec 64) : ∀ j, (PA a j).toNat < 2 ^ 54 := fun j => pad_lt (a j)
theorem below_drewN {B : Nat} {w w' : World} (h : Below B w w') (n : Nat) : Below B w (w'.drewN n) := ⟨h.os, h.tape, h.output, h.size, h.block⟩
end Go.Proofs.YtlhgphokfpnfeaaGreatDoor
