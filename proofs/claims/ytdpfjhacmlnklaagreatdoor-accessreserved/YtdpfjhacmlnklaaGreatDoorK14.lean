import Derived.Test.YtdpfjhacmlnklaaGreatDoorK01
import Derived.StillTailTactics
import Derived.Deep.CutRange
import Derived.BigRegion
import Derived.BigQuiet
import Derived.Deep.QuietTactic
import Derived.ChangeKeysEq
import Derived.SizedLaws
import Derived.OpenShut
import Derived.Lib.TrailingZeros
namespace Go.Proofs.YtdpfjhacmlnklaaGreatDoor
set_option linter.unusedVariables false
set_option maxRecDepth 100000
set_option maxHeartbeats 8000000
open Go.ChangeShapes Go.WideShapes Go.ChangeAt Go.RowKit Go.Deep _root_.Go.Proofs.Tryz
def n8 (x : BitVec 8) : Int := (x.toNat : Int)
theorem tI {x y : BitVec 8} : n8 x = n8 y ↔ x = y := by
 unfold n8; constructor
 ·intro h; exact BitVec.eq_of_toNat_eq (by omega)
 ·rintro rfl; rfl
theorem EH (x : BitVec 8) : 0 ≤ n8 x := by unfold n8; omega
theorem EG (x : BitVec 8) : n8 x ≤ 255 := by unfold n8; have := x.isLt; omega
theorem EI {n : Int} (h : (Lit.int .u8 n).wf = true) : ∃ x : BitVec 8, n = n8 x := by
 have hb := bounds_u8 h
 refine ⟨BitVec.ofNat 8 n.toNat, ?_⟩
 unfold n8; rw [BitVec.toNat_ofNat, Nat.mod_eq_of_lt (by omega)]; omega
theorem eH (x : BitVec 8) : BitVec.ofInt 8 (n8 x) = x := by
 unfold n8; apply BitVec.eq_of_toNat_eq; rw [BitVec.toNat_ofInt]; have := x.isLt; omega
theorem pB (z : Int) : IntKind.u8.wrap z = n8 (BitVec.ofInt 8 z) := by
 unfold n8; rw [BitVec.toNat_ofInt]; simp [IntKind.wrap, IntKind.signed, IntKind.bits]; omega
theorem gS (x y : BitVec 8) : bits .and .u8 (n8 x) (n8 y) = n8 (x &&& y) := by
 show IntKind.u8.wrap ((BitVec.ofInt 8 (n8 x) &&& BitVec.ofInt 8 (n8 y)).toNat : Int) = _
 rw [eH, eH, pB]; exact congrArg n8 (eH _)
theorem qJ (x y : BitVec 8) : bits .andNot .u8 (n8 x) (n8 y) = n8 (x &&& ~~~y) := by
 show IntKind.u8.wrap ((BitVec.ofInt 8 (n8 x) &&& ~~~BitVec.ofInt 8 (n8 y)).toNat : Int) = _
 rw [eH, eH, pB]; exact congrArg n8 (eH _)
theorem jL (x y : BitVec 64) : bits .andNot .u64 (n64 x) (n64 y) = n64 (x &&& ~~~y) := by
 show IntKind.u64.wrap ((BitVec.ofInt 64 (n64 x) &&& ~~~BitVec.ofInt 64 (n64 y)).toNat : Int) = _
 rw [bT, bT, dK]; exact congrArg n64 (bT _)
theorem BW (x : BitVec 8) (k : Nat) : n8 x / 2 ^ k = n8 (x >>> k) := by
 unfold n8; rw [BitVec.toNat_ushiftRight, Nat.shiftRight_eq_div_pow, Int.natCast_ediv, Int.natCast_pow]; rfl
def pcl (x : BitVec 8) : BitVec 8 := if x &&& 1#8 = 0#8 then x &&& 0x9d#8 else x &&& 0x9f#8
def pad (x : BitVec 64) : BitVec 64 := x &&& 18014398509481983#64
def cG (c : Nat → BitVec 8) (a : Nat → BitVec 64) (j : Nat) : Value := if j < 16 then .int .u8 (n8 (c j)) else .int .u64 (n64 (a (j - 16)))
def pc (c : Nat → BitVec 8) (a : Nat → BitVec 64) : Array Value := Array.ofFn (n := 32) fun j => cG c a j.val
def eV (c : Nat → BitVec 8) (a : Nat → BitVec 64) (j : Nat) : Value := if j % 2 = 0 then .int .u8 (n8 (c (j / 2))) else .int .u64 (n64 (a (j / 2)))
def ec (c : Nat → BitVec 8) (a : Nat → BitVec 64) : Array Value := Array.ofFn (n := 32) fun j => eV c a j.val
theorem bQ (c : Nat → BitVec 8) (a : Nat → BitVec 64) : (pc c a).size = 32 := by simp [pc]
theorem cK (c : Nat → BitVec 8) (a : Nat → BitVec 64) : (ec c a).size = 32 := by simp [ec]
theorem dS (c : Nat → BitVec 8) (a : Nat → BitVec 64) (j : Nat) (h : j < 32) : (pc c a)[j]? = some (cG c a j) := by simp [pc, h]
theorem eU (c : Nat → BitVec 8) (a : Nat → BitVec 64) (j : Nat) (h : j < 32) : (ec c a)[j]? = some (eV c a j) := by simp [ec, h]
theorem iH (c : Nat → BitVec 8) (a : Nat → BitVec 64) : (pc c a).all (·.oneCell') = true := by
 rw [Array.all_eq_true]; intro i hi; simp [pc, cG]; split <;> rfl
theorem kV (c : Nat → BitVec 8) (a : Nat → BitVec 64) : (ec c a).all (·.oneCell') = true := by
 rw [Array.all_eq_true]; intro i hi; simp [ec, eV]; split <;> rfl
def upd {α : Type} (f : Nat → α) (k : Nat) (x : α) : Nat → α := fun j => if j = k then x else f j
theorem lH {A B : Array Value} {k : Nat} {v : Value} {f g : Nat → Value} (hA : ∀ j, j < 32 → A[j]? = some (f j)) (hB : ∀ j, j < 32 → B[j]? = some (g j)) (sA : A.size = 32) (sB : B.size = 32) (hk : k < 32) (h1 : g k = v) (h2 : ∀ j, j < 32 → j ≠ k → g j = f j) :
  A.setIfInBounds k v = B := by
 apply Array.ext_getElem?
 intro j
 rw [Array.getElem?_setIfInBounds]
 by_cases hj : j < 32
 ·rw [hA j hj, hB j hj, sA]
  by_cases e : k = j
  ·subst e; rw [if_pos rfl, if_pos hk, h1]
  ·rw [if_neg e, h2 j hj (fun q => e q.symm)]
 ·rw [if_neg (by omega), Array.getElem?_eq_none (by omega), Array.getElem?_eq_none (by omega)]
theorem CD (c : Nat → BitVec 8) (a : Nat → BitVec 64) (k : Nat) (x : BitVec 8) (h : k < 16) : (pc c a).setIfInBounds k (.int .u8 (n8 x)) = pc (upd c k x) a := by
 refine lH (dS c a) (dS _ a) (bQ _ _) (bQ _ _) (by omega) (by simp [cG, upd, h]) fun j hj hne => ?_
 simp [cG, upd, hne]
theorem wV (c : Nat → BitVec 8) (a : Nat → BitVec 64) (k : Nat) (x : BitVec 64) (h : k < 16) : (pc c a).setIfInBounds (16 + k) (.int .u64 (n64 x)) = pc c (upd a k x) := by
 refine lH (dS c a) (dS _ _) (bQ _ _) (bQ _ _) (by omega) (by simp [cG, upd]) fun j hj hne => ?_
 unfold cG upd
 split
 ·rfl
 ·rw [if_neg (by omega)]
theorem zH (c : Nat → BitVec 8) (a : Nat → BitVec 64) (k : Nat) (x : BitVec 8) (h : k < 16) : (ec c a).setIfInBounds (k * 2) (.int .u8 (n8 x)) = ec (upd c k x) a := by
 refine lH (eU c a) (eU _ _) (cK _ _) (cK _ _) (by omega) (by simp [eV, upd]) fun j hj hne => ?_
 unfold eV upd
 split
 ·rw [if_neg (by omega)]
 ·rfl
theorem vQ (c : Nat → BitVec 8) (a : Nat → BitVec 64) (k : Nat) (x : BitVec 64) (h : k < 16) : (ec c a).setIfInBounds (k * 2 + 1) (.int .u64 (n64 x)) = ec c (upd a k x) := by
 refine lH (eU c a) (eU _ _) (cK _ _) (cK _ _) (by omega) ?_ fun j hj hne => ?_
 ·unfold eV upd
  rw [if_neg (by omega), if_pos (by omega)]
 ·unfold eV upd
  split
  ·rfl
  ·rw [if_neg (by omega)]
theorem tV {c c' : Nat → BitVec 8} {a a' : Nat → BitVec 64} (h : ∀ j, j < 16 → c j = c' j ∧ a j = a' j) : pc c a = pc c' a' := by
 apply Array.ext_getElem?
 intro j
 by_cases hj : j < 32
 ·rw [dS _ _ _ hj, dS _ _ _ hj]; unfold cG
  split
  ·rw [(h j (by omega)).1]
  ·rw [(h (j - 16) (by omega)).2]
 ·simp [pc, hj]
theorem rZ {c c' : Nat → BitVec 8} {a a' : Nat → BitVec 64} (h : ∀ j, j < 16 → c j = c' j ∧ a j = a' j) : ec c a = ec c' a' := by
 apply Array.ext_getElem?
 intro j
 by_cases hj : j < 32
 ·rw [eU _ _ _ hj, eU _ _ _ hj]; unfold eV
  split
  ·rw [(h (j / 2) (by omega)).1]
  ·rw [(h (j / 2) (by omega)).2]
 ·simp [ec, hj]
theorem eS {P : Program} (w : World) (ty : TypeId) (g off : Nat) (cs : Array Value) (d : TypeDesc) (hc : ∀ j v, cs[j]? = some v → w.cell? ⟨g, off + j, none⟩ = some v)
  (hu : P.underlying ty = some d) (hd : (match d with | .struct _ | .array _ _ => true | _ => false) = true) (hi : (P.info? ty).map (·.size) = some cs.size) :
  (loadVar ty ⟨g, off, none⟩).run P w = .ok (.agg cs) w := by
 have hl : (loadCells ⟨g, off, none⟩ cs.toList.length).run P w = .ok cs.toList.toArray w :=
  run_loadCells_list (P := P) w ⟨g, off, none⟩ cs.toList (fun j v hv => by
   have hadd : (⟨g, off, none⟩ : Addr).add j = ⟨g, off + j, none⟩ := by unfold Addr.add; split <;> simp_all
   rw [hadd]; exact hc j v (by simpa using hv))
 cases hq : P.info? ty with
 | none => simp [hq] at hi
 | some i =>
  have hs : i.size = cs.size := by simpa [hq] using hi
  have hagg : (isAgg ty).run P w = .ok true w := by
   unfold isAgg
   rw [Sem.run_bind, run_underlying hu w]
   cases d <;> simp_all
  simp only [Array.length_toList, Array.toArray_toList] at hl
  simp [loadVar, Sem.run_bind, hagg, sizeOf, typeInfo, hq, hs, hl]
theorem aT {P : Program} {ops : Array Oper} {rest : List Oper} {o : Oper} {a : Act} {w : World} {Q : Exit → Act → World → Prop} (hgd : o.guard = none) (ty : TypeId) (x : Operand) (ho : o.op = .load ty x)
  (g off : Nat) (hx : a.eval x = .pointer (some ⟨g, off, none⟩)) (cs : Array Value) (d : TypeDesc) (hc : ∀ j v, cs[j]? = some v → w.cell? ⟨g, off + j, none⟩ = some v)
  (hu : P.underlying ty = some d) (hd : (match d with | .struct _ | .array _ _ => true | _ => false) = true) (hi : (P.info? ty).map (·.size) = some cs.size)
  (h : wpList P ops Q rest (a.put o.dst (.agg cs)) w) : wpList P ops Q (o :: rest) a w :=
 wpList_plain hgd fun _ hK => by
  unfold Oper.wp execOp
  simp only [ho, hx, Instr.loadAt, Instr.sureAddr, Sem.run_bind, Sem.run_pure, Result.andThen_ok, eS w ty g off cs d hc hu hd hi]
  exact hK _ _ h
theorem aC {P : Program} {ops : Array Oper} {rest : List Oper} {o : Oper} {a : Act} {w : World} {Q : Exit → Act → World → Prop} (hgd : o.guard = none) (t : TypeId) (x y : Operand) (ho : o.op = .store t x y) (hd : o.dst = none)
  (g : Nat) (c c' : Array Value) (hx : a.eval x = .pointer (some ⟨g, 0, none⟩)) (hy : a.eval y = .agg c') (hg : w.heap[g]? = some (.cells c t (0, 0))) (hi : (P.info? t).map (·.size) = some c'.size) (hs : c.size = c'.size) (h1 : c'.all (·.oneCell') = true)
  (h : wpList P ops Q rest a (w.setRow g c')) : wpList P ops Q (o :: rest) a w :=
 wpList_plain hgd fun _ hK => by
  unfold Oper.wp execOp
  simp only [ho, hx, hy, Instr.storeAt, Instr.sureAddr, Sem.run_bind, Sem.run_pure, Result.andThen_ok, run_storeVar_row w g t t c c' hg hi hs h1]
  simpa [Oper.upon, Act.put, hd] using hK _ _ h
theorem tH (x : BitVec 8) : (n8 x == 0) = decide (x = 0#8) := by
 by_cases h : x = 0#8
 ·subst h; rfl
 ·have : ¬ n8 x = 0 := fun e => h (tI.1 (e.trans rfl))
  simp [h, this]
theorem tW (x : BitVec 8) (h : x &&& 1#8 = 0#8) : pcl x = x &&& ~~~2#8 &&& 159#8 := by
 unfold pcl; rw [if_pos h, BitVec.and_assoc]; rfl
theorem wW (x : BitVec 8) (h : ¬ x &&& 1#8 = 0#8) : pcl x = x &&& 159#8 := by
 unfold pcl; rw [if_neg h]
theorem mT (x : BitVec 8) (w : World) : Calls prog 57 #[.int .u8 (n8 x)] w fun e w' => e = .returned (.int .u8 (n8 (pcl x))) ∧ w' = w := by
 have b1 : bits .and .u8 (n8 x) 1 = n8 (x &&& 1#8) := gS x 1#8
 by_cases h : x &&& 1#8 = 0#8
 ·have b2 : bits .andNot .u8 (n8 x) 2 = n8 (x &&& ~~~2#8) := qJ x 2#8
  have b3 : bits .and .u8 (n8 (x &&& ~~~2#8)) 159 = n8 (x &&& ~~~2#8 &&& 159#8) := gS _ 159#8
  have e0 : (n8 (x &&& 1#8) == 0) = true := by rw [h]; rfl
  rw [tW x h]
  generalize x &&& ~~~2#8 = y at b2 b3 ⊢
  generalize x &&& 1#8 = z at b1 e0
  clear h
  go_enter func57, ntmps57
  go_wp2
  go_ret
  exact ⟨rfl, rfl⟩
 ·have b3 : bits .and .u8 (n8 x) 159 = n8 (x &&& 159#8) := gS _ 159#8
  have e0 : (n8 (x &&& 1#8) == 0) = false := by rw [tH]; simpa using h
  rw [wW x h]
  generalize x &&& 1#8 = z at b1 e0
  clear h
  go_enter func57, ntmps57
  go_wp2
  go_ret
  exact ⟨rfl, rfl⟩
theorem qC (i : Int) (w : World) : Calls prog 60 #[.int .i64 i] w fun e w' => e = .returned (.bool (decide (0 ≤ i ∧ i < 16))) ∧ w' = w := by
 by_cases h0 : 0 ≤ i
 ·by_cases h1 : i < 16
  ·go_enter func60, ntmps60
   go_wp2
   go_ret
   exact ⟨by simp_all, rfl⟩
  ·go_enter func60, ntmps60
   go_wp2
   go_ret
   exact ⟨by simp_all, rfl⟩
 ·have h1 : i < 16 := by omega
  go_enter func60, ntmps60
  go_wp2
  go_ret
  exact ⟨by simp_all, rfl⟩
def lk (x : BitVec 8) : Bool := decide (¬ x &&& 128#8 = 0#8)
def kd (x : BitVec 8) : BitVec 8 := x >>> 3 &&& 3#8
def rts (x : BitVec 8) : BitVec 8 := x &&& 7#8
theorem pY (x : BitVec 8) (y : Value) (w : World) : Calls prog 61 #[.agg #[.int .u8 (n8 x), y]] w fun e w' => e = .returned (.bool (lk x)) ∧ Below w.heap.size w w' := by
 have b1 : bits .and .u8 (n8 x) 128 = n8 (x &&& 128#8) := gS x 128#8
 have b2 : (n8 (x &&& 128#8) != 0) = lk x := by unfold bne; rw [tH]; unfold lk; simp
 generalize x &&& 128#8 = z at b1 b2
 generalize lk x = q at b2 ⊢
 go_enter func61, ntmps61
 go_wp2
 go_ret
 exact ⟨by simp_all, (Below.refl _ _).alloc (Nat.le_refl _) _⟩
theorem vS (x : BitVec 8) (y : Value) (w : World) : Calls prog 79 #[.agg #[.int .u8 (n8 x), y]] w fun e w' => e = .returned (.int .u8 (n8 (kd x))) ∧ Below w.heap.size w w' := by
 have b0 : n8 x / 8 = n8 (x >>> 3) := BW x 3
 have b1 : bits .and .u8 (n8 (x >>> 3)) 3 = n8 (kd x) := gS (x >>> 3) 3#8
 generalize kd x = z at b1 ⊢
 generalize x >>> 3 = z' at b0 b1
 go_enter func79, ntmps79
 go_wp2
 go_ret
 exact ⟨by simp_all, (Below.refl _ _).alloc (Nat.le_refl _) _⟩
theorem pZ (x : BitVec 8) (y : Value) (w : World) : Calls prog 37 #[.agg #[.int .u8 (n8 x), y]] w fun e w' => e = .returned (.int .i64 (n8 (rts x))) ∧ Below w.heap.size w w' := by
 have b1 : bits .and .u8 (n8 x) 7 = n8 (rts x) := gS x 7#8
 have b2 : wrap64 (n8 (rts x)) = n8 (rts x) := by have := EH (rts x); have := EG (rts x); unfold wrap64; omega
 generalize rts x = z at b1 b2 ⊢
 go_enter func37, ntmps37
 go_wp2
 go_ret
 exact ⟨by simp_all, (Below.refl _ _).alloc (Nat.le_refl _) _⟩
theorem mG (i : Int) (w : World) : Calls prog 32 #[.int .i64 i] w fun e w' => e = .returned (.bool (decide (1 ≤ i ∧ i ≤ 8))) ∧ w' = w := by
 by_cases h0 : 1 ≤ i
 ·by_cases h1 : i ≤ 8
  ·go_enter func32, ntmps32
   go_wp2
   go_ret
   exact ⟨by simp_all, rfl⟩
  ·go_enter func32, ntmps32
   go_wp2
   go_ret
   exact ⟨by simp_all, rfl⟩
 ·have h1 : i ≤ 8 := by omega
  go_enter func32, ntmps32
  go_wp2
  go_ret
  exact ⟨by simp_all, rfl⟩
theorem jC (i : Int) (w : World) : Calls prog 33 #[.int .i64 i] w fun e w' => e = .returned (.bool (decide (1 ≤ i ∧ i ≤ 7))) ∧ w' = w := by
 by_cases h0 : 1 ≤ i
 ·by_cases h1 : i ≤ 7
  ·go_enter func33, ntmps33
   go_wp2
   go_ret
   exact ⟨by simp_all, rfl⟩
  ·go_enter func33, ntmps33
   go_wp2
   go_ret
   exact ⟨by simp_all, rfl⟩
 ·have h1 : i ≤ 7 := by omega
  go_enter func33, ntmps33
  go_wp2
  go_ret
  exact ⟨by simp_all, rfl⟩
theorem mF (i : Int) (w : World) : Calls prog 31 #[.int .i64 i] w fun e w' => e = .returned (.bool (decide (i = 0 ∨ i = 3))) ∧ w' = w := by
 by_cases h0 : i = 0
 ·subst h0
  go_enter func31, ntmps31
  go_wp2
  go_ret
  exact ⟨rfl, rfl⟩
 ·by_cases h1 : i = 3
  ·subst h1
   go_enter func31, ntmps31
   go_wp2
   go_ret
   exact ⟨rfl, rfl⟩
  ·go_enter func31, ntmps31
   go_wp2
   go_ret
   exact ⟨by simp_all, rfl⟩
def Row (w : World) (g : Nat) (cs : Array Value) (t : TypeId) : Prop := w.heap[g]? = some (.cells cs t (0, 0))
theorem vR : #[Value.int .u8 0, .int .u64 0, .int .u8 0, .int .u64 0, .int .u8 0, .int .u64 0, .int .u8 0, .int .u64 0, .int .u8 0, .int .u64 0, .int .u8 0, .int .u64 0, .int .u8 0, .int .u64 0, .int .u8 0, .int .u64 0,
  .int .u8 0, .int .u64 0, .int .u8 0, .int .u64 0, .int .u8 0, .int .u64 0, .int .u8 0, .int .u64 0, .int .u8 0, .int .u64 0, .int .u8 0, .int .u64 0, .int .u8 0, .int .u64 0, .int .u8 0, .int .u64 0] = ec (fun _ => 0#8) (fun _ => 0#64) := by kernel_rfl
theorem oZ : #[Value.int .u8 0, .int .u8 0, .int .u8 0, .int .u8 0, .int .u8 0, .int .u8 0, .int .u8 0, .int .u8 0, .int .u8 0, .int .u8 0, .int .u8 0, .int .u8 0, .int .u8 0, .int .u8 0, .int .u8 0, .int .u8 0,
  .int .u64 0, .int .u64 0, .int .u64 0, .int .u64 0, .int .u64 0, .int .u64 0, .int .u64 0, .int .u64 0, .int .u64 0, .int .u64 0, .int .u64 0, .int .u64 0, .int .u64 0, .int .u64 0, .int .u64 0, .int .u64 0] = pc (fun _ => 0#8) (fun _ => 0#64) := by kernel_rfl
theorem Row.new (w : World) (cs : Array Value) (t : TypeId) : Row (w.alloc (.cells cs t)) w.heap.size cs t := heap_alloc_new w _
theorem Row.old {w : World} {g : Nat} {cs : Array Value} {t : TypeId} (h : Row w g cs t) (hg : g < w.heap.size) (o : Obj) : Row (w.alloc o) g cs t := (Below.heap_alloc w o g hg).trans h
theorem Row.lt {w : World} {g : Nat} {cs : Array Value} {t : TypeId} (h : Row w g cs t) : g < w.heap.size := by
 by_cases hg : g < w.heap.size
 ·exact hg
 ·have : w.heap[g]? = none := Array.getElem?_eq_none (by omega)
  rw [Row, this] at h; cases h
theorem Row.cell {w : World} {g : Nat} {cs : Array Value} {t : TypeId} (h : Row w g cs t) (j : Nat) : w.cell? ⟨g, j, none⟩ = cs[j]? := cell_of_row w g j cs t _ h
theorem Row.froz {w : World} {g : Nat} {cs : Array Value} {t : TypeId} (h : Row w g cs t) (j : Nat) : w.frozen? ⟨g, j, none⟩ = false := frozen_of_row w g j cs t h
theorem Row.later {w w' : World} {B g : Nat} {cs : Array Value} {t : TypeId} (h : Row w g cs t) (b : Below B w w') (hg : g < B) : Row w' g cs t := (b.block g hg).trans h
theorem Row.put {w : World} {g i : Nat} {cs : Array Value} {t : TypeId} (h : Row w g cs t) (v : Value) : Row (w.setCell ⟨g, i, none⟩ v) g (cs.setIfInBounds i v) t := heap_setCell_same w g i cs t v h
theorem Row.other {w : World} {g g' i : Nat} {cs : Array Value} {t : TypeId} (h : Row w g cs t) (hne : g ≠ g') (v : Value) : Row (w.setCell ⟨g', i, none⟩ v) g cs t := (heap_setCell_other w _ g v hne).trans h
theorem aS {B g i : Nat} {a w : World} (h : Below B a w) (hg : B ≤ g) (v : Value) : Below B a (w.setCell ⟨g, i, none⟩ v) := Below.setCell h hg v
theorem bC {B g : Nat} {a w : World} (h : Below B a w) (hg : B ≤ g) (cs : Array Value) : Below B a (w.setRow g cs) := h.trans ⟨rfl, rfl, rfl, by simp, fun j hj => setRow_other _ _ _ _ (by omega)⟩
def fY {α : Type} (k : Nat) (f g : Nat → α) : Nat → α := fun j => if j < k then f j else g j
theorem fP {α : Type} (k : Nat) (f g : Nat → α) : upd (fY k f g) k (f k) = fY (k + 1) f g := by
 funext j; unfold upd fY
 by_cases h : j = k
 ·subst h; rw [if_pos rfl, if_pos (by omega)]
 ·rw [if_neg h]
  by_cases h2 : j < k
  ·rw [if_pos h2, if_pos (by omega)]
  ·rw [if_neg h2, if_neg (by omega)]
theorem fQ {α : Type} (f g : Nat → α) : fY 0 f g = g := by funext j; simp [fY]
theorem wN (x : BitVec 64) : bits .and .u64 (n64 x) 18014398509481983 = n64 (pad x) := cC x 18014398509481983#64
theorem of_c (c : Nat → BitVec 8) (a : Nat → BitVec 64) (w : World) :
  Calls prog 34 #[.agg (pc c a)] w fun e w' => e = .returned (.agg (ec (fun j => pcl (c j)) (fun j => pad (a j)))) ∧ Below w.heap.size w w' := by
 go_enter func34, ntmps34
 go_wp2
 rw [vR]
 go_loopw [5] (fun i wr => ∃ k : Nat, k ≤ 16 ∧ i = .int .i64 k ∧ Hid (Row wr w.heap.size (pc c a) 27) ∧ Hid (Row wr (w.heap.size + 1) (ec (fun _ => 0#8) (fun _ => 0#64)) 85) ∧ Hid (Row wr (w.heap.size + 1 + 1) (ec (fY k (fun j => pcl (c j)) (fun _ => 0#8)) (fY k (fun j => pad (a j)) (fun _ => 0#64))) 85) ∧ Hid (Below w.heap.size w wr)) (fun i _ => 16 - (intOf i).toNat)
 case atStart =>
  refine ⟨0, by omega, rfl, ?_, ?_, ?_, ?_⟩
  ·exact ((Row.new w _ _).old (by simp) _).old (by simp; omega) _
  ·have := (Row.new (w.alloc (.cells (pc c a) 27)) (ec (fun _ => 0#8) (fun _ => 0#64)) 85).old (by simp) (.cells (ec (fun _ => 0#8) (fun _ => 0#64)) 85)
   simpa [Hid] using this
  ·have := Row.new ((w.alloc (.cells (pc c a) 27)).alloc (.cells (ec (fun _ => 0#8) (fun _ => 0#64)) 85)) (ec (fun _ => 0#8) (fun _ => 0#64)) 85
   rw [fQ, fQ]
   simpa [Hid] using this
  ·exact (((Below.refl _ _).alloc (Nat.le_refl _) _).alloc (by simp) _).alloc (by simp; omega) _
 case round =>
  obtain ⟨k, hk, rfl, h0, h1, h2, hb⟩ := hrel
  by_cases hlt : k < 16
  ·have hlt2 : (k : Int) < 16 := by omega
   have c0 : wr.cell? ⟨w.heap.size, k, none⟩ = some (.int .u8 (n8 (c k))) := by rw [h0.out.cell, dS _ _ _ (by omega), cG, if_pos hlt]
   have c1 : wr.cell? ⟨w.heap.size, 16 + k, none⟩ = some (.int .u64 (n64 (a k))) := by rw [h0.out.cell, dS _ _ _ (by omega), cG, if_neg (by omega), Nat.add_sub_cancel_left]
   have hp := wN (a k)
   go_upto_region 5 with fail
   refine wp_region_still_tail 13 (by kernel_rfl) (by kernel_rfl) ?_
   change wpStill _ _ wr.drew (fun a' => wpList _ _ _ _ a' wr.drew) _ _
   simp only [List.take_succ_cons, List.take_zero, List.drop_succ_cons, List.drop_zero]
   still_step
   still_step
   still_step
   still_step
   still_step
   still_call (mT (c k) _)
   still_step
   still_step
   still_step
   still_step
   still_step
   still_step
   still_step
   refine wpStill_nil ?_
   have d0 : ∃ v, wr.cell? ⟨w.heap.size + 1 + 1, k * 2, none⟩ = some v := ⟨_, by rw [h2.out.cell, eU _ _ _ (by omega)]⟩
   have d1 : ∃ v, wr.cell? ⟨w.heap.size + 1 + 1, k * 2 + 1, none⟩ = some v := ⟨_, by rw [h2.out.cell, eU _ _ _ (by omega)]⟩
   obtain ⟨v0, d0⟩ := d0
   obtain ⟨v1, d1⟩ := d1
   have f0 := h2.out.froz (k * 2)
   have f1 := h2.out.froz (k * 2 + 1)
   go_wp2
   go_roundw
   case rel =>
    refine ⟨k + 1, by omega, by go_num, ?_, ?_, ?_, ?_⟩
    ·exact Row.other (Row.other h0.out (by omega) _) (by omega) _
    ·exact Row.other (Row.other h1.out (by omega) _) (by omega) _
    ·have h := Row.put (i := k * 2 + 1) (Row.put (i := k * 2) h2.out (.int .u8 (n8 (pcl (c k))))) (.int .u64 (n64 (pad (a k))))
     rw [zH _ _ _ _ hlt, vQ _ _ _ _ hlt, fP k (fun j => pcl (c j)), fP k (fun j => pad (a j))] at h
     exact h
    ·exact (aS (aS hb.out (by omega) _) (by omega) _).drew
   case measure => simp [intOf]; omega
  ·obtain rfl : k = 16 := by omega
   have e16 : ((16 : Nat) : Int) = 16 := rfl
   rw [e16]
   clear hk hlt
   have he : ec (fY 16 (fun j => pcl (c j)) fun _ => 0#8) (fY 16 (fun j => pad (a j)) fun _ => 0#64) = ec (fun j => pcl (c j)) (fun j => pad (a j)) :=
    rZ fun j hj => by simp [fY, hj]
   rw [he] at h2
   clear he
   go_wp2_with (first | (refine wpList_load_row (by rfl) _ _ (by rfl) _ (by rfl) 85 _ (0, 0) _ h2.out underlying85 (by rfl) (by rw [cK]; kernel_rfl) ?_) | (refine aC (by rfl) _ _ _ (by rfl) (by rfl) _ _ _ (by rfl) (by rfl) h1.out (by rw [cK]; kernel_rfl) (by rw [cK, cK]) (kV _ _) ?_))
   refine bodyPost_ret (v := .agg (ec (fun j => pcl (c j)) (fun j => pad (a j)))) ?_ rfl ⟨rfl, ?_⟩
   ·exact results_cell_row results34 _ _ (w.heap.size + 1) 85 _ (0, 0) _ (by rfl) (setRow_heap _ _ _ _ _ _ h1.out) underlying85 (by rfl) (by rw [cK]; kernel_rfl)
   ·exact bC hb.out (by omega) _
theorem CL (c : Nat → BitVec 8) (a : Nat → BitVec 64) (g : Nat) (w : World) (hg : Row w g (ec c a) 85) :
  Calls prog 86 #[.pointer (some ⟨g, 0, none⟩)] w fun e w' => e = .returned (.agg (pc c a)) ∧ Below w.heap.size w w' := by
 have hlg := hg.lt
 have HG := hid hg
 clear hg
 go_enter func86, ntmps86
 go_wp2
 rw [oZ]
 go_loopw [5] (fun i wr => ∃ k : Nat, k ≤ 16 ∧ i = .int .i64 k ∧ Hid (Row wr g (ec c a) 85) ∧ Hid (Row wr w.heap.size (pc (fun _ => 0#8) (fun _ => 0#64)) 27) ∧ Hid (Row wr (w.heap.size + 1) (pc (fY k c (fun _ => 0#8)) (fY k a (fun _ => 0#64))) 27) ∧ Hid (Below w.heap.size w wr)) (fun i _ => 16 - (intOf i).toNat)
 case atStart =>
  refine ⟨0, by omega, rfl, ?_, ?_, ?_, ?_⟩
  ·exact (HG.out.old hlg _).old (by simp; omega) _
  ·exact (Row.new w _ _).old (by simp) _
  ·have := Row.new (w.alloc (.cells (pc (fun _ => 0#8) (fun _ => 0#64)) 27)) (pc (fun _ => 0#8) (fun _ => 0#64)) 27
   rw [fQ, fQ]
   simpa [Hid] using this
  ·exact (((Below.refl _ _).alloc (Nat.le_refl _) _).alloc (by simp) _)
 case round =>
  obtain ⟨k, hk, rfl, h0, h1, h2, hb⟩ := hrel
  by_cases hlt : k < 16
  ·have hlt2 : (k : Int) < 16 := by omega
   have c0 : wr.cell? ⟨g, k * 2, none⟩ = some (.int .u8 (n8 (c k))) := by rw [h0.out.cell, eU _ _ _ (by omega), eV, if_pos (by omega), Nat.mul_div_cancel _ (by omega)]
   have c1 : wr.cell? ⟨g, k * 2 + 1, none⟩ = some (.int .u64 (n64 (a k))) := by rw [h0.out.cell, eU _ _ _ (by omega), eV, if_neg (by omega), show (k * 2 + 1) / 2 = k by omega]
   have d0 : ∃ v, wr.cell? ⟨w.heap.size + 1, k, none⟩ = some v := ⟨_, by rw [h2.out.cell, dS _ _ _ (by omega)]⟩
   have d1 : ∃ v, wr.cell? ⟨w.heap.size + 1, 16 + k, none⟩ = some v := ⟨_, by rw [h2.out.cell, dS _ _ _ (by omega)]⟩
   obtain ⟨v0, d0⟩ := d0
   obtain ⟨v1, d1⟩ := d1
   have f0 := h2.out.froz k
   have f1 := h2.out.froz (16 + k)
   have ne1 : ¬ 16 + k = k := by omega
   have ne2 : ¬ k = 16 + k := by omega
   go_upto_region 5 with fail
   go_region
   go_wp2
   go_roundw
   case rel =>
    refine ⟨k + 1, by omega, by go_num, ?_, ?_, ?_, ?_⟩
    ·exact Row.other (Row.other h0.out (by omega) _) (by omega) _
    ·exact Row.other (Row.other h1.out (by omega) _) (by omega) _
    ·have h := Row.put (i := 16 + k) (Row.put (i := k) h2.out (.int .u8 (n8 (c k)))) (.int .u64 (n64 (a k)))
     rw [CD _ _ _ _ hlt, wV _ _ _ _ hlt, fP k c, fP k a] at h
     exact h
    ·exact (aS (aS hb.out (by omega) _) (by omega) _).drew
   case measure => simp [intOf]; omega
  ·obtain rfl : k = 16 := by omega
   have e16 : ((16 : Nat) : Int) = 16 := rfl
   rw [e16]
   clear hk hlt
   have he : pc (fY 16 c fun _ => 0#8) (fY 16 a fun _ => 0#64) = pc c a :=
    tV fun j hj => by simp [fY, hj]
   rw [he] at h2
   clear he
   go_wp2_with (first | (refine wpList_load_row (by rfl) _ _ (by rfl) _ (by rfl) 27 _ (0, 0) _ h2.out underlying27 (by rfl) (by rw [bQ]; kernel_rfl) ?_) | (refine aC (by rfl) _ _ _ (by rfl) (by rfl) _ _ _ (by rfl) (by rfl) h1.out (by rw [bQ]; kernel_rfl) (by rw [bQ, bQ]) (iH _ _) ?_))
   refine bodyPost_ret (v := .agg (pc c a)) ?_ rfl ⟨rfl, ?_⟩
   ·exact results_cell_row results86 _ _ w.heap.size 27 _ (0, 0) _ (by rfl) (setRow_heap _ _ _ _ _ _ h1.out) underlying27 (by rfl) (by rw [bQ]; kernel_rfl)
   ·exact bC hb.out (by omega) _
theorem dO (w : World) (cs : Array Value) (t : TypeId) : ∃ W, w.alloc (.cells cs t) = W ∧ Hid (Row W w.heap.size cs t) ∧ Hid (Below w.heap.size w W) ∧ W.heap.size = w.heap.size + 1 :=
 ⟨_, rfl, Row.new _ _ _, (Below.refl _ _).alloc (Nat.le_refl _) _, by simp⟩
theorem bX (w : World) (cs cs' : Array Value) (t t' : TypeId) : ∃ W, (w.alloc (.cells cs t)).alloc (.cells cs' t') = W ∧ Hid (Row W w.heap.size cs t) ∧ Hid (Row W (w.heap.size + 1) cs' t') ∧ Hid (Below w.heap.size w W) ∧ W.heap.size = w.heap.size + 2 :=
 ⟨_, rfl, (Row.new _ _ _).old (by simp) _, by have := Row.new (w.alloc (.cells cs t)) cs' t'; simpa [Hid] using this, ((Below.refl _ _).alloc (Nat.le_refl _) _).alloc (by simp) _, by simp⟩
def pz : Array Value := pc (fun _ => 0#8) (fun _ => 0#64)
theorem xF : pz.size = 32 := bQ _ _
def PC (c : Nat → BitVec 8) : Nat → BitVec 8 := fun j => pcl (c j)
def PA (a : Nat → BitVec 64) : Nat → BitVec 64 := fun j => pad (a j)
theorem EK (c : Nat → BitVec 8) (a : Nat → BitVec 64) (w : World) :
  Calls prog 34 #[.agg (pc c a)] w fun e w' => e = .returned (.agg (ec (PC c) (PA a))) ∧ Below w.heap.size w w' := of_c c a w
theorem rD (c : Nat → BitVec 8) (a : Nat → BitVec 64) (w : World) :
  Calls prog 68 #[.agg (pc c a)] w fun e w' => e = .returned (.agg (pc (PC c) (PA a))) ∧ Below w.heap.size w w' := by
 obtain ⟨W0, hW0, r0, r1, b0, s0⟩ := bX w (pc c a) pz 27 27
 have HS := hid s0
 clear s0
 go_enter func68, ntmps68
 go_upto_region 1 with fail
 rw [oZ, ← pz, hW0]
 clear hW0
 go_wp2_with (first | (refine wpList_load_row (by rfl) _ _ (by rfl) _ (by rfl) 27 _ (0, 0) _ r0.out underlying27 (by rfl) (by rw [bQ]; kernel_rfl) ?_) | (go_at_call 34; refine (EK c a _).mono ?_; rintro e w1 ⟨rfl, hb1⟩; have HB1 := hid hb1; clear hb1) | (go_at_call 86; refine (CL (PC c) (PA a) _ _ (Row.new _ _ _)).mono ?_; rintro e w2 ⟨rfl, hb2⟩; have HB2 : Hid (Below w1.heap.size w1 w2) := (Below.alloc (Below.refl _ _) (Nat.le_refl _) _).trans (hb2.mono (by simp)); clear hb2) | (refine aC (by rfl) _ _ _ (by rfl) (by rfl) _ _ _ (by rfl) (by rfl) ((r1.out.later HB1.out (by rw [HS.out]; omega)).later HB2.out (Nat.lt_of_lt_of_le (by rw [HS.out]; omega) HB1.out.size)) (by rw [bQ]; kernel_rfl) (by rw [bQ, xF]) (iH _ _) ?_) | (refine aK (by rfl) _ _ _ (by rfl) (by rfl) _ _ (by rfl) (by rfl) (by rw [cK]; kernel_rfl) (by rw [cK]; rfl) (kV _ _) ?_))
 have h9 : Row w2 (w.heap.size + 1) pz 27 := (r1.out.later HB1.out (by rw [HS.out]; omega)).later HB2.out (Nat.lt_of_lt_of_le (by rw [HS.out]; omega) HB1.out.size)
 refine bodyPost_ret (v := .agg (pc (PC c) (PA a))) ?_ rfl ⟨rfl, ?_⟩
 ·exact results_cell_row results68 _ _ (w.heap.size + 1) 27 _ (0, 0) _ (by rfl) (setRow_heap _ _ _ _ _ _ h9) underlying27 (by rfl) (by rw [bQ]; kernel_rfl)
 ·exact bC ((b0.out.trans (HB1.out.mono (by rw [HS.out]; omega))).trans (HB2.out.mono (Nat.le_trans (by rw [HS.out]; omega) HB1.out.size))) (by omega) _
theorem aV {P : Program} {W : World} {o : Oper} {a : Act} {K : Act → Prop} (ty : TypeId) (x : Operand) (ho : o.op = .load ty x) (g off : Nat) (hx : a.eval x = .pointer (some ⟨g, off, none⟩)) (cs : Array Value) (d : TypeDesc)
  (hg : g < W.heap.size) (hc : ∀ j v, cs[j]? = some v → W.cell? ⟨g, off + j, none⟩ = some v) (hu : P.underlying ty = some d) (hd : (match d with | .struct _ | .array _ _ => true | _ => false) = true) (hi : (P.info? ty).map (·.size) = some cs.size)
  (hk : K (a.put o.dst (.agg cs))) : o.quiet P a (fun w' => ∃ x : bR W, w' = x.1) K := by
 refine ⟨_, fun w hw => ?_, hk⟩
 obtain ⟨y, rfl⟩ := hw
 have hl := eS (P := P) y.1 ty g off cs d (fun j v hv => (nJ y (by exact hg)).trans (hc j v hv)) hu hd hi
 unfold Oper.quietAt execOp
 simp only [ho, hx, Instr.loadAt, Instr.sureAddr, Sem.run_bind, Sem.run_pure, Result.andThen_ok, hl]
 exact ⟨rfl, rfl⟩
section
variable {H : Type} {enc : TypeId × Value → H} {w : World} {base : Nat} {held : Bool}
theorem hI {k : IntKind} {t e : TypeId} {fuel : Nat} {cs : List Value} {y : DataW H × List MemPlace} (ht : prog.underlying t = some (.array 16 e)) (he : prog.underlying e = some (.int k)) (hce : prog.cellsOf e = 1)
  (h : DataW.trod enc prog w base (fun _ => true) held fuel t cs = some y) (hl : cs.length = 16) : ∀ j, j < 16 → ∃ n, cs[j]? = some (.int k n) ∧ (Lit.int k n).wf = true := by
 obtain ⟨xs, m, _, _, _, hxl, hx⟩ := DataW.trod_array ht h
 intro j hj
 have h1 := hx j hj
 obtain ⟨q, hq⟩ : ∃ q, xs[j]? = some q := ⟨_, List.getElem?_eq_getElem (by omega)⟩
 rw [hq, hce, Nat.mul_one] at h1
 obtain ⟨n, e0, _, hw⟩ := DataW.trod_int he h1
 refine ⟨n, ?_, hw⟩
 have h2 : ((cs.drop j).take 1)[0]? = some (.int k n) := by rw [e0]; rfl
 simpa using h2
theorem pT : prog.cellsOf 27 = 32 := by kernel_rfl
theorem pS : prog.cellsOf 24 = 16 := by kernel_rfl
theorem pR : prog.cellsOf 25 = 16 := by kernel_rfl
theorem tR {fuel : Nat} {cs : List Value} {y : DataW H × List MemPlace} (h : DataW.trod enc prog w base (fun _ => true) held fuel 27 cs = some y) : ∃ (c : Nat → BitVec 8) (a : Nat → BitVec 64), cs = (pc c a).toList := by
 obtain ⟨xs, n, _, rfl, hl, hlen, hf⟩ := DataW.trod_struct underlying27 h
 rw [pT] at hl
 match xs, (show xs.length = 2 from hlen), hf with
 | [y0, y1], _, hf =>
  have g0 : DataW.trod enc prog w base (fun _ => true) held n 24 (cs.take 16) = some y0 := by
   have := hf 0 _ rfl
   simpa [pS] using this
  have g1 : DataW.trod enc prog w base (fun _ => true) held n 25 ((cs.drop 16).take 16) = some y1 := by
   have := hf 1 _ rfl
   simpa [pR] using this
  have o0 := hI underlying24 underlying5 (by kernel_rfl) g0 (by simp; omega)
  have o1 := hI underlying25 underlying22 (by kernel_rfl) g1 (by simp; omega)
  have p0 : ∀ j, ∃ x : BitVec 8, j < 16 → cs[j]? = some (.int .u8 (n8 x)) := fun j => by
   by_cases hj : j < 16
   ·obtain ⟨z, hz, hw⟩ := o0 j hj
    obtain ⟨x, rfl⟩ := EI hw
    exact ⟨x, fun _ => by rw [List.getElem?_take_of_lt hj] at hz; exact hz⟩
   ·exact ⟨0#8, fun h => absurd h hj⟩
  have p1 : ∀ j, ∃ x : BitVec 64, j < 16 → cs[16 + j]? = some (.int .u64 (n64 x)) := fun j => by
   by_cases hj : j < 16
   ·obtain ⟨z, hz, hw⟩ := o1 j hj
    obtain ⟨x, rfl⟩ := bW hw
    exact ⟨x, fun _ => by rw [List.getElem?_take_of_lt hj, List.getElem?_drop] at hz; exact hz⟩
   ·exact ⟨0#64, fun h => absurd h hj⟩
  refine ⟨fun j => (p0 j).choose, fun j => (p1 j).choose, ?_⟩
  apply List.ext_getElem?
  intro j
  rw [Array.getElem?_toList (xs := pc _ _)]
  by_cases hj : j < 32
  ·rw [dS _ _ _ hj, cG]
   split
   ·rename_i h16
    exact (p0 j).choose_spec h16
   ·rename_i h16
    exact (congrArg (fun q => cs[q]?) (show j = 16 + (j - 16) by omega)).trans ((p1 (j - 16)).choose_spec (by omega))
  ·rw [List.getElem?_eq_none (by omega), Array.getElem?_eq_none (by rw [bQ]; omega)]
end
def cL (c : Nat → BitVec 8) (i : Int) : Bool := if 0 ≤ i ∧ i < 16 then lk (c i.toNat) else true
theorem yH (c : Nat → BitVec 8) (k : Nat) (h : k < 16) : cL c k = lk (c k) := by unfold cL; rw [if_pos (by omega)]; simp
theorem yY (c : Nat → BitVec 8) (i : Int) (h : ¬ (0 ≤ i ∧ i < 16)) : cL c i = true := by unfold cL; rw [if_neg h]
theorem iK {w : World} {g : Nat} {c : Nat → BitVec 8} {a : Nat → BitVec 64} {t : TypeId} (h : Row w g (ec c a) t) (k : Nat) (hk : k < 16) : w.cell? ⟨g, k * 2, none⟩ = some (.int .u8 (n8 (c k))) := by
 rw [h.cell, eU _ _ _ (by omega), eV, if_pos (by omega), Nat.mul_div_cancel _ (by omega)]
theorem dT {w : World} {g : Nat} {c : Nat → BitVec 8} {a : Nat → BitVec 64} {t : TypeId} (h : Row w g (ec c a) t) (k : Nat) (hk : k < 16) : w.cell? ⟨g, k * 2 + 1, none⟩ = some (.int .u64 (n64 (a k))) := by
 rw [h.cell, eU _ _ _ (by omega), eV, if_neg (by omega), show (k * 2 + 1) / 2 = k by omega]
theorem lY (c : Nat → BitVec 8) (a : Nat → BitVec 64) (g : Nat) (i : Int) (w : World) (hg : Row w g (ec c a) 85) :
  Calls prog 36 #[.pointer (some ⟨g, 0, none⟩), .int .i64 i] w fun e w' => e = .returned (.bool (cL c i)) ∧ Below w.heap.size w w' := by
 have hE := qC i w
 by_cases h : 0 ≤ i ∧ i < 16
 ·obtain ⟨k, rfl⟩ : ∃ k : Nat, i = k := ⟨i.toNat, by omega⟩
  have hk : k < 16 := by omega
  have hk2 : (k : Int) < 16 := by omega
  rw [decide_eq_true h] at hE
  rw [yH c k hk]
  have c0 := iK hg k hk
  have c1 := dT hg k hk
  have hB := pY (c k) (.int .u64 (n64 (a k))) w
  generalize lk (c k) = r at hB ⊢
  have HE : Hid (Calls prog 60 #[.int .i64 k] w fun e w' => e = .returned (.bool true) ∧ w' = w) := hE
  have HB : Hid (Calls prog 61 #[.agg #[.int .u8 (n8 (c k)), .int .u64 (n64 (a k))]] w fun e w' => e = .returned (.bool r) ∧ Below w.heap.size w w') := hB
  clear hE hB hg h
  go_enter func36, ntmps36
  go_wp2_with (first | (go_at_call 60; refine HE.out.mono ?_; rintro e w1 ⟨rfl, hw⟩; have hw2 := hw.symm; subst hw2) | (go_at_call 61; refine HB.out.mono ?_; rintro e w1 ⟨rfl, hb⟩))
  go_ret
  exact ⟨rfl, hb⟩
 ·rw [decide_eq_false h] at hE
  rw [yY c i h]
  have HE : Hid (Calls prog 60 #[.int .i64 i] w fun e w' => e = .returned (.bool false) ∧ w' = w) := hE
  clear hE hg h
  go_enter func36, ntmps36
  go_wp2_with (go_at_call 60; refine HE.out.mono ?_; rintro e w1 ⟨rfl, hw⟩; have hw2 := hw.symm; subst hw2)
  go_ret
  exact ⟨rfl, Below.refl _ _⟩
theorem gX {P : Program} {ops : Array Oper} {rest : List Oper} {o : Oper} {a : Act} {w : World} {Q : Exit → Act → World → Prop} (hw : Region.wanted o (yielded ops a.tmps) = true) (ty : TypeId) (x : Operand) (ho : o.op = .load ty x)
  (g : Nat) (hx : a.eval x = .pointer (some ⟨g, 0, none⟩)) (t : TypeId) (cs : Array Value) (fr : Nat × Nat) (d : TypeDesc) (hg : w.heap[g]? = some (.cells cs t fr))
  (hu : P.underlying ty = some d) (hd : (match d with | .struct _ | .array _ _ => true | _ => false) = true) (hi : (P.info? ty).map (·.size) = some cs.size)
  (h : wpList P ops Q rest (a.put o.dst (.agg cs)) w) : wpList P ops Q (o :: rest) a w :=
 BigFrame.wpList_want hw fun _ hK => wp_load_row ty x ho g hx t cs fr d hg hu hd hi (hK _ _ h)
def Tb (w : World) : Prop := ∀ j, j < 64 → w.cell? ⟨0, j, none⟩ = some (.int .u8 ((Lib.deBruijn64tab.getD j 0 : Nat) : Int))
theorem Tb.lt {w : World} (h : Tb w) : 0 < w.heap.size := World.block_lt_of_cell? w _ (h 0 (by omega))
theorem Tb.later {w w' : World} {B : Nat} (h : Tb w) (b : Below B w w') (hB : 0 < B) : Tb w' := fun j hj => (b.cell (p := ⟨0, j, none⟩) hB).trans (h j hj)
theorem Tb.next {w w' : World} (h : Tb w) (b : Below w.heap.size w w') : Tb w' := h.later b h.lt
theorem Tb.alloc {w : World} (h : Tb w) (o : Obj) : Tb (w.alloc o) := h.next ((Below.refl _ _).alloc (Nat.le_refl _) _)
def tz (x : BitVec 64) : Nat := Lib.ctz 64 x.toNat
theorem xQ : tz 0#64 = 64 := rfl
theorem wM (x : BitVec 64) : IntKind.u64.wrap (-(n64 x)) = n64 (-x) := by
 rw [dK]
 congr 1
 apply BitVec.eq_of_toNat_eq
 rw [BitVec.toNat_ofInt, BitVec.toNat_neg]
 unfold n64
 have := x.isLt
 omega
theorem CM (x : BitVec 64) (h : x ≠ 0#64) : (((x &&& -x) * 285870213051353865#64) >>> 58).toNat = 2 ^ tz x * 285870213051353865 % 18446744073709551616 / 288230376151711744 ∧ tz x < 64 := by
 have h0 : x.toNat ≠ 0 := fun e => h (BitVec.eq_of_toNat_eq (by simpa using e))
 obtain ⟨hl, hk⟩ := Lib.lowest_bit 64 x.toNat h0 x.isLt
 refine ⟨?_, hk⟩
 have e1 : (x &&& -x).toNat = 2 ^ tz x := by
  rw [BitVec.toNat_and, BitVec.toNat_neg, Nat.mod_eq_of_lt (by have := x.isLt; omega)]
  exact hl
 rw [BitVec.toNat_ushiftRight, BitVec.toNat_mul, e1, Nat.shiftRight_eq_div_pow]
 rfl
theorem ES (x : BitVec 64) (w : World) (hT : Tb w) : Calls prog 101 #[.int .u64 (n64 x)] w fun e w' => e = .returned (.int .i64 (tz x : Nat)) ∧ w' = w := by
 by_cases h : x = 0#64
 ·subst h
  rw [xQ]
  have e0 : n64 0#64 = 0 := rfl
  rw [e0]
  go_enter func101, ntmps101
  go_wp2
  go_ret
  exact ⟨rfl, rfl⟩
 ·obtain ⟨hk, h64⟩ := CM x h
  obtain ⟨hi, htab⟩ := Lib.deBruijn64_at _ h64
  have e0 : (n64 x == 0) = false := by
   have : ¬ n64 x = 0 := fun e => h (tG e)
   simpa using this
  have e1 := wM x
  have e2 := cC x (-x)
  have e3 : IntKind.u64.wrap (n64 (x &&& -x) * 285870213051353865) = n64 ((x &&& -x) * 285870213051353865#64) := wJ (x &&& -x) 285870213051353865#64
  obtain ⟨d, hd⟩ : ∃ d, d = (((x &&& -x) * 285870213051353865#64) >>> 58).toNat := ⟨_, rfl⟩
  have e4 : n64 ((x &&& -x) * 285870213051353865#64) / 288230376151711744 = (d : Int) := by
   have := oT ((x &&& -x) * 285870213051353865#64) 58
   rw [hd]
   exact this
  rw [← hk, ← hd] at hi htab
  have hd64 : (d : Int) < 64 := by omega
  have c0 := hT d hi
  rw [htab] at c0
  have hw : wrap64 ((tz x : Nat) : Int) = ((tz x : Nat) : Int) := by unfold wrap64; omega
  generalize (x &&& -x) * 285870213051353865#64 = y3 at e3 e4
  generalize x &&& -x = y2 at e2 e3
  generalize -x = y1 at e1 e2
  generalize ((tz x : Nat) : Int) = t at c0 hw ⊢
  clear hk hd htab hT h
  go_enter func101, ntmps101
  go_wp2
  go_ret
  exact ⟨by simp_all, rfl⟩
end Go.Proofs.YtdpfjhacmlnklaaGreatDoor
