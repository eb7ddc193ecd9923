import Derived.Test.YtddlmenfcbjoaaaGreatDoorK02
import Derived.StillTailTactics
import Derived.Deep.CutRange
import Derived.BigRegion
import Derived.BigQuiet
import Derived.Deep.QuietTactic
import Derived.ChangeKeysEq
import Derived.SizedLaws
import Derived.OpenShut
import Derived.Lib.TrailingZeros
import Derived.Laws.ResultCell
import Derived.OwnWalk
namespace Go.Proofs.YtddlmenfcbjoaaaGreatDoor
set_option linter.unusedVariables false
set_option maxRecDepth 100000
set_option maxHeartbeats 8000000
open Go.ChangeShapes Go.WideShapes Go.ChangeAt Go.RowKit Go.Deep _root_.Go.Proofs.Tryz
def n8 (x : BitVec 8) : Int := (x.toNat : Int)
theorem qL {x y : BitVec 8} : n8 x = n8 y ↔ x = y := by
 unfold n8; constructor
 ·intro h; exact ZqT (by omega)
 ·rintro rfl; rfl
theorem TU (x : BitVec 8) : 0 ≤ n8 x := by unfold n8; omega
theorem TT (x : BitVec 8) : n8 x ≤ 255 := by unfold n8; have := x.isLt; omega
theorem n8_of {n : Int} (h : (Lit.int .u8 n).wf = true) : ∃ x : BitVec 8, n = n8 x := by
 have hb := bounds_u8 h
 refine ⟨BitVec.ofNat 8 n.toNat, ?_⟩
 unfold n8; rw [ZqR, ZqV (by omega)]; omega
theorem jL (x : BitVec 8) : BitVec.ofInt 8 (n8 x) = x := by
 unfold n8; apply ZqT; rw [BitVec.toNat_ofInt]; have := x.isLt; omega
theorem uK (z : Int) : IntKind.u8.wrap z = n8 (BitVec.ofInt 8 z) := by
 unfold n8; rw [BitVec.toNat_ofInt]; simp [IntKind.wrap, IntKind.signed, IntKind.bits]; omega
theorem nO (x y : BitVec 8) : bits .and .u8 (n8 x) (n8 y) = n8 (x &&& y) := by
 show IntKind.u8.wrap ((BitVec.ofInt 8 (n8 x) &&& BitVec.ofInt 8 (n8 y)).toNat : Int) = _
 rw [jL, jL, uK]; exact congrArg n8 (jL _)
theorem DF (x y : BitVec 8) : bits .andNot .u8 (n8 x) (n8 y) = n8 (x &&& ~~~y) := by
 show IntKind.u8.wrap ((BitVec.ofInt 8 (n8 x) &&& ~~~BitVec.ofInt 8 (n8 y)).toNat : Int) = _
 rw [jL, jL, uK]; exact congrArg n8 (jL _)
theorem eR (x y : BitVec 64) : bits .andNot .u64 (n64 x) (n64 y) = n64 (x &&& ~~~y) := by
 show IntKind.u64.wrap ((BitVec.ofInt 64 (n64 x) &&& ~~~BitVec.ofInt 64 (n64 y)).toNat : Int) = _
 rw [dB, dB, dM]; exact congrArg n64 (dB _)
theorem YW (x : BitVec 8) (k : Nat) : n8 x / 2 ^ k = n8 (x >>> k) := by
 unfold n8; rw [BitVec.toNat_ushiftRight, Nat.shiftRight_eq_div_pow, Int.natCast_ediv, Int.natCast_pow]; rfl
def pcl (x : BitVec 8) : BitVec 8 := if x &&& 1#8 = 0#8 then x &&& 0x9d#8 else x &&& 0x9f#8
def pad (x : BitVec 64) : BitVec 64 := x &&& 18014398509481983#64
def eF (c : Nat → BitVec 8) (a : Nat → BitVec 64) (j : Nat) : Value := if j < 16 then .int .u8 (n8 (c j)) else .int .u64 (n64 (a (j - 16)))
def pc (c : Nat → BitVec 8) (a : Nat → BitVec 64) : Array Value := Array.ofFn (n := 32) fun j => eF c a j.val
def kN (c : Nat → BitVec 8) (a : Nat → BitVec 64) (j : Nat) : Value := if j % 2 = 0 then .int .u8 (n8 (c (j / 2))) else .int .u64 (n64 (a (j / 2)))
def ec (c : Nat → BitVec 8) (a : Nat → BitVec 64) : Array Value := Array.ofFn (n := 32) fun j => kN c a j.val
theorem bK (c : Nat → BitVec 8) (a : Nat → BitVec 64) : (pc c a).size = 32 := by simp [pc]
theorem cV (c : Nat → BitVec 8) (a : Nat → BitVec 64) : (ec c a).size = 32 := by simp [ec]
theorem gB (c : Nat → BitVec 8) (a : Nat → BitVec 64) (j : Nat) (h : j < 32) : (pc c a)[j]? = some (eF c a j) := by simp [pc, h]
theorem kM (c : Nat → BitVec 8) (a : Nat → BitVec 64) (j : Nat) (h : j < 32) : (ec c a)[j]? = some (kN c a j) := by simp [ec, h]
theorem gN (c : Nat → BitVec 8) (a : Nat → BitVec 64) : (pc c a).all (·.oneCell') = true := by
 rw [Array.all_eq_true]; intro i hi; simp [pc, eF]; split <;> rfl
theorem jW (c : Nat → BitVec 8) (a : Nat → BitVec 64) : (ec c a).all (·.oneCell') = true := by
 rw [Array.all_eq_true]; intro i hi; simp [ec, kN]; split <;> rfl
def upd {α : Type} (f : Nat → α) (k : Nat) (x : α) : Nat → α := fun j => if j = k then x else f j
theorem uD {A B : Array Value} {k : Nat} {v : Value} {f g : Nat → Value} (hA : ∀ j, j < 32 → A[j]? = some (f j)) (hB : ∀ j, j < 32 → B[j]? = some (g j)) (sA : A.size = 32) (sB : B.size = 32) (hk : k < 32) (h1 : g k = v) (h2 : ∀ j, j < 32 → j ≠ k → g j = f j) :
  A.setIfInBounds k v = B := by
 apply Array.ext_getElem?
 intro j
 rw [Array.getElem?_setIfInBounds]
 by_cases hj : j < 32
 ·rw [hA j hj, hB j hj, sA]
  by_cases e : k = j
  ·subst e; rw [if_pos rfl, if_pos hk, h1]
  ·rw [if_neg e, h2 j hj (fun q => e q.symm)]
 ·rw [if_neg (by omega), Array.getElem?_eq_none (by omega), Array.getElem?_eq_none (by omega)]
theorem ZC (c : Nat → BitVec 8) (a : Nat → BitVec 64) (k : Nat) (x : BitVec 8) (h : k < 16) : (pc c a).setIfInBounds k (.int .u8 (n8 x)) = pc (upd c k x) a := by
 refine uD (gB c a) (gB _ a) (bK _ _) (bK _ _) (by omega) (by simp [eF, upd, h]) fun j hj hne => ?_
 simp [eF, upd, hne]
theorem QI (c : Nat → BitVec 8) (a : Nat → BitVec 64) (k : Nat) (x : BitVec 64) (h : k < 16) : (pc c a).setIfInBounds (16 + k) (.int .u64 (n64 x)) = pc c (upd a k x) := by
 refine uD (gB c a) (gB _ _) (bK _ _) (bK _ _) (by omega) (by simp [eF, upd]) fun j hj hne => ?_
 unfold eF upd
 split
 ·rfl
 ·rw [if_neg (by omega)]
theorem GN (c : Nat → BitVec 8) (a : Nat → BitVec 64) (k : Nat) (x : BitVec 8) (h : k < 16) : (ec c a).setIfInBounds (k * 2) (.int .u8 (n8 x)) = ec (upd c k x) a := by
 refine uD (kM c a) (kM _ _) (cV _ _) (cV _ _) (by omega) (by simp [kN, upd]) fun j hj hne => ?_
 unfold kN upd
 split
 ·rw [if_neg (by omega)]
 ·rfl
theorem AC (c : Nat → BitVec 8) (a : Nat → BitVec 64) (k : Nat) (x : BitVec 64) (h : k < 16) : (ec c a).setIfInBounds (k * 2 + 1) (.int .u64 (n64 x)) = ec c (upd a k x) := by
 refine uD (kM c a) (kM _ _) (cV _ _) (cV _ _) (by omega) ?_ fun j hj hne => ?_
 ·unfold kN upd
  rw [if_neg (by omega), if_pos (by omega)]
 ·unfold kN upd
  split
  ·rfl
  ·rw [if_neg (by omega)]
theorem JX {c c' : Nat → BitVec 8} {a a' : Nat → BitVec 64} (h : ∀ j, j < 16 → c j = c' j ∧ a j = a' j) : pc c a = pc c' a' := by
 apply Array.ext_getElem?
 intro j
 by_cases hj : j < 32
 ·rw [gB _ _ _ hj, gB _ _ _ hj]; unfold eF
  split
  ·rw [(h j (by omega)).1]
  ·rw [(h (j - 16) (by omega)).2]
 ·simp [pc, hj]
theorem GO {c c' : Nat → BitVec 8} {a a' : Nat → BitVec 64} (h : ∀ j, j < 16 → c j = c' j ∧ a j = a' j) : ec c a = ec c' a' := by
 apply Array.ext_getElem?
 intro j
 by_cases hj : j < 32
 ·rw [kM _ _ _ hj, kM _ _ _ hj]; unfold kN
  split
  ·rw [(h (j / 2) (by omega)).1]
  ·rw [(h (j / 2) (by omega)).2]
 ·simp [ec, hj]
theorem gA {P : Program} (w : World) (ty : TypeId) (g off : Nat) (cs : Array Value) (d : TypeDesc) (hc : ∀ j v, cs[j]? = some v → w.cell? ⟨g, off + j, none⟩ = some v)
  (hu : P.underlying ty = some d) (hd : (match d with | .struct _ | .array _ _ => true | _ => false) = true) (hi : (P.info? ty).map (·.size) = some cs.size) :
  (loadVar ty ⟨g, off, none⟩).run P w = .ok (.agg cs) w := by
 have hl : (loadCells ⟨g, off, none⟩ cs.toList.length).run P w = .ok cs.toList.toArray w :=
  run_loadCells_list (P := P) w ⟨g, off, none⟩ cs.toList (fun j v hv => by
   have hadd : (⟨g, off, none⟩ : Addr).add j = ⟨g, off + j, none⟩ := by unfold Addr.add; split <;> simp_all
   rw [hadd]; exact hc j v (by simpa using hv))
 cases hq : P.info? ty with
 | none => simp [hq] at hi
 | some i =>
  have hs : i.size = cs.size := by simpa [hq] using hi
  have hagg : (isAgg ty).run P w = .ok true w := by
   unfold isAgg
   rw [Sem.run_bind, run_underlying hu w]
   cases d <;> simp_all
  simp only [Array.length_toList, Array.toArray_toList] at hl
  simp [loadVar, Sem.run_bind, hagg, sizeOf, typeInfo, hq, hs, hl]
theorem aY {P : Program} {ops : Array Oper} {rest : List Oper} {o : Oper} {a : Act} {w : World} {Q : Exit → Act → World → Prop} (hgd : o.guard = none) (ty : TypeId) (x : Operand) (ho : o.op = .load ty x)
  (g off : Nat) (hx : a.eval x = .pointer (some ⟨g, off, none⟩)) (cs : Array Value) (d : TypeDesc) (hc : ∀ j v, cs[j]? = some v → w.cell? ⟨g, off + j, none⟩ = some v)
  (hu : P.underlying ty = some d) (hd : (match d with | .struct _ | .array _ _ => true | _ => false) = true) (hi : (P.info? ty).map (·.size) = some cs.size)
  (h : wpList P ops Q rest (a.put o.dst (.agg cs)) w) : wpList P ops Q (o :: rest) a w :=
 wpList_plain hgd fun _ hK => by
  unfold Oper.wp execOp
  simp only [ho, hx, Instr.loadAt, Instr.sureAddr, Sem.run_bind, Sem.run_pure, Result.andThen_ok, gA w ty g off cs d hc hu hd hi]
  exact hK _ _ h
theorem aA {P : Program} {ops : Array Oper} {rest : List Oper} {o : Oper} {a : Act} {w : World} {Q : Exit → Act → World → Prop} (hgd : o.guard = none) (t : TypeId) (x y : Operand) (ho : o.op = .store t x y) (hd : o.dst = none)
  (g : Nat) (c c' : Array Value) (hx : a.eval x = .pointer (some ⟨g, 0, none⟩)) (hy : a.eval y = .agg c') (hg : w.heap[g]? = some (.cells c t (0, 0))) (hi : (P.info? t).map (·.size) = some c'.size) (hs : c.size = c'.size) (h1 : c'.all (·.oneCell') = true)
  (h : wpList P ops Q rest a (w.setRow g c')) : wpList P ops Q (o :: rest) a w :=
 wpList_plain hgd fun _ hK => by
  unfold Oper.wp execOp
  simp only [ho, hx, hy, Instr.storeAt, Instr.sureAddr, Sem.run_bind, Sem.run_pure, Result.andThen_ok, run_storeVar_row w g t t c c' hg hi hs h1]
  simpa [Oper.upon, Act.put, hd] using hK _ _ h
theorem JN (x : BitVec 8) : (n8 x == 0) = decide (x = 0#8) := by
 by_cases h : x = 0#8
 ·subst h; rfl
 ·have : ¬ n8 x = 0 := fun e => h (qL.1 (e.trans rfl))
  simp [h, this]
theorem JY (x : BitVec 8) (h : x &&& 1#8 = 0#8) : pcl x = x &&& ~~~2#8 &&& 159#8 := by
 unfold pcl; rw [if_pos h, BitVec.and_assoc]; rfl
theorem QJ (x : BitVec 8) (h : ¬ x &&& 1#8 = 0#8) : pcl x = x &&& 159#8 := by
 unfold pcl; rw [if_neg h]
theorem oF (x : BitVec 8) (w : World) : Calls prog 57 #[.int .u8 (n8 x)] w fun e w' => e = .returned (.int .u8 (n8 (pcl x))) ∧ w' = w := by
 have b1 : bits .and .u8 (n8 x) 1 = n8 (x &&& 1#8) := nO x 1#8
 by_cases h : x &&& 1#8 = 0#8
 ·have b2 : bits .andNot .u8 (n8 x) 2 = n8 (x &&& ~~~2#8) := DF x 2#8
  have b3 : bits .and .u8 (n8 (x &&& ~~~2#8)) 159 = n8 (x &&& ~~~2#8 &&& 159#8) := nO _ 159#8
  have e0 : (n8 (x &&& 1#8) == 0) = true := by rw [h]; rfl
  rw [JY x h]
  generalize x &&& ~~~2#8 = y at b2 b3 ⊢
  generalize x &&& 1#8 = z at b1 e0
  clear h
  go_enter func57, ntmps57
  go_wp2
  go_ret
  exact ⟨rfl, rfl⟩
 ·have b3 : bits .and .u8 (n8 x) 159 = n8 (x &&& 159#8) := nO _ 159#8
  have e0 : (n8 (x &&& 1#8) == 0) = false := by rw [JN]; simpa using h
  rw [QJ x h]
  generalize x &&& 1#8 = z at b1 e0
  clear h
  go_enter func57, ntmps57
  go_wp2
  go_ret
  exact ⟨rfl, rfl⟩
theorem CU (i : Int) (w : World) : Calls prog 215 #[.int .i64 i] w fun e w' => e = .returned (.bool (decide (0 ≤ i ∧ i < 16))) ∧ w' = w := by
 by_cases h0 : 0 ≤ i
 ·by_cases h1 : i < 16
  ·go_enter func215, ntmps215
   go_wp2
   go_ret
   exact ⟨by simp_all, rfl⟩
  ·go_enter func215, ntmps215
   go_wp2
   go_ret
   exact ⟨by simp_all, rfl⟩
 ·have h1 : i < 16 := by omega
  go_enter func215, ntmps215
  go_wp2
  go_ret
  exact ⟨by simp_all, rfl⟩
theorem sI (w : World) : Calls prog 173 #[.int .i64 0] w fun e w' => e = .returned (.tuple #[.int .i64 0, .bool true]) ∧ w' = w := by
 go_enter func173, ntmps173
 go_wp2
 go_ret2
 exact ⟨rfl, rfl⟩
theorem sJ (w : World) : Calls prog 173 #[.int .i64 2] w fun e w' => e = .returned (.tuple #[.int .i64 8, .bool true]) ∧ w' = w := by
 go_enter func173, ntmps173
 go_wp2
 go_ret2
 exact ⟨rfl, rfl⟩
theorem sK (i : Int) (h0 : ¬ i = 0) (h2 : ¬ i = 2) (w : World) : Calls prog 173 #[.int .i64 i] w fun e w' => e = .returned (.tuple #[.int .i64 0, .bool false]) ∧ w' = w := by
 go_enter func173, ntmps173
 go_wp2
 go_ret2
 exact ⟨rfl, rfl⟩
def lk (x : BitVec 8) : Bool := decide (¬ x &&& 128#8 = 0#8)
def kd (x : BitVec 8) : BitVec 8 := x >>> 3 &&& 3#8
def rts (x : BitVec 8) : BitVec 8 := x &&& 7#8
theorem sG (x : BitVec 8) (y : Value) (w : World) : Calls prog 216 #[.agg #[.int .u8 (n8 x), y]] w fun e w' => e = .returned (.bool (lk x)) ∧ Below w.heap.size w w' := by
 have b1 : bits .and .u8 (n8 x) 128 = n8 (x &&& 128#8) := nO x 128#8
 have b2 : (n8 (x &&& 128#8) != 0) = lk x := by unfold bne; rw [JN]; unfold lk; simp
 generalize x &&& 128#8 = z at b1 b2
 generalize lk x = q at b2 ⊢
 go_enter func216, ntmps216
 go_wp2
 go_ret
 exact ⟨by simp_all, (ZqD _ _).alloc (ZqE _) _⟩
theorem AD (x : BitVec 8) (y : Value) (w : World) : Calls prog 217 #[.agg #[.int .u8 (n8 x), y]] w fun e w' => e = .returned (.int .u8 (n8 (kd x))) ∧ Below w.heap.size w w' := by
 have b0 : n8 x / 8 = n8 (x >>> 3) := YW x 3
 have b1 : bits .and .u8 (n8 (x >>> 3)) 3 = n8 (kd x) := nO (x >>> 3) 3#8
 generalize kd x = z at b1 ⊢
 generalize x >>> 3 = z' at b0 b1
 go_enter func217, ntmps217
 go_wp2
 go_ret
 exact ⟨by simp_all, (ZqD _ _).alloc (ZqE _) _⟩
theorem CP (x : BitVec 8) (y : Value) (w : World) : Calls prog 230 #[.agg #[.int .u8 (n8 x), y]] w fun e w' => e = .returned (.int .i64 (n8 (rts x))) ∧ Below w.heap.size w w' := by
 have b1 : bits .and .u8 (n8 x) 7 = n8 (rts x) := nO x 7#8
 have b2 : wrap64 (n8 (rts x)) = n8 (rts x) := by have := TU (rts x); have := TT (rts x); unfold wrap64; omega
 generalize rts x = z at b1 b2 ⊢
 go_enter func230, ntmps230
 go_wp2
 go_ret
 exact ⟨by simp_all, (ZqD _ _).alloc (ZqE _) _⟩
theorem vR (i : Int) (w : World) : Calls prog 227 #[.int .i64 i] w fun e w' => e = .returned (.bool (decide (1 ≤ i ∧ i ≤ 8))) ∧ w' = w := by
 by_cases h0 : 1 ≤ i
 ·by_cases h1 : i ≤ 8
  ·go_enter func227, ntmps227
   go_wp2
   go_ret
   exact ⟨by simp_all, rfl⟩
  ·go_enter func227, ntmps227
   go_wp2
   go_ret
   exact ⟨by simp_all, rfl⟩
 ·have h1 : i ≤ 8 := by omega
  go_enter func227, ntmps227
  go_wp2
  go_ret
  exact ⟨by simp_all, rfl⟩
theorem qA (i : Int) (w : World) : Calls prog 228 #[.int .i64 i] w fun e w' => e = .returned (.bool (decide (1 ≤ i ∧ i ≤ 7))) ∧ w' = w := by
 by_cases h0 : 1 ≤ i
 ·by_cases h1 : i ≤ 7
  ·go_enter func228, ntmps228
   go_wp2
   go_ret
   exact ⟨by simp_all, rfl⟩
  ·go_enter func228, ntmps228
   go_wp2
   go_ret
   exact ⟨by simp_all, rfl⟩
 ·have h1 : i ≤ 7 := by omega
  go_enter func228, ntmps228
  go_wp2
  go_ret
  exact ⟨by simp_all, rfl⟩
theorem vQ (i : Int) (w : World) : Calls prog 226 #[.int .i64 i] w fun e w' => e = .returned (.bool (decide (i = 0 ∨ i = 3))) ∧ w' = w := by
 by_cases h0 : i = 0
 ·subst h0
  go_enter func226, ntmps226
  go_wp2
  go_ret
  exact ⟨rfl, rfl⟩
 ·by_cases h1 : i = 3
  ·subst h1
   go_enter func226, ntmps226
   go_wp2
   go_ret
   exact ⟨rfl, rfl⟩
  ·go_enter func226, ntmps226
   go_wp2
   go_ret
   exact ⟨by simp_all, rfl⟩
def Row (w : World) (g : Nat) (cs : Array Value) (t : TypeId) : Prop := w.heap[g]? = some (.cells cs t (0, 0))
theorem OQ : #[Value.int .u8 0, .int .u64 0, .int .u8 0, .int .u64 0, .int .u8 0, .int .u64 0, .int .u8 0, .int .u64 0, .int .u8 0, .int .u64 0, .int .u8 0, .int .u64 0, .int .u8 0, .int .u64 0, .int .u8 0, .int .u64 0,
  .int .u8 0, .int .u64 0, .int .u8 0, .int .u64 0, .int .u8 0, .int .u64 0, .int .u8 0, .int .u64 0, .int .u8 0, .int .u64 0, .int .u8 0, .int .u64 0, .int .u8 0, .int .u64 0, .int .u8 0, .int .u64 0] = ec (fun _ => 0#8) (fun _ => 0#64) := by kernel_rfl
theorem nA : #[Value.int .u8 0, .int .u8 0, .int .u8 0, .int .u8 0, .int .u8 0, .int .u8 0, .int .u8 0, .int .u8 0, .int .u8 0, .int .u8 0, .int .u8 0, .int .u8 0, .int .u8 0, .int .u8 0, .int .u8 0, .int .u8 0,
  .int .u64 0, .int .u64 0, .int .u64 0, .int .u64 0, .int .u64 0, .int .u64 0, .int .u64 0, .int .u64 0, .int .u64 0, .int .u64 0, .int .u64 0, .int .u64 0, .int .u64 0, .int .u64 0, .int .u64 0, .int .u64 0] = pc (fun _ => 0#8) (fun _ => 0#64) := by kernel_rfl
theorem Row.new (w : World) (cs : Array Value) (t : TypeId) : Row (w.alloc (.cells cs t)) w.heap.size cs t := heap_alloc_new w _
theorem Row.old {w : World} {g : Nat} {cs : Array Value} {t : TypeId} (h : Row w g cs t) (hg : g < w.heap.size) (o : Obj) : Row (w.alloc o) g cs t := (Below.heap_alloc w o g hg).trans h
theorem Row.lt {w : World} {g : Nat} {cs : Array Value} {t : TypeId} (h : Row w g cs t) : g < w.heap.size := by
 by_cases hg : g < w.heap.size
 ·exact hg
 ·have : w.heap[g]? = none := Array.getElem?_eq_none (by omega)
  rw [Row, this] at h; cases h
theorem Row.cell {w : World} {g : Nat} {cs : Array Value} {t : TypeId} (h : Row w g cs t) (j : Nat) : w.cell? ⟨g, j, none⟩ = cs[j]? := ZqP w g j cs t _ h
theorem Row.froz {w : World} {g : Nat} {cs : Array Value} {t : TypeId} (h : Row w g cs t) (j : Nat) : w.frozen? ⟨g, j, none⟩ = false := frozen_of_row w g j cs t h
theorem Row.later {w w' : World} {B g : Nat} {cs : Array Value} {t : TypeId} (h : Row w g cs t) (b : Below B w w') (hg : g < B) : Row w' g cs t := (b.block g hg).trans h
theorem Row.put {w : World} {g i : Nat} {cs : Array Value} {t : TypeId} (h : Row w g cs t) (v : Value) : Row (w.setCell ⟨g, i, none⟩ v) g (cs.setIfInBounds i v) t := ZqQ w g i cs t v h
theorem Row.other {w : World} {g g' i : Nat} {cs : Array Value} {t : TypeId} (h : Row w g cs t) (hne : g ≠ g') (v : Value) : Row (w.setCell ⟨g', i, none⟩ v) g cs t := (heap_setCell_other w _ g v hne).trans h
theorem aM {B g i : Nat} {a w : World} (h : Below B a w) (hg : B ≤ g) (v : Value) : Below B a (w.setCell ⟨g, i, none⟩ v) := Below.setCell h hg v
theorem aW {B g : Nat} {a w : World} (h : Below B a w) (hg : B ≤ g) (cs : Array Value) : Below B a (w.setRow g cs) := h.trans ⟨rfl, rfl, rfl, by simp, fun j hj => setRow_other _ _ _ _ (by omega)⟩
def eW {α : Type} (k : Nat) (f g : Nat → α) : Nat → α := fun j => if j < k then f j else g j
theorem jQ {α : Type} (k : Nat) (f g : Nat → α) : upd (eW k f g) k (f k) = eW (k + 1) f g := by
 funext j; unfold upd eW
 by_cases h : j = k
 ·subst h; rw [if_pos rfl, if_pos (by omega)]
 ·rw [if_neg h]
  by_cases h2 : j < k
  ·rw [if_pos h2, if_pos (by omega)]
  ·rw [if_neg h2, if_neg (by omega)]
theorem lS {α : Type} (f g : Nat → α) : eW 0 f g = g := by funext j; simp [eW]
theorem AO (x : BitVec 64) : bits .and .u64 (n64 x) 18014398509481983 = n64 (pad x) := cQ x 18014398509481983#64
theorem of_c (c : Nat → BitVec 8) (a : Nat → BitVec 64) (w : World) :
  Calls prog 41 #[.agg (pc c a)] w fun e w' => e = .returned (.agg (ec (fun j => pcl (c j)) (fun j => pad (a j)))) ∧ Below w.heap.size w w' := by
 go_enter func41, ntmps41
 go_wp2
 rw [OQ]
 go_loopw [5] (fun i wr => ∃ k : Nat, k ≤ 16 ∧ i = .int .i64 k ∧ Hid (Row wr w.heap.size (pc c a) 27) ∧ Hid (Row wr (w.heap.size + 1) (ec (fun _ => 0#8) (fun _ => 0#64)) 118) ∧ Hid (Row wr (w.heap.size + 1 + 1) (ec (eW k (fun j => pcl (c j)) (fun _ => 0#8)) (eW k (fun j => pad (a j)) (fun _ => 0#64))) 118) ∧ Hid (Below w.heap.size w wr)) (fun i _ => 16 - (intOf i).toNat)
 case atStart =>
  refine ⟨0, by omega, rfl, ?_, ?_, ?_, ?_⟩
  ·exact ((Row.new w _ _).old (by simp) _).old (by simp; omega) _
  ·have := (Row.new (w.alloc (.cells (pc c a) 27)) (ec (fun _ => 0#8) (fun _ => 0#64)) 118).old (by simp) (.cells (ec (fun _ => 0#8) (fun _ => 0#64)) 118)
   simpa [Hid] using this
  ·have := Row.new ((w.alloc (.cells (pc c a) 27)).alloc (.cells (ec (fun _ => 0#8) (fun _ => 0#64)) 118)) (ec (fun _ => 0#8) (fun _ => 0#64)) 118
   rw [lS, lS]
   simpa [Hid] using this
  ·exact (((ZqD _ _).alloc (ZqE _) _).alloc (by simp) _).alloc (by simp; omega) _
 case round =>
  obtain ⟨k, hk, rfl, h0, h1, h2, hb⟩ := hrel
  by_cases hlt : k < 16
  ·have hlt2 : (k : Int) < 16 := by omega
   have c0 : wr.cell? ⟨w.heap.size, k, none⟩ = some (.int .u8 (n8 (c k))) := by rw [h0.out.cell, gB _ _ _ (by omega), eF, if_pos hlt]
   have c1 : wr.cell? ⟨w.heap.size, 16 + k, none⟩ = some (.int .u64 (n64 (a k))) := by rw [h0.out.cell, gB _ _ _ (by omega), eF, if_neg (by omega), Nat.add_sub_cancel_left]
   have hp := AO (a k)
   go_upto_region 5 with fail
   refine wp_region_still_tail 13 (by kernel_rfl) (by kernel_rfl) ?_
   change wpStill _ _ wr.drew (fun a' => wpList _ _ _ _ a' wr.drew) _ _
   simp only [List.take_succ_cons, List.take_zero, List.drop_succ_cons, List.drop_zero]
   still_step
   still_step
   still_step
   still_step
   still_step
   still_call (oF (c k) _)
   still_step
   still_step
   still_step
   still_step
   still_step
   still_step
   still_step
   refine wpStill_nil ?_
   have d0 : ∃ v, wr.cell? ⟨w.heap.size + 1 + 1, k * 2, none⟩ = some v := ⟨_, by rw [h2.out.cell, kM _ _ _ (by omega)]⟩
   have d1 : ∃ v, wr.cell? ⟨w.heap.size + 1 + 1, k * 2 + 1, none⟩ = some v := ⟨_, by rw [h2.out.cell, kM _ _ _ (by omega)]⟩
   obtain ⟨v0, d0⟩ := d0
   obtain ⟨v1, d1⟩ := d1
   have f0 := h2.out.froz (k * 2)
   have f1 := h2.out.froz (k * 2 + 1)
   go_wp2
   go_roundw
   case rel =>
    refine ⟨k + 1, by omega, by go_num, ?_, ?_, ?_, ?_⟩
    ·exact Row.other (Row.other h0.out (by omega) _) (by omega) _
    ·exact Row.other (Row.other h1.out (by omega) _) (by omega) _
    ·have h := Row.put (i := k * 2 + 1) (Row.put (i := k * 2) h2.out (.int .u8 (n8 (pcl (c k))))) (.int .u64 (n64 (pad (a k))))
     rw [GN _ _ _ _ hlt, AC _ _ _ _ hlt, jQ k (fun j => pcl (c j)), jQ k (fun j => pad (a j))] at h
     exact h
    ·exact (aM (aM hb.out (by omega) _) (by omega) _).drew
   case measure => simp [intOf]; omega
  ·obtain rfl : k = 16 := by omega
   have e16 : ((16 : Nat) : Int) = 16 := rfl
   rw [e16]
   clear hk hlt
   have he : ec (eW 16 (fun j => pcl (c j)) fun _ => 0#8) (eW 16 (fun j => pad (a j)) fun _ => 0#64) = ec (fun j => pcl (c j)) (fun j => pad (a j)) :=
    GO fun j hj => by simp [eW, hj]
   rw [he] at h2
   clear he
   go_wp2_with (first | (refine wpList_load_row (by rfl) _ _ (by rfl) _ (by rfl) 118 _ (0, 0) _ h2.out underlying118 (by rfl) (by rw [cV]; kernel_rfl) ?_) | (refine aA (by rfl) _ _ _ (by rfl) (by rfl) _ _ _ (by rfl) (by rfl) h1.out (by rw [cV]; kernel_rfl) (by rw [cV, cV]) (jW _ _) ?_))
   refine ZqH (v := .agg (ec (fun j => pcl (c j)) (fun j => pad (a j)))) ?_ rfl ⟨rfl, ?_⟩
   ·exact ZqM results41 _ _ (w.heap.size + 1) 118 _ (0, 0) _ (by rfl) (ZqW _ _ _ _ _ _ h1.out) underlying118 (by rfl) (by rw [cV]; kernel_rfl)
   ·exact aW hb.out (by omega) _
theorem qZ (c : Nat → BitVec 8) (a : Nat → BitVec 64) (g : Nat) (w : World) (hg : Row w g (ec c a) 118) :
  Calls prog 42 #[.pointer (some ⟨g, 0, none⟩)] w fun e w' => e = .returned (.agg (pc c a)) ∧ Below w.heap.size w w' := by
 have hlg := hg.lt
 have HG := hid hg
 clear hg
 go_enter func42, ntmps42
 go_wp2
 rw [nA]
 go_loopw [5] (fun i wr => ∃ k : Nat, k ≤ 16 ∧ i = .int .i64 k ∧ Hid (Row wr g (ec c a) 118) ∧ Hid (Row wr w.heap.size (pc (fun _ => 0#8) (fun _ => 0#64)) 27) ∧ Hid (Row wr (w.heap.size + 1) (pc (eW k c (fun _ => 0#8)) (eW k a (fun _ => 0#64))) 27) ∧ Hid (Below w.heap.size w wr)) (fun i _ => 16 - (intOf i).toNat)
 case atStart =>
  refine ⟨0, by omega, rfl, ?_, ?_, ?_, ?_⟩
  ·exact (HG.out.old hlg _).old (by simp; omega) _
  ·exact (Row.new w _ _).old (by simp) _
  ·have := Row.new (w.alloc (.cells (pc (fun _ => 0#8) (fun _ => 0#64)) 27)) (pc (fun _ => 0#8) (fun _ => 0#64)) 27
   rw [lS, lS]
   simpa [Hid] using this
  ·exact (((ZqD _ _).alloc (ZqE _) _).alloc (by simp) _)
 case round =>
  obtain ⟨k, hk, rfl, h0, h1, h2, hb⟩ := hrel
  by_cases hlt : k < 16
  ·have hlt2 : (k : Int) < 16 := by omega
   have c0 : wr.cell? ⟨g, k * 2, none⟩ = some (.int .u8 (n8 (c k))) := by rw [h0.out.cell, kM _ _ _ (by omega), kN, if_pos (by omega), Nat.mul_div_cancel _ (by omega)]
   have c1 : wr.cell? ⟨g, k * 2 + 1, none⟩ = some (.int .u64 (n64 (a k))) := by rw [h0.out.cell, kM _ _ _ (by omega), kN, if_neg (by omega), show (k * 2 + 1) / 2 = k by omega]
   have d0 : ∃ v, wr.cell? ⟨w.heap.size + 1, k, none⟩ = some v := ⟨_, by rw [h2.out.cell, gB _ _ _ (by omega)]⟩
   have d1 : ∃ v, wr.cell? ⟨w.heap.size + 1, 16 + k, none⟩ = some v := ⟨_, by rw [h2.out.cell, gB _ _ _ (by omega)]⟩
   obtain ⟨v0, d0⟩ := d0
   obtain ⟨v1, d1⟩ := d1
   have f0 := h2.out.froz k
   have f1 := h2.out.froz (16 + k)
   have ne1 : ¬ 16 + k = k := by omega
   have ne2 : ¬ k = 16 + k := by omega
   go_upto_region 5 with fail
   go_region
   go_wp2
   go_roundw
   case rel =>
    refine ⟨k + 1, by omega, by go_num, ?_, ?_, ?_, ?_⟩
    ·exact Row.other (Row.other h0.out (by omega) _) (by omega) _
    ·exact Row.other (Row.other h1.out (by omega) _) (by omega) _
    ·have h := Row.put (i := 16 + k) (Row.put (i := k) h2.out (.int .u8 (n8 (c k)))) (.int .u64 (n64 (a k)))
     rw [ZC _ _ _ _ hlt, QI _ _ _ _ hlt, jQ k c, jQ k a] at h
     exact h
    ·exact (aM (aM hb.out (by omega) _) (by omega) _).drew
   case measure => simp [intOf]; omega
  ·obtain rfl : k = 16 := by omega
   have e16 : ((16 : Nat) : Int) = 16 := rfl
   rw [e16]
   clear hk hlt
   have he : pc (eW 16 c fun _ => 0#8) (eW 16 a fun _ => 0#64) = pc c a :=
    JX fun j hj => by simp [eW, hj]
   rw [he] at h2
   clear he
   go_wp2_with (first | (refine wpList_load_row (by rfl) _ _ (by rfl) _ (by rfl) 27 _ (0, 0) _ h2.out underlying27 (by rfl) (by rw [bK]; kernel_rfl) ?_) | (refine aA (by rfl) _ _ _ (by rfl) (by rfl) _ _ _ (by rfl) (by rfl) h1.out (by rw [bK]; kernel_rfl) (by rw [bK, bK]) (gN _ _) ?_))
   refine ZqH (v := .agg (pc c a)) ?_ rfl ⟨rfl, ?_⟩
   ·exact ZqM results42 _ _ w.heap.size 27 _ (0, 0) _ (by rfl) (ZqW _ _ _ _ _ _ h1.out) underlying27 (by rfl) (by rw [bK]; kernel_rfl)
   ·exact aW hb.out (by omega) _
theorem cT (w : World) (cs : Array Value) (t : TypeId) : ∃ W, w.alloc (.cells cs t) = W ∧ Hid (Row W w.heap.size cs t) ∧ Hid (Below w.heap.size w W) ∧ W.heap.size = w.heap.size + 1 :=
 ⟨_, rfl, Row.new _ _ _, (ZqD _ _).alloc (ZqE _) _, by simp⟩
theorem cN (w : World) (cs cs' : Array Value) (t t' : TypeId) : ∃ W, (w.alloc (.cells cs t)).alloc (.cells cs' t') = W ∧ Hid (Row W w.heap.size cs t) ∧ Hid (Row W (w.heap.size + 1) cs' t') ∧ Hid (Below w.heap.size w W) ∧ W.heap.size = w.heap.size + 2 :=
 ⟨_, rfl, (Row.new _ _ _).old (by simp) _, by have := Row.new (w.alloc (.cells cs t)) cs' t'; simpa [Hid] using this, ((ZqD _ _).alloc (ZqE _) _).alloc (by simp) _, by simp⟩
def pz : Array Value := pc (fun _ => 0#8) (fun _ => 0#64)
theorem nB : pz.size = 32 := bK _ _
def PC (c : Nat → BitVec 8) : Nat → BitVec 8 := fun j => pcl (c j)
def PA (a : Nat → BitVec 64) : Nat → BitVec 64 := fun j => pad (a j)
theorem DH (c : Nat → BitVec 8) (a : Nat → BitVec 64) (w : World) :
  Calls prog 41 #[.agg (pc c a)] w fun e w' => e = .returned (.agg (ec (PC c) (PA a))) ∧ Below w.heap.size w w' := of_c c a w
theorem EQ (c : Nat → BitVec 8) (a : Nat → BitVec 64) (w : World) :
  Calls prog 26 #[.agg (pc c a)] w fun e w' => e = .returned (.agg (pc (PC c) (PA a))) ∧ Below w.heap.size w w' := by
 obtain ⟨W0, hW0, r0, r1, b0, s0⟩ := cN w (pc c a) pz 27 27
 have HS := hid s0
 clear s0
 go_enter func26, ntmps26
 go_upto_region 1 with fail
 rw [nA, ← pz, hW0]
 clear hW0
 go_wp2_with (first | (refine wpList_load_row (by rfl) _ _ (by rfl) _ (by rfl) 27 _ (0, 0) _ r0.out underlying27 (by rfl) (by rw [bK]; kernel_rfl) ?_) | (go_at_call 41; refine (DH c a _).mono ?_; rintro e w1 ⟨rfl, hb1⟩; have HB1 := hid hb1; clear hb1) | (go_at_call 42; refine (qZ (PC c) (PA a) _ _ (Row.new _ _ _)).mono ?_; rintro e w2 ⟨rfl, hb2⟩; have HB2 : Hid (Below w1.heap.size w1 w2) := (Below.alloc (ZqD _ _) (ZqE _) _).trans (hb2.mono (by simp)); clear hb2) | (refine aA (by rfl) _ _ _ (by rfl) (by rfl) _ _ _ (by rfl) (by rfl) ((r1.out.later HB1.out (by rw [HS.out]; omega)).later HB2.out (ZqS (by rw [HS.out]; omega) HB1.out.size)) (by rw [bK]; kernel_rfl) (by rw [bK, nB]) (gN _ _) ?_) | (refine aK (by rfl) _ _ _ (by rfl) (by rfl) _ _ (by rfl) (by rfl) (by rw [cV]; kernel_rfl) (by rw [cV]; rfl) (jW _ _) ?_))
 have h9 : Row w2 (w.heap.size + 1) pz 27 := (r1.out.later HB1.out (by rw [HS.out]; omega)).later HB2.out (ZqS (by rw [HS.out]; omega) HB1.out.size)
 refine ZqH (v := .agg (pc (PC c) (PA a))) ?_ rfl ⟨rfl, ?_⟩
 ·exact ZqM results26 _ _ (w.heap.size + 1) 27 _ (0, 0) _ (by rfl) (ZqW _ _ _ _ _ _ h9) underlying27 (by rfl) (by rw [bK]; kernel_rfl)
 ·exact aW ((b0.out.trans (HB1.out.mono (by rw [HS.out]; omega))).trans (HB2.out.mono (ZqO (by rw [HS.out]; omega) HB1.out.size))) (by omega) _
theorem oD (xs : Array Value) (w : World) : (part 24 xs 0).run prog w = .ok (.agg (xs.extract 0 16)) w := by
 simp [part]
theorem mZ (xs : Array Value) (w : World) : (part 25 xs 16).run prog w = .ok (.agg (xs.extract 16 32)) w := by
 simp [part]
theorem qP (c : Nat → BitVec 8) (a : Nat → BitVec 64) (i : Nat) (h : i < 16) : ((pc c a).extract 0 16)[i]? = some (.int .u8 (n8 (c i))) := by
 rw [Array.getElem?_extract, if_pos (by rw [bK]; omega), ZqU, gB _ _ _ (by omega), eF, if_pos h]
theorem oE (c : Nat → BitVec 8) (a : Nat → BitVec 64) (i : Nat) (h : i < 16) : ((pc c a).extract 16 32)[i]? = some (.int .u64 (n64 (a i))) := by
 rw [Array.getElem?_extract, if_pos (by rw [bK]; omega), gB _ _ _ (by omega), eF, if_neg (by omega), Nat.add_sub_cancel_left]
theorem bD {P : Program} {W : World} {o : Oper} {a : Act} {K : Act → Prop} (ty : TypeId) (x : Operand) (ho : o.op = .load ty x) (g off : Nat) (hx : a.eval x = .pointer (some ⟨g, off, none⟩)) (cs : Array Value) (d : TypeDesc)
  (hg : g < W.heap.size) (hc : ∀ j v, cs[j]? = some v → W.cell? ⟨g, off + j, none⟩ = some v) (hu : P.underlying ty = some d) (hd : (match d with | .struct _ | .array _ _ => true | _ => false) = true) (hi : (P.info? ty).map (·.size) = some cs.size)
  (hk : K (a.put o.dst (.agg cs))) : o.quiet P a (fun w' => ∃ x : bB W, w' = x.1) K := by
 refine ⟨_, fun w hw => ?_, hk⟩
 obtain ⟨y, rfl⟩ := hw
 have hl := gA (P := P) y.1 ty g off cs d (fun j v hv => (qB y (by exact hg)).trans (hc j v hv)) hu hd hi
 unfold Oper.quietAt execOp
 simp only [ho, hx, Instr.loadAt, Instr.sureAddr, Sem.run_bind, Sem.run_pure, Result.andThen_ok, hl]
 exact ⟨rfl, rfl⟩
section
variable {H : Type} {enc : TypeId × Value → H} {w : World} {base : Nat} {held : Bool}
theorem oC {k : IntKind} {t e : TypeId} {fuel : Nat} {cs : List Value} {y : DataW H × List MemPlace} (ht : prog.underlying t = some (.array 16 e)) (he : prog.underlying e = some (.int k)) (hce : prog.cellsOf e = 1)
  (h : DataW.trod enc prog w base (fun _ => true) held fuel t cs = some y) (hl : cs.length = 16) : ∀ j, j < 16 → ∃ n, cs[j]? = some (.int k n) ∧ (Lit.int k n).wf = true := by
 obtain ⟨xs, m, _, _, _, hxl, hx⟩ := DataW.trod_array ht h
 intro j hj
 have h1 := hx j hj
 obtain ⟨q, hq⟩ : ∃ q, xs[j]? = some q := ⟨_, List.getElem?_eq_getElem (by omega)⟩
 rw [hq, hce, Nat.mul_one] at h1
 obtain ⟨n, e0, _, hw⟩ := ZqI he h1
 refine ⟨n, ?_, hw⟩
 have h2 : ((cs.drop j).take 1)[0]? = some (.int k n) := by rw [e0]; rfl
 simpa using h2
theorem CK : prog.cellsOf 27 = 32 := by kernel_rfl
theorem CI : prog.cellsOf 24 = 16 := by kernel_rfl
theorem CH : prog.cellsOf 25 = 16 := by kernel_rfl
theorem JU {fuel : Nat} {cs : List Value} {y : DataW H × List MemPlace} (h : DataW.trod enc prog w base (fun _ => true) held fuel 27 cs = some y) : ∃ (c : Nat → BitVec 8) (a : Nat → BitVec 64), cs = (pc c a).toList := by
 obtain ⟨xs, n, _, rfl, hl, hlen, hf⟩ := DataW.trod_struct underlying27 h
 rw [CK] at hl
 match xs, (show xs.length = 2 from hlen), hf with
 | [y0, y1], _, hf =>
  have g0 : DataW.trod enc prog w base (fun _ => true) held n 24 (cs.take 16) = some y0 := by
   have := hf 0 _ rfl
   simpa [CI] using this
  have g1 : DataW.trod enc prog w base (fun _ => true) held n 25 ((cs.drop 16).take 16) = some y1 := by
   have := hf 1 _ rfl
   simpa [CH] using this
  have o0 := oC underlying24 underlying5 (by kernel_rfl) g0 (by simp; omega)
  have o1 := oC underlying25 underlying22 (by kernel_rfl) g1 (by simp; omega)
  have p0 : ∀ j, ∃ x : BitVec 8, j < 16 → cs[j]? = some (.int .u8 (n8 x)) := fun j => by
   by_cases hj : j < 16
   ·obtain ⟨z, hz, hw⟩ := o0 j hj
    obtain ⟨x, rfl⟩ := n8_of hw
    exact ⟨x, fun _ => by rw [List.getElem?_take_of_lt hj] at hz; exact hz⟩
   ·exact ⟨0#8, fun h => absurd h hj⟩
  have p1 : ∀ j, ∃ x : BitVec 64, j < 16 → cs[16 + j]? = some (.int .u64 (n64 x)) := fun j => by
   by_cases hj : j < 16
   ·obtain ⟨z, hz, hw⟩ := o1 j hj
    obtain ⟨x, rfl⟩ := dV hw
    exact ⟨x, fun _ => by rw [List.getElem?_take_of_lt hj, List.getElem?_drop] at hz; exact hz⟩
   ·exact ⟨0#64, fun h => absurd h hj⟩
  refine ⟨fun j => (p0 j).choose, fun j => (p1 j).choose, ?_⟩
  apply List.ext_getElem?
  intro j
  rw [Array.getElem?_toList (xs := pc _ _)]
  by_cases hj : j < 32
  ·rw [gB _ _ _ hj, eF]
   split
   ·rename_i h16
    exact (p0 j).choose_spec h16
   ·rename_i h16
    exact (congrArg (fun q => cs[q]?) (show j = 16 + (j - 16) by omega)).trans ((p1 (j - 16)).choose_spec (by omega))
  ·rw [List.getElem?_eq_none (by omega), Array.getElem?_eq_none (by rw [bK]; omega)]
def I64 (n : Int) : Prop := -9223372036854775808 ≤ n ∧ n ≤ 9223372036854775807
end
def cL (c : Nat → BitVec 8) (i : Int) : Bool := if 0 ≤ i ∧ i < 16 then lk (c i.toNat) else true
def nx (c : Nat → BitVec 8) (k : Nat) : Bool := decide (k < 15) && lk (c (k + 1)) && decide (kd (c (k + 1)) = 1#8)
def aL (c : Nat → BitVec 8) (i : Int) : Bool := if 0 ≤ i ∧ i < 16 then (lk (c i.toNat) || nx c i.toNat) else true
theorem zW (c : Nat → BitVec 8) (k : Nat) (h : k < 16) : cL c k = lk (c k) := by unfold cL; rw [if_pos (by omega)]; simp
theorem FH (c : Nat → BitVec 8) (i : Int) (h : ¬ (0 ≤ i ∧ i < 16)) : cL c i = true := by unfold cL; rw [if_neg h]
theorem aL_in (c : Nat → BitVec 8) (k : Nat) (h : k < 16) : aL c k = (lk (c k) || nx c k) := by unfold aL; rw [if_pos (by omega)]; simp
theorem EV (c : Nat → BitVec 8) (i : Int) (h : ¬ (0 ≤ i ∧ i < 16)) : aL c i = true := by unfold aL; rw [if_neg h]
theorem kG {w : World} {g : Nat} {c : Nat → BitVec 8} {a : Nat → BitVec 64} {t : TypeId} (h : Row w g (ec c a) t) (k : Nat) (hk : k < 16) : w.cell? ⟨g, k * 2, none⟩ = some (.int .u8 (n8 (c k))) := by
 rw [h.cell, kM _ _ _ (by omega), kN, if_pos (by omega), Nat.mul_div_cancel _ (by omega)]
theorem fZ {w : World} {g : Nat} {c : Nat → BitVec 8} {a : Nat → BitVec 64} {t : TypeId} (h : Row w g (ec c a) t) (k : Nat) (hk : k < 16) : w.cell? ⟨g, k * 2 + 1, none⟩ = some (.int .u64 (n64 (a k))) := by
 rw [h.cell, kM _ _ _ (by omega), kN, if_neg (by omega), show (k * 2 + 1) / 2 = k by omega]
theorem kU (c : Nat → BitVec 8) (a : Nat → BitVec 64) (g : Nat) (i : Int) (w : World) (hg : Row w g (ec c a) 118) :
  Calls prog 174 #[.pointer (some ⟨g, 0, none⟩), .int .i64 i] w fun e w' => e = .returned (.bool (cL c i)) ∧ Below w.heap.size w w' := by
 have hE := CU i w
 by_cases h : 0 ≤ i ∧ i < 16
 ·obtain ⟨k, rfl⟩ : ∃ k : Nat, i = k := ⟨i.toNat, by omega⟩
  have hk : k < 16 := by omega
  have hk2 : (k : Int) < 16 := by omega
  rw [decide_eq_true h] at hE
  rw [zW c k hk]
  have c0 := kG hg k hk
  have c1 := fZ hg k hk
  have hB := sG (c k) (.int .u64 (n64 (a k))) w
  generalize lk (c k) = r at hB ⊢
  have HE : Hid (Calls prog 215 #[.int .i64 k] w fun e w' => e = .returned (.bool true) ∧ w' = w) := hE
  have HB : Hid (Calls prog 216 #[.agg #[.int .u8 (n8 (c k)), .int .u64 (n64 (a k))]] w fun e w' => e = .returned (.bool r) ∧ Below w.heap.size w w') := hB
  clear hE hB hg h
  go_enter func174, ntmps174
  go_wp2_with (first | (go_at_call 215; refine HE.out.mono ?_; rintro e w1 ⟨rfl, hw⟩; have hw2 := hw.symm; subst hw2) | (go_at_call 216; refine HB.out.mono ?_; rintro e w1 ⟨rfl, hb⟩))
  go_ret
  exact ⟨rfl, hb⟩
 ·rw [decide_eq_false h] at hE
  rw [FH c i h]
  have HE : Hid (Calls prog 215 #[.int .i64 i] w fun e w' => e = .returned (.bool false) ∧ w' = w) := hE
  clear hE hg h
  go_enter func174, ntmps174
  go_wp2_with (go_at_call 215; refine HE.out.mono ?_; rintro e w1 ⟨rfl, hw⟩; have hw2 := hw.symm; subst hw2)
  go_ret
  exact ⟨rfl, ZqD _ _⟩
theorem tD (c : Nat → BitVec 8) (a : Nat → BitVec 64) (g : Nat) (i : Int) (w : World) (hg : Row w g (ec c a) 118) :
  Calls prog 175 #[.pointer (some ⟨g, 0, none⟩), .int .i64 i] w fun e w' => e = .returned (.bool (aL c i)) ∧ Below w.heap.size w w' := by
 have hE := kU c a g i w hg
 by_cases h : 0 ≤ i ∧ i < 16
 ·obtain ⟨k, rfl⟩ : ∃ k : Nat, i = k := ⟨i.toNat, by omega⟩
  have hk : k < 16 := by omega
  have hk2 : (k : Int) < 16 := by omega
  rw [zW c k hk] at hE
  rw [aL_in c k hk]
  have HG := hid hg
  have hlg := hg.lt
  clear h hg
  cases hl : lk (c k) with
  | true =>
   rw [hl] at hE
   simp only [Bool.true_or]
   have HE : Hid (Calls prog 174 #[.pointer (some ⟨g, 0, none⟩), .int .i64 k] w fun e w' => e = .returned (.bool true) ∧ Below w.heap.size w w') := hE
   clear hE hl
   go_enter func175, ntmps175
   go_wp2_with (go_at_call 174; refine HE.out.mono ?_; rintro e w1 ⟨rfl, hb⟩)
   go_ret
   exact ⟨rfl, hb⟩
  | false =>
   rw [hl] at hE
   simp only [Bool.false_or]
   have HE : Hid (Calls prog 174 #[.pointer (some ⟨g, 0, none⟩), .int .i64 k] w fun e w' => e = .returned (.bool false) ∧ Below w.heap.size w w') := hE
   clear hE hl
   by_cases hk15 : k < 15
   ·have hk3 : (k : Int) + 1 < 16 := by omega
    have c0 := kG HG.out (k + 1) (by omega)
    have c1 := fZ HG.out (k + 1) (by omega)
    have HC0 : Hid (∀ w1, Below w.heap.size w w1 → w1.cell? ⟨g, (k + 1) * 2, none⟩ = some (.int .u8 (n8 (c (k + 1))))) := fun w1 hb => (hb.cell (p := ⟨g, (k + 1) * 2, none⟩) hlg).trans c0
    have HC1 : Hid (∀ w1, Below w.heap.size w w1 → w1.cell? ⟨g, (k + 1) * 2 + 1, none⟩ = some (.int .u64 (n64 (a (k + 1))))) := fun w1 hb => (hb.cell (p := ⟨g, (k + 1) * 2 + 1, none⟩) hlg).trans c1
    clear c0 c1
    have hq : nx c k = (lk (c (k + 1)) && decide (kd (c (k + 1)) = 1#8)) := by unfold nx; simp [hk15]
    rw [hq]
    have HL : Hid (∀ w1, Calls prog 216 #[.agg #[.int .u8 (n8 (c (k + 1))), .int .u64 (n64 (a (k + 1)))]] w1 fun e w' => e = .returned (.bool (lk (c (k + 1)))) ∧ Below w1.heap.size w1 w') := fun w1 => sG _ _ w1
    have HK : Hid (∀ w1, Calls prog 217 #[.agg #[.int .u8 (n8 (c (k + 1))), .int .u64 (n64 (a (k + 1)))]] w1 fun e w' => e = .returned (.int .u8 (n8 (kd (c (k + 1))))) ∧ Below w1.heap.size w1 w') := fun w1 => AD _ _ w1
    clear hq
    cases hl2 : lk (c (k + 1)) with
    | false =>
     rw [hl2] at HL
     simp only [Bool.false_and]
     clear hl2
     go_enter func175, ntmps175
     go_wp2_with (first | (go_at_call 174; refine HE.out.mono ?_; rintro e w1 ⟨rfl, hb⟩; have HB1 := hid hb; clear hb; have d0 := HC0.out w1 HB1.out; have d1 := HC1.out w1 HB1.out) | (go_at_call 216; refine (HL.out _).mono ?_; rintro e w2 ⟨rfl, hb⟩; have HB2 := hid hb; clear hb))
     go_ret
     exact ⟨rfl, HB1.out.trans (HB2.out.mono HB1.out.size)⟩
    | true =>
     rw [hl2] at HL
     simp only [Bool.true_and]
     clear hl2
     have HQ : Hid ((n8 (kd (c (k + 1))) == 1) = decide (kd (c (k + 1)) = 1#8)) := by
      by_cases e1 : kd (c (k + 1)) = 1#8
      ·rw [e1]; rfl
      ·have : ¬ n8 (kd (c (k + 1))) = 1 := fun q => e1 (qL.1 (q.trans rfl))
       unfold Hid; simp [this, e1]
     generalize decide (kd (c (k + 1)) = 1#8) = q at HQ ⊢
     generalize kd (c (k + 1)) = z at HQ HK
     have hq2 := HQ.out
     go_enter func175, ntmps175
     go_wp2_with (first | (go_at_call 174; refine HE.out.mono ?_; rintro e w1 ⟨rfl, hb⟩; have HB1 := hid hb; clear hb; have d0 := HC0.out w1 HB1.out; have d1 := HC1.out w1 HB1.out) | (go_at_call 216; refine (HL.out _).mono ?_; rintro e w2 ⟨rfl, hb⟩; have HB2 : Hid (Below w.heap.size w w2) := HB1.out.trans (hb.mono HB1.out.size); clear hb; have d2 := HC0.out w2 HB2.out; have d3 := HC1.out w2 HB2.out) | (go_at_call 217; refine (HK.out _).mono ?_; rintro e w3 ⟨rfl, hb⟩; have HB3 : Hid (Below w.heap.size w w3) := HB2.out.trans (hb.mono HB2.out.size); clear hb))
     go_ret
     exact ⟨by simp_all, HB3.out⟩
   ·have hk3 : ¬ (k : Int) + 1 < 16 := by omega
    have hq : nx c k = false := by unfold nx; simp [hk15]
    rw [hq]
    clear hq
    obtain rfl : k = 15 := by omega
    have e15 : ((15 : Nat) : Int) = 15 := rfl
    rw [e15] at HE ⊢
    clear hk hk2 hk3 hk15
    go_enter func175, ntmps175
    go_wp2_with (go_at_call 174; refine HE.out.mono ?_; rintro e w1 ⟨rfl, hb⟩)
    go_ret
    exact ⟨rfl, hb⟩
 ·rw [FH c i h] at hE
  rw [EV c i h]
  have HE : Hid (Calls prog 174 #[.pointer (some ⟨g, 0, none⟩), .int .i64 i] w fun e w' => e = .returned (.bool true) ∧ Below w.heap.size w w') := hE
  clear hE hg h
  go_enter func175, ntmps175
  go_wp2_with (go_at_call 174; refine HE.out.mono ?_; rintro e w1 ⟨rfl, hb⟩)
  go_ret
  exact ⟨rfl, hb⟩
theorem bA {P : Program} {ops : Array Oper} {rest : List Oper} {o : Oper} {a : Act} {w : World} {Q : Exit → Act → World → Prop} (hw : Region.wanted o (yielded ops a.tmps) = true) (ty : TypeId) (x : Operand) (ho : o.op = .load ty x)
  (g : Nat) (hx : a.eval x = .pointer (some ⟨g, 0, none⟩)) (t : TypeId) (cs : Array Value) (fr : Nat × Nat) (d : TypeDesc) (hg : w.heap[g]? = some (.cells cs t fr))
  (hu : P.underlying ty = some d) (hd : (match d with | .struct _ | .array _ _ => true | _ => false) = true) (hi : (P.info? ty).map (·.size) = some cs.size)
  (h : wpList P ops Q rest (a.put o.dst (.agg cs)) w) : wpList P ops Q (o :: rest) a w :=
 BigFrame.wpList_want hw fun _ hK => wp_load_row ty x ho g hx t cs fr d hg hu hd hi (hK _ _ h)
def Tb (w : World) : Prop := ∀ j, j < 64 → w.cell? ⟨0, j, none⟩ = some (.int .u8 ((Lib.deBruijn64tab.getD j 0 : Nat) : Int))
theorem Tb.lt {w : World} (h : Tb w) : 0 < w.heap.size := World.block_lt_of_cell? w _ (h 0 (by omega))
theorem Tb.later {w w' : World} {B : Nat} (h : Tb w) (b : Below B w w') (hB : 0 < B) : Tb w' := fun j hj => (b.cell (p := ⟨0, j, none⟩) hB).trans (h j hj)
theorem Tb.next {w w' : World} (h : Tb w) (b : Below w.heap.size w w') : Tb w' := h.later b h.lt
theorem Tb.alloc {w : World} (h : Tb w) (o : Obj) : Tb (w.alloc o) := h.next ((ZqD _ _).alloc (ZqE _) _)
def tz (x : BitVec 64) : Nat := Lib.ctz 64 x.toNat
theorem RW : tz 0#64 = 64 := rfl
theorem PY (x : BitVec 64) : IntKind.u64.wrap (-(n64 x)) = n64 (-x) := by
 rw [dM]
 congr 1
 apply ZqT
 rw [BitVec.toNat_ofInt, BitVec.toNat_neg]
 unfold n64
 have := x.isLt
 omega
theorem tz_key (x : BitVec 64) (h : x ≠ 0#64) : (((x &&& -x) * 285870213051353865#64) >>> 58).toNat = 2 ^ tz x * 285870213051353865 % 18446744073709551616 / 288230376151711744 ∧ tz x < 64 := by
 have h0 : x.toNat ≠ 0 := fun e => h (ZqT (by simpa using e))
 obtain ⟨hl, hk⟩ := Lib.lowest_bit 64 x.toNat h0 x.isLt
 refine ⟨?_, hk⟩
 have e1 : (x &&& -x).toNat = 2 ^ tz x := by
  rw [BitVec.toNat_and, BitVec.toNat_neg, ZqV (by have := x.isLt; omega)]
  exact hl
 rw [BitVec.toNat_ushiftRight, BitVec.toNat_mul, e1, Nat.shiftRight_eq_div_pow]
 rfl
theorem tz_c (x : BitVec 64) (w : World) (hT : Tb w) : Calls prog 241 #[.int .u64 (n64 x)] w fun e w' => e = .returned (.int .i64 (tz x : Nat)) ∧ w' = w := by
 by_cases h : x = 0#64
 ·subst h
  rw [RW]
  have e0 : n64 0#64 = 0 := rfl
  rw [e0]
  go_enter func241, ntmps241
  go_wp2
  go_ret
  exact ⟨rfl, rfl⟩
 ·obtain ⟨hk, h64⟩ := tz_key x h
  obtain ⟨hi, htab⟩ := Lib.deBruijn64_at _ h64
  have e0 : (n64 x == 0) = false := by
   have : ¬ n64 x = 0 := fun e => h (fE e)
   simpa using this
  have e1 := PY x
  have e2 := cQ x (-x)
  have e3 : IntKind.u64.wrap (n64 (x &&& -x) * 285870213051353865) = n64 ((x &&& -x) * 285870213051353865#64) := pA (x &&& -x) 285870213051353865#64
  obtain ⟨d, hd⟩ : ∃ d, d = (((x &&& -x) * 285870213051353865#64) >>> 58).toNat := ⟨_, rfl⟩
  have e4 : n64 ((x &&& -x) * 285870213051353865#64) / 288230376151711744 = (d : Int) := by
   have := kA ((x &&& -x) * 285870213051353865#64) 58
   rw [hd]
   exact this
  rw [← hk, ← hd] at hi htab
  have hd64 : (d : Int) < 64 := by omega
  have c0 := hT d hi
  rw [htab] at c0
  have hw : wrap64 ((tz x : Nat) : Int) = ((tz x : Nat) : Int) := by unfold wrap64; omega
  generalize (x &&& -x) * 285870213051353865#64 = y3 at e3 e4
  generalize x &&& -x = y2 at e2 e3
  generalize -x = y1 at e1 e2
  generalize ((tz x : Nat) : Int) = t at c0 hw ⊢
  clear hk hd htab hT h
  go_enter func241, ntmps241
  go_wp2
  go_ret
  exact ⟨by simp_all, rfl⟩
def on (a : BitVec 64) : Nat := tz (~~~a)
theorem JR (a : BitVec 64) (h : a.toNat < 2 ^ 54) : (∃ r, a.toNat = 2 ^ (on a + 1) * r + (2 ^ on a - 1)) ∧ on a ≤ 54 := by
 have hx : (~~~a).toNat = 2 ^ 64 - 1 - a.toNat := BitVec.toNat_not
 have h0 : (~~~a).toNat ≠ 0 := by rw [hx]; omega
 have e : on a = Lib.ctzFrom 64 (~~~a).toNat := by unfold on tz Lib.ctz; rw [if_neg h0]
 obtain ⟨m, hm, hk⟩ := Lib.ctzFrom_spec 64 (~~~a).toNat (by omega) (~~~a).isLt
 rw [← e] at hm hk
 rw [hx] at hm
 generalize on a = n at *
 have hp : 0 < 2 ^ n := Nat.pow_pos (by omega)
 obtain ⟨d, hd⟩ : ∃ d, 64 = n + (d + 1) := ⟨63 - n, by omega⟩
 have h64 : (2 : Nat) ^ 64 = 2 ^ n * (2 * 2 ^ d) := by rw [hd, Nat.pow_add, Nat.pow_succ, Nat.mul_comm (2 ^ d) 2]
 have hA : a.toNat + 2 ^ n * (2 * m + 1) + 1 = 2 ^ n * (2 * 2 ^ d) := by rw [← h64]; omega
 have hmd : m < 2 ^ d := by
  apply Nat.lt_of_not_le
  intro hle
  have : 2 ^ n * (2 * 2 ^ d) ≤ 2 ^ n * (2 * m + 1) := Nat.mul_le_mul_left _ (by omega)
  omega
 obtain ⟨r, hr⟩ : ∃ r, 2 ^ d = m + r + 1 := ⟨2 ^ d - m - 1, by omega⟩
 have hA2 : a.toNat = 2 ^ (n + 1) * r + (2 ^ n - 1) := by
  rw [hr] at hA
  have e2 : 2 ^ n * (2 * (m + r + 1)) = 2 ^ n * (2 * m + 1) + 2 ^ n * (2 * r) + 2 ^ n := by
   rw [show 2 * (m + r + 1) = (2 * m + 1) + 2 * r + 1 by omega, Nat.mul_add, Nat.mul_add, Nat.mul_one]
  have e3 : 2 ^ (n + 1) * r = 2 ^ n * (2 * r) := by rw [Nat.pow_succ, Nat.mul_assoc]
  rw [e3]
  omega
 refine ⟨⟨r, hA2⟩, ?_⟩
 apply Nat.le_of_not_lt
 intro hlt
 have h1 : (2 : Nat) ^ 55 ≤ 2 ^ n := Nat.pow_le_pow_right (by omega) (by omega)
 have h2 : (2 : Nat) ^ 55 = 2 * 2 ^ 54 := by decide
 have h3 : 2 ^ n - 1 ≤ a.toNat := by rw [hA2]; omega
 omega
theorem YY (a : BitVec 64) (h : a.toNat < 2 ^ 54) : a.toNat = 2 ^ (on a + 1) * (a.toNat / 2 ^ (on a + 1)) + (2 ^ on a - 1) := by
 obtain ⟨⟨r, hr⟩, _⟩ := JR a h
 have hp : 0 < 2 ^ on a := Nat.pow_pos (by omega)
 have hq : 2 ^ on a - 1 < 2 ^ (on a + 1) := by rw [Nat.pow_succ]; omega
 have : a.toNat / 2 ^ (on a + 1) = r := by
  rw [hr, Nat.mul_add_div (Nat.pow_pos (by omega)), Nat.div_eq_of_lt hq, Nat.add_zero]
 rw [this]
 exact hr
def npF (a : BitVec 64) : BitVec 64 := if on a = 54 then 0#64 else BitVec.ofNat 64 (2 ^ (on a + 3) * (a.toNat / 2 ^ (on a + 1)))
def npL (a : BitVec 64) : BitVec 64 := if on a = 54 then ~~~0#64 else BitVec.ofNat 64 (2 ^ (on a + 3) * (a.toNat / 2 ^ (on a + 1)) + (2 ^ (on a + 3) - 1))
theorem wE (a : BitVec 64) (h : a.toNat < 2 ^ 54) (hn : on a < 54) : 2 ^ (on a + 3) * (a.toNat / 2 ^ (on a + 1)) + (2 ^ (on a + 3) - 1) < 2 ^ 58 := by
 have hd := YY a h
 have e : 2 ^ (on a + 3) * (a.toNat / 2 ^ (on a + 1)) = 4 * (2 ^ (on a + 1) * (a.toNat / 2 ^ (on a + 1))) := by
  rw [show on a + 3 = (on a + 1) + 2 by omega, Nat.pow_add (m := on a + 1)]
  rw [Nat.mul_comm (2 ^ (on a + 1)) (2 ^ 2), Nat.mul_assoc]
 have hp : 2 ^ (on a + 3) ≤ 2 ^ 56 := Nat.pow_le_pow_right (by omega) (by omega)
 rw [e]
 omega
theorem IB (a : BitVec 64) (h : a.toNat < 2 ^ 54) (hn : on a < 54) : 4 * a.toNat / 2 ^ (on a + 3) = a.toNat / 2 ^ (on a + 1) := by
 rw [show on a + 3 = 2 + (on a + 1) by omega, Nat.pow_add]
 rw [show (2 : Nat) ^ 2 = 4 from rfl, Nat.mul_div_mul_left _ _ (by omega)]
theorem CL (x : BitVec 64) (k : Nat) (hk : k < 64) : (x &&& ~~~(1#64 <<< k - 1#64)).toNat = 2 ^ k * (x.toNat / 2 ^ k) := by
 have hm : (1#64 <<< k - 1#64).toNat = 2 ^ k - 1 := by
  have h1 : 2 ^ k < 2 ^ 64 := Nat.pow_lt_pow_right (by omega) hk
  have h2 : 0 < 2 ^ k := Nat.pow_pos (by omega)
  have e1 : (1#64 <<< k).toNat = 2 ^ k := by
   rw [BitVec.toNat_shiftLeft, Nat.shiftLeft_eq, show (1#64 : BitVec 64).toNat = 1 from rfl, Nat.one_mul, ZqV h1]
  rw [BitVec.toNat_sub, e1, show (1#64 : BitVec 64).toNat = 1 from rfl]
  omega
 apply Nat.eq_of_testBit_eq
 intro i
 rw [← BitVec.getLsbD, BitVec.getLsbD_and, BitVec.getLsbD_not, BitVec.getLsbD, BitVec.getLsbD, hm, Nat.testBit_two_pow_sub_one, Nat.mul_comm, Nat.testBit_mul_two_pow, Nat.testBit_div_two_pow]
 by_cases h1 : k ≤ i
 ·rw [Nat.sub_add_cancel h1]
  by_cases h2 : i < 64
  ·simp [h1, h2, show ¬ i < k by omega]
  ·have : x.toNat.testBit i = false := Nat.testBit_lt_two_pow (ZqS x.isLt (Nat.pow_le_pow_right (by omega) (by omega)))
   simp [this]
 ·simp [h1, show i < k by omega]
theorem rA (x : BitVec 64) : Op.unary .xor (.int .u64 (n64 x)) = pure (.int .u64 (n64 (~~~x))) := by
 have h : bits .xor .u64 (n64 (~~~0#64)) (n64 x) = n64 (~~~x) := by
  rw [AP]; congr 1
 show pure (Value.int IntKind.u64 (bits .xor .u64 (n64 (~~~0#64)) (n64 x))) = _
 rw [h]
theorem JO (a : BitVec 64) (h : on a = 54) (w : World) (hT : Tb w) : Calls prog 240 #[.int .u64 (n64 a)] w fun e w' => e = .returned (.agg #[.int .u64 (n64 (npF a)), .int .u64 (n64 (npL a))]) ∧ Below w.heap.size w w' := by
 have e1 : npF a = 0#64 := by unfold npF; rw [if_pos h]
 have e2 : npL a = ~~~0#64 := by unfold npL; rw [if_pos h]
 have f1 : n64 (npF a) = 0 := by rw [e1]; rfl
 have f2 : n64 (npL a) = 18446744073709551615 := by rw [e2]; rfl
 rw [f1, f2]
 have HC : Hid (∀ W, Tb W → Calls prog 241 #[.int .u64 (n64 (~~~a))] W fun e w' => e = .returned (.int .i64 54) ∧ w' = W) := fun W hW => by
  have := tz_c (~~~a) W hW
  rw [show tz (~~~a) = 54 from h] at this
  exact this
 have HT := hid hT
 have hu := rA a
 clear e1 e2 f1 f2 hT h
 generalize ~~~a = a2 at hu HC
 go_enter func240, ntmps240
 go_wp2_with (go_at_call 241; refine (HC.out _ (HT.out.alloc _)).mono ?_; rintro e w1 ⟨rfl, hw⟩; have hw2 := hw.symm; subst hw2)
 exact ZqH (v := .agg #[.int .u64 0, .int .u64 18446744073709551615]) (ZqM results240 _ _ w.heap.size 237 _ (0, 0) _ (by rfl) (heap_alloc_last w _) underlying237 (by rfl) (by kernel_rfl)) rfl ⟨rfl, (ZqD _ _).alloc (ZqE _) _⟩
theorem QE (k : Nat) (hk : k < 64) : (1#64 <<< k).toNat = 2 ^ k := by
 rw [BitVec.toNat_shiftLeft, Nat.shiftLeft_eq, show (1#64 : BitVec 64).toNat = 1 from rfl, Nat.one_mul, ZqV (Nat.pow_lt_pow_right (by omega) hk)]
theorem xX (k : Nat) (hk : k < 64) : (1#64 <<< k - 1#64).toNat = 2 ^ k - 1 := by
 have h1 : 2 ^ k < 2 ^ 64 := Nat.pow_lt_pow_right (by omega) hk
 have h2 : 0 < 2 ^ k := Nat.pow_pos (by omega)
 rw [BitVec.toNat_sub, QE k hk, show (1#64 : BitVec 64).toNat = 1 from rfl]
 omega
theorem vU (k : Nat) : IntKind.u64.wrap (IntKind.u64.wrap (2 ^ k) - 1) = n64 (1#64 <<< k - 1#64) := by
 have h1 : IntKind.u64.wrap ((2 : Int) ^ k) = n64 (1#64 <<< k) := by
  have := gY 1#64 k
  rw [show n64 1#64 = 1 from rfl, Int.one_mul] at this
  exact this
 rw [h1]
 exact iW (1#64 <<< k) 1#64
theorem xR (a : BitVec 64) (h : a.toNat < 2 ^ 54) : (a <<< 2).toNat = 4 * a.toNat := by
 rw [BitVec.toNat_shiftLeft, Nat.shiftLeft_eq]
 omega
theorem JQ (a : BitVec 64) (h54 : a.toNat < 2 ^ 54) (h : on a < 54) : bits .andNot .u64 (IntKind.u64.wrap (n64 a * 4)) (IntKind.u64.wrap (IntKind.u64.wrap (2 ^ (on a + 1 + 2)) - 1)) = n64 (npF a) := by
 rw [vU, show n64 a * (4 : Int) = n64 a * 2 ^ 2 from rfl, gY, eR]
 congr 1
 apply ZqT
 have hb := wE a h54 h
 rw [CL _ _ (by omega), xR a h54, show on a + 1 + 2 = on a + 3 by omega, IB a h54 h, npF, if_neg (by omega), ZqR, ZqV (by omega)]
theorem QC (a : BitVec 64) (h54 : a.toNat < 2 ^ 54) (h : on a < 54) : bits .or .u64 (n64 (npF a)) (IntKind.u64.wrap (IntKind.u64.wrap (2 ^ (on a + 1 + 2)) - 1)) = n64 (npL a) := by
 rw [vU, hU]
 congr 1
 apply ZqT
 have hb := wE a h54 h
 have hp : 0 < 2 ^ (on a + 3) := Nat.pow_pos (by omega)
 rw [BitVec.toNat_or, xX _ (by omega), show on a + 1 + 2 = on a + 3 by omega, npF, if_neg (by omega), npL, if_neg (by omega), ZqR, ZqR, ZqV (by omega), ZqV (by omega)]
 exact (Nat.two_pow_add_eq_or_of_lt (show 2 ^ (on a + 3) - 1 < 2 ^ (on a + 3) by omega) _).symm
theorem JP (a : BitVec 64) (h54 : a.toNat < 2 ^ 54) (h : on a < 54) (w : World) (hT : Tb w) : Calls prog 240 #[.int .u64 (n64 a)] w fun e w' => e = .returned (.agg #[.int .u64 (n64 (npF a)), .int .u64 (n64 (npL a))]) ∧ Below w.heap.size w w' := by
 have HC : Hid (∀ W, Tb W → Calls prog 241 #[.int .u64 (n64 (~~~a))] W fun e w' => e = .returned (.int .i64 (on a : Nat)) ∧ w' = W) := fun W hW => tz_c (~~~a) W hW
 have HT := hid hT
 have hu := rA a
 obtain ⟨n, hn⟩ : ∃ n, n = on a := ⟨_, rfl⟩
 rw [← hn] at HC
 have hnn : ((n : Int) == 54) = false := by
  have : ¬ (n : Int) = 54 := by omega
  simpa using this
 have hn54 : (n : Int) < 54 := by omega
 have HX1 := JQ a h54 h
 have HX2 := QC a h54 h
 generalize n64 (npF a) = x1 at HX1 HX2 ⊢
 generalize n64 (npL a) = x2 at HX2 ⊢
 clear hT h54
 generalize ~~~a = a2 at hu HC
 go_enter func240, ntmps240
 go_wp2_with (go_at_call 241; refine (HC.out _ (HT.out.alloc _)).mono ?_; rintro e w1 ⟨rfl, hw⟩; have hw2 := hw.symm; subst hw2)
 refine ZqH (ZqM results240 _ _ w.heap.size 237 _ (0, 0) _ (by rfl) (heap_alloc_last w _) underlying237 (by rfl) (by kernel_rfl)) rfl ⟨?_, (ZqD _ _).alloc (ZqE _) _⟩
 simp_all
theorem QB (a : BitVec 64) (h54 : a.toNat < 2 ^ 54) (w : World) (hT : Tb w) : Calls prog 240 #[.int .u64 (n64 a)] w fun e w' => e = .returned (.agg #[.int .u64 (n64 (npF a)), .int .u64 (n64 (npL a))]) ∧ Below w.heap.size w w' := by
 by_cases h : on a = 54
 ·exact JO a h w hT
 ·exact JP a h54 (by have := (JR a h54).2; omega) w hT
theorem cD {P : Program} {fn : Func} {p u : Tmp} {ty : TypeId} (h : fn.results = #[.cell p ty, .tmp u]) (tmps : Array Value) (w : World) (g : Nat) (t : TypeId) (cs : Array Value) (fr : Nat × Nat) (d : TypeDesc) (v : Value)
  (hp : tmps.getD p undef = .pointer (some ⟨g, 0, none⟩)) (hv : tmps.getD u undef = v) (hg : w.heap[g]? = some (.cells cs t fr))
  (hu : P.underlying ty = some d) (hd : (match d with | .struct _ | .array _ _ => true | _ => false) = true) (hi : (P.info? ty).map (·.size) = some cs.size) :
  (results fn tmps).run P w = .ok (.tuple #[.agg cs, v]) w := by
 rw [results_cell_tmp h]
 have hp' : tmps[p]?.getD undef = .pointer (some ⟨g, 0, none⟩) := by simpa using hp
 have hv' : tmps[u]?.getD undef = v := by simpa using hv
 simp [hp', hv', asAddr, run_loadVar_row w g t ty cs fr d hg hu hd hi, Result.andThen]
def frm (a : Nat → BitVec 64) (k : Nat) : BitVec 64 := if k = 0 then 0#64 else a (k - 1)
def spn (c : Nat → BitVec 8) (a : Nat → BitVec 64) (k : Nat) : Option (BitVec 64 × BitVec 64) :=
 if kd (c k) = 1#8 then (if n64 (a k) ≤ n64 (frm a k) then none else some (frm a k <<< 2, a k <<< 2 - 1#64))
 else if kd (c k) = 2#8 then some (a k <<< 2, a k <<< 2 + 3#64)
 else if kd (c k) = 3#8 then some (npF (a k), npL (a k)) else none
def sF (o : Option (BitVec 64 × BitVec 64)) : BitVec 64 := (o.getD (0#64, 0#64)).1
def sL (o : Option (BitVec 64 × BitVec 64)) : BitVec 64 := (o.getD (0#64, 0#64)).2
def spV (o : Option (BitVec 64 × BitVec 64)) : Value := .agg #[.int .u64 (n64 (sF o)), .int .u64 (n64 (sL o))]
def oP (a : Nat → BitVec 64) (k : Nat) : Option (BitVec 64 × BitVec 64) := if n64 (a k) ≤ n64 (frm a k) then none else some (frm a k <<< 2, a k <<< 2 - 1#64)
theorem tor_c (c : Nat → BitVec 8) (a : Nat → BitVec 64) (g k : Nat) (hk : k < 16) (w : World) (hg : Row w g (ec c a) 118) :
  Calls prog 239 #[.pointer (some ⟨g, 0, none⟩), .int .i64 k] w fun e w' => e = .returned (.tuple #[spV (oP a k), .bool (oP a k).isSome]) ∧ Below w.heap.size w w' := by
 have hk2 : (k : Int) < 16 := by omega
 have c1 := fZ hg k hk
 have hlg := hg.lt
 have e4 : IntKind.u64.wrap (n64 (a k) * 4) = n64 (a k <<< 2) := gY (a k) 2
 have e5 : IntKind.u64.wrap (n64 (a k <<< 2) - 1) = n64 (a k <<< 2 - 1#64) := iW (a k <<< 2) 1#64
 have e6 : IntKind.u64.wrap (n64 (frm a k) * 4) = n64 (frm a k <<< 2) := gY (frm a k) 2
 obtain ⟨X, hX⟩ : ∃ X, X = oP a k := ⟨_, rfl⟩
 rw [← hX]
 have HX := hid hX
 clear hX
 cases k with
 | zero =>
  have hfr : frm a 0 = 0#64 := rfl
  by_cases hc : n64 (a 0) ≤ n64 (frm a 0)
  ·have e9 : X = none := by rw [HX.out, oP, if_pos hc]
   subst e9
   rw [hfr] at hc
   have hc2 : n64 (a 0) ≤ 0 := hc
   clear HX hg hc hfr e6
   go_enter func239, ntmps239
   go_wp2
   exact ZqH (cD results239 _ _ w.heap.size 237 _ (0, 0) _ _ (by rfl) (by rfl) (heap_alloc_last w _) underlying237 (by rfl) (by kernel_rfl)) rfl ⟨rfl, (ZqD _ _).alloc (ZqE _) _⟩
  ·have e9 : X = some (0#64 <<< 2, a 0 <<< 2 - 1#64) := by rw [HX.out, oP, if_neg hc, hfr]
   subst e9
   rw [hfr] at hc
   have hc2 : ¬ n64 (a 0) ≤ 0 := hc
   clear HX hg hc hfr e6
   go_enter func239, ntmps239
   go_wp2
   exact ZqH (cD results239 _ _ w.heap.size 237 _ (0, 0) _ _ (by rfl) (by rfl) (heap_alloc_last w _) underlying237 (by rfl) (by kernel_rfl)) rfl ⟨by simp_all [spV, sF, sL, n64], (ZqD _ _).alloc (ZqE _) _⟩
 | succ j =>
  have hfr : frm a (j + 1) = a j := rfl
  have c2 := fZ hg j (by omega)
  rw [hfr] at e6
  have hj2 : (j : Int) + 1 < 16 := by omega
  have ej : ((j + 1 : Nat) : Int) = (j : Int) + 1 := by omega
  rw [ej]
  have hj3 : (0 : Int) < (j : Int) + 1 := by omega
  by_cases hc : n64 (a (j + 1)) ≤ n64 (frm a (j + 1))
  ·have e9 : X = none := by rw [HX.out, oP, if_pos hc]
   subst e9
   rw [hfr] at hc
   clear HX hg hfr hk2 hk ej
   go_enter func239, ntmps239
   go_wp2
   exact ZqH (cD results239 _ _ w.heap.size 237 _ (0, 0) _ _ (by rfl) (by rfl) (heap_alloc_last w _) underlying237 (by rfl) (by kernel_rfl)) rfl ⟨rfl, (ZqD _ _).alloc (ZqE _) _⟩
  ·have e9 : X = some (a j <<< 2, a (j + 1) <<< 2 - 1#64) := by rw [HX.out, oP, if_neg hc, hfr]
   subst e9
   rw [hfr] at hc
   clear HX hg hfr hk2 hk ej
   go_enter func239, ntmps239
   go_wp2
   exact ZqH (cD results239 _ _ w.heap.size 237 _ (0, 0) _ _ (by rfl) (by rfl) (heap_alloc_last w _) underlying237 (by rfl) (by kernel_rfl)) rfl ⟨by simp_all [spV, sF, sL], (ZqD _ _).alloc (ZqE _) _⟩
theorem IL : ∀ x : BitVec 8, kd x = 0#8 ∨ kd x = 1#8 ∨ kd x = 2#8 ∨ kd x = 3#8 := by decide +kernel
theorem ZB (x : BitVec 64) : (pad x).toNat < 2 ^ 54 := by
 unfold pad
 rw [BitVec.toNat_and]
 exact Nat.and_lt_two_pow _ (by decide)
theorem RI {w : World} {g : Nat} {x y : Value} {t : TypeId} (h : Row w g #[x, y] t) (u v : Value) : Row ((w.setCell ⟨g, 0, none⟩ u).setCell ⟨g, 1, none⟩ v) g #[u, v] t := by
 have := Row.put (i := 1) (Row.put (i := 0) h u) v
 simpa using this
theorem OV (c : Nat → BitVec 8) (a : Nat → BitVec 64) (hA : ∀ j, (a j).toNat < 2 ^ 54) (g k : Nat) (hk : k < 16) (w : World) (hT : Tb w) (hg : Row w g (ec c a) 118) :
  Calls prog 236 #[.pointer (some ⟨g, 0, none⟩), .int .i64 k] w fun e w' => e = .returned (.tuple #[spV (spn c a k), .bool (spn c a k).isSome]) ∧ Below w.heap.size w w' := by
 have hk2 : (k : Int) < 16 := by omega
 have hlg := hg.lt
 have HG := hid hg
 obtain ⟨W0, hW0, r0, b0, s0⟩ := cT w #[Value.int .u64 0, .int .u64 0] 237
 have HS := hid s0
 have HGW : Hid (Row W0 g (ec c a) 118) := by rw [← hW0]; exact hg.old hlg _
 have HT : Hid (Tb W0) := by rw [← hW0]; exact hT.alloc _
 have c0 := kG HGW.out k hk
 have c1 := fZ HGW.out k hk
 have HK : Hid (∀ W, Calls prog 217 #[.agg #[.int .u8 (n8 (c k)), .int .u64 (n64 (a k))]] W fun e w' => e = .returned (.int .u8 (n8 (kd (c k)))) ∧ Below W.heap.size W w') := fun W => AD _ _ W
 have HTor : Hid (∀ W, Row W g (ec c a) 118 → Calls prog 239 #[.pointer (some ⟨g, 0, none⟩), .int .i64 k] W fun e w' => e = .returned (.tuple #[.agg #[.int .u64 (n64 (sF (oP a k))), .int .u64 (n64 (sL (oP a k)))], .bool (oP a k).isSome]) ∧ Below W.heap.size W w') := fun W h => tor_c c a g k hk W h
 have HNap : Hid (∀ W, Tb W → Calls prog 240 #[.int .u64 (n64 (a k))] W fun e w' => e = .returned (.agg #[.int .u64 (n64 (npF (a k))), .int .u64 (n64 (npL (a k)))]) ∧ Below W.heap.size W w') := fun W h => QB (a k) (hA k) W h
 have e4 : IntKind.u64.wrap (n64 (a k) * 4) = n64 (a k <<< 2) := gY (a k) 2
 have e5 : IntKind.u64.wrap (IntKind.u64.wrap (n64 (a k <<< 2) + 4) - 1) = n64 (a k <<< 2 + 3#64) := by
  have h1 : IntKind.u64.wrap (n64 (a k <<< 2) + 4) = n64 (a k <<< 2 + 4#64) := dA (a k <<< 2) 4#64
  rw [h1]
  have h2 : IntKind.u64.wrap (n64 (a k <<< 2 + 4#64) - 1) = n64 (a k <<< 2 + 4#64 - 1#64) := iW (a k <<< 2 + 4#64) 1#64
  rw [h2]
  congr 1
  rw [BitVec.sub_eq_add_neg, BitVec.add_assoc]
  rfl
 obtain ⟨X, hX⟩ : ∃ X, X = spn c a k := ⟨_, rfl⟩
 rw [← hX]
 have HX := hid hX
 have HCell : Hid (∀ W, Below W0.heap.size W0 W → W.cell? ⟨g, k * 2 + 1, none⟩ = some (.int .u64 (n64 (a k))) ∧ Row W g (ec c a) 118 ∧ Tb W ∧ Row W w.heap.size #[.int .u64 0, .int .u64 0] 237 ∧ Below w.heap.size w W ∧ w.heap.size + 1 ≤ W.heap.size) := fun W hb => by
  have hh := HGW.out.later hb (by rw [HS.out]; omega)
  exact ⟨fZ hh k hk, hh, HT.out.next hb, r0.out.later hb (by rw [HS.out]; omega), b0.out.trans (hb.mono (by rw [HS.out]; omega)), by have := hb.size; rw [HS.out] at this; exact this⟩
 clear hX hg s0 hT hA
 rcases IL (c k) with hq | hq | hq | hq
 ·have e9 : X = none := by rw [HX.out, spn, if_neg (by rw [hq]; decide), if_neg (by rw [hq]; decide), if_neg (by rw [hq]; decide)]
  subst e9
  rw [hq] at HK
  have hz : n8 0#8 = 0 := rfl
  rw [hz] at HK
  clear hq HX hz
  go_enter func236, ntmps236
  go_upto_region 1 with fail
  clear hW0
  go_wp2_with ((go_at_call 217; refine (HK.out _).mono ?_; rintro e w1 ⟨rfl, hb⟩; have HB1 := hid hb; obtain ⟨d1, d2, d3, d4, d5, d6⟩ := HCell.out w1 hb; have D2 := hid d2; have D3 := hid d3; have D4 := hid d4; have D5 := hid d5; have c8 := d4.cell 0; have c9 := d4.cell 1; have f8 := d4.froz 0; have f9 := d4.froz 1; clear hb d2 d3 d4 d5))
  refine ZqH (cD results236 _ _ w.heap.size 237 _ (0, 0) _ _ (by rfl) (by rfl) (RI D4.out _ _) underlying237 (by rfl) (by kernel_rfl)) rfl ⟨?_, aM (aM D5.out (ZqE _) _) (ZqE _) _⟩
  rfl
 ·have e9 : X = oP a k := by rw [HX.out, spn, if_pos hq]; rfl
  subst e9
  rw [hq] at HK
  have hz : n8 1#8 = 1 := rfl
  rw [hz] at HK
  clear hq HX hz
  generalize oP a k = X at HTor ⊢
  go_enter func236, ntmps236
  go_upto_region 1 with fail
  clear hW0
  go_wp2_with (first | (go_at_call 217; refine (HK.out _).mono ?_; rintro e w1 ⟨rfl, hb⟩; have HB1 := hid hb; obtain ⟨d1, d2, d3, d4, d5, d6⟩ := HCell.out w1 hb; have D2 := hid d2; have D3 := hid d3; have D4 := hid d4; have D5 := hid d5; have c8 := d4.cell 0; have c9 := d4.cell 1; have f8 := d4.froz 0; have f9 := d4.froz 1; clear hb d2 d3 d4 d5) | (go_at_call 239; refine (HTor.out w1 D2.out).mono ?_; rintro e w2 ⟨rfl, hb⟩; have HB2 : Hid (Below W0.heap.size W0 w2) := HB1.out.trans (hb.mono HB1.out.size); obtain ⟨g1, g2, g3, g4, g5, g6⟩ := HCell.out w2 HB2.out; have G4 := hid g4; have G5 := hid g5; have k8 := g4.cell 0; have k9 := g4.cell 1; have l8 := g4.froz 0; have l9 := g4.froz 1; clear hb g2 g3 g4 g5))
  refine ZqH (cD results236 _ _ w.heap.size 237 _ (0, 0) _ _ (by rfl) (by rfl) (RI G4.out _ _) underlying237 (by rfl) (by kernel_rfl)) rfl ⟨?_, aM (aM G5.out (ZqE _) _) (ZqE _) _⟩
  rfl
 ·have e9 : X = some (a k <<< 2, a k <<< 2 + 3#64) := by rw [HX.out, spn, if_neg (by rw [hq]; decide), if_pos hq]
  subst e9
  rw [hq] at HK
  have hz : n8 2#8 = 2 := rfl
  rw [hz] at HK
  clear hq HX hz
  go_enter func236, ntmps236
  go_upto_region 1 with fail
  clear hW0
  go_wp2_with ((go_at_call 217; refine (HK.out _).mono ?_; rintro e w1 ⟨rfl, hb⟩; have HB1 := hid hb; obtain ⟨d1, d2, d3, d4, d5, d6⟩ := HCell.out w1 hb; have D2 := hid d2; have D3 := hid d3; have D4 := hid d4; have D5 := hid d5; have c8 := d4.cell 0; have c9 := d4.cell 1; have f8 := d4.froz 0; have f9 := d4.froz 1; clear hb d2 d3 d4 d5))
  refine ZqH (cD results236 _ _ w.heap.size 237 _ (0, 0) _ _ (by rfl) (by rfl) (RI D4.out _ _) underlying237 (by rfl) (by kernel_rfl)) rfl ⟨?_, aM (aM D5.out (ZqE _) _) (ZqE _) _⟩
  simp_all [spV, sF, sL]
 ·have e9 : X = some (npF (a k), npL (a k)) := by rw [HX.out, spn, if_neg (by rw [hq]; decide), if_neg (by rw [hq]; decide), if_pos hq]
  subst e9
  rw [hq] at HK
  have hz : n8 3#8 = 3 := rfl
  rw [hz] at HK
  clear hq HX hz
  go_enter func236, ntmps236
  go_upto_region 1 with fail
  clear hW0
  go_wp2_with (first | (go_at_call 217; refine (HK.out _).mono ?_; rintro e w1 ⟨rfl, hb⟩; have HB1 := hid hb; obtain ⟨d1, d2, d3, d4, d5, d6⟩ := HCell.out w1 hb; have D2 := hid d2; have D3 := hid d3; have D4 := hid d4; have D5 := hid d5; have c8 := d4.cell 0; have c9 := d4.cell 1; have f8 := d4.froz 0; have f9 := d4.froz 1; clear hb d2 d3 d4 d5) | (go_at_call 240; refine (HNap.out w1 D3.out).mono ?_; rintro e w2 ⟨rfl, hb⟩; have HB2 : Hid (Below W0.heap.size W0 w2) := HB1.out.trans (hb.mono HB1.out.size); obtain ⟨g1, g2, g3, g4, g5, g6⟩ := HCell.out w2 HB2.out; have G4 := hid g4; have G5 := hid g5; have k8 := g4.cell 0; have k9 := g4.cell 1; have l8 := g4.froz 0; have l9 := g4.froz 1; clear hb g2 g3 g4 g5))
  refine ZqH (cD results236 _ _ w.heap.size 237 _ (0, 0) _ _ (by rfl) (by rfl) (RI G4.out _ _) underlying237 (by rfl) (by kernel_rfl)) rfl ⟨?_, aM (aM G5.out (ZqE _) _) (ZqE _) _⟩
  rfl
theorem PA_lt (a : Nat → BitVec 64) : ∀ j, (PA a j).toNat < 2 ^ 54 := fun j => ZB (a j)
theorem below_drewN {B : Nat} {w w' : World} (h : Below B w w') (n : Nat) : Below B w (w'.drewN n) := ⟨h.os, h.tape, h.output, h.size, h.block⟩
end Go.Proofs.YtddlmenfcbjoaaaGreatDoor
