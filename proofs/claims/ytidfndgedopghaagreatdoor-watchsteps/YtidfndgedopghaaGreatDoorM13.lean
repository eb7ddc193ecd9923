/-
  Ua Ub.
-/
import Derived.Test.YtidfndgedopghaaGreatDoorM06
import Derived.Test.YtidfndgedopghaaGreatDoorM10
import Derived.Test.YtidfndgedopghaaGreatDoorM07
import Derived.Test.YtidfndgedopghaaGreatDoorM12
import Derived.Test.YtidfndgedopghaaGreatDoorM05
namespace Go.Proofs.YtidfndgedopghaaGreatDoor
set_option linter.unusedVariables false
set_option maxRecDepth 100000
open Go.ChangeShapes Go.WideShapes Go.ChangeAt Go.RowKit Go.Deep
/-- A row of a trace. -/
structure Rw where
  st : Int
  kd : Int
  md : Int
  pc : BitVec 64
  raw : Int
  len : Int
  ca : BitVec 64
  tv : BitVec 64
  rd : Int
  val : BitVec 64
  mem : Int
  ad : BitVec 64
  sz : Int
  dat : BitVec 64
  nx : BitVec 64
  nm : Int
def rwc (r : Rw) : Array Value := #[.int .i64 r.st, .int .i64 r.kd, .int .i64 r.md, .int .u64 (n64 r.pc), .int .u32 r.raw, .int .i64 r.len, .int .u64 (n64 r.ca), .int .u64 (n64 r.tv), .int .i64 r.rd, .int .u64 (n64 r.val), .int .i64 r.mem, .int .u64 (n64 r.ad), .int .i64 r.sz, .int .u64 (n64 r.dat), .int .u64 (n64 r.nx), .int .i64 r.nm]
theorem rwc_size (r : Rw) : (rwc r).size = 16 := rfl
theorem rwc_ones (r : Rw) : (rwc r).all (·.oneCell') = true := by simp [rwc, Value.oneCell']
theorem info_rw (r : Rw) : (Tryz.prog.info? 52).map (·.size) = some (rwc r).size := by rw [rwc_size]; kernel_rfl
theorem info_cpuU (K : Cp) : (Tryz.prog.info? 32).map (·.size) = some (cpc K).size := by rw [cpc_size]; kernel_rfl
theorem info_pmpU (c : Nat → BitVec 8) (a : Nat → BitVec 64) : (Tryz.prog.info? 28).map (·.size) = some (pc c a).size := by rw [pc_size]; kernel_rfl
/-- A row that stays in every later world. -/
theorem lrow {W : World} {g : Nat} {cs : Array Value} {t : TypeId} (h : Row W g cs t) (x : Later W) : Row x.1 g cs t := h.later x.2 h.lt
theorem lrow_cells {W : World} {g : Nat} {cs : Array Value} {t : TypeId} (h : Row W g cs t) : ∀ j v, cs[j]? = some v → W.cell? ⟨g, 0 + j, none⟩ = some v := fun j v hv => by rw [Nat.zero_add, h.cell]; exact hv
theorem Hid.mkU {p : Prop} (h : p) : Hid p := h
/-- A region that is walked in its order, by what is true in every later world. -/
theorem wpList_of_quiet {P : Program} {ops : Array Oper} {C : World → Prop} {Q : Exit → Act → World → Prop} : ∀ (l : List Oper) (a : Act) (w : World), C w → wpQuiet P ops C (fun a' => ∀ w', C w' → Q .normal a' w') l a → wpList P ops Q l a w
  | [], _, w, hw, h => h w hw
  | o :: rest, a, w, hw, h => by
    unfold wpList
    unfold wpQuiet at h
    split at h <;> rename_i hq
    · rw [if_pos hq]; exact .inl (Oper.wp_of_quiet hw (fun a w' hw' hk => wpList_of_quiet rest a w' hw' hk) h)
    · rw [if_neg hq]; exact wpList_of_quiet rest _ w hw h
theorem wp_region_plain {P : Program} {id : Nat} {Q : Exit → Act → World → Prop} {a : Act} {W : World} {x0 : Later W} {l : List Oper}
    (h : wpQuiet P l.toArray (fun w' => ∃ x : Later W, w' = x.1) (fun a' => ∀ w', (∃ x : Later W, w' = x.1) → Q .normal a' w') l a) : (Code.region id l.toArray false).wp P Q a x0.1 :=
  wp_region_lit (wpList_of_quiet l a x0.1 ⟨x0, rfl⟩ h)
theorem quiet_eql_agg {W : World} {o : Oper} {a : Act} {K : Act → Prop} (t t2 : TypeId) (x y : Operand) (ho : o.op = .binOp .eql t x y t2) (u v : Array Value) (hx : a.eval x = .agg u) (hy : a.eval y = .agg v) (r : Bool) (he : ∀ w, (Op.equalIn 10000 t (.agg u) (.agg v)).run Tryz.prog w = .ok r w)
    (hg : ∀ w, (eqGuard .eql t x y (.agg u) (.agg v)).run Tryz.prog w = .ok () w) (hk : K (a.put o.dst (.bool r))) : o.quiet Tryz.prog a (fun w' => ∃ x : Later W, w' = x.1) K := by
  refine ⟨_, fun w hw => ?_, hk⟩
  have h1 := he w
  have h2 := hg w
  unfold Oper.quietAt execOp
  simp only [ho, hx, hy]
  go_simp
theorem quiet_neq_agg {W : World} {o : Oper} {a : Act} {K : Act → Prop} (t t2 : TypeId) (x y : Operand) (ho : o.op = .binOp .neq t x y t2) (u v : Array Value) (hx : a.eval x = .agg u) (hy : a.eval y = .agg v) (r : Bool) (he : ∀ w, (Op.equalIn 10000 t (.agg u) (.agg v)).run Tryz.prog w = .ok r w)
    (hg : ∀ w, (eqGuard .neq t x y (.agg u) (.agg v)).run Tryz.prog w = .ok () w) (s : Bool) (hs : (!r) = s) (hk : K (a.put o.dst (.bool s))) : o.quiet Tryz.prog a (fun w' => ∃ x : Later W, w' = x.1) K := by
  subst hs
  refine ⟨_, fun w hw => ?_, hk⟩
  have h1 := he w
  have h2 := hg w
  unfold Oper.quietAt execOp
  simp only [ho, hx, hy]
  go_simp
/-- Two Cpus, two rows of registers, two Pmps compared. -/
def xEq (f g : Nat → BitVec 64) : Bool := (List.range 32).all fun j => n64 (f j) == n64 (g j)
def pEq (c : Nat → BitVec 8) (a : Nat → BitVec 64) (c' : Nat → BitVec 8) (a' : Nat → BitVec 64) : Bool := (List.range 16).all (fun j => n8 (c j) == n8 (c' j)) && (List.range 16).all (fun j => n64 (a j) == n64 (a' j))
def rEq (k k' : Cp) : Bool := (k.rv == k'.rv) && (n64 k.ra == n64 k'.ra) && (k.rs == k'.rs)
def eqC (k k' : Cp) : Bool := (n64 k.pc == n64 k'.pc) && xEq k.x k'.x && (k.md == k'.md) && (k.wt == k'.wt) && ((List.range 12).all fun j => n64 (k.s j) == n64 (k'.s j)) && pEq k.c k.a k'.c k'.a && rEq k k'
theorem xEq_iff (f g : Nat → BitVec 64) : xEq f g = true ↔ ∀ j, j < 32 → f j = g j := by
  unfold xEq; simp [n64_inj]
theorem pEq_iff (c : Nat → BitVec 8) (a : Nat → BitVec 64) (c' : Nat → BitVec 8) (a' : Nat → BitVec 64) : pEq c a c' a' = true ↔ (∀ j, j < 16 → c j = c' j) ∧ (∀ j, j < 16 → a j = a' j) := by
  unfold pEq; simp [n64_inj, n8_inj]
theorem eqC_alk (k k' : Cp) (h : eqC k k' = true) : Alk k k' := by
  unfold eqC rEq at h
  simp only [Bool.and_eq_true, beq_iff_eq, n64_inj, xEq_iff, pEq_iff] at h
  obtain ⟨⟨⟨⟨⟨⟨h0, hx⟩, hm⟩, hw⟩, hs⟩, hc, ha⟩, ⟨r0, r1⟩, r2⟩ := h
  exact ⟨h0, hx, hm, hw, by simpa [n64_inj] using hs, hc, ha, r0, r1, r2⟩
theorem cpc_inj_at {k k' : Cp} (h : cpc k = cpc k') (j : Nat) (hj : j < 82) : cpcell k j = cpcell k' j := by
  have e : (cpc k)[j]? = (cpc k')[j]? := by rw [h]
  rw [cpc_at _ _ hj, cpc_at _ _ hj] at e
  exact Option.some.inj e
theorem cpcell_xU (k : Cp) (j : Nat) (h : j < 32) : cpcell k (1 + j) = .int .u64 (n64 (k.x j)) := by
  unfold cpcell; rw [if_neg (by omega), if_pos (by omega), Nat.add_sub_cancel_left]
theorem cpcell_sU (k : Cp) (j : Nat) (h : j < 12) : cpcell k (35 + j) = .int .u64 (n64 (k.s j)) := by
  unfold cpcell; rw [if_neg (by omega), if_neg (by omega), if_neg (by omega), if_neg (by omega), if_pos (by omega), Nat.add_sub_cancel_left]
theorem cpcell_cU (k : Cp) (j : Nat) (h : j < 32) : cpcell k (47 + j) = pcell k.c k.a j := by
  unfold cpcell; rw [if_neg (by omega), if_neg (by omega), if_neg (by omega), if_neg (by omega), if_neg (by omega), if_pos (by omega), Nat.add_sub_cancel_left]
theorem v_int {k k' : IntKind} {a b : Int} (h : Value.int k a = Value.int k' b) : a = b := by cases h; rfl
theorem v_bool {a b : Bool} (h : Value.bool a = Value.bool b) : a = b := by cases h; rfl
theorem eqC_iff (k k' : Cp) : eqC k k' = true ↔ cpc k = cpc k' := by
  constructor
  · intro h; exact (eqC_alk k k' h).cells
  · intro h
    have at_ := cpc_inj_at h
    have hp : ∀ j, j < 32 → pcell k.c k.a j = pcell k'.c k'.a j := fun j hj => by have := at_ (47 + j) (by omega); rwa [cpcell_cU _ _ hj, cpcell_cU _ _ hj] at this
    unfold eqC rEq
    simp only [Bool.and_eq_true, beq_iff_eq, n64_inj, xEq_iff, pEq_iff]
    refine ⟨⟨⟨⟨⟨⟨n64_inj.1 (v_int (at_ 0 (by omega))), fun j hj => ?_⟩, v_int (at_ 33 (by omega))⟩, v_bool (at_ 34 (by omega))⟩, ?_⟩, fun j hj => ?_, fun j hj => ?_⟩, ⟨v_bool (at_ 79 (by omega)), n64_inj.1 (v_int (at_ 80 (by omega)))⟩, v_int (at_ 81 (by omega))⟩
    · have := at_ (1 + j) (by omega); rw [cpcell_xU _ _ hj, cpcell_xU _ _ hj] at this; exact n64_inj.1 (v_int this)
    · rw [List.all_eq_true]; intro j hj
      have hj' : j < 12 := by simpa using hj
      have := at_ (35 + j) (by omega); rw [cpcell_sU _ _ hj', cpcell_sU _ _ hj'] at this; simpa [n64_inj] using v_int this
    · have := hp j (by omega); unfold pcell at this; rw [if_pos hj, if_pos hj] at this; exact n8_inj.1 (v_int this)
    · have := hp (16 + j) (by omega); unfold pcell at this; rw [if_neg (by omega), if_neg (by omega), Nat.add_sub_cancel_left] at this; exact n64_inj.1 (v_int this)
theorem eq_of_cmp {P : Program} {w : World} {d : Nat} {t : TypeId} {a b : Value} {p : Prop} (h : Cmp P w d t a b p) (r : Bool) (hr : r = true ↔ p) : (Op.equalIn d t a b).run P w = .ok r w := by
  obtain ⟨r', h1, h2⟩ := h
  have e : r' = r := by cases r <;> cases r' <;> simp_all
  rw [← e]; exact h1
theorem eq_cpuU (k k' : Cp) (w : World) : (Op.equalIn 10000 32 (.agg (cpc k)) (.agg (cpc k'))).run Tryz.prog w = .ok (eqC k k') w := eq_of_cmp (cmp_cpu w 9996 k k') _ (eqC_iff k k')
theorem eqG_cpuU (x y : Operand) (u v : Array Value) (w : World) : (eqGuard .eql 32 x y (.agg u) (.agg v)).run Tryz.prog w = .ok () w := by kernel_rfl
theorem eqN_cpuU (x y : Operand) (u v : Array Value) (w : World) : (eqGuard .neq 32 x y (.agg u) (.agg v)).run Tryz.prog w = .ok () w := by kernel_rfl
theorem eq_pmpU (c : Nat → BitVec 8) (a : Nat → BitVec 64) (c' : Nat → BitVec 8) (a' : Nat → BitVec 64) (w : World) : (Op.equalIn 10000 28 (.agg (pc c a)) (.agg (pc c' a'))).run Tryz.prog w = .ok (pEq c a c' a') w := eq_of_cmp (cmp_pmp w 9997 c c' a a') _ (by rw [pEq_iff]; simp)
theorem eqG_pmpU (x y : Operand) (u v : Array Value) (w : World) : (eqGuard .eql 28 x y (.agg u) (.agg v)).run Tryz.prog w = .ok () w := by kernel_rfl
/-- 32 registers as a row. -/
def xsc (f : Nat → BitVec 64) : Array Value := Array.ofFn (n := 32) fun j => .int .u64 (n64 (f j.val))
theorem xsc_size (f : Nat → BitVec 64) : (xsc f).size = 32 := by simp [xsc]
theorem xsc_at (f : Nat → BitVec 64) (j : Nat) (h : j < 32) : (xsc f)[j]? = some (.int .u64 (n64 (f j))) := by simp [xsc, h]
theorem xsc_ones (f : Nat → BitVec 64) : (xsc f).all (·.oneCell') = true := by rw [Array.all_eq_true]; intro i hi; simp [xsc, Value.oneCell']
theorem info_xs (f : Nat → BitVec 64) : (Tryz.prog.info? 24).map (·.size) = some (xsc f).size := by rw [xsc_size]; kernel_rfl
theorem eq_xsU (f g : Nat → BitVec 64) (w : World) : (Op.equalIn 10000 24 (.agg (xsc f)) (.agg (xsc g))).run Tryz.prog w = .ok (xEq f g) w := by
  have e : ∀ f : Nat → BitVec 64, xsc f = (cpc ⟨0, f, 0, false, f, fun _ => 0, f, false, 0, 0⟩).extract 1 (1 + 32) := fun f => by
    apply Array.ext_getElem?
    intro j
    by_cases hj : j < 32
    · rw [xsc_at _ _ hj, cpc_xs _ _ hj]
    · rw [Array.getElem?_eq_none (by rw [xsc_size]; omega), Array.getElem?_eq_none (by rw [Array.size_extract, cpc_size]; omega)]
  rw [e f, e g]
  exact eq_of_cmp (cmp_xs w 9998 _ _) _ (xEq_iff f g)
theorem eqG_xsU (x y : Operand) (u v : Array Value) (w : World) : (eqGuard .eql 24 x y (.agg u) (.agg v)).run Tryz.prog w = .ok () w := by kernel_rfl
theorem Row.xsU {w : World} {g : Nat} {k : Cp} {t : TypeId} (h : Row w g (cpc k) t) : ∀ j v, (xsc k.x)[j]? = some v → w.cell? ⟨g, 1 + j, none⟩ = some v := fun j v hv => by
  by_cases hj : j < 32
  · rw [xsc_at _ _ hj] at hv; rw [h.cell, cpc_at _ _ (by omega), cpcell_xU _ _ hj]; exact hv
  · rw [Array.getElem?_eq_none (by rw [xsc_size]; omega)] at hv; cases hv
theorem Row.pmU {w : World} {g : Nat} {k : Cp} {t : TypeId} (h : Row w g (cpc k) t) : ∀ j v, (pc k.c k.a)[j]? = some v → w.cell? ⟨g, 47 + j, none⟩ = some v := fun j v hv => by
  have := h.cpu.pmp j v hv; rwa [Nat.zero_add] at this
end Go.Proofs.YtidfndgedopghaaGreatDoor
namespace Go.Proofs.YtidfndgedopghaaGreatDoor
set_option linter.unusedVariables false
set_option maxRecDepth 100000
set_option maxHeartbeats 4000000
open Go.ChangeShapes Go.WideShapes Go.ChangeAt Go.RowKit Go.Deep
def kdB (k : Int) : Bool := ((decide (1 ≤ k)) && (decide (k ≤ 5)))
theorem uKind_c (k : Int) (w : World) : Calls Tryz.prog 61 #[.int .i64 k] w fun e w' => e = .returned (.bool (kdB k)) ∧ w' = w := by
  have BB : Hid (Below w.heap.size w w) := Below.refl _ _
  have HM : Hid ((kdB k) = ((decide (1 ≤ k)) && (decide (k ≤ 5)))) := rfl
  generalize hZ : (kdB k) = Z at HM ⊢
  clear hZ
  go_enter Tryz.func61, Tryz.ntmps61
  go_upto_region 1 with fail
  cases q1 : (decide (1 ≤ k))
  focus
    have HV : Hid (Z = false) := (by unfold Hid; rw [HM.out]; first | (rw [q1]; done) | (rw [q1]; rfl))
  rotate_left 1
  focus
    cases q2 : (decide (k ≤ 5))
    focus
      have HV : Hid (Z = false) := (by unfold Hid; rw [HM.out]; first | (rw [q1, q2]; done) | (rw [q1, q2]; rfl))
    rotate_left 1
    focus
      have HV : Hid (Z = true) := (by unfold Hid; rw [HM.out]; first | (rw [q1, q2]; done) | (rw [q1, q2]; rfl))
    rotate_left 1
  rotate_left 2
  all_goals
    clear HM
    go_wp2
    go_ret
    exact ⟨by rw [HV.out]; first | done | rfl, rfl⟩
def mdB (k : Int) : Bool := ((k == 0) || (k == 3))
theorem uMode_c (k : Int) (w : World) : Calls Tryz.prog 121 #[.int .i64 k] w fun e w' => e = .returned (.bool (mdB k)) ∧ w' = w := by
  have BB : Hid (Below w.heap.size w w) := Below.refl _ _
  have HM : Hid ((mdB k) = ((k == 0) || (k == 3))) := rfl
  generalize hZ : (mdB k) = Z at HM ⊢
  clear hZ
  go_enter Tryz.func121, Tryz.ntmps121
  go_upto_region 1 with fail
  cases q1 : (k == 0)
  focus
    cases q2 : (k == 3)
    focus
      have HV : Hid (Z = false) := (by unfold Hid; rw [HM.out]; first | (rw [q1, q2]; done) | (rw [q1, q2]; rfl))
    rotate_left 1
    focus
      have HV : Hid (Z = true) := (by unfold Hid; rw [HM.out]; first | (rw [q1, q2]; done) | (rw [q1, q2]; rfl))
    rotate_left 1
  rotate_left 2
  focus
    have HV : Hid (Z = true) := (by unfold Hid; rw [HM.out]; first | (rw [q1]; done) | (rw [q1]; rfl))
  rotate_left 1
  all_goals
    clear HM
    go_wp2
    go_ret
    exact ⟨by rw [HV.out]; first | done | rfl, rfl⟩
def tpB (r : Rw) : Bool := ((r.kd == 2) || (r.kd == 3))
theorem uTrap_c (r : Rw) (w : World) : Calls Tryz.prog 78 #[.agg (rwc r)] w fun e w' => e = .returned (.bool (tpB r)) ∧ Below w.heap.size w w' := by
  obtain ⟨W0, hW0, r0, b0, s0⟩ := start1 w (rwc r) 52
  have BB := Hid.mkU b0.out
  clear s0 b0
  have HM : Hid ((tpB r) = ((r.kd == 2) || (r.kd == 3))) := rfl
  have c0_kd : W0.cell? ⟨w.heap.size, 1, none⟩ = some (.int .i64 r.kd) := r0.out.cell 1
  generalize hZ : (tpB r) = Z at HM ⊢
  clear hZ
  go_enter Tryz.func78, Tryz.ntmps78
  go_upto_region 1 with fail
  clear hW0
  cases q1 : (r.kd == 2)
  focus
    cases q2 : (r.kd == 3)
    focus
      have HV : Hid (Z = false) := (by unfold Hid; rw [HM.out]; first | (rw [q1, q2]; done) | (rw [q1, q2]; rfl))
    rotate_left 1
    focus
      have HV : Hid (Z = true) := (by unfold Hid; rw [HM.out]; first | (rw [q1, q2]; done) | (rw [q1, q2]; rfl))
    rotate_left 1
  rotate_left 2
  focus
    have HV : Hid (Z = true) := (by unfold Hid; rw [HM.out]; first | (rw [q1]; done) | (rw [q1]; rfl))
  rotate_left 1
  all_goals
    clear HM
    go_wp2
    go_ret
    exact ⟨by rw [HV.out]; first | done | rfl, BB.out⟩
def wcB (r : Rw) : Bool := ((r.kd == 1) && (bits .and .u32 r.raw 127 == 115))
theorem uMayW_c (r : Rw) (w : World) : Calls Tryz.prog 86 #[.agg (rwc r)] w fun e w' => e = .returned (.bool (wcB r)) ∧ Below w.heap.size w w' := by
  obtain ⟨W0, hW0, r0, b0, s0⟩ := start1 w (rwc r) 52
  have BB := Hid.mkU b0.out
  clear s0 b0
  have HM : Hid ((wcB r) = ((r.kd == 1) && (bits .and .u32 r.raw 127 == 115))) := rfl
  have c0_kd : W0.cell? ⟨w.heap.size, 1, none⟩ = some (.int .i64 r.kd) := r0.out.cell 1
  have c0_raw : W0.cell? ⟨w.heap.size, 4, none⟩ = some (.int .u32 r.raw) := r0.out.cell 4
  generalize hZ : (wcB r) = Z at HM ⊢
  clear hZ
  go_enter Tryz.func86, Tryz.ntmps86
  go_upto_region 1 with fail
  clear hW0
  cases q1 : (r.kd == 1)
  focus
    have HV : Hid (Z = false) := (by unfold Hid; rw [HM.out]; first | (rw [q1]; done) | (rw [q1]; rfl))
  rotate_left 1
  focus
    cases q2 : (bits .and .u32 r.raw 127 == 115)
    focus
      have HV : Hid (Z = false) := (by unfold Hid; rw [HM.out]; first | (rw [q1, q2]; done) | (rw [q1, q2]; rfl))
    rotate_left 1
    focus
      have HV : Hid (Z = true) := (by unfold Hid; rw [HM.out]; first | (rw [q1, q2]; done) | (rw [q1, q2]; rfl))
    rotate_left 1
  rotate_left 2
  all_goals
    clear HM
    go_wp2
    go_ret
    exact ⟨by rw [HV.out]; first | done | rfl, BB.out⟩
def bgB (r : Rw) (k : Cp) : Bool := ((n64 r.pc == n64 k.pc) && (r.md == k.md))
theorem uBeg_c (r : Rw) (k : Cp) (w : World) : Calls Tryz.prog 62 #[.agg (rwc r), .agg (cpc k)] w fun e w' => e = .returned (.bool (bgB r k)) ∧ Below w.heap.size w w' := by
  obtain ⟨W0, hW0, r0, r1, b0, s0⟩ := start2 w (rwc r) (cpc k) 52 32
  have BB := Hid.mkU b0.out
  clear s0 b0
  have HM : Hid ((bgB r k) = ((n64 r.pc == n64 k.pc) && (r.md == k.md))) := rfl
  have c0_pc : W0.cell? ⟨w.heap.size, 3, none⟩ = some (.int .u64 (n64 r.pc)) := r0.out.cell 3
  have c0_md : W0.cell? ⟨w.heap.size, 2, none⟩ = some (.int .i64 r.md) := r0.out.cell 2
  have c1_pc : W0.cell? ⟨w.heap.size + 1, 0, none⟩ = some (.int .u64 (n64 k.pc)) := (r1.out.cell 0).trans (cpc_at _ 0 (by omega))
  have c1_md : W0.cell? ⟨w.heap.size + 1, 33, none⟩ = some (.int .i64 k.md) := (r1.out.cell 33).trans (cpc_at _ 33 (by omega))
  generalize hZ : (bgB r k) = Z at HM ⊢
  clear hZ
  go_enter Tryz.func62, Tryz.ntmps62
  go_upto_region 1 with fail
  clear hW0
  cases q1 : (n64 r.pc == n64 k.pc)
  focus
    have HV : Hid (Z = false) := (by unfold Hid; rw [HM.out]; first | (rw [q1]; done) | (rw [q1]; rfl))
  rotate_left 1
  focus
    cases q2 : (r.md == k.md)
    focus
      have HV : Hid (Z = false) := (by unfold Hid; rw [HM.out]; first | (rw [q1, q2]; done) | (rw [q1, q2]; rfl))
    rotate_left 1
    focus
      have HV : Hid (Z = true) := (by unfold Hid; rw [HM.out]; first | (rw [q1, q2]; done) | (rw [q1, q2]; rfl))
    rotate_left 1
  rotate_left 2
  all_goals
    clear HM
    go_wp2
    go_ret
    exact ⟨by rw [HV.out]; first | done | rfl, BB.out⟩
def enB (r : Rw) (k : Cp) : Bool := ((n64 r.nx == n64 k.pc) && (r.nm == k.md))
theorem uEnd_c (r : Rw) (k : Cp) (w : World) : Calls Tryz.prog 43 #[.agg (rwc r), .agg (cpc k)] w fun e w' => e = .returned (.bool (enB r k)) ∧ Below w.heap.size w w' := by
  obtain ⟨W0, hW0, r0, r1, b0, s0⟩ := start2 w (rwc r) (cpc k) 52 32
  have BB := Hid.mkU b0.out
  clear s0 b0
  have HM : Hid ((enB r k) = ((n64 r.nx == n64 k.pc) && (r.nm == k.md))) := rfl
  have c0_nx : W0.cell? ⟨w.heap.size, 14, none⟩ = some (.int .u64 (n64 r.nx)) := r0.out.cell 14
  have c0_nm : W0.cell? ⟨w.heap.size, 15, none⟩ = some (.int .i64 r.nm) := r0.out.cell 15
  have c1_pc : W0.cell? ⟨w.heap.size + 1, 0, none⟩ = some (.int .u64 (n64 k.pc)) := (r1.out.cell 0).trans (cpc_at _ 0 (by omega))
  have c1_md : W0.cell? ⟨w.heap.size + 1, 33, none⟩ = some (.int .i64 k.md) := (r1.out.cell 33).trans (cpc_at _ 33 (by omega))
  generalize hZ : (enB r k) = Z at HM ⊢
  clear hZ
  go_enter Tryz.func43, Tryz.ntmps43
  go_upto_region 1 with fail
  clear hW0
  cases q1 : (n64 r.nx == n64 k.pc)
  focus
    have HV : Hid (Z = false) := (by unfold Hid; rw [HM.out]; first | (rw [q1]; done) | (rw [q1]; rfl))
  rotate_left 1
  focus
    cases q2 : (r.nm == k.md)
    focus
      have HV : Hid (Z = false) := (by unfold Hid; rw [HM.out]; first | (rw [q1, q2]; done) | (rw [q1, q2]; rfl))
    rotate_left 1
    focus
      have HV : Hid (Z = true) := (by unfold Hid; rw [HM.out]; first | (rw [q1, q2]; done) | (rw [q1, q2]; rfl))
    rotate_left 1
  rotate_left 2
  all_goals
    clear HM
    go_wp2
    go_ret
    exact ⟨by rw [HV.out]; first | done | rfl, BB.out⟩
def rnB (r : Rw) : Bool := (((n64 r.ad == 0) && (r.sz == 0)) && (n64 r.dat == 0))
theorem uRn_c (r : Rw) (w : World) : Calls Tryz.prog 156 #[.agg (rwc r)] w fun e w' => e = .returned (.bool (rnB r)) ∧ Below w.heap.size w w' := by
  obtain ⟨W0, hW0, r0, b0, s0⟩ := start1 w (rwc r) 52
  have BB := Hid.mkU b0.out
  clear s0 b0
  have HM : Hid ((rnB r) = (((n64 r.ad == 0) && (r.sz == 0)) && (n64 r.dat == 0))) := rfl
  have c0_ad : W0.cell? ⟨w.heap.size, 11, none⟩ = some (.int .u64 (n64 r.ad)) := r0.out.cell 11
  have c0_sz : W0.cell? ⟨w.heap.size, 12, none⟩ = some (.int .i64 r.sz) := r0.out.cell 12
  have c0_dat : W0.cell? ⟨w.heap.size, 13, none⟩ = some (.int .u64 (n64 r.dat)) := r0.out.cell 13
  generalize hZ : (rnB r) = Z at HM ⊢
  clear hZ
  go_enter Tryz.func156, Tryz.ntmps156
  go_upto_region 1 with fail
  clear hW0
  cases q1 : (n64 r.ad == 0)
  focus
    have HV : Hid (Z = false) := (by unfold Hid; rw [HM.out]; first | (rw [q1]; done) | (rw [q1]; rfl))
  rotate_left 1
  focus
    cases q2 : (r.sz == 0)
    focus
      have HV : Hid (Z = false) := (by unfold Hid; rw [HM.out]; first | (rw [q1, q2]; done) | (rw [q1, q2]; rfl))
    rotate_left 1
    focus
      cases q3 : (n64 r.dat == 0)
      focus
        have HV : Hid (Z = false) := (by unfold Hid; rw [HM.out]; first | (rw [q1, q2, q3]; done) | (rw [q1, q2, q3]; rfl))
      rotate_left 1
      focus
        have HV : Hid (Z = true) := (by unfold Hid; rw [HM.out]; first | (rw [q1, q2, q3]; done) | (rw [q1, q2, q3]; rfl))
      rotate_left 1
    rotate_left 2
  rotate_left 3
  all_goals
    clear HM
    go_wp2
    go_ret
    exact ⟨by rw [HV.out]; first | done | rfl, BB.out⟩
def dnB (r : Rw) : Bool := ((((r.rd == 0) && (n64 r.val == 0)) && (r.mem == 0)) && (rnB r))
theorem uDn_c (r : Rw) (w : World) : Calls Tryz.prog 135 #[.agg (rwc r)] w fun e w' => e = .returned (.bool (dnB r)) ∧ Below w.heap.size w w' := by
  obtain ⟨W0, hW0, r0, b0, s0⟩ := start1 w (rwc r) 52
  have BB := Hid.mkU b0.out
  clear s0 b0
  have HM : Hid ((dnB r) = ((((r.rd == 0) && (n64 r.val == 0)) && (r.mem == 0)) && (rnB r))) := rfl
  have c0_rd : ∀ x : Later W0, x.1.cell? ⟨w.heap.size, 8, none⟩ = some (.int .i64 r.rd) := fun x => (lrow r0.out x).cell 8
  have c0_val : ∀ x : Later W0, x.1.cell? ⟨w.heap.size, 9, none⟩ = some (.int .u64 (n64 r.val)) := fun x => (lrow r0.out x).cell 9
  have c0_mem : ∀ x : Later W0, x.1.cell? ⟨w.heap.size, 10, none⟩ = some (.int .i64 r.mem) := fun x => (lrow r0.out x).cell 10
  have HRN : Hid (∀ W, Calls Tryz.prog 156 #[.agg (rwc r)] W fun e w' => e = .returned (.bool (rnB r)) ∧ Below W.heap.size W w') := uRn_c r
  generalize hZ : (dnB r) = Z at HM ⊢
  clear hZ
  go_enter Tryz.func135, Tryz.ntmps135
  go_upto_region 1 with fail
  clear hW0
  have hne := later_nonempty W0
  cases q1 : (r.rd == 0)
  focus
    have HV : Hid (Z = false) := (by unfold Hid; rw [HM.out]; first | (rw [q1]; done) | (rw [q1]; rfl))
  rotate_left 1
  focus
    cases q2 : (n64 r.val == 0)
    focus
      have HV : Hid (Z = false) := (by unfold Hid; rw [HM.out]; first | (rw [q1, q2]; done) | (rw [q1, q2]; rfl))
    rotate_left 1
    focus
      cases q3 : (r.mem == 0)
      focus
        have HV : Hid (Z = false) := (by unfold Hid; rw [HM.out]; first | (rw [q1, q2, q3]; done) | (rw [q1, q2, q3]; rfl))
      rotate_left 1
      focus
        cases q4 : (rnB r)
        focus
          have HV : Hid (Z = false) := (by unfold Hid; rw [HM.out]; first | (rw [q1, q2, q3, q4]; done) | (rw [q1, q2, q3, q4]; rfl))
        rotate_left 1
        focus
          have HV : Hid (Z = true) := (by unfold Hid; rw [HM.out]; first | (rw [q1, q2, q3, q4]; done) | (rw [q1, q2, q3, q4]; rfl))
        rotate_left 1
      rotate_left 2
    rotate_left 3
  rotate_left 4
  all_goals
    clear HM
    refine wp_region_plain (x0 := Later.start W0) ?_
    iterate 14 (go_big_quiet_step (fail))
    (first | (go_big_quiet_want; refine quiet_load_agg 52 _ (by rfl) (w.heap.size) 0 (by rfl) (rwc r) _ r0.out.lt (lrow_cells r0.out) Tryz.underlying52 (by rfl) (info_rw _) ?_; simp only [Act.put, List.setIfInBounds_toArray, List.set_cons_succ, List.set_cons_zero]; go_big_quiet_on) | (go_big_quiet_step (fail)))
    (go_big_quiet_step ((go_at_call 156; exact calls_later (HRN.out _))))
    iterate 2 (go_big_quiet_step (fail))
    refine wpQuiet_nil ?_
    rintro _ ⟨yq, rfl⟩
    go_wp2
    go_ret
    exact ⟨by rw [HV.out]; first | done | rfl, BB.out.trans (yq.2.mono BB.out.size)⟩
end Go.Proofs.YtidfndgedopghaaGreatDoor
