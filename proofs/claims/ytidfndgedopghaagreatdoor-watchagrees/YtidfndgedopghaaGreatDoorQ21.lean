/-
  Qtl Ua.
-/
import Derived.Test.YtidfndgedopghaaGreatDoorQ01
import Derived.StillTailTactics
import Derived.Test.YtidfndgedopghaaGreatDoorQ10
import Derived.Test.YtidfndgedopghaaGreatDoorQ16
import Derived.Test.YtidfndgedopghaaGreatDoorQ17
import Derived.Test.YtidfndgedopghaaGreatDoorQ11
import Derived.Test.YtidfndgedopghaaGreatDoorQ20
import Derived.Test.YtidfndgedopghaaGreatDoorQ09
namespace Go.Proofs.YtidfndgedopghaaGreatDoor
open Go.ChangeShapes Go.WideShapes Go.ChangeAt Go.RowKit Go.Deep
section
variable {P : Program} {ops : Array Oper} {md : Region.Mode} {C : World → Prop}
def wpAnyM (P : Program) (md : Region.Mode) (ops : Array Oper) (C : World → Prop) (n : Nat) (L : Array Bool → Act → Prop) : Nat → Array Bool → Act → Prop
  | 0, listed, a => L listed a
  | f + 1, listed, a => Region.ready md ops listed ≠ [] ∧ ∀ i ∈ Region.ready md ops listed, i < n ∧ qOp P ops C i (wpAnyM P md ops C n L f (listed.setIfInBounds i true)) a
theorem wpAny_of_M {n g : Nat} {L : Array Bool → Act → Prop} {Q' : Exit → Act → World → Prop} (hL : ∀ listed a w, C w → L listed a → wpAny P md ops Q' g listed a w) :
    ∀ (f : Nat) (listed : Array Bool) (a : Act) (w : World), C w → wpAnyM P md ops C n L f listed a → wpAny P md ops Q' (f + g) listed a w
  | 0, listed, a, w, hw, h => by rw [Nat.zero_add]; exact hL _ _ _ hw h
  | f + 1, listed, a, w, hw, h => by
    rw [Nat.add_right_comm f 1 g]
    exact ⟨fun h0 => absurd h0 h.1, fun i hi => wpOp_of_qOp hw (fun a' w' hw' h' => wpAny_of_M hL f _ a' w' hw' h') (h.2 i hi).2⟩
/-- While an operation of the head has not come up nothing behind the head is ready. -/
theorem head_only {n i : Nat} {listed : Array Bool} (hs : Region.sinkB md ops n = true) (hc : Region.chainB md ops n = true) (hn : n < ops.size) (inv : HeadInv md ops n listed) (hin : i < n) (hr : i ∈ Region.ready md ops listed) :
    ∀ j ∈ Region.ready md ops listed, j < n := fun j hj => by
  rcases Nat.lt_or_ge j n with h | h
  · exact h
  · exact absurd hj (tail_waits hs hc hn inv _ i rfl hin (mem_ready.1 hr).1 j h)
theorem wpAnyM_first {n i : Nat} {oi : Oper} {v : Value} {L : Array Bool → Act → Prop} (hi : ops[i]? = some oi) (hsel : ∀ (j : Nat) (o : Oper) cs b, ops[j]? = some o → o.op ≠ .select cs b)
    (hs : Region.sinkB md ops n = true) (hc : Region.chainB md ops n = true) (hn : n < ops.size) (hin : i < n) (hdone : ∀ listed a, L listed a → ∀ j ∈ Region.ready md ops listed, n ≤ j) :
    ∀ (f : Nat) (listed : Array Bool) (a : Act), HeadInv md ops n listed →
      (∀ j oj, ops[j]? = some oj → j ≠ i → listed.getD j true = false → (∀ e ∈ oj.after, Region.binds md e = true → e.on ≠ i) → oi.apart ops oj = true) →
      i ∈ Region.ready md ops listed → YieldsIn P ops C oi v a →
      wpAnyM P md ops C n L f (listed.setIfInBounds i true) (a.put oi.dst v) → wpAnyM P md ops C n L (f + 1) listed a := by
  intro f
  induction f with
  | zero =>
    intro listed a inv _ hr hy H
    refine ⟨List.ne_nil_of_mem hr, fun j hj => ⟨head_only hs hc hn inv hin hr j hj, ?_⟩⟩
    by_cases e : j = i
    · subst e; exact hy.qOp hi H
    · have h1 := hdone _ _ H j (ready_mono hj e)
      have h2 := head_only hs hc hn inv hin hr j hj
      omega
  | succ f ih =>
    intro listed a inv hfree hr hy H
    refine ⟨List.ne_nil_of_mem hr, fun j hj => ⟨head_only hs hc hn inv hin hr j hj, ?_⟩⟩
    by_cases e : j = i
    · subst e; exact hy.qOp hi H
    · obtain ⟨hun, oj, hoj, hall⟩ := mem_ready.1 hj
      have hap : oi.apart ops oj = true := hfree j oj hoj e hun fun q hq hb heq => by
        have h1 := hall q hq hb
        rw [heq, getD_both (mem_ready.1 hr).1] at h1
        cases h1
      refine qOp_mono (fun a' h3 => ih (listed.setIfInBounds j true) a' (inv.set hj (head_only hs hc hn inv hin hr j hj)) (fun k ok hk hki hunk hno => ?_) (ready_mono hr (Ne.symm e)) h3.1 ?_)
        (qOp_put hoj hap (fun cs b => hsel i oi cs b hi) (fun cs b => hsel j oj cs b hoj) hy (H.2 j (ready_mono hj e)).2)
      · refine hfree k ok hk hki ?_ hno
        by_cases e2 : j = k
        · subst e2; exact hun
        · rwa [getD_set_ne true e2] at hunk
      · rw [Array.setIfInBounds_comm _ _ e]; exact h3.2
theorem wpAnyM_lex {n g : Nat} {Lq : Act → Prop} (hsel : Region.noSelect ops = true) (hs : Region.sinkB md ops n = true) (hc : Region.chainB md ops n = true) (hn : n < ops.size) :
    ∀ (l : List Oper) (k : Nat) (listed : Array Bool) (a : Act), (∀ j, j < l.length → l[j]? = ops[k + j]?) → k + l.length = n → HeadInv md ops n listed →
    Region.lexHead md ops g l.length k listed = true → wpQuiet P ops C Lq l a → wpAnyM P md ops C n (fun listed' a' => Region.seqB md ops g n listed' = true ∧ Lq a') l.length listed a
  | [], k, listed, a, _, hk, _, hB, h => by
    obtain rfl : k = n := by simpa using hk
    exact ⟨by simpa [Region.lexHead] using hB, h⟩
  | o :: l, k, listed, a, hl, hk, inv, hB, h => by
    simp only [List.length_cons] at hk
    have h0 : ops[k]? = some o := by simpa using (hl 0 (by simp)).symm
    simp only [List.length_cons, Region.lexHead, Bool.and_eq_true] at hB
    have hr : k ∈ Region.ready md ops listed := by simpa using hB.1.1
    obtain ⟨v, hy, hK⟩ := yieldsIn_of_qOp (K := wpQuiet P ops C Lq l) h0 (by unfold qOp; simp only [h0]; exact h)
    refine wpAnyM_first h0 (Region.noSelect_spec hsel) hs hc hn (by omega) (fun listed' a' hL => seqB_ready hL.1) l.length listed a inv (Region.free_spec h0 hB.1.2) hr hy ?_
    refine wpAnyM_lex hsel hs hc hn l (k + 1) _ _ (fun j hj => ?_) (by omega) (inv.set hr (by omega)) hB.2 hK
    have := hl (j + 1) (by simp; omega)
    simpa [Nat.add_assoc, Nat.add_comm 1 j] using this
theorem wp_region_quiet_tail {id : Nat} {Q : Exit → Act → World → Prop} {a : Act} {w : World} {l : List Oper} (n : Nat) (hm : P.follows .mixedOrders = true) (hB : Region.lexTailB .any l.toArray n = true) (hC : C { w with drawn := w.drawn + 1 })
    (h : wpQuiet P l.toArray C (fun a' => ∀ w', C w' → wpList P l.toArray Q (l.drop n) a' w') (l.take n) a) : (Code.region id l.toArray true).wp P Q a w := by
  simp only [Region.lexTailB, Bool.and_eq_true, decide_eq_true_eq] at hB
  obtain ⟨⟨⟨⟨hsel, hn⟩, hs⟩, hc⟩, hlex⟩ := hB
  have hn' : n < l.length := by simpa using hn
  have ht : (l.take n).length = n := by simp; omega
  have hd : (l.drop n).length = l.toArray.size - n := by simp
  have H := wpAnyM_lex (md := .any) (g := l.toArray.size - n) hsel hs hc hn (l.take n) 0 (Array.replicate l.toArray.size false) a (fun j hj => by
    rw [ht] at hj
    simp [hj]) (by simpa using ht) ⟨by simp, fun j oj _ hl => (by rw [getD_replicate_false] at hl; cases hl), fun t _ ht' => getD_in (by simpa using ht') (getD_replicate_false _ _)⟩ (by rw [ht]; exact hlex) h
  have G := wpAny_of_M (Q' := Q) (g := l.toArray.size - n) (fun listed a' w' hw' hL => by
    have := wpAny_of_seq (md := .any) (Q' := Q) (l.drop n) n listed a' w' (fun j => by simp [List.getElem?_drop]) (by rw [hd]; exact hL.1) (hL.2 w' hw')
    rwa [hd] at this) _ _ _ _ hC H
  rw [ht, show n + (l.toArray.size - n) = l.toArray.size by omega] at G
  exact wp_region_any hm G
end
/-- So, at the class of later worlds. -/
theorem wp_region_later_tail {P : Program} {id : Nat} {Q : Exit → Act → World → Prop} {a : Act} {W : World} {x0 : Later W} {l : List Oper} (n : Nat) (hm : P.follows .mixedOrders = true) (hB : Region.lexTailB .any l.toArray n = true)
    (h : wpQuiet P l.toArray (fun w' => ∃ x : Later W, w' = x.1) (fun a' => ∀ w', (∃ x : Later W, w' = x.1) → wpList P l.toArray Q (l.drop n) a' w') (l.take n) a) : (Code.region id l.toArray true).wp P Q a x0.1 :=
  wp_region_quiet_tail (C := fun w' => ∃ x : Later W, w' = x.1) n hm hB ⟨⟨_, x0.2.drew⟩, rfl⟩ h
end Go.Proofs.YtidfndgedopghaaGreatDoor
namespace Go.Proofs.YtidfndgedopghaaGreatDoor
set_option linter.unusedVariables false
set_option maxRecDepth 100000
open Go.ChangeShapes Go.WideShapes Go.ChangeAt Go.RowKit Go.Deep
/-- A row of a trace. -/
structure Rw where
  st : Int
  kd : Int
  md : Int
  pc : BitVec 64
  raw : Int
  len : Int
  ca : BitVec 64
  tv : BitVec 64
  rd : Int
  val : BitVec 64
  mem : Int
  ad : BitVec 64
  sz : Int
  dat : BitVec 64
  nx : BitVec 64
  nm : Int
def rwc (r : Rw) : Array Value := #[.int .i64 r.st, .int .i64 r.kd, .int .i64 r.md, .int .u64 (n64 r.pc), .int .u32 r.raw, .int .i64 r.len, .int .u64 (n64 r.ca), .int .u64 (n64 r.tv), .int .i64 r.rd, .int .u64 (n64 r.val), .int .i64 r.mem, .int .u64 (n64 r.ad), .int .i64 r.sz, .int .u64 (n64 r.dat), .int .u64 (n64 r.nx), .int .i64 r.nm]
theorem rwc_size (r : Rw) : (rwc r).size = 16 := rfl
theorem rwc_ones (r : Rw) : (rwc r).all (·.oneCell') = true := by simp [rwc, Value.oneCell']
theorem info_rw (r : Rw) : (Tryz.prog.info? 52).map (·.size) = some (rwc r).size := by rw [rwc_size]; kernel_rfl
theorem info_cpuU (K : Cp) : (Tryz.prog.info? 32).map (·.size) = some (cpc K).size := by rw [cpc_size]; kernel_rfl
theorem info_pmpU (c : Nat → BitVec 8) (a : Nat → BitVec 64) : (Tryz.prog.info? 28).map (·.size) = some (pc c a).size := by rw [pc_size]; kernel_rfl
/-- A row that stays in every later world. -/
theorem lrow {W : World} {g : Nat} {cs : Array Value} {t : TypeId} (h : Row W g cs t) (x : Later W) : Row x.1 g cs t := h.later x.2 h.lt
theorem lrow_cells {W : World} {g : Nat} {cs : Array Value} {t : TypeId} (h : Row W g cs t) : ∀ j v, cs[j]? = some v → W.cell? ⟨g, 0 + j, none⟩ = some v := fun j v hv => by rw [Nat.zero_add, h.cell]; exact hv
theorem Hid.mkU {p : Prop} (h : p) : Hid p := h
/-- A region that is walked in its order, by what is true in every later world. -/
theorem wpList_of_quiet {P : Program} {ops : Array Oper} {C : World → Prop} {Q : Exit → Act → World → Prop} : ∀ (l : List Oper) (a : Act) (w : World), C w → wpQuiet P ops C (fun a' => ∀ w', C w' → Q .normal a' w') l a → wpList P ops Q l a w
  | [], _, w, hw, h => h w hw
  | o :: rest, a, w, hw, h => by
    unfold wpList
    unfold wpQuiet at h
    split at h <;> rename_i hq
    · rw [if_pos hq]; exact .inl (Oper.wp_of_quiet hw (fun a w' hw' hk => wpList_of_quiet rest a w' hw' hk) h)
    · rw [if_neg hq]; exact wpList_of_quiet rest _ w hw h
theorem wp_region_plain {P : Program} {id : Nat} {Q : Exit → Act → World → Prop} {a : Act} {W : World} {x0 : Later W} {l : List Oper}
    (h : wpQuiet P l.toArray (fun w' => ∃ x : Later W, w' = x.1) (fun a' => ∀ w', (∃ x : Later W, w' = x.1) → Q .normal a' w') l a) : (Code.region id l.toArray false).wp P Q a x0.1 :=
  wp_region_lit (wpList_of_quiet l a x0.1 ⟨x0, rfl⟩ h)
theorem quiet_eql_agg {W : World} {o : Oper} {a : Act} {K : Act → Prop} (t t2 : TypeId) (x y : Operand) (ho : o.op = .binOp .eql t x y t2) (u v : Array Value) (hx : a.eval x = .agg u) (hy : a.eval y = .agg v) (r : Bool) (he : ∀ w, (Op.equalIn 10000 t (.agg u) (.agg v)).run Tryz.prog w = .ok r w)
    (hg : ∀ w, (eqGuard .eql t x y (.agg u) (.agg v)).run Tryz.prog w = .ok () w) (hk : K (a.put o.dst (.bool r))) : o.quiet Tryz.prog a (fun w' => ∃ x : Later W, w' = x.1) K := by
  refine ⟨_, fun w hw => ?_, hk⟩
  have h1 := he w
  have h2 := hg w
  unfold Oper.quietAt execOp
  simp only [ho, hx, hy]
  go_simp
theorem quiet_neq_agg {W : World} {o : Oper} {a : Act} {K : Act → Prop} (t t2 : TypeId) (x y : Operand) (ho : o.op = .binOp .neq t x y t2) (u v : Array Value) (hx : a.eval x = .agg u) (hy : a.eval y = .agg v) (r : Bool) (he : ∀ w, (Op.equalIn 10000 t (.agg u) (.agg v)).run Tryz.prog w = .ok r w)
    (hg : ∀ w, (eqGuard .neq t x y (.agg u) (.agg v)).run Tryz.prog w = .ok () w) (s : Bool) (hs : (!r) = s) (hk : K (a.put o.dst (.bool s))) : o.quiet Tryz.prog a (fun w' => ∃ x : Later W, w' = x.1) K := by
  subst hs
  refine ⟨_, fun w hw => ?_, hk⟩
  have h1 := he w
  have h2 := hg w
  unfold Oper.quietAt execOp
  simp only [ho, hx, hy]
  go_simp
/-- Two Cpus, two rows of registers, two Pmps compared. -/
def xEq (f g : Nat → BitVec 64) : Bool := (List.range 32).all fun j => n64 (f j) == n64 (g j)
def pEq (c : Nat → BitVec 8) (a : Nat → BitVec 64) (c' : Nat → BitVec 8) (a' : Nat → BitVec 64) : Bool := (List.range 16).all (fun j => n8 (c j) == n8 (c' j)) && (List.range 16).all (fun j => n64 (a j) == n64 (a' j))
def rEq (k k' : Cp) : Bool := (k.rv == k'.rv) && (n64 k.ra == n64 k'.ra) && (k.rs == k'.rs)
def eqC (k k' : Cp) : Bool := (n64 k.pc == n64 k'.pc) && xEq k.x k'.x && (k.md == k'.md) && (k.wt == k'.wt) && ((List.range 12).all fun j => n64 (k.s j) == n64 (k'.s j)) && pEq k.c k.a k'.c k'.a && rEq k k'
theorem xEq_iff (f g : Nat → BitVec 64) : xEq f g = true ↔ ∀ j, j < 32 → f j = g j := by
  unfold xEq; simp [n64_inj]
theorem pEq_iff (c : Nat → BitVec 8) (a : Nat → BitVec 64) (c' : Nat → BitVec 8) (a' : Nat → BitVec 64) : pEq c a c' a' = true ↔ (∀ j, j < 16 → c j = c' j) ∧ (∀ j, j < 16 → a j = a' j) := by
  unfold pEq; simp [n64_inj, n8_inj]
theorem eqC_alk (k k' : Cp) (h : eqC k k' = true) : Alk k k' := by
  unfold eqC rEq at h
  simp only [Bool.and_eq_true, beq_iff_eq, n64_inj, xEq_iff, pEq_iff] at h
  obtain ⟨⟨⟨⟨⟨⟨h0, hx⟩, hm⟩, hw⟩, hs⟩, hc, ha⟩, ⟨r0, r1⟩, r2⟩ := h
  exact ⟨h0, hx, hm, hw, by simpa [n64_inj] using hs, hc, ha, r0, r1, r2⟩
theorem cpc_inj_at {k k' : Cp} (h : cpc k = cpc k') (j : Nat) (hj : j < 82) : cpcell k j = cpcell k' j := by
  have e : (cpc k)[j]? = (cpc k')[j]? := by rw [h]
  rw [cpc_at _ _ hj, cpc_at _ _ hj] at e
  exact Option.some.inj e
theorem cpcell_xU (k : Cp) (j : Nat) (h : j < 32) : cpcell k (1 + j) = .int .u64 (n64 (k.x j)) := by
  unfold cpcell; rw [if_neg (by omega), if_pos (by omega), Nat.add_sub_cancel_left]
theorem cpcell_sU (k : Cp) (j : Nat) (h : j < 12) : cpcell k (35 + j) = .int .u64 (n64 (k.s j)) := by
  unfold cpcell; rw [if_neg (by omega), if_neg (by omega), if_neg (by omega), if_neg (by omega), if_pos (by omega), Nat.add_sub_cancel_left]
theorem cpcell_cU (k : Cp) (j : Nat) (h : j < 32) : cpcell k (47 + j) = pcell k.c k.a j := by
  unfold cpcell; rw [if_neg (by omega), if_neg (by omega), if_neg (by omega), if_neg (by omega), if_neg (by omega), if_pos (by omega), Nat.add_sub_cancel_left]
theorem v_int {k k' : IntKind} {a b : Int} (h : Value.int k a = Value.int k' b) : a = b := by cases h; rfl
theorem v_bool {a b : Bool} (h : Value.bool a = Value.bool b) : a = b := by cases h; rfl
theorem eqC_iff (k k' : Cp) : eqC k k' = true ↔ cpc k = cpc k' := by
  constructor
  · intro h; exact (eqC_alk k k' h).cells
  · intro h
    have at_ := cpc_inj_at h
    have hp : ∀ j, j < 32 → pcell k.c k.a j = pcell k'.c k'.a j := fun j hj => by have := at_ (47 + j) (by omega); rwa [cpcell_cU _ _ hj, cpcell_cU _ _ hj] at this
    unfold eqC rEq
    simp only [Bool.and_eq_true, beq_iff_eq, n64_inj, xEq_iff, pEq_iff]
    refine ⟨⟨⟨⟨⟨⟨n64_inj.1 (v_int (at_ 0 (by omega))), fun j hj => ?_⟩, v_int (at_ 33 (by omega))⟩, v_bool (at_ 34 (by omega))⟩, ?_⟩, fun j hj => ?_, fun j hj => ?_⟩, ⟨v_bool (at_ 79 (by omega)), n64_inj.1 (v_int (at_ 80 (by omega)))⟩, v_int (at_ 81 (by omega))⟩
    · have := at_ (1 + j) (by omega); rw [cpcell_xU _ _ hj, cpcell_xU _ _ hj] at this; exact n64_inj.1 (v_int this)
    · rw [List.all_eq_true]; intro j hj
      have hj' : j < 12 := by simpa using hj
      have := at_ (35 + j) (by omega); rw [cpcell_sU _ _ hj', cpcell_sU _ _ hj'] at this; simpa [n64_inj] using v_int this
    · have := hp j (by omega); unfold pcell at this; rw [if_pos hj, if_pos hj] at this; exact n8_inj.1 (v_int this)
    · have := hp (16 + j) (by omega); unfold pcell at this; rw [if_neg (by omega), if_neg (by omega), Nat.add_sub_cancel_left] at this; exact n64_inj.1 (v_int this)
theorem eq_of_cmp {P : Program} {w : World} {d : Nat} {t : TypeId} {a b : Value} {p : Prop} (h : Cmp P w d t a b p) (r : Bool) (hr : r = true ↔ p) : (Op.equalIn d t a b).run P w = .ok r w := by
  obtain ⟨r', h1, h2⟩ := h
  have e : r' = r := by cases r <;> cases r' <;> simp_all
  rw [← e]; exact h1
theorem eq_cpuU (k k' : Cp) (w : World) : (Op.equalIn 10000 32 (.agg (cpc k)) (.agg (cpc k'))).run Tryz.prog w = .ok (eqC k k') w := eq_of_cmp (cmp_cpu w 9996 k k') _ (eqC_iff k k')
theorem eqG_cpuU (x y : Operand) (u v : Array Value) (w : World) : (eqGuard .eql 32 x y (.agg u) (.agg v)).run Tryz.prog w = .ok () w := by kernel_rfl
theorem eqN_cpuU (x y : Operand) (u v : Array Value) (w : World) : (eqGuard .neq 32 x y (.agg u) (.agg v)).run Tryz.prog w = .ok () w := by kernel_rfl
theorem eq_pmpU (c : Nat → BitVec 8) (a : Nat → BitVec 64) (c' : Nat → BitVec 8) (a' : Nat → BitVec 64) (w : World) : (Op.equalIn 10000 28 (.agg (pc c a)) (.agg (pc c' a'))).run Tryz.prog w = .ok (pEq c a c' a') w := eq_of_cmp (cmp_pmp w 9997 c c' a a') _ (by rw [pEq_iff]; simp)
theorem eqG_pmpU (x y : Operand) (u v : Array Value) (w : World) : (eqGuard .eql 28 x y (.agg u) (.agg v)).run Tryz.prog w = .ok () w := by kernel_rfl
/-- 32 registers as a row. -/
def xsc (f : Nat → BitVec 64) : Array Value := Array.ofFn (n := 32) fun j => .int .u64 (n64 (f j.val))
theorem xsc_size (f : Nat → BitVec 64) : (xsc f).size = 32 := by simp [xsc]
theorem xsc_at (f : Nat → BitVec 64) (j : Nat) (h : j < 32) : (xsc f)[j]? = some (.int .u64 (n64 (f j))) := by simp [xsc, h]
theorem xsc_ones (f : Nat → BitVec 64) : (xsc f).all (·.oneCell') = true := by rw [Array.all_eq_true]; intro i hi; simp [xsc, Value.oneCell']
theorem info_xs (f : Nat → BitVec 64) : (Tryz.prog.info? 24).map (·.size) = some (xsc f).size := by rw [xsc_size]; kernel_rfl
theorem eq_xsU (f g : Nat → BitVec 64) (w : World) : (Op.equalIn 10000 24 (.agg (xsc f)) (.agg (xsc g))).run Tryz.prog w = .ok (xEq f g) w := by
  have e : ∀ f : Nat → BitVec 64, xsc f = (cpc ⟨0, f, 0, false, f, fun _ => 0, f, false, 0, 0⟩).extract 1 (1 + 32) := fun f => by
    apply Array.ext_getElem?
    intro j
    by_cases hj : j < 32
    · rw [xsc_at _ _ hj, cpc_xs _ _ hj]
    · rw [Array.getElem?_eq_none (by rw [xsc_size]; omega), Array.getElem?_eq_none (by rw [Array.size_extract, cpc_size]; omega)]
  rw [e f, e g]
  exact eq_of_cmp (cmp_xs w 9998 _ _) _ (xEq_iff f g)
theorem eqG_xsU (x y : Operand) (u v : Array Value) (w : World) : (eqGuard .eql 24 x y (.agg u) (.agg v)).run Tryz.prog w = .ok () w := by kernel_rfl
theorem Row.xsU {w : World} {g : Nat} {k : Cp} {t : TypeId} (h : Row w g (cpc k) t) : ∀ j v, (xsc k.x)[j]? = some v → w.cell? ⟨g, 1 + j, none⟩ = some v := fun j v hv => by
  by_cases hj : j < 32
  · rw [xsc_at _ _ hj] at hv; rw [h.cell, cpc_at _ _ (by omega), cpcell_xU _ _ hj]; exact hv
  · rw [Array.getElem?_eq_none (by rw [xsc_size]; omega)] at hv; cases hv
theorem Row.pmU {w : World} {g : Nat} {k : Cp} {t : TypeId} (h : Row w g (cpc k) t) : ∀ j v, (pc k.c k.a)[j]? = some v → w.cell? ⟨g, 47 + j, none⟩ = some v := fun j v hv => by
  have := h.cpu.pmp j v hv; rwa [Nat.zero_add] at this
end Go.Proofs.YtidfndgedopghaaGreatDoor
