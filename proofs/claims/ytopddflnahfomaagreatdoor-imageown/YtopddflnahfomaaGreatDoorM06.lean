/-
  Qta.
-/
import Derived.Test.YtopddflnahfomaaGreatDoorM01
import Derived.StillTailTactics
namespace Go.Proofs.YtopddflnahfomaaGreatDoor
set_option linter.unusedVariables false
open Go.ChangeShapes Go.WideShapes Go.ChangeAt Go.RowKit Go.Deep
/-- A world behind W in which nothing of W has turned; with a block of these cells, where one is named. -/
structure LaterN (W : World) (z : Array Value) (t : TypeId) (q : Option Nat) where
  at_ : World
  below : Below W.heap.size W at_
  row : ∀ g, q = some g → W.heap.size ≤ g ∧ at_.heap[g]? = some (.cells z t (0, 0))
def ClN (W : World) (z : Array Value) (t : TypeId) (q : Option Nat) : World → Prop := fun w' => ∃ x : LaterN W z t q, w' = x.1
section
variable {P : Program} {ops : Array Oper} {md : Region.Mode} {W : World} {z : Array Value} {t : TypeId} {n : Nat} {aE : Act}
/-- What an operation has left at the end. -/
def endV (aE : Act) (o : Oper) : Value := match o.dst with
  | some d => aE.eval (.tmp d)
  | none => undef
def YieldsF (P : Program) (ops : Array Oper) (W : World) (z : Array Value) (t : TypeId) (o : Oper) (v : Value) (a : Act) : Prop := ∀ q, Nonempty (LaterN W z t q) → YieldsIn P ops (ClN W z t q) o v a
theorem YieldsF.put {oi oj : Oper} {v u : Value} {a : Act} (hap : oi.apart ops oj = true) (hsi : ∀ cs b, oi.op ≠ .select cs b) (h : YieldsF P ops W z t oi v a) : YieldsF P ops W z t oi v (a.put oj.dst u) := fun q hq =>
  (h q hq).of_same (execOp_put oi hsi a oj.dst u (Oper.apart_spec hap).2.2) (wanted_put oi a oj.dst u (Oper.apart_spec hap).2.2)
theorem YieldsF.unput {oi oj : Oper} {v u : Value} {a : Act} (hap : oi.apart ops oj = true) (hsj : ∀ cs b, oj.op ≠ .select cs b) (h : YieldsF P ops W z t oj u (a.put oi.dst v)) : YieldsF P ops W z t oj u a := fun q hq =>
  (h q hq).of_same (execOp_put oj hsj a oi.dst v (Oper.apart_spec hap).1).symm (wanted_put oj a oi.dst v (Oper.apart_spec hap).1).symm
def wpAnyF (P : Program) (md : Region.Mode) (ops : Array Oper) (W : World) (z : Array Value) (t : TypeId) (n : Nat) (aE : Act) : Nat → Array Bool → Act → Prop
  | 0, listed, a => Region.seqB md ops 1 (n + 1) listed = true ∧ a = aE
  | f + 1, listed, a => Region.ready md ops listed ≠ [] ∧ ∀ i ∈ Region.ready md ops listed, i < n ∧ ∃ oi, ops[i]? = some oi ∧ YieldsF P ops W z t oi (endV aE oi) a ∧ wpAnyF P md ops W z t n aE f (listed.setIfInBounds i true) (a.put oi.dst (endV aE oi))
theorem ready_head {i : Nat} {listed : Array Bool} (hs : Region.sinkB md ops (n + 1) = true) (hc : Region.chainB md ops (n + 1) = true) (hn : n + 1 < ops.size) (inv : HeadInv md ops (n + 1) listed) (hin : i < n + 1) (hr : i ∈ Region.ready md ops listed) :
    ∀ j ∈ Region.ready md ops listed, j < n + 1 := fun j hj => by
  rcases Nat.lt_or_ge j (n + 1) with h | h
  · exact h
  · exact absurd hj (tail_waits hs hc hn inv _ i rfl hin (mem_ready.1 hr).1 j h)
theorem not_ready {listed : Array Bool} (h : listed.getD n false = true) : n ∉ Region.ready md ops listed := fun hr => by
  have := getD_both (mem_ready.1 hr).1
  rw [h] at this; cases this
theorem wpAnyF_first {i : Nat} {oi : Oper} (hi : ops[i]? = some oi) (hsel : ∀ (j : Nat) (o : Oper) cs b, ops[j]? = some o → o.op ≠ .select cs b) (hs : Region.sinkB md ops (n + 1) = true) (hc : Region.chainB md ops (n + 1) = true) (hn : n + 1 < ops.size) (hin : i < n) :
    ∀ (f : Nat) (listed : Array Bool) (a : Act), HeadInv md ops (n + 1) listed → listed.getD n false = true →
      (∀ j oj, ops[j]? = some oj → j ≠ i → listed.getD j true = false → (∀ e ∈ oj.after, Region.binds md e = true → e.on ≠ i) → oi.apart ops oj = true) →
      i ∈ Region.ready md ops listed → YieldsF P ops W z t oi (endV aE oi) a →
      wpAnyF P md ops W z t n aE f (listed.setIfInBounds i true) (a.put oi.dst (endV aE oi)) → wpAnyF P md ops W z t n aE (f + 1) listed a := by
  intro f
  induction f with
  | zero =>
    intro listed a inv hln _ hr hy H
    refine ⟨List.ne_nil_of_mem hr, fun j hj => ?_⟩
    have hj1 := ready_head hs hc hn inv (by omega) hr j hj
    have hjn : j ≠ n := fun e => not_ready hln (e ▸ hj)
    refine ⟨by omega, ?_⟩
    by_cases e : j = i
    · subst e; exact ⟨oi, hi, hy, H⟩
    · have := seqB_ready H.1 j (ready_mono hj e)
      omega
  | succ f ih =>
    intro listed a inv hln hfree hr hy H
    refine ⟨List.ne_nil_of_mem hr, fun j hj => ?_⟩
    have hj1 := ready_head hs hc hn inv (by omega) hr j hj
    have hjn : j ≠ n := fun e => not_ready hln (e ▸ hj)
    refine ⟨by omega, ?_⟩
    by_cases e : j = i
    · subst e; exact ⟨oi, hi, hy, H⟩
    · obtain ⟨_, oj, hoj, hyj, Hj⟩ := H.2 j (ready_mono hj e)
      obtain ⟨hun, oj', hoj', hall⟩ := mem_ready.1 hj
      have hap : oi.apart ops oj = true := hfree j oj hoj e hun fun q hq hb heq => by
        have e2 : oj' = oj := Option.some.inj (hoj'.symm.trans hoj)
        subst e2
        have h1 := hall q hq hb
        rw [heq, getD_both (mem_ready.1 hr).1] at h1
        cases h1
      refine ⟨oj, hoj, hyj.unput hap (fun cs b => hsel j oj cs b hoj), ih (listed.setIfInBounds j true) _ (inv.set hj hj1) (getD_set_true hln) (fun k ok hk hki hunk hno => ?_) (ready_mono hr (Ne.symm e)) (hy.put hap (fun cs b => hsel i oi cs b hi)) ?_⟩
      · refine hfree k ok hk hki ?_ hno
        by_cases e2 : j = k
        · subst e2; exact hun
        · rwa [getD_set_ne true e2] at hunk
      · rw [Array.setIfInBounds_comm _ _ e, ← Act.put_comm a _ _ (Oper.apart_spec hap).2.1]
        exact Hj
def lexNew (md : Region.Mode) (ops : Array Oper) (n : Nat) : Nat → Nat → Array Bool → Bool
  | 0, _, listed => Region.seqB md ops 1 (n + 1) listed
  | f + 1, k, listed => (Region.ready md ops listed).contains k && Region.free md ops listed k && lexNew md ops n f (k + 1) (listed.setIfInBounds k true)
def chainF (P : Program) (ops : Array Oper) (W : World) (z : Array Value) (t : TypeId) (aE : Act) : List Oper → Act → Prop
  | [], a => a = aE
  | o :: l, a => YieldsF P ops W z t o (endV aE o) a ∧ chainF P ops W z t aE l (a.put o.dst (endV aE o))
theorem wpAnyF_lex (hsel : Region.noSelect ops = true) (hs : Region.sinkB md ops (n + 1) = true) (hc : Region.chainB md ops (n + 1) = true) (hn : n + 1 < ops.size) :
    ∀ (l : List Oper) (k : Nat) (listed : Array Bool) (a : Act), (∀ j, j < l.length → l[j]? = ops[k + j]?) → k + l.length = n → HeadInv md ops (n + 1) listed → listed.getD n false = true →
    lexNew md ops n l.length k listed = true → chainF P ops W z t aE l a → wpAnyF P md ops W z t n aE l.length listed a
  | [], k, listed, a, _, hk, _, _, hB, h => ⟨hB, h⟩
  | o :: l, k, listed, a, hl, hk, inv, hln, hB, h => by
    simp only [List.length_cons] at hk
    have h0 : ops[k]? = some o := by simpa using (hl 0 (by simp)).symm
    simp only [List.length_cons, lexNew, Bool.and_eq_true] at hB
    have hr : k ∈ Region.ready md ops listed := by simpa using hB.1.1
    refine wpAnyF_first h0 (Region.noSelect_spec hsel) hs hc hn (by omega) l.length listed a inv hln (Region.free_spec h0 hB.1.2) hr h.1 ?_
    refine wpAnyF_lex hsel hs hc hn l (k + 1) _ _ (fun j hj => ?_) (by omega) (inv.set hr (by omega)) (getD_set_true hln) hB.2 h.2
    have := hl (j + 1) (by simp; omega)
    simpa [Nat.add_assoc, Nat.add_comm 1 j] using this
/-- The slots of the operations: each has one of its own. -/
def dstsOk (l : List Oper) (m : Nat) : Bool := l.all (fun o => match o.dst with | some d => decide (d < m) | none => false) && decide ((l.map (·.dst)).Nodup)
theorem wpQuiet_cons {C : World → Prop} {Lq : Act → Prop} {o : Oper} {l : List Oper} {a : Act} (h0 : o ∈ ops.toList) (h : wpQuiet P ops C Lq (o :: l) a) : ∃ v, YieldsIn P ops C o v a ∧ wpQuiet P ops C Lq l (a.put o.dst v) := by
  obtain ⟨i, hi⟩ := List.mem_iff_getElem?.1 h0
  have hi' : ops[i]? = some o := by rw [← hi]; simp
  exact yieldsIn_of_qOp (K := wpQuiet P ops C Lq l) hi' (by unfold qOp; simp only [hi']; exact h)
theorem quiet_keeps {C : World → Prop} : ∀ (l : List Oper) (a : Act), (∀ o ∈ l, o ∈ ops.toList) → wpQuiet P ops C (fun a' => a' = aE) l a → ∀ d, some d ∉ l.map (·.dst) → aE.eval (.tmp d) = a.eval (.tmp d)
  | [], a, _, h, d, _ => by rw [show a = aE from h]
  | o :: l, a, hm, h, d, hd => by
    obtain ⟨v, _, hK⟩ := wpQuiet_cons (hm o (by simp)) h
    simp only [List.map_cons, List.mem_cons, not_or] at hd
    rw [quiet_keeps l _ (fun o ho => hm o (by simp [ho])) hK d hd.2]
    refine Act.eval_put fun x hx e => ?_
    cases e
    exact hd.1 hx.symm
theorem put_size (a : Act) (d : Option Tmp) (v : Value) : (a.put d v).tmps.size = a.tmps.size := by cases d <;> simp [Act.put]
theorem put_eval {a : Act} {d : Tmp} {v : Value} (h : d < a.tmps.size) : (a.put (some d) v).eval (.tmp d) = v := by simp [Act.eval, Act.put, h]
theorem chainF_of : ∀ (l : List Oper) (a : Act), (∀ o ∈ l, o ∈ ops.toList) → dstsOk l a.tmps.size = true → Nonempty (LaterN W z t none) → (∀ q, Nonempty (LaterN W z t q) → wpQuiet P ops (ClN W z t q) (fun a' => a' = aE) l a) → chainF P ops W z t aE l a
  | [], a, _, _, h0, h => h none h0
  | o :: l, a, hm, hd, h0, h => by
    simp only [dstsOk, List.all_cons, Bool.and_eq_true, decide_eq_true_eq, List.map_cons, List.nodup_cons] at hd
    obtain ⟨⟨hd1, hd2⟩, hd3, hd4⟩ := hd
    have key : ∀ q, Nonempty (LaterN W z t q) → YieldsIn P ops (ClN W z t q) o (endV aE o) a ∧ wpQuiet P ops (ClN W z t q) (fun a' => a' = aE) l (a.put o.dst (endV aE o)) := fun q hq => by
      obtain ⟨v, hy, hK⟩ := wpQuiet_cons (hm o (by simp)) (h q hq)
      have e : endV aE o = v := by
        unfold endV
        cases hdo : o.dst with
        | none => rw [hdo] at hd1; cases hd1
        | some d =>
          rw [hdo] at hd1 hd3 hK
          have h1 := quiet_keeps l _ (fun o ho => hm o (by simp [ho])) hK d hd3
          rw [put_eval (by simpa using hd1)] at h1
          exact h1
      rw [e]
      exact ⟨hy, hK⟩
    refine ⟨fun q hq => (key q hq).1, chainF_of l _ (fun o ho => hm o (by simp [ho])) ?_ h0 (fun q hq => (key q hq).2)⟩
    simp only [dstsOk, Bool.and_eq_true, decide_eq_true_eq]
    rw [put_size]
    exact ⟨hd2, hd4⟩
variable {Q : Exit → Act → World → Prop} {d : Tmp}
theorem run_B {oal : Oper} (hal : ops[n]? = some oal) (hdst : oal.dst = some d) (hsel : Region.noSelect ops = true) (hap : ∀ i oi, i < n → ops[i]? = some oi → oal.apart ops oi = true) {st : Oper} (hst : ops[n + 1]? = some st) (hlast : ops.size = n + 2)
    (hfin : ∀ g w', ClN W z t (some g) w' → wpList P ops Q [st] (aE.put (some d) (.pointer (some ⟨g, 0, none⟩))) w') :
    ∀ (f : Nat) (listed : Array Bool) (a : Act) (w : World) (g : Nat), ClN W z t (some g) w → wpAnyF P md ops W z t n aE f listed a → wpAny P md ops Q (f + 1) listed (a.put (some d) (.pointer (some ⟨g, 0, none⟩))) w
  | 0, listed, a, w, g, hw, h => by
    obtain ⟨h1, rfl⟩ := h
    refine wpAny_of_seq (md := md) [st] (n + 1) listed _ w (fun j => ?_) h1 (hfin g w hw)
    match j with
    | 0 => simpa using hst.symm
    | j + 1 => rw [show ops[n + 1 + (j + 1)]? = none from Array.getElem?_eq_none (by omega)]; simp
  | f + 1, listed, a, w, g, hw, h => by
    refine ⟨fun h0 => absurd h0 h.1, fun i hi => ?_⟩
    obtain ⟨hin, oi, hoi, hy, H⟩ := h.2 i hi
    have hs := Oper.apart_spec (hap i oi hin hoi)
    rw [hdst] at hs
    obtain ⟨x, hx⟩ := hw
    have hy2 : YieldsIn P ops (ClN W z t (some g)) oi (endV aE oi) (a.put (some d) (.pointer (some ⟨g, 0, none⟩))) :=
      (hy (some g) ⟨x⟩).of_same (execOp_put oi (fun cs b => Region.noSelect_spec hsel i oi cs b hoi) a (some d) _ hs.1) (wanted_put oi a (some d) _ hs.1)
    refine wpOp_of_qOp (C := ClN W z t (some g)) ⟨x, hx⟩ (K := fun a' => a' = (a.put oi.dst (endV aE oi)).put (some d) (.pointer (some ⟨g, 0, none⟩))) (fun a' w' hw' ha' => ?_) (hy2.qOp hoi (Act.put_comm a _ _ hs.2.1))
    subst ha'
    exact run_B hal hdst hsel hap hst hlast hfin f _ _ w' g hw' H
theorem run_A {oal : Oper} (hal : ops[n]? = some oal) (hdst : oal.dst = some d) (hgd : oal.guard = none) (haf : ∀ e ∈ oal.after, Region.binds md e = false) (hrun : ∀ (a : Act) (w : World), (execOp a.eval oal).run P w = .ok (.value (.pointer (some ⟨w.heap.size, 0, none⟩))) (w.alloc (.cells z t)))
    (hsel : Region.noSelect ops = true) (hs : Region.sinkB md ops (n + 1) = true) (hc : Region.chainB md ops (n + 1) = true) (hap : ∀ i oi, i < n → ops[i]? = some oi → oal.apart ops oi = true) {st : Oper} (hst : ops[n + 1]? = some st) (hlast : ops.size = n + 2)
    (hfin : ∀ g w', ClN W z t (some g) w' → wpList P ops Q [st] (aE.put (some d) (.pointer (some ⟨g, 0, none⟩))) w') :
    ∀ (f : Nat) (listed : Array Bool) (a : Act) (w : World), HeadInv md ops (n + 1) listed → listed.getD n true = false → ClN W z t none w → wpAnyF P md ops W z t n aE f (listed.setIfInBounds n true) a → wpAny P md ops Q (f + 2) listed a w
  | f, listed, a, w, inv, hun, hw, h => by
    have hrn : n ∈ Region.ready md ops listed := mem_ready.2 ⟨hun, oal, hal, fun e he hb => by rw [haf e he] at hb; cases hb⟩
    refine ⟨fun h0 => (by rw [h0] at hrn; cases hrn), fun i hi => ?_⟩
    have hi1 := ready_head hs hc (by omega) inv (Nat.lt_succ_self n) hrn i hi
    by_cases e : i = n
    · subst e
      unfold wpOp
      simp only [hal]
      rw [if_pos (by simp [Region.wanted, hgd])]
      refine .inl ?_
      unfold Oper.wp
      rw [hrun]
      obtain ⟨x, rfl⟩ := hw
      have hb := x.below
      have hcl : ClN W z t (some x.1.heap.size) (x.1.alloc (.cells z t)) := ⟨⟨_, hb.alloc hb.size _, fun g hg => by cases hg; exact ⟨hb.size, heap_alloc_new _ _⟩⟩, rfl⟩
      have := run_B hal hdst hsel hap hst hlast hfin f _ _ _ _ hcl h
      rw [← hdst] at this
      exact this
    · match f, h with
      | 0, h =>
        have := seqB_ready h.1 i (ready_mono hi e)
        omega
      | f + 1, h =>
        obtain ⟨hin, oi, hoi, hy, H⟩ := h.2 i (ready_mono hi e)
        obtain ⟨x, hx⟩ := hw
        refine wpOp_of_qOp (C := ClN W z t none) ⟨x, hx⟩ (K := fun a' => a' = a.put oi.dst (endV aE oi)) (fun a' w' hw' ha' => ?_) ((hy none ⟨x⟩).qOp hoi rfl)
        subst ha'
        refine run_A hal hdst hgd haf hrun hsel hs hc hap hst hlast hfin f _ _ w' (inv.set hi hi1) (by rw [getD_set_ne true e]; exact hun) hw' ?_
        rw [Array.setIfInBounds_comm _ _ (Ne.symm e)] at H
        exact H
def newB (ops : Array Oper) (n : Nat) : Bool :=
  Region.noSelect ops && decide (ops.size = n + 2) && Region.sinkB .any ops (n + 1) && Region.chainB .any ops (n + 1) &&
  (match ops[n]? with
    | some o => o.guard.isNone && o.after.all (fun e => !Region.binds .any e) && (List.range n).all (fun i => match ops[i]? with | some oi => o.apart ops oi | none => false)
    | none => false) && lexNew .any ops n n 0 ((Array.replicate ops.size false).setIfInBounds n true)
theorem wp_region_later_new {id : Nat} {a : Act} {l : List Oper} (n : Nat) (d : Tmp) (z : Array Value) (t : TypeId) (aE : Act) (hm : P.follows .mixedOrders = true) (hB : newB l.toArray n = true) (hd : dstsOk (l.take n) a.tmps.size = true)
    (hal : (l[n]?).map (fun o => (o.op, o.dst)) = some (.alloc t, some d)) (hrun : ∀ w : World, (execOp a.eval ((l[n]?).getD default)).run P w = .ok (.value (.pointer (some ⟨w.heap.size, 0, none⟩))) (w.alloc (.cells z t)))
    (h : ∀ q, Nonempty (LaterN W z t q) → wpQuiet P l.toArray (ClN W z t q) (fun a' => a' = aE) (l.take n) a)
    (hfin : ∀ g w', ClN W z t (some g) w' → wpList P l.toArray Q (l.drop (n + 1)) (aE.put (some d) (.pointer (some ⟨g, 0, none⟩))) w') : (Code.region id l.toArray true).wp P Q a W := by
  simp only [newB, Bool.and_eq_true, decide_eq_true_eq] at hB
  obtain ⟨⟨⟨⟨⟨hsel, hsz⟩, hs⟩, hc⟩, hax⟩, hlex⟩ := hB
  have hsl : l.length = n + 2 := by simpa using hsz
  cases e : l[n]? with
  | none => rw [e] at hal; cases hal
  | some oal =>
    have e' : l.toArray[n]? = some oal := by simpa using e
    rw [e] at hal hrun
    simp only [Option.map_some, Option.some.injEq, Prod.mk.injEq] at hal
    simp only [e', Bool.and_eq_true, Option.isNone_iff_eq_none, List.all_eq_true, List.mem_range] at hax
    obtain ⟨⟨hgd, haf⟩, hap⟩ := hax
    have haf' : ∀ q ∈ oal.after, Region.binds .any q = false := fun q hq => by
      have := Array.all_eq_true_iff_forall_mem.1 haf q hq
      simpa using this
    have h0 : Nonempty (LaterN W z t none) := ⟨⟨W, Below.refl _ _, fun g hg => by cases hg⟩⟩
    have hst : l.toArray[n + 1]? = some (l[n + 1]'(by omega)) := by simp
    have hdrop : l.drop (n + 1) = [l[n + 1]'(by omega)] := by
      rw [List.drop_eq_getElem_cons (by omega), List.drop_eq_nil_of_le (by omega)]
    have inv0 : HeadInv .any l.toArray (n + 1) (Array.replicate l.toArray.size false) := ⟨by simp, fun j oj _ hl => (by rw [getD_replicate_false] at hl; cases hl), fun q _ hq => getD_in (by simpa using hq) (getD_replicate_false _ _)⟩
    have hun0 : (Array.replicate l.toArray.size false).getD n true = false := getD_in (by simp; omega) (getD_replicate_false _ _)
    have hrd : n ∈ Region.ready .any l.toArray (Array.replicate l.toArray.size false) := mem_ready.2 ⟨hun0, oal, e', fun q hq hb => by rw [haf' q hq] at hb; cases hb⟩
    have ht : (l.take n).length = n := by simp; omega
    have H := wpAnyF_lex (md := .any) (P := P) (W := W) (z := z) (t := t) (aE := aE) hsel hs hc (by omega) (l.take n) 0 _ a (fun j hj => by
      rw [ht] at hj
      simp [hj]) (by rw [ht]; omega) (inv0.set hrd (Nat.lt_succ_self n)) (by simp; omega) (by rw [ht]; exact hlex) (chainF_of (l.take n) a (fun o ho => by simpa using List.mem_of_mem_take ho) hd h0 h)
    rw [ht] at H
    refine wp_region_any hm ?_
    rw [hsz]
    have hA := run_A (md := .any) (Q := Q) (P := P) (W := W) (z := z) (t := t) (aE := aE) (d := d) e' hal.2 hgd haf' (fun a1 w => by
      have hr := hrun w
      have hx : execOp a1.eval oal = execOp a.eval oal := by unfold execOp; rw [hal.1]
      rw [hx]; exact hr) hsel hs hc (fun i oi hi hoi => by
      have := hap i hi
      rw [hoi] at this
      exact this) hst hsz (fun g w' hw => by have := hfin g w' hw; rw [hdrop] at this; exact this) n _ a { W with drawn := W.drawn + 1 } inv0 hun0 ⟨⟨_, (Below.refl _ _).drew, fun g hg => by cases hg⟩, rfl⟩ H
    rw [hsz] at hA
    exact hA
end
/-- So, the state at the end found by the walk. -/
theorem wp_region_later_mk {P : Program} {W : World} {Q : Exit → Act → World → Prop} {id : Nat} {a : Act} {l : List Oper} (n : Nat) (d : Tmp) (z : Array Value) (t : TypeId) (hm : P.follows .mixedOrders = true) (hB : newB l.toArray n = true) (hd : dstsOk (l.take n) a.tmps.size = true)
    (hal : (l[n]?).map (fun o => (o.op, o.dst)) = some (.alloc t, some d)) (hrun : ∀ w : World, (execOp a.eval ((l[n]?).getD default)).run P w = .ok (.value (.pointer (some ⟨w.heap.size, 0, none⟩))) (w.alloc (.cells z t)))
    (h : ∃ aE, (∀ q, Nonempty (LaterN W z t q) → wpQuiet P l.toArray (fun w' => ∃ x : LaterN W z t q, w' = x.1) (fun a' => a' = aE) (l.take n) a) ∧ ∀ g w', W.heap.size ≤ g → w'.heap[g]? = some (.cells z t (0, 0)) → Below W.heap.size W w' → wpList P l.toArray Q (l.drop (n + 1)) (aE.put (some d) (.pointer (some ⟨g, 0, none⟩))) w') : (Code.region id l.toArray true).wp P Q a W := by
  obtain ⟨aE, h1, h2⟩ := h
  exact wp_region_later_new n d z t aE hm hB hd hal hrun h1 (fun g w' ⟨x, hx⟩ => by subst hx; exact h2 g _ (x.row g rfl).1 (x.row g rfl).2 x.below)
theorem calls_laterN {P : Program} {f : FuncId} {args : Array Value} {W : World} {z : Array Value} {t : TypeId} {q : Option Nat} {x : LaterN W z t q} {v : Value} (h : Calls P f args x.1 fun e w' => e = .returned v ∧ Below x.1.heap.size x.1 w') :
    Calls P f args x.1 fun e w' => e = .returned v ∧ ∃ y : LaterN W z t q, w' = y.1 :=
  h.mono fun e w' ⟨he, hb⟩ => ⟨he, ⟨w', x.below.trans (hb.mono x.below.size), fun g hg => ⟨(x.row g hg).1, by rw [hb.block g (Array.getElem?_eq_some_iff.1 (x.row g hg).2).1]; exact (x.row g hg).2⟩⟩, rfl⟩
theorem laterN_at {W : World} {z : Array Value} {t : TypeId} {g i : Nat} {v : Value} (hg : g < W.heap.size) (h : W.cell? ⟨g, i, none⟩ = some v) (q : Option Nat) (x : LaterN W z t q) : x.1.cell? ⟨g, i, none⟩ = some v := (x.below.cell (p := ⟨g, i, none⟩) hg).trans h
end Go.Proofs.YtopddflnahfomaaGreatDoor
