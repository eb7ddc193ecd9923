import Derived.Test.YtddlmenfcbjoaaaGreatDoorK01
import Derived.Test.YtddlmenfcbjoaaaGreatDoorK17
import Derived.Test.YtddlmenfcbjoaaaGreatDoorK20
import Derived.Test.YtddlmenfcbjoaaaGreatDoorK14
import Derived.Test.YtddlmenfcbjoaaaGreatDoorK13
import Derived.ShutString
import Derived.ChangeOld
import Derived.BigRegion
import Derived.BigQuiet
import Derived.Deep.QuietTactic
import Derived.Test.YtddlmenfcbjoaaaGreatDoorK03
namespace Go.Proofs.YtddlmenfcbjoaaaGreatDoor
set_option linter.unusedVariables false
set_option maxRecDepth 100000
set_option maxHeartbeats 8000000
open Go.ChangeShapes Go.WideShapes Go.ChangeAt Go.RowKit Go.Deep _root_.Go.Proofs.Tryz
section
variable {P : Program} {ops : Array Oper} {Q : Exit → Act → World → Prop}
theorem rT {id : Nat} (hm : P.follows .mixedOrders = true) (Inv : Array Bool → Act → World → Prop) (a0 : Act) (w0 : World) (h0 : Inv (Array.replicate ops.size false) a0 w0.drew) (hsz : ∀ l a w, Inv l a w → l.size = ops.size)
  (hstep : ∀ l a w i o, Inv l a w → ops[i]? = some o → l.getD i true = false → (∀ e ∈ o.after, Region.binds .any e = true → l.getD e.on false = true) → wpOp P ops Q i (fun a' w' => Inv (l.setIfInBounds i true) a' w') a w)
  (hend : ∀ l a w, Inv l a w → Region.ready .any ops l = [] → Q .normal a w) : (Code.region id ops true).wp P Q a0 w0 := by
 refine wp_region_any hm ?_
 have main : ∀ (fuel : Nat) (listed : Array Bool) a w, listed.toList.count false ≤ fuel → Inv listed a w → wpAny P .any ops Q fuel listed a w := by
  intro fuel
  induction fuel with
  | zero =>
   intro listed a w hc h
   have hr : Region.ready .any ops listed = [] := by
    refine List.eq_nil_iff_forall_not_mem.2 fun j hj => ?_
    obtain ⟨h0, o, ho, _⟩ := mem_ready.1 hj
    have hjl : j < listed.size := by rw [hsz _ _ _ h]; exact (Array.getElem?_eq_some_iff.1 ho).1
    have : false ∈ listed.toList := by
     simp [hjl] at h0
     rw [← h0]; simp
    have := List.count_pos_iff.2 this
    omega
   exact ⟨hr, hend listed a w h hr⟩
  | succ fuel ih =>
   intro listed a w hc h
   refine ⟨fun hr => hend listed a w h hr, fun i hi => ?_⟩
   obtain ⟨h0, o, ho, hall⟩ := mem_ready.1 hi
   refine wpOp_mono (fun a' w' h' => ih _ _ _ ?_ h') (hstep listed a w i o h ho h0 hall)
   have hjl : i < listed.size := by rw [hsz _ _ _ h]; exact (Array.getElem?_eq_some_iff.1 ho).1
   have h1 : listed.toList[i]'(by simpa using hjl) = false := by simp [hjl] at h0; simpa using h0
   rw [Array.toList_setIfInBounds, List.count_set (by simpa using hjl), h1]
   have h2 : 0 < listed.toList.count false := List.count_pos_iff.2 (by rw [← h1]; simp)
   simp only [beq_self_eq_true, if_true, show (true == false) = false from rfl, Bool.false_eq_true, if_false]
   omega
 exact main _ _ _ _ (by simp) h0
def dW (f : Nat → Value) : List Oper → Nat → Act → Act
 | [], _, a => a
 | o :: r, j, a => dW f r (j + 1) (a.put o.dst (f j))
theorem lA (a : Act) (d : Option Tmp) (v : Value) : (a.put d v).tmps.size = a.tmps.size := by cases d <;> simp [Act.put]
theorem kD (a : Act) (d : Option Tmp) (v : Value) : (a.put d v).defers = a.defers := by cases d <;> rfl
theorem oG (f : Nat → Value) : ∀ (l : List Oper) (j : Nat) (a : Act), (dW f l j a).tmps.size = a.tmps.size ∧ (dW f l j a).defers = a.defers
 | [], _, _ => ⟨rfl, rfl⟩
 | o :: r, j, a => by
  obtain ⟨h1, h2⟩ := oG f r (j + 1) (a.put o.dst (f j))
  exact ⟨h1.trans (lA _ _ _), h2.trans (kD _ _ _)⟩
theorem DJ {a : Act} {d : Option Tmp} {v : Value} {k : Tmp} (h : d ≠ some k) : (a.put d v).tmps[k]? = a.tmps[k]? := by
 cases d with
 | none => rfl
 | some d =>
  have : d ≠ k := fun e => h (by rw [e])
  simp [Act.put, this]
theorem kC (f : Nat → Value) (k : Tmp) : ∀ (l : List Oper) (j : Nat) (a : Act), (∀ o ∈ l, o.dst ≠ some k) → (dW f l j a).tmps[k]? = a.tmps[k]?
 | [], _, _, _ => rfl
 | o :: r, j, a, h => by
  rw [dW, kC f k r (j + 1) _ (fun o' ho' => h o' (List.mem_cons_of_mem _ ho')), DJ (h o (List.mem_cons_self ..))]
theorem sT (f : Nat → Value) (k : Tmp) : ∀ (l : List Oper) (j : Nat) (a : Act) (i : Nat) (o : Oper), l[i]? = some o → o.dst = some k → (∀ i' o', l[i']? = some o' → i' ≠ i → o'.dst ≠ some k) → k < a.tmps.size → (dW f l j a).tmps[k]? = some (f (j + i))
 | [], _, _, i, o, h, _, _, _ => by simp at h
 | x :: r, j, a, 0, o, h, hd, hu, hk => by
  obtain rfl : x = o := by simpa using h
  rw [dW, kC f k r (j + 1) _ (fun o' ho' => by
   obtain ⟨i', hi', e⟩ := List.getElem_of_mem ho'
   exact hu (i' + 1) o' (by rw [List.getElem?_cons_succ, List.getElem?_eq_getElem hi', e]) (by omega)), hd]
  simp [Act.put, hk]
 | x :: r, j, a, i + 1, o, h, hd, hu, hk => by
  rw [dW, sT f k r (j + 1) _ i o (by simpa using h) hd (fun i' o' h1 h2 => hu (i' + 1) o' (by simpa using h1) (by omega)) (by rw [lA]; exact hk)]
  congr 2; omega
structure Itm where
 ai : Nat
 si : Nat
 xi : Nat
 T : TypeId
 z : Array Value
 cs : Array Value
def ptr (g : Nat) : Value := .pointer (some ⟨g, 0, none⟩)
theorem AV {g h : Nat} (e : ptr g = ptr h) : g = h := by cases e; rfl
structure Fr (L : Lay) (w : World) (L' : Lay) (w' : World) : Prop where
 sz : w.heap.size ≤ w'.heap.size
 bl : ∀ g, g < w.heap.size → ¬ L.own g → w'.heap[g]? = w.heap[g]?
 ow : ∀ g, L'.own g → L.own g ∨ w.heap.size ≤ g
structure Cwl (ops : Array Oper) (need : Nat → List Nat) (val : Nat → Option Value) (items : List Itm) (ci base : Nat) (J : Lay → Bool → World → Prop) (a0 : Act) (listed : Array Bool) (a : Act) (w : World) : Prop where
 size : listed.size = ops.size
 tsz : a.tmps.size = a0.tmps.size
 dfr : a.defers = a0.defers
 old : ∀ k, eG ops k = true → a.eval (.tmp k) = a0.eval (.tmp k)
 cl : ∀ j, listed.getD j false = true → ∀ k ∈ need j, listed.getD k false = true
 fact : ∀ j v, val j = some v → listed.getD j false = true → bH ops a j = v
 bs : base ≤ w.heap.size
 dis : ∀ p ∈ items, ∀ q ∈ items, p.ai ≠ q.ai → listed.getD p.ai false = true → listed.getD q.ai false = true → bH ops a p.ai ≠ bH ops a q.ai
 world : ∃ L, J L (listed.getD ci false) w ∧ ∀ q ∈ items, listed.getD q.ai false = true → ∃ g, bH ops a q.ai = ptr g ∧ w.heap[g]? = some (.cells (if listed.getD q.si false = true then q.cs else q.z) q.T (0, 0)) ∧ ¬ L.own g ∧ base ≤ g
inductive Opn (P : Program) (ops : Array Oper) (Q : Exit → Act → World → Prop) (need : Nat → List Nat) (val : Nat → Option Value) (items : List Itm) (ci : Nat) (J : Lay → Bool → World → Prop) (a0 : Act) (i : Nat) (o : Oper) : Prop where
 | pure (v : Value) (hv : val i = some v) (hc : i ≠ ci) (hd : o.dst ≠ none) (h : ∀ a w L b, (∀ k, eG ops k = true → a.eval (.tmp k) = a0.eval (.tmp k)) → (∀ k ∈ need i, ∀ u, val k = some u → bH ops a k = u) → J L b w → wpOp P ops Q i (fun a' w' => a' = a.put o.dst v ∧ Below w.heap.size w w') a w) : Opn P ops Q need val items ci J a0 i o
 | call (v : Value) (hv : val i = some v) (hc : i = ci) (hd : o.dst ≠ none) (h : ∀ a w L, (∀ k, eG ops k = true → a.eval (.tmp k) = a0.eval (.tmp k)) → (∀ k ∈ need i, ∀ u, val k = some u → bH ops a k = u) → J L false w → wpOp P ops Q i (fun a' w' => a' = a.put o.dst v ∧ ∃ L', J L' true w' ∧ Fr L w L' w') a w) : Opn P ops Q need val items ci J a0 i o
 | made (q : Itm) (hq : q ∈ items) (hi : i = q.ai) (hd : o.dst ≠ none) (h : ∀ a w, wpOp P ops Q i (fun a' w' => a' = a.put o.dst (ptr w.heap.size) ∧ w' = w.alloc (.cells q.z q.T)) a w) : Opn P ops Q need val items ci J a0 i o
 | stored (q : Itm) (hq : q ∈ items) (hi : i = q.si) (hd : o.dst = none) (hn : q.ai ∈ need i ∧ q.xi ∈ need i) (hx : val q.xi = some (.agg q.cs)) (h : ∀ a w g, bH ops a q.ai = ptr g → bH ops a q.xi = .agg q.cs → w.heap[g]? = some (.cells q.z q.T (0, 0)) → wpOp P ops Q i (fun a' w' => a' = a ∧ w' = w.setRow g q.cs) a w) : Opn P ops Q need val items ci J a0 i o
theorem wI (w : World) (g : Nat) (cs cs' : Array Value) (T : TypeId) (h : w.heap[g]? = some (.cells cs T (0, 0))) : (w.setRow g cs').heap[g]? = some (.cells cs' T (0, 0)) := ZqW _ _ _ _ _ _ h
def calB (val : Nat → Bool) (items : List (Nat × Nat)) (ci : Nat) : Bool :=
 items.all (fun q => !val q.1 && !val q.2 && q.1 != ci && q.2 != ci) && items.all (fun p => items.all fun q => p.1 != q.2 && (p.1 == q.1) == (p.2 == q.2))
theorem dH {id : Nat} (hm : P.follows .mixedOrders = true) (need : Nat → List Nat) (val : Nat → Option Value) (items : List Itm) (ci base : Nat) (J : Lay → Bool → World → Prop) (a0 : Act) (w0 : World)
  (hB : FB ops need a0.tmps.size = true) (hC : calB (fun j => (val j).isSome) (items.map fun q => (q.ai, q.si)) ci = true) (hI : ∀ p ∈ items, ∀ q ∈ items, p.ai = q.ai → p = q)
  (L0 : Lay) (h0 : J L0 false w0.drew) (hbase : base = w0.heap.size) (hci : ci < ops.size) (hall : ∀ q ∈ items, q.ai < ops.size ∧ q.si < ops.size)
  (hlat : ∀ L b w w', J L b w → Below w.heap.size w w' → J L b w') (hput : ∀ L b w g cs, J L b w → ¬ L.own g → base ≤ g → J L b (w.setRow g cs)) (hown : ∀ L b w g, J L b w → L.own g → g < w.heap.size)
  (hop : ∀ i o, ops[i]? = some o → Opn P ops Q need val items ci J a0 i o)
  (hend : ∀ w L (pg : Nat → Nat), J L true w → (∀ q ∈ items, w.heap[pg q.ai]? = some (.cells q.cs q.T (0, 0)) ∧ ¬ L.own (pg q.ai) ∧ base ≤ pg q.ai) → (∀ p ∈ items, ∀ q ∈ items, p.ai ≠ q.ai → pg p.ai ≠ pg q.ai) →
   Q .normal (dW (fun j => (val j).getD (ptr (pg j))) ops.toList 0 a0) w) :
  (Code.region id ops true).wp P Q a0 w0 := by
 simp only [calB, Bool.and_eq_true, List.all_eq_true, List.mem_map, forall_exists_index, and_imp] at hC
 have hC1 : ∀ q ∈ items, val q.ai = none ∧ val q.si = none ∧ q.ai ≠ ci ∧ q.si ≠ ci := fun q hq => by
  have := hC.1 _ q hq rfl
  simp only [Bool.not_eq_true', Option.isSome_eq_false_iff, Option.isNone_iff_eq_none, bne_iff_ne, ne_eq] at this
  exact ⟨this.1.1.1, this.1.1.2, this.1.2, this.2⟩
 have hC2 : ∀ p ∈ items, ∀ q ∈ items, p.ai ≠ q.si ∧ (p.ai = q.ai ↔ p.si = q.si) := fun p hp q hq => by
  have := hC.2 _ p hp rfl _ q hq rfl
  simp only [bne_iff_ne, ne_eq, beq_iff_eq] at this
  refine ⟨this.1, ?_⟩
  have h2 := this.2
  constructor
  ·intro e; simpa [e] using h2
  ·intro e; simpa [e] using h2
 refine rT hm (Cwl ops need val items ci base J a0) a0 w0 ?_ (fun l a w h => h.size) ?_ ?_
 ·have hrep : ∀ j, (Array.replicate ops.size false).getD j false = false := fun j => by
   simp [Array.getElem?_replicate]; split <;> rfl
  refine ⟨by simp, rfl, rfl, fun _ _ => rfl, fun j hj => ?_, fun j v _ hj => ?_, by rw [hbase]; exact ZqE _, fun p _ q _ _ hj => ?_, L0, ?_, fun q _ hj => ?_⟩
  ·rw [hrep] at hj; cases hj
  ·rw [hrep] at hj; cases hj
  ·rw [hrep] at hj; cases hj
  ·rw [hrep]; exact h0
  ·rw [hrep] at hj; cases hj
 ·intro l a w i o h ho hi hall
  have hok := jG hB ho
  have hil : i < l.size := by rw [h.size]; exact (Array.getElem?_eq_some_iff.1 ho).1
  have hinot : l.getD i false = false := by simp [hil] at hi ⊢; exact hi
  have hneed : ∀ k ∈ need i, l.getD k false = true := fun k hk => by
   obtain ⟨e, he, hbe, h1 | h1⟩ := hok.need k hk
   ·rw [← h1]; exact hall e he hbe
   ·exact h.cl e.on (hall e he hbe) k h1
  have hnf : ∀ k ∈ need i, ∀ u, val k = some u → bH ops a k = u := fun k hk u hu => h.fact k u hu (hneed k hk)
  -- what a put leaves
  have hsame : ∀ v, o.dst ≠ none → bH ops (a.put o.dst v) i = v := fun v hne => by
   cases hd : o.dst with
   | none => exact absurd hd hne
   | some d =>
    obtain ⟨_, hdn, _⟩ := hok.dst d hd
    unfold bH; rw [jN ho hd]; exact lX (by rw [h.tsz]; exact hdn)
  have hkeep : ∀ v k, l.getD k false = true → bH ops (a.put o.dst v) k = bH ops a k := fun v k hk => by
   cases hd : o.dst with
   | none => rfl
   | some d =>
    obtain ⟨hd0, hdn, hdis⟩ := hok.dst d hd
    have hkl : k < ops.size := by
     rcases Nat.lt_or_ge k l.size with h' | h'
     ·rw [← h.size]; exact h'
     ·simp [Array.getElem?_eq_none h'] at hk
    have hki : k ≠ i := fun e => by rw [e, hinot] at hk; cases hk
    have hne := hdis k _ (Array.getElem?_eq_getElem hkl) hki
    unfold bH
    refine Act.eval_put fun x hx => ?_
    cases hx
    intro e
    cases hd' : (ops[k]).dst with
    | none =>
     rw [show kH ops k = 0 by simp [kH, hkl, hd']] at e
     cases e
     exact absurd hd0 (Nat.lt_irrefl 0)
    | some d' =>
     rw [jN (Array.getElem?_eq_getElem hkl) hd'] at e
     cases e
     exact hne hd'
  have hwas : ∀ j, (l.setIfInBounds i true).getD j false = true → j = i ∨ l.getD j false = true := fun j hj => by
   by_cases e : i = j
   ·exact .inl e.symm
   ·rw [getD_set_ne false e] at hj; exact .inr hj
  have hnew : (l.setIfInBounds i true).getD i false = true := by simp [hil]
  have holdp : ∀ v k, eG ops k = true → (a.put o.dst v).eval (.tmp k) = a0.eval (.tmp k) := fun v k hk => by
   rw [← h.old k hk]
   refine Act.eval_put fun x hx e => ?_
   cases e
   have := List.all_eq_true.1 hk o (by have := Array.mem_of_getElem? ho; simpa using this)
   simp [hx] at this
  have hcl : ∀ j, (l.setIfInBounds i true).getD j false = true → ∀ k ∈ need j, (l.setIfInBounds i true).getD k false = true := fun j hj k hk => by
   rcases hwas j hj with e | e
   ·rw [e] at hk; exact getD_set_true (hneed k hk)
   ·exact getD_set_true (h.cl j e k hk)
  have hsize : (l.setIfInBounds i true).size = ops.size := by rw [Array.size_setIfInBounds]; exact h.size
  have hother : ∀ j, j ≠ i → (l.setIfInBounds i true).getD j false = l.getD j false := fun j hj => getD_set_ne false (Ne.symm hj)
  obtain ⟨L, hJ, hrow⟩ := h.world
  cases hop i o ho with
  | pure v hv hc hd hh =>
   refine wpOp_mono ?_ (hh a w L _ h.old hnf hJ)
   rintro a' w' ⟨rfl, hbw⟩
   have hia : ∀ q ∈ items, q.ai ≠ i ∧ q.si ≠ i := fun q hq => ⟨fun e => (by have := (hC1 q hq).1; rw [e, hv] at this; cases this), fun e => (by have := (hC1 q hq).2.1; rw [e, hv] at this; cases this)⟩
   refine ⟨hsize, by rw [lA]; exact h.tsz, by rw [kD]; exact h.dfr, holdp v, hcl, fun j u hu hj => ?_, ZqO h.bs hbw.size, fun p hp q hq hne hpl hql => ?_, L, ?_, fun q hq hql => ?_⟩
   ·rcases hwas j hj with e | e
    ·subst e
     rw [hsame v hd]; rw [hv] at hu; exact ZqF hu
    ·rw [hkeep v j e]; exact h.fact j u hu e
   ·rw [hother _ (hia p hp).1] at hpl
    rw [hother _ (hia q hq).1] at hql
    rw [hkeep v _ hpl, hkeep v _ hql]; exact h.dis p hp q hq hne hpl hql
   ·rw [hother _ (Ne.symm hc)]; exact hlat _ _ _ _ hJ hbw
   ·rw [hother _ (hia q hq).1] at hql
    rw [hother _ (hia q hq).2, hkeep v _ hql]
    obtain ⟨g, h1, h2, h3, h4⟩ := hrow q hq hql
    exact ⟨g, h1, (hbw.block g (Array.getElem?_eq_some_iff.1 h2).1).trans h2, h3, h4⟩
  | call v hv hc hd hh =>
   subst hc
   rw [hinot] at hJ
   refine wpOp_mono ?_ (hh a w L h.old hnf hJ)
   rintro a' w' ⟨rfl, L', hJ', hF⟩
   have hia : ∀ q ∈ items, q.ai ≠ i ∧ q.si ≠ i := fun q hq => ⟨(hC1 q hq).2.2.1, (hC1 q hq).2.2.2⟩
   refine ⟨hsize, by rw [lA]; exact h.tsz, by rw [kD]; exact h.dfr, holdp v, hcl, fun j u hu hj => ?_, ZqO h.bs hF.sz, fun p hp q hq hne hpl hql => ?_, L', ?_, fun q hq hql => ?_⟩
   ·rcases hwas j hj with e | e
    ·subst e
     rw [hsame v hd]; rw [hv] at hu; exact ZqF hu
    ·rw [hkeep v j e]; exact h.fact j u hu e
   ·rw [hother _ (hia p hp).1] at hpl
    rw [hother _ (hia q hq).1] at hql
    rw [hkeep v _ hpl, hkeep v _ hql]; exact h.dis p hp q hq hne hpl hql
   ·rw [hnew]; exact hJ'
   ·rw [hother _ (hia q hq).1] at hql
    rw [hother _ (hia q hq).2, hkeep v _ hql]
    obtain ⟨g, h1, h2, h3, h4⟩ := hrow q hq hql
    have hg : g < w.heap.size := (Array.getElem?_eq_some_iff.1 h2).1
    exact ⟨g, h1, (hF.bl g hg h3).trans h2, fun e => (by rcases hF.ow g e with q' | q'; exact h3 q'; omega), h4⟩
  | made q hq hia hd hh =>
   subst hia
   refine wpOp_mono ?_ (hh a w)
   rintro a' w' ⟨rfl, rfl⟩
   have hc : q.ai ≠ ci := (hC1 q hq).2.2.1
   have hsi : l.getD q.si false = false := by
    cases e : l.getD q.si false with
    | false => rfl
    | true =>
     exfalso
     have hlt : q.si < ops.size := by
      rcases Nat.lt_or_ge q.si l.size with h' | h'
      ·rw [← h.size]; exact h'
      ·simp [Array.getElem?_eq_none h'] at e
     cases hop q.si _ (Array.getElem?_eq_getElem hlt) with
     | pure v hv _ _ _ => rw [(hC1 q hq).2.1] at hv; cases hv
     | call v hv _ _ _ => rw [(hC1 q hq).2.1] at hv; cases hv
     | made p hp he _ _ => exact (hC2 p hp q hq).1 he.symm
     | stored p hp he _ hn _ _ =>
      have h1 : p.ai = q.ai := (hC2 p hp q hq).2.2 he.symm
      have := h.cl q.si e p.ai hn.1
      rw [h1, hinot] at this; cases this
   have hold : ∀ p ∈ items, p.ai ≠ q.ai → p.si ≠ q.ai := fun p hp _ e => (hC2 q hq p hp).1 e.symm
   refine ⟨hsize, by rw [lA]; exact h.tsz, by rw [kD]; exact h.dfr, holdp _, hcl, fun j u hu hj => ?_, ZqO h.bs (by simp), fun p hp p' hp' hne hpl hpl' => ?_, L, ?_, fun p hp hpl => ?_⟩
   ·rcases hwas j hj with e | e
    ·rw [e, (hC1 q hq).1] at hu; cases hu
    ·rw [hkeep _ j e]; exact h.fact j u hu e
   ·have key : ∀ r ∈ items, r.ai ≠ q.ai → (l.setIfInBounds q.ai true).getD r.ai false = true → bH ops (a.put o.dst (ptr w.heap.size)) r.ai ≠ ptr w.heap.size := fun r hr hrne hrl => by
     rw [hother _ hrne] at hrl
     rw [hkeep _ _ hrl]
     obtain ⟨g, h1, h2, _⟩ := hrow r hr hrl
     have hg : g < w.heap.size := (Array.getElem?_eq_some_iff.1 h2).1
     rw [h1]; intro e; have := AV e; omega
    by_cases e1 : p.ai = q.ai
    ·have e2 : p'.ai ≠ q.ai := fun e => hne (e1.trans e.symm)
     rw [e1, hsame _ hd]; exact fun e => key p' hp' e2 hpl' e.symm
    ·by_cases e2 : p'.ai = q.ai
     ·rw [e2, hsame _ hd]; exact key p hp e1 hpl
     ·rw [hother _ e1] at hpl
      rw [hother _ e2] at hpl'
      rw [hkeep _ _ hpl, hkeep _ _ hpl']; exact h.dis p hp p' hp' hne hpl hpl'
   ·rw [hother _ (Ne.symm hc)]; exact hlat _ _ _ _ hJ (aG _ _)
   ·by_cases e1 : p.ai = q.ai
    ·obtain rfl := hI p hp q hq e1
     refine ⟨w.heap.size, hsame _ hd, ?_, fun e => ?_, h.bs⟩
     ·rw [hother _ (fun e => (hC2 p hp p hp).1 e.symm), hsi]
      exact heap_alloc_new w _
     ·have := hown _ _ _ _ hJ e; omega
    ·rw [hother _ e1] at hpl
     rw [hother _ (hold p hp e1), hkeep _ _ hpl]
     obtain ⟨g, h1, h2, h3, h4⟩ := hrow p hp hpl
     have hg : g < w.heap.size := (Array.getElem?_eq_some_iff.1 h2).1
     exact ⟨g, h1, (heap_alloc_old w _ hg).trans h2, h3, h4⟩
  | stored q hq hsi hd hn hx hh =>
   subst hsi
   have hal' := hneed _ hn.1
   obtain ⟨g, h1, h2, h3, h4⟩ := hrow q hq hal'
   rw [hinot] at h2
   refine wpOp_mono ?_ (hh a w g h1 (hnf _ hn.2 _ hx) h2)
   rintro a' w' ⟨rfl, rfl⟩
   have hc : q.si ≠ ci := (hC1 q hq).2.2.2
   refine ⟨hsize, h.tsz, h.dfr, h.old, hcl, fun j u hu hj => ?_, ZqO h.bs (by simp [World.setRow]), fun p hp p' hp' hne hpl hpl' => ?_, L, ?_, fun p hp hpl => ?_⟩
   ·rcases hwas j hj with e | e
    ·rw [e, (hC1 q hq).2.1] at hu; cases hu
    ·exact h.fact j u hu e
   ·rw [hother _ (fun e => (hC2 p hp q hq).1 e)] at hpl
    rw [hother _ (fun e => (hC2 p' hp' q hq).1 e)] at hpl'
    exact h.dis p hp p' hp' hne hpl hpl'
   ·rw [hother _ (Ne.symm hc)]; exact hput _ _ _ _ _ hJ h3 h4
   ·rw [hother _ (fun e => (hC2 p hp q hq).1 e)] at hpl
    by_cases e1 : p.ai = q.ai
    ·obtain rfl := hI p hp q hq e1
     rw [hnew]
     exact ⟨g, h1, wI w g _ _ _ h2, h3, h4⟩
    ·have e2 : p.si ≠ q.si := fun e => e1 ((hC2 p hp q hq).2.2 e)
     obtain ⟨g', h1', h2', h3', h4'⟩ := hrow p hp hpl
     have hgg : g' ≠ g := fun e => h.dis p hp q hq e1 hpl hal' (by rw [h1', h1, e])
     rw [hother _ e2]
     exact ⟨g', h1', (setRow_other _ _ _ _ hgg).trans h2', h3', h4'⟩
 ·intro l a w h hr
  have hl := zP hB h.size hr
  obtain ⟨L, hJ, hrow⟩ := h.world
  rw [hl ci hci] at hJ
  let pg : Nat → Nat := fun j => match bH ops a j with | .pointer (some p) => p.block | _ => 0
  have hpg : ∀ q ∈ items, bH ops a q.ai = ptr (pg q.ai) := fun q hq => by
   obtain ⟨g, h1, _⟩ := hrow q hq (hl _ (hall q hq).1)
   show bH ops a q.ai = ptr (match bH ops a q.ai with | .pointer (some p) => p.block | _ => 0)
   rw [h1]; rfl
  have hea : a = dW (fun j => (val j).getD (ptr (pg j))) ops.toList 0 a0 := by
   have hs := oG (fun j => (val j).getD (ptr (pg j))) ops.toList 0 a0
   have ht : a.tmps = (dW (fun j => (val j).getD (ptr (pg j))) ops.toList 0 a0).tmps := by
    apply Array.ext_getElem?
    intro k
    by_cases hk : k < a0.tmps.size
    ·by_cases hap : eG ops k = true
     ·have e1 := h.old k hap
      rw [kC _ k _ _ _ (fun o ho => by
       have := List.all_eq_true.1 hap o ho
       simpa using this)]
      simp only [Act.eval, Array.getD_eq_getD_getElem?] at e1
      rw [Array.getElem?_eq_getElem hk, Array.getElem?_eq_getElem (by rw [h.tsz]; exact hk)] at e1 ⊢
      simpa using e1
     ·have : ∃ o ∈ ops.toList, o.dst = some k := by
       simp only [eG, List.all_eq_true, bne_iff_ne, ne_eq, Classical.not_forall, Decidable.not_not] at hap
       obtain ⟨o, ho, hd⟩ := hap
       exact ⟨o, ho, hd⟩
      obtain ⟨o, ho, hd⟩ := this
      obtain ⟨i, hi, he⟩ := List.getElem_of_mem ho
      have hi' : i < ops.size := by simpa using hi
      have hoi : ops[i]? = some o := by rw [Array.getElem?_eq_getElem hi']; simpa using he
      have hok := jG hB hoi
      rw [sT _ k _ _ _ i o (by simpa using hoi) hd (fun i' o' h1 h2 => (hok.dst k hd).2.2 i' o' (by simpa using h1) h2) hk, ZqU]
      have hleft : bH ops a i = (val i).getD (ptr (pg i)) := by
       cases hv : val i with
       | some v => rw [h.fact i v hv (hl i hi')]; rfl
       | none =>
        cases hop i o hoi with
        | pure v hv' _ _ _ => rw [hv] at hv'; cases hv'
        | call v hv' _ _ _ => rw [hv] at hv'; cases hv'
        | made q hq he _ _ => subst he; exact hpg q hq
        | stored q hq he hd' _ _ _ => rw [hd] at hd'; cases hd'
      unfold bH at hleft
      rw [jN hoi hd] at hleft
      simp only [Act.eval, Array.getD_eq_getD_getElem?] at hleft
      rw [Array.getElem?_eq_getElem (by rw [h.tsz]; exact hk)] at hleft ⊢
      rw [← hleft]; rfl
    ·rw [Array.getElem?_eq_none (by rw [h.tsz]; omega), Array.getElem?_eq_none (by rw [hs.1]; omega)]
   have hd : a.defers = (dW (fun j => (val j).getD (ptr (pg j))) ops.toList 0 a0).defers := h.dfr.trans hs.2.symm
   cases a
   generalize dW (fun j => (val j).getD (ptr (pg j))) ops.toList 0 a0 = z at ht hd
   cases z
   simp only at ht hd
   rw [ht, hd]
  rw [hea]
  refine hend w L pg hJ (fun q hq => ?_) (fun p hp q hq hne e => ?_)
  ·obtain ⟨g, h1, h2, h3, h4⟩ := hrow q hq (hl _ (hall q hq).1)
   have : g = pg q.ai := AV (h1.symm.trans (hpg q hq))
   subst this
   rw [hl _ (hall q hq).2] at h2
   exact ⟨h2, h3, h4⟩
  ·exact h.dis p hp q hq hne (hl _ (hall p hp).1) (hl _ (hall q hq).1) (by rw [hpg p hp, hpg q hq, e])
end
structure Ins where
 op : Int
 rd : Int
 r1 : Int
 r2 : Int
 im : Int
 aq : Bool
 rl : Bool
 ln : Int
 rw : BitVec 32
def icell (i : Ins) (j : Nat) : Value :=
 if j = 0 then .int .i64 i.op else if j = 1 then .int .i64 i.rd else if j = 2 then .int .i64 i.r1 else if j = 3 then .int .i64 i.r2 else if j = 4 then .int .i64 i.im else if j = 5 then .bool i.aq else if j = 6 then .bool i.rl else if j = 7 then .int .i64 i.ln else .int .u32 (n32 i.rw)
def inc (i : Ins) : Array Value := #[.int .i64 i.op, .int .i64 i.rd, .int .i64 i.r1, .int .i64 i.r2, .int .i64 i.im, .bool i.aq, .bool i.rl, .int .i64 i.ln, .int .u32 (n32 i.rw)]
theorem IK (i : Ins) : (inc i).size = 9 := rfl
theorem vP (i : Ins) : (inc i).all (·.oneCell') = true := by kernel_rfl
structure Dd where
 t : Tp
 rd : Int
 v : BitVec 64
 me : Int
 ad : BitVec 64
 sz : Int
 da : BitVec 64
 wc : Bool
 wi : Bool
def sE (d : Dd) (j : Nat) : Value :=
 if j = 0 then .bool d.t.is else if j = 1 then .int .u64 d.t.ca else if j = 2 then .int .u64 (n64 d.t.tv) else if j = 3 then .int .i64 d.rd else if j = 4 then .int .u64 (n64 d.v) else if j = 5 then .int .i64 d.me else if j = 6 then .int .u64 (n64 d.ad) else if j = 7 then .int .i64 d.sz else if j = 8 then .int .u64 (n64 d.da) else if j = 9 then .bool d.wc else .bool d.wi
def dnc (d : Dd) : Array Value := #[.bool d.t.is, .int .u64 d.t.ca, .int .u64 (n64 d.t.tv), .int .i64 d.rd, .int .u64 (n64 d.v), .int .i64 d.me, .int .u64 (n64 d.ad), .int .i64 d.sz, .int .u64 (n64 d.da), .bool d.wc, .bool d.wi]
theorem pR (d : Dd) : (dnc d).size = 11 := rfl
theorem eZ (d e : Dd) : (dnc d).size = (dnc e).size := rfl
theorem eH (d : Dd) (j : Nat) (h : j < 11) : (dnc d)[j]? = some (sE d j) := by
 match j, h with
 | 0, _ => rfl
 | 1, _ => rfl
 | 2, _ => rfl
 | 3, _ => rfl
 | 4, _ => rfl
 | 5, _ => rfl
 | 6, _ => rfl
 | 7, _ => rfl
 | 8, _ => rfl
 | 9, _ => rfl
 | 10, _ => rfl
theorem dI (d : Dd) : (dnc d).all (·.oneCell') = true := by kernel_rfl
def dZ : Dd := ⟨tN, 0, 0#64, 0, 0#64, 0, 0#64, false, false⟩
def dT (t : Tp) : Dd := { dZ with t := t }
theorem fP (w : World) : (zeroValue 44).run prog w = .ok (.agg (dnc dZ)) w := by kernel_rfl
theorem bE (d : Dd) : (prog.info? 44).map (·.size) = some (dnc d).size := by rw [pR]; kernel_rfl
theorem fW (i : Ins) : (prog.info? 48).map (·.size) = some (inc i).size := by rw [IK]; kernel_rfl
structure Wk where
 p : Cp
 k : Cp
 b : Nat
 i : Ins
 sz : Int
 nx : BitVec 64
 d : Dd
def fK (k : Wk) (j : Nat) : Value :=
 if j < 82 then cF k.p j else if j < 164 then cF k.k (j - 82) else if j = 164 then .pointer (some ⟨k.b, 0, none⟩) else if j < 174 then icell k.i (j - 165) else if j = 174 then .int .i64 k.sz else if j = 175 then .int .u64 (n64 k.nx) else sE k.d (j - 176)
def wkc (k : Wk) : Array Value := Array.ofFn (n := 187) fun j => fK k j.val
theorem iG (k : Wk) : (wkc k).size = 187 := by simp [wkc]
theorem eA (k : Wk) (j : Nat) (h : j < 187) : (wkc k)[j]? = some (fK k j) := by simp [wkc, h]
theorem MO (k : Wk) (j : Nat) (h : j < 82) : fK k (82 + j) = cF k.k j := by
 unfold fK; rw [if_neg (by omega), if_pos (by omega), Nat.add_sub_cancel_left]
theorem SQ (k : Wk) (j : Nat) (h : j < 11) : fK k (176 + j) = sE k.d j := by
 unfold fK; rw [if_neg (by omega), if_neg (by omega), if_neg (by omega), if_neg (by omega), if_neg (by omega), if_neg (by omega), Nat.add_sub_cancel_left]
theorem pG {k k' : Wk} {i : Nat} {v : Value} (hi : i < 187) (h1 : fK k' i = v) (h2 : ∀ j, j < 187 → j ≠ i → fK k' j = fK k j) : (wkc k).setIfInBounds i v = wkc k' := by
 apply Array.ext_getElem?
 intro j
 rw [Array.getElem?_setIfInBounds]
 by_cases hj : j < 187
 ·rw [eA _ _ hj, eA _ _ hj, iG]
  by_cases e : i = j
  ·subst e; rw [if_pos rfl, if_pos hi, h1]
  ·rw [if_neg e, h2 j hj (fun q => e q.symm)]
 ·rw [if_neg (by omega), Array.getElem?_eq_none (by rw [iG]; omega), Array.getElem?_eq_none (by rw [iG]; omega)]
theorem OP {d d' : Dd} {i : Nat} {v : Value} (hi : i < 11) (h : (dnc d).setIfInBounds i v = dnc d') : sE d' i = v ∧ ∀ j, j < 11 → j ≠ i → sE d' j = sE d j := by
 refine ⟨?_, fun j hj hne => ?_⟩
 ·have := congrArg (fun z : Array Value => z[i]?) h
  simp only [Array.getElem?_setIfInBounds, eH _ _ hi, pR, hi, if_true] at this
  exact (ZqF this).symm
 ·have := congrArg (fun z : Array Value => z[j]?) h
  simp only [Array.getElem?_setIfInBounds, eH _ _ hj, if_neg (Ne.symm hne)] at this
  exact (ZqF this).symm
theorem OM {c c' : Cp} {i : Nat} {v : Value} (hi : i < 82) (h : (cpc c).setIfInBounds i v = cpc c') : cF c' i = v ∧ ∀ j, j < 82 → j ≠ i → cF c' j = cF c j := by
 refine ⟨?_, fun j hj hne => ?_⟩
 ·have := congrArg (fun z : Array Value => z[i]?) h
  simp only [Array.getElem?_setIfInBounds, bG _ _ hi, aE, hi, if_true] at this
  exact (ZqF this).symm
 ·have := congrArg (fun z : Array Value => z[j]?) h
  simp only [Array.getElem?_setIfInBounds, bG _ _ hj, if_neg (Ne.symm hne)] at this
  exact (ZqF this).symm
theorem gU {k : Wk} {d' : Dd} {i : Nat} (hi : i < 11) {v : Value} (h : (dnc k.d).setIfInBounds i v = dnc d') : (wkc k).setIfInBounds (176 + i) v = wkc { k with d := d' } := by
 obtain ⟨h1, h2⟩ := OP hi h
 refine pG (by omega) ?_ fun j hj hne => ?_
 ·rw [SQ _ _ hi]; exact h1
 ·by_cases hj2 : 176 ≤ j
  ·obtain ⟨m, rfl⟩ : ∃ m, j = 176 + m := ⟨j - 176, by omega⟩
   rw [SQ _ _ (by omega), SQ _ _ (by omega)]; exact h2 m (by omega) (by omega)
  ·unfold fK
   repeat' split
   all_goals first | rfl | (exfalso; omega)
theorem wX {k : Wk} {c' : Cp} {i : Nat} (hi : i < 82) {v : Value} (h : (cpc k.k).setIfInBounds i v = cpc c') : (wkc k).setIfInBounds (82 + i) v = wkc { k with k := c' } := by
 obtain ⟨h1, h2⟩ := OM hi h
 refine pG (by omega) ?_ fun j hj hne => ?_
 ·rw [MO _ _ hi]; exact h1
 ·by_cases hj2 : 82 ≤ j ∧ j < 164
  ·obtain ⟨m, rfl⟩ : ∃ m, j = 82 + m := ⟨j - 82, by omega⟩
   rw [MO _ _ (by omega), MO _ _ (by omega)]; exact h2 m (by omega) (by omega)
  ·unfold fK
   repeat' split
   all_goals first | rfl | (exfalso; omega)
theorem wkc_x (k : Wk) (i : Nat) (h : i < 32) (v : BitVec 64) : (wkc k).setIfInBounds (83 + i) (.int .u64 (n64 v)) = wkc { k with k := { k.k with x := upd k.k.x i v } } := by
 rw [show 83 + i = 82 + (1 + i) by omega]; exact wX (by omega) (pQ k.k i h v)
theorem wkc_pc (k : Wk) (v : BitVec 64) : (wkc k).setIfInBounds 82 (.int .u64 (n64 v)) = wkc { k with k := { k.k with pc := v } } := wX (i := 0) (by omega) (kV k.k v)
theorem wkc_sz (k : Wk) (v : Int) : (wkc k).setIfInBounds 174 (.int .i64 v) = wkc { k with sz := v } := by
 refine pG (by omega) rfl fun j hj hne => ?_
 unfold fK
 repeat' split
 all_goals first | rfl | (exfalso; omega)
theorem zF (k : Wk) (v : BitVec 64) : (wkc k).setIfInBounds 175 (.int .u64 (n64 v)) = wkc { k with nx := v } := by
 refine pG (by omega) rfl fun j hj hne => ?_
 unfold fK
 repeat' split
 all_goals first | rfl | (exfalso; omega)
theorem SV (k : Wk) (v : Int) : (wkc k).setIfInBounds 179 (.int .i64 v) = wkc { k with d := { k.d with rd := v } } := gU (i := 3) (by omega) rfl
theorem wkc_dv (k : Wk) (v : BitVec 64) : (wkc k).setIfInBounds 180 (.int .u64 (n64 v)) = wkc { k with d := { k.d with v := v } } := gU (i := 4) (by omega) rfl
theorem SU (k : Wk) (v : Int) : (wkc k).setIfInBounds 181 (.int .i64 v) = wkc { k with d := { k.d with me := v } } := gU (i := 5) (by omega) rfl
theorem SR (k : Wk) (v : BitVec 64) : (wkc k).setIfInBounds 182 (.int .u64 (n64 v)) = wkc { k with d := { k.d with ad := v } } := gU (i := 6) (by omega) rfl
theorem SW (k : Wk) (v : Int) : (wkc k).setIfInBounds 183 (.int .i64 v) = wkc { k with d := { k.d with sz := v } } := gU (i := 7) (by omega) rfl
theorem ST (k : Wk) (v : BitVec 64) : (wkc k).setIfInBounds 184 (.int .u64 (n64 v)) = wkc { k with d := { k.d with da := v } } := gU (i := 8) (by omega) rfl
theorem SX (k : Wk) (v : Bool) : (wkc k).setIfInBounds 185 (.bool v) = wkc { k with d := { k.d with wc := v } } := gU (i := 9) (by omega) rfl
theorem BT (k : Wk) (v : Bool) : (wkc k).setIfInBounds 186 (.bool v) = wkc { k with d := { k.d with wi := v } } := gU (i := 10) (by omega) rfl
theorem wkc_k (k : Wk) (c : Cp) : gQ (wkc k) 82 (cpc c).toList = wkc { k with k := c } := by
 apply Array.ext_getElem?
 intro j
 have hl : (cpc c).toList.length = 82 := by rw [Array.length_toList, aE]
 rw [lP _ _ _ _ (by rw [hl, iG]; omega), hl]
 by_cases hj : j < 187
 ·by_cases h : 82 ≤ j ∧ j < 82 + 82
  ·rw [if_pos h, Array.getElem?_toList, bG _ _ (by omega), eA _ _ hj, ← MO { k with k := c } (j - 82) (by omega), show 82 + (j - 82) = j by omega]
  ·rw [if_neg h, eA _ _ hj, eA _ _ hj]
   unfold fK
   repeat' split
   all_goals first | rfl | (exfalso; omega)
 ·rw [if_neg (by omega), Array.getElem?_eq_none (by rw [iG]; omega), Array.getElem?_eq_none (by rw [iG]; omega)]
structure Kls (w : World) (g : Nat) (k : Wk) : Prop where
 pc : w.cell? ⟨g, 0, none⟩ = some (.int .u64 (n64 k.p.pc))
 md : w.cell? ⟨g, 33, none⟩ = some (.int .i64 k.p.md)
 x : ∀ i, i < 32 → w.cell? ⟨g, 1 + i, none⟩ = some (.int .u64 (n64 (k.p.x i)))
 kk : ∀ j v, (cpc k.k)[j]? = some v → w.cell? ⟨g, 82 + j, none⟩ = some v
 b : w.cell? ⟨g, 164, none⟩ = some (.pointer (some ⟨k.b, 0, none⟩))
 op : w.cell? ⟨g, 165, none⟩ = some (.int .i64 k.i.op)
 rd : w.cell? ⟨g, 166, none⟩ = some (.int .i64 k.i.rd)
 r1 : w.cell? ⟨g, 167, none⟩ = some (.int .i64 k.i.r1)
 r2 : w.cell? ⟨g, 168, none⟩ = some (.int .i64 k.i.r2)
 im : w.cell? ⟨g, 169, none⟩ = some (.int .i64 k.i.im)
 ln : w.cell? ⟨g, 172, none⟩ = some (.int .i64 k.i.ln)
 rw : w.cell? ⟨g, 173, none⟩ = some (.int .u32 (n32 k.i.rw))
 sz : w.cell? ⟨g, 174, none⟩ = some (.int .i64 k.sz)
 nx : w.cell? ⟨g, 175, none⟩ = some (.int .u64 (n64 k.nx))
 dn : ∀ j v, (dnc k.d)[j]? = some v → w.cell? ⟨g, 176 + j, none⟩ = some v
theorem Row.kls {w : World} {g : Nat} {k : Wk} {t : TypeId} (h : Row w g (wkc k) t) : Kls w g k where
 pc := (h.cell 0).trans (eA k 0 (by decide))
 md := (h.cell 33).trans (eA k 33 (by decide))
 x := fun i hi => by rw [h.cell, eA k _ (by omega)]; unfold fK; rw [if_pos (by omega), fV _ _ hi]
 kk := fun j v hv => by
  have hj : j < 82 := by have := (Array.getElem?_eq_some_iff.1 hv).1; rwa [aE] at this
  rw [h.cell, eA k _ (by omega), MO _ _ hj, ← bG _ _ hj]; exact hv
 b := (h.cell 164).trans (eA k 164 (by decide))
 op := (h.cell 165).trans (eA k 165 (by decide))
 rd := (h.cell 166).trans (eA k 166 (by decide))
 r1 := (h.cell 167).trans (eA k 167 (by decide))
 r2 := (h.cell 168).trans (eA k 168 (by decide))
 im := (h.cell 169).trans (eA k 169 (by decide))
 ln := (h.cell 172).trans (eA k 172 (by decide))
 rw := (h.cell 173).trans (eA k 173 (by decide))
 sz := (h.cell 174).trans (eA k 174 (by decide))
 nx := (h.cell 175).trans (eA k 175 (by decide))
 dn := fun j v hv => by
  have hj : j < 11 := by have := (Array.getElem?_eq_some_iff.1 hv).1; rwa [pR] at this
  rw [h.cell, eA k _ (by omega), SQ _ _ hj, ← eH _ _ hj]; exact hv
def wi (n lo hi : Int) : Bool := decide (lo ≤ n ∧ n ≤ hi)
def EX (n : Int) : Bool := decide (n = 768 ∨ n = 769 ∨ n = 772 ∨ n = 773 ∨ n = 774 ∨ n = 778 ∨ n = 800 ∨ n = 928 ∨ n = 930) || wi n 3857 3861 || wi n 803 831 || wi n 832 836 || wi n 944 959 || (wi n 2816 2847 && decide (n ≠ 2817)) || wi n 3072 3103
def TO (k : Cp) (mip time : BitVec 64) (n : Int) : Int :=
 if n = 3859 then 1 else if n = 768 then n64 (k.s 0) else if n = 769 then 9223372036855828741 else if n = 772 then n64 (k.s 2) else if n = 773 then n64 (k.s 1) else if n = 774 then n64 (k.s 3) else if n = 778 then n64 (k.s 5) else if n = 800 then n64 (k.s 4) else if n = 832 then n64 (k.s 6) else if n = 833 then n64 (k.s 7) else if n = 834 then n64 (k.s 8) else if n = 835 then n64 (k.s 9) else if n = 836 then n64 (mip &&& 2184#64) else if n = 928 then pO (PC k.c) 0 else if n = 930 then pO (PC k.c) 2 else if n = 2816 then n64 (k.s 10) else if n = 3072 then n64 (k.s 10) else if n = 2818 then n64 (k.s 11) else if n = 3074 then n64 (k.s 11) else if n = 3073 then n64 time else if 944 ≤ n ∧ n ≤ 959 then n64 (k.a (n - 944).toNat) else 0
theorem zL (k : Cp) : (PR k).md = 0 ∨ (PR k).md = 3 := by
 unfold PR; by_cases h : k.md = 3
 ·right; simp [h]
 ·left; simp [h]
def RK (k : Cp) (n : Int) : Bool := EX n && (decide ((PR k).md = 3) || (wi n 3072 3103 && decide (¬ (PR k).s 3 >>> (n - 3072).toNat &&& 1#64 = 0#64)))
theorem and3 (m : Int) (h0 : 0 ≤ m) (h1 : m < 16) : bits .and .i64 m 3 = m % 4 := by
 have : m = 0 ∨ m = 1 ∨ m = 2 ∨ m = 3 ∨ m = 4 ∨ m = 5 ∨ m = 6 ∨ m = 7 ∨ m = 8 ∨ m = 9 ∨ m = 10 ∨ m = 11 ∨ m = 12 ∨ m = 13 ∨ m = 14 ∨ m = 15 := by omega
 rcases this with rfl | rfl | rfl | rfl | rfl | rfl | rfl | rfl | rfl | rfl | rfl | rfl | rfl | rfl | rfl | rfl <;> decide +kernel
theorem TB (n : Int) (h : EX n = true) : 0 ≤ n ∧ n < 4096 ∧ (wi n 3072 3103 = true → n / 256 % 4 = 0) ∧ (wi n 3072 3103 = false → n / 256 % 4 = 3) := by
 simp only [EX, wi, Bool.or_eq_true, Bool.and_eq_true, decide_eq_true_iff, decide_eq_false_iff_not] at h ⊢
 omega
def RD (k : Cp) (mip time : BitVec 64) (n : Int) : Int := if RK k n then TO (PR k) mip time n else 0
def stW (old v : BitVec 64) : BitVec 64 := if mq v then v &&& ~~~6144#64 ||| old &&& 6144#64 else v
def KW (k : Cp) (n : Int) (v : BitVec 64) : Cp :=
 if n = 768 then { k with s := upd k.s 0 (stW (k.s 0) v) } else if n = 772 then { k with s := upd k.s 2 v } else if n = 773 then { k with s := upd k.s 1 v } else if n = 774 then { k with s := upd k.s 3 v } else if n = 778 then { k with s := upd k.s 5 v } else if n = 800 then { k with s := upd k.s 4 v } else if n = 832 then { k with s := upd k.s 6 v } else if n = 833 then { k with s := upd k.s 7 v } else if n = 834 then { k with s := upd k.s 8 v } else if n = 835 then { k with s := upd k.s 9 v } else if n = 2816 then { k with s := upd k.s 10 v } else if n = 2818 then { k with s := upd k.s 11 v } else if n = 928 then { k with c := sR (PC k.c) 0 v, a := PA k.a } else if n = 930 then { k with c := sR (PC k.c) 2 v, a := PA k.a } else if 944 ≤ n ∧ n ≤ 959 then { k with c := PC k.c, a := sA (PC k.c) (PA k.a) (n - 944) v } else k
theorem sW {w : World} {g g' : Nat} {cs : Array Value} {t : TypeId} (h : Row w g cs t) (hne : g ≠ g') (cs' : Array Value) : Row (w.setRow g' cs') g cs t := (setRow_other _ _ _ _ hne).trans h
def WK (k : Cp) (n : Int) : Bool := EX n && decide ((PR k).md = 3) && decide (n < 3072)
def WR (k : Cp) (n : Int) (v : BitVec 64) : Cp := if WK k n then PR (KW (PR k) n v) else PR k
theorem EX_hi (n : Int) (h : EX n = true) : (n < 3072 → ¬ n / 1024 % 4 = 3 ∧ wi n 3072 3103 = false) ∧ (¬ n < 3072 → n / 1024 % 4 = 3) := by
 simp only [EX, wi, Bool.or_eq_true, Bool.and_eq_true, decide_eq_true_iff, decide_eq_false_iff_not] at h ⊢
 omega
def CRd : Prop := ∀ (k : Cp) (mip time : BitVec 64) (n : Int), I64 n → ∀ (W : World), Calls prog 14 #[.agg (cpc k), .int .u64 (n64 mip), .int .u64 (n64 time), .int .i64 n] W fun e w' => e = .returned (.tuple #[.int .u64 (RD k mip time n), .bool (RK k n)]) ∧ Below W.heap.size W w'
def CWr : Prop := ∀ (k : Cp) (n : Int) (v : BitVec 64), I64 n → ∀ (W : World), Calls prog 136 #[.agg (cpc k), .int .i64 n, .int .u64 (n64 v)] W fun e w' => e = .returned (.tuple #[.agg (cpc (WR k n v)), .bool (WK k n)]) ∧ Below W.heap.size W w'
theorem cG {W : World} {g j : Nat} {v : Value} (hg : g < W.heap.size) (h : W.cell? ⟨g, j, none⟩ = some v) : ∀ x : bB W, x.1.cell? ⟨g, j, none⟩ = some v := fun x => (qB x (by exact hg)).trans h
theorem kB {motive : World → Prop} {w : World} {Q : World → Prop} (hq : Q w) (h : ∀ W, Q W → motive W) : motive w := h w hq
theorem lC (g i : Nat) (h : ¬ i = g) : ∀ (l : List Value) (o : Nat) (w : World), (w.setCells g o l).heap[i]? = w.heap[i]?
 | [], _, _ => rfl
 | v :: r, o, w => by
  rw [World.setCells, lC g i h r]
  exact heap_setCell_other w _ i v h
structure Mk (g : Nat) (w w' : World) (k' : Wk) : Prop where
 x : Exc (· = g) w w'
 r : Row w' g (wkc k') 74
theorem Mk.trans {g : Nat} {w w1 w2 : World} {k1 k2 : Wk} (h : Mk g w w1 k1) (h2 : Mk g w1 w2 k2) : Mk g w w2 k2 := ⟨h.x.trans h2.x, h2.r⟩
theorem Mk.later {g : Nat} {w w1 : World} {k : Wk} (hr : Row w g (wkc k) 74) (hb : Below w.heap.size w w1) : Mk g w w1 k := ⟨Exc.of_below hb rfl, hr.later hb hr.lt⟩
theorem Mk.pre {g : Nat} {w w1 w2 : World} {k2 : Wk} (hb : Below w.heap.size w w1) (h2 : Mk g w1 w2 k2) : Mk g w w2 k2 := ⟨(Exc.of_below hb rfl).trans h2.x, h2.r⟩
theorem Mk.set {g : Nat} {w w1 : World} {k k' : Wk} {j : Nat} {v : Value} (h : Mk g w w1 k) (e : (wkc k).setIfInBounds j v = wkc k') : Mk g w (w1.setCell ⟨g, j, none⟩ v) k' :=
 ⟨h.x.set g j v rfl, by have q := h.r.put (i := j) v; rwa [e] at q⟩
theorem Mk.row {g : Nat} {w w1 : World} {k : Wk} (h : Mk g w w1 k) (c : Cp) : Mk g w (w1.setCells g 82 (cpc c).toList) { k with k := c } := by
 have q := Row.lay (cpc c).toList 82 h.r
 rw [wkc_k] at q
 refine ⟨h.x.trans ?_, q⟩
 exact ⟨(cZ (ZqE _) _ _ (ZqD g w1)).os, (cZ (ZqE _) _ _ (ZqD g w1)).tape, (cZ (ZqE _) _ _ (ZqD g w1)).output, (cZ (ZqE _) _ _ (ZqD g w1)).size, fun i hi hne => lC g i hne _ _ _⟩
theorem dX {g n : Nat} {k : Wk} {w : World} (hr : Row w g (wkc k) 74) (h1 : k.i.r1 = (n : Int)) (hn : n < 32) : Calls prog 90 #[.pointer (some ⟨g, 0, none⟩)] w fun e w' => e = .returned (.int .u64 (n64 (k.p.x n))) ∧ Below w.heap.size w w' := by
 have c1 := hr.kls.r1
 rw [h1] at c1
 have c2 := hr.kls.x n hn
 have hnI : (n : Int) < 32 := by omega
 go_enter func90, ntmps90
 go_wp2
 go_quiet (fail)
 --@FI1
 go_wp2
 go_ret
 exact ⟨rfl, below_drewN (ZqD _ _) _⟩
theorem vput_z {g : Nat} {k : Wk} {w : World} (hr : Row w g (wkc k) 74) (v : BitVec 64) (h1 : k.i.rd = 0) : Calls prog 87 #[.pointer (some ⟨g, 0, none⟩), .int .u64 (n64 v)] w fun e w' => e = .returned (.tuple #[]) ∧ w' = w := by
 have c1 := hr.kls.rd
 rw [h1] at c1
 go_enter func87, ntmps87
 go_wp2
 refine ZqH (results_none rfl _ _ _) rfl ?_
 exact ⟨rfl, rfl⟩
theorem vput_c {g n : Nat} {k : Wk} {w : World} (hr : Row w g (wkc k) 74) (v : BitVec 64) (h1 : k.i.rd = (n : Int)) (hn : n < 32) (h0 : n ≠ 0) : Calls prog 87 #[.pointer (some ⟨g, 0, none⟩), .int .u64 (n64 v)] w fun e w' => e = .returned (.tuple #[]) ∧ Mk g w w' { k with k := { k.k with x := upd k.k.x n v }, d := { k.d with rd := n, v := v } } := by
 have c1 := hr.kls.rd
 rw [h1] at c1
 have hnI : (n : Int) < 32 := by omega
 have hz : ¬ (n : Int) = 0 := by omega
 have HR := hid hr
 have hlt := hr.lt
 have := aS w
 have L1 : ∀ x : bB w, x.1.cell? ⟨g, 166, none⟩ = some (.int .i64 (n : Int)) := cG hlt c1
 go_enter func87, ntmps87
 go_upto_region 1 with fail
 clear c1
 refine aQ (x0 := bB.start w) 11 (by kernel_rfl) (by kernel_rfl) ?_
 simp only [List.take_succ_cons, List.take_zero, List.drop_succ_cons, List.drop_zero]
 repeat (go_big_quiet_step (fail))
 refine wpQuiet_nil ?_
 rintro w' ⟨x9, rfl⟩
 have H9 := Mk.later HR.out x9.below
 have hf := H9.r.froz (83 + n)
 have hc : x9.1.cell? ⟨g, 83 + n, none⟩ = some (.int .u64 (n64 (k.k.x n))) := by
  have q := H9.r.kls.kk (1 + n) _ (bG _ _ (by omega))
  rwa [fV _ _ hn, ← Nat.add_assoc] at q
 go_upto_region 2 with fail
 clear hc hf L1 this
 refine kB (motive := fun W => Code.wp _ _ _ _ W) (Q := fun W => Mk g w W { k with k := { k.k with x := upd k.k.x n v } }) (H9.set (wkc_x k n hn v)) ?_
 clear H9 HR hr hlt
 rintro W1 m1
 have c1 := m1.r.kls.rd
 rw [show ({ k with k := { k.k with x := upd k.k.x n v } } : Wk).i.rd = (n : Int) from h1] at c1
 have c2 : W1.cell? ⟨g, 179, none⟩ = some (.int .i64 k.d.rd) := m1.r.kls.dn 3 _ rfl
 have c3 : W1.cell? ⟨g, 180, none⟩ = some (.int .u64 (n64 k.d.v)) := m1.r.kls.dn 4 _ rfl
 have f2 := m1.r.froz 179
 have f3 := m1.r.froz 180
 have HM := hid m1
 clear m1
 go_wp2
 go_end0
 exact ⟨rfl, (HM.out.set (SV _ _)).set (wkc_dv _ _)⟩
def ptK (k : Wk) (v : BitVec 64) : Wk := if k.i.rd = 0 then k else { k with k := { k.k with x := upd k.k.x k.i.rd.toNat v }, d := { k.d with rd := k.i.rd, v := v } }
theorem fJ {g : Nat} {k : Wk} {w : World} (hr : Row w g (wkc k) 74) (v : BitVec 64) (h1 : 0 ≤ k.i.rd ∧ k.i.rd < 32) : Calls prog 87 #[.pointer (some ⟨g, 0, none⟩), .int .u64 (n64 v)] w fun e w' => e = .returned (.tuple #[]) ∧ Mk g w w' (ptK k v) := by
 by_cases h0 : k.i.rd = 0
 ·refine (vput_z hr v h0).mono ?_
  rintro e w' ⟨rfl, rfl⟩
  exact ⟨rfl, by rw [ptK, if_pos h0]; exact ⟨Exc.refl _ _, hr⟩⟩
 ·refine (vput_c hr v (n := k.i.rd.toNat) (by omega) (by omega) (by omega)).mono ?_
  rintro e w' ⟨rfl, hm⟩
  refine ⟨rfl, ?_⟩
  rw [ptK, if_neg h0]
  rw [show ((k.i.rd.toNat : Nat) : Int) = k.i.rd by omega] at hm
  exact hm
theorem fO {g n : Nat} {k : Wk} {w : World} (hr : Row w g (wkc k) 74) (h1 : k.i.r2 = (n : Int)) (hn : n < 32) : Calls prog 92 #[.pointer (some ⟨g, 0, none⟩)] w fun e w' => e = .returned (.int .u64 (n64 (k.p.x n))) ∧ Below w.heap.size w w' := by
 have c1 := hr.kls.r2
 rw [h1] at c1
 have c2 := hr.kls.x n hn
 have hnI : (n : Int) < 32 := by omega
 go_enter func92, ntmps92
 go_wp2
 go_quiet (fail)
 go_wp2
 go_ret
 exact ⟨rfl, below_drewN (ZqD _ _) _⟩
def iB (i : Int) : BitVec 64 := BitVec.ofInt 64 i
theorem dO {g : Nat} {k : Wk} {w : World} (hr : Row w g (wkc k) 74) : Calls prog 88 #[.pointer (some ⟨g, 0, none⟩)] w fun e w' => e = .returned (.int .u64 (n64 (iB k.i.im))) ∧ w' = w := by
 have c1 := hr.kls.im
 have e1 : IntKind.u64.wrap k.i.im = n64 (iB k.i.im) := dM _
 generalize k.i.im = im at c1 e1 ⊢
 go_enter func88, ntmps88
 go_wp2
 go_ret
 exact ⟨rfl, rfl⟩
theorem wrap_i64 {n : Int} (h : I64 n) : IntKind.i64.wrap n = n := by
 unfold I64 at h
 rw [IntKind.wrap_i64]; omega
theorem zE {n : Int} (h : I64 n) : wrap64 n = n := by
 unfold I64 at h
 rw [lH, Int.bmod_def]; split <;> omega
theorem lT {g : Nat} {k : Wk} {w : World} (hr : Row w g (wkc k) 74) (hi : I64 k.i.im) : Calls prog 135 #[.pointer (some ⟨g, 0, none⟩)] w fun e w' => e = .returned (.int .i64 k.i.im) ∧ w' = w := by
 have c1 := hr.kls.im
 have e1 : IntKind.i64.wrap k.i.im = k.i.im := wrap_i64 hi
 generalize k.i.im = im at c1 e1 ⊢
 go_enter func135, ntmps135
 go_wp2
 go_ret
 exact ⟨by first | rfl | rw [e1], rfl⟩
def exv (c : Int) (tv : BitVec 64) : Value := .iface 121 (.agg #[.bool true, .int .u64 c, .int .u64 (n64 tv)])
def Thr (c : Int) (tv : BitVec 64) (w : World) (e : Ending) (w' : World) : Prop := e = .panicked [{ v := exv c tv, recovered := false }] ∧ Below w.heap.size w w'
theorem pF (a : Value) (c : Int) (tv : BitVec 64) (w : World) : Calls prog 79 #[a, .int .u64 c, .int .u64 (n64 tv)] w fun e w' => Thr c tv w e w' := by
 go_enter func79, ntmps79
 go_wp2
 exact ⟨rfl, rfl, ZqD _ _⟩
theorem jR (a : Value) (w : World) : Calls prog 44 #[a, .bool true] w fun e w' => e = .returned (.tuple #[]) ∧ w' = w := by
 go_enter func44, ntmps44
 go_wp2
 first | go_end0 | refine ZqH (results_none rfl _ _ _) rfl ?_
 exact ⟨rfl, rfl⟩
def rB (r : BitVec 32) : BitVec 64 := r.setWidth 64
theorem hH {g : Nat} {k : Wk} {w : World} (hr : Row w g (wkc k) 74) : Calls prog 44 #[.pointer (some ⟨g, 0, none⟩), .bool false] w fun e w' => Thr 2 (rB k.i.rw) w e w' := by
 have c1 := hr.kls.rw
 have HS : Hid (∀ a W, Calls prog 79 #[a, .int .u64 2, .int .u64 (n64 (rB k.i.rw))] W fun e w' => Thr 2 (rB k.i.rw) W e w') := fun a W => pF a 2 _ W
 have e1 : IntKind.u64.wrap (n32 k.i.rw) = n64 (rB k.i.rw) := by
  rw [dM]; unfold n64 rB n32; congr 1; rw [BitVec.toNat_setWidth, BitVec.ofInt_natCast, ZqR]
 generalize n64 (rB k.i.rw) = tv at HS e1
 generalize n32 k.i.rw = r at c1 e1
 go_enter func44, ntmps44
 go_wp2_with (go_at_call 79; refine (HS.out _ _).mono ?_)
 rintro e w' hp
 obtain ⟨rfl, hb⟩ := hp
 exact ⟨rfl, rfl, hb⟩
theorem nE (a : Value) (t : Tp) (ht : t.is = false) (w : World) : Calls prog 96 #[a, .agg (tpc t)] w fun e w' => e = .returned (.tuple #[]) ∧ Below w.heap.size w w' := by
 obtain ⟨W0, hW0, r0, b0, s0⟩ := cT w (tpc t) 42
 have c0 : W0.cell? ⟨w.heap.size, 0, none⟩ = some (.bool false) := by rw [← ht]; exact r0.out.cell 0
 clear s0 r0
 go_enter func96, ntmps96
 go_upto_region 1 with fail
 clear hW0
 go_wp2
 first | go_end0 | refine ZqH (results_none rfl _ _ _) rfl ?_
 exact ⟨rfl, b0.out⟩
theorem nD (a : Value) (t : Tp) (ht : t.is = true) (w : World) : Calls prog 96 #[a, .agg (tpc t)] w fun e w' => Thr t.ca t.tv w e w' := by
 obtain ⟨W0, hW0, r0, b0, s0⟩ := cT w (tpc t) 42
 have c0 : W0.cell? ⟨w.heap.size, 0, none⟩ = some (.bool true) := by rw [← ht]; exact r0.out.cell 0
 have c1 : W0.cell? ⟨w.heap.size, 1, none⟩ = some (.int .u64 t.ca) := r0.out.cell 1
 have c2 : W0.cell? ⟨w.heap.size, 2, none⟩ = some (.int .u64 (n64 t.tv)) := r0.out.cell 2
 have HS : Hid (∀ a W, Calls prog 79 #[a, .int .u64 t.ca, .int .u64 (n64 t.tv)] W fun e w' => Thr t.ca t.tv W e w') := fun a W => pF a _ _ W
 clear s0 r0
 go_enter func96, ntmps96
 go_upto_region 1 with fail
 clear hW0
 go_wp2_with (go_at_call 79; refine (HS.out _ _).mono ?_)
 rintro e w' hp
 obtain ⟨rfl, hb⟩ := hp
 exact ⟨rfl, rfl, b0.out.trans (hb.mono b0.out.size)⟩
theorem zA (a : Value) (w : World) : Calls prog 68 #[a] w fun e w' => e = .returned (.tuple #[]) ∧ w' = w := by
 go_enter func68, ntmps68
 go_wp2
 go_end0
 exact ⟨rfl, rfl⟩
theorem Hid.mk' {p : Prop} (h : p) : Hid p := h
def loV (x : BitVec 64) (s : Nat) : BitVec 64 := jv (x.toNat / 2 ^ 0) (8 * s - 1 + 1 - 0)
def exV (x : BitVec 64) (s : Nat) : BitVec 64 := if s < 8 then jv (wdn x.toNat (8 * s)) 64 else x
theorem nF {g s : Nat} {k : Wk} {w : World} (hr : Row w g (wkc k) 74) (hs : k.sz = (s : Int)) (h1 : 0 < s) (h8 : s ≤ 8) (me : Int) (ad da : BitVec 64) : Calls prog 97 #[.pointer (some ⟨g, 0, none⟩), .int .i64 me, .int .u64 (n64 ad), .int .u64 (n64 da)] w fun e w' => e = .returned (.tuple #[]) ∧ Mk g w w' { k with d := { k.d with me := me, ad := ad, sz := (s : Int), da := loV da s } } := by
 have c1 := hr.kls.sz
 rw [hs] at c1
 have c2 : w.cell? ⟨g, 181, none⟩ = some (.int .i64 k.d.me) := hr.kls.dn 5 _ rfl
 have c3 : w.cell? ⟨g, 182, none⟩ = some (.int .u64 (n64 k.d.ad)) := hr.kls.dn 6 _ rfl
 have c4 : w.cell? ⟨g, 183, none⟩ = some (.int .i64 k.d.sz) := hr.kls.dn 7 _ rfl
 have f2 := hr.froz 181
 have f3 := hr.froz 182
 have f4 := hr.froz 183
 have HM : Hid (Mk g w w k) := ⟨Exc.refl _ _, hr⟩
 have HB : Hid (∀ W, Calls prog 132 #[.int .u64 (n64 da), .int .i64 ((8 * s - 1 : Nat) : Int), .int .i64 0] W fun e w' => e = .returned (.int .u64 (n64 (loV da s))) ∧ w' = W) := fun W => NS da (8 * s - 1) 0 (by omega) (by omega) W
 have e1 : IntKind.i64.wrap (8 * (s : Int)) = 8 * (s : Int) := wrap_i64 ⟨by omega, by omega⟩
 have e2 : IntKind.i64.wrap (8 * (s : Int) - 1) = ((8 * s - 1 : Nat) : Int) := by rw [wrap_i64 ⟨by omega, by omega⟩]; omega
 have e3 : wrap64 (8 * (s : Int)) = 8 * (s : Int) := zE ⟨by omega, by omega⟩
 have e4 : wrap64 (8 * (s : Int) - 1) = ((8 * s - 1 : Nat) : Int) := (zE ⟨by omega, by omega⟩).trans (by omega)
 generalize loV da s = z at HB ⊢
 generalize ((8 * s - 1 : Nat) : Int) = m at HB e2 e4
 clear hr
 go_enter func97, ntmps97
 go_upto_region 1 with fail
 refine kB (motive := fun W => Code.wp _ _ _ _ W) (Q := fun W => Mk g w W { k with d := { k.d with me := me, ad := ad, sz := (s : Int) } }) (((HM.out.set (SU _ _)).set (SR _ _)).set (SW _ _)) ?_
 clear HM c1 c2 c3 c4 f2 f3 f4
 rintro W1 m1
 have c1 := m1.r.kls.sz
 rw [show ({ k with d := { k.d with me := me, ad := ad, sz := (s : Int) } } : Wk).sz = (s : Int) from hs] at c1
 have c4 : W1.cell? ⟨g, 184, none⟩ = some (.int .u64 (n64 k.d.da)) := m1.r.kls.dn 8 _ rfl
 have f4 := m1.r.froz 184
 have HM := hid m1
 clear m1
 go_wp2_with (go_at_call 132; refine (HB.out _).mono ?_; rintro e w1 ⟨rfl, hw⟩; have hw2 := hw.symm; subst hw2)
 go_end0
 exact ⟨rfl, HM.out.set (ST _ _)⟩
theorem lE {g s : Nat} {k : Wk} {w : World} (hr : Row w g (wkc k) 74) (hs : k.sz = (s : Int)) (h1 : 0 < s) (h8 : s ≤ 8) (v : BitVec 64) : Calls prog 93 #[.pointer (some ⟨g, 0, none⟩), .int .u64 (n64 v)] w fun e w' => e = .returned (.int .u64 (n64 (exV v s))) ∧ w' = w := by
 have c1 := hr.kls.sz
 rw [hs] at c1
 have HB : Hid (∀ W, Calls prog 126 #[.int .u64 (n64 v), .int .i64 ((8 * s : Nat) : Int)] W fun e w' => e = .returned (.int .u64 (n64 (exV v s))) ∧ w' = W) := fun W => by
  unfold exV
  by_cases h : s < 8
  ·rw [if_pos h]; exact CR v (8 * s) (by omega) (by omega) W
  ·rw [if_neg h]; exact CQ v _ (by omega) W
 have e1 : IntKind.i64.wrap (8 * (s : Int)) = ((8 * s : Nat) : Int) := by rw [wrap_i64 ⟨by omega, by omega⟩]; omega
 have e3 : wrap64 (8 * (s : Int)) = ((8 * s : Nat) : Int) := (zE ⟨by omega, by omega⟩).trans (by omega)
 generalize exV v s = z at HB ⊢
 generalize ((8 * s : Nat) : Int) = m at HB e1 e3
 clear hr
 go_enter func93, ntmps93
 go_wp2_with (go_at_call 126; refine (HB.out _).mono ?_; rintro e w1 ⟨rfl, hw⟩; have hw2 := hw.symm; subst hw2)
 go_ret
 exact ⟨rfl, rfl⟩
theorem BQ {g : Nat} {k : Wk} {w : World} (hr : Row w g (wkc k) 74) (h1 : 0 ≤ k.i.rd ∧ k.i.rd < 32) (t : BitVec 64) : Calls prog 89 #[.pointer (some ⟨g, 0, none⟩), .int .u64 (n64 t)] w fun e w' => e = .returned (.tuple #[]) ∧ Mk g w w' { ptK k k.nx with nx := t } := by
 have c1 := hr.kls.nx
 have HP : Hid (∀ v, Calls prog 87 #[.pointer (some ⟨g, 0, none⟩), .int .u64 (n64 v)] w fun e w' => e = .returned (.tuple #[]) ∧ Mk g w w' (ptK k v)) := fun v => fJ hr v h1
 clear hr
 go_enter func89, ntmps89
 go_upto_region 1 with (go_at_call 87; refine (HP.out _).mono ?_; rintro e w1 ⟨rfl, hm⟩; have HM := hid hm; clear hm)
 have c2 := HM.out.r.kls.nx
 have f2 := HM.out.r.froz 175
 go_wp2
 go_end0
 exact ⟨rfl, HM.out.set (zF _ _)⟩
theorem vlui_c {g : Nat} {k : Wk} {w : World} (hr : Row w g (wkc k) 74) (h1 : 0 ≤ k.i.rd ∧ k.i.rd < 32) : Calls prog 58 #[.pointer (some ⟨g, 0, none⟩)] w fun e w' => e = .returned (.tuple #[]) ∧ Mk g w w' (ptK k (iB k.i.im)) := by
 have HP : Hid (∀ v, Calls prog 87 #[.pointer (some ⟨g, 0, none⟩), .int .u64 (n64 v)] w fun e w' => e = .returned (.tuple #[]) ∧ Mk g w w' (ptK k v)) := fun v => fJ hr v h1
 have HI : Hid (Calls prog 88 #[.pointer (some ⟨g, 0, none⟩)] w fun e w' => e = .returned (.int .u64 (n64 (iB k.i.im))) ∧ w' = w) := dO hr
 clear hr
 go_enter func58, ntmps58
 go_wp2_with (first | (go_at_call 88; refine HI.out.mono ?_; rintro e w1 ⟨rfl, hw⟩; have hw2 := hw.symm; subst hw2) | (go_at_call 87; refine (HP.out _).mono ?_; rintro e w1 ⟨rfl, hm⟩))
 go_end0
 exact ⟨rfl, hm⟩
theorem LZ {g : Nat} {k : Wk} {w : World} (hr : Row w g (wkc k) 74) (h1 : 0 ≤ k.i.rd ∧ k.i.rd < 32) : Calls prog 59 #[.pointer (some ⟨g, 0, none⟩)] w fun e w' => e = .returned (.tuple #[]) ∧ Mk g w w' (ptK k (k.p.pc + iB k.i.im)) := by
 have HR := hid hr
 have HP : Hid (∀ W, Row W g (wkc k) 74 → Calls prog 87 #[.pointer (some ⟨g, 0, none⟩), .int .u64 (n64 (k.p.pc + iB k.i.im))] W fun e w' => e = .returned (.tuple #[]) ∧ Mk g W w' (ptK k (k.p.pc + iB k.i.im))) := fun W h => fJ h _ h1
 have HI : Hid (∀ W, Row W g (wkc k) 74 → Calls prog 88 #[.pointer (some ⟨g, 0, none⟩)] W fun e w' => e = .returned (.int .u64 (n64 (iB k.i.im))) ∧ w' = W) := fun W h => dO h
 have c1 := hr.kls.pc
 have hlt := hr.lt
 have := aS w
 have L1 : ∀ x : bB w, x.1.cell? ⟨g, 0, none⟩ = some (.int .u64 (n64 k.p.pc)) := cG hlt c1
 have e1 : IntKind.u64.wrap (n64 k.p.pc + n64 (iB k.i.im)) = n64 (k.p.pc + iB k.i.im) := dA _ _
 clear hr c1
 go_enter func59, ntmps59
 refine aQ (x0 := bB.start w) 9 (by kernel_rfl) (by kernel_rfl) ?_
 simp only [List.take_succ_cons, List.take_zero, List.drop_succ_cons, List.drop_zero]
 repeat (go_big_quiet_step (first | (go_at_call 88; exact bL (HI.out _ (HR.out.later (bB.below _) HR.out.lt)))))
 refine wpQuiet_nil ?_
 rintro w' ⟨x9, rfl⟩
 have H9 := Mk.later HR.out x9.below
 go_wp2_with (go_at_call 87; refine (HP.out _ H9.r).mono ?_; rintro e w1 ⟨rfl, hm⟩)
 go_end0
 exact ⟨rfl, Mk.pre x9.below hm⟩
theorem vjal_c {g : Nat} {k : Wk} {w : World} (hr : Row w g (wkc k) 74) (h1 : 0 ≤ k.i.rd ∧ k.i.rd < 32) : Calls prog 60 #[.pointer (some ⟨g, 0, none⟩)] w fun e w' => e = .returned (.tuple #[]) ∧ Mk g w w' ({ ptK k k.nx with nx := k.p.pc + iB k.i.im }) := by
 have HR := hid hr
 have HP : Hid (∀ W, Row W g (wkc k) 74 → Calls prog 89 #[.pointer (some ⟨g, 0, none⟩), .int .u64 (n64 (k.p.pc + iB k.i.im))] W fun e w' => e = .returned (.tuple #[]) ∧ Mk g W w' ({ ptK k k.nx with nx := k.p.pc + iB k.i.im })) := fun W h => BQ h h1 _
 have HI : Hid (∀ W, Row W g (wkc k) 74 → Calls prog 88 #[.pointer (some ⟨g, 0, none⟩)] W fun e w' => e = .returned (.int .u64 (n64 (iB k.i.im))) ∧ w' = W) := fun W h => dO h
 have c1 := hr.kls.pc
 have hlt := hr.lt
 have := aS w
 have L1 : ∀ x : bB w, x.1.cell? ⟨g, 0, none⟩ = some (.int .u64 (n64 k.p.pc)) := cG hlt c1
 have e1 : IntKind.u64.wrap (n64 k.p.pc + n64 (iB k.i.im)) = n64 (k.p.pc + iB k.i.im) := dA _ _
 clear hr c1
 go_enter func60, ntmps60
 refine aQ (x0 := bB.start w) 9 (by kernel_rfl) (by kernel_rfl) ?_
 simp only [List.take_succ_cons, List.take_zero, List.drop_succ_cons, List.drop_zero]
 repeat (go_big_quiet_step (first | (go_at_call 88; exact bL (HI.out _ (HR.out.later (bB.below _) HR.out.lt)))))
 refine wpQuiet_nil ?_
 rintro w' ⟨x9, rfl⟩
 have H9 := Mk.later HR.out x9.below
 go_wp2_with (go_at_call 89; refine (HP.out _ H9.r).mono ?_; rintro e w1 ⟨rfl, hm⟩)
 go_end0
 exact ⟨rfl, Mk.pre x9.below hm⟩
theorem SL {g n : Nat} {k : Wk} {w : World} (hr : Row w g (wkc k) 74) (h1 : 0 ≤ k.i.rd ∧ k.i.rd < 32) (h2 : k.i.r1 = (n : Int)) (hn : n < 32) : Calls prog 61 #[.pointer (some ⟨g, 0, none⟩)] w fun e w' => e = .returned (.tuple #[]) ∧ Mk g w w' { ptK k k.nx with nx := k.p.x n + iB k.i.im } := by
 have HR := hid hr
 have HP : Hid (∀ W, Row W g (wkc k) 74 → Calls prog 89 #[.pointer (some ⟨g, 0, none⟩), .int .u64 (n64 (k.p.x n + iB k.i.im))] W fun e w' => e = .returned (.tuple #[]) ∧ Mk g W w' { ptK k k.nx with nx := k.p.x n + iB k.i.im }) := fun W h => BQ h h1 _
 have HI : Hid (∀ W, Row W g (wkc k) 74 → Calls prog 88 #[.pointer (some ⟨g, 0, none⟩)] W fun e w' => e = .returned (.int .u64 (n64 (iB k.i.im))) ∧ w' = W) := fun W h => dO h
 have HF : Hid (∀ W, Row W g (wkc k) 74 → Calls prog 90 #[.pointer (some ⟨g, 0, none⟩)] W fun e w' => e = .returned (.int .u64 (n64 (k.p.x n))) ∧ Below W.heap.size W w') := fun W h => dX h h2 hn
 have e1 : IntKind.u64.wrap (n64 (k.p.x n) + n64 (iB k.i.im)) = n64 (k.p.x n + iB k.i.im) := dA _ _
 clear hr
 go_enter func61, ntmps61
 go_wp2_with (first | (go_at_call 90; refine (HF.out _ HR.out).mono ?_; rintro e w1 ⟨rfl, hb⟩; have H9 : Hid (Mk g w w1 k) := Mk.later HR.out hb; have HB := hid hb; clear hb) | (go_at_call 88; refine (HI.out _ H9.out.r).mono ?_; rintro e w2 ⟨rfl, hw⟩; have hw2 := hw.symm; subst hw2) | (go_at_call 89; refine (HP.out _ H9.out.r).mono ?_; rintro e w3 ⟨rfl, hm⟩))
 go_end0
 exact ⟨rfl, Mk.pre HB.out hm⟩
theorem MH {g : Nat} {k : Wk} {w : World} (hr : Row w g (wkc k) 74) : Calls prog 69 #[.pointer (some ⟨g, 0, none⟩)] w fun e w' => Thr (if k.p.md = 0 then 8 else 11) 0#64 w e w' := by
 have c1 := hr.kls.md
 have HS : Hid (∀ a c W, Calls prog 79 #[a, .int .u64 c, .int .u64 0] W fun e w' => Thr c 0#64 W e w') := fun a c W => pF a c 0#64 W
 clear hr
 by_cases h : k.p.md = 0
 ·rw [if_pos h]
  rw [h] at c1
  clear h
  go_enter func69, ntmps69
  go_wp2_with (go_at_call 79; refine (HS.out _ _ _).mono ?_)
  rintro e w' hp
  obtain ⟨rfl, hb⟩ := hp
  exact ⟨rfl, rfl, hb⟩
 ·rw [if_neg h]
  go_enter func69, ntmps69
  go_wp2_with (go_at_call 79; refine (HS.out _ _ _).mono ?_)
  rintro e w' hp
  obtain ⟨rfl, hb⟩ := hp
  exact ⟨rfl, rfl, hb⟩
theorem EE {g : Nat} {k : Wk} {w : World} (hr : Row w g (wkc k) 74) : Calls prog 70 #[.pointer (some ⟨g, 0, none⟩)] w fun e w' => Thr 3 k.p.pc w e w' := by
 have c1 := hr.kls.pc
 have HS : Hid (∀ a c tv W, Calls prog 79 #[a, .int .u64 c, .int .u64 (n64 tv)] W fun e w' => Thr c tv W e w') := fun a c tv W => pF a c tv W
 clear hr
 go_enter func70, ntmps70
 go_wp2_with (go_at_call 79; refine (HS.out _ _ _ _).mono ?_)
 rintro e w' hp
 obtain ⟨rfl, hb⟩ := hp
 exact ⟨rfl, rfl, hb⟩
theorem zB {g n : Nat} {k : Wk} {w : World} (hr : Row w g (wkc k) 74) (h1 : 59 ≤ k.i.op) (h2 : k.i.r1 = (n : Int)) (hn : n < 32) : Calls prog 103 #[.pointer (some ⟨g, 0, none⟩)] w fun e w' => e = .returned (.int .u64 (n64 (iB n))) ∧ Below w.heap.size w w' := by
 have c1 := hr.kls.op
 have c2 := hr.kls.r1
 rw [h2] at c2
 have e1 : IntKind.u64.wrap (n : Int) = n64 (iB n) := dM _
 generalize n64 (iB n) = z at e1 ⊢
 go_enter func103, ntmps103
 go_wp2
 go_ret
 exact ⟨rfl, ZqD _ _⟩
theorem zC {g n : Nat} {k : Wk} {w : World} (hr : Row w g (wkc k) 74) (h1 : ¬ 59 ≤ k.i.op) (h2 : k.i.r1 = (n : Int)) (hn : n < 32) : Calls prog 103 #[.pointer (some ⟨g, 0, none⟩)] w fun e w' => e = .returned (.int .u64 (n64 (k.p.x n))) ∧ Below w.heap.size w w' := by
 have c1 := hr.kls.op
 have HF : Hid (∀ W, Row W g (wkc k) 74 → Calls prog 90 #[.pointer (some ⟨g, 0, none⟩)] W fun e w' => e = .returned (.int .u64 (n64 (k.p.x n))) ∧ Below W.heap.size W w') := fun W h => dX h h2 hn
 have HR := hid hr
 clear hr
 go_enter func103, ntmps103
 go_wp2_with (go_at_call 90; refine (HF.out _ HR.out).mono ?_; rintro e w1 ⟨rfl, hb⟩)
 go_ret
 exact ⟨rfl, hb⟩
end Go.Proofs.YtddlmenfcbjoaaaGreatDoor
