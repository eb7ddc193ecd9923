/-
  Uv.
-/
import Derived.Test.YtidfndgedopghaaGreatDoorM21
import Derived.Test.YtidfndgedopghaaGreatDoorM01
import Derived.Deep.RegionWith
import Derived.Deep.RegionHeld3
namespace Go.Proofs.YtidfndgedopghaaGreatDoor
set_option linter.unusedVariables false
set_option maxRecDepth 100000
open Go.ChangeShapes Go.WideShapes Go.ChangeAt Go.RowKit Go.Deep
structure Ly where
  own : Nat → Prop
def HopL (Pr : Nat → Oper → Prop) : Nat → List Oper → Prop
  | _, [] => True
  | i, o :: r => Pr i o ∧ HopL Pr (i + 1) r
theorem hop_go {Pr : Nat → Oper → Prop} : ∀ (l : List Oper) (k : Nat), HopL Pr k l → ∀ i o, l[i]? = some o → Pr (k + i) o
  | [], _, _, i, o, ho => by simp at ho
  | x :: r, k, h, 0, o, ho => by
    obtain rfl : x = o := by simpa using ho
    exact h.1
  | x :: r, k, h, i + 1, o, ho => by
    have := hop_go r (k + 1) h.2 i o (by simpa using ho)
    rwa [show k + 1 + i = k + (i + 1) by omega] at this
theorem hop_list {Pr : Nat → Oper → Prop} {l : List Oper} (h : HopL Pr 0 l) : ∀ i o, l.toArray[i]? = some o → Pr i o := fun i o ho => by
  have q := hop_go l 0 h i o (by simpa using ho)
  rwa [Nat.zero_add] at q
theorem wpO_store_row {P : Program} {o : Oper} {a : Act} {w : World} {K : Act → World → Prop} {Q : Exit → Act → World → Prop} (t : TypeId) (x y : Operand) (ho : o.op = .store t x y)
    (g : Nat) (c c' : Array Value) (hx : a.eval x = .pointer (some ⟨g, 0, none⟩)) (hy : a.eval y = .agg c') (hg : Row w g c t) (hi : (P.info? t).map (·.size) = some c'.size) (hs : c.size = c'.size) (h1 : c'.all (·.oneCell') = true)
    (h : K (a.put o.dst undef) (w.setRow g c')) : o.wp P a w K Q := by
  unfold Oper.wp execOp
  simp only [ho, hx, hy, Instr.storeAt, Instr.sureAddr, Sem.run_bind, Sem.run_pure, Result.andThen_ok, run_storeVar_row w g t t c c' hg hi hs h1]
  exact h
section
variable {P : Program} {ops : Array Oper} {Q : Exit → Act → World → Prop}
/-- By what stays true from operation to operation. -/
theorem wp_region_inv {id : Nat} (hm : P.follows .mixedOrders = true) (Inv : Array Bool → Act → World → Prop) (a0 : Act) (w0 : World) (h0 : Inv (Array.replicate ops.size false) a0 w0.drew) (hsz : ∀ l a w, Inv l a w → l.size = ops.size)
    (hstep : ∀ l a w i o, Inv l a w → ops[i]? = some o → l.getD i true = false → (∀ e ∈ o.after, Region.binds .any e = true → l.getD e.on false = true) → wpOp P ops Q i (fun a' w' => Inv (l.setIfInBounds i true) a' w') a w)
    (hend : ∀ l a w, Inv l a w → Region.ready .any ops l = [] → Q .normal a w) : (Code.region id ops true).wp P Q a0 w0 := by
  refine wp_region_any hm ?_
  have main : ∀ (fuel : Nat) (listed : Array Bool) a w, listed.toList.count false ≤ fuel → Inv listed a w → wpAny P .any ops Q fuel listed a w := by
    intro fuel
    induction fuel with
    | zero =>
      intro listed a w hc h
      have hr : Region.ready .any ops listed = [] := by
        refine List.eq_nil_iff_forall_not_mem.2 fun j hj => ?_
        obtain ⟨h0, o, ho, _⟩ := mem_ready.1 hj
        have hjl : j < listed.size := by rw [hsz _ _ _ h]; exact (Array.getElem?_eq_some_iff.1 ho).1
        have : false ∈ listed.toList := by
          simp [hjl] at h0
          rw [← h0]; simp
        have := List.count_pos_iff.2 this
        omega
      exact ⟨hr, hend listed a w h hr⟩
    | succ fuel ih =>
      intro listed a w hc h
      refine ⟨fun hr => hend listed a w h hr, fun i hi => ?_⟩
      obtain ⟨h0, o, ho, hall⟩ := mem_ready.1 hi
      refine wpOp_mono (fun a' w' h' => ih _ _ _ ?_ h') (hstep listed a w i o h ho h0 hall)
      have hjl : i < listed.size := by rw [hsz _ _ _ h]; exact (Array.getElem?_eq_some_iff.1 ho).1
      have h1 : listed.toList[i]'(by simpa using hjl) = false := by simp [hjl] at h0; simpa using h0
      rw [Array.toList_setIfInBounds, List.count_set (by simpa using hjl), h1]
      have h2 : 0 < listed.toList.count false := List.count_pos_iff.2 (by rw [← h1]; simp)
      simp only [beq_self_eq_true, if_true, show (true == false) = false from rfl, Bool.false_eq_true, if_false]
      omega
  exact main _ _ _ _ (by simp) h0
/-- What every operation leaves, laid into the slots. -/
def putAll (f : Nat → Value) : List Oper → Nat → Act → Act
  | [], _, a => a
  | o :: r, j, a => putAll f r (j + 1) (a.put o.dst (f j))
theorem put_size (a : Act) (d : Option Tmp) (v : Value) : (a.put d v).tmps.size = a.tmps.size := by cases d <;> simp [Act.put]
theorem put_defers (a : Act) (d : Option Tmp) (v : Value) : (a.put d v).defers = a.defers := by cases d <;> rfl
theorem putAll_size (f : Nat → Value) : ∀ (l : List Oper) (j : Nat) (a : Act), (putAll f l j a).tmps.size = a.tmps.size ∧ (putAll f l j a).defers = a.defers
  | [], _, _ => ⟨rfl, rfl⟩
  | o :: r, j, a => by
    obtain ⟨h1, h2⟩ := putAll_size f r (j + 1) (a.put o.dst (f j))
    exact ⟨h1.trans (put_size _ _ _), h2.trans (put_defers _ _ _)⟩
theorem put_apart {a : Act} {d : Option Tmp} {v : Value} {k : Tmp} (h : d ≠ some k) : (a.put d v).tmps[k]? = a.tmps[k]? := by
  cases d with
  | none => rfl
  | some d =>
    have : d ≠ k := fun e => h (by rw [e])
    simp [Act.put, this]
theorem putAll_apart (f : Nat → Value) (k : Tmp) : ∀ (l : List Oper) (j : Nat) (a : Act), (∀ o ∈ l, o.dst ≠ some k) → (putAll f l j a).tmps[k]? = a.tmps[k]?
  | [], _, _, _ => rfl
  | o :: r, j, a, h => by
    rw [putAll, putAll_apart f k r (j + 1) _ (fun o' ho' => h o' (List.mem_cons_of_mem _ ho')), put_apart (h o (List.mem_cons_self ..))]
theorem putAll_at (f : Nat → Value) (k : Tmp) : ∀ (l : List Oper) (j : Nat) (a : Act) (i : Nat) (o : Oper), l[i]? = some o → o.dst = some k → (∀ i' o', l[i']? = some o' → i' ≠ i → o'.dst ≠ some k) → k < a.tmps.size → (putAll f l j a).tmps[k]? = some (f (j + i))
  | [], _, _, i, o, h, _, _, _ => by simp at h
  | x :: r, j, a, 0, o, h, hd, hu, hk => by
    obtain rfl : x = o := by simpa using h
    rw [putAll, putAll_apart f k r (j + 1) _ (fun o' ho' => by
      obtain ⟨i', hi', e⟩ := List.getElem_of_mem ho'
      exact hu (i' + 1) o' (by rw [List.getElem?_cons_succ, List.getElem?_eq_getElem hi', e]) (by omega)), hd]
    simp [Act.put, hk]
  | x :: r, j, a, i + 1, o, h, hd, hu, hk => by
    rw [putAll, putAll_at f k r (j + 1) _ i o (by simpa using h) hd (fun i' o' h1 h2 => hu (i' + 1) o' (by simpa using h1) (by omega)) (by rw [put_size]; exact hk)]
    congr 2; omega
/-- A block that is made, and stored into: its alloc, its store, the operation that brings what is stored. -/
structure Itm where
  ai : Nat
  si : Nat
  xi : Nat
  T : TypeId
  z : Array Value
  cs : Array Value
  v : Value
def ptr (g : Nat) : Value := .pointer (some ⟨g, 0, none⟩)
theorem ptr_inj {g h : Nat} (e : ptr g = ptr h) : g = h := by cases e; rfl
/-- What a call of the bus leaves of other blocks. -/
structure Fr (L : Ly) (w : World) (L' : Ly) (w' : World) : Prop where
  sz : w.heap.size ≤ w'.heap.size
  bl : ∀ g, g < w.heap.size → ¬ L.own g → w'.heap[g]? = w.heap[g]?
  ow : ∀ g, L'.own g → L.own g ∨ w.heap.size ≤ g
structure Cwl (ops : Array Oper) (need : Nat → List Nat) (val : Nat → Option Value) (items : List Itm) (ci base : Nat) (J : Ly → Bool → World → Prop) (a0 : Act) (listed : Array Bool) (a : Act) (w : World) : Prop where
  size : listed.size = ops.size
  tsz : a.tmps.size = a0.tmps.size
  dfr : a.defers = a0.defers
  old : ∀ k, apartB ops k = true → a.eval (.tmp k) = a0.eval (.tmp k)
  cl : ∀ j, listed.getD j false = true → ∀ k ∈ need j, listed.getD k false = true
  fact : ∀ j v, val j = some v → listed.getD j false = true → leftBy ops a j = v
  bs : base ≤ w.heap.size
  dis : ∀ p ∈ items, ∀ q ∈ items, p.ai ≠ q.ai → listed.getD p.ai false = true → listed.getD q.ai false = true → leftBy ops a p.ai ≠ leftBy ops a q.ai
  world : ∃ L, J L (listed.getD ci false) w ∧ ∀ q ∈ items, listed.getD q.ai false = true → ∃ g, leftBy ops a q.ai = ptr g ∧ w.heap[g]? = some (.cells (if listed.getD q.si false = true then q.cs else q.z) q.T (0, 0)) ∧ ¬ L.own g ∧ base ≤ g
/-- What is asked of each operation. -/
inductive Opn (P : Program) (ops : Array Oper) (Q : Exit → Act → World → Prop) (need : Nat → List Nat) (val : Nat → Option Value) (items : List Itm) (ci : Nat) (J : Ly → Bool → World → Prop) (a0 : Act) (i : Nat) (o : Oper) : Prop where
  | pure (v : Value) (hv : val i = some v) (hc : i ≠ ci) (hd : o.dst ≠ none) (h : ∀ a w L b, (∀ k, apartB ops k = true → a.eval (.tmp k) = a0.eval (.tmp k)) → (∀ k ∈ need i, ∀ u, val k = some u → leftBy ops a k = u) → J L b w → wpOp P ops Q i (fun a' w' => a' = a.put o.dst v ∧ Below w.heap.size w w') a w) : Opn P ops Q need val items ci J a0 i o
  | call (v : Value) (hv : val i = some v) (hc : i = ci) (hd : o.dst ≠ none) (h : ∀ a w L, (∀ k, apartB ops k = true → a.eval (.tmp k) = a0.eval (.tmp k)) → (∀ k ∈ need i, ∀ u, val k = some u → leftBy ops a k = u) → J L false w → wpOp P ops Q i (fun a' w' => a' = a.put o.dst v ∧ ∃ L', J L' true w' ∧ Fr L w L' w') a w) : Opn P ops Q need val items ci J a0 i o
  | made (q : Itm) (hq : q ∈ items) (hi : i = q.ai) (hd : o.dst ≠ none) (h : ∀ a w, wpOp P ops Q i (fun a' w' => a' = a.put o.dst (ptr w.heap.size) ∧ w' = w.alloc (.cells q.z q.T)) a w) : Opn P ops Q need val items ci J a0 i o
  | stored (q : Itm) (hq : q ∈ items) (hi : i = q.si) (hd : o.dst = none) (hn : q.ai ∈ need i ∧ q.xi ∈ need i) (hx : val q.xi = some (q.v)) (h : ∀ a w g, leftBy ops a q.ai = ptr g → leftBy ops a q.xi = q.v → w.heap[g]? = some (.cells q.z q.T (0, 0)) → wpOp P ops Q i (fun a' w' => a' = a ∧ w' = w.setRow g q.cs) a w) : Opn P ops Q need val items ci J a0 i o
theorem setRow_same (w : World) (g : Nat) (cs cs' : Array Value) (T : TypeId) (h : w.heap[g]? = some (.cells cs T (0, 0))) : (w.setRow g cs').heap[g]? = some (.cells cs' T (0, 0)) := setRow_heap _ _ _ _ _ _ h
/-- The closed facts on the numbers of operations. -/
def calB (val : Nat → Bool) (items : List (Nat × Nat)) (ci : Nat) : Bool :=
  items.all (fun q => !val q.1 && !val q.2 && q.1 != ci && q.2 != ci) && items.all (fun p => items.all fun q => p.1 != q.2 && (p.1 == q.1) == (p.2 == q.2))
theorem wp_region_calls {id : Nat} (hm : P.follows .mixedOrders = true) (need : Nat → List Nat) (val : Nat → Option Value) (items : List Itm) (ci base : Nat) (J : Ly → Bool → World → Prop) (a0 : Act) (w0 : World)
    (hB : bagB ops need a0.tmps.size = true) (hC : calB (fun j => (val j).isSome) (items.map fun q => (q.ai, q.si)) ci = true) (hI : ∀ p ∈ items, ∀ q ∈ items, p.ai = q.ai → p = q)
    (L0 : Ly) (h0 : J L0 false w0.drew) (hbase : base = w0.heap.size) (hci : ci < ops.size) (hall : ∀ q ∈ items, q.ai < ops.size ∧ q.si < ops.size)
    (hlat : ∀ L b w w', J L b w → Below w.heap.size w w' → J L b w') (hput : ∀ L b w g cs, J L b w → ¬ L.own g → base ≤ g → J L b (w.setRow g cs)) (hown : ∀ L b w g, J L b w → L.own g → g < w.heap.size)
    (hop : ∀ i o, ops[i]? = some o → Opn P ops Q need val items ci J a0 i o)
    (hend : ∀ w L (pg : Nat → Nat), J L true w → (∀ q ∈ items, w.heap[pg q.ai]? = some (.cells q.cs q.T (0, 0)) ∧ ¬ L.own (pg q.ai) ∧ base ≤ pg q.ai) → (∀ p ∈ items, ∀ q ∈ items, p.ai ≠ q.ai → pg p.ai ≠ pg q.ai) →
      Q .normal (putAll (fun j => (val j).getD (ptr (pg j))) ops.toList 0 a0) w) :
    (Code.region id ops true).wp P Q a0 w0 := by
  simp only [calB, Bool.and_eq_true, List.all_eq_true, List.mem_map, forall_exists_index, and_imp] at hC
  have hC1 : ∀ q ∈ items, val q.ai = none ∧ val q.si = none ∧ q.ai ≠ ci ∧ q.si ≠ ci := fun q hq => by
    have := hC.1 _ q hq rfl
    simp only [Bool.not_eq_true', Option.isSome_eq_false_iff, Option.isNone_iff_eq_none, bne_iff_ne, ne_eq] at this
    exact ⟨this.1.1.1, this.1.1.2, this.1.2, this.2⟩
  have hC2 : ∀ p ∈ items, ∀ q ∈ items, p.ai ≠ q.si ∧ (p.ai = q.ai ↔ p.si = q.si) := fun p hp q hq => by
    have := hC.2 _ p hp rfl _ q hq rfl
    simp only [bne_iff_ne, ne_eq, beq_iff_eq] at this
    refine ⟨this.1, ?_⟩
    have h2 := this.2
    constructor
    · intro e; simpa [e] using h2
    · intro e; simpa [e] using h2
  refine wp_region_inv hm (Cwl ops need val items ci base J a0) a0 w0 ?_ (fun l a w h => h.size) ?_ ?_
  · have hrep : ∀ j, (Array.replicate ops.size false).getD j false = false := fun j => by
      simp [Array.getElem?_replicate]; split <;> rfl
    refine ⟨by simp, rfl, rfl, fun _ _ => rfl, fun j hj => ?_, fun j v _ hj => ?_, by rw [hbase]; exact Nat.le_refl _, fun p _ q _ _ hj => ?_, L0, ?_, fun q _ hj => ?_⟩
    · rw [hrep] at hj; cases hj
    · rw [hrep] at hj; cases hj
    · rw [hrep] at hj; cases hj
    · rw [hrep]; exact h0
    · rw [hrep] at hj; cases hj
  · intro l a w i o h ho hi hall
    have hok := bagB_spec hB ho
    have hil : i < l.size := by rw [h.size]; exact (Array.getElem?_eq_some_iff.1 ho).1
    have hinot : l.getD i false = false := by simp [hil] at hi ⊢; exact hi
    have hneed : ∀ k ∈ need i, l.getD k false = true := fun k hk => by
      obtain ⟨e, he, hbe, h1 | h1⟩ := hok.need k hk
      · rw [← h1]; exact hall e he hbe
      · exact h.cl e.on (hall e he hbe) k h1
    have hnf : ∀ k ∈ need i, ∀ u, val k = some u → leftBy ops a k = u := fun k hk u hu => h.fact k u hu (hneed k hk)
    -- what a put leaves
    have hsame : ∀ v, o.dst ≠ none → leftBy ops (a.put o.dst v) i = v := fun v hne => by
      cases hd : o.dst with
      | none => exact absurd hd hne
      | some d =>
        obtain ⟨_, hdn, _⟩ := hok.dst d hd
        unfold leftBy; rw [slotOf_eq ho hd]; exact eval_put_same (by rw [h.tsz]; exact hdn)
    have hkeep : ∀ v k, l.getD k false = true → leftBy ops (a.put o.dst v) k = leftBy ops a k := fun v k hk => by
      cases hd : o.dst with
      | none => rfl
      | some d =>
        obtain ⟨hd0, hdn, hdis⟩ := hok.dst d hd
        have hkl : k < ops.size := by
          rcases Nat.lt_or_ge k l.size with h' | h'
          · rw [← h.size]; exact h'
          · simp [Array.getElem?_eq_none h'] at hk
        have hki : k ≠ i := fun e => by rw [e, hinot] at hk; cases hk
        have hne := hdis k _ (Array.getElem?_eq_getElem hkl) hki
        unfold leftBy
        refine Act.eval_put fun x hx => ?_
        cases hx
        intro e
        cases hd' : (ops[k]).dst with
        | none =>
          rw [show slotOf ops k = 0 by simp [slotOf, hkl, hd']] at e
          cases e
          exact absurd hd0 (Nat.lt_irrefl 0)
        | some d' =>
          rw [slotOf_eq (Array.getElem?_eq_getElem hkl) hd'] at e
          cases e
          exact hne hd'
    have hwas : ∀ j, (l.setIfInBounds i true).getD j false = true → j = i ∨ l.getD j false = true := fun j hj => by
      by_cases e : i = j
      · exact .inl e.symm
      · rw [getD_set_ne false e] at hj; exact .inr hj
    have hnew : (l.setIfInBounds i true).getD i false = true := by simp [hil]
    have holdp : ∀ v k, apartB ops k = true → (a.put o.dst v).eval (.tmp k) = a0.eval (.tmp k) := fun v k hk => by
      rw [← h.old k hk]
      refine Act.eval_put fun x hx e => ?_
      cases e
      have := List.all_eq_true.1 hk o (by have := Array.mem_of_getElem? ho; simpa using this)
      simp [hx] at this
    have hcl : ∀ j, (l.setIfInBounds i true).getD j false = true → ∀ k ∈ need j, (l.setIfInBounds i true).getD k false = true := fun j hj k hk => by
      rcases hwas j hj with e | e
      · rw [e] at hk; exact getD_set_true (hneed k hk)
      · exact getD_set_true (h.cl j e k hk)
    have hsize : (l.setIfInBounds i true).size = ops.size := by rw [Array.size_setIfInBounds]; exact h.size
    have hother : ∀ j, j ≠ i → (l.setIfInBounds i true).getD j false = l.getD j false := fun j hj => getD_set_ne false (Ne.symm hj)
    obtain ⟨L, hJ, hrow⟩ := h.world
    cases hop i o ho with
    | pure v hv hc hd hh =>
      refine wpOp_mono ?_ (hh a w L _ h.old hnf hJ)
      rintro a' w' ⟨rfl, hbw⟩
      have hia : ∀ q ∈ items, q.ai ≠ i ∧ q.si ≠ i := fun q hq => ⟨fun e => (by have := (hC1 q hq).1; rw [e, hv] at this; cases this), fun e => (by have := (hC1 q hq).2.1; rw [e, hv] at this; cases this)⟩
      refine ⟨hsize, by rw [put_size]; exact h.tsz, by rw [put_defers]; exact h.dfr, holdp v, hcl, fun j u hu hj => ?_, Nat.le_trans h.bs hbw.size, fun p hp q hq hne hpl hql => ?_, L, ?_, fun q hq hql => ?_⟩
      · rcases hwas j hj with e | e
        · subst e
          rw [hsame v hd]; rw [hv] at hu; exact Option.some.inj hu
        · rw [hkeep v j e]; exact h.fact j u hu e
      · rw [hother _ (hia p hp).1] at hpl
        rw [hother _ (hia q hq).1] at hql
        rw [hkeep v _ hpl, hkeep v _ hql]; exact h.dis p hp q hq hne hpl hql
      · rw [hother _ (Ne.symm hc)]; exact hlat _ _ _ _ hJ hbw
      · rw [hother _ (hia q hq).1] at hql
        rw [hother _ (hia q hq).2, hkeep v _ hql]
        obtain ⟨g, h1, h2, h3, h4⟩ := hrow q hq hql
        exact ⟨g, h1, (hbw.block g (Array.getElem?_eq_some_iff.1 h2).1).trans h2, h3, h4⟩
    | call v hv hc hd hh =>
      subst hc
      rw [hinot] at hJ
      refine wpOp_mono ?_ (hh a w L h.old hnf hJ)
      rintro a' w' ⟨rfl, L', hJ', hF⟩
      have hia : ∀ q ∈ items, q.ai ≠ i ∧ q.si ≠ i := fun q hq => ⟨(hC1 q hq).2.2.1, (hC1 q hq).2.2.2⟩
      refine ⟨hsize, by rw [put_size]; exact h.tsz, by rw [put_defers]; exact h.dfr, holdp v, hcl, fun j u hu hj => ?_, Nat.le_trans h.bs hF.sz, fun p hp q hq hne hpl hql => ?_, L', ?_, fun q hq hql => ?_⟩
      · rcases hwas j hj with e | e
        · subst e
          rw [hsame v hd]; rw [hv] at hu; exact Option.some.inj hu
        · rw [hkeep v j e]; exact h.fact j u hu e
      · rw [hother _ (hia p hp).1] at hpl
        rw [hother _ (hia q hq).1] at hql
        rw [hkeep v _ hpl, hkeep v _ hql]; exact h.dis p hp q hq hne hpl hql
      · rw [hnew]; exact hJ'
      · rw [hother _ (hia q hq).1] at hql
        rw [hother _ (hia q hq).2, hkeep v _ hql]
        obtain ⟨g, h1, h2, h3, h4⟩ := hrow q hq hql
        have hg : g < w.heap.size := (Array.getElem?_eq_some_iff.1 h2).1
        exact ⟨g, h1, (hF.bl g hg h3).trans h2, fun e => (by rcases hF.ow g e with q' | q'; exact h3 q'; omega), h4⟩
    | made q hq hia hd hh =>
      subst hia
      refine wpOp_mono ?_ (hh a w)
      rintro a' w' ⟨rfl, rfl⟩
      have hc : q.ai ≠ ci := (hC1 q hq).2.2.1
      have hsi : l.getD q.si false = false := by
        cases e : l.getD q.si false with
        | false => rfl
        | true =>
          exfalso
          have hlt : q.si < ops.size := by
            rcases Nat.lt_or_ge q.si l.size with h' | h'
            · rw [← h.size]; exact h'
            · simp [Array.getElem?_eq_none h'] at e
          cases hop q.si _ (Array.getElem?_eq_getElem hlt) with
          | pure v hv _ _ _ => rw [(hC1 q hq).2.1] at hv; cases hv
          | call v hv _ _ _ => rw [(hC1 q hq).2.1] at hv; cases hv
          | made p hp he _ _ => exact (hC2 p hp q hq).1 he.symm
          | stored p hp he _ hn _ _ =>
            have h1 : p.ai = q.ai := (hC2 p hp q hq).2.2 he.symm
            have := h.cl q.si e p.ai hn.1
            rw [h1, hinot] at this; cases this
      have hold : ∀ p ∈ items, p.ai ≠ q.ai → p.si ≠ q.ai := fun p hp _ e => (hC2 q hq p hp).1 e.symm
      refine ⟨hsize, by rw [put_size]; exact h.tsz, by rw [put_defers]; exact h.dfr, holdp _, hcl, fun j u hu hj => ?_, Nat.le_trans h.bs (by simp), fun p hp p' hp' hne hpl hpl' => ?_, L, ?_, fun p hp hpl => ?_⟩
      · rcases hwas j hj with e | e
        · rw [e, (hC1 q hq).1] at hu; cases hu
        · rw [hkeep _ j e]; exact h.fact j u hu e
      · have key : ∀ r ∈ items, r.ai ≠ q.ai → (l.setIfInBounds q.ai true).getD r.ai false = true → leftBy ops (a.put o.dst (ptr w.heap.size)) r.ai ≠ ptr w.heap.size := fun r hr hrne hrl => by
          rw [hother _ hrne] at hrl
          rw [hkeep _ _ hrl]
          obtain ⟨g, h1, h2, _⟩ := hrow r hr hrl
          have hg : g < w.heap.size := (Array.getElem?_eq_some_iff.1 h2).1
          rw [h1]; intro e; have := ptr_inj e; omega
        by_cases e1 : p.ai = q.ai
        · have e2 : p'.ai ≠ q.ai := fun e => hne (e1.trans e.symm)
          rw [e1, hsame _ hd]; exact fun e => key p' hp' e2 hpl' e.symm
        · by_cases e2 : p'.ai = q.ai
          · rw [e2, hsame _ hd]; exact key p hp e1 hpl
          · rw [hother _ e1] at hpl
            rw [hother _ e2] at hpl'
            rw [hkeep _ _ hpl, hkeep _ _ hpl']; exact h.dis p hp p' hp' hne hpl hpl'
      · rw [hother _ (Ne.symm hc)]; exact hlat _ _ _ _ hJ (below_al _ _)
      · by_cases e1 : p.ai = q.ai
        · obtain rfl := hI p hp q hq e1
          refine ⟨w.heap.size, hsame _ hd, ?_, fun e => ?_, h.bs⟩
          · rw [hother _ (fun e => (hC2 p hp p hp).1 e.symm), hsi]
            exact heap_alloc_new w _
          · have := hown _ _ _ _ hJ e; omega
        · rw [hother _ e1] at hpl
          rw [hother _ (hold p hp e1), hkeep _ _ hpl]
          obtain ⟨g, h1, h2, h3, h4⟩ := hrow p hp hpl
          have hg : g < w.heap.size := (Array.getElem?_eq_some_iff.1 h2).1
          exact ⟨g, h1, (heap_alloc_old w _ hg).trans h2, h3, h4⟩
    | stored q hq hsi hd hn hx hh =>
      subst hsi
      have hal' := hneed _ hn.1
      obtain ⟨g, h1, h2, h3, h4⟩ := hrow q hq hal'
      rw [hinot] at h2
      refine wpOp_mono ?_ (hh a w g h1 (hnf _ hn.2 _ hx) h2)
      rintro a' w' ⟨rfl, rfl⟩
      have hc : q.si ≠ ci := (hC1 q hq).2.2.2
      refine ⟨hsize, h.tsz, h.dfr, h.old, hcl, fun j u hu hj => ?_, Nat.le_trans h.bs (by simp [World.setRow]), fun p hp p' hp' hne hpl hpl' => ?_, L, ?_, fun p hp hpl => ?_⟩
      · rcases hwas j hj with e | e
        · rw [e, (hC1 q hq).2.1] at hu; cases hu
        · exact h.fact j u hu e
      · rw [hother _ (fun e => (hC2 p hp q hq).1 e)] at hpl
        rw [hother _ (fun e => (hC2 p' hp' q hq).1 e)] at hpl'
        exact h.dis p hp p' hp' hne hpl hpl'
      · rw [hother _ (Ne.symm hc)]; exact hput _ _ _ _ _ hJ h3 h4
      · rw [hother _ (fun e => (hC2 p hp q hq).1 e)] at hpl
        by_cases e1 : p.ai = q.ai
        · obtain rfl := hI p hp q hq e1
          rw [hnew]
          exact ⟨g, h1, setRow_same w g _ _ _ h2, h3, h4⟩
        · have e2 : p.si ≠ q.si := fun e => e1 ((hC2 p hp q hq).2.2 e)
          obtain ⟨g', h1', h2', h3', h4'⟩ := hrow p hp hpl
          have hgg : g' ≠ g := fun e => h.dis p hp q hq e1 hpl hal' (by rw [h1', h1, e])
          rw [hother _ e2]
          exact ⟨g', h1', (setRow_other _ _ _ _ hgg).trans h2', h3', h4'⟩
  · intro l a w h hr
    have hl := bag_all hB h.size hr
    obtain ⟨L, hJ, hrow⟩ := h.world
    rw [hl ci hci] at hJ
    let pg : Nat → Nat := fun j => match leftBy ops a j with | .pointer (some p) => p.block | _ => 0
    have hpg : ∀ q ∈ items, leftBy ops a q.ai = ptr (pg q.ai) := fun q hq => by
      obtain ⟨g, h1, _⟩ := hrow q hq (hl _ (hall q hq).1)
      show leftBy ops a q.ai = ptr (match leftBy ops a q.ai with | .pointer (some p) => p.block | _ => 0)
      rw [h1]; rfl
    have hea : a = putAll (fun j => (val j).getD (ptr (pg j))) ops.toList 0 a0 := by
      have hs := putAll_size (fun j => (val j).getD (ptr (pg j))) ops.toList 0 a0
      have ht : a.tmps = (putAll (fun j => (val j).getD (ptr (pg j))) ops.toList 0 a0).tmps := by
        apply Array.ext_getElem?
        intro k
        by_cases hk : k < a0.tmps.size
        · by_cases hap : apartB ops k = true
          · have e1 := h.old k hap
            rw [putAll_apart _ k _ _ _ (fun o ho => by
              have := List.all_eq_true.1 hap o ho
              simpa using this)]
            simp only [Act.eval, Array.getD_eq_getD_getElem?] at e1
            rw [Array.getElem?_eq_getElem hk, Array.getElem?_eq_getElem (by rw [h.tsz]; exact hk)] at e1 ⊢
            simpa using e1
          · have : ∃ o ∈ ops.toList, o.dst = some k := by
              simp only [apartB, List.all_eq_true, bne_iff_ne, ne_eq, Classical.not_forall, Decidable.not_not] at hap
              obtain ⟨o, ho, hd⟩ := hap
              exact ⟨o, ho, hd⟩
            obtain ⟨o, ho, hd⟩ := this
            obtain ⟨i, hi, he⟩ := List.getElem_of_mem ho
            have hi' : i < ops.size := by simpa using hi
            have hoi : ops[i]? = some o := by rw [Array.getElem?_eq_getElem hi']; simpa using he
            have hok := bagB_spec hB hoi
            rw [putAll_at _ k _ _ _ i o (by simpa using hoi) hd (fun i' o' h1 h2 => (hok.dst k hd).2.2 i' o' (by simpa using h1) h2) hk, Nat.zero_add]
            have hleft : leftBy ops a i = (val i).getD (ptr (pg i)) := by
              cases hv : val i with
              | some v => rw [h.fact i v hv (hl i hi')]; rfl
              | none =>
                cases hop i o hoi with
                | pure v hv' _ _ _ => rw [hv] at hv'; cases hv'
                | call v hv' _ _ _ => rw [hv] at hv'; cases hv'
                | made q hq he _ _ => subst he; exact hpg q hq
                | stored q hq he hd' _ _ _ => rw [hd] at hd'; cases hd'
            unfold leftBy at hleft
            rw [slotOf_eq hoi hd] at hleft
            simp only [Act.eval, Array.getD_eq_getD_getElem?] at hleft
            rw [Array.getElem?_eq_getElem (by rw [h.tsz]; exact hk)] at hleft ⊢
            rw [← hleft]; rfl
        · rw [Array.getElem?_eq_none (by rw [h.tsz]; omega), Array.getElem?_eq_none (by rw [hs.1]; omega)]
      have hd : a.defers = (putAll (fun j => (val j).getD (ptr (pg j))) ops.toList 0 a0).defers := h.dfr.trans hs.2.symm
      cases a
      generalize putAll (fun j => (val j).getD (ptr (pg j))) ops.toList 0 a0 = z at ht hd
      cases z
      simp only at ht hd
      rw [ht, hd]
    rw [hea]
    refine hend w L pg hJ (fun q hq => ?_) (fun p hp q hq hne e => ?_)
    · obtain ⟨g, h1, h2, h3, h4⟩ := hrow q hq (hl _ (hall q hq).1)
      have : g = pg q.ai := ptr_inj (h1.symm.trans (hpg q hq))
      subst this
      rw [hl _ (hall q hq).2] at h2
      exact ⟨h2, h3, h4⟩
    · exact h.dis p hp q hq hne (hl _ (hall p hp).1) (hl _ (hall q hq).1) (by rw [hpg p hp, hpg q hq, e])
end
section
variable {P : Program} {ops : Array Oper} {Q : Exit → Act → World → Prop} {need : Nat → List Nat} {val : Nat → Option Value} {items : List Itm} {ci : Nat} {J : Ly → Bool → World → Prop} {a0 : Act} {i : Nat} {o : Oper}
theorem opn_val (v : Value) (ho : ops[i]? = some o) (hg : o.guard = none) (hd : o.dst ≠ none) (hv : val i = some v) (hc : i ≠ ci)
    (h : ∀ a w L b, (∀ k, apartB ops k = true → a.eval (.tmp k) = a0.eval (.tmp k)) → (∀ k ∈ need i, ∀ u, val k = some u → leftBy ops a k = u) → J L b w → (execOp a.eval o).run P w = .ok (.value v) w) : Opn P ops Q need val items ci J a0 i o :=
  .pure v hv hc hd fun a w L b h1 h2 h3 => wpOp_plain ho hg (by unfold Oper.wp; rw [h a w L b h1 h2 h3]; exact ⟨rfl, Below.refl _ _⟩)
theorem opn_old (v u : Value) (k : Nat) (ho : ops[i]? = some o) (hg : o.guard = none) (hd : o.dst ≠ none) (hv : val i = some v) (hc : i ≠ ci) (hk : apartB ops k = true) (hu : a0.eval (.tmp k) = u)
    (h : ∀ (ρ : Operand → Value) w L b, ρ (.tmp k) = u → J L b w → (execOp ρ o).run P w = .ok (.value v) w) : Opn P ops Q need val items ci J a0 i o :=
  opn_val v ho hg hd hv hc fun a w L b h1 _ h3 => h a.eval w L b ((h1 k hk).trans hu) h3
theorem opn_new (v u : Value) (k j : Nat) (ho : ops[i]? = some o) (hg : o.guard = none) (hd : o.dst ≠ none) (hv : val i = some v) (hc : i ≠ ci) (hj : j ∈ need i) (hu : val j = some u) (hl : ∀ a : Act, leftBy ops a j = a.eval (.tmp k))
    (h : ∀ (ρ : Operand → Value) w L b, ρ (.tmp k) = u → J L b w → (execOp ρ o).run P w = .ok (.value v) w) : Opn P ops Q need val items ci J a0 i o :=
  opn_val v ho hg hd hv hc fun a w L b _ h2 h3 => h a.eval w L b ((hl a).symm.trans (h2 j hj u hu)) h3
theorem opn_quiet (v : Value) (f : FuncId) (args : Array Value) (ho : ops[i]? = some o) (hg : o.guard = none) (hd : o.dst ≠ none) (hv : val i = some v) (hc : i ≠ ci)
    (h : ∀ a w L b, (∀ k, apartB ops k = true → a.eval (.tmp k) = a0.eval (.tmp k)) → (∀ k ∈ need i, ∀ u, val k = some u → leftBy ops a k = u) → J L b w → (execOp a.eval o).run P w = .ok (.enter f args) w)
    (hk : ∀ w L b, J L b w → Calls P f args w fun e w' => e = .returned v ∧ Below w.heap.size w w') : Opn P ops Q need val items ci J a0 i o :=
  .pure v hv hc hd fun a w L b h1 h2 h3 => wpOp_plain ho hg (by
    unfold Oper.wp; rw [h a w L b h1 h2 h3]
    refine Calls.mono (hk w L b h3) ?_
    rintro e w' ⟨rfl, h4⟩
    exact ⟨rfl, h4⟩)
theorem opn_call (v : Value) (f : FuncId) (args : Array Value) (ho : ops[i]? = some o) (hg : o.guard = none) (hd : o.dst ≠ none) (hv : val i = some v) (hc : i = ci)
    (h : ∀ a w L, (∀ k, apartB ops k = true → a.eval (.tmp k) = a0.eval (.tmp k)) → (∀ k ∈ need i, ∀ u, val k = some u → leftBy ops a k = u) → J L false w → (execOp a.eval o).run P w = .ok (.enter f args) w)
    (hk : ∀ w L, J L false w → Calls P f args w fun e w' => e = .returned v ∧ ∃ L', J L' true w' ∧ Fr L w L' w') : Opn P ops Q need val items ci J a0 i o :=
  .call v hv hc hd fun a w L h1 h2 h3 => wpOp_plain ho hg (by
    unfold Oper.wp; rw [h a w L h1 h2 h3]
    refine Calls.mono (hk w L h3) ?_
    rintro e w' ⟨rfl, h4⟩
    exact ⟨rfl, h4⟩)
theorem opn_made (q : Itm) (ho : ops[i]? = some o) (hg : o.guard = none) (hd : o.dst ≠ none) (hq : q ∈ items) (hi : i = q.ai) (h : ∀ (a : Act) (w : World), (execOp a.eval o).run P w = .ok (.value (ptr w.heap.size)) (w.alloc (.cells q.z q.T))) : Opn P ops Q need val items ci J a0 i o :=
  .made q hq hi hd fun a w => wpOp_plain ho hg (by unfold Oper.wp; rw [h a w]; exact ⟨rfl, rfl⟩)
theorem opn_stored (q : Itm) (x y : Operand) (ho : ops[i]? = some o) (hg : o.guard = none) (hd : o.dst = none) (hq : q ∈ items) (hi : i = q.si) (hop : o.op = .store q.T x y) (hn : q.ai ∈ need i ∧ q.xi ∈ need i) (hx : val q.xi = some q.v)
    (hxo : ∀ a : Act, leftBy ops a q.ai = a.eval x) (hyo : ∀ a : Act, leftBy ops a q.xi = a.eval y) (hi2 : (P.info? q.T).map (·.size) = some q.cs.size) (hs : q.z.size = q.cs.size) (h1 : q.cs.all (·.oneCell') = true) (hv : q.v = .agg q.cs := by rfl) : Opn P ops Q need val items ci J a0 i o :=
  .stored q hq hi hd hn hx fun a w g e1 e2 hr => wpOp_plain ho hg (wpO_store_row q.T x y hop g q.z q.cs ((hxo a).symm.trans e1) (((hyo a).symm.trans e2).trans hv) hr hi2 hs h1 ⟨by rw [hd]; rfl, rfl⟩)
theorem opn_stored1 (q : Itm) (x y : Operand) (z v : Value) (ho : ops[i]? = some o) (hg : o.guard = none) (hd : o.dst = none) (hq : q ∈ items) (hi : i = q.si) (hop : o.op = .store q.T x y) (hn : q.ai ∈ need i ∧ q.xi ∈ need i) (hx : val q.xi = some q.v)
    (hxo : ∀ a : Act, leftBy ops a q.ai = a.eval x) (hyo : ∀ a : Act, leftBy ops a q.xi = a.eval y) (hz : q.z = #[z]) (hc : q.cs = #[v]) (hv : q.v = v) (hst : ∀ (w : World) (g : Nat), w.heap[g]? = some (.cells #[z] q.T (0, 0)) → (Instr.storeAt q.T (.pointer (some ⟨g, 0, none⟩)) v).run P w = .ok () (w.setRow g #[v])) : Opn P ops Q need val items ci J a0 i o :=
  .stored q hq hi hd hn hx fun a w g e1 e2 hr => wpOp_plain ho hg (by
    have hx' := (hxo a).symm.trans e1
    have hy' := ((hyo a).symm.trans e2).trans hv
    rw [hz] at hr
    have h := hst w g hr
    unfold Oper.wp execOp
    simp only [hop, hx', hy', ptr]
    simp only [Sem.run_bind, Sem.run_pure, h, Result.andThen_ok]
    exact ⟨by rw [hd]; rfl, by rw [hc]⟩)
end
theorem ld_aggs {P : Program} (ty : TypeId) (g off : Nat) (cs : Array Value) (d : TypeDesc) (w9 : World) (h : ∀ j v, cs[j]? = some v → w9.cell? ⟨g, off + j, none⟩ = some v) (hu : P.underlying ty = some d) (hd : (match d with | .struct _ | .array _ _ => true | _ => false) = true) (hi : (P.info? ty).map (·.size) = some cs.size) :
    ((Instr.loadAt ty (.pointer (some ⟨g, off, none⟩))) >>= fun v => pure (Next.value v)).run P w9 = .ok (.value (.agg cs)) w9 := by
  have hl := run_load_agg (P := P) w9 ty g off cs d h hu hd hi
  simp only [Instr.loadAt, Instr.sureAddr, Sem.run_bind, Sem.run_pure, Result.andThen_ok, hl]
end Go.Proofs.YtidfndgedopghaaGreatDoor
