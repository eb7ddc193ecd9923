/-
  Hm.
-/
import Derived.Test.YtgblpjkpeihpeaaM12
namespace Go.Proofs.Ytgblpjkpeihpeaa
set_option linter.unusedVariables false
set_option maxRecDepth 100000
open Go.ChangeShapes Go.WideShapes Go.ChangeAt Go.RowKit Go.Deep
section
variable {P : Program} {ops : Array Oper} {Q : Exit → Act → World → Prop}
def HopL (Pr : Nat → Oper → Prop) : Nat → List Oper → Prop
  | _, [] => True
  | i, o :: r => Pr i o ∧ HopL Pr (i + 1) r
theorem hop_go {Pr : Nat → Oper → Prop} : ∀ (l : List Oper) (k : Nat), HopL Pr k l → ∀ i o, l[i]? = some o → Pr (k + i) o
  | [], _, _, i, o, ho => by simp at ho
  | x :: r, k, h, 0, o, ho => by
    obtain rfl : x = o := by simpa using ho
    exact h.1
  | x :: r, k, h, i + 1, o, ho => by
    have := hop_go r (k + 1) h.2 i o (by simpa using ho)
    rwa [show k + 1 + i = k + (i + 1) by omega] at this
theorem hop_list {Pr : Nat → Oper → Prop} {l : List Oper} (h : HopL Pr 0 l) : ∀ i o, l.toArray[i]? = some o → Pr i o := fun i o ho => by
  have q := hop_go l 0 h i o (by simpa using ho)
  rwa [Nat.zero_add] at q
/-- What is asked of an operation. -/
def Stp (P : Program) (ops : Array Oper) (Q : Exit → Act → World → Prop) (need : Nat → List Nat) (F : Nat → Value → World → Prop) (W : World) (a0 : Act) (i : Nat) (o : Oper) : Prop :=
  o.dst ≠ none ∧ ∀ a w, (∀ k, apartB ops k = true → a.eval (.tmp k) = a0.eval (.tmp k)) → Below W.heap.size W w → (∀ k ∈ need i, F k (leftBy ops a k) w) →
    wpOp P ops Q i (fun a' w' => ∃ v, a' = a.put o.dst v ∧ Below w.heap.size w w' ∧ F i v w') a w
theorem stp_val {need : Nat → List Nat} {F : Nat → Value → World → Prop} {W : World} {a0 : Act} {i : Nat} {o : Oper} (ho : ops[i]? = some o) (hg : o.guard = none) (hd : o.dst ≠ none)
    (h : ∀ a w, (∀ k, apartB ops k = true → a.eval (.tmp k) = a0.eval (.tmp k)) → Below W.heap.size W w → (∀ k ∈ need i, F k (leftBy ops a k) w) → ∃ v w', (execOp a.eval o).run P w = .ok (.value v) w' ∧ Below w.heap.size w w' ∧ F i v w') : Stp P ops Q need F W a0 i o :=
  ⟨hd, fun a w h1 h2 h3 => wpOp_plain ho hg (by
    obtain ⟨v, w', hr, hb, hf⟩ := h a w h1 h2 h3
    unfold Oper.wp; rw [hr]; exact ⟨v, rfl, hb, hf⟩)⟩
/-- One that only reads: its value is known. -/
theorem stp_con {need : Nat → List Nat} {F : Nat → Value → World → Prop} {W : World} {a0 : Act} {i : Nat} {o : Oper} (v : Value) (hF : F i = fun u _ => u = v) (ho : ops[i]? = some o) (hg : o.guard = none) (hd : o.dst ≠ none)
    (h : ∀ a w, (∀ k, apartB ops k = true → a.eval (.tmp k) = a0.eval (.tmp k)) → Below W.heap.size W w → (∀ k ∈ need i, F k (leftBy ops a k) w) → (execOp a.eval o).run P w = .ok (.value v) w) : Stp P ops Q need F W a0 i o :=
  stp_val ho hg hd fun a w h1 h2 h3 => ⟨v, w, h a w h1 h2 h3, Below.refl _ _, by rw [hF]⟩
theorem stp_call {need : Nat → List Nat} {F : Nat → Value → World → Prop} {W : World} {a0 : Act} {i : Nat} {o : Oper} (f : FuncId) (ho : ops[i]? = some o) (hg : o.guard = none) (hd : o.dst ≠ none)
    (h : ∀ a w, (∀ k, apartB ops k = true → a.eval (.tmp k) = a0.eval (.tmp k)) → Below W.heap.size W w → (∀ k ∈ need i, F k (leftBy ops a k) w) → ∃ args, (execOp a.eval o).run P w = .ok (.enter f args) w ∧ Calls P f args w fun e w' => ∃ u, e = .returned u ∧ Below w.heap.size w w' ∧ F i u w') : Stp P ops Q need F W a0 i o :=
  ⟨hd, fun a w h1 h2 h3 => wpOp_plain ho hg (by
    obtain ⟨args, hr, hc⟩ := h a w h1 h2 h3
    unfold Oper.wp; rw [hr]
    refine Calls.mono hc ?_
    rintro e w' ⟨u, rfl, hb, hf⟩
    exact ⟨u, rfl, hb, hf⟩)⟩
theorem wp_region_mk {id : Nat} (hm : P.follows .mixedOrders = true) (need : Nat → List Nat) (F : Nat → Value → World → Prop) (W : World) (a0 : Act) (hB : bagB ops need a0.tmps.size = true) (hF : ∀ j v w w', F j v w → Below w.heap.size w w' → F j v w')
    (hstep : ∀ i o, ops[i]? = some o → Stp P ops Q need F W a0 i o)
    (hend : ∀ a w, a.tmps.size = a0.tmps.size → a.defers = a0.defers → (∀ k, apartB ops k = true → a.eval (.tmp k) = a0.eval (.tmp k)) → Below W.heap.size W w → (∀ j, j < ops.size → F j (leftBy ops a j) w) → Q .normal a w) :
    (Code.region id ops true).wp P Q a0 W := by
  have eb : ∀ {w w' : World}, Exk (fun _ => False) w w' → Below w.heap.size w w' := fun h => h.e.below (Nat.le_refl _) (fun _ h => h.elim)
  refine wp_region_bag hm need (fun j vs w => match vs with | v :: _ => F j v w | [] => False) [] (fun _ => False) ops.size W W a0 hB (fun k _ _ h => absurd h (Nat.lt_irrefl _)) ?_ (fun j hj => by cases hj) (Exk.refl _ _) ?_ ?_
  · intro j vs w w' _ h hb
    cases vs with
    | nil => exact h
    | cons v vs => exact hF j v w w' h (eb hb)
  · intro i o ho a w h1 h2 h3
    obtain ⟨hd, hs⟩ := hstep i o ho
    refine wpOp_mono ?_ (hs a w h1 (eb h2) (fun k hk => h3 k hk))
    rintro a' w' ⟨v, rfl, hb, hf⟩
    refine ⟨v, rfl, Exk.of_below hb rfl, fun v' h => ?_, fun h => by cases h⟩
    rcases h with h | h
    · exact absurd h hd
    · rw [h]; exact hf
  · intro a w h1 h2 h3 h4 h5 _
    exact hend a w h1 h2 h3 (eb h4) (fun j hj => h5 j hj)
/-- So, and the last operation, which waits for all the others, does as it likes. -/
theorem wp_region_mkf {id : Nat} (hm : P.follows .mixedOrders = true) (fin : Nat) (need : Nat → List Nat) (F : Nat → Value → World → Prop) (W : World) (a0 : Act) (hB : bagB ops need a0.tmps.size = true) (hflt : fin < ops.size) (hfin : ∀ k, k < ops.size → k ≠ fin → k ∈ need fin) (hF : ∀ j v w w', F j v w → Below w.heap.size w w' → F j v w')
    (hstep : ∀ i o, ops[i]? = some o → i ≠ fin → Stp P ops Q need F W a0 i o)
    (hend : ∀ o, ops[fin]? = some o → ∀ a w, a.tmps.size = a0.tmps.size → a.defers = a0.defers → (∀ k, apartB ops k = true → a.eval (.tmp k) = a0.eval (.tmp k)) → Below W.heap.size W w → (∀ j, j < ops.size → j ≠ fin → F j (leftBy ops a j) w) → wpOp P ops Q fin (fun a' w' => Q .normal a' w') a w) :
    (Code.region id ops true).wp P Q a0 W := by
  have eb : ∀ {w w' : World}, Exk (fun _ => False) w w' → Below w.heap.size w w' := fun h => h.e.below (Nat.le_refl _) (fun _ h => h.elim)
  refine wp_region_any hm ?_
  let F' : Nat → List Value → World → Prop := fun j vs w => match vs with | v :: _ => F j v w | [] => False
  have hF' : ∀ j vs w w', j ≠ ops.size → F' j vs w → Exk (fun _ => False) w w' → F' j vs w' := fun j vs w w' _ h hb => by
    cases vs with
    | nil => exact h
    | cons v vs => exact hF j v w w' h (eb hb)
  have main : ∀ (fuel : Nat) (listed : Array Bool) a w, listed.toList.count false ≤ fuel → ((listed.getD fin false = false ∧ Bag ops need F' [] (fun _ => False) W a0 listed a w) ∨ (Region.ready .any ops listed = [] ∧ Q .normal a w)) → wpAny P .any ops Q fuel listed a w := by
    intro fuel
    have hdone : ∀ (listed : Array Bool) a w, listed.getD fin false = false → Bag ops need F' [] (fun _ => False) W a0 listed a w → Region.ready .any ops listed ≠ [] := fun listed a w hf h hr => by
      have := bag_all hB h.size hr fin hflt
      rw [hf] at this; cases this
    induction fuel with
    | zero =>
      intro listed a w hc h
      rcases h with ⟨hf, h⟩ | ⟨hr, hq⟩
      · exfalso
        refine hdone listed a w hf h (List.eq_nil_iff_forall_not_mem.2 fun j hj => ?_)
        obtain ⟨h0, o, ho, _⟩ := mem_ready.1 hj
        have hjl : j < listed.size := by rw [h.size]; exact (Array.getElem?_eq_some_iff.1 ho).1
        have : false ∈ listed.toList := by
          simp [hjl] at h0
          rw [← h0]; simp
        have := List.count_pos_iff.2 this
        omega
      · exact ⟨hr, hq⟩
    | succ fuel ih =>
      intro listed a w hc h
      rcases h with ⟨hf, h⟩ | ⟨hr, hq⟩
      · refine ⟨fun hr => absurd hr (hdone listed a w hf h), fun i hi => ?_⟩
        obtain ⟨h0, o, ho, hall⟩ := mem_ready.1 hi
        have hok := bagB_spec hB ho
        have hjl : i < listed.size := by rw [h.size]; exact (Array.getElem?_eq_some_iff.1 ho).1
        have hneed : ∀ k ∈ need i, listed.getD k false = true := fun k hk => by
          obtain ⟨e, he, hbe, h1 | h1⟩ := hok.need k hk
          · rw [← h1]; exact hall e he hbe
          · exact h.cl e.on (hall e he hbe) k h1
        have hcnt : (listed.setIfInBounds i true).toList.count false ≤ fuel := by
          have h1 : listed.toList[i]'(by simpa using hjl) = false := by simp [hjl] at h0; simpa using h0
          rw [Array.toList_setIfInBounds, List.count_set (by simpa using hjl), h1]
          have h2 : 0 < listed.toList.count false := List.count_pos_iff.2 (by rw [← h1]; simp)
          simp only [beq_self_eq_true, if_true, show (true == false) = false from rfl, Bool.false_eq_true, if_false]
          omega
        by_cases hif : i = fin
        · subst hif
          refine wpOp_mono ?_ (hend o ho a w h.tsz h.dfr h.old (eb h.bel) (fun j hj hne => h.fact j (hneed j (hfin j hj hne))))
          intro a' w' hq
          refine ih _ _ _ hcnt (.inr ⟨?_, hq⟩)
          refine List.eq_nil_iff_forall_not_mem.2 fun j hj => ?_
          obtain ⟨h0', o', ho', _⟩ := mem_ready.1 hj
          have hj' : j < ops.size := (Array.getElem?_eq_some_iff.1 ho').1
          have hjl' : j < listed.size := by rw [h.size]; exact hj'
          by_cases e : i = j
          · subst e; simp [hjl] at h0'
          · rw [getD_set_ne true e] at h0'
            have := hneed j (hfin j hj' (Ne.symm e))
            simp [hjl'] at h0' this
            rw [h0'] at this; cases this
        · obtain ⟨hd, hs⟩ := hstep i o ho hif
          refine wpOp_mono ?_ (hs a w h.old (eb h.bel) (fun k hk => h.fact k (hneed k hk)))
          rintro a' w' ⟨v, rfl, hb, hf2⟩
          refine ih _ _ _ hcnt (.inl ⟨by rw [getD_set_ne false hif]; exact hf, h.step ops.size hB (fun k _ _ h => absurd h (Nat.lt_irrefl _)) hF' (fun j hj => by cases hj) ho h0 hall (Exk.of_below hb rfl) (fun v' h => ?_) (fun h => by cases h)⟩)
          rcases h with h | h
          · exact absurd h hd
          · rw [h]; exact hf2
      · exact ⟨fun _ => hq, fun i hi => by rw [hr] at hi; cases hi⟩
  refine main _ _ _ _ (by simp) (.inl ⟨?_, ⟨by simp, rfl, rfl, fun _ _ => rfl, ?_, fun j hj => ?_, fun j hj => ?_, fun j hj => by cases hj⟩⟩)
  · simp [Array.getElem?_replicate]; split <;> rfl
  · exact ⟨⟨rfl, rfl, rfl, Nat.le_refl _, fun _ _ _ => rfl⟩, fun _ h => h.elim⟩
  · exfalso; simp [Array.getElem?_replicate] at hj; split at hj <;> simp at hj
  · exfalso; simp [Array.getElem?_replicate] at hj; split at hj <;> simp at hj
/-- What every operation leaves, laid into the slots. -/
def putAll (f : Nat → Value) : List Oper → Nat → Act → Act
  | [], _, a => a
  | o :: r, j, a => putAll f r (j + 1) (a.put o.dst (f j))
theorem put_size (a : Act) (d : Option Tmp) (v : Value) : (a.put d v).tmps.size = a.tmps.size := by cases d <;> simp [Act.put]
theorem put_defers (a : Act) (d : Option Tmp) (v : Value) : (a.put d v).defers = a.defers := by cases d <;> rfl
theorem putAll_size (f : Nat → Value) : ∀ (l : List Oper) (j : Nat) (a : Act), (putAll f l j a).tmps.size = a.tmps.size ∧ (putAll f l j a).defers = a.defers
  | [], _, _ => ⟨rfl, rfl⟩
  | o :: r, j, a => by
    obtain ⟨h1, h2⟩ := putAll_size f r (j + 1) (a.put o.dst (f j))
    exact ⟨h1.trans (put_size _ _ _), h2.trans (put_defers _ _ _)⟩
theorem put_apart {a : Act} {d : Option Tmp} {v : Value} {k : Tmp} (h : d ≠ some k) : (a.put d v).tmps[k]? = a.tmps[k]? := by
  cases d with
  | none => rfl
  | some d =>
    have : d ≠ k := fun e => h (by rw [e])
    simp [Act.put, this]
theorem putAll_apart (f : Nat → Value) (k : Tmp) : ∀ (l : List Oper) (j : Nat) (a : Act), (∀ o ∈ l, o.dst ≠ some k) → (putAll f l j a).tmps[k]? = a.tmps[k]?
  | [], _, _, _ => rfl
  | o :: r, j, a, h => by
    rw [putAll, putAll_apart f k r (j + 1) _ (fun o' ho' => h o' (List.mem_cons_of_mem _ ho')), put_apart (h o (List.mem_cons_self ..))]
theorem putAll_at (f : Nat → Value) (k : Tmp) : ∀ (l : List Oper) (j : Nat) (a : Act) (i : Nat) (o : Oper), l[i]? = some o → o.dst = some k → (∀ i' o', l[i']? = some o' → i' ≠ i → o'.dst ≠ some k) → k < a.tmps.size → (putAll f l j a).tmps[k]? = some (f (j + i))
  | [], _, _, i, o, h, _, _, _ => by simp at h
  | x :: r, j, a, 0, o, h, hd, hu, hk => by
    obtain rfl : x = o := by simpa using h
    rw [putAll, putAll_apart f k r (j + 1) _ (fun o' ho' => by
      obtain ⟨i', hi', e⟩ := List.getElem_of_mem ho'
      exact hu (i' + 1) o' (by rw [List.getElem?_cons_succ, List.getElem?_eq_getElem hi', e]) (by omega)), hd]
    simp [Act.put, hk]
  | x :: r, j, a, i + 1, o, h, hd, hu, hk => by
    rw [putAll, putAll_at f k r (j + 1) _ i o (by simpa using h) hd (fun i' o' h1 h2 => hu (i' + 1) o' (by simpa using h1) (by omega)) (by rw [put_size]; exact hk)]
    congr 2; omega
/-- The act behind a region, by what its operations have left. -/
theorem act_putAll {need : Nat → List Nat} {a0 a : Act} (hB : bagB ops need a0.tmps.size = true) (hd : ∀ (i : Nat) (o : Oper), ops[i]? = some o → o.dst ≠ none) (ht : a.tmps.size = a0.tmps.size) (hdf : a.defers = a0.defers) (hold : ∀ k, apartB ops k = true → a.eval (.tmp k) = a0.eval (.tmp k)) : a = putAll (leftBy ops a) ops.toList 0 a0 := by
  have hs := putAll_size (leftBy ops a) ops.toList 0 a0
  have h1 : a.tmps = (putAll (leftBy ops a) ops.toList 0 a0).tmps := by
    apply Array.ext_getElem?
    intro k
    by_cases hk : k < a0.tmps.size
    · by_cases hap : apartB ops k = true
      · have e1 := hold k hap
        rw [putAll_apart _ k _ _ _ (fun o ho => by
          have := List.all_eq_true.1 hap o ho
          simpa using this)]
        simp only [Act.eval, Array.getD_eq_getD_getElem?] at e1
        rw [Array.getElem?_eq_getElem hk, Array.getElem?_eq_getElem (by rw [ht]; exact hk)] at e1 ⊢
        simpa using e1
      · have : ∃ o ∈ ops.toList, o.dst = some k := by
          simp only [apartB, List.all_eq_true, bne_iff_ne, ne_eq, Classical.not_forall, Decidable.not_not] at hap
          obtain ⟨o, ho, hd⟩ := hap
          exact ⟨o, ho, hd⟩
        obtain ⟨o, ho, hd⟩ := this
        obtain ⟨i, hi, he⟩ := List.getElem_of_mem ho
        have hi' : i < ops.size := by simpa using hi
        have hoi : ops[i]? = some o := by rw [Array.getElem?_eq_getElem hi']; simpa using he
        have hok := bagB_spec hB hoi
        rw [putAll_at _ k _ _ _ i o (by simpa using hoi) hd (fun i' o' h1 h2 => (hok.dst k hd).2.2 i' o' (by simpa using h1) h2) hk, Nat.zero_add]
        unfold leftBy
        rw [slotOf_eq hoi hd]
        simp only [Act.eval, Array.getD_eq_getD_getElem?]
        rw [Array.getElem?_eq_getElem (by rw [ht]; exact hk)]
        rfl
    · rw [Array.getElem?_eq_none (by rw [ht]; omega), Array.getElem?_eq_none (by rw [hs.1]; omega)]
  have h2 : a.defers = (putAll (leftBy ops a) ops.toList 0 a0).defers := hdf.trans hs.2.symm
  cases a
  generalize putAll (leftBy ops _) ops.toList 0 a0 = z at h1 h2
  cases z
  simp only at h1 h2
  rw [h1, h2]
/-- So, with what each operation has left as a function: for regions that more follows. -/
theorem wp_region_mkp {id : Nat} (hm : P.follows .mixedOrders = true) (need : Nat → List Nat) (F : Nat → Value → World → Prop) (W : World) (a0 : Act) (hB : bagB ops need a0.tmps.size = true) (hF : ∀ j v w w', F j v w → Below w.heap.size w w' → F j v w')
    (hstep : ∀ i o, ops[i]? = some o → Stp P ops Q need F W a0 i o)
    (hend : ∀ (f : Nat → Value) w, Below W.heap.size W w → (∀ j, j < ops.size → F j (f j) w) → Q .normal (putAll f ops.toList 0 a0) w) :
    (Code.region id ops true).wp P Q a0 W :=
  wp_region_mk hm need F W a0 hB hF hstep fun a w h1 h2 h3 h4 h5 => by
    rw [act_putAll hB (fun i o ho => (hstep i o ho).1) h1 h2 h3]
    exact hend _ w h4 h5
/-- So, with a last operation that waits for all the others, and more to follow. -/
theorem wp_region_mkl {id : Nat} (hm : P.follows .mixedOrders = true) (fin : Nat) (need : Nat → List Nat) (F : Nat → Value → World → Prop) (W : World) (a0 : Act) (hB : bagB ops need a0.tmps.size = true) (hflt : fin < ops.size) (hfin : ∀ k, k < ops.size → k ≠ fin → k ∈ need fin) (hF : ∀ j v w w', F j v w → Below w.heap.size w w' → F j v w')
    (hdst : ∀ (i : Nat) (o : Oper), ops[i]? = some o → o.dst ≠ none) (hgd : ∀ o, ops[fin]? = some o → o.guard = none)
    (hstep : ∀ i o, ops[i]? = some o → i ≠ fin → Stp P ops Q need F W a0 i o)
    (hend : ∀ o, ops[fin]? = some o → ∀ a w, (∀ k, apartB ops k = true → a.eval (.tmp k) = a0.eval (.tmp k)) → Below W.heap.size W w → (∀ j, j < ops.size → j ≠ fin → F j (leftBy ops a j) w) →
      ∃ v w', (execOp a.eval o).run P w = .ok (.value v) w' ∧ ∀ f : Nat → Value, (∀ j, j < ops.size → j ≠ fin → f j = leftBy ops a j) → f fin = v → Q .normal (putAll f ops.toList 0 a0) w') :
    (Code.region id ops true).wp P Q a0 W := by
  refine wp_region_mkf hm fin need F W a0 hB hflt hfin hF hstep fun o ho a w h1 h2 h3 h4 h5 => ?_
  obtain ⟨v, w', hr, hq⟩ := hend o ho a w h3 h4 h5
  refine wpOp_plain ho (hgd o ho) ?_
  unfold Oper.wp
  rw [hr]
  have hok := bagB_spec hB ho
  obtain ⟨d, hd⟩ : ∃ d, o.dst = some d := by
    cases e : o.dst with
    | none => exact absurd e (hdst fin o ho)
    | some d => exact ⟨d, rfl⟩
  obtain ⟨_, hdn, hdis⟩ := hok.dst d hd
  show Q .normal (a.put o.dst v) w'
  have hold : ∀ k, apartB ops k = true → (a.put o.dst v).eval (.tmp k) = a0.eval (.tmp k) := fun k hk => by
    rw [← h3 k hk]
    refine Act.eval_put fun x hx e => ?_
    cases e
    have := List.all_eq_true.1 hk o (by have := Array.mem_of_getElem? ho; simpa using this)
    simp [hx] at this
  rw [act_putAll (a := a.put o.dst v) hB hdst (by rw [put_size]; exact h1) (by rw [put_defers]; exact h2) hold]
  refine hq _ (fun j hj hne => ?_) ?_
  · unfold leftBy
    rw [hd]
    refine Act.eval_put fun x hx => ?_
    cases hx
    intro e
    have hoj : ops[j]? = some ops[j] := Array.getElem?_eq_getElem hj
    cases hd' : (ops[j]).dst with
    | none => exact absurd hd' (hdst j _ hoj)
    | some d' =>
      rw [slotOf_eq hoj hd'] at e
      cases e
      exact hdis j _ hoj hne hd'
  · unfold leftBy
    rw [slotOf_eq ho hd, hd]
    exact eval_put_same (by rw [h1]; exact hdn)
end
theorem ld_aggs {P : Program} (ty : TypeId) (g off : Nat) (cs : Array Value) (d : TypeDesc) (w9 : World) (h : ∀ j v, cs[j]? = some v → w9.cell? ⟨g, off + j, none⟩ = some v) (hu : P.underlying ty = some d) (hd : (match d with | .struct _ | .array _ _ => true | _ => false) = true) (hi : (P.info? ty).map (·.size) = some cs.size) :
    ((Instr.loadAt ty (.pointer (some ⟨g, off, none⟩))) >>= fun v => pure (Next.value v)).run P w9 = .ok (.value (.agg cs)) w9 := by
  have hl := run_load_agg (P := P) w9 ty g off cs d h hu hd hi
  simp only [Instr.loadAt, Instr.sureAddr, Sem.run_bind, Sem.run_pure, Result.andThen_ok, hl]
theorem ld_agg_w {P : Program} (ty : TypeId) (cs : Array Value) {g : Nat} {t : TypeId} {w9 : World} (h : Row w9 g cs t) {d : TypeDesc} (hu : P.underlying ty = some d) (hd : (match d with | .struct _ | .array _ _ => true | _ => false) = true) (hi : (P.info? ty).map (·.size) = some cs.size) :
    ((Instr.loadAt ty (.pointer (some ⟨g, 0, none⟩))) >>= fun v => pure (Next.value v)).run P w9 = .ok (.value (.agg cs)) w9 :=
  ld_aggs ty g 0 cs d w9 (fun j v hv => by rw [Nat.zero_add, h.cell]; exact hv) hu hd hi
end Go.Proofs.Ytgblpjkpeihpeaa
