/-
  Rgb.
-/
import Derived.Test.YthmjimmmkoeeoaaDoorRows
import Derived.WalkKit
import Derived.Below
import Derived.Orders
namespace Go.Proofs.YthmjimmmkoeeoaaDoor
open Go.RowKit
/-- But for the blocks of 'S' the world w' has all that w had, as it was. -/
structure Exc (S : Nat → Prop) (w w' : World) : Prop where
  os : w'.os = w.os
  tape : w'.tape = w.tape
  output : w'.output = w.output
  size : w.heap.size ≤ w'.heap.size
  block : ∀ k, k < w.heap.size → ¬ S k → w'.heap[k]? = w.heap[k]?
theorem Exc.refl (S : Nat → Prop) (w : World) : Exc S w w := ⟨rfl, rfl, rfl, Nat.le_refl _, fun _ _ _ => rfl⟩
theorem Exc.trans {S : Nat → Prop} {a b c : World} (h : Exc S a b) (k : Exc S b c) : Exc S a c :=
  ⟨k.os.trans h.os, k.tape.trans h.tape, k.output.trans h.output, Nat.le_trans h.size k.size, fun i hi hs => (k.block i (Nat.lt_of_lt_of_le hi h.size) hs).trans (h.block i hi hs)⟩
theorem Exc.mono {S T : Nat → Prop} {a b : World} (h : Exc S a b) (hst : ∀ k, S k → T k) : Exc T a b := ⟨h.os, h.tape, h.output, h.size, fun i hi hs => h.block i hi (fun e => hs (hst i e))⟩
theorem Exc.of_below {S : Nat → Prop} {a b : World} {B : Nat} (h : Below B a b) (hB : B = a.heap.size) : Exc S a b := ⟨h.os, h.tape, h.output, h.size, fun i hi _ => h.block i (by omega)⟩
theorem Exc.below {S : Nat → Prop} {a b : World} (h : Exc S a b) {B : Nat} (hB : B ≤ a.heap.size) (hS : ∀ k, S k → B ≤ k) : Below B a b :=
  ⟨h.os, h.tape, h.output, h.size, fun i hi => h.block i (by omega) (fun e => by have := hS i e; omega)⟩
theorem Exc.set {S : Nat → Prop} {a b : World} (h : Exc S a b) (g j : Nat) (u : Value) (hg : S g) : Exc S a (b.setCell ⟨g, j, none⟩ u) :=
  h.trans ⟨rfl, rfl, rfl, by simp [World.setCell], fun i hi hs => Below.heap_setCell b ⟨g, j, none⟩ u i (fun e => hs (by have e' : i = g := e; rw [e']; exact hg))⟩
theorem Exc.cell {S : Nat → Prop} {a b : World} (h : Exc S a b) {p : Addr} (hp : p.block < a.heap.size) (hs : ¬ S p.block) : b.cell? p = a.cell? p := World.cell?_of_block (w := a) (h.block p.block hp hs)
/-- So, and the rows of 'G' are rows of the same type and size. -/
structure Exk (G : Nat → Prop) (w w' : World) : Prop where
  e : Exc G w w'
  k : ∀ b, G b → ∀ cs T, w.heap[b]? = some (.cells cs T (0, 0)) → ∃ cs', w'.heap[b]? = some (.cells cs' T (0, 0)) ∧ cs'.size = cs.size
theorem Exk.refl (G : Nat → Prop) (w : World) : Exk G w w := ⟨Exc.refl _ _, fun _ _ cs _ h => ⟨cs, h, rfl⟩⟩
theorem Exk.trans {G : Nat → Prop} {a b c : World} (h : Exk G a b) (k : Exk G b c) : Exk G a c :=
  ⟨h.e.trans k.e, fun g hg cs T hc => by
    obtain ⟨c1, h1, e1⟩ := h.k g hg cs T hc
    obtain ⟨c2, h2, e2⟩ := k.k g hg c1 T h1
    exact ⟨c2, h2, e2.trans e1⟩⟩
theorem Exk.of_below {G : Nat → Prop} {a b : World} {B : Nat} (h : Below B a b) (hB : B = a.heap.size) : Exk G a b :=
  ⟨Exc.of_below h hB, fun g _ cs T hc => ⟨cs, by rw [h.block g (by rw [hB]; exact (Array.getElem?_eq_some_iff.1 hc).1)]; exact hc, rfl⟩⟩
section
variable {P : Program} {ops : Array Oper} {Q : Exit → Act → World → Prop}
/-- The slot of operation k. -/
def slotOf (ops : Array Oper) (k : Nat) : Tmp := ((ops[k]?).bind (·.dst)).getD 0
/-- What operation k has left. -/
def leftBy (ops : Array Oper) (a : Act) (k : Nat) : Value := a.eval (.tmp (slotOf ops k))
/-- Slot k is none of the region's. -/
def apartB (ops : Array Oper) (k : Nat) : Bool := ops.toList.all fun o => o.dst != some k
structure Bag (ops : Array Oper) (need : Nat → List Nat) (F : Nat → List Value → World → Prop) (cs : List Nat) (G : Nat → Prop) (W : World) (a0 : Act) (listed : Array Bool) (a : Act) (w : World) : Prop where
  size : listed.size = ops.size
  tsz : a.tmps.size = a0.tmps.size
  dfr : a.defers = a0.defers
  old : ∀ k, apartB ops k = true → a.eval (.tmp k) = a0.eval (.tmp k)
  bel : Exk G W w
  cl : ∀ j, listed.getD j false = true → ∀ k ∈ need j, listed.getD k false = true
  fact : ∀ j, listed.getD j false = true → F j ((j :: need j).map (leftBy ops a)) w
  dis : ∀ j ∈ cs, ∀ k ∈ cs, j ≠ k → listed.getD j false = true → listed.getD k false = true → ∀ g, (leftBy ops a j).ownBlock = some g → (leftBy ops a k).ownBlock ≠ some g
/-- The closed facts: each operation has a slot of its own; it waits for earlier ones alone, and for all that its fact hangs on. -/
def bagB (ops : Array Oper) (need : Nat → List Nat) (n : Nat) : Bool :=
  (List.range ops.size).all fun i => match ops[i]? with
    | none => false
    | some o => (match o.dst with
        | none => true
        | some d => decide (0 < d) && decide (d < n) && (List.range ops.size).all (fun j => j == i || (match ops[j]? with | none => false | some o' => o'.dst != some d))) &&
      o.after.all (fun e => !Region.binds .any e || decide (e.on < i)) && (need i).all (fun k => o.after.any fun e => Region.binds .any e && (e.on == k || (need e.on).contains k))
structure BagOk (ops : Array Oper) (need : Nat → List Nat) (n i : Nat) (o : Oper) : Prop where
  dst : ∀ d, o.dst = some d → 0 < d ∧ d < n ∧ ∀ j o', ops[j]? = some o' → j ≠ i → o'.dst ≠ some d
  after : ∀ e ∈ o.after, Region.binds .any e = true → e.on < i
  need : ∀ k ∈ need i, ∃ e ∈ o.after, Region.binds .any e = true ∧ (e.on = k ∨ k ∈ need e.on)
theorem bagB_spec {need : Nat → List Nat} {n : Nat} (h : bagB ops need n = true) {i : Nat} {o : Oper} (ho : ops[i]? = some o) : BagOk ops need n i o := by
  have hi : i < ops.size := (Array.getElem?_eq_some_iff.1 ho).1
  have h1 := List.all_eq_true.1 h i (List.mem_range.2 hi)
  simp only [ho, Bool.and_eq_true] at h1
  obtain ⟨⟨h2, h3⟩, h4⟩ := h1
  refine ⟨?_, fun e he hb => ?_, fun k hk => ?_⟩
  · intro d hd
    rw [hd] at h2
    simp only [Bool.and_eq_true, decide_eq_true_eq] at h2
    refine ⟨h2.1.1, h2.1.2, fun j o' hj hne he => ?_⟩
    have h5 := List.all_eq_true.1 h2.2 j (List.mem_range.2 (Array.getElem?_eq_some_iff.1 hj).1)
    simp [hj, hne, he] at h5
  · have := Array.all_eq_true_iff_forall_mem.1 h3 e he
    simpa [hb] using this
  · have := List.all_eq_true.1 h4 k hk
    rw [Array.any_eq_true] at this
    obtain ⟨q, hq, h5⟩ := this
    simp only [Bool.and_eq_true, Bool.or_eq_true, beq_iff_eq, List.contains_iff_mem] at h5
    exact ⟨_, Array.getElem_mem hq, h5⟩
theorem slotOf_eq {i : Nat} {o : Oper} (ho : ops[i]? = some o) {d : Tmp} (hd : o.dst = some d) : slotOf ops i = d := by simp [slotOf, ho, hd]
theorem eval_put_same {a : Act} {d : Tmp} {v : Value} (h : d < a.tmps.size) : (a.put (some d) v).eval (.tmp d) = v := by
  simp [Act.eval, Act.put, h]
theorem bag_all {need : Nat → List Nat} {n : Nat} (hB : bagB ops need n = true) {listed : Array Bool} (hs : listed.size = ops.size) (hr : Region.ready .any ops listed = []) : ∀ j, j < ops.size → listed.getD j false = true := by
  intro j
  induction j using Nat.strongRecOn with
  | ind j ih =>
    intro hj
    by_cases hl : listed.getD j true = false
    · exfalso
      have ho : ops[j]? = some ops[j] := Array.getElem?_eq_getElem hj
      have : j ∈ Region.ready .any ops listed := mem_ready.2 ⟨hl, _, ho, fun e he hb => by
        have h1 := (bagB_spec hB ho).after e he hb
        exact ih e.on h1 (by omega)⟩
      rw [hr] at this
      cases this
    · have hjl : j < listed.size := by omega
      simp [hjl] at hl ⊢
      exact hl
theorem Bag.step {need : Nat → List Nat} {F : Nat → List Value → World → Prop} {cs : List Nat} {G : Nat → Prop} {W : World} {a0 : Act} (fin : Nat) (hB : bagB ops need a0.tmps.size = true) (hfin : ∀ k, k < ops.size → k ≠ fin → fin < ops.size → k ∈ need fin)
    (hF : ∀ j vs w w', j ≠ fin → F j vs w → Exk G w w' → F j vs w') (hcs : ∀ j ∈ cs, ∀ v vs w, F j (v :: vs) w → ∀ g, v.ownBlock = some g → g < w.heap.size)
    {listed : Array Bool} {a : Act} {w : World} (h : Bag ops need F cs G W a0 listed a w) {i : Nat} {o : Oper} (ho : ops[i]? = some o) (hi : listed.getD i true = false)
    (hall : ∀ e ∈ o.after, Region.binds .any e = true → listed.getD e.on false = true) {v : Value} {w' : World} (hb : Exk G w w')
    (hf : ∀ v', o.dst = none ∨ v' = v → F i (v' :: (need i).map (leftBy ops a)) w') (hfr : i ∈ cs → o.dst ≠ none ∧ ∀ g, v.ownBlock = some g → w.heap.size ≤ g) : Bag ops need F cs G W a0 (listed.setIfInBounds i true) (a.put o.dst v) w' := by
  have hok := bagB_spec hB ho
  have hil : i < listed.size := by rw [h.size]; exact (Array.getElem?_eq_some_iff.1 ho).1
  have hinot : listed.getD i false = false := by simp [hil] at hi ⊢; exact hi
  have hsame : o.dst ≠ none → leftBy ops (a.put o.dst v) i = v := fun hne => by
    cases hd : o.dst with
    | none => exact absurd hd hne
    | some d =>
      obtain ⟨_, hdn, _⟩ := hok.dst d hd
      unfold leftBy; rw [slotOf_eq ho hd]; exact eval_put_same (by rw [h.tsz]; exact hdn)
  have hkeep : ∀ k, listed.getD k false = true → leftBy ops (a.put o.dst v) k = leftBy ops a k := fun k hk => by
    cases hd : o.dst with
    | none => rfl
    | some d =>
      obtain ⟨hd0, hdn, hdis⟩ := hok.dst d hd
      have hkl : k < ops.size := by
        rcases Nat.lt_or_ge k listed.size with h' | h'
        · rw [← h.size]; exact h'
        · simp [Array.getElem?_eq_none h'] at hk
      have hki : k ≠ i := fun e => by rw [e, hinot] at hk; cases hk
      have hne := hdis k _ (Array.getElem?_eq_getElem hkl) hki
      unfold leftBy
      refine Act.eval_put fun x hx => ?_
      cases hx
      intro e
      cases hd' : (ops[k]).dst with
      | none =>
        rw [show slotOf ops k = 0 by simp [slotOf, hkl, hd']] at e
        cases e
        exact absurd hd0 (Nat.lt_irrefl 0)
      | some d' =>
        rw [slotOf_eq (Array.getElem?_eq_getElem hkl) hd'] at e
        cases e
        exact hne hd'
  have hneed : ∀ k ∈ need i, listed.getD k false = true := fun k hk => by
    obtain ⟨e, he, hbe, h1 | h1⟩ := hok.need k hk
    · rw [← h1]; exact hall e he hbe
    · exact h.cl e.on (hall e he hbe) k h1
  have hwas : ∀ j, (listed.setIfInBounds i true).getD j false = true → j = i ∨ listed.getD j false = true := fun j hj => by
    by_cases e : i = j
    · exact .inl e.symm
    · rw [getD_set_ne false e] at hj; exact .inr hj
  have hnfin : ∀ j, listed.getD j false = true → j ≠ fin := fun j hj e => by
    subst e
    have hjl : j < ops.size := by
      rcases Nat.lt_or_ge j listed.size with h' | h'
      · rw [← h.size]; exact h'
      · simp [Array.getElem?_eq_none h'] at hj
    by_cases e : i = j
    · subst e; rw [hinot] at hj; cases hj
    · have := h.cl j hj i (hfin i (by rw [← h.size]; exact hil) e hjl)
      rw [hinot] at this; cases this
  refine ⟨by rw [Array.size_setIfInBounds]; exact h.size, ?_, ?_, fun k hk => ?_, h.bel.trans hb, fun j hj k hk => ?_, fun j hj => ?_, fun j hj k hk hne hjl hkl g hg => ?_⟩
  · rw [← h.tsz]; cases o.dst <;> simp [Act.put]
  · rw [← h.dfr]; cases o.dst <;> rfl
  · rw [← h.old k hk]
    refine Act.eval_put fun x hx e => ?_
    cases e
    have := List.all_eq_true.1 hk o (by have := Array.mem_of_getElem? ho; simpa using this)
    simp [hx] at this
  · rcases hwas j hj with e | e
    · rw [e] at hk; exact getD_set_true (hneed k hk)
    · exact getD_set_true (h.cl j e k hk)
  · rcases hwas j hj with e | e
    · subst e
      rw [List.map_cons, List.map_congr_left (fun k hk => hkeep k (hneed k hk))]
      refine hf _ ?_
      by_cases hd : o.dst = none
      · exact .inl hd
      · exact .inr (hsame hd)
    · have h1 := hF j _ w w' (hnfin j e) (h.fact j e) hb
      rw [List.map_congr_left (g := leftBy ops a) (fun k hk => hkeep k (by
        rcases List.mem_cons.1 hk with e' | e'
        · rw [e']; exact e
        · exact h.cl j e k e'))]
      exact h1
  · rcases hwas j hjl with e | e
    · subst e
      rcases hwas k hkl with e' | e'
      · exact absurd e'.symm hne
      · rw [hsame (hfr hj).1] at hg
        rw [hkeep k e']
        intro hg'
        have h1 := (hfr hj).2 g hg
        have h2 := h.fact k e'
        rw [List.map_cons] at h2
        have h3 := hcs k hk _ _ _ h2 g hg'
        omega
    · rw [hkeep j e] at hg
      rcases hwas k hkl with e' | e'
      · subst e'
        rw [hsame (hfr hk).1]
        intro hg'
        have h1 := (hfr hk).2 g hg'
        have h2 := h.fact j e
        rw [List.map_cons] at h2
        have h3 := hcs j hj _ _ _ h2 g hg
        omega
      · rw [hkeep k e']
        exact h.dis j hj k hk hne e e' g hg
theorem wp_region_bag {id : Nat} (hm : P.follows .mixedOrders = true) (need : Nat → List Nat) (F : Nat → List Value → World → Prop) (cs : List Nat) (G : Nat → Prop) (fin : Nat) (W w0 : World) (a0 : Act) (hB : bagB ops need a0.tmps.size = true) (hfin : ∀ k, k < ops.size → k ≠ fin → fin < ops.size → k ∈ need fin)
    (hF : ∀ j vs w w', j ≠ fin → F j vs w → Exk G w w' → F j vs w') (hcs : ∀ j ∈ cs, ∀ v vs w, F j (v :: vs) w → ∀ g, v.ownBlock = some g → g < w.heap.size) (hb0 : Exk G W w0)
    (hstep : ∀ i o, ops[i]? = some o → ∀ a w, (∀ k, apartB ops k = true → a.eval (.tmp k) = a0.eval (.tmp k)) → Exk G W w → (∀ k ∈ need i, F k ((k :: need k).map (leftBy ops a)) w) →
      wpOp P ops Q i (fun a' w' => ∃ v, a' = a.put o.dst v ∧ Exk G w w' ∧ (∀ v', o.dst = none ∨ v' = v → F i (v' :: (need i).map (leftBy ops a)) w') ∧ (i ∈ cs → o.dst ≠ none ∧ ∀ g, v.ownBlock = some g → w.heap.size ≤ g)) a w)
    (hend : ∀ a w, a.tmps.size = a0.tmps.size → a.defers = a0.defers → (∀ k, apartB ops k = true → a.eval (.tmp k) = a0.eval (.tmp k)) → Exk G W w → (∀ j, j < ops.size → F j ((j :: need j).map (leftBy ops a)) w) →
      (∀ j ∈ cs, ∀ k ∈ cs, j ≠ k → j < ops.size → k < ops.size → ∀ g, (leftBy ops a j).ownBlock = some g → (leftBy ops a k).ownBlock ≠ some g) → Q .normal a w) :
    (Code.region id ops true).wp P Q a0 w0 := by
  refine wp_region_any hm ?_
  have fin' : ∀ (listed : Array Bool) a w, Bag ops need F cs G W a0 listed a w → Region.ready .any ops listed = [] → Q .normal a w := fun listed a w h hr => by
    have hl := bag_all hB h.size hr
    exact hend a w h.tsz h.dfr h.old h.bel (fun j hj => h.fact j (hl j hj)) (fun j hj k hk hne h1 h2 => h.dis j hj k hk hne (hl j h1) (hl k h2))
  have main : ∀ (fuel : Nat) (listed : Array Bool) a w, listed.toList.count false ≤ fuel → Bag ops need F cs G W a0 listed a w → wpAny P .any ops Q fuel listed a w := by
    intro fuel
    induction fuel with
    | zero =>
      intro listed a w hc h
      have hr : Region.ready .any ops listed = [] := by
        refine List.eq_nil_iff_forall_not_mem.2 fun j hj => ?_
        obtain ⟨h0, o, ho, _⟩ := mem_ready.1 hj
        have hjl : j < listed.size := by rw [h.size]; exact (Array.getElem?_eq_some_iff.1 ho).1
        have : false ∈ listed.toList := by
          simp [hjl] at h0
          rw [← h0]; simp
        have := List.count_pos_iff.2 this
        omega
      exact ⟨hr, fin' listed a w h hr⟩
    | succ fuel ih =>
      intro listed a w hc h
      refine ⟨fun hr => fin' listed a w h hr, fun i hi => ?_⟩
      obtain ⟨h0, o, ho, hall⟩ := mem_ready.1 hi
      have hok := bagB_spec hB ho
      have hneed : ∀ k ∈ need i, listed.getD k false = true := fun k hk => by
        obtain ⟨e, he, hbe, h1 | h1⟩ := hok.need k hk
        · rw [← h1]; exact hall e he hbe
        · exact h.cl e.on (hall e he hbe) k h1
      refine wpOp_mono ?_ (hstep i o ho a w h.old h.bel (fun k hk => h.fact k (hneed k hk)))
      rintro a' w' ⟨v, rfl, hb, hf, hfr⟩
      refine ih _ _ _ ?_ (h.step fin hB hfin hF hcs ho h0 hall hb hf hfr)
      have hjl : i < listed.size := by rw [h.size]; exact (Array.getElem?_eq_some_iff.1 ho).1
      have h1 : listed.toList[i]'(by simpa using hjl) = false := by simp [hjl] at h0; simpa using h0
      rw [Array.toList_setIfInBounds, List.count_set (by simpa using hjl), h1]
      have h2 : 0 < listed.toList.count false := List.count_pos_iff.2 (by rw [← h1]; simp)
      simp only [beq_self_eq_true, if_true, show (true == false) = false from rfl, Bool.false_eq_true, if_false]
      omega
  refine main _ _ _ _ (by simp) ⟨by simp, rfl, rfl, fun _ _ => rfl, ?_, fun j hj => ?_, fun j hj => ?_, fun j hj k hk hne h1 => ?_⟩
  · exact ⟨⟨hb0.e.os, hb0.e.tape, hb0.e.output, hb0.e.size, hb0.e.block⟩, hb0.k⟩
  · exfalso; simp [Array.getElem?_replicate] at hj; split at hj <;> simp at hj
  · exfalso; simp [Array.getElem?_replicate] at hj; split at hj <;> simp at hj
  · exfalso; simp [Array.getElem?_replicate] at h1; split at h1 <;> simp at h1
end
end Go.Proofs.YthmjimmmkoeeoaaDoor
