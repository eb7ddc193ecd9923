/-
  A region that draws its order, under any relation of worlds; a constant's bytes (a row that is marked).
-/
import Derived.Test.YtnlkamfoopikhaaHi
namespace Go.Proofs.Ytnlkamfoopikhaa
set_option linter.unusedVariables false
set_option maxRecDepth 100000
open Go.ChangeShapes Go.WideShapes Go.ChangeAt Go.RowKit Go.Deep
section
variable {P : Program} {ops : Array Oper} {Q : Exit → Act → World → Prop}
/-- What is asked of an operation. -/
def StpR (P : Program) (ops : Array Oper) (Q : Exit → Act → World → Prop) (need : Nat → List Nat) (F : Nat → Value → World → Prop) (J : World → Prop) (R : World → World → Prop) (a0 : Act) (i : Nat) (o : Oper) : Prop :=
  o.dst ≠ none ∧ ∀ a w, (∀ k, apartB ops k = true → a.eval (.tmp k) = a0.eval (.tmp k)) → J w → (∀ k ∈ need i, F k (leftBy ops a k) w) →
    wpOp P ops Q i (fun a' w' => ∃ v, a' = a.put o.dst v ∧ R w w' ∧ F i v w') a w
theorem stpr_val {need : Nat → List Nat} {F : Nat → Value → World → Prop} {J : World → Prop} {R : World → World → Prop} {a0 : Act} {i : Nat} {o : Oper} (ho : ops[i]? = some o) (hg : o.guard = none) (hd : o.dst ≠ none)
    (h : ∀ a w, (∀ k, apartB ops k = true → a.eval (.tmp k) = a0.eval (.tmp k)) → J w → (∀ k ∈ need i, F k (leftBy ops a k) w) → ∃ v w', (execOp a.eval o).run P w = .ok (.value v) w' ∧ R w w' ∧ F i v w') : StpR P ops Q need F J R a0 i o :=
  ⟨hd, fun a w h1 h2 h3 => wpOp_plain ho hg (by
    obtain ⟨v, w', hr, hb, hf⟩ := h a w h1 h2 h3
    unfold Oper.wp; rw [hr]; exact ⟨v, rfl, hb, hf⟩)⟩
theorem stpr_con {need : Nat → List Nat} {F : Nat → Value → World → Prop} {J : World → Prop} {R : World → World → Prop} {a0 : Act} {i : Nat} {o : Oper} (hR : ∀ w, R w w) (v : Value) (hF : F i = fun u _ => u = v) (ho : ops[i]? = some o) (hg : o.guard = none) (hd : o.dst ≠ none)
    (h : ∀ a w, (∀ k, apartB ops k = true → a.eval (.tmp k) = a0.eval (.tmp k)) → J w → (∀ k ∈ need i, F k (leftBy ops a k) w) → (execOp a.eval o).run P w = .ok (.value v) w) : StpR P ops Q need F J R a0 i o :=
  stpr_val ho hg hd fun a w h1 h2 h3 => ⟨v, w, h a w h1 h2 h3, hR w, by rw [hF]⟩
theorem stpr_call {need : Nat → List Nat} {F : Nat → Value → World → Prop} {J : World → Prop} {R : World → World → Prop} {a0 : Act} {i : Nat} {o : Oper} (f : FuncId) (ho : ops[i]? = some o) (hg : o.guard = none) (hd : o.dst ≠ none)
    (h : ∀ a w, (∀ k, apartB ops k = true → a.eval (.tmp k) = a0.eval (.tmp k)) → J w → (∀ k ∈ need i, F k (leftBy ops a k) w) → ∃ args, (execOp a.eval o).run P w = .ok (.enter f args) w ∧ Calls P f args w fun e w' => ∃ u, e = .returned u ∧ R w w' ∧ F i u w') : StpR P ops Q need F J R a0 i o :=
  ⟨hd, fun a w h1 h2 h3 => wpOp_plain ho hg (by
    obtain ⟨args, hr, hc⟩ := h a w h1 h2 h3
    unfold Oper.wp; rw [hr]
    refine Calls.mono hc ?_
    rintro e w' ⟨u, rfl, hb, hf⟩
    exact ⟨u, rfl, hb, hf⟩)⟩
structure Rgn (ops : Array Oper) (need : Nat → List Nat) (F : Nat → Value → World → Prop) (J : World → Prop) (a0 : Act) (listed : Array Bool) (a : Act) (w : World) : Prop where
  size : listed.size = ops.size
  tsz : a.tmps.size = a0.tmps.size
  dfr : a.defers = a0.defers
  old : ∀ k, apartB ops k = true → a.eval (.tmp k) = a0.eval (.tmp k)
  j : J w
  cl : ∀ j, listed.getD j false = true → ∀ k ∈ need j, listed.getD k false = true
  fact : ∀ j, listed.getD j false = true → F j (leftBy ops a j) w
theorem wp_region_rel {id : Nat} (hm : P.follows .mixedOrders = true) (need : Nat → List Nat) (F : Nat → Value → World → Prop) (J : World → Prop) (R : World → World → Prop) (w0 : World) (a0 : Act) (hB : bagB ops need a0.tmps.size = true)
    (hJ0 : J w0.drew) (hJ : ∀ w w', J w → R w w' → J w') (hF : ∀ j v w w', F j v w → R w w' → F j v w') (hstep : ∀ i o, ops[i]? = some o → StpR P ops Q need F J R a0 i o)
    (hend : ∀ (f : Nat → Value) w, J w → (∀ j, j < ops.size → F j (f j) w) → Q .normal (putAll f ops.toList 0 a0) w) :
    (Code.region id ops true).wp P Q a0 w0 := by
  refine wp_region_any hm ?_
  have fin' : ∀ (listed : Array Bool) a w, Rgn ops need F J a0 listed a w → Region.ready .any ops listed = [] → Q .normal a w := fun listed a w h hr => by
    have hl := bag_all hB h.size hr
    rw [act_putAll hB (fun i o ho => (hstep i o ho).1) h.tsz h.dfr h.old]
    exact hend _ w h.j (fun j hj => h.fact j (hl j hj))
  have main : ∀ (fuel : Nat) (listed : Array Bool) a w, listed.toList.count false ≤ fuel → Rgn ops need F J a0 listed a w → wpAny P .any ops Q fuel listed a w := by
    intro fuel
    induction fuel with
    | zero =>
      intro listed a w hc h
      have hr : Region.ready .any ops listed = [] := by
        refine List.eq_nil_iff_forall_not_mem.2 fun j hj => ?_
        obtain ⟨h0, o, ho, _⟩ := mem_ready.1 hj
        have hjl : j < listed.size := by rw [h.size]; exact (Array.getElem?_eq_some_iff.1 ho).1
        have : false ∈ listed.toList := by
          simp [hjl] at h0
          rw [← h0]; simp
        have := List.count_pos_iff.2 this
        omega
      exact ⟨hr, fin' listed a w h hr⟩
    | succ fuel ih =>
      intro listed a w hc h
      refine ⟨fun hr => fin' listed a w h hr, fun i hi => ?_⟩
      obtain ⟨h0, o, ho, hall⟩ := mem_ready.1 hi
      have hok := bagB_spec hB ho
      have hil : i < listed.size := by rw [h.size]; exact (Array.getElem?_eq_some_iff.1 ho).1
      have hinot : listed.getD i false = false := by simp [hil] at h0 ⊢; exact h0
      have hneed : ∀ k ∈ need i, listed.getD k false = true := fun k hk => by
        obtain ⟨e, he, hbe, h1 | h1⟩ := hok.need k hk
        · rw [← h1]; exact hall e he hbe
        · exact h.cl e.on (hall e he hbe) k h1
      obtain ⟨hd0, hs⟩ := hstep i o ho
      obtain ⟨d, hd⟩ : ∃ d, o.dst = some d := by
        cases e : o.dst with
        | none => exact absurd e hd0
        | some d => exact ⟨d, rfl⟩
      obtain ⟨_, hdn, hdis⟩ := hok.dst d hd
      refine wpOp_mono ?_ (hs a w h.old h.j (fun k hk => h.fact k (hneed k hk)))
      rintro a' w' ⟨v, rfl, hR, hf⟩
      have hsame : leftBy ops (a.put o.dst v) i = v := by
        unfold leftBy; rw [slotOf_eq ho hd, hd]; exact eval_put_same (by rw [h.tsz]; exact hdn)
      have hkeep : ∀ k, listed.getD k false = true → leftBy ops (a.put o.dst v) k = leftBy ops a k := fun k hk => by
        have hkl : k < ops.size := by
          rcases Nat.lt_or_ge k listed.size with h' | h'
          · rw [← h.size]; exact h'
          · simp [Array.getElem?_eq_none h'] at hk
        have hki : k ≠ i := fun e => by rw [e, hinot] at hk; cases hk
        have hok2 : ops[k]? = some ops[k] := Array.getElem?_eq_getElem hkl
        have hne := hdis k _ hok2 hki
        unfold leftBy
        rw [hd]
        refine Act.eval_put fun x hx => ?_
        cases hx
        intro e
        cases hd' : (ops[k]).dst with
        | none => exact absurd hd' (hstep k _ hok2).1
        | some d' =>
          rw [slotOf_eq hok2 hd'] at e
          cases e
          exact hne hd'
      have hwas : ∀ j, (listed.setIfInBounds i true).getD j false = true → j = i ∨ listed.getD j false = true := fun j hj => by
        by_cases e : i = j
        · exact .inl e.symm
        · rw [getD_set_ne false e] at hj; exact .inr hj
      refine ih _ _ _ ?_ ⟨by rw [Array.size_setIfInBounds]; exact h.size, by rw [put_size]; exact h.tsz, by rw [put_defers]; exact h.dfr, fun k hk => ?_, hJ _ _ h.j hR, fun j hj k hk => ?_, fun j hj => ?_⟩
      · have h1 : listed.toList[i]'(by simpa using hil) = false := by simp [hil] at h0; simpa using h0
        rw [Array.toList_setIfInBounds, List.count_set (by simpa using hil), h1]
        have h2 : 0 < listed.toList.count false := List.count_pos_iff.2 (by rw [← h1]; simp)
        simp only [beq_self_eq_true, if_true, show (true == false) = false from rfl, Bool.false_eq_true, if_false]
        omega
      · rw [← h.old k hk]
        refine Act.eval_put fun x hx e => ?_
        cases e
        have := List.all_eq_true.1 hk o (by have := Array.mem_of_getElem? ho; simpa using this)
        simp [hx] at this
      · rcases hwas j hj with e | e
        · rw [e] at hk; exact getD_set_true (hneed k hk)
        · exact getD_set_true (h.cl j e k hk)
      · rcases hwas j hj with e | e
        · subst e; rw [hsame]; exact hf
        · rw [hkeep j e]; exact hF j _ w w' (h.fact j e) hR
  refine main _ _ _ _ (by simp) ⟨by simp, rfl, rfl, fun _ _ => rfl, hJ0, fun j hj => ?_, fun j hj => ?_⟩
  · exfalso; simp [Array.getElem?_replicate] at hj; split at hj <;> simp at hj
  · exfalso; simp [Array.getElem?_replicate] at hj; split at hj <;> simp at hj
end
/-- All that was there shows the same cells; below B nothing has turned at all. -/
structure Cls2 (B : Nat) (w w' : World) : Prop where
  b : Below B w w'
  c : ∀ p : Addr, p.block < w.heap.size → w'.cell? p = w.cell? p
  r : ∀ (g : Nat) (C : Array Value) (t : TypeId) (z : Nat × Nat), w.heap[g]? = some (.cells C t z) → ∃ z', w'.heap[g]? = some (.cells C t z')
theorem Cls2.refl (B : Nat) (w : World) : Cls2 B w w := ⟨Below.refl _ _, fun _ _ => rfl, fun _ _ _ z h => ⟨z, h⟩⟩
theorem Cls2.of {B : Nat} {w w' : World} (h : Below w.heap.size w w') (hB : B ≤ w.heap.size) : Cls2 B w w' := ⟨h.mono hB, fun p hp => h.cell hp, fun g C t z hg => ⟨z, (h.block g (Array.getElem?_eq_some_iff.1 hg).1).trans hg⟩⟩
theorem Byt.cls {B : Nat} {w w' : World} {v : Value} {l : List Int} (h : Byt w v l) (hc : Cls2 B w w') : Byt w' v l := by
  obtain ⟨a, cap, rfl, h1, h1', h2⟩ := h
  refine ⟨a, cap, rfl, h1, h1', fun hn => ?_⟩
  obtain ⟨g, off, rfl, h3, h4⟩ := h2 hn
  exact ⟨g, off, rfl, Nat.lt_of_lt_of_le h3 hc.b.size, fun j hj => (hc.c _ h3).trans (h4 j hj)⟩
theorem Rws.cls {B : Nat} {w w' : World} {v : Value} {ls : List (List Int)} (h : Rws w v ls) (hc : Cls2 B w w') : Rws w' v ls := by
  obtain ⟨g, cap, rfl, h1, h2⟩ := h
  refine ⟨g, cap, rfl, Nat.lt_of_lt_of_le h1 hc.b.size, fun j hj => ?_⟩
  obtain ⟨u, h3, h4⟩ := h2 j hj
  exact ⟨u, (hc.c _ h1).trans h3, h4.cls hc⟩
/-- The conversion of a row of bytes to its own type: a mark behind its last cell. -/
theorem conv_mark {B : Nat} {w : World} {g n c : Nat} {C : Array Value} {z : Nat × Nat} (h : w.heap[g]? = some (.cells C 5 z)) (hB : B ≤ g) :
    ∃ w', (convert 32 32 (.slice (some ⟨g, 0, none⟩) n c)).run Try.prog w = .ok (.slice (some ⟨g, 0, none⟩) n c) w' ∧ Cls2 B w w' := by
  have hsh : w.shape? g = some (5, C.size) := by unfold World.shape?; rw [h]
  refine ⟨w.freeze ⟨g, C.size, none⟩ 1, ?_, ⟨rfl, rfl, rfl, by simp [World.freeze], fun k hk => ?_⟩, fun p hp => ?_, fun g2 C2 t2 z2 h2 => ?_⟩
  · simp [convert, run_underlying Try.underlying32, run_underlying Try.underlying5, markStringish, hsh]
  · unfold World.freeze
    rw [if_neg (by decide)]
    show (w.heap.modify g _)[k]? = _
    rw [Array.getElem?_modify, if_neg (by omega)]
  · unfold World.cell? World.freeze
    rw [if_neg (by decide)]
    show (match (w.heap.modify g _)[p.block]? with | some (.cells c _ _) => if p.spot.isSome then none else c[p.off]? | _ => none) = _
    rw [Array.getElem?_modify]
    by_cases e : g = p.block
    · rw [if_pos e, ← e, h]; rfl
    · rw [if_neg e]; rfl
  · unfold World.freeze
    rw [if_neg (by decide)]
    show ∃ z', (w.heap.modify g _)[g2]? = some (.cells C2 t2 z')
    rw [Array.getElem?_modify]
    by_cases e : g = g2
    · rw [if_pos e, h2]; exact ⟨_, rfl⟩
    · rw [if_neg e]; exact ⟨z2, h2⟩
end Go.Proofs.Ytnlkamfoopikhaa
