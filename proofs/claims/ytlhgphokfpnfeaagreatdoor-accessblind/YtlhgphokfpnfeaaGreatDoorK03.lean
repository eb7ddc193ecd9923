import Derived.Test.YtlhgphokfpnfeaaGreatDoorRows
import Derived.WalkKit
import Derived.Below
import Derived.Orders
import Derived.Test.YtlhgphokfpnfeaaGreatDoorK01
import Derived.Laws.AppendOwnNone
import Derived.Laws.BytesArg
import Derived.ArgAppend
import Derived.Lib.OwnKind
import Derived.Lib.SmallJoins
import Derived.Lib.SliceRun
import Derived.Test.YtlhgphokfpnfeaaGreatDoorProg
import Derived.Conc.RwLib
import Derived.Conc.MuData
import Derived.KernelRfl
namespace Go.Proofs.YtlhgphokfpnfeaaGreatDoor
open Go.RowKit
/-- But for the blocks of 'S' the world w' has all that w had, as it was. -/
structure Exc (S : Nat → Prop) (w w' : World) : Prop where
  os : w'.os = w.os
  tape : w'.tape = w.tape
  output : w'.output = w.output
  size : w.heap.size ≤ w'.heap.size
  block : ∀ k, k < w.heap.size → ¬ S k → w'.heap[k]? = w.heap[k]?
theorem Exc.refl (S : Nat → Prop) (w : World) : Exc S w w := ⟨rfl, rfl, rfl, Nat.le_refl _, fun _ _ _ => rfl⟩
theorem Exc.trans {S : Nat → Prop} {a b c : World} (h : Exc S a b) (k : Exc S b c) : Exc S a c :=
  ⟨k.os.trans h.os, k.tape.trans h.tape, k.output.trans h.output, Nat.le_trans h.size k.size, fun i hi hs => (k.block i (Nat.lt_of_lt_of_le hi h.size) hs).trans (h.block i hi hs)⟩
theorem Exc.mono {S T : Nat → Prop} {a b : World} (h : Exc S a b) (hst : ∀ k, S k → T k) : Exc T a b := ⟨h.os, h.tape, h.output, h.size, fun i hi hs => h.block i hi (fun e => hs (hst i e))⟩
theorem Exc.of_below {S : Nat → Prop} {a b : World} {B : Nat} (h : Below B a b) (hB : B = a.heap.size) : Exc S a b := ⟨h.os, h.tape, h.output, h.size, fun i hi _ => h.block i (by omega)⟩
theorem Exc.below {S : Nat → Prop} {a b : World} (h : Exc S a b) {B : Nat} (hB : B ≤ a.heap.size) (hS : ∀ k, S k → B ≤ k) : Below B a b :=
  ⟨h.os, h.tape, h.output, h.size, fun i hi => h.block i (by omega) (fun e => by have := hS i e; omega)⟩
theorem Exc.set {S : Nat → Prop} {a b : World} (h : Exc S a b) (g j : Nat) (u : Value) (hg : S g) : Exc S a (b.setCell ⟨g, j, none⟩ u) :=
  h.trans ⟨rfl, rfl, rfl, by simp [World.setCell], fun i hi hs => Below.heap_setCell b ⟨g, j, none⟩ u i (fun e => hs (by have e' : i = g := e; rw [e']; exact hg))⟩
theorem Exc.cell {S : Nat → Prop} {a b : World} (h : Exc S a b) {p : Addr} (hp : p.block < a.heap.size) (hs : ¬ S p.block) : b.cell? p = a.cell? p := World.cell?_of_block (w := a) (h.block p.block hp hs)
/-- So, and the rows of 'G' are rows of the same type and size. -/
structure Exk (G : Nat → Prop) (w w' : World) : Prop where
  e : Exc G w w'
  k : ∀ b, G b → ∀ cs T, w.heap[b]? = some (.cells cs T (0, 0)) → ∃ cs', w'.heap[b]? = some (.cells cs' T (0, 0)) ∧ cs'.size = cs.size
theorem Exk.refl (G : Nat → Prop) (w : World) : Exk G w w := ⟨Exc.refl _ _, fun _ _ cs _ h => ⟨cs, h, rfl⟩⟩
theorem Exk.trans {G : Nat → Prop} {a b c : World} (h : Exk G a b) (k : Exk G b c) : Exk G a c :=
  ⟨h.e.trans k.e, fun g hg cs T hc => by
    obtain ⟨c1, h1, e1⟩ := h.k g hg cs T hc
    obtain ⟨c2, h2, e2⟩ := k.k g hg c1 T h1
    exact ⟨c2, h2, e2.trans e1⟩⟩
theorem Exk.of_below {G : Nat → Prop} {a b : World} {B : Nat} (h : Below B a b) (hB : B = a.heap.size) : Exk G a b :=
  ⟨Exc.of_below h hB, fun g _ cs T hc => ⟨cs, by rw [h.block g (by rw [hB]; exact (Array.getElem?_eq_some_iff.1 hc).1)]; exact hc, rfl⟩⟩
section
variable {P : Program} {ops : Array Oper} {Q : Exit → Act → World → Prop}
/-- The slot of operation k. -/
def slotOf (ops : Array Oper) (k : Nat) : Tmp := ((ops[k]?).bind (·.dst)).getD 0
/-- What operation k has left. -/
def leftBy (ops : Array Oper) (a : Act) (k : Nat) : Value := a.eval (.tmp (slotOf ops k))
/-- Slot k is none of the region's. -/
def apartB (ops : Array Oper) (k : Nat) : Bool := ops.toList.all fun o => o.dst != some k
structure Bag (ops : Array Oper) (need : Nat → List Nat) (F : Nat → List Value → World → Prop) (cs : List Nat) (G : Nat → Prop) (W : World) (a0 : Act) (listed : Array Bool) (a : Act) (w : World) : Prop where
  size : listed.size = ops.size
  tsz : a.tmps.size = a0.tmps.size
  dfr : a.defers = a0.defers
  old : ∀ k, apartB ops k = true → a.eval (.tmp k) = a0.eval (.tmp k)
  bel : Exk G W w
  cl : ∀ j, listed.getD j false = true → ∀ k ∈ need j, listed.getD k false = true
  fact : ∀ j, listed.getD j false = true → F j ((j :: need j).map (leftBy ops a)) w
  dis : ∀ j ∈ cs, ∀ k ∈ cs, j ≠ k → listed.getD j false = true → listed.getD k false = true → ∀ g, (leftBy ops a j).ownBlock = some g → (leftBy ops a k).ownBlock ≠ some g
/-- The closed facts: each operation has a slot of its own; it waits for earlier ones alone, and for all that its fact hangs on. -/
def bagB (ops : Array Oper) (need : Nat → List Nat) (n : Nat) : Bool :=
  (List.range ops.size).all fun i => match ops[i]? with
    | none => false
    | some o => (match o.dst with
        | none => true
        | some d => decide (0 < d) && decide (d < n) && (List.range ops.size).all (fun j => j == i || (match ops[j]? with | none => false | some o' => o'.dst != some d))) &&
      o.after.all (fun e => !Region.binds .any e || decide (e.on < i)) && (need i).all (fun k => o.after.any fun e => Region.binds .any e && (e.on == k || (need e.on).contains k))
structure BagOk (ops : Array Oper) (need : Nat → List Nat) (n i : Nat) (o : Oper) : Prop where
  dst : ∀ d, o.dst = some d → 0 < d ∧ d < n ∧ ∀ j o', ops[j]? = some o' → j ≠ i → o'.dst ≠ some d
  after : ∀ e ∈ o.after, Region.binds .any e = true → e.on < i
  need : ∀ k ∈ need i, ∃ e ∈ o.after, Region.binds .any e = true ∧ (e.on = k ∨ k ∈ need e.on)
theorem bagB_spec {need : Nat → List Nat} {n : Nat} (h : bagB ops need n = true) {i : Nat} {o : Oper} (ho : ops[i]? = some o) : BagOk ops need n i o := by
  have hi : i < ops.size := (Array.getElem?_eq_some_iff.1 ho).1
  have h1 := List.all_eq_true.1 h i (List.mem_range.2 hi)
  simp only [ho, Bool.and_eq_true] at h1
  obtain ⟨⟨h2, h3⟩, h4⟩ := h1
  refine ⟨?_, fun e he hb => ?_, fun k hk => ?_⟩
  · intro d hd
    rw [hd] at h2
    simp only [Bool.and_eq_true, decide_eq_true_eq] at h2
    refine ⟨h2.1.1, h2.1.2, fun j o' hj hne he => ?_⟩
    have h5 := List.all_eq_true.1 h2.2 j (List.mem_range.2 (Array.getElem?_eq_some_iff.1 hj).1)
    simp [hj, hne, he] at h5
  · have := Array.all_eq_true_iff_forall_mem.1 h3 e he
    simpa [hb] using this
  · have := List.all_eq_true.1 h4 k hk
    rw [Array.any_eq_true] at this
    obtain ⟨q, hq, h5⟩ := this
    simp only [Bool.and_eq_true, Bool.or_eq_true, beq_iff_eq, List.contains_iff_mem] at h5
    exact ⟨_, Array.getElem_mem hq, h5⟩
theorem slotOf_eq {i : Nat} {o : Oper} (ho : ops[i]? = some o) {d : Tmp} (hd : o.dst = some d) : slotOf ops i = d := by simp [slotOf, ho, hd]
theorem eval_put_same {a : Act} {d : Tmp} {v : Value} (h : d < a.tmps.size) : (a.put (some d) v).eval (.tmp d) = v := by
  simp [Act.eval, Act.put, h]
theorem bag_all {need : Nat → List Nat} {n : Nat} (hB : bagB ops need n = true) {listed : Array Bool} (hs : listed.size = ops.size) (hr : Region.ready .any ops listed = []) : ∀ j, j < ops.size → listed.getD j false = true := by
  intro j
  induction j using Nat.strongRecOn with
  | ind j ih =>
    intro hj
    by_cases hl : listed.getD j true = false
    · exfalso
      have ho : ops[j]? = some ops[j] := Array.getElem?_eq_getElem hj
      have : j ∈ Region.ready .any ops listed := mem_ready.2 ⟨hl, _, ho, fun e he hb => by
        have h1 := (bagB_spec hB ho).after e he hb
        exact ih e.on h1 (by omega)⟩
      rw [hr] at this
      cases this
    · have hjl : j < listed.size := by omega
      simp [hjl] at hl ⊢
      exact hl
theorem Bag.step {need : Nat → List Nat} {F : Nat → List Value → World → Prop} {cs : List Nat} {G : Nat → Prop} {W : World} {a0 : Act} (fin : Nat) (hB : bagB ops need a0.tmps.size = true) (hfin : ∀ k, k < ops.size → k ≠ fin → fin < ops.size → k ∈ need fin)
    (hF : ∀ j vs w w', j ≠ fin → F j vs w → Exk G w w' → F j vs w') (hcs : ∀ j ∈ cs, ∀ v vs w, F j (v :: vs) w → ∀ g, v.ownBlock = some g → g < w.heap.size)
    {listed : Array Bool} {a : Act} {w : World} (h : Bag ops need F cs G W a0 listed a w) {i : Nat} {o : Oper} (ho : ops[i]? = some o) (hi : listed.getD i true = false)
    (hall : ∀ e ∈ o.after, Region.binds .any e = true → listed.getD e.on false = true) {v : Value} {w' : World} (hb : Exk G w w')
    (hf : ∀ v', o.dst = none ∨ v' = v → F i (v' :: (need i).map (leftBy ops a)) w') (hfr : i ∈ cs → o.dst ≠ none ∧ ∀ g, v.ownBlock = some g → w.heap.size ≤ g) : Bag ops need F cs G W a0 (listed.setIfInBounds i true) (a.put o.dst v) w' := by
  have hok := bagB_spec hB ho
  have hil : i < listed.size := by rw [h.size]; exact (Array.getElem?_eq_some_iff.1 ho).1
  have hinot : listed.getD i false = false := by simp [hil] at hi ⊢; exact hi
  have hsame : o.dst ≠ none → leftBy ops (a.put o.dst v) i = v := fun hne => by
    cases hd : o.dst with
    | none => exact absurd hd hne
    | some d =>
      obtain ⟨_, hdn, _⟩ := hok.dst d hd
      unfold leftBy; rw [slotOf_eq ho hd]; exact eval_put_same (by rw [h.tsz]; exact hdn)
  have hkeep : ∀ k, listed.getD k false = true → leftBy ops (a.put o.dst v) k = leftBy ops a k := fun k hk => by
    cases hd : o.dst with
    | none => rfl
    | some d =>
      obtain ⟨hd0, hdn, hdis⟩ := hok.dst d hd
      have hkl : k < ops.size := by
        rcases Nat.lt_or_ge k listed.size with h' | h'
        · rw [← h.size]; exact h'
        · simp [Array.getElem?_eq_none h'] at hk
      have hki : k ≠ i := fun e => by rw [e, hinot] at hk; cases hk
      have hne := hdis k _ (Array.getElem?_eq_getElem hkl) hki
      unfold leftBy
      refine Act.eval_put fun x hx => ?_
      cases hx
      intro e
      cases hd' : (ops[k]).dst with
      | none =>
        rw [show slotOf ops k = 0 by simp [slotOf, hkl, hd']] at e
        cases e
        exact absurd hd0 (Nat.lt_irrefl 0)
      | some d' =>
        rw [slotOf_eq (Array.getElem?_eq_getElem hkl) hd'] at e
        cases e
        exact hne hd'
  have hneed : ∀ k ∈ need i, listed.getD k false = true := fun k hk => by
    obtain ⟨e, he, hbe, h1 | h1⟩ := hok.need k hk
    · rw [← h1]; exact hall e he hbe
    · exact h.cl e.on (hall e he hbe) k h1
  have hwas : ∀ j, (listed.setIfInBounds i true).getD j false = true → j = i ∨ listed.getD j false = true := fun j hj => by
    by_cases e : i = j
    · exact .inl e.symm
    · rw [getD_set_ne false e] at hj; exact .inr hj
  have hnfin : ∀ j, listed.getD j false = true → j ≠ fin := fun j hj e => by
    subst e
    have hjl : j < ops.size := by
      rcases Nat.lt_or_ge j listed.size with h' | h'
      · rw [← h.size]; exact h'
      · simp [Array.getElem?_eq_none h'] at hj
    by_cases e : i = j
    · subst e; rw [hinot] at hj; cases hj
    · have := h.cl j hj i (hfin i (by rw [← h.size]; exact hil) e hjl)
      rw [hinot] at this; cases this
  refine ⟨by rw [Array.size_setIfInBounds]; exact h.size, ?_, ?_, fun k hk => ?_, h.bel.trans hb, fun j hj k hk => ?_, fun j hj => ?_, fun j hj k hk hne hjl hkl g hg => ?_⟩
  · rw [← h.tsz]; cases o.dst <;> simp [Act.put]
  · rw [← h.dfr]; cases o.dst <;> rfl
  · rw [← h.old k hk]
    refine Act.eval_put fun x hx e => ?_
    cases e
    have := List.all_eq_true.1 hk o (by have := Array.mem_of_getElem? ho; simpa using this)
    simp [hx] at this
  · rcases hwas j hj with e | e
    · rw [e] at hk; exact getD_set_true (hneed k hk)
    · exact getD_set_true (h.cl j e k hk)
  · rcases hwas j hj with e | e
    · subst e
      rw [List.map_cons, List.map_congr_left (fun k hk => hkeep k (hneed k hk))]
      refine hf _ ?_
      by_cases hd : o.dst = none
      · exact .inl hd
      · exact .inr (hsame hd)
    · have h1 := hF j _ w w' (hnfin j e) (h.fact j e) hb
      rw [List.map_congr_left (g := leftBy ops a) (fun k hk => hkeep k (by
        rcases List.mem_cons.1 hk with e' | e'
        · rw [e']; exact e
        · exact h.cl j e k e'))]
      exact h1
  · rcases hwas j hjl with e | e
    · subst e
      rcases hwas k hkl with e' | e'
      · exact absurd e'.symm hne
      · rw [hsame (hfr hj).1] at hg
        rw [hkeep k e']
        intro hg'
        have h1 := (hfr hj).2 g hg
        have h2 := h.fact k e'
        rw [List.map_cons] at h2
        have h3 := hcs k hk _ _ _ h2 g hg'
        omega
    · rw [hkeep j e] at hg
      rcases hwas k hkl with e' | e'
      · subst e'
        rw [hsame (hfr hk).1]
        intro hg'
        have h1 := (hfr hk).2 g hg'
        have h2 := h.fact j e
        rw [List.map_cons] at h2
        have h3 := hcs j hj _ _ _ h2 g hg
        omega
      · rw [hkeep k e']
        exact h.dis j hj k hk hne e e' g hg
theorem wp_region_bag {id : Nat} (hm : P.follows .mixedOrders = true) (need : Nat → List Nat) (F : Nat → List Value → World → Prop) (cs : List Nat) (G : Nat → Prop) (fin : Nat) (W w0 : World) (a0 : Act) (hB : bagB ops need a0.tmps.size = true) (hfin : ∀ k, k < ops.size → k ≠ fin → fin < ops.size → k ∈ need fin)
    (hF : ∀ j vs w w', j ≠ fin → F j vs w → Exk G w w' → F j vs w') (hcs : ∀ j ∈ cs, ∀ v vs w, F j (v :: vs) w → ∀ g, v.ownBlock = some g → g < w.heap.size) (hb0 : Exk G W w0)
    (hstep : ∀ i o, ops[i]? = some o → ∀ a w, (∀ k, apartB ops k = true → a.eval (.tmp k) = a0.eval (.tmp k)) → Exk G W w → (∀ k ∈ need i, F k ((k :: need k).map (leftBy ops a)) w) →
      wpOp P ops Q i (fun a' w' => ∃ v, a' = a.put o.dst v ∧ Exk G w w' ∧ (∀ v', o.dst = none ∨ v' = v → F i (v' :: (need i).map (leftBy ops a)) w') ∧ (i ∈ cs → o.dst ≠ none ∧ ∀ g, v.ownBlock = some g → w.heap.size ≤ g)) a w)
    (hend : ∀ a w, a.tmps.size = a0.tmps.size → a.defers = a0.defers → (∀ k, apartB ops k = true → a.eval (.tmp k) = a0.eval (.tmp k)) → Exk G W w → (∀ j, j < ops.size → F j ((j :: need j).map (leftBy ops a)) w) →
      (∀ j ∈ cs, ∀ k ∈ cs, j ≠ k → j < ops.size → k < ops.size → ∀ g, (leftBy ops a j).ownBlock = some g → (leftBy ops a k).ownBlock ≠ some g) → Q .normal a w) :
    (Code.region id ops true).wp P Q a0 w0 := by
  refine wp_region_any hm ?_
  have fin' : ∀ (listed : Array Bool) a w, Bag ops need F cs G W a0 listed a w → Region.ready .any ops listed = [] → Q .normal a w := fun listed a w h hr => by
    have hl := bag_all hB h.size hr
    exact hend a w h.tsz h.dfr h.old h.bel (fun j hj => h.fact j (hl j hj)) (fun j hj k hk hne h1 h2 => h.dis j hj k hk hne (hl j h1) (hl k h2))
  have main : ∀ (fuel : Nat) (listed : Array Bool) a w, listed.toList.count false ≤ fuel → Bag ops need F cs G W a0 listed a w → wpAny P .any ops Q fuel listed a w := by
    intro fuel
    induction fuel with
    | zero =>
      intro listed a w hc h
      have hr : Region.ready .any ops listed = [] := by
        refine List.eq_nil_iff_forall_not_mem.2 fun j hj => ?_
        obtain ⟨h0, o, ho, _⟩ := mem_ready.1 hj
        have hjl : j < listed.size := by rw [h.size]; exact (Array.getElem?_eq_some_iff.1 ho).1
        have : false ∈ listed.toList := by
          simp [hjl] at h0
          rw [← h0]; simp
        have := List.count_pos_iff.2 this
        omega
      exact ⟨hr, fin' listed a w h hr⟩
    | succ fuel ih =>
      intro listed a w hc h
      refine ⟨fun hr => fin' listed a w h hr, fun i hi => ?_⟩
      obtain ⟨h0, o, ho, hall⟩ := mem_ready.1 hi
      have hok := bagB_spec hB ho
      have hneed : ∀ k ∈ need i, listed.getD k false = true := fun k hk => by
        obtain ⟨e, he, hbe, h1 | h1⟩ := hok.need k hk
        · rw [← h1]; exact hall e he hbe
        · exact h.cl e.on (hall e he hbe) k h1
      refine wpOp_mono ?_ (hstep i o ho a w h.old h.bel (fun k hk => h.fact k (hneed k hk)))
      rintro a' w' ⟨v, rfl, hb, hf, hfr⟩
      refine ih _ _ _ ?_ (h.step fin hB hfin hF hcs ho h0 hall hb hf hfr)
      have hjl : i < listed.size := by rw [h.size]; exact (Array.getElem?_eq_some_iff.1 ho).1
      have h1 : listed.toList[i]'(by simpa using hjl) = false := by simp [hjl] at h0; simpa using h0
      rw [Array.toList_setIfInBounds, List.count_set (by simpa using hjl), h1]
      have h2 : 0 < listed.toList.count false := List.count_pos_iff.2 (by rw [← h1]; simp)
      simp only [beq_self_eq_true, if_true, show (true == false) = false from rfl, Bool.false_eq_true, if_false]
      omega
  refine main _ _ _ _ (by simp) ⟨by simp, rfl, rfl, fun _ _ => rfl, ?_, fun j hj => ?_, fun j hj => ?_, fun j hj k hk hne h1 => ?_⟩
  · exact ⟨⟨hb0.e.os, hb0.e.tape, hb0.e.output, hb0.e.size, hb0.e.block⟩, hb0.k⟩
  · exfalso; simp [Array.getElem?_replicate] at hj; split at hj <;> simp at hj
  · exfalso; simp [Array.getElem?_replicate] at hj; split at hj <;> simp at hj
  · exfalso; simp [Array.getElem?_replicate] at h1; split at h1 <;> simp at h1
end
end Go.Proofs.YtlhgphokfpnfeaaGreatDoor
namespace Go.Proofs.YtlhgphokfpnfeaaGreatDoor
set_option linter.unusedVariables false
open Go.ChangeShapes Go.WideShapes Go.ChangeAt Go.RowKit Go.Deep
theorem info5 : (Tryz.prog.info? 5).map (fun i => (i.zero, i.size, i.bytes)) = some (some (.int .u8 0), 1, 1) := by kernel_rfl
/-- The bytes as the machine's values. -/
def bv (l : List Int) : List Value := l.map (Value.int .u8)
theorem bv_length (l : List Int) : (bv l).length = l.length := by simp [bv]
theorem bv_set (l : List Int) (k : Nat) (z : Int) : (bv l).set k (.int .u8 z) = bv (l.set k z) := by simp [bv, List.map_set]
theorem bv_get (l : List Int) (k : Nat) (h : k < l.length) : (bv l)[k]? = some (.int .u8 (l.getD k 0)) := by simp [bv, h]
theorem made_bv (n : Nat) : (madeCells #[Value.int .u8 0] (n * 1)).toList = bv (List.replicate n 0) := by
  rw [Nat.mul_one, toList_madeCells_one]; simp [bv]
theorem addAt (g off j : Nat) : (⟨g, off, none⟩ : Addr).add j = ⟨g, off + j, none⟩ := by unfold Addr.add; split <;> simp_all
def AllB (l : List Int) : Prop := ∀ x ∈ l, 0 ≤ x ∧ x ≤ 255
/-- A list of bytes in memory, wherever it lies. -/
def Byt (w : World) (v : Value) (l : List Int) : Prop :=
  ∃ a cap, v = .slice a l.length cap ∧ l.length ≤ cap ∧ (a = none → cap = 0) ∧ (l ≠ [] → ∃ g off, a = some ⟨g, off, none⟩ ∧ g < w.heap.size ∧ ∀ j, j < l.length → w.cell? ⟨g, off + j, none⟩ = some (.int .u8 (l.getD j 0)))
theorem Byt.later {w w' : World} {v : Value} {l : List Int} (h : Byt w v l) {B : Nat} (hb : Below B w w') (hB : B = w.heap.size) : Byt w' v l := by
  obtain ⟨a, cap, rfl, h1, h1', h2⟩ := h
  refine ⟨a, cap, rfl, h1, h1', fun hn => ?_⟩
  obtain ⟨g, off, rfl, h3, h4⟩ := h2 hn
  exact ⟨g, off, rfl, Nat.lt_of_lt_of_le h3 hb.size, fun j hj => by rw [hb.cell (by rw [hB]; exact h3)]; exact h4 j hj⟩
theorem Byt.conv {w : World} {v : Value} {l : List Int} (h : Byt w v l) : (convert 32 9 v).run Tryz.prog w = .ok (.string (strOfNums l)) w := by
  obtain ⟨a, cap, rfl, h1, h1', h2⟩ := h
  by_cases hl : l = []
  · subst hl
    cases a with
    | none => exact run_convert_bytes_nil (P := Tryz.prog) w 32 5 Tryz.underlying32 Tryz.underlying5 _ _ _ Tryz.underlying9
    | some ad =>
      rw [run_convert_bytes_string w 32 9 5 _ _ _ Tryz.underlying32 Tryz.underlying5 Tryz.underlying9]
      exact run_bytesToString w ad 0 cap [] (by have := run_loadCells_list (P := Tryz.prog) w ad [] (fun j v hj => by simp at hj); simpa using this)
  · obtain ⟨g, off, rfl, h3, h4⟩ := h2 hl
    exact run_convert_bytes_arg w 32 5 Tryz.underlying32 Tryz.underlying5 g off l.length cap l rfl h4 _ Tryz.underlying9
theorem Byt.nil (w : World) : Byt w (.slice none 0 0) [] := ⟨none, 0, rfl, Nat.le_refl _, fun _ => rfl, fun hn => absurd rfl hn⟩
theorem Byt.of_own {w : World} {B n : Nat} {v : Value} {l : List Int} (h : w.ownsRow B 5 1 v n (bv l)) : Byt w v l := by
  have hlen := h.1
  rw [bv_length, Nat.mul_one] at hlen
  rcases Go.Joins.ownsRow_forms h with ⟨rfl, h0⟩ | ⟨g, cap, rfl⟩
  · have hl0 : l = [] := List.eq_nil_of_length_eq_zero (by omega)
    subst hl0
    exact Byt.nil w
  · have hcap : n ≤ cap := by
      rcases h.2 with ⟨h', _⟩ | ⟨g', cap', cur, h', _, _, hn, _⟩
      · simp at h'
      · simp only [Value.slice.injEq] at h'; obtain ⟨_, _, rfl⟩ := h'; exact hn
    subst hlen
    exact ⟨some ⟨g, 0, none⟩, cap, rfl, by omega, (fun e => by cases e), fun hne => ⟨g, 0, rfl, (h.lt g rfl).2, fun j hj => by rw [Nat.zero_add, h.cellAt j (by omega), bv_get _ _ hj]⟩⟩
/-- Bytes that lie beside what has turned. -/
theorem Byt.exc {S : Nat → Prop} {w w' : World} {v : Value} {l : List Int} (h : Byt w v l) (he : Exc S w w') (hS : ∀ g off n c, v = .slice (some ⟨g, off, none⟩) n c → ¬ S g) : Byt w' v l := by
  obtain ⟨a, cap, rfl, h1, h1', h2⟩ := h
  refine ⟨a, cap, rfl, h1, h1', fun hn => ?_⟩
  obtain ⟨g, off, rfl, h3, h4⟩ := h2 hn
  exact ⟨g, off, rfl, Nat.lt_of_lt_of_le h3 he.size, fun j hj => by rw [he.cell h3 (hS g off _ _ rfl)]; exact h4 j hj⟩
theorem own_exc {S : Nat → Prop} {w w' : World} {B e size n : Nat} {v : Value} {xs : List Value} (h : w.ownsRow B e size v n xs) (he : Exc S w w') (hS : ∀ k, v.ownBlock = some k → ¬ S k) : w'.ownsRow B e size v n xs := by
  have hl := h.lt
  refine ⟨h.1, ?_⟩
  rcases h.2 with h' | ⟨g, cap, cur, rfl, h1, h2, h3⟩
  · exact .inl h'
  · exact .inr ⟨g, cap, cur, rfl, h1, by rw [he.block g (hl g rfl).2 (hS g rfl)]; exact h2, h3⟩
theorem own_later {w w' : World} {B e size n : Nat} {v : Value} {xs : List Value} (h : w.ownsRow B e size v n xs) {B' : Nat} (hb : Below B' w w') (hB : B' = w.heap.size) : w'.ownsRow B e size v n xs := by
  have hl := h.lt
  refine ⟨h.1, ?_⟩
  rcases h.2 with h' | ⟨g, cap, cur, rfl, h1, h2, h3⟩
  · exact .inl h'
  · exact .inr ⟨g, cap, cur, rfl, h1, by rw [hb.block g (by rw [hB]; exact (hl g rfl).2)]; exact h2, h3⟩
theorem own_le {w : World} {B B' e size n : Nat} {v : Value} {xs : List Value} (h : w.ownsRow B e size v n xs) (hb : B' ≤ B) : w.ownsRow B' e size v n xs := by
  refine ⟨h.1, ?_⟩
  rcases h.2 with h' | ⟨g, cap, cur, rfl, h1, h2, h3⟩
  · exact .inl h'
  · exact .inr ⟨g, cap, cur, rfl, Nat.le_trans hb h1, h2, h3⟩
/-- Bytes appended to a list of the call's own. -/
theorem appL {ops : Array Oper} {rest : List Oper} {o : Oper} {a : Act} {w : World} {Q : Exit → Act → World → Prop} (hgd : o.guard = none) (s x : Operand) (ho : o.op = .call { callee := .builtin .append, args := #[s, x], argTypes := #[32, 32] })
    (B : Nat) (v u : Value) (m l : List Int) (hs : a.eval s = v) (hown : w.ownsRow B 5 1 v m.length (bv m)) (hx : a.eval x = u) (hu : Byt w u l) (hl : m.length + l.length ≤ 140737488355328) (hB : B ≤ w.heap.size)
    (h : ∀ v' w', w'.ownsRow B 5 1 v' (m ++ l).length (bv (m ++ l)) → w.grownBy w' v.ownBlock → wpList Tryz.prog ops Q rest (a.put o.dst v') w') :
    wpList Tryz.prog ops Q (o :: rest) a w := by
  obtain ⟨i0, hi, hz0, hz1, hz2⟩ := info_parts info5
  obtain ⟨ao, cap, rfl, h1, h1', h2⟩ := hu
  cases ao with
  | none =>
    have hc := h1' rfl
    have hl0 : l = [] := List.eq_nil_of_length_eq_zero (by omega)
    subst hl0; subst hc
    refine wpList_append_own_none hgd s x 32 ho B 5 i0 1 Tryz.underlying32 hi v m.length (bv m) hs hown hx ?_
    exact h _ _ (by simpa using hown) (World.grownBy.refl _ _)
  | some ad =>
    refine wpList_append_own _ hgd s x 32 ho B 5 i0 (.int .u8 0) 1 1 Tryz.underlying32 hi hz0 hz1 hz2 rfl (by decide) v m.length (bv m) hs hown ad l.length cap (bv l) hx (by simp [bv]) ?_ ?_ (by unfold maxLen; omega) (by omega) hB ?_
    · intro j w2 hj
      have hjl : j < l.length := by have := (List.getElem?_eq_some_iff.1 hj).1; simpa [bv] using this
      obtain ⟨g, off, he, h3, h4⟩ := h2 (by intro e; rw [e] at hjl; simp at hjl)
      cases he
      rw [bv_get _ _ hjl] at hj
      cases hj
      rw [addAt]
      exact h4 j hjl
    · intro w2 hw2; simp [bv] at hw2; obtain ⟨q, _, rfl⟩ := hw2; rfl
    · intro v' w' g1 g2 g3
      exact h v' w' (by simpa [bv] using g1) g2
/-- A copy as new memory. -/
theorem clone_c {l : List Int} (hl : l.length ≤ 140737488355328) (v : Value) (w : World) (hv : Byt w v l) :
    Calls Tryz.prog 40 #[v] w fun e w' => ∃ u, e = .returned u ∧ w'.ownsRow w.heap.size 5 1 u l.length (bv l) ∧ Below w.heap.size w w' := by
  have HV : Hid (Byt w v l) := hv
  obtain ⟨ao, cap, rfl, h1, h1', h2⟩ := hv
  have qT : ∀ (w : World) (a : Option Addr) (n c n' c' : Nat), (binOp .eql 32 (.slice a n c) (.slice none n' c')).run Tryz.prog w = .ok (.bool a.isNone) w := fun w a n c n' c' => Lib.run_eql_slice_nil w _ _ a n c n' c' Tryz.underlying32
  have HW : Hid ((w.alloc (.cells #[] 5)).ownsRow w.heap.size 5 1 (.slice (some ⟨w.heap.size, 0, none⟩) 0 0) 0 (bv [])) := World.ownsRow_made w #[] 0 (Nat.le_refl _) (Nat.zero_le _) rfl
  have HB : Hid (Below w.heap.size w (w.alloc (.cells #[] 5))) := (Below.refl _ _).alloc (Nat.le_refl _) _
  have HV2 : Hid (Byt (w.alloc (.cells #[] 5)) (.slice ao l.length cap) l) := HV.out.later HB.out rfl
  clear h2
  cases ao with
  | none =>
    have hc := h1' rfl
    have hl0 : l = [] := List.eq_nil_of_length_eq_zero (by omega)
    subst hl0
    clear HV HW HB HV2
    go_enter Tryz.func40, Tryz.ntmps40
    go_wp2
    go_ret
    exact ⟨_, rfl, World.ownsRow_nil _ _ _ _, Below.refl _ _⟩
  | some ad =>
    go_enter Tryz.func40, Tryz.ntmps40
    go_wp2_with (at_builtin; refine appL (by rfl) _ _ (by rfl) w.heap.size _ _ [] l (by rfl) HW.out (by rfl) HV2.out (by simpa using hl) (by simp) ?_; intro v' w1 hown1 hg1)
    have HO : Hid (w1.ownsRow w.heap.size 5 1 v' l.length (bv l)) := hown1
    have HG : Hid (Below w.heap.size w w1) := Below.grown HB.out hg1 (by simp) (fun k hk => (HW.out.lt k hk).1)
    clear hown1 hg1 HW HV2 HB
    go_wp2
    go_ret
    exact ⟨_, rfl, HO.out, HG.out⟩
end Go.Proofs.YtlhgphokfpnfeaaGreatDoor
namespace Go.Proofs.YtlhgphokfpnfeaaGreatDoor
set_option linter.unusedVariables false
open Go.ChangeShapes Go.WideShapes Go.ChangeAt Go.RowKit Go.Deep
/-- All that a bus keeps. -/
structure St where
  ram : List Int
  msip : Int
  cmp : Int
  time : Int
  ext : Bool
  soft : Bool
  ier : Int
  lcr : Int
  mcr : Int
  scr : Int
  ov : Bool
  inp : List Int
  out : List Int
  off : Int
  code : Int
/-- Its cells, the lists being these values. -/
def stc (S : St) (vr vi vo : Value) : Array Value := #[vr, .int .u32 S.msip, .int .u64 S.cmp, .int .u64 S.time, .bool S.ext, .bool S.soft, .int .u8 S.ier, .int .u8 S.lcr, .int .u8 S.mcr, .int .u8 S.scr, .bool S.ov, vi, vo, .int .i64 S.off, .int .i64 S.code]
def ramOk (n : Nat) : Bool := decide (8 ≤ (n : Int)) && decide ((n : Int) ≤ 65536) && ((n : Int) % 8 == 0)
def powOk (off code : Int) : Bool := if off = 0 ∨ off = 1 then code == 0 else if off = 2 then decide (0 ≤ code) && decide (code ≤ 65535) else false
def St.ok (S : St) : Bool := ramOk S.ram.length && decide (S.msip ≤ 1) && decide (S.ier ≤ 15) && decide (S.mcr ≤ 31) && decide ((S.inp.length : Int) ≤ 64) && decide ((S.out.length : Int) ≤ 4096) && powOk S.off S.code
theorem isRamSize_c (n : Nat) (w : World) : Calls Tryz.prog 44 #[.int .i64 n] w fun e w' => e = .returned (.bool (ramOk n)) ∧ w' = w := by
  unfold ramOk
  by_cases h1 : 8 ≤ (n : Int)
  · by_cases h2 : (n : Int) ≤ 65536
    · have hm : (n : Int).tmod 8 = (n : Int) % 8 := Int.tmod_eq_emod_of_nonneg (by omega)
      go_enter Tryz.func44, Tryz.ntmps44
      go_wp2
      go_ret
      simp [h1, h2]
    · have h2' : (65536 : Int) < n := by omega
      go_enter Tryz.func44, Tryz.ntmps44
      go_wp2
      go_ret
      simp
      omega
  · have h1' : (n : Int) < 8 := by omega
    go_enter Tryz.func44, Tryz.ntmps44
    go_wp2
    go_ret
    simp
    omega
theorem isPower_c (off code : Int) (w : World) : Calls Tryz.prog 65 #[.int .i64 off, .int .i64 code] w fun e w' => e = .returned (.bool (powOk off code)) ∧ w' = w := by
  unfold powOk
  by_cases h0 : off = 0
  · subst h0
    go_enter Tryz.func65, Tryz.ntmps65
    go_wp2
    go_ret
    simp
  · by_cases h1 : off = 1
    · subst h1
      go_enter Tryz.func65, Tryz.ntmps65
      go_wp2
      go_ret
      simp
    · by_cases h2 : off = 2
      · subst h2
        by_cases h3 : 0 ≤ code
        · go_enter Tryz.func65, Tryz.ntmps65
          go_wp2
          go_ret
          simp
        · have h3' : code < 0 := by omega
          go_enter Tryz.func65, Tryz.ntmps65
          go_wp2
          go_ret
          simp
          omega
      · have e0 : (off == 0) = false := by simpa using h0
        have e1 : (off == 1) = false := by simpa using h1
        have e2 : (off == 2) = false := by simpa using h2
        go_enter Tryz.func65, Tryz.ntmps65
        go_wp2
        go_ret
        simp
set_option maxHeartbeats 1000000 in
theorem canBe_c (S : St) (ar ai ao : Option Addr) (cr ci co : Nat) (w : World) :
    Calls Tryz.prog 43 #[.agg (stc S (.slice ar S.ram.length cr) (.slice ai S.inp.length ci) (.slice ao S.out.length co))] w fun e w' => e = .returned (.bool S.ok) ∧ Below w.heap.size w w' := by
  have HB : Hid (∀ o, Below w.heap.size w (w.alloc o)) := fun o => (Below.refl _ _).alloc (Nat.le_refl _) o
  obtain ⟨b, hb⟩ : ∃ b, b = S.ok := ⟨_, rfl⟩
  rw [← hb]
  have HK : Hid (b = S.ok) := hb
  clear hb
  unfold stc
  generalize hr : ramOk S.ram.length = r
  generalize hp : powOk S.off S.code = p
  have hR := isRamSize_c S.ram.length
  have hP := isPower_c S.off S.code
  rw [hr] at hR
  rw [hp] at hP
  have HE : Hid (b = (r && decide (S.msip ≤ 1) && decide (S.ier ≤ 15) && decide (S.mcr ≤ 31) && decide ((S.inp.length : Int) ≤ 64) && decide ((S.out.length : Int) ≤ 4096) && p)) := by
    unfold Hid; rw [HK.out, St.ok, hr, hp]
  clear HK hr hp
  cases r with
  | false =>
    go_enter Tryz.func43, Tryz.ntmps43
    go_wp2_with (go_at_call 44; refine (hR _).mono ?_; rintro e w' ⟨rfl, rfl⟩)
    go_ret
    exact ⟨by rw [HE.out]; rfl, HB.out _⟩
  | true =>
    -- the rest
    rcases Int.lt_or_le 1 S.msip with g0 | h0
    · have HX : Hid (b = false) := by unfold Hid; rw [HE.out]; simp [show ¬ S.msip ≤ 1 by omega]
      clear HE
      go_enter Tryz.func43, Tryz.ntmps43
      go_wp2_with (first | (go_at_call 44; refine (hR _).mono ?_; rintro e w' ⟨rfl, rfl⟩) | (go_at_call 65; refine (hP _).mono ?_; rintro e w' ⟨rfl, rfl⟩))
      go_ret
      exact ⟨by cases HX.out; rfl, HB.out _⟩
    rcases Int.lt_or_le 15 S.ier with g1 | h1
    · have HX : Hid (b = false) := by unfold Hid; rw [HE.out]; simp [show ¬ S.ier ≤ 15 by omega]
      clear HE
      go_enter Tryz.func43, Tryz.ntmps43
      go_wp2_with (first | (go_at_call 44; refine (hR _).mono ?_; rintro e w' ⟨rfl, rfl⟩) | (go_at_call 65; refine (hP _).mono ?_; rintro e w' ⟨rfl, rfl⟩))
      go_ret
      exact ⟨by cases HX.out; rfl, HB.out _⟩
    rcases Int.lt_or_le 31 S.mcr with g2 | h2
    · have HX : Hid (b = false) := by unfold Hid; rw [HE.out]; simp [show ¬ S.mcr ≤ 31 by omega]
      clear HE
      go_enter Tryz.func43, Tryz.ntmps43
      go_wp2_with (first | (go_at_call 44; refine (hR _).mono ?_; rintro e w' ⟨rfl, rfl⟩) | (go_at_call 65; refine (hP _).mono ?_; rintro e w' ⟨rfl, rfl⟩))
      go_ret
      exact ⟨by cases HX.out; rfl, HB.out _⟩
    rcases Int.lt_or_le 64 (S.inp.length : Int) with g3 | h3
    · have HX : Hid (b = false) := by unfold Hid; rw [HE.out]; simp [show ¬ (S.inp.length : Int) ≤ 64 by omega]
      clear HE
      go_enter Tryz.func43, Tryz.ntmps43
      go_wp2_with (first | (go_at_call 44; refine (hR _).mono ?_; rintro e w' ⟨rfl, rfl⟩) | (go_at_call 65; refine (hP _).mono ?_; rintro e w' ⟨rfl, rfl⟩))
      go_ret
      exact ⟨by cases HX.out; rfl, HB.out _⟩
    rcases Int.lt_or_le 4096 (S.out.length : Int) with g4 | h4
    · have HX : Hid (b = false) := by unfold Hid; rw [HE.out]; simp [show ¬ (S.out.length : Int) ≤ 4096 by omega]
      clear HE
      go_enter Tryz.func43, Tryz.ntmps43
      go_wp2_with (first | (go_at_call 44; refine (hR _).mono ?_; rintro e w' ⟨rfl, rfl⟩) | (go_at_call 65; refine (hP _).mono ?_; rintro e w' ⟨rfl, rfl⟩))
      go_ret
      exact ⟨by cases HX.out; rfl, HB.out _⟩
    have HX : Hid (b = p) := by unfold Hid; rw [HE.out]; simp [h0, h1, h2, h3, h4]
    clear HE
    go_enter Tryz.func43, Tryz.ntmps43
    go_wp2_with (first | (go_at_call 44; refine (hR _).mono ?_; rintro e w' ⟨rfl, rfl⟩) | (go_at_call 65; refine (hP _).mono ?_; rintro e w' ⟨rfl, rfl⟩))
    go_ret
    exact ⟨by cases HX.out; rfl, HB.out _⟩
end Go.Proofs.YtlhgphokfpnfeaaGreatDoor
namespace Go.Proofs.YtlhgphokfpnfeaaGreatDoor
set_option linter.unusedVariables false
open Go.ChangeShapes Go.WideShapes Go.ChangeAt Go.RowKit Go.Deep
/-- What an operation of a region leaves, by what those ahead of it have left. -/
inductive Kd where
  | con (c : Value)
  | own (l : List Int)
  | agg (f : List Value → Array Value)
  | box (f : List Value → Array Value) (t : TypeId)
  | same
  | mem (f : List Value → World → Prop)
def FK (B : Nat) : Kd → List Value → World → Prop
  | .con c, v :: _, _ => v = c
  | .own l, v :: _, w => w.ownsRow B 5 1 v l.length (bv l)
  | .agg f, v :: vs, _ => v = .agg (f vs)
  | .box f t, v :: vs, w => ∃ g, v = .pointer (some ⟨g, 0, none⟩) ∧ B ≤ g ∧ w.heap[g]? = some (.cells (f vs) t (0, 0))
  | .same, v :: vs, _ => v = vs.getD 0 undef
  | .mem f, _ :: vs, w => f vs w
  | _, [], _ => False
theorem FK.mono {B : Nat} {G : Nat → Prop} {k : Kd} {vs : List Value} {w w' : World} (hG : ∀ k, G k → k < B) (hm : ∀ f, k ≠ .mem f) (h : FK B k vs w) (hx : Exk G w w') : FK B k vs w' := by
  have hb := hx.e
  cases vs with
  | nil => cases k <;> exact h
  | cons v vs =>
    cases k with
    | con c => exact h
    | own l => exact own_exc h hb (fun k hk hg => by have := (World.ownsRow.lt h k hk).1; have := hG k hg; omega)
    | agg f => exact h
    | same => exact h
    | mem f => exact absurd rfl (hm f)
    | box f t =>
      obtain ⟨g, h1, h2, h3⟩ := h
      exact ⟨g, h1, h2, by rw [hb.block g (Array.getElem?_eq_some_iff.1 h3).1 (fun hg => by have := hG g hg; omega)]; exact h3⟩
/-- The state in memory, as the program keeps it. -/
def frNeed : Nat → List Nat
  | 1 => [0] | 2 => [1] | 3 => [2] | 4 => [3, 2]
  | 6 => [5] | 8 => [7] | 9 => [6, 8] | 10 => [9]
  | 12 => [11] | 13 => [12] | 14 => [13]
  | 16 => [15] | 17 => [16] | 18 => [17]
  | 20 => [19] | 21 => [20] | 22 => [21]
  | 24 => [23] | 26 => [25] | 28 => [27] | 30 => [29]
  | 32 => [31] | 33 => [32] | 35 => [34] | 36 => [33, 35] | 37 => [36, 33]
  | 39 => [38] | 40 => [39] | 41 => [37, 40, 24, 26, 28, 30] | 42 => [41, 37, 40]
  | 44 => [43] | 46 => [45] | 47 => [4, 10, 14, 18, 22, 42, 44, 46] | 48 => [47, 4, 10, 14, 18, 22, 42] | 49 => [48]
  | _ => []
def frKd (S : St) (vr vi vo : Value) (p : Nat) : Nat → Kd
  | 0 => .con (.pointer (some ⟨p, 0, none⟩)) | 1 => .con vr | 2 => .own S.ram | 3 => .agg (fun vs => #[vs.getD 0 undef]) | 4 => .box (fun vs => #[vs.getD 1 undef]) 106
  | 5 => .con (.pointer (some ⟨p, 13, none⟩)) | 6 => .con (.int .i64 S.off) | 7 => .con (.pointer (some ⟨p, 14, none⟩)) | 8 => .con (.int .i64 S.code) | 9 => .con (.agg #[.int .i64 S.off, .int .i64 S.code]) | 10 => .box (fun _ => #[.int .i64 S.off, .int .i64 S.code]) 113
  | 11 => .con (.pointer (some ⟨p, 1, none⟩)) | 12 => .con (.int .u32 S.msip) | 13 => .con (.agg #[.int .u32 S.msip]) | 14 => .box (fun _ => #[.int .u32 S.msip]) 108
  | 15 => .con (.pointer (some ⟨p, 2, none⟩)) | 16 => .con (.int .u64 S.cmp) | 17 => .con (.agg #[.int .u64 33570816, .int .u64 S.cmp]) | 18 => .box (fun _ => #[.int .u64 33570816, .int .u64 S.cmp]) 110
  | 19 => .con (.pointer (some ⟨p, 3, none⟩)) | 20 => .con (.int .u64 S.time) | 21 => .con (.agg #[.int .u64 33603576, .int .u64 S.time]) | 22 => .box (fun _ => #[.int .u64 33603576, .int .u64 S.time]) 110
  | 23 => .con (.pointer (some ⟨p, 6, none⟩)) | 24 => .con (.int .u8 S.ier) | 25 => .con (.pointer (some ⟨p, 7, none⟩)) | 26 => .con (.int .u8 S.lcr)
  | 27 => .con (.pointer (some ⟨p, 8, none⟩)) | 28 => .con (.int .u8 S.mcr) | 29 => .con (.pointer (some ⟨p, 9, none⟩)) | 30 => .con (.int .u8 S.scr)
  | 31 => .con (.pointer (some ⟨p, 11, none⟩)) | 32 => .con vi | 33 => .own S.inp | 34 => .con (.pointer (some ⟨p, 10, none⟩)) | 35 => .con (.bool S.ov)
  | 36 => .agg (fun vs => #[.int .i32 0, .int .u32 0, vs.getD 0 undef, .bool S.ov]) | 37 => .box (fun vs => #[.int .i32 0, .int .u32 0, vs.getD 1 undef, .bool S.ov]) 123
  | 38 => .con (.pointer (some ⟨p, 12, none⟩)) | 39 => .con vo | 40 => .own S.out
  | 41 => .agg (fun vs => #[.int .u8 S.ier, .int .u8 S.lcr, .int .u8 S.mcr, .int .u8 S.scr, vs.getD 0 undef, vs.getD 1 undef])
  | 42 => .box (fun vs => #[.int .u8 S.ier, .int .u8 S.lcr, .int .u8 S.mcr, .int .u8 S.scr, vs.getD 1 undef, vs.getD 2 undef]) 95
  | 43 => .con (.pointer (some ⟨p, 4, none⟩)) | 44 => .con (.bool S.ext) | 45 => .con (.pointer (some ⟨p, 5, none⟩)) | 46 => .con (.bool S.soft)
  | 47 => .agg (fun vs => #[vs.getD 0 undef, vs.getD 1 undef, vs.getD 2 undef, vs.getD 3 undef, vs.getD 4 undef, vs.getD 5 undef, .bool S.ext, .bool S.soft])
  | 48 => .box (fun vs => #[vs.getD 1 undef, vs.getD 2 undef, vs.getD 3 undef, vs.getD 4 undef, vs.getD 5 undef, vs.getD 6 undef, .bool S.ext, .bool S.soft]) 102
  | 49 => .same | _ => .con (.int .i64 0)
/-- The operations, as the text has them. -/
def frTab : Array (Option Tmp × Op × Option (Nat × Bool)) := #[
  (some 7, .fieldAddr 35 (.tmp 1) 0, none),
  (some 8, .load 32 (.tmp 7), none),
  (some 9, .call { callee := .value (.func 40), args := #[.tmp 8], argTypes := #[32] }, none),
  (some 10, .build 106 #[(0, .tmp 9)], none),
  (some 11, .box 106 (.tmp 10), none),
  (some 12, .fieldAddr 35 (.tmp 1) 13, none),
  (some 13, .load 3 (.tmp 12), none),
  (some 14, .fieldAddr 35 (.tmp 1) 14, none),
  (some 15, .load 3 (.tmp 14), none),
  (some 16, .build 113 #[(0, .tmp 13), (1, .tmp 15)], none),
  (some 17, .box 113 (.tmp 16), none),
  (some 18, .fieldAddr 35 (.tmp 1) 1, none),
  (some 19, .load 33 (.tmp 18), none),
  (some 20, .build 108 #[(0, .tmp 19)], none),
  (some 21, .box 108 (.tmp 20), none),
  (some 22, .fieldAddr 35 (.tmp 1) 2, none),
  (some 23, .load 22 (.tmp 22), none),
  (some 24, .build 110 #[(0, .const (.int .u64 33570816)), (1, .tmp 23)], none),
  (some 25, .box 110 (.tmp 24), none),
  (some 26, .fieldAddr 35 (.tmp 1) 3, none),
  (some 27, .load 22 (.tmp 26), none),
  (some 28, .build 110 #[(0, .const (.int .u64 33603576)), (1, .tmp 27)], none),
  (some 29, .box 110 (.tmp 28), none),
  (some 30, .fieldAddr 35 (.tmp 1) 6, none),
  (some 31, .load 5 (.tmp 30), none),
  (some 32, .fieldAddr 35 (.tmp 1) 7, none),
  (some 33, .load 5 (.tmp 32), none),
  (some 34, .fieldAddr 35 (.tmp 1) 8, none),
  (some 35, .load 5 (.tmp 34), none),
  (some 36, .fieldAddr 35 (.tmp 1) 9, none),
  (some 37, .load 5 (.tmp 36), none),
  (some 38, .fieldAddr 35 (.tmp 1) 11, none),
  (some 39, .load 32 (.tmp 38), none),
  (some 40, .call { callee := .value (.func 40), args := #[.tmp 39], argTypes := #[32] }, none),
  (some 41, .fieldAddr 35 (.tmp 1) 10, none),
  (some 42, .load 4 (.tmp 41), none),
  (some 43, .build 123 #[(1, .tmp 40), (2, .tmp 42)], none),
  (some 44, .box 123 (.tmp 43), none),
  (some 45, .fieldAddr 35 (.tmp 1) 12, none),
  (some 46, .load 32 (.tmp 45), none),
  (some 47, .call { callee := .value (.func 40), args := #[.tmp 46], argTypes := #[32] }, none),
  (some 48, .build 95 #[(0, .tmp 31), (1, .tmp 33), (2, .tmp 35), (3, .tmp 37), (4, .tmp 44), (5, .tmp 47)], none),
  (some 49, .box 95 (.tmp 48), none),
  (some 50, .fieldAddr 35 (.tmp 1) 4, none),
  (some 51, .load 4 (.tmp 50), none),
  (some 52, .fieldAddr 35 (.tmp 1) 5, none),
  (some 53, .load 4 (.tmp 52), none),
  (some 54, .build 102 #[(0, .tmp 11), (1, .tmp 17), (2, .tmp 21), (3, .tmp 25), (4, .tmp 29), (5, .tmp 49), (6, .tmp 51), (7, .tmp 53)], none),
  (some 55, .box 102 (.tmp 54), none),
  (some 2, .assign (.tmp 55), none),
  (some 3, .assign (.const (.int .i64 0)), none)]
def frSlot : Nat → Nat
  | 0 => 7  | 1 => 8  | 2 => 9  | 3 => 10  | 4 => 11  | 5 => 12  | 6 => 13  | 7 => 14  | 8 => 15  | 9 => 16  | 10 => 17  | 11 => 18  | 12 => 19  | 13 => 20  | 14 => 21  | 15 => 22  | 16 => 23  | 17 => 24  | 18 => 25  | 19 => 26  | 20 => 27  | 21 => 28  | 22 => 29  | 23 => 30  | 24 => 31  | 25 => 32  | 26 => 33  | 27 => 34  | 28 => 35  | 29 => 36  | 30 => 37  | 31 => 38  | 32 => 39  | 33 => 40  | 34 => 41  | 35 => 42  | 36 => 43  | 37 => 44  | 38 => 45  | 39 => 46  | 40 => 47  | 41 => 48  | 42 => 49  | 43 => 50  | 44 => 51  | 45 => 52  | 46 => 53  | 47 => 54  | 48 => 55  | 49 => 2  | 50 => 3 | _ => 0
def shp (o : Oper) : Option Tmp × Op × Option (Nat × Bool) := (o.dst, o.op, o.guard)
theorem wpOp_plain {P : Program} {ops : Array Oper} {Q : Exit → Act → World → Prop} {i : Nat} {o : Oper} (ho : ops[i]? = some o) (hg : o.guard = none) {K : Act → World → Prop} {a : Act} {w : World} (h : o.wp P a w K Q) : wpOp P ops Q i K a w := by
  unfold wpOp
  simp only [ho]
  rw [if_pos (by simp [Region.wanted, hg])]
  exact .inl h
/-- What is asked behind operation i. -/
def frK (ops : Array Oper) (need : Nat → List Nat) (cs : List Nat) (G : Nat → Prop) (B : Nat) (kd : Nat → Kd) (i : Nat) (o : Oper) (a : Act) (w : World) : Act → World → Prop := fun a' w' => ∃ v, a' = a.put o.dst v ∧ Exk G w w' ∧ (∀ v', o.dst = none ∨ v' = v → FK B (kd i) (v' :: (need i).map (leftBy ops a)) w') ∧ (i ∈ cs → o.dst ≠ none ∧ ∀ g, v.ownBlock = some g → w.heap.size ≤ g)
theorem st_val {P : Program} {ops : Array Oper} {Q : Exit → Act → World → Prop} {need : Nat → List Nat} {cs : List Nat} {G : Nat → Prop} {B : Nat} {kd : Nat → Kd} {i : Nat} {o : Oper} (ho : ops[i]? = some o) {d : Tmp} {op : Op} (hd : shp o = (some d, op, none)) {a : Act} {w w' : World} (v : Value) (hr : (execOp a.eval o).run P w = .ok (.value v) w')
    (hb : Below w.heap.size w w') (hf : FK B (kd i) (v :: (need i).map (leftBy ops a)) w') (hn : i ∉ cs) : wpOp P ops Q i (frK ops need cs G B kd i o a w) a w := by
  refine wpOp_plain ho (congrArg (fun x => x.2.2) hd) ?_
  unfold Oper.wp
  rw [hr]
  refine ⟨v, rfl, Exk.of_below hb rfl, fun v' h => ?_, fun h => absurd h hn⟩
  rcases h with h | h
  · rw [show o.dst = some d from congrArg (fun x => x.1) hd] at h; cases h
  · rw [h]; exact hf
theorem st_call {P : Program} {ops : Array Oper} {Q : Exit → Act → World → Prop} {need : Nat → List Nat} {cs : List Nat} {G : Nat → Prop} {B : Nat} {kd : Nat → Kd} {i : Nat} {o : Oper} (ho : ops[i]? = some o) {d : Tmp} {op : Op} (hd : shp o = (some d, op, none)) {a : Act} {w : World} {f : FuncId} {args : Array Value} (hr : (execOp a.eval o).run P w = .ok (.enter f args) w)
    (hc : Calls P f args w fun e w' => ∃ u, e = .returned u ∧ Below w.heap.size w w' ∧ FK B (kd i) (u :: (need i).map (leftBy ops a)) w' ∧ ∀ g, u.ownBlock = some g → w.heap.size ≤ g) : wpOp P ops Q i (frK ops need cs G B kd i o a w) a w := by
  refine wpOp_plain ho (congrArg (fun x => x.2.2) hd) ?_
  unfold Oper.wp
  rw [hr]
  refine Calls.mono hc ?_
  have hdn : o.dst = some d := congrArg (fun x => x.1) hd
  rintro e w' ⟨u, rfl, h1, h2, h3⟩
  refine ⟨u, rfl, Exk.of_below h1 rfl, fun v' h => ?_, fun _ => ⟨by rw [hdn]; simp, h3⟩⟩
  rcases h with h | h
  · rw [hdn] at h; cases h
  · rw [h]; exact h2
/-- What the region finds: the parameter's box. -/
structure FrIn (S : St) (vr vi vo : Value) (p : Nat) (W : World) : Prop where
  lt : p < W.heap.size
  cell : ∀ j, W.cell? ⟨p, j, none⟩ = (stc S vr vi vo)[j]?
  r : Byt W vr S.ram
  i : Byt W vi S.inp
  o : Byt W vo S.out
  lr : S.ram.length ≤ 140737488355328
  li : S.inp.length ≤ 140737488355328
  lo : S.out.length ≤ 140737488355328
theorem alloc_at (w : World) (o : Obj) : (w.alloc o).heap[w.heap.size]? = some o := by
  show (w.heap.push o)[w.heap.size]? = some o
  simp
theorem own_fresh {w : World} {B n : Nat} {v : Value} {xs : List Value} (h : w.ownsRow B 5 1 v n xs) : ∀ g, v.ownBlock = some g → B ≤ g := fun g hg => (h.lt g hg).1
theorem fr_call {S : St} {vr vi vo : Value} {p : Nat} {W w : World} {l : List Int} {v : Value} (hb : Below W.heap.size W w) (hv : Byt W v l) (hl : l.length ≤ 140737488355328) {B : Nat} (hB : B = W.heap.size) {vs : List Value} :
    Calls Tryz.prog 40 #[v] w fun e w' => ∃ u, e = .returned u ∧ Below w.heap.size w w' ∧ FK B (.own l) (u :: vs) w' ∧ ∀ g, u.ownBlock = some g → w.heap.size ≤ g := by
  refine (clone_c hl v w (hv.later hb rfl)).mono ?_
  rintro e w' ⟨u, rfl, h1, h2⟩
  exact ⟨u, rfl, h2, own_le h1 (by rw [hB]; exact hb.size), own_fresh h1⟩
theorem fr_cell {S : St} {vr vi vo : Value} {p : Nat} {W w : World} (H : FrIn S vr vi vo p W) (hb : Below W.heap.size W w) (j : Nat) : w.cell? ⟨p, j, none⟩ = (stc S vr vi vo)[j]? := by rw [hb.cell H.lt]; exact H.cell j
theorem own_one {w : World} {B n : Nat} {v : Value} {xs : List Value} (h : w.ownsRow B 5 1 v n xs) : ∃ a n' c, v = .slice a n' c := by
  rcases Go.Joins.ownsRow_forms h with ⟨rfl, _⟩ | ⟨g, cap, rfl⟩
  · exact ⟨_, _, _, rfl⟩
  · exact ⟨_, _, _, rfl⟩
/-- What is shown of each operation. -/
def FrG (i : Nat) (sh : Option Tmp × Op × Option (Nat × Bool)) : Prop := ∀ {S : St} {vr vi vo : Value} {p : Nat} {W : World} {ops : Array Oper} {Q : Exit → Act → World → Prop} (_ : FrIn S vr vi vo p W) {o : Oper} (_ : ops[i]? = some o) (_ : shp o = sh) (a : Act) (w : World)
    (_ : a.eval (.tmp 1) = .pointer (some ⟨p, 0, none⟩)) (_ : Exk (fun _ => False) W w) (_ : leftBy ops a = fun k => a.eval (.tmp (frSlot k))) (_ : ∀ k ∈ frNeed i, FK W.heap.size (frKd S vr vi vo p k) ((k :: frNeed k).map (leftBy ops a)) w),
    wpOp Tryz.prog ops Q i (frK ops frNeed [2, 33, 40] (fun _ => False) W.heap.size (frKd S vr vi vo p) i o a w) a w
theorem fr_s0 : FrG 0 (some 7, .fieldAddr 35 (.tmp 1) 0, none) := by
  intro S vr vi vo p W ops Q H o ho hd a w h1 hx hl hn
  have hop : o.op = .fieldAddr 35 (.tmp 1) 0 := congrArg (fun x => x.2.1) hd
  have hb : Below W.heap.size W w := hx.e.below (Nat.le_refl _) (fun _ h => h.elim)
  refine st_val ho hd (.pointer (some ⟨p, 0, none⟩)) ?_ (Below.refl _ _) rfl (by decide)
  clear hd hn hl ho
  generalize a.eval = ρ at *
  simp [execOp, hop, h1, go_sem]
theorem fr_s1 : FrG 1 (some 8, .load 32 (.tmp 7), none) := by
  intro S vr vi vo p W ops Q H o ho hd a w h1 hx hl hn
  have hop : o.op = .load 32 (.tmp 7) := congrArg (fun x => x.2.1) hd
  have hb : Below W.heap.size W w := hx.e.below (Nat.le_refl _) (fun _ h => h.elim)
  have q0 : a.eval (.tmp 7) = .pointer (some ⟨p, 0, none⟩) := by
    have h := hn 0 (by decide)
    rw [hl] at h
    exact h
  have hc : w.cell? ⟨p, 0, none⟩ = some (vr) := fr_cell H hb 0
  refine st_val ho hd (vr) ?_ (Below.refl _ _) rfl (by decide)
  clear hd hn hl ho h1
  generalize a.eval = ρ at *
  simp [execOp, hop, q0, hc, go_sem]
theorem fr_s2 : FrG 2 (some 9, .call { callee := .value (.func 40), args := #[.tmp 8], argTypes := #[32] }, none) := by
  intro S vr vi vo p W ops Q H o ho hd a w h1 hx hl hn
  have hop : o.op = .call { callee := .value (.func 40), args := #[.tmp 8], argTypes := #[32] } := congrArg (fun x => x.2.1) hd
  have hb : Below W.heap.size W w := hx.e.below (Nat.le_refl _) (fun _ h => h.elim)
  have q1 : a.eval (.tmp 8) = vr := by
    have h := hn 1 (by decide)
    rw [hl] at h
    exact h
  have hf : a.eval (.func 40) = .func (.func 40) #[] #[] := rfl
  refine st_call ho hd (f := 40) (args := #[vr]) ?_ (fr_call (S := S) (vr := vr) (vi := vi) (vo := vo) (p := p) hb H.r H.lr rfl)
  clear hd hn hl ho h1
  generalize a.eval = ρ at *
  simp [execOp, hop, q1, hf, go_sem]
theorem fr_s3 : FrG 3 (some 10, .build 106 #[(0, .tmp 9)], none) := by
  intro S vr vi vo p W ops Q H o ho hd a w h1 hx hl hn
  have hop : o.op = .build 106 #[(0, .tmp 9)] := congrArg (fun x => x.2.1) hd
  have hb : Below W.heap.size W w := hx.e.below (Nat.le_refl _) (fun _ h => h.elim)
  have q2 : w.ownsRow W.heap.size 5 1 (a.eval (.tmp 9)) S.ram.length (bv S.ram) := by
    have h := hn 2 (by decide)
    rw [hl] at h
    exact h
  obtain ⟨x, y, z, hu⟩ := own_one q2
  refine st_val ho hd (.agg #[a.eval (.tmp 9)]) ?_ (Below.refl _ _) ?_ (by decide)
  · clear hd hn hl ho h1 q2
    generalize a.eval = ρ at *
    simp [execOp, hop, hu, go_sem]
  · rw [hl]; rfl
theorem fr_s4 : FrG 4 (some 11, .box 106 (.tmp 10), none) := by
  intro S vr vi vo p W ops Q H o ho hd a w h1 hx hl hn
  have hop : o.op = .box 106 (.tmp 10) := congrArg (fun x => x.2.1) hd
  have hb : Below W.heap.size W w := hx.e.below (Nat.le_refl _) (fun _ h => h.elim)
  have q3 : a.eval (.tmp 10) = .agg #[a.eval (.tmp 9)] := by
    have h := hn 3 (by decide)
    rw [hl] at h
    exact h
  have q2 : w.ownsRow W.heap.size 5 1 (a.eval (.tmp 9)) S.ram.length (bv S.ram) := by
    have h := hn 2 (by decide)
    rw [hl] at h
    exact h
  refine st_val ho hd (w' := w.alloc (.cells #[a.eval (.tmp 9)] 106)) (.pointer (some ⟨w.heap.size, 0, none⟩)) ?_ ((Below.refl _ _).alloc (Nat.le_refl _) _) ?_ (by decide)
  · clear hn hl ho h1
    clear q2 hd
    generalize a.eval = ρ at *
    simp [execOp, hop, q3, go_sem]
  · rw [hl]; exact ⟨w.heap.size, rfl, hb.size, alloc_at _ _⟩
theorem fr_s5 : FrG 5 (some 12, .fieldAddr 35 (.tmp 1) 13, none) := by
  intro S vr vi vo p W ops Q H o ho hd a w h1 hx hl hn
  have hop : o.op = .fieldAddr 35 (.tmp 1) 13 := congrArg (fun x => x.2.1) hd
  have hb : Below W.heap.size W w := hx.e.below (Nat.le_refl _) (fun _ h => h.elim)
  refine st_val ho hd (.pointer (some ⟨p, 13, none⟩)) ?_ (Below.refl _ _) rfl (by decide)
  clear hd hn hl ho
  generalize a.eval = ρ at *
  simp [execOp, hop, h1, go_sem]
theorem fr_s6 : FrG 6 (some 13, .load 3 (.tmp 12), none) := by
  intro S vr vi vo p W ops Q H o ho hd a w h1 hx hl hn
  have hop : o.op = .load 3 (.tmp 12) := congrArg (fun x => x.2.1) hd
  have hb : Below W.heap.size W w := hx.e.below (Nat.le_refl _) (fun _ h => h.elim)
  have q5 : a.eval (.tmp 12) = .pointer (some ⟨p, 13, none⟩) := by
    have h := hn 5 (by decide)
    rw [hl] at h
    exact h
  have hc : w.cell? ⟨p, 13, none⟩ = some (.int .i64 S.off) := fr_cell H hb 13
  refine st_val ho hd (.int .i64 S.off) ?_ (Below.refl _ _) rfl (by decide)
  clear hd hn hl ho h1
  generalize a.eval = ρ at *
  simp [execOp, hop, q5, hc, go_sem]
theorem fr_s7 : FrG 7 (some 14, .fieldAddr 35 (.tmp 1) 14, none) := by
  intro S vr vi vo p W ops Q H o ho hd a w h1 hx hl hn
  have hop : o.op = .fieldAddr 35 (.tmp 1) 14 := congrArg (fun x => x.2.1) hd
  have hb : Below W.heap.size W w := hx.e.below (Nat.le_refl _) (fun _ h => h.elim)
  refine st_val ho hd (.pointer (some ⟨p, 14, none⟩)) ?_ (Below.refl _ _) rfl (by decide)
  clear hd hn hl ho
  generalize a.eval = ρ at *
  simp [execOp, hop, h1, go_sem]
theorem fr_s8 : FrG 8 (some 15, .load 3 (.tmp 14), none) := by
  intro S vr vi vo p W ops Q H o ho hd a w h1 hx hl hn
  have hop : o.op = .load 3 (.tmp 14) := congrArg (fun x => x.2.1) hd
  have hb : Below W.heap.size W w := hx.e.below (Nat.le_refl _) (fun _ h => h.elim)
  have q7 : a.eval (.tmp 14) = .pointer (some ⟨p, 14, none⟩) := by
    have h := hn 7 (by decide)
    rw [hl] at h
    exact h
  have hc : w.cell? ⟨p, 14, none⟩ = some (.int .i64 S.code) := fr_cell H hb 14
  refine st_val ho hd (.int .i64 S.code) ?_ (Below.refl _ _) rfl (by decide)
  clear hd hn hl ho h1
  generalize a.eval = ρ at *
  simp [execOp, hop, q7, hc, go_sem]
theorem fr_s9 : FrG 9 (some 16, .build 113 #[(0, .tmp 13), (1, .tmp 15)], none) := by
  intro S vr vi vo p W ops Q H o ho hd a w h1 hx hl hn
  have hop : o.op = .build 113 #[(0, .tmp 13), (1, .tmp 15)] := congrArg (fun x => x.2.1) hd
  have hb : Below W.heap.size W w := hx.e.below (Nat.le_refl _) (fun _ h => h.elim)
  have q6 : a.eval (.tmp 13) = .int .i64 S.off := by
    have h := hn 6 (by decide)
    rw [hl] at h
    exact h
  have q8 : a.eval (.tmp 15) = .int .i64 S.code := by
    have h := hn 8 (by decide)
    rw [hl] at h
    exact h
  refine st_val ho hd (.agg #[.int .i64 S.off, .int .i64 S.code]) ?_ (Below.refl _ _) rfl (by decide)
  clear hd hn hl ho h1
  generalize a.eval = ρ at *
  simp [execOp, hop, q6, q8, go_sem]
theorem fr_s10 : FrG 10 (some 17, .box 113 (.tmp 16), none) := by
  intro S vr vi vo p W ops Q H o ho hd a w h1 hx hl hn
  have hop : o.op = .box 113 (.tmp 16) := congrArg (fun x => x.2.1) hd
  have hb : Below W.heap.size W w := hx.e.below (Nat.le_refl _) (fun _ h => h.elim)
  have q9 : a.eval (.tmp 16) = .agg #[.int .i64 S.off, .int .i64 S.code] := by
    have h := hn 9 (by decide)
    rw [hl] at h
    exact h
  refine st_val ho hd (w' := w.alloc (.cells #[.int .i64 S.off, .int .i64 S.code] 113)) (.pointer (some ⟨w.heap.size, 0, none⟩)) ?_ ((Below.refl _ _).alloc (Nat.le_refl _) _) ?_ (by decide)
  · clear hn hl ho h1
    clear hd
    generalize a.eval = ρ at *
    simp [execOp, hop, q9, go_sem]
  · rw [hl]; exact ⟨w.heap.size, rfl, hb.size, alloc_at _ _⟩
theorem fr_s11 : FrG 11 (some 18, .fieldAddr 35 (.tmp 1) 1, none) := by
  intro S vr vi vo p W ops Q H o ho hd a w h1 hx hl hn
  have hop : o.op = .fieldAddr 35 (.tmp 1) 1 := congrArg (fun x => x.2.1) hd
  have hb : Below W.heap.size W w := hx.e.below (Nat.le_refl _) (fun _ h => h.elim)
  refine st_val ho hd (.pointer (some ⟨p, 1, none⟩)) ?_ (Below.refl _ _) rfl (by decide)
  clear hd hn hl ho
  generalize a.eval = ρ at *
  simp [execOp, hop, h1, go_sem]
theorem fr_s12 : FrG 12 (some 19, .load 33 (.tmp 18), none) := by
  intro S vr vi vo p W ops Q H o ho hd a w h1 hx hl hn
  have hop : o.op = .load 33 (.tmp 18) := congrArg (fun x => x.2.1) hd
  have hb : Below W.heap.size W w := hx.e.below (Nat.le_refl _) (fun _ h => h.elim)
  have q11 : a.eval (.tmp 18) = .pointer (some ⟨p, 1, none⟩) := by
    have h := hn 11 (by decide)
    rw [hl] at h
    exact h
  have hc : w.cell? ⟨p, 1, none⟩ = some (.int .u32 S.msip) := fr_cell H hb 1
  refine st_val ho hd (.int .u32 S.msip) ?_ (Below.refl _ _) rfl (by decide)
  clear hd hn hl ho h1
  generalize a.eval = ρ at *
  simp [execOp, hop, q11, hc, go_sem]
theorem fr_s13 : FrG 13 (some 20, .build 108 #[(0, .tmp 19)], none) := by
  intro S vr vi vo p W ops Q H o ho hd a w h1 hx hl hn
  have hop : o.op = .build 108 #[(0, .tmp 19)] := congrArg (fun x => x.2.1) hd
  have hb : Below W.heap.size W w := hx.e.below (Nat.le_refl _) (fun _ h => h.elim)
  have q12 : a.eval (.tmp 19) = .int .u32 S.msip := by
    have h := hn 12 (by decide)
    rw [hl] at h
    exact h
  refine st_val ho hd (.agg #[.int .u32 S.msip]) ?_ (Below.refl _ _) rfl (by decide)
  clear hd hn hl ho h1
  generalize a.eval = ρ at *
  simp [execOp, hop, q12, go_sem]
theorem fr_s14 : FrG 14 (some 21, .box 108 (.tmp 20), none) := by
  intro S vr vi vo p W ops Q H o ho hd a w h1 hx hl hn
  have hop : o.op = .box 108 (.tmp 20) := congrArg (fun x => x.2.1) hd
  have hb : Below W.heap.size W w := hx.e.below (Nat.le_refl _) (fun _ h => h.elim)
  have q13 : a.eval (.tmp 20) = .agg #[.int .u32 S.msip] := by
    have h := hn 13 (by decide)
    rw [hl] at h
    exact h
  refine st_val ho hd (w' := w.alloc (.cells #[.int .u32 S.msip] 108)) (.pointer (some ⟨w.heap.size, 0, none⟩)) ?_ ((Below.refl _ _).alloc (Nat.le_refl _) _) ?_ (by decide)
  · clear hn hl ho h1
    clear hd
    generalize a.eval = ρ at *
    simp [execOp, hop, q13, go_sem]
  · rw [hl]; exact ⟨w.heap.size, rfl, hb.size, alloc_at _ _⟩
theorem fr_s15 : FrG 15 (some 22, .fieldAddr 35 (.tmp 1) 2, none) := by
  intro S vr vi vo p W ops Q H o ho hd a w h1 hx hl hn
  have hop : o.op = .fieldAddr 35 (.tmp 1) 2 := congrArg (fun x => x.2.1) hd
  have hb : Below W.heap.size W w := hx.e.below (Nat.le_refl _) (fun _ h => h.elim)
  refine st_val ho hd (.pointer (some ⟨p, 2, none⟩)) ?_ (Below.refl _ _) rfl (by decide)
  clear hd hn hl ho
  generalize a.eval = ρ at *
  simp [execOp, hop, h1, go_sem]
theorem fr_s16 : FrG 16 (some 23, .load 22 (.tmp 22), none) := by
  intro S vr vi vo p W ops Q H o ho hd a w h1 hx hl hn
  have hop : o.op = .load 22 (.tmp 22) := congrArg (fun x => x.2.1) hd
  have hb : Below W.heap.size W w := hx.e.below (Nat.le_refl _) (fun _ h => h.elim)
  have q15 : a.eval (.tmp 22) = .pointer (some ⟨p, 2, none⟩) := by
    have h := hn 15 (by decide)
    rw [hl] at h
    exact h
  have hc : w.cell? ⟨p, 2, none⟩ = some (.int .u64 S.cmp) := fr_cell H hb 2
  refine st_val ho hd (.int .u64 S.cmp) ?_ (Below.refl _ _) rfl (by decide)
  clear hd hn hl ho h1
  generalize a.eval = ρ at *
  simp [execOp, hop, q15, hc, go_sem]
theorem fr_s17 : FrG 17 (some 24, .build 110 #[(0, .const (.int .u64 33570816)), (1, .tmp 23)], none) := by
  intro S vr vi vo p W ops Q H o ho hd a w h1 hx hl hn
  have hop : o.op = .build 110 #[(0, .const (.int .u64 33570816)), (1, .tmp 23)] := congrArg (fun x => x.2.1) hd
  have hb : Below W.heap.size W w := hx.e.below (Nat.le_refl _) (fun _ h => h.elim)
  have q16 : a.eval (.tmp 23) = .int .u64 S.cmp := by
    have h := hn 16 (by decide)
    rw [hl] at h
    exact h
  have hf : a.eval (.const (.int .u64 33570816)) = .int .u64 33570816 := rfl
  refine st_val ho hd (.agg #[.int .u64 33570816, .int .u64 S.cmp]) ?_ (Below.refl _ _) rfl (by decide)
  clear hd hn hl ho h1
  generalize a.eval = ρ at *
  simp [execOp, hop, hf, q16, go_sem]
theorem fr_s18 : FrG 18 (some 25, .box 110 (.tmp 24), none) := by
  intro S vr vi vo p W ops Q H o ho hd a w h1 hx hl hn
  have hop : o.op = .box 110 (.tmp 24) := congrArg (fun x => x.2.1) hd
  have hb : Below W.heap.size W w := hx.e.below (Nat.le_refl _) (fun _ h => h.elim)
  have q17 : a.eval (.tmp 24) = .agg #[.int .u64 33570816, .int .u64 S.cmp] := by
    have h := hn 17 (by decide)
    rw [hl] at h
    exact h
  refine st_val ho hd (w' := w.alloc (.cells #[.int .u64 33570816, .int .u64 S.cmp] 110)) (.pointer (some ⟨w.heap.size, 0, none⟩)) ?_ ((Below.refl _ _).alloc (Nat.le_refl _) _) ?_ (by decide)
  · clear hn hl ho h1
    clear hd
    generalize a.eval = ρ at *
    simp [execOp, hop, q17, go_sem]
  · rw [hl]; exact ⟨w.heap.size, rfl, hb.size, alloc_at _ _⟩
theorem fr_s19 : FrG 19 (some 26, .fieldAddr 35 (.tmp 1) 3, none) := by
  intro S vr vi vo p W ops Q H o ho hd a w h1 hx hl hn
  have hop : o.op = .fieldAddr 35 (.tmp 1) 3 := congrArg (fun x => x.2.1) hd
  have hb : Below W.heap.size W w := hx.e.below (Nat.le_refl _) (fun _ h => h.elim)
  refine st_val ho hd (.pointer (some ⟨p, 3, none⟩)) ?_ (Below.refl _ _) rfl (by decide)
  clear hd hn hl ho
  generalize a.eval = ρ at *
  simp [execOp, hop, h1, go_sem]
theorem fr_s20 : FrG 20 (some 27, .load 22 (.tmp 26), none) := by
  intro S vr vi vo p W ops Q H o ho hd a w h1 hx hl hn
  have hop : o.op = .load 22 (.tmp 26) := congrArg (fun x => x.2.1) hd
  have hb : Below W.heap.size W w := hx.e.below (Nat.le_refl _) (fun _ h => h.elim)
  have q19 : a.eval (.tmp 26) = .pointer (some ⟨p, 3, none⟩) := by
    have h := hn 19 (by decide)
    rw [hl] at h
    exact h
  have hc : w.cell? ⟨p, 3, none⟩ = some (.int .u64 S.time) := fr_cell H hb 3
  refine st_val ho hd (.int .u64 S.time) ?_ (Below.refl _ _) rfl (by decide)
  clear hd hn hl ho h1
  generalize a.eval = ρ at *
  simp [execOp, hop, q19, hc, go_sem]
theorem fr_s21 : FrG 21 (some 28, .build 110 #[(0, .const (.int .u64 33603576)), (1, .tmp 27)], none) := by
  intro S vr vi vo p W ops Q H o ho hd a w h1 hx hl hn
  have hop : o.op = .build 110 #[(0, .const (.int .u64 33603576)), (1, .tmp 27)] := congrArg (fun x => x.2.1) hd
  have hb : Below W.heap.size W w := hx.e.below (Nat.le_refl _) (fun _ h => h.elim)
  have q20 : a.eval (.tmp 27) = .int .u64 S.time := by
    have h := hn 20 (by decide)
    rw [hl] at h
    exact h
  have hf : a.eval (.const (.int .u64 33603576)) = .int .u64 33603576 := rfl
  refine st_val ho hd (.agg #[.int .u64 33603576, .int .u64 S.time]) ?_ (Below.refl _ _) rfl (by decide)
  clear hd hn hl ho h1
  generalize a.eval = ρ at *
  simp [execOp, hop, hf, q20, go_sem]
theorem fr_s22 : FrG 22 (some 29, .box 110 (.tmp 28), none) := by
  intro S vr vi vo p W ops Q H o ho hd a w h1 hx hl hn
  have hop : o.op = .box 110 (.tmp 28) := congrArg (fun x => x.2.1) hd
  have hb : Below W.heap.size W w := hx.e.below (Nat.le_refl _) (fun _ h => h.elim)
  have q21 : a.eval (.tmp 28) = .agg #[.int .u64 33603576, .int .u64 S.time] := by
    have h := hn 21 (by decide)
    rw [hl] at h
    exact h
  refine st_val ho hd (w' := w.alloc (.cells #[.int .u64 33603576, .int .u64 S.time] 110)) (.pointer (some ⟨w.heap.size, 0, none⟩)) ?_ ((Below.refl _ _).alloc (Nat.le_refl _) _) ?_ (by decide)
  · clear hn hl ho h1
    clear hd
    generalize a.eval = ρ at *
    simp [execOp, hop, q21, go_sem]
  · rw [hl]; exact ⟨w.heap.size, rfl, hb.size, alloc_at _ _⟩
theorem fr_s23 : FrG 23 (some 30, .fieldAddr 35 (.tmp 1) 6, none) := by
  intro S vr vi vo p W ops Q H o ho hd a w h1 hx hl hn
  have hop : o.op = .fieldAddr 35 (.tmp 1) 6 := congrArg (fun x => x.2.1) hd
  have hb : Below W.heap.size W w := hx.e.below (Nat.le_refl _) (fun _ h => h.elim)
  refine st_val ho hd (.pointer (some ⟨p, 6, none⟩)) ?_ (Below.refl _ _) rfl (by decide)
  clear hd hn hl ho
  generalize a.eval = ρ at *
  simp [execOp, hop, h1, go_sem]
theorem fr_s24 : FrG 24 (some 31, .load 5 (.tmp 30), none) := by
  intro S vr vi vo p W ops Q H o ho hd a w h1 hx hl hn
  have hop : o.op = .load 5 (.tmp 30) := congrArg (fun x => x.2.1) hd
  have hb : Below W.heap.size W w := hx.e.below (Nat.le_refl _) (fun _ h => h.elim)
  have q23 : a.eval (.tmp 30) = .pointer (some ⟨p, 6, none⟩) := by
    have h := hn 23 (by decide)
    rw [hl] at h
    exact h
  have hc : w.cell? ⟨p, 6, none⟩ = some (.int .u8 S.ier) := fr_cell H hb 6
  refine st_val ho hd (.int .u8 S.ier) ?_ (Below.refl _ _) rfl (by decide)
  clear hd hn hl ho h1
  generalize a.eval = ρ at *
  simp [execOp, hop, q23, hc, go_sem]
theorem fr_s25 : FrG 25 (some 32, .fieldAddr 35 (.tmp 1) 7, none) := by
  intro S vr vi vo p W ops Q H o ho hd a w h1 hx hl hn
  have hop : o.op = .fieldAddr 35 (.tmp 1) 7 := congrArg (fun x => x.2.1) hd
  have hb : Below W.heap.size W w := hx.e.below (Nat.le_refl _) (fun _ h => h.elim)
  refine st_val ho hd (.pointer (some ⟨p, 7, none⟩)) ?_ (Below.refl _ _) rfl (by decide)
  clear hd hn hl ho
  generalize a.eval = ρ at *
  simp [execOp, hop, h1, go_sem]
theorem fr_s26 : FrG 26 (some 33, .load 5 (.tmp 32), none) := by
  intro S vr vi vo p W ops Q H o ho hd a w h1 hx hl hn
  have hop : o.op = .load 5 (.tmp 32) := congrArg (fun x => x.2.1) hd
  have hb : Below W.heap.size W w := hx.e.below (Nat.le_refl _) (fun _ h => h.elim)
  have q25 : a.eval (.tmp 32) = .pointer (some ⟨p, 7, none⟩) := by
    have h := hn 25 (by decide)
    rw [hl] at h
    exact h
  have hc : w.cell? ⟨p, 7, none⟩ = some (.int .u8 S.lcr) := fr_cell H hb 7
  refine st_val ho hd (.int .u8 S.lcr) ?_ (Below.refl _ _) rfl (by decide)
  clear hd hn hl ho h1
  generalize a.eval = ρ at *
  simp [execOp, hop, q25, hc, go_sem]
theorem fr_s27 : FrG 27 (some 34, .fieldAddr 35 (.tmp 1) 8, none) := by
  intro S vr vi vo p W ops Q H o ho hd a w h1 hx hl hn
  have hop : o.op = .fieldAddr 35 (.tmp 1) 8 := congrArg (fun x => x.2.1) hd
  have hb : Below W.heap.size W w := hx.e.below (Nat.le_refl _) (fun _ h => h.elim)
  refine st_val ho hd (.pointer (some ⟨p, 8, none⟩)) ?_ (Below.refl _ _) rfl (by decide)
  clear hd hn hl ho
  generalize a.eval = ρ at *
  simp [execOp, hop, h1, go_sem]
theorem fr_s28 : FrG 28 (some 35, .load 5 (.tmp 34), none) := by
  intro S vr vi vo p W ops Q H o ho hd a w h1 hx hl hn
  have hop : o.op = .load 5 (.tmp 34) := congrArg (fun x => x.2.1) hd
  have hb : Below W.heap.size W w := hx.e.below (Nat.le_refl _) (fun _ h => h.elim)
  have q27 : a.eval (.tmp 34) = .pointer (some ⟨p, 8, none⟩) := by
    have h := hn 27 (by decide)
    rw [hl] at h
    exact h
  have hc : w.cell? ⟨p, 8, none⟩ = some (.int .u8 S.mcr) := fr_cell H hb 8
  refine st_val ho hd (.int .u8 S.mcr) ?_ (Below.refl _ _) rfl (by decide)
  clear hd hn hl ho h1
  generalize a.eval = ρ at *
  simp [execOp, hop, q27, hc, go_sem]
theorem fr_s29 : FrG 29 (some 36, .fieldAddr 35 (.tmp 1) 9, none) := by
  intro S vr vi vo p W ops Q H o ho hd a w h1 hx hl hn
  have hop : o.op = .fieldAddr 35 (.tmp 1) 9 := congrArg (fun x => x.2.1) hd
  have hb : Below W.heap.size W w := hx.e.below (Nat.le_refl _) (fun _ h => h.elim)
  refine st_val ho hd (.pointer (some ⟨p, 9, none⟩)) ?_ (Below.refl _ _) rfl (by decide)
  clear hd hn hl ho
  generalize a.eval = ρ at *
  simp [execOp, hop, h1, go_sem]
theorem fr_s30 : FrG 30 (some 37, .load 5 (.tmp 36), none) := by
  intro S vr vi vo p W ops Q H o ho hd a w h1 hx hl hn
  have hop : o.op = .load 5 (.tmp 36) := congrArg (fun x => x.2.1) hd
  have hb : Below W.heap.size W w := hx.e.below (Nat.le_refl _) (fun _ h => h.elim)
  have q29 : a.eval (.tmp 36) = .pointer (some ⟨p, 9, none⟩) := by
    have h := hn 29 (by decide)
    rw [hl] at h
    exact h
  have hc : w.cell? ⟨p, 9, none⟩ = some (.int .u8 S.scr) := fr_cell H hb 9
  refine st_val ho hd (.int .u8 S.scr) ?_ (Below.refl _ _) rfl (by decide)
  clear hd hn hl ho h1
  generalize a.eval = ρ at *
  simp [execOp, hop, q29, hc, go_sem]
theorem fr_s31 : FrG 31 (some 38, .fieldAddr 35 (.tmp 1) 11, none) := by
  intro S vr vi vo p W ops Q H o ho hd a w h1 hx hl hn
  have hop : o.op = .fieldAddr 35 (.tmp 1) 11 := congrArg (fun x => x.2.1) hd
  have hb : Below W.heap.size W w := hx.e.below (Nat.le_refl _) (fun _ h => h.elim)
  refine st_val ho hd (.pointer (some ⟨p, 11, none⟩)) ?_ (Below.refl _ _) rfl (by decide)
  clear hd hn hl ho
  generalize a.eval = ρ at *
  simp [execOp, hop, h1, go_sem]
theorem fr_s32 : FrG 32 (some 39, .load 32 (.tmp 38), none) := by
  intro S vr vi vo p W ops Q H o ho hd a w h1 hx hl hn
  have hop : o.op = .load 32 (.tmp 38) := congrArg (fun x => x.2.1) hd
  have hb : Below W.heap.size W w := hx.e.below (Nat.le_refl _) (fun _ h => h.elim)
  have q31 : a.eval (.tmp 38) = .pointer (some ⟨p, 11, none⟩) := by
    have h := hn 31 (by decide)
    rw [hl] at h
    exact h
  have hc : w.cell? ⟨p, 11, none⟩ = some (vi) := fr_cell H hb 11
  refine st_val ho hd (vi) ?_ (Below.refl _ _) rfl (by decide)
  clear hd hn hl ho h1
  generalize a.eval = ρ at *
  simp [execOp, hop, q31, hc, go_sem]
theorem fr_s33 : FrG 33 (some 40, .call { callee := .value (.func 40), args := #[.tmp 39], argTypes := #[32] }, none) := by
  intro S vr vi vo p W ops Q H o ho hd a w h1 hx hl hn
  have hop : o.op = .call { callee := .value (.func 40), args := #[.tmp 39], argTypes := #[32] } := congrArg (fun x => x.2.1) hd
  have hb : Below W.heap.size W w := hx.e.below (Nat.le_refl _) (fun _ h => h.elim)
  have q32 : a.eval (.tmp 39) = vi := by
    have h := hn 32 (by decide)
    rw [hl] at h
    exact h
  have hf : a.eval (.func 40) = .func (.func 40) #[] #[] := rfl
  refine st_call ho hd (f := 40) (args := #[vi]) ?_ (fr_call (S := S) (vr := vr) (vi := vi) (vo := vo) (p := p) hb H.i H.li rfl)
  clear hd hn hl ho h1
  generalize a.eval = ρ at *
  simp [execOp, hop, q32, hf, go_sem]
theorem fr_s34 : FrG 34 (some 41, .fieldAddr 35 (.tmp 1) 10, none) := by
  intro S vr vi vo p W ops Q H o ho hd a w h1 hx hl hn
  have hop : o.op = .fieldAddr 35 (.tmp 1) 10 := congrArg (fun x => x.2.1) hd
  have hb : Below W.heap.size W w := hx.e.below (Nat.le_refl _) (fun _ h => h.elim)
  refine st_val ho hd (.pointer (some ⟨p, 10, none⟩)) ?_ (Below.refl _ _) rfl (by decide)
  clear hd hn hl ho
  generalize a.eval = ρ at *
  simp [execOp, hop, h1, go_sem]
theorem fr_s35 : FrG 35 (some 42, .load 4 (.tmp 41), none) := by
  intro S vr vi vo p W ops Q H o ho hd a w h1 hx hl hn
  have hop : o.op = .load 4 (.tmp 41) := congrArg (fun x => x.2.1) hd
  have hb : Below W.heap.size W w := hx.e.below (Nat.le_refl _) (fun _ h => h.elim)
  have q34 : a.eval (.tmp 41) = .pointer (some ⟨p, 10, none⟩) := by
    have h := hn 34 (by decide)
    rw [hl] at h
    exact h
  have hc : w.cell? ⟨p, 10, none⟩ = some (.bool S.ov) := fr_cell H hb 10
  refine st_val ho hd (.bool S.ov) ?_ (Below.refl _ _) rfl (by decide)
  clear hd hn hl ho h1
  generalize a.eval = ρ at *
  simp [execOp, hop, q34, hc, go_sem]
theorem fr_s36 : FrG 36 (some 43, .build 123 #[(1, .tmp 40), (2, .tmp 42)], none) := by
  intro S vr vi vo p W ops Q H o ho hd a w h1 hx hl hn
  have hop : o.op = .build 123 #[(1, .tmp 40), (2, .tmp 42)] := congrArg (fun x => x.2.1) hd
  have hb : Below W.heap.size W w := hx.e.below (Nat.le_refl _) (fun _ h => h.elim)
  have q33 : w.ownsRow W.heap.size 5 1 (a.eval (.tmp 40)) S.inp.length (bv S.inp) := by
    have h := hn 33 (by decide)
    rw [hl] at h
    exact h
  have q35 : a.eval (.tmp 42) = .bool S.ov := by
    have h := hn 35 (by decide)
    rw [hl] at h
    exact h
  obtain ⟨x, y, z, hu⟩ := own_one q33
  refine st_val ho hd (.agg #[.int .i32 0, .int .u32 0, a.eval (.tmp 40), .bool S.ov]) ?_ (Below.refl _ _) ?_ (by decide)
  · clear hd hn hl ho h1 q33
    generalize a.eval = ρ at *
    simp [execOp, hop, hu, q35, go_sem]
  · rw [hl]; rfl
theorem fr_s37 : FrG 37 (some 44, .box 123 (.tmp 43), none) := by
  intro S vr vi vo p W ops Q H o ho hd a w h1 hx hl hn
  have hop : o.op = .box 123 (.tmp 43) := congrArg (fun x => x.2.1) hd
  have hb : Below W.heap.size W w := hx.e.below (Nat.le_refl _) (fun _ h => h.elim)
  have q36 : a.eval (.tmp 43) = .agg #[.int .i32 0, .int .u32 0, a.eval (.tmp 40), .bool S.ov] := by
    have h := hn 36 (by decide)
    rw [hl] at h
    exact h
  have q33 : w.ownsRow W.heap.size 5 1 (a.eval (.tmp 40)) S.inp.length (bv S.inp) := by
    have h := hn 33 (by decide)
    rw [hl] at h
    exact h
  refine st_val ho hd (w' := w.alloc (.cells #[.int .i32 0, .int .u32 0, a.eval (.tmp 40), .bool S.ov] 123)) (.pointer (some ⟨w.heap.size, 0, none⟩)) ?_ ((Below.refl _ _).alloc (Nat.le_refl _) _) ?_ (by decide)
  · clear hn hl ho h1
    clear q33 hd
    generalize a.eval = ρ at *
    simp [execOp, hop, q36, go_sem]
  · rw [hl]; exact ⟨w.heap.size, rfl, hb.size, alloc_at _ _⟩
theorem fr_s38 : FrG 38 (some 45, .fieldAddr 35 (.tmp 1) 12, none) := by
  intro S vr vi vo p W ops Q H o ho hd a w h1 hx hl hn
  have hop : o.op = .fieldAddr 35 (.tmp 1) 12 := congrArg (fun x => x.2.1) hd
  have hb : Below W.heap.size W w := hx.e.below (Nat.le_refl _) (fun _ h => h.elim)
  refine st_val ho hd (.pointer (some ⟨p, 12, none⟩)) ?_ (Below.refl _ _) rfl (by decide)
  clear hd hn hl ho
  generalize a.eval = ρ at *
  simp [execOp, hop, h1, go_sem]
theorem fr_s39 : FrG 39 (some 46, .load 32 (.tmp 45), none) := by
  intro S vr vi vo p W ops Q H o ho hd a w h1 hx hl hn
  have hop : o.op = .load 32 (.tmp 45) := congrArg (fun x => x.2.1) hd
  have hb : Below W.heap.size W w := hx.e.below (Nat.le_refl _) (fun _ h => h.elim)
  have q38 : a.eval (.tmp 45) = .pointer (some ⟨p, 12, none⟩) := by
    have h := hn 38 (by decide)
    rw [hl] at h
    exact h
  have hc : w.cell? ⟨p, 12, none⟩ = some (vo) := fr_cell H hb 12
  refine st_val ho hd (vo) ?_ (Below.refl _ _) rfl (by decide)
  clear hd hn hl ho h1
  generalize a.eval = ρ at *
  simp [execOp, hop, q38, hc, go_sem]
theorem fr_s40 : FrG 40 (some 47, .call { callee := .value (.func 40), args := #[.tmp 46], argTypes := #[32] }, none) := by
  intro S vr vi vo p W ops Q H o ho hd a w h1 hx hl hn
  have hop : o.op = .call { callee := .value (.func 40), args := #[.tmp 46], argTypes := #[32] } := congrArg (fun x => x.2.1) hd
  have hb : Below W.heap.size W w := hx.e.below (Nat.le_refl _) (fun _ h => h.elim)
  have q39 : a.eval (.tmp 46) = vo := by
    have h := hn 39 (by decide)
    rw [hl] at h
    exact h
  have hf : a.eval (.func 40) = .func (.func 40) #[] #[] := rfl
  refine st_call ho hd (f := 40) (args := #[vo]) ?_ (fr_call (S := S) (vr := vr) (vi := vi) (vo := vo) (p := p) hb H.o H.lo rfl)
  clear hd hn hl ho h1
  generalize a.eval = ρ at *
  simp [execOp, hop, q39, hf, go_sem]
theorem fr_s41 : FrG 41 (some 48, .build 95 #[(0, .tmp 31), (1, .tmp 33), (2, .tmp 35), (3, .tmp 37), (4, .tmp 44), (5, .tmp 47)], none) := by
  intro S vr vi vo p W ops Q H o ho hd a w h1 hx hl hn
  have hop : o.op = .build 95 #[(0, .tmp 31), (1, .tmp 33), (2, .tmp 35), (3, .tmp 37), (4, .tmp 44), (5, .tmp 47)] := congrArg (fun x => x.2.1) hd
  have hb : Below W.heap.size W w := hx.e.below (Nat.le_refl _) (fun _ h => h.elim)
  have q37 : ∃ g, a.eval (.tmp 44) = .pointer (some ⟨g, 0, none⟩) ∧ W.heap.size ≤ g ∧ w.heap[g]? = some (.cells #[.int .i32 0, .int .u32 0, a.eval (.tmp 40), .bool S.ov] 123 (0, 0)) := by
    have h := hn 37 (by decide)
    rw [hl] at h
    exact h
  have q40 : w.ownsRow W.heap.size 5 1 (a.eval (.tmp 47)) S.out.length (bv S.out) := by
    have h := hn 40 (by decide)
    rw [hl] at h
    exact h
  have q24 : a.eval (.tmp 31) = .int .u8 S.ier := by
    have h := hn 24 (by decide)
    rw [hl] at h
    exact h
  have q26 : a.eval (.tmp 33) = .int .u8 S.lcr := by
    have h := hn 26 (by decide)
    rw [hl] at h
    exact h
  have q28 : a.eval (.tmp 35) = .int .u8 S.mcr := by
    have h := hn 28 (by decide)
    rw [hl] at h
    exact h
  have q30 : a.eval (.tmp 37) = .int .u8 S.scr := by
    have h := hn 30 (by decide)
    rw [hl] at h
    exact h
  obtain ⟨x, y, z, hu⟩ := own_one q40
  obtain ⟨g, hp, _, _⟩ := q37
  refine st_val ho hd (.agg #[.int .u8 S.ier, .int .u8 S.lcr, .int .u8 S.mcr, .int .u8 S.scr, a.eval (.tmp 44), a.eval (.tmp 47)]) ?_ (Below.refl _ _) ?_ (by decide)
  · clear hd hn hl ho h1 q40
    generalize a.eval = ρ at *
    simp [execOp, hop, hu, hp, q24, q26, q28, q30, go_sem]
  · rw [hl]; rfl
theorem fr_s42 : FrG 42 (some 49, .box 95 (.tmp 48), none) := by
  intro S vr vi vo p W ops Q H o ho hd a w h1 hx hl hn
  have hop : o.op = .box 95 (.tmp 48) := congrArg (fun x => x.2.1) hd
  have hb : Below W.heap.size W w := hx.e.below (Nat.le_refl _) (fun _ h => h.elim)
  have q41 : a.eval (.tmp 48) = .agg #[.int .u8 S.ier, .int .u8 S.lcr, .int .u8 S.mcr, .int .u8 S.scr, a.eval (.tmp 44), a.eval (.tmp 47)] := by
    have h := hn 41 (by decide)
    rw [hl] at h
    exact h
  have q37 : ∃ g, a.eval (.tmp 44) = .pointer (some ⟨g, 0, none⟩) ∧ W.heap.size ≤ g ∧ w.heap[g]? = some (.cells #[.int .i32 0, .int .u32 0, a.eval (.tmp 40), .bool S.ov] 123 (0, 0)) := by
    have h := hn 37 (by decide)
    rw [hl] at h
    exact h
  have q40 : w.ownsRow W.heap.size 5 1 (a.eval (.tmp 47)) S.out.length (bv S.out) := by
    have h := hn 40 (by decide)
    rw [hl] at h
    exact h
  refine st_val ho hd (w' := w.alloc (.cells #[.int .u8 S.ier, .int .u8 S.lcr, .int .u8 S.mcr, .int .u8 S.scr, a.eval (.tmp 44), a.eval (.tmp 47)] 95)) (.pointer (some ⟨w.heap.size, 0, none⟩)) ?_ ((Below.refl _ _).alloc (Nat.le_refl _) _) ?_ (by decide)
  · clear hn hl ho h1
    clear q37 q40 hd
    generalize a.eval = ρ at *
    simp [execOp, hop, q41, go_sem]
  · rw [hl]; exact ⟨w.heap.size, rfl, hb.size, alloc_at _ _⟩
theorem fr_s43 : FrG 43 (some 50, .fieldAddr 35 (.tmp 1) 4, none) := by
  intro S vr vi vo p W ops Q H o ho hd a w h1 hx hl hn
  have hop : o.op = .fieldAddr 35 (.tmp 1) 4 := congrArg (fun x => x.2.1) hd
  have hb : Below W.heap.size W w := hx.e.below (Nat.le_refl _) (fun _ h => h.elim)
  refine st_val ho hd (.pointer (some ⟨p, 4, none⟩)) ?_ (Below.refl _ _) rfl (by decide)
  clear hd hn hl ho
  generalize a.eval = ρ at *
  simp [execOp, hop, h1, go_sem]
theorem fr_s44 : FrG 44 (some 51, .load 4 (.tmp 50), none) := by
  intro S vr vi vo p W ops Q H o ho hd a w h1 hx hl hn
  have hop : o.op = .load 4 (.tmp 50) := congrArg (fun x => x.2.1) hd
  have hb : Below W.heap.size W w := hx.e.below (Nat.le_refl _) (fun _ h => h.elim)
  have q43 : a.eval (.tmp 50) = .pointer (some ⟨p, 4, none⟩) := by
    have h := hn 43 (by decide)
    rw [hl] at h
    exact h
  have hc : w.cell? ⟨p, 4, none⟩ = some (.bool S.ext) := fr_cell H hb 4
  refine st_val ho hd (.bool S.ext) ?_ (Below.refl _ _) rfl (by decide)
  clear hd hn hl ho h1
  generalize a.eval = ρ at *
  simp [execOp, hop, q43, hc, go_sem]
theorem fr_s45 : FrG 45 (some 52, .fieldAddr 35 (.tmp 1) 5, none) := by
  intro S vr vi vo p W ops Q H o ho hd a w h1 hx hl hn
  have hop : o.op = .fieldAddr 35 (.tmp 1) 5 := congrArg (fun x => x.2.1) hd
  have hb : Below W.heap.size W w := hx.e.below (Nat.le_refl _) (fun _ h => h.elim)
  refine st_val ho hd (.pointer (some ⟨p, 5, none⟩)) ?_ (Below.refl _ _) rfl (by decide)
  clear hd hn hl ho
  generalize a.eval = ρ at *
  simp [execOp, hop, h1, go_sem]
theorem fr_s46 : FrG 46 (some 53, .load 4 (.tmp 52), none) := by
  intro S vr vi vo p W ops Q H o ho hd a w h1 hx hl hn
  have hop : o.op = .load 4 (.tmp 52) := congrArg (fun x => x.2.1) hd
  have hb : Below W.heap.size W w := hx.e.below (Nat.le_refl _) (fun _ h => h.elim)
  have q45 : a.eval (.tmp 52) = .pointer (some ⟨p, 5, none⟩) := by
    have h := hn 45 (by decide)
    rw [hl] at h
    exact h
  have hc : w.cell? ⟨p, 5, none⟩ = some (.bool S.soft) := fr_cell H hb 5
  refine st_val ho hd (.bool S.soft) ?_ (Below.refl _ _) rfl (by decide)
  clear hd hn hl ho h1
  generalize a.eval = ρ at *
  simp [execOp, hop, q45, hc, go_sem]
theorem fr_s47 : FrG 47 (some 54, .build 102 #[(0, .tmp 11), (1, .tmp 17), (2, .tmp 21), (3, .tmp 25), (4, .tmp 29), (5, .tmp 49), (6, .tmp 51), (7, .tmp 53)], none) := by
  intro S vr vi vo p W ops Q H o ho hd a w h1 hx hl hn
  have hop : o.op = .build 102 #[(0, .tmp 11), (1, .tmp 17), (2, .tmp 21), (3, .tmp 25), (4, .tmp 29), (5, .tmp 49), (6, .tmp 51), (7, .tmp 53)] := congrArg (fun x => x.2.1) hd
  have hb : Below W.heap.size W w := hx.e.below (Nat.le_refl _) (fun _ h => h.elim)
  have q4 : ∃ g, a.eval (.tmp 11) = .pointer (some ⟨g, 0, none⟩) ∧ W.heap.size ≤ g ∧ w.heap[g]? = some (.cells #[a.eval (.tmp 9)] 106 (0, 0)) := by
    have h := hn 4 (by decide)
    rw [hl] at h
    exact h
  have q10 : ∃ g, a.eval (.tmp 17) = .pointer (some ⟨g, 0, none⟩) ∧ W.heap.size ≤ g ∧ w.heap[g]? = some (.cells #[.int .i64 S.off, .int .i64 S.code] 113 (0, 0)) := by
    have h := hn 10 (by decide)
    rw [hl] at h
    exact h
  have q14 : ∃ g, a.eval (.tmp 21) = .pointer (some ⟨g, 0, none⟩) ∧ W.heap.size ≤ g ∧ w.heap[g]? = some (.cells #[.int .u32 S.msip] 108 (0, 0)) := by
    have h := hn 14 (by decide)
    rw [hl] at h
    exact h
  have q18 : ∃ g, a.eval (.tmp 25) = .pointer (some ⟨g, 0, none⟩) ∧ W.heap.size ≤ g ∧ w.heap[g]? = some (.cells #[.int .u64 33570816, .int .u64 S.cmp] 110 (0, 0)) := by
    have h := hn 18 (by decide)
    rw [hl] at h
    exact h
  have q22 : ∃ g, a.eval (.tmp 29) = .pointer (some ⟨g, 0, none⟩) ∧ W.heap.size ≤ g ∧ w.heap[g]? = some (.cells #[.int .u64 33603576, .int .u64 S.time] 110 (0, 0)) := by
    have h := hn 22 (by decide)
    rw [hl] at h
    exact h
  have q42 : ∃ g, a.eval (.tmp 49) = .pointer (some ⟨g, 0, none⟩) ∧ W.heap.size ≤ g ∧ w.heap[g]? = some (.cells #[.int .u8 S.ier, .int .u8 S.lcr, .int .u8 S.mcr, .int .u8 S.scr, a.eval (.tmp 44), a.eval (.tmp 47)] 95 (0, 0)) := by
    have h := hn 42 (by decide)
    rw [hl] at h
    exact h
  have q44 : a.eval (.tmp 51) = .bool S.ext := by
    have h := hn 44 (by decide)
    rw [hl] at h
    exact h
  have q46 : a.eval (.tmp 53) = .bool S.soft := by
    have h := hn 46 (by decide)
    rw [hl] at h
    exact h
  obtain ⟨g4, p4, _, _⟩ := q4
  obtain ⟨g10, p10, _, _⟩ := q10
  obtain ⟨g14, p14, _, _⟩ := q14
  obtain ⟨g18, p18, _, _⟩ := q18
  obtain ⟨g22, p22, _, _⟩ := q22
  obtain ⟨g42, p42, _, _⟩ := q42
  refine st_val ho hd (.agg #[a.eval (.tmp 11), a.eval (.tmp 17), a.eval (.tmp 21), a.eval (.tmp 25), a.eval (.tmp 29), a.eval (.tmp 49), .bool S.ext, .bool S.soft]) ?_ (Below.refl _ _) ?_ (by decide)
  · clear hd hn hl ho h1
    generalize a.eval = ρ at *
    simp [execOp, hop, p4, p10, p14, p18, p22, p42, q44, q46, go_sem]
  · rw [hl]; rfl
theorem fr_s48 : FrG 48 (some 55, .box 102 (.tmp 54), none) := by
  intro S vr vi vo p W ops Q H o ho hd a w h1 hx hl hn
  have hop : o.op = .box 102 (.tmp 54) := congrArg (fun x => x.2.1) hd
  have hb : Below W.heap.size W w := hx.e.below (Nat.le_refl _) (fun _ h => h.elim)
  have q47 : a.eval (.tmp 54) = .agg #[a.eval (.tmp 11), a.eval (.tmp 17), a.eval (.tmp 21), a.eval (.tmp 25), a.eval (.tmp 29), a.eval (.tmp 49), .bool S.ext, .bool S.soft] := by
    have h := hn 47 (by decide)
    rw [hl] at h
    exact h
  have q4 : ∃ g, a.eval (.tmp 11) = .pointer (some ⟨g, 0, none⟩) ∧ W.heap.size ≤ g ∧ w.heap[g]? = some (.cells #[a.eval (.tmp 9)] 106 (0, 0)) := by
    have h := hn 4 (by decide)
    rw [hl] at h
    exact h
  have q10 : ∃ g, a.eval (.tmp 17) = .pointer (some ⟨g, 0, none⟩) ∧ W.heap.size ≤ g ∧ w.heap[g]? = some (.cells #[.int .i64 S.off, .int .i64 S.code] 113 (0, 0)) := by
    have h := hn 10 (by decide)
    rw [hl] at h
    exact h
  have q14 : ∃ g, a.eval (.tmp 21) = .pointer (some ⟨g, 0, none⟩) ∧ W.heap.size ≤ g ∧ w.heap[g]? = some (.cells #[.int .u32 S.msip] 108 (0, 0)) := by
    have h := hn 14 (by decide)
    rw [hl] at h
    exact h
  have q18 : ∃ g, a.eval (.tmp 25) = .pointer (some ⟨g, 0, none⟩) ∧ W.heap.size ≤ g ∧ w.heap[g]? = some (.cells #[.int .u64 33570816, .int .u64 S.cmp] 110 (0, 0)) := by
    have h := hn 18 (by decide)
    rw [hl] at h
    exact h
  have q22 : ∃ g, a.eval (.tmp 29) = .pointer (some ⟨g, 0, none⟩) ∧ W.heap.size ≤ g ∧ w.heap[g]? = some (.cells #[.int .u64 33603576, .int .u64 S.time] 110 (0, 0)) := by
    have h := hn 22 (by decide)
    rw [hl] at h
    exact h
  have q42 : ∃ g, a.eval (.tmp 49) = .pointer (some ⟨g, 0, none⟩) ∧ W.heap.size ≤ g ∧ w.heap[g]? = some (.cells #[.int .u8 S.ier, .int .u8 S.lcr, .int .u8 S.mcr, .int .u8 S.scr, a.eval (.tmp 44), a.eval (.tmp 47)] 95 (0, 0)) := by
    have h := hn 42 (by decide)
    rw [hl] at h
    exact h
  refine st_val ho hd (w' := w.alloc (.cells #[a.eval (.tmp 11), a.eval (.tmp 17), a.eval (.tmp 21), a.eval (.tmp 25), a.eval (.tmp 29), a.eval (.tmp 49), .bool S.ext, .bool S.soft] 102)) (.pointer (some ⟨w.heap.size, 0, none⟩)) ?_ ((Below.refl _ _).alloc (Nat.le_refl _) _) ?_ (by decide)
  · clear hn hl ho h1
    clear q4 q10 q14 q18 q22 q42 hd
    generalize a.eval = ρ at *
    simp [execOp, hop, q47, go_sem]
  · rw [hl]; exact ⟨w.heap.size, rfl, hb.size, alloc_at _ _⟩
theorem fr_s49 : FrG 49 (some 2, .assign (.tmp 55), none) := by
  intro S vr vi vo p W ops Q H o ho hd a w h1 hx hl hn
  have hop : o.op = .assign (.tmp 55) := congrArg (fun x => x.2.1) hd
  have hb : Below W.heap.size W w := hx.e.below (Nat.le_refl _) (fun _ h => h.elim)
  have q48 : ∃ g, a.eval (.tmp 55) = .pointer (some ⟨g, 0, none⟩) ∧ W.heap.size ≤ g ∧ w.heap[g]? = some (.cells #[a.eval (.tmp 11), a.eval (.tmp 17), a.eval (.tmp 21), a.eval (.tmp 25), a.eval (.tmp 29), a.eval (.tmp 49), .bool S.ext, .bool S.soft] 102 (0, 0)) := by
    have h := hn 48 (by decide)
    rw [hl] at h
    exact h
  obtain ⟨g, hp, hB, hh⟩ := q48
  refine st_val ho hd (.pointer (some ⟨g, 0, none⟩)) ?_ (Below.refl _ _) ?_ (by decide)
  · clear hd hn hl ho h1
    generalize a.eval = ρ at *
    simp [execOp, hop, hp, go_sem]
  · rw [hl]; exact hp.symm
theorem fr_s50 : FrG 50 (some 3, .assign (.const (.int .i64 0)), none) := by
  intro S vr vi vo p W ops Q H o ho hd a w h1 hx hl hn
  have hop : o.op = .assign (.const (.int .i64 0)) := congrArg (fun x => x.2.1) hd
  have hb : Below W.heap.size W w := hx.e.below (Nat.le_refl _) (fun _ h => h.elim)
  have hf : a.eval (.const (.int .i64 0)) = .int .i64 0 := rfl
  refine st_val ho hd (.int .i64 0) ?_ (Below.refl _ _) rfl (by decide)
  clear hd hn hl ho h1
  generalize a.eval = ρ at *
  simp [execOp, hop, hf, go_sem]
end Go.Proofs.YtlhgphokfpnfeaaGreatDoor
namespace Go.Proofs.YtlhgphokfpnfeaaGreatDoor
set_option linter.unusedVariables false
open Go.ChangeShapes Go.WideShapes Go.ChangeAt Go.RowKit Go.Deep
theorem frSlot_tab : ∀ k, ((frTab[k]?).bind (·.1)).getD 0 = frSlot k
  | 0 => rfl
  | 1 => rfl
  | 2 => rfl
  | 3 => rfl
  | 4 => rfl
  | 5 => rfl
  | 6 => rfl
  | 7 => rfl
  | 8 => rfl
  | 9 => rfl
  | 10 => rfl
  | 11 => rfl
  | 12 => rfl
  | 13 => rfl
  | 14 => rfl
  | 15 => rfl
  | 16 => rfl
  | 17 => rfl
  | 18 => rfl
  | 19 => rfl
  | 20 => rfl
  | 21 => rfl
  | 22 => rfl
  | 23 => rfl
  | 24 => rfl
  | 25 => rfl
  | 26 => rfl
  | 27 => rfl
  | 28 => rfl
  | 29 => rfl
  | 30 => rfl
  | 31 => rfl
  | 32 => rfl
  | 33 => rfl
  | 34 => rfl
  | 35 => rfl
  | 36 => rfl
  | 37 => rfl
  | 38 => rfl
  | 39 => rfl
  | 40 => rfl
  | 41 => rfl
  | 42 => rfl
  | 43 => rfl
  | 44 => rfl
  | 45 => rfl
  | 46 => rfl
  | 47 => rfl
  | 48 => rfl
  | 49 => rfl
  | 50 => rfl
  | _ + 51 => rfl
theorem fr_get {ops : Array Oper} (hsh : ops.toList.map shp = frTab.toList) {i : Nat} {o : Oper} (ho : ops[i]? = some o) : frTab[i]? = some (shp o) := by rw [← Array.getElem?_toList, ← hsh]; simp [ho]
theorem fr_slot {ops : Array Oper} (hsh : ops.toList.map shp = frTab.toList) (a : Act) : leftBy ops a = fun k => a.eval (.tmp (frSlot k)) := by
  funext k
  unfold leftBy slotOf
  rw [← frSlot_tab k]
  have e : (ops[k]?).bind (·.dst) = (frTab[k]?).bind (·.1) := by
    rw [← Array.getElem?_toList (xs := frTab), ← hsh]
    cases h : ops[k]? with
    | none => simp [h]
    | some o => simp [h, shp]
  rw [e]
theorem fr_step {S : St} {vr vi vo : Value} {p : Nat} {W : World} {ops : Array Oper} {Q : Exit → Act → World → Prop} (H : FrIn S vr vi vo p W) (hsh : ops.toList.map shp = frTab.toList) (a0 : Act) (h1 : a0.eval (.tmp 1) = .pointer (some ⟨p, 0, none⟩)) (hap : apartB ops 1 = true) :
    ∀ i o, ops[i]? = some o → ∀ a w, (∀ k, apartB ops k = true → a.eval (.tmp k) = a0.eval (.tmp k)) → Exk (fun _ => False) W w → (∀ k ∈ frNeed i, FK W.heap.size (frKd S vr vi vo p k) ((k :: frNeed k).map (leftBy ops a)) w) →
      wpOp Tryz.prog ops Q i (frK ops frNeed [2, 33, 40] (fun _ => False) W.heap.size (frKd S vr vi vo p) i o a w) a w := by
  intro i o ho a w hold hb hn
  have hl := fr_slot hsh a
  have h1' : a.eval (.tmp 1) = .pointer (some ⟨p, 0, none⟩) := (hold 1 hap).trans h1
  have hg := fr_get hsh ho
  match i, ho, hn, hg with
  | 0, ho, hn, hg => exact fr_s0 H ho (Option.some.inj hg).symm a w h1' hb hl hn
  | 1, ho, hn, hg => exact fr_s1 H ho (Option.some.inj hg).symm a w h1' hb hl hn
  | 2, ho, hn, hg => exact fr_s2 H ho (Option.some.inj hg).symm a w h1' hb hl hn
  | 3, ho, hn, hg => exact fr_s3 H ho (Option.some.inj hg).symm a w h1' hb hl hn
  | 4, ho, hn, hg => exact fr_s4 H ho (Option.some.inj hg).symm a w h1' hb hl hn
  | 5, ho, hn, hg => exact fr_s5 H ho (Option.some.inj hg).symm a w h1' hb hl hn
  | 6, ho, hn, hg => exact fr_s6 H ho (Option.some.inj hg).symm a w h1' hb hl hn
  | 7, ho, hn, hg => exact fr_s7 H ho (Option.some.inj hg).symm a w h1' hb hl hn
  | 8, ho, hn, hg => exact fr_s8 H ho (Option.some.inj hg).symm a w h1' hb hl hn
  | 9, ho, hn, hg => exact fr_s9 H ho (Option.some.inj hg).symm a w h1' hb hl hn
  | 10, ho, hn, hg => exact fr_s10 H ho (Option.some.inj hg).symm a w h1' hb hl hn
  | 11, ho, hn, hg => exact fr_s11 H ho (Option.some.inj hg).symm a w h1' hb hl hn
  | 12, ho, hn, hg => exact fr_s12 H ho (Option.some.inj hg).symm a w h1' hb hl hn
  | 13, ho, hn, hg => exact fr_s13 H ho (Option.some.inj hg).symm a w h1' hb hl hn
  | 14, ho, hn, hg => exact fr_s14 H ho (Option.some.inj hg).symm a w h1' hb hl hn
  | 15, ho, hn, hg => exact fr_s15 H ho (Option.some.inj hg).symm a w h1' hb hl hn
  | 16, ho, hn, hg => exact fr_s16 H ho (Option.some.inj hg).symm a w h1' hb hl hn
  | 17, ho, hn, hg => exact fr_s17 H ho (Option.some.inj hg).symm a w h1' hb hl hn
  | 18, ho, hn, hg => exact fr_s18 H ho (Option.some.inj hg).symm a w h1' hb hl hn
  | 19, ho, hn, hg => exact fr_s19 H ho (Option.some.inj hg).symm a w h1' hb hl hn
  | 20, ho, hn, hg => exact fr_s20 H ho (Option.some.inj hg).symm a w h1' hb hl hn
  | 21, ho, hn, hg => exact fr_s21 H ho (Option.some.inj hg).symm a w h1' hb hl hn
  | 22, ho, hn, hg => exact fr_s22 H ho (Option.some.inj hg).symm a w h1' hb hl hn
  | 23, ho, hn, hg => exact fr_s23 H ho (Option.some.inj hg).symm a w h1' hb hl hn
  | 24, ho, hn, hg => exact fr_s24 H ho (Option.some.inj hg).symm a w h1' hb hl hn
  | 25, ho, hn, hg => exact fr_s25 H ho (Option.some.inj hg).symm a w h1' hb hl hn
  | 26, ho, hn, hg => exact fr_s26 H ho (Option.some.inj hg).symm a w h1' hb hl hn
  | 27, ho, hn, hg => exact fr_s27 H ho (Option.some.inj hg).symm a w h1' hb hl hn
  | 28, ho, hn, hg => exact fr_s28 H ho (Option.some.inj hg).symm a w h1' hb hl hn
  | 29, ho, hn, hg => exact fr_s29 H ho (Option.some.inj hg).symm a w h1' hb hl hn
  | 30, ho, hn, hg => exact fr_s30 H ho (Option.some.inj hg).symm a w h1' hb hl hn
  | 31, ho, hn, hg => exact fr_s31 H ho (Option.some.inj hg).symm a w h1' hb hl hn
  | 32, ho, hn, hg => exact fr_s32 H ho (Option.some.inj hg).symm a w h1' hb hl hn
  | 33, ho, hn, hg => exact fr_s33 H ho (Option.some.inj hg).symm a w h1' hb hl hn
  | 34, ho, hn, hg => exact fr_s34 H ho (Option.some.inj hg).symm a w h1' hb hl hn
  | 35, ho, hn, hg => exact fr_s35 H ho (Option.some.inj hg).symm a w h1' hb hl hn
  | 36, ho, hn, hg => exact fr_s36 H ho (Option.some.inj hg).symm a w h1' hb hl hn
  | 37, ho, hn, hg => exact fr_s37 H ho (Option.some.inj hg).symm a w h1' hb hl hn
  | 38, ho, hn, hg => exact fr_s38 H ho (Option.some.inj hg).symm a w h1' hb hl hn
  | 39, ho, hn, hg => exact fr_s39 H ho (Option.some.inj hg).symm a w h1' hb hl hn
  | 40, ho, hn, hg => exact fr_s40 H ho (Option.some.inj hg).symm a w h1' hb hl hn
  | 41, ho, hn, hg => exact fr_s41 H ho (Option.some.inj hg).symm a w h1' hb hl hn
  | 42, ho, hn, hg => exact fr_s42 H ho (Option.some.inj hg).symm a w h1' hb hl hn
  | 43, ho, hn, hg => exact fr_s43 H ho (Option.some.inj hg).symm a w h1' hb hl hn
  | 44, ho, hn, hg => exact fr_s44 H ho (Option.some.inj hg).symm a w h1' hb hl hn
  | 45, ho, hn, hg => exact fr_s45 H ho (Option.some.inj hg).symm a w h1' hb hl hn
  | 46, ho, hn, hg => exact fr_s46 H ho (Option.some.inj hg).symm a w h1' hb hl hn
  | 47, ho, hn, hg => exact fr_s47 H ho (Option.some.inj hg).symm a w h1' hb hl hn
  | 48, ho, hn, hg => exact fr_s48 H ho (Option.some.inj hg).symm a w h1' hb hl hn
  | 49, ho, hn, hg => exact fr_s49 H ho (Option.some.inj hg).symm a w h1' hb hl hn
  | 50, ho, hn, hg => exact fr_s50 H ho (Option.some.inj hg).symm a w h1' hb hl hn
  | n + 51, ho, hn, hg => exact absurd (Array.getElem?_eq_some_iff.1 hg).1 (by show ¬ n + 51 < 51; omega)
/-- Where a bus of the program lies. -/
structure Lay where
  b : Nat
  m : Nat
  pw : Nat
  sw : Nat
  cm : Nat
  ck : Nat
  u : Nat
  q : Nat
  vr : Value
  vi : Value
  vo : Value
def pt (g : Nat) : Value := .pointer (some ⟨g, 0, none⟩)
/-- A bus of the program that keeps S lies there, in blocks from B on. -/
structure PB (B : Nat) (L : Lay) (S : St) (w : World) : Prop where
  hb : w.heap[L.b]? = some (.cells #[pt L.m, pt L.pw, pt L.sw, pt L.cm, pt L.ck, pt L.u, .bool S.ext, .bool S.soft] 102 (0, 0))
  hm : w.heap[L.m]? = some (.cells #[L.vr] 106 (0, 0))
  hp : w.heap[L.pw]? = some (.cells #[.int .i64 S.off, .int .i64 S.code] 113 (0, 0))
  hs : w.heap[L.sw]? = some (.cells #[.int .u32 S.msip] 108 (0, 0))
  hc : w.heap[L.cm]? = some (.cells #[.int .u64 33570816, .int .u64 S.cmp] 110 (0, 0))
  hk : w.heap[L.ck]? = some (.cells #[.int .u64 33603576, .int .u64 S.time] 110 (0, 0))
  hu : w.heap[L.u]? = some (.cells #[.int .u8 S.ier, .int .u8 S.lcr, .int .u8 S.mcr, .int .u8 S.scr, pt L.q, L.vo] 95 (0, 0))
  hq : w.heap[L.q]? = some (.cells #[.int .i32 0, .int .u32 0, L.vi, .bool S.ov] 123 (0, 0))
  wr : w.ownsRow B 5 1 L.vr S.ram.length (bv S.ram)
  wi : w.ownsRow B 5 1 L.vi S.inp.length (bv S.inp)
  wo : w.ownsRow B 5 1 L.vo S.out.length (bv S.out)
  ri : ∀ g, L.vr.ownBlock = some g → L.vi.ownBlock ≠ some g
  ro : ∀ g, L.vr.ownBlock = some g → L.vo.ownBlock ≠ some g
  io : ∀ g, L.vi.ownBlock = some g → L.vo.ownBlock ≠ some g
  lb : B ≤ L.b
  lm : B ≤ L.m
  lp : B ≤ L.pw
  ls : B ≤ L.sw
  lc : B ≤ L.cm
  lk : B ≤ L.ck
  lu : B ≤ L.u
  lq : B ≤ L.q
theorem PB.le {B B' : Nat} {L : Lay} {S : St} {w : World} (h : PB B L S w) (hB : B' ≤ B) : PB B' L S w :=
  ⟨h.hb, h.hm, h.hp, h.hs, h.hc, h.hk, h.hu, h.hq, own_le h.wr hB, own_le h.wi hB, own_le h.wo hB, h.ri, h.ro, h.io, Nat.le_trans hB h.lb, Nat.le_trans hB h.lm, Nat.le_trans hB h.lp, Nat.le_trans hB h.ls, Nat.le_trans hB h.lc, Nat.le_trans hB h.lk, Nat.le_trans hB h.lu, Nat.le_trans hB h.lq⟩
theorem fr_end {S : St} {vr vi vo : Value} {p : Nat} {W w : World} {ops : Array Oper} (hsh : ops.toList.map shp = frTab.toList) (a : Act) (hf : ∀ j, j < ops.size → FK W.heap.size (frKd S vr vi vo p j) ((j :: frNeed j).map (leftBy ops a)) w)
    (hd : ∀ j ∈ [2, 33, 40], ∀ k ∈ [2, 33, 40], j ≠ k → j < ops.size → k < ops.size → ∀ g, (leftBy ops a j).ownBlock = some g → (leftBy ops a k).ownBlock ≠ some g) :
    ∃ L, a.eval (.tmp 2) = pt L.b ∧ a.eval (.tmp 3) = .int .i64 0 ∧ PB W.heap.size L S w := by
  have hsz : ops.size = 51 := by have := congrArg List.length hsh; rw [List.length_map] at this; exact this
  rw [hsz, fr_slot hsh a] at hf hd
  have h2 : w.ownsRow W.heap.size 5 1 (a.eval (.tmp 9)) S.ram.length (bv S.ram) := hf 2 (by decide)
  have h33 : w.ownsRow W.heap.size 5 1 (a.eval (.tmp 40)) S.inp.length (bv S.inp) := hf 33 (by decide)
  have h40 : w.ownsRow W.heap.size 5 1 (a.eval (.tmp 47)) S.out.length (bv S.out) := hf 40 (by decide)
  have x4 : ∃ g, a.eval (.tmp 11) = .pointer (some ⟨g, 0, none⟩) ∧ W.heap.size ≤ g ∧ w.heap[g]? = some (.cells #[a.eval (.tmp 9)] 106 (0, 0)) := hf 4 (by decide)
  obtain ⟨m, e4, l4, h4⟩ := x4
  have x10 : ∃ g, a.eval (.tmp 17) = .pointer (some ⟨g, 0, none⟩) ∧ W.heap.size ≤ g ∧ w.heap[g]? = some (.cells #[.int .i64 S.off, .int .i64 S.code] 113 (0, 0)) := hf 10 (by decide)
  obtain ⟨pw, e10, l10, h10⟩ := x10
  have x14 : ∃ g, a.eval (.tmp 21) = .pointer (some ⟨g, 0, none⟩) ∧ W.heap.size ≤ g ∧ w.heap[g]? = some (.cells #[.int .u32 S.msip] 108 (0, 0)) := hf 14 (by decide)
  obtain ⟨sw, e14, l14, h14⟩ := x14
  have x18 : ∃ g, a.eval (.tmp 25) = .pointer (some ⟨g, 0, none⟩) ∧ W.heap.size ≤ g ∧ w.heap[g]? = some (.cells #[.int .u64 33570816, .int .u64 S.cmp] 110 (0, 0)) := hf 18 (by decide)
  obtain ⟨cm, e18, l18, h18⟩ := x18
  have x22 : ∃ g, a.eval (.tmp 29) = .pointer (some ⟨g, 0, none⟩) ∧ W.heap.size ≤ g ∧ w.heap[g]? = some (.cells #[.int .u64 33603576, .int .u64 S.time] 110 (0, 0)) := hf 22 (by decide)
  obtain ⟨ck, e22, l22, h22⟩ := x22
  have x37 : ∃ g, a.eval (.tmp 44) = .pointer (some ⟨g, 0, none⟩) ∧ W.heap.size ≤ g ∧ w.heap[g]? = some (.cells #[.int .i32 0, .int .u32 0, a.eval (.tmp 40), .bool S.ov] 123 (0, 0)) := hf 37 (by decide)
  obtain ⟨q, e37, l37, h37⟩ := x37
  have x42 : ∃ g, a.eval (.tmp 49) = .pointer (some ⟨g, 0, none⟩) ∧ W.heap.size ≤ g ∧ w.heap[g]? = some (.cells #[.int .u8 S.ier, .int .u8 S.lcr, .int .u8 S.mcr, .int .u8 S.scr, a.eval (.tmp 44), a.eval (.tmp 47)] 95 (0, 0)) := hf 42 (by decide)
  obtain ⟨u, e42, l42, h42⟩ := x42
  have x48 : ∃ g, a.eval (.tmp 55) = .pointer (some ⟨g, 0, none⟩) ∧ W.heap.size ≤ g ∧ w.heap[g]? = some (.cells #[a.eval (.tmp 11), a.eval (.tmp 17), a.eval (.tmp 21), a.eval (.tmp 25), a.eval (.tmp 29), a.eval (.tmp 49), .bool S.ext, .bool S.soft] 102 (0, 0)) := hf 48 (by decide)
  obtain ⟨b, e48, l48, h48⟩ := x48
  have h49 : a.eval (.tmp 2) = a.eval (.tmp 55) := hf 49 (by decide)
  have h50 : a.eval (.tmp 3) = .int .i64 0 := hf 50 (by decide)
  rw [e4, e10, e14, e18, e22, e42] at h48
  rw [e37] at h42
  exact ⟨⟨b, m, pw, sw, cm, ck, u, q, a.eval (.tmp 9), a.eval (.tmp 40), a.eval (.tmp 47)⟩, h49.trans e48, h50,
    h48, h4, h10, h14, h18, h22, h42, h37, h2, h33, h40, hd 2 (by decide) 33 (by decide) (by decide) (by decide) (by decide), hd 2 (by decide) 40 (by decide) (by decide) (by decide) (by decide), hd 33 (by decide) 40 (by decide) (by decide) (by decide) (by decide), l48, l4, l10, l14, l18, l22, l42, l37⟩
theorem fr_mem {S : St} {vr vi vo : Value} {p : Nat} (j : Nat) : ∀ f, frKd S vr vi vo p j ≠ .mem f := by
  intro f
  unfold frKd
  split <;> simp
set_option maxHeartbeats 1000000 in
theorem from_c (S : St) (ar ai ao : Option Addr) (cr ci co : Nat) (w : World) (hok : S.ok = true) (hr : Byt w (.slice ar S.ram.length cr) S.ram) (hi : Byt w (.slice ai S.inp.length ci) S.inp) (ho : Byt w (.slice ao S.out.length co) S.out)
    (lr : S.ram.length ≤ 140737488355328) (li : S.inp.length ≤ 140737488355328) (lo : S.out.length ≤ 140737488355328) :
    Calls Tryz.prog 22 #[.agg (stc S (.slice ar S.ram.length cr) (.slice ai S.inp.length ci) (.slice ao S.out.length co))] w fun e w' => ∃ L, e = .returned (.tuple #[pt L.b, .int .i64 0]) ∧ PB w.heap.size L S w' ∧ Below w.heap.size w w' := by
  have hC := canBe_c S ar ai ao cr ci co
  rw [hok] at hC
  have HIN : Hid (∀ w1, Below (w.alloc (.cells (stc S (.slice ar S.ram.length cr) (.slice ai S.inp.length ci) (.slice ao S.out.length co)) 35)).heap.size (w.alloc (.cells (stc S (.slice ar S.ram.length cr) (.slice ai S.inp.length ci) (.slice ao S.out.length co)) 35)) w1 →
      FrIn S (.slice ar S.ram.length cr) (.slice ai S.inp.length ci) (.slice ao S.out.length co) w.heap.size w1 ∧ Below w.heap.size w w1) := by
    intro w1 hb
    have hb0 : Below w.heap.size w w1 := ((Below.refl _ _).alloc (Nat.le_refl _) _).trans (hb.mono (by simp))
    refine ⟨⟨?_, fun j => ?_, hr.later hb0 rfl, hi.later hb0 rfl, ho.later hb0 rfl, lr, li, lo⟩, hb0⟩
    · have := hb.size; simp at this; omega
    · rw [hb.cell (by simp)]
      rw [cell_of_row _ _ _ _ _ _ (alloc_at w _)]
  clear hr hi ho
  unfold stc at hC HIN ⊢
  go_enter Tryz.func22, Tryz.ntmps22
  go_wp2_with (go_at_call 43; refine (hC _).mono ?_; rintro e w1 ⟨rfl, hb1⟩)
  obtain ⟨hin, hbel⟩ := HIN.out w1 hb1
  rename_i hK
  refine wp_region_bag (by kernel_rfl) frNeed (fun j => FK w1.heap.size (frKd S (.slice ar S.ram.length cr) (.slice ai S.inp.length ci) (.slice ao S.out.length co) w.heap.size j)) [2, 33, 40] (fun _ => False) 51 w1 w1 _ (by kernel_rfl) (fun k _ _ h => absurd h (Nat.lt_irrefl 51)) (fun j vs w w' _ h hb => FK.mono (fun _ h => h.elim) (fr_mem j) h hb) ?_ (Exk.refl _ _) (fr_step hin (by rfl) _ rfl (by rfl)) ?_
  · intro j hj v vs w' hf g hg
    simp only [List.mem_cons, List.not_mem_nil, or_false] at hj
    rcases hj with rfl | rfl | rfl
    · exact (World.ownsRow.lt (show w'.ownsRow w1.heap.size 5 1 v S.ram.length (bv S.ram) from hf) g hg).2
    · exact (World.ownsRow.lt (show w'.ownsRow w1.heap.size 5 1 v S.inp.length (bv S.inp) from hf) g hg).2
    · exact (World.ownsRow.lt (show w'.ownsRow w1.heap.size 5 1 v S.out.length (bv S.out) from hf) g hg).2
  · intro a w2 hts hdf hold hb2 hf hdis
    have hb2 : Below w1.heap.size w1 w2 := hb2.e.below (Nat.le_refl _) (fun _ h => h.elim)
    obtain ⟨L, e2, e3, hPB⟩ := fr_end (by rfl) a hf hdis
    refine hK a w2 ?_
    refine wp_ret (bodyPost_ret (v := .tuple #[pt L.b, .int .i64 0]) ?_ hdf ?_)
    · rw [← e2, ← e3]
      have e := results_tmp2 (fn := Tryz.f22) (t := 2) (u := 3) rfl a.tmps Tryz.prog w2
      rw [e]
      simp [Act.eval]
    · exact ⟨L, rfl, hPB.le hbel.size, hbel.trans (hb2.mono hbel.size)⟩
end Go.Proofs.YtlhgphokfpnfeaaGreatDoor
namespace Go.Proofs.YtlhgphokfpnfeaaGreatDoor
abbrev muLink : Go.Conc.Locks.MuLink := { lock := 63, unlock := 64, ilock := 82, iunlock := 83, lockSlow := 105, unlockSlow := 108, disable := 101, enable := 103, acquire := 104, relMerge := 106, cas32 := 102, add32 := 107, tMutex := 121, tIMutex := 119, tPMutex := 166, tPIMutex := 173, tPI32 := 175, tUP := 177, tNoCopy := 117, tU32 := 33 }
theorem muLib : Go.Conc.Locks.MuLib Tryz.prog muLink :=
  ⟨Tryz.func63, Tryz.func64, Tryz.func82, Tryz.func83, Tryz.func101, Tryz.func103, Tryz.func104, Tryz.func106, Tryz.func102, Tryz.func107, Tryz.underlying119, Tryz.runUnderlying119, Tryz.sizeOf119, Tryz.isAgg119, Tryz.zeroValue119, Tryz.underlying121, Tryz.runUnderlying121, Tryz.sizeOf121, Tryz.isAgg121, Tryz.zeroValue121, Tryz.underlying166, Tryz.runUnderlying166, Tryz.sizeOf166, Tryz.isAgg166, Tryz.zeroValue166, Tryz.underlying173, Tryz.runUnderlying173, Tryz.sizeOf173, Tryz.isAgg173, Tryz.zeroValue173, Tryz.underlying175, Tryz.runUnderlying175, Tryz.sizeOf175, Tryz.isAgg175, Tryz.zeroValue175, Tryz.underlying177, Tryz.runUnderlying177, Tryz.sizeOf177, Tryz.isAgg177, Tryz.zeroValue177, Tryz.underlying117, Tryz.runUnderlying117, Tryz.sizeOf117, Tryz.isAgg117, Tryz.zeroValue117, Tryz.underlying21, Tryz.runUnderlying21, Tryz.sizeOf21, Tryz.isAgg21, Tryz.zeroValue21, (by kernel_rfl)⟩
end Go.Proofs.YtlhgphokfpnfeaaGreatDoor
