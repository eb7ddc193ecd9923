/-
  Up.
-/
import Derived.Test.YtidfndgedopghaaGreatDoorQ42
namespace Go.Proofs.YtidfndgedopghaaGreatDoor
set_option linter.unusedVariables false
set_option maxRecDepth 100000
set_option maxHeartbeats 4000000
open Go.ChangeShapes Go.WideShapes Go.ChangeAt Go.RowKit Go.Deep
section
variable {P : Program} {ops : Array Oper} {Q : Exit → Act → World → Prop}
/-- What is asked of an operation. -/
def Stp (P : Program) (ops : Array Oper) (Q : Exit → Act → World → Prop) (need : Nat → List Nat) (F : Nat → Value → World → Prop) (W : World) (a0 : Act) (i : Nat) (o : Oper) : Prop :=
  o.dst ≠ none ∧ ∀ a w, (∀ k, apartB ops k = true → a.eval (.tmp k) = a0.eval (.tmp k)) → Below W.heap.size W w → (∀ k ∈ need i, F k (leftBy ops a k) w) →
    wpOp P ops Q i (fun a' w' => ∃ v, a' = a.put o.dst v ∧ Below w.heap.size w w' ∧ F i v w') a w
theorem stp_val {need : Nat → List Nat} {F : Nat → Value → World → Prop} {W : World} {a0 : Act} {i : Nat} {o : Oper} (ho : ops[i]? = some o) (hg : o.guard = none) (hd : o.dst ≠ none)
    (h : ∀ a w, (∀ k, apartB ops k = true → a.eval (.tmp k) = a0.eval (.tmp k)) → Below W.heap.size W w → (∀ k ∈ need i, F k (leftBy ops a k) w) → ∃ v w', (execOp a.eval o).run P w = .ok (.value v) w' ∧ Below w.heap.size w w' ∧ F i v w') : Stp P ops Q need F W a0 i o :=
  ⟨hd, fun a w h1 h2 h3 => wpOp_plain ho hg (by
    obtain ⟨v, w', hr, hb, hf⟩ := h a w h1 h2 h3
    unfold Oper.wp; rw [hr]; exact ⟨v, rfl, hb, hf⟩)⟩
/-- One that only reads: its value is known. -/
theorem stp_con {need : Nat → List Nat} {F : Nat → Value → World → Prop} {W : World} {a0 : Act} {i : Nat} {o : Oper} (v : Value) (hF : F i = fun u _ => u = v) (ho : ops[i]? = some o) (hg : o.guard = none) (hd : o.dst ≠ none)
    (h : ∀ a w, (∀ k, apartB ops k = true → a.eval (.tmp k) = a0.eval (.tmp k)) → Below W.heap.size W w → (∀ k ∈ need i, F k (leftBy ops a k) w) → (execOp a.eval o).run P w = .ok (.value v) w) : Stp P ops Q need F W a0 i o :=
  stp_val ho hg hd fun a w h1 h2 h3 => ⟨v, w, h a w h1 h2 h3, Below.refl _ _, by rw [hF]⟩
theorem stp_call {need : Nat → List Nat} {F : Nat → Value → World → Prop} {W : World} {a0 : Act} {i : Nat} {o : Oper} (f : FuncId) (ho : ops[i]? = some o) (hg : o.guard = none) (hd : o.dst ≠ none)
    (h : ∀ a w, (∀ k, apartB ops k = true → a.eval (.tmp k) = a0.eval (.tmp k)) → Below W.heap.size W w → (∀ k ∈ need i, F k (leftBy ops a k) w) → ∃ args, (execOp a.eval o).run P w = .ok (.enter f args) w ∧ Calls P f args w fun e w' => ∃ u, e = .returned u ∧ Below w.heap.size w w' ∧ F i u w') : Stp P ops Q need F W a0 i o :=
  ⟨hd, fun a w h1 h2 h3 => wpOp_plain ho hg (by
    obtain ⟨args, hr, hc⟩ := h a w h1 h2 h3
    unfold Oper.wp; rw [hr]
    refine Calls.mono hc ?_
    rintro e w' ⟨u, rfl, hb, hf⟩
    exact ⟨u, rfl, hb, hf⟩)⟩
theorem wp_region_mk {id : Nat} (hm : P.follows .mixedOrders = true) (need : Nat → List Nat) (F : Nat → Value → World → Prop) (W : World) (a0 : Act) (hB : bagB ops need a0.tmps.size = true) (hF : ∀ j v w w', F j v w → Below w.heap.size w w' → F j v w')
    (hstep : ∀ i o, ops[i]? = some o → Stp P ops Q need F W a0 i o)
    (hend : ∀ a w, a.tmps.size = a0.tmps.size → a.defers = a0.defers → (∀ k, apartB ops k = true → a.eval (.tmp k) = a0.eval (.tmp k)) → Below W.heap.size W w → (∀ j, j < ops.size → F j (leftBy ops a j) w) → Q .normal a w) :
    (Code.region id ops true).wp P Q a0 W := by
  have eb : ∀ {w w' : World}, Exk (fun _ => False) w w' → Below w.heap.size w w' := fun h => h.e.below (Nat.le_refl _) (fun _ h => h.elim)
  refine wp_region_bag hm need (fun j vs w => match vs with | v :: _ => F j v w | [] => False) [] (fun _ => False) ops.size W W a0 hB (fun k _ _ h => absurd h (Nat.lt_irrefl _)) ?_ (fun j hj => by cases hj) (Exk.refl _ _) ?_ ?_
  · intro j vs w w' _ h hb
    cases vs with
    | nil => exact h
    | cons v vs => exact hF j v w w' h (eb hb)
  · intro i o ho a w h1 h2 h3
    obtain ⟨hd, hs⟩ := hstep i o ho
    refine wpOp_mono ?_ (hs a w h1 (eb h2) (fun k hk => h3 k hk))
    rintro a' w' ⟨v, rfl, hb, hf⟩
    refine ⟨v, rfl, Exk.of_below hb rfl, fun v' h => ?_, fun h => by cases h⟩
    rcases h with h | h
    · exact absurd h hd
    · rw [h]; exact hf
  · intro a w h1 h2 h3 h4 h5 _
    exact hend a w h1 h2 h3 (eb h4) (fun j hj => h5 j hj)
/-- So, and the last operation, which waits for all the others, does as it likes. -/
theorem wp_region_mkf {id : Nat} (hm : P.follows .mixedOrders = true) (fin : Nat) (need : Nat → List Nat) (F : Nat → Value → World → Prop) (W : World) (a0 : Act) (hB : bagB ops need a0.tmps.size = true) (hflt : fin < ops.size) (hfin : ∀ k, k < ops.size → k ≠ fin → k ∈ need fin) (hF : ∀ j v w w', F j v w → Below w.heap.size w w' → F j v w')
    (hstep : ∀ i o, ops[i]? = some o → i ≠ fin → Stp P ops Q need F W a0 i o)
    (hend : ∀ o, ops[fin]? = some o → ∀ a w, a.tmps.size = a0.tmps.size → a.defers = a0.defers → (∀ k, apartB ops k = true → a.eval (.tmp k) = a0.eval (.tmp k)) → Below W.heap.size W w → (∀ j, j < ops.size → j ≠ fin → F j (leftBy ops a j) w) → wpOp P ops Q fin (fun a' w' => Q .normal a' w') a w) :
    (Code.region id ops true).wp P Q a0 W := by
  have eb : ∀ {w w' : World}, Exk (fun _ => False) w w' → Below w.heap.size w w' := fun h => h.e.below (Nat.le_refl _) (fun _ h => h.elim)
  refine wp_region_any hm ?_
  let F' : Nat → List Value → World → Prop := fun j vs w => match vs with | v :: _ => F j v w | [] => False
  have hF' : ∀ j vs w w', j ≠ ops.size → F' j vs w → Exk (fun _ => False) w w' → F' j vs w' := fun j vs w w' _ h hb => by
    cases vs with
    | nil => exact h
    | cons v vs => exact hF j v w w' h (eb hb)
  have main : ∀ (fuel : Nat) (listed : Array Bool) a w, listed.toList.count false ≤ fuel → ((listed.getD fin false = false ∧ Bag ops need F' [] (fun _ => False) W a0 listed a w) ∨ (Region.ready .any ops listed = [] ∧ Q .normal a w)) → wpAny P .any ops Q fuel listed a w := by
    intro fuel
    have hdone : ∀ (listed : Array Bool) a w, listed.getD fin false = false → Bag ops need F' [] (fun _ => False) W a0 listed a w → Region.ready .any ops listed ≠ [] := fun listed a w hf h hr => by
      have := bag_all hB h.size hr fin hflt
      rw [hf] at this; cases this
    induction fuel with
    | zero =>
      intro listed a w hc h
      rcases h with ⟨hf, h⟩ | ⟨hr, hq⟩
      · exfalso
        refine hdone listed a w hf h (List.eq_nil_iff_forall_not_mem.2 fun j hj => ?_)
        obtain ⟨h0, o, ho, _⟩ := mem_ready.1 hj
        have hjl : j < listed.size := by rw [h.size]; exact (Array.getElem?_eq_some_iff.1 ho).1
        have : false ∈ listed.toList := by
          simp [hjl] at h0
          rw [← h0]; simp
        have := List.count_pos_iff.2 this
        omega
      · exact ⟨hr, hq⟩
    | succ fuel ih =>
      intro listed a w hc h
      rcases h with ⟨hf, h⟩ | ⟨hr, hq⟩
      · refine ⟨fun hr => absurd hr (hdone listed a w hf h), fun i hi => ?_⟩
        obtain ⟨h0, o, ho, hall⟩ := mem_ready.1 hi
        have hok := bagB_spec hB ho
        have hjl : i < listed.size := by rw [h.size]; exact (Array.getElem?_eq_some_iff.1 ho).1
        have hneed : ∀ k ∈ need i, listed.getD k false = true := fun k hk => by
          obtain ⟨e, he, hbe, h1 | h1⟩ := hok.need k hk
          · rw [← h1]; exact hall e he hbe
          · exact h.cl e.on (hall e he hbe) k h1
        have hcnt : (listed.setIfInBounds i true).toList.count false ≤ fuel := by
          have h1 : listed.toList[i]'(by simpa using hjl) = false := by simp [hjl] at h0; simpa using h0
          rw [Array.toList_setIfInBounds, List.count_set (by simpa using hjl), h1]
          have h2 : 0 < listed.toList.count false := List.count_pos_iff.2 (by rw [← h1]; simp)
          simp only [beq_self_eq_true, if_true, show (true == false) = false from rfl, Bool.false_eq_true, if_false]
          omega
        by_cases hif : i = fin
        · subst hif
          refine wpOp_mono ?_ (hend o ho a w h.tsz h.dfr h.old (eb h.bel) (fun j hj hne => h.fact j (hneed j (hfin j hj hne))))
          intro a' w' hq
          refine ih _ _ _ hcnt (.inr ⟨?_, hq⟩)
          refine List.eq_nil_iff_forall_not_mem.2 fun j hj => ?_
          obtain ⟨h0', o', ho', _⟩ := mem_ready.1 hj
          have hj' : j < ops.size := (Array.getElem?_eq_some_iff.1 ho').1
          have hjl' : j < listed.size := by rw [h.size]; exact hj'
          by_cases e : i = j
          · subst e; simp [hjl] at h0'
          · rw [getD_set_ne true e] at h0'
            have := hneed j (hfin j hj' (Ne.symm e))
            simp [hjl'] at h0' this
            rw [h0'] at this; cases this
        · obtain ⟨hd, hs⟩ := hstep i o ho hif
          refine wpOp_mono ?_ (hs a w h.old (eb h.bel) (fun k hk => h.fact k (hneed k hk)))
          rintro a' w' ⟨v, rfl, hb, hf2⟩
          refine ih _ _ _ hcnt (.inl ⟨by rw [getD_set_ne false hif]; exact hf, h.step ops.size hB (fun k _ _ h => absurd h (Nat.lt_irrefl _)) hF' (fun j hj => by cases hj) ho h0 hall (Exk.of_below hb rfl) (fun v' h => ?_) (fun h => by cases h)⟩)
          rcases h with h | h
          · exact absurd h hd
          · rw [h]; exact hf2
      · exact ⟨fun _ => hq, fun i hi => by rw [hr] at hi; cases hi⟩
  refine main _ _ _ _ (by simp) (.inl ⟨?_, ⟨by simp, rfl, rfl, fun _ _ => rfl, ?_, fun j hj => ?_, fun j hj => ?_, fun j hj => by cases hj⟩⟩)
  · simp [Array.getElem?_replicate]; split <;> rfl
  · exact ⟨⟨rfl, rfl, rfl, Nat.le_refl _, fun _ _ _ => rfl⟩, fun _ h => h.elim⟩
  · exfalso; simp [Array.getElem?_replicate] at hj; split at hj <;> simp at hj
  · exfalso; simp [Array.getElem?_replicate] at hj; split at hj <;> simp at hj
end
theorem wpO_store_rowX {P : Program} {o : Oper} {a : Act} {w : World} {K : Act → World → Prop} {Q : Exit → Act → World → Prop} (t : TypeId) (x y : Operand) (ho : o.op = .store t x y)
    (g : Nat) (c c' : Array Value) (hx : a.eval x = .pointer (some ⟨g, 0, none⟩)) (hy : a.eval y = .agg c') (hg : Row w g c t) (hi : (P.info? t).map (·.size) = some c'.size) (hs : c.size = c'.size) (h1 : c'.all (·.oneCell') = true)
    (h : K (a.put o.dst undef) (w.setRow g c')) : o.wp P a w K Q := by
  unfold Oper.wp execOp
  simp only [ho, hx, hy, Instr.storeAt, Instr.sureAddr, Sem.run_bind, Sem.run_pure, Result.andThen_ok, run_storeVar_row w g t t c c' hg hi hs h1]
  exact h
/-- A Cpu in U, that does nothing. -/
def cst : Cp := { cz with pc := 2147483648#64, s := upd cz.s 0 8589934592#64 }
def sst : St := { zS with ram := List.replicate 8 0, cmp := 9 }
def b8 : Array Value := #[.int .u8 0, .int .u8 0, .int .u8 0, .int .u8 0, .int .u8 0, .int .u8 0, .int .u8 0, .int .u8 0]
theorem built_cst : Tryz.prog.built 32 [(0, .int .u64 2147483648), (4, .int .u64 8589934592)] = some (cpc cst) := by kernel_rfl
theorem built_sst (g : Nat) : Tryz.prog.built 44 [(0, .slice (some ⟨g, 0, none⟩) 8 8), (2, .int .u64 9)] = some (stc sst (.slice (some ⟨g, 0, none⟩) 8 8) (.slice none 0 0) (.slice none 0 0)) := by kernel_rfl
theorem built_wst (g : Nat) : Tryz.prog.built 46 [(0, .agg (cpc cst)), (1, .agg (stc sst (.slice (some ⟨g, 0, none⟩) 8 8) (.slice none 0 0) (.slice none 0 0)))] = some (whc cst sst (.slice (some ⟨g, 0, none⟩) 8 8) (.slice none 0 0) (.slice none 0 0)) := by kernel_rfl
set_option maxHeartbeats 4000000 in
theorem still_c (w : World) : Calls Tryz.prog 21 #[] w fun e w' => ∃ g, e = .returned (.agg (whc cst sst (.slice (some ⟨g, 0, none⟩) 8 8) (.slice none 0 0) (.slice none 0 0))) ∧ Row w' g b8 5 ∧ w.heap.size ≤ g ∧ Below w.heap.size w w' := by
  have hz := zero_wh
  have hzc := zero_cpu
  have hb1 := built_cst
  have hb2 := built_sst
  have hb3 := built_wst
  obtain ⟨W0, hW0, r0, b0, s0⟩ := start1 w whz 46
  have HS0 : Hid (W0.heap.size = w.heap.size + 1) := s0
  clear s0
  go_enter Tryz.func21, Tryz.ntmps21
  go_upto_region 1 with fail
  clear hW0
  go_upto_region 2 with (first | (refine wpList_build_tab (by rfl) 32 _ (by rfl) (cpc cst) (by kernel_rfl) ?_) | (refine wpList_store_new (by rfl) 32 _ _ (by rfl) (by rfl) (cpc cz) (cpc cst) (by rfl) (by rfl) (info_cpuU _) (by rw [cpc_size, cpc_size]) (cpc_ones _) ?_))
  --@R2
  refine on_W (motive := fun W => Code.wp _ _ _ _ W) (Q := fun W => Row W w.heap.size whz 46 ∧ Row W W0.heap.size (cpc cst) 32 ∧ Below w.heap.size w W ∧ w.heap.size + 2 ≤ W.heap.size) ⟨r0.out.old r0.out.lt _, Row.new _ _ _, b0.out.trans ((below_al _ _).mono b0.out.size), by have := HS0.out; simp; omega⟩ ?_
  generalize W0.heap.size = g1 at *
  clear r0 b0 hz hzc hb1
  rintro W1 ⟨q0, q1, qb, qs⟩
  have r0 := Hid.mkU q0
  have r1 := Hid.mkU q1
  have BB := Hid.mkU qb
  have HS1 := Hid.mkU qs
  clear q0 q1 qb qs
  refine wp_region_mkf (by kernel_rfl) 4 (fun i => ([[], [], [1], [0, 2, 1], [3, 0, 1, 2]] : List (List Nat)).getD i []) (fun i => ([fun v _ => v = .agg (cpc cst), fun v x => ∃ g, v = .slice (some ⟨g, 0, none⟩) 8 8 ∧ w.heap.size + 2 ≤ g ∧ Row x g b8 5, fun v x => ∃ g, v = .agg (stc sst (.slice (some ⟨g, 0, none⟩) 8 8) (.slice none 0 0) (.slice none 0 0)) ∧ w.heap.size + 2 ≤ g ∧ Row x g b8 5, fun v x => ∃ g, v = .agg (whc cst sst (.slice (some ⟨g, 0, none⟩) 8 8) (.slice none 0 0) (.slice none 0 0)) ∧ w.heap.size + 2 ≤ g ∧ Row x g b8 5] : List (Value → World → Prop)).getD i (fun _ _ => True)) W1 _ (by kernel_rfl) (by decide) (by decide) ?_ ?_ ?_
  · intro j v x x' h hb
    match j, h with
    | 0, h => exact h
    | 1, h => obtain ⟨g, h1, h2, h3⟩ := h; exact ⟨g, h1, h2, h3.later hb h3.lt⟩
    | 2, h => obtain ⟨g, h1, h2, h3⟩ := h; exact ⟨g, h1, h2, h3.later hb h3.lt⟩
    | 3, h => obtain ⟨g, h1, h2, h3⟩ := h; exact ⟨g, h1, h2, h3.later hb h3.lt⟩
    | j + 4, h => trivial
  · refine hop_list ?_
    refine ⟨fun _ => ?_, fun _ => ?_, fun _ => ?_, fun _ => ?_, fun h => absurd rfl h, trivial⟩
    · refine stp_con (.agg (cpc cst)) rfl rfl rfl (by simp) (fun ac w9 h1 h2 h3 => ?_)
      have q0 : ac.eval (.tmp 1) = .pointer (some ⟨g1, 0, none⟩) := (h1 1 (by kernel_rfl)).trans rfl
      have hl := ld_aggs (P := Tryz.prog) 32 g1 0 (cpc cst) _ w9 (lrow_cells (r1.out.later h2 r1.out.lt)) Tryz.underlying32 (by rfl) (info_cpuU _)
      clear h1 h2 h3
      generalize ac.eval = ρ at *
      simp only [execOp, q0]
      exact hl
    · refine stp_val rfl rfl (by simp) (fun ac w9 h1 h2 h3 => ⟨.slice (some ⟨w9.heap.size, 0, none⟩) 8 8, w9.alloc (.cells b8 5), ?_, below_al _ _, w9.heap.size, rfl, ?_, Row.new _ _ _⟩)
      · kernel_rfl
      · have q := h2.size; have q2 := HS1.out; omega
    · refine stp_val rfl rfl (by simp) (fun ac w9 h1 h2 h3 => ?_)
      obtain ⟨g, e, hg1, hg2⟩ := h3 1 (by simp)
      have q0 : ac.eval (.tmp 4) = .slice (some ⟨g, 0, none⟩) 8 8 := e
      refine ⟨_, w9, ?_, Below.refl _ _, g, rfl, hg1, hg2⟩
      have hc : Tryz.prog.built 44 ((#[(0, Operand.tmp 4), (2, Operand.const (Value.int IntKind.u64 9))] : Array (Nat × Operand)).map fun (i, x) => (i, ac.eval x)).toList = some (stc sst (.slice (some ⟨g, 0, none⟩) 8 8) (.slice none 0 0) (.slice none 0 0)) := by
        simp only [List.map_toArray, List.map_cons, List.map_nil, q0]; exact hb2 g
      unfold execOp
      simp only [Sem.run_bind, run_build w9 44 _ _ hc, Result.andThen_ok]
      rfl
    · refine stp_val rfl rfl (by simp) (fun ac w9 h1 h2 h3 => ?_)
      obtain ⟨g, e, hg1, hg2⟩ := h3 2 (by simp)
      have q0 : ac.eval (.tmp 5) = .agg (stc sst (.slice (some ⟨g, 0, none⟩) 8 8) (.slice none 0 0) (.slice none 0 0)) := e
      have q1 : ac.eval (.tmp 3) = .agg (cpc cst) := h3 0 (by simp)
      refine ⟨_, w9, ?_, Below.refl _ _, g, rfl, hg1, hg2⟩
      have hc : Tryz.prog.built 46 ((#[(0, Operand.tmp 3), (1, Operand.tmp 5)] : Array (Nat × Operand)).map fun (i, x) => (i, ac.eval x)).toList = some (whc cst sst (.slice (some ⟨g, 0, none⟩) 8 8) (.slice none 0 0) (.slice none 0 0)) := by
        simp only [List.map_toArray, List.map_cons, List.map_nil, q0, q1]; exact hb3 g
      unfold execOp
      simp only [Sem.run_bind, run_build w9 46 _ _ hc, Result.andThen_ok]
      rfl
  · intro o ho ac w9 h0 hd h1 h2 h3
    obtain rfl := (Option.some.inj ho)
    obtain ⟨g, e, hg1, hg2⟩ := h3 3 (by simp) (by decide)
    have q0 : ac.eval (.tmp 0) = .pointer (some ⟨w.heap.size, 0, none⟩) := (h1 0 (by kernel_rfl)).trans rfl
    have q1 : ac.eval (.tmp 6) = .agg (whc cst sst (.slice (some ⟨g, 0, none⟩) 8 8) (.slice none 0 0) (.slice none 0 0)) := e
    have HR := r0.out.later h2 r0.out.lt
    refine wpOp_plain rfl rfl (wpO_store_rowX 46 _ _ rfl w.heap.size whz _ q0 q1 HR (info_whU _ _ _ _ _) (whz_size _ _ _ _ _) (whc_ones _ _ _ _ _ _ _ _ _ _ _) ?_)
    show Exit.then _ _ .normal _ _
    unfold Exit.then
    simp only
    apply_assumption
    refine wp_ret (bodyPost_ret (v := .agg (whc cst sst (.slice (some ⟨g, 0, none⟩) 8 8) (.slice none 0 0) (.slice none 0 0))) (results_cell_row Tryz.results21 _ _ w.heap.size 46 _ (0, 0) _ ?_ (setRow_heap _ _ _ _ _ _ HR) Tryz.underlying46 (by rfl) (info_whU _ _ _ _ _)) hd ?_)
    · exact q0
    · exact ⟨g, rfl, (setRow_other _ _ _ _ (by omega)).trans hg2, by omega, below_row (BB.out.trans (h2.mono BB.out.size)) (Nat.le_refl _) _⟩
end Go.Proofs.YtidfndgedopghaaGreatDoor
