/-
  A region that draws its order and whose operations read, call and make memory: by a fact on each operation's value that stays true as memory grows.
-/
import Derived.Test.YtnlkamfoopikhaaHc
namespace Go.Proofs.Ytnlkamfoopikhaa
set_option linter.unusedVariables false
set_option maxRecDepth 100000
open Go.ChangeShapes Go.WideShapes Go.ChangeAt Go.RowKit Go.Deep
section
variable {P : Program} {ops : Array Oper} {Q : Exit → Act → World → Prop}
def HopL (Pr : Nat → Oper → Prop) : Nat → List Oper → Prop
  | _, [] => True
  | i, o :: r => Pr i o ∧ HopL Pr (i + 1) r
theorem hop_go {Pr : Nat → Oper → Prop} : ∀ (l : List Oper) (k : Nat), HopL Pr k l → ∀ i o, l[i]? = some o → Pr (k + i) o
  | [], _, _, i, o, ho => by simp at ho
  | x :: r, k, h, 0, o, ho => by
    obtain rfl : x = o := by simpa using ho
    exact h.1
  | x :: r, k, h, i + 1, o, ho => by
    have := hop_go r (k + 1) h.2 i o (by simpa using ho)
    rwa [show k + 1 + i = k + (i + 1) by omega] at this
theorem hop_list {Pr : Nat → Oper → Prop} {l : List Oper} (h : HopL Pr 0 l) : ∀ i o, l.toArray[i]? = some o → Pr i o := fun i o ho => by
  have q := hop_go l 0 h i o (by simpa using ho)
  rwa [Nat.zero_add] at q
/-- What is asked of an operation. -/
def Stp (P : Program) (ops : Array Oper) (Q : Exit → Act → World → Prop) (need : Nat → List Nat) (F : Nat → Value → World → Prop) (W : World) (a0 : Act) (i : Nat) (o : Oper) : Prop :=
  o.dst ≠ none ∧ ∀ a w, (∀ k, apartB ops k = true → a.eval (.tmp k) = a0.eval (.tmp k)) → Below W.heap.size W w → (∀ k ∈ need i, F k (leftBy ops a k) w) →
    wpOp P ops Q i (fun a' w' => ∃ v, a' = a.put o.dst v ∧ Below w.heap.size w w' ∧ F i v w') a w
theorem stp_val {need : Nat → List Nat} {F : Nat → Value → World → Prop} {W : World} {a0 : Act} {i : Nat} {o : Oper} (ho : ops[i]? = some o) (hg : o.guard = none) (hd : o.dst ≠ none)
    (h : ∀ a w, (∀ k, apartB ops k = true → a.eval (.tmp k) = a0.eval (.tmp k)) → Below W.heap.size W w → (∀ k ∈ need i, F k (leftBy ops a k) w) → ∃ v w', (execOp a.eval o).run P w = .ok (.value v) w' ∧ Below w.heap.size w w' ∧ F i v w') : Stp P ops Q need F W a0 i o :=
  ⟨hd, fun a w h1 h2 h3 => wpOp_plain ho hg (by
    obtain ⟨v, w', hr, hb, hf⟩ := h a w h1 h2 h3
    unfold Oper.wp; rw [hr]; exact ⟨v, rfl, hb, hf⟩)⟩
/-- One that only reads: its value is known. -/
theorem stp_con {need : Nat → List Nat} {F : Nat → Value → World → Prop} {W : World} {a0 : Act} {i : Nat} {o : Oper} (v : Value) (hF : F i = fun u _ => u = v) (ho : ops[i]? = some o) (hg : o.guard = none) (hd : o.dst ≠ none)
    (h : ∀ a w, (∀ k, apartB ops k = true → a.eval (.tmp k) = a0.eval (.tmp k)) → Below W.heap.size W w → (∀ k ∈ need i, F k (leftBy ops a k) w) → (execOp a.eval o).run P w = .ok (.value v) w) : Stp P ops Q need F W a0 i o :=
  stp_val ho hg hd fun a w h1 h2 h3 => ⟨v, w, h a w h1 h2 h3, Below.refl _ _, by rw [hF]⟩
theorem stp_call {need : Nat → List Nat} {F : Nat → Value → World → Prop} {W : World} {a0 : Act} {i : Nat} {o : Oper} (f : FuncId) (ho : ops[i]? = some o) (hg : o.guard = none) (hd : o.dst ≠ none)
    (h : ∀ a w, (∀ k, apartB ops k = true → a.eval (.tmp k) = a0.eval (.tmp k)) → Below W.heap.size W w → (∀ k ∈ need i, F k (leftBy ops a k) w) → ∃ args, (execOp a.eval o).run P w = .ok (.enter f args) w ∧ Calls P f args w fun e w' => ∃ u, e = .returned u ∧ Below w.heap.size w w' ∧ F i u w') : Stp P ops Q need F W a0 i o :=
  ⟨hd, fun a w h1 h2 h3 => wpOp_plain ho hg (by
    obtain ⟨args, hr, hc⟩ := h a w h1 h2 h3
    unfold Oper.wp; rw [hr]
    refine Calls.mono hc ?_
    rintro e w' ⟨u, rfl, hb, hf⟩
    exact ⟨u, rfl, hb, hf⟩)⟩
theorem wp_region_mk {id : Nat} (hm : P.follows .mixedOrders = true) (need : Nat → List Nat) (F : Nat → Value → World → Prop) (W : World) (a0 : Act) (hB : bagB ops need a0.tmps.size = true) (hF : ∀ j v w w', F j v w → Below w.heap.size w w' → F j v w')
    (hstep : ∀ i o, ops[i]? = some o → Stp P ops Q need F W a0 i o)
    (hend : ∀ a w, a.tmps.size = a0.tmps.size → a.defers = a0.defers → (∀ k, apartB ops k = true → a.eval (.tmp k) = a0.eval (.tmp k)) → Below W.heap.size W w → (∀ j, j < ops.size → F j (leftBy ops a j) w) → Q .normal a w) :
    (Code.region id ops true).wp P Q a0 W := by
  have eb : ∀ {w w' : World}, Exk (fun _ => False) w w' → Below w.heap.size w w' := fun h => h.e.below (Nat.le_refl _) (fun _ h => h.elim)
  refine wp_region_bag hm need (fun j vs w => match vs with | v :: _ => F j v w | [] => False) [] (fun _ => False) ops.size W W a0 hB (fun k _ _ h => absurd h (Nat.lt_irrefl _)) ?_ (fun j hj => by cases hj) (Exk.refl _ _) ?_ ?_
  · intro j vs w w' _ h hb
    cases vs with
    | nil => exact h
    | cons v vs => exact hF j v w w' h (eb hb)
  · intro i o ho a w h1 h2 h3
    obtain ⟨hd, hs⟩ := hstep i o ho
    refine wpOp_mono ?_ (hs a w h1 (eb h2) (fun k hk => h3 k hk))
    rintro a' w' ⟨v, rfl, hb, hf⟩
    refine ⟨v, rfl, Exk.of_below hb rfl, fun v' h => ?_, fun h => by cases h⟩
    rcases h with h | h
    · exact absurd h hd
    · rw [h]; exact hf
  · intro a w h1 h2 h3 h4 h5 _
    exact hend a w h1 h2 h3 (eb h4) (fun j hj => h5 j hj)
end
theorem ld_aggs {P : Program} (ty : TypeId) (g off : Nat) (cs : Array Value) (d : TypeDesc) (w9 : World) (h : ∀ j v, cs[j]? = some v → w9.cell? ⟨g, off + j, none⟩ = some v) (hu : P.underlying ty = some d) (hd : (match d with | .struct _ | .array _ _ => true | _ => false) = true) (hi : (P.info? ty).map (·.size) = some cs.size) :
    ((Instr.loadAt ty (.pointer (some ⟨g, off, none⟩))) >>= fun v => pure (Next.value v)).run P w9 = .ok (.value (.agg cs)) w9 := by
  have hl := run_load_agg (P := P) w9 ty g off cs d h hu hd hi
  simp only [Instr.loadAt, Instr.sureAddr, Sem.run_bind, Sem.run_pure, Result.andThen_ok, hl]
theorem ld_agg_w {P : Program} (ty : TypeId) (cs : Array Value) {g : Nat} {t : TypeId} {w9 : World} (h : Row w9 g cs t) {d : TypeDesc} (hu : P.underlying ty = some d) (hd : (match d with | .struct _ | .array _ _ => true | _ => false) = true) (hi : (P.info? ty).map (·.size) = some cs.size) :
    ((Instr.loadAt ty (.pointer (some ⟨g, 0, none⟩))) >>= fun v => pure (Next.value v)).run P w9 = .ok (.value (.agg cs)) w9 :=
  ld_aggs ty g 0 cs d w9 (fun j v hv => by rw [Nat.zero_add, h.cell]; exact hv) hu hd hi
end Go.Proofs.Ytnlkamfoopikhaa
