/-
  Steps of the buses: what each leaves, and where its blocks lie; appends that say where the new row lies.
-/
import Derived.Test.YtghiabdkgfhdbaaBqw
import Derived.Test.YtghiabdkgfhdbaaBgn
import Derived.Maps.AppendAt
import Derived.Deep.RegionLaw
namespace Go.Proofs.Ytghiabdkgfhdbaa
set_option linter.unusedVariables false
open Go.ChangeShapes Go.WideShapes Go.ChangeAt Go.RowKit Go.Deep
/-- What a call on the program's bus leaves. -/
structure PSt (B : Nat) (L : Lay) (w : World) (L' : Lay) (S' : St) (w' : World) : Prop where
  p : PB B L' S' w'
  x : Exc L.own w w'
  o : ∀ k, L'.own k → L.own k ∨ w.heap.size ≤ k
  b : L'.b = L.b ∧ L'.u = L.u ∧ L'.q = L.q ∧ L'.ck = L.ck
theorem PSt.same {B : Nat} {L : Lay} {S' : St} {w w' : World} (h : PB B L S' w') (hx : Exc L.own w w') : PSt B L w L S' w' := ⟨h, hx, fun _ hk => .inl hk, rfl, rfl, rfl, rfl⟩
theorem PSt.quiet {B : Nat} {L : Lay} {S : St} {w w' : World} (h : PB B L S w) (hb : Below w.heap.size w w') : PSt B L w L S w' := .same (h.later hb) (Exc.of_below hb rfl)
theorem PSt.pre {B : Nat} {L L' : Lay} {S' : St} {w w1 w' : World} (hb : Below w.heap.size w w1) (h : PSt B L w1 L' S' w') : PSt B L w L' S' w' :=
  ⟨h.p, (Exc.of_below hb rfl).trans h.x, fun k hk => (h.o k hk).imp id (fun e => Nat.le_trans hb.size e), h.b⟩
theorem PSt.post {B : Nat} {L L' : Lay} {S' : St} {w w1 w' : World} (h : PSt B L w L' S' w1) (hb : Below w1.heap.size w1 w') : PSt B L w L' S' w' :=
  ⟨h.p.later hb, h.x.trans (Exc.of_below hb rfl), h.o, h.b⟩
/-- The queue's cells and row are other ones. -/
theorem PB.queue {B : Nat} {L : Lay} {S : St} {w w' : World} (h : PB B L S w) (he : Exc (fun k => k = L.q ∨ L.vi.ownBlock = some k) w w') (v : Value) (l : List Int) (ov : Bool)
    (hq : w'.heap[L.q]? = some (.cells #[.int .i32 0, .int .u32 0, v, .bool ov] 109 (0, 0))) (ho : w'.ownsRow B 5 1 v l.length (bv l)) (hl : ∀ k, v.ownBlock = some k → L.vi.ownBlock = some k ∨ w.heap.size ≤ k) :
    PSt B L w { L with vi := v } { S with inp := l, ov := ov } w' := by
  have hlt := h.lt
  have k : ∀ {b : Nat} {C : Array Value} {T : TypeId}, T ≠ 5 → T ≠ 109 → w.heap[b]? = some (.cells C T (0, 0)) → w'.heap[b]? = some (.cells C T (0, 0)) := fun {b C T} hT hT2 hb => by
    rw [he.block b (Array.getElem?_eq_some_iff.1 hb).1 (fun e => ?_)]
    · exact hb
    · rcases e with e | e
      · rw [e, h.hq] at hb
        simp at hb
        exact hT2 hb.2.symm
      · exact own_ne_row h.wi hb hT b e rfl
  have kr : w'.ownsRow B 5 1 L.vr S.ram.length (bv S.ram) := own_exc h.wr he (fun q hg e => by
    rcases e with e | e
    · exact own_ne_row h.wr h.hq (by decide) q hg e
    · exact h.ri q hg e)
  have ko : w'.ownsRow B 5 1 L.vo S.out.length (bv S.out) := own_exc h.wo he (fun q hg e => by
    rcases e with e | e
    · exact own_ne_row h.wo h.hq (by decide) q hg e
    · exact h.io q e hg)
  refine ⟨⟨k (by decide) (by decide) h.hb, k (by decide) (by decide) h.hm, k (by decide) (by decide) h.hp, k (by decide) (by decide) h.hs, k (by decide) (by decide) h.hc, k (by decide) (by decide) h.hk, k (by decide) (by decide) h.hu, hq, kr, ho, ko, ?_, h.ro, ?_, h.lb, h.lm, h.lp, h.ls, h.lc, h.lk, h.lu, h.lq⟩, ?_, ?_, rfl, rfl, rfl, rfl⟩
  · intro g hg e
    rcases hl g e with e2 | e2
    · exact h.ri g hg e2
    · have := hlt.vr g hg; omega
  · intro g hg e
    rcases hl g hg with e2 | e2
    · exact h.io g e2 e
    · have := hlt.vo g e; omega
  · refine he.mono fun k hk => ?_
    unfold Lay.own
    rcases hk with e | e
    · simp [e]
    · simp [e]
  · intro k hk
    unfold Lay.own at hk ⊢
    simp only at hk
    rcases hk with e | e | e | e | e | e | e | e | e | e | e
    all_goals first | (left; simp [e]; done) | skip
    rcases hl k e with e2 | e2
    · left; simp [e2]
    · right; exact e2
/-- The output's row is another one. -/
theorem PB.sent {B : Nat} {L : Lay} {S : St} {w w' : World} (h : PB B L S w) (he : Exc (fun k => k = L.u ∨ L.vo.ownBlock = some k) w w') (v : Value) (l : List Int)
    (hu : w'.heap[L.u]? = some (.cells #[.int .u8 S.ier, .int .u8 S.lcr, .int .u8 S.mcr, .int .u8 S.scr, pt L.q, v] 69 (0, 0))) (ho : w'.ownsRow B 5 1 v l.length (bv l)) (hl : ∀ k, v.ownBlock = some k → L.vo.ownBlock = some k ∨ w.heap.size ≤ k) :
    PSt B L w { L with vo := v } { S with out := l } w' := by
  have hlt := h.lt
  have k : ∀ {b : Nat} {C : Array Value} {T : TypeId}, T ≠ 5 → T ≠ 69 → w.heap[b]? = some (.cells C T (0, 0)) → w'.heap[b]? = some (.cells C T (0, 0)) := fun {b C T} hT hT2 hb => by
    rw [he.block b (Array.getElem?_eq_some_iff.1 hb).1 (fun e => ?_)]
    · exact hb
    · rcases e with e | e
      · rw [e, h.hu] at hb
        simp at hb
        exact hT2 hb.2.symm
      · exact own_ne_row h.wo hb hT b e rfl
  have kr : w'.ownsRow B 5 1 L.vr S.ram.length (bv S.ram) := own_exc h.wr he (fun q hg e => by
    rcases e with e | e
    · exact own_ne_row h.wr h.hu (by decide) q hg e
    · exact h.ro q hg e)
  have ki : w'.ownsRow B 5 1 L.vi S.inp.length (bv S.inp) := own_exc h.wi he (fun q hg e => by
    rcases e with e | e
    · exact own_ne_row h.wi h.hu (by decide) q hg e
    · exact h.io q hg e)
  refine ⟨⟨k (by decide) (by decide) h.hb, k (by decide) (by decide) h.hm, k (by decide) (by decide) h.hp, k (by decide) (by decide) h.hs, k (by decide) (by decide) h.hc, k (by decide) (by decide) h.hk, hu, k (by decide) (by decide) h.hq, kr, ki, ho, h.ri, ?_, ?_, h.lb, h.lm, h.lp, h.ls, h.lc, h.lk, h.lu, h.lq⟩, ?_, ?_, rfl, rfl, rfl, rfl⟩
  · intro g hg e
    rcases hl g e with e2 | e2
    · exact h.ro g hg e2
    · have := hlt.vr g hg; omega
  · intro g hg e
    rcases hl g e with e2 | e2
    · exact h.io g hg e2
    · have := hlt.vi g hg; omega
  · refine he.mono fun k hk => ?_
    unfold Lay.own
    rcases hk with e | e
    · simp [e]
    · simp [e]
  · intro k hk
    unfold Lay.own at hk ⊢
    simp only at hk
    rcases hk with e | e | e | e | e | e | e | e | e | e | e
    all_goals first | (left; simp [e]; done) | skip
    rcases hl k e with e2 | e2
    · left; simp [e2]
    · right; exact e2
/-- append of bytes onto a row of one's own: where it lies. -/
theorem appA {ops : Array Oper} {rest : List Oper} {o : Oper} {a : Act} {w : World} {Q : Exit → Act → World → Prop} (hgd : o.guard = none) (s x : Operand) (ho : o.op = .call { callee := .builtin .append, args := #[s, x], argTypes := #[22, 22] })
    (B : Nat) (v u : Value) (m l : List Int) (hs : a.eval s = v) (hown : w.ownsRow B 5 1 v m.length (bv m)) (hx : a.eval x = u) (hu : Byt w u l) (hl : m.length + l.length ≤ 140737488355328) (hB : B ≤ w.heap.size)
    (h : ∀ v' w', w'.ownsRow B 5 1 v' (m ++ l).length (bv (m ++ l)) → w.grownBy w' v.ownBlock → (v'.ownBlock = v.ownBlock ∨ v'.ownBlock = some w.heap.size) → wpList Try.prog ops Q rest (a.put o.dst v') w') :
    wpList Try.prog ops Q (o :: rest) a w := by
  obtain ⟨i0, hi, hz0, hz1, hz2⟩ := info_parts info5
  obtain ⟨ao, cap, rfl, h1, h1', h2⟩ := hu
  cases ao with
  | none =>
    have hc := h1' rfl
    have hl0 : l = [] := List.eq_nil_of_length_eq_zero (by omega)
    subst hl0; subst hc
    refine wpList_append_own_none hgd s x 22 ho B 5 i0 1 Try.underlying22 hi v m.length (bv m) hs hown hx ?_
    exact h _ _ (by simpa using hown) (World.grownBy.refl _ _) (.inl rfl)
  | some ad =>
    refine wpList_append_own_at _ hgd s x 22 ho B 5 i0 (.int .u8 0) 1 1 Try.underlying22 hi hz0 hz1 hz2 rfl (by decide) v m.length (bv m) hs hown ad l.length cap (bv l) hx (by simp [bv]) ?_ ?_ (by unfold maxLen; omega) (by omega) hB ?_
    · intro j w2 hj
      have hjl : j < l.length := by have := (List.getElem?_eq_some_iff.1 hj).1; simpa [bv] using this
      obtain ⟨g, off, he, h3, h4⟩ := h2 (by intro e; rw [e] at hjl; simp at hjl)
      cases he
      rw [bv_get _ _ hjl] at hj
      cases hj
      rw [addAt]
      exact h4 j hjl
    · intro w2 hw2; simp [bv] at hw2; obtain ⟨q, _, rfl⟩ := hw2; rfl
    · intro v' w' g1 g2 g3 g4
      exact h v' w' (by simpa [bv] using g1) g2 g4
/-- append onto nothing within a row that has room, in a region that draws. -/
theorem step_app_row {ops : Array Oper} {o : Oper} {a : Act} {w : World} {K : Act → World → Prop} {Q : Exit → Act → World → Prop} {E : Prop}
    (hg : o.guard = none) (s x : Operand) (hop : o.op = .call { callee := .builtin .append, args := #[s, x], argTypes := #[22, 22] })
    (g cap : Nat) (cur : Array Value) (hs : a.eval s = .slice (some ⟨g, 0, none⟩) 0 cap) (hrow : w.heap[g]? = some (.cells cur 5 (0, 0)))
    (ad : Addr) (m c : Nat) (l : List Int) (hx : a.eval x = .slice (some ad) m c) (hl : l.length = m) (hc : ∀ j u, (bv l)[j]? = some u → w.cell? (ad.add j) = some u) (hr : m ≤ cap) (hf : m ≤ cur.size)
    (hK : K (a.put o.dst (.slice (some ⟨g, 0, none⟩) m cap)) (w.setRow g (bv l ++ cur.toList.drop m).toArray)) :
    if Region.wanted o (yielded ops a.tmps) = true then Oper.wp Try.prog o a w K Q else E := by
  obtain ⟨i0, hi, hz0, hz1, hz2⟩ := info_parts info5
  have hw : Region.wanted o (yielded ops a.tmps) = true := by simp [Region.wanted, hg]
  rw [if_pos hw]
  have hrun := run_append_room (P := Try.prog) w 22 o.type 5 i0 Try.underlying22 hi g 0 cap cur hrow ad m c (bv l) (by rw [hz1, bv_length, hl, Nat.mul_one]) hc (by intro u hu; simp [bv] at hu; obtain ⟨q, _, rfl⟩ := hu; rfl) (by omega) (by rw [bv_length, hl]; omega)
  simp only [Nat.zero_mul, Nat.zero_add, List.take_zero, List.nil_append, bv_length, hl] at hrun
  unfold Oper.wp
  simp [execOp, hop, resolve, invoke, builtin, hs, hx, hrun, Result.andThen]
  exact hK
end Go.Proofs.Ytghiabdkgfhdbaa
