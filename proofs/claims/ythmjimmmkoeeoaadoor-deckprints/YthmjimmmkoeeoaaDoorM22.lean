/-
  Dl Qts.
-/
import Derived.Test.YthmjimmmkoeeoaaDoorM21
import Derived.Test.YthmjimmmkoeeoaaDoorM19
namespace Go.Proofs.YthmjimmmkoeeoaaDoor
set_option linter.unusedVariables false
set_option maxRecDepth 100000
open Go.ChangeShapes Go.WideShapes Go.ChangeAt Go.RowKit Go.Deep Go.Shelf
/-- What is no row of T stays. -/
def Kt (T : TypeId) (w w' : World) : Prop := ∀ (k : Nat) (cs : Array Value) (t : TypeId) (z : Nat × Nat), w.heap[k]? = some (.cells cs t z) → t ≠ T → w'.heap[k]? = some (.cells cs t z)
theorem Kt.refl (T : TypeId) (w : World) : Kt T w w := fun _ _ _ _ h _ => h
theorem Kt.trans {T : TypeId} {a b c : World} (h : Kt T a b) (k : Kt T b c) : Kt T a c := fun g cs t z q ht => k g cs t z (h g cs t z q ht) ht
theorem Kt.of_below {T : TypeId} {w w' : World} (h : Below w.heap.size w w') : Kt T w w' := fun g cs t z q _ => by rw [h.block g (Array.getElem?_eq_some_iff.1 q).1]; exact q
theorem Kt.grown {T : TypeId} {w w' : World} {B size n : Nat} {v : Value} {xs : List Value} (ho : w.ownsRow B T size v n xs) (hg : w.grownBy w' v.ownBlock) : Kt T w w' := fun k cs t z q ht => by
  have hk := (Array.getElem?_eq_some_iff.1 q).1
  by_cases e : v.ownBlock = some k
  · rcases ho.2 with ⟨rfl, _⟩ | ⟨g', cap, cu, rfl, _, h3, _⟩
    · cases e
    · cases e
      rw [h3] at q
      simp only [Option.some.injEq, Obj.cells.injEq] at q
      exact absurd q.2.1.symm ht
  · rw [hg.block k hk (fun q => e q.symm)]
    exact q
theorem Kt.own {T e : TypeId} {w w' : World} (h : Kt T w w') (he : e ≠ T) {B size n : Nat} {v : Value} {xs : List Value} (ho : w.ownsRow B e size v n xs) : w'.ownsRow B e size v n xs := by
  refine ⟨ho.1, ?_⟩
  rcases ho.2 with h' | ⟨g, cap, cur, rfl, h1, h2, h3⟩
  · exact .inl h'
  · exact .inr ⟨g, cap, cur, rfl, h1, h _ _ _ _ h2 he, h3⟩
theorem Kt.row {T t : TypeId} {w w' : World} (h : Kt T w w') {g : Nat} {cs : Array Value} (hr : Row w g cs t) (ht : t ≠ T) : Row w' g cs t := h g cs t (0, 0) hr ht
def Cpy {α : Type} (T : TypeId) (enc : α → Value → List Value) (dat : α → List Int) (z : α) (B : Nat) (w : World) (v : Value) (l : List α) : Prop :=
  ∃ Q : List (List Value), Q.length = l.length ∧ w.ownsRow B T 4 v l.length Q.flatten ∧ ∀ j, j < l.length → ∃ u, Q[j]? = some (enc (l.getD j z) u) ∧ w.ownsRow B 5 1 u (dat (l.getD j z)).length (bv (dat (l.getD j z)))
variable {α : Type} {T : TypeId} {enc : α → Value → List Value} {dat : α → List Int} {z : α} {B : Nat}
theorem Cpy.nil (w : World) : Cpy T enc dat z B w (.slice none 0 0) [] := ⟨[], rfl, ⟨rfl, .inl ⟨rfl, rfl⟩⟩, fun j hj => absurd hj (by simp)⟩
theorem Cpy.kept {w w' : World} {v : Value} {l : List α} (h : Cpy T enc dat z B w v l) (S : TypeId) (hS : T ≠ S) (hU : 5 ≠ S) (k : Kt S w w') : Cpy T enc dat z B w' v l := by
  obtain ⟨Q, h1, h2, h3⟩ := h
  exact ⟨Q, h1, k.own hS h2, fun j hj => by obtain ⟨u, e1, e2⟩ := h3 j hj; exact ⟨u, e1, k.own hU e2⟩⟩
theorem Cpy.later {w w' : World} {v : Value} {l : List α} (h : Cpy T enc dat z B w v l) (hb : Below w.heap.size w w') : Cpy T enc dat z B w' v l := by
  obtain ⟨Q, h1, h2, h3⟩ := h
  exact ⟨Q, h1, own_later h2 hb rfl, fun j hj => by obtain ⟨u, e1, e2⟩ := h3 j hj; exact ⟨u, e1, own_later e2 hb rfl⟩⟩
theorem flat4 : ∀ (Q : List (List Value)), (∀ x ∈ Q, x.length = 4) → ∀ (j i : Nat), i < 4 → Q.flatten[j * 4 + i]? = Q[j]?.bind (·[i]?)
  | [], _, j, i, _ => by simp
  | x :: Q, h, 0, i, hi => by
    rw [List.flatten_cons, Nat.zero_mul, Nat.zero_add, List.getElem?_append_left (by rw [h x (by simp)]; exact hi)]; rfl
  | x :: Q, h, j + 1, i, hi => by
    have hx := h x (by simp)
    rw [List.flatten_cons, List.getElem?_append_right (by rw [hx]; omega), hx, show (j + 1) * 4 + i - 4 = j * 4 + i by omega, flat4 Q (fun y hy => h y (by simp [hy])) j i hi]
    rfl
theorem Cpy.ls {E : World → α → Array Value → Prop} (henc : ∀ x u, (enc x u).length = 4) {w : World} {v : Value} {l : List α} (h : Cpy T enc dat z B w v l)
    (hE : ∀ j, j < l.length → ∀ u, Byt w u (dat (l.getD j z)) → E w (l.getD j z) (enc (l.getD j z) u).toArray) : Ls4 E z w v l := by
  obtain ⟨Q, h1, h2, h3⟩ := h
  have hQ : ∀ x ∈ Q, x.length = 4 := fun x hx => by
    obtain ⟨j, hj, rfl⟩ := List.mem_iff_getElem.1 hx
    obtain ⟨u, e1, _⟩ := h3 j (by rw [← h1]; exact hj)
    rw [List.getElem?_eq_getElem hj] at e1
    rw [Option.some.inj e1]; exact henc _ _
  rcases Go.Joins.ownsRow_forms h2 with ⟨rfl, h0⟩ | ⟨g, cap, rfl⟩
  · exact ⟨none, 0, by rw [h0], by omega, fun _ => rfl, fun hn => absurd (List.eq_nil_of_length_eq_zero h0) hn⟩
  · have hcap : l.length ≤ cap := by
      rcases h2.2 with ⟨h', _⟩ | ⟨g', cap', cur, h', _, _, hn, _⟩
      · simp at h'
      · simp only [Value.slice.injEq] at h'; obtain ⟨_, _, rfl⟩ := h'; exact hn
    refine ⟨some ⟨g, 0, none⟩, cap, rfl, hcap, (fun e => by cases e), fun hne => ⟨g, 0, rfl, (h2.lt g rfl).2, fun j hj => ?_⟩⟩
    obtain ⟨u, e1, e2⟩ := h3 j hj
    refine ⟨_, hE j hj u (Byt.of_own e2), by simp [henc], fun i x hx => ?_⟩
    have hi : i < 4 := by have := (Array.getElem?_eq_some_iff.1 hx).1; simpa [henc] using this
    rw [Nat.zero_add, h2.cellAt (j * 4 + i) (by omega), flat4 Q hQ j i hi, e1]
    simpa using hx

/-- One part appended. -/
theorem info_Sg : (Tryd.prog.info? 46).map (fun i => (i.zero, i.size, i.bytes)) = some (some (.agg #[.int .u64 0, .int .u64 0, .int .i64 0, .slice none 0 0]), 4, 48) := by kernel_rfl
def encSg (x : Pt) (u : Value) : List Value := [.int .u64 (n64 x.a), .int .u64 (n64 x.s), .int .i64 x.f, u]
abbrev CpSg (B : Nat) (w : World) (v : Value) (l : List Pt) : Prop := Cpy 46 encSg Pt.d pt0 B w v l
theorem appSg {ops : Array Oper} {rest : List Oper} {o : Oper} {a : Act} {w : World} {Q : Exit → Act → World → Prop} (hgd : o.guard = none) (s x : Operand) (ho : o.op = .call { callee := .builtin .append, args := #[s, x], argTypes := #[32, 32] })
    (B : Nat) (v : Value) (l : List Pt) (p : Pt) (hs : a.eval s = v) (hown : CpSg B w v l) (h0 : Nat) (u : Value) (hx : a.eval x = .slice (some ⟨h0, 0, none⟩) 1 1) (hy : w.heap[h0]? = some (.cells (encSg p u).toArray 46 (0, 0))) (hu1 : u.oneCell' = true) (hu : w.ownsRow B 5 1 u p.d.length (bv p.d)) (hl : l.length ≤ 2932031007400) (hB : B ≤ w.heap.size)
    (h : ∀ v' w', CpSg B w' v' (l ++ [p]) → Below B w w' → Kt 46 w w' → wpList Tryd.prog ops Q rest (a.put o.dst v') w') : wpList Tryd.prog ops Q (o :: rest) a w := by
  obtain ⟨R, r1, r2, r3⟩ := hown
  obtain ⟨i0, hi, hz0, hz1, hz2⟩ := info_parts info_Sg
  refine wpList_append_own _ hgd s x 32 ho B 46 i0 (.agg #[.int .u64 0, .int .u64 0, .int .i64 0, .slice none 0 0]) 4 48 Tryd.underlying32 hi hz0 hz1 hz2 rfl (by decide) v l.length R.flatten hs r2 ⟨h0, 0, none⟩ 1 1 (encSg p u) hx rfl ?_ ?_ (by unfold maxLen; omega) (by omega) hB ?_
  · intro j y hj
    rw [addAt, Nat.zero_add, cell_of_row w h0 j _ _ _ hy]
    simpa using hj
  · intro y hy2
    simp only [encSg, List.mem_cons, List.not_mem_nil, or_false] at hy2
    rcases hy2 with rfl | rfl | rfl | rfl
    · rfl
    · rfl
    · rfl
    · exact hu1
  · intro v' w' h1 h2 _
    have k := Kt.grown r2 h2
    refine h v' w' ⟨R ++ [encSg p u], by simp [r1], ?_, fun j hj => ?_⟩ ((Below.refl _ _).grown h2 hB (fun k hk => (r2.lt k hk).1)) k
    · rw [List.length_append, List.flatten_append, List.flatten_singleton]; exact h1
    · by_cases e : j < l.length
      · obtain ⟨y, e1, e2⟩ := r3 j e
        have q : (l ++ [p]).getD j pt0 = l.getD j pt0 := by unfold List.getD; rw [List.getElem?_append_left e]
        rw [q]
        exact ⟨y, by rw [List.getElem?_append_left (by rw [r1]; exact e)]; exact e1, k.own (by decide) e2⟩
      · have e' : j = l.length := by simp at hj; omega
        have q : (l ++ [p]).getD j pt0 = p := by unfold List.getD; rw [e', List.getElem?_append_right (Nat.le_refl _), Nat.sub_self]; rfl
        rw [q]
        exact ⟨u, by rw [e', ← r1, List.getElem?_append_right (Nat.le_refl _), Nat.sub_self]; rfl, k.own (by decide) hu⟩
theorem CpSg.ls {B : Nat} {w : World} {v : Value} {l : List Pt} (h : CpSg B w v l) (hA : ∀ j, j < l.length → AllB (l.getD j pt0).d) : Pts w v l :=
  Cpy.ls (fun _ _ => rfl) h (fun j hj u hu => ⟨u, rfl, hu, hA j hj⟩)

/-- One world appended. -/
theorem info_Wd : (Tryd.prog.info? 48).map (fun i => (i.zero, i.size, i.bytes)) = some (some (.agg #[.bool false, .bool false, .bool false, .slice none 0 0]), 4, 32) := by kernel_rfl
def encWd (x : Wd) (u : Value) : List Value := [.bool x.t, .bool x.e, .bool x.s, u]
abbrev CpWd (B : Nat) (w : World) (v : Value) (l : List Wd) : Prop := Cpy 48 encWd Wd.i wd0 B w v l
theorem appWd {ops : Array Oper} {rest : List Oper} {o : Oper} {a : Act} {w : World} {Q : Exit → Act → World → Prop} (hgd : o.guard = none) (s x : Operand) (ho : o.op = .call { callee := .builtin .append, args := #[s, x], argTypes := #[33, 33] })
    (B : Nat) (v : Value) (l : List Wd) (p : Wd) (hs : a.eval s = v) (hown : CpWd B w v l) (h0 : Nat) (u : Value) (hx : a.eval x = .slice (some ⟨h0, 0, none⟩) 1 1) (hy : w.heap[h0]? = some (.cells (encWd p u).toArray 48 (0, 0))) (hu1 : u.oneCell' = true) (hu : w.ownsRow B 5 1 u p.i.length (bv p.i)) (hl : l.length ≤ 4398046511000) (hB : B ≤ w.heap.size)
    (h : ∀ v' w', CpWd B w' v' (l ++ [p]) → Below B w w' → Kt 48 w w' → wpList Tryd.prog ops Q rest (a.put o.dst v') w') : wpList Tryd.prog ops Q (o :: rest) a w := by
  obtain ⟨R, r1, r2, r3⟩ := hown
  obtain ⟨i0, hi, hz0, hz1, hz2⟩ := info_parts info_Wd
  refine wpList_append_own _ hgd s x 33 ho B 48 i0 (.agg #[.bool false, .bool false, .bool false, .slice none 0 0]) 4 32 Tryd.underlying33 hi hz0 hz1 hz2 rfl (by decide) v l.length R.flatten hs r2 ⟨h0, 0, none⟩ 1 1 (encWd p u) hx rfl ?_ ?_ (by unfold maxLen; omega) (by omega) hB ?_
  · intro j y hj
    rw [addAt, Nat.zero_add, cell_of_row w h0 j _ _ _ hy]
    simpa using hj
  · intro y hy2
    simp only [encWd, List.mem_cons, List.not_mem_nil, or_false] at hy2
    rcases hy2 with rfl | rfl | rfl | rfl
    · rfl
    · rfl
    · rfl
    · exact hu1
  · intro v' w' h1 h2 _
    have k := Kt.grown r2 h2
    refine h v' w' ⟨R ++ [encWd p u], by simp [r1], ?_, fun j hj => ?_⟩ ((Below.refl _ _).grown h2 hB (fun k hk => (r2.lt k hk).1)) k
    · rw [List.length_append, List.flatten_append, List.flatten_singleton]; exact h1
    · by_cases e : j < l.length
      · obtain ⟨y, e1, e2⟩ := r3 j e
        have q : (l ++ [p]).getD j wd0 = l.getD j wd0 := by unfold List.getD; rw [List.getElem?_append_left e]
        rw [q]
        exact ⟨y, by rw [List.getElem?_append_left (by rw [r1]; exact e)]; exact e1, k.own (by decide) e2⟩
      · have e' : j = l.length := by simp at hj; omega
        have q : (l ++ [p]).getD j wd0 = p := by unfold List.getD; rw [e', List.getElem?_append_right (Nat.le_refl _), Nat.sub_self]; rfl
        rw [q]
        exact ⟨u, by rw [e', ← r1, List.getElem?_append_right (Nat.le_refl _), Nat.sub_self]; rfl, k.own (by decide) hu⟩
theorem CpWd.ls {B : Nat} {w : World} {v : Value} {l : List Wd} (h : CpWd B w v l) (hA : ∀ j, j < l.length → AllB (l.getD j wd0).i) : Wds w v l :=
  Cpy.ls (fun _ _ => rfl) h (fun j hj u hu => ⟨u, rfl, hu, hA j hj⟩)
end Go.Proofs.YthmjimmmkoeeoaaDoor
namespace Go.Proofs.YthmjimmmkoeeoaaDoor
open Go.ChangeShapes Go.WideShapes Go.ChangeAt Go.RowKit Go.Deep
section
variable {P : Program} {ops : Array Oper} {md : Region.Mode} {C : World → Prop}
def sink1 (md : Region.Mode) (ops : Array Oper) (n : Nat) : Bool :=
  (List.range n).all fun i => i == 0 || (List.range (n + 1)).any fun j => decide (i < j) && Region.waitsFor md ops j i
theorem tail_waits1 {n : Nat} {listed : Array Bool} (hs : sink1 md ops n = true) (hc : Region.chainB md ops n = true) (hn : n < ops.size) (inv : HeadInv md ops n listed) (h0 : listed.getD 0 false = true) :
    ∀ (d i : Nat), n - i = d → i < n → listed.getD i true = false → ∀ t, n ≤ t → t ∉ Region.ready md ops listed := by
  intro d
  induction d using Nat.strongRecOn with
  | _ d ih =>
    intro i hd hi hun t ht hr
    obtain ⟨_, ot, hot, hall⟩ := mem_ready.1 hr
    have htlt : t < ops.size := (Array.getElem?_eq_some_iff.1 hot).1
    by_cases htn : t = n
    · subst htn
      have h1 := List.all_eq_true.1 hs i (List.mem_range.2 hi)
      simp only [Bool.or_eq_true, beq_iff_eq] at h1
      rcases h1 with h1 | h1
      · subst h1; rw [getD_both hun] at h0; cases h0
      obtain ⟨j, hj, hj2⟩ := List.any_eq_true.1 h1
      simp only [Bool.and_eq_true, decide_eq_true_eq] at hj2
      obtain ⟨oj, hoj, e, he, hb, hon⟩ := Region.waitsFor_spec hj2.2
      have hjle : j ≤ t := by have := List.mem_range.1 hj; omega
      by_cases hjt : j = t
      · subst hjt
        have : oj = ot := Option.some.inj (hoj.symm.trans hot)
        subst this
        have h2 := hall e he hb
        rw [hon, getD_both hun] at h2
        cases h2
      · cases hl : listed.getD j false with
        | true =>
          have h2 := inv.closed j oj hoj hl e he hb
          rw [hon, getD_both hun] at h2
          cases h2
        | false =>
          have hjs : j < listed.size := by rw [inv.size]; omega
          exact ih (t - j) (by omega) j rfl (by omega) (getD_in hjs hl) t (Nat.le_refl _) hr
    · have h1 := List.all_eq_true.1 hc t (List.mem_range.2 htlt)
      simp only [Bool.or_eq_true, decide_eq_true_eq] at h1
      rcases h1 with h1 | h1
      · omega
      · obtain ⟨o', ho', e, he, hb, hon⟩ := Region.waitsFor_spec h1
        have : o' = ot := Option.some.inj (ho'.symm.trans hot)
        subst this
        have h2 := hall e he hb
        rw [hon, getD_both (inv.tail (t - 1) (by omega) (by omega))] at h2
        cases h2
theorem head_only1 {n i : Nat} {listed : Array Bool} (hs : sink1 md ops n = true) (hc : Region.chainB md ops n = true) (hn : n < ops.size) (inv : HeadInv md ops n listed) (h0 : listed.getD 0 false = true) (hin : i < n) (hr : i ∈ Region.ready md ops listed) :
    ∀ j ∈ Region.ready md ops listed, j < n := fun j hj => by
  rcases Nat.lt_or_ge j n with h | h
  · exact h
  · exact absurd hj (tail_waits1 hs hc hn inv h0 _ i rfl hin (mem_ready.1 hr).1 j h)
theorem wpAnyM_first1 {n i : Nat} {oi : Oper} {v : Value} {L : Array Bool → Act → Prop} (hi : ops[i]? = some oi) (hsel : ∀ (j : Nat) (o : Oper) cs b, ops[j]? = some o → o.op ≠ .select cs b)
    (hs : sink1 md ops n = true) (hc : Region.chainB md ops n = true) (hn : n < ops.size) (hin : i < n) (hdone : ∀ listed a, L listed a → ∀ j ∈ Region.ready md ops listed, n ≤ j) :
    ∀ (f : Nat) (listed : Array Bool) (a : Act), HeadInv md ops n listed → listed.getD 0 false = true →
      (∀ j oj, ops[j]? = some oj → j ≠ i → listed.getD j true = false → (∀ e ∈ oj.after, Region.binds md e = true → e.on ≠ i) → oi.apart ops oj = true) →
      i ∈ Region.ready md ops listed → YieldsIn P ops C oi v a →
      wpAnyM P md ops C n L f (listed.setIfInBounds i true) (a.put oi.dst v) → wpAnyM P md ops C n L (f + 1) listed a := by
  intro f
  induction f with
  | zero =>
    intro listed a inv h0 _ hr hy H
    refine ⟨List.ne_nil_of_mem hr, fun j hj => ⟨head_only1 hs hc hn inv h0 hin hr j hj, ?_⟩⟩
    by_cases e : j = i
    · subst e; exact hy.qOp hi H
    · have h1 := hdone _ _ H j (ready_mono hj e)
      have h2 := head_only1 hs hc hn inv h0 hin hr j hj
      omega
  | succ f ih =>
    intro listed a inv h0 hfree hr hy H
    refine ⟨List.ne_nil_of_mem hr, fun j hj => ⟨head_only1 hs hc hn inv h0 hin hr j hj, ?_⟩⟩
    by_cases e : j = i
    · subst e; exact hy.qOp hi H
    · obtain ⟨hun, oj, hoj, hall⟩ := mem_ready.1 hj
      have hap : oi.apart ops oj = true := hfree j oj hoj e hun fun q hq hb heq => by
        have h1 := hall q hq hb
        rw [heq, getD_both (mem_ready.1 hr).1] at h1
        cases h1
      refine qOp_mono (fun a' h3 => ih (listed.setIfInBounds j true) a' (inv.set hj (head_only1 hs hc hn inv h0 hin hr j hj)) (getD_set_true h0) (fun k ok hk hki hunk hno => ?_) (ready_mono hr (Ne.symm e)) h3.1 ?_)
        (qOp_put hoj hap (fun cs b => hsel i oi cs b hi) (fun cs b => hsel j oj cs b hoj) hy (H.2 j (ready_mono hj e)).2)
      · refine hfree k ok hk hki ?_ hno
        by_cases e2 : j = k
        · subst e2; exact hun
        · rwa [getD_set_ne true e2] at hunk
      · rw [Array.setIfInBounds_comm _ _ e]; exact h3.2
theorem wpAnyM_lex1 {n g : Nat} {Lq : Act → Prop} (hsel : Region.noSelect ops = true) (hs : sink1 md ops n = true) (hc : Region.chainB md ops n = true) (hn : n < ops.size) :
    ∀ (l : List Oper) (k : Nat) (listed : Array Bool) (a : Act), (∀ j, j < l.length → l[j]? = ops[k + j]?) → k + l.length = n → HeadInv md ops n listed → listed.getD 0 false = true →
    Region.lexHead md ops g l.length k listed = true → wpQuiet P ops C Lq l a → wpAnyM P md ops C n (fun listed' a' => Region.seqB md ops g n listed' = true ∧ Lq a') l.length listed a
  | [], k, listed, a, _, hk, _, _, hB, h => by
    obtain rfl : k = n := by simpa using hk
    exact ⟨by simpa [Region.lexHead] using hB, h⟩
  | o :: l, k, listed, a, hl, hk, inv, h0l, hB, h => by
    simp only [List.length_cons] at hk
    have h0 : ops[k]? = some o := by simpa using (hl 0 (by simp)).symm
    simp only [List.length_cons, Region.lexHead, Bool.and_eq_true] at hB
    have hr : k ∈ Region.ready md ops listed := by simpa using hB.1.1
    obtain ⟨v, hy, hK⟩ := yieldsIn_of_qOp (K := wpQuiet P ops C Lq l) h0 (by unfold qOp; simp only [h0]; exact h)
    refine wpAnyM_first1 h0 (Region.noSelect_spec hsel) hs hc hn (by omega) (fun listed' a' hL => seqB_ready hL.1) l.length listed a inv h0l (Region.free_spec h0 hB.1.2) hr hy ?_
    refine wpAnyM_lex1 hsel hs hc hn l (k + 1) _ _ (fun j hj => ?_) (by omega) (inv.set hr (by omega)) (getD_set_true h0l) hB.2 hK
    have := hl (j + 1) (by simp; omega)
    simpa [Nat.add_assoc, Nat.add_comm 1 j] using this
/-- The closed facts. -/
def tail1B (md : Region.Mode) (ops : Array Oper) (n : Nat) : Bool :=
  Region.noSelect ops && decide (1 ≤ n) && decide (n < ops.size) && sink1 md ops n && Region.chainB md ops n && (Region.ready md ops (Array.replicate ops.size false)).contains 0 && Region.free md ops (Array.replicate ops.size false) 0 && Region.lexHead md ops (ops.size - n) (n - 1) 1 ((Array.replicate ops.size false).setIfInBounds 0 true)
theorem wp_region_quiet_tail1 {id : Nat} {Q : Exit → Act → World → Prop} {a : Act} {w : World} {o0 : Oper} {l : List Oper} (n : Nat) (v0 : Value) (hm : P.follows .mixedOrders = true) (hB : tail1B .any (o0 :: l).toArray n = true) (hC : C { w with drawn := w.drawn + 1 })
    (hQ : ∀ c a' w', Q (.panic c) (a'.put o0.dst v0) w' → Q (.panic c) a' w') (hy : Yields P (o0 :: l).toArray o0 v0 a)
    (h : wpQuiet P (o0 :: l).toArray C (fun a' => ∀ w', C w' → wpList P (o0 :: l).toArray Q ((o0 :: l).drop n) a' w') (l.take (n - 1)) (a.put o0.dst v0)) : (Code.region id (o0 :: l).toArray true).wp P Q a w := by
  simp only [tail1B, Bool.and_eq_true, decide_eq_true_eq] at hB
  obtain ⟨⟨⟨⟨⟨⟨⟨hsel, hn1⟩, hn⟩, hs⟩, hc⟩, hr0⟩, hf0⟩, hlex⟩ := hB
  have hsz : (o0 :: l).toArray.size = l.length + 1 := by simp
  have ht : (l.take (n - 1)).length = n - 1 := by simp; omega
  have hd : ((o0 :: l).drop n).length = (o0 :: l).toArray.size - n := by simp
  have inv0 : HeadInv .any (o0 :: l).toArray n (Array.replicate (o0 :: l).toArray.size false) := ⟨by simp, fun j oj _ hl => (by rw [getD_replicate_false] at hl; cases hl), fun t _ ht' => getD_in (by simpa using ht') (getD_replicate_false _ _)⟩
  have hr0' : 0 ∈ Region.ready .any (o0 :: l).toArray (Array.replicate (o0 :: l).toArray.size false) := by simpa using hr0
  have h00 : ((Array.replicate (o0 :: l).toArray.size false).setIfInBounds 0 true).getD 0 false = true := by rw [hsz]; simp
  have H := wpAnyM_lex1 (md := .any) (g := (o0 :: l).toArray.size - n) hsel hs hc hn (l.take (n - 1)) 1 ((Array.replicate (o0 :: l).toArray.size false).setIfInBounds 0 true) (a.put o0.dst v0) (fun j hj => by
    rw [ht] at hj
    simp [hj, Nat.add_comm 1 j]) (by omega) (inv0.set hr0' (by omega)) h00 (by rw [ht]; exact hlex) h
  have G := wpAny_of_M (Q' := Q) (g := (o0 :: l).toArray.size - n) (fun listed a' w' hw' hL => by
    have := wpAny_of_seq (md := .any) (Q' := Q) ((o0 :: l).drop n) n listed a' w' (fun j => by simp [List.getElem?_drop]) (by rw [hd]; exact hL.1) (hL.2 w' hw')
    rwa [hd] at this) _ _ _ _ hC H
  rw [ht] at G
  refine wp_region_any hm ?_
  have := wpAny_take (i := 0) (oi := o0) (v := v0) (fuel := n - 1 + ((o0 :: l).toArray.size - n)) (listed := Array.replicate (o0 :: l).toArray.size false) (by simp) hsel hf0 hr0 hQ hy G
  rwa [show n - 1 + ((o0 :: l).toArray.size - n) + 1 = (o0 :: l).toArray.size by omega] at this
end
theorem wp_region_later_tail1 {P : Program} {id : Nat} {Q : Exit → Act → World → Prop} {a : Act} {W : World} {x0 : Later W} {o0 : Oper} {l : List Oper} (n : Nat) (v0 : Value) (hm : P.follows .mixedOrders = true) (hB : tail1B .any (o0 :: l).toArray n = true)
    (hQ : ∀ c a' w', Q (.panic c) (a'.put o0.dst v0) w' → Q (.panic c) a' w') (hy : Yields P (o0 :: l).toArray o0 v0 a)
    (h : wpQuiet P (o0 :: l).toArray (fun w' => ∃ x : Later W, w' = x.1) (fun a' => ∀ w', (∃ x : Later W, w' = x.1) → wpList P (o0 :: l).toArray Q ((o0 :: l).drop n) a' w') (l.take (n - 1)) (a.put o0.dst v0)) : (Code.region id (o0 :: l).toArray true).wp P Q a x0.1 :=
  wp_region_quiet_tail1 (C := fun w' => ∃ x : Later W, w' = x.1) n v0 hm hB ⟨⟨_, x0.2.drew⟩, rfl⟩ hQ hy h
end Go.Proofs.YthmjimmmkoeeoaaDoor
