/-
  BusConsole: the law's own queue, a slice anywhere in its block.
-/
import Derived.Test.YtghiabdkgfhdbaaBqa
namespace Go.Proofs.Ytghiabdkgfhdbaa
set_option linter.unusedVariables false
open Go.ChangeShapes Go.WideShapes Go.ChangeAt Go.RowKit Go.Deep Go.MuLone
def Que (D : Nat → Prop) (v : Value) (q : List Int) (w : World) : Prop :=
  (v = .slice none 0 0 ∧ q = []) ∨ ∃ g off cap C, v = .slice (some ⟨g, off, none⟩) q.length cap ∧ D g ∧ w.heap[g]? = some (.cells C 5 (0, 0)) ∧ off + cap ≤ C.size ∧ q.length ≤ cap ∧ ∀ j, j < q.length → C[off + j]? = some (.int .u8 (q.getD j 0))
section
variable {D E : Nat → Prop} {v : Value} {q : List Int} {w w' : World}
theorem Que.keep (h : Que D v q w) (hE : ∀ g, g < w.heap.size → D g → E g ∧ w'.heap[g]? = w.heap[g]?) : Que E v q w' := by
  rcases h with h | ⟨g, off, cap, C, rfl, hD, hg, h1, h2, h3⟩
  · exact .inl h
  · obtain ⟨e1, e2⟩ := hE g (Array.getElem?_eq_some_iff.1 hg).1 hD
    exact .inr ⟨g, off, cap, C, rfl, e1, e2.trans hg, h1, h2, h3⟩
theorem Que.form (h : Que D v q w) : ∃ a cap, v = .slice a q.length cap := by
  rcases h with ⟨rfl, rfl⟩ | ⟨g, off, cap, C, rfl, _⟩
  · exact ⟨none, 0, rfl⟩
  · exact ⟨_, cap, rfl⟩
theorem Que.head {y : Int} {ys : List Int} (h : Que D v (y :: ys) w) : ∃ g off cap, v = .slice (some ⟨g, off, none⟩) (ys.length + 1) cap ∧ ys.length + 1 ≤ cap ∧ w.cell? ⟨g, off, none⟩ = some (.int .u8 y) ∧ Que D (.slice (if cap = 1 then some ⟨g, off, none⟩ else some ⟨g, off + 1, none⟩) ys.length (cap - 1)) ys w := by
  rcases h with ⟨rfl, h⟩ | ⟨g, off, cap, C, rfl, hD, hg, h1, h2, h3⟩
  · cases h
  · rw [List.length_cons] at h2
    refine ⟨g, off, cap, rfl, h2, ?_, ?_⟩
    · rw [cell_of_row w g off C _ _ hg]; simpa using h3 0 (by simp)
    · by_cases hc : cap = 1
      · rw [if_pos hc]
        have hl : ys = [] := List.eq_nil_of_length_eq_zero (by omega)
        subst hl
        exact .inr ⟨g, off, cap - 1, C, rfl, hD, hg, by omega, by simp, fun j hj => by simp at hj⟩
      · rw [if_neg hc]
        refine .inr ⟨g, off + 1, cap - 1, C, rfl, hD, hg, by omega, by omega, fun j hj => ?_⟩
        have := h3 (j + 1) (by simp; exact hj)
        rw [show off + (j + 1) = off + 1 + j by omega] at this
        simpa using this
theorem Que.own {B n : Nat} (h : w.ownsRow B 5 1 v n (bv q)) (hD : ∀ g, B ≤ g → g < w.heap.size → D g) : Que D v q w := by
  have hl := h.1
  have hlt := h.lt
  rw [bv_length] at hl
  rcases h.2 with ⟨rfl, h0⟩ | ⟨g, cap, cur, rfl, h1, h2, h3, h4, h5, h6⟩
  · exact .inl ⟨rfl, List.eq_nil_of_length_eq_zero (by omega)⟩
  · have hn : q.length = n := by omega
    refine .inr ⟨g, 0, cap, cur, by rw [hn], hD g h1 (hlt g rfl).2, h2, by omega, by omega, fun j hj => ?_⟩
    have e : (bv q)[j]? = some (.int .u8 (q.getD j 0)) := bv_get q j hj
    rw [← h6, List.getElem?_take_of_lt (by omega)] at e
    rw [Nat.zero_add, ← Array.getElem?_toList]
    exact e
end
theorem appQ {ops : Array Oper} {rest : List Oper} {o : Oper} {a : Act} {w : World} {Q : Exit → Act → World → Prop} (hgd : o.guard = none) (s x : Operand) (ho : o.op = .call { callee := .builtin .append, args := #[s, x], argTypes := #[22, 22] })
    (D : Nat → Prop) (v : Value) (q : List Int) (y : Int) (ad : Addr) (hs : a.eval s = v) (hq : Que D v q w) (hx : a.eval x = .slice (some ad) 1 1) (had : ad.add 0 = ad) (hy : w.cell? ad = some (.int .u8 y)) (hl : q.length ≤ 1000)
    (h : ∀ v' w', Que (fun g => D g ∨ w.heap.size ≤ g) v' (q ++ [y]) w' → Exc D w w' → wpList Try.prog ops Q rest (a.put o.dst v') w') :
    wpList Try.prog ops Q (o :: rest) a w := by
  obtain ⟨i0, hi, hz0, hz1, hz2⟩ := info_parts info5
  have hc : ∀ j u, [Value.int .u8 y][j]? = some u → w.cell? (ad.add j) = some u := by
    intro j u hj
    cases j with
    | zero => simp only [List.getElem?_cons_zero, Option.some.injEq] at hj; subst hj; rw [had]; exact hy
    | succ j => simp at hj
  have h1c : ∀ u ∈ [Value.int .u8 y], u.oneCell' = true := by intro u hu; simp only [List.mem_singleton] at hu; subst hu; rfl
  have hgrow : ∀ v' w', w'.ownsRow w.heap.size 5 1 v' (q.length + 1) (bv q ++ [.int .u8 y]) → w.grownBy w' none → wpList Try.prog ops Q rest (a.put o.dst v') w' := fun v' w' hown hg => by
    have hb : Below w.heap.size w w' := (Below.refl _ _).grown hg (Nat.le_refl _) (fun k hk => by cases hk)
    have e : bv q ++ [.int .u8 y] = bv (q ++ [y]) := by simp [bv]
    rw [e] at hown
    exact h v' w' (Que.own hown (fun g hg _ => .inr hg)) (Exc.of_below hb rfl)
  rcases hq with ⟨rfl, rfl⟩ | ⟨g, off, cap, C, rfl, hD, hg, h1, h2, h3⟩
  · exact wpList_append_grows w hgd s x 22 ho 5 i0 (.int .u8 0) 1 1 Try.underlying22 hi hz0 hz1 hz2 rfl (by decide) none 0 0 [] hs (fun _ => ⟨rfl, rfl⟩) rfl (fun b e => by cases e) ad 1 1 [.int .u8 y] hx rfl hc h1c (by omega) (by unfold maxLen; omega) (by omega) hgrow
  · have hcell : ∀ j, w.cell? ⟨g, j, none⟩ = C[j]? := fun j => cell_of_row w g j C _ _ hg
    refine wpList_append_arg w hgd s x 22 ho 5 i0 (.int .u8 0) 1 1 Try.underlying22 hi hz0 hz1 hz2 rfl (by decide) g off q.length cap (bv q) hs (by rw [bv_length, Nat.mul_one]) (fun j u hj => ?_) ad 1 1 [.int .u8 y] hx rfl hc h1c (fun hr j hj => ?_) (by unfold maxLen; omega) (by omega) (fun hr => ?_) (fun _ => hgrow)
    · have hjl : j < q.length := by have := (List.getElem?_eq_some_iff.1 hj).1; simpa [bv] using this
      rw [bv_get _ _ hjl] at hj
      cases hj
      rw [hcell]
      exact h3 j hjl
    · simp only [List.length_singleton] at hj
      obtain rfl : j = 0 := by omega
      exact ⟨by rw [hcell, Array.getElem?_eq_getElem (by omega)]; rfl, frozen_of_row w g _ _ _ hg⟩
    · refine h _ (w.setCell ⟨g, off + q.length * 1, none⟩ (.int .u8 y)) (.inr ⟨g, off, cap, C.setIfInBounds (off + q.length * 1) (.int .u8 y), by simp, .inl hD, heap_setCell_same w g _ _ _ _ hg, by rw [Array.size_setIfInBounds]; exact h1, by simp; omega, fun j hj => ?_⟩) ((Exc.refl _ w).set g _ _ hD)
      simp only [List.length_append, List.length_singleton] at hj
      rw [Nat.mul_one, Array.getElem?_setIfInBounds]
      by_cases e : j = q.length
      · subst e
        rw [if_pos rfl, if_pos (by omega)]
        simp
      · rw [if_neg (by omega), h3 j (by omega)]
        simp only [List.getD]
        rw [List.getElem?_append_left (by omega)]
/-- The bus and the law's queue. -/
structure Pco (B : Nat) (w0 : World) (b : Nat) (L : Lay) (S : St) (v : Value) (q : List Int) (w : World) : Prop where
  p : PB B L S w
  e : L.b = b
  s : Sok S
  o : S.off = 0
  q : Que (fun g => B ≤ g ∧ ¬ L.own g) v q w
  be : Below B w0 w
  le : B ≤ w.heap.size
structure Pcr (B : Nat) (w0 : World) (b : Nat) (go : Nat) (C : Array Value) (L : Lay) (S : St) (v : Value) (q : List Int) (w : World) : Prop where
  p : PB B L S w
  e : L.b = b
  s : Sok S
  o : S.off = 0
  q : Que (fun g => (B ≤ g ∧ ¬ L.own g) ∧ g ≠ go) v q w
  be : Below B w0 w
  le : B ≤ w.heap.size
  row : w.heap[go]? = some (.cells C 45 (0, 0))
  hM : B ≤ go ∧ ¬ L.own go
section
variable {B : Nat} {w0 : World} {b go : Nat} {C : Array Value} {L L' : Lay} {S T : St} {v v' : Value} {q q' : List Int} {w w' : World}
theorem Pco.row (h : Pco B w0 b L S v q w) : Pcr B w0 b w.heap.size C L S v q (w.alloc (.cells C 45)) := by
  have hb := below_al w (.cells C 45)
  refine ⟨h.p.later hb, h.e, h.s, h.o, h.q.keep (fun g hg hD => ⟨⟨hD, by omega⟩, hb.block g hg⟩), h.be.trans (hb.mono h.le), Nat.le_trans h.le hb.size, heap_alloc_new w _, h.le, fun k => ?_⟩
  have := h.p.own_hi _ k
  omega
theorem Pcr.pco (h : Pcr B w0 b go C L S v q w) : Pco B w0 b L S v q w := ⟨h.p, h.e, h.s, h.o, h.q.keep (fun g hg hD => ⟨hD.1, rfl⟩), h.be, h.le⟩
theorem Pcr.later (h : Pcr B w0 b go C L S v q w) (hb : Below w.heap.size w w') : Pcr B w0 b go C L S v q w' :=
  ⟨h.p.later hb, h.e, h.s, h.o, h.q.keep (fun g hg hD => ⟨hD, hb.block g hg⟩), h.be.trans (hb.mono h.le), Nat.le_trans h.le hb.size, (hb.block _ (Array.getElem?_eq_some_iff.1 h.row).1).trans h.row, h.hM⟩
theorem Pcr.bus (h : Pcr B w0 b go C L S v q w) (hs : PSt B L w L' T w') (hk : Sok T) (ho : T.off = 0) : Pcr B w0 b go C L' T v q w' := by
  have hgo := (Array.getElem?_eq_some_iff.1 h.row).1
  have hn : ∀ g, g < w.heap.size → ¬ L.own g → ¬ L'.own g := fun g hg hx q => by
    rcases hs.o g q with e | e
    · exact hx e
    · omega
  have hb := h.be.trans (hs.x.below h.le (fun k hk => h.p.own_lo k hk))
  exact ⟨hs.p, hs.b.1.trans h.e, hk, ho, h.q.keep (fun g hg hD => ⟨⟨⟨hD.1.1, hn g hg hD.1.2⟩, hD.2⟩, hs.x.block g hg hD.1.2⟩), hb, Nat.le_trans h.le hs.x.size, (hs.x.block go hgo h.hM.2).trans h.row, h.hM.1, hn go hgo h.hM.2⟩
theorem Pcr.app (h : Pcr B w0 b go C L S v q w) (hq : Que (fun g => ((B ≤ g ∧ ¬ L.own g) ∧ g ≠ go) ∨ w.heap.size ≤ g) v' q' w') (hx : Exc (fun g => (B ≤ g ∧ ¬ L.own g) ∧ g ≠ go) w w') : Pcr B w0 b go C L S v' q' w' := by
  have hgo := (Array.getElem?_eq_some_iff.1 h.row).1
  refine ⟨h.p.exo hx (fun k hk e => e.1.2 hk), h.e, h.s, h.o, hq.keep (fun g _ hD => ⟨?_, rfl⟩), h.be.trans (hx.below h.le (fun k hk => hk.1.1)), Nat.le_trans h.le hx.size, (hx.block go hgo (fun e => e.2 rfl)).trans h.row, h.hM⟩
  rcases hD with hD | hD
  · exact hD
  · exact ⟨⟨Nat.le_trans h.le hD, fun k => by have := h.p.own_hi _ k; omega⟩, by omega⟩
theorem Pcr.popped (h : Pcr B w0 b go C L S v q w) (hq : Que (fun g => (B ≤ g ∧ ¬ L.own g) ∧ g ≠ go) v' q' w) : Pcr B w0 b go C L S v' q' w :=
  ⟨h.p, h.e, h.s, h.o, hq, h.be, h.le, h.row, h.hM⟩
theorem fnd_u0 (n : Nat) : fnd n 268435456 1 = 1 := by
  have h0 : hasM n 268435456 1 = false := by unfold hasM hld; simp
  unfold fnd
  rw [h0]
  decide
theorem fnd_u5 (n : Nat) : fnd n 268435461 1 = 1 := by
  have h0 : hasM n 268435461 1 = false := by unfold hasM hld; simp
  unfold fnd
  rw [h0]
  decide
theorem ld_u0 (S : St) : S.ld 268435456 1 = (((S.tel 0).1, true), (S.tel 0).2) := by
  unfold St.ld; rw [fnd_u0]; rfl
theorem ld_u5 (S : St) : S.ld 268435461 1 = ((statB S, true), { S with ov := false }) := by
  unfold St.ld; rw [fnd_u5]; rfl
theorem Pcr.load (h : Pcr B w0 b go C L S v q w) (a : Int) (ha : 0 ≤ a ∧ a ≤ 18446744073709551615) (ho : (S.ld a 1).2.off = 0) :
    Calls Try.prog 17 #[.pointer (some ⟨b, 0, none⟩), .int .u64 a, .int .i64 1] w fun e w' => e = .returned (.tuple #[.int .u64 (S.ld a 1).1.1, .bool (S.ld a 1).1.2]) ∧ ∃ L', Pcr B w0 b go C L' (S.ld a 1).2 v q w' := by
  have hq := Load_c w h.p h.s.n.1 a 1 ha (by omega) h.s.st h.s.n.2.2.1
  rw [h.e] at hq
  exact hq.mono (fun e w' ⟨he, L', hs⟩ => ⟨he, L', h.bus hs (h.s.ld a 1) ho⟩)
theorem Pcr.load0n (h : Pcr B w0 b go C L S v q w) (hi : S.inp = []) :
    Calls Try.prog 17 #[.pointer (some ⟨b, 0, none⟩), .int .u64 268435456, .int .i64 1] w fun e w' => e = .returned (.tuple #[.int .u64 0, .bool true]) ∧ ∃ L', Pcr B w0 b go C L' S v q w' := by
  have e0 : S.tel 0 = (0, S) := by simp only [St.tel, hi]
  have hq := h.load 268435456 (by omega) (by rw [ld_u0, e0]; exact h.o)
  rw [ld_u0, e0] at hq
  exact hq
theorem Pcr.load0c (h : Pcr B w0 b go C L S v q w) {y : Int} {ys : List Int} (hi : S.inp = y :: ys) :
    Calls Try.prog 17 #[.pointer (some ⟨b, 0, none⟩), .int .u64 268435456, .int .i64 1] w fun e w' => e = .returned (.tuple #[.int .u64 y, .bool true]) ∧ ∃ L', Pcr B w0 b go C L' { S with inp := ys } v q w' := by
  have e0 : S.tel 0 = (y, { S with inp := ys }) := by simp only [St.tel, hi]
  have hq := h.load 268435456 (by omega) (by rw [ld_u0, e0]; exact h.o)
  rw [ld_u0, e0] at hq
  exact hq
theorem Pcr.load5 (h : Pcr B w0 b go C L S v q w) :
    Calls Try.prog 17 #[.pointer (some ⟨b, 0, none⟩), .int .u64 268435461, .int .i64 1] w fun e w' => e = .returned (.tuple #[.int .u64 (statB S), .bool true]) ∧ ∃ L', Pcr B w0 b go C L' { S with ov := false } v q w' := by
  have hq := h.load 268435461 (by omega) (by rw [ld_u5]; exact h.o)
  rw [ld_u5] at hq
  exact hq
theorem Pcr.begin (h : Pcr B w0 b go C L S v q w) {n9 : Nat} (t e s : Bool) (u : Value) (l : List Int) (hb : Below w.heap.size w w') (hu : w'.ownsRow w.heap.size 5 1 u n9 (bv l)) (hl : l.length ≤ 140737488351232) (ha : AllB l) :
    Calls Try.prog 15 #[.pointer (some ⟨b, 0, none⟩), .agg #[.bool t, .bool e, .bool s, u]] w' fun e' w2 => e' = .returned (.tuple #[]) ∧ ∃ L', Pcr B w0 b go C L' (S.beg t e s l) v q w2 := by
  have h' := h.later hb
  have hq := Begin_c w' h'.p t e s u l (Byt.of_own hu) hl h.s.n.2.2.1 (fun g off n c hv hk => ?_)
  · rw [h'.e] at hq
    refine hq.mono (fun e' w2 ⟨he, L', hs⟩ => ⟨he, L', h'.bus hs (h.s.beg t e s l ha) ?_⟩)
    unfold St.beg
    rw [if_pos h.o]
    exact h.o
  · subst hv
    have h1 := (hu.lt g rfl).1
    have h2 := h.p.own_hi g hk
    omega
theorem beg_inp (S : St) (ho : S.off = 0) (t e s : Bool) (l : List Int) : (S.beg t e s l).inp = S.inp ++ l.take (64 - S.inp.length) ∧ (S.beg t e s l).ov = (S.ov || decide (64 < S.inp.length + l.length)) := by
  unfold St.beg; rw [if_pos ho]; exact ⟨rfl, rfl⟩
end
/-- The queue's first state. -/
theorem pco_start {w0 wr w1 : World} {L : Lay} {S : St} {v : Value} {n : Nat} (hp : PB w0.heap.size L S wr) (hs : Sok S) (ho : S.off = 0) (hb : Below w0.heap.size w0 wr) (hown : w1.ownsRow wr.heap.size 5 1 v n (bv S.inp)) (hg : Below wr.heap.size wr w1) :
    Pco w0.heap.size w0 L.b L S v S.inp w1 :=
  ⟨hp.later hg, rfl, hs, ho, Que.own hown (fun g h1 h2 => ⟨Nat.le_trans hb.size h1, fun k => by have := hp.own_hi _ k; omega⟩), hb.trans (hg.mono hb.size), Nat.le_trans hb.size hg.size⟩
theorem stat_a (a b c : Bool) : (bits .and .u64 ((if a = true then 1 else 0) + (if b = true then 2 else 0) + (if c = true then 96 else 0)) 2 != 0) = b ∧ (bits .and .u64 ((if a = true then 1 else 0) + (if b = true then 2 else 0) + (if c = true then 96 else 0)) 1 != 0) = a := by
  cases a <;> cases b <;> cases c <;> exact ⟨rfl, rfl⟩
theorem stat_2 (S : St) : (bits .and .u64 (statB S) 2 != 0) = S.ov := by
  have h := (stat_a (decide (0 < S.inp.length)) S.ov (decide ((S.out.length : Int) < 4096))).1
  simp only [decide_eq_true_eq] at h
  exact h
theorem stat_1 (S : St) : (bits .and .u64 (statB S) 1 != 0) = decide (0 < S.inp.length) := by
  have h := (stat_a (decide (0 < S.inp.length)) S.ov (decide ((S.out.length : Int) < 4096))).2
  simp only [decide_eq_true_eq] at h
  exact h
/-- The queue while a world's bytes join it. -/
def jq (q l : List Int) (k : Nat) : List Int := q ++ l.take (min k (64 - q.length))
theorem jq_zero (q l : List Int) : jq q l 0 = q := by simp [jq]
theorem jq_len (q l : List Int) (k : Nat) (hk : k ≤ l.length) : (jq q l k).length = q.length + min k (64 - q.length) := by simp [jq]; omega
theorem jq_full (q l : List Int) : jq q l l.length = q ++ l.take (64 - q.length) := by
  unfold jq
  congr 1
  by_cases h : l.length ≤ 64 - q.length
  · rw [Nat.min_eq_left h, List.take_of_length_le h]; simp
  · rw [Nat.min_eq_right (by omega)]
theorem jq_app (q l : List Int) (k : Nat) (hk : k < l.length) (h : q.length + k < 64) : jq q l k ++ [l.getD k 0] = jq q l (k + 1) := by
  unfold jq
  rw [Nat.min_eq_left (by omega), Nat.min_eq_left (by omega), List.append_assoc, List.take_add_one]
  simp [List.getD, List.getElem?_eq_getElem hk]
theorem jq_no (q l : List Int) (k : Nat) (h : 64 ≤ q.length + k) : jq q l (k + 1) = jq q l k := by
  unfold jq
  rw [Nat.min_eq_right (by omega), Nat.min_eq_right (by omega)]
end Go.Proofs.Ytghiabdkgfhdbaa
