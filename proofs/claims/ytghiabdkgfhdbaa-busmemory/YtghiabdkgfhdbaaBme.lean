/-
  BusMemory: the bus and the law's own copy of its RAM.
-/
import Derived.Test.YtghiabdkgfhdbaaBqa
namespace Go.Proofs.Ytghiabdkgfhdbaa
set_option linter.unusedVariables false
open Go.ChangeShapes Go.WideShapes Go.ChangeAt Go.RowKit Go.Deep Go.MuLone
theorem hasM_fits2 {n k : Nat} {z : Int} (hk : k < 2 * n) (hn : n ≤ 65536) : hasM n (2147483648 + (k : Int)) z = (alg (2147483648 + (k : Int)) z && decide ((k : Int) + z ≤ n)) := by
  unfold hasM alg hld
  by_cases hz : z = 1 ∨ z = 2 ∨ z = 4 ∨ z = 8
  · rw [Bool.eq_iff_iff]
    simp only [Bool.and_eq_true, Bool.or_eq_true, beq_iff_eq, decide_eq_true_eq]
    constructor
    · rintro ⟨h1, h2, _⟩
      exact ⟨⟨h1, h2⟩, by omega⟩
    · rintro ⟨⟨h1, h2⟩, h3⟩
      exact ⟨h1, h2, by omega⟩
  · have e : (z == 1 || z == 2 || z == 4 || z == 8) = false := by simp; omega
    rw [e]
    rfl
theorem splice_snoc {α : Type} (l cs : List α) (k : Nat) (x : α) (h : k + cs.length < l.length) : (splice l k cs).set (k + cs.length) x = splice l k (cs ++ [x]) := by
  apply List.ext_getElem?
  intro j
  rw [List.getElem?_set, splice_get _ _ _ (by omega), splice_get _ _ _ (by simp; omega), length_splice _ _ _ (by omega)]
  simp only [List.length_append, List.length_singleton]
  by_cases h1 : k + cs.length = j
  · subst h1; rw [if_pos rfl, if_pos (by omega), if_pos (by omega)]; simp
  · rw [if_neg h1]
    by_cases h2 : k ≤ j ∧ j < k + cs.length
    · rw [if_pos h2, if_pos (by omega), List.getElem?_append_left (by omega)]
    · rw [if_neg h2, if_neg (by omega)]
theorem splice_nil {α : Type} (l : List α) (k : Nat) : splice l k [] = l := by simp [splice]
theorem splice_pt {l : List Int} (k m N : Nat) (h : k + m < l.length) : (splice l k (ptL N m)).set (k + m) ((N / 256 ^ m % 256 : Nat) : Int) = splice l k (ptL N (m + 1)) := by
  have e := splice_snoc l (ptL N m) k ((N / 256 ^ m % 256 : Nat) : Int) (by rw [ptL_length]; exact h)
  rw [ptL_length] at e
  rw [e, ptL_succ]
theorem splice_tk {l b : List Int} (k m : Nat) (hm : m < b.length) (h : k + m < l.length) : (splice l k (b.take m)).set (k + m) (b.getD m 0) = splice l k (b.take (m + 1)) := by
  have hl : (b.take m).length = m := by simp; omega
  have e := splice_snoc l (b.take m) k (b.getD m 0) (by rw [hl]; exact h)
  rw [hl] at e
  rw [e, List.take_add_one]
  simp [List.getD, List.getElem?_eq_getElem hm]
/-- The bus, and the law's own copy c of its RAM. -/
structure Pmm (B : Nat) (w0 : World) (L : Lay) (M g cap n : Nat) (S : St) (c : List Int) (w : World) : Prop where
  p : PB B L S w
  s : Sok S
  nl : S.ram.length = n
  own : w.ownsRow M 5 1 (.slice (some ⟨g, 0, none⟩) n cap) n (bv c)
  oM : ∀ k, L.own k → k < M
  be : Below B w0 w
  le : B ≤ M
/-- The same, and the row of the call at hand. -/
structure Pmr (B : Nat) (w0 : World) (L : Lay) (M g cap n go : Nat) (C : Array Value) (S : St) (c : List Int) (w : World) : Prop where
  m : Pmm B w0 L M g cap n S c w
  row : w.heap[go]? = some (.cells C 45 (0, 0))
  hM : M ≤ go
  ne : g ≠ go
section
variable {B : Nat} {w0 : World} {L : Lay} {M g cap n go : Nat} {C : Array Value} {S T : St} {c : List Int} {w w' : World}
theorem Pmm.len (h : Pmm B w0 L M g cap n S c w) : c.length = n := by have := h.own.1; rw [bv_length] at this; omega
theorem Pmm.gl (h : Pmm B w0 L M g cap n S c w) : M ≤ g ∧ g < w.heap.size := h.own.lt g rfl
theorem Pmm.size (h : Pmm B w0 L M g cap n S c w) : B ≤ w.heap.size := by have := h.gl; have := h.le; omega
theorem Pmm.later (h : Pmm B w0 L M g cap n S c w) (hb : Below w.heap.size w w') : Pmm B w0 L M g cap n S c w' :=
  ⟨h.p.later hb, h.s, h.nl, own_later h.own hb rfl, h.oM, h.be.trans (hb.mono h.size), h.le⟩
theorem Pmr.later (h : Pmr B w0 L M g cap n go C S c w) (hb : Below w.heap.size w w') : Pmr B w0 L M g cap n go C S c w' :=
  ⟨h.m.later hb, (hb.block _ (Array.getElem?_eq_some_iff.1 h.row).1).trans h.row, h.hM, h.ne⟩
theorem Pmm.row (h : Pmm B w0 L M g cap n S c w) : Pmr B w0 L M g cap n w.heap.size C S c (w.alloc (.cells C 45)) :=
  ⟨h.later (below_al w _), heap_alloc_new w _, by have := h.gl; omega, by have := h.gl; omega⟩
theorem Pmr.put (h : Pmr B w0 L M g cap n go C S c w) (j : Nat) (hj : j < n) (x : Int) : Pmr B w0 L M g cap n go C S (c.set j x) (w.setCell ⟨g, j, none⟩ (.int .u8 x)) := by
  have hx : Exc (fun k => k = g) w (w.setCell ⟨g, j, none⟩ (.int .u8 x)) := (Exc.refl _ w).set g j _ rfl
  have hg := h.m.gl
  refine ⟨⟨h.m.p.exo hx (fun k hk e => ?_), h.m.s, h.m.nl, own_put h.m.own j hj x, h.m.oM, h.m.be.trans (hx.below h.m.size (fun k e => ?_)), h.m.le⟩, ?_, h.hM, h.ne⟩
  · have := h.m.oM k hk; omega
  · have := h.m.le; omega
  · rw [heap_setCell_other w _ go _ (fun e => h.ne e.symm)]; exact h.row
theorem Pmr.bus (h : Pmr B w0 L M g cap n go C S c w) (hp : PB B L T w') (hs : Sok T) (hn : T.ram.length = n) (hx : Exc L.own w w') : Pmr B w0 L M g cap n go C T c w' := by
  have hg := h.m.gl
  have hM := h.hM
  refine ⟨⟨hp, hs, hn, own_exc h.m.own hx (fun k e q => ?_), h.m.oM, h.m.be.trans (hx.below h.m.size (fun k hk => h.m.p.own_lo k hk)), h.m.le⟩, ?_, h.hM, h.ne⟩
  · have e2 : g = k := by simpa [Value.ownBlock] using e
    have := h.m.oM k q
    omega
  · exact (hx.block go (Array.getElem?_eq_some_iff.1 h.row).1 (fun q => by have := h.m.oM go q; omega)).trans h.row
theorem Sok.sto (h : Sok S) (k : Nat) (z : Int) (N : Nat) : Sok (S.sto k z N) := by
  unfold St.sto
  split
  · rename_i hh
    obtain ⟨s, rfl, p1, p2, p3⟩ := hasM_at hh
    exact h.ram k _ (by rw [ptL_length]; simpa using p1) (ptL_all _ _)
  · exact h
theorem Pmr.store (h : Pmr B w0 L M g cap n go C S c w) (bx : BitVec 64) (k : Nat) (z : Int) (hk : k ≤ 200000) (hz : -9223372036854775808 ≤ z ∧ z ≤ 9223372036854775807) :
    Calls Try.prog 19 #[.pointer (some ⟨L.b, 0, none⟩), .int .u64 (2147483648 + (k : Int)), .int .i64 z, .int .u64 (n64 bx)] w fun e w' => e = .returned (.bool (hasM n (2147483648 + (k : Int)) z)) ∧ Pmr B w0 L M g cap n go C (S.sto k z bx.toNat) c w' := by
  have q := store_any bx w h.m.p h.m.s.n.1 k z hk hz
  rw [h.m.nl] at q
  exact q.mono (fun e w' ⟨he, hp, hx⟩ => ⟨he, h.bus hp (h.m.s.sto k z _) (by rw [St.sto_len]; exact h.m.nl) hx⟩)
theorem Pmr.load (h : Pmr B w0 L M g cap n go C S c w) (k : Nat) (z : Int) (hk : k ≤ 200000) (hz : -9223372036854775808 ≤ z ∧ z ≤ 9223372036854775807) :
    Calls Try.prog 17 #[.pointer (some ⟨L.b, 0, none⟩), .int .u64 (2147483648 + (k : Int)), .int .i64 z] w fun e w' => e = .returned (.tuple #[.int .u64 (S.lod k z), .bool (hasM n (2147483648 + (k : Int)) z)]) ∧ Pmr B w0 L M g cap n go C S c w' := by
  have q := load_any w h.m.p h.m.s.st.r h.m.s.n.1 k z hk hz
  rw [h.m.nl] at q
  exact q.mono (fun e w' ⟨he, hb⟩ => ⟨he, h.later hb⟩)
theorem Pmr.poke_yes (h : Pmr B w0 L M g cap n go C S c w) (k : Nat) (v : Value) (l : List Int) (hv : Byt w v l) (hl : AllB l) (hk : k + l.length ≤ n ∨ l = []) :
    Calls Try.prog 20 #[.pointer (some ⟨L.b, 0, none⟩), .int .u64 (2147483648 + (k : Int)), v] w fun e w' => e = .returned (.int .i64 0) ∧ Pmr B w0 L M g cap n go C { S with ram := splice S.ram k l } c w' := by
  by_cases h0 : l = []
  · subst h0
    rw [splice_nil]
    exact (poke_none w h.m.p _ v hv).mono (fun e w' ⟨he, hb⟩ => ⟨he, h.later hb⟩)
  · have hl0 : 0 < l.length := List.length_pos_iff.2 h0
    have hk1 : k + l.length ≤ S.ram.length := by rw [h.m.nl]; rcases hk with hk | hk; exact hk; exact absurd hk h0
    exact (poke_in w h.m.p h.m.s.n.1 k v l hv hl0 hk1).mono (fun e w' ⟨he, hp, hx⟩ => ⟨he, h.bus hp (h.m.s.ram k l hk1 hl) (by rw [length_splice _ _ _ hk1]; exact h.m.nl) hx⟩)
theorem Pmr.poke_no (h : Pmr B w0 L M g cap n go C S c w) (k : Nat) (v : Value) (l : List Int) (hv : Byt w v l) (h0 : 0 < l.length) (hl : l.length ≤ 140737488355328) (hk : n < k + l.length) (hk2 : k ≤ 200000) :
    Calls Try.prog 20 #[.pointer (some ⟨L.b, 0, none⟩), .int .u64 (2147483648 + (k : Int)), v] w fun e w' => e = .returned (.int .i64 30) ∧ Pmr B w0 L M g cap n go C S c w' := by
  have hf : hld S.ram.length (2147483648 + (k : Int)) l.length = false := by
    rw [h.m.nl]
    unfold hld
    rw [Bool.eq_false_iff]
    simp only [ne_eq, Bool.and_eq_true, decide_eq_true_eq]
    omega
  exact (poke_out w h.m.p h.m.s.n.1 _ v l hv h0 hl (by omega) hf).mono (fun e w' ⟨he, hb⟩ => ⟨he, h.later hb⟩)
end
/-- The first copy. -/
theorem pmm_start {w0 wr w1 : World} {L : Lay} {S : St} {v : Value} {n : Nat} (hp : PB w0.heap.size L S wr) (hs : Sok S) (hb : Below w0.heap.size w0 wr) (hown : w1.ownsRow wr.heap.size 5 1 v n (bv S.ram)) (hg : Below wr.heap.size wr w1) :
    ∃ g cap, v = .slice (some ⟨g, 0, none⟩) n cap ∧ Pmm w0.heap.size w0 L wr.heap.size g cap n S S.ram w1 := by
  have hn := hs.n
  have hl := hown.1
  rw [bv_length] at hl
  rcases Go.Joins.ownsRow_forms hown with ⟨rfl, h0⟩ | ⟨g, cap, rfl⟩
  · omega
  · exact ⟨g, cap, rfl, hp.later hg, hs, by omega, hown, fun k hk => hp.own_hi k hk, hb.trans (hg.mono hb.size), hb.size⟩
theorem at_num {a : Int} {n : Nat} (ha : 0 ≤ a) (h8 : 8 ≤ n) (hn : n ≤ 65536) : ∃ k : Nat, k < 2 * n ∧ wrap64 (a % (2 * (n : Int))) = (k : Int) ∧ IntKind.u64.wrap (2147483648 + IntKind.u64.wrap (wrap64 (a % (2 * (n : Int))))) = 2147483648 + (k : Int) := by
  have h1 : a % (2 * (n : Int)) < 2 * n := Int.emod_lt_of_pos _ (by omega)
  have h2 : 0 ≤ a % (2 * (n : Int)) := Int.emod_nonneg _ (by omega)
  refine ⟨(a % (2 * (n : Int))).toNat, by omega, ?_⟩
  have e : wrap64 (a % (2 * (n : Int))) = ((a % (2 * (n : Int))).toNat : Int) := by unfold wrap64; omega
  refine ⟨e, ?_⟩
  rw [e, u64_small (z := ((a % (2 * (n : Int))).toNat : Int)) (by omega) (by omega), u64_small (by omega) (by omega)]
end Go.Proofs.Ytghiabdkgfhdbaa
