/-
  Iwt Iwu Iwf Iwg.
-/
import Derived.Test.YtopddflnahfomaaGreatDoorM37
import Derived.Test.YtopddflnahfomaaGreatDoorM32
import Derived.Test.YtopddflnahfomaaGreatDoorM38
import Derived.Laws.BytesArg
import Derived.BigQuiet
import Derived.Deep.QuietTactic
namespace Go.Proofs.YtopddflnahfomaaGreatDoor
set_option linter.unusedVariables false
open Go.ChangeShapes Go.WideShapes Go.ChangeAt Go.RowKit Go.Deep
/-- All rows of bytes stay. -/
def Fy (w w' : World) : Prop := ∀ (g : Nat) (cur : Array Value) (z : Nat × Nat), w.heap[g]? = some (Obj.cells cur 5 z) → w'.heap[g]? = some (Obj.cells cur 5 z)
theorem Fy.refl (w : World) : Fy w w := fun _ _ _ h => h
theorem Fy.trans {w w' w'' : World} (h : Fy w w') (k : Fy w' w'') : Fy w w'' := fun g cur z q => k g cur z (h g cur z q)
theorem Fy.of_below {w w' : World} (h : Below w.heap.size w w') : Fy w w' := fun g cur z q => by rw [h.block g (Array.getElem?_eq_some_iff.1 q).1]; exact q
theorem Fy.set {w : World} {S : Nat} {c : Array Value} {t : TypeId} {z : Nat × Nat} (h : w.heap[S]? = some (.cells c t z)) (ht : ¬ t = 5) (i : Nat) (v : Value) : Fy w (w.setCell ⟨S, i, none⟩ v) := fun g cur y q => by
  have hne : g ≠ S := fun e => by
    rw [e, h] at q
    simp only [Option.some.injEq, Obj.cells.injEq] at q
    exact ht q.2.1
  rw [Below.heap_setCell w ⟨S, i, none⟩ v g hne]
  exact q
theorem Fy.grown {w w' : World} {B n : Nat} {v : Value} {xs : List Value} (h : w.grownBy w' v.ownBlock) (hown : w.ownsRow B 42 4 v n xs) : Fy w w' := fun g cur z q => by
  have hg := (Array.getElem?_eq_some_iff.1 q).1
  by_cases e : v.ownBlock = some g
  · rcases hown.2 with ⟨rfl, _⟩ | ⟨g', cap, cu, rfl, _, h2, _⟩
    · cases e
    · cases e
      rw [h2] at q
      simp only [Option.some.injEq, Obj.cells.injEq] at q
      exact absurd q.2.1 (by decide)
  · rw [h.5 g hg (fun q => e q.symm)]
    exact q
theorem own_fy {w w' : World} {B n : Nat} {v : Value} {xs : List Value} (h : w.ownsRow B 5 1 v n xs) (hf : Fy w w') : w'.ownsRow B 5 1 v n xs := by
  refine ⟨h.1, ?_⟩
  rcases h.2 with h' | ⟨g, cap, cur, rfl, h1, h2, h3⟩
  · exact .inl h'
  · exact .inr ⟨g, cap, cur, rfl, h1, hf g cur (0, 0) h2, h3⟩
/-- The parts' bytes lie in blocks from B on. -/
def DTo (B : Nat) (M : List Sg) (D : Nat → List Int) (k : Nat) (w : World) : Prop := ∀ j, j < k → w.ownsRow B 5 1 (.slice (sg M j).m (sg M j).n (sg M j).c) (sg M j).n (bv (D j))
theorem DTo.fy {B : Nat} {M : List Sg} {D : Nat → List Int} {k : Nat} {w w' : World} (h : DTo B M D k w) (hf : Fy w w') : DTo B M D k w' := fun j hj => own_fy (h j hj) hf
theorem appV {ops : Array Oper} {rest : List Oper} {o : Oper} {a : Act} {w : World} {Q : Exit → Act → World → Prop} (hgd : o.guard = none) (s x : Operand) (ho : o.op = .call { callee := .builtin .append, args := #[s, x], argTypes := #[23, 23] })
    (B Pb : Nat) (cur : Array Value) (v : Value) (L : List Sg) (y : Sg) (hs : a.eval s = v) (hP : w.heap[Pb]? = some (.cells cur 26 (0, 0))) (hPB : Pb < B) (hown : w.ownsRow B 42 4 v L.length (sgl L))
    (h0 : Nat) (hx : a.eval x = .slice (some ⟨h0, 0, none⟩) 1 1) (hh0 : h0 = w.heap.size) (hl : (L.length + 1) * 48 ≤ 140737488355328) (hB : B ≤ w.heap.size)
    (h : ∀ g' c' w', w'.ownsRow B 42 4 (.slice (some ⟨g', 0, none⟩) (L.length + 1) c') (L ++ [y]).length (sgl (L ++ [y])) → w'.heap[Pb]? = some (.cells cur 26 (0, 0)) → w'.cell? ⟨Pb, 1, none⟩ = cur[1]? → w'.frozen? ⟨Pb, 1, none⟩ = false → Below B w w' → Fy w w' → wpList Tryz.prog ops Q rest (a.put o.dst (.slice (some ⟨g', 0, none⟩) (L.length + 1) c')) w') :
    wpList Tryz.prog ops Q (o :: rest) a (w.alloc (.cells #[.int .u64 (n64 y.a), .int .u64 (n64 y.s), .int .i64 y.f, .slice y.m y.n y.c] 42)) := by
  subst hh0
  obtain ⟨i0, hi, hz0, hz1, hz2⟩ := info_parts info41
  refine wpList_append_own _ hgd s x 23 ho B 42 i0 (.agg #[.int .u64 0, .int .u64 0, .int .i64 0, .slice none 0 0]) 4 48 Tryz.underlying23 hi hz0 hz1 hz2 rfl (by decide) v L.length (sgl L) hs (hown.alloc _) ⟨w.heap.size, 0, none⟩ 1 1 (sgv y) hx rfl ?_ ?_ (by unfold maxLen; omega) (by omega) (by simp; omega) ?_
  · intro j u hj
    have hj4 : j < 4 := by have := (List.getElem?_eq_some_iff.1 hj).1; simpa [sgv] using this
    rw [addAt, Nat.zero_add, World.cell?_alloc_at _ _ _ _ rfl]
    match j, hj4, hj with
    | 0, _, hj => exact hj
    | 1, _, hj => exact hj
    | 2, _, hj => exact hj
    | 3, _, hj => exact hj
  · intro u hu; simp [sgv] at hu; rcases hu with rfl | rfl | rfl | rfl <;> rfl
  · intro v' w' h1 h2 _
    have hbl : Below B w w' := ((Below.refl _ _).alloc hB _).grown h2 (by simp; omega) (fun k hk => (hown.lt k hk).1)
    have hP' : w'.heap[Pb]? = some (.cells cur 26 (0, 0)) := by rw [hbl.block Pb hPB]; exact hP
    obtain ⟨g', c', rfl⟩ := Go.Joins.ownsRow_form h1 (by omega)
    exact h g' c' w' (by rw [sgl_snoc, List.length_append]; exact h1) hP' (cell_of_row w' Pb 1 cur 26 (0, 0) hP') (frozen_of_row w' Pb 1 cur 26 hP') hbl (((Fy.of_below ((Below.refl _ _).alloc (Nat.le_refl _) _))).trans (Fy.grown h2 (hown.alloc _)))
/-- Where twin stands behind the first k parts. -/
structure TX (E : BitVec 64) (L : List Sg) (D : Nat → List Int) (k Pb : Nat) (sv : Value) (w1 wr : World) : Prop where
  blk : wr.heap[Pb]? = some (.cells #[.int .u64 (n64 E), sv, .slice none 0 0] 26 (0, 0))
  own : ∃ M : List Sg, M.length = k ∧ (∀ j, j < k → (sg M j).a = (sg L j).a ∧ (sg M j).s = (sg L j).s ∧ (sg M j).f = (sg L j).f ∧ (sg M j).n = (sg L j).n) ∧ wr.ownsRow (Pb + 1) 42 4 sv M.length (sgl M) ∧ DTo (Pb + 1) M D k wr
  below : Below Pb w1 wr
theorem FYd {Pb : Nat} {wr w2 : World} {c : Array Value} (hb : Below (wr.alloc (.cells c 42)).heap.size (wr.alloc (.cells c 42)) w2) (hPb : Pb + 1 ≤ wr.heap.size) {l : List Int} {v : Value} (hown : w2.ownsRow (wr.alloc (.cells c 42)).heap.size 5 1 v l.length (bv l)) (u : Value) :
    Fy wr (w2.setCell ⟨wr.heap.size, 3, none⟩ u) ∧ (w2.setCell ⟨wr.heap.size, 3, none⟩ u).ownsRow (Pb + 1) 5 1 v l.length (bv l) := by
  have hb0 : Below wr.heap.size wr (wr.alloc (.cells c 42)) := (Below.refl _ _).alloc (Nat.le_refl _) _
  have hs : wr.heap.size < (wr.alloc (.cells c 42)).heap.size := by simp
  have h1 : w2.heap[wr.heap.size]? = some (.cells c 42 (0, 0)) := by rw [hb.block _ hs]; exact heap_alloc_new wr _
  have hf := Fy.set h1 (by decide) 3 u
  exact ⟨((Fy.of_below hb0).trans (Fy.of_below hb)).trans hf, own_leB (own_fy hown hf) (by omega)⟩
theorem TX.next {E : BitVec 64} {L M : List Sg} {D : Nat → List Int} {k Pb g1 c1 n : Nat} {sv sv' : Value} {x : Sg} {l : List Int} {wr w1 w2 w3 : World} (hM : M.length = k) (hk : k < L.length) (hx : x = sg L k) (hn : n = x.n)
    (hMe : ∀ j, j < k → (sg M j).a = (sg L j).a ∧ (sg M j).s = (sg L j).s ∧ (sg M j).f = (sg L j).f ∧ (sg M j).n = (sg L j).n)
    (hown : w3.ownsRow (Pb + 1) 42 4 sv' (M ++ [(⟨x.a, x.s, x.f, .slice none 0 0, n, some ⟨g1, 0, none⟩, c1⟩ : Sg)]).length (sgl (M ++ [(⟨x.a, x.s, x.f, .slice none 0 0, n, some ⟨g1, 0, none⟩, c1⟩ : Sg)])))
    (hP : w3.heap[Pb]? = some (.cells #[.int .u64 (n64 E), sv, .slice none 0 0] 26 (0, 0))) (hb1 : Below Pb w1 w2) (hb : Below (Pb + 1) w2 w3)
    (hl : l = D k) (hln : l.length = n) (hMd : DTo (Pb + 1) M D k wr) (hfy : Fy wr w2 ∧ w2.ownsRow (Pb + 1) 5 1 (.slice (some ⟨g1, 0, none⟩) l.length c1) l.length (bv l)) (hf3 : Fy w2 w3) : TX E L D (k + 1) Pb sv' w1 (w3.setCell ⟨Pb, 1, none⟩ sv') := by
  have e1 : ∀ j, j = k → sg (M ++ [(⟨x.a, x.s, x.f, .slice none 0 0, n, some ⟨g1, 0, none⟩, c1⟩ : Sg)]) j = ⟨x.a, x.s, x.f, .slice none 0 0, n, some ⟨g1, 0, none⟩, c1⟩ := fun j e => by
    unfold sg List.getD; rw [List.getElem?_append_right (by omega), hM, e, Nat.sub_self]; rfl
  have e2 : ∀ j, j < k → sg (M ++ [(⟨x.a, x.s, x.f, .slice none 0 0, n, some ⟨g1, 0, none⟩, c1⟩ : Sg)]) j = sg M j := fun j e => by
    unfold sg List.getD; rw [List.getElem?_append_left (by omega)]
  have hf4 : Fy w3 (w3.setCell ⟨Pb, 1, none⟩ sv') := Fy.set hP (by decide) 1 sv'
  refine ⟨heap_setCell_same w3 Pb 1 _ 26 sv' hP, ⟨M ++ [(⟨x.a, x.s, x.f, .slice none 0 0, n, some ⟨g1, 0, none⟩, c1⟩ : Sg)], by rw [List.length_append, hM]; rfl, fun j hj => ?_, ownsRow_setCell_below hown (show Pb < Pb + 1 by omega) _, fun j hj => ?_⟩, (hb1.trans (hb.mono (by omega))).setCell (Nat.le_refl _) _⟩
  · by_cases e : j = k
    · rw [e1 j e, e, ← hx]
      exact ⟨rfl, rfl, rfl, hn⟩
    · rw [e2 j (by omega)]
      exact hMe j (by omega)
  · by_cases e : j = k
    · rw [e1 j e, e, ← hl]
      have h := own_fy (own_fy hfy.2 hf3) hf4
      rw [hln] at h
      exact h
    · rw [e2 j (by omega)]
      exact own_fy (own_fy (own_fy (hMd j (by omega)) hfy.1) hf3) hf4
set_option maxHeartbeats 4000000 in
theorem twin_d (E : BitVec 64) (vs vn : Value) (L : List Sg) (N : List Sy) (hL : L.length * 48 ≤ 140737488355280) (hN : N.length * 24 ≤ 140737488355328) (w : World) (hi : Img w vs vn L N)
    (D : Nat → List Int) (hd : Hid (Dta w L D)) (hnil : Hid (∀ c k, vn = .slice none k c → k = 0 ∧ c = 0)) :
    Calls Tryz.prog 7 #[.agg #[.int .u64 (n64 E), vs, vn]] w fun e w' => ∃ vs' vn' M, e = .returned (.agg #[.int .u64 (n64 E), vs', vn']) ∧ Hid (Alike L M) ∧ Hid (Img w' vs' vn' M N) ∧ Hid (Below w.heap.size w w') ∧ Hid (DTo w.heap.size M D L.length w') ∧ Hid (w'.ownsRow w.heap.size 42 4 vs' M.length (sgl M)) := by
  have HI : Hid (Img w vs vn L N) := hi
  obtain ⟨B, hB⟩ : ∃ B, B = w.heap.size := ⟨_, rfl⟩
  have HB0 : Hid (B = w.heap.size) := hB
  clear hB
  obtain ⟨sa, sc, rfl, _, _⟩ := hi.segs
  obtain ⟨na, nc, rfl, _, _⟩ := hi.syms
  clear hi
  go_enter Tryz.func7, Tryz.ntmps7
  go_wp2
  have HM1 : Hid ((((w.alloc (.cells #[.int .u64 (n64 E), .slice sa L.length sc, .slice na N.length nc] 26)).alloc (.cells #[.int .u64 0, .slice none 0 0, .slice none 0 0] 26)).alloc (.cells #[.int .u64 (n64 E), .slice none 0 0, .slice none 0 0] 26)).cell? ⟨w.heap.size, 1, none⟩ = some (.slice sa L.length sc)) := by unfold Hid; rw [alloc3_0]; rfl
  have HM2 : Hid ((((w.alloc (.cells #[.int .u64 (n64 E), .slice sa L.length sc, .slice na N.length nc] 26)).alloc (.cells #[.int .u64 0, .slice none 0 0, .slice none 0 0] 26)).alloc (.cells #[.int .u64 (n64 E), .slice none 0 0, .slice none 0 0] 26)).cell? ⟨w.heap.size, 2, none⟩ = some (.slice na N.length nc)) := by unfold Hid; rw [alloc3_0]; rfl
  have HRb : Hid ((((w.alloc (.cells #[.int .u64 (n64 E), .slice sa L.length sc, .slice na N.length nc] 26)).alloc (.cells #[.int .u64 0, .slice none 0 0, .slice none 0 0] 26)).alloc (.cells #[.int .u64 (n64 E), .slice none 0 0, .slice none 0 0] 26)).heap[w.heap.size + 1]? = some (.cells #[Value.int .u64 0, .slice none 0 0, .slice none 0 0] 26 (0, 0))) := by
    unfold Hid; rw [Below.heap_alloc _ _ _ (by simp)]; exact (heap_alloc_new (w.alloc (.cells #[.int .u64 (n64 E), .slice sa L.length sc, .slice na N.length nc] 26)) _ |> fun h => by simpa using h)
  have HP0 : Hid (TX E L D 0 (w.heap.size + 1 + 1) (.slice none 0 0) (((w.alloc (.cells #[.int .u64 (n64 E), .slice sa L.length sc, .slice na N.length nc] 26)).alloc (.cells #[.int .u64 0, .slice none 0 0, .slice none 0 0] 26)).alloc (.cells #[.int .u64 (n64 E), .slice none 0 0, .slice none 0 0] 26)) (((w.alloc (.cells #[.int .u64 (n64 E), .slice sa L.length sc, .slice na N.length nc] 26)).alloc (.cells #[.int .u64 0, .slice none 0 0, .slice none 0 0] 26)).alloc (.cells #[.int .u64 (n64 E), .slice none 0 0, .slice none 0 0] 26))) := by
    refine ⟨?_, ⟨[], rfl, fun j hj => by omega, World.ownsRow_nil _ _ _ _, fun j hj => absurd hj (Nat.not_lt_zero _)⟩, Below.refl _ _⟩
    exact (heap_alloc_new ((w.alloc (.cells #[.int .u64 (n64 E), .slice sa L.length sc, .slice na N.length nc] 26)).alloc (.cells #[.int .u64 0, .slice none 0 0, .slice none 0 0] 26)) _ |> fun h => by simpa using h)
  have HB1 : Hid (Below B w (((w.alloc (.cells #[.int .u64 (n64 E), .slice sa L.length sc, .slice na N.length nc] 26)).alloc (.cells #[.int .u64 0, .slice none 0 0, .slice none 0 0] 26)).alloc (.cells #[.int .u64 (n64 E), .slice none 0 0, .slice none 0 0] 26))) := (((Below.refl _ _).alloc (by rw [HB0.out]; exact Nat.le_refl _) _).alloc (by rw [HB0.out]; simp) _).alloc (by rw [HB0.out]; simp; omega) _
  generalize (((w.alloc (.cells #[.int .u64 (n64 E), .slice sa L.length sc, .slice na N.length nc] 26)).alloc (.cells #[.int .u64 0, .slice none 0 0, .slice none 0 0] 26)).alloc (.cells #[.int .u64 (n64 E), .slice none 0 0, .slice none 0 0] 26)) = W1 at *
  obtain ⟨Mb, hMb⟩ : ∃ Mb, Mb = w.heap.size := ⟨_, rfl⟩
  obtain ⟨Rb, hRb⟩ : ∃ Rb, Rb = w.heap.size + 1 := ⟨_, rfl⟩
  obtain ⟨Pb, hPb⟩ : ∃ Pb, Pb = w.heap.size + 1 + 1 := ⟨_, rfl⟩
  rw [← hPb] at HP0 ⊢
  rw [← hRb] at HRb ⊢
  rw [← hMb] at HM1 HM2 ⊢
  have HN3 : Hid (Mb = B ∧ Rb = B + 1 ∧ Pb = B + 2) := by have := HB0.out; exact ⟨by omega, by omega, by omega⟩
  clear hMb hRb hPb
  go_loopw [4] (fun i wr => ∃ k : Nat, k ≤ L.length ∧ i = .int .i64 k ∧ ∃ sv, Hid (TX E L D k Pb sv W1 wr)) (fun i _ => L.length - (intOf i).toNat)
  case atStart => exact ⟨0, Nat.zero_le _, rfl, _, HP0⟩
  case round =>
    obtain ⟨k, hk, rfl, sv, hp⟩ := hrel
    clear HP0
    have HBw : Hid (Below B w wr) := HB1.out.trans (hp.out.below.mono (by have := HN3.out; omega))
    have HPs : Hid (Pb < wr.heap.size) := (Array.getElem?_eq_some_iff.1 hp.out.blk).1
    have m1 : wr.cell? ⟨Mb, 1, none⟩ = some (.slice sa L.length sc) := by rw [hp.out.below.cell (show Mb < Pb by have := HN3.out; omega)]; exact HM1.out
    have m2 : wr.cell? ⟨Mb, 2, none⟩ = some (.slice na N.length nc) := by rw [hp.out.below.cell (show Mb < Pb by have := HN3.out; omega)]; exact HM2.out
    by_cases hlt : k < L.length
    · have hlt2 : (k : Int) < (L.length : Int) := by omega
      obtain ⟨_, _, he, _, hcc⟩ := HI.out.segs.later HBw.out HB0.out
      cases he
      obtain ⟨g, off, rfl, hg, hcells⟩ := hcc (by intro e; have := congrArg List.length e; simp only [List.length_nil] at this; omega)
      obtain ⟨c0, c1, c2, c3⟩ := hcells k hlt
      obtain ⟨hll, hbyt⟩ := hd.out k hlt
      obtain ⟨l, hl0⟩ : ∃ l, l = D k := ⟨_, rfl⟩
      rw [← hl0] at hll hbyt
      have HL0 : Hid (l = D k) := hl0
      clear hl0
      have hln := HI.out.lens k hlt
      obtain ⟨x, hx⟩ : ∃ x, x = sg L k := ⟨_, rfl⟩
      rw [← hx] at c0 c1 c2 c3 hll hbyt hln
      have HX : Hid (x = sg L k) := hx
      clear hx hcells hcc
      obtain ⟨M, hM, hMe, hMo, hMd⟩ := hp.out.own
      have HM : Hid (M.length = k) := hM
      have HME : Hid (∀ j, j < k → (sg M j).a = (sg L j).a ∧ (sg M j).s = (sg L j).s ∧ (sg M j).f = (sg L j).f ∧ (sg M j).n = (sg L j).n) := hMe
      have HMO : Hid (wr.ownsRow (Pb + 1) 42 4 sv M.length (sgl M)) := hMo
      have HBY : Hid (Byt (wr.alloc (.cells #[.int .u64 (n64 x.a), .int .u64 (n64 x.s), .int .i64 x.f, .slice x.m x.n x.c] 42)) (.slice x.m x.n x.c) l) := (hbyt.later HBw.out HB0.out).later ((Below.refl _ _).alloc (Nat.le_refl _) _) rfl
      have HLL : Hid (l.length = x.n) := hll
      have hln2 : l.length ≤ 140737488355328 := by rw [hll]; exact hln
      have HLN : Hid (l.length ≤ 140737488355328) := hln2
      have HPB : Hid (Pb + 1 ≤ wr.heap.size) := HPs.out
      have HMD : Hid (DTo (Pb + 1) M D k wr) := hMd
      clear hM hMe hMo hMd hbyt hll hln2
      have HC : Hid (wr.heap[Pb]? = some (.cells #[.int .u64 (n64 E), sv, .slice none 0 0] 26 (0, 0))) := hp.out.blk
      have HTS : Hid (∀ w2, Below (wr.alloc (.cells #[.int .u64 (n64 x.a), .int .u64 (n64 x.s), .int .i64 x.f, .slice x.m x.n x.c] 42)).heap.size (wr.alloc (.cells #[.int .u64 (n64 x.a), .int .u64 (n64 x.s), .int .i64 x.f, .slice x.m x.n x.c] 42)) w2 → TS x wr.heap.size Pb #[.int .u64 (n64 E), sv, .slice none 0 0] sv M W1 w2) := fun w2 hb2 => TS.of HC.out HMO.out hp.out.below hb2
      have HL48 : Hid ((M.length + 1) * 48 ≤ 140737488355328) := by unfold Hid; rw [HM.out]; omega
      go_wp2_with (first | (at_builtin; refine appD (by rfl) _ _ (by rfl) _ _ l (by rfl) (by simp) (by rfl) HBY.out HLN.out ?_; intro g1 c1' w2 hb2 hown2; have ts := HTS.out w2 hb2; have t0 := ts.c0; have t1 := ts.c1; have t2 := ts.c2; have t3 := ts.c3; have t4 := ts.f3; have t5 := fun v => cell_of_row _ Pb 1 _ 26 (0, 0) (ts.blk v); have HTs : Hid (TS x wr.heap.size Pb #[.int .u64 (n64 E), sv, .slice none 0 0] sv M W1 w2) := ts; have HFY : Hid (∀ u, Fy wr (w2.setCell ⟨wr.heap.size, 3, none⟩ u) ∧ (w2.setCell ⟨wr.heap.size, 3, none⟩ u).ownsRow (Pb + 1) 5 1 (.slice (some ⟨g1, 0, none⟩) l.length c1') l.length (bv l)) := (fun u => FYd hb2 HPB.out hown2 u); clear ts hb2 hown2) | (at_builtin; refine appV (by rfl) _ _ (by rfl) (Pb + 1) Pb _ _ M ⟨x.a, x.s, x.f, .slice none 0 0, l.length, some ⟨g1, 0, none⟩, c1'⟩ (by rfl) (HTs.out.blk _) (by omega) (HTs.out.own _) _ (by rfl) (by simp) HL48.out (HTs.out.room _) ?_; intro g2 c2' w3 hown3 hP3 hc3 hf3 hb3 hfy3))
      have HN : Hid (TX E L D (k + 1) Pb (.slice (some ⟨g2, 0, none⟩) (M.length + 1) c2') W1 (w3.setCell ⟨Pb, 1, none⟩ (.slice (some ⟨g2, 0, none⟩) (M.length + 1) c2'))) := TX.next HM.out hlt HX.out HLL.out HME.out hown3 hP3 (HTs.out.below _) hb3 HL0.out rfl HMD.out (HFY.out _) hfy3
      clear hown3 hP3 hb3 hfy3
      go_roundw
      case rel => exact ⟨k + 1, by omega, by go_num, _, HN⟩
      case measure => simp [intOf]; omega
    · have hkl : k = L.length := by omega
      have hle : (L.length : Int) ≤ (k : Int) := by omega
      obtain ⟨M, hM, hMe, hMo, hMd⟩ := hp.out.own
      have HAl : Hid (Alike L M) := by
        rw [hkl] at hM hMe
        exact ⟨hM, fun j hj => (hMe j hj).1, fun j hj => (hMe j hj).2.1, fun j hj => (hMe j hj).2.2.1, fun j hj => (hMe j hj).2.2.2⟩
      have HMO : Hid (wr.ownsRow (Pb + 1) 42 4 sv M.length (sgl M)) := hMo
      obtain ⟨da, dc, hdv⟩ : ∃ da dc, sv = .slice da M.length dc := by
        rcases Go.Joins.ownsRow_forms hMo with ⟨h1, h2⟩ | ⟨g', c', h1⟩
        · exact ⟨none, 0, by rw [h1, h2]⟩
        · exact ⟨_, _, h1⟩
      subst hdv
      have HSy : Hid (Sys wr (.slice na N.length nc) N) := HI.out.syms.later HBw.out HB0.out
      have p2 : wr.cell? ⟨Pb, 2, none⟩ = some (.slice none 0 0) := cell_of_row wr Pb 2 _ 26 (0, 0) hp.out.blk
      have HPB : Hid (wr.heap[Pb]? = some (.cells #[.int .u64 (n64 E), .slice da M.length dc, .slice none 0 0] 26 (0, 0))) := hp.out.blk
      have hRP : Rb < Pb := by have := HN3.out; omega
      have hRn : Rb ≠ Pb := by omega
      have HRw : Hid (wr.heap[Rb]? = some (.cells #[Value.int .u64 0, .slice none 0 0, .slice none 0 0] 26 (0, 0))) := by unfold Hid; rw [hp.out.below.block Rb hRP]; exact HRb.out
      have HMD : Hid (DTo (Pb + 1) M D L.length wr) := by rw [hkl] at hMd; exact hMd
      clear hkl hlt hM hMe hMo hMd
      have HAF : Hid (∀ w2, Below wr.heap.size wr w2 → w2.heap[Pb]? = some (.cells #[.int .u64 (n64 E), .slice da M.length dc, .slice none 0 0] 26 (0, 0)) ∧ w2.heap[Rb]? = some (.cells #[Value.int .u64 0, .slice none 0 0, .slice none 0 0] 26 (0, 0))) := fun w2 hb => ⟨by rw [hb.block Pb HPs.out]; exact HPB.out, by rw [hb.block Rb (Nat.lt_trans hRP HPs.out)]; exact HRw.out⟩
      go_wp2_with (at_builtin; refine appN (by rfl) _ _ (by rfl) _ N (by rfl) (by rfl) HSy.out hnil hN ?_; intro ad c' w2 hb2 hown2; have k0 := cell_of_row w2 Pb 0 _ 26 (0, 0) (HAF.out w2 hb2).1; have k1 := cell_of_row w2 Pb 1 _ 26 (0, 0) (HAF.out w2 hb2).1; have k2 := cell_of_row w2 Pb 2 _ 26 (0, 0) (HAF.out w2 hb2).1; have kf := frozen_of_row w2 Pb 2 _ 26 (HAF.out w2 hb2).1; have HRS : Hid (∀ v, (w2.setCell ⟨Pb, 2, none⟩ v).heap[Rb]? = some (.cells #[Value.int .u64 0, .slice none 0 0, .slice none 0 0] 26 (0, 0))) := (fun v => by rw [Below.heap_setCell w2 ⟨Pb, 2, none⟩ v Rb hRn]; exact (HAF.out w2 hb2).2); have r0 := fun v => cell_of_row _ Rb 0 _ 26 (0, 0) (HRS.out v); have r1 := fun v => cell_of_row _ Rb 1 _ 26 (0, 0) (HRS.out v); have r2 := fun v => cell_of_row _ Rb 2 _ 26 (0, 0) (HRS.out v); have s0 := fun v => frozen_of_row _ Rb 0 _ 26 (HRS.out v); have s1 := fun v => frozen_of_row _ Rb 1 _ 26 (HRS.out v); have s2 := fun v => frozen_of_row _ Rb 2 _ 26 (HRS.out v); have HB2 : Hid (Below wr.heap.size wr w2) := hb2; have HO2 : Hid (w2.ownsRow wr.heap.size 45 2 (.slice ad N.length c') N.length (syl N)) := hown2; clear hb2 hown2)
      have hN3 := HN3.out
      have o2 : w2.ownsRow (Pb + 1) 42 4 (.slice da M.length dc) M.length (sgl M) := by
        refine ⟨HMO.out.1, ?_⟩
        rcases HMO.out.2 with h' | ⟨g, cap, cu, h', q1, q2, q3⟩
        · exact .inl h'
        · exact .inr ⟨g, cap, cu, h', q1, by rw [HB2.out.block g (HMO.out.lt g (by rw [h']; rfl)).2]; exact q2, q3⟩
      have q1 := ownsRow_setCell_below (a := ⟨Pb, 2, none⟩) o2 (show Pb < Pb + 1 by omega) (.slice ad N.length c')
      have q2 := ownsRow_setCell_below (a := ⟨Rb, 0, none⟩) q1 (show Rb < Pb + 1 by omega) (.int .u64 (n64 E))
      have q3 := ownsRow_setCell_below (a := ⟨Rb, 1, none⟩) q2 (show Rb < Pb + 1 by omega) (.slice da M.length dc)
      have q4 := ownsRow_setCell_below (a := ⟨Rb, 2, none⟩) q3 (show Rb < Pb + 1 by omega) (.slice ad N.length c')
      have hRw : Rb < wr.heap.size := Nat.lt_trans hRP HPs.out
      have n1 := ownsRow_setCell_below (a := ⟨Pb, 2, none⟩) HO2.out HPs.out (.slice ad N.length c')
      have n2 := ownsRow_setCell_below (a := ⟨Rb, 0, none⟩) n1 hRw (.int .u64 (n64 E))
      have n3 := ownsRow_setCell_below (a := ⟨Rb, 1, none⟩) n2 hRw (.slice da M.length dc)
      have n4 := ownsRow_setCell_below (a := ⟨Rb, 2, none⟩) n3 hRw (.slice ad N.length c')
      have b1 : Below B w w2 := HBw.out.trans (HB2.out.mono (by have := HBw.out.size; rw [HB0.out]; exact this))
      have b5 := (((b1.setCell (p := ⟨Pb, 2, none⟩) (show B ≤ Pb by omega) (.slice ad N.length c')).setCell (p := ⟨Rb, 0, none⟩) (show B ≤ Rb by omega) (.int .u64 (n64 E))).setCell (p := ⟨Rb, 1, none⟩) (show B ≤ Rb by omega) (.slice da M.length dc)).setCell (p := ⟨Rb, 2, none⟩) (show B ≤ Rb by omega) (.slice ad N.length c')
      have y1 : Fy w2 (w2.setCell ⟨Pb, 2, none⟩ (.slice ad N.length c')) := Fy.set (HAF.out w2 HB2.out).1 (by decide) 2 _
      have z0 := HRS.out (.slice ad N.length c')
      have y2 := Fy.set z0 (by decide) 0 (.int .u64 (n64 E))
      have z1 := heap_setCell_same _ Rb 0 _ 26 (.int .u64 (n64 E)) z0
      have y3 := Fy.set z1 (by decide) 1 (.slice da M.length dc)
      have z2 := heap_setCell_same _ Rb 1 _ 26 (.slice da M.length dc) z1
      have y4 := Fy.set z2 (by decide) 2 (.slice ad N.length c')
      have yy := HMD.out.fy ((((Fy.of_below HB2.out).trans y1).trans y2).trans (y3.trans y4))
      exact bodyPost_ret (v := .agg #[.int .u64 (n64 E), .slice da M.length dc, .slice ad N.length c']) (results_cell_row Tryz.results7 _ _ Rb 26 _ (0, 0) _ (by rfl) (set3_blk (HRS.out _) _ _ _) Tryz.underlying26 (by rfl) size26) rfl
        ⟨_, _, M, rfl, HAl, ⟨Sgs.of_own q4, Sys.of_own n4, fun j hj => by rw [HAl.out.n j (by rw [← HAl.out.len]; exact hj)]; exact HI.out.lens j (by rw [← HAl.out.len]; exact hj), HI.out.texts⟩, by rw [← HB0.out]; exact b5, fun j hj => own_leB (yy j hj) (by have := HB0.out; omega), own_leB q4 (by have := HB0.out; omega)⟩
end Go.Proofs.YtopddflnahfomaaGreatDoor
namespace Go.Proofs.YtopddflnahfomaaGreatDoor
set_option linter.unusedVariables false
open Go.ChangeShapes Go.WideShapes Go.ChangeAt Go.RowKit Go.Deep
end Go.Proofs.YtopddflnahfomaaGreatDoor
namespace Go.Proofs.YtopddflnahfomaaGreatDoor
set_option linter.unusedVariables false
open Go.ChangeShapes Go.WideShapes Go.ChangeAt Go.RowKit Go.Deep
theorem Pr.made {B : Nat} {w : World} (hB : B ≤ w.heap.size) : Pr B (w.alloc (.cells #[.int .u8 127, .int .u8 69, .int .u8 76, .int .u8 70, .int .u8 2, .int .u8 1, .int .u8 1, .int .u8 0, .int .u8 0, .int .u8 0, .int .u8 0, .int .u8 0, .int .u8 0, .int .u8 0, .int .u8 0, .int .u8 0] 5)) (.slice (some ⟨w.heap.size, 0, none⟩) 16 16) idL (.slice none 0 0) [] :=
  ⟨⟨rfl, .inr ⟨w.heap.size, 16, #[.int .u8 127, .int .u8 69, .int .u8 76, .int .u8 70, .int .u8 2, .int .u8 1, .int .u8 1, .int .u8 0, .int .u8 0, .int .u8 0, .int .u8 0, .int .u8 0, .int .u8 0, .int .u8 0, .int .u8 0, .int .u8 0], rfl, hB, heap_alloc_new w _, Nat.le_refl _, by unfold maxLen; omega, rfl, rfl⟩⟩, World.ownsRow_nil _ _ _ _, rfl, .inl rfl⟩
end Go.Proofs.YtopddflnahfomaaGreatDoor
namespace Go.Proofs.YtopddflnahfomaaGreatDoor
set_option linter.unusedVariables false
open Go.ChangeShapes Go.WideShapes Go.ChangeAt Go.RowKit Go.Deep
end Go.Proofs.YtopddflnahfomaaGreatDoor
