/-
  BusOwn: the rows written full, then grown.
-/
import Derived.Test.YtghiabdkgfhdbaaBow
namespace Go.Proofs.Ytghiabdkgfhdbaa
set_option linter.unusedVariables false
open Go.ChangeShapes Go.WideShapes Go.ChangeAt Go.RowKit Go.Deep Go.MuLone
def mkb (i : Nat) : Int := 17 * ((i : Int) + 1)
def upd {α : Type} (f : Nat → α) (n : Nat) (x : α) : Nat → α := fun q => if q = n then x else f q
theorem upd_at {α : Type} (f : Nat → α) (n : Nat) (x : α) : upd f n x n = x := by unfold upd; rw [if_pos rfl]
theorem upd_ne {α : Type} (f : Nat → α) (n : Nat) (x : α) (q : Nat) (h : q ≠ n) : upd f n x q = f q := by unfold upd; rw [if_neg h]
structure Ow2 (B : Nat) (w0 : World) (L : Lay) (S : St) (M : Nat) (V : Nat → Value) (len : Nat → Nat) (l : Nat → List Int) (vl : Value) (w : World) : Prop where
  p : PB B L S w
  oM : ∀ k, L.own k → k < M
  be : Below B w0 w
  le : B ≤ M
  hM : M ≤ w.heap.size
  own : ∀ q, q < 10 → w.ownsRow M 5 1 (V q) (len q) (bv (l q))
  dj : ∀ q r, q < 10 → r < 10 → q ≠ r → ∀ g, (V q).ownBlock = some g → (V r).ownBlock ≠ some g
  ls : w.ownsRow M 22 1 vl 10 ((List.range 10).map V)
  len : ∀ q, q < 10 → len q ≤ 65536
section
variable {B : Nat} {w0 : World} {L : Lay} {S : St} {M m : Nat} {P : List (Value × List Int)} {V : Nat → Value} {len : Nat → Nat} {l : Nat → List Int} {vl vl' : Value} {w w' : World}
theorem Pow.ow2 (h : Pow B w0 L S M P 10 vl w) (hP : P.length = 10) : ∃ V len l, Ow2 B w0 L S M V len l vl w := by
  have hg : ∀ q, q < 10 → ∃ x, P[q]? = some x ∧ x ∈ P ∧ P.getD q (.slice none 0 0, []) = x := fun q hq => by
    have hq' : q < P.length := by omega
    exact ⟨P[q], List.getElem?_eq_getElem hq', List.getElem_mem hq', by simp [List.getD, List.getElem?_eq_getElem hq']⟩
  refine ⟨fun q => (P.getD q (.slice none 0 0, [])).1, fun q => (P.getD q (.slice none 0 0, [])).2.length, fun q => (P.getD q (.slice none 0 0, [])).2, h.p, h.oM, h.be, h.le, h.hM, fun q hq => ?_, fun q r hq hr hne g => ?_, ?_, fun q hq => ?_⟩
  · obtain ⟨x, _, h2, h3⟩ := hg q hq
    show w.ownsRow _ _ _ (P.getD q _).1 (P.getD q _).2.length (bv (P.getD q _).2)
    rw [h3]; exact h.rows.own x h2
  · obtain ⟨x, h1, _, h3⟩ := hg q hq
    obtain ⟨y, k1, _, k3⟩ := hg r hr
    show (P.getD q _).1.ownBlock = some g → (P.getD r _).1.ownBlock ≠ some g
    rw [h3, k3]
    have hpw := List.pairwise_iff_getElem.1 h.rows.dj
    rcases Nat.lt_or_gt_of_ne hne with hlt | hlt
    · have e := hpw q r (by omega) (by omega) hlt
      rw [List.getElem?_eq_getElem (by omega)] at h1 k1
      injection h1 with h1
      injection k1 with k1
      rw [h1, k1] at e
      exact e g
    · have e := hpw r q (by omega) (by omega) hlt
      rw [List.getElem?_eq_getElem (by omega)] at h1 k1
      injection h1 with h1
      injection k1 with k1
      rw [h1, k1] at e
      exact fun e1 e2 => e g e2 e1
  · have e : (P.take 10).map Prod.fst = (List.range 10).map fun q => (P.getD q (.slice none 0 0, [])).1 := by
      apply List.ext_getElem?
      intro j
      rw [List.getElem?_map, List.getElem?_map]
      by_cases hj : j < 10
      · obtain ⟨x, h1, _, h3⟩ := hg j hj
        rw [List.getElem?_take_of_lt hj, h1, List.getElem?_range hj]
        simp only [Option.map_some, h3]
      · rw [List.getElem?_eq_none (by simp; omega), List.getElem?_eq_none (by simp; omega)]
        rfl
    rw [← e]; exact h.ls
  · obtain ⟨x, _, h2, h3⟩ := hg q hq
    show (P.getD q _).2.length ≤ 65536
    rw [h3]; exact h.rows.len x h2
theorem Ow2.ll (h : Ow2 B w0 L S M V len l vl w) (q : Nat) (hq : q < 10) : (l q).length = len q := by have := (h.own q hq).1; rw [bv_length] at this; omega
theorem Ow2.form (h : Ow2 B w0 L S M V len l vl w) (q : Nat) (hq : q < 10) : ∃ a cap, V q = .slice a (len q) cap := by
  rcases Go.Joins.ownsRow_forms (h.own q hq) with ⟨e, h0⟩ | ⟨g, cap, e⟩
  · exact ⟨none, 0, by rw [e, h0]⟩
  · exact ⟨_, cap, e⟩
theorem Ow2.sm (h : Ow2 B w0 L S M V len l vl w) (q : Nat) (hq : q < 10) (h0 : 0 < len q) : ∃ g cap, V q = .slice (some ⟨g, 0, none⟩) (len q) cap := by
  rcases Go.Joins.ownsRow_forms (h.own q hq) with ⟨e, h1⟩ | ⟨g, cap, e⟩
  · omega
  · exact ⟨g, cap, e⟩
theorem Ow2.put (h : Ow2 B w0 L S M V len l vl w) (q : Nat) (hq : q < 10) (t : Nat) (ht : t < len q) (z : Int) {g cap : Nat} (hv : V q = .slice (some ⟨g, 0, none⟩) (len q) cap) :
    Ow2 B w0 L S M V len (upd l q ((l q).set t z)) vl (w.setCell ⟨g, t, none⟩ (.int .u8 z)) := by
  have hg : (V q).ownBlock = some g := by rw [hv]; rfl
  have hlo := ((h.own q hq).lt g hg).1
  have hx : Exc (fun k => k = g) w (w.setCell ⟨g, t, none⟩ (.int .u8 z)) := (Exc.refl _ w).set g t _ rfl
  refine ⟨h.p.exo hx (fun k hk e => by have := h.oM k hk; omega), h.oM, h.be.trans (hx.below (Nat.le_trans h.le h.hM) (fun k e => by have := h.le; omega)), h.le, Nat.le_trans h.hM hx.size, fun r hr => ?_, h.dj, ?_, h.len⟩
  · by_cases e : r = q
    · subst e
      rw [upd_at]
      have ho := h.own r hr
      rw [hv] at ho ⊢
      exact own_put ho t ht z
    · rw [upd_ne _ _ _ _ e]
      exact ownsRow_setCell_other (h.own r hr) (h.dj q r hq hr (fun e' => e e'.symm) g hg) _
  · exact ownsRow_setCell_other h.ls (own_kinds (h.own q hq) h.ls (by decide) g hg) _
theorem Ow2.at_ (h : Ow2 B w0 L S M V len l vl w) : ∃ gl cl, vl = .slice (some ⟨gl, 0, none⟩) 10 cl ∧ ∀ q, q < 10 → w.cell? ⟨gl, q, none⟩ = some (V q) := by
  have hls := h.ls
  rcases Go.Joins.ownsRow_forms hls with ⟨_, h1⟩ | ⟨g, cap, rfl⟩
  · omega
  · refine ⟨g, cap, rfl, fun q hq => ?_⟩
    rw [hls.cellAt q (by omega), List.getElem?_map, List.getElem?_range hq]
    rfl
end
theorem all_rep {l : List Int} {n : Nat} {c : Int} (hl : l.length = n) (h : ∀ t, t < n → l.getD t 0 = c) : l = List.replicate n c := by
  apply List.ext_getElem?
  intro j
  by_cases hj : j < n
  · have e := h j hj
    simp only [List.getD, List.getElem?_eq_getElem (show j < l.length by omega), Option.getD_some] at e
    rw [List.getElem?_eq_getElem (by omega), e, List.getElem?_replicate, if_pos hj]
  · rw [List.getElem?_eq_none (by omega), List.getElem?_eq_none (by simp; omega)]
theorem own_off {w : World} {B n : Nat} {v : Value} {xs : List Value} (h : w.ownsRow B 5 1 v n xs) : ∀ g off m c, v = .slice (some ⟨g, off, none⟩) m c → off = 0 := by
  intro g off m c e
  rcases Go.Joins.ownsRow_forms h with ⟨e9, _⟩ | ⟨g9, cap9, e9⟩
  · rw [e9] at e; cases e
  · rw [e9] at e; cases e; rfl
structure Ow3 (B : Nat) (w0 : World) (L : Lay) (S : St) (M N : Nat) (V : Nat → Value) (len : Nat → Nat) (vl : Value) (i : Nat) (G : Nat → Value) (vg : Value) (w : World) : Prop where
  p : PB B L S w
  oM : ∀ k, L.own k → k < M
  be : Below B w0 w
  le : B ≤ M
  hM : M ≤ N
  hN : N ≤ w.heap.size
  rem : ∀ q, i ≤ q → q < 10 → w.ownsRow M 5 1 (V q) (len q) (bv (List.replicate (len q) (mkb q)))
  vb : ∀ q, q < 10 → ∀ g, (V q).ownBlock = some g → g < N
  vz : ∀ q, q < 10 → ∀ g off n c, V q = .slice (some ⟨g, off, none⟩) n c → off = 0
  old : ∀ q, q < 10 → Byt w (V q) (List.replicate (len q) (mkb q))
  new : ∀ q, q < i → w.ownsRow M 5 1 (G q) (len q + 64) (bv (List.replicate (len q + 64) (mkb q)))
  dn : ∀ q, q < i → ∀ r, i ≤ r → r < 10 → ∀ g, (G q).ownBlock = some g → (V r).ownBlock ≠ some g
  dj : ∀ q r, q < 10 → r < 10 → q ≠ r → ∀ g, (V q).ownBlock = some g → (V r).ownBlock ≠ some g
  ls : w.ownsRow M 22 1 vl 10 ((List.range 10).map V)
  lb : ∀ g, vl.ownBlock = some g → g < N
  gs : w.ownsRow N 22 1 vg i ((List.range i).map G)
  len : ∀ q, q < 10 → len q ≤ 65536
structure Ow4 (M : Nat) (V : Nat → Value) (len : Nat → Nat) (i k : Nat) (gv : Value) (wa wr : World) : Prop where
  x : Exc (fun g => (V i).ownBlock = some g) wa wr
  own : wr.ownsRow M 5 1 gv (len i + k) (bv (List.replicate (len i + k) (mkb i)))
  blk : gv.ownBlock = (V i).ownBlock ∨ ∃ g, gv.ownBlock = some g ∧ wa.heap.size ≤ g
  old : Byt wr (V i) (List.replicate (len i) (mkb i))
section
variable {B : Nat} {w0 : World} {L : Lay} {S : St} {M N m i k : Nat} {V G : Nat → Value} {len : Nat → Nat} {l : Nat → List Int} {vl vg vg' gv gv' : Value} {w w' wa wr : World}
theorem Ow2.ow3 (h : Ow2 B w0 L S M V len l vl w) (hf : ∀ q, q < 10 → ∀ t, t < len q → (l q).getD t 0 = mkb q) : Ow3 B w0 L S M w.heap.size V len vl 0 V (.slice none 0 0) w := by
  have e : ∀ q, q < 10 → l q = List.replicate (len q) (mkb q) := fun q hq => all_rep (h.ll q hq) (hf q hq)
  have ho : ∀ q, q < 10 → w.ownsRow M 5 1 (V q) (len q) (bv (List.replicate (len q) (mkb q))) := fun q hq => by rw [← e q hq]; exact h.own q hq
  exact ⟨h.p, h.oM, h.be, h.le, h.hM, Nat.le_refl _, fun q _ hq => ho q hq, fun q hq g hg => ((h.own q hq).lt g hg).2, fun q hq => own_off (h.own q hq), fun q hq => Byt.of_own (ho q hq), fun q hq => by omega, fun q hq => by omega, h.dj, h.ls, fun g hg => (h.ls.lt g hg).2, World.ownsRow_nil _ _ _ _, h.len⟩
theorem Ow3.start (h : Ow3 B w0 L S M N V len vl i G vg w) (hi : i < 10) : Ow4 M V len i 0 (V i) w w := ⟨Exc.refl _ _, h.rem i (Nat.le_refl _) hi, .inl rfl, h.old i hi⟩
theorem Ow4.next (h : Ow4 M V len i k gv wa wr) (hM : M ≤ wa.heap.size) (hvb : ∀ g, (V i).ownBlock = some g → g < wa.heap.size) (hv0 : ∀ g off n c, V i = .slice (some ⟨g, off, none⟩) n c → off = 0) {w1 : World} (hb : Below wr.heap.size wr w1) (ho : w'.ownsRow M 5 1 gv' (len i + k + 1) (bv (List.replicate (len i + k) (mkb i) ++ [mkb i]))) (hx : Exc (fun g => gv.ownBlock = some g) w1 w')
    (hbl : gv'.ownBlock = gv.ownBlock ∨ ∃ g, gv'.ownBlock = some g ∧ w1.heap.size ≤ g) (hc : ∀ g j, g < w1.heap.size → (gv.ownBlock = some g → j < len i + k) → w'.cell? ⟨g, j, none⟩ = w1.cell? ⟨g, j, none⟩) : Ow4 M V len i (k + 1) gv' wa w' := by
  have z1 := h.x.size
  have z2 := hb.size
  refine ⟨⟨hx.os.trans (hb.os.trans h.x.os), hx.tape.trans (hb.tape.trans h.x.tape), hx.output.trans (hb.output.trans h.x.output), Nat.le_trans z1 (Nat.le_trans z2 hx.size), fun g hg hs => ?_⟩, ?_, ?_, ?_⟩
  · refine (hx.block g (by omega) (fun e => ?_)).trans ((hb.block g (by omega)).trans (h.x.block g hg hs))
    rcases h.blk with q | ⟨g', q, q2⟩
    · exact hs (q.symm.trans e)
    · rw [e] at q; injection q with q; omega
  · rw [← Nat.add_assoc, List.replicate_succ']; exact ho
  · rcases hbl with e | ⟨g, e, e2⟩
    · rw [e]; exact h.blk
    · exact .inr ⟨g, e, by omega⟩
  · obtain ⟨a, cap, e1, e2, e3, e4⟩ := h.old
    refine ⟨a, cap, e1, e2, e3, fun hne => ?_⟩
    obtain ⟨g, off, ea, q1, q2⟩ := e4 hne
    have hg : (V i).ownBlock = some g := by rw [e1, ea]; rfl
    have hlt := hvb g hg
    refine ⟨g, off, ea, by have := hx.size; omega, fun j hj => ?_⟩
    rw [← q2 j hj]
    have hj' : j < len i := by simpa using hj
    have hbc : w1.cell? ⟨g, off + j, none⟩ = wr.cell? ⟨g, off + j, none⟩ := hb.cell (by show g < _; omega)
    rw [← hbc]
    refine hc g (off + j) (by omega) (fun e => ?_)
    have h0 := hv0 g off _ cap (by rw [e1, ea])
    omega
theorem Ow3.next (h : Ow3 B w0 L S M N V len vl i G vg wa) (hi : i < 10) (k : Ow4 M V len i 64 gv wa wr) (ho : w'.ownsRow N 22 1 vg' (i + 1) ((List.range i).map G ++ [gv])) (hg : wr.grownBy w' vg.ownBlock) :
    Ow3 B w0 L S M N V len vl (i + 1) (upd G i gv) vg' w' := by
  have hN := h.hN
  have hM := h.hM
  have hx : Exc (fun g => (V i).ownBlock = some g ∨ vg.ownBlock = some g) wa w' := by
    refine ⟨hg.os.trans k.x.os, hg.tape.trans k.x.tape, hg.output.trans k.x.output, Nat.le_trans k.x.size hg.size, fun g hg2 hs => ?_⟩
    exact (hg.block g (Nat.lt_of_lt_of_le hg2 k.x.size) (fun e => hs (.inr e.symm))).trans (k.x.block g hg2 (fun e => hs (.inl e)))
  have hy : Exc (fun g => vg.ownBlock = some g) wr w' := ⟨hg.os, hg.tape, hg.output, hg.size, fun g hg2 hs => hg.block g hg2 (fun e => hs e.symm)⟩
  have gsr : wr.ownsRow N 22 1 vg i ((List.range i).map G) := own_exc h.gs k.x (fun g e q => by have := h.vb i hi g q; have := (h.gs.lt g e).1; omega)
  have vlo : ∀ g, (V i).ownBlock = some g → M ≤ g := fun g e => ((h.rem i (Nat.le_refl _) hi).lt g e).1
  have glo : ∀ g, vg.ownBlock = some g → N ≤ g := fun g e => (h.gs.lt g e).1
  refine ⟨h.p.exo hx (fun g hk e => ?_), h.oM, h.be.trans (hx.below (by have := h.le; omega) (fun g e => ?_)), h.le, h.hM, by have := hx.size; omega, fun q hq hq2 => ?_, h.vb, h.vz, fun q hq => ?_, fun q hq => ?_, fun q hq r hr hr2 g e => ?_, h.dj, ?_, h.lb, ?_, h.len⟩
  · have h1 := h.oM g hk
    rcases e with e | e
    · have := vlo g e; omega
    · have := glo g e; omega
  · have h1 := h.le
    rcases e with e | e
    · have := vlo g e; omega
    · have := glo g e; omega
  · refine own_exc (h.rem q (by omega) hq2) hx (fun g e q2 => ?_)
    rcases q2 with q2 | q2
    · exact h.dj i q hi hq2 (by omega) g q2 e
    · have := h.vb q hq2 g e; have := glo g q2; omega
  · by_cases e : q = i
    · subst e
      exact k.old.exc hy (fun g off n c e q2 => by have := h.vb q hq g (ownBlock_slice e); have := glo g q2; omega)
    · refine (h.old q hq).exc hx (fun g off n c e2 q2 => ?_)
      rcases q2 with q2 | q2
      · exact h.dj i q hi hq (fun e' => e e'.symm) g q2 (ownBlock_slice e2)
      · have := h.vb q hq g (ownBlock_slice e2); have := glo g q2; omega
  · by_cases e : q = i
    · subst e
      rw [upd_at]
      exact own_exc k.own hy (fun g e q2 => own_kinds k.own gsr (by decide) g e q2)
    · rw [upd_ne _ _ _ _ e]
      refine own_exc (h.new q (by omega)) hx (fun g e2 q2 => ?_)
      rcases q2 with q2 | q2
      · exact h.dn q (by omega) i (Nat.le_refl _) hi g e2 q2
      · exact own_kinds (h.new q (by omega)) h.gs (by decide) g e2 q2
  · by_cases e9 : q = i
    · subst e9
      rw [upd_at] at e
      rcases k.blk with e2 | ⟨g', e2, e3⟩
      · rw [e2] at e
        exact h.dj q r hi hr2 (by omega) g e
      · rw [e2] at e
        injection e with e
        intro q2
        have := h.vb r hr2 g q2
        omega
    · rw [upd_ne _ _ _ _ e9] at e
      exact h.dn q (by omega) r (by omega) hr2 g e
  · refine own_exc h.ls hx (fun g e q2 => ?_)
    rcases q2 with q2 | q2
    · exact own_kinds (h.rem i (Nat.le_refl _) hi) h.ls (by decide) g q2 e
    · have := h.lb g e; have := glo g q2; omega
  · have e : (List.range (i + 1)).map (upd G i gv) = (List.range i).map G ++ [gv] := by
      rw [List.range_succ, List.map_append]
      congr 1
      · apply List.map_congr_left
        intro q hq
        have := List.mem_range.1 hq
        exact upd_ne _ _ _ _ (by omega)
      · simp [upd_at]
    rw [e]; exact ho
theorem Ow3.at_ (h : Ow3 B w0 L S M N V len vl i G vg w) : ∃ gl cl, vl = .slice (some ⟨gl, 0, none⟩) 10 cl ∧ ∀ q, q < 10 → w.cell? ⟨gl, q, none⟩ = some (V q) := by
  have hls := h.ls
  rcases Go.Joins.ownsRow_forms hls with ⟨_, h1⟩ | ⟨g, cap, rfl⟩
  · omega
  · refine ⟨g, cap, rfl, fun q hq => ?_⟩
    rw [hls.cellAt q (by omega), List.getElem?_map, List.getElem?_range hq]
    rfl
theorem Ow3.gt (h : Ow3 B w0 L S M N V len vl 10 G vg w) : ∃ gl cl, vg = .slice (some ⟨gl, 0, none⟩) 10 cl ∧ ∀ q, q < 10 → w.cell? ⟨gl, q, none⟩ = some (G q) := by
  have hls := h.gs
  rcases Go.Joins.ownsRow_forms hls with ⟨_, h1⟩ | ⟨g, cap, rfl⟩
  · omega
  · refine ⟨g, cap, rfl, fun q hq => ?_⟩
    rw [hls.cellAt q (by omega), List.getElem?_map, List.getElem?_range hq]
    rfl
theorem rep_getD {n t : Nat} {c : Int} (h : t < n) : (List.replicate n c).getD t 0 = c := by simp [List.getD, h]
theorem Ow3.old_ (h : Ow3 B w0 L S M N V len vl i G vg w) (q : Nat) (hq : q < 10) : ∃ a cap, V q = .slice a (len q) cap ∧ (0 < len q → ∃ g off, a = some ⟨g, off, none⟩ ∧ ∀ t, t < len q → w.cell? ⟨g, off + t, none⟩ = some (.int .u8 (mkb q))) := by
  obtain ⟨a, cap, e1, _, _, e4⟩ := h.old q hq
  rw [List.length_replicate] at e1
  refine ⟨a, cap, e1, fun h0 => ?_⟩
  obtain ⟨g, off, ea, _, q2⟩ := e4 (by simp; omega)
  refine ⟨g, off, ea, fun t ht => ?_⟩
  rw [q2 t (by simpa using ht), rep_getD ht]
theorem Ow3.new_ (h : Ow3 B w0 L S M N V len vl 10 G vg w) (q : Nat) (hq : q < 10) : ∃ g cap, G q = .slice (some ⟨g, 0, none⟩) (len q + 64) cap ∧ ∀ t, t < len q + 64 → w.cell? ⟨g, t, none⟩ = some (.int .u8 (mkb q)) := by
  have ho := h.new q hq
  rcases Go.Joins.ownsRow_forms ho with ⟨_, h1⟩ | ⟨g, cap, e⟩
  · omega
  · refine ⟨g, cap, e, fun t ht => ?_⟩
    rw [e] at ho
    rw [ho.cellAt t (by omega), bv_get _ _ (by simpa using ht), rep_getD ht]
end
end Go.Proofs.Ytghiabdkgfhdbaa
