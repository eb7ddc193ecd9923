/-
  BusQuiet: the bus, and the row of the state that was.
-/
import Derived.Test.YtghiabdkgfhdbaaBqa
namespace Go.Proofs.Ytghiabdkgfhdbaa
set_option linter.unusedVariables false
open Go.ChangeShapes Go.WideShapes Go.ChangeAt Go.RowKit Go.Deep Go.MuLone
/-- Between two rounds. -/
structure Pqu (B : Nat) (w0 : World) (b : Nat) (L : Lay) (S : St) (w : World) : Prop where
  p : PB B L S w
  e : L.b = b
  s : Sok S
  be : Below B w0 w
  le : B ≤ w.heap.size
/-- Behind the switch: the row holds the state that is. -/
structure Quo (B : Nat) (w0 : World) (b g2 : Nat) (L : Lay) (S : St) (ur ui uo : Value) (w : World) : Prop where
  q : Pqu B w0 b L S w
  row : w.heap[g2]? = some (.cells (stc S ur ui uo) 26 (0, 0))
  bs : Bs S ur ui uo w
/-- Ahead of the switch. -/
structure Qur (B : Nat) (w0 : World) (b g1 g2 : Nat) (C : Array Value) (L : Lay) (S : St) (ur ui uo : Value) (w : World) : Prop where
  q : Pqu B w0 b L S w
  r1 : w.heap[g1]? = some (.cells C 45 (0, 0))
  r2 : w.heap[g2]? = some (.cells (stc S ur ui uo) 26 (0, 0))
  o : ∀ k, L.own k → k < g1
  lt : g1 < g2
  bg : B ≤ g2
  sv : Sv g1 S ur ui uo w
  rl : ∀ g off n c, ur = .slice (some ⟨g, off, none⟩) n c → g < g2
  il : ∀ g off n c, ui = .slice (some ⟨g, off, none⟩) n c → g < g2
  ol : ∀ g off n c, uo = .slice (some ⟨g, off, none⟩) n c → g < g2
/-- Behind one call on the bus. -/
structure Qaf (B : Nat) (w0 : World) (b g1 g2 : Nat) (C : Array Value) (L : Lay) (S T : St) (ur ui uo : Value) (w : World) : Prop where
  q : Pqu B w0 b L S w
  r1 : w.heap[g1]? = some (.cells C 45 (0, 0))
  r2 : w.heap[g2]? = some (.cells (stc T ur ui uo) 26 (0, 0))
  no : ¬ L.own g2
  bg : B ≤ g2
  bs : Bs T ur ui uo w
  rl : ∀ g off n c, ur = .slice (some ⟨g, off, none⟩) n c → g < g2
  il : ∀ g off n c, ui = .slice (some ⟨g, off, none⟩) n c → g < g2
  ol : ∀ g off n c, uo = .slice (some ⟨g, off, none⟩) n c → g < g2
section
variable {B : Nat} {w0 : World} {b g1 g2 : Nat} {C : Array Value} {L L' : Lay} {S T : St} {ur ui uo vr vi vo : Value} {w w' w1 w2 : World}
theorem Pqu.later (h : Pqu B w0 b L S w) (hb : Below w.heap.size w w') : Pqu B w0 b L S w' := ⟨h.p.later hb, h.e, h.s, h.be.trans (hb.mono h.le), Nat.le_trans h.le hb.size⟩
theorem Quo.later (h : Quo B w0 b g2 L S ur ui uo w) (hb : Below w.heap.size w w') : Quo B w0 b g2 L S ur ui uo w' :=
  ⟨h.q.later hb, (hb.block _ (Array.getElem?_eq_some_iff.1 h.row).1).trans h.row, h.bs.later hb⟩
theorem qur_mk (h : Pqu B w0 b L S w) (e1 : w1 = w.alloc (.cells C 45)) (s2 : Sv w1.heap.size S ur ui uo w2) (b2 : Below w1.heap.size w1 w2) :
    Qur B w0 b w.heap.size w2.heap.size C L S ur ui uo (w2.alloc (.cells (stc S ur ui uo) 26)) := by
  have z1 : w1.heap.size = w.heap.size + 1 := by rw [e1]; simp
  have z2 := b2.size
  have a1 : Below w.heap.size w w1 := by rw [e1]; exact below_al w _
  have r1 : w1.heap[w.heap.size]? = some (.cells C 45 (0, 0)) := by rw [e1]; exact heap_alloc_new w _
  have a3 := below_al w2 (.cells (stc S ur ui uo) 26)
  have s3 := s2.later a3
  have hle := h.le
  have hb : Below w.heap.size w (w2.alloc (.cells (stc S ur ui uo) 26)) := (a1.trans (b2.mono (by omega))).trans (a3.mono (by omega))
  exact ⟨h.later hb, (a3.block _ (by omega)).trans ((b2.block _ (by omega)).trans r1), heap_alloc_new w2 _, fun k hk => h.p.own_hi k hk, by omega, by omega,
    ⟨own_le s3.r (by omega), own_le s3.i (by omega), own_le s3.o (by omega), s3.ri, s3.ro, s3.io⟩,
    fun g off n c e => (own_byt_ge s2.r g off n c e).2, fun g off n c e => (own_byt_ge s2.i g off n c e).2, fun g off n c e => (own_byt_ge s2.o g off n c e).2⟩
theorem Qur.later (h : Qur B w0 b g1 g2 C L S ur ui uo w) (hb : Below w.heap.size w w') : Qur B w0 b g1 g2 C L S ur ui uo w' :=
  ⟨h.q.later hb, (hb.block _ (Array.getElem?_eq_some_iff.1 h.r1).1).trans h.r1, (hb.block _ (Array.getElem?_eq_some_iff.1 h.r2).1).trans h.r2, h.o, h.lt, h.bg, h.sv.later hb, h.rl, h.il, h.ol⟩
theorem Qur.quo (h : Qur B w0 b g1 g2 C L S ur ui uo w) : Quo B w0 b g2 L S ur ui uo w := ⟨h.q, h.r2, h.sv.bs⟩
theorem Qur.call (h : Qur B w0 b g1 g2 C L S ur ui uo w) (hs : PSt B L w L' T w') (hk : Sok T) : Qaf B w0 b g1 g2 C L' T S ur ui uo w' := by
  have hg2 := (Array.getElem?_eq_some_iff.1 h.r2).1
  have hlt := h.lt
  have n2 : ¬ L.own g2 := fun q => by have := h.o _ q; omega
  refine ⟨⟨hs.p, hs.b.1.trans h.q.e, hk, h.q.be.trans (hs.x.below h.q.le (fun k hk => h.q.p.own_lo k hk)), Nat.le_trans h.q.le hs.x.size⟩, hs.row_above h.o h.r1 (Nat.le_refl _), hs.row_above h.o h.r2 (by omega), fun q => ?_, h.bg, hs.bs_above h.o h.sv (Nat.le_refl _), h.rl, h.il, h.ol⟩
  rcases hs.o _ q with e | e
  · exact n2 e
  · omega
theorem Qaf.quo (h : Qaf B w0 b g1 g2 C L S S ur ui uo w) : Quo B w0 b g2 L S ur ui uo w := ⟨h.q, h.r2, h.bs⟩
/-- One cell of the row written. -/
theorem Qaf.cell (h : Qaf B w0 b g1 g2 C L S T ur ui uo w) (j : Nat) (v : Value) (hr : (stc T ur ui uo).setIfInBounds j v = stc S vr vi vo)
    (hbs : Bs S vr vi vo w) (h1 : ∀ g off n c, vr = .slice (some ⟨g, off, none⟩) n c → g < g2) (h2 : ∀ g off n c, vi = .slice (some ⟨g, off, none⟩) n c → g < g2) (h3 : ∀ g off n c, vo = .slice (some ⟨g, off, none⟩) n c → g < g2) :
    Quo B w0 b g2 L S vr vi vo (w.setCell ⟨g2, j, none⟩ v) := by
  have hx : Exc (fun k => k = g2) w (w.setCell ⟨g2, j, none⟩ v) := (Exc.refl _ w).set g2 j _ rfl
  refine ⟨⟨h.q.p.exo hx (fun k hk e => h.no (by rw [← e]; exact hk)), h.q.e, h.q.s, h.q.be.trans (hx.below h.q.le (fun k e => by rw [e]; exact h.bg)), by simpa [World.setCell] using h.q.le⟩, ?_, ⟨hbs.r.exc hx (fun g off n c e q => ?_), hbs.i.exc hx (fun g off n c e q => ?_), hbs.o.exc hx (fun g off n c e q => ?_)⟩⟩
  · rw [heap_setCell_same w g2 j _ _ _ h.r2, hr]
  · have := h1 g off n c e; omega
  · have := h2 g off n c e; omega
  · have := h3 g off n c e; omega
theorem Qaf.ov (h : Qaf B w0 b g1 g2 C L { T with ov := false } T ur ui uo w) : Quo B w0 b g2 L { T with ov := false } ur ui uo (w.setCell ⟨g2, 10, none⟩ (.bool false)) :=
  h.cell 10 _ rfl ⟨h.bs.r, h.bs.i, h.bs.o⟩ h.rl h.il h.ol
theorem byt_tail2 {g off cap : Nat} {y : Int} {ys : List Int} (h : Byt w (.slice (some ⟨g, off, none⟩) (ys.length + 1) cap) (y :: ys)) : Byt w (.slice (if cap = 1 then some ⟨g, off, none⟩ else some ⟨g, off + 1, none⟩) ys.length (cap - 1)) ys := by
  by_cases hc : cap = 1
  · subst hc
    obtain ⟨a, cap', e1, e2, _⟩ := h
    injection e1 with q1 q2 q3
    subst q3
    have hl : ys = [] := List.eq_nil_of_length_eq_zero (by simp at e2; simpa using e2)
    subst hl
    rw [if_pos rfl]
    exact ⟨_, 0, rfl, Nat.le_refl _, fun e => (by cases e), fun e => absurd rfl e⟩
  · rw [if_neg hc]
    exact (byt_tail h).2
theorem Qaf.pop {y : Int} {ys : List Int} {g off cap : Nat} (h : Qaf B w0 b g1 g2 C L { T with inp := ys } T ur (.slice (some ⟨g, off, none⟩) (ys.length + 1) cap) uo w) (hi : T.inp = y :: ys) :
    Quo B w0 b g2 L { T with inp := ys } ur (.slice (if cap = 1 then some ⟨g, off, none⟩ else some ⟨g, off + 1, none⟩) ys.length (cap - 1)) uo (w.setCell ⟨g2, 11, none⟩ (.slice (if cap = 1 then some ⟨g, off, none⟩ else some ⟨g, off + 1, none⟩) ys.length (cap - 1))) := by
  have hb := h.bs.i
  rw [hi] at hb
  refine h.cell 11 _ rfl ⟨h.bs.r, byt_tail2 hb, h.bs.o⟩ h.rl (fun g' off' n c e => ?_) h.ol
  split at e
  · cases e; exact h.il _ _ _ _ rfl
  · cases e; exact h.il _ _ _ _ rfl
theorem Qaf.top {y : Int} {ys : List Int} {g off cap : Nat} (h : Qaf B w0 b g1 g2 C L S T ur (.slice (some ⟨g, off, none⟩) (ys.length + 1) cap) uo w) (hi : T.inp = y :: ys) : w.cell? ⟨g, off, none⟩ = some (.int .u8 y) := by
  have hb := h.bs.i
  rw [hi] at hb
  exact (byt_tail hb).1
/-- The state told again, into the row. -/
theorem Qaf.again (h : Qaf B w0 b g1 g2 C L S T ur ui uo w) (s6 : Sv w.heap.size S vr vi vo w') (b6 : Below w.heap.size w w') : Quo B w0 b g2 L S vr vi vo (w'.setRow g2 (stc S vr vi vo)) := by
  have hg2 := (Array.getElem?_eq_some_iff.1 h.r2).1
  have r2 := (b6.block _ hg2).trans h.r2
  have hx : Exc (fun k => k = g2) w' (w'.setRow g2 (stc S vr vi vo)) := ⟨rfl, rfl, rfl, by simp [World.setRow], fun k hk hs => setRow_other w' g2 _ k hs⟩
  have q := h.q.later b6
  refine ⟨⟨q.p.exo hx (fun k hk e => h.no (by rw [← e]; exact hk)), q.e, q.s, q.be.trans (hx.below q.le (fun k e => by rw [e]; exact h.bg)), Nat.le_trans q.le hx.size⟩, setRow_heap w' g2 _ _ _ _ r2, ⟨s6.bs.r.exc hx (fun g off n c e k => ?_), s6.bs.i.exc hx (fun g off n c e k => ?_), s6.bs.o.exc hx (fun g off n c e k => ?_)⟩⟩
  · have := (own_byt_ge s6.r g off n c e).1; omega
  · have := (own_byt_ge s6.i g off n c e).1; omega
  · have := (own_byt_ge s6.o g off n c e).1; omega
end
end Go.Proofs.Ytghiabdkgfhdbaa
