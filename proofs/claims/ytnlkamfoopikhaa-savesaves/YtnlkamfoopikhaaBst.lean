/-
  Bst.
-/
import Derived.Test.YtnlkamfoopikhaaBfs
import Derived.Test.YtnlkamfoopikhaaLck
import Derived.Conc.MuLone
import Derived.Deep.RegionHeld3
namespace Go.Proofs.Ytnlkamfoopikhaa
set_option linter.unusedVariables false
open Go.ChangeShapes Go.WideShapes Go.ChangeAt Go.RowKit Go.Deep Go.MuLone
theorem own_ne_row {w : World} {B n T : Nat} {v : Value} {xs : List Value} {q : Nat} {cs : Array Value} {fr : Nat × Nat} (h : w.ownsRow B 5 1 v n xs) (hq : w.heap[q]? = some (.cells cs T fr)) (hT : T ≠ 5) : ∀ g, v.ownBlock = some g → g ≠ q := by
  intro g hg e
  subst e
  obtain ⟨c, fz, h1⟩ := Go.Lib.ownsRow_kind h g hg
  rw [hq] at h1
  simp at h1
  exact hT h1.2.1
theorem ownBlock_slice {v : Value} {g off n c : Nat} (h : v = .slice (some ⟨g, off, none⟩) n c) : v.ownBlock = some g := by subst h; rfl
/-- The first cell of a row written and written back. -/
theorem below_back {w w1 w2 w3 : World} {q : Nat} {x y : Value} {cs : Array Value} {T : TypeId} (hq : w.heap[q]? = some (.cells cs T (0, 0))) (hx : cs[0]? = some x) (h1 : w1 = w.setCell ⟨q, 0, none⟩ y) (h2 : Below w1.heap.size w1 w2) (h3 : w3 = w2.setCell ⟨q, 0, none⟩ x) : Below w.heap.size w w3 := by
  subst h1 h3
  have hql : q < w.heap.size := (Array.getElem?_eq_some_iff.1 hq).1
  have hsz : (w.setCell ⟨q, 0, none⟩ y).heap.size = w.heap.size := by simp [World.setCell]
  have e1 : (w.setCell ⟨q, 0, none⟩ y).heap[q]? = some (.cells (cs.setIfInBounds 0 y) T (0, 0)) := heap_setCell_same w q 0 cs T y hq
  have e2 : w2.heap[q]? = some (.cells (cs.setIfInBounds 0 y) T (0, 0)) := by rw [h2.block q (by rw [hsz]; exact hql)]; exact e1
  refine ⟨h2.os, h2.tape, h2.output, ?_, fun k hk => ?_⟩
  · have := h2.size; rw [hsz] at this; simpa [World.setCell] using this
  · by_cases e : k = q
    · subst e
      rw [heap_setCell_same w2 k 0 _ T x e2, hq]
      congr 2
      apply Array.ext_getElem?
      intro i
      by_cases hi : i = 0
      · subst hi
        have : 0 < cs.size := (Array.getElem?_eq_some_iff.1 hx).1
        rw [hx]
        simp [this]
      · rw [Array.getElem?_setIfInBounds_ne (by omega), Array.getElem?_setIfInBounds_ne (by omega)]
    · rw [Below.heap_setCell w2 ⟨q, 0, none⟩ x k e, h2.block k (by rw [hsz]; exact hk), Below.heap_setCell w ⟨q, 0, none⟩ y k e]
theorem PB.later {B : Nat} {L : Lay} {S : St} {w w' : World} (h : PB B L S w) (hb : Below w.heap.size w w') : PB B L S w' := by
  have k : ∀ {g : Nat} {o : Obj}, w.heap[g]? = some o → w'.heap[g]? = some o := fun {g o} hg => by rw [hb.block g (Array.getElem?_eq_some_iff.1 hg).1]; exact hg
  exact ⟨k h.hb, k h.hm, k h.hp, k h.hs, k h.hc, k h.hk, k h.hu, k h.hq, own_later h.wr hb rfl, own_later h.wi hb rfl, own_later h.wo hb rfl, h.ri, h.ro, h.io, h.lb, h.lm, h.lp, h.ls, h.lc, h.lk, h.lu, h.lq⟩
/-- The cells of a bus. -/
structure PCb (L : Lay) (S : St) (vr vi vo : Value) (w : World) : Prop where
  b0 : w.cell? ⟨L.b, 0, none⟩ = some (.pointer (some ⟨L.m, 0, none⟩))
  b1 : w.cell? ⟨L.b, 1, none⟩ = some (.pointer (some ⟨L.pw, 0, none⟩))
  b2 : w.cell? ⟨L.b, 2, none⟩ = some (.pointer (some ⟨L.sw, 0, none⟩))
  b3 : w.cell? ⟨L.b, 3, none⟩ = some (.pointer (some ⟨L.cm, 0, none⟩))
  b4 : w.cell? ⟨L.b, 4, none⟩ = some (.pointer (some ⟨L.ck, 0, none⟩))
  b5 : w.cell? ⟨L.b, 5, none⟩ = some (.pointer (some ⟨L.u, 0, none⟩))
  b6 : w.cell? ⟨L.b, 6, none⟩ = some (.bool S.ext)
  b7 : w.cell? ⟨L.b, 7, none⟩ = some (.bool S.soft)
  m0 : w.cell? ⟨L.m, 0, none⟩ = some vr
  p0 : w.cell? ⟨L.pw, 0, none⟩ = some (.int .i64 S.off)
  p1 : w.cell? ⟨L.pw, 1, none⟩ = some (.int .i64 S.code)
  s0 : w.cell? ⟨L.sw, 0, none⟩ = some (.int .u32 S.msip)
  c0 : w.cell? ⟨L.cm, 0, none⟩ = some (.int .u64 33570816)
  c1 : w.cell? ⟨L.cm, 1, none⟩ = some (.int .u64 S.cmp)
  k0 : w.cell? ⟨L.ck, 0, none⟩ = some (.int .u64 33603576)
  k1 : w.cell? ⟨L.ck, 1, none⟩ = some (.int .u64 S.time)
  u0 : w.cell? ⟨L.u, 0, none⟩ = some (.int .u8 S.ier)
  u1 : w.cell? ⟨L.u, 1, none⟩ = some (.int .u8 S.lcr)
  u2 : w.cell? ⟨L.u, 2, none⟩ = some (.int .u8 S.mcr)
  u3 : w.cell? ⟨L.u, 3, none⟩ = some (.int .u8 S.scr)
  u4 : w.cell? ⟨L.u, 4, none⟩ = some (.pointer (some ⟨L.q, 0, none⟩))
  u5 : w.cell? ⟨L.u, 5, none⟩ = some vo
  q2 : w.cell? ⟨L.q, 2, none⟩ = some vi
  q3 : w.cell? ⟨L.q, 3, none⟩ = some (.bool S.ov)
theorem PB.cl {B : Nat} {L : Lay} {S : St} {w : World} (h : PB B L S w) : PCb L S L.vr L.vi L.vo w :=
  ⟨cell_of_row w L.b 0 _ _ _ h.hb, cell_of_row w L.b 1 _ _ _ h.hb, cell_of_row w L.b 2 _ _ _ h.hb, cell_of_row w L.b 3 _ _ _ h.hb, cell_of_row w L.b 4 _ _ _ h.hb, cell_of_row w L.b 5 _ _ _ h.hb, cell_of_row w L.b 6 _ _ _ h.hb, cell_of_row w L.b 7 _ _ _ h.hb,
   cell_of_row w L.m 0 _ _ _ h.hm, cell_of_row w L.pw 0 _ _ _ h.hp, cell_of_row w L.pw 1 _ _ _ h.hp, cell_of_row w L.sw 0 _ _ _ h.hs, cell_of_row w L.cm 0 _ _ _ h.hc, cell_of_row w L.cm 1 _ _ _ h.hc, cell_of_row w L.ck 0 _ _ _ h.hk, cell_of_row w L.ck 1 _ _ _ h.hk,
   cell_of_row w L.u 0 _ _ _ h.hu, cell_of_row w L.u 1 _ _ _ h.hu, cell_of_row w L.u 2 _ _ _ h.hu, cell_of_row w L.u 3 _ _ _ h.hu, cell_of_row w L.u 4 _ _ _ h.hu, cell_of_row w L.u 5 _ _ _ h.hu, cell_of_row w L.q 2 _ _ _ h.hq, cell_of_row w L.q 3 _ _ _ h.hq⟩
/-- A state as new memory. -/
structure Sv (B : Nat) (S : St) (ur ui uo : Value) (w : World) : Prop where
  r : w.ownsRow B 5 1 ur S.ram.length (bv S.ram)
  i : w.ownsRow B 5 1 ui S.inp.length (bv S.inp)
  o : w.ownsRow B 5 1 uo S.out.length (bv S.out)
  ri : ∀ g, ur.ownBlock = some g → ui.ownBlock ≠ some g
  ro : ∀ g, ur.ownBlock = some g → uo.ownBlock ≠ some g
  io : ∀ g, ui.ownBlock = some g → uo.ownBlock ≠ some g
theorem own_apart {w w' : World} {B B' n n' : Nat} {v v' : Value} {xs xs' : List Value} (h : w.ownsRow B 5 1 v n xs) (h' : w'.ownsRow B' 5 1 v' n' xs') (hB : w.heap.size ≤ B') : ∀ g, v.ownBlock = some g → v'.ownBlock ≠ some g := fun g hg hg' => by
  have h1 := (h.lt g hg).2
  have h2 := (h'.lt g hg').1
  omega
theorem PB.exc {B : Nat} {L : Lay} {S : St} {w w' : World} {G : Nat → Prop} (h : PB B L S w) (hb : Exc G w w') (hG : ∀ k, k < w.heap.size → ¬ G k) : PB B L S w' := by
  have k : ∀ {g : Nat} {o : Obj}, w.heap[g]? = some o → w'.heap[g]? = some o := fun {g o} hg => by have hl := (Array.getElem?_eq_some_iff.1 hg).1; rw [hb.block g hl (hG g hl)]; exact hg
  exact ⟨k h.hb, k h.hm, k h.hp, k h.hs, k h.hc, k h.hk, k h.hu, k h.hq, own_exc h.wr hb (fun k hk => hG k (h.wr.lt k hk).2), own_exc h.wi hb (fun k hk => hG k (h.wi.lt k hk).2), own_exc h.wo hb (fun k hk => hG k (h.wo.lt k hk).2), h.ri, h.ro, h.io, h.lb, h.lm, h.lp, h.ls, h.lc, h.lk, h.lu, h.lq⟩
theorem stSize : (Try.prog.info? 35).map (·.size) = some 15 := by kernel_rfl
theorem stOne (S : St) {ar ai ao : Option Addr} {nr ni no cr ci co : Nat} : (stc S (.slice ar nr cr) (.slice ai ni ci) (.slice ao no co)).all (·.oneCell') = true := by
  unfold stc
  simp [Value.oneCell']
end Go.Proofs.Ytnlkamfoopikhaa
