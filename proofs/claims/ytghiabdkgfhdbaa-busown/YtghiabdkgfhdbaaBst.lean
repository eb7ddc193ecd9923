/-
  State of the program's bus: the queue's all, Output, State.
-/
import Derived.Test.YtghiabdkgfhdbaaBfs
import Derived.Test.YtghiabdkgfhdbaaLck
import Derived.Conc.MuLone
import Derived.Deep.RegionHeld3
namespace Go.Proofs.Ytghiabdkgfhdbaa
set_option linter.unusedVariables false
open Go.ChangeShapes Go.WideShapes Go.ChangeAt Go.RowKit Go.Deep Go.MuLone
theorem own_ne_row {w : World} {B n T : Nat} {v : Value} {xs : List Value} {q : Nat} {cs : Array Value} {fr : Nat × Nat} (h : w.ownsRow B 5 1 v n xs) (hq : w.heap[q]? = some (.cells cs T fr)) (hT : T ≠ 5) : ∀ g, v.ownBlock = some g → g ≠ q := by
  intro g hg e
  subst e
  obtain ⟨c, fz, h1⟩ := Go.Lib.ownsRow_kind h g hg
  rw [hq] at h1
  simp at h1
  exact hT h1.2.1
theorem ownBlock_slice {v : Value} {g off n c : Nat} (h : v = .slice (some ⟨g, off, none⟩) n c) : v.ownBlock = some g := by subst h; rfl
/-- The first cell of a row written and written back. -/
theorem below_back {w w1 w2 w3 : World} {q : Nat} {x y : Value} {cs : Array Value} {T : TypeId} (hq : w.heap[q]? = some (.cells cs T (0, 0))) (hx : cs[0]? = some x) (h1 : w1 = w.setCell ⟨q, 0, none⟩ y) (h2 : Below w1.heap.size w1 w2) (h3 : w3 = w2.setCell ⟨q, 0, none⟩ x) : Below w.heap.size w w3 := by
  subst h1 h3
  have hql : q < w.heap.size := (Array.getElem?_eq_some_iff.1 hq).1
  have hsz : (w.setCell ⟨q, 0, none⟩ y).heap.size = w.heap.size := by simp [World.setCell]
  have e1 : (w.setCell ⟨q, 0, none⟩ y).heap[q]? = some (.cells (cs.setIfInBounds 0 y) T (0, 0)) := heap_setCell_same w q 0 cs T y hq
  have e2 : w2.heap[q]? = some (.cells (cs.setIfInBounds 0 y) T (0, 0)) := by rw [h2.block q (by rw [hsz]; exact hql)]; exact e1
  refine ⟨h2.os, h2.tape, h2.output, ?_, fun k hk => ?_⟩
  · have := h2.size; rw [hsz] at this; simpa [World.setCell] using this
  · by_cases e : k = q
    · subst e
      rw [heap_setCell_same w2 k 0 _ T x e2, hq]
      congr 2
      apply Array.ext_getElem?
      intro i
      by_cases hi : i = 0
      · subst hi
        have : 0 < cs.size := (Array.getElem?_eq_some_iff.1 hx).1
        rw [hx]
        simp [this]
      · rw [Array.getElem?_setIfInBounds_ne (by omega), Array.getElem?_setIfInBounds_ne (by omega)]
    · rw [Below.heap_setCell w2 ⟨q, 0, none⟩ x k e, h2.block k (by rw [hsz]; exact hk), Below.heap_setCell w ⟨q, 0, none⟩ y k e]
set_option maxHeartbeats 1000000 in
theorem all_c {B q : Nat} {vi : Value} {inp : List Int} {ov : Bool} (w : World) (hq : w.heap[q]? = some (.cells #[.int .i32 0, .int .u32 0, vi, .bool ov] 109 (0, 0))) (hv : w.ownsRow B 5 1 vi inp.length (bv inp)) (hl : inp.length ≤ 140737488355328) :
    Calls Try.prog 27 #[.pointer (some ⟨q, 0, none⟩)] w fun e w' => ∃ u, e = .returned (.tuple #[u, .bool ov]) ∧ w'.ownsRow w.heap.size 5 1 u inp.length (bv inp) ∧ Below w.heap.size w w' := by
  have hne := own_ne_row hv hq (by decide)
  have c0 : w.cell? ⟨q, 0, none⟩ = some (.int .i32 0) := cell_of_row w q 0 _ _ _ hq
  have f0 : w.frozen? ⟨q, 0, none⟩ = false := frozen_of_row w q 0 _ _ hq
  obtain ⟨w1, hw1⟩ : ∃ w1, w1 = w.setCell ⟨q, 0, none⟩ (.int .i32 1) := ⟨_, rfl⟩
  have hq1 : w1.heap[q]? = some (.cells #[.int .i32 1, .int .u32 0, vi, .bool ov] 109 (0, 0)) := by rw [hw1]; exact heap_setCell_same w q 0 _ _ _ hq
  have hv1 : w1.ownsRow B 5 1 vi inp.length (bv inp) := by
    rw [hw1]
    exact ownsRow_setCell_other hv (fun e => hne _ e rfl) _
  have d2 : w1.cell? ⟨q, 2, none⟩ = some vi := cell_of_row w1 q 2 _ _ _ hq1
  have d3 : w1.cell? ⟨q, 3, none⟩ = some (.bool ov) := cell_of_row w1 q 3 _ _ _ hq1
  have HLK := (lock_free muLib ⟨q, 0, none⟩ w c0 f0)
  rw [← hw1] at HLK
  have HS : Hid (w1.heap.size = w.heap.size) := by unfold Hid; rw [hw1]; simp [World.setCell]
  have HBY : Hid (Byt w1 vi inp) := Byt.of_own hv1
  have HQ1 : Hid (w1.heap[q]? = some (.cells #[.int .i32 1, .int .u32 0, vi, .bool ov] 109 (0, 0))) := hq1
  have HQ : Hid (w.heap[q]? = some (.cells #[.int .i32 0, .int .u32 0, vi, .bool ov] 109 (0, 0))) := hq
  have HW1 : Hid (w1 = w.setCell ⟨q, 0, none⟩ (.int .i32 1)) := hw1
  have HC := fun w' (h : Byt w' vi inp) => clone_c hl vi w' h
  obtain ⟨ai, ni, ci, rfl⟩ := own_one hv
  clear hne hw1 hq1 hv1 hq hv hl
  go_enter_defers Try.func27, Try.ntmps27
  go_wp2_with (go_at_call 51; refine HLK.mono ?_; rintro e w' ⟨rfl, rfl⟩)
  go_region_held3 (fun w' => w'.cell? ⟨q, 2, none⟩ = some (.slice ai ni ci) ∧ w'.cell? ⟨q, 3, none⟩ = some (.bool ov)) (first | exact ⟨d2, d3⟩ | exact ⟨hc2, hc3⟩)
    (first | (go_at_call 28; refine (HC _ ?_).mono ?_; exact HBY.out; rintro e w2 ⟨u, rfl, hown, hbel⟩; have hc2 : w2.cell? ⟨q, 2, none⟩ = some (.slice ai ni ci) := (hbel.cell (Array.getElem?_eq_some_iff.1 HQ1.out).1).trans d2; have hc3 : w2.cell? ⟨q, 3, none⟩ = some (.bool ov) := (hbel.cell (Array.getElem?_eq_some_iff.1 HQ1.out).1).trans d3))
  have hql : q < w'.heap.size := (Array.getElem?_eq_some_iff.1 HQ1.out).1
  have HQ2 : Hid (w2.heap[q]? = some (.cells #[.int .i32 1, .int .u32 0, .slice ai ni ci, .bool ov] 109 (0, 0))) := (hbel.block q hql).trans HQ1.out
  have HO : Hid (w2.ownsRow w'.heap.size 5 1 u inp.length (bv inp)) := hown
  have HB2 : Hid (Below w'.heap.size w' w2) := ⟨hbel.os, hbel.tape, hbel.output, hbel.size, hbel.block⟩
  clear hown hbel hc2 hc3 HLK HC d2 d3 HBY
  go_wp2
  refine leaves_cons (f := 52) (args := #[.pointer (some ⟨q, 0, none⟩)]) (by simp) (by simp [go_sem]) ?_
  refine (unlock_deferred muLib ⟨q, 0, none⟩ .returning _ ?_ ?_).mono ?_
  · exact cell_of_row w2 q 0 _ _ _ HQ2.out
  · exact frozen_of_row w2 q 0 _ _ HQ2.out
  rintro e u' w3 ⟨rfl, rfl, rfl⟩
  refine ⟨_, results_tmp2 rfl _ _ _, u, rfl, ?_, below_back HQ.out rfl HW1.out HB2.out rfl⟩
  rw [← HS.out]
  exact ownsRow_setCell_other HO.out (fun e => by have h1 : w'.heap.size ≤ q := (HO.out.lt _ e).1; omega) _
theorem output_c {B : Nat} {L : Lay} {S : St} (w : World) (h : PB B L S w) (hl : S.out.length ≤ 140737488355328) :
    Calls Try.prog 13 #[.pointer (some ⟨L.b, 0, none⟩)] w fun e w' => ∃ u, e = .returned u ∧ w'.ownsRow w.heap.size 5 1 u S.out.length (bv S.out) ∧ Below w.heap.size w w' := by
  have c5 : w.cell? ⟨L.b, 5, none⟩ = some (.pointer (some ⟨L.u, 0, none⟩)) := cell_of_row w L.b 5 _ _ _ h.hb
  have d5 : w.cell? ⟨L.u, 5, none⟩ = some L.vo := cell_of_row w L.u 5 _ _ _ h.hu
  have HC := clone_c hl L.vo w (Byt.of_own h.wo)
  obtain ⟨ao, no, co, e⟩ := own_one h.wo
  rw [e] at HC d5
  clear h e
  go_enter Try.func13, Try.ntmps13
  go_wp2_with (go_at_call 28; refine HC.mono ?_; rintro e w2 ⟨u, rfl, hown, hbel⟩)
  go_ret
  exact ⟨u, rfl, hown, hbel⟩
theorem PB.later {B : Nat} {L : Lay} {S : St} {w w' : World} (h : PB B L S w) (hb : Below w.heap.size w w') : PB B L S w' := by
  have k : ∀ {g : Nat} {o : Obj}, w.heap[g]? = some o → w'.heap[g]? = some o := fun {g o} hg => by rw [hb.block g (Array.getElem?_eq_some_iff.1 hg).1]; exact hg
  exact ⟨k h.hb, k h.hm, k h.hp, k h.hs, k h.hc, k h.hk, k h.hu, k h.hq, own_later h.wr hb rfl, own_later h.wi hb rfl, own_later h.wo hb rfl, h.ri, h.ro, h.io, h.lb, h.lm, h.lp, h.ls, h.lc, h.lk, h.lu, h.lq⟩
/-- The cells of a bus. -/
structure PC (L : Lay) (S : St) (vr vi vo : Value) (w : World) : Prop where
  b0 : w.cell? ⟨L.b, 0, none⟩ = some (.pointer (some ⟨L.m, 0, none⟩))
  b1 : w.cell? ⟨L.b, 1, none⟩ = some (.pointer (some ⟨L.pw, 0, none⟩))
  b2 : w.cell? ⟨L.b, 2, none⟩ = some (.pointer (some ⟨L.sw, 0, none⟩))
  b3 : w.cell? ⟨L.b, 3, none⟩ = some (.pointer (some ⟨L.cm, 0, none⟩))
  b4 : w.cell? ⟨L.b, 4, none⟩ = some (.pointer (some ⟨L.ck, 0, none⟩))
  b5 : w.cell? ⟨L.b, 5, none⟩ = some (.pointer (some ⟨L.u, 0, none⟩))
  b6 : w.cell? ⟨L.b, 6, none⟩ = some (.bool S.ext)
  b7 : w.cell? ⟨L.b, 7, none⟩ = some (.bool S.soft)
  m0 : w.cell? ⟨L.m, 0, none⟩ = some vr
  p0 : w.cell? ⟨L.pw, 0, none⟩ = some (.int .i64 S.off)
  p1 : w.cell? ⟨L.pw, 1, none⟩ = some (.int .i64 S.code)
  s0 : w.cell? ⟨L.sw, 0, none⟩ = some (.int .u32 S.msip)
  c0 : w.cell? ⟨L.cm, 0, none⟩ = some (.int .u64 33570816)
  c1 : w.cell? ⟨L.cm, 1, none⟩ = some (.int .u64 S.cmp)
  k0 : w.cell? ⟨L.ck, 0, none⟩ = some (.int .u64 33603576)
  k1 : w.cell? ⟨L.ck, 1, none⟩ = some (.int .u64 S.time)
  u0 : w.cell? ⟨L.u, 0, none⟩ = some (.int .u8 S.ier)
  u1 : w.cell? ⟨L.u, 1, none⟩ = some (.int .u8 S.lcr)
  u2 : w.cell? ⟨L.u, 2, none⟩ = some (.int .u8 S.mcr)
  u3 : w.cell? ⟨L.u, 3, none⟩ = some (.int .u8 S.scr)
  u4 : w.cell? ⟨L.u, 4, none⟩ = some (.pointer (some ⟨L.q, 0, none⟩))
  u5 : w.cell? ⟨L.u, 5, none⟩ = some vo
  q2 : w.cell? ⟨L.q, 2, none⟩ = some vi
  q3 : w.cell? ⟨L.q, 3, none⟩ = some (.bool S.ov)
theorem PB.cl {B : Nat} {L : Lay} {S : St} {w : World} (h : PB B L S w) : PC L S L.vr L.vi L.vo w :=
  ⟨cell_of_row w L.b 0 _ _ _ h.hb, cell_of_row w L.b 1 _ _ _ h.hb, cell_of_row w L.b 2 _ _ _ h.hb, cell_of_row w L.b 3 _ _ _ h.hb, cell_of_row w L.b 4 _ _ _ h.hb, cell_of_row w L.b 5 _ _ _ h.hb, cell_of_row w L.b 6 _ _ _ h.hb, cell_of_row w L.b 7 _ _ _ h.hb,
   cell_of_row w L.m 0 _ _ _ h.hm, cell_of_row w L.pw 0 _ _ _ h.hp, cell_of_row w L.pw 1 _ _ _ h.hp, cell_of_row w L.sw 0 _ _ _ h.hs, cell_of_row w L.cm 0 _ _ _ h.hc, cell_of_row w L.cm 1 _ _ _ h.hc, cell_of_row w L.ck 0 _ _ _ h.hk, cell_of_row w L.ck 1 _ _ _ h.hk,
   cell_of_row w L.u 0 _ _ _ h.hu, cell_of_row w L.u 1 _ _ _ h.hu, cell_of_row w L.u 2 _ _ _ h.hu, cell_of_row w L.u 3 _ _ _ h.hu, cell_of_row w L.u 4 _ _ _ h.hu, cell_of_row w L.u 5 _ _ _ h.hu, cell_of_row w L.q 2 _ _ _ h.hq, cell_of_row w L.q 3 _ _ _ h.hq⟩
/-- A state as new memory. -/
structure Sv (B : Nat) (S : St) (ur ui uo : Value) (w : World) : Prop where
  r : w.ownsRow B 5 1 ur S.ram.length (bv S.ram)
  i : w.ownsRow B 5 1 ui S.inp.length (bv S.inp)
  o : w.ownsRow B 5 1 uo S.out.length (bv S.out)
  ri : ∀ g, ur.ownBlock = some g → ui.ownBlock ≠ some g
  ro : ∀ g, ur.ownBlock = some g → uo.ownBlock ≠ some g
  io : ∀ g, ui.ownBlock = some g → uo.ownBlock ≠ some g
theorem own_apart {w w' : World} {B B' n n' : Nat} {v v' : Value} {xs xs' : List Value} (h : w.ownsRow B 5 1 v n xs) (h' : w'.ownsRow B' 5 1 v' n' xs') (hB : w.heap.size ≤ B') : ∀ g, v.ownBlock = some g → v'.ownBlock ≠ some g := fun g hg hg' => by
  have h1 := (h.lt g hg).2
  have h2 := (h'.lt g hg').1
  omega
theorem PB.exc {B : Nat} {L : Lay} {S : St} {w w' : World} {G : Nat → Prop} (h : PB B L S w) (hb : Exc G w w') (hG : ∀ k, k < w.heap.size → ¬ G k) : PB B L S w' := by
  have k : ∀ {g : Nat} {o : Obj}, w.heap[g]? = some o → w'.heap[g]? = some o := fun {g o} hg => by have hl := (Array.getElem?_eq_some_iff.1 hg).1; rw [hb.block g hl (hG g hl)]; exact hg
  exact ⟨k h.hb, k h.hm, k h.hp, k h.hs, k h.hc, k h.hk, k h.hu, k h.hq, own_exc h.wr hb (fun k hk => hG k (h.wr.lt k hk).2), own_exc h.wi hb (fun k hk => hG k (h.wi.lt k hk).2), own_exc h.wo hb (fun k hk => hG k (h.wo.lt k hk).2), h.ri, h.ro, h.io, h.lb, h.lm, h.lp, h.ls, h.lc, h.lk, h.lu, h.lq⟩
theorem stSize : (Try.prog.info? 26).map (·.size) = some 15 := by kernel_rfl
theorem stOne (S : St) {ar ai ao : Option Addr} {nr ni no cr ci co : Nat} : (stc S (.slice ar nr cr) (.slice ai ni ci) (.slice ao no co)).all (·.oneCell') = true := by
  unfold stc
  simp [Value.oneCell']
end Go.Proofs.Ytghiabdkgfhdbaa
