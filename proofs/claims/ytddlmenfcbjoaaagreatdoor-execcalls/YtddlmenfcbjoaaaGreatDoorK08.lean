import Derived.Test.YtddlmenfcbjoaaaGreatDoorK07
import Derived.Maps.AppendAt
import Derived.Deep.RegionLaw
import Derived.Deep.RegionHeld3
import Derived.Deep.CutRange
import Derived.SizedLaws
import Derived.Laws.CopyOwn
namespace Go.Proofs.YtddlmenfcbjoaaaGreatDoor
set_option linter.unusedVariables false
set_option maxRecDepth 100000
set_option maxHeartbeats 8000000
open Go.ChangeShapes Go.WideShapes Go.ChangeAt Go.RowKit Go.Deep _root_.Go.Proofs.Tryz
structure PSt (B : Nat) (L : Lay) (w : World) (L' : Lay) (S' : St) (w' : World) : Prop where
 p : PB B L' S' w'
 x : Exc L.own w w'
 o : ∀ k, L'.own k → L.own k ∨ w.heap.size ≤ k
 b : L'.b = L.b ∧ L'.u = L.u ∧ L'.q = L.q ∧ L'.ck = L.ck
theorem PSt.same {B : Nat} {L : Lay} {S' : St} {w w' : World} (h : PB B L S' w') (hx : Exc L.own w w') : PSt B L w L S' w' := ⟨h, hx, fun _ hk => .inl hk, rfl, rfl, rfl, rfl⟩
theorem PSt.quiet {B : Nat} {L : Lay} {S : St} {w w' : World} (h : PB B L S w) (hb : Below w.heap.size w w') : PSt B L w L S w' := .same (h.later hb) (Exc.of_below hb rfl)
theorem PSt.pre {B : Nat} {L L' : Lay} {S' : St} {w w1 w' : World} (hb : Below w.heap.size w w1) (h : PSt B L w1 L' S' w') : PSt B L w L' S' w' :=
 ⟨h.p, (Exc.of_below hb rfl).trans h.x, fun k hk => (h.o k hk).imp id (fun e => ZqO hb.size e), h.b⟩
theorem PSt.post {B : Nat} {L L' : Lay} {S' : St} {w w1 w' : World} (h : PSt B L w L' S' w1) (hb : Below w1.heap.size w1 w') : PSt B L w L' S' w' :=
 ⟨h.p.later hb, h.x.trans (Exc.of_below hb rfl), h.o, h.b⟩
theorem PB.queue {B : Nat} {L : Lay} {S : St} {w w' : World} (h : PB B L S w) (he : Exc (fun k => k = L.q ∨ L.vi.ownBlock = some k) w w') (v : Value) (l : List Int) (ov : Bool)
  (hq : w'.heap[L.q]? = some (.cells #[.int .i32 0, .int .u32 0, v, .bool ov] 113 (0, 0))) (ho : w'.ownsRow B 5 1 v l.length (bv l)) (hl : ∀ k, v.ownBlock = some k → L.vi.ownBlock = some k ∨ w.heap.size ≤ k) :
  PSt B L w { L with vi := v } { S with inp := l, ov := ov } w' := by
 have hlt := h.lt
 have k : ∀ {b : Nat} {C : Array Value} {T : TypeId}, T ≠ 5 → T ≠ 113 → w.heap[b]? = some (.cells C T (0, 0)) → w'.heap[b]? = some (.cells C T (0, 0)) := fun {b C T} hT hT2 hb => by
  rw [he.block b (Array.getElem?_eq_some_iff.1 hb).1 (fun e => ?_)]
  ·exact hb
  ·rcases e with e | e
   ·rw [e, h.hq] at hb
    simp at hb
    exact hT2 hb.2.symm
   ·exact dQ h.wi hb hT b e rfl
 have kr : w'.ownsRow B 5 1 L.vr S.ram.length (bv S.ram) := eJ h.wr he (fun q hg e => by
  rcases e with e | e
  ·exact dQ h.wr h.hq (by decide) q hg e
  ·exact h.ri q hg e)
 have ko : w'.ownsRow B 5 1 L.vo S.out.length (bv S.out) := eJ h.wo he (fun q hg e => by
  rcases e with e | e
  ·exact dQ h.wo h.hq (by decide) q hg e
  ·exact h.io q e hg)
 refine ⟨⟨k (by decide) (by decide) h.hb, k (by decide) (by decide) h.hm, k (by decide) (by decide) h.hp, k (by decide) (by decide) h.hs, k (by decide) (by decide) h.hc, k (by decide) (by decide) h.hk, k (by decide) (by decide) h.hu, hq, kr, ho, ko, ?_, h.ro, ?_, h.lb, h.lm, h.lp, h.ls, h.lc, h.lk, h.lu, h.lq⟩, ?_, ?_, rfl, rfl, rfl, rfl⟩
 ·intro g hg e
  rcases hl g e with e2 | e2
  ·exact h.ri g hg e2
  ·have := hlt.vr g hg; omega
 ·intro g hg e
  rcases hl g hg with e2 | e2
  ·exact h.io g e2 e
  ·have := hlt.vo g e; omega
 ·refine he.mono fun k hk => ?_
  unfold Lay.own
  rcases hk with e | e
  ·simp [e]
  ·simp [e]
 ·intro k hk
  unfold Lay.own at hk ⊢
  simp only at hk
  rcases hk with e | e | e | e | e | e | e | e | e | e | e
  all_goals first | (left; simp [e]; done) | skip
  rcases hl k e with e2 | e2
  ·left; simp [e2]
  ·right; exact e2
theorem PB.sent {B : Nat} {L : Lay} {S : St} {w w' : World} (h : PB B L S w) (he : Exc (fun k => k = L.u ∨ L.vo.ownBlock = some k) w w') (v : Value) (l : List Int)
  (hu : w'.heap[L.u]? = some (.cells #[.int .u8 S.ier, .int .u8 S.lcr, .int .u8 S.mcr, .int .u8 S.scr, pt L.q, v] 78 (0, 0))) (ho : w'.ownsRow B 5 1 v l.length (bv l)) (hl : ∀ k, v.ownBlock = some k → L.vo.ownBlock = some k ∨ w.heap.size ≤ k) :
  PSt B L w { L with vo := v } { S with out := l } w' := by
 have hlt := h.lt
 have k : ∀ {b : Nat} {C : Array Value} {T : TypeId}, T ≠ 5 → T ≠ 78 → w.heap[b]? = some (.cells C T (0, 0)) → w'.heap[b]? = some (.cells C T (0, 0)) := fun {b C T} hT hT2 hb => by
  rw [he.block b (Array.getElem?_eq_some_iff.1 hb).1 (fun e => ?_)]
  ·exact hb
  ·rcases e with e | e
   ·rw [e, h.hu] at hb
    simp at hb
    exact hT2 hb.2.symm
   ·exact dQ h.wo hb hT b e rfl
 have kr : w'.ownsRow B 5 1 L.vr S.ram.length (bv S.ram) := eJ h.wr he (fun q hg e => by
  rcases e with e | e
  ·exact dQ h.wr h.hu (by decide) q hg e
  ·exact h.ro q hg e)
 have ki : w'.ownsRow B 5 1 L.vi S.inp.length (bv S.inp) := eJ h.wi he (fun q hg e => by
  rcases e with e | e
  ·exact dQ h.wi h.hu (by decide) q hg e
  ·exact h.io q hg e)
 refine ⟨⟨k (by decide) (by decide) h.hb, k (by decide) (by decide) h.hm, k (by decide) (by decide) h.hp, k (by decide) (by decide) h.hs, k (by decide) (by decide) h.hc, k (by decide) (by decide) h.hk, hu, k (by decide) (by decide) h.hq, kr, ki, ho, h.ri, ?_, ?_, h.lb, h.lm, h.lp, h.ls, h.lc, h.lk, h.lu, h.lq⟩, ?_, ?_, rfl, rfl, rfl, rfl⟩
 ·intro g hg e
  rcases hl g e with e2 | e2
  ·exact h.ro g hg e2
  ·have := hlt.vr g hg; omega
 ·intro g hg e
  rcases hl g e with e2 | e2
  ·exact h.io g hg e2
  ·have := hlt.vi g hg; omega
 ·refine he.mono fun k hk => ?_
  unfold Lay.own
  rcases hk with e | e
  ·simp [e]
  ·simp [e]
 ·intro k hk
  unfold Lay.own at hk ⊢
  simp only at hk
  rcases hk with e | e | e | e | e | e | e | e | e | e | e
  all_goals first | (left; simp [e]; done) | skip
  rcases hl k e with e2 | e2
  ·left; simp [e2]
  ·right; exact e2
theorem appA {ops : Array Oper} {rest : List Oper} {o : Oper} {a : Act} {w : World} {Q : Exit → Act → World → Prop} (hgd : o.guard = none) (s x : Operand) (ho : o.op = .call { callee := .builtin .append, args := #[s, x], argTypes := #[32, 32] })
  (B : Nat) (v u : Value) (m l : List Int) (hs : a.eval s = v) (hown : w.ownsRow B 5 1 v m.length (bv m)) (hx : a.eval x = u) (hu : Byt w u l) (hl : m.length + l.length ≤ 140737488355328) (hB : B ≤ w.heap.size)
  (h : ∀ v' w', w'.ownsRow B 5 1 v' (m ++ l).length (bv (m ++ l)) → w.grownBy w' v.ownBlock → (v'.ownBlock = v.ownBlock ∨ v'.ownBlock = some w.heap.size) → wpList prog ops Q rest (a.put o.dst v') w') :
  wpList prog ops Q (o :: rest) a w := by
 obtain ⟨i0, hi, hz0, hz1, hz2⟩ := info_parts pZ
 obtain ⟨ao, cap, rfl, h1, h1', h2⟩ := hu
 cases ao with
 | none =>
  have hc := h1' rfl
  have hl0 : l = [] := List.eq_nil_of_length_eq_zero (by omega)
  subst hl0; subst hc
  refine wpList_append_own_none hgd s x 32 ho B 5 i0 1 underlying32 hi v m.length (bv m) hs hown hx ?_
  exact h _ _ (by simpa using hown) (World.grownBy.refl _ _) (.inl rfl)
 | some ad =>
  refine wpList_append_own_at _ hgd s x 32 ho B 5 i0 (.int .u8 0) 1 1 underlying32 hi hz0 hz1 hz2 rfl (by decide) v m.length (bv m) hs hown ad l.length cap (bv l) hx (by simp [bv]) ?_ ?_ (by unfold maxLen; omega) (by omega) hB ?_
  ·intro j w2 hj
   have hjl : j < l.length := by have := (List.getElem?_eq_some_iff.1 hj).1; simpa [bv] using this
   obtain ⟨g, off, he, h3, h4⟩ := h2 (by intro e; rw [e] at hjl; simp at hjl)
   cases he
   rw [jU _ _ hjl] at hj
   cases hj
   rw [zN]
   exact h4 j hjl
  ·intro w2 hw2; simp [bv] at hw2; obtain ⟨q, _, rfl⟩ := hw2; rfl
  ·intro v' w' g1 g2 g3 g4
   exact h v' w' (by simpa [bv] using g1) g2 g4
theorem uG {ops : Array Oper} {o : Oper} {a : Act} {w : World} {K : Act → World → Prop} {Q : Exit → Act → World → Prop} {E : Prop}
  (hg : o.guard = none) (s x : Operand) (hop : o.op = .call { callee := .builtin .append, args := #[s, x], argTypes := #[32, 32] })
  (g cap : Nat) (cur : Array Value) (hs : a.eval s = .slice (some ⟨g, 0, none⟩) 0 cap) (hrow : w.heap[g]? = some (.cells cur 5 (0, 0)))
  (ad : Addr) (m c : Nat) (l : List Int) (hx : a.eval x = .slice (some ad) m c) (hl : l.length = m) (hc : ∀ j u, (bv l)[j]? = some u → w.cell? (ad.add j) = some u) (hr : m ≤ cap) (hf : m ≤ cur.size)
  (hK : K (a.put o.dst (.slice (some ⟨g, 0, none⟩) m cap)) (w.setRow g (bv l ++ cur.toList.drop m).toArray)) :
  if Region.wanted o (yielded ops a.tmps) = true then Oper.wp prog o a w K Q else E := by
 obtain ⟨i0, hi, hz0, hz1, hz2⟩ := info_parts pZ
 have hw : Region.wanted o (yielded ops a.tmps) = true := by simp [Region.wanted, hg]
 rw [if_pos hw]
 have hrun := run_append_room (P := prog) w 32 o.type 5 i0 underlying32 hi g 0 cap cur hrow ad m c (bv l) (by rw [hz1, bY, hl, Nat.mul_one]) hc (by intro u hu; simp [bv] at hu; obtain ⟨q, _, rfl⟩ := hu; rfl) (by omega) (by rw [bY, hl]; omega)
 simp only [Nat.zero_mul, ZqU, List.take_zero, List.nil_append, bY, hl] at hrun
 unfold Oper.wp
 simp [execOp, hop, resolve, invoke, builtin, hs, hx, hrun, Result.andThen]
 exact hK
end Go.Proofs.YtddlmenfcbjoaaaGreatDoor
namespace Go.Proofs.YtddlmenfcbjoaaaGreatDoor
set_option linter.unusedVariables false
set_option maxRecDepth 100000
set_option maxHeartbeats 8000000
open Go.ChangeShapes Go.WideShapes Go.ChangeAt Go.RowKit Go.Deep Go.MuLone _root_.Go.Proofs.Tryz
theorem DW {B : Nat} {L : Lay} {S : St} (w : World) (h : PB B L S w) (hi : S.inp = []) : Calls prog 278 #[.pointer (some ⟨L.q, 0, none⟩)] w fun e w' => e = .returned (.int .u8 0) ∧ ∃ L', PSt B L w L' S w' := by
 obtain ⟨c0, f0⟩ := h.locked
 obtain ⟨w1, hw1⟩ : ∃ w1, w1 = w.setCell ⟨L.q, 0, none⟩ (.int .i32 1) := ⟨_, rfl⟩
 have hq1 : w1.heap[L.q]? = some (.cells #[.int .i32 1, .int .u32 0, L.vi, .bool S.ov] 113 (0, 0)) := by rw [hw1]; exact ZqQ w L.q 0 _ _ _ h.hq
 have d2 : w1.cell? ⟨L.q, 2, none⟩ = some L.vi := ZqP w1 L.q 2 _ _ _ hq1
 have HLK := (lock_free kQ ⟨L.q, 0, none⟩ w c0 f0)
 rw [← hw1] at HLK
 have HQ2 := hid hq1
 have HW : Hid (Below w.heap.size w (w1.setCell ⟨L.q, 0, none⟩ (.int .i32 0))) := mC h.hq rfl hw1 (ZqD _ _) rfl
 have HP := hid h
 obtain ⟨ai, ci, ei, _⟩ := Byt.of_own h.wi
 rw [hi] at ei
 rw [ei] at d2
 have d2' : w1.cell? ⟨L.q, 2, none⟩ = some (.slice ai 0 ci) := d2
 clear hw1 hq1 h ei d2 hi
 go_enter_defers func278, ntmps278
 go_wp2_with (go_at_call 46; refine HLK.mono ?_; rintro e w' ⟨rfl, rfl⟩)
 refine leaves_cons (f := 47) (args := #[.pointer (some ⟨L.q, 0, none⟩)]) (by simp) (by simp [go_sem]) ?_
 refine (unlock_deferred kQ ⟨L.q, 0, none⟩ .returning _ ?_ ?_).mono ?_
 ·exact ZqP _ L.q 0 _ _ _ HQ2.out
 ·exact frozen_of_row _ L.q 0 _ _ HQ2.out
 rintro e u' w3 ⟨rfl, rfl, hw3⟩
 refine ⟨_, results_tmp rfl _ _ _, rfl, L, ?_⟩
 rw [hw3]
 exact .quiet HP.out HW.out
theorem DM {B : Nat} {L : Lay} {S : St} {w w1 w2 w3 w4 : World} {x v v' : Value} {l : List Int} {ov : Bool} (h : PB B L S w) (hx : Exc (fun k => k = L.q ∨ L.vi.ownBlock = some k) w w1)
  (hq1 : w1.heap[L.q]? = some (.cells #[.int .i32 1, .int .u32 0, x, .bool ov] 113 (0, 0))) (hvq : ∀ k, v.ownBlock = some k → k ≠ L.q) (hvi : ∀ k, v.ownBlock = some k → L.vi.ownBlock = some k)
  (ho : w2.ownsRow B 5 1 v' l.length (bv l)) (hg : w1.grownBy w2 v.ownBlock) (hloc : v'.ownBlock = v.ownBlock ∨ v'.ownBlock = some w1.heap.size)
  (h3 : w3 = w2.setCell ⟨L.q, 2, none⟩ v') (h4 : w4 = w3.setCell ⟨L.q, 0, none⟩ (.int .i32 0)) : ∃ L', PSt B L w L' { S with inp := l, ov := ov } w4 := by
 have hlt : L.q < w1.heap.size := (Array.getElem?_eq_some_iff.1 hq1).1
 have hq2 : w2.heap[L.q]? = some (.cells #[.int .i32 1, .int .u32 0, x, .bool ov] 113 (0, 0)) := by
  rw [hg.block L.q hlt (fun e => hvq L.q e.symm rfl)]; exact hq1
 have hq3 : w3.heap[L.q]? = some (.cells #[.int .i32 1, .int .u32 0, v', .bool ov] 113 (0, 0)) := by rw [h3]; exact ZqQ _ L.q 2 _ _ _ hq2
 have hq4 : w4.heap[L.q]? = some (.cells #[.int .i32 0, .int .u32 0, v', .bool ov] 113 (0, 0)) := by rw [h4]; exact ZqQ _ L.q 0 _ _ _ hq3
 have x2 : Exc (fun k => k = L.q ∨ L.vi.ownBlock = some k) w1 w2 := ⟨hg.os, hg.tape, hg.output, hg.size, fun k hk hne => hg.block k hk (fun e => hne (.inr (hvi k e.symm)))⟩
 have x4 : Exc (fun k => k = L.q ∨ L.vi.ownBlock = some k) w w4 := by
  rw [h4, h3]
  exact ((hx.trans x2).set L.q 2 _ (.inl rfl)).set L.q 0 _ (.inl rfl)
 have o3 : w3.ownsRow B 5 1 v' l.length (bv l) := by rw [h3]; exact aP ho hq2 (by decide)
 have o4 : w4.ownsRow B 5 1 v' l.length (bv l) := by rw [h4]; exact aP o3 hq3 (by decide)
 refine ⟨_, h.queue x4 v' l ov hq4 o4 (fun k hk => ?_)⟩
 rcases hloc with e | e
 ·exact .inl (hvi k (by rw [← e]; exact hk))
 ·right
  have e2 : k = w1.heap.size := by rw [hk] at e; exact ZqF e
  rw [e2]; exact hx.size
theorem DX {B : Nat} {L : Lay} {S : St} (w : World) (h : PB B L S w) (x : Int) (xs : List Int) (hi : S.inp = x :: xs) (h64 : xs.length ≤ 64) : Calls prog 278 #[.pointer (some ⟨L.q, 0, none⟩)] w fun e w' => e = .returned (.int .u8 x) ∧ ∃ L', PSt B L w L' { S with inp := xs } w' := by
 obtain ⟨c0, f0⟩ := h.locked
 obtain ⟨w1, hw1⟩ : ∃ w1, w1 = w.setCell ⟨L.q, 0, none⟩ (.int .i32 1) := ⟨_, rfl⟩
 have hq1 : w1.heap[L.q]? = some (.cells #[.int .i32 1, .int .u32 0, L.vi, .bool S.ov] 113 (0, 0)) := by rw [hw1]; exact ZqQ w L.q 0 _ _ _ h.hq
 have hwi := h.wi
 rw [hi] at hwi
 rcases hwi.2 with ⟨_, h0⟩ | ⟨g, cap, cur, ev, hBg, hrow, hnc, hcm, hcs, htk⟩
 ·simp at h0
 have hvi : L.vi.ownBlock = some g := by rw [ev]; rfl
 have hgq : g ≠ L.q := dQ h.wi h.hq (by decide) g hvi
 have hrow1 : w1.heap[g]? = some (.cells cur 5 (0, 0)) := by rw [hw1]; exact (heap_setCell_other w _ g _ hgq).trans hrow
 have hn : xs.length + 1 ≤ cap := by simpa using hnc
 have hcell : ∀ j u, (bv (x :: xs))[j]? = some u → w1.cell? ⟨g, j, none⟩ = some u := fun j u hj => by
  rw [ZqP w1 g j _ _ _ hrow1, ← Array.getElem?_toList]
  rw [← htk] at hj
  rw [List.getElem?_take] at hj
  split at hj
  ·exact hj
  ·cases hj
 have e0 : w1.cell? ⟨g, 0, none⟩ = some (.int .u8 x) := hcell 0 _ rfl
 obtain ⟨ad, hca, hby⟩ : ∃ ad : Addr, (if cap = 1 then some (⟨g, 0, none⟩ : Addr) else some ⟨g, 1, none⟩) = some ad ∧ Byt w1 (.slice (some ad) xs.length (cap - 1)) xs := by
  by_cases hc1 : cap = 1
  ·have hx0 : xs = [] := List.eq_nil_of_length_eq_zero (by omega)
   subst hx0
   exact ⟨⟨g, 0, none⟩, by rw [if_pos hc1], some ⟨g, 0, none⟩, cap - 1, rfl, Nat.zero_le _, fun e => (by cases e), fun e => absurd rfl e⟩
  ·refine ⟨⟨g, 1, none⟩, by rw [if_neg hc1], some ⟨g, 1, none⟩, cap - 1, rfl, by omega, fun e => (by cases e), fun _ => ⟨g, 1, rfl, (Array.getElem?_eq_some_iff.1 hrow1).1, fun j hj => ?_⟩⟩
   rw [Nat.add_comm]
   exact hcell (j + 1) _ (by rw [jU _ _ (by simp; omega)]; simp)
 have HC : Hid (∀ j u, (bv xs)[j]? = some u → w1.cell? (ad.add j) = some u) := fun j u hj => by
  have hjl : j < xs.length := by have := (List.getElem?_eq_some_iff.1 hj).1; rwa [bY] at this
  obtain ⟨a2, c2, e2, _, _, h2⟩ := hby
  obtain ⟨g2, off, ea, _, h4⟩ := h2 (fun e => by rw [e] at hjl; simp at hjl)
  cases e2
  cases ea
  rw [jU _ _ hjl] at hj
  cases hj
  rw [zN]
  exact h4 j hjl
 obtain ⟨R, hR⟩ : ∃ R, R = (bv xs ++ cur.toList.drop xs.length).toArray := ⟨_, rfl⟩
 have HR := hid hR
 have HRW := hid hrow1
 have HN : Hid (xs.length ≤ cap ∧ xs.length ≤ cur.size) := ⟨by omega, by omega⟩
 have hq2 : (w1.drew.setRow g R).heap[L.q]? = some (.cells #[.int .i32 1, .int .u32 0, L.vi, .bool S.ov] 113 (0, 0)) := (setRow_other w1.drew g R L.q (fun e => hgq e.symm)).trans hq1
 have d3 := ZqP _ L.q 2 _ _ _ hq2
 have g3 := frozen_of_row _ L.q 2 _ _ hq2
 have HQ2 := hid hq2
 have HO : Hid ((w1.drew.setRow g R).ownsRow B 5 1 (.slice (some ⟨g, 0, none⟩) xs.length cap) xs.length (bv xs)) := by
  have hRs : R.size = cap := by rw [hR]; simp [bv]; omega
  have hRt : R.toList.take (xs.length * 1) = bv xs := by
   rw [hR, Nat.mul_one]
   have : (bv xs).length = xs.length := bY xs
   rw [show (bv xs ++ cur.toList.drop xs.length).toArray.toList = bv xs ++ cur.toList.drop xs.length from rfl, ← this, List.take_left]
  exact ⟨by rw [bY, Nat.mul_one], .inr ⟨g, cap, R, rfl, hBg, ZqW w1.drew g cur _ _ _ hrow1, by omega, hcm, by omega, hRt⟩⟩
 have HGB : Hid (World.grownBy w1 (w1.drew.setRow g R) (some g)) := ⟨rfl, rfl, rfl, by rw [size_setRow]; exact ZqE _, fun k hk hne => setRow_other w1.drew g R k (fun e => hne (by rw [e]))⟩
 clear hq2
 have HOW : Hid (w1.ownsRow B 5 1 (.slice (some ⟨g, 0, none⟩) 0 cap) ([] : List Int).length (bv [])) := ⟨by simp [bv], .inr ⟨g, cap, cur, rfl, hBg, hrow1, Nat.zero_le _, hcm, hcs, by simp [bv]⟩⟩
 have HBL : Hid (B ≤ w1.heap.size) := by
  have h1 := (Array.getElem?_eq_some_iff.1 hrow1).1
  unfold Hid; omega
 rw [ev] at hq1
 have d2 : w1.cell? ⟨L.q, 2, none⟩ = some (.slice (some ⟨g, 0, none⟩) (xs.length + 1) cap) := ZqP w1 L.q 2 _ _ _ hq1
 have HLK := (lock_free kQ ⟨L.q, 0, none⟩ w c0 f0)
 rw [← hw1] at HLK
 have HQ1 : Hid (w1.heap[L.q]? = some (.cells #[.int .i32 1, .int .u32 0, .slice (some ⟨g, 0, none⟩) (xs.length + 1) cap, .bool S.ov] 113 (0, 0))) := hq1
 have HGQ := hid hgq
 have HX : Hid (Exc (fun k => k = L.q ∨ L.vi.ownBlock = some k) w w1) := by unfold Hid; rw [hw1]; exact (Exc.refl _ w).set L.q 0 _ (.inl rfl)
 have HP : Hid (PB B L S w ∧ L.vi.ownBlock = some g) := ⟨h, hvi⟩
 have n1 : (1 : Int) ≤ (xs.length : Int) + 1 := by omega
 have n2 : ¬ ((xs.length : Int) + 1 = 0) := by omega
 have n3 : (xs.length : Int) + 1 ≤ (cap : Int) := by omega
 clear hw1 hq1 hwi hrow hnc hcm hcs htk hgq hrow1 hcell hBg ev hi h c0 f0 hn hby hvi hR
 go_enter_defers func278, ntmps278
 go_wp2_with (go_at_call 46; refine HLK.mono ?_; rintro e w' ⟨rfl, rfl⟩)
 refine wp_region_noPanic ?_
 go_region_law (refine uG rfl (.tmp 28) (.tmp 33) rfl g cap cur (by simp [Act.eval, Act.put]) HRW.out ad xs.length (cap - 1) xs (by simp [Act.eval, Act.put]) rfl HC.out HN.out.1 HN.out.2 ?_; rw [← HR.out])
 all_goals
  refine NoPanic.normal ?_
  go_wp2
  refine leaves_cons (f := 47) (args := #[.pointer (some ⟨L.q, 0, none⟩)]) (by simp) (by simp [go_sem]) ?_
  have hq3 := ZqQ _ L.q 2 _ _ (.slice (some ⟨g, 0, none⟩) xs.length cap) HQ2.out
  refine (unlock_deferred kQ ⟨L.q, 0, none⟩ .returning _ ?_ ?_).mono ?_
  ·exact ZqP _ L.q 0 _ _ _ hq3
  ·exact frozen_of_row _ L.q 0 _ _ hq3
  rintro e u' w3 ⟨rfl, rfl, hw3⟩
  refine ⟨_, results_tmp rfl _ _ _, rfl, ?_⟩
  exact DM HP.out.1 HX.out HQ1.out (v := .slice (some ⟨g, 0, none⟩) 0 cap) (fun k hk => by cases hk; exact HGQ.out) (fun k hk => by cases hk; exact HP.out.2) HO.out HGB.out (.inl rfl) rfl hw3
def St.sen (S : St) (c : Int) : St := if S.out.length < 4096 then { S with out := S.out ++ [c] } else S
theorem ZI {B : Nat} {L : Lay} {S : St} (w : World) (h : PB B L S w) (c : Int) : Calls prog 281 #[.pointer (some ⟨L.u, 0, none⟩), .int .u8 c] w fun e w' => e = .returned (.tuple #[]) ∧ ∃ L', PSt B L w L' (S.sen c) w' := by
 have HR := sM w h
 have HP := hid h
 by_cases hlt : S.out.length < 4096
 ·have HT : Hid (S.sen c = { S with out := S.out ++ [c] }) := by unfold Hid St.sen; rw [if_pos hlt]
  generalize S.sen c = T at HT ⊢
  rw [decide_eq_true (show (S.out.length : Int) < 4096 by omega)] at HR
  obtain ⟨w1, hw1⟩ : ∃ w1, w.alloc (.cells #[.int .u8 c] 5) = w1 := ⟨_, rfl⟩
  have hb1 : Below w.heap.size w w1 := by rw [← hw1]; exact (ZqD _ _).alloc (ZqE _) _
  have hu1 : w1.heap[L.u]? = some (.cells #[.int .u8 S.ier, .int .u8 S.lcr, .int .u8 S.mcr, .int .u8 S.scr, pt L.q, L.vo] 78 (0, 0)) := (hb1.block L.u h.lt.u).trans h.hu
  have HOW : Hid (w1.ownsRow B 5 1 L.vo S.out.length (bv S.out)) := fL h.wo hb1 rfl
  have HBY : Hid (Byt w1 (.slice (some ⟨w.heap.size, 0, none⟩) 1 1) [c]) := ⟨some ⟨w.heap.size, 0, none⟩, 1, rfl, ZqE _, fun e => (by cases e), fun _ => ⟨w.heap.size, 0, rfl, by rw [← hw1]; simp, fun j hj => by
   have hj0 : j = 0 := by simpa using hj
   subst hj0
   rw [← hw1]; simp⟩⟩
  have HBL : Hid (B ≤ w1.heap.size) := ZqO (ZqO h.lu (Nat.le_of_lt h.lt.u)) hb1.size
  have HLL : Hid (S.out.length + [c].length ≤ 140737488355328) := by unfold Hid; simp; omega
  have HU1 := hid hu1
  have HVU : Hid (∀ k, L.vo.ownBlock = some k → k ≠ L.u) := fun k hk => dQ h.wo h.hu (by decide) k hk
  have HB1 := hid hb1
  have HW1 := hid hw1
  have u5 := h.cl.u5
  obtain ⟨ao, co, eo, _⟩ := Byt.of_own h.wo
  have HEO := hid eo
  rw [eo] at u5
  clear h hw1 hb1 hu1 hlt eo
  go_enter func281, ntmps281
  go_wp2_with (first | (go_at_call 275; refine HR.mono ?_; rintro e w' ⟨rfl, hw⟩; have hw2 := hw.symm; subst hw2) | (at_builtin; rw [HW1.out]; refine appA (by rfl) _ _ (by rfl) B L.vo _ S.out [c] (by exact HEO.out.symm) HOW.out (by rfl) HBY.out HLL.out HBL.out ?_; intro v' w2 ho hg hl2; obtain ⟨a9, c9, e9, _⟩ := Byt.of_own ho; obtain ⟨n9, hn9⟩ : ∃ n, n = (S.out ++ [c]).length := ⟨_, rfl⟩; rw [← hn9] at e9; clear hn9; subst e9; have HO := hid ho; have HG : Hid (World.grownBy w1 w2 L.vo.ownBlock) := hg; have HL : Hid ((Value.slice a9 n9 c9).ownBlock = L.vo.ownBlock ∨ (Value.slice a9 n9 c9).ownBlock = some w1.heap.size) := hl2; have hq2 := (HG.out.block L.u (Array.getElem?_eq_some_iff.1 HU1.out).1 (fun e => HVU.out _ e.symm rfl)).trans HU1.out; have d3 := ZqP w2 L.u 5 _ _ _ hq2; have g3 := frozen_of_row w2 L.u 5 _ _ hq2; have HU2 : Hid (w2.heap[L.u]? = some (.cells #[.int .u8 S.ier, .int .u8 S.lcr, .int .u8 S.mcr, .int .u8 S.scr, pt L.q, L.vo] 78 (0, 0))) := hq2; clear ho hg hl2 hq2))
  go_end0
  refine ⟨rfl, ?_⟩
  have hu3 := ZqQ _ L.u 5 _ _ (.slice a9 n9 c9) HU2.out
  have x1 : Exc (fun k => k = L.u ∨ L.vo.ownBlock = some k) w w1 := Exc.of_below HB1.out rfl
  have x2 : Exc (fun k => k = L.u ∨ L.vo.ownBlock = some k) w1 w2 := ⟨HG.out.os, HG.out.tape, HG.out.output, HG.out.size, fun k hk hne => HG.out.block k hk (fun e => hne (.inr e.symm))⟩
  rw [HT.out]
  refine ⟨_, HP.out.sent ((x1.trans x2).set L.u 5 _ (.inl rfl)) (.slice a9 n9 c9) (S.out ++ [c]) hu3 (aP HO.out HU2.out (by decide)) (fun k hk => ?_)⟩
  rcases HL.out with e | e
  ·exact .inl (by rw [← e]; exact hk)
  ·right
   have e2 : k = w1.heap.size := by rw [hk] at e; exact ZqF e
   rw [e2]; exact HB1.out.size
 ·have HT : Hid (S.sen c = S) := by unfold Hid St.sen; rw [if_neg hlt]
  generalize S.sen c = T at HT ⊢
  rw [decide_eq_false (show ¬ (S.out.length : Int) < 4096 by omega)] at HR
  clear h hlt
  go_enter func281, ntmps281
  go_wp2_with (go_at_call 275; refine HR.mono ?_; rintro e w' ⟨rfl, hw⟩; have hw2 := hw.symm; subst hw2)
  go_end0
  refine ⟨rfl, L, ?_⟩
  rw [HT.out]
  exact .quiet HP.out (ZqD _ _)
end Go.Proofs.YtddlmenfcbjoaaaGreatDoor
namespace Go.Proofs.YtddlmenfcbjoaaaGreatDoor
set_option linter.unusedVariables false
set_option maxRecDepth 100000
set_option maxHeartbeats 8000000
open Go.ChangeShapes Go.WideShapes Go.ChangeAt Go.RowKit Go.Deep _root_.Go.Proofs.Tryz
section
variable {H : Type} {enc : TypeId × Value → H} {w : World} {base : Nat} {held : Bool}
theorem OI : prog.cellsOf 35 = 15 := by kernel_rfl
theorem tH : prog.cellsOf 32 = 1 := by kernel_rfl
theorem FM : prog.cellsOf 33 = 1 := by kernel_rfl
theorem vC : prog.cellsOf 22 = 1 := by kernel_rfl
theorem mO : prog.cellsOf 5 = 1 := by kernel_rfl
theorem nG : prog.cellsOf 4 = 1 := by kernel_rfl
theorem vB : prog.cellsOf 3 = 1 := by kernel_rfl
theorem NW : prog.bytesOf 5 = 1 := by kernel_rfl
theorem IT {α : Type} {l : List α} (h : l.length = 15) : ∃ a0 a1 a2 a3 a4 a5 a6 a7 a8 a9 a10 a11 a12 a13 a14, l = [a0, a1, a2, a3, a4, a5, a6, a7, a8, a9, a10, a11, a12, a13, a14] := by
 match l, h with
 | [a0, a1, a2, a3, a4, a5, a6, a7, a8, a9, a10, a11, a12, a13, a14], _ => exact ⟨a0, a1, a2, a3, a4, a5, a6, a7, a8, a9, a10, a11, a12, a13, a14, rfl⟩
theorem mI {fuel : Nat} {v : Value} {y : DataW H × List MemPlace} (h : DataW.trod enc prog w base (fun _ => true) held fuel 32 [v] = some y) (hz : ∀ q ∈ y.1.weights prog 32, q ≤ reachBytes) :
  ∃ (l : List Int) (a : Option Addr) (c : Nat), v = .slice a l.length c ∧ Byt w (.slice a l.length c) l ∧ fQ l ∧ l.length ≤ 140737488351232 := by
 rcases open_ints underlying32 underlying5 mO h with ⟨e3, hy3⟩ | ⟨a, len, cap, zs, e3, _, hl, hm, hzl, hy3, hcell, hwz⟩
 ·simp at e3
  subst e3
  exact ⟨[], none, 0, rfl, Byt.nil w, fun x hx => by simp at hx, by simp⟩
 ·simp at e3
  subst e3
  simp only [if_true] at hzl
  have hw : (lits .u8 (zs.take len) : List (DataW H)).length + (lits .u8 (zs.drop len) : List (DataW H)).length ≤ reachBytes := by
   have hmem : ((lits .u8 (zs.take len) : List (DataW H)).length + (lits .u8 (zs.drop len) : List (DataW H)).length) * 1 ∈ y.1.weights prog 32 := by
    rw [hy3]
    simp [DataW.weights, underlying32, NW]
   have := hz _ hmem
   omega
  simp [lits, reachBytes] at hw
  have hlen : (zs.take len).length = len := by simp; omega
  refine ⟨zs.take len, some a, cap, by rw [hlen], ?_, ?_, by rw [hlen]; omega⟩
  ·refine ⟨some a, cap, rfl, by rw [hlen]; omega, fun e => (by cases e), fun hne => ?_⟩
   have hpos : 0 < len := by
    rcases Nat.eq_zero_or_pos len with e | e
    ·subst e; simp at hne
    ·exact e
   obtain ⟨b, off, spot⟩ := a
   have hc := hcell 0 (by omega)
   have hspot : spot = none := by simpa [Addr.add] using World.cell?_spot hc
   subst hspot
   refine ⟨b, off, rfl, World.block_lt_of_cell? w _ hc, fun j hj => ?_⟩
   have hj' : j < len := by rw [hlen] at hj; exact hj
   have hcj := hcell j (by omega)
   rw [zN] at hcj
   rw [hcj]
   simp [List.getD, hj']
  ·intro z hzm
   have := hwz z (List.mem_of_mem_take hzm)
   have hb8 := bounds_u8 this
   omega
structure StW (S : St) : Prop where
 r : fQ S.ram
 i : fQ S.inp
 o : fQ S.out
 msip : 0 ≤ S.msip ∧ S.msip ≤ 4294967295
 cmp : 0 ≤ S.cmp ∧ S.cmp ≤ 18446744073709551615
 time : 0 ≤ S.time ∧ S.time ≤ 18446744073709551615
 ier : 0 ≤ S.ier ∧ S.ier ≤ 255
 lcr : 0 ≤ S.lcr ∧ S.lcr ≤ 255
 mcr : 0 ≤ S.mcr ∧ S.mcr ≤ 255
 scr : 0 ≤ S.scr ∧ S.scr ≤ 255
 off : -9223372036854775808 ≤ S.off ∧ S.off ≤ 9223372036854775807
 code : -9223372036854775808 ≤ S.code ∧ S.code ≤ 9223372036854775807
theorem yH {fuel : Nat} {cs : List Value} {y : DataW H × List MemPlace} (h : DataW.trod enc prog w base (fun _ => true) held fuel 35 cs = some y) (hz : ∀ q ∈ y.1.weights prog 35, q ≤ reachBytes) :
  ∃ (S : St) (ar ai ao : Option Addr) (cr ci co : Nat), cs = (stc S (.slice ar S.ram.length cr) (.slice ai S.inp.length ci) (.slice ao S.out.length co)).toList ∧ Bs S (.slice ar S.ram.length cr) (.slice ai S.inp.length ci) (.slice ao S.out.length co) w ∧ StW S ∧
   S.ram.length ≤ 140737488351232 ∧ S.inp.length ≤ 140737488351232 ∧ S.out.length ≤ 140737488351232 := by
 obtain ⟨xs, n, _, rfl, hl, hlen, hf⟩ := DataW.trod_struct underlying35 h
 rw [OI] at hl
 obtain ⟨v0, v1, v2, v3, v4, v5, v6, v7, v8, v9, v10, v11, v12, v13, v14, rfl⟩ := IT hl
 obtain ⟨y0, y1, y2, y3, y4, y5, y6, y7, y8, y9, y10, y11, y12, y13, y14, rfl⟩ := IT (show xs.length = 15 from hlen)
 have g0 : DataW.trod enc prog w base (fun _ => true) held n 32 [v0] = some y0 := by
  have := hf 0 _ rfl
  simpa [tH] using this
 have g1 : DataW.trod enc prog w base (fun _ => true) held n 33 [v1] = some y1 := by
  have := hf 1 _ rfl
  simpa [FM] using this
 have g2 : DataW.trod enc prog w base (fun _ => true) held n 22 [v2] = some y2 := by
  have := hf 2 _ rfl
  simpa [vC] using this
 have g3 : DataW.trod enc prog w base (fun _ => true) held n 22 [v3] = some y3 := by
  have := hf 3 _ rfl
  simpa [vC] using this
 have g4 : DataW.trod enc prog w base (fun _ => true) held n 4 [v4] = some y4 := by
  have := hf 4 _ rfl
  simpa [nG] using this
 have g5 : DataW.trod enc prog w base (fun _ => true) held n 4 [v5] = some y5 := by
  have := hf 5 _ rfl
  simpa [nG] using this
 have g6 : DataW.trod enc prog w base (fun _ => true) held n 5 [v6] = some y6 := by
  have := hf 6 _ rfl
  simpa [mO] using this
 have g7 : DataW.trod enc prog w base (fun _ => true) held n 5 [v7] = some y7 := by
  have := hf 7 _ rfl
  simpa [mO] using this
 have g8 : DataW.trod enc prog w base (fun _ => true) held n 5 [v8] = some y8 := by
  have := hf 8 _ rfl
  simpa [mO] using this
 have g9 : DataW.trod enc prog w base (fun _ => true) held n 5 [v9] = some y9 := by
  have := hf 9 _ rfl
  simpa [mO] using this
 have g10 : DataW.trod enc prog w base (fun _ => true) held n 4 [v10] = some y10 := by
  have := hf 10 _ rfl
  simpa [nG] using this
 have g11 : DataW.trod enc prog w base (fun _ => true) held n 32 [v11] = some y11 := by
  have := hf 11 _ rfl
  simpa [tH] using this
 have g12 : DataW.trod enc prog w base (fun _ => true) held n 32 [v12] = some y12 := by
  have := hf 12 _ rfl
  simpa [tH] using this
 have g13 : DataW.trod enc prog w base (fun _ => true) held n 3 [v13] = some y13 := by
  have := hf 13 _ rfl
  simpa [vB] using this
 have g14 : DataW.trod enc prog w base (fun _ => true) held n 3 [v14] = some y14 := by
  have := hf 14 _ rfl
  simpa [vB] using this
 have z0 : ∀ q ∈ y0.1.weights prog 32, q ≤ reachBytes := fun q hq => hz q (by
  simp only [DataW.weights, underlying35]
  exact DataW.weights_mem_each (j := 0) (t := 32) (d := y0.1) rfl rfl q hq)
 obtain ⟨l0, a0, c0, e0, b0, m0, n0⟩ := mI g0 z0
 subst e0
 obtain ⟨i1, e1, h1, w1⟩ := ZqI underlying33 g1
 simp only [List.cons.injEq, and_true] at e1
 subst e1
 obtain ⟨i2, e2, h2, w2⟩ := ZqI underlying22 g2
 simp only [List.cons.injEq, and_true] at e2
 subst e2
 obtain ⟨i3, e3, h3, w3⟩ := ZqI underlying22 g3
 simp only [List.cons.injEq, and_true] at e3
 subst e3
 obtain ⟨i4, e4, h4⟩ := DataW.trod_bool underlying4 g4
 simp only [List.cons.injEq, and_true] at e4
 subst e4
 obtain ⟨i5, e5, h5⟩ := DataW.trod_bool underlying4 g5
 simp only [List.cons.injEq, and_true] at e5
 subst e5
 obtain ⟨i6, e6, h6, w6⟩ := ZqI underlying5 g6
 simp only [List.cons.injEq, and_true] at e6
 subst e6
 obtain ⟨i7, e7, h7, w7⟩ := ZqI underlying5 g7
 simp only [List.cons.injEq, and_true] at e7
 subst e7
 obtain ⟨i8, e8, h8, w8⟩ := ZqI underlying5 g8
 simp only [List.cons.injEq, and_true] at e8
 subst e8
 obtain ⟨i9, e9, h9, w9⟩ := ZqI underlying5 g9
 simp only [List.cons.injEq, and_true] at e9
 subst e9
 obtain ⟨i10, e10, h10⟩ := DataW.trod_bool underlying4 g10
 simp only [List.cons.injEq, and_true] at e10
 subst e10
 have z11 : ∀ q ∈ y11.1.weights prog 32, q ≤ reachBytes := fun q hq => hz q (by
  simp only [DataW.weights, underlying35]
  exact DataW.weights_mem_each (j := 11) (t := 32) (d := y11.1) rfl rfl q hq)
 obtain ⟨l11, a11, c11, e11, b11, m11, n11⟩ := mI g11 z11
 subst e11
 have z12 : ∀ q ∈ y12.1.weights prog 32, q ≤ reachBytes := fun q hq => hz q (by
  simp only [DataW.weights, underlying35]
  exact DataW.weights_mem_each (j := 12) (t := 32) (d := y12.1) rfl rfl q hq)
 obtain ⟨l12, a12, c12, e12, b12, m12, n12⟩ := mI g12 z12
 subst e12
 obtain ⟨i13, e13, h13, w13⟩ := ZqI underlying3 g13
 simp only [List.cons.injEq, and_true] at e13
 subst e13
 obtain ⟨i14, e14, h14, w14⟩ := ZqI underlying3 g14
 simp only [List.cons.injEq, and_true] at e14
 subst e14
 have b1 := bounds_u32 w1
 have b2 := bounds_u64 w2
 have b3 := bounds_u64 w3
 have b6 := bounds_u8 w6
 have b7 := bounds_u8 w7
 have b8 := bounds_u8 w8
 have b9 := bounds_u8 w9
 have b13 := bounds_i64 w13
 have b14 := bounds_i64 w14
 refine ⟨⟨l0, i1, i2, i3, i4, i5, i6, i7, i8, i9, i10, l11, l12, i13, i14⟩, a0, a11, a12, c0, c11, c12, rfl, ⟨b0, b11, b12⟩, ⟨m0, m11, m12, ?_, ?_, ?_, ?_, ?_, ?_, ?_, ?_, ?_⟩, n0, n11, n12⟩
 ·exact ⟨by simpa using b1.1, by simpa using b1.2⟩
 ·exact ⟨by simpa using b2.1, by simpa using b2.2⟩
 ·exact ⟨by simpa using b3.1, by simpa using b3.2⟩
 ·exact ⟨by simpa using b6.1, by simpa using b6.2⟩
 ·exact ⟨by simpa using b7.1, by simpa using b7.2⟩
 ·exact ⟨by simpa using b8.1, by simpa using b8.2⟩
 ·exact ⟨by simpa using b9.1, by simpa using b9.2⟩
 ·exact ⟨by simpa using b13.1, by simpa using b13.2⟩
 ·exact ⟨by simpa using b14.1, by simpa using b14.2⟩
end
end Go.Proofs.YtddlmenfcbjoaaaGreatDoor
namespace Go.Proofs.YtddlmenfcbjoaaaGreatDoor
set_option linter.unusedVariables false
set_option maxRecDepth 100000
set_option maxHeartbeats 8000000
open Go.ChangeShapes Go.WideShapes Go.ChangeAt Go.RowKit Go.Deep Go.MuLone _root_.Go.Proofs.Tryz
def St.tel (S : St) (r : Nat) : Int × St := match r with
 | 0 => (match S.inp with | [] => (0, S) | x :: xs => (x, { S with inp := xs }))
 | 1 => (S.ier, S)
 | 2 => ((if kY S = true then 4 else 1), S)
 | 3 => (S.lcr, S)
 | 4 => (S.mcr, S)
 | 5 => (lY S, { S with ov := false })
 | 7 => (S.scr, S)
 | _ => (0, S)
def St.tak (S : St) (r : Nat) (v : Int) : St := match r with
 | 0 => S.sen (v % 256)
 | 1 => { S with ier := v % 16 }
 | 2 => if v / 2 % 2 = 1 then { S with inp := [] } else S
 | 3 => { S with lcr := v % 256 }
 | 4 => { S with mcr := v % 32 }
 | 7 => { S with scr := v % 256 }
 | _ => S
theorem CB (x : BitVec 64) : bits .and .u64 (n64 x) 2 = 2 * (n64 x / 2 % 2) := by
 have h : bits .and .u64 (n64 x) 2 = n64 (x &&& 2#64) := cQ x 2#64
 rw [h]
 unfold n64
 have h2 : (x &&& 2#64).toNat = 2 * (x.toNat / 2 % 2) := by
  rw [BitVec.toNat_and, show (2#64).toNat = 3 &&& 2 from rfl, ← Nat.and_assoc, show (3 : Nat) = 2 ^ 2 - 1 from rfl, Nat.and_two_pow_sub_one_eq_mod]
  have hm : x.toNat % 2 ^ 2 = 0 ∨ x.toNat % 2 ^ 2 = 1 ∨ x.toNat % 2 ^ 2 = 2 ∨ x.toNat % 2 ^ 2 = 3 := by omega
  rcases hm with e | e | e | e
  ·rw [e]; show 0 = _; omega
  ·rw [e]; show 0 = _; omega
  ·rw [e]; show 2 = _; omega
  ·rw [e]; show 2 = _; omega
 rw [h2]; omega
theorem RY {B : Nat} {L : Lay} {S : St} (w : World) (h : PB B L S w) (h64 : S.inp.length ≤ 64) (hb : fQ S.inp) (z : Int) : Calls prog 276 #[.pointer (some ⟨L.u, 0, none⟩), .int .u64 268435456, .int .i64 z] w fun e w' => e = .returned (.int .u64 (S.tel 0).1) ∧ ∃ L', PSt B L w L' (S.tel 0).2 w' := by
 have HT : Hid (0 ≤ (S.tel 0).1 ∧ (S.tel 0).1 ≤ 255 ∧ Calls prog 278 #[.pointer (some ⟨L.q, 0, none⟩)] w fun e w' => e = .returned (.int .u8 (S.tel 0).1) ∧ ∃ L', PSt B L w L' (S.tel 0).2 w') := by
  cases hi : S.inp with
  | nil =>
   have e : S.tel 0 = (0, S) := by simp only [St.tel, hi]
   rw [e]
   exact ⟨Int.le_refl _, by show (0 : Int) ≤ 255; omega, DW w h hi⟩
  | cons x xs =>
   have e : S.tel 0 = (x, { S with inp := xs }) := by simp only [St.tel, hi]
   rw [e]
   have hx := hb x (by rw [hi]; simp)
   exact ⟨hx.1, hx.2, DX w h x xs hi (by rw [hi] at h64; simp at h64; omega)⟩
 generalize (S.tel 0).1 = v at HT ⊢
 generalize (S.tel 0).2 = T at HT ⊢
 have u4 := h.cl.u4
 have HW : Hid (IntKind.u64.wrap v = v) := bI HT.out.1 (by have := HT.out.2.1; omega)
 clear h hb h64
 go_enter func276, ntmps276
 go_wp2_with (go_at_call 278; refine HT.out.2.2.mono ?_; rintro e w1 ⟨rfl, hx⟩; have HX : Hid _ := hx; clear hx)
 go_ret
 exact ⟨by first | (rw [← HW.out]; rfl) | (show Ending.returned (.int .u64 (IntKind.u64.wrap v)) = _; rw [HW.out]), HX.out⟩
theorem LR {B : Nat} {L : Lay} {S : St} (w : World) (h : PB B L S w) (z v : Int) : Calls prog 277 #[.pointer (some ⟨L.u, 0, none⟩), .int .u64 268435456, .int .i64 z, .int .u64 v] w fun e w' => e = .returned (.tuple #[]) ∧ ∃ L', PSt B L w L' (S.sen (v % 256)) w' := by
 have HS := ZI w h (v % 256)
 have HW : IntKind.u8.wrap v = v % 256 := by rw [IntKind.wrap_u8]
 generalize S.sen (v % 256) = T at HS ⊢
 generalize v % 256 = c at HS HW
 clear h
 go_enter func277, ntmps277
 go_wp2_with (go_at_call 281; refine HS.mono ?_; rintro e w1 ⟨rfl, hx⟩; have HX : Hid _ := hx; clear hx)
 go_end0
 exact ⟨rfl, HX.out⟩
theorem LT {B : Nat} {L : Lay} {S : St} (w : World) (h : PB B L S w) (z : Int) (x : BitVec 64) : Calls prog 277 #[.pointer (some ⟨L.u, 0, none⟩), .int .u64 268435458, .int .i64 z, .int .u64 (n64 x)] w fun e w' => e = .returned (.tuple #[]) ∧ ∃ L', PSt B L w L' (S.tak 2 (n64 x)) w' := by
 have HS := OR w h
 have u4 := h.cl.u4
 have HP := hid h
 have e2 := CB x
 by_cases hb : n64 x / 2 % 2 = 1
 ·have HT : Hid (S.tak 2 (n64 x) = { S with inp := [] }) := by unfold Hid St.tak; simp only; rw [if_pos hb]
  generalize S.tak 2 (n64 x) = T at HT ⊢
  rw [hb] at e2
  have e3 : bits .and .u64 (n64 x) 2 = 2 := e2
  clear h hb e2
  go_enter func277, ntmps277
  go_wp2_with (go_at_call 258; refine HS.mono ?_; rintro e w1 ⟨rfl, hp, hx⟩; have HX : Hid _ := hx; have HP1 : Hid _ := hp; clear hx hp)
  go_end0
  refine ⟨rfl, { L with vi := .slice none 0 0 }, ?_⟩
  rw [HT.out]
  exact ⟨HP1.out, HX.out, fun k hk => .inl (by unfold Lay.own at hk ⊢; simp only at hk; rcases hk with e | e | e | e | e | e | e | e | e | e | e <;> first | (simp [e]; done) | (cases e)), rfl, rfl, rfl, rfl⟩
 ·have HT : Hid (S.tak 2 (n64 x) = S) := by unfold Hid St.tak; simp only; rw [if_neg hb]
  generalize S.tak 2 (n64 x) = T at HT ⊢
  have e3 : bits .and .u64 (n64 x) 2 = 0 := by rw [e2]; have := bF x; omega
  clear h hb e2 HS
  go_enter func277, ntmps277
  go_wp2
  go_end0
  refine ⟨rfl, L, ?_⟩
  rw [HT.out]
  exact .quiet HP.out (ZqD _ _)
theorem jM {r : Nat} (h : r < 8) : r = 0 ∨ r = 1 ∨ r = 2 ∨ r = 3 ∨ r = 4 ∨ r = 5 ∨ r = 6 ∨ r = 7 := by omega
theorem yZ {B : Nat} {L : Lay} {S : St} (w : World) (h : PB B L S w) (hw : StW S) (h64 : S.inp.length ≤ 64) (r : Nat) (hr : r < 8) (z : Int) : Calls prog 276 #[.pointer (some ⟨L.u, 0, none⟩), .int .u64 (268435456 + (r : Int)), .int .i64 z] w fun e w' => e = .returned (.int .u64 (S.tel r).1) ∧ ∃ L', PSt B L w L' (S.tel r).2 w' := by
 rcases jM hr with rfl | rfl | rfl | rfl | rfl | rfl | rfl | rfl
 ·exact RY w h h64 hw.i z
 ·exact (RZ w h hw.ier z).mono fun e w' ⟨he, hw'⟩ => ⟨he, L, by rw [hw']; exact .quiet h (ZqD _ _)⟩
 ·exact (SA w h hw.ier z).mono fun e w' ⟨he, hb⟩ => ⟨he, L, .quiet h hb⟩
 ·exact (SB w h hw.lcr z).mono fun e w' ⟨he, hw'⟩ => ⟨he, L, by rw [hw']; exact .quiet h (ZqD _ _)⟩
 ·exact (SC w h hw.mcr z).mono fun e w' ⟨he, hw'⟩ => ⟨he, L, by rw [hw']; exact .quiet h (ZqD _ _)⟩
 ·exact (SD w h z).mono fun e w' ⟨he, hp, hx⟩ => ⟨he, L, .same hp hx⟩
 ·exact (SE _ w z).mono fun e w' ⟨he, hw'⟩ => ⟨he, L, by rw [hw']; exact .quiet h (ZqD _ _)⟩
 ·exact (SF w h hw.scr z).mono fun e w' ⟨he, hw'⟩ => ⟨he, L, by rw [hw']; exact .quiet h (ZqD _ _)⟩
theorem wW {B : Nat} {L : Lay} {S : St} (w : World) (h : PB B L S w) (r : Nat) (hr : r < 8) (z : Int) (x : BitVec 64) : Calls prog 277 #[.pointer (some ⟨L.u, 0, none⟩), .int .u64 (268435456 + (r : Int)), .int .i64 z, .int .u64 (n64 x)] w fun e w' => e = .returned (.tuple #[]) ∧ ∃ L', PSt B L w L' (S.tak r (n64 x)) w' := by
 rcases jM hr with rfl | rfl | rfl | rfl | rfl | rfl | rfl | rfl
 ·exact LR w h z (n64 x)
 ·exact (LS w h z (n64 x)).mono fun e w' ⟨he, hp, hx⟩ => ⟨he, L, .same hp hx⟩
 ·exact LT w h z x
 ·exact (LU w h z (n64 x)).mono fun e w' ⟨he, hp, hx⟩ => ⟨he, L, .same hp hx⟩
 ·exact (LV w h z (n64 x)).mono fun e w' ⟨he, hp, hx⟩ => ⟨he, L, .same hp hx⟩
 ·exact (LW _ w z (n64 x)).mono fun e w' ⟨he, hw'⟩ => ⟨he, L, by rw [hw']; exact .quiet h (ZqD _ _)⟩
 ·exact (LX _ w z (n64 x)).mono fun e w' ⟨he, hw'⟩ => ⟨he, L, by rw [hw']; exact .quiet h (ZqD _ _)⟩
 ·exact (LY w h z (n64 x)).mono fun e w' ⟨he, hp, hx⟩ => ⟨he, L, .same hp hx⟩
end Go.Proofs.YtddlmenfcbjoaaaGreatDoor
namespace Go.Proofs.YtddlmenfcbjoaaaGreatDoor
set_option linter.unusedVariables false
set_option maxRecDepth 100000
set_option maxHeartbeats 8000000
open Go.ChangeShapes Go.WideShapes Go.ChangeAt Go.RowKit Go.Deep _root_.Go.Proofs.Tryz
theorem nW {l cs : List Int} (k : Nat) (h : fQ l) (hc : fQ cs) : fQ (splice l k cs) := by
 intro x hx
 simp only [splice, List.mem_append] at hx
 rcases hx with hx | hx | hx
 ·exact h x (List.mem_of_mem_take hx)
 ·exact hc x hx
 ·exact h x (List.mem_of_mem_drop hx)
theorem yQ {α : Type} (l cs : List α) (k : Nat) (h : k + cs.length ≤ l.length) (j : Nat) : (splice l k cs)[j]? = if k ≤ j ∧ j < k + cs.length then cs[j - k]? else l[j]? := by
 unfold splice
 by_cases h1 : j < k
 ·rw [if_neg (by omega), List.getElem?_append_left (by simp; omega), List.getElem?_take_of_lt h1]
 ·rw [List.getElem?_append_right (by simp; omega)]
  have e : (l.take k).length = k := by simp; omega
  rw [e]
  by_cases h2 : j < k + cs.length
  ·rw [if_pos ⟨by omega, h2⟩, List.getElem?_append_left (by omega)]
  ·rw [if_neg (by omega), List.getElem?_append_right (by omega), List.getElem?_drop]
   congr 1
   omega
end Go.Proofs.YtddlmenfcbjoaaaGreatDoor
namespace Go.Proofs.YtddlmenfcbjoaaaGreatDoor
set_option linter.unusedVariables false
set_option maxRecDepth 100000
set_option maxHeartbeats 8000000
open Go.ChangeShapes Go.WideShapes Go.ChangeAt Go.RowKit Go.Deep Go.MuLone _root_.Go.Proofs.Tryz
def Cut (off s : Nat) : Prop := off = 0 ∧ s = 8 ∨ off = 0 ∧ s = 4 ∨ off = 4 ∧ s = 4
def prt (N off s : Nat) : Nat := tk (((ptL N 8).drop off).take s)
theorem nI (g : Nat) (b : Int) (x : BitVec 64) (off s : Nat) (hc : Cut off s) (hb : 0 ≤ b ∧ b ≤ 4294967296) (w : World) (c0 : w.cell? ⟨g, 0, none⟩ = some (.int .u64 b)) (c1 : w.cell? ⟨g, 1, none⟩ = some (.int .u64 (n64 x))) :
  Calls prog 272 #[.pointer (some ⟨g, 0, none⟩), .int .u64 (b + (off : Int)), .int .i64 s] w fun e w' => e = .returned (.int .u64 ((prt x.toNat off s : Nat) : Int)) ∧ Below w.heap.size w w' := by
 have HPT : Hid (∀ w1 : World, w1.heap.size = w.heap.size → Calls prog 264 #[.int .u64 (n64 x), .int .i64 8] w1 fun e w' => e = .returned (.slice (some ⟨w.heap.size, 0, none⟩) 8 8) ∧ w'.ownsRow w.heap.size 5 1 (.slice (some ⟨w.heap.size, 0, none⟩) 8 8) 8 (bv (ptL x.toNat 8)) ∧ Below w1.heap.size w1 w') := fun w1 hs => by
  have := pC x 8 w1
  rw [hs] at this ⊢
  exact this
 have HTK : Hid (∀ w1 : World, w1.ownsRow w.heap.size 5 1 (.slice (some ⟨w.heap.size, 0, none⟩) 8 8) 8 (bv (ptL x.toNat 8)) → Calls prog 262 #[.slice (some ⟨w.heap.size, off, none⟩) s (8 - off)] w1 fun e w' => e = .returned (.int .u64 ((prt x.toNat off s : Nat) : Int)) ∧ w' = w1) := fun w1 ho => by
  have hk : off + s ≤ 8 := by rcases hc with ⟨rfl, rfl⟩ | ⟨rfl, rfl⟩ | ⟨rfl, rfl⟩ <;> omega
  have h1 := zU ho off s hk
  have h2 : fQ (((ptL x.toNat 8).drop off).take s) := fun y hy => pB _ _ y (List.mem_of_mem_drop (List.mem_of_mem_take hy))
  exact qV h2 (by rw [List.length_take]; have := Nat.min_le_left s ((ptL x.toNat 8).drop off).length; omega) _ w1 h1
 generalize ((prt x.toNat off s : Nat) : Int) = R at HTK ⊢
 have hsub : IntKind.u64.wrap (b + (off : Int) - b) = (off : Int) := by
  rw [show b + (off : Int) - b = off by omega]
  exact bI (by omega) (by rcases hc with ⟨rfl, rfl⟩ | ⟨rfl, rfl⟩ | ⟨rfl, rfl⟩ <;> omega)
 have hlt : g < w.heap.size := World.block_lt_of_cell? w _ c0
 have HK : Hid (∀ w1, Below w.heap.size w w1 → w1.cell? ⟨g, 0, none⟩ = some (.int .u64 b) ∧ w1.cell? ⟨g, 1, none⟩ = some (.int .u64 (n64 x))) := fun w1 hb => ⟨(hb.cell hlt).trans c0, (hb.cell hlt).trans c1⟩
 have HK0 : Hid (w.drew.cell? ⟨g, 0, none⟩ = some (.int .u64 b) ∧ w.drew.cell? ⟨g, 1, none⟩ = some (.int .u64 (n64 x))) := ⟨c0, c1⟩
 obtain ⟨a, ha⟩ : ∃ a, a = b + (off : Int) := ⟨_, rfl⟩
 rw [← ha] at hsub ⊢
 clear ha hb
 rcases hc with ⟨rfl, rfl⟩ | ⟨rfl, rfl⟩ | ⟨rfl, rfl⟩
 ·have hsub0 : IntKind.u64.wrap (a - b) = 0 := hsub
  clear hsub
  go_enter func272, ntmps272
  go_wp2_with fail
  go_region_held3 (fun w' => w'.cell? ⟨g, 0, none⟩ = some (.int .u64 b) ∧ w'.cell? ⟨g, 1, none⟩ = some (.int .u64 (n64 x))) (first | exact HK0.out | exact HK.out _ HB1.out)
   (first | (go_at_call 264; refine (HPT.out _ (by first | rfl | simp)).mono ?_; rintro e w1 ⟨rfl, hown, hbel⟩; have HW1 := hid hown; have HB1 : Hid (Below w.heap.size w w1) := ⟨hbel.os, hbel.tape, hbel.output, hbel.size, hbel.block⟩; clear hown hbel) | (go_at_call 262; refine (HTK.out _ HW1.out).mono ?_; rintro e w2 ⟨rfl, hw⟩; have hw2 := hw.symm; subst hw2))
  all_goals go_wp2
  all_goals go_ret
  all_goals exact ⟨rfl, HB1.out⟩
 ·have hsub0 : IntKind.u64.wrap (a - b) = 0 := hsub
  clear hsub
  go_enter func272, ntmps272
  go_wp2_with fail
  go_region_held3 (fun w' => w'.cell? ⟨g, 0, none⟩ = some (.int .u64 b) ∧ w'.cell? ⟨g, 1, none⟩ = some (.int .u64 (n64 x))) (first | exact HK0.out | exact HK.out _ HB1.out)
   (first | (go_at_call 264; refine (HPT.out _ (by first | rfl | simp)).mono ?_; rintro e w1 ⟨rfl, hown, hbel⟩; have HW1 := hid hown; have HB1 : Hid (Below w.heap.size w w1) := ⟨hbel.os, hbel.tape, hbel.output, hbel.size, hbel.block⟩; clear hown hbel) | (go_at_call 262; refine (HTK.out _ HW1.out).mono ?_; rintro e w2 ⟨rfl, hw⟩; have hw2 := hw.symm; subst hw2))
  all_goals go_wp2
  all_goals go_ret
  all_goals exact ⟨rfl, HB1.out⟩
 ·have hsub0 : IntKind.u64.wrap (a - b) = 4 := hsub
  clear hsub
  go_enter func272, ntmps272
  go_wp2_with fail
  go_region_held3 (fun w' => w'.cell? ⟨g, 0, none⟩ = some (.int .u64 b) ∧ w'.cell? ⟨g, 1, none⟩ = some (.int .u64 (n64 x))) (first | exact HK0.out | exact HK.out _ HB1.out)
   (first | (go_at_call 264; refine (HPT.out _ (by first | rfl | simp)).mono ?_; rintro e w1 ⟨rfl, hown, hbel⟩; have HW1 := hid hown; have HB1 : Hid (Below w.heap.size w w1) := ⟨hbel.os, hbel.tape, hbel.output, hbel.size, hbel.block⟩; clear hown hbel) | (go_at_call 262; refine (HTK.out _ HW1.out).mono ?_; rintro e w2 ⟨rfl, hw⟩; have hw2 := hw.symm; subst hw2))
  all_goals go_wp2
  all_goals go_ret
  all_goals exact ⟨rfl, HB1.out⟩
def wrt (N off s M : Nat) : Nat := tk (splice (ptL N 8) off (ptL M s))
theorem ZA {w : World} {B g : Nat} {l : List Int} (h : w.ownsRow B 5 1 (.slice (some ⟨g, 0, none⟩) 8 8) 8 (bv l)) : w.heap[g]? = some (.cells (bv l).toArray 5 (0, 0)) := by
 rcases h.2 with ⟨h0, _⟩ | ⟨g', cap, cur, ev, _, hrow, _, _, hcs, htk⟩
 ·cases h0
 ·cases ev
  rw [hrow]
  have e : cur = (bv l).toArray := by
   apply Array.toList_inj.1
   rw [← htk]
   exact (List.take_of_length_le (by rw [Array.length_toList]; omega)).symm
  rw [e]
theorem byt8 {w : World} {g : Nat} {l : List Int} (hl : l.length = 8) (h : w.heap[g]? = some (.cells (bv l).toArray 5 (0, 0))) : Byt w (.slice (some ⟨g, 0, none⟩) 8 8) l := by
 refine ⟨some ⟨g, 0, none⟩, 8, by rw [hl], by omega, fun e => (by cases e), fun _ => ⟨g, 0, rfl, (Array.getElem?_eq_some_iff.1 h).1, fun j hj => ?_⟩⟩
 rw [ZqU, ZqP w g j _ _ _ h, List.getElem?_toArray]
 exact jU _ _ hj
theorem mE (g : Nat) (b : Int) (x y : BitVec 64) (off s : Nat) (hc : Cut off s) (hb : 0 ≤ b ∧ b ≤ 4294967296) (w : World) (hg : w.heap[g]? = some (.cells #[.int .u64 b, .int .u64 (n64 x)] 93 (0, 0))) :
  Calls prog 273 #[.pointer (some ⟨g, 0, none⟩), .int .u64 (b + (off : Int)), .int .i64 s, .int .u64 (n64 y)] w fun e w' => e = .returned (.tuple #[]) ∧ ∃ w1, Below w.heap.size w w1 ∧ w' = w1.setCell ⟨g, 1, none⟩ (.int .u64 ((wrt x.toNat off s y.toNat : Nat) : Int)) := by
 have c0 : w.cell? ⟨g, 0, none⟩ = some (.int .u64 b) := ZqP w g 0 _ _ _ hg
 have c1 : w.cell? ⟨g, 1, none⟩ = some (.int .u64 (n64 x)) := ZqP w g 1 _ _ _ hg
 have hlt : g < w.heap.size := (Array.getElem?_eq_some_iff.1 hg).1
 have HPT : Hid (Calls prog 264 #[.int .u64 (n64 x), .int .i64 8] w fun e w' => e = .returned (.slice (some ⟨w.heap.size, 0, none⟩) 8 8) ∧ w'.ownsRow w.heap.size 5 1 (.slice (some ⟨w.heap.size, 0, none⟩) 8 8) 8 (bv (ptL x.toNat 8)) ∧ Below w.heap.size w w') := pC x 8 w
 have hs8 : s ≤ 8 ∧ 0 < s ∧ off + s ≤ 8 := by rcases hc with ⟨rfl, rfl⟩ | ⟨rfl, rfl⟩ | ⟨rfl, rfl⟩ <;> omega
 have HPY : Hid (∀ w1 : World, Calls prog 264 #[.int .u64 (n64 y), .int .i64 s] w1 fun e w' => e = .returned (.slice (some ⟨w1.heap.size, 0, none⟩) s s) ∧ w'.ownsRow w1.heap.size 5 1 (.slice (some ⟨w1.heap.size, 0, none⟩) s s) s (bv (ptL y.toNat s)) ∧ Below w1.heap.size w1 w') := fun w1 => by
  have := pC y s w1
  rw [FS hs8.1] at this
  exact this
 have HTK : Hid (∀ w1 : World, w1.heap[w.heap.size]? = some (.cells (bv (splice (ptL x.toNat 8) off (ptL y.toNat s))).toArray 5 (0, 0)) → Calls prog 262 #[.slice (some ⟨w.heap.size, 0, none⟩) 8 8] w1 fun e w' => e = .returned (.int .u64 ((wrt x.toNat off s y.toNat : Nat) : Int)) ∧ w' = w1) := fun w1 ho => by
  have hl : (splice (ptL x.toNat 8) off (ptL y.toNat s)).length = 8 := by
   unfold splice
   simp only [List.length_append, List.length_take, List.length_drop, bW]
   omega
  exact qV (nW off (pB _ _) (pB _ _)) (by rw [hl]; omega) _ w1 (byt8 hl ho)
 generalize ((wrt x.toNat off s y.toNat : Nat) : Int) = R at HTK ⊢
 have hsub : IntKind.u64.wrap (b + (off : Int) - b) = (off : Int) := by
  rw [show b + (off : Int) - b = off by omega]
  exact bI (by omega) (by omega)
 have HG : Hid (∀ w1, Below w.heap.size w w1 → w1.cell? ⟨g, 0, none⟩ = some (.int .u64 b) ∧ w1.cell? ⟨g, 1, none⟩ = some (.int .u64 (n64 x)) ∧ w1.frozen? ⟨g, 1, none⟩ = false) := fun w1 hb => ⟨(hb.cell hlt).trans c0, (hb.cell hlt).trans c1, frozen_of_row w1 g 1 _ _ ((hb.block g hlt).trans hg)⟩
 have u8size : (prog.info? 5).map (·.size) = some 1 := by kernel_rfl
 obtain ⟨a, ha⟩ : ∃ a, a = b + (off : Int) := ⟨_, rfl⟩
 rw [← ha] at hsub ⊢
 clear ha hb hs8 hg
 rcases hc with ⟨rfl, rfl⟩ | ⟨rfl, rfl⟩ | ⟨rfl, rfl⟩
 ·have hsub0 : IntKind.u64.wrap (a - b) = 0 := hsub
  clear hsub
  go_enter func273, ntmps273
  go_upto_region 1 with (go_at_call 264; refine HPT.out.mono ?_; rintro e w1 ⟨rfl, hown, hbel⟩; have HW1 : Hid (w1.heap[w.heap.size]? = some (.cells (bv (ptL x.toNat 8)).toArray 5 (0, 0))) := ZA hown; have HB1 := hid hbel; clear hown hbel)
  have HZ1 : Hid (w.heap.size < w1.heap.size) := (Array.getElem?_eq_some_iff.1 HW1.out).1
  have HK0 : Hid (w1.drew.cell? ⟨g, 0, none⟩ = some (.int .u64 b)) := (HG.out w1 HB1.out).1
  clear c0 c1
  go_region_held3 (fun w' => w'.cell? ⟨g, 0, none⟩ = some (.int .u64 b)) (first | exact HK0.out | exact (HG.out _ HB3.out).1 | exact (HG.out _ HB2.out).1)
   (first | (go_at_call 264; refine (HPY.out _).mono ?_; rintro e w2 ⟨rfl, hown, hbel⟩; have HW2 := hid hown; have hb2 : Below w1.heap.size w1 w2 := ⟨hbel.os, hbel.tape, hbel.output, hbel.size, hbel.block⟩; have HB2 : Hid (Below w.heap.size w w2) := HB1.out.trans (hb2.mono HB1.out.size); have HR2 : Hid (w2.heap[w.heap.size]? = some (.cells (bv (ptL x.toNat 8)).toArray 5 (0, 0))) := (hb2.block _ HZ1.out).trans HW1.out; clear hown hbel hb2) | (refine step_copy_splice rfl (.tmp 21) (.tmp 24) 32 32 rfl 5 underlying32 u8size (some ⟨w.heap.size, 0, none⟩) (some ⟨w1.heap.size, 0, none⟩) 8 8 8 8 (by simp [Act.eval]) (by simp [Act.eval]) w.heap.size 0 (bv (ptL x.toNat 8)) 5 HR2.out (bv (ptL y.toNat 8)) (by rw [bY, bW]; decide) (fun _ => ⟨rfl, _, rfl, fun j v hj => World.ownsRow.cells HW2.out rfl j v hj⟩) (by rw [bY, bY, bW, bW]; decide) (by intro v hv; simp [bv] at hv; obtain ⟨q, _, rfl⟩ := hv; rfl) w.heap.size w HB2.out (ZqE _) ?_; intro w3 hr3 hb3; have HR3 : Hid _ := hr3; have HB3 : Hid (Below w.heap.size w w3) := hb3; clear hr3 hb3))
  all_goals
   have hc3 := (HG.out w3 HB3.out)
   obtain ⟨k0, k1, k2⟩ := hc3
   have HO3 : Hid (w3.heap[w.heap.size]? = some (.cells (bv (splice (ptL x.toNat 8) 0 (ptL y.toNat 8))).toArray 5 (0, 0))) := by unfold Hid; rw [lK]; exact HR3.out
   go_wp2_with (go_at_call 262; refine (HTK.out _ HO3.out).mono ?_; rintro e w4 ⟨rfl, hw⟩; have hw2 := hw.symm; subst hw2)
   go_end0
   exact ⟨rfl, w3, HB3.out, rfl⟩
 ·have hsub0 : IntKind.u64.wrap (a - b) = 0 := hsub
  clear hsub
  go_enter func273, ntmps273
  go_upto_region 1 with (go_at_call 264; refine HPT.out.mono ?_; rintro e w1 ⟨rfl, hown, hbel⟩; have HW1 : Hid (w1.heap[w.heap.size]? = some (.cells (bv (ptL x.toNat 8)).toArray 5 (0, 0))) := ZA hown; have HB1 := hid hbel; clear hown hbel)
  have HZ1 : Hid (w.heap.size < w1.heap.size) := (Array.getElem?_eq_some_iff.1 HW1.out).1
  have HK0 : Hid (w1.drew.cell? ⟨g, 0, none⟩ = some (.int .u64 b)) := (HG.out w1 HB1.out).1
  clear c0 c1
  go_region_held3 (fun w' => w'.cell? ⟨g, 0, none⟩ = some (.int .u64 b)) (first | exact HK0.out | exact (HG.out _ HB3.out).1 | exact (HG.out _ HB2.out).1)
   (first | (go_at_call 264; refine (HPY.out _).mono ?_; rintro e w2 ⟨rfl, hown, hbel⟩; have HW2 := hid hown; have hb2 : Below w1.heap.size w1 w2 := ⟨hbel.os, hbel.tape, hbel.output, hbel.size, hbel.block⟩; have HB2 : Hid (Below w.heap.size w w2) := HB1.out.trans (hb2.mono HB1.out.size); have HR2 : Hid (w2.heap[w.heap.size]? = some (.cells (bv (ptL x.toNat 8)).toArray 5 (0, 0))) := (hb2.block _ HZ1.out).trans HW1.out; clear hown hbel hb2) | (refine step_copy_splice rfl (.tmp 21) (.tmp 24) 32 32 rfl 5 underlying32 u8size (some ⟨w.heap.size, 0, none⟩) (some ⟨w1.heap.size, 0, none⟩) 8 8 4 4 (by simp [Act.eval]) (by simp [Act.eval]) w.heap.size 0 (bv (ptL x.toNat 8)) 5 HR2.out (bv (ptL y.toNat 4)) (by rw [bY, bW]; decide) (fun _ => ⟨rfl, _, rfl, fun j v hj => World.ownsRow.cells HW2.out rfl j v hj⟩) (by rw [bY, bY, bW, bW]; decide) (by intro v hv; simp [bv] at hv; obtain ⟨q, _, rfl⟩ := hv; rfl) w.heap.size w HB2.out (ZqE _) ?_; intro w3 hr3 hb3; have HR3 : Hid _ := hr3; have HB3 : Hid (Below w.heap.size w w3) := hb3; clear hr3 hb3))
  all_goals
   have hc3 := (HG.out w3 HB3.out)
   obtain ⟨k0, k1, k2⟩ := hc3
   have HO3 : Hid (w3.heap[w.heap.size]? = some (.cells (bv (splice (ptL x.toNat 8) 0 (ptL y.toNat 4))).toArray 5 (0, 0))) := by unfold Hid; rw [lK]; exact HR3.out
   go_wp2_with (go_at_call 262; refine (HTK.out _ HO3.out).mono ?_; rintro e w4 ⟨rfl, hw⟩; have hw2 := hw.symm; subst hw2)
   go_end0
   exact ⟨rfl, w3, HB3.out, rfl⟩
 ·have hsub0 : IntKind.u64.wrap (a - b) = 4 := hsub
  clear hsub
  go_enter func273, ntmps273
  go_upto_region 1 with (go_at_call 264; refine HPT.out.mono ?_; rintro e w1 ⟨rfl, hown, hbel⟩; have HW1 : Hid (w1.heap[w.heap.size]? = some (.cells (bv (ptL x.toNat 8)).toArray 5 (0, 0))) := ZA hown; have HB1 := hid hbel; clear hown hbel)
  have HZ1 : Hid (w.heap.size < w1.heap.size) := (Array.getElem?_eq_some_iff.1 HW1.out).1
  have HK0 : Hid (w1.drew.cell? ⟨g, 0, none⟩ = some (.int .u64 b)) := (HG.out w1 HB1.out).1
  clear c0 c1
  go_region_held3 (fun w' => w'.cell? ⟨g, 0, none⟩ = some (.int .u64 b)) (first | exact HK0.out | exact (HG.out _ HB3.out).1 | exact (HG.out _ HB2.out).1)
   (first | (go_at_call 264; refine (HPY.out _).mono ?_; rintro e w2 ⟨rfl, hown, hbel⟩; have HW2 := hid hown; have hb2 : Below w1.heap.size w1 w2 := ⟨hbel.os, hbel.tape, hbel.output, hbel.size, hbel.block⟩; have HB2 : Hid (Below w.heap.size w w2) := HB1.out.trans (hb2.mono HB1.out.size); have HR2 : Hid (w2.heap[w.heap.size]? = some (.cells (bv (ptL x.toNat 8)).toArray 5 (0, 0))) := (hb2.block _ HZ1.out).trans HW1.out; clear hown hbel hb2) | (refine step_copy_splice rfl (.tmp 21) (.tmp 24) 32 32 rfl 5 underlying32 u8size (some ⟨w.heap.size, 4, none⟩) (some ⟨w1.heap.size, 0, none⟩) 4 4 4 4 (by simp [Act.eval]) (by simp [Act.eval]) w.heap.size 4 (bv (ptL x.toNat 8)) 5 HR2.out (bv (ptL y.toNat 4)) (by rw [bY, bW]; decide) (fun _ => ⟨rfl, _, rfl, fun j v hj => World.ownsRow.cells HW2.out rfl j v hj⟩) (by rw [bY, bY, bW, bW]; decide) (by intro v hv; simp [bv] at hv; obtain ⟨q, _, rfl⟩ := hv; rfl) w.heap.size w HB2.out (ZqE _) ?_; intro w3 hr3 hb3; have HR3 : Hid _ := hr3; have HB3 : Hid (Below w.heap.size w w3) := hb3; clear hr3 hb3))
  all_goals
   have hc3 := (HG.out w3 HB3.out)
   obtain ⟨k0, k1, k2⟩ := hc3
   have HO3 : Hid (w3.heap[w.heap.size]? = some (.cells (bv (splice (ptL x.toNat 8) 4 (ptL y.toNat 4))).toArray 5 (0, 0))) := by unfold Hid; rw [lK]; exact HR3.out
   go_wp2_with (go_at_call 262; refine (HTK.out _ HO3.out).mono ?_; rintro e w4 ⟨rfl, hw⟩; have hw2 := hw.symm; subst hw2)
   go_end0
   exact ⟨rfl, w3, HB3.out, rfl⟩
end Go.Proofs.YtddlmenfcbjoaaaGreatDoor
namespace Go.Proofs.YtddlmenfcbjoaaaGreatDoor
set_option linter.unusedVariables false
set_option maxRecDepth 100000
set_option maxHeartbeats 8000000
open Go.ChangeShapes Go.WideShapes Go.ChangeAt Go.RowKit Go.Deep _root_.Go.Proofs.Tryz
theorem WH (n : Nat) (a z : Int) : fnd n a z ≤ 6 := by
 unfold fnd
 repeat' split
 all_goals omega
end Go.Proofs.YtddlmenfcbjoaaaGreatDoor
namespace Go.Proofs.YtddlmenfcbjoaaaGreatDoor
set_option linter.unusedVariables false
set_option maxRecDepth 100000
set_option maxHeartbeats 8000000
open Go.ChangeShapes Go.WideShapes Go.ChangeAt Go.RowKit Go.Deep Go.MuLone _root_.Go.Proofs.Tryz
theorem LP (N : Nat) : tk (ptL N 4) = N % 4294967296 := by
 unfold tk
 rw [bW, show min 4 8 = 4 from rfl, yW N 4 4 (ZqE _)]
theorem QN (N : Nat) (h : N < 18446744073709551616) : prt N 0 8 = N := by
 have e : (((ptL N 8).drop 0).take 8) = ptL N 8 := rfl
 unfold prt; rw [e]; exact uI N 8 rfl h
theorem QO (N : Nat) : prt N 0 4 = N % 4294967296 := by
 have e : (((ptL N 8).drop 0).take 4) = ptL N 4 := rfl
 unfold prt; rw [e]; exact LP N
theorem KD (N : Nat) (h : N < 18446744073709551616) : prt N 4 4 = N / 4294967296 := by
 have e : (((ptL N 8).drop 4).take 4) = ptL (N / 4294967296) 4 := by
  show [((N / 256 ^ 4 % 256 : Nat) : Int), ((N / 256 ^ 5 % 256 : Nat) : Int), ((N / 256 ^ 6 % 256 : Nat) : Int), ((N / 256 ^ 7 % 256 : Nat) : Int)] = [((N / 4294967296 / 256 ^ 0 % 256 : Nat) : Int), ((N / 4294967296 / 256 ^ 1 % 256 : Nat) : Int), ((N / 4294967296 / 256 ^ 2 % 256 : Nat) : Int), ((N / 4294967296 / 256 ^ 3 % 256 : Nat) : Int)]
  simp only [List.cons.injEq, and_true]
  refine ⟨?_, ?_, ?_, ?_⟩ <;> omega
 unfold prt; rw [e, LP]; omega
theorem SZ (N M : Nat) (h : M < 18446744073709551616) : wrt N 0 8 M = M := by
 have e : splice (ptL N 8) 0 (ptL M 8) = ptL M 8 := rfl
 unfold wrt; rw [e]; exact uI M 8 rfl h
theorem TA (N M : Nat) (h : N < 18446744073709551616) : wrt N 0 4 M = N / 4294967296 * 4294967296 + M % 4294967296 := by
 have e : splice (ptL N 8) 0 (ptL M 4) = ptL (N / 4294967296 * 4294967296 + M % 4294967296) 8 := by
  generalize hK : N / 4294967296 * 4294967296 + M % 4294967296 = K
  show [((M / 256 ^ 0 % 256 : Nat) : Int), ((M / 256 ^ 1 % 256 : Nat) : Int), ((M / 256 ^ 2 % 256 : Nat) : Int), ((M / 256 ^ 3 % 256 : Nat) : Int), ((N / 256 ^ 4 % 256 : Nat) : Int), ((N / 256 ^ 5 % 256 : Nat) : Int), ((N / 256 ^ 6 % 256 : Nat) : Int), ((N / 256 ^ 7 % 256 : Nat) : Int)] = [((K / 256 ^ 0 % 256 : Nat) : Int), ((K / 256 ^ 1 % 256 : Nat) : Int), ((K / 256 ^ 2 % 256 : Nat) : Int), ((K / 256 ^ 3 % 256 : Nat) : Int), ((K / 256 ^ 4 % 256 : Nat) : Int), ((K / 256 ^ 5 % 256 : Nat) : Int), ((K / 256 ^ 6 % 256 : Nat) : Int), ((K / 256 ^ 7 % 256 : Nat) : Int)]
  simp only [List.cons.injEq, and_true]
  refine ⟨?_, ?_, ?_, ?_, ?_, ?_, ?_, ?_⟩ <;> omega
 unfold wrt; rw [e]; exact uI _ 8 rfl (by omega)
theorem MP (N M : Nat) : wrt N 4 4 M = M % 4294967296 * 4294967296 + N % 4294967296 := by
 have e : splice (ptL N 8) 4 (ptL M 4) = ptL (M % 4294967296 * 4294967296 + N % 4294967296) 8 := by
  generalize hK : M % 4294967296 * 4294967296 + N % 4294967296 = K
  show [((N / 256 ^ 0 % 256 : Nat) : Int), ((N / 256 ^ 1 % 256 : Nat) : Int), ((N / 256 ^ 2 % 256 : Nat) : Int), ((N / 256 ^ 3 % 256 : Nat) : Int), ((M / 256 ^ 0 % 256 : Nat) : Int), ((M / 256 ^ 1 % 256 : Nat) : Int), ((M / 256 ^ 2 % 256 : Nat) : Int), ((M / 256 ^ 3 % 256 : Nat) : Int)] = [((K / 256 ^ 0 % 256 : Nat) : Int), ((K / 256 ^ 1 % 256 : Nat) : Int), ((K / 256 ^ 2 % 256 : Nat) : Int), ((K / 256 ^ 3 % 256 : Nat) : Int), ((K / 256 ^ 4 % 256 : Nat) : Int), ((K / 256 ^ 5 % 256 : Nat) : Int), ((K / 256 ^ 6 % 256 : Nat) : Int), ((K / 256 ^ 7 % 256 : Nat) : Int)]
  simp only [List.cons.injEq, and_true]
  refine ⟨?_, ?_, ?_, ?_, ?_, ?_, ?_, ?_⟩ <;> omega
 unfold wrt; rw [e]; exact uI _ 8 rfl (by omega)
end Go.Proofs.YtddlmenfcbjoaaaGreatDoor
