/-
  The queue's take; the console's send; the data register.
-/
import Derived.Test.YtghiabdkgfhdbaaBxa
import Derived.Deep.RegionHeld3
import Derived.Deep.CutRange
namespace Go.Proofs.Ytghiabdkgfhdbaa
set_option linter.unusedVariables false
open Go.ChangeShapes Go.WideShapes Go.ChangeAt Go.RowKit Go.Deep Go.MuLone
set_option maxHeartbeats 1000000 in
theorem take_none {B : Nat} {L : Lay} {S : St} (w : World) (h : PB B L S w) (hi : S.inp = []) : Calls Try.prog 117 #[.pointer (some ⟨L.q, 0, none⟩)] w fun e w' => e = .returned (.int .u8 0) ∧ ∃ L', PSt B L w L' S w' := by
  obtain ⟨c0, f0⟩ := h.locked
  obtain ⟨w1, hw1⟩ : ∃ w1, w1 = w.setCell ⟨L.q, 0, none⟩ (.int .i32 1) := ⟨_, rfl⟩
  have hq1 : w1.heap[L.q]? = some (.cells #[.int .i32 1, .int .u32 0, L.vi, .bool S.ov] 109 (0, 0)) := by rw [hw1]; exact heap_setCell_same w L.q 0 _ _ _ h.hq
  have d2 : w1.cell? ⟨L.q, 2, none⟩ = some L.vi := cell_of_row w1 L.q 2 _ _ _ hq1
  have HLK := (lock_free muLib ⟨L.q, 0, none⟩ w c0 f0)
  rw [← hw1] at HLK
  have HQ2 : Hid (w1.heap[L.q]? = some (.cells #[.int .i32 1, .int .u32 0, L.vi, .bool S.ov] 109 (0, 0))) := hq1
  have HW : Hid (Below w.heap.size w (w1.setCell ⟨L.q, 0, none⟩ (.int .i32 0))) := below_back h.hq rfl hw1 (Below.refl _ _) rfl
  have HP : Hid (PB B L S w) := h
  obtain ⟨ai, ci, ei, _⟩ := Byt.of_own h.wi
  rw [hi] at ei
  rw [ei] at d2
  have d2' : w1.cell? ⟨L.q, 2, none⟩ = some (.slice ai 0 ci) := d2
  clear hw1 hq1 h ei d2 hi
  go_enter_defers Try.func117, Try.ntmps117
  go_wp2_with (go_at_call 51; refine HLK.mono ?_; rintro e w' ⟨rfl, rfl⟩)
  refine leaves_cons (f := 52) (args := #[.pointer (some ⟨L.q, 0, none⟩)]) (by simp) (by simp [go_sem]) ?_
  refine (unlock_deferred muLib ⟨L.q, 0, none⟩ .returning _ ?_ ?_).mono ?_
  · exact cell_of_row _ L.q 0 _ _ _ HQ2.out
  · exact frozen_of_row _ L.q 0 _ _ HQ2.out
  rintro e u' w3 ⟨rfl, rfl, hw3⟩
  refine ⟨_, results_tmp rfl _ _ _, rfl, L, ?_⟩
  rw [hw3]
  exact .quiet HP.out HW.out
/-- Behind the lock: an append onto the queue's row, its cell written, the lock free again. -/
theorem queue_end {B : Nat} {L : Lay} {S : St} {w w1 w2 w3 w4 : World} {x v v' : Value} {l : List Int} {ov : Bool} (h : PB B L S w) (hx : Exc (fun k => k = L.q ∨ L.vi.ownBlock = some k) w w1)
    (hq1 : w1.heap[L.q]? = some (.cells #[.int .i32 1, .int .u32 0, x, .bool ov] 109 (0, 0))) (hvq : ∀ k, v.ownBlock = some k → k ≠ L.q) (hvi : ∀ k, v.ownBlock = some k → L.vi.ownBlock = some k)
    (ho : w2.ownsRow B 5 1 v' l.length (bv l)) (hg : w1.grownBy w2 v.ownBlock) (hloc : v'.ownBlock = v.ownBlock ∨ v'.ownBlock = some w1.heap.size)
    (h3 : w3 = w2.setCell ⟨L.q, 2, none⟩ v') (h4 : w4 = w3.setCell ⟨L.q, 0, none⟩ (.int .i32 0)) : ∃ L', PSt B L w L' { S with inp := l, ov := ov } w4 := by
  have hlt : L.q < w1.heap.size := (Array.getElem?_eq_some_iff.1 hq1).1
  have hq2 : w2.heap[L.q]? = some (.cells #[.int .i32 1, .int .u32 0, x, .bool ov] 109 (0, 0)) := by
    rw [hg.block L.q hlt (fun e => hvq L.q e.symm rfl)]; exact hq1
  have hq3 : w3.heap[L.q]? = some (.cells #[.int .i32 1, .int .u32 0, v', .bool ov] 109 (0, 0)) := by rw [h3]; exact heap_setCell_same _ L.q 2 _ _ _ hq2
  have hq4 : w4.heap[L.q]? = some (.cells #[.int .i32 0, .int .u32 0, v', .bool ov] 109 (0, 0)) := by rw [h4]; exact heap_setCell_same _ L.q 0 _ _ _ hq3
  have x2 : Exc (fun k => k = L.q ∨ L.vi.ownBlock = some k) w1 w2 := ⟨hg.os, hg.tape, hg.output, hg.size, fun k hk hne => hg.block k hk (fun e => hne (.inr (hvi k e.symm)))⟩
  have x4 : Exc (fun k => k = L.q ∨ L.vi.ownBlock = some k) w w4 := by
    rw [h4, h3]
    exact ((hx.trans x2).set L.q 2 _ (.inl rfl)).set L.q 0 _ (.inl rfl)
  have o3 : w3.ownsRow B 5 1 v' l.length (bv l) := by rw [h3]; exact own_apart_set ho hq2 (by decide)
  have o4 : w4.ownsRow B 5 1 v' l.length (bv l) := by rw [h4]; exact own_apart_set o3 hq3 (by decide)
  refine ⟨_, h.queue x4 v' l ov hq4 o4 (fun k hk => ?_)⟩
  rcases hloc with e | e
  · exact .inl (hvi k (by rw [← e]; exact hk))
  · right
    have e2 : k = w1.heap.size := by rw [hk] at e; exact Option.some.inj e
    rw [e2]; exact hx.size
set_option maxRecDepth 100000 in
set_option maxHeartbeats 2000000 in
theorem take_some {B : Nat} {L : Lay} {S : St} (w : World) (h : PB B L S w) (x : Int) (xs : List Int) (hi : S.inp = x :: xs) (h64 : xs.length ≤ 64) : Calls Try.prog 117 #[.pointer (some ⟨L.q, 0, none⟩)] w fun e w' => e = .returned (.int .u8 x) ∧ ∃ L', PSt B L w L' { S with inp := xs } w' := by
  obtain ⟨c0, f0⟩ := h.locked
  obtain ⟨w1, hw1⟩ : ∃ w1, w1 = w.setCell ⟨L.q, 0, none⟩ (.int .i32 1) := ⟨_, rfl⟩
  have hq1 : w1.heap[L.q]? = some (.cells #[.int .i32 1, .int .u32 0, L.vi, .bool S.ov] 109 (0, 0)) := by rw [hw1]; exact heap_setCell_same w L.q 0 _ _ _ h.hq
  have hwi := h.wi
  rw [hi] at hwi
  rcases hwi.2 with ⟨_, h0⟩ | ⟨g, cap, cur, ev, hBg, hrow, hnc, hcm, hcs, htk⟩
  · simp at h0
  have hvi : L.vi.ownBlock = some g := by rw [ev]; rfl
  have hgq : g ≠ L.q := own_ne_row h.wi h.hq (by decide) g hvi
  have hrow1 : w1.heap[g]? = some (.cells cur 5 (0, 0)) := by rw [hw1]; exact (heap_setCell_other w _ g _ hgq).trans hrow
  have hn : xs.length + 1 ≤ cap := by simpa using hnc
  have hcell : ∀ j u, (bv (x :: xs))[j]? = some u → w1.cell? ⟨g, j, none⟩ = some u := fun j u hj => by
    rw [cell_of_row w1 g j _ _ _ hrow1, ← Array.getElem?_toList]
    rw [← htk] at hj
    rw [List.getElem?_take] at hj
    split at hj
    · exact hj
    · cases hj
  have e0 : w1.cell? ⟨g, 0, none⟩ = some (.int .u8 x) := hcell 0 _ rfl
  obtain ⟨ad, hca, hby⟩ : ∃ ad : Addr, (if cap = 1 then some (⟨g, 0, none⟩ : Addr) else some ⟨g, 1, none⟩) = some ad ∧ Byt w1 (.slice (some ad) xs.length (cap - 1)) xs := by
    by_cases hc1 : cap = 1
    · have hx0 : xs = [] := List.eq_nil_of_length_eq_zero (by omega)
      subst hx0
      exact ⟨⟨g, 0, none⟩, by rw [if_pos hc1], some ⟨g, 0, none⟩, cap - 1, rfl, Nat.zero_le _, fun e => (by cases e), fun e => absurd rfl e⟩
    · refine ⟨⟨g, 1, none⟩, by rw [if_neg hc1], some ⟨g, 1, none⟩, cap - 1, rfl, by omega, fun e => (by cases e), fun _ => ⟨g, 1, rfl, (Array.getElem?_eq_some_iff.1 hrow1).1, fun j hj => ?_⟩⟩
      rw [Nat.add_comm]
      exact hcell (j + 1) _ (by rw [bv_get _ _ (by simp; omega)]; simp)
  have HC : Hid (∀ j u, (bv xs)[j]? = some u → w1.cell? (ad.add j) = some u) := fun j u hj => by
    have hjl : j < xs.length := by have := (List.getElem?_eq_some_iff.1 hj).1; rwa [bv_length] at this
    obtain ⟨a2, c2, e2, _, _, h2⟩ := hby
    obtain ⟨g2, off, ea, _, h4⟩ := h2 (fun e => by rw [e] at hjl; simp at hjl)
    cases e2
    cases ea
    rw [bv_get _ _ hjl] at hj
    cases hj
    rw [addAt]
    exact h4 j hjl
  obtain ⟨R, hR⟩ : ∃ R, R = (bv xs ++ cur.toList.drop xs.length).toArray := ⟨_, rfl⟩
  have HR : Hid (R = (bv xs ++ cur.toList.drop xs.length).toArray) := hR
  have HRW : Hid (w1.heap[g]? = some (.cells cur 5 (0, 0))) := hrow1
  have HN : Hid (xs.length ≤ cap ∧ xs.length ≤ cur.size) := ⟨by omega, by omega⟩
  have hq2 : (w1.drew.setRow g R).heap[L.q]? = some (.cells #[.int .i32 1, .int .u32 0, L.vi, .bool S.ov] 109 (0, 0)) := (setRow_other w1.drew g R L.q (fun e => hgq e.symm)).trans hq1
  have d3 := cell_of_row _ L.q 2 _ _ _ hq2
  have g3 := frozen_of_row _ L.q 2 _ _ hq2
  have HQ2 : Hid ((w1.drew.setRow g R).heap[L.q]? = some (.cells #[.int .i32 1, .int .u32 0, L.vi, .bool S.ov] 109 (0, 0))) := hq2
  have HO : Hid ((w1.drew.setRow g R).ownsRow B 5 1 (.slice (some ⟨g, 0, none⟩) xs.length cap) xs.length (bv xs)) := by
    have hRs : R.size = cap := by rw [hR]; simp [bv]; omega
    have hRt : R.toList.take (xs.length * 1) = bv xs := by
      rw [hR, Nat.mul_one]
      have : (bv xs).length = xs.length := bv_length xs
      rw [show (bv xs ++ cur.toList.drop xs.length).toArray.toList = bv xs ++ cur.toList.drop xs.length from rfl, ← this, List.take_left]
    exact ⟨by rw [bv_length, Nat.mul_one], .inr ⟨g, cap, R, rfl, hBg, setRow_heap w1.drew g cur _ _ _ hrow1, by omega, hcm, by omega, hRt⟩⟩
  have HGB : Hid (World.grownBy w1 (w1.drew.setRow g R) (some g)) := ⟨rfl, rfl, rfl, by rw [size_setRow]; exact Nat.le_refl _, fun k hk hne => setRow_other w1.drew g R k (fun e => hne (by rw [e]))⟩
  clear hq2
  have HOW : Hid (w1.ownsRow B 5 1 (.slice (some ⟨g, 0, none⟩) 0 cap) ([] : List Int).length (bv [])) := ⟨by simp [bv], .inr ⟨g, cap, cur, rfl, hBg, hrow1, Nat.zero_le _, hcm, hcs, by simp [bv]⟩⟩
  have HBL : Hid (B ≤ w1.heap.size) := by
    have h1 := (Array.getElem?_eq_some_iff.1 hrow1).1
    unfold Hid; omega
  rw [ev] at hq1
  have d2 : w1.cell? ⟨L.q, 2, none⟩ = some (.slice (some ⟨g, 0, none⟩) (xs.length + 1) cap) := cell_of_row w1 L.q 2 _ _ _ hq1
  have HLK := (lock_free muLib ⟨L.q, 0, none⟩ w c0 f0)
  rw [← hw1] at HLK
  have HQ1 : Hid (w1.heap[L.q]? = some (.cells #[.int .i32 1, .int .u32 0, .slice (some ⟨g, 0, none⟩) (xs.length + 1) cap, .bool S.ov] 109 (0, 0))) := hq1
  have HGQ : Hid (g ≠ L.q) := hgq
  have HX : Hid (Exc (fun k => k = L.q ∨ L.vi.ownBlock = some k) w w1) := by unfold Hid; rw [hw1]; exact (Exc.refl _ w).set L.q 0 _ (.inl rfl)
  have HP : Hid (PB B L S w ∧ L.vi.ownBlock = some g) := ⟨h, hvi⟩
  have n1 : (1 : Int) ≤ (xs.length : Int) + 1 := by omega
  have n2 : ¬ ((xs.length : Int) + 1 = 0) := by omega
  have n3 : (xs.length : Int) + 1 ≤ (cap : Int) := by omega
  clear hw1 hq1 hwi hrow hnc hcm hcs htk hgq hrow1 hcell hBg ev hi h c0 f0 hn hby hvi hR
  go_enter_defers Try.func117, Try.ntmps117
  go_wp2_with (go_at_call 51; refine HLK.mono ?_; rintro e w' ⟨rfl, rfl⟩)
  refine wp_region_noPanic ?_
  go_region_law (refine step_app_row rfl (.tmp 28) (.tmp 33) rfl g cap cur (by simp [Act.eval, Act.put]) HRW.out ad xs.length (cap - 1) xs (by simp [Act.eval, Act.put]) rfl HC.out HN.out.1 HN.out.2 ?_; rw [← HR.out])
  all_goals
    refine NoPanic.normal ?_
    go_wp2
    refine leaves_cons (f := 52) (args := #[.pointer (some ⟨L.q, 0, none⟩)]) (by simp) (by simp [go_sem]) ?_
    have hq3 := heap_setCell_same _ L.q 2 _ _ (.slice (some ⟨g, 0, none⟩) xs.length cap) HQ2.out
    refine (unlock_deferred muLib ⟨L.q, 0, none⟩ .returning _ ?_ ?_).mono ?_
    · exact cell_of_row _ L.q 0 _ _ _ hq3
    · exact frozen_of_row _ L.q 0 _ _ hq3
    rintro e u' w3 ⟨rfl, rfl, hw3⟩
    refine ⟨_, results_tmp rfl _ _ _, rfl, ?_⟩
    exact queue_end HP.out.1 HX.out HQ1.out (v := .slice (some ⟨g, 0, none⟩) 0 cap) (fun k hk => by cases hk; exact HGQ.out) (fun k hk => by cases hk; exact HP.out.2) HO.out HGB.out (.inl rfl) rfl hw3
/-- The queue's join: what there is room for. -/
def St.joi (S : St) (l : List Int) : St := { S with inp := S.inp ++ l.take (64 - S.inp.length), ov := S.ov || decide (64 < S.inp.length + l.length) }
set_option maxRecDepth 100000 in
set_option maxHeartbeats 2000000 in
theorem join_c {B : Nat} {L : Lay} {S : St} (w : World) (h : PB B L S w) (v : Value) (l : List Int) (hv : Byt w v l) (hl : l.length ≤ 140737488351232) (h64 : S.inp.length ≤ 64) (hap : ∀ g off n c, v = .slice (some ⟨g, off, none⟩) n c → g ≠ L.q) :
    Calls Try.prog 31 #[.pointer (some ⟨L.q, 0, none⟩), v] w fun e w' => e = .returned (.tuple #[]) ∧ ∃ L', PSt B L w L' (S.joi l) w' := by
  obtain ⟨c0, f0⟩ := h.locked
  obtain ⟨w1, hw1⟩ : ∃ w1, w1 = w.setCell ⟨L.q, 0, none⟩ (.int .i32 1) := ⟨_, rfl⟩
  have hq1 : w1.heap[L.q]? = some (.cells #[.int .i32 1, .int .u32 0, L.vi, .bool S.ov] 109 (0, 0)) := by rw [hw1]; exact heap_setCell_same w L.q 0 _ _ _ h.hq
  have x1 : Exc (fun k => k = L.q) w w1 := by rw [hw1]; exact (Exc.refl _ w).set L.q 0 _ rfl
  have HV1 : Hid (Byt w1 v l) := hv.exc x1 hap
  have HOW : Hid (w1.ownsRow B 5 1 L.vi S.inp.length (bv S.inp)) := own_exc h.wi x1 (fun k hk e => own_ne_row h.wi h.hq (by decide) k hk e)
  have HBL : Hid (B ≤ w1.heap.size) := by
    have h1 := (Array.getElem?_eq_some_iff.1 hq1).1
    have h2 := h.lq
    unfold Hid; omega
  have d2 : w1.cell? ⟨L.q, 2, none⟩ = some L.vi := cell_of_row w1 L.q 2 _ _ _ hq1
  have HLK := (lock_free muLib ⟨L.q, 0, none⟩ w c0 f0)
  rw [← hw1] at HLK
  have HQ1 : Hid (w1.heap[L.q]? = some (.cells #[.int .i32 1, .int .u32 0, L.vi, .bool S.ov] 109 (0, 0))) := hq1
  have HVQ : Hid (∀ k, L.vi.ownBlock = some k → k ≠ L.q) := fun k hk => own_ne_row h.wi h.hq (by decide) k hk
  have HX : Hid (Exc (fun k => k = L.q ∨ L.vi.ownBlock = some k) w w1) := x1.mono (fun k e => .inl e)
  have HP : Hid (PB B L S w) := h
  obtain ⟨ai, ci, ei, _⟩ := Byt.of_own h.wi
  obtain ⟨av, cv, ev, hcv, hcv0, hcl⟩ := hv
  have HEI : Hid (L.vi = .slice ai S.inp.length ci) := ei
  rw [ei] at d2
  subst ev
  by_cases hroom : S.inp.length + l.length ≤ 64
  · have n1 : ¬ (64 - (S.inp.length : Int) < (l.length : Int)) := by omega
    have HT : Hid (S.joi l = { S with inp := S.inp ++ l, ov := S.ov }) := by
      unfold Hid St.joi
      rw [List.take_of_length_le (by omega), decide_eq_false (by omega), Bool.or_false]
    generalize S.joi l = T at HT ⊢
    have HLL : Hid (S.inp.length + l.length ≤ 140737488355328) := by unfold Hid; omega
    clear hw1 hq1 x1 h c0 f0 ei hcv hcv0 hcl hap hroom
    go_enter_defers Try.func31, Try.ntmps31
    go_wp2_with (first | (go_at_call 51; refine HLK.mono ?_; rintro e w' ⟨rfl, hw⟩; have hw2 := hw.symm; subst hw2) | (at_builtin; refine appA (by rfl) _ _ (by rfl) B L.vi _ S.inp l (by exact HEI.out.symm) HOW.out (by rfl) HV1.out HLL.out HBL.out ?_; intro v' w2 ho hg hl2; obtain ⟨a9, c9, e9, _⟩ := Byt.of_own ho; obtain ⟨n9, hn9⟩ : ∃ n, n = (S.inp ++ l).length := ⟨_, rfl⟩; rw [← hn9] at e9; clear hn9; subst e9; have HO : Hid (w2.ownsRow B 5 1 (.slice a9 n9 c9) (S.inp ++ l).length (bv (S.inp ++ l))) := ho; have HG : Hid (World.grownBy w1 w2 L.vi.ownBlock) := hg; have HL : Hid ((Value.slice a9 n9 c9).ownBlock = L.vi.ownBlock ∨ (Value.slice a9 n9 c9).ownBlock = some w1.heap.size) := hl2; have hq2 := (HG.out.block L.q (Array.getElem?_eq_some_iff.1 HQ1.out).1 (fun e => HVQ.out _ e.symm rfl)).trans HQ1.out; have d3 := cell_of_row w2 L.q 2 _ _ _ hq2; have g3 := frozen_of_row w2 L.q 2 _ _ hq2; have HQ2 : Hid (w2.heap[L.q]? = some (.cells #[.int .i32 1, .int .u32 0, L.vi, .bool S.ov] 109 (0, 0))) := hq2; clear ho hg hl2 hq2))
    refine leaves_cons (f := 52) (args := #[.pointer (some ⟨L.q, 0, none⟩)]) (by simp) (by simp [go_sem]) ?_
    have hq3 := heap_setCell_same _ L.q 2 _ _ (.slice a9 n9 c9) HQ2.out
    refine (unlock_deferred muLib ⟨L.q, 0, none⟩ .returning _ ?_ ?_).mono ?_
    · exact cell_of_row _ L.q 0 _ _ _ hq3
    · exact frozen_of_row _ L.q 0 _ _ hq3
    rintro e u' w3 ⟨rfl, rfl, hw3⟩
    refine ⟨_, results_none rfl _ _ _, rfl, ?_⟩
    rw [HT.out]
    exact queue_end HP.out HX.out HQ1.out (v := L.vi) HVQ.out (fun k hk => hk) HO.out HG.out HL.out rfl hw3
  · have n1 : 64 - (S.inp.length : Int) < (l.length : Int) := by omega
    have n2 : ¬ (64 - (S.inp.length : Int) < 0) := by omega
    have hm : (64 - (S.inp.length : Int)).toNat = 64 - S.inp.length := by omega
    have n3 : 64 - (S.inp.length : Int) ≤ (cv : Int) := by omega
    have HT : Hid (S.joi l = { S with inp := S.inp ++ l.take (64 - S.inp.length), ov := true }) := by
      unfold Hid St.joi
      rw [decide_eq_true (by omega), Bool.or_true]
    generalize S.joi l = T at HT ⊢
    have HVT : Hid (Byt (w1.setCell ⟨L.q, 3, none⟩ (.bool true)) (.slice av (64 - S.inp.length) cv) (l.take (64 - S.inp.length))) := by
      have h1 : Byt w1 (.slice av (64 - S.inp.length) cv) (l.take (64 - S.inp.length)) := by
        obtain ⟨a2, c2, e2, q1, q2, q3⟩ := HV1.out
        cases e2
        have hlen : (l.take (64 - S.inp.length)).length = 64 - S.inp.length := by rw [List.length_take]; omega
        refine ⟨av, cv, by rw [hlen], by omega, q2, fun hne => ?_⟩
        obtain ⟨g2, off, ea, q4, q5⟩ := q3 (fun e => hne (by rw [e]; simp))
        refine ⟨g2, off, ea, q4, fun j hj => ?_⟩
        rw [hlen] at hj
        rw [q5 j (by omega)]
        simp [List.getD, hj]
      exact h1.exc ((Exc.refl (fun k => k = L.q) w1).set L.q 3 _ rfl) (fun g off n c e => hap g off l.length cv (by cases e; rfl))
    have hq2 : (w1.setCell ⟨L.q, 3, none⟩ (.bool true)).heap[L.q]? = some (.cells #[.int .i32 1, .int .u32 0, L.vi, .bool true] 109 (0, 0)) := heap_setCell_same w1 L.q 3 _ _ _ hq1
    have d5 : (w1.setCell ⟨L.q, 3, none⟩ (.bool true)).cell? ⟨L.q, 2, none⟩ = some (.slice ai S.inp.length ci) := by rw [cell_of_row _ L.q 2 _ _ _ hq2, ← ei]; rfl
    have d3 := cell_of_row w1 L.q 3 _ _ _ hq1
    have g3 := frozen_of_row w1 L.q 3 _ _ hq1
    have HOW2 : Hid ((w1.setCell ⟨L.q, 3, none⟩ (.bool true)).ownsRow B 5 1 L.vi S.inp.length (bv S.inp)) := own_apart_set HOW.out hq1 (by decide)
    have HQ2 : Hid ((w1.setCell ⟨L.q, 3, none⟩ (.bool true)).heap[L.q]? = some (.cells #[.int .i32 1, .int .u32 0, L.vi, .bool true] 109 (0, 0))) := hq2
    have HX2 : Hid (Exc (fun k => k = L.q ∨ L.vi.ownBlock = some k) w (w1.setCell ⟨L.q, 3, none⟩ (.bool true))) := HX.out.set L.q 3 _ (.inl rfl)
    have HLL : Hid (S.inp.length + (l.take (64 - S.inp.length)).length ≤ 140737488355328) := by unfold Hid; rw [List.length_take]; omega
    have HBL2 : Hid (B ≤ (w1.setCell ⟨L.q, 3, none⟩ (.bool true)).heap.size) := Nat.le_trans HBL.out (((Exc.refl (fun k => k = L.q) w1).set L.q 3 (.bool true) rfl).size)
    obtain ⟨w5, hw5⟩ : ∃ w5, w5 = w1.setCell ⟨L.q, 3, none⟩ (.bool true) := ⟨_, rfl⟩
    rw [← hw5] at HVT d5 HOW2 HQ2 HX2 HBL2
    have HW5 : Hid (w1.setCell ⟨L.q, 3, none⟩ (.bool true) = w5) := hw5.symm
    clear hw1 hq1 x1 h c0 f0 ei hcv hcv0 hcl hap hroom hq2 HV1 HOW HBL HX hw5
    go_enter_defers Try.func31, Try.ntmps31
    go_upto_region 6 with (go_at_call 51; refine HLK.mono ?_; rintro e w' ⟨rfl, hw⟩; have hw2 := hw.symm; subst hw2)
    rw [HW5.out]
    clear d2 d3 g3
    go_wp2_with (at_builtin; refine appA (by rfl) _ _ (by rfl) B L.vi _ S.inp (l.take (64 - S.inp.length)) (by exact HEI.out.symm) HOW2.out (by rfl) HVT.out HLL.out HBL2.out ?_; intro v' w2 ho hg hl2; obtain ⟨a9, c9, e9, _⟩ := Byt.of_own ho; obtain ⟨n9, hn9⟩ : ∃ n, n = (S.inp ++ l.take (64 - S.inp.length)).length := ⟨_, rfl⟩; rw [← hn9] at e9; clear hn9; subst e9; have HO : Hid (w2.ownsRow B 5 1 (.slice a9 n9 c9) (S.inp ++ l.take (64 - S.inp.length)).length (bv (S.inp ++ l.take (64 - S.inp.length)))) := ho; have HG : Hid (World.grownBy w5 w2 L.vi.ownBlock) := hg; have HL : Hid ((Value.slice a9 n9 c9).ownBlock = L.vi.ownBlock ∨ (Value.slice a9 n9 c9).ownBlock = some w5.heap.size) := hl2; have hq2 := (HG.out.block L.q (Array.getElem?_eq_some_iff.1 HQ2.out).1 (fun e => HVQ.out _ e.symm rfl)).trans HQ2.out; have d3 := cell_of_row w2 L.q 2 _ _ _ hq2; have g3 := frozen_of_row w2 L.q 2 _ _ hq2; have HQ3 : Hid (w2.heap[L.q]? = some (.cells #[.int .i32 1, .int .u32 0, L.vi, .bool true] 109 (0, 0))) := hq2; clear ho hg hl2 hq2)
    refine leaves_cons (f := 52) (args := #[.pointer (some ⟨L.q, 0, none⟩)]) (by simp) (by simp [go_sem]) ?_
    have hq3 := heap_setCell_same _ L.q 2 _ _ (.slice a9 n9 c9) HQ3.out
    refine (unlock_deferred muLib ⟨L.q, 0, none⟩ .returning _ ?_ ?_).mono ?_
    · exact cell_of_row _ L.q 0 _ _ _ hq3
    · exact frozen_of_row _ L.q 0 _ _ hq3
    rintro e u' w3 ⟨rfl, rfl, hw3⟩
    refine ⟨_, results_none rfl _ _ _, rfl, ?_⟩
    rw [HT.out]
    exact queue_end HP.out HX2.out HQ2.out (v := L.vi) HVQ.out (fun k hk => hk) HO.out HG.out HL.out rfl hw3
/-- A byte sent. -/
def St.sen (S : St) (c : Int) : St := if S.out.length < 4096 then { S with out := S.out ++ [c] } else S
set_option maxRecDepth 100000 in
set_option maxHeartbeats 2000000 in
theorem send_c {B : Nat} {L : Lay} {S : St} (w : World) (h : PB B L S w) (c : Int) : Calls Try.prog 120 #[.pointer (some ⟨L.u, 0, none⟩), .int .u8 c] w fun e w' => e = .returned (.tuple #[]) ∧ ∃ L', PSt B L w L' (S.sen c) w' := by
  have HR := hasRoom_c w h
  have HP : Hid (PB B L S w) := h
  by_cases hlt : S.out.length < 4096
  · have HT : Hid (S.sen c = { S with out := S.out ++ [c] }) := by unfold Hid St.sen; rw [if_pos hlt]
    generalize S.sen c = T at HT ⊢
    rw [decide_eq_true (show (S.out.length : Int) < 4096 by omega)] at HR
    obtain ⟨w1, hw1⟩ : ∃ w1, w.alloc (.cells #[.int .u8 c] 5) = w1 := ⟨_, rfl⟩
    have hb1 : Below w.heap.size w w1 := by rw [← hw1]; exact (Below.refl _ _).alloc (Nat.le_refl _) _
    have hu1 : w1.heap[L.u]? = some (.cells #[.int .u8 S.ier, .int .u8 S.lcr, .int .u8 S.mcr, .int .u8 S.scr, pt L.q, L.vo] 69 (0, 0)) := (hb1.block L.u h.lt.u).trans h.hu
    have HOW : Hid (w1.ownsRow B 5 1 L.vo S.out.length (bv S.out)) := own_later h.wo hb1 rfl
    have HBY : Hid (Byt w1 (.slice (some ⟨w.heap.size, 0, none⟩) 1 1) [c]) := ⟨some ⟨w.heap.size, 0, none⟩, 1, rfl, Nat.le_refl _, fun e => (by cases e), fun _ => ⟨w.heap.size, 0, rfl, by rw [← hw1]; simp, fun j hj => by
      have hj0 : j = 0 := by simpa using hj
      subst hj0
      rw [← hw1]; simp⟩⟩
    have HBL : Hid (B ≤ w1.heap.size) := Nat.le_trans (Nat.le_trans h.lu (Nat.le_of_lt h.lt.u)) hb1.size
    have HLL : Hid (S.out.length + [c].length ≤ 140737488355328) := by unfold Hid; simp; omega
    have HU1 : Hid (w1.heap[L.u]? = some (.cells #[.int .u8 S.ier, .int .u8 S.lcr, .int .u8 S.mcr, .int .u8 S.scr, pt L.q, L.vo] 69 (0, 0))) := hu1
    have HVU : Hid (∀ k, L.vo.ownBlock = some k → k ≠ L.u) := fun k hk => own_ne_row h.wo h.hu (by decide) k hk
    have HB1 : Hid (Below w.heap.size w w1) := hb1
    have HW1 : Hid (w.alloc (.cells #[.int .u8 c] 5) = w1) := hw1
    have u5 := h.cl.u5
    obtain ⟨ao, co, eo, _⟩ := Byt.of_own h.wo
    have HEO : Hid (L.vo = .slice ao S.out.length co) := eo
    rw [eo] at u5
    clear h hw1 hb1 hu1 hlt eo
    go_enter Try.func120, Try.ntmps120
    go_wp2_with (first | (go_at_call 114; refine HR.mono ?_; rintro e w' ⟨rfl, hw⟩; have hw2 := hw.symm; subst hw2) | (at_builtin; rw [HW1.out]; refine appA (by rfl) _ _ (by rfl) B L.vo _ S.out [c] (by exact HEO.out.symm) HOW.out (by rfl) HBY.out HLL.out HBL.out ?_; intro v' w2 ho hg hl2; obtain ⟨a9, c9, e9, _⟩ := Byt.of_own ho; obtain ⟨n9, hn9⟩ : ∃ n, n = (S.out ++ [c]).length := ⟨_, rfl⟩; rw [← hn9] at e9; clear hn9; subst e9; have HO : Hid (w2.ownsRow B 5 1 (.slice a9 n9 c9) (S.out ++ [c]).length (bv (S.out ++ [c]))) := ho; have HG : Hid (World.grownBy w1 w2 L.vo.ownBlock) := hg; have HL : Hid ((Value.slice a9 n9 c9).ownBlock = L.vo.ownBlock ∨ (Value.slice a9 n9 c9).ownBlock = some w1.heap.size) := hl2; have hq2 := (HG.out.block L.u (Array.getElem?_eq_some_iff.1 HU1.out).1 (fun e => HVU.out _ e.symm rfl)).trans HU1.out; have d3 := cell_of_row w2 L.u 5 _ _ _ hq2; have g3 := frozen_of_row w2 L.u 5 _ _ hq2; have HU2 : Hid (w2.heap[L.u]? = some (.cells #[.int .u8 S.ier, .int .u8 S.lcr, .int .u8 S.mcr, .int .u8 S.scr, pt L.q, L.vo] 69 (0, 0))) := hq2; clear ho hg hl2 hq2))
    go_end0
    refine ⟨rfl, ?_⟩
    have hu3 := heap_setCell_same _ L.u 5 _ _ (.slice a9 n9 c9) HU2.out
    have x1 : Exc (fun k => k = L.u ∨ L.vo.ownBlock = some k) w w1 := Exc.of_below HB1.out rfl
    have x2 : Exc (fun k => k = L.u ∨ L.vo.ownBlock = some k) w1 w2 := ⟨HG.out.os, HG.out.tape, HG.out.output, HG.out.size, fun k hk hne => HG.out.block k hk (fun e => hne (.inr e.symm))⟩
    rw [HT.out]
    refine ⟨_, HP.out.sent ((x1.trans x2).set L.u 5 _ (.inl rfl)) (.slice a9 n9 c9) (S.out ++ [c]) hu3 (own_apart_set HO.out HU2.out (by decide)) (fun k hk => ?_)⟩
    rcases HL.out with e | e
    · exact .inl (by rw [← e]; exact hk)
    · right
      have e2 : k = w1.heap.size := by rw [hk] at e; exact Option.some.inj e
      rw [e2]; exact HB1.out.size
  · have HT : Hid (S.sen c = S) := by unfold Hid St.sen; rw [if_neg hlt]
    generalize S.sen c = T at HT ⊢
    rw [decide_eq_false (show ¬ (S.out.length : Int) < 4096 by omega)] at HR
    clear h hlt
    go_enter Try.func120, Try.ntmps120
    go_wp2_with (go_at_call 114; refine HR.mono ?_; rintro e w' ⟨rfl, hw⟩; have hw2 := hw.symm; subst hw2)
    go_end0
    refine ⟨rfl, L, ?_⟩
    rw [HT.out]
    exact .quiet HP.out (Below.refl _ _)
end Go.Proofs.Ytghiabdkgfhdbaa
