/-
  Ity Ich.
-/
import Derived.Test.YtopddflnahfomaaGreatDoorM09
import Derived.Test.YtopddflnahfomaaGreatDoorM32
import Derived.Deep.RegionHeld
namespace Go.Proofs.YtopddflnahfomaaGreatDoor
set_option linter.unusedVariables false
open Go.ChangeShapes Go.WideShapes Go.ChangeAt Go.RowKit Go.Deep
theorem blkI_alloc {w : World} {Pb : Nat} {cur : Array Value} {t : TypeId} (h : w.heap[Pb]? = some (.cells cur t (0, 0))) (o : Obj) : (w.alloc o).heap[Pb]? = some (.cells cur t (0, 0)) := by
  rw [Below.heap_alloc _ _ _ (Array.getElem?_eq_some_iff.1 h).1]; exact h
/-- Behind the copy of a part's bytes. -/
structure TS (x : Sg) (S Pb : Nat) (cur : Array Value) (sv : Value) (M : List Sg) (w1 w2 : World) : Prop where
  c0 : w2.cell? ⟨S, 0, none⟩ = some (.int .u64 (n64 x.a))
  c1 : w2.cell? ⟨S, 1, none⟩ = some (.int .u64 (n64 x.s))
  c2 : w2.cell? ⟨S, 2, none⟩ = some (.int .i64 x.f)
  c3 : w2.cell? ⟨S, 3, none⟩ = some (.slice x.m x.n x.c)
  f3 : w2.frozen? ⟨S, 3, none⟩ = false
  blk : ∀ v, (w2.setCell ⟨S, 3, none⟩ v).heap[Pb]? = some (.cells cur 26 (0, 0))
  own : ∀ v, (w2.setCell ⟨S, 3, none⟩ v).ownsRow (Pb + 1) 42 4 sv M.length (sgl M)
  room : ∀ v, Pb + 1 ≤ (w2.setCell ⟨S, 3, none⟩ v).heap.size
  below : ∀ v, Below Pb w1 (w2.setCell ⟨S, 3, none⟩ v)
theorem TS.of {x : Sg} {Pb : Nat} {cur : Array Value} {sv : Value} {M : List Sg} {w1 wr w2 : World} (hP : wr.heap[Pb]? = some (.cells cur 26 (0, 0))) (hown : wr.ownsRow (Pb + 1) 42 4 sv M.length (sgl M)) (hb1 : Below Pb w1 wr)
    (hb : Below (wr.alloc (.cells #[.int .u64 (n64 x.a), .int .u64 (n64 x.s), .int .i64 x.f, .slice x.m x.n x.c] 42)).heap.size (wr.alloc (.cells #[.int .u64 (n64 x.a), .int .u64 (n64 x.s), .int .i64 x.f, .slice x.m x.n x.c] 42)) w2) : TS x wr.heap.size Pb cur sv M w1 w2 := by
  have hPl : Pb < wr.heap.size := (Array.getElem?_eq_some_iff.1 hP).1
  have hS : wr.heap.size < (wr.alloc (.cells #[.int .u64 (n64 x.a), .int .u64 (n64 x.s), .int .i64 x.f, .slice x.m x.n x.c] 42)).heap.size := by simp
  have hbr : w2.heap[wr.heap.size]? = some (.cells #[.int .u64 (n64 x.a), .int .u64 (n64 x.s), .int .i64 x.f, .slice x.m x.n x.c] 42 (0, 0)) := by
    rw [hb.block _ hS]; exact heap_alloc_new wr _
  have hP2 : w2.heap[Pb]? = some (.cells cur 26 (0, 0)) := by rw [hb.block Pb (by omega)]; exact blkI_alloc hP _
  have hbw : Below wr.heap.size wr w2 := ((Below.refl _ _).alloc (Nat.le_refl _) _).trans (hb.mono (by simp))
  have hP3 : ∀ v, (w2.setCell ⟨wr.heap.size, 3, none⟩ v).heap[Pb]? = some (.cells cur 26 (0, 0)) := fun v => by
    rw [Below.heap_setCell w2 ⟨wr.heap.size, 3, none⟩ v Pb (show Pb ≠ wr.heap.size by omega)]; exact hP2
  refine ⟨cell_of_row w2 _ 0 _ 42 (0, 0) hbr, cell_of_row w2 _ 1 _ 42 (0, 0) hbr, cell_of_row w2 _ 2 _ 42 (0, 0) hbr, cell_of_row w2 _ 3 _ 42 (0, 0) hbr, frozen_of_row w2 _ 3 _ 42 hbr, hP3, fun v => ?_, fun v => ?_, fun v => ?_⟩
  · have h2 : w2.ownsRow (Pb + 1) 42 4 sv M.length (sgl M) := by
      refine ⟨hown.1, ?_⟩
      rcases hown.2 with h' | ⟨g, cap, cu, rfl, q1, q2, q3⟩
      · exact .inl h'
      · exact .inr ⟨g, cap, cu, rfl, q1, by rw [hbw.block g (hown.lt g rfl).2]; exact q2, q3⟩
    refine h2.kept (row := some wr.heap.size) ⟨rfl, rfl, rfl, by simp [World.setCell], fun k _ hk => Below.heap_setCell w2 ⟨wr.heap.size, 3, none⟩ v k (fun e => hk (by rw [e]))⟩ ?_
    cases hv : sv.ownBlock with
    | none => exact .inl rfl
    | some g => exact .inr (fun e => by have := (hown.lt g hv).2; cases e; omega)
  · have := hb.size; simp [World.setCell] at *; omega
  · exact (hb1.trans (hbw.mono (by omega))).setCell (show Pb ≤ wr.heap.size by omega) _
theorem TW.next {E : BitVec 64} {L M : List Sg} {k Pb g1 c1 n : Nat} {sv sv' : Value} {x : Sg} {w1 w2 w3 : World} (hM : M.length = k) (hk : k < L.length) (hx : x = sg L k) (hn : n = x.n)
    (hMe : ∀ j, j < k → (sg M j).a = (sg L j).a ∧ (sg M j).s = (sg L j).s ∧ (sg M j).f = (sg L j).f ∧ (sg M j).n = (sg L j).n)
    (hown : w3.ownsRow (Pb + 1) 42 4 sv' (M ++ [(⟨x.a, x.s, x.f, .slice none 0 0, n, some ⟨g1, 0, none⟩, c1⟩ : Sg)]).length (sgl (M ++ [(⟨x.a, x.s, x.f, .slice none 0 0, n, some ⟨g1, 0, none⟩, c1⟩ : Sg)])))
    (hP : w3.heap[Pb]? = some (.cells #[.int .u64 (n64 E), sv, .slice none 0 0] 26 (0, 0))) (hb1 : Below Pb w1 w2) (hb : Below (Pb + 1) w2 w3) : TW E L (k + 1) Pb sv' w1 (w3.setCell ⟨Pb, 1, none⟩ sv') := by
  refine ⟨heap_setCell_same w3 Pb 1 _ 26 sv' hP, ⟨M ++ [(⟨x.a, x.s, x.f, .slice none 0 0, n, some ⟨g1, 0, none⟩, c1⟩ : Sg)], by rw [List.length_append, hM]; rfl, fun j hj => ?_, ownsRow_setCell_below hown (show Pb < Pb + 1 by omega) _⟩, (hb1.trans (hb.mono (by omega))).setCell (Nat.le_refl _) _⟩
  by_cases e : j = k
  · subst e
    have es : sg (M ++ [(⟨x.a, x.s, x.f, .slice none 0 0, n, some ⟨g1, 0, none⟩, c1⟩ : Sg)]) j = ⟨x.a, x.s, x.f, .slice none 0 0, n, some ⟨g1, 0, none⟩, c1⟩ := by
      unfold sg List.getD; rw [List.getElem?_append_right (by omega), hM, Nat.sub_self]; rfl
    rw [es, ← hx]
    exact ⟨rfl, rfl, rfl, hn⟩
  · have es : sg (M ++ [(⟨x.a, x.s, x.f, .slice none 0 0, n, some ⟨g1, 0, none⟩, c1⟩ : Sg)]) j = sg M j := by
      unfold sg List.getD; rw [List.getElem?_append_left (by omega)]
    rw [es]
    exact hMe j (by omega)
theorem set3_blk {w : World} {R : Nat} {o0 o1 o2 : Value} (h : w.heap[R]? = some (.cells #[o0, o1, o2] 26 (0, 0))) (a b c : Value) : (((w.setCell ⟨R, 0, none⟩ a).setCell ⟨R, 1, none⟩ b).setCell ⟨R, 2, none⟩ c).heap[R]? = some (.cells #[a, b, c] 26 (0, 0)) := by
  have h0 : (w.setCell ⟨R, 0, none⟩ a).heap[R]? = some (.cells #[a, o1, o2] 26 (0, 0)) := heap_setCell_same w R 0 _ 26 a h
  generalize w.setCell ⟨R, 0, none⟩ a = w0 at *
  have h1 : (w0.setCell ⟨R, 1, none⟩ b).heap[R]? = some (.cells #[a, b, o2] 26 (0, 0)) := heap_setCell_same w0 R 1 _ 26 b h0
  generalize w0.setCell ⟨R, 1, none⟩ b = w1 at *
  exact heap_setCell_same w1 R 2 _ 26 c h1
theorem size26 : (Tryz.prog.info? 26).map (·.size) = some 3 := by kernel_rfl
set_option maxHeartbeats 4000000 in
theorem twin_c (E : BitVec 64) (vs vn : Value) (L : List Sg) (N : List Sy) (hL : L.length * 48 ≤ 140737488355280) (hN : N.length * 24 ≤ 140737488355328) (w : World) (hi : Img w vs vn L N)
    (hd : Hid (∀ j, j < L.length → ∃ l, l.length = (sg L j).n ∧ Byt w (.slice (sg L j).m (sg L j).n (sg L j).c) l)) (hnil : Hid (∀ c k, vn = .slice none k c → k = 0 ∧ c = 0)) :
    Calls Tryz.prog 7 #[.agg #[.int .u64 (n64 E), vs, vn]] w fun e w' => ∃ vs' vn' M, e = .returned (.agg #[.int .u64 (n64 E), vs', vn']) ∧ Hid (Alike L M) ∧ Hid (Img w' vs' vn' M N) ∧ Hid (Below w.heap.size w w') := by
  have HI : Hid (Img w vs vn L N) := hi
  obtain ⟨B, hB⟩ : ∃ B, B = w.heap.size := ⟨_, rfl⟩
  have HB0 : Hid (B = w.heap.size) := hB
  clear hB
  obtain ⟨sa, sc, rfl, _, _⟩ := hi.segs
  obtain ⟨na, nc, rfl, _, _⟩ := hi.syms
  clear hi
  go_enter Tryz.func7, Tryz.ntmps7
  go_wp2
  have HM1 : Hid ((((w.alloc (.cells #[.int .u64 (n64 E), .slice sa L.length sc, .slice na N.length nc] 26)).alloc (.cells #[.int .u64 0, .slice none 0 0, .slice none 0 0] 26)).alloc (.cells #[.int .u64 (n64 E), .slice none 0 0, .slice none 0 0] 26)).cell? ⟨w.heap.size, 1, none⟩ = some (.slice sa L.length sc)) := by unfold Hid; rw [alloc3_0]; rfl
  have HM2 : Hid ((((w.alloc (.cells #[.int .u64 (n64 E), .slice sa L.length sc, .slice na N.length nc] 26)).alloc (.cells #[.int .u64 0, .slice none 0 0, .slice none 0 0] 26)).alloc (.cells #[.int .u64 (n64 E), .slice none 0 0, .slice none 0 0] 26)).cell? ⟨w.heap.size, 2, none⟩ = some (.slice na N.length nc)) := by unfold Hid; rw [alloc3_0]; rfl
  have HRb : Hid ((((w.alloc (.cells #[.int .u64 (n64 E), .slice sa L.length sc, .slice na N.length nc] 26)).alloc (.cells #[.int .u64 0, .slice none 0 0, .slice none 0 0] 26)).alloc (.cells #[.int .u64 (n64 E), .slice none 0 0, .slice none 0 0] 26)).heap[w.heap.size + 1]? = some (.cells #[Value.int .u64 0, .slice none 0 0, .slice none 0 0] 26 (0, 0))) := by
    unfold Hid; rw [Below.heap_alloc _ _ _ (by simp)]; exact (heap_alloc_new (w.alloc (.cells #[.int .u64 (n64 E), .slice sa L.length sc, .slice na N.length nc] 26)) _ |> fun h => by simpa using h)
  have HP0 : Hid (TW E L 0 (w.heap.size + 1 + 1) (.slice none 0 0) (((w.alloc (.cells #[.int .u64 (n64 E), .slice sa L.length sc, .slice na N.length nc] 26)).alloc (.cells #[.int .u64 0, .slice none 0 0, .slice none 0 0] 26)).alloc (.cells #[.int .u64 (n64 E), .slice none 0 0, .slice none 0 0] 26)) (((w.alloc (.cells #[.int .u64 (n64 E), .slice sa L.length sc, .slice na N.length nc] 26)).alloc (.cells #[.int .u64 0, .slice none 0 0, .slice none 0 0] 26)).alloc (.cells #[.int .u64 (n64 E), .slice none 0 0, .slice none 0 0] 26))) := by
    refine ⟨?_, ⟨[], rfl, fun j hj => by omega, World.ownsRow_nil _ _ _ _⟩, Below.refl _ _⟩
    exact (heap_alloc_new ((w.alloc (.cells #[.int .u64 (n64 E), .slice sa L.length sc, .slice na N.length nc] 26)).alloc (.cells #[.int .u64 0, .slice none 0 0, .slice none 0 0] 26)) _ |> fun h => by simpa using h)
  have HB1 : Hid (Below B w (((w.alloc (.cells #[.int .u64 (n64 E), .slice sa L.length sc, .slice na N.length nc] 26)).alloc (.cells #[.int .u64 0, .slice none 0 0, .slice none 0 0] 26)).alloc (.cells #[.int .u64 (n64 E), .slice none 0 0, .slice none 0 0] 26))) := (((Below.refl _ _).alloc (by rw [HB0.out]; exact Nat.le_refl _) _).alloc (by rw [HB0.out]; simp) _).alloc (by rw [HB0.out]; simp; omega) _
  generalize (((w.alloc (.cells #[.int .u64 (n64 E), .slice sa L.length sc, .slice na N.length nc] 26)).alloc (.cells #[.int .u64 0, .slice none 0 0, .slice none 0 0] 26)).alloc (.cells #[.int .u64 (n64 E), .slice none 0 0, .slice none 0 0] 26)) = W1 at *
  obtain ⟨Mb, hMb⟩ : ∃ Mb, Mb = w.heap.size := ⟨_, rfl⟩
  obtain ⟨Rb, hRb⟩ : ∃ Rb, Rb = w.heap.size + 1 := ⟨_, rfl⟩
  obtain ⟨Pb, hPb⟩ : ∃ Pb, Pb = w.heap.size + 1 + 1 := ⟨_, rfl⟩
  rw [← hPb] at HP0 ⊢
  rw [← hRb] at HRb ⊢
  rw [← hMb] at HM1 HM2 ⊢
  have HN3 : Hid (Mb = B ∧ Rb = B + 1 ∧ Pb = B + 2) := by have := HB0.out; exact ⟨by omega, by omega, by omega⟩
  clear hMb hRb hPb
  go_loopw [4] (fun i wr => ∃ k : Nat, k ≤ L.length ∧ i = .int .i64 k ∧ ∃ sv, Hid (TW E L k Pb sv W1 wr)) (fun i _ => L.length - (intOf i).toNat)
  case atStart => exact ⟨0, Nat.zero_le _, rfl, _, HP0⟩
  case round =>
    obtain ⟨k, hk, rfl, sv, hp⟩ := hrel
    clear HP0
    have HBw : Hid (Below B w wr) := HB1.out.trans (hp.out.below.mono (by have := HN3.out; omega))
    have HPs : Hid (Pb < wr.heap.size) := (Array.getElem?_eq_some_iff.1 hp.out.blk).1
    have m1 : wr.cell? ⟨Mb, 1, none⟩ = some (.slice sa L.length sc) := by rw [hp.out.below.cell (show Mb < Pb by have := HN3.out; omega)]; exact HM1.out
    have m2 : wr.cell? ⟨Mb, 2, none⟩ = some (.slice na N.length nc) := by rw [hp.out.below.cell (show Mb < Pb by have := HN3.out; omega)]; exact HM2.out
    by_cases hlt : k < L.length
    · have hlt2 : (k : Int) < (L.length : Int) := by omega
      obtain ⟨_, _, he, _, hcc⟩ := HI.out.segs.later HBw.out HB0.out
      cases he
      obtain ⟨g, off, rfl, hg, hcells⟩ := hcc (by intro e; have := congrArg List.length e; simp only [List.length_nil] at this; omega)
      obtain ⟨c0, c1, c2, c3⟩ := hcells k hlt
      obtain ⟨l, hll, hbyt⟩ := hd.out k hlt
      have hln := HI.out.lens k hlt
      obtain ⟨x, hx⟩ : ∃ x, x = sg L k := ⟨_, rfl⟩
      rw [← hx] at c0 c1 c2 c3 hll hbyt hln
      have HX : Hid (x = sg L k) := hx
      clear hx hcells hcc
      obtain ⟨M, hM, hMe, hMo⟩ := hp.out.own
      have HM : Hid (M.length = k) := hM
      have HME : Hid (∀ j, j < k → (sg M j).a = (sg L j).a ∧ (sg M j).s = (sg L j).s ∧ (sg M j).f = (sg L j).f ∧ (sg M j).n = (sg L j).n) := hMe
      have HMO : Hid (wr.ownsRow (Pb + 1) 42 4 sv M.length (sgl M)) := hMo
      have HBY : Hid (Byt (wr.alloc (.cells #[.int .u64 (n64 x.a), .int .u64 (n64 x.s), .int .i64 x.f, .slice x.m x.n x.c] 42)) (.slice x.m x.n x.c) l) := (hbyt.later HBw.out HB0.out).later ((Below.refl _ _).alloc (Nat.le_refl _) _) rfl
      have HLL : Hid (l.length = x.n) := hll
      have hln2 : l.length ≤ 140737488355328 := by rw [hll]; exact hln
      have HLN : Hid (l.length ≤ 140737488355328) := hln2
      have HPB : Hid (Pb + 1 ≤ wr.heap.size) := HPs.out
      clear hM hMe hMo hbyt hll hln2
      have HC : Hid (wr.heap[Pb]? = some (.cells #[.int .u64 (n64 E), sv, .slice none 0 0] 26 (0, 0))) := hp.out.blk
      have HTS : Hid (∀ w2, Below (wr.alloc (.cells #[.int .u64 (n64 x.a), .int .u64 (n64 x.s), .int .i64 x.f, .slice x.m x.n x.c] 42)).heap.size (wr.alloc (.cells #[.int .u64 (n64 x.a), .int .u64 (n64 x.s), .int .i64 x.f, .slice x.m x.n x.c] 42)) w2 → TS x wr.heap.size Pb #[.int .u64 (n64 E), sv, .slice none 0 0] sv M W1 w2) := fun w2 hb2 => TS.of HC.out HMO.out hp.out.below hb2
      have HL48 : Hid ((M.length + 1) * 48 ≤ 140737488355328) := by unfold Hid; rw [HM.out]; omega
      go_wp2_with (first | (at_builtin; refine appD (by rfl) _ _ (by rfl) _ _ l (by rfl) (by simp) (by rfl) HBY.out HLN.out ?_; intro g1 c1' w2 hb2 hown2; have ts := HTS.out w2 hb2; have t0 := ts.c0; have t1 := ts.c1; have t2 := ts.c2; have t3 := ts.c3; have t4 := ts.f3; have t5 := fun v => cell_of_row _ Pb 1 _ 26 (0, 0) (ts.blk v); have HTs : Hid (TS x wr.heap.size Pb #[.int .u64 (n64 E), sv, .slice none 0 0] sv M W1 w2) := ts; clear ts hb2 hown2) | (at_builtin; refine appQ (by rfl) _ _ (by rfl) (Pb + 1) Pb _ _ M ⟨x.a, x.s, x.f, .slice none 0 0, l.length, some ⟨g1, 0, none⟩, c1'⟩ (by rfl) (HTs.out.blk _) (by omega) (HTs.out.own _) _ (by rfl) (by simp) HL48.out (HTs.out.room _) ?_; intro g2 c2' w3 hown3 hP3 hc3 hf3 hb3))
      have HN : Hid (TW E L (k + 1) Pb (.slice (some ⟨g2, 0, none⟩) (M.length + 1) c2') W1 (w3.setCell ⟨Pb, 1, none⟩ (.slice (some ⟨g2, 0, none⟩) (M.length + 1) c2'))) := TW.next HM.out hlt HX.out HLL.out HME.out hown3 hP3 (HTs.out.below _) hb3
      clear hown3 hP3 hb3
      go_roundw
      case rel => exact ⟨k + 1, by omega, by go_num, _, HN⟩
      case measure => simp [intOf]; omega
    · have hkl : k = L.length := by omega
      have hle : (L.length : Int) ≤ (k : Int) := by omega
      obtain ⟨M, hM, hMe, hMo⟩ := hp.out.own
      have HAl : Hid (Alike L M) := by
        rw [hkl] at hM hMe
        exact ⟨hM, fun j hj => (hMe j hj).1, fun j hj => (hMe j hj).2.1, fun j hj => (hMe j hj).2.2.1, fun j hj => (hMe j hj).2.2.2⟩
      have HMO : Hid (wr.ownsRow (Pb + 1) 42 4 sv M.length (sgl M)) := hMo
      obtain ⟨da, dc, hdv⟩ : ∃ da dc, sv = .slice da M.length dc := by
        rcases Go.Joins.ownsRow_forms hMo with ⟨h1, h2⟩ | ⟨g', c', h1⟩
        · exact ⟨none, 0, by rw [h1, h2]⟩
        · exact ⟨_, _, h1⟩
      subst hdv
      have HSy : Hid (Sys wr (.slice na N.length nc) N) := HI.out.syms.later HBw.out HB0.out
      have p2 : wr.cell? ⟨Pb, 2, none⟩ = some (.slice none 0 0) := cell_of_row wr Pb 2 _ 26 (0, 0) hp.out.blk
      have HPB : Hid (wr.heap[Pb]? = some (.cells #[.int .u64 (n64 E), .slice da M.length dc, .slice none 0 0] 26 (0, 0))) := hp.out.blk
      have hRP : Rb < Pb := by have := HN3.out; omega
      have hRn : Rb ≠ Pb := by omega
      have HRw : Hid (wr.heap[Rb]? = some (.cells #[Value.int .u64 0, .slice none 0 0, .slice none 0 0] 26 (0, 0))) := by unfold Hid; rw [hp.out.below.block Rb hRP]; exact HRb.out
      clear hkl hlt hM hMe hMo
      have HAF : Hid (∀ w2, Below wr.heap.size wr w2 → w2.heap[Pb]? = some (.cells #[.int .u64 (n64 E), .slice da M.length dc, .slice none 0 0] 26 (0, 0)) ∧ w2.heap[Rb]? = some (.cells #[Value.int .u64 0, .slice none 0 0, .slice none 0 0] 26 (0, 0))) := fun w2 hb => ⟨by rw [hb.block Pb HPs.out]; exact HPB.out, by rw [hb.block Rb (Nat.lt_trans hRP HPs.out)]; exact HRw.out⟩
      go_wp2_with (at_builtin; refine appN (by rfl) _ _ (by rfl) _ N (by rfl) (by rfl) HSy.out hnil hN ?_; intro ad c' w2 hb2 hown2; have k0 := cell_of_row w2 Pb 0 _ 26 (0, 0) (HAF.out w2 hb2).1; have k1 := cell_of_row w2 Pb 1 _ 26 (0, 0) (HAF.out w2 hb2).1; have k2 := cell_of_row w2 Pb 2 _ 26 (0, 0) (HAF.out w2 hb2).1; have kf := frozen_of_row w2 Pb 2 _ 26 (HAF.out w2 hb2).1; have HRS : Hid (∀ v, (w2.setCell ⟨Pb, 2, none⟩ v).heap[Rb]? = some (.cells #[Value.int .u64 0, .slice none 0 0, .slice none 0 0] 26 (0, 0))) := (fun v => by rw [Below.heap_setCell w2 ⟨Pb, 2, none⟩ v Rb hRn]; exact (HAF.out w2 hb2).2); have r0 := fun v => cell_of_row _ Rb 0 _ 26 (0, 0) (HRS.out v); have r1 := fun v => cell_of_row _ Rb 1 _ 26 (0, 0) (HRS.out v); have r2 := fun v => cell_of_row _ Rb 2 _ 26 (0, 0) (HRS.out v); have s0 := fun v => frozen_of_row _ Rb 0 _ 26 (HRS.out v); have s1 := fun v => frozen_of_row _ Rb 1 _ 26 (HRS.out v); have s2 := fun v => frozen_of_row _ Rb 2 _ 26 (HRS.out v); have HB2 : Hid (Below wr.heap.size wr w2) := hb2; have HO2 : Hid (w2.ownsRow wr.heap.size 45 2 (.slice ad N.length c') N.length (syl N)) := hown2; clear hb2 hown2)
      have hN3 := HN3.out
      have o2 : w2.ownsRow (Pb + 1) 42 4 (.slice da M.length dc) M.length (sgl M) := by
        refine ⟨HMO.out.1, ?_⟩
        rcases HMO.out.2 with h' | ⟨g, cap, cu, h', q1, q2, q3⟩
        · exact .inl h'
        · exact .inr ⟨g, cap, cu, h', q1, by rw [HB2.out.block g (HMO.out.lt g (by rw [h']; rfl)).2]; exact q2, q3⟩
      have q1 := ownsRow_setCell_below (a := ⟨Pb, 2, none⟩) o2 (show Pb < Pb + 1 by omega) (.slice ad N.length c')
      have q2 := ownsRow_setCell_below (a := ⟨Rb, 0, none⟩) q1 (show Rb < Pb + 1 by omega) (.int .u64 (n64 E))
      have q3 := ownsRow_setCell_below (a := ⟨Rb, 1, none⟩) q2 (show Rb < Pb + 1 by omega) (.slice da M.length dc)
      have q4 := ownsRow_setCell_below (a := ⟨Rb, 2, none⟩) q3 (show Rb < Pb + 1 by omega) (.slice ad N.length c')
      have hRw : Rb < wr.heap.size := Nat.lt_trans hRP HPs.out
      have n1 := ownsRow_setCell_below (a := ⟨Pb, 2, none⟩) HO2.out HPs.out (.slice ad N.length c')
      have n2 := ownsRow_setCell_below (a := ⟨Rb, 0, none⟩) n1 hRw (.int .u64 (n64 E))
      have n3 := ownsRow_setCell_below (a := ⟨Rb, 1, none⟩) n2 hRw (.slice da M.length dc)
      have n4 := ownsRow_setCell_below (a := ⟨Rb, 2, none⟩) n3 hRw (.slice ad N.length c')
      have b1 : Below B w w2 := HBw.out.trans (HB2.out.mono (by have := HBw.out.size; rw [HB0.out]; exact this))
      have b5 := (((b1.setCell (p := ⟨Pb, 2, none⟩) (show B ≤ Pb by omega) (.slice ad N.length c')).setCell (p := ⟨Rb, 0, none⟩) (show B ≤ Rb by omega) (.int .u64 (n64 E))).setCell (p := ⟨Rb, 1, none⟩) (show B ≤ Rb by omega) (.slice da M.length dc)).setCell (p := ⟨Rb, 2, none⟩) (show B ≤ Rb by omega) (.slice ad N.length c')
      exact bodyPost_ret (v := .agg #[.int .u64 (n64 E), .slice da M.length dc, .slice ad N.length c']) (results_cell_row Tryz.results7 _ _ Rb 26 _ (0, 0) _ (by rfl) (set3_blk (HRS.out _) _ _ _) Tryz.underlying26 (by rfl) size26) rfl
        ⟨_, _, M, rfl, HAl, ⟨Sgs.of_own q4, Sys.of_own n4, fun j hj => by rw [HAl.out.n j (by rw [← HAl.out.len]; exact hj)]; exact HI.out.lens j (by rw [← HAl.out.len]; exact hj), HI.out.texts⟩, by rw [← HB0.out]; exact b5⟩
end Go.Proofs.YtopddflnahfomaaGreatDoor
namespace Go.Proofs.YtopddflnahfomaaGreatDoor
set_option linter.unusedVariables false
open Go.ChangeShapes Go.WideShapes Go.ChangeAt Go.RowKit Go.Deep
theorem ff_congr {f g : Nat → Int} (n : Nat) : ∀ i, (∀ j, i ≤ j → j < i + n → f j = g j) → ff f n i = ff g n i := by
  induction n with
  | zero => intro i _; rfl
  | succ n ih =>
    intro i h
    have h0 := h i (Nat.le_refl _) (by omega)
    have h1 := ih (i + 1) (fun j h1 h2 => h j (by omega) (by omega))
    show (if f i = 0 then ff f n (i + 1) else f i) = (if g i = 0 then ff g n (i + 1) else g i)
    rw [h0, h1]
theorem pf_alike {L M : List Sg} (h : Alike L M) (i : Nat) (hi : i < L.length) : pf M i = pf L i := by
  have e1 : lastB (sg M i) = lastB (sg L i) := by unfold lastB; rw [h.a i hi, h.s i hi]
  have e2 : lastB (sg M (i - 1)) = lastB (sg L (i - 1)) := by unfold lastB; rw [h.a (i - 1) (by omega), h.s (i - 1) (by omega)]
  unfold pf
  rw [h.a i hi, h.s i hi, h.f i hi, h.n i hi, e1, e2]
theorem sk_alike {L M : List Sg} (h : Alike L M) (k : Nat) : k ≤ L.length → sk M k = sk L k := by
  induction k with
  | zero => intro _; show 64 + 56 * M.length = 64 + 56 * L.length; rw [h.len]
  | succ k ih =>
    intro hk
    show (if 0 < (sg M k).n then al (sk M k) + (sg M k).n else sk M k) = (if 0 < (sg L k).n then al (sk L k) + (sg L k).n else sk L k)
    rw [ih (by omega), h.n k (by omega)]
theorem ck_alike {L M : List Sg} (h : Alike L M) (E : BitVec 64) (N : List Sy) : ck E M N = ck E L N := by
  have e1 : ff (pf M) M.length 0 = ff (pf L) L.length 0 := by rw [h.len]; exact ff_congr _ 0 (fun j _ hj => pf_alike h j (by omega))
  have e2 : szz M N = szz L N := by unfold szz tabAt; rw [h.len, sk_alike h _ (Nat.le_refl _)]
  unfold ck
  rw [e1, e2, h.len]
theorem check_l (E : BitVec 64) {vs vn : Value} {L M : List Sg} {N : List Sy} (hal : Hid (Alike L M)) (hl : L.length ≤ 140737488355328) (hn : N.length ≤ 140737488355328) {w : World} (hi : Hid (Img w vs vn M N)) (hT : Hid (Tabs w)) (R : Int) (hR : Hid (R = ck E L N)) :
    Calls Tryz.prog 11 #[.agg #[.int .u64 (n64 E), vs, vn]] w fun e w' => e = .returned (.int .i64 R) ∧ Hid (Below w.heap.size w w') := by
  rw [hR.out, ← ck_alike hal.out]
  exact check_c E vs vn M N (by rw [hal.out.len]; exact hl) hn w hi.out hT
theorem cnum_c (z : Int) (w : World) : Calls Tryz.prog 8 #[.int .i64 z] w fun e w' => e = .returned (.int .i64 z) ∧ w = w' := by
  go_enter Tryz.func8, Tryz.ntmps8
  go_wp2
  go_ret
  exact ⟨rfl, rfl⟩
end Go.Proofs.YtopddflnahfomaaGreatDoor
