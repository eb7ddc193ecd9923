/-
  ImageWrites: the walk.
-/
import Derived.Test.YtjjdpfmkbaaapaaDoorIwv
namespace Go.Proofs.YtjjdpfmkbaaapaaDoor
set_option linter.unusedVariables false
open Go.ChangeShapes Go.WideShapes Go.ChangeAt Go.RowKit Go.Deep
theorem plc_alike {L M : List Sg} (h : Alike L M) (k : Nat) (hk : k < L.length) : plc M k = plc L k := by
  unfold plc
  rw [h.n k hk, sk_alike h k (by omega)]
theorem hdL_alike {L M : List Sg} (h : Alike L M) (k : Nat) (hk : k ≤ L.length) : hdL M k = hdL L k := by
  induction k with
  | zero => rfl
  | succ k ih =>
    show hdL M k ++ phL (sg M k) (plc M k) = hdL L k ++ phL (sg L k) (plc L k)
    rw [ih (by omega), plc_alike h k (by omega)]
    unfold phL
    rw [h.a k (by omega), h.s k (by omega), h.f k (by omega), h.n k (by omega)]
theorem daL_alike {L M : List Sg} {D : Nat → List Int} (h : Alike L M) (k : Nat) (hk : k ≤ L.length) : daL M D k = daL L D k := by
  induction k with
  | zero => rfl
  | succ k ih =>
    show (daL M D k ++ if 0 < (sg M k).n then zs (al (sk M k) - sk M k) ++ D k else []) = (daL L D k ++ if 0 < (sg L k).n then zs (al (sk L k) - sk L k) ++ D k else [])
    rw [ih (by omega), h.n k (by omega), sk_alike h k (by omega)]
theorem ans_alike {L M : List Sg} {D : Nat → List Int} (h : Alike L M) (E : BitVec 64) (N : List Sy) : ans E M N D = ans E L N D := by
  have e1 : tabAt M = tabAt L := by unfold tabAt; rw [h.len, sk_alike h _ (Nat.le_refl _)]
  have e2 : szz M N = szz L N := by unfold szz; rw [e1, h.len, sk_alike h _ (Nat.le_refl _)]
  unfold ans fl flZ flA
  rw [ck_alike h, h.len, hdL_alike h _ (Nat.le_refl _), daL_alike h _ (Nat.le_refl _), e2, e1, sk_alike h _ (Nat.le_refl _)]
theorem DTo.dts {B : Nat} {M : List Sg} {D : Nat → List Int} {w : World} (h : DTo B M D M.length w) (hl : ∀ j, j < M.length → (D j).length = (sg M j).n) : Dts w M D := fun j hj => ⟨hl j hj, by
  have q := h j hj
  rw [← hl j hj] at q
  have := Byt.of_own q
  rw [hl j hj] at this
  exact this⟩
/-- While bytes of blocks from B0 to B2 are written: all else stays. -/
structure EE (B0 B2 : Nat) (w wr : World) : Prop where
  os : wr.os = w.os
  tape : wr.tape = w.tape
  output : wr.output = w.output
  size : wr.heap.size = w.heap.size
  outs : ∀ g, (g < B0 ∨ B2 ≤ g) → wr.heap[g]? = w.heap[g]?
  nonb : ∀ (g : Nat) (cur : Array Value) (t : TypeId) (z : Nat × Nat), ¬ t = 5 → w.heap[g]? = some (Obj.cells cur t z) → wr.heap[g]? = some (Obj.cells cur t z)
  byts : ∀ (g : Nat) (cur : Array Value), w.heap[g]? = some (Obj.cells cur 5 (0, 0)) → ∃ cur', cur'.size = cur.size ∧ wr.heap[g]? = some (Obj.cells cur' 5 (0, 0))
theorem EE.refl (B0 B2 : Nat) (w : World) : EE B0 B2 w w := ⟨rfl, rfl, rfl, rfl, fun _ _ => rfl, fun _ _ _ _ _ h => h, fun _ cur h => ⟨cur, rfl, h⟩⟩
theorem EE.set {B0 B2 : Nat} {w wr : World} (h : EE B0 B2 w wr) {g : Nat} {c : Array Value} (hr : wr.heap[g]? = some (Obj.cells c 5 (0, 0))) (h0 : B0 ≤ g) (h2 : g < B2) (i : Nat) (v : Value) : EE B0 B2 w (wr.setCell ⟨g, i, none⟩ v) := by
  have hb := Below.setCell (Below.refl 0 wr) (p := ⟨g, i, none⟩) (Nat.zero_le _) v
  have ho : ∀ k, k ≠ g → (wr.setCell ⟨g, i, none⟩ v).heap[k]? = wr.heap[k]? := fun k hk => Below.heap_setCell wr ⟨g, i, none⟩ v k hk
  refine ⟨hb.os.trans h.os, hb.tape.trans h.tape, hb.output.trans h.output, by rw [← h.size]; simp [World.setCell], fun k hk => (ho k (by omega)).trans (h.outs k hk), fun k cur t z ht hk => ?_, fun k cur hk => ?_⟩
  · have q := h.nonb k cur t z ht hk
    refine (ho k (fun e => ?_)).trans q
    rw [e, hr] at q
    simp only [Option.some.injEq, Obj.cells.injEq] at q
    exact ht q.2.1.symm
  · obtain ⟨cur', hs, q⟩ := h.byts k cur hk
    by_cases e : k = g
    · subst e
      exact ⟨_, (by rw [← hs]; exact Array.size_setIfInBounds), heap_setCell_same wr k i cur' 5 v q⟩
    · exact ⟨cur', hs, (ho k e).trans q⟩
theorem EE.row {B0 B2 : Nat} {w wr : World} (h : EE B0 B2 w wr) {B t size n : Nat} {v : Value} {xs : List Value} (ht : ¬ t = 5) (hr : w.ownsRow B t size v n xs) : wr.ownsRow B t size v n xs := by
  refine ⟨hr.1, ?_⟩
  rcases hr.2 with h' | ⟨g, cap, cur, rfl, h1, h2, h3⟩
  · exact .inl h'
  · exact .inr ⟨g, cap, cur, rfl, h1, h.nonb g cur t (0, 0) ht h2, h3⟩
theorem EE.byt {B0 B2 : Nat} {w wr : World} (h : EE B0 B2 w wr) {v : Value} {l : List Int} (hv : Byt w v l) (hf : From B2 v) : Byt wr v l := by
  obtain ⟨a, cap, rfl, h1, h1', h2⟩ := hv
  refine ⟨a, cap, rfl, h1, h1', fun hn => ?_⟩
  obtain ⟨g, off, rfl, h3, h4⟩ := h2 hn
  have hg := hf ⟨g, off, none⟩ _ _ rfl
  exact ⟨g, off, rfl, by rw [h.size]; exact h3, fun j hj => by rw [World.cell?_of_block (h.outs g (.inr hg))]; exact h4 j hj⟩
/-- A part's bytes can be written. -/
theorem EE.part {B0 B2 : Nat} {w wr : World} (h : EE B0 B2 w wr) {m : Option Addr} {n c : Nat} {xs : List Value} (hr : w.ownsRow B0 5 1 (.slice m n c) n xs) (hw : w.heap.size ≤ w.heap.size) (k : Nat) (hk : k < n) :
    ∃ g cur', m = some ⟨g, 0, none⟩ ∧ B0 ≤ g ∧ g < w.heap.size ∧ k < cur'.size ∧ wr.heap[g]? = some (Obj.cells cur' 5 (0, 0)) := by
  rcases hr.2 with ⟨_, h'⟩ | ⟨g, cap, cur, h', h1, h2, h3, h4, h5, _⟩
  · omega
  · simp only [Value.slice.injEq] at h'
    obtain ⟨rfl, _, rfl⟩ := h'
    obtain ⟨cur', hs, q⟩ := h.byts g cur h2
    exact ⟨g, cur', rfl, h1, (Array.getElem?_eq_some_iff.1 h2).1, by omega, q⟩
theorem own_lt_of {w w' : World} {B t size n : Nat} {v : Value} {xs : List Value} (hr : w.ownsRow B t size v n xs) (hb : Below w.heap.size w w') : w'.ownsRow B t size v n xs := own_later hr hb rfl
theorem cell_at {w : World} {g k : Nat} {cur : Array Value} {t : TypeId} (h : w.heap[g]? = some (Obj.cells cur t (0, 0))) (hk : k < cur.size) : ∃ u, w.cell? ⟨g, k, none⟩ = some u := ⟨cur[k], by rw [cell_of_row w g k _ _ _ h]; exact Array.getElem?_eq_getElem hk⟩
theorem same_s {w : World} {va vb : Value} {l : List Int} (ha : Byt w va l) (hb : Byt w vb l) : Calls Tryd.prog 8 #[va, vb] w fun e w' => e = .returned (.bool true) ∧ w = w' := (same_true ha hb).mono fun _ _ h => ⟨h.1, h.2.symm⟩
set_option maxRecDepth 100000 in
set_option maxHeartbeats 16000000 in
theorem writes_walk (E : BitVec 64) (vs vn : Value) (L : List Sg) (N : List Sy) (D : Nat → List Int) (hL : L.length * 48 ≤ 140737488355280) (hN : N.length * 24 ≤ 140737488355328) (w : World) (hi : Img w vs vn L N) (hd : Dts w L D) (hnil : Hid (∀ c k, vn = .slice none k c → k = 0 ∧ c = 0)) (hT : Hid (Tabs w)) :
    Calls Tryd.prog 3 #[.agg #[.int .u64 (n64 E), vs, vn]] w fun e w' => e = .returned (.bool true) ∧ Below w.heap.size w w' := by
  have HI : Hid (Img w vs vn L N) := hi
  have HD : Hid (Dts w L D) := hd
  obtain ⟨sa, sc, rfl, _, _⟩ := hi.segs
  obtain ⟨na, nc, rfl, _, _⟩ := hi.syms
  clear hi hd
  obtain ⟨R, hR⟩ : ∃ R, R = ck E L N := ⟨_, rfl⟩
  have HR : Hid (R = ck E L N) := hR
  clear hR
  have hl : L.length ≤ 140737488355328 := by omega
  have hn : N.length ≤ 140737488355328 := by omega
  have HB1 : Hid (Below w.heap.size w (w.alloc (.cells #[.int .u64 (n64 E), .slice sa L.length sc, .slice na N.length nc] 26))) := (Below.refl _ _).alloc (Nat.le_refl _) _
  have k0 : (w.alloc (.cells #[.int .u64 (n64 E), .slice sa L.length sc, .slice na N.length nc] 26)).cell? ⟨w.heap.size, 0, none⟩ = some (.int .u64 (n64 E)) := by simp
  have k1 : (w.alloc (.cells #[.int .u64 (n64 E), .slice sa L.length sc, .slice na N.length nc] 26)).cell? ⟨w.heap.size, 1, none⟩ = some (.slice sa L.length sc) := by simp
  have k2 : (w.alloc (.cells #[.int .u64 (n64 E), .slice sa L.length sc, .slice na N.length nc] 26)).cell? ⟨w.heap.size, 2, none⟩ = some (.slice na N.length nc) := by simp
  have HLt : Hid (w.heap.size < (w.alloc (.cells #[.int .u64 (n64 E), .slice sa L.length sc, .slice na N.length nc] 26)).heap.size) := by unfold Hid; simp
  go_enter Tryd.func3, Tryd.ntmps3
  go_upto_region 1 with fail
  obtain ⟨Mb, hMb⟩ : ∃ Mb, Mb = w.heap.size := ⟨_, rfl⟩
  rw [← hMb] at k0 k1 k2 HLt ⊢
  have HMb : Hid (Mb = w.heap.size) := hMb
  clear hMb
  generalize (w.alloc (.cells #[.int .u64 (n64 E), .slice sa L.length sc, .slice na N.length nc] 26)) = w1 at *
  have HC0 : Hid (∀ w', Below w1.heap.size w1 w' → w'.cell? ⟨Mb, 0, none⟩ = some (.int .u64 (n64 E)) ∧ w'.cell? ⟨Mb, 1, none⟩ = some (.slice sa L.length sc) ∧ w'.cell? ⟨Mb, 2, none⟩ = some (.slice na N.length nc)) := fun w' hb => ⟨(hb.cell HLt.out).trans k0, (hb.cell HLt.out).trans k1, (hb.cell HLt.out).trans k2⟩
  have HIL : Hid (∀ w', Below w1.heap.size w1 w' → Img w' (.slice sa L.length sc) (.slice na N.length nc) L N ∧ Dts w' L D ∧ Tabs w') := fun w' hb => by
    have h := HB1.out.trans (hb.mono HB1.out.size)
    exact ⟨HI.out.later h rfl, HD.out.later h, hT.out.below h rfl⟩
  have HDL : Hid (∀ j, j < L.length → (D j).length = (sg L j).n) := fun j hj => (HD.out j hj).1
  go_upto_region 2 with (go_at_call 4; refine (twin_d E _ _ L N hL hN w1 (HIL.out w1 (Below.refl _ _)).1 D (HIL.out w1 (Below.refl _ _)).2.1 hnil).mono ?_; rintro e w2 ⟨vs', vn', M, rfl, hal, him, hb2, hdt, hsg⟩; obtain ⟨xa, xc, rfl, _, _⟩ := him.out.segs; obtain ⟨ya, yc, rfl, _, _⟩ := him.out.syms)
  obtain ⟨ml, hml⟩ : ∃ ml, ml = M.length := ⟨_, rfl⟩
  have HML : Hid (ml = M.length) := hml
  have HML2 : Hid (ml = L.length) := hml.trans hal.out.len
  have hmlb : ml ≤ 140737488355328 := by rw [HML2.out]; exact hl
  have hmlI : (ml : Int) ≤ 140737488355328 := by omega
  rw [← hml] at him hsg ⊢
  clear hml
  have HB3 : Hid (Below w2.heap.size w2 (w2.alloc (.cells #[.int .u64 (n64 E), .slice xa ml xc, .slice ya N.length yc] 26))) := (Below.refl _ _).alloc (Nat.le_refl _) _
  have HXr : Hid ((w2.alloc (.cells #[.int .u64 (n64 E), .slice xa ml xc, .slice ya N.length yc] 26)).heap[w2.heap.size]? = some (.cells #[.int .u64 (n64 E), .slice xa ml xc, .slice ya N.length yc] 26 (0, 0))) := heap_alloc_new w2 _
  obtain ⟨Xb, hXb⟩ : ∃ Xb, Xb = w2.heap.size := ⟨_, rfl⟩
  have HXb : Hid (Xb = w2.heap.size) := hXb
  rw [← hXb] at HXr ⊢
  clear hXb
  generalize w2.alloc (.cells #[.int .u64 (n64 E), .slice xa ml xc, .slice ya N.length yc] 26) = w3 at *
  have HB13 : Hid (Below w1.heap.size w1 w3) := hb2.out.trans (HB3.out.mono hb2.out.size)
  have HX0 : Hid (∀ w', Below w3.heap.size w3 w' → w'.heap[Xb]? = some (.cells #[.int .u64 (n64 E), .slice xa ml xc, .slice ya N.length yc] 26 (0, 0))) := fun w' hb => by rw [hb.block Xb (Array.getElem?_eq_some_iff.1 HXr.out).1]; exact HXr.out
  have HXC : Hid (∀ w' : World, w'.heap[Xb]? = some (.cells #[.int .u64 (n64 E), .slice xa ml xc, .slice ya N.length yc] 26 (0, 0)) → w'.cell? ⟨Xb, 0, none⟩ = some (.int .u64 (n64 E)) ∧ w'.cell? ⟨Xb, 1, none⟩ = some (.slice xa ml xc) ∧ w'.cell? ⟨Xb, 2, none⟩ = some (.slice ya N.length yc)) := fun w' h => ⟨cell_of_row w' _ 0 _ _ _ h, cell_of_row w' _ 1 _ _ _ h, cell_of_row w' _ 2 _ _ _ h⟩
  have HDM : Hid (∀ w', Below w2.heap.size w2 w' → DTo w1.heap.size M D M.length w') := fun w' hb j hj => own_later (hdt.out j (by rw [← hal.out.len]; exact hj)) hb rfl
  have HXI : Hid (∀ w', Below w2.heap.size w2 w' → Img w' (.slice xa ml xc) (.slice ya N.length yc) M N ∧ Dts w' M D) := fun w' hb => ⟨him.out.later hb rfl, (HDM.out w' hb).dts (fun j hj => by rw [HDL.out j (by rw [← hal.out.len]; exact hj), hal.out.n j (by rw [← hal.out.len]; exact hj)])⟩
  have HSG : Hid (∀ w', Below w2.heap.size w2 w' → w'.ownsRow w1.heap.size 38 4 (.slice xa ml xc) ml (sgl M)) := fun w' hb => own_later hsg.out hb rfl
  have HAL : Hid (Alike L M) := hal
  have HB12 : Hid (Below w1.heap.size w1 w2) := hb2
  have hRM : Hid (R = ck E M N) := by unfold Hid; rw [ck_alike HAL.out]; exact HR.out
  have HTm : Hid (∀ w', Below w1.heap.size w1 w' → Tabs w') := fun w' hb => (HIL.out w' hb).2.2
  clear k0 k1 k2 him hdt hsg hal hb2
  obtain ⟨x0, x1, x2⟩ := HXC.out w3 HXr.out
  go_upto_region 3 with (go_at_call 5; refine (pwrite E _ _ M N D (by rw [← HML.out]; exact hmlb) hn w3 (HXI.out w3 HB3.out).1 (HXI.out w3 HB3.out).2 (HTm.out w3 HB13.out) R hRM.out).mono ?_; rintro e w4 ⟨vb, rfl, hy, hfr, hb⟩; have HY4 : Hid (Byt w4 vb (ans E L N D)) := (by rw [← ans_alike HAL.out]; exact hy); have HF4 : Hid (From w3.heap.size vb) := hfr; have HB4 : Hid (Below w3.heap.size w3 w4) := hb; clear hy hfr hb)
  have HB14 : Hid (Below w1.heap.size w1 w4) := HB13.out.trans (HB4.out.mono HB13.out.size)
  obtain ⟨i0, i1, i2⟩ := HC0.out w4 HB14.out
  go_upto_region 4 with (go_at_call 6; refine (rwrite E _ _ L N D hl hn w4 (HIL.out w4 HB14.out).1 (HIL.out w4 HB14.out).2.1 (HTm.out w4 HB14.out) R HR.out).mono ?_; rintro e w5 ⟨vr, rfl, hy, hfr, hb⟩; have HYR : Hid (Byt w5 vr (ans E L N D)) := hy; have HFR : Hid (From w4.heap.size vr) := hfr; have HB5 : Hid (Below w4.heap.size w4 w5) := hb; clear hy hfr hb)
  have HB35 : Hid (Below w3.heap.size w3 w5) := HB4.out.trans (HB5.out.mono HB4.out.size)
  have HB15 : Hid (Below w1.heap.size w1 w5) := HB13.out.trans (HB35.out.mono HB13.out.size)
  have HB25 : Hid (Below w2.heap.size w2 w5) := HB3.out.trans (HB35.out.mono HB3.out.size)
  have HYB : Hid (Byt w5 vb (ans E L N D)) := HY4.out.later HB5.out rfl
  obtain ⟨j0, j1, j2⟩ := HC0.out w5 HB15.out
  obtain ⟨z0, z1, z2⟩ := HXC.out w5 (HX0.out w5 HB35.out)
  have cAl : Hid (Calls Tryd.prog 9 #[.agg #[.int .u64 (n64 E), .slice xa ml xc, .slice ya N.length yc], .agg #[.int .u64 (n64 E), .slice sa L.length sc, .slice na N.length nc]] w5 fun e w' => e = .returned (.bool true) ∧ Below w5.heap.size w5 w') := alike_c E _ _ _ _ L M N D hl hn w5 (HXI.out w5 HB25.out).1 (HIL.out w5 HB15.out).1 HAL.out (HXI.out w5 HB25.out).2 (HIL.out w5 HB15.out).2.1
  go_upto_region 6 with (first | (go_at_call 7; refine (num_c _ _).mono ?_; rintro e w' ⟨rfl, rfl⟩) | (go_at_call 8; refine (same_s HYB.out HYR.out).mono ?_; rintro e w' ⟨rfl, rfl⟩) | (go_at_call 9; refine cAl.out.mono ?_; rintro e w6 ⟨rfl, hb⟩; have HB6 : Hid (Below w5.heap.size w5 w6) := hb; clear hb))
  have HB36 : Hid (Below w3.heap.size w3 w6) := HB35.out.trans (HB6.out.mono HB35.out.size)
  have HB26 : Hid (Below w2.heap.size w2 w6) := HB25.out.trans (HB6.out.mono HB25.out.size)
  have HB16 : Hid (Below w1.heap.size w1 w6) := HB15.out.trans (HB6.out.mono HB15.out.size)
  have HX6 : Hid (w6.heap[Xb]? = some (.cells #[.int .u64 (n64 E), .slice xa ml xc, .slice ya N.length yc] 26 (0, 0))) := HX0.out w6 HB36.out
  have HSG6 : Hid (w6.ownsRow w1.heap.size 38 4 (.slice xa ml xc) ml (sgl M)) := HSG.out w6 HB26.out
  have HDM6 : Hid (DTo w1.heap.size M D M.length w6) := HDM.out w6 HB26.out
  have HDM3 : Hid (DTo w1.heap.size M D M.length w3) := HDM.out w3 HB3.out
  have HYB6 : Hid (Byt w6 vb (ans E L N D)) := HYB.out.later HB6.out rfl
  have HYR6 : Hid (Byt w6 vr (ans E L N D)) := HYR.out.later HB6.out rfl
  have HFR3 : Hid (From w3.heap.size vr) := fun a n c e => Nat.le_trans HB4.out.size (HFR.out a n c e)
  have HMN : Hid (∀ j, j < ml → (sg M j).n ≤ 140737488355328) := fun j hj => (HXI.out w3 HB3.out).1.lens j (by rw [← HML.out]; exact hj)
  clear i0 i1 i2 j0 j1 j2 z0 z1 z2 x0 x1 x2 cAl HYB HYR HY4 HX0 HXI HSG HDM HIL HC0
  go_wp2
  go_loopw [8, 9] (fun i _ wr => ∃ a : Nat, a ≤ ml ∧ i = .int .i64 a ∧ Hid (EE w1.heap.size w3.heap.size w6 wr)) (fun i _ _ => ml - (intOf i).toNat)
  case atStart => exact ⟨0, Nat.zero_le _, rfl, EE.refl _ _ _⟩
  case round =>
    obtain ⟨a, ha, rfl, he⟩ := hrel
    obtain ⟨x0, x1, x2⟩ := HXC.out wr (he.out.nonb _ _ _ _ (by decide) HX6.out)
    by_cases hlt : a < ml
    · have hltI : (a : Int) < (ml : Int) := by omega
      obtain ⟨n, hn⟩ : ∃ n, n = (sg M a).n := ⟨_, rfl⟩
      have HNN : Hid (n = (sg M a).n) := hn
      have hnb : n ≤ 140737488355328 := by rw [hn]; exact HMN.out a hlt
      have hnI : (n : Int) ≤ 140737488355328 := by omega
      obtain ⟨m, hm⟩ : ∃ m, m = (sg M a).m := ⟨_, rfl⟩
      obtain ⟨c, hc⟩ : ∃ c, c = (sg M a).c := ⟨_, rfl⟩
      have HOW : Hid (w6.ownsRow w1.heap.size 5 1 (.slice m n c) n (bv (D a))) := by unfold Hid; rw [hm, hn, hc]; exact HDM6.out a (by rw [← HML.out]; exact hlt)
      have HOW3 : Hid (w3.ownsRow w1.heap.size 5 1 (.slice m n c) n (bv (D a))) := by unfold Hid; rw [hm, hn, hc]; exact HDM3.out a (by rw [← HML.out]; exact hlt)
      have hsl : Hid (Value.slice (sg M a).m (sg M a).n (sg M a).c = .slice m n c) := by unfold Hid; rw [hm, hn, hc]
      obtain ⟨gs, go, HGS⟩ : ∃ gs go, Hid (∀ wx, EE w1.heap.size w3.heap.size w6 wx → xa = some ⟨gs, go, none⟩ ∧ wx.cell? ⟨gs, go + a * 4 + 3, none⟩ = some (.slice m n c)) := by
        have hh := fun wx (h : EE w1.heap.size w3.heap.size w6 wx) => Sgs.of_own (show wx.ownsRow w1.heap.size 38 4 (.slice xa ml xc) M.length (sgl M) by rw [← HML.out]; exact h.row (by decide) HSG6.out)
        have hne : M ≠ [] := by intro e; have := HML.out; rw [e] at this; simp only [List.length_nil] at this; omega
        obtain ⟨_, _, h1, _, h2⟩ := hh w6 (EE.refl _ _ _)
        simp only [Value.slice.injEq] at h1
        obtain ⟨rfl, _, rfl⟩ := h1
        obtain ⟨g, o, rfl, _, _⟩ := h2 hne
        refine ⟨g, o, fun wx hx => ⟨rfl, ?_⟩⟩
        obtain ⟨_, _, h1, _, h2⟩ := hh wx hx
        simp only [Value.slice.injEq] at h1
        obtain ⟨rfl, _, rfl⟩ := h1
        obtain ⟨g', o', h3, _, h4⟩ := h2 hne
        cases h3
        have := (h4 a (by rw [← HML.out]; exact hlt)).2.2.2
        rw [hsl.out] at this
        exact this
      obtain ⟨hxa, s3⟩ := HGS.out wr he.out
      subst hxa
      clear hn hm hc
      go_wp2
      go_loopw [9] (fun i wx => ∃ b : Nat, b ≤ n ∧ i = .int .i64 b ∧ Hid (EE w1.heap.size w3.heap.size w6 wx)) (fun i _ => n - (intOf i).toNat)
      case atStart => exact ⟨0, Nat.zero_le _, rfl, he⟩
      case round =>
        obtain ⟨b, hb, rfl, hx⟩ := hrel
        clear x0 x1 x2 s3
        obtain ⟨x0, x1, x2⟩ := HXC.out _ (hx.out.nonb _ _ _ _ (by decide) HX6.out)
        have s3 := (HGS.out _ hx.out).2
        by_cases hbl : b < n
        · have hblI : (b : Int) < (n : Int) := by omega
          obtain ⟨gd, cur, rfl, hg1, hg2, hsz, hrow⟩ := hx.out.part HOW.out (Nat.le_refl _) b hbl
          have hg3 : gd < w3.heap.size := (HOW3.out.lt gd rfl).2
          obtain ⟨u, hcell⟩ := cell_at hrow hsz
          have hfro := frozen_of_row _ gd b _ _ hrow
          have HNX : Hid (EE w1.heap.size w3.heap.size w6 (World.setCell _ ⟨gd, b, none⟩ (.int .u8 238))) := hx.out.set hrow hg1 hg3 b (.int .u8 238)
          clear hrow hg1 hg2 hsz
          go_wp2
          go_roundw
          case rel => exact ⟨b + 1, by omega, by go_num, HNX⟩
          case measure => simp only [intOf]; omega
        · obtain rfl : b = n := by omega
          have hblI : ¬ ((b : Int) < b) := by omega
          go_wp2
          go_roundw
          case rel => exact ⟨a + 1, by omega, by go_num, hx⟩
          case measure => simp only [intOf]; omega
    · obtain rfl : a = ml := by omega
      have hltI : ¬ ((a : Int) < a) := by omega
      have HY1 : Hid (Byt wr vb (ans E L N D)) := he.out.byt HYB6.out HF4.out
      have HY2 : Hid (Byt wr vr (ans E L N D)) := he.out.byt HYR6.out HFR3.out
      go_wp2_with (go_at_call 8; refine (same_s HY1.out HY2.out).mono ?_; rintro e w' ⟨rfl, rfl⟩)
      go_ret
      refine ⟨rfl, HB1.out.trans (Below.mono (B := w1.heap.size) ?_ HB1.out.size)⟩
      exact ⟨he.out.os.trans HB16.out.os, he.out.tape.trans HB16.out.tape, he.out.output.trans HB16.out.output, by rw [he.out.size]; exact HB16.out.size, fun k hk => (he.out.outs k (.inl hk)).trans (HB16.out.block k hk)⟩
end Go.Proofs.YtjjdpfmkbaaapaaDoor
