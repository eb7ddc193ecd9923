/-
  Iub.
-/
import Derived.Test.YtopddflnahfomaaGreatDoorM44
import Derived.Deep.RegionWith
namespace Go.Proofs.YtopddflnahfomaaGreatDoor
set_option linter.unusedVariables false
set_option maxRecDepth 100000
open Go.ChangeShapes Go.WideShapes Go.ChangeAt Go.RowKit Go.Deep
theorem Byo.later {w w' : World} {f n : Nat} {l : List Int} (h : Byo w f n l) (hb : Below w.heap.size w w') : Byo w' f n l := ⟨h.1.later hb rfl, by obtain ⟨C, h1, h2⟩ := h.2; exact ⟨C, h1, (hb.block f (heap_lt h2)).trans h2⟩⟩
theorem Byo.len {w : World} {f n : Nat} {l : List Int} (h : Byo w f n l) : n = l.length := by
  obtain ⟨⟨_, _, e, _⟩, _⟩ := h
  simp only [Value.slice.injEq] at e
  exact e.2.1
theorem sm_arg {w : World} {vs vn : Value} {m : Option Addr} {c : Nat} (hi : Img w vs vn (smL m c) smN) (hd : Dta w (smL m c) smD) : Arg w vs vn (smL m c) smN smD := by
  refine ⟨hi, hd, fun j _ => allB_of (by kernel_rfl), fun c k e => ?_, by show 1 * 48 ≤ _; decide, by decide⟩
  obtain ⟨ad, cap, e1, _, h2⟩ := hi.syms
  obtain ⟨g, off, e2, _⟩ := h2 (by decide)
  rw [e1, e2] at e
  simp at e
theorem nd_first {b : List Int} {E : Nat} {L : List Sg} {N : List Sy} {D : Nat → List Int} (h : Nd b E L N D) : b.getD 0 0 = 127 := h.hd.mg 0 (by omega)
theorem Byo.exc {S : Nat → Prop} {w w' : World} {f n : Nat} {l : List Int} (h : Byo w f n l) (he : Exc S w w') (hS : ¬ S f) : Byo w' f n l := ⟨h.1.exc he (fun g off m c e => by simp only [Value.slice.injEq, Option.some.injEq, Addr.mk.injEq] at e; rw [← e.1.1]; exact hS), by obtain ⟨C, h1, h2⟩ := h.2; exact ⟨C, h1, (he.block f (heap_lt h2) hS).trans h2⟩⟩
theorem Sgs.oth {w w' : World} {gI : Nat} {x : Int} {s1 s2 : Option Addr} {n1 c1 n2 c2 : Nat} {T : TypeId} {fr : Nat × Nat} (ho : Oth gI w w') (hr : w.heap[gI]? = some (.cells #[.int .u64 x, .slice s1 n1 c1, .slice s2 n2 c2] T fr)) {v : Value} {L : List Sg} (h : Sgs w v L) : Sgs w' v L := by
  obtain ⟨ad, cap, rfl, h1, h2⟩ := h
  refine ⟨ad, cap, rfl, h1, fun hne => ?_⟩
  obtain ⟨g, off, rfl, h3, h4⟩ := h2 hne
  have hg : g ≠ gI := by
    rintro rfl
    have hc := (h4 0 (List.length_pos_iff.2 hne)).2.1
    rw [cell_of_row w g _ _ _ _ hr] at hc
    match off, hc with
    | 0, hc => simp at hc
    | 1, hc => simp at hc
    | n + 2, hc => simp at hc
  have e : ∀ k, w'.cell? ⟨g, k, none⟩ = w.cell? ⟨g, k, none⟩ := fun k => World.cell?_of_block (w := w) (ho.block g h3 hg)
  refine ⟨g, off, rfl, Nat.lt_of_lt_of_le h3 ho.size, fun j hj => ?_⟩
  rw [e, e, e, e]
  exact h4 j hj
theorem Sys.oth {w w' : World} {gI : Nat} {x : Int} {s1 s2 : Option Addr} {n1 c1 n2 c2 : Nat} {T : TypeId} {fr : Nat × Nat} (ho : Oth gI w w') (hr : w.heap[gI]? = some (.cells #[.int .u64 x, .slice s1 n1 c1, .slice s2 n2 c2] T fr)) {v : Value} {N : List Sy} (h : Sys w v N) : Sys w' v N := by
  obtain ⟨ad, cap, rfl, h1, h2⟩ := h
  refine ⟨ad, cap, rfl, h1, fun hne => ?_⟩
  obtain ⟨g, off, rfl, h3, h4⟩ := h2 hne
  have hg : g ≠ gI := by
    rintro rfl
    have hc := (h4 0 (List.length_pos_iff.2 hne)).1
    rw [cell_of_row w g _ _ _ _ hr] at hc
    match off, hc with
    | 0, hc => simp at hc
    | 1, hc => simp at hc
    | 2, hc => simp at hc
    | n + 3, hc => simp at hc
  have e : ∀ k, w'.cell? ⟨g, k, none⟩ = w.cell? ⟨g, k, none⟩ := fun k => World.cell?_of_block (w := w) (ho.block g h3 hg)
  refine ⟨g, off, rfl, Nat.lt_of_lt_of_le h3 ho.size, fun j hj => ?_⟩
  rw [e, e]
  exact h4 j hj
theorem Byt.oth {w w' : World} {gI : Nat} {x : Int} {s1 s2 : Option Addr} {n1 c1 n2 c2 : Nat} {T : TypeId} {fr : Nat × Nat} (ho : Oth gI w w') (hr : w.heap[gI]? = some (.cells #[.int .u64 x, .slice s1 n1 c1, .slice s2 n2 c2] T fr)) {v : Value} {l : List Int} (h : Byt w v l) : Byt w' v l := by
  obtain ⟨ad, cap, rfl, h1, h1', h2⟩ := h
  refine ⟨ad, cap, rfl, h1, h1', fun hne => ?_⟩
  obtain ⟨g, off, rfl, h3, h4⟩ := h2 hne
  have hg : g ≠ gI := by
    rintro rfl
    have hc := h4 0 (List.length_pos_iff.2 hne)
    rw [cell_of_row w g _ _ _ _ hr] at hc
    match off, hc with
    | 0, hc => simp at hc
    | 1, hc => simp at hc
    | 2, hc => simp at hc
    | n + 3, hc => simp at hc
  have e : ∀ k, w'.cell? ⟨g, k, none⟩ = w.cell? ⟨g, k, none⟩ := fun k => World.cell?_of_block (w := w) (ho.block g h3 hg)
  refine ⟨g, off, rfl, Nat.lt_of_lt_of_le h3 ho.size, fun j hj => ?_⟩
  rw [e]
  exact h4 j hj
theorem Arg.oth {w w' : World} {gI : Nat} {x : Int} {s1 s2 : Option Addr} {n1 c1 n2 c2 : Nat} {T : TypeId} {fr : Nat × Nat} (ho : Oth gI w w') (hr : w.heap[gI]? = some (.cells #[.int .u64 x, .slice s1 n1 c1, .slice s2 n2 c2] T fr)) {vs vn : Value} {L : List Sg} {N : List Sy} {D : Nat → List Int} (h : Arg w vs vn L N D) : Arg w' vs vn L N D :=
  ⟨⟨Sgs.oth ho hr h.im.segs, Sys.oth ho hr h.im.syms, h.im.lens, h.im.texts⟩, fun j hj => ⟨(h.da j hj).1, Byt.oth ho hr (h.da j hj).2⟩, h.by', h.nil, h.nL, h.nN⟩
/-- A row of bytes is written over. -/
structure Wov (f n : Nat) (w0 w : World) : Prop where
  o : Oth f w0 w
  c : ∃ C : Array Value, C.size = n ∧ w.heap[f]? = some (.cells C 5 (0, 0))
theorem Wov.start {w : World} {f n : Nat} {l : List Int} (h : Byo w f n l) : Wov f n w w := ⟨Oth.refl _ _, by obtain ⟨C, h1, h2⟩ := h.2; exact ⟨C, h1, h2⟩⟩
theorem Wov.set {f n : Nat} {w0 w : World} (h : Wov f n w0 w) (k : Nat) (u : Value) : Wov f n w0 (w.setCell ⟨f, k, none⟩ u) := ⟨h.o.set k u, by obtain ⟨C, h1, h2⟩ := h.c; exact ⟨_, by rw [Array.size_setIfInBounds]; exact h1, heap_setCell_same w f k _ _ _ h2⟩⟩
theorem Wov.cell {f n : Nat} {w0 w : World} (h : Wov f n w0 w) (k : Nat) (hk : k < n) : ∃ y, w.cell? ⟨f, k, none⟩ = some y := by
  obtain ⟨C, h1, h2⟩ := h.c
  exact ⟨C[k], (cell_of_row w f k _ _ _ h2).trans (Array.getElem?_eq_getElem (by omega))⟩
theorem Wov.frozen {f n : Nat} {w0 w : World} (h : Wov f n w0 w) (k : Nat) : w.frozen? ⟨f, k, none⟩ = false := by
  obtain ⟨C, h1, h2⟩ := h.c
  exact frozen_of_row w f k _ _ h2
set_option maxHeartbeats 16000000 in
theorem own_im_no (E0 : BitVec 64) (vs vn : Value) (L0 : List Sg) (N0 : List Sy) (D0 : Nat → List Int) (w : World) (h : Arg w vs vn L0 N0 D0) (hT : Tabs w) (hE : EtW w) (hx0 : L0.length ≠ 0) (hc : ¬ ck E0 L0 N0 = 0) :
    Calls Tryz.prog 3 #[.agg #[.int .u64 (n64 E0), vs, vn]] w fun e w' => e = .returned (.bool true) ∧ Below w.heap.size w w' := by
  obtain ⟨sa0, sc0, rfl, _⟩ := h.im.segs
  obtain ⟨na0, nc0, rfl, _⟩ := h.im.syms
  have cFi : Hid (∀ wx, Below w.heap.size w wx → Calls Tryz.prog 4 #[] wx fun e w' => e = .returned (.bool true) ∧ Below wx.heap.size wx w') := fun wx hx => first_c wx (hT.below hx rfl) (hE.below hx rfl)
  obtain ⟨E, hEE⟩ : ∃ E, E = E0 := ⟨_, rfl⟩
  obtain ⟨L, hLL⟩ : ∃ L, L = L0 := ⟨_, rfl⟩
  obtain ⟨N, hNN⟩ : ∃ N, N = N0 := ⟨_, rfl⟩
  obtain ⟨D, hDD⟩ : ∃ D, D = D0 := ⟨_, rfl⟩
  subst hEE hLL hNN hDD
  obtain ⟨ln, hlnE⟩ : ∃ ln, ln = L.length := ⟨_, rfl⟩
  obtain ⟨nn, hnnE⟩ : ∃ nn, nn = N.length := ⟨_, rfl⟩
  rw [← hlnE, ← hnnE] at h ⊢
  have hln : Hid (L.length = ln) := hlnE.symm
  have hl0 : Hid (0 < ln) := by unfold Hid; omega
  have hl0b : ((ln : Int) == 0) = false := by rw [beq_eq_false_iff_ne]; omega
  have HA0 : Hid (∀ w', Below w.heap.size w w' → Arg w' (.slice sa0 ln sc0) (.slice na0 nn nc0) L N D) := fun w' hb => h.later hb
  have HT0 : Hid (∀ w', Below w.heap.size w w' → Tabs w') := fun w' hb => hT.below hb rfl
  have HE0 : Hid (∀ w', Below w.heap.size w w' → EtW w') := fun w' hb => hE.below hb rfl
  obtain ⟨R, hR0⟩ : ∃ R, R = ck E L N := ⟨_, rfl⟩
  have hR : Hid (R = ck E L N) := hR0
  have hRb : (R != 0) = true := by rw [bne_iff_ne, hR0]; exact hc
  have hRe : (R == R) = true := by simp
  clear hR0 hc
  clear h hT hE hlnE hnnE hx0
  generalize hEN : n64 E = EN0
  go_enter Tryz.func3, Tryz.ntmps3
  go_upto_region 1 with fail
  refine on_w (motive := fun W => Code.wp _ _ _ _ W) (Q := fun W => W.heap[w.heap.size]? = some (.cells #[.int .u64 EN0, .slice sa0 ln sc0, .slice na0 nn nc0] 26 (0, 0)) ∧ Below w.heap.size w W) ⟨heap_alloc_new w _, below_al _⟩ ?_
  generalize hgI : w.heap.size = gI
  rintro W0 ⟨s1, s2⟩
  have RI0 : Hid (∀ W, Below W0.heap.size W0 W → W.heap[gI]? = some (.cells #[.int .u64 EN0, .slice sa0 ln sc0, .slice na0 nn nc0] 26 (0, 0))) := fun W hb => (hb.block gI (heap_lt s1)).trans s1
  have H10 : Hid (∀ W, Below W0.heap.size W0 W → Below w.heap.size w W) := fun W hb => by rw [hgI]; exact s2.trans (hb.mono (Nat.le_of_lt (heap_lt s1)))
  have B0 : Hid (Below W0.heap.size W0 W0) := Below.refl _ _
  clear s1 s2 hgI
  go_upto_region 3 with (go_at_call 4; refine (cFi.out _ (H10.out _ B0.out)).mono ?_; rintro e W1 ⟨rfl, q1⟩; have B01 := Hid.mkI q1; clear q1 cFi)
  have r1 := RI0.out _ B01.out
  have c1 := cell_of_row _ gI 1 _ _ _ r1
  clear r1
  go_upto_region 5 with fail
  clear c1
  have RI : Hid (∀ W, Below W1.heap.size W1 W → W.heap[gI]? = some (.cells #[.int .u64 (n64 E), .slice sa0 ln sc0, .slice na0 nn nc0] 26 (0, 0))) := fun W hb => by rw [hEN]; exact RI0.out W (B01.out.trans (hb.mono B01.out.size))
  have H1 : Hid (∀ W, Below W1.heap.size W1 W → Below w.heap.size w W) := fun W hb => H10.out W (B01.out.trans (hb.mono B01.out.size))
  have HA : Hid (∀ W, Below W1.heap.size W1 W → Arg W (.slice sa0 ln sc0) (.slice na0 nn nc0) L N D) := fun W hb => HA0.out _ (H1.out W hb)
  have HTB : Hid (∀ W, Below W1.heap.size W1 W → Tabs W) := fun W hb => HT0.out _ (H1.out W hb)
  have HET : Hid (∀ W, Below W1.heap.size W1 W → EtW W) := fun W hb => HE0.out _ (H1.out W hb)
  clear RI0 H10 HA0 HT0 HE0 B01 B0 hl0b
  subst hEN
  generalize sa0 = sa at *
  generalize sc0 = sc at *
  generalize na0 = na at *
  generalize nc0 = nc at *
  --@P1
  have cTw : Hid (∀ wx, Below W1.heap.size W1 wx → Calls Tryz.prog 7 #[.agg #[.int .u64 (n64 E), .slice sa ln sc, .slice na nn nc]] wx fun e w' => ∃ a1 a2 a3 b1 b2 b3 M, e = .returned (.agg #[.int .u64 (n64 E), .slice a1 a2 a3, .slice b1 b2 b3]) ∧ (Alike L M ∧ Img w' (.slice a1 a2 a3) (.slice b1 b2 b3) M N ∧ Dta w' M D) ∧ Below wx.heap.size wx w') := fun wx hx => ((HA.out wx hx).twin E).mono fun e w' ⟨a1, a2, a3, b1, b2, b3, M, he, q1, q2, q3, q4⟩ => ⟨a1, a2, a3, b1, b2, b3, M, he, ⟨q1, q2, q3⟩, q4⟩
  have hnum : Hid (∀ z W, Calls Tryz.prog 8 #[.int .i64 z] W fun e w' => e = .returned (.int .i64 z) ∧ w' = W) := fun z W => num_c z W
  have B1 : Hid (Below W1.heap.size W1 W1) := Below.refl _ _
  have cWr : Hid (∀ wx us un M, Below W1.heap.size W1 wx → (Alike L M ∧ Img wx us un M N ∧ Dta wx M D) → Calls Tryz.prog 6 #[.agg #[.int .u64 (n64 E), us, un]] wx fun e w' => ∃ a n cap, e = .returned (.tuple #[.slice a n cap, .int .i64 R]) ∧ Below wx.heap.size wx w') := fun wx us un M hx hq => ((HA.out _ B1.out).write E hq.1 hq.2.1 hq.2.2 (HTB.out _ hx) R hR.out).mono fun e w' ⟨a, n, cap, h1, h2, h3, _, h5⟩ => ⟨a, n, cap, h1, h5⟩
  clear HA HTB HET hR
  generalize n64 E = EN at *
  have r0 := RI.out _ B1.out
  have a0 := cell_of_row _ gI 0 _ _ _ r0
  have a1 := cell_of_row _ gI 1 _ _ _ r0
  have a2 := cell_of_row _ gI 2 _ _ _ r0
  clear r0
  go_upto_region 6 with (first | (go_at_call 7; refine (cTw.out _ B1.out).mono ?_; rintro e w2 ⟨f1, f2, f3, g1, g2, g3, M2, rfl, q1, q2⟩; have HM2 := Hid.mkI q1; have B2 : Hid (Below W1.heap.size W1 w2) := B1.out.trans (q2.mono B1.out.size); clear q1 q2) | (go_at_call 6; refine (cWr.out _ _ _ _ B2.out HM2.out).mono ?_; rintro e w3 ⟨av, nv, cv, rfl, q2⟩; have B3 : Hid (Below W1.heap.size W1 w3) := B2.out.trans (q2.mono B2.out.size); have r0 := RI.out _ B3.out; have b0 := cell_of_row _ gI 0 _ _ _ r0; have b1 := cell_of_row _ gI 1 _ _ _ r0; have b2 := cell_of_row _ gI 2 _ _ _ r0; clear q2 r0))
  clear a0 a1 a2 HM2
  go_upto_region 7 with (first | (go_at_call 7; refine (cTw.out _ B3.out).mono ?_; rintro e w4 ⟨f1, f2, f3, g1, g2, g3, M4, rfl, q1, q2⟩; have HM4 := Hid.mkI q1; have B4 : Hid (Below W1.heap.size W1 w4) := B3.out.trans (q2.mono B3.out.size); clear q1 q2) | (go_at_call 6; refine (cWr.out _ _ _ _ B4.out HM4.out).mono ?_; rintro e w5 ⟨av2, nv2, cv2, rfl, q2⟩; have B5 : Hid (Below W1.heap.size W1 w5) := B4.out.trans (q2.mono B4.out.size); clear q2))
  clear b0 b1 b2 HM4 cTw cWr RI
  go_wp2_with (go_at_call 8; refine (hnum.out _ _).mono ?_; rintro e wz ⟨rfl, hwz⟩; rw [hwz]; clear hwz)
  go_ret
  exact ⟨rfl, H1.out _ B5.out⟩
set_option maxHeartbeats 16000000 in
theorem own_im_yes (E0 : BitVec 64) (vs vn : Value) (L0 : List Sg) (N0 : List Sy) (D0 : Nat → List Int) (w : World) (h : Arg w vs vn L0 N0 D0) (hT : Tabs w) (hE : EtW w) (hx0 : L0.length ≠ 0) (hc0 : ck E0 L0 N0 = 0) :
    Calls Tryz.prog 3 #[.agg #[.int .u64 (n64 E0), vs, vn]] w fun e w' => e = .returned (.bool true) ∧ Below w.heap.size w w' := by
  obtain ⟨sa0, sc0, rfl, _⟩ := h.im.segs
  obtain ⟨na0, nc0, rfl, _⟩ := h.im.syms
  have cFi : Hid (∀ wx, Below w.heap.size w wx → Calls Tryz.prog 4 #[] wx fun e w' => e = .returned (.bool true) ∧ Below wx.heap.size wx w') := fun wx hx => first_c wx (hT.below hx rfl) (hE.below hx rfl)
  obtain ⟨E, hEE⟩ : ∃ E, E = E0 := ⟨_, rfl⟩
  obtain ⟨L, hLL⟩ : ∃ L, L = L0 := ⟨_, rfl⟩
  obtain ⟨N, hNN⟩ : ∃ N, N = N0 := ⟨_, rfl⟩
  obtain ⟨D, hDD⟩ : ∃ D, D = D0 := ⟨_, rfl⟩
  subst hEE hLL hNN hDD
  obtain ⟨ln, hlnE⟩ : ∃ ln, ln = L.length := ⟨_, rfl⟩
  obtain ⟨nn, hnnE⟩ : ∃ nn, nn = N.length := ⟨_, rfl⟩
  rw [← hlnE, ← hnnE] at h ⊢
  have hln : Hid (L.length = ln) := hlnE.symm
  have hl0 : Hid (0 < ln) := by unfold Hid; omega
  have hl0b : ((ln : Int) == 0) = false := by rw [beq_eq_false_iff_ne]; omega
  have HA0 : Hid (∀ w', Below w.heap.size w w' → Arg w' (.slice sa0 ln sc0) (.slice na0 nn nc0) L N D) := fun w' hb => h.later hb
  have HT0 : Hid (∀ w', Below w.heap.size w w' → Tabs w') := fun w' hb => hT.below hb rfl
  have HE0 : Hid (∀ w', Below w.heap.size w w' → EtW w') := fun w' hb => hE.below hb rfl
  have hc : Hid (ck E L N = 0) := hc0
  clear hc0
  clear h hT hE hlnE hnnE hx0
  generalize hEN : n64 E = EN0
  go_enter Tryz.func3, Tryz.ntmps3
  go_upto_region 1 with fail
  refine on_w (motive := fun W => Code.wp _ _ _ _ W) (Q := fun W => W.heap[w.heap.size]? = some (.cells #[.int .u64 EN0, .slice sa0 ln sc0, .slice na0 nn nc0] 26 (0, 0)) ∧ Below w.heap.size w W) ⟨heap_alloc_new w _, below_al _⟩ ?_
  generalize hgI : w.heap.size = gI
  rintro W0 ⟨s1, s2⟩
  have RI0 : Hid (∀ W, Below W0.heap.size W0 W → W.heap[gI]? = some (.cells #[.int .u64 EN0, .slice sa0 ln sc0, .slice na0 nn nc0] 26 (0, 0))) := fun W hb => (hb.block gI (heap_lt s1)).trans s1
  have H10 : Hid (∀ W, Below W0.heap.size W0 W → Below w.heap.size w W) := fun W hb => by rw [hgI]; exact s2.trans (hb.mono (Nat.le_of_lt (heap_lt s1)))
  have B0 : Hid (Below W0.heap.size W0 W0) := Below.refl _ _
  clear s1 s2 hgI
  go_upto_region 3 with (go_at_call 4; refine (cFi.out _ (H10.out _ B0.out)).mono ?_; rintro e W1 ⟨rfl, q1⟩; have B01 := Hid.mkI q1; clear q1 cFi)
  have r1 := RI0.out _ B01.out
  have c1 := cell_of_row _ gI 1 _ _ _ r1
  clear r1
  go_upto_region 5 with fail
  clear c1
  have RI : Hid (∀ W, Below W1.heap.size W1 W → W.heap[gI]? = some (.cells #[.int .u64 (n64 E), .slice sa0 ln sc0, .slice na0 nn nc0] 26 (0, 0))) := fun W hb => by rw [hEN]; exact RI0.out W (B01.out.trans (hb.mono B01.out.size))
  have H1 : Hid (∀ W, Below W1.heap.size W1 W → Below w.heap.size w W) := fun W hb => H10.out W (B01.out.trans (hb.mono B01.out.size))
  have HA : Hid (∀ W, Below W1.heap.size W1 W → Arg W (.slice sa0 ln sc0) (.slice na0 nn nc0) L N D) := fun W hb => HA0.out _ (H1.out W hb)
  have HTB : Hid (∀ W, Below W1.heap.size W1 W → Tabs W) := fun W hb => HT0.out _ (H1.out W hb)
  have HET : Hid (∀ W, Below W1.heap.size W1 W → EtW W) := fun W hb => HE0.out _ (H1.out W hb)
  clear RI0 H10 HA0 HT0 HE0 B01 B0 hl0b
  subst hEN
  generalize sa0 = sa at *
  generalize sc0 = sc at *
  generalize na0 = na at *
  generalize nc0 = nc at *
  --@P1
  have cTw : Hid (∀ wx, Below W1.heap.size W1 wx → Calls Tryz.prog 7 #[.agg #[.int .u64 (n64 E), .slice sa ln sc, .slice na nn nc]] wx fun e w' => ∃ a1 a2 a3 b1 b2 b3 M, e = .returned (.agg #[.int .u64 (n64 E), .slice a1 a2 a3, .slice b1 b2 b3]) ∧ (Alike L M ∧ Img w' (.slice a1 a2 a3) (.slice b1 b2 b3) M N ∧ Dta w' M D) ∧ Below wx.heap.size wx w') := fun wx hx => ((HA.out wx hx).twin E).mono fun e w' ⟨a1, a2, a3, b1, b2, b3, M, he, q1, q2, q3, q4⟩ => ⟨a1, a2, a3, b1, b2, b3, M, he, ⟨q1, q2, q3⟩, q4⟩
  have hnum : Hid (∀ z W, Calls Tryz.prog 8 #[.int .i64 z] W fun e w' => e = .returned (.int .i64 z) ∧ w' = W) := fun z W => num_c z W
  have B1 : Hid (Below W1.heap.size W1 W1) := Below.refl _ _
  have HND : Hid (Nd (ans E L N D) E.toNat L N D ∧ AllB (ans E L N D) ∧ (ans E L N D).length ≤ 200000) := (HA.out _ B1.out).nd E hc.out
  obtain ⟨nA, hnA⟩ : ∃ nA, nA = (ans E L N D).length := ⟨_, rfl⟩
  have HNA := Hid.mkI hnA
  have HLA : Hid (nA ≤ 200000) := by unfold Hid; rw [hnA]; exact HND.out.2.2
  have hLA2 : (nA : Int) ≤ 200000 := by have := HLA.out; omega
  have cWr : Hid (∀ wx us un M, Below W1.heap.size W1 wx → (Alike L M ∧ Img wx us un M N ∧ Dta wx M D) → Calls Tryz.prog 6 #[.agg #[.int .u64 (n64 E), us, un]] wx fun e w' => ∃ f, wx.heap.size ≤ f ∧ e = .returned (.tuple #[.slice (some ⟨f, 0, none⟩) nA nA, .int .i64 0]) ∧ Byo w' f nA (ans E L N D) ∧ Below wx.heap.size wx w') := fun wx us un M hx hq => ((HA.out _ B1.out).write_o E hq.1 hq.2.1 hq.2.2 (HTB.out _ hx) hc.out).mono fun e w' ⟨f, n, h1, h2, h3, h4⟩ => by
    have e9 := h3.len
    rw [← HNA.out] at e9
    subst e9
    exact ⟨f, h1, h2, h3, h4⟩
  have cRd : Hid (∀ wx vb, Below W1.heap.size W1 wx → Byt wx vb (ans E L N D) → Calls Tryz.prog 9 #[vb] wx fun e w' => ∃ g off uc vm vn vc L', e = .returned (.tuple #[.agg #[.int .u64 (n64 E), .slice (some ⟨g, off, none⟩) ln uc, .slice vm vn vc], .nilIface]) ∧ (L'.length = ln ∧ ImO (ans E L N D) wx.heap.size w' (.slice (some ⟨g, off, none⟩) ln uc) (.slice vm vn vc) L') ∧ Below wx.heap.size wx w') := fun wx vb hx hv => (nd_reado HND.out.1 hc.out HND.out.2.1 vb wx hv (HTB.out _ hx) (HET.out _ hx)).mono fun e w' ⟨um, un, uc, vm, vn, vc, L', he, q1, q3, q4⟩ => by
    have hl : L'.length = ln := q1.len.trans hln.out
    obtain ⟨ad, cap, e1, _, h2⟩ := q3.imq.segs
    obtain ⟨g, off, rfl, _⟩ := h2 (by intro e0; rw [e0] at hl; have := hl0.out; simp at hl; omega)
    simp only [Value.slice.injEq] at e1
    obtain ⟨rfl, rfl, rfl⟩ := e1
    rw [hl] at he q3
    exact ⟨g, off, uc, vm, vn, vc, L', he, ⟨hl, q3⟩, q4⟩
  have cAl : Hid (∀ wx u v L' B, Below W1.heap.size W1 wx → ImO (ans E L N D) B wx u v L' → Calls Tryz.prog 10 #[.agg #[.int .u64 (n64 E), u, v], .agg #[.int .u64 (n64 E), .slice sa ln sc, .slice na nn nc]] wx fun e w' => e = .returned (.bool true) ∧ Below wx.heap.size wx w') := fun wx u v L' B hx hi => (HA.out wx hx).alike_o E hc.out hi
  have hl16 : ln ≤ 16 := by have := (ck_all hc.out).2.1; have := hln.out; omega
  have HFB : Hid ((ans E L N D).getD 0 0 = 127) := nd_first HND.out.1
  have HA0 : Hid (0 < nA) := by
    have q := HND.out.1.len
    have q2 := sk_lo L L.length
    have q3 := szz_lo L N
    unfold Hid; rw [hnA, q]; omega
  clear HND hnA
  generalize ans E L N D = AN at *
  clear HA hc
  generalize n64 E = EN at *
  have r0 := RI.out _ B1.out
  have a0 := cell_of_row _ gI 0 _ _ _ r0
  have a1 := cell_of_row _ gI 1 _ _ _ r0
  have a2 := cell_of_row _ gI 2 _ _ _ r0
  clear r0
  go_upto_region 6 with (first | (go_at_call 7; refine (cTw.out _ B1.out).mono ?_; rintro e w2 ⟨i1, i2, i3, g1, g2, g3, M2, rfl, q1, q2⟩; have HM2 := Hid.mkI q1; have B2 : Hid (Below W1.heap.size W1 w2) := B1.out.trans (q2.mono B1.out.size); clear q1 q2) | (go_at_call 6; refine (cWr.out _ _ _ _ B2.out HM2.out).mono ?_; rintro e w3 ⟨f1, q0, rfl, q1, q2⟩; have HF1 : Hid (W1.heap.size ≤ f1) := Nat.le_trans B2.out.size q0; have HY3 := Hid.mkI q1; have B3 : Hid (Below W1.heap.size W1 w3) := B2.out.trans (q2.mono B2.out.size); have r0 := RI.out _ B3.out; have b0 := cell_of_row _ gI 0 _ _ _ r0; have b1 := cell_of_row _ gI 1 _ _ _ r0; have b2 := cell_of_row _ gI 2 _ _ _ r0; clear q0 q1 q2 r0))
  clear a0 a1 a2 HM2
  go_upto_region 7 with (first | (go_at_call 7; refine (cTw.out _ B3.out).mono ?_; rintro e w4 ⟨i1, i2, i3, g1, g2, g3, M4, rfl, q1, q2⟩; have HM4 := Hid.mkI q1; have B34 := Hid.mkI q2; have B4 : Hid (Below W1.heap.size W1 w4) := B3.out.trans (q2.mono B3.out.size); clear q1 q2) | (go_at_call 6; refine (cWr.out _ _ _ _ B4.out HM4.out).mono ?_; rintro e w5 ⟨f2, q0, rfl, q1, q2⟩; have HF2 : Hid (w3.heap.size ≤ f2) := Nat.le_trans B34.out.size q0; have HC5 := Hid.mkI q1; have B35 : Hid (Below w3.heap.size w3 w5) := B34.out.trans (q2.mono B34.out.size); have B5 : Hid (Below W1.heap.size W1 w5) := B4.out.trans (q2.mono B4.out.size); clear q0 q1 q2))
  clear b0 b1 b2 HM4 cTw cWr
  have HY5 : Hid (Byo w5 f1 nA AN) := HY3.out.later B35.out
  have HF12 : Hid (f1 ≠ f2) := by
    have q1 : f1 < w3.heap.size := by obtain ⟨C, _, h2⟩ := HY3.out.2; exact heap_lt h2
    have q2 := HF2.out
    unfold Hid; omega
  clear HY3 HF2
  --@Q1
  go_upto_region 10 with (first | (go_at_call 8; refine (hnum.out _ _).mono ?_; rintro e wz ⟨rfl, hwz⟩; rw [hwz]; clear hwz) | (go_at_call 9; refine (cRd.out _ _ B5.out HY5.out.1).mono ?_; rintro e w6 ⟨gs, os, xc, vm, vn, vc, LX, rfl, q1, q2⟩; have HX6 := Hid.mkI q1; have B56 := Hid.mkI q2; clear q1 q2))
  --@Q2
  refine on_w (motive := fun W => Code.wp _ _ _ _ W) (Q := fun W => W.heap[w6.heap.size]? = some (.cells #[.int .u64 EN, .slice (some ⟨gs, os, none⟩) ln xc, .slice vm vn vc] 26 (0, 0)) ∧ Below w6.heap.size w6 W) ⟨heap_alloc_new w6 _, below_al _⟩ ?_
  generalize hgX : w6.heap.size = gX
  rintro W7 ⟨s1, s2⟩
  have RX7 := Hid.mkI s1
  have B67 : Hid (Below w6.heap.size w6 W7) := by unfold Hid; rw [hgX]; exact s2
  have HX7 : Hid (ImO AN w5.heap.size W7 (.slice (some ⟨gs, os, none⟩) ln xc) (.slice vm vn vc) LX) := HX6.out.2.below B67.out
  have HXL := Hid.mkI HX6.out.1
  have B57 : Hid (Below w5.heap.size w5 W7) := B56.out.trans (B67.out.mono B56.out.size)
  have B7 : Hid (Below W1.heap.size W1 W7) := B5.out.trans (B57.out.mono B5.out.size)
  have HY7 : Hid (Byo W7 f1 nA AN) := HY5.out.later B57.out
  have HC7 : Hid (Byo W7 f2 nA AN) := HC5.out.later B57.out
  clear s1 s2 hgX HX6 B56 B67
  --@Q3
  go_upto_region 11 with (go_at_call 9; refine (cRd.out _ _ B7.out HY7.out.1).mono ?_; rintro e w8 ⟨gt, ot, yc, zm, zn, zc, LY, rfl, q1, q2⟩; have HY8 := Hid.mkI q1.2; have B78 := Hid.mkI q2; clear q1 q2)
  refine on_w (motive := fun W => Code.wp _ _ _ _ W) (Q := fun W => W.heap[w8.heap.size]? = some (.cells #[.int .u64 EN, .slice (some ⟨gt, ot, none⟩) ln yc, .slice zm zn zc] 26 (0, 0)) ∧ Below w8.heap.size w8 W) ⟨heap_alloc_new w8 _, below_al _⟩ ?_
  generalize hgY : w8.heap.size = gY
  rintro W9 ⟨s1, s2⟩
  have B89 : Hid (Below w8.heap.size w8 W9) := by unfold Hid; rw [hgY]; exact s2
  have B79 : Hid (Below W7.heap.size W7 W9) := B78.out.trans (B89.out.mono B78.out.size)
  have B9 : Hid (Below W1.heap.size W1 W9) := B7.out.trans (B79.out.mono B7.out.size)
  have RY9 : Hid (W9.heap[gY]? = some (.cells #[.int .u64 EN, .slice (some ⟨gt, ot, none⟩) ln yc, .slice zm zn zc] 26 (0, 0))) := s1
  have RX9 : Hid (W9.heap[gX]? = some (.cells #[.int .u64 EN, .slice (some ⟨gs, os, none⟩) ln xc, .slice vm vn vc] 26 (0, 0))) := (B79.out.block gX (heap_lt RX7.out)).trans RX7.out
  have HX9 : Hid (ImO AN w5.heap.size W9 (.slice (some ⟨gs, os, none⟩) ln xc) (.slice vm vn vc) LX) := HX7.out.below B79.out
  have HZ9 : Hid (ImO AN W7.heap.size W9 (.slice (some ⟨gt, ot, none⟩) ln yc) (.slice zm zn zc) LY) := HY8.out.below B89.out
  have HY9 : Hid (Byo W9 f1 nA AN) := HY7.out.later B79.out
  have HC9 : Hid (Byo W9 f2 nA AN) := HC7.out.later B79.out
  have HGX : Hid (gX < W7.heap.size) := heap_lt RX7.out
  have HXB : Hid (∀ q, q < ln → ∀ g, (Value.slice (sg LX q).m (sg LX q).n (sg LX q).c).ownBlock = some g → g < W7.heap.size) := fun q hq g hg => ((HX7.out.data.at q (by rw [HXL.out]; exact hq)).2.2.2.lt g hg).2
  have HGS7 : Hid (gs < W7.heap.size) := (HX7.out.segs.lt gs rfl).2
  have HF17 : Hid (f1 < w5.heap.size) := by obtain ⟨C, _, h2⟩ := HY5.out.2; exact heap_lt h2
  have HF27 : Hid (f2 < w5.heap.size) := by obtain ⟨C, _, h2⟩ := HC5.out.2; exact heap_lt h2
  have S57 := B57.out.size
  have S79 := B79.out.size
  have HS57 := Hid.mkI S57
  have HS79 := Hid.mkI S79
  have HGY : Hid (W7.heap.size ≤ gY) := by unfold Hid; rw [← hgY]; exact B78.out.size
  clear s1 s2 hgY S57 S79 RX7 HX7 HY8 HY7 HC7 B78 B89 HY5 HC5
  have hnf : ∀ w : World, (binOp .neq 36 .nilIface .nilIface).run Tryz.prog w = .ok (.bool false) w := fun w => by kernel_rfl
  have hg1 : ∀ (w : World), (eqGuard .neq 36 (.tmp 58) (.const .nilIface) .nilIface .nilIface).run Tryz.prog w = .ok () w := fun w => by kernel_rfl
  have hg2 : ∀ (w : World), (eqGuard .neq 36 (.tmp 61) (.const .nilIface) .nilIface .nilIface).run Tryz.prog w = .ok () w := fun w => by kernel_rfl
  --@Q4
  have HR9 : Hid (∀ W, Below W9.heap.size W9 W → W.heap[gI]? = some (.cells #[.int .u64 EN, .slice sa ln sc, .slice na nn nc] 26 (0, 0)) ∧ W.heap[gX]? = some (.cells #[.int .u64 EN, .slice (some ⟨gs, os, none⟩) ln xc, .slice vm vn vc] 26 (0, 0)) ∧ W.heap[gY]? = some (.cells #[.int .u64 EN, .slice (some ⟨gt, ot, none⟩) ln yc, .slice zm zn zc] 26 (0, 0))) := fun W hb => ⟨RI.out _ (B9.out.trans (hb.mono B9.out.size)), (hb.block gX (heap_lt RX9.out)).trans RX9.out, (hb.block gY (heap_lt RY9.out)).trans RY9.out⟩
  have HI9 : Hid (∀ W, Below W9.heap.size W9 W → ImO AN w5.heap.size W (.slice (some ⟨gs, os, none⟩) ln xc) (.slice vm vn vc) LX ∧ ImO AN W7.heap.size W (.slice (some ⟨gt, ot, none⟩) ln yc) (.slice zm zn zc) LY) := fun W hb => ⟨HX9.out.below hb, HZ9.out.below hb⟩
  have HB9 : Hid (∀ W, Below W9.heap.size W9 W → Below W1.heap.size W1 W) := fun W hb => B9.out.trans (hb.mono B9.out.size)
  have BD : Hid (Below W9.heap.size W9 W9) := Below.refl _ _
  obtain ⟨r1, r2, r3⟩ := HR9.out _ BD.out
  have a0 := cell_of_row _ gI 0 _ _ _ r1
  have a1 := cell_of_row _ gI 1 _ _ _ r1
  have a2 := cell_of_row _ gI 2 _ _ _ r1
  have x0 := cell_of_row _ gX 0 _ _ _ r2
  have x1 := cell_of_row _ gX 1 _ _ _ r2
  have x2 := cell_of_row _ gX 2 _ _ _ r2
  clear r1 r2 r3
  --@Q5
  go_upto_region 13 with (go_at_call 10; first | (refine (cAl.out _ _ _ LY _ (HB9.out _ BA.out) (HI9.out _ BA.out).2).mono ?_; rintro e wB ⟨rfl, q1⟩; have BB : Hid (Below W9.heap.size W9 wB) := BA.out.trans (q1.mono BA.out.size); obtain ⟨r1, r2, r3⟩ := HR9.out _ BB.out; have d1 := cell_of_row _ gI 1 _ _ _ r1; have z1 := cell_of_row _ gX 1 _ _ _ r2; clear q1 r1 r2 r3) | (refine (cAl.out _ _ _ LX _ (HB9.out _ BD.out) (HI9.out _ BD.out).1).mono ?_; rintro e wA ⟨rfl, q1⟩; have BA : Hid (Below W9.heap.size W9 wA) := BD.out.trans (q1.mono BD.out.size); obtain ⟨r1, r2, r3⟩ := HR9.out _ BA.out; have c0 := cell_of_row _ gI 0 _ _ _ r1; have c1 := cell_of_row _ gI 1 _ _ _ r1; have c2 := cell_of_row _ gI 2 _ _ _ r1; have y0 := cell_of_row _ gY 0 _ _ _ r3; have y1 := cell_of_row _ gY 1 _ _ _ r3; have y2 := cell_of_row _ gY 2 _ _ _ r3; clear q1 r1 r2 r3))
  --@Q6
  clear a0 a1 a2 x0 x1 x2 c0 c1 c2 y0 y1 y2 d1 z1 hnf hg1 hg2
  obtain ⟨V, hV⟩ : ∃ V : Nat → Value, V = fun q => .slice (sg LX q).m (sg LX q).n (sg LX q).c := ⟨_, rfl⟩
  obtain ⟨len, hlen⟩ : ∃ len : Nat → Nat, len = fun q => (sg LX q).n := ⟨_, rfl⟩
  obtain ⟨M, hM⟩ : ∃ M, M = w5.heap.size := ⟨_, rfl⟩
  obtain ⟨M7, hM7⟩ : ∃ M7, M7 = W7.heap.size := ⟨_, rfl⟩
  have HXB0 : Hid (ImO AN M wB (.slice (some ⟨gs, os, none⟩) ln xc) (.slice vm vn vc) LX) := by rw [hM]; exact (HI9.out _ BB.out).1
  have HSB : Hid (M ≤ wB.heap.size) := by unfold Hid; rw [hM]; exact Nat.le_trans HS57.out (Nat.le_trans HS79.out BB.out.size)
  have HIW : Hid (∃ l, Iw2 M ln V len l wB wB) := by
    have q := HXB0.out.iw2 (w0 := wB) (by have := HLA.out; rw [← HNA.out]; exact this) HSB.out
    rw [HXL.out] at q
    rw [hV, hlen]
    exact q
  have HVB : Hid (∀ g, Vbl ln V g → M ≤ g ∧ g < M7) := fun g ⟨q, hq, e⟩ => by
    rw [hV] at e
    refine ⟨((HXB0.out.data.at q (by rw [HXL.out]; exact hq)).2.2.2.lt g e).1, ?_⟩
    rw [hM7]
    exact HXB.out q hq g e
  have HSC : Hid (∀ W, Exc (Vbl ln V) wB W → W.cell? ⟨gX, 1, none⟩ = some (.slice (some ⟨gs, os, none⟩) ln xc) ∧ ∀ q, q < ln → W.cell? ⟨gs, os + q * 4 + 3, none⟩ = some (V q)) := fun W hx => by
    have rX := (HR9.out _ BB.out).2.1
    have nX : ¬ Vbl ln V gX := fun ⟨q, hq, e⟩ => by
      rw [hV] at e
      exact own_kind_ne (HXB0.out.data.at q (by rw [HXL.out]; exact hq)).2.2.2 rX (by decide) gX e rfl
    have nS : ¬ Vbl ln V gs := fun ⟨q, hq, e⟩ => by
      rw [hV] at e
      exact own_kinds (HXB0.out.data.at q (by rw [HXL.out]; exact hq)).2.2.2 HXB0.out.segs (by decide) gs e rfl
    refine ⟨(hx.cell (p := ⟨gX, 1, none⟩) (heap_lt rX) nX).trans (cell_of_row _ gX 1 _ _ _ rX), fun q hq => ?_⟩
    obtain ⟨ad, cap, e1, _, h2⟩ := HXB0.out.imq.segs
    obtain ⟨g, off, e2, h3, h4⟩ := h2 (by intro e0; have q9 := HXL.out; rw [e0] at q9; simp at q9; omega)
    simp only [Value.slice.injEq] at e1
    rw [e2] at e1
    simp only [Option.some.injEq, Addr.mk.injEq] at e1
    obtain ⟨⟨rfl, rfl, _⟩, _⟩ := e1
    rw [hx.cell (p := ⟨gs, os + q * 4 + 3, none⟩) h3 nS, (h4 q (by rw [HXL.out]; exact hq)).2.2.2, hV]
  have HEN : Hid (∀ W, Exc (Vbl ln V) wB W → Below W1.heap.size W1 W ∧ Byo W f1 nA AN ∧ Byo W f2 nA AN ∧ ImO AN M7 W (.slice (some ⟨gt, ot, none⟩) ln yc) (.slice zm zn zc) LY ∧ W.heap[gY]? = some (.cells #[.int .u64 EN, .slice (some ⟨gt, ot, none⟩) ln yc, .slice zm zn zc] 26 (0, 0))) := fun W hx => by
    have b5 := B5.out.size
    have hb : Below W1.heap.size W1 W := (HB9.out _ BB.out).trans (hx.below (HB9.out _ BB.out).size (fun g hg => by have := (HVB.out g hg).1; omega))
    refine ⟨hb, ?_, ?_, ?_, ?_⟩
    · exact (HY9.out.later BB.out).exc hx (fun hg => by have := (HVB.out _ hg).1; have := HF17.out; omega)
    · exact (HC9.out.later BB.out).exc hx (fun hg => by have := (HVB.out _ hg).1; have := HF27.out; omega)
    · have q := (HI9.out _ BB.out).2
      rw [← hM7] at q
      exact q.keepB (fun j h1 h2 => hx.block j h2 (fun hg => by have := (HVB.out j hg).2; omega))
    · have rY := (HR9.out _ BB.out).2.2
      exact (hx.block gY (heap_lt rY) (fun hg => by have := (HVB.out gY hg).2; have := HGY.out; omega)).trans rY
  have HLV : Hid (M7 ≤ wB.heap.size) := by unfold Hid; rw [hM7]; exact Nat.le_trans HS79.out BB.out.size
  have HF1M : Hid (f1 < M) := by rw [hM]; exact HF17.out
  have HMM : Hid (M ≤ M7) := by rw [hM, hM7]; exact HS57.out
  clear HXB0 HSB HXB HXL HR9 HI9 HB9 BB BA BD RX9 RY9 HX9 HZ9 HY9 HC9 hM hM7 hV hlen HGX HGS7 HF17 HF27 HS57 HS79 HGY B9 B79 B7 B57 B5 B35 B3 B34 B1
  --@L0
  go_wp2
  go_loopw [12] (fun i wr => ∃ (k : Nat) (l : Nat → List Int), k ≤ ln ∧ i = .int .i64 k ∧ Hid (∀ q, q < k → ∀ t, t < len q → (l q).getD t 0 = m1 q) ∧ Hid (Iw2 M ln V len l wB wr)) (fun i _ => ln - (intOf i).toNat)
  case atStart => exact (by obtain ⟨l, hl⟩ := HIW.out; exact ⟨0, l, Nat.zero_le _, rfl, fun q hq => by omega, hl⟩)
  case round =>
    obtain ⟨k, l, hk, rfl, hf, hst⟩ := hrel
    clear HIW
    obtain ⟨cx, _⟩ := HSC.out wr hst.out.x
    by_cases hlt : k < ln
    · have hltq : (k : Int) < (ln : Int) := by omega
      obtain ⟨a, cp, hVk⟩ := hst.out.form k hlt
      have hlk : len k ≤ 200000 := hst.out.len k hlt
      --@L1
      go_wp2
      go_loopw [13] (fun j wr => ∃ (t : Nat) (l : Nat → List Int), t ≤ len k ∧ j = .int .i64 t ∧ Hid (∀ q, q < k → ∀ t, t < len q → (l q).getD t 0 = m1 q) ∧ Hid (∀ t', t' < t → (l k).getD t' 0 = m1 k) ∧ Hid (Iw2 M ln V len l wB wr)) (fun j _ => len k - (intOf j).toNat)
      case atStart => exact ⟨0, l, by omega, rfl, hf, (fun t' ht => by omega), hst⟩
      case round =>
        obtain ⟨t, l2, ht, rfl, hf2, hf3, hst2⟩ := hrel
        clear hst hf cx
        obtain ⟨cx, cs⟩ := HSC.out wr hst2.out.x
        have csk : wr.cell? ⟨gs, os + k * 4 + 3, none⟩ = some (.slice a (len k) cp) := by rw [← hVk]; exact cs k hlt
        clear cs
        by_cases hltt : t < len k
        · have hltt2 : (t : Int) < (len k : Int) := by omega
          obtain ⟨g, cp2, hV2⟩ := hst2.out.sm k hlt (by omega)
          rw [hVk] at hV2
          injection hV2 with e1 e2 e3
          subst e1
          have hce : wr.cell? ⟨g, t, none⟩ = some (.int .u8 ((l2 k).getD t 0)) := by
            have ho := hst2.out.own k hlt
            rw [hVk] at ho
            rw [ho.cellAt t (by omega), bv_get _ _ (by rw [hst2.out.ll k hlt]; exact hltt)]
          have hfr : wr.frozen? ⟨g, t, none⟩ = false := by
            have ho := hst2.out.own k hlt
            rw [hVk] at ho
            exact ho.frozenAt t
          have HN : Hid (Iw2 M ln V len (upd l2 k ((l2 k).set t (m1 k))) wB (wr.setCell ⟨g, t, none⟩ (.int .u8 ((k : Int) + 1)))) := hst2.out.put k hlt t hltt (m1 k) hVk
          have HN2 : Hid (∀ q, q < k → ∀ t', t' < len q → (upd l2 k ((l2 k).set t (m1 k)) q).getD t' 0 = m1 q) := fun q hq => by rw [upd_ne _ _ _ _ (by omega)]; exact hf2.out q hq
          have HN3 : Hid (∀ t', t' < t + 1 → (upd l2 k ((l2 k).set t (m1 k)) k).getD t' 0 = m1 k) := by unfold Hid; rw [upd_at]; exact set_getD (hst2.out.ll k hlt) hltt hf3.out
          have hmod : ((k : Int) + 1) % 256 = (k : Int) + 1 := by omega
          generalize (l2 k).getD t 0 = zz at hce
          clear e2 e3 hf2 hf3 hst2
          --@L2
          go_wp2
          go_roundw
          all_goals first | exact ⟨t + 1, _, by omega, by go_num, HN2, HN3, HN⟩ | (simp [intOf] <;> omega)
        · obtain rfl : t = len k := by omega
          have hnl : ¬ (len k : Int) < (len k : Int) := by omega
          have HN4 : Hid (∀ q, q < k + 1 → ∀ t, t < len q → (l2 q).getD t 0 = m1 q) := fun q hq => by
            by_cases e : q = k
            · subst e; exact hf3.out
            · exact hf2.out q (by omega)
          clear hf2 hf3
          --@L3
          go_wp2
          go_roundw
          all_goals first | exact ⟨k + 1, l2, by omega, by go_num, HN4, hst2⟩ | (simp [intOf] <;> omega)
    · obtain rfl : k = ln := by omega
      have hnl : ¬ (k : Int) < (k : Int) := by omega
      have HO3 : Hid (Iw3 M wB.heap.size k V len 0 V (.slice none 0 0) wB wr) := hst.out.iw3 hf.out
      obtain ⟨NB, hNB⟩ : ∃ NB, NB = wB.heap.size := ⟨_, rfl⟩
      rw [← hNB] at HO3
      clear hst hf hNB hlt hk
      --@L4
      go_wp2
      go_loopw [11, 14] (fun vg i wr => ∃ (j : Nat) (G : Nat → Value), j ≤ k ∧ i = .int .i64 j ∧ Hid (Iw3 M NB k V len j G vg wB wr)) (fun _ i _ => k - (intOf i).toNat)
      case atStart => exact ⟨0, V, Nat.zero_le _, rfl, HO3⟩
      case round =>
        obtain ⟨j, Gv, hj, rfl, hst⟩ := hrel
        clear HO3 cx
        obtain ⟨cx, cs⟩ := HSC.out wr hst.out.x
        by_cases hlt : j < k
        · have hltr : (j : Int) < (k : Int) := by omega
          obtain ⟨a, cp, hVk, _⟩ := hst.out.old_ j hlt
          have csk : wr.cell? ⟨gs, os + j * 4 + 3, none⟩ = some (.slice a (len j) cp) := by rw [← hVk]; exact cs j hlt
          have hlk : len j ≤ 200000 := hst.out.len j hlt
          have HS4 : Hid (Iw4 M V len j 0 (.slice a (len j) cp) wr wr) := by have h := hst.out.start hlt; rw [hVk] at h; exact h
          have HNWr : Hid (NB ≤ wr.heap.size) := by unfold Hid; rw [hst.out.hN]; exact hst.out.x.size
          have HMW : Hid (M ≤ wr.heap.size) := Nat.le_trans hst.out.hM HNWr.out
          have HVBr : Hid (∀ g, (V j).ownBlock = some g → g < wr.heap.size) := fun g hg => Nat.lt_of_lt_of_le (hst.out.vb j hlt g hg) HNWr.out
          have HV0 : Hid (∀ g off n c, V j = .slice (some ⟨g, off, none⟩) n c → off = 0) := hst.out.vz j hlt
          clear hVk cs
          --@L5
          go_wp2
          obtain ⟨wa, hwa⟩ : ∃ wa, wa = wr := ⟨_, rfl⟩
          rw [← hwa] at HS4 HMW HVBr hst HNWr ⊢
          clear csk cx hwa
          --@L6
          go_loopw [15, 16] (fun gv i wr => ∃ t : Nat, t ≤ 64 ∧ i = .int .i64 t ∧ Hid (Iw4 M V len j t gv wa wr)) (fun _ i _ => 64 - (intOf i).toNat)
          case atStart => exact ⟨0, by omega, rfl, HS4⟩
          case round =>
            obtain ⟨t, ht, rfl, hp4⟩ := hrel
            clear HS4
            by_cases hltt : t < 64
            · have hltt2 : (t : Int) < 64 := by omega
              have hmod : ((j : Int) + 101) % 256 = (j : Int) + 101 := by omega
              --@L7
              go_wp2_with (at_builtin; refine appO (by rfl) _ _ (by rfl) M _ (len j + t) (List.replicate (len j) (m1 j) ++ List.replicate t (m2 j)) ((j : Int) + 101) (by rfl) (own_later hp4.out.own (below_al _) rfl) ⟨wr.heap.size, 0, none⟩ (by rfl) (by rfl) (by simp [World.cell?_alloc_new]) (by omega) (Nat.le_trans HMW.out (Nat.le_trans hp4.out.x.size (below_al _).size)) ?_; intro v8 w8 ho8 hx8 hbl8 hc8; have HP8 : Hid (Iw4 M V len j (t + 1) v8 wa w8) := hp4.out.next HMW.out HVBr.out HV0.out (below_al _) ho8 hx8 hbl8 hc8; clear ho8 hx8 hbl8 hc8)
              go_roundw
              all_goals first | exact ⟨t + 1, by omega, by go_num, HP8⟩ | (simp [intOf] <;> omega)
            · obtain rfl : t = 64 := by omega
              rw [show ((64 : Nat) : Int) = (64 : Int) from rfl]
              obtain ⟨a6, c6, e6, _⟩ := Byt.of_own hp4.out.own
              rw [List.length_append, List.length_replicate, List.length_replicate] at e6
              subst e6
              have HGS : Hid (wr.ownsRow NB 29 1 u11 j ((List.range j).map Gv)) := own_exc hst.out.gs hp4.out.x (fun g e q => by have := hst.out.vb j hlt g q; have := (hst.out.gs.lt g e).1; omega)
              have HNW : Hid (NB ≤ wr.heap.size) := Nat.le_trans HNWr.out hp4.out.x.size
              --@L8
              go_wp2_with (at_builtin; refine appVV (by rfl) _ _ (by rfl) NB _ j _ (.slice a6 (len j + 64) c6) (by rfl) (by rfl) HGS.out (by rfl) (by omega) HNW.out ?_; intro v9 w9 ho9 hg9; have HP9 : Hid (Iw3 M NB k V len (j + 1) (upd Gv j (.slice a6 (len j + 64) c6)) v9 wB w9) := hst.out.next hlt hp4.out ho9 hg9; clear ho9 hg9)
              go_roundw
              all_goals first | exact ⟨j + 1, _, by omega, by go_num, HP9⟩ | (simp [intOf] <;> omega)
        · obtain rfl : j = k := by omega
          have hnl2 : ¬ (j : Int) < (j : Int) := by omega
          obtain ⟨gg, cg, hvg, hgc⟩ := hst.out.gt hl0.out
          subst hvg
          have HG := Hid.mkI hgc
          clear hgc hlt hnl cs
          obtain ⟨wz, hwz⟩ : ∃ wz, wz = wr := ⟨_, rfl⟩
          rw [← hwz] at hst HG ⊢
          rw [← hwz] at cx
          clear hwz
          --@L9
          go_wp2
          go_loopw [17] (fun i wr => ∃ q : Nat, q ≤ j ∧ i = .int .i64 q ∧ wr = wz) (fun i _ => j - (intOf i).toNat)
          case atStart => exact ⟨0, Nat.zero_le _, rfl, rfl⟩
          case round =>
            obtain ⟨q, hq, rfl, hwr⟩ := hrel
            subst hwr
            by_cases hlt : q < j
            · have hlt2 : (q : Int) < (j : Int) := by omega
              obtain ⟨a, cp, hVq, hVc⟩ := hst.out.old_ q hlt
              obtain ⟨g, cp2, hGq, hGc⟩ := hst.out.new_ q hlt
              have csq : wr.cell? ⟨gs, os + q * 4 + 3, none⟩ = some (.slice a (len q) cp) := by rw [← hVq]; exact (HSC.out _ hst.out.x).2 q hlt
              have hcg : wr.cell? ⟨gg, q, none⟩ = some (.slice (some ⟨g, 0, none⟩) (len q + 64) cp2) := by rw [← hGq]; exact HG.out q hlt
              have hlq : len q ≤ 200000 := hst.out.len q hlt
              have hm1 : (m1 q != (q : Int) + 1) = false := by unfold m1; simp
              have hm2 : (m2 q != (q : Int) + 101) = false := by unfold m2; simp
              have hmod1 : ((q : Int) + 1) % 256 = (q : Int) + 1 := by omega
              have hmod2 : ((q : Int) + 101) % 256 = (q : Int) + 101 := by omega
              have HVC := Hid.mkI hVc
              have HGC := Hid.mkI hGc
              clear hVq hGq hVc hGc
              generalize m1 q = M1 at HVC HGC hm1
              generalize m2 q = M2 at HGC hm2
              --@L10
              go_wp2
              go_loopw [19] (fun i wq => ∃ t : Nat, t ≤ len q + 64 ∧ i = .int .i64 t ∧ wq = wr) (fun i _ => len q + 64 - (intOf i).toNat)
              case atStart => exact ⟨0, by omega, rfl, rfl⟩
              case round =>
                obtain ⟨t, ht, rfl, hwq⟩ := hrel
                have hwq2 := hwq.symm
                subst hwq2
                by_cases hltt : t < len q + 64
                · have hltt2 : (t : Int) < ((len q + 64 : Nat) : Int) := by omega
                  have hgt := HGC.out t hltt
                  by_cases hl3 : t < len q
                  · have hl32 : (t : Int) < (len q : Int) := by omega
                    rw [if_pos hl3] at hgt
                    obtain ⟨gv, ov, eav, hvt⟩ := HVC.out (by omega)
                    have hvt2 := hvt t hl3
                    rw [eav] at csq
                    clear hvt eav
                    --@L11
                    go_wp2
                    go_roundw
                    all_goals first | exact ⟨t + 1, by omega, by go_num, trivial⟩ | (simp [intOf] <;> omega)
                  · have hl32 : ¬ (t : Int) < (len q : Int) := by omega
                    rw [if_neg hl3] at hgt
                    --@L12
                    go_wp2
                    go_roundw
                    all_goals first | exact ⟨t + 1, by omega, by go_num, trivial⟩ | (simp [intOf] <;> omega)
                · obtain rfl : t = len q + 64 := by omega
                  have hnl : ¬ ((len q + 64 : Nat) : Int) < ((len q + 64 : Nat) : Int) := by omega
                  --@L13
                  go_wp2
                  go_roundw
                  all_goals first | exact ⟨q + 1, by omega, by go_num, trivial⟩ | (simp [intOf] <;> omega)
            · obtain rfl : q = j := by omega
              have hnl3 : ¬ (q : Int) < (q : Int) := by omega
              obtain ⟨e1, e2, e3, e4, e5⟩ := HEN.out _ hst.out.x
              have BZ := Hid.mkI e1
              have YZ := Hid.mkI e2
              have CZ := Hid.mkI e3
              have IZ := Hid.mkI e4
              have RZ := Hid.mkI e5
              have MZ : Hid (M7 ≤ wr.heap.size) := Nat.le_trans HLV.out hst.out.x.size
              clear e1 e2 e3 e4 e5 hst HG hlt HEN HSC HVB
              --@L14
              go_upto_region 40 with (go_at_call 9; refine (cRd.out _ _ BZ.out YZ.out.1).mono ?_; rintro e wC ⟨gu, ou, uc2, pm, pn, pc, LZ, rfl, q1, q2⟩; have HZC := Hid.mkI q1.2; have BC := Hid.mkI q2; clear q1 q2)
              refine on_w (motive := fun W => Code.wp _ _ _ _ W) (Q := fun W => W.heap[wC.heap.size]? = some (.cells #[.int .u64 EN, .slice (some ⟨gu, ou, none⟩) q uc2, .slice pm pn pc] 26 (0, 0)) ∧ Below wC.heap.size wC W) ⟨heap_alloc_new wC _, below_al _⟩ ?_
              generalize hgZ : wC.heap.size = gZ
              rintro WD ⟨s1, s2⟩
              have RD := Hid.mkI s1
              have BCD : Hid (Below wC.heap.size wC WD) := by unfold Hid; rw [hgZ]; exact s2
              have BD : Hid (Below wr.heap.size wr WD) := BC.out.trans (BCD.out.mono BC.out.size)
              have YD : Hid (Byo WD f1 nA AN) := YZ.out.later BD.out
              have HZf0 : Hid (f1 < wr.heap.size) := by obtain ⟨C, _, h2⟩ := YZ.out.2; exact heap_lt h2
              obtain ⟨Mz, hMz⟩ : ∃ Mz, Mz = wr.heap.size := ⟨_, rfl⟩
              have HZf : Hid (f1 < Mz) := by rw [hMz]; exact HZf0.out
              have HGZ : Hid (gZ ≠ f1) := by have := HZf0.out; have := BC.out.size; unfold Hid; omega
              have HGY2 : Hid (gY ≠ f1) := fun e => by
                obtain ⟨C, _, h2⟩ := YZ.out.2
                have h3 := RZ.out
                rw [e, h2] at h3
                simp at h3
              have HZD : Hid (ImO AN Mz WD (.slice (some ⟨gu, ou, none⟩) q uc2) (.slice pm pn pc) LZ) := by rw [hMz]; exact HZC.out.below BCD.out
              have RYD : Hid (WD.heap[gY]? = some (.cells #[.int .u64 EN, .slice (some ⟨gt, ot, none⟩) q yc, .slice zm zn zc] 26 (0, 0))) := (BD.out.block gY (heap_lt RZ.out)).trans RZ.out
              have IYD : Hid (ImO AN M7 WD (.slice (some ⟨gt, ot, none⟩) q yc) (.slice zm zn zc) LY) := IZ.out.below BD.out
              have BWD : Hid (Below W1.heap.size W1 WD) := BZ.out.trans (BD.out.mono BZ.out.size)
              have CD : Hid (Byo WD f2 nA AN) := CZ.out.later BD.out
              clear s1 s2 hgZ hMz HZf0 HZC BC BCD BD YZ IZ RZ CZ BZ MZ
              --@M1
              go_wp2
              go_loopw [22] (fun i wq => ∃ t : Nat, t ≤ nA ∧ i = .int .i64 t ∧ Hid (Wov f1 nA WD wq)) (fun i _ => nA - (intOf i).toNat)
              case atStart => exact ⟨0, Nat.zero_le _, rfl, Wov.start YD.out⟩
              case round =>
                obtain ⟨t, ht, rfl, hov⟩ := hrel
                by_cases hltt : t < nA
                · have hltt2 : (t : Int) < (nA : Int) := by omega
                  obtain ⟨yy, hyy⟩ := hov.out.cell t hltt
                  have hfr := hov.out.frozen t
                  --@M2
                  go_wp2
                  go_roundw
                  all_goals first | exact ⟨t + 1, by omega, by go_num, hov.out.set t _⟩ | (simp [intOf] <;> omega)
                · obtain rfl : t = nA := by omega
                  have hnl4 : ¬ (t : Int) < (t : Int) := by omega
                  have hoo := Hid.mkI hov.out.o
                  clear hov hltt
                  have BE : Hid (Below W1.heap.size W1 wr) := hoo.out.below BWD.out HF1.out BWD.out.size
                  have RYE : Hid (wr.heap[gY]? = some (.cells #[.int .u64 EN, .slice (some ⟨gt, ot, none⟩) q yc, .slice zm zn zc] 26 (0, 0))) := (hoo.out.block gY (heap_lt RYD.out) HGY2.out).trans RYD.out
                  have RZE : Hid (wr.heap[gZ]? = some (.cells #[.int .u64 EN, .slice (some ⟨gu, ou, none⟩) q uc2, .slice pm pn pc] 26 (0, 0))) := (hoo.out.block gZ (heap_lt RD.out) HGZ.out).trans RD.out
                  have CE : Hid (f2 < wr.heap.size ∧ wr.cell? ⟨f2, 0, none⟩ = some (.int .u8 127)) := by
                    obtain ⟨⟨a, cap, e, _, _, h4⟩, C, _, h2⟩ := CD.out
                    obtain ⟨g, off, ea, hg, hcc⟩ := h4 (by intro e0; have q9 := HNA.out; rw [e0] at q9; have := HA0.out; simp at q9; omega)
                    rw [ea] at e
                    simp only [Value.slice.injEq, Option.some.injEq, Addr.mk.injEq] at e
                    obtain ⟨⟨rfl, rfl, _⟩, e2, _⟩ := e
                    have c0 := hcc 0 (by have := HA0.out; omega)
                    rw [HFB.out] at c0
                    exact ⟨Nat.lt_of_lt_of_le hg hoo.out.size, (World.cell?_of_block (w := WD) (hoo.out.block f2 hg (fun e => HF12.out e.symm))).trans c0⟩
                  have HRE : Hid (∀ W, Below wr.heap.size wr W → W.heap[gI]? = some (.cells #[.int .u64 EN, .slice sa q sc, .slice na nn nc] 26 (0, 0)) ∧ W.heap[gY]? = some (.cells #[.int .u64 EN, .slice (some ⟨gt, ot, none⟩) q yc, .slice zm zn zc] 26 (0, 0)) ∧ W.heap[gZ]? = some (.cells #[.int .u64 EN, .slice (some ⟨gu, ou, none⟩) q uc2, .slice pm pn pc] 26 (0, 0)) ∧ W.cell? ⟨f2, 0, none⟩ = some (.int .u8 127)) := fun W hb => ⟨RI.out W (BE.out.trans (hb.mono BE.out.size)), (hb.block gY (heap_lt RYE.out)).trans RYE.out, (hb.block gZ (heap_lt RZE.out)).trans RZE.out, (hb.cell (p := ⟨f2, 0, none⟩) CE.out.1).trans CE.out.2⟩
                  have HIE : Hid (∀ W, Below wr.heap.size wr W → ImO AN M7 W (.slice (some ⟨gt, ot, none⟩) q yc) (.slice zm zn zc) LY ∧ ImO AN Mz W (.slice (some ⟨gu, ou, none⟩) q uc2) (.slice pm pn pc) LZ) := fun W hb => ⟨(IYD.out.keepB (fun j h1 h2 => hoo.out.block j h2 (by have := HF1M.out; have := HMM.out; omega))).below hb, (HZD.out.keepB (fun j h1 h2 => hoo.out.block j h2 (by have := HZf.out; omega))).below hb⟩
                  have HBE : Hid (∀ W, Below wr.heap.size wr W → Below W1.heap.size W1 W) := fun W hb => BE.out.trans (hb.mono BE.out.size)
                  have BR : Hid (Below wr.heap.size wr wr) := Below.refl _ _
                  obtain ⟨r1, r2, r3, _⟩ := HRE.out _ BR.out
                  have a0 := cell_of_row _ gI 0 _ _ _ r1
                  have a1 := cell_of_row _ gI 1 _ _ _ r1
                  have a2 := cell_of_row _ gI 2 _ _ _ r1
                  have y0 := cell_of_row _ gY 0 _ _ _ r2
                  have y1 := cell_of_row _ gY 1 _ _ _ r2
                  have y2 := cell_of_row _ gY 2 _ _ _ r2
                  have hnil : ∀ w : World, (binOp .eql 36 .nilIface .nilIface).run Tryz.prog w = .ok (.bool true) w := fun w => by kernel_rfl
                  have heg : ∀ (w : World), (eqGuard .eql 36 (.tmp 227) (.const .nilIface) .nilIface .nilIface).run Tryz.prog w = .ok () w := fun w => by kernel_rfl
                  clear r1 r2 r3 hoo RYE RZE CE BE IYD HZD RYD RD YD CD BWD cRd HTB HET
                  --@M3
                  go_wp2_with (first | (go_at_call 8; refine (hnum.out _ _).mono ?_; rintro e wz ⟨rfl, hwz⟩; rw [hwz]; clear hwz) | (go_at_call 10; first | (refine (cAl.out _ _ _ LZ _ (HBE.out _ BF.out) (HIE.out _ BF.out).2).mono ?_; rintro e wG ⟨rfl, q1⟩; have BG : Hid (Below wr.heap.size wr wG) := BF.out.trans (q1.mono BF.out.size); have f0 := (HRE.out _ BG.out).2.2.2; clear q1) | (refine (cAl.out _ _ _ LY _ (HBE.out _ BR.out) (HIE.out _ BR.out).1).mono ?_; rintro e wF ⟨rfl, q1⟩; have BF : Hid (Below wr.heap.size wr wF) := BR.out.trans (q1.mono BR.out.size); obtain ⟨r1, r2, r3, _⟩ := HRE.out _ BF.out; have c0 := cell_of_row _ gI 0 _ _ _ r1; have c1 := cell_of_row _ gI 1 _ _ _ r1; have c2 := cell_of_row _ gI 2 _ _ _ r1; have z0 := cell_of_row _ gZ 0 _ _ _ r3; have z1 := cell_of_row _ gZ 1 _ _ _ r3; have z2 := cell_of_row _ gZ 2 _ _ _ r3; clear q1 r1 r2 r3)))
                  --@M4
                  go_ret
                  exact ⟨rfl, H1.out _ (HBE.out _ BG.out)⟩
set_option maxHeartbeats 16000000 in
theorem own_sm (E0 : BitVec 64) (vs vn : Value) (L0 : List Sg) (N0 : List Sy) (D0 : Nat → List Int) (w : World) (h : Arg w vs vn L0 N0 D0) (hT : Tabs w) (hE : EtW w) (hx0 : L0.length = 0) :
    Calls Tryz.prog 3 #[.agg #[.int .u64 (n64 E0), vs, vn]] w fun e w' => e = .returned (.bool true) ∧ Below w.heap.size w w' := by
  obtain ⟨sa0, sc0, rfl, _⟩ := h.im.segs
  obtain ⟨na0, nc0, rfl, _⟩ := h.im.syms
  have cFi : Hid (∀ wx, Below w.heap.size w wx → Calls Tryz.prog 4 #[] wx fun e w' => e = .returned (.bool true) ∧ Below wx.heap.size wx w') := fun wx hx => first_c wx (hT.below hx rfl) (hE.below hx rfl)
  have cSa : Hid (∀ wx, Calls Tryz.prog 5 #[] wx fun e w' => ∃ sa ln sc na nn nc L, e = .returned (.agg #[.int .u64 (n64 2147483648#64), .slice sa ln sc, .slice na nn nc]) ∧ (Arg w' (.slice sa ln sc) (.slice na nn nc) L smN smD ∧ L.length = ln ∧ 0 < ln ∧ ck 2147483648#64 L smN = 0) ∧ Below wx.heap.size wx w') := fun wx => (sample_c wx).mono fun e w' ⟨vs, vn, m, c, he, hi, hd, hb⟩ => by
    have hA := sm_arg hi hd
    obtain ⟨a1, a2, rfl, _⟩ := hi.segs
    obtain ⟨b1, b2, rfl, _⟩ := hi.syms
    exact ⟨_, _, _, _, _, _, _, he, ⟨hA, rfl, Nat.zero_lt_one, sm_ck m c⟩, hb⟩
  obtain ⟨E, hEE⟩ : ∃ E, E = 2147483648#64 := ⟨_, rfl⟩
  obtain ⟨N, hNN⟩ : ∃ N, N = smN := ⟨_, rfl⟩
  obtain ⟨D, hDD⟩ : ∃ D, D = smD := ⟨_, rfl⟩
  rw [← hEE, ← hNN, ← hDD] at cSa
  have HT0 : Hid (∀ w', Below w.heap.size w w' → Tabs w') := fun w' hb => hT.below hb rfl
  have HE0 : Hid (∀ w', Below w.heap.size w w' → EtW w') := fun w' hb => hE.below hb rfl
  generalize N0.length = nn0 at *
  rw [hx0] at h ⊢
  clear h hT hE hEE hNN hDD hx0
  generalize n64 E0 = EN0
  go_enter Tryz.func3, Tryz.ntmps3
  go_upto_region 1 with fail
  refine on_w (motive := fun W => Code.wp _ _ _ _ W) (Q := fun W => W.heap[w.heap.size]? = some (.cells #[.int .u64 EN0, .slice sa0 0 sc0, .slice na0 nn0 nc0] 26 (0, 0)) ∧ Below w.heap.size w W) ⟨heap_alloc_new w _, below_al _⟩ ?_
  obtain ⟨gI, hgI⟩ : ∃ gI, gI = w.heap.size := ⟨_, rfl⟩
  rw [← hgI]
  rintro W0 ⟨s1, s2⟩
  have RI0 : Hid (∀ W, Below W0.heap.size W0 W → W.heap[gI]? = some (.cells #[.int .u64 EN0, .slice sa0 0 sc0, .slice na0 nn0 nc0] 26 (0, 0))) := fun W hb => (hb.block gI (heap_lt s1)).trans s1
  have H10 : Hid (∀ W, Below W0.heap.size W0 W → Below gI w W) := fun W hb => s2.trans (hb.mono (Nat.le_of_lt (heap_lt s1)))
  have HGI := Hid.mkI hgI
  have B0 : Hid (Below W0.heap.size W0 W0) := Below.refl _ _
  clear s1 s2 hgI
  go_upto_region 3 with (go_at_call 4; refine (cFi.out _ (by rw [← HGI.out]; exact H10.out _ B0.out)).mono ?_; rintro e w1 ⟨rfl, q1⟩; have B01 := Hid.mkI q1; clear q1 cFi)
  have r1 := RI0.out _ B01.out
  have c1 := cell_of_row _ gI 1 _ _ _ r1
  clear r1
  --@S1
  go_upto_region 5 with (go_at_call 5; refine (cSa.out _).mono ?_; rintro e w2 ⟨sa, ln, sc, na, nn, nc, L, rfl, q1, q2⟩; have HM2 := Hid.mkI q1; have B12 := Hid.mkI q2; have B02 : Hid (Below W0.heap.size W0 w2) := B01.out.trans (q2.mono B01.out.size); have r2 := RI0.out _ B02.out; have d0 := cell_of_row _ gI 0 _ _ _ r2; have d1 := cell_of_row _ gI 1 _ _ _ r2; have d2 := cell_of_row _ gI 2 _ _ _ r2; have f0 := frozen_of_row w2 gI 0 _ _ r2; have f1 := frozen_of_row w2 gI 1 _ _ r2; have f2 := frozen_of_row w2 gI 2 _ _ r2; have R2 := Hid.mkI r2; clear q1 q2 r2)
  clear c1 d0 d1 d2 f0 f1 f2
  --@S2
  refine on_w (motive := fun W => Code.wp _ _ _ _ W) (Q := fun W => W.heap[gI]? = some (.cells #[.int .u64 (n64 E), .slice sa ln sc, .slice na nn nc] 26 (0, 0)) ∧ Oth gI w2 W) ⟨set3_at R2.out _ _ _, (((Oth.refl _ _).set 0 _).set 1 _).set 2 _⟩ ?_
  rintro W1 ⟨s1, s2⟩
  have RI : Hid (∀ W, Below W1.heap.size W1 W → W.heap[gI]? = some (.cells #[.int .u64 (n64 E), .slice sa ln sc, .slice na nn nc] 26 (0, 0))) := fun W hb => (hb.block gI (heap_lt s1)).trans s1
  have HW1 : Hid (Below gI w W1) := s2.below (H10.out _ B02.out) (Nat.le_refl _) (Nat.le_of_lt (heap_lt R2.out))
  have H1 : Hid (∀ W, Below W1.heap.size W1 W → Below w.heap.size w W) := fun W hb => by rw [← HGI.out]; exact HW1.out.trans (hb.mono (Nat.le_of_lt (heap_lt s1)))
  have HA : Hid (∀ W, Below W1.heap.size W1 W → Arg W (.slice sa ln sc) (.slice na nn nc) L N D) := fun W hb => (Arg.oth s2 R2.out HM2.out.1).later hb
  have HTB : Hid (∀ W, Below W1.heap.size W1 W → Tabs W) := fun W hb => HT0.out _ (H1.out W hb)
  have HET : Hid (∀ W, Below W1.heap.size W1 W → EtW W) := fun W hb => HE0.out _ (H1.out W hb)
  have hln : Hid (L.length = ln) := HM2.out.2.1
  have hl0 : Hid (0 < ln) := HM2.out.2.2.1
  have hc : Hid (ck E L N = 0) := HM2.out.2.2.2
  clear RI0 H10 HT0 HE0 B01 B0 B12 B02 R2 s1 s2 HM2 HW1 cSa
  --@S3
  have cTw : Hid (∀ wx, Below W1.heap.size W1 wx → Calls Tryz.prog 7 #[.agg #[.int .u64 (n64 E), .slice sa ln sc, .slice na nn nc]] wx fun e w' => ∃ a1 a2 a3 b1 b2 b3 M, e = .returned (.agg #[.int .u64 (n64 E), .slice a1 a2 a3, .slice b1 b2 b3]) ∧ (Alike L M ∧ Img w' (.slice a1 a2 a3) (.slice b1 b2 b3) M N ∧ Dta w' M D) ∧ Below wx.heap.size wx w') := fun wx hx => ((HA.out wx hx).twin E).mono fun e w' ⟨a1, a2, a3, b1, b2, b3, M, he, q1, q2, q3, q4⟩ => ⟨a1, a2, a3, b1, b2, b3, M, he, ⟨q1, q2, q3⟩, q4⟩
  have hnum : Hid (∀ z W, Calls Tryz.prog 8 #[.int .i64 z] W fun e w' => e = .returned (.int .i64 z) ∧ w' = W) := fun z W => num_c z W
  have B1 : Hid (Below W1.heap.size W1 W1) := Below.refl _ _
  have HND : Hid (Nd (ans E L N D) E.toNat L N D ∧ AllB (ans E L N D) ∧ (ans E L N D).length ≤ 200000) := (HA.out _ B1.out).nd E hc.out
  obtain ⟨nA, hnA⟩ : ∃ nA, nA = (ans E L N D).length := ⟨_, rfl⟩
  have HNA := Hid.mkI hnA
  have HLA : Hid (nA ≤ 200000) := by unfold Hid; rw [hnA]; exact HND.out.2.2
  have hLA2 : (nA : Int) ≤ 200000 := by have := HLA.out; omega
  have cWr : Hid (∀ wx us un M, Below W1.heap.size W1 wx → (Alike L M ∧ Img wx us un M N ∧ Dta wx M D) → Calls Tryz.prog 6 #[.agg #[.int .u64 (n64 E), us, un]] wx fun e w' => ∃ f, wx.heap.size ≤ f ∧ e = .returned (.tuple #[.slice (some ⟨f, 0, none⟩) nA nA, .int .i64 0]) ∧ Byo w' f nA (ans E L N D) ∧ Below wx.heap.size wx w') := fun wx us un M hx hq => ((HA.out _ B1.out).write_o E hq.1 hq.2.1 hq.2.2 (HTB.out _ hx) hc.out).mono fun e w' ⟨f, n, h1, h2, h3, h4⟩ => by
    have e9 := h3.len
    rw [← HNA.out] at e9
    subst e9
    exact ⟨f, h1, h2, h3, h4⟩
  have cRd : Hid (∀ wx vb, Below W1.heap.size W1 wx → Byt wx vb (ans E L N D) → Calls Tryz.prog 9 #[vb] wx fun e w' => ∃ g off uc vm vn vc L', e = .returned (.tuple #[.agg #[.int .u64 (n64 E), .slice (some ⟨g, off, none⟩) ln uc, .slice vm vn vc], .nilIface]) ∧ (L'.length = ln ∧ ImO (ans E L N D) wx.heap.size w' (.slice (some ⟨g, off, none⟩) ln uc) (.slice vm vn vc) L') ∧ Below wx.heap.size wx w') := fun wx vb hx hv => (nd_reado HND.out.1 hc.out HND.out.2.1 vb wx hv (HTB.out _ hx) (HET.out _ hx)).mono fun e w' ⟨um, un, uc, vm, vn, vc, L', he, q1, q3, q4⟩ => by
    have hl : L'.length = ln := q1.len.trans hln.out
    obtain ⟨ad, cap, e1, _, h2⟩ := q3.imq.segs
    obtain ⟨g, off, rfl, _⟩ := h2 (by intro e0; rw [e0] at hl; have := hl0.out; simp at hl; omega)
    simp only [Value.slice.injEq] at e1
    obtain ⟨rfl, rfl, rfl⟩ := e1
    rw [hl] at he q3
    exact ⟨g, off, uc, vm, vn, vc, L', he, ⟨hl, q3⟩, q4⟩
  have cAl : Hid (∀ wx u v L' B, Below W1.heap.size W1 wx → ImO (ans E L N D) B wx u v L' → Calls Tryz.prog 10 #[.agg #[.int .u64 (n64 E), u, v], .agg #[.int .u64 (n64 E), .slice sa ln sc, .slice na nn nc]] wx fun e w' => e = .returned (.bool true) ∧ Below wx.heap.size wx w') := fun wx u v L' B hx hi => (HA.out wx hx).alike_o E hc.out hi
  have hl16 : ln ≤ 16 := by have := (ck_all hc.out).2.1; have := hln.out; omega
  have HFB : Hid ((ans E L N D).getD 0 0 = 127) := nd_first HND.out.1
  have HA0 : Hid (0 < nA) := by
    have q := HND.out.1.len
    have q2 := sk_lo L L.length
    have q3 := szz_lo L N
    unfold Hid; rw [hnA, q]; omega
  clear HND hnA
  generalize ans E L N D = AN at *
  clear HA hc
  generalize n64 E = EN at *
  have r0 := RI.out _ B1.out
  have a0 := cell_of_row _ gI 0 _ _ _ r0
  have a1 := cell_of_row _ gI 1 _ _ _ r0
  have a2 := cell_of_row _ gI 2 _ _ _ r0
  clear r0
  go_upto_region 6 with (first | (go_at_call 7; refine (cTw.out _ B1.out).mono ?_; rintro e w2 ⟨i1, i2, i3, g1, g2, g3, M2, rfl, q1, q2⟩; have HM2 := Hid.mkI q1; have B2 : Hid (Below W1.heap.size W1 w2) := B1.out.trans (q2.mono B1.out.size); clear q1 q2) | (go_at_call 6; refine (cWr.out _ _ _ _ B2.out HM2.out).mono ?_; rintro e w3 ⟨f1, q0, rfl, q1, q2⟩; have HF1 : Hid (W1.heap.size ≤ f1) := Nat.le_trans B2.out.size q0; have HY3 := Hid.mkI q1; have B3 : Hid (Below W1.heap.size W1 w3) := B2.out.trans (q2.mono B2.out.size); have r0 := RI.out _ B3.out; have b0 := cell_of_row _ gI 0 _ _ _ r0; have b1 := cell_of_row _ gI 1 _ _ _ r0; have b2 := cell_of_row _ gI 2 _ _ _ r0; clear q0 q1 q2 r0))
  clear a0 a1 a2 HM2
  go_upto_region 7 with (first | (go_at_call 7; refine (cTw.out _ B3.out).mono ?_; rintro e w4 ⟨i1, i2, i3, g1, g2, g3, M4, rfl, q1, q2⟩; have HM4 := Hid.mkI q1; have B34 := Hid.mkI q2; have B4 : Hid (Below W1.heap.size W1 w4) := B3.out.trans (q2.mono B3.out.size); clear q1 q2) | (go_at_call 6; refine (cWr.out _ _ _ _ B4.out HM4.out).mono ?_; rintro e w5 ⟨f2, q0, rfl, q1, q2⟩; have HF2 : Hid (w3.heap.size ≤ f2) := Nat.le_trans B34.out.size q0; have HC5 := Hid.mkI q1; have B35 : Hid (Below w3.heap.size w3 w5) := B34.out.trans (q2.mono B34.out.size); have B5 : Hid (Below W1.heap.size W1 w5) := B4.out.trans (q2.mono B4.out.size); clear q0 q1 q2))
  clear b0 b1 b2 HM4 cTw cWr
  have HY5 : Hid (Byo w5 f1 nA AN) := HY3.out.later B35.out
  have HF12 : Hid (f1 ≠ f2) := by
    have q1 : f1 < w3.heap.size := by obtain ⟨C, _, h2⟩ := HY3.out.2; exact heap_lt h2
    have q2 := HF2.out
    unfold Hid; omega
  clear HY3 HF2
  --@Q1
  go_upto_region 10 with (first | (go_at_call 8; refine (hnum.out _ _).mono ?_; rintro e wz ⟨rfl, hwz⟩; rw [hwz]; clear hwz) | (go_at_call 9; refine (cRd.out _ _ B5.out HY5.out.1).mono ?_; rintro e w6 ⟨gs, os, xc, vm, vn, vc, LX, rfl, q1, q2⟩; have HX6 := Hid.mkI q1; have B56 := Hid.mkI q2; clear q1 q2))
  --@Q2
  refine on_w (motive := fun W => Code.wp _ _ _ _ W) (Q := fun W => W.heap[w6.heap.size]? = some (.cells #[.int .u64 EN, .slice (some ⟨gs, os, none⟩) ln xc, .slice vm vn vc] 26 (0, 0)) ∧ Below w6.heap.size w6 W) ⟨heap_alloc_new w6 _, below_al _⟩ ?_
  generalize hgX : w6.heap.size = gX
  rintro W7 ⟨s1, s2⟩
  have RX7 := Hid.mkI s1
  have B67 : Hid (Below w6.heap.size w6 W7) := by unfold Hid; rw [hgX]; exact s2
  have HX7 : Hid (ImO AN w5.heap.size W7 (.slice (some ⟨gs, os, none⟩) ln xc) (.slice vm vn vc) LX) := HX6.out.2.below B67.out
  have HXL := Hid.mkI HX6.out.1
  have B57 : Hid (Below w5.heap.size w5 W7) := B56.out.trans (B67.out.mono B56.out.size)
  have B7 : Hid (Below W1.heap.size W1 W7) := B5.out.trans (B57.out.mono B5.out.size)
  have HY7 : Hid (Byo W7 f1 nA AN) := HY5.out.later B57.out
  have HC7 : Hid (Byo W7 f2 nA AN) := HC5.out.later B57.out
  clear s1 s2 hgX HX6 B56 B67
  --@Q3
  go_upto_region 11 with (go_at_call 9; refine (cRd.out _ _ B7.out HY7.out.1).mono ?_; rintro e w8 ⟨gt, ot, yc, zm, zn, zc, LY, rfl, q1, q2⟩; have HY8 := Hid.mkI q1.2; have B78 := Hid.mkI q2; clear q1 q2)
  refine on_w (motive := fun W => Code.wp _ _ _ _ W) (Q := fun W => W.heap[w8.heap.size]? = some (.cells #[.int .u64 EN, .slice (some ⟨gt, ot, none⟩) ln yc, .slice zm zn zc] 26 (0, 0)) ∧ Below w8.heap.size w8 W) ⟨heap_alloc_new w8 _, below_al _⟩ ?_
  generalize hgY : w8.heap.size = gY
  rintro W9 ⟨s1, s2⟩
  have B89 : Hid (Below w8.heap.size w8 W9) := by unfold Hid; rw [hgY]; exact s2
  have B79 : Hid (Below W7.heap.size W7 W9) := B78.out.trans (B89.out.mono B78.out.size)
  have B9 : Hid (Below W1.heap.size W1 W9) := B7.out.trans (B79.out.mono B7.out.size)
  have RY9 : Hid (W9.heap[gY]? = some (.cells #[.int .u64 EN, .slice (some ⟨gt, ot, none⟩) ln yc, .slice zm zn zc] 26 (0, 0))) := s1
  have RX9 : Hid (W9.heap[gX]? = some (.cells #[.int .u64 EN, .slice (some ⟨gs, os, none⟩) ln xc, .slice vm vn vc] 26 (0, 0))) := (B79.out.block gX (heap_lt RX7.out)).trans RX7.out
  have HX9 : Hid (ImO AN w5.heap.size W9 (.slice (some ⟨gs, os, none⟩) ln xc) (.slice vm vn vc) LX) := HX7.out.below B79.out
  have HZ9 : Hid (ImO AN W7.heap.size W9 (.slice (some ⟨gt, ot, none⟩) ln yc) (.slice zm zn zc) LY) := HY8.out.below B89.out
  have HY9 : Hid (Byo W9 f1 nA AN) := HY7.out.later B79.out
  have HC9 : Hid (Byo W9 f2 nA AN) := HC7.out.later B79.out
  have HGX : Hid (gX < W7.heap.size) := heap_lt RX7.out
  have HXB : Hid (∀ q, q < ln → ∀ g, (Value.slice (sg LX q).m (sg LX q).n (sg LX q).c).ownBlock = some g → g < W7.heap.size) := fun q hq g hg => ((HX7.out.data.at q (by rw [HXL.out]; exact hq)).2.2.2.lt g hg).2
  have HGS7 : Hid (gs < W7.heap.size) := (HX7.out.segs.lt gs rfl).2
  have HF17 : Hid (f1 < w5.heap.size) := by obtain ⟨C, _, h2⟩ := HY5.out.2; exact heap_lt h2
  have HF27 : Hid (f2 < w5.heap.size) := by obtain ⟨C, _, h2⟩ := HC5.out.2; exact heap_lt h2
  have S57 := B57.out.size
  have S79 := B79.out.size
  have HS57 := Hid.mkI S57
  have HS79 := Hid.mkI S79
  have HGY : Hid (W7.heap.size ≤ gY) := by unfold Hid; rw [← hgY]; exact B78.out.size
  clear s1 s2 hgY S57 S79 RX7 HX7 HY8 HY7 HC7 B78 B89 HY5 HC5
  have hnf : ∀ w : World, (binOp .neq 36 .nilIface .nilIface).run Tryz.prog w = .ok (.bool false) w := fun w => by kernel_rfl
  have hg1 : ∀ (w : World), (eqGuard .neq 36 (.tmp 58) (.const .nilIface) .nilIface .nilIface).run Tryz.prog w = .ok () w := fun w => by kernel_rfl
  have hg2 : ∀ (w : World), (eqGuard .neq 36 (.tmp 61) (.const .nilIface) .nilIface .nilIface).run Tryz.prog w = .ok () w := fun w => by kernel_rfl
  --@Q4
  have HR9 : Hid (∀ W, Below W9.heap.size W9 W → W.heap[gI]? = some (.cells #[.int .u64 EN, .slice sa ln sc, .slice na nn nc] 26 (0, 0)) ∧ W.heap[gX]? = some (.cells #[.int .u64 EN, .slice (some ⟨gs, os, none⟩) ln xc, .slice vm vn vc] 26 (0, 0)) ∧ W.heap[gY]? = some (.cells #[.int .u64 EN, .slice (some ⟨gt, ot, none⟩) ln yc, .slice zm zn zc] 26 (0, 0))) := fun W hb => ⟨RI.out _ (B9.out.trans (hb.mono B9.out.size)), (hb.block gX (heap_lt RX9.out)).trans RX9.out, (hb.block gY (heap_lt RY9.out)).trans RY9.out⟩
  have HI9 : Hid (∀ W, Below W9.heap.size W9 W → ImO AN w5.heap.size W (.slice (some ⟨gs, os, none⟩) ln xc) (.slice vm vn vc) LX ∧ ImO AN W7.heap.size W (.slice (some ⟨gt, ot, none⟩) ln yc) (.slice zm zn zc) LY) := fun W hb => ⟨HX9.out.below hb, HZ9.out.below hb⟩
  have HB9 : Hid (∀ W, Below W9.heap.size W9 W → Below W1.heap.size W1 W) := fun W hb => B9.out.trans (hb.mono B9.out.size)
  have BD : Hid (Below W9.heap.size W9 W9) := Below.refl _ _
  obtain ⟨r1, r2, r3⟩ := HR9.out _ BD.out
  have a0 := cell_of_row _ gI 0 _ _ _ r1
  have a1 := cell_of_row _ gI 1 _ _ _ r1
  have a2 := cell_of_row _ gI 2 _ _ _ r1
  have x0 := cell_of_row _ gX 0 _ _ _ r2
  have x1 := cell_of_row _ gX 1 _ _ _ r2
  have x2 := cell_of_row _ gX 2 _ _ _ r2
  clear r1 r2 r3
  --@Q5
  go_upto_region 13 with (go_at_call 10; first | (refine (cAl.out _ _ _ LY _ (HB9.out _ BA.out) (HI9.out _ BA.out).2).mono ?_; rintro e wB ⟨rfl, q1⟩; have BB : Hid (Below W9.heap.size W9 wB) := BA.out.trans (q1.mono BA.out.size); obtain ⟨r1, r2, r3⟩ := HR9.out _ BB.out; have d1 := cell_of_row _ gI 1 _ _ _ r1; have z1 := cell_of_row _ gX 1 _ _ _ r2; clear q1 r1 r2 r3) | (refine (cAl.out _ _ _ LX _ (HB9.out _ BD.out) (HI9.out _ BD.out).1).mono ?_; rintro e wA ⟨rfl, q1⟩; have BA : Hid (Below W9.heap.size W9 wA) := BD.out.trans (q1.mono BD.out.size); obtain ⟨r1, r2, r3⟩ := HR9.out _ BA.out; have c0 := cell_of_row _ gI 0 _ _ _ r1; have c1 := cell_of_row _ gI 1 _ _ _ r1; have c2 := cell_of_row _ gI 2 _ _ _ r1; have y0 := cell_of_row _ gY 0 _ _ _ r3; have y1 := cell_of_row _ gY 1 _ _ _ r3; have y2 := cell_of_row _ gY 2 _ _ _ r3; clear q1 r1 r2 r3))
  --@Q6
  clear a0 a1 a2 x0 x1 x2 c0 c1 c2 y0 y1 y2 d1 z1 hnf hg1 hg2
  obtain ⟨V, hV⟩ : ∃ V : Nat → Value, V = fun q => .slice (sg LX q).m (sg LX q).n (sg LX q).c := ⟨_, rfl⟩
  obtain ⟨len, hlen⟩ : ∃ len : Nat → Nat, len = fun q => (sg LX q).n := ⟨_, rfl⟩
  obtain ⟨M, hM⟩ : ∃ M, M = w5.heap.size := ⟨_, rfl⟩
  obtain ⟨M7, hM7⟩ : ∃ M7, M7 = W7.heap.size := ⟨_, rfl⟩
  have HXB0 : Hid (ImO AN M wB (.slice (some ⟨gs, os, none⟩) ln xc) (.slice vm vn vc) LX) := by rw [hM]; exact (HI9.out _ BB.out).1
  have HSB : Hid (M ≤ wB.heap.size) := by unfold Hid; rw [hM]; exact Nat.le_trans HS57.out (Nat.le_trans HS79.out BB.out.size)
  have HIW : Hid (∃ l, Iw2 M ln V len l wB wB) := by
    have q := HXB0.out.iw2 (w0 := wB) (by have := HLA.out; rw [← HNA.out]; exact this) HSB.out
    rw [HXL.out] at q
    rw [hV, hlen]
    exact q
  have HVB : Hid (∀ g, Vbl ln V g → M ≤ g ∧ g < M7) := fun g ⟨q, hq, e⟩ => by
    rw [hV] at e
    refine ⟨((HXB0.out.data.at q (by rw [HXL.out]; exact hq)).2.2.2.lt g e).1, ?_⟩
    rw [hM7]
    exact HXB.out q hq g e
  have HSC : Hid (∀ W, Exc (Vbl ln V) wB W → W.cell? ⟨gX, 1, none⟩ = some (.slice (some ⟨gs, os, none⟩) ln xc) ∧ ∀ q, q < ln → W.cell? ⟨gs, os + q * 4 + 3, none⟩ = some (V q)) := fun W hx => by
    have rX := (HR9.out _ BB.out).2.1
    have nX : ¬ Vbl ln V gX := fun ⟨q, hq, e⟩ => by
      rw [hV] at e
      exact own_kind_ne (HXB0.out.data.at q (by rw [HXL.out]; exact hq)).2.2.2 rX (by decide) gX e rfl
    have nS : ¬ Vbl ln V gs := fun ⟨q, hq, e⟩ => by
      rw [hV] at e
      exact own_kinds (HXB0.out.data.at q (by rw [HXL.out]; exact hq)).2.2.2 HXB0.out.segs (by decide) gs e rfl
    refine ⟨(hx.cell (p := ⟨gX, 1, none⟩) (heap_lt rX) nX).trans (cell_of_row _ gX 1 _ _ _ rX), fun q hq => ?_⟩
    obtain ⟨ad, cap, e1, _, h2⟩ := HXB0.out.imq.segs
    obtain ⟨g, off, e2, h3, h4⟩ := h2 (by intro e0; have q9 := HXL.out; rw [e0] at q9; simp at q9; omega)
    simp only [Value.slice.injEq] at e1
    rw [e2] at e1
    simp only [Option.some.injEq, Addr.mk.injEq] at e1
    obtain ⟨⟨rfl, rfl, _⟩, _⟩ := e1
    rw [hx.cell (p := ⟨gs, os + q * 4 + 3, none⟩) h3 nS, (h4 q (by rw [HXL.out]; exact hq)).2.2.2, hV]
  have HEN : Hid (∀ W, Exc (Vbl ln V) wB W → Below W1.heap.size W1 W ∧ Byo W f1 nA AN ∧ Byo W f2 nA AN ∧ ImO AN M7 W (.slice (some ⟨gt, ot, none⟩) ln yc) (.slice zm zn zc) LY ∧ W.heap[gY]? = some (.cells #[.int .u64 EN, .slice (some ⟨gt, ot, none⟩) ln yc, .slice zm zn zc] 26 (0, 0))) := fun W hx => by
    have b5 := B5.out.size
    have hb : Below W1.heap.size W1 W := (HB9.out _ BB.out).trans (hx.below (HB9.out _ BB.out).size (fun g hg => by have := (HVB.out g hg).1; omega))
    refine ⟨hb, ?_, ?_, ?_, ?_⟩
    · exact (HY9.out.later BB.out).exc hx (fun hg => by have := (HVB.out _ hg).1; have := HF17.out; omega)
    · exact (HC9.out.later BB.out).exc hx (fun hg => by have := (HVB.out _ hg).1; have := HF27.out; omega)
    · have q := (HI9.out _ BB.out).2
      rw [← hM7] at q
      exact q.keepB (fun j h1 h2 => hx.block j h2 (fun hg => by have := (HVB.out j hg).2; omega))
    · have rY := (HR9.out _ BB.out).2.2
      exact (hx.block gY (heap_lt rY) (fun hg => by have := (HVB.out gY hg).2; have := HGY.out; omega)).trans rY
  have HLV : Hid (M7 ≤ wB.heap.size) := by unfold Hid; rw [hM7]; exact Nat.le_trans HS79.out BB.out.size
  have HF1M : Hid (f1 < M) := by rw [hM]; exact HF17.out
  have HMM : Hid (M ≤ M7) := by rw [hM, hM7]; exact HS57.out
  clear HXB0 HSB HXB HXL HR9 HI9 HB9 BB BA BD RX9 RY9 HX9 HZ9 HY9 HC9 hM hM7 hV hlen HGX HGS7 HF17 HF27 HS57 HS79 HGY B9 B79 B7 B57 B5 B35 B3 B34 B1
  --@L0
  go_wp2
  go_loopw [12] (fun i wr => ∃ (k : Nat) (l : Nat → List Int), k ≤ ln ∧ i = .int .i64 k ∧ Hid (∀ q, q < k → ∀ t, t < len q → (l q).getD t 0 = m1 q) ∧ Hid (Iw2 M ln V len l wB wr)) (fun i _ => ln - (intOf i).toNat)
  case atStart => exact (by obtain ⟨l, hl⟩ := HIW.out; exact ⟨0, l, Nat.zero_le _, rfl, fun q hq => by omega, hl⟩)
  case round =>
    obtain ⟨k, l, hk, rfl, hf, hst⟩ := hrel
    clear HIW
    obtain ⟨cx, _⟩ := HSC.out wr hst.out.x
    by_cases hlt : k < ln
    · have hltq : (k : Int) < (ln : Int) := by omega
      obtain ⟨a, cp, hVk⟩ := hst.out.form k hlt
      have hlk : len k ≤ 200000 := hst.out.len k hlt
      --@L1
      go_wp2
      go_loopw [13] (fun j wr => ∃ (t : Nat) (l : Nat → List Int), t ≤ len k ∧ j = .int .i64 t ∧ Hid (∀ q, q < k → ∀ t, t < len q → (l q).getD t 0 = m1 q) ∧ Hid (∀ t', t' < t → (l k).getD t' 0 = m1 k) ∧ Hid (Iw2 M ln V len l wB wr)) (fun j _ => len k - (intOf j).toNat)
      case atStart => exact ⟨0, l, by omega, rfl, hf, (fun t' ht => by omega), hst⟩
      case round =>
        obtain ⟨t, l2, ht, rfl, hf2, hf3, hst2⟩ := hrel
        clear hst hf cx
        obtain ⟨cx, cs⟩ := HSC.out wr hst2.out.x
        have csk : wr.cell? ⟨gs, os + k * 4 + 3, none⟩ = some (.slice a (len k) cp) := by rw [← hVk]; exact cs k hlt
        clear cs
        by_cases hltt : t < len k
        · have hltt2 : (t : Int) < (len k : Int) := by omega
          obtain ⟨g, cp2, hV2⟩ := hst2.out.sm k hlt (by omega)
          rw [hVk] at hV2
          injection hV2 with e1 e2 e3
          subst e1
          have hce : wr.cell? ⟨g, t, none⟩ = some (.int .u8 ((l2 k).getD t 0)) := by
            have ho := hst2.out.own k hlt
            rw [hVk] at ho
            rw [ho.cellAt t (by omega), bv_get _ _ (by rw [hst2.out.ll k hlt]; exact hltt)]
          have hfr : wr.frozen? ⟨g, t, none⟩ = false := by
            have ho := hst2.out.own k hlt
            rw [hVk] at ho
            exact ho.frozenAt t
          have HN : Hid (Iw2 M ln V len (upd l2 k ((l2 k).set t (m1 k))) wB (wr.setCell ⟨g, t, none⟩ (.int .u8 ((k : Int) + 1)))) := hst2.out.put k hlt t hltt (m1 k) hVk
          have HN2 : Hid (∀ q, q < k → ∀ t', t' < len q → (upd l2 k ((l2 k).set t (m1 k)) q).getD t' 0 = m1 q) := fun q hq => by rw [upd_ne _ _ _ _ (by omega)]; exact hf2.out q hq
          have HN3 : Hid (∀ t', t' < t + 1 → (upd l2 k ((l2 k).set t (m1 k)) k).getD t' 0 = m1 k) := by unfold Hid; rw [upd_at]; exact set_getD (hst2.out.ll k hlt) hltt hf3.out
          have hmod : ((k : Int) + 1) % 256 = (k : Int) + 1 := by omega
          generalize (l2 k).getD t 0 = zz at hce
          clear e2 e3 hf2 hf3 hst2
          --@L2
          go_wp2
          go_roundw
          all_goals first | exact ⟨t + 1, _, by omega, by go_num, HN2, HN3, HN⟩ | (simp [intOf] <;> omega)
        · obtain rfl : t = len k := by omega
          have hnl : ¬ (len k : Int) < (len k : Int) := by omega
          have HN4 : Hid (∀ q, q < k + 1 → ∀ t, t < len q → (l2 q).getD t 0 = m1 q) := fun q hq => by
            by_cases e : q = k
            · subst e; exact hf3.out
            · exact hf2.out q (by omega)
          clear hf2 hf3
          --@L3
          go_wp2
          go_roundw
          all_goals first | exact ⟨k + 1, l2, by omega, by go_num, HN4, hst2⟩ | (simp [intOf] <;> omega)
    · obtain rfl : k = ln := by omega
      have hnl : ¬ (k : Int) < (k : Int) := by omega
      have HO3 : Hid (Iw3 M wB.heap.size k V len 0 V (.slice none 0 0) wB wr) := hst.out.iw3 hf.out
      obtain ⟨NB, hNB⟩ : ∃ NB, NB = wB.heap.size := ⟨_, rfl⟩
      rw [← hNB] at HO3
      clear hst hf hNB hlt hk
      --@L4
      go_wp2
      go_loopw [11, 14] (fun vg i wr => ∃ (j : Nat) (G : Nat → Value), j ≤ k ∧ i = .int .i64 j ∧ Hid (Iw3 M NB k V len j G vg wB wr)) (fun _ i _ => k - (intOf i).toNat)
      case atStart => exact ⟨0, V, Nat.zero_le _, rfl, HO3⟩
      case round =>
        obtain ⟨j, Gv, hj, rfl, hst⟩ := hrel
        clear HO3 cx
        obtain ⟨cx, cs⟩ := HSC.out wr hst.out.x
        by_cases hlt : j < k
        · have hltr : (j : Int) < (k : Int) := by omega
          obtain ⟨a, cp, hVk, _⟩ := hst.out.old_ j hlt
          have csk : wr.cell? ⟨gs, os + j * 4 + 3, none⟩ = some (.slice a (len j) cp) := by rw [← hVk]; exact cs j hlt
          have hlk : len j ≤ 200000 := hst.out.len j hlt
          have HS4 : Hid (Iw4 M V len j 0 (.slice a (len j) cp) wr wr) := by have h := hst.out.start hlt; rw [hVk] at h; exact h
          have HNWr : Hid (NB ≤ wr.heap.size) := by unfold Hid; rw [hst.out.hN]; exact hst.out.x.size
          have HMW : Hid (M ≤ wr.heap.size) := Nat.le_trans hst.out.hM HNWr.out
          have HVBr : Hid (∀ g, (V j).ownBlock = some g → g < wr.heap.size) := fun g hg => Nat.lt_of_lt_of_le (hst.out.vb j hlt g hg) HNWr.out
          have HV0 : Hid (∀ g off n c, V j = .slice (some ⟨g, off, none⟩) n c → off = 0) := hst.out.vz j hlt
          clear hVk cs
          --@L5
          go_wp2
          obtain ⟨wa, hwa⟩ : ∃ wa, wa = wr := ⟨_, rfl⟩
          rw [← hwa] at HS4 HMW HVBr hst HNWr ⊢
          clear csk cx hwa
          --@L6
          go_loopw [15, 16] (fun gv i wr => ∃ t : Nat, t ≤ 64 ∧ i = .int .i64 t ∧ Hid (Iw4 M V len j t gv wa wr)) (fun _ i _ => 64 - (intOf i).toNat)
          case atStart => exact ⟨0, by omega, rfl, HS4⟩
          case round =>
            obtain ⟨t, ht, rfl, hp4⟩ := hrel
            clear HS4
            by_cases hltt : t < 64
            · have hltt2 : (t : Int) < 64 := by omega
              have hmod : ((j : Int) + 101) % 256 = (j : Int) + 101 := by omega
              --@L7
              go_wp2_with (at_builtin; refine appO (by rfl) _ _ (by rfl) M _ (len j + t) (List.replicate (len j) (m1 j) ++ List.replicate t (m2 j)) ((j : Int) + 101) (by rfl) (own_later hp4.out.own (below_al _) rfl) ⟨wr.heap.size, 0, none⟩ (by rfl) (by rfl) (by simp [World.cell?_alloc_new]) (by omega) (Nat.le_trans HMW.out (Nat.le_trans hp4.out.x.size (below_al _).size)) ?_; intro v8 w8 ho8 hx8 hbl8 hc8; have HP8 : Hid (Iw4 M V len j (t + 1) v8 wa w8) := hp4.out.next HMW.out HVBr.out HV0.out (below_al _) ho8 hx8 hbl8 hc8; clear ho8 hx8 hbl8 hc8)
              go_roundw
              all_goals first | exact ⟨t + 1, by omega, by go_num, HP8⟩ | (simp [intOf] <;> omega)
            · obtain rfl : t = 64 := by omega
              rw [show ((64 : Nat) : Int) = (64 : Int) from rfl]
              obtain ⟨a6, c6, e6, _⟩ := Byt.of_own hp4.out.own
              rw [List.length_append, List.length_replicate, List.length_replicate] at e6
              subst e6
              have HGS : Hid (wr.ownsRow NB 29 1 u11 j ((List.range j).map Gv)) := own_exc hst.out.gs hp4.out.x (fun g e q => by have := hst.out.vb j hlt g q; have := (hst.out.gs.lt g e).1; omega)
              have HNW : Hid (NB ≤ wr.heap.size) := Nat.le_trans HNWr.out hp4.out.x.size
              --@L8
              go_wp2_with (at_builtin; refine appVV (by rfl) _ _ (by rfl) NB _ j _ (.slice a6 (len j + 64) c6) (by rfl) (by rfl) HGS.out (by rfl) (by omega) HNW.out ?_; intro v9 w9 ho9 hg9; have HP9 : Hid (Iw3 M NB k V len (j + 1) (upd Gv j (.slice a6 (len j + 64) c6)) v9 wB w9) := hst.out.next hlt hp4.out ho9 hg9; clear ho9 hg9)
              go_roundw
              all_goals first | exact ⟨j + 1, _, by omega, by go_num, HP9⟩ | (simp [intOf] <;> omega)
        · obtain rfl : j = k := by omega
          have hnl2 : ¬ (j : Int) < (j : Int) := by omega
          obtain ⟨gg, cg, hvg, hgc⟩ := hst.out.gt hl0.out
          subst hvg
          have HG := Hid.mkI hgc
          clear hgc hlt hnl cs
          obtain ⟨wz, hwz⟩ : ∃ wz, wz = wr := ⟨_, rfl⟩
          rw [← hwz] at hst HG ⊢
          rw [← hwz] at cx
          clear hwz
          --@L9
          go_wp2
          go_loopw [17] (fun i wr => ∃ q : Nat, q ≤ j ∧ i = .int .i64 q ∧ wr = wz) (fun i _ => j - (intOf i).toNat)
          case atStart => exact ⟨0, Nat.zero_le _, rfl, rfl⟩
          case round =>
            obtain ⟨q, hq, rfl, hwr⟩ := hrel
            subst hwr
            by_cases hlt : q < j
            · have hlt2 : (q : Int) < (j : Int) := by omega
              obtain ⟨a, cp, hVq, hVc⟩ := hst.out.old_ q hlt
              obtain ⟨g, cp2, hGq, hGc⟩ := hst.out.new_ q hlt
              have csq : wr.cell? ⟨gs, os + q * 4 + 3, none⟩ = some (.slice a (len q) cp) := by rw [← hVq]; exact (HSC.out _ hst.out.x).2 q hlt
              have hcg : wr.cell? ⟨gg, q, none⟩ = some (.slice (some ⟨g, 0, none⟩) (len q + 64) cp2) := by rw [← hGq]; exact HG.out q hlt
              have hlq : len q ≤ 200000 := hst.out.len q hlt
              have hm1 : (m1 q != (q : Int) + 1) = false := by unfold m1; simp
              have hm2 : (m2 q != (q : Int) + 101) = false := by unfold m2; simp
              have hmod1 : ((q : Int) + 1) % 256 = (q : Int) + 1 := by omega
              have hmod2 : ((q : Int) + 101) % 256 = (q : Int) + 101 := by omega
              have HVC := Hid.mkI hVc
              have HGC := Hid.mkI hGc
              clear hVq hGq hVc hGc
              generalize m1 q = M1 at HVC HGC hm1
              generalize m2 q = M2 at HGC hm2
              --@L10
              go_wp2
              go_loopw [19] (fun i wq => ∃ t : Nat, t ≤ len q + 64 ∧ i = .int .i64 t ∧ wq = wr) (fun i _ => len q + 64 - (intOf i).toNat)
              case atStart => exact ⟨0, by omega, rfl, rfl⟩
              case round =>
                obtain ⟨t, ht, rfl, hwq⟩ := hrel
                have hwq2 := hwq.symm
                subst hwq2
                by_cases hltt : t < len q + 64
                · have hltt2 : (t : Int) < ((len q + 64 : Nat) : Int) := by omega
                  have hgt := HGC.out t hltt
                  by_cases hl3 : t < len q
                  · have hl32 : (t : Int) < (len q : Int) := by omega
                    rw [if_pos hl3] at hgt
                    obtain ⟨gv, ov, eav, hvt⟩ := HVC.out (by omega)
                    have hvt2 := hvt t hl3
                    rw [eav] at csq
                    clear hvt eav
                    --@L11
                    go_wp2
                    go_roundw
                    all_goals first | exact ⟨t + 1, by omega, by go_num, trivial⟩ | (simp [intOf] <;> omega)
                  · have hl32 : ¬ (t : Int) < (len q : Int) := by omega
                    rw [if_neg hl3] at hgt
                    --@L12
                    go_wp2
                    go_roundw
                    all_goals first | exact ⟨t + 1, by omega, by go_num, trivial⟩ | (simp [intOf] <;> omega)
                · obtain rfl : t = len q + 64 := by omega
                  have hnl : ¬ ((len q + 64 : Nat) : Int) < ((len q + 64 : Nat) : Int) := by omega
                  --@L13
                  go_wp2
                  go_roundw
                  all_goals first | exact ⟨q + 1, by omega, by go_num, trivial⟩ | (simp [intOf] <;> omega)
            · obtain rfl : q = j := by omega
              have hnl3 : ¬ (q : Int) < (q : Int) := by omega
              obtain ⟨e1, e2, e3, e4, e5⟩ := HEN.out _ hst.out.x
              have BZ := Hid.mkI e1
              have YZ := Hid.mkI e2
              have CZ := Hid.mkI e3
              have IZ := Hid.mkI e4
              have RZ := Hid.mkI e5
              have MZ : Hid (M7 ≤ wr.heap.size) := Nat.le_trans HLV.out hst.out.x.size
              clear e1 e2 e3 e4 e5 hst HG hlt HEN HSC HVB
              --@L14
              go_upto_region 40 with (go_at_call 9; refine (cRd.out _ _ BZ.out YZ.out.1).mono ?_; rintro e wC ⟨gu, ou, uc2, pm, pn, pc, LZ, rfl, q1, q2⟩; have HZC := Hid.mkI q1.2; have BC := Hid.mkI q2; clear q1 q2)
              refine on_w (motive := fun W => Code.wp _ _ _ _ W) (Q := fun W => W.heap[wC.heap.size]? = some (.cells #[.int .u64 EN, .slice (some ⟨gu, ou, none⟩) q uc2, .slice pm pn pc] 26 (0, 0)) ∧ Below wC.heap.size wC W) ⟨heap_alloc_new wC _, below_al _⟩ ?_
              generalize hgZ : wC.heap.size = gZ
              rintro WD ⟨s1, s2⟩
              have RD := Hid.mkI s1
              have BCD : Hid (Below wC.heap.size wC WD) := by unfold Hid; rw [hgZ]; exact s2
              have BD : Hid (Below wr.heap.size wr WD) := BC.out.trans (BCD.out.mono BC.out.size)
              have YD : Hid (Byo WD f1 nA AN) := YZ.out.later BD.out
              have HZf0 : Hid (f1 < wr.heap.size) := by obtain ⟨C, _, h2⟩ := YZ.out.2; exact heap_lt h2
              obtain ⟨Mz, hMz⟩ : ∃ Mz, Mz = wr.heap.size := ⟨_, rfl⟩
              have HZf : Hid (f1 < Mz) := by rw [hMz]; exact HZf0.out
              have HGZ : Hid (gZ ≠ f1) := by have := HZf0.out; have := BC.out.size; unfold Hid; omega
              have HGY2 : Hid (gY ≠ f1) := fun e => by
                obtain ⟨C, _, h2⟩ := YZ.out.2
                have h3 := RZ.out
                rw [e, h2] at h3
                simp at h3
              have HZD : Hid (ImO AN Mz WD (.slice (some ⟨gu, ou, none⟩) q uc2) (.slice pm pn pc) LZ) := by rw [hMz]; exact HZC.out.below BCD.out
              have RYD : Hid (WD.heap[gY]? = some (.cells #[.int .u64 EN, .slice (some ⟨gt, ot, none⟩) q yc, .slice zm zn zc] 26 (0, 0))) := (BD.out.block gY (heap_lt RZ.out)).trans RZ.out
              have IYD : Hid (ImO AN M7 WD (.slice (some ⟨gt, ot, none⟩) q yc) (.slice zm zn zc) LY) := IZ.out.below BD.out
              have BWD : Hid (Below W1.heap.size W1 WD) := BZ.out.trans (BD.out.mono BZ.out.size)
              have CD : Hid (Byo WD f2 nA AN) := CZ.out.later BD.out
              clear s1 s2 hgZ hMz HZf0 HZC BC BCD BD YZ IZ RZ CZ BZ MZ
              --@M1
              go_wp2
              go_loopw [22] (fun i wq => ∃ t : Nat, t ≤ nA ∧ i = .int .i64 t ∧ Hid (Wov f1 nA WD wq)) (fun i _ => nA - (intOf i).toNat)
              case atStart => exact ⟨0, Nat.zero_le _, rfl, Wov.start YD.out⟩
              case round =>
                obtain ⟨t, ht, rfl, hov⟩ := hrel
                by_cases hltt : t < nA
                · have hltt2 : (t : Int) < (nA : Int) := by omega
                  obtain ⟨yy, hyy⟩ := hov.out.cell t hltt
                  have hfr := hov.out.frozen t
                  --@M2
                  go_wp2
                  go_roundw
                  all_goals first | exact ⟨t + 1, by omega, by go_num, hov.out.set t _⟩ | (simp [intOf] <;> omega)
                · obtain rfl : t = nA := by omega
                  have hnl4 : ¬ (t : Int) < (t : Int) := by omega
                  have hoo := Hid.mkI hov.out.o
                  clear hov hltt
                  have BE : Hid (Below W1.heap.size W1 wr) := hoo.out.below BWD.out HF1.out BWD.out.size
                  have RYE : Hid (wr.heap[gY]? = some (.cells #[.int .u64 EN, .slice (some ⟨gt, ot, none⟩) q yc, .slice zm zn zc] 26 (0, 0))) := (hoo.out.block gY (heap_lt RYD.out) HGY2.out).trans RYD.out
                  have RZE : Hid (wr.heap[gZ]? = some (.cells #[.int .u64 EN, .slice (some ⟨gu, ou, none⟩) q uc2, .slice pm pn pc] 26 (0, 0))) := (hoo.out.block gZ (heap_lt RD.out) HGZ.out).trans RD.out
                  have CE : Hid (f2 < wr.heap.size ∧ wr.cell? ⟨f2, 0, none⟩ = some (.int .u8 127)) := by
                    obtain ⟨⟨a, cap, e, _, _, h4⟩, C, _, h2⟩ := CD.out
                    obtain ⟨g, off, ea, hg, hcc⟩ := h4 (by intro e0; have q9 := HNA.out; rw [e0] at q9; have := HA0.out; simp at q9; omega)
                    rw [ea] at e
                    simp only [Value.slice.injEq, Option.some.injEq, Addr.mk.injEq] at e
                    obtain ⟨⟨rfl, rfl, _⟩, e2, _⟩ := e
                    have c0 := hcc 0 (by have := HA0.out; omega)
                    rw [HFB.out] at c0
                    exact ⟨Nat.lt_of_lt_of_le hg hoo.out.size, (World.cell?_of_block (w := WD) (hoo.out.block f2 hg (fun e => HF12.out e.symm))).trans c0⟩
                  have HRE : Hid (∀ W, Below wr.heap.size wr W → W.heap[gI]? = some (.cells #[.int .u64 EN, .slice sa q sc, .slice na nn nc] 26 (0, 0)) ∧ W.heap[gY]? = some (.cells #[.int .u64 EN, .slice (some ⟨gt, ot, none⟩) q yc, .slice zm zn zc] 26 (0, 0)) ∧ W.heap[gZ]? = some (.cells #[.int .u64 EN, .slice (some ⟨gu, ou, none⟩) q uc2, .slice pm pn pc] 26 (0, 0)) ∧ W.cell? ⟨f2, 0, none⟩ = some (.int .u8 127)) := fun W hb => ⟨RI.out W (BE.out.trans (hb.mono BE.out.size)), (hb.block gY (heap_lt RYE.out)).trans RYE.out, (hb.block gZ (heap_lt RZE.out)).trans RZE.out, (hb.cell (p := ⟨f2, 0, none⟩) CE.out.1).trans CE.out.2⟩
                  have HIE : Hid (∀ W, Below wr.heap.size wr W → ImO AN M7 W (.slice (some ⟨gt, ot, none⟩) q yc) (.slice zm zn zc) LY ∧ ImO AN Mz W (.slice (some ⟨gu, ou, none⟩) q uc2) (.slice pm pn pc) LZ) := fun W hb => ⟨(IYD.out.keepB (fun j h1 h2 => hoo.out.block j h2 (by have := HF1M.out; have := HMM.out; omega))).below hb, (HZD.out.keepB (fun j h1 h2 => hoo.out.block j h2 (by have := HZf.out; omega))).below hb⟩
                  have HBE : Hid (∀ W, Below wr.heap.size wr W → Below W1.heap.size W1 W) := fun W hb => BE.out.trans (hb.mono BE.out.size)
                  have BR : Hid (Below wr.heap.size wr wr) := Below.refl _ _
                  obtain ⟨r1, r2, r3, _⟩ := HRE.out _ BR.out
                  have a0 := cell_of_row _ gI 0 _ _ _ r1
                  have a1 := cell_of_row _ gI 1 _ _ _ r1
                  have a2 := cell_of_row _ gI 2 _ _ _ r1
                  have y0 := cell_of_row _ gY 0 _ _ _ r2
                  have y1 := cell_of_row _ gY 1 _ _ _ r2
                  have y2 := cell_of_row _ gY 2 _ _ _ r2
                  have hnil : ∀ w : World, (binOp .eql 36 .nilIface .nilIface).run Tryz.prog w = .ok (.bool true) w := fun w => by kernel_rfl
                  have heg : ∀ (w : World), (eqGuard .eql 36 (.tmp 227) (.const .nilIface) .nilIface .nilIface).run Tryz.prog w = .ok () w := fun w => by kernel_rfl
                  clear r1 r2 r3 hoo RYE RZE CE BE IYD HZD RYD RD YD CD BWD cRd HTB HET
                  --@M3
                  go_wp2_with (first | (go_at_call 8; refine (hnum.out _ _).mono ?_; rintro e wz ⟨rfl, hwz⟩; rw [hwz]; clear hwz) | (go_at_call 10; first | (refine (cAl.out _ _ _ LZ _ (HBE.out _ BF.out) (HIE.out _ BF.out).2).mono ?_; rintro e wG ⟨rfl, q1⟩; have BG : Hid (Below wr.heap.size wr wG) := BF.out.trans (q1.mono BF.out.size); have f0 := (HRE.out _ BG.out).2.2.2; clear q1) | (refine (cAl.out _ _ _ LY _ (HBE.out _ BR.out) (HIE.out _ BR.out).1).mono ?_; rintro e wF ⟨rfl, q1⟩; have BF : Hid (Below wr.heap.size wr wF) := BR.out.trans (q1.mono BR.out.size); obtain ⟨r1, r2, r3, _⟩ := HRE.out _ BF.out; have c0 := cell_of_row _ gI 0 _ _ _ r1; have c1 := cell_of_row _ gI 1 _ _ _ r1; have c2 := cell_of_row _ gI 2 _ _ _ r1; have z0 := cell_of_row _ gZ 0 _ _ _ r3; have z1 := cell_of_row _ gZ 1 _ _ _ r3; have z2 := cell_of_row _ gZ 2 _ _ _ r3; clear q1 r1 r2 r3)))
                  --@M4
                  go_ret
                  exact ⟨rfl, H1.out _ (HBE.out _ BG.out)⟩
theorem own_c (E0 : BitVec 64) (vs vn : Value) (L0 : List Sg) (N0 : List Sy) (D0 : Nat → List Int) (w : World) (h : Arg w vs vn L0 N0 D0) (hT : Tabs w) (hE : EtW w) :
    Calls Tryz.prog 3 #[.agg #[.int .u64 (n64 E0), vs, vn]] w fun e w' => e = .returned (.bool true) ∧ Below w.heap.size w w' := by
  by_cases hx0 : L0.length = 0
  · exact own_sm E0 vs vn L0 N0 D0 w h hT hE hx0
  by_cases hc : ck E0 L0 N0 = 0
  · exact own_im_yes E0 vs vn L0 N0 D0 w h hT hE hx0 hc
  · exact own_im_no E0 vs vn L0 N0 D0 w h hT hE hx0 hc
end Go.Proofs.YtopddflnahfomaaGreatDoor
