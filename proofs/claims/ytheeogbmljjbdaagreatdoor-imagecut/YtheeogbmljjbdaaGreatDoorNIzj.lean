/-
  ImageUnseen: its walk.
-/
import Derived.Test.YtheeogbmljjbdaaGreatDoorN43
namespace Go.Proofs.YtheeogbmljjbdaaGreatDoor
set_option linter.unusedVariables false
set_option maxRecDepth 100000
open Go.ChangeShapes Go.WideShapes Go.ChangeAt Go.RowKit Go.Deep
/-- A byte of a row of one's own is written. -/
theorem Byo.set {w : World} {f n : Nat} {l : List Int} (h : Byo w f n l) (k : Nat) (hk : k < n) (z : Int) :
    (∃ u, w.cell? ⟨f, k, none⟩ = some u) ∧ w.frozen? ⟨f, k, none⟩ = false ∧ Byt (w.setCell ⟨f, k, none⟩ (.int .u8 z)) (.slice (some ⟨f, 0, none⟩) n n) (l.set k z) := by
  obtain ⟨⟨a, cap, e, hc, _, hcell⟩, C, hC, hr⟩ := h
  simp only [Value.slice.injEq] at e
  obtain ⟨rfl, e2, rfl⟩ := e
  have hne : l ≠ [] := by intro q; rw [q] at e2; simp at e2; omega
  obtain ⟨g, off, e3, _, hcl⟩ := hcell hne
  simp only [Option.some.injEq, Addr.mk.injEq] at e3
  obtain ⟨rfl, rfl, _⟩ := e3
  have hCj : ∀ j, j < l.length → C[j]? = some (.int .u8 (l.getD j 0)) := fun j hj => by
    have q := hcl j hj
    rw [cell_of_row w f (0 + j) _ _ _ hr, Nat.zero_add] at q
    exact q
  refine ⟨⟨_, (cell_of_row w f k _ _ _ hr).trans (hCj k (by omega))⟩, frozen_of_row w f k _ _ hr, ?_⟩
  have hs := heap_setCell_same w f k C 5 (.int .u8 z) hr
  refine ⟨some ⟨f, 0, none⟩, n, by rw [List.length_set, ← e2], by rw [List.length_set]; omega, (fun e => by cases e), fun _ => ⟨f, 0, rfl, heap_lt hs, fun j hj => ?_⟩⟩
  rw [List.length_set] at hj
  rw [cell_of_row _ f (0 + j) _ _ _ hs, Nat.zero_add, Array.getElem?_setIfInBounds]
  by_cases e : k = j
  · subst e
    rw [if_pos rfl, if_pos (by omega)]
    simp [hj]
  · rw [if_neg e, hCj j hj]
    simp [List.getD, List.getElem?_set_ne e]
theorem allB_set {l : List Int} (h : AllB l) (k : Nat) (z : Int) (hz : 0 ≤ z ∧ z ≤ 255) : AllB (l.set k z) := fun x hx => by
  rcases List.mem_or_eq_of_mem_set hx with q | rfl
  · exact h x q
  · exact hz
theorem szz_hd (L : List Sg) (N : List Sy) : 64 + 56 * L.length ≤ szz L N := by
  have h1 := szz_lo L N
  have h2 := sk_lo L L.length
  omega
/-- Write of a twin that Check takes. -/
theorem Arg.write_o {w0 w : World} {vs vn : Value} {L M : List Sg} {N : List Sy} {D : Nat → List Int} (h : Arg w0 vs vn L N D) (E : BitVec 64) {us un : Value} (ha : Alike L M) (hi : Img w us un M N) (hd : Dta w M D) (hT : Tabs w) (hc : ck E L N = 0) :
    Calls Tryz.prog 12 #[.agg #[.int .u64 (n64 E), us, un]] w fun e w' => ∃ f n, w.heap.size ≤ f ∧ e = .returned (.tuple #[.slice (some ⟨f, 0, none⟩) n n, .int .i64 0]) ∧ Byo w' f n (ans E L N D) ∧ Below w.heap.size w w' := by
  have h1 := h.nL
  have h2 := h.nN
  have q := pwrite_o E us un M N D (by rw [ha.len]; omega) (by omega) w hi hd hT ((ck_alike ha E N).trans hc)
  rw [ans_alike ha E N] at q
  exact q
set_option maxHeartbeats 8000000 in
theorem unseen_no (E : BitVec 64) (vs vn : Value) (L : List Sg) (N : List Sy) (D : Nat → List Int) (x v : Int) (w : World) (h : Arg w vs vn L N D) (hT : Tabs w) (hE : EtW w) (hv : 0 ≤ v ∧ v ≤ 255) (hc : ¬ ck E L N = 0) :
    Calls Tryz.prog 6 #[.agg #[.int .u64 (n64 E), vs, vn], .int .i64 x, .int .u8 v] w fun e w' => e = .returned (.bool true) ∧ Below w.heap.size w w' := by
  have hsz := h.im.segs
  obtain ⟨sa, sc, rfl, _⟩ := h.im.segs
  obtain ⟨na, nc, rfl, _⟩ := h.im.syms
  generalize hln : L.length = ln at *
  generalize N.length = nn at *
  have HA : Hid (∀ w', Below w.heap.size w w' → Arg w' (.slice sa ln sc) (.slice na nn nc) L N D) := fun w' hb => h.later hb
  have cFi : Hid (∀ wx, Below w.heap.size w wx → Calls Tryz.prog 9 #[] wx fun e w' => e = .returned (.bool true) ∧ Below wx.heap.size wx w') := fun wx hx => first_c wx (hT.below hx rfl) (hE.below hx rfl)
  have cTw : Hid (∀ wx, Below w.heap.size w wx → Calls Tryz.prog 11 #[.agg #[.int .u64 (n64 E), .slice sa ln sc, .slice na nn nc]] wx fun e w' => ∃ a1 a2 a3 b1 b2 b3 M, e = .returned (.agg #[.int .u64 (n64 E), .slice a1 a2 a3, .slice b1 b2 b3]) ∧ (Alike L M ∧ Img w' (.slice a1 a2 a3) (.slice b1 b2 b3) M N ∧ Dta w' M D) ∧ Below wx.heap.size wx w') := fun wx hx => ((HA.out wx hx).twin E).mono fun e w' ⟨a1, a2, a3, b1, b2, b3, M, he, q1, q2, q3, q4⟩ => ⟨a1, a2, a3, b1, b2, b3, M, he, ⟨q1, q2, q3⟩, q4⟩
  have hnum : Hid (∀ z W, Calls Tryz.prog 13 #[.int .i64 z] W fun e w' => e = .returned (.int .i64 z) ∧ w' = W) := fun z W => num_c z W
  obtain ⟨R, hR⟩ : ∃ R, R = ck E L N := ⟨_, rfl⟩
  have hR0 : ¬ R = 0 := by rw [hR]; exact hc
  have cWr : Hid (∀ wx us un M, Below w.heap.size w wx → (Alike L M ∧ Img wx us un M N ∧ Dta wx M D) → Calls Tryz.prog 12 #[.agg #[.int .u64 (n64 E), us, un]] wx fun e w' => ∃ a n cap, e = .returned (.tuple #[.slice a n cap, .int .i64 R]) ∧ Below wx.heap.size wx w') := fun wx us un M hx hq => (h.write E hq.1 hq.2.1 hq.2.2 (hT.below hx rfl) R hR).mono fun e w' ⟨a, n, cap, h1, h2, h3, _, h5⟩ => ⟨a, n, cap, h1, h5⟩
  clear HA hT hE h hR hc hsz hln
  generalize n64 E = EN at *
  go_enter Tryz.func6, Tryz.ntmps6
  go_upto_region 1 with fail
  refine on_w (motive := fun W => Code.wp _ _ _ _ W) (Q := fun W => W.heap[w.heap.size]? = some (.cells #[.int .u64 EN, .slice sa ln sc, .slice na nn nc] 26 (0, 0)) ∧ Below w.heap.size w W) ⟨heap_alloc_new w _, below_al _⟩ ?_
  generalize hgI : w.heap.size = gI
  rintro W1 ⟨s1, s2⟩
  have RI : Hid (∀ W, Below W1.heap.size W1 W → W.heap[gI]? = some (.cells #[.int .u64 EN, .slice sa ln sc, .slice na nn nc] 26 (0, 0))) := fun W hb => (hb.block gI (heap_lt s1)).trans s1
  have H1 : Hid (∀ W, Below W1.heap.size W1 W → Below w.heap.size w W) := fun W hb => by rw [hgI]; exact s2.trans (hb.mono (Nat.le_of_lt (heap_lt s1)))
  have B1 : Hid (Below W1.heap.size W1 W1) := Below.refl _ _
  clear s1 s2 hgI
  go_upto_region 3 with (go_at_call 9; refine (cFi.out _ (H1.out _ B1.out)).mono ?_; rintro e w2 ⟨rfl, q1⟩; have B2 : Hid (Below W1.heap.size W1 w2) := B1.out.trans (q1.mono B1.out.size); have r0 := RI.out _ B2.out; have b0 := cell_of_row _ gI 0 _ _ _ r0; have b1 := cell_of_row _ gI 1 _ _ _ r0; have b2 := cell_of_row _ gI 2 _ _ _ r0; clear q1 r0 cFi)
  go_upto_region 4 with (first | (go_at_call 11; refine (cTw.out _ (H1.out _ B2.out)).mono ?_; rintro e w5 ⟨f1, f2, f3, g1, g2, g3, M5, rfl, q1, q2⟩; have HM5 := Hid.mkI q1; have B5 : Hid (Below W1.heap.size W1 w5) := B2.out.trans (q2.mono B2.out.size); clear q1 q2) | (go_at_call 12; refine (cWr.out _ _ _ _ (H1.out _ B5.out) HM5.out).mono ?_; rintro e w6 ⟨av, n, cap, rfl, q2⟩; have B6 : Hid (Below W1.heap.size W1 w6) := B5.out.trans (q2.mono B5.out.size); clear q2))
  clear cWr cTw HM5 b0 b1 b2
  go_wp2_with (go_at_call 13; refine (hnum.out _ _).mono ?_; rintro e wz ⟨rfl, hwz⟩; rw [hwz]; clear hwz)
  go_ret
  exact ⟨rfl, H1.out _ B6.out⟩
set_option maxHeartbeats 8000000 in
theorem unseen_neg (E : BitVec 64) (vs vn : Value) (L : List Sg) (N : List Sy) (D : Nat → List Int) (x v : Int) (w : World) (h : Arg w vs vn L N D) (hT : Tabs w) (hE : EtW w) (hv : 0 ≤ v ∧ v ≤ 255) (hc : ck E L N = 0) (hx : x < 0) :
    Calls Tryz.prog 6 #[.agg #[.int .u64 (n64 E), vs, vn], .int .i64 x, .int .u8 v] w fun e w' => e = .returned (.bool true) ∧ Below w.heap.size w w' := by
  have hsz := h.im.segs
  obtain ⟨sa, sc, rfl, _⟩ := h.im.segs
  obtain ⟨na, nc, rfl, _⟩ := h.im.syms
  generalize hln : L.length = ln at *
  generalize N.length = nn at *
  have HA : Hid (∀ w', Below w.heap.size w w' → Arg w' (.slice sa ln sc) (.slice na nn nc) L N D) := fun w' hb => h.later hb
  have cFi : Hid (∀ wx, Below w.heap.size w wx → Calls Tryz.prog 9 #[] wx fun e w' => e = .returned (.bool true) ∧ Below wx.heap.size wx w') := fun wx hx => first_c wx (hT.below hx rfl) (hE.below hx rfl)
  have cTw : Hid (∀ wx, Below w.heap.size w wx → Calls Tryz.prog 11 #[.agg #[.int .u64 (n64 E), .slice sa ln sc, .slice na nn nc]] wx fun e w' => ∃ a1 a2 a3 b1 b2 b3 M, e = .returned (.agg #[.int .u64 (n64 E), .slice a1 a2 a3, .slice b1 b2 b3]) ∧ (Alike L M ∧ Img w' (.slice a1 a2 a3) (.slice b1 b2 b3) M N ∧ Dta w' M D) ∧ Below wx.heap.size wx w') := fun wx hx => ((HA.out wx hx).twin E).mono fun e w' ⟨a1, a2, a3, b1, b2, b3, M, he, q1, q2, q3, q4⟩ => ⟨a1, a2, a3, b1, b2, b3, M, he, ⟨q1, q2, q3⟩, q4⟩
  have hnum : Hid (∀ z W, Calls Tryz.prog 13 #[.int .i64 z] W fun e w' => e = .returned (.int .i64 z) ∧ w' = W) := fun z W => num_c z W
  have hc' := hc
  have cWr : Hid (∀ wx us un M, Below w.heap.size w wx → (Alike L M ∧ Img wx us un M N ∧ Dta wx M D) → Calls Tryz.prog 12 #[.agg #[.int .u64 (n64 E), us, un]] wx fun e w' => ∃ f n, wx.heap.size ≤ f ∧ e = .returned (.tuple #[.slice (some ⟨f, 0, none⟩) n n, .int .i64 0]) ∧ Byo w' f n (ans E L N D) ∧ Below wx.heap.size wx w') := fun wx us un M hx hq => h.write_o E hq.1 hq.2.1 hq.2.2 (hT.below hx rfl) hc
  have hl16 : (ln : Int) ≤ 16 := by have := (ck_all hc).2.1; omega
  clear HA hT hE h hc hc' hsz hln
  generalize n64 E = EN at *
  go_enter Tryz.func6, Tryz.ntmps6
  go_upto_region 1 with fail
  refine on_w (motive := fun W => Code.wp _ _ _ _ W) (Q := fun W => W.heap[w.heap.size]? = some (.cells #[.int .u64 EN, .slice sa ln sc, .slice na nn nc] 26 (0, 0)) ∧ Below w.heap.size w W) ⟨heap_alloc_new w _, below_al _⟩ ?_
  generalize hgI : w.heap.size = gI
  rintro W1 ⟨s1, s2⟩
  have RI : Hid (∀ W, Below W1.heap.size W1 W → W.heap[gI]? = some (.cells #[.int .u64 EN, .slice sa ln sc, .slice na nn nc] 26 (0, 0))) := fun W hb => (hb.block gI (heap_lt s1)).trans s1
  have H1 : Hid (∀ W, Below W1.heap.size W1 W → Below w.heap.size w W) := fun W hb => by rw [hgI]; exact s2.trans (hb.mono (Nat.le_of_lt (heap_lt s1)))
  have B1 : Hid (Below W1.heap.size W1 W1) := Below.refl _ _
  clear s1 s2 hgI
  go_upto_region 3 with (go_at_call 9; refine (cFi.out _ (H1.out _ B1.out)).mono ?_; rintro e w2 ⟨rfl, q1⟩; have B2 : Hid (Below W1.heap.size W1 w2) := B1.out.trans (q1.mono B1.out.size); have r0 := RI.out _ B2.out; have b0 := cell_of_row _ gI 0 _ _ _ r0; have b1 := cell_of_row _ gI 1 _ _ _ r0; have b2 := cell_of_row _ gI 2 _ _ _ r0; clear q1 r0 cFi)
  go_upto_region 4 with (first | (go_at_call 11; refine (cTw.out _ (H1.out _ B2.out)).mono ?_; rintro e w5 ⟨f1, f2, f3, g1, g2, g3, M5, rfl, q1, q2⟩; have HM5 := Hid.mkI q1; have B5 : Hid (Below W1.heap.size W1 w5) := B2.out.trans (q2.mono B2.out.size); clear q1 q2) | (go_at_call 12; refine (cWr.out _ _ _ _ (H1.out _ B5.out) HM5.out).mono ?_; rintro e w6 ⟨f, n, q0, rfl, q1, q2⟩; have HF : Hid (W1.heap.size ≤ f) := Nat.le_trans B5.out.size q0; have HY6 := Hid.mkI q1; have B6 : Hid (Below W1.heap.size W1 w6) := B5.out.trans (q2.mono B5.out.size); have r0 := RI.out _ B6.out; have d0 := cell_of_row _ gI 0 _ _ _ r0; have d1 := cell_of_row _ gI 1 _ _ _ r0; have d2 := cell_of_row _ gI 2 _ _ _ r0; clear q0 q1 q2 r0))
  clear cWr cTw HM5 b0 b1 b2
  go_wp2_with (go_at_call 13; refine (hnum.out _ _).mono ?_; rintro e wz ⟨rfl, hwz⟩; rw [hwz]; clear hwz)
  go_ret
  exact ⟨rfl, H1.out _ B6.out⟩
set_option maxHeartbeats 8000000 in
theorem unseen_far (E : BitVec 64) (vs vn : Value) (L : List Sg) (N : List Sy) (D : Nat → List Int) (x v : Int) (w : World) (h : Arg w vs vn L N D) (hT : Tabs w) (hE : EtW w) (hv : 0 ≤ v ∧ v ≤ 255) (hc : ck E L N = 0) (hx0 : 0 ≤ x) (hx : 64 + 56 * (L.length : Int) ≤ x) :
    Calls Tryz.prog 6 #[.agg #[.int .u64 (n64 E), vs, vn], .int .i64 x, .int .u8 v] w fun e w' => e = .returned (.bool true) ∧ Below w.heap.size w w' := by
  have hsz := h.im.segs
  obtain ⟨sa, sc, rfl, _⟩ := h.im.segs
  obtain ⟨na, nc, rfl, _⟩ := h.im.syms
  generalize hln : L.length = ln at *
  generalize N.length = nn at *
  have HA : Hid (∀ w', Below w.heap.size w w' → Arg w' (.slice sa ln sc) (.slice na nn nc) L N D) := fun w' hb => h.later hb
  have cFi : Hid (∀ wx, Below w.heap.size w wx → Calls Tryz.prog 9 #[] wx fun e w' => e = .returned (.bool true) ∧ Below wx.heap.size wx w') := fun wx hx => first_c wx (hT.below hx rfl) (hE.below hx rfl)
  have cTw : Hid (∀ wx, Below w.heap.size w wx → Calls Tryz.prog 11 #[.agg #[.int .u64 (n64 E), .slice sa ln sc, .slice na nn nc]] wx fun e w' => ∃ a1 a2 a3 b1 b2 b3 M, e = .returned (.agg #[.int .u64 (n64 E), .slice a1 a2 a3, .slice b1 b2 b3]) ∧ (Alike L M ∧ Img w' (.slice a1 a2 a3) (.slice b1 b2 b3) M N ∧ Dta w' M D) ∧ Below wx.heap.size wx w') := fun wx hx => ((HA.out wx hx).twin E).mono fun e w' ⟨a1, a2, a3, b1, b2, b3, M, he, q1, q2, q3, q4⟩ => ⟨a1, a2, a3, b1, b2, b3, M, he, ⟨q1, q2, q3⟩, q4⟩
  have hnum : Hid (∀ z W, Calls Tryz.prog 13 #[.int .i64 z] W fun e w' => e = .returned (.int .i64 z) ∧ w' = W) := fun z W => num_c z W
  have hc' := hc
  have cWr : Hid (∀ wx us un M, Below w.heap.size w wx → (Alike L M ∧ Img wx us un M N ∧ Dta wx M D) → Calls Tryz.prog 12 #[.agg #[.int .u64 (n64 E), us, un]] wx fun e w' => ∃ f n, wx.heap.size ≤ f ∧ e = .returned (.tuple #[.slice (some ⟨f, 0, none⟩) n n, .int .i64 0]) ∧ Byo w' f n (ans E L N D) ∧ Below wx.heap.size wx w') := fun wx us un M hx hq => h.write_o E hq.1 hq.2.1 hq.2.2 (hT.below hx rfl) hc
  have hl16 : (ln : Int) ≤ 16 := by have := (ck_all hc).2.1; omega
  clear HA hT hE h hc hc' hsz hln
  generalize n64 E = EN at *
  go_enter Tryz.func6, Tryz.ntmps6
  go_upto_region 1 with fail
  refine on_w (motive := fun W => Code.wp _ _ _ _ W) (Q := fun W => W.heap[w.heap.size]? = some (.cells #[.int .u64 EN, .slice sa ln sc, .slice na nn nc] 26 (0, 0)) ∧ Below w.heap.size w W) ⟨heap_alloc_new w _, below_al _⟩ ?_
  generalize hgI : w.heap.size = gI
  rintro W1 ⟨s1, s2⟩
  have RI : Hid (∀ W, Below W1.heap.size W1 W → W.heap[gI]? = some (.cells #[.int .u64 EN, .slice sa ln sc, .slice na nn nc] 26 (0, 0))) := fun W hb => (hb.block gI (heap_lt s1)).trans s1
  have H1 : Hid (∀ W, Below W1.heap.size W1 W → Below w.heap.size w W) := fun W hb => by rw [hgI]; exact s2.trans (hb.mono (Nat.le_of_lt (heap_lt s1)))
  have B1 : Hid (Below W1.heap.size W1 W1) := Below.refl _ _
  clear s1 s2 hgI
  go_upto_region 3 with (go_at_call 9; refine (cFi.out _ (H1.out _ B1.out)).mono ?_; rintro e w2 ⟨rfl, q1⟩; have B2 : Hid (Below W1.heap.size W1 w2) := B1.out.trans (q1.mono B1.out.size); have r0 := RI.out _ B2.out; have b0 := cell_of_row _ gI 0 _ _ _ r0; have b1 := cell_of_row _ gI 1 _ _ _ r0; have b2 := cell_of_row _ gI 2 _ _ _ r0; clear q1 r0 cFi)
  go_upto_region 4 with (first | (go_at_call 11; refine (cTw.out _ (H1.out _ B2.out)).mono ?_; rintro e w5 ⟨f1, f2, f3, g1, g2, g3, M5, rfl, q1, q2⟩; have HM5 := Hid.mkI q1; have B5 : Hid (Below W1.heap.size W1 w5) := B2.out.trans (q2.mono B2.out.size); clear q1 q2) | (go_at_call 12; refine (cWr.out _ _ _ _ (H1.out _ B5.out) HM5.out).mono ?_; rintro e w6 ⟨f, n, q0, rfl, q1, q2⟩; have HF : Hid (W1.heap.size ≤ f) := Nat.le_trans B5.out.size q0; have HY6 := Hid.mkI q1; have B6 : Hid (Below W1.heap.size W1 w6) := B5.out.trans (q2.mono B5.out.size); have r0 := RI.out _ B6.out; have d0 := cell_of_row _ gI 0 _ _ _ r0; have d1 := cell_of_row _ gI 1 _ _ _ r0; have d2 := cell_of_row _ gI 2 _ _ _ r0; clear q0 q1 q2 r0))
  clear cWr cTw HM5 b0 b1 b2
  go_wp2_with (go_at_call 13; refine (hnum.out _ _).mono ?_; rintro e wz ⟨rfl, hwz⟩; rw [hwz]; clear hwz)
  go_ret
  exact ⟨rfl, H1.out _ B6.out⟩
set_option maxHeartbeats 8000000 in
theorem unseen_A1 (E : BitVec 64) (vs vn : Value) (L : List Sg) (N : List Sy) (D : Nat → List Int) (x v : Int) (w : World) (h : Arg w vs vn L N D) (hT : Tabs w) (hE : EtW w) (hv : 0 ≤ v ∧ v ≤ 255) (hc : ck E L N = 0) (hx : x < 64 + 56 * (L.length : Int)) (hq : 0 ≤ x ∧ x < 7) :
    Calls Tryz.prog 6 #[.agg #[.int .u64 (n64 E), vs, vn], .int .i64 x, .int .u8 v] w fun e w' => e = .returned (.bool true) ∧ Below w.heap.size w w' := by
  have hsz := h.im.segs
  obtain ⟨sa, sc, rfl, _⟩ := h.im.segs
  obtain ⟨na, nc, rfl, _⟩ := h.im.syms
  generalize hln : L.length = ln at *
  generalize N.length = nn at *
  have HA : Hid (∀ w', Below w.heap.size w w' → Arg w' (.slice sa ln sc) (.slice na nn nc) L N D) := fun w' hb => h.later hb
  have cFi : Hid (∀ wx, Below w.heap.size w wx → Calls Tryz.prog 9 #[] wx fun e w' => e = .returned (.bool true) ∧ Below wx.heap.size wx w') := fun wx hx => first_c wx (hT.below hx rfl) (hE.below hx rfl)
  have cTw : Hid (∀ wx, Below w.heap.size w wx → Calls Tryz.prog 11 #[.agg #[.int .u64 (n64 E), .slice sa ln sc, .slice na nn nc]] wx fun e w' => ∃ a1 a2 a3 b1 b2 b3 M, e = .returned (.agg #[.int .u64 (n64 E), .slice a1 a2 a3, .slice b1 b2 b3]) ∧ (Alike L M ∧ Img w' (.slice a1 a2 a3) (.slice b1 b2 b3) M N ∧ Dta w' M D) ∧ Below wx.heap.size wx w') := fun wx hx => ((HA.out wx hx).twin E).mono fun e w' ⟨a1, a2, a3, b1, b2, b3, M, he, q1, q2, q3, q4⟩ => ⟨a1, a2, a3, b1, b2, b3, M, he, ⟨q1, q2, q3⟩, q4⟩
  have hnum : Hid (∀ z W, Calls Tryz.prog 13 #[.int .i64 z] W fun e w' => e = .returned (.int .i64 z) ∧ w' = W) := fun z W => num_c z W
  have hc' := hc
  have cWr : Hid (∀ wx us un M, Below w.heap.size w wx → (Alike L M ∧ Img wx us un M N ∧ Dta wx M D) → Calls Tryz.prog 12 #[.agg #[.int .u64 (n64 E), us, un]] wx fun e w' => ∃ f n, wx.heap.size ≤ f ∧ e = .returned (.tuple #[.slice (some ⟨f, 0, none⟩) n n, .int .i64 0]) ∧ Byo w' f n (ans E L N D) ∧ Below wx.heap.size wx w') := fun wx us un M hx hq => h.write_o E hq.1 hq.2.1 hq.2.2 (hT.below hx rfl) hc
  have hl16 : (ln : Int) ≤ 16 := by have := (ck_all hc).2.1; omega
  have hx0 : ¬ x < 0 := by omega
  have hxl : ¬ 64 + 56 * (ln : Int) ≤ x := by omega
  have t00 : decide ((7 : Int) ≤ x) = false := by exact decide_eq_false (by omega)
  have t10 : (x == 62) = false := by rw [beq_eq_false_iff_ne]; omega
  have t20 : (x == 63) = false := by rw [beq_eq_false_iff_ne]; omega
  have t30 : decide ((64 : Int) ≤ x) = false := by exact decide_eq_false (by omega)
  clear HA hT hE h hc hc' hsz hln hv hq
  generalize n64 E = EN at *
  go_enter Tryz.func6, Tryz.ntmps6
  go_upto_region 1 with fail
  refine on_w (motive := fun W => Code.wp _ _ _ _ W) (Q := fun W => W.heap[w.heap.size]? = some (.cells #[.int .u64 EN, .slice sa ln sc, .slice na nn nc] 26 (0, 0)) ∧ Below w.heap.size w W) ⟨heap_alloc_new w _, below_al _⟩ ?_
  generalize hgI : w.heap.size = gI
  rintro W1 ⟨s1, s2⟩
  have RI : Hid (∀ W, Below W1.heap.size W1 W → W.heap[gI]? = some (.cells #[.int .u64 EN, .slice sa ln sc, .slice na nn nc] 26 (0, 0))) := fun W hb => (hb.block gI (heap_lt s1)).trans s1
  have H1 : Hid (∀ W, Below W1.heap.size W1 W → Below w.heap.size w W) := fun W hb => by rw [hgI]; exact s2.trans (hb.mono (Nat.le_of_lt (heap_lt s1)))
  have B1 : Hid (Below W1.heap.size W1 W1) := Below.refl _ _
  clear s1 s2 hgI
  go_upto_region 3 with (go_at_call 9; refine (cFi.out _ (H1.out _ B1.out)).mono ?_; rintro e w2 ⟨rfl, q1⟩; have B2 : Hid (Below W1.heap.size W1 w2) := B1.out.trans (q1.mono B1.out.size); have r0 := RI.out _ B2.out; have b0 := cell_of_row _ gI 0 _ _ _ r0; have b1 := cell_of_row _ gI 1 _ _ _ r0; have b2 := cell_of_row _ gI 2 _ _ _ r0; clear q1 r0 cFi)
  go_upto_region 4 with (first | (go_at_call 11; refine (cTw.out _ (H1.out _ B2.out)).mono ?_; rintro e w5 ⟨f1, f2, f3, g1, g2, g3, M5, rfl, q1, q2⟩; have HM5 := Hid.mkI q1; have B5 : Hid (Below W1.heap.size W1 w5) := B2.out.trans (q2.mono B2.out.size); clear q1 q2) | (go_at_call 12; refine (cWr.out _ _ _ _ (H1.out _ B5.out) HM5.out).mono ?_; rintro e w6 ⟨f, n, q0, rfl, q1, q2⟩; have HF : Hid (W1.heap.size ≤ f) := Nat.le_trans B5.out.size q0; have HY6 := Hid.mkI q1; have B6 : Hid (Below W1.heap.size W1 w6) := B5.out.trans (q2.mono B5.out.size); have r0 := RI.out _ B6.out; have d0 := cell_of_row _ gI 0 _ _ _ r0; have d1 := cell_of_row _ gI 1 _ _ _ r0; have d2 := cell_of_row _ gI 2 _ _ _ r0; clear q0 q1 q2 r0))
  clear cWr cTw HM5 b0 b1 b2
  go_wp2_with (go_at_call 13; refine (hnum.out _ _).mono ?_; rintro e wz ⟨rfl, hwz⟩; rw [hwz]; clear hwz)
  go_ret
  exact ⟨rfl, H1.out _ B6.out⟩
set_option maxHeartbeats 8000000 in
theorem unseen_A2 (E : BitVec 64) (vs vn : Value) (L : List Sg) (N : List Sy) (D : Nat → List Int) (x v : Int) (w : World) (h : Arg w vs vn L N D) (hT : Tabs w) (hE : EtW w) (hv : 0 ≤ v ∧ v ≤ 255) (hc : ck E L N = 0) (hx : x < 64 + 56 * (L.length : Int)) (hq : 7 ≤ x ∧ x ≤ 15) :
    Calls Tryz.prog 6 #[.agg #[.int .u64 (n64 E), vs, vn], .int .i64 x, .int .u8 v] w fun e w' => e = .returned (.bool true) ∧ Below w.heap.size w w' := by
  have hsz := h.im.segs
  obtain ⟨sa, sc, rfl, _⟩ := h.im.segs
  obtain ⟨na, nc, rfl, _⟩ := h.im.syms
  generalize hln : L.length = ln at *
  generalize N.length = nn at *
  have HA : Hid (∀ w', Below w.heap.size w w' → Arg w' (.slice sa ln sc) (.slice na nn nc) L N D) := fun w' hb => h.later hb
  have cFi : Hid (∀ wx, Below w.heap.size w wx → Calls Tryz.prog 9 #[] wx fun e w' => e = .returned (.bool true) ∧ Below wx.heap.size wx w') := fun wx hx => first_c wx (hT.below hx rfl) (hE.below hx rfl)
  have cTw : Hid (∀ wx, Below w.heap.size w wx → Calls Tryz.prog 11 #[.agg #[.int .u64 (n64 E), .slice sa ln sc, .slice na nn nc]] wx fun e w' => ∃ a1 a2 a3 b1 b2 b3 M, e = .returned (.agg #[.int .u64 (n64 E), .slice a1 a2 a3, .slice b1 b2 b3]) ∧ (Alike L M ∧ Img w' (.slice a1 a2 a3) (.slice b1 b2 b3) M N ∧ Dta w' M D) ∧ Below wx.heap.size wx w') := fun wx hx => ((HA.out wx hx).twin E).mono fun e w' ⟨a1, a2, a3, b1, b2, b3, M, he, q1, q2, q3, q4⟩ => ⟨a1, a2, a3, b1, b2, b3, M, he, ⟨q1, q2, q3⟩, q4⟩
  have hnum : Hid (∀ z W, Calls Tryz.prog 13 #[.int .i64 z] W fun e w' => e = .returned (.int .i64 z) ∧ w' = W) := fun z W => num_c z W
  have hc' := hc
  have cWr : Hid (∀ wx us un M, Below w.heap.size w wx → (Alike L M ∧ Img wx us un M N ∧ Dta wx M D) → Calls Tryz.prog 12 #[.agg #[.int .u64 (n64 E), us, un]] wx fun e w' => ∃ f n, wx.heap.size ≤ f ∧ e = .returned (.tuple #[.slice (some ⟨f, 0, none⟩) n n, .int .i64 0]) ∧ Byo w' f n (ans E L N D) ∧ Below wx.heap.size wx w') := fun wx us un M hx hq => h.write_o E hq.1 hq.2.1 hq.2.2 (hT.below hx rfl) hc
  have hl16 : (ln : Int) ≤ 16 := by have := (ck_all hc).2.1; omega
  have hx0 : ¬ x < 0 := by omega
  have hxl : ¬ 64 + 56 * (ln : Int) ≤ x := by omega
  obtain ⟨k, HK⟩ : ∃ k : Nat, x = (k : Int) := ⟨x.toNat, by omega⟩
  have HND : Hid (Nd ((ans E L N D).set k v) E.toNat L N D) := (h.nd E hc).1.set k v (by omega) (by omega)
  have cRd : Hid (∀ wx vb, Below w.heap.size w wx → Byt wx vb ((ans E L N D).set k v) → Calls Tryz.prog 14 #[vb] wx fun e w' => ∃ um un uc vm vn vc L', e = .returned (.tuple #[.agg #[.int .u64 (n64 E), .slice um un uc, .slice vm vn vc], .nilIface]) ∧ (Alike L L' ∧ Dta w' L' D ∧ Imq w' (.slice um un uc) (.slice vm vn vc) L' N) ∧ Below wx.heap.size wx w') := fun wx vb hx hv' => (nd_read HND.out hc (allB_set (h.nd E hc).2.1 k v hv) vb wx hv' (hT.below hx rfl) (hE.below hx rfl)).mono fun e w' ⟨um, un, uc, vm, vn, vc, L', he, q1, q2, q3, q4⟩ => ⟨um, un, uc, vm, vn, vc, L', he, ⟨q1, q2, q3⟩, q4⟩
  have cAl : Hid (∀ wx u v L', Below w.heap.size w wx → (Alike L L' ∧ Dta wx L' D ∧ Imq wx u v L' N) → Calls Tryz.prog 15 #[.agg #[.int .u64 (n64 E), u, v], .agg #[.int .u64 (n64 E), .slice sa ln sc, .slice na nn nc]] wx fun e w' => e = .returned (.bool true) ∧ Below wx.heap.size wx w') := fun wx u v L' hx hq => (HA.out wx hx).alike E hq.1 hq.2.1 hq.2.2
  have HLN : Hid (k < (ans E L N D).length) := by
    have q := (h.nd E hc).1.len
    have q2 := szz_hd L N
    unfold Hid
    omega
  have HKH := Hid.mkI HK
  have t00 : decide ((7 : Int) ≤ x) = true := by exact decide_eq_true (by omega)
  have t10 : decide (x ≤ 15) = true := by exact decide_eq_true (by omega)
  have t20 : decide ((64 : Int) ≤ x) = false := by exact decide_eq_false (by omega)
  clear HK
  clear HA hT hE h hc hc' hsz hln hv HND hq
  generalize n64 E = EN at *
  go_enter Tryz.func6, Tryz.ntmps6
  go_upto_region 1 with fail
  refine on_w (motive := fun W => Code.wp _ _ _ _ W) (Q := fun W => W.heap[w.heap.size]? = some (.cells #[.int .u64 EN, .slice sa ln sc, .slice na nn nc] 26 (0, 0)) ∧ Below w.heap.size w W) ⟨heap_alloc_new w _, below_al _⟩ ?_
  generalize hgI : w.heap.size = gI
  rintro W1 ⟨s1, s2⟩
  have RI : Hid (∀ W, Below W1.heap.size W1 W → W.heap[gI]? = some (.cells #[.int .u64 EN, .slice sa ln sc, .slice na nn nc] 26 (0, 0))) := fun W hb => (hb.block gI (heap_lt s1)).trans s1
  have H1 : Hid (∀ W, Below W1.heap.size W1 W → Below w.heap.size w W) := fun W hb => by rw [hgI]; exact s2.trans (hb.mono (Nat.le_of_lt (heap_lt s1)))
  have B1 : Hid (Below W1.heap.size W1 W1) := Below.refl _ _
  clear s1 s2 hgI
  go_upto_region 3 with (go_at_call 9; refine (cFi.out _ (H1.out _ B1.out)).mono ?_; rintro e w2 ⟨rfl, q1⟩; have B2 : Hid (Below W1.heap.size W1 w2) := B1.out.trans (q1.mono B1.out.size); have r0 := RI.out _ B2.out; have b0 := cell_of_row _ gI 0 _ _ _ r0; have b1 := cell_of_row _ gI 1 _ _ _ r0; have b2 := cell_of_row _ gI 2 _ _ _ r0; clear q1 r0 cFi)
  go_upto_region 4 with (first | (go_at_call 11; refine (cTw.out _ (H1.out _ B2.out)).mono ?_; rintro e w5 ⟨f1, f2, f3, g1, g2, g3, M5, rfl, q1, q2⟩; have HM5 := Hid.mkI q1; have B5 : Hid (Below W1.heap.size W1 w5) := B2.out.trans (q2.mono B2.out.size); clear q1 q2) | (go_at_call 12; refine (cWr.out _ _ _ _ (H1.out _ B5.out) HM5.out).mono ?_; rintro e w6 ⟨f, n, q0, rfl, q1, q2⟩; have HF : Hid (W1.heap.size ≤ f) := Nat.le_trans B5.out.size q0; have HY6 := Hid.mkI q1; have B6 : Hid (Below W1.heap.size W1 w6) := B5.out.trans (q2.mono B5.out.size); have r0 := RI.out _ B6.out; have d0 := cell_of_row _ gI 0 _ _ _ r0; have d1 := cell_of_row _ gI 1 _ _ _ r0; have d2 := cell_of_row _ gI 2 _ _ _ r0; clear q0 q1 q2 r0))
  clear cWr cTw HM5 b0 b1 b2
  have hkn : Hid (k < n) := by obtain ⟨⟨_, _, e, _⟩, _⟩ := HY6.out; simp only [Value.slice.injEq] at e; have := HLN.out; have := e.2.1; unfold Hid; omega
  go_upto_region 12 with (go_at_call 13; refine (hnum.out _ _).mono ?_; rintro e wz ⟨rfl, hwz⟩; rw [hwz]; clear hwz)
  have HK := HKH.out
  clear HKH
  --@T1
  subst HK
  obtain ⟨⟨u9, hcell⟩, hfro, hby⟩ := HY6.out.set k hkn.out v
  have HY7 := Hid.mkI hby
  have B7 : Hid (Below W1.heap.size W1 (w6.setCell ⟨f, k, none⟩ (.int .u8 v))) := B6.out.setCell (p := ⟨f, k, none⟩) HF.out _
  clear hby
  go_upto_region 13 with fail
  --@T2
  refine on_w (motive := fun W => Code.wp _ _ _ _ W) (Q := fun W => Byt W (.slice (some ⟨f, 0, none⟩) n n) ((ans E L N D).set k v) ∧ Below W1.heap.size W1 W) ⟨HY7.out, B7.out⟩ ?_
  rintro W7 ⟨s1, s2⟩
  have HY8 := Hid.mkI s1
  have B8 := Hid.mkI s2
  clear s1 s2 HY7 B7 hcell hfro
  go_upto_region 14 with (go_at_call 14; refine (cRd.out _ _ (H1.out _ B8.out) HY8.out).mono ?_; rintro e w9 ⟨um, un, uc, vm, vn, vc, L', rfl, q1, q2⟩; have HM9 := Hid.mkI q1; have B9 : Hid (Below W1.heap.size W1 w9) := B8.out.trans (q2.mono B8.out.size); clear q1 q2)
  --@T3
  refine on_w (motive := fun W => Code.wp _ _ _ _ W) (Q := fun W => W.heap[w9.heap.size]? = some (.cells #[.int .u64 EN, .slice um un uc, .slice vm vn vc] 26 (0, 0)) ∧ Below w9.heap.size w9 W) ⟨heap_alloc_new w9 _, below_al _⟩ ?_
  generalize hgA : w9.heap.size = gA
  rintro WA ⟨s1, s2⟩
  have BA : Hid (Below w9.heap.size w9 WA) := by rw [hgA]; exact s2
  have HA1 : Hid (Below W1.heap.size W1 WA) := B9.out.trans (BA.out.mono B9.out.size)
  have HMA : Hid (Alike L L' ∧ Dta WA L' D ∧ Imq WA (.slice um un uc) (.slice vm vn vc) L' N) := ⟨HM9.out.1, HM9.out.2.1.later BA.out, ⟨HM9.out.2.2.segs.later BA.out rfl, HM9.out.2.2.syms.later BA.out rfl⟩⟩
  have hnil : ∀ w : World, (binOp .eql 36 .nilIface .nilIface).run Tryz.prog w = .ok (.bool true) w := fun w => by kernel_rfl
  have heg : ∀ (w : World), (eqGuard .eql 36 (.tmp 77) (.const .nilIface) .nilIface .nilIface).run Tryz.prog w = .ok () w := fun w => by kernel_rfl
  have a0 := cell_of_row _ gA 0 _ _ _ s1
  have a1 := cell_of_row _ gA 1 _ _ _ s1
  have a2 := cell_of_row _ gA 2 _ _ _ s1
  have r1 := RI.out _ HA1.out
  have c0 := cell_of_row _ gI 0 _ _ _ r1
  have c1 := cell_of_row _ gI 1 _ _ _ r1
  have c2 := cell_of_row _ gI 2 _ _ _ r1
  clear r1 s1 s2 hgA HM9 BA B9 B8 HY8 d0 d1 d2
  --@T4
  go_wp2_with (go_at_call 15; refine (cAl.out _ _ _ _ (H1.out _ HA1.out) HMA.out).mono ?_; rintro e wE ⟨rfl, q1⟩; have BE : Hid (Below W1.heap.size W1 wE) := HA1.out.trans (q1.mono HA1.out.size); clear q1)
  go_ret
  exact ⟨rfl, H1.out _ BE.out⟩
set_option maxHeartbeats 8000000 in
theorem unseen_A3 (E : BitVec 64) (vs vn : Value) (L : List Sg) (N : List Sy) (D : Nat → List Int) (x v : Int) (w : World) (h : Arg w vs vn L N D) (hT : Tabs w) (hE : EtW w) (hv : 0 ≤ v ∧ v ≤ 255) (hc : ck E L N = 0) (hx : x < 64 + 56 * (L.length : Int)) (hq : 16 ≤ x ∧ x ≤ 61) :
    Calls Tryz.prog 6 #[.agg #[.int .u64 (n64 E), vs, vn], .int .i64 x, .int .u8 v] w fun e w' => e = .returned (.bool true) ∧ Below w.heap.size w w' := by
  have hsz := h.im.segs
  obtain ⟨sa, sc, rfl, _⟩ := h.im.segs
  obtain ⟨na, nc, rfl, _⟩ := h.im.syms
  generalize hln : L.length = ln at *
  generalize N.length = nn at *
  have HA : Hid (∀ w', Below w.heap.size w w' → Arg w' (.slice sa ln sc) (.slice na nn nc) L N D) := fun w' hb => h.later hb
  have cFi : Hid (∀ wx, Below w.heap.size w wx → Calls Tryz.prog 9 #[] wx fun e w' => e = .returned (.bool true) ∧ Below wx.heap.size wx w') := fun wx hx => first_c wx (hT.below hx rfl) (hE.below hx rfl)
  have cTw : Hid (∀ wx, Below w.heap.size w wx → Calls Tryz.prog 11 #[.agg #[.int .u64 (n64 E), .slice sa ln sc, .slice na nn nc]] wx fun e w' => ∃ a1 a2 a3 b1 b2 b3 M, e = .returned (.agg #[.int .u64 (n64 E), .slice a1 a2 a3, .slice b1 b2 b3]) ∧ (Alike L M ∧ Img w' (.slice a1 a2 a3) (.slice b1 b2 b3) M N ∧ Dta w' M D) ∧ Below wx.heap.size wx w') := fun wx hx => ((HA.out wx hx).twin E).mono fun e w' ⟨a1, a2, a3, b1, b2, b3, M, he, q1, q2, q3, q4⟩ => ⟨a1, a2, a3, b1, b2, b3, M, he, ⟨q1, q2, q3⟩, q4⟩
  have hnum : Hid (∀ z W, Calls Tryz.prog 13 #[.int .i64 z] W fun e w' => e = .returned (.int .i64 z) ∧ w' = W) := fun z W => num_c z W
  have hc' := hc
  have cWr : Hid (∀ wx us un M, Below w.heap.size w wx → (Alike L M ∧ Img wx us un M N ∧ Dta wx M D) → Calls Tryz.prog 12 #[.agg #[.int .u64 (n64 E), us, un]] wx fun e w' => ∃ f n, wx.heap.size ≤ f ∧ e = .returned (.tuple #[.slice (some ⟨f, 0, none⟩) n n, .int .i64 0]) ∧ Byo w' f n (ans E L N D) ∧ Below wx.heap.size wx w') := fun wx us un M hx hq => h.write_o E hq.1 hq.2.1 hq.2.2 (hT.below hx rfl) hc
  have hl16 : (ln : Int) ≤ 16 := by have := (ck_all hc).2.1; omega
  have hx0 : ¬ x < 0 := by omega
  have hxl : ¬ 64 + 56 * (ln : Int) ≤ x := by omega
  have t00 : decide ((7 : Int) ≤ x) = true := by exact decide_eq_true (by omega)
  have t10 : decide (x ≤ 15) = false := by exact decide_eq_false (by omega)
  have t20 : (x == 62) = false := by rw [beq_eq_false_iff_ne]; omega
  have t30 : (x == 63) = false := by rw [beq_eq_false_iff_ne]; omega
  have t40 : decide ((64 : Int) ≤ x) = false := by exact decide_eq_false (by omega)
  clear HA hT hE h hc hc' hsz hln hv hq
  generalize n64 E = EN at *
  go_enter Tryz.func6, Tryz.ntmps6
  go_upto_region 1 with fail
  refine on_w (motive := fun W => Code.wp _ _ _ _ W) (Q := fun W => W.heap[w.heap.size]? = some (.cells #[.int .u64 EN, .slice sa ln sc, .slice na nn nc] 26 (0, 0)) ∧ Below w.heap.size w W) ⟨heap_alloc_new w _, below_al _⟩ ?_
  generalize hgI : w.heap.size = gI
  rintro W1 ⟨s1, s2⟩
  have RI : Hid (∀ W, Below W1.heap.size W1 W → W.heap[gI]? = some (.cells #[.int .u64 EN, .slice sa ln sc, .slice na nn nc] 26 (0, 0))) := fun W hb => (hb.block gI (heap_lt s1)).trans s1
  have H1 : Hid (∀ W, Below W1.heap.size W1 W → Below w.heap.size w W) := fun W hb => by rw [hgI]; exact s2.trans (hb.mono (Nat.le_of_lt (heap_lt s1)))
  have B1 : Hid (Below W1.heap.size W1 W1) := Below.refl _ _
  clear s1 s2 hgI
  go_upto_region 3 with (go_at_call 9; refine (cFi.out _ (H1.out _ B1.out)).mono ?_; rintro e w2 ⟨rfl, q1⟩; have B2 : Hid (Below W1.heap.size W1 w2) := B1.out.trans (q1.mono B1.out.size); have r0 := RI.out _ B2.out; have b0 := cell_of_row _ gI 0 _ _ _ r0; have b1 := cell_of_row _ gI 1 _ _ _ r0; have b2 := cell_of_row _ gI 2 _ _ _ r0; clear q1 r0 cFi)
  go_upto_region 4 with (first | (go_at_call 11; refine (cTw.out _ (H1.out _ B2.out)).mono ?_; rintro e w5 ⟨f1, f2, f3, g1, g2, g3, M5, rfl, q1, q2⟩; have HM5 := Hid.mkI q1; have B5 : Hid (Below W1.heap.size W1 w5) := B2.out.trans (q2.mono B2.out.size); clear q1 q2) | (go_at_call 12; refine (cWr.out _ _ _ _ (H1.out _ B5.out) HM5.out).mono ?_; rintro e w6 ⟨f, n, q0, rfl, q1, q2⟩; have HF : Hid (W1.heap.size ≤ f) := Nat.le_trans B5.out.size q0; have HY6 := Hid.mkI q1; have B6 : Hid (Below W1.heap.size W1 w6) := B5.out.trans (q2.mono B5.out.size); have r0 := RI.out _ B6.out; have d0 := cell_of_row _ gI 0 _ _ _ r0; have d1 := cell_of_row _ gI 1 _ _ _ r0; have d2 := cell_of_row _ gI 2 _ _ _ r0; clear q0 q1 q2 r0))
  clear cWr cTw HM5 b0 b1 b2
  go_wp2_with (go_at_call 13; refine (hnum.out _ _).mono ?_; rintro e wz ⟨rfl, hwz⟩; rw [hwz]; clear hwz)
  go_ret
  exact ⟨rfl, H1.out _ B6.out⟩
set_option maxHeartbeats 8000000 in
theorem unseen_A4 (E : BitVec 64) (vs vn : Value) (L : List Sg) (N : List Sy) (D : Nat → List Int) (x v : Int) (w : World) (h : Arg w vs vn L N D) (hT : Tabs w) (hE : EtW w) (hv : 0 ≤ v ∧ v ≤ 255) (hc : ck E L N = 0) (hx : x < 64 + 56 * (L.length : Int)) (hq : x = 62) :
    Calls Tryz.prog 6 #[.agg #[.int .u64 (n64 E), vs, vn], .int .i64 x, .int .u8 v] w fun e w' => e = .returned (.bool true) ∧ Below w.heap.size w w' := by
  have hsz := h.im.segs
  obtain ⟨sa, sc, rfl, _⟩ := h.im.segs
  obtain ⟨na, nc, rfl, _⟩ := h.im.syms
  generalize hln : L.length = ln at *
  generalize N.length = nn at *
  have HA : Hid (∀ w', Below w.heap.size w w' → Arg w' (.slice sa ln sc) (.slice na nn nc) L N D) := fun w' hb => h.later hb
  have cFi : Hid (∀ wx, Below w.heap.size w wx → Calls Tryz.prog 9 #[] wx fun e w' => e = .returned (.bool true) ∧ Below wx.heap.size wx w') := fun wx hx => first_c wx (hT.below hx rfl) (hE.below hx rfl)
  have cTw : Hid (∀ wx, Below w.heap.size w wx → Calls Tryz.prog 11 #[.agg #[.int .u64 (n64 E), .slice sa ln sc, .slice na nn nc]] wx fun e w' => ∃ a1 a2 a3 b1 b2 b3 M, e = .returned (.agg #[.int .u64 (n64 E), .slice a1 a2 a3, .slice b1 b2 b3]) ∧ (Alike L M ∧ Img w' (.slice a1 a2 a3) (.slice b1 b2 b3) M N ∧ Dta w' M D) ∧ Below wx.heap.size wx w') := fun wx hx => ((HA.out wx hx).twin E).mono fun e w' ⟨a1, a2, a3, b1, b2, b3, M, he, q1, q2, q3, q4⟩ => ⟨a1, a2, a3, b1, b2, b3, M, he, ⟨q1, q2, q3⟩, q4⟩
  have hnum : Hid (∀ z W, Calls Tryz.prog 13 #[.int .i64 z] W fun e w' => e = .returned (.int .i64 z) ∧ w' = W) := fun z W => num_c z W
  have hc' := hc
  have cWr : Hid (∀ wx us un M, Below w.heap.size w wx → (Alike L M ∧ Img wx us un M N ∧ Dta wx M D) → Calls Tryz.prog 12 #[.agg #[.int .u64 (n64 E), us, un]] wx fun e w' => ∃ f n, wx.heap.size ≤ f ∧ e = .returned (.tuple #[.slice (some ⟨f, 0, none⟩) n n, .int .i64 0]) ∧ Byo w' f n (ans E L N D) ∧ Below wx.heap.size wx w') := fun wx us un M hx hq => h.write_o E hq.1 hq.2.1 hq.2.2 (hT.below hx rfl) hc
  have hl16 : (ln : Int) ≤ 16 := by have := (ck_all hc).2.1; omega
  have hx0 : ¬ x < 0 := by omega
  have hxl : ¬ 64 + 56 * (ln : Int) ≤ x := by omega
  obtain ⟨k, HK⟩ : ∃ k : Nat, x = (k : Int) := ⟨x.toNat, by omega⟩
  have HND : Hid (Nd ((ans E L N D).set k v) E.toNat L N D) := (h.nd E hc).1.set k v (by omega) (by omega)
  have cRd : Hid (∀ wx vb, Below w.heap.size w wx → Byt wx vb ((ans E L N D).set k v) → Calls Tryz.prog 14 #[vb] wx fun e w' => ∃ um un uc vm vn vc L', e = .returned (.tuple #[.agg #[.int .u64 (n64 E), .slice um un uc, .slice vm vn vc], .nilIface]) ∧ (Alike L L' ∧ Dta w' L' D ∧ Imq w' (.slice um un uc) (.slice vm vn vc) L' N) ∧ Below wx.heap.size wx w') := fun wx vb hx hv' => (nd_read HND.out hc (allB_set (h.nd E hc).2.1 k v hv) vb wx hv' (hT.below hx rfl) (hE.below hx rfl)).mono fun e w' ⟨um, un, uc, vm, vn, vc, L', he, q1, q2, q3, q4⟩ => ⟨um, un, uc, vm, vn, vc, L', he, ⟨q1, q2, q3⟩, q4⟩
  have cAl : Hid (∀ wx u v L', Below w.heap.size w wx → (Alike L L' ∧ Dta wx L' D ∧ Imq wx u v L' N) → Calls Tryz.prog 15 #[.agg #[.int .u64 (n64 E), u, v], .agg #[.int .u64 (n64 E), .slice sa ln sc, .slice na nn nc]] wx fun e w' => e = .returned (.bool true) ∧ Below wx.heap.size wx w') := fun wx u v L' hx hq => (HA.out wx hx).alike E hq.1 hq.2.1 hq.2.2
  have HLN : Hid (k < (ans E L N D).length) := by
    have q := (h.nd E hc).1.len
    have q2 := szz_hd L N
    unfold Hid
    omega
  have HKH := Hid.mkI HK
  have t00 : decide ((7 : Int) ≤ x) = true := by exact decide_eq_true (by omega)
  have t10 : decide (x ≤ 15) = false := by exact decide_eq_false (by omega)
  have t20 : (x == 62) = true := by rw [beq_iff_eq]; omega
  have t30 : decide ((64 : Int) ≤ x) = false := by exact decide_eq_false (by omega)
  clear HK
  clear HA hT hE h hc hc' hsz hln hv HND hq
  generalize n64 E = EN at *
  go_enter Tryz.func6, Tryz.ntmps6
  go_upto_region 1 with fail
  refine on_w (motive := fun W => Code.wp _ _ _ _ W) (Q := fun W => W.heap[w.heap.size]? = some (.cells #[.int .u64 EN, .slice sa ln sc, .slice na nn nc] 26 (0, 0)) ∧ Below w.heap.size w W) ⟨heap_alloc_new w _, below_al _⟩ ?_
  generalize hgI : w.heap.size = gI
  rintro W1 ⟨s1, s2⟩
  have RI : Hid (∀ W, Below W1.heap.size W1 W → W.heap[gI]? = some (.cells #[.int .u64 EN, .slice sa ln sc, .slice na nn nc] 26 (0, 0))) := fun W hb => (hb.block gI (heap_lt s1)).trans s1
  have H1 : Hid (∀ W, Below W1.heap.size W1 W → Below w.heap.size w W) := fun W hb => by rw [hgI]; exact s2.trans (hb.mono (Nat.le_of_lt (heap_lt s1)))
  have B1 : Hid (Below W1.heap.size W1 W1) := Below.refl _ _
  clear s1 s2 hgI
  go_upto_region 3 with (go_at_call 9; refine (cFi.out _ (H1.out _ B1.out)).mono ?_; rintro e w2 ⟨rfl, q1⟩; have B2 : Hid (Below W1.heap.size W1 w2) := B1.out.trans (q1.mono B1.out.size); have r0 := RI.out _ B2.out; have b0 := cell_of_row _ gI 0 _ _ _ r0; have b1 := cell_of_row _ gI 1 _ _ _ r0; have b2 := cell_of_row _ gI 2 _ _ _ r0; clear q1 r0 cFi)
  go_upto_region 4 with (first | (go_at_call 11; refine (cTw.out _ (H1.out _ B2.out)).mono ?_; rintro e w5 ⟨f1, f2, f3, g1, g2, g3, M5, rfl, q1, q2⟩; have HM5 := Hid.mkI q1; have B5 : Hid (Below W1.heap.size W1 w5) := B2.out.trans (q2.mono B2.out.size); clear q1 q2) | (go_at_call 12; refine (cWr.out _ _ _ _ (H1.out _ B5.out) HM5.out).mono ?_; rintro e w6 ⟨f, n, q0, rfl, q1, q2⟩; have HF : Hid (W1.heap.size ≤ f) := Nat.le_trans B5.out.size q0; have HY6 := Hid.mkI q1; have B6 : Hid (Below W1.heap.size W1 w6) := B5.out.trans (q2.mono B5.out.size); have r0 := RI.out _ B6.out; have d0 := cell_of_row _ gI 0 _ _ _ r0; have d1 := cell_of_row _ gI 1 _ _ _ r0; have d2 := cell_of_row _ gI 2 _ _ _ r0; clear q0 q1 q2 r0))
  clear cWr cTw HM5 b0 b1 b2
  have hkn : Hid (k < n) := by obtain ⟨⟨_, _, e, _⟩, _⟩ := HY6.out; simp only [Value.slice.injEq] at e; have := HLN.out; have := e.2.1; unfold Hid; omega
  go_upto_region 12 with (go_at_call 13; refine (hnum.out _ _).mono ?_; rintro e wz ⟨rfl, hwz⟩; rw [hwz]; clear hwz)
  have HK := HKH.out
  clear HKH
  --@T1
  subst HK
  obtain ⟨⟨u9, hcell⟩, hfro, hby⟩ := HY6.out.set k hkn.out v
  have HY7 := Hid.mkI hby
  have B7 : Hid (Below W1.heap.size W1 (w6.setCell ⟨f, k, none⟩ (.int .u8 v))) := B6.out.setCell (p := ⟨f, k, none⟩) HF.out _
  clear hby
  go_upto_region 13 with fail
  --@T2
  refine on_w (motive := fun W => Code.wp _ _ _ _ W) (Q := fun W => Byt W (.slice (some ⟨f, 0, none⟩) n n) ((ans E L N D).set k v) ∧ Below W1.heap.size W1 W) ⟨HY7.out, B7.out⟩ ?_
  rintro W7 ⟨s1, s2⟩
  have HY8 := Hid.mkI s1
  have B8 := Hid.mkI s2
  clear s1 s2 HY7 B7 hcell hfro
  go_upto_region 14 with (go_at_call 14; refine (cRd.out _ _ (H1.out _ B8.out) HY8.out).mono ?_; rintro e w9 ⟨um, un, uc, vm, vn, vc, L', rfl, q1, q2⟩; have HM9 := Hid.mkI q1; have B9 : Hid (Below W1.heap.size W1 w9) := B8.out.trans (q2.mono B8.out.size); clear q1 q2)
  --@T3
  refine on_w (motive := fun W => Code.wp _ _ _ _ W) (Q := fun W => W.heap[w9.heap.size]? = some (.cells #[.int .u64 EN, .slice um un uc, .slice vm vn vc] 26 (0, 0)) ∧ Below w9.heap.size w9 W) ⟨heap_alloc_new w9 _, below_al _⟩ ?_
  generalize hgA : w9.heap.size = gA
  rintro WA ⟨s1, s2⟩
  have BA : Hid (Below w9.heap.size w9 WA) := by rw [hgA]; exact s2
  have HA1 : Hid (Below W1.heap.size W1 WA) := B9.out.trans (BA.out.mono B9.out.size)
  have HMA : Hid (Alike L L' ∧ Dta WA L' D ∧ Imq WA (.slice um un uc) (.slice vm vn vc) L' N) := ⟨HM9.out.1, HM9.out.2.1.later BA.out, ⟨HM9.out.2.2.segs.later BA.out rfl, HM9.out.2.2.syms.later BA.out rfl⟩⟩
  have hnil : ∀ w : World, (binOp .eql 36 .nilIface .nilIface).run Tryz.prog w = .ok (.bool true) w := fun w => by kernel_rfl
  have heg : ∀ (w : World), (eqGuard .eql 36 (.tmp 77) (.const .nilIface) .nilIface .nilIface).run Tryz.prog w = .ok () w := fun w => by kernel_rfl
  have a0 := cell_of_row _ gA 0 _ _ _ s1
  have a1 := cell_of_row _ gA 1 _ _ _ s1
  have a2 := cell_of_row _ gA 2 _ _ _ s1
  have r1 := RI.out _ HA1.out
  have c0 := cell_of_row _ gI 0 _ _ _ r1
  have c1 := cell_of_row _ gI 1 _ _ _ r1
  have c2 := cell_of_row _ gI 2 _ _ _ r1
  clear r1 s1 s2 hgA HM9 BA B9 B8 HY8 d0 d1 d2
  --@T4
  go_wp2_with (go_at_call 15; refine (cAl.out _ _ _ _ (H1.out _ HA1.out) HMA.out).mono ?_; rintro e wE ⟨rfl, q1⟩; have BE : Hid (Below W1.heap.size W1 wE) := HA1.out.trans (q1.mono HA1.out.size); clear q1)
  go_ret
  exact ⟨rfl, H1.out _ BE.out⟩
set_option maxHeartbeats 8000000 in
theorem unseen_A5 (E : BitVec 64) (vs vn : Value) (L : List Sg) (N : List Sy) (D : Nat → List Int) (x v : Int) (w : World) (h : Arg w vs vn L N D) (hT : Tabs w) (hE : EtW w) (hv : 0 ≤ v ∧ v ≤ 255) (hc : ck E L N = 0) (hx : x < 64 + 56 * (L.length : Int)) (hq : x = 63) :
    Calls Tryz.prog 6 #[.agg #[.int .u64 (n64 E), vs, vn], .int .i64 x, .int .u8 v] w fun e w' => e = .returned (.bool true) ∧ Below w.heap.size w w' := by
  have hsz := h.im.segs
  obtain ⟨sa, sc, rfl, _⟩ := h.im.segs
  obtain ⟨na, nc, rfl, _⟩ := h.im.syms
  generalize hln : L.length = ln at *
  generalize N.length = nn at *
  have HA : Hid (∀ w', Below w.heap.size w w' → Arg w' (.slice sa ln sc) (.slice na nn nc) L N D) := fun w' hb => h.later hb
  have cFi : Hid (∀ wx, Below w.heap.size w wx → Calls Tryz.prog 9 #[] wx fun e w' => e = .returned (.bool true) ∧ Below wx.heap.size wx w') := fun wx hx => first_c wx (hT.below hx rfl) (hE.below hx rfl)
  have cTw : Hid (∀ wx, Below w.heap.size w wx → Calls Tryz.prog 11 #[.agg #[.int .u64 (n64 E), .slice sa ln sc, .slice na nn nc]] wx fun e w' => ∃ a1 a2 a3 b1 b2 b3 M, e = .returned (.agg #[.int .u64 (n64 E), .slice a1 a2 a3, .slice b1 b2 b3]) ∧ (Alike L M ∧ Img w' (.slice a1 a2 a3) (.slice b1 b2 b3) M N ∧ Dta w' M D) ∧ Below wx.heap.size wx w') := fun wx hx => ((HA.out wx hx).twin E).mono fun e w' ⟨a1, a2, a3, b1, b2, b3, M, he, q1, q2, q3, q4⟩ => ⟨a1, a2, a3, b1, b2, b3, M, he, ⟨q1, q2, q3⟩, q4⟩
  have hnum : Hid (∀ z W, Calls Tryz.prog 13 #[.int .i64 z] W fun e w' => e = .returned (.int .i64 z) ∧ w' = W) := fun z W => num_c z W
  have hc' := hc
  have cWr : Hid (∀ wx us un M, Below w.heap.size w wx → (Alike L M ∧ Img wx us un M N ∧ Dta wx M D) → Calls Tryz.prog 12 #[.agg #[.int .u64 (n64 E), us, un]] wx fun e w' => ∃ f n, wx.heap.size ≤ f ∧ e = .returned (.tuple #[.slice (some ⟨f, 0, none⟩) n n, .int .i64 0]) ∧ Byo w' f n (ans E L N D) ∧ Below wx.heap.size wx w') := fun wx us un M hx hq => h.write_o E hq.1 hq.2.1 hq.2.2 (hT.below hx rfl) hc
  have hl16 : (ln : Int) ≤ 16 := by have := (ck_all hc).2.1; omega
  have hx0 : ¬ x < 0 := by omega
  have hxl : ¬ 64 + 56 * (ln : Int) ≤ x := by omega
  obtain ⟨k, HK⟩ : ∃ k : Nat, x = (k : Int) := ⟨x.toNat, by omega⟩
  have HND : Hid (Nd ((ans E L N D).set k v) E.toNat L N D) := (h.nd E hc).1.set k v (by omega) (by omega)
  have cRd : Hid (∀ wx vb, Below w.heap.size w wx → Byt wx vb ((ans E L N D).set k v) → Calls Tryz.prog 14 #[vb] wx fun e w' => ∃ um un uc vm vn vc L', e = .returned (.tuple #[.agg #[.int .u64 (n64 E), .slice um un uc, .slice vm vn vc], .nilIface]) ∧ (Alike L L' ∧ Dta w' L' D ∧ Imq w' (.slice um un uc) (.slice vm vn vc) L' N) ∧ Below wx.heap.size wx w') := fun wx vb hx hv' => (nd_read HND.out hc (allB_set (h.nd E hc).2.1 k v hv) vb wx hv' (hT.below hx rfl) (hE.below hx rfl)).mono fun e w' ⟨um, un, uc, vm, vn, vc, L', he, q1, q2, q3, q4⟩ => ⟨um, un, uc, vm, vn, vc, L', he, ⟨q1, q2, q3⟩, q4⟩
  have cAl : Hid (∀ wx u v L', Below w.heap.size w wx → (Alike L L' ∧ Dta wx L' D ∧ Imq wx u v L' N) → Calls Tryz.prog 15 #[.agg #[.int .u64 (n64 E), u, v], .agg #[.int .u64 (n64 E), .slice sa ln sc, .slice na nn nc]] wx fun e w' => e = .returned (.bool true) ∧ Below wx.heap.size wx w') := fun wx u v L' hx hq => (HA.out wx hx).alike E hq.1 hq.2.1 hq.2.2
  have HLN : Hid (k < (ans E L N D).length) := by
    have q := (h.nd E hc).1.len
    have q2 := szz_hd L N
    unfold Hid
    omega
  have HKH := Hid.mkI HK
  have t00 : decide ((7 : Int) ≤ x) = true := by exact decide_eq_true (by omega)
  have t10 : decide (x ≤ 15) = false := by exact decide_eq_false (by omega)
  have t20 : (x == 62) = false := by rw [beq_eq_false_iff_ne]; omega
  have t30 : (x == 63) = true := by rw [beq_iff_eq]; omega
  have t40 : decide ((64 : Int) ≤ x) = false := by exact decide_eq_false (by omega)
  clear HK
  clear HA hT hE h hc hc' hsz hln hv HND hq
  generalize n64 E = EN at *
  go_enter Tryz.func6, Tryz.ntmps6
  go_upto_region 1 with fail
  refine on_w (motive := fun W => Code.wp _ _ _ _ W) (Q := fun W => W.heap[w.heap.size]? = some (.cells #[.int .u64 EN, .slice sa ln sc, .slice na nn nc] 26 (0, 0)) ∧ Below w.heap.size w W) ⟨heap_alloc_new w _, below_al _⟩ ?_
  generalize hgI : w.heap.size = gI
  rintro W1 ⟨s1, s2⟩
  have RI : Hid (∀ W, Below W1.heap.size W1 W → W.heap[gI]? = some (.cells #[.int .u64 EN, .slice sa ln sc, .slice na nn nc] 26 (0, 0))) := fun W hb => (hb.block gI (heap_lt s1)).trans s1
  have H1 : Hid (∀ W, Below W1.heap.size W1 W → Below w.heap.size w W) := fun W hb => by rw [hgI]; exact s2.trans (hb.mono (Nat.le_of_lt (heap_lt s1)))
  have B1 : Hid (Below W1.heap.size W1 W1) := Below.refl _ _
  clear s1 s2 hgI
  go_upto_region 3 with (go_at_call 9; refine (cFi.out _ (H1.out _ B1.out)).mono ?_; rintro e w2 ⟨rfl, q1⟩; have B2 : Hid (Below W1.heap.size W1 w2) := B1.out.trans (q1.mono B1.out.size); have r0 := RI.out _ B2.out; have b0 := cell_of_row _ gI 0 _ _ _ r0; have b1 := cell_of_row _ gI 1 _ _ _ r0; have b2 := cell_of_row _ gI 2 _ _ _ r0; clear q1 r0 cFi)
  go_upto_region 4 with (first | (go_at_call 11; refine (cTw.out _ (H1.out _ B2.out)).mono ?_; rintro e w5 ⟨f1, f2, f3, g1, g2, g3, M5, rfl, q1, q2⟩; have HM5 := Hid.mkI q1; have B5 : Hid (Below W1.heap.size W1 w5) := B2.out.trans (q2.mono B2.out.size); clear q1 q2) | (go_at_call 12; refine (cWr.out _ _ _ _ (H1.out _ B5.out) HM5.out).mono ?_; rintro e w6 ⟨f, n, q0, rfl, q1, q2⟩; have HF : Hid (W1.heap.size ≤ f) := Nat.le_trans B5.out.size q0; have HY6 := Hid.mkI q1; have B6 : Hid (Below W1.heap.size W1 w6) := B5.out.trans (q2.mono B5.out.size); have r0 := RI.out _ B6.out; have d0 := cell_of_row _ gI 0 _ _ _ r0; have d1 := cell_of_row _ gI 1 _ _ _ r0; have d2 := cell_of_row _ gI 2 _ _ _ r0; clear q0 q1 q2 r0))
  clear cWr cTw HM5 b0 b1 b2
  have hkn : Hid (k < n) := by obtain ⟨⟨_, _, e, _⟩, _⟩ := HY6.out; simp only [Value.slice.injEq] at e; have := HLN.out; have := e.2.1; unfold Hid; omega
  go_upto_region 12 with (go_at_call 13; refine (hnum.out _ _).mono ?_; rintro e wz ⟨rfl, hwz⟩; rw [hwz]; clear hwz)
  have HK := HKH.out
  clear HKH
  --@T1
  subst HK
  obtain ⟨⟨u9, hcell⟩, hfro, hby⟩ := HY6.out.set k hkn.out v
  have HY7 := Hid.mkI hby
  have B7 : Hid (Below W1.heap.size W1 (w6.setCell ⟨f, k, none⟩ (.int .u8 v))) := B6.out.setCell (p := ⟨f, k, none⟩) HF.out _
  clear hby
  go_upto_region 13 with fail
  --@T2
  refine on_w (motive := fun W => Code.wp _ _ _ _ W) (Q := fun W => Byt W (.slice (some ⟨f, 0, none⟩) n n) ((ans E L N D).set k v) ∧ Below W1.heap.size W1 W) ⟨HY7.out, B7.out⟩ ?_
  rintro W7 ⟨s1, s2⟩
  have HY8 := Hid.mkI s1
  have B8 := Hid.mkI s2
  clear s1 s2 HY7 B7 hcell hfro
  go_upto_region 14 with (go_at_call 14; refine (cRd.out _ _ (H1.out _ B8.out) HY8.out).mono ?_; rintro e w9 ⟨um, un, uc, vm, vn, vc, L', rfl, q1, q2⟩; have HM9 := Hid.mkI q1; have B9 : Hid (Below W1.heap.size W1 w9) := B8.out.trans (q2.mono B8.out.size); clear q1 q2)
  --@T3
  refine on_w (motive := fun W => Code.wp _ _ _ _ W) (Q := fun W => W.heap[w9.heap.size]? = some (.cells #[.int .u64 EN, .slice um un uc, .slice vm vn vc] 26 (0, 0)) ∧ Below w9.heap.size w9 W) ⟨heap_alloc_new w9 _, below_al _⟩ ?_
  generalize hgA : w9.heap.size = gA
  rintro WA ⟨s1, s2⟩
  have BA : Hid (Below w9.heap.size w9 WA) := by rw [hgA]; exact s2
  have HA1 : Hid (Below W1.heap.size W1 WA) := B9.out.trans (BA.out.mono B9.out.size)
  have HMA : Hid (Alike L L' ∧ Dta WA L' D ∧ Imq WA (.slice um un uc) (.slice vm vn vc) L' N) := ⟨HM9.out.1, HM9.out.2.1.later BA.out, ⟨HM9.out.2.2.segs.later BA.out rfl, HM9.out.2.2.syms.later BA.out rfl⟩⟩
  have hnil : ∀ w : World, (binOp .eql 36 .nilIface .nilIface).run Tryz.prog w = .ok (.bool true) w := fun w => by kernel_rfl
  have heg : ∀ (w : World), (eqGuard .eql 36 (.tmp 77) (.const .nilIface) .nilIface .nilIface).run Tryz.prog w = .ok () w := fun w => by kernel_rfl
  have a0 := cell_of_row _ gA 0 _ _ _ s1
  have a1 := cell_of_row _ gA 1 _ _ _ s1
  have a2 := cell_of_row _ gA 2 _ _ _ s1
  have r1 := RI.out _ HA1.out
  have c0 := cell_of_row _ gI 0 _ _ _ r1
  have c1 := cell_of_row _ gI 1 _ _ _ r1
  have c2 := cell_of_row _ gI 2 _ _ _ r1
  clear r1 s1 s2 hgA HM9 BA B9 B8 HY8 d0 d1 d2
  --@T4
  go_wp2_with (go_at_call 15; refine (cAl.out _ _ _ _ (H1.out _ HA1.out) HMA.out).mono ?_; rintro e wE ⟨rfl, q1⟩; have BE : Hid (Below W1.heap.size W1 wE) := HA1.out.trans (q1.mono HA1.out.size); clear q1)
  go_ret
  exact ⟨rfl, H1.out _ BE.out⟩
set_option maxHeartbeats 8000000 in
theorem unseen_B1 (E : BitVec 64) (vs vn : Value) (L : List Sg) (N : List Sy) (D : Nat → List Int) (x v : Int) (w : World) (h : Arg w vs vn L N D) (hT : Tabs w) (hE : EtW w) (hv : 0 ≤ v ∧ v ≤ 255) (hc : ck E L N = 0) (hx : x < 64 + 56 * (L.length : Int)) (hq : 64 ≤ x ∧ (x - 64) % 56 < 16) :
    Calls Tryz.prog 6 #[.agg #[.int .u64 (n64 E), vs, vn], .int .i64 x, .int .u8 v] w fun e w' => e = .returned (.bool true) ∧ Below w.heap.size w w' := by
  have hsz := h.im.segs
  obtain ⟨sa, sc, rfl, _⟩ := h.im.segs
  obtain ⟨na, nc, rfl, _⟩ := h.im.syms
  generalize hln : L.length = ln at *
  generalize N.length = nn at *
  have HA : Hid (∀ w', Below w.heap.size w w' → Arg w' (.slice sa ln sc) (.slice na nn nc) L N D) := fun w' hb => h.later hb
  have cFi : Hid (∀ wx, Below w.heap.size w wx → Calls Tryz.prog 9 #[] wx fun e w' => e = .returned (.bool true) ∧ Below wx.heap.size wx w') := fun wx hx => first_c wx (hT.below hx rfl) (hE.below hx rfl)
  have cTw : Hid (∀ wx, Below w.heap.size w wx → Calls Tryz.prog 11 #[.agg #[.int .u64 (n64 E), .slice sa ln sc, .slice na nn nc]] wx fun e w' => ∃ a1 a2 a3 b1 b2 b3 M, e = .returned (.agg #[.int .u64 (n64 E), .slice a1 a2 a3, .slice b1 b2 b3]) ∧ (Alike L M ∧ Img w' (.slice a1 a2 a3) (.slice b1 b2 b3) M N ∧ Dta w' M D) ∧ Below wx.heap.size wx w') := fun wx hx => ((HA.out wx hx).twin E).mono fun e w' ⟨a1, a2, a3, b1, b2, b3, M, he, q1, q2, q3, q4⟩ => ⟨a1, a2, a3, b1, b2, b3, M, he, ⟨q1, q2, q3⟩, q4⟩
  have hnum : Hid (∀ z W, Calls Tryz.prog 13 #[.int .i64 z] W fun e w' => e = .returned (.int .i64 z) ∧ w' = W) := fun z W => num_c z W
  have hc' := hc
  have cWr : Hid (∀ wx us un M, Below w.heap.size w wx → (Alike L M ∧ Img wx us un M N ∧ Dta wx M D) → Calls Tryz.prog 12 #[.agg #[.int .u64 (n64 E), us, un]] wx fun e w' => ∃ f n, wx.heap.size ≤ f ∧ e = .returned (.tuple #[.slice (some ⟨f, 0, none⟩) n n, .int .i64 0]) ∧ Byo w' f n (ans E L N D) ∧ Below wx.heap.size wx w') := fun wx us un M hx hq => h.write_o E hq.1 hq.2.1 hq.2.2 (hT.below hx rfl) hc
  have hl16 : (ln : Int) ≤ 16 := by have := (ck_all hc).2.1; omega
  have hx0 : ¬ x < 0 := by omega
  have hxl : ¬ 64 + 56 * (ln : Int) ≤ x := by omega
  obtain ⟨m, hm⟩ : ∃ m, m = (x - 64) % 56 := ⟨_, rfl⟩
  have HMM : Hid ((x - 64).tmod 56 = m) := by unfold Hid; rw [hm]; exact Int.tmod_eq_emod_of_nonneg (by omega)
  rw [← hm] at hq
  have t00 : decide ((7 : Int) ≤ x) = true := by exact decide_eq_true (by omega)
  have t10 : decide (x ≤ 15) = false := by exact decide_eq_false (by omega)
  have t20 : (x == 62) = false := by rw [beq_eq_false_iff_ne]; omega
  have t30 : (x == 63) = false := by rw [beq_eq_false_iff_ne]; omega
  have t40 : decide ((64 : Int) ≤ x) = true := by exact decide_eq_true (by omega)
  have t01 : decide ((16 : Int) ≤ m) = false := by exact decide_eq_false (by omega)
  have t11 : decide ((48 : Int) ≤ m) = false := by exact decide_eq_false (by omega)
  clear hm
  clear HA hT hE h hc hc' hsz hln hv hq
  generalize n64 E = EN at *
  go_enter Tryz.func6, Tryz.ntmps6
  go_upto_region 1 with fail
  refine on_w (motive := fun W => Code.wp _ _ _ _ W) (Q := fun W => W.heap[w.heap.size]? = some (.cells #[.int .u64 EN, .slice sa ln sc, .slice na nn nc] 26 (0, 0)) ∧ Below w.heap.size w W) ⟨heap_alloc_new w _, below_al _⟩ ?_
  generalize hgI : w.heap.size = gI
  rintro W1 ⟨s1, s2⟩
  have RI : Hid (∀ W, Below W1.heap.size W1 W → W.heap[gI]? = some (.cells #[.int .u64 EN, .slice sa ln sc, .slice na nn nc] 26 (0, 0))) := fun W hb => (hb.block gI (heap_lt s1)).trans s1
  have H1 : Hid (∀ W, Below W1.heap.size W1 W → Below w.heap.size w W) := fun W hb => by rw [hgI]; exact s2.trans (hb.mono (Nat.le_of_lt (heap_lt s1)))
  have B1 : Hid (Below W1.heap.size W1 W1) := Below.refl _ _
  clear s1 s2 hgI
  go_upto_region 3 with (go_at_call 9; refine (cFi.out _ (H1.out _ B1.out)).mono ?_; rintro e w2 ⟨rfl, q1⟩; have B2 : Hid (Below W1.heap.size W1 w2) := B1.out.trans (q1.mono B1.out.size); have r0 := RI.out _ B2.out; have b0 := cell_of_row _ gI 0 _ _ _ r0; have b1 := cell_of_row _ gI 1 _ _ _ r0; have b2 := cell_of_row _ gI 2 _ _ _ r0; clear q1 r0 cFi)
  go_upto_region 4 with (first | (go_at_call 11; refine (cTw.out _ (H1.out _ B2.out)).mono ?_; rintro e w5 ⟨f1, f2, f3, g1, g2, g3, M5, rfl, q1, q2⟩; have HM5 := Hid.mkI q1; have B5 : Hid (Below W1.heap.size W1 w5) := B2.out.trans (q2.mono B2.out.size); clear q1 q2) | (go_at_call 12; refine (cWr.out _ _ _ _ (H1.out _ B5.out) HM5.out).mono ?_; rintro e w6 ⟨f, n, q0, rfl, q1, q2⟩; have HF : Hid (W1.heap.size ≤ f) := Nat.le_trans B5.out.size q0; have HY6 := Hid.mkI q1; have B6 : Hid (Below W1.heap.size W1 w6) := B5.out.trans (q2.mono B5.out.size); have r0 := RI.out _ B6.out; have d0 := cell_of_row _ gI 0 _ _ _ r0; have d1 := cell_of_row _ gI 1 _ _ _ r0; have d2 := cell_of_row _ gI 2 _ _ _ r0; clear q0 q1 q2 r0))
  clear cWr cTw HM5 b0 b1 b2
  go_upto_region 8 with (go_at_call 13; refine (hnum.out _ _).mono ?_; rintro e wz ⟨rfl, hwz⟩; rw [hwz]; clear hwz)
  --@R8
  go_upto_region 9 with fail
  rw [HMM.out]
  clear HMM
  --@R9
  go_wp2_with (go_at_call 13; refine (hnum.out _ _).mono ?_; rintro e wz ⟨rfl, hwz⟩; rw [hwz]; clear hwz)
  go_ret
  exact ⟨rfl, H1.out _ B6.out⟩
set_option maxHeartbeats 8000000 in
theorem unseen_B2 (E : BitVec 64) (vs vn : Value) (L : List Sg) (N : List Sy) (D : Nat → List Int) (x v : Int) (w : World) (h : Arg w vs vn L N D) (hT : Tabs w) (hE : EtW w) (hv : 0 ≤ v ∧ v ≤ 255) (hc : ck E L N = 0) (hx : x < 64 + 56 * (L.length : Int)) (hq : 64 ≤ x ∧ 16 ≤ (x - 64) % 56 ∧ (x - 64) % 56 < 24) :
    Calls Tryz.prog 6 #[.agg #[.int .u64 (n64 E), vs, vn], .int .i64 x, .int .u8 v] w fun e w' => e = .returned (.bool true) ∧ Below w.heap.size w w' := by
  have hsz := h.im.segs
  obtain ⟨sa, sc, rfl, _⟩ := h.im.segs
  obtain ⟨na, nc, rfl, _⟩ := h.im.syms
  generalize hln : L.length = ln at *
  generalize N.length = nn at *
  have HA : Hid (∀ w', Below w.heap.size w w' → Arg w' (.slice sa ln sc) (.slice na nn nc) L N D) := fun w' hb => h.later hb
  have cFi : Hid (∀ wx, Below w.heap.size w wx → Calls Tryz.prog 9 #[] wx fun e w' => e = .returned (.bool true) ∧ Below wx.heap.size wx w') := fun wx hx => first_c wx (hT.below hx rfl) (hE.below hx rfl)
  have cTw : Hid (∀ wx, Below w.heap.size w wx → Calls Tryz.prog 11 #[.agg #[.int .u64 (n64 E), .slice sa ln sc, .slice na nn nc]] wx fun e w' => ∃ a1 a2 a3 b1 b2 b3 M, e = .returned (.agg #[.int .u64 (n64 E), .slice a1 a2 a3, .slice b1 b2 b3]) ∧ (Alike L M ∧ Img w' (.slice a1 a2 a3) (.slice b1 b2 b3) M N ∧ Dta w' M D) ∧ Below wx.heap.size wx w') := fun wx hx => ((HA.out wx hx).twin E).mono fun e w' ⟨a1, a2, a3, b1, b2, b3, M, he, q1, q2, q3, q4⟩ => ⟨a1, a2, a3, b1, b2, b3, M, he, ⟨q1, q2, q3⟩, q4⟩
  have hnum : Hid (∀ z W, Calls Tryz.prog 13 #[.int .i64 z] W fun e w' => e = .returned (.int .i64 z) ∧ w' = W) := fun z W => num_c z W
  have hc' := hc
  have cWr : Hid (∀ wx us un M, Below w.heap.size w wx → (Alike L M ∧ Img wx us un M N ∧ Dta wx M D) → Calls Tryz.prog 12 #[.agg #[.int .u64 (n64 E), us, un]] wx fun e w' => ∃ f n, wx.heap.size ≤ f ∧ e = .returned (.tuple #[.slice (some ⟨f, 0, none⟩) n n, .int .i64 0]) ∧ Byo w' f n (ans E L N D) ∧ Below wx.heap.size wx w') := fun wx us un M hx hq => h.write_o E hq.1 hq.2.1 hq.2.2 (hT.below hx rfl) hc
  have hl16 : (ln : Int) ≤ 16 := by have := (ck_all hc).2.1; omega
  have hx0 : ¬ x < 0 := by omega
  have hxl : ¬ 64 + 56 * (ln : Int) ≤ x := by omega
  obtain ⟨k, HK⟩ : ∃ k : Nat, x = (k : Int) := ⟨x.toNat, by omega⟩
  have HND : Hid (Nd ((ans E L N D).set k v) E.toNat L N D) := (h.nd E hc).1.set k v (by omega) (by omega)
  have cRd : Hid (∀ wx vb, Below w.heap.size w wx → Byt wx vb ((ans E L N D).set k v) → Calls Tryz.prog 14 #[vb] wx fun e w' => ∃ um un uc vm vn vc L', e = .returned (.tuple #[.agg #[.int .u64 (n64 E), .slice um un uc, .slice vm vn vc], .nilIface]) ∧ (Alike L L' ∧ Dta w' L' D ∧ Imq w' (.slice um un uc) (.slice vm vn vc) L' N) ∧ Below wx.heap.size wx w') := fun wx vb hx hv' => (nd_read HND.out hc (allB_set (h.nd E hc).2.1 k v hv) vb wx hv' (hT.below hx rfl) (hE.below hx rfl)).mono fun e w' ⟨um, un, uc, vm, vn, vc, L', he, q1, q2, q3, q4⟩ => ⟨um, un, uc, vm, vn, vc, L', he, ⟨q1, q2, q3⟩, q4⟩
  have cAl : Hid (∀ wx u v L', Below w.heap.size w wx → (Alike L L' ∧ Dta wx L' D ∧ Imq wx u v L' N) → Calls Tryz.prog 15 #[.agg #[.int .u64 (n64 E), u, v], .agg #[.int .u64 (n64 E), .slice sa ln sc, .slice na nn nc]] wx fun e w' => e = .returned (.bool true) ∧ Below wx.heap.size wx w') := fun wx u v L' hx hq => (HA.out wx hx).alike E hq.1 hq.2.1 hq.2.2
  have HLN : Hid (k < (ans E L N D).length) := by
    have q := (h.nd E hc).1.len
    have q2 := szz_hd L N
    unfold Hid
    omega
  have HKH := Hid.mkI HK
  obtain ⟨m, hm⟩ : ∃ m, m = (x - 64) % 56 := ⟨_, rfl⟩
  have HMM : Hid ((x - 64).tmod 56 = m) := by unfold Hid; rw [hm]; exact Int.tmod_eq_emod_of_nonneg (by omega)
  rw [← hm] at hq
  have t00 : decide ((7 : Int) ≤ x) = true := by exact decide_eq_true (by omega)
  have t10 : decide (x ≤ 15) = false := by exact decide_eq_false (by omega)
  have t20 : (x == 62) = false := by rw [beq_eq_false_iff_ne]; omega
  have t30 : (x == 63) = false := by rw [beq_eq_false_iff_ne]; omega
  have t40 : decide ((64 : Int) ≤ x) = true := by exact decide_eq_true (by omega)
  have t01 : decide ((16 : Int) ≤ m) = true := by exact decide_eq_true (by omega)
  have t11 : decide (m < 24) = true := by exact decide_eq_true (by omega)
  clear hm
  clear HK
  clear HA hT hE h hc hc' hsz hln hv HND hq
  generalize n64 E = EN at *
  go_enter Tryz.func6, Tryz.ntmps6
  go_upto_region 1 with fail
  refine on_w (motive := fun W => Code.wp _ _ _ _ W) (Q := fun W => W.heap[w.heap.size]? = some (.cells #[.int .u64 EN, .slice sa ln sc, .slice na nn nc] 26 (0, 0)) ∧ Below w.heap.size w W) ⟨heap_alloc_new w _, below_al _⟩ ?_
  generalize hgI : w.heap.size = gI
  rintro W1 ⟨s1, s2⟩
  have RI : Hid (∀ W, Below W1.heap.size W1 W → W.heap[gI]? = some (.cells #[.int .u64 EN, .slice sa ln sc, .slice na nn nc] 26 (0, 0))) := fun W hb => (hb.block gI (heap_lt s1)).trans s1
  have H1 : Hid (∀ W, Below W1.heap.size W1 W → Below w.heap.size w W) := fun W hb => by rw [hgI]; exact s2.trans (hb.mono (Nat.le_of_lt (heap_lt s1)))
  have B1 : Hid (Below W1.heap.size W1 W1) := Below.refl _ _
  clear s1 s2 hgI
  go_upto_region 3 with (go_at_call 9; refine (cFi.out _ (H1.out _ B1.out)).mono ?_; rintro e w2 ⟨rfl, q1⟩; have B2 : Hid (Below W1.heap.size W1 w2) := B1.out.trans (q1.mono B1.out.size); have r0 := RI.out _ B2.out; have b0 := cell_of_row _ gI 0 _ _ _ r0; have b1 := cell_of_row _ gI 1 _ _ _ r0; have b2 := cell_of_row _ gI 2 _ _ _ r0; clear q1 r0 cFi)
  go_upto_region 4 with (first | (go_at_call 11; refine (cTw.out _ (H1.out _ B2.out)).mono ?_; rintro e w5 ⟨f1, f2, f3, g1, g2, g3, M5, rfl, q1, q2⟩; have HM5 := Hid.mkI q1; have B5 : Hid (Below W1.heap.size W1 w5) := B2.out.trans (q2.mono B2.out.size); clear q1 q2) | (go_at_call 12; refine (cWr.out _ _ _ _ (H1.out _ B5.out) HM5.out).mono ?_; rintro e w6 ⟨f, n, q0, rfl, q1, q2⟩; have HF : Hid (W1.heap.size ≤ f) := Nat.le_trans B5.out.size q0; have HY6 := Hid.mkI q1; have B6 : Hid (Below W1.heap.size W1 w6) := B5.out.trans (q2.mono B5.out.size); have r0 := RI.out _ B6.out; have d0 := cell_of_row _ gI 0 _ _ _ r0; have d1 := cell_of_row _ gI 1 _ _ _ r0; have d2 := cell_of_row _ gI 2 _ _ _ r0; clear q0 q1 q2 r0))
  clear cWr cTw HM5 b0 b1 b2
  have hkn : Hid (k < n) := by obtain ⟨⟨_, _, e, _⟩, _⟩ := HY6.out; simp only [Value.slice.injEq] at e; have := HLN.out; have := e.2.1; unfold Hid; omega
  go_upto_region 8 with (go_at_call 13; refine (hnum.out _ _).mono ?_; rintro e wz ⟨rfl, hwz⟩; rw [hwz]; clear hwz)
  --@R8
  go_upto_region 9 with fail
  rw [HMM.out]
  clear HMM
  --@R9
  go_upto_region 12 with (go_at_call 13; refine (hnum.out _ _).mono ?_; rintro e wz ⟨rfl, hwz⟩; rw [hwz]; clear hwz)
  have HK := HKH.out
  clear HKH
  --@T1
  subst HK
  obtain ⟨⟨u9, hcell⟩, hfro, hby⟩ := HY6.out.set k hkn.out v
  have HY7 := Hid.mkI hby
  have B7 : Hid (Below W1.heap.size W1 (w6.setCell ⟨f, k, none⟩ (.int .u8 v))) := B6.out.setCell (p := ⟨f, k, none⟩) HF.out _
  clear hby
  go_upto_region 13 with fail
  --@T2
  refine on_w (motive := fun W => Code.wp _ _ _ _ W) (Q := fun W => Byt W (.slice (some ⟨f, 0, none⟩) n n) ((ans E L N D).set k v) ∧ Below W1.heap.size W1 W) ⟨HY7.out, B7.out⟩ ?_
  rintro W7 ⟨s1, s2⟩
  have HY8 := Hid.mkI s1
  have B8 := Hid.mkI s2
  clear s1 s2 HY7 B7 hcell hfro
  go_upto_region 14 with (go_at_call 14; refine (cRd.out _ _ (H1.out _ B8.out) HY8.out).mono ?_; rintro e w9 ⟨um, un, uc, vm, vn, vc, L', rfl, q1, q2⟩; have HM9 := Hid.mkI q1; have B9 : Hid (Below W1.heap.size W1 w9) := B8.out.trans (q2.mono B8.out.size); clear q1 q2)
  --@T3
  refine on_w (motive := fun W => Code.wp _ _ _ _ W) (Q := fun W => W.heap[w9.heap.size]? = some (.cells #[.int .u64 EN, .slice um un uc, .slice vm vn vc] 26 (0, 0)) ∧ Below w9.heap.size w9 W) ⟨heap_alloc_new w9 _, below_al _⟩ ?_
  generalize hgA : w9.heap.size = gA
  rintro WA ⟨s1, s2⟩
  have BA : Hid (Below w9.heap.size w9 WA) := by rw [hgA]; exact s2
  have HA1 : Hid (Below W1.heap.size W1 WA) := B9.out.trans (BA.out.mono B9.out.size)
  have HMA : Hid (Alike L L' ∧ Dta WA L' D ∧ Imq WA (.slice um un uc) (.slice vm vn vc) L' N) := ⟨HM9.out.1, HM9.out.2.1.later BA.out, ⟨HM9.out.2.2.segs.later BA.out rfl, HM9.out.2.2.syms.later BA.out rfl⟩⟩
  have hnil : ∀ w : World, (binOp .eql 36 .nilIface .nilIface).run Tryz.prog w = .ok (.bool true) w := fun w => by kernel_rfl
  have heg : ∀ (w : World), (eqGuard .eql 36 (.tmp 77) (.const .nilIface) .nilIface .nilIface).run Tryz.prog w = .ok () w := fun w => by kernel_rfl
  have a0 := cell_of_row _ gA 0 _ _ _ s1
  have a1 := cell_of_row _ gA 1 _ _ _ s1
  have a2 := cell_of_row _ gA 2 _ _ _ s1
  have r1 := RI.out _ HA1.out
  have c0 := cell_of_row _ gI 0 _ _ _ r1
  have c1 := cell_of_row _ gI 1 _ _ _ r1
  have c2 := cell_of_row _ gI 2 _ _ _ r1
  clear r1 s1 s2 hgA HM9 BA B9 B8 HY8 d0 d1 d2
  --@T4
  go_wp2_with (go_at_call 15; refine (cAl.out _ _ _ _ (H1.out _ HA1.out) HMA.out).mono ?_; rintro e wE ⟨rfl, q1⟩; have BE : Hid (Below W1.heap.size W1 wE) := HA1.out.trans (q1.mono HA1.out.size); clear q1)
  go_ret
  exact ⟨rfl, H1.out _ BE.out⟩
set_option maxHeartbeats 8000000 in
theorem unseen_B3 (E : BitVec 64) (vs vn : Value) (L : List Sg) (N : List Sy) (D : Nat → List Int) (x v : Int) (w : World) (h : Arg w vs vn L N D) (hT : Tabs w) (hE : EtW w) (hv : 0 ≤ v ∧ v ≤ 255) (hc : ck E L N = 0) (hx : x < 64 + 56 * (L.length : Int)) (hq : 64 ≤ x ∧ 24 ≤ (x - 64) % 56 ∧ (x - 64) % 56 < 48) :
    Calls Tryz.prog 6 #[.agg #[.int .u64 (n64 E), vs, vn], .int .i64 x, .int .u8 v] w fun e w' => e = .returned (.bool true) ∧ Below w.heap.size w w' := by
  have hsz := h.im.segs
  obtain ⟨sa, sc, rfl, _⟩ := h.im.segs
  obtain ⟨na, nc, rfl, _⟩ := h.im.syms
  generalize hln : L.length = ln at *
  generalize N.length = nn at *
  have HA : Hid (∀ w', Below w.heap.size w w' → Arg w' (.slice sa ln sc) (.slice na nn nc) L N D) := fun w' hb => h.later hb
  have cFi : Hid (∀ wx, Below w.heap.size w wx → Calls Tryz.prog 9 #[] wx fun e w' => e = .returned (.bool true) ∧ Below wx.heap.size wx w') := fun wx hx => first_c wx (hT.below hx rfl) (hE.below hx rfl)
  have cTw : Hid (∀ wx, Below w.heap.size w wx → Calls Tryz.prog 11 #[.agg #[.int .u64 (n64 E), .slice sa ln sc, .slice na nn nc]] wx fun e w' => ∃ a1 a2 a3 b1 b2 b3 M, e = .returned (.agg #[.int .u64 (n64 E), .slice a1 a2 a3, .slice b1 b2 b3]) ∧ (Alike L M ∧ Img w' (.slice a1 a2 a3) (.slice b1 b2 b3) M N ∧ Dta w' M D) ∧ Below wx.heap.size wx w') := fun wx hx => ((HA.out wx hx).twin E).mono fun e w' ⟨a1, a2, a3, b1, b2, b3, M, he, q1, q2, q3, q4⟩ => ⟨a1, a2, a3, b1, b2, b3, M, he, ⟨q1, q2, q3⟩, q4⟩
  have hnum : Hid (∀ z W, Calls Tryz.prog 13 #[.int .i64 z] W fun e w' => e = .returned (.int .i64 z) ∧ w' = W) := fun z W => num_c z W
  have hc' := hc
  have cWr : Hid (∀ wx us un M, Below w.heap.size w wx → (Alike L M ∧ Img wx us un M N ∧ Dta wx M D) → Calls Tryz.prog 12 #[.agg #[.int .u64 (n64 E), us, un]] wx fun e w' => ∃ f n, wx.heap.size ≤ f ∧ e = .returned (.tuple #[.slice (some ⟨f, 0, none⟩) n n, .int .i64 0]) ∧ Byo w' f n (ans E L N D) ∧ Below wx.heap.size wx w') := fun wx us un M hx hq => h.write_o E hq.1 hq.2.1 hq.2.2 (hT.below hx rfl) hc
  have hl16 : (ln : Int) ≤ 16 := by have := (ck_all hc).2.1; omega
  have hx0 : ¬ x < 0 := by omega
  have hxl : ¬ 64 + 56 * (ln : Int) ≤ x := by omega
  obtain ⟨m, hm⟩ : ∃ m, m = (x - 64) % 56 := ⟨_, rfl⟩
  have HMM : Hid ((x - 64).tmod 56 = m) := by unfold Hid; rw [hm]; exact Int.tmod_eq_emod_of_nonneg (by omega)
  rw [← hm] at hq
  have t00 : decide ((7 : Int) ≤ x) = true := by exact decide_eq_true (by omega)
  have t10 : decide (x ≤ 15) = false := by exact decide_eq_false (by omega)
  have t20 : (x == 62) = false := by rw [beq_eq_false_iff_ne]; omega
  have t30 : (x == 63) = false := by rw [beq_eq_false_iff_ne]; omega
  have t40 : decide ((64 : Int) ≤ x) = true := by exact decide_eq_true (by omega)
  have t01 : decide ((16 : Int) ≤ m) = true := by exact decide_eq_true (by omega)
  have t11 : decide (m < 24) = false := by exact decide_eq_false (by omega)
  have t21 : decide ((48 : Int) ≤ m) = false := by exact decide_eq_false (by omega)
  clear hm
  clear HA hT hE h hc hc' hsz hln hv hq
  generalize n64 E = EN at *
  go_enter Tryz.func6, Tryz.ntmps6
  go_upto_region 1 with fail
  refine on_w (motive := fun W => Code.wp _ _ _ _ W) (Q := fun W => W.heap[w.heap.size]? = some (.cells #[.int .u64 EN, .slice sa ln sc, .slice na nn nc] 26 (0, 0)) ∧ Below w.heap.size w W) ⟨heap_alloc_new w _, below_al _⟩ ?_
  generalize hgI : w.heap.size = gI
  rintro W1 ⟨s1, s2⟩
  have RI : Hid (∀ W, Below W1.heap.size W1 W → W.heap[gI]? = some (.cells #[.int .u64 EN, .slice sa ln sc, .slice na nn nc] 26 (0, 0))) := fun W hb => (hb.block gI (heap_lt s1)).trans s1
  have H1 : Hid (∀ W, Below W1.heap.size W1 W → Below w.heap.size w W) := fun W hb => by rw [hgI]; exact s2.trans (hb.mono (Nat.le_of_lt (heap_lt s1)))
  have B1 : Hid (Below W1.heap.size W1 W1) := Below.refl _ _
  clear s1 s2 hgI
  go_upto_region 3 with (go_at_call 9; refine (cFi.out _ (H1.out _ B1.out)).mono ?_; rintro e w2 ⟨rfl, q1⟩; have B2 : Hid (Below W1.heap.size W1 w2) := B1.out.trans (q1.mono B1.out.size); have r0 := RI.out _ B2.out; have b0 := cell_of_row _ gI 0 _ _ _ r0; have b1 := cell_of_row _ gI 1 _ _ _ r0; have b2 := cell_of_row _ gI 2 _ _ _ r0; clear q1 r0 cFi)
  go_upto_region 4 with (first | (go_at_call 11; refine (cTw.out _ (H1.out _ B2.out)).mono ?_; rintro e w5 ⟨f1, f2, f3, g1, g2, g3, M5, rfl, q1, q2⟩; have HM5 := Hid.mkI q1; have B5 : Hid (Below W1.heap.size W1 w5) := B2.out.trans (q2.mono B2.out.size); clear q1 q2) | (go_at_call 12; refine (cWr.out _ _ _ _ (H1.out _ B5.out) HM5.out).mono ?_; rintro e w6 ⟨f, n, q0, rfl, q1, q2⟩; have HF : Hid (W1.heap.size ≤ f) := Nat.le_trans B5.out.size q0; have HY6 := Hid.mkI q1; have B6 : Hid (Below W1.heap.size W1 w6) := B5.out.trans (q2.mono B5.out.size); have r0 := RI.out _ B6.out; have d0 := cell_of_row _ gI 0 _ _ _ r0; have d1 := cell_of_row _ gI 1 _ _ _ r0; have d2 := cell_of_row _ gI 2 _ _ _ r0; clear q0 q1 q2 r0))
  clear cWr cTw HM5 b0 b1 b2
  go_upto_region 8 with (go_at_call 13; refine (hnum.out _ _).mono ?_; rintro e wz ⟨rfl, hwz⟩; rw [hwz]; clear hwz)
  --@R8
  go_upto_region 9 with fail
  rw [HMM.out]
  clear HMM
  --@R9
  go_wp2_with (go_at_call 13; refine (hnum.out _ _).mono ?_; rintro e wz ⟨rfl, hwz⟩; rw [hwz]; clear hwz)
  go_ret
  exact ⟨rfl, H1.out _ B6.out⟩
set_option maxHeartbeats 8000000 in
theorem unseen_B4 (E : BitVec 64) (vs vn : Value) (L : List Sg) (N : List Sy) (D : Nat → List Int) (x v : Int) (w : World) (h : Arg w vs vn L N D) (hT : Tabs w) (hE : EtW w) (hv : 0 ≤ v ∧ v ≤ 255) (hc : ck E L N = 0) (hx : x < 64 + 56 * (L.length : Int)) (hq : 64 ≤ x ∧ 48 ≤ (x - 64) % 56) :
    Calls Tryz.prog 6 #[.agg #[.int .u64 (n64 E), vs, vn], .int .i64 x, .int .u8 v] w fun e w' => e = .returned (.bool true) ∧ Below w.heap.size w w' := by
  have hsz := h.im.segs
  obtain ⟨sa, sc, rfl, _⟩ := h.im.segs
  obtain ⟨na, nc, rfl, _⟩ := h.im.syms
  generalize hln : L.length = ln at *
  generalize N.length = nn at *
  have HA : Hid (∀ w', Below w.heap.size w w' → Arg w' (.slice sa ln sc) (.slice na nn nc) L N D) := fun w' hb => h.later hb
  have cFi : Hid (∀ wx, Below w.heap.size w wx → Calls Tryz.prog 9 #[] wx fun e w' => e = .returned (.bool true) ∧ Below wx.heap.size wx w') := fun wx hx => first_c wx (hT.below hx rfl) (hE.below hx rfl)
  have cTw : Hid (∀ wx, Below w.heap.size w wx → Calls Tryz.prog 11 #[.agg #[.int .u64 (n64 E), .slice sa ln sc, .slice na nn nc]] wx fun e w' => ∃ a1 a2 a3 b1 b2 b3 M, e = .returned (.agg #[.int .u64 (n64 E), .slice a1 a2 a3, .slice b1 b2 b3]) ∧ (Alike L M ∧ Img w' (.slice a1 a2 a3) (.slice b1 b2 b3) M N ∧ Dta w' M D) ∧ Below wx.heap.size wx w') := fun wx hx => ((HA.out wx hx).twin E).mono fun e w' ⟨a1, a2, a3, b1, b2, b3, M, he, q1, q2, q3, q4⟩ => ⟨a1, a2, a3, b1, b2, b3, M, he, ⟨q1, q2, q3⟩, q4⟩
  have hnum : Hid (∀ z W, Calls Tryz.prog 13 #[.int .i64 z] W fun e w' => e = .returned (.int .i64 z) ∧ w' = W) := fun z W => num_c z W
  have hc' := hc
  have cWr : Hid (∀ wx us un M, Below w.heap.size w wx → (Alike L M ∧ Img wx us un M N ∧ Dta wx M D) → Calls Tryz.prog 12 #[.agg #[.int .u64 (n64 E), us, un]] wx fun e w' => ∃ f n, wx.heap.size ≤ f ∧ e = .returned (.tuple #[.slice (some ⟨f, 0, none⟩) n n, .int .i64 0]) ∧ Byo w' f n (ans E L N D) ∧ Below wx.heap.size wx w') := fun wx us un M hx hq => h.write_o E hq.1 hq.2.1 hq.2.2 (hT.below hx rfl) hc
  have hl16 : (ln : Int) ≤ 16 := by have := (ck_all hc).2.1; omega
  have hx0 : ¬ x < 0 := by omega
  have hxl : ¬ 64 + 56 * (ln : Int) ≤ x := by omega
  obtain ⟨k, HK⟩ : ∃ k : Nat, x = (k : Int) := ⟨x.toNat, by omega⟩
  have HND : Hid (Nd ((ans E L N D).set k v) E.toNat L N D) := (h.nd E hc).1.set k v (by omega) (by omega)
  have cRd : Hid (∀ wx vb, Below w.heap.size w wx → Byt wx vb ((ans E L N D).set k v) → Calls Tryz.prog 14 #[vb] wx fun e w' => ∃ um un uc vm vn vc L', e = .returned (.tuple #[.agg #[.int .u64 (n64 E), .slice um un uc, .slice vm vn vc], .nilIface]) ∧ (Alike L L' ∧ Dta w' L' D ∧ Imq w' (.slice um un uc) (.slice vm vn vc) L' N) ∧ Below wx.heap.size wx w') := fun wx vb hx hv' => (nd_read HND.out hc (allB_set (h.nd E hc).2.1 k v hv) vb wx hv' (hT.below hx rfl) (hE.below hx rfl)).mono fun e w' ⟨um, un, uc, vm, vn, vc, L', he, q1, q2, q3, q4⟩ => ⟨um, un, uc, vm, vn, vc, L', he, ⟨q1, q2, q3⟩, q4⟩
  have cAl : Hid (∀ wx u v L', Below w.heap.size w wx → (Alike L L' ∧ Dta wx L' D ∧ Imq wx u v L' N) → Calls Tryz.prog 15 #[.agg #[.int .u64 (n64 E), u, v], .agg #[.int .u64 (n64 E), .slice sa ln sc, .slice na nn nc]] wx fun e w' => e = .returned (.bool true) ∧ Below wx.heap.size wx w') := fun wx u v L' hx hq => (HA.out wx hx).alike E hq.1 hq.2.1 hq.2.2
  have HLN : Hid (k < (ans E L N D).length) := by
    have q := (h.nd E hc).1.len
    have q2 := szz_hd L N
    unfold Hid
    omega
  have HKH := Hid.mkI HK
  obtain ⟨m, hm⟩ : ∃ m, m = (x - 64) % 56 := ⟨_, rfl⟩
  have HMM : Hid ((x - 64).tmod 56 = m) := by unfold Hid; rw [hm]; exact Int.tmod_eq_emod_of_nonneg (by omega)
  rw [← hm] at hq
  have t00 : decide ((7 : Int) ≤ x) = true := by exact decide_eq_true (by omega)
  have t10 : decide (x ≤ 15) = false := by exact decide_eq_false (by omega)
  have t20 : (x == 62) = false := by rw [beq_eq_false_iff_ne]; omega
  have t30 : (x == 63) = false := by rw [beq_eq_false_iff_ne]; omega
  have t40 : decide ((64 : Int) ≤ x) = true := by exact decide_eq_true (by omega)
  have t01 : decide ((16 : Int) ≤ m) = true := by exact decide_eq_true (by omega)
  have t11 : decide (m < 24) = false := by exact decide_eq_false (by omega)
  have t21 : decide ((48 : Int) ≤ m) = true := by exact decide_eq_true (by omega)
  clear hm
  clear HK
  clear HA hT hE h hc hc' hsz hln hv HND hq
  generalize n64 E = EN at *
  go_enter Tryz.func6, Tryz.ntmps6
  go_upto_region 1 with fail
  refine on_w (motive := fun W => Code.wp _ _ _ _ W) (Q := fun W => W.heap[w.heap.size]? = some (.cells #[.int .u64 EN, .slice sa ln sc, .slice na nn nc] 26 (0, 0)) ∧ Below w.heap.size w W) ⟨heap_alloc_new w _, below_al _⟩ ?_
  generalize hgI : w.heap.size = gI
  rintro W1 ⟨s1, s2⟩
  have RI : Hid (∀ W, Below W1.heap.size W1 W → W.heap[gI]? = some (.cells #[.int .u64 EN, .slice sa ln sc, .slice na nn nc] 26 (0, 0))) := fun W hb => (hb.block gI (heap_lt s1)).trans s1
  have H1 : Hid (∀ W, Below W1.heap.size W1 W → Below w.heap.size w W) := fun W hb => by rw [hgI]; exact s2.trans (hb.mono (Nat.le_of_lt (heap_lt s1)))
  have B1 : Hid (Below W1.heap.size W1 W1) := Below.refl _ _
  clear s1 s2 hgI
  go_upto_region 3 with (go_at_call 9; refine (cFi.out _ (H1.out _ B1.out)).mono ?_; rintro e w2 ⟨rfl, q1⟩; have B2 : Hid (Below W1.heap.size W1 w2) := B1.out.trans (q1.mono B1.out.size); have r0 := RI.out _ B2.out; have b0 := cell_of_row _ gI 0 _ _ _ r0; have b1 := cell_of_row _ gI 1 _ _ _ r0; have b2 := cell_of_row _ gI 2 _ _ _ r0; clear q1 r0 cFi)
  go_upto_region 4 with (first | (go_at_call 11; refine (cTw.out _ (H1.out _ B2.out)).mono ?_; rintro e w5 ⟨f1, f2, f3, g1, g2, g3, M5, rfl, q1, q2⟩; have HM5 := Hid.mkI q1; have B5 : Hid (Below W1.heap.size W1 w5) := B2.out.trans (q2.mono B2.out.size); clear q1 q2) | (go_at_call 12; refine (cWr.out _ _ _ _ (H1.out _ B5.out) HM5.out).mono ?_; rintro e w6 ⟨f, n, q0, rfl, q1, q2⟩; have HF : Hid (W1.heap.size ≤ f) := Nat.le_trans B5.out.size q0; have HY6 := Hid.mkI q1; have B6 : Hid (Below W1.heap.size W1 w6) := B5.out.trans (q2.mono B5.out.size); have r0 := RI.out _ B6.out; have d0 := cell_of_row _ gI 0 _ _ _ r0; have d1 := cell_of_row _ gI 1 _ _ _ r0; have d2 := cell_of_row _ gI 2 _ _ _ r0; clear q0 q1 q2 r0))
  clear cWr cTw HM5 b0 b1 b2
  have hkn : Hid (k < n) := by obtain ⟨⟨_, _, e, _⟩, _⟩ := HY6.out; simp only [Value.slice.injEq] at e; have := HLN.out; have := e.2.1; unfold Hid; omega
  go_upto_region 8 with (go_at_call 13; refine (hnum.out _ _).mono ?_; rintro e wz ⟨rfl, hwz⟩; rw [hwz]; clear hwz)
  --@R8
  go_upto_region 9 with fail
  rw [HMM.out]
  clear HMM
  --@R9
  go_upto_region 12 with (go_at_call 13; refine (hnum.out _ _).mono ?_; rintro e wz ⟨rfl, hwz⟩; rw [hwz]; clear hwz)
  have HK := HKH.out
  clear HKH
  --@T1
  subst HK
  obtain ⟨⟨u9, hcell⟩, hfro, hby⟩ := HY6.out.set k hkn.out v
  have HY7 := Hid.mkI hby
  have B7 : Hid (Below W1.heap.size W1 (w6.setCell ⟨f, k, none⟩ (.int .u8 v))) := B6.out.setCell (p := ⟨f, k, none⟩) HF.out _
  clear hby
  go_upto_region 13 with fail
  --@T2
  refine on_w (motive := fun W => Code.wp _ _ _ _ W) (Q := fun W => Byt W (.slice (some ⟨f, 0, none⟩) n n) ((ans E L N D).set k v) ∧ Below W1.heap.size W1 W) ⟨HY7.out, B7.out⟩ ?_
  rintro W7 ⟨s1, s2⟩
  have HY8 := Hid.mkI s1
  have B8 := Hid.mkI s2
  clear s1 s2 HY7 B7 hcell hfro
  go_upto_region 14 with (go_at_call 14; refine (cRd.out _ _ (H1.out _ B8.out) HY8.out).mono ?_; rintro e w9 ⟨um, un, uc, vm, vn, vc, L', rfl, q1, q2⟩; have HM9 := Hid.mkI q1; have B9 : Hid (Below W1.heap.size W1 w9) := B8.out.trans (q2.mono B8.out.size); clear q1 q2)
  --@T3
  refine on_w (motive := fun W => Code.wp _ _ _ _ W) (Q := fun W => W.heap[w9.heap.size]? = some (.cells #[.int .u64 EN, .slice um un uc, .slice vm vn vc] 26 (0, 0)) ∧ Below w9.heap.size w9 W) ⟨heap_alloc_new w9 _, below_al _⟩ ?_
  generalize hgA : w9.heap.size = gA
  rintro WA ⟨s1, s2⟩
  have BA : Hid (Below w9.heap.size w9 WA) := by rw [hgA]; exact s2
  have HA1 : Hid (Below W1.heap.size W1 WA) := B9.out.trans (BA.out.mono B9.out.size)
  have HMA : Hid (Alike L L' ∧ Dta WA L' D ∧ Imq WA (.slice um un uc) (.slice vm vn vc) L' N) := ⟨HM9.out.1, HM9.out.2.1.later BA.out, ⟨HM9.out.2.2.segs.later BA.out rfl, HM9.out.2.2.syms.later BA.out rfl⟩⟩
  have hnil : ∀ w : World, (binOp .eql 36 .nilIface .nilIface).run Tryz.prog w = .ok (.bool true) w := fun w => by kernel_rfl
  have heg : ∀ (w : World), (eqGuard .eql 36 (.tmp 77) (.const .nilIface) .nilIface .nilIface).run Tryz.prog w = .ok () w := fun w => by kernel_rfl
  have a0 := cell_of_row _ gA 0 _ _ _ s1
  have a1 := cell_of_row _ gA 1 _ _ _ s1
  have a2 := cell_of_row _ gA 2 _ _ _ s1
  have r1 := RI.out _ HA1.out
  have c0 := cell_of_row _ gI 0 _ _ _ r1
  have c1 := cell_of_row _ gI 1 _ _ _ r1
  have c2 := cell_of_row _ gI 2 _ _ _ r1
  clear r1 s1 s2 hgA HM9 BA B9 B8 HY8 d0 d1 d2
  --@T4
  go_wp2_with (go_at_call 15; refine (cAl.out _ _ _ _ (H1.out _ HA1.out) HMA.out).mono ?_; rintro e wE ⟨rfl, q1⟩; have BE : Hid (Below W1.heap.size W1 wE) := HA1.out.trans (q1.mono HA1.out.size); clear q1)
  go_ret
  exact ⟨rfl, H1.out _ BE.out⟩
theorem unseen_c (E : BitVec 64) (vs vn : Value) (L : List Sg) (N : List Sy) (D : Nat → List Int) (x v : Int) (w : World) (h : Arg w vs vn L N D) (hT : Tabs w) (hE : EtW w) (hx : -9223372036854775808 ≤ x ∧ x ≤ 9223372036854775807) (hv : 0 ≤ v ∧ v ≤ 255) :
    Calls Tryz.prog 6 #[.agg #[.int .u64 (n64 E), vs, vn], .int .i64 x, .int .u8 v] w fun e w' => e = .returned (.bool true) ∧ Below w.heap.size w w' := by
  by_cases hc : ¬ ck E L N = 0
  · exact unseen_no E vs vn L N D x v w h hT hE hv hc
  have hc : ck E L N = 0 := Decidable.of_not_not hc
  by_cases h0 : x < 0
  · exact unseen_neg E vs vn L N D x v w h hT hE hv hc h0
  by_cases h1 : 64 + 56 * (L.length : Int) ≤ x
  · exact unseen_far E vs vn L N D x v w h hT hE hv hc (by omega) h1
  by_cases h2 : x < 7
  · exact unseen_A1 E vs vn L N D x v w h hT hE hv hc (by omega) ⟨by omega, h2⟩
  by_cases h3 : x ≤ 15
  · exact unseen_A2 E vs vn L N D x v w h hT hE hv hc (by omega) ⟨by omega, h3⟩
  by_cases h4 : x ≤ 61
  · exact unseen_A3 E vs vn L N D x v w h hT hE hv hc (by omega) ⟨by omega, h4⟩
  by_cases h5 : x = 62
  · exact unseen_A4 E vs vn L N D x v w h hT hE hv hc (by omega) h5
  by_cases h6 : x = 63
  · exact unseen_A5 E vs vn L N D x v w h hT hE hv hc (by omega) h6
  by_cases h7 : (x - 64) % 56 < 16
  · exact unseen_B1 E vs vn L N D x v w h hT hE hv hc (by omega) ⟨by omega, h7⟩
  by_cases h8 : (x - 64) % 56 < 24
  · exact unseen_B2 E vs vn L N D x v w h hT hE hv hc (by omega) ⟨by omega, by omega, h8⟩
  by_cases h9 : (x - 64) % 56 < 48
  · exact unseen_B3 E vs vn L N D x v w h hT hE hv hc (by omega) ⟨by omega, by omega, h9⟩
  exact unseen_B4 E vs vn L N D x v w h hT hE hv hc (by omega) ⟨by omega, by omega⟩
end Go.Proofs.YtheeogbmljjbdaaGreatDoor
