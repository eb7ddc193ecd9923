/-
  ImageCut: its walk.
-/
import Derived.Test.YtheeogbmljjbdaaGreatDoorNIzj
import Derived.Test.YtheeogbmljjbdaaGreatDoorNIzk
namespace Go.Proofs.YtheeogbmljjbdaaGreatDoor
set_option linter.unusedVariables false
set_option maxRecDepth 100000
open Go.ChangeShapes Go.WideShapes Go.ChangeAt Go.RowKit Go.Deep
theorem allB_take {l : List Int} (h : AllB l) (k : Nat) : AllB (l.take k) := fun x hx => h x (List.mem_of_mem_take hx)
set_option maxHeartbeats 8000000 in
theorem cut_no (E : BitVec 64) (vs vn : Value) (L : List Sg) (N : List Sy) (D : Nat → List Int) (x : Int) (w : World) (h : Arg w vs vn L N D) (hT : Tabs w) (hE : EtW w) (hc : ¬ ck E L N = 0) :
    Calls Tryz.prog 4 #[.agg #[.int .u64 (n64 E), vs, vn], .int .i64 x] w fun e w' => e = .returned (.bool true) ∧ Below w.heap.size w w' := by
  obtain ⟨sa, sc, rfl, _⟩ := h.im.segs
  obtain ⟨na, nc, rfl, _⟩ := h.im.syms
  have hb1 := h.nL
  have hb2 := h.nN
  generalize hln : L.length = ln at *
  generalize hnn : N.length = nn at *
  have HA : Hid (∀ w', Below w.heap.size w w' → Arg w' (.slice sa ln sc) (.slice na nn nc) L N D) := fun w' hb => h.later hb
  have cFi : Hid (∀ wx, Below w.heap.size w wx → Calls Tryz.prog 9 #[] wx fun e w' => e = .returned (.bool true) ∧ Below wx.heap.size wx w') := fun wx hx => first_c wx (hT.below hx rfl) (hE.below hx rfl)
  have cTw : Hid (∀ wx, Below w.heap.size w wx → Calls Tryz.prog 11 #[.agg #[.int .u64 (n64 E), .slice sa ln sc, .slice na nn nc]] wx fun e w' => ∃ a1 a2 a3 b1 b2 b3 M, e = .returned (.agg #[.int .u64 (n64 E), .slice a1 a2 a3, .slice b1 b2 b3]) ∧ (Alike L M ∧ Img w' (.slice a1 a2 a3) (.slice b1 b2 b3) M N ∧ Dta w' M D) ∧ Below wx.heap.size wx w') := fun wx hx => ((HA.out wx hx).twin E).mono fun e w' ⟨a1, a2, a3, b1, b2, b3, M, he, q1, q2, q3, q4⟩ => ⟨a1, a2, a3, b1, b2, b3, M, he, ⟨q1, q2, q3⟩, q4⟩
  have hnum : Hid (∀ z W, Calls Tryz.prog 13 #[.int .i64 z] W fun e w' => e = .returned (.int .i64 z) ∧ w' = W) := fun z W => num_c z W
  obtain ⟨R, hR⟩ : ∃ R, R = ck E L N := ⟨_, rfl⟩
  have hR0 : ¬ R = 0 := by rw [hR]; exact hc
  have cWr : Hid (∀ wx us un M, Below w.heap.size w wx → (Alike L M ∧ Img wx us un M N ∧ Dta wx M D) → Calls Tryz.prog 12 #[.agg #[.int .u64 (n64 E), us, un]] wx fun e w' => ∃ a n cap, e = .returned (.tuple #[.slice a n cap, .int .i64 R]) ∧ Below wx.heap.size wx w') := fun wx us un M hx hq => (h.write E hq.1 hq.2.1 hq.2.2 (hT.below hx rfl) R hR).mono fun e w' ⟨a, n, cap, h1, h2, h3, _, h5⟩ => ⟨a, n, cap, h1, h5⟩
  clear HA hT hE h hR hc hln hnn hb1 hb2
  generalize n64 E = EN at *
  go_enter Tryz.func4, Tryz.ntmps4
  go_upto_region 1 with fail
  refine on_w (motive := fun W => Code.wp _ _ _ _ W) (Q := fun W => W.heap[w.heap.size]? = some (.cells #[.int .u64 EN, .slice sa ln sc, .slice na nn nc] 26 (0, 0)) ∧ Below w.heap.size w W) ⟨heap_alloc_new w _, below_al _⟩ ?_
  generalize hgI : w.heap.size = gI
  rintro W1 ⟨s1, s2⟩
  have RI : Hid (∀ W, Below W1.heap.size W1 W → W.heap[gI]? = some (.cells #[.int .u64 EN, .slice sa ln sc, .slice na nn nc] 26 (0, 0))) := fun W hb => (hb.block gI (heap_lt s1)).trans s1
  have H1 : Hid (∀ W, Below W1.heap.size W1 W → Below w.heap.size w W) := fun W hb => by rw [hgI]; exact s2.trans (hb.mono (Nat.le_of_lt (heap_lt s1)))
  have B1 : Hid (Below W1.heap.size W1 W1) := Below.refl _ _
  clear s1 s2 hgI
  go_upto_region 3 with (go_at_call 9; refine (cFi.out _ (H1.out _ B1.out)).mono ?_; rintro e w2 ⟨rfl, q1⟩; have B2 : Hid (Below W1.heap.size W1 w2) := B1.out.trans (q1.mono B1.out.size); have r0 := RI.out _ B2.out; have b0 := cell_of_row _ gI 0 _ _ _ r0; have b1 := cell_of_row _ gI 1 _ _ _ r0; have b2 := cell_of_row _ gI 2 _ _ _ r0; clear q1 r0 cFi)
  go_upto_region 4 with (first | (go_at_call 11; refine (cTw.out _ (H1.out _ B2.out)).mono ?_; rintro e w5 ⟨f1, f2, f3, g1, g2, g3, M5, rfl, q1, q2⟩; have HM5 := Hid.mkI q1; have B5 : Hid (Below W1.heap.size W1 w5) := B2.out.trans (q2.mono B2.out.size); clear q1 q2) | (go_at_call 12; refine (cWr.out _ _ _ _ (H1.out _ B5.out) HM5.out).mono ?_; rintro e w6 ⟨av, n, cap, rfl, q2⟩; have B6 : Hid (Below W1.heap.size W1 w6) := B5.out.trans (q2.mono B5.out.size); clear q2))
  clear cWr cTw HM5 b0 b1 b2
  go_wp2_with (go_at_call 13; refine (hnum.out _ _).mono ?_; rintro e wz ⟨rfl, hwz⟩; rw [hwz]; clear hwz)
  go_ret
  exact ⟨rfl, H1.out _ B6.out⟩
set_option maxHeartbeats 8000000 in
theorem cut_none (E : BitVec 64) (vs vn : Value) (L : List Sg) (N : List Sy) (D : Nat → List Int) (x : Int) (w : World) (h : Arg w vs vn L N D) (hT : Tabs w) (hE : EtW w) (hc : ck E L N = 0) (hz : L.length + N.length = 0) :
    Calls Tryz.prog 4 #[.agg #[.int .u64 (n64 E), vs, vn], .int .i64 x] w fun e w' => e = .returned (.bool true) ∧ Below w.heap.size w w' := by
  obtain ⟨sa, sc, rfl, _⟩ := h.im.segs
  obtain ⟨na, nc, rfl, _⟩ := h.im.syms
  have hb1 := h.nL
  have hb2 := h.nN
  generalize hln : L.length = ln at *
  generalize hnn : N.length = nn at *
  have HA : Hid (∀ w', Below w.heap.size w w' → Arg w' (.slice sa ln sc) (.slice na nn nc) L N D) := fun w' hb => h.later hb
  have cFi : Hid (∀ wx, Below w.heap.size w wx → Calls Tryz.prog 9 #[] wx fun e w' => e = .returned (.bool true) ∧ Below wx.heap.size wx w') := fun wx hx => first_c wx (hT.below hx rfl) (hE.below hx rfl)
  have cTw : Hid (∀ wx, Below w.heap.size w wx → Calls Tryz.prog 11 #[.agg #[.int .u64 (n64 E), .slice sa ln sc, .slice na nn nc]] wx fun e w' => ∃ a1 a2 a3 b1 b2 b3 M, e = .returned (.agg #[.int .u64 (n64 E), .slice a1 a2 a3, .slice b1 b2 b3]) ∧ (Alike L M ∧ Img w' (.slice a1 a2 a3) (.slice b1 b2 b3) M N ∧ Dta w' M D) ∧ Below wx.heap.size wx w') := fun wx hx => ((HA.out wx hx).twin E).mono fun e w' ⟨a1, a2, a3, b1, b2, b3, M, he, q1, q2, q3, q4⟩ => ⟨a1, a2, a3, b1, b2, b3, M, he, ⟨q1, q2, q3⟩, q4⟩
  have hnum : Hid (∀ z W, Calls Tryz.prog 13 #[.int .i64 z] W fun e w' => e = .returned (.int .i64 z) ∧ w' = W) := fun z W => num_c z W
  have cWr : Hid (∀ wx us un M, Below w.heap.size w wx → (Alike L M ∧ Img wx us un M N ∧ Dta wx M D) → Calls Tryz.prog 12 #[.agg #[.int .u64 (n64 E), us, un]] wx fun e w' => ∃ f n, wx.heap.size ≤ f ∧ e = .returned (.tuple #[.slice (some ⟨f, 0, none⟩) n n, .int .i64 0]) ∧ Byo w' f n (ans E L N D) ∧ Below wx.heap.size wx w') := fun wx us un M hx hq => h.write_o E hq.1 hq.2.1 hq.2.2 (hT.below hx rfl) hc
  have hl16 : (ln : Int) ≤ 16 := by have := (ck_all hc).2.1; omega
  have hn400 : (nn : Int) ≤ 400 := by have := (ck_all hc).2.2.1; omega
  have HLN : Hid (∀ W f n, Byo W f n (ans E L N D) → n = (ans E L N D).length) := fun W f n q => by
    obtain ⟨⟨_, _, e, _⟩, _⟩ := q
    simp only [Value.slice.injEq] at e
    exact e.2.1
  have hzB : ((ln : Int) + (nn : Int) == 0) = true := by rw [beq_iff_eq]; omega
  clear HA hT hE h hc hln hz hnn hb1 hb2
  generalize n64 E = EN at *
  go_enter Tryz.func4, Tryz.ntmps4
  go_upto_region 1 with fail
  refine on_w (motive := fun W => Code.wp _ _ _ _ W) (Q := fun W => W.heap[w.heap.size]? = some (.cells #[.int .u64 EN, .slice sa ln sc, .slice na nn nc] 26 (0, 0)) ∧ Below w.heap.size w W) ⟨heap_alloc_new w _, below_al _⟩ ?_
  generalize hgI : w.heap.size = gI
  rintro W1 ⟨s1, s2⟩
  have RI : Hid (∀ W, Below W1.heap.size W1 W → W.heap[gI]? = some (.cells #[.int .u64 EN, .slice sa ln sc, .slice na nn nc] 26 (0, 0))) := fun W hb => (hb.block gI (heap_lt s1)).trans s1
  have H1 : Hid (∀ W, Below W1.heap.size W1 W → Below w.heap.size w W) := fun W hb => by rw [hgI]; exact s2.trans (hb.mono (Nat.le_of_lt (heap_lt s1)))
  have B1 : Hid (Below W1.heap.size W1 W1) := Below.refl _ _
  clear s1 s2 hgI
  go_upto_region 3 with (go_at_call 9; refine (cFi.out _ (H1.out _ B1.out)).mono ?_; rintro e w2 ⟨rfl, q1⟩; have B2 : Hid (Below W1.heap.size W1 w2) := B1.out.trans (q1.mono B1.out.size); have r0 := RI.out _ B2.out; have b0 := cell_of_row _ gI 0 _ _ _ r0; have b1 := cell_of_row _ gI 1 _ _ _ r0; have b2 := cell_of_row _ gI 2 _ _ _ r0; clear q1 r0 cFi)
  go_upto_region 4 with (first | (go_at_call 11; refine (cTw.out _ (H1.out _ B2.out)).mono ?_; rintro e w5 ⟨f1, f2, f3, g1, g2, g3, M5, rfl, q1, q2⟩; have HM5 := Hid.mkI q1; have B5 : Hid (Below W1.heap.size W1 w5) := B2.out.trans (q2.mono B2.out.size); clear q1 q2) | (go_at_call 12; refine (cWr.out _ _ _ _ (H1.out _ B5.out) HM5.out).mono ?_; rintro e w6 ⟨f, n, q0, rfl, q1, q2⟩; have HF : Hid (W1.heap.size ≤ f) := Nat.le_trans B5.out.size q0; have HY6 := Hid.mkI q1; have B6 : Hid (Below W1.heap.size W1 w6) := B5.out.trans (q2.mono B5.out.size); have r0 := RI.out _ B6.out; have d0 := cell_of_row _ gI 0 _ _ _ r0; have d1 := cell_of_row _ gI 1 _ _ _ r0; have d2 := cell_of_row _ gI 2 _ _ _ r0; clear q0 q1 q2 r0))
  clear cWr cTw HM5 b0 b1 b2
  go_wp2_with (go_at_call 13; refine (hnum.out _ _).mono ?_; rintro e wz ⟨rfl, hwz⟩; rw [hwz]; clear hwz)
  go_ret
  exact ⟨rfl, H1.out _ B6.out⟩
set_option maxHeartbeats 8000000 in
theorem cut_neg (E : BitVec 64) (vs vn : Value) (L : List Sg) (N : List Sy) (D : Nat → List Int) (x : Int) (w : World) (h : Arg w vs vn L N D) (hT : Tabs w) (hE : EtW w) (hc : ck E L N = 0) (hz : ¬ L.length + N.length = 0) (hx : x < 0) :
    Calls Tryz.prog 4 #[.agg #[.int .u64 (n64 E), vs, vn], .int .i64 x] w fun e w' => e = .returned (.bool true) ∧ Below w.heap.size w w' := by
  obtain ⟨sa, sc, rfl, _⟩ := h.im.segs
  obtain ⟨na, nc, rfl, _⟩ := h.im.syms
  have hb1 := h.nL
  have hb2 := h.nN
  generalize hln : L.length = ln at *
  generalize hnn : N.length = nn at *
  have HA : Hid (∀ w', Below w.heap.size w w' → Arg w' (.slice sa ln sc) (.slice na nn nc) L N D) := fun w' hb => h.later hb
  have cFi : Hid (∀ wx, Below w.heap.size w wx → Calls Tryz.prog 9 #[] wx fun e w' => e = .returned (.bool true) ∧ Below wx.heap.size wx w') := fun wx hx => first_c wx (hT.below hx rfl) (hE.below hx rfl)
  have cTw : Hid (∀ wx, Below w.heap.size w wx → Calls Tryz.prog 11 #[.agg #[.int .u64 (n64 E), .slice sa ln sc, .slice na nn nc]] wx fun e w' => ∃ a1 a2 a3 b1 b2 b3 M, e = .returned (.agg #[.int .u64 (n64 E), .slice a1 a2 a3, .slice b1 b2 b3]) ∧ (Alike L M ∧ Img w' (.slice a1 a2 a3) (.slice b1 b2 b3) M N ∧ Dta w' M D) ∧ Below wx.heap.size wx w') := fun wx hx => ((HA.out wx hx).twin E).mono fun e w' ⟨a1, a2, a3, b1, b2, b3, M, he, q1, q2, q3, q4⟩ => ⟨a1, a2, a3, b1, b2, b3, M, he, ⟨q1, q2, q3⟩, q4⟩
  have hnum : Hid (∀ z W, Calls Tryz.prog 13 #[.int .i64 z] W fun e w' => e = .returned (.int .i64 z) ∧ w' = W) := fun z W => num_c z W
  have cWr : Hid (∀ wx us un M, Below w.heap.size w wx → (Alike L M ∧ Img wx us un M N ∧ Dta wx M D) → Calls Tryz.prog 12 #[.agg #[.int .u64 (n64 E), us, un]] wx fun e w' => ∃ f n, wx.heap.size ≤ f ∧ e = .returned (.tuple #[.slice (some ⟨f, 0, none⟩) n n, .int .i64 0]) ∧ Byo w' f n (ans E L N D) ∧ Below wx.heap.size wx w') := fun wx us un M hx hq => h.write_o E hq.1 hq.2.1 hq.2.2 (hT.below hx rfl) hc
  have hl16 : (ln : Int) ≤ 16 := by have := (ck_all hc).2.1; omega
  have hn400 : (nn : Int) ≤ 400 := by have := (ck_all hc).2.2.1; omega
  have HLN : Hid (∀ W f n, Byo W f n (ans E L N D) → n = (ans E L N D).length) := fun W f n q => by
    obtain ⟨⟨_, _, e, _⟩, _⟩ := q
    simp only [Value.slice.injEq] at e
    exact e.2.1
  have hzI : ¬ (ln : Int) + (nn : Int) = 0 := by omega
  have hzB : ((ln : Int) + (nn : Int) == 0) = false := by rw [beq_eq_false_iff_ne]; exact hzI
  clear HA hT hE h hc hln hz hnn hb1 hb2
  generalize n64 E = EN at *
  go_enter Tryz.func4, Tryz.ntmps4
  go_upto_region 1 with fail
  refine on_w (motive := fun W => Code.wp _ _ _ _ W) (Q := fun W => W.heap[w.heap.size]? = some (.cells #[.int .u64 EN, .slice sa ln sc, .slice na nn nc] 26 (0, 0)) ∧ Below w.heap.size w W) ⟨heap_alloc_new w _, below_al _⟩ ?_
  generalize hgI : w.heap.size = gI
  rintro W1 ⟨s1, s2⟩
  have RI : Hid (∀ W, Below W1.heap.size W1 W → W.heap[gI]? = some (.cells #[.int .u64 EN, .slice sa ln sc, .slice na nn nc] 26 (0, 0))) := fun W hb => (hb.block gI (heap_lt s1)).trans s1
  have H1 : Hid (∀ W, Below W1.heap.size W1 W → Below w.heap.size w W) := fun W hb => by rw [hgI]; exact s2.trans (hb.mono (Nat.le_of_lt (heap_lt s1)))
  have B1 : Hid (Below W1.heap.size W1 W1) := Below.refl _ _
  clear s1 s2 hgI
  go_upto_region 3 with (go_at_call 9; refine (cFi.out _ (H1.out _ B1.out)).mono ?_; rintro e w2 ⟨rfl, q1⟩; have B2 : Hid (Below W1.heap.size W1 w2) := B1.out.trans (q1.mono B1.out.size); have r0 := RI.out _ B2.out; have b0 := cell_of_row _ gI 0 _ _ _ r0; have b1 := cell_of_row _ gI 1 _ _ _ r0; have b2 := cell_of_row _ gI 2 _ _ _ r0; clear q1 r0 cFi)
  go_upto_region 4 with (first | (go_at_call 11; refine (cTw.out _ (H1.out _ B2.out)).mono ?_; rintro e w5 ⟨f1, f2, f3, g1, g2, g3, M5, rfl, q1, q2⟩; have HM5 := Hid.mkI q1; have B5 : Hid (Below W1.heap.size W1 w5) := B2.out.trans (q2.mono B2.out.size); clear q1 q2) | (go_at_call 12; refine (cWr.out _ _ _ _ (H1.out _ B5.out) HM5.out).mono ?_; rintro e w6 ⟨f, n, q0, rfl, q1, q2⟩; have HF : Hid (W1.heap.size ≤ f) := Nat.le_trans B5.out.size q0; have HY6 := Hid.mkI q1; have B6 : Hid (Below W1.heap.size W1 w6) := B5.out.trans (q2.mono B5.out.size); have r0 := RI.out _ B6.out; have d0 := cell_of_row _ gI 0 _ _ _ r0; have d1 := cell_of_row _ gI 1 _ _ _ r0; have d2 := cell_of_row _ gI 2 _ _ _ r0; clear q0 q1 q2 r0))
  clear cWr cTw HM5 b0 b1 b2
  go_wp2_with (go_at_call 13; refine (hnum.out _ _).mono ?_; rintro e wz ⟨rfl, hwz⟩; rw [hwz]; clear hwz)
  go_ret
  exact ⟨rfl, H1.out _ B6.out⟩
set_option maxHeartbeats 8000000 in
theorem cut_far (E : BitVec 64) (vs vn : Value) (L : List Sg) (N : List Sy) (D : Nat → List Int) (x : Int) (w : World) (h : Arg w vs vn L N D) (hT : Tabs w) (hE : EtW w) (hc : ck E L N = 0) (hz : ¬ L.length + N.length = 0) (hx0 : ¬ x < 0) (hx : ((ans E L N D).length : Int) ≤ x) :
    Calls Tryz.prog 4 #[.agg #[.int .u64 (n64 E), vs, vn], .int .i64 x] w fun e w' => e = .returned (.bool true) ∧ Below w.heap.size w w' := by
  obtain ⟨sa, sc, rfl, _⟩ := h.im.segs
  obtain ⟨na, nc, rfl, _⟩ := h.im.syms
  have hb1 := h.nL
  have hb2 := h.nN
  generalize hln : L.length = ln at *
  generalize hnn : N.length = nn at *
  have HA : Hid (∀ w', Below w.heap.size w w' → Arg w' (.slice sa ln sc) (.slice na nn nc) L N D) := fun w' hb => h.later hb
  have cFi : Hid (∀ wx, Below w.heap.size w wx → Calls Tryz.prog 9 #[] wx fun e w' => e = .returned (.bool true) ∧ Below wx.heap.size wx w') := fun wx hx => first_c wx (hT.below hx rfl) (hE.below hx rfl)
  have cTw : Hid (∀ wx, Below w.heap.size w wx → Calls Tryz.prog 11 #[.agg #[.int .u64 (n64 E), .slice sa ln sc, .slice na nn nc]] wx fun e w' => ∃ a1 a2 a3 b1 b2 b3 M, e = .returned (.agg #[.int .u64 (n64 E), .slice a1 a2 a3, .slice b1 b2 b3]) ∧ (Alike L M ∧ Img w' (.slice a1 a2 a3) (.slice b1 b2 b3) M N ∧ Dta w' M D) ∧ Below wx.heap.size wx w') := fun wx hx => ((HA.out wx hx).twin E).mono fun e w' ⟨a1, a2, a3, b1, b2, b3, M, he, q1, q2, q3, q4⟩ => ⟨a1, a2, a3, b1, b2, b3, M, he, ⟨q1, q2, q3⟩, q4⟩
  have hnum : Hid (∀ z W, Calls Tryz.prog 13 #[.int .i64 z] W fun e w' => e = .returned (.int .i64 z) ∧ w' = W) := fun z W => num_c z W
  have cWr : Hid (∀ wx us un M, Below w.heap.size w wx → (Alike L M ∧ Img wx us un M N ∧ Dta wx M D) → Calls Tryz.prog 12 #[.agg #[.int .u64 (n64 E), us, un]] wx fun e w' => ∃ f n, wx.heap.size ≤ f ∧ e = .returned (.tuple #[.slice (some ⟨f, 0, none⟩) n n, .int .i64 0]) ∧ Byo w' f n (ans E L N D) ∧ Below wx.heap.size wx w') := fun wx us un M hx hq => h.write_o E hq.1 hq.2.1 hq.2.2 (hT.below hx rfl) hc
  have hl16 : (ln : Int) ≤ 16 := by have := (ck_all hc).2.1; omega
  have hn400 : (nn : Int) ≤ 400 := by have := (ck_all hc).2.2.1; omega
  have HLN : Hid (∀ W f n, Byo W f n (ans E L N D) → n = (ans E L N D).length) := fun W f n q => by
    obtain ⟨⟨_, _, e, _⟩, _⟩ := q
    simp only [Value.slice.injEq] at e
    exact e.2.1
  have hzI : ¬ (ln : Int) + (nn : Int) = 0 := by omega
  have hzB : ((ln : Int) + (nn : Int) == 0) = false := by rw [beq_eq_false_iff_ne]; exact hzI
  have HX := Hid.mkI hx
  clear HA hT hE h hc hln hz hx hnn hb1 hb2
  generalize n64 E = EN at *
  go_enter Tryz.func4, Tryz.ntmps4
  go_upto_region 1 with fail
  refine on_w (motive := fun W => Code.wp _ _ _ _ W) (Q := fun W => W.heap[w.heap.size]? = some (.cells #[.int .u64 EN, .slice sa ln sc, .slice na nn nc] 26 (0, 0)) ∧ Below w.heap.size w W) ⟨heap_alloc_new w _, below_al _⟩ ?_
  generalize hgI : w.heap.size = gI
  rintro W1 ⟨s1, s2⟩
  have RI : Hid (∀ W, Below W1.heap.size W1 W → W.heap[gI]? = some (.cells #[.int .u64 EN, .slice sa ln sc, .slice na nn nc] 26 (0, 0))) := fun W hb => (hb.block gI (heap_lt s1)).trans s1
  have H1 : Hid (∀ W, Below W1.heap.size W1 W → Below w.heap.size w W) := fun W hb => by rw [hgI]; exact s2.trans (hb.mono (Nat.le_of_lt (heap_lt s1)))
  have B1 : Hid (Below W1.heap.size W1 W1) := Below.refl _ _
  clear s1 s2 hgI
  go_upto_region 3 with (go_at_call 9; refine (cFi.out _ (H1.out _ B1.out)).mono ?_; rintro e w2 ⟨rfl, q1⟩; have B2 : Hid (Below W1.heap.size W1 w2) := B1.out.trans (q1.mono B1.out.size); have r0 := RI.out _ B2.out; have b0 := cell_of_row _ gI 0 _ _ _ r0; have b1 := cell_of_row _ gI 1 _ _ _ r0; have b2 := cell_of_row _ gI 2 _ _ _ r0; clear q1 r0 cFi)
  go_upto_region 4 with (first | (go_at_call 11; refine (cTw.out _ (H1.out _ B2.out)).mono ?_; rintro e w5 ⟨f1, f2, f3, g1, g2, g3, M5, rfl, q1, q2⟩; have HM5 := Hid.mkI q1; have B5 : Hid (Below W1.heap.size W1 w5) := B2.out.trans (q2.mono B2.out.size); clear q1 q2) | (go_at_call 12; refine (cWr.out _ _ _ _ (H1.out _ B5.out) HM5.out).mono ?_; rintro e w6 ⟨f, n, q0, rfl, q1, q2⟩; have HF : Hid (W1.heap.size ≤ f) := Nat.le_trans B5.out.size q0; have HY6 := Hid.mkI q1; have B6 : Hid (Below W1.heap.size W1 w6) := B5.out.trans (q2.mono B5.out.size); have r0 := RI.out _ B6.out; have d0 := cell_of_row _ gI 0 _ _ _ r0; have d1 := cell_of_row _ gI 1 _ _ _ r0; have d2 := cell_of_row _ gI 2 _ _ _ r0; clear q0 q1 q2 r0))
  clear cWr cTw HM5 b0 b1 b2
  have hxn : (n : Int) ≤ x := by have := HLN.out _ _ _ HY6.out; have := HX.out; omega
  go_wp2_with (go_at_call 13; refine (hnum.out _ _).mono ?_; rintro e wz ⟨rfl, hwz⟩; rw [hwz]; clear hwz)
  go_ret
  exact ⟨rfl, H1.out _ B6.out⟩
set_option maxHeartbeats 8000000 in
theorem cut_in (E : BitVec 64) (vs vn : Value) (L : List Sg) (N : List Sy) (D : Nat → List Int) (x : Int) (w : World) (h : Arg w vs vn L N D) (hT : Tabs w) (hE : EtW w) (hc : ck E L N = 0) (hz : ¬ L.length + N.length = 0) (hx0 : ¬ x < 0) (hx : ¬ ((ans E L N D).length : Int) ≤ x) :
    Calls Tryz.prog 4 #[.agg #[.int .u64 (n64 E), vs, vn], .int .i64 x] w fun e w' => e = .returned (.bool true) ∧ Below w.heap.size w w' := by
  obtain ⟨sa, sc, rfl, _⟩ := h.im.segs
  obtain ⟨na, nc, rfl, _⟩ := h.im.syms
  have hb1 := h.nL
  have hb2 := h.nN
  generalize hln : L.length = ln at *
  generalize hnn : N.length = nn at *
  have HA : Hid (∀ w', Below w.heap.size w w' → Arg w' (.slice sa ln sc) (.slice na nn nc) L N D) := fun w' hb => h.later hb
  have cFi : Hid (∀ wx, Below w.heap.size w wx → Calls Tryz.prog 9 #[] wx fun e w' => e = .returned (.bool true) ∧ Below wx.heap.size wx w') := fun wx hx => first_c wx (hT.below hx rfl) (hE.below hx rfl)
  have cTw : Hid (∀ wx, Below w.heap.size w wx → Calls Tryz.prog 11 #[.agg #[.int .u64 (n64 E), .slice sa ln sc, .slice na nn nc]] wx fun e w' => ∃ a1 a2 a3 b1 b2 b3 M, e = .returned (.agg #[.int .u64 (n64 E), .slice a1 a2 a3, .slice b1 b2 b3]) ∧ (Alike L M ∧ Img w' (.slice a1 a2 a3) (.slice b1 b2 b3) M N ∧ Dta w' M D) ∧ Below wx.heap.size wx w') := fun wx hx => ((HA.out wx hx).twin E).mono fun e w' ⟨a1, a2, a3, b1, b2, b3, M, he, q1, q2, q3, q4⟩ => ⟨a1, a2, a3, b1, b2, b3, M, he, ⟨q1, q2, q3⟩, q4⟩
  have hnum : Hid (∀ z W, Calls Tryz.prog 13 #[.int .i64 z] W fun e w' => e = .returned (.int .i64 z) ∧ w' = W) := fun z W => num_c z W
  have cWr : Hid (∀ wx us un M, Below w.heap.size w wx → (Alike L M ∧ Img wx us un M N ∧ Dta wx M D) → Calls Tryz.prog 12 #[.agg #[.int .u64 (n64 E), us, un]] wx fun e w' => ∃ f n, wx.heap.size ≤ f ∧ e = .returned (.tuple #[.slice (some ⟨f, 0, none⟩) n n, .int .i64 0]) ∧ Byo w' f n (ans E L N D) ∧ Below wx.heap.size wx w') := fun wx us un M hx hq => h.write_o E hq.1 hq.2.1 hq.2.2 (hT.below hx rfl) hc
  have hl16 : (ln : Int) ≤ 16 := by have := (ck_all hc).2.1; omega
  have hn400 : (nn : Int) ≤ 400 := by have := (ck_all hc).2.2.1; omega
  have HLN : Hid (∀ W f n, Byo W f n (ans E L N D) → n = (ans E L N D).length) := fun W f n q => by
    obtain ⟨⟨_, _, e, _⟩, _⟩ := q
    simp only [Value.slice.injEq] at e
    exact e.2.1
  have hzI : ¬ (ln : Int) + (nn : Int) = 0 := by omega
  have hzB : ((ln : Int) + (nn : Int) == 0) = false := by rw [beq_eq_false_iff_ne]; exact hzI
  obtain ⟨k, HK⟩ : ∃ k : Nat, x = (k : Int) := ⟨x.toNat, by omega⟩
  have HX := Hid.mkI hx
  have HKL : Hid (k < (ans E L N D).length) := by unfold Hid; omega
  have HBL : Hid ((ans E L N D).length ≤ 200000) := (h.nd E hc).2.2
  have cRd : Hid (∀ wx vb, Below w.heap.size w wx → Byt wx vb ((ans E L N D).take k) → Calls Tryz.prog 14 #[vb] wx fun e w' => ∃ g, e = .returned (.tuple #[.agg #[.int .u64 0, .slice none 0 0, .slice none 0 0], .iface 79 (.pointer (some ⟨g, 0, none⟩))]) ∧ Below wx.heap.size wx w') := fun wx vb hx hv => by
    obtain ⟨F, hF⟩ := rd_cut (h.nd E hc).1 hc (by omega) HKL.out
    refine (read_c (allB_take (h.nd E hc).2.1 k) (by rw [List.length_take]; have := HBL.out; omega) vb wx hv (hT.below hx rfl) (hE.below hx rfl)).mono ?_
    rintro e w' (⟨q, _⟩ | ⟨F', g, _, rfl, _, _, hb⟩)
    · rw [hF] at q; cases q
    · exact ⟨g, rfl, hb⟩
  have cAl : Hid (∀ wx, Calls Tryz.prog 15 #[.agg #[.int .u64 0, .slice none 0 0, .slice none 0 0], .agg #[.int .u64 0, .slice none 0 0, .slice none 0 0]] wx fun e w' => e = .returned (.bool true) ∧ Below wx.heap.size wx w') := fun wx => alike_nil wx
  have HKH := Hid.mkI HK
  clear HA hT hE h hc HK hln hz hx hnn hb1 hb2
  generalize n64 E = EN at *
  go_enter Tryz.func4, Tryz.ntmps4
  go_upto_region 1 with fail
  refine on_w (motive := fun W => Code.wp _ _ _ _ W) (Q := fun W => W.heap[w.heap.size]? = some (.cells #[.int .u64 EN, .slice sa ln sc, .slice na nn nc] 26 (0, 0)) ∧ Below w.heap.size w W) ⟨heap_alloc_new w _, below_al _⟩ ?_
  generalize hgI : w.heap.size = gI
  rintro W1 ⟨s1, s2⟩
  have RI : Hid (∀ W, Below W1.heap.size W1 W → W.heap[gI]? = some (.cells #[.int .u64 EN, .slice sa ln sc, .slice na nn nc] 26 (0, 0))) := fun W hb => (hb.block gI (heap_lt s1)).trans s1
  have H1 : Hid (∀ W, Below W1.heap.size W1 W → Below w.heap.size w W) := fun W hb => by rw [hgI]; exact s2.trans (hb.mono (Nat.le_of_lt (heap_lt s1)))
  have B1 : Hid (Below W1.heap.size W1 W1) := Below.refl _ _
  clear s1 s2 hgI
  go_upto_region 3 with (go_at_call 9; refine (cFi.out _ (H1.out _ B1.out)).mono ?_; rintro e w2 ⟨rfl, q1⟩; have B2 : Hid (Below W1.heap.size W1 w2) := B1.out.trans (q1.mono B1.out.size); have r0 := RI.out _ B2.out; have b0 := cell_of_row _ gI 0 _ _ _ r0; have b1 := cell_of_row _ gI 1 _ _ _ r0; have b2 := cell_of_row _ gI 2 _ _ _ r0; clear q1 r0 cFi)
  go_upto_region 4 with (first | (go_at_call 11; refine (cTw.out _ (H1.out _ B2.out)).mono ?_; rintro e w5 ⟨f1, f2, f3, g1, g2, g3, M5, rfl, q1, q2⟩; have HM5 := Hid.mkI q1; have B5 : Hid (Below W1.heap.size W1 w5) := B2.out.trans (q2.mono B2.out.size); clear q1 q2) | (go_at_call 12; refine (cWr.out _ _ _ _ (H1.out _ B5.out) HM5.out).mono ?_; rintro e w6 ⟨f, n, q0, rfl, q1, q2⟩; have HF : Hid (W1.heap.size ≤ f) := Nat.le_trans B5.out.size q0; have HY6 := Hid.mkI q1; have B6 : Hid (Below W1.heap.size W1 w6) := B5.out.trans (q2.mono B5.out.size); have r0 := RI.out _ B6.out; have d0 := cell_of_row _ gI 0 _ _ _ r0; have d1 := cell_of_row _ gI 1 _ _ _ r0; have d2 := cell_of_row _ gI 2 _ _ _ r0; clear q0 q1 q2 r0))
  clear cWr cTw HM5 b0 b1 b2
  have HNL := Hid.mkI (HLN.out _ _ _ HY6.out)
  have hxn : ¬ (n : Int) ≤ x := by have := HNL.out; have := HX.out; omega
  --@U0
  go_upto_region 6 with (go_at_call 13; refine (hnum.out _ _).mono ?_; rintro e wz ⟨rfl, hwz⟩; rw [hwz]; clear hwz)
  have HK := HKH.out
  clear HKH hx0 hxn
  subst HK
  --@U1
  have hsl : ∀ W, (Instr.slice 31 (.slice (some ⟨f, 0, none⟩) n n) none (some (.int .i64 (k : Int))) none).run Tryz.prog W = .ok (.slice (some ⟨f, 0, none⟩) k n) W := fun W => by
    have h1 := HNL.out
    have h2 := HKL.out
    rw [sl_h W (some ⟨f, 0, none⟩) n n k (by omega), if_neg (by omega)]
    simp [addAt]
  have HY7 : Hid (Byt w6 (.slice (some ⟨f, 0, none⟩) k n) ((ans E L N D).take k)) := by
    have h1 := HNL.out
    have h2 := HKL.out
    have q := HY6.out.1.cut 0 k n (Nat.zero_le _) (by omega) (Nat.le_refl _) (by omega)
    rw [List.drop_zero, Nat.sub_zero, Nat.sub_zero] at q
    rw [if_neg (by omega), show ((some (⟨f, 0, none⟩ : Addr)).map fun x => x.add 0) = some ⟨f, 0, none⟩ from by simp [addAt]] at q
    exact q
  clear HX HNL HKL HBL HLN
  go_upto_region 7 with (go_at_call 14; refine (cRd.out _ _ (H1.out _ B6.out) HY7.out).mono ?_; rintro e w9 ⟨gf, rfl, q2⟩; have B9 : Hid (Below W1.heap.size W1 w9) := B6.out.trans (q2.mono B6.out.size); clear q2)
  --@U2
  refine on_w (motive := fun W => Code.wp _ _ _ _ W) (Q := fun W => W.heap[w9.heap.size]? = some (.cells #[.int .u64 0, .slice none 0 0, .slice none 0 0] 26 (0, 0)) ∧ Below w9.heap.size w9 W) ⟨heap_alloc_new w9 _, below_al _⟩ ?_
  generalize hgA : w9.heap.size = gA
  rintro WA ⟨s1, s2⟩
  have BA : Hid (Below w9.heap.size w9 WA) := by rw [hgA]; exact s2
  have HA1 : Hid (Below W1.heap.size W1 WA) := B9.out.trans (BA.out.mono B9.out.size)
  have hnf : ∀ w : World, (binOp .neq 36 (.iface 79 (.pointer (some ⟨gf, 0, none⟩))) .nilIface).run Tryz.prog w = .ok (.bool true) w := fun w => by kernel_rfl
  have hnfg : ∀ (w : World), (eqGuard .neq 36 (.tmp 47) (.const .nilIface) (.iface 79 (.pointer (some ⟨gf, 0, none⟩))) .nilIface).run Tryz.prog w = .ok () w := fun w => by kernel_rfl
  have a0 := cell_of_row _ gA 0 _ _ _ s1
  have a1 := cell_of_row _ gA 1 _ _ _ s1
  have a2 := cell_of_row _ gA 2 _ _ _ s1
  clear s1 s2 hgA BA B9 d0 d1 d2 HY7 HY6 hsl
  --@U3
  go_wp2_with (go_at_call 15; refine (cAl.out _).mono ?_; rintro e wE ⟨rfl, q1⟩; have BE : Hid (Below W1.heap.size W1 wE) := HA1.out.trans (q1.mono HA1.out.size); clear q1)
  go_ret
  exact ⟨rfl, H1.out _ BE.out⟩
theorem cut_c (E : BitVec 64) (vs vn : Value) (L : List Sg) (N : List Sy) (D : Nat → List Int) (x : Int) (w : World) (h : Arg w vs vn L N D) (hT : Tabs w) (hE : EtW w) (hx : -9223372036854775808 ≤ x ∧ x ≤ 9223372036854775807) :
    Calls Tryz.prog 4 #[.agg #[.int .u64 (n64 E), vs, vn], .int .i64 x] w fun e w' => e = .returned (.bool true) ∧ Below w.heap.size w w' := by
  by_cases hc : ¬ ck E L N = 0
  · exact cut_no E vs vn L N D x w h hT hE hc
  have hc : ck E L N = 0 := Decidable.of_not_not hc
  by_cases hz : L.length + N.length = 0
  · exact cut_none E vs vn L N D x w h hT hE hc hz
  by_cases h0 : x < 0
  · exact cut_neg E vs vn L N D x w h hT hE hc hz h0
  by_cases h1 : ((ans E L N D).length : Int) ≤ x
  · exact cut_far E vs vn L N D x w h hT hE hc hz h0 h1
  exact cut_in E vs vn L N D x w h hT hE hc hz h0 h1
end Go.Proofs.YtheeogbmljjbdaaGreatDoor
