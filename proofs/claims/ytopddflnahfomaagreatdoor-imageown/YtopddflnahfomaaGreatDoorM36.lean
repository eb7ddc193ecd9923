/-
  Iwr.
-/
import Derived.Test.YtopddflnahfomaaGreatDoorM35
import Derived.Deep.OwnRows
namespace Go.Proofs.YtopddflnahfomaaGreatDoor
set_option linter.unusedVariables false
open Go.ChangeShapes Go.WideShapes Go.ChangeAt Go.RowKit Go.Deep
/-- A file while it is written; the rows of X stay. -/
structure Fl (f n : Nat) (T : Nat → Int) (X : List (Nat × Array Value × TypeId)) (w0 : World) (D : Nat → Prop) (w : World) : Prop where
  bx : ∀ x, x ∈ X → ¬ x.1 = f ∧ w.heap[x.1]? = some (.cells x.2.1 x.2.2 (0, 0))
  fil : Fil f n T D w
  kp : Kp f f w0 w
  fl : f < w0.heap.size
theorem Fl.next {f n : Nat} {T : Nat → Int} {X : List (Nat × Array Value × TypeId)} {w0 : World} {D E : Nat → Prop} {w w' : World} (h : Fl f n T X w0 D w) (hf : Fil f n T E w') (hk : Kp f f w w') : Fl f n T X w0 E w' :=
  ⟨fun x hx => ⟨(h.bx x hx).1, (hk.block _ (Array.getElem?_eq_some_iff.1 (h.bx x hx).2).1 (h.bx x hx).1 (h.bx x hx).1).trans (h.bx x hx).2⟩, hf, h.kp.trans hk, h.fl⟩
theorem Fl.below {f n : Nat} {T : Nat → Int} {X : List (Nat × Array Value × TypeId)} {w0 : World} {D : Nat → Prop} {w : World} (h : Fl f n T X w0 D w) : Below f w0 w := h.kp.below (Nat.le_refl _) (Nat.le_refl _) (Nat.le_of_lt h.fl)
theorem made_get (n j : Nat) (h : j < n) : (madeCells #[Value.int .u8 0] n)[j]? = some (.int .u8 0) := by
  unfold madeCells; simp [h, Nat.mod_one]
/-- Bytes in a block of their own that may be written. -/
def Byo (w : World) (f n : Nat) (l : List Int) : Prop := Byt w (.slice (some ⟨f, 0, none⟩) n n) l ∧ ∃ C : Array Value, C.size = n ∧ w.heap[f]? = some (.cells C 5 (0, 0))
theorem Fil.byt {f n : Nat} {T : Nat → Int} {D : Nat → Prop} {w : World} (h : Fil f n T D w) (l : List Int) (hl : l.length = n) (hz : ∀ i, i < n → ¬ D i → T i = 0) (hT : ∀ i, i < n → T i = l.getD i 0) : Byt w (.slice (some ⟨f, 0, none⟩) n n) l := by
  subst hl
  obtain ⟨C, hC, hr, hd⟩ := h
  refine ⟨some ⟨f, 0, none⟩, l.length, rfl, Nat.le_refl _, fun e => by simp at e, fun _ => ⟨f, 0, rfl, (Array.getElem?_eq_some_iff.1 hr).1, fun j hj => ?_⟩⟩
  rw [cell_of_row w f (0 + j) _ _ _ hr, Nat.zero_add, ← hT j hj]
  by_cases c : D j
  · exact (hd j hj).1 c
  · rw [(hd j hj).2 c, hz j hj c]
theorem Fil.byo {f n : Nat} {T : Nat → Int} {D : Nat → Prop} {w : World} (h : Fil f n T D w) (l : List Int) (hl : l.length = n) (hz : ∀ i, i < n → ¬ D i → T i = 0) (hT : ∀ i, i < n → T i = l.getD i 0) : Byo w f n l := ⟨h.byt l hl hz hT, by obtain ⟨C, hC, hr, _⟩ := h; exact ⟨C, hC, hr⟩⟩
set_option maxRecDepth 100000 in
set_option maxHeartbeats 4000000 in
theorem wfile_a (E : BitVec 64) (vs vn vd : Value) (L : List Sg) (N : List Sy) (D : Nat → List Int) (tb tx ow se n : Nat) (w : World) (hi : Img w vs vn L N) (hdt : Dta w L D) (Bd : Nat) (hd : w.ownsRow Bd 3 1 vd L.length (iv (pls L L.length))) (hL : L.length ≤ 16) (hN : N.length ≤ 400) (hn0 : 0 < N.length) (hff : ∀ j, j < L.length → 0 ≤ (sg L j).f ∧ (sg L j).f ≤ 7) (hn : n = szz L N) (hnb : n ≤ 200000) (h1 : tb = tabAt L) (h2 : tx = tabAt L + 24 + 24 * N.length) (h3 : ow = tabAt L + 24 + 24 * N.length + 1 + nk N N.length) (h4 : se = al (tabAt L + 24 + 24 * N.length + 1 + nk N N.length + 27)) :
    Calls Tryz.prog 12 #[.agg #[.int .u64 (n64 E), vs, vn], .agg #[vd, .int .i64 tb, .int .i64 tx, .int .i64 ow, .int .i64 se, .int .i64 n]] w fun e w' => ∃ f, w.heap.size ≤ f ∧ e = .returned (.slice (some ⟨f, 0, none⟩) n n) ∧ Byo w' f n (flA E.toNat L N D) ∧ Below w.heap.size w w' := by
  obtain ⟨FL, hFL⟩ : ∃ FL, FL = flA E.toNat L N D := ⟨_, rfl⟩
  have hD : ∀ j, j < L.length → (D j).length = (sg L j).n := fun j hj => (hdt j hj).1
  obtain ⟨T, hT⟩ : ∃ T : Nat → Int, T = fun i => FL.getD i 0 := ⟨_, rfl⟩
  have hSub : Sub T 0 FL := fun i _ => by rw [hT, Nat.zero_add]
  have hlen : FL.length = n := by rw [hFL, hn]; exact flA_length hD hn0
  have hly : LyA T E.toNat L N D tb tx ow se := lay_a hD hn0 (by rw [← hFL]; exact hSub) tb tx ow se h1 h2 h3 h4
  have hz : szz L N = al (tabAt L + 24 + 24 * N.length + 1 + nk N N.length + 27) + 256 := by unfold szz; rw [if_neg (by omega)]
  have hse : n = se + 256 := by rw [hn, hz, h4]
  have ha := al_lo (ow + 27)
  have e4 : se = al (ow + 27) := by rw [h4, h3]
  have ht := al_lo (sk L L.length)
  have et : tabAt L = al (sk L L.length) := rfl
  have hsk : sk L L.length ≤ n := by omega
  have HLY : Hid (LyA T E.toNat L N D tb tx ow se) := hly
  have HHD : Hid (Sub T 0 (headR E.toNat se L.length 4 3)) := hly.head
  have HH : Hid (Sub T 64 (hdL L L.length)) := hly.hd
  have HDA : Hid (∀ j, j < L.length → Sub T (plc L j) (D j)) := fun j hj => sub_da hD L.length (Nat.le_refl _) hly.da j hj
  have HZ : Hid (∀ i, i < n → ¬ ((((((False ∨ (0 ≤ i ∧ i < 64)) ∨ DS L L.length i) ∨ (64 ≤ i ∧ i < 64 + 56 * L.length)) ∨ (tx + 1 ≤ i ∧ i < tx + 1 + nk N N.length)) ∨ (tb + 24 ≤ i ∧ i < tb + 24 + 24 * N.length)) ∨ (ow ≤ i ∧ i < ow + 27) ∨ (se + 64 ≤ i ∧ i < se + 256)) → T i = 0) := fun i hi q => by
    refine hly.rest hD h1 (by omega) (by omega) e4 i (by omega) (fun c => q ?_) (fun c => q ?_) (fun c => q ?_) (fun c => q ?_) (fun c => q ?_) (fun c => q ?_) (fun c => q ?_)
    · exact .inl (.inl (.inl (.inl (.inl (.inr ⟨Nat.zero_le _, c⟩)))))
    · exact .inl (.inl (.inl (.inr c)))
    · exact .inl (.inl (.inl (.inl (.inr c))))
    · exact .inl (.inl (.inr c))
    · exact .inl (.inr c)
    · exact .inr (.inl c)
    · exact .inr (.inr c)
  have HB : Hid (64 + 56 * L.length ≤ n ∧ 64 ≤ n ∧ tx = tb + (24 + 24 * N.length) ∧ ow = tx + (1 + nk N N.length) ∧ ow + 27 < n ∧ se + 256 = n ∧ tb + 24 + 24 * N.length ≤ n ∧ tx + 1 + nk N N.length < n ∧ se ≤ 1000000 ∧ n ≤ 200000) := by
    have := sk_lo L L.length
    unfold Hid
    omega
  have HPN : Hid (∀ j, j < L.length → plc L j + (sg L j).n ≤ n ∧ plc L j < n) := fun j hj => by
    have h1 := plc_le L L.length j hj
    have h2 := HB.out
    refine ⟨by omega, ?_⟩
    by_cases c : 0 < (sg L j).n
    · omega
    · unfold plc; rw [if_neg c]; omega
  have HFF : Hid (∀ j, j < L.length → 0 ≤ (sg L j).f ∧ (sg L j).f ≤ 7) := hff
  have HTT : Hid (∀ i, i < n → T i = FL.getD i 0) := fun i _ => by rw [hT]
  have HLEN : Hid (FL.length = n) := hlen
  rw [← hFL]
  have HI : Hid (Img w vs vn L N) := hi
  have HDT : Hid (Dta w L D) := hdt
  have HOW : Hid (w.ownsRow Bd 3 1 vd L.length (iv (pls L L.length))) := hd
  obtain ⟨sa, sc, rfl, _, _⟩ := hi.segs
  obtain ⟨na, nc, rfl, _, _⟩ := hi.syms
  have hmk := fun w => run_make_row' (P := Tryz.prog) 29 5 (.int .u8 0) 1 Tryz.underlying29 info5 rfl .i64 .i64 n (by omega) (by omega) w
  obtain ⟨f, hf⟩ : ∃ f, f = w.heap.size + 1 + 1 := ⟨_, rfl⟩
  have HF : Hid (f = w.heap.size + 1 + 1) := hf
  have HB2 : Hid (Below w.heap.size w ((w.alloc (.cells #[.int .u64 (n64 E), .slice sa L.length sc, .slice na N.length nc] 26)).alloc (.cells #[vd, .int .i64 tb, .int .i64 tx, .int .i64 ow, .int .i64 se, .int .i64 n] 50))) := ((Below.refl _ _).alloc (Nat.le_refl _) _).alloc (by simp) _
  have hs2 : ((w.alloc (.cells #[.int .u64 (n64 E), .slice sa L.length sc, .slice na N.length nc] 26)).alloc (.cells #[vd, .int .i64 tb, .int .i64 tx, .int .i64 ow, .int .i64 se, .int .i64 n] 50)).heap.size = w.heap.size + 1 + 1 := by simp
  have HS2 : Hid (f = ((w.alloc (.cells #[.int .u64 (n64 E), .slice sa L.length sc, .slice na N.length nc] 26)).alloc (.cells #[vd, .int .i64 tb, .int .i64 tx, .int .i64 ow, .int .i64 se, .int .i64 n] 50)).heap.size) := by unfold Hid; rw [hs2]; exact hf
  have hb3 : Below ((w.alloc (.cells #[.int .u64 (n64 E), .slice sa L.length sc, .slice na N.length nc] 26)).alloc (.cells #[vd, .int .i64 tb, .int .i64 tx, .int .i64 ow, .int .i64 se, .int .i64 n] 50)).heap.size ((w.alloc (.cells #[.int .u64 (n64 E), .slice sa L.length sc, .slice na N.length nc] 26)).alloc (.cells #[vd, .int .i64 tb, .int .i64 tx, .int .i64 ow, .int .i64 se, .int .i64 n] 50)) (((w.alloc (.cells #[.int .u64 (n64 E), .slice sa L.length sc, .slice na N.length nc] 26)).alloc (.cells #[vd, .int .i64 tb, .int .i64 tx, .int .i64 ow, .int .i64 se, .int .i64 n] 50)).alloc (.cells (madeCells #[.int .u8 0] n) 5)) := (Below.refl _ _).alloc (Nat.le_refl _) _
  have HB3 : Hid (Below f ((w.alloc (.cells #[.int .u64 (n64 E), .slice sa L.length sc, .slice na N.length nc] 26)).alloc (.cells #[vd, .int .i64 tb, .int .i64 tx, .int .i64 ow, .int .i64 se, .int .i64 n] 50)) (((w.alloc (.cells #[.int .u64 (n64 E), .slice sa L.length sc, .slice na N.length nc] 26)).alloc (.cells #[vd, .int .i64 tb, .int .i64 tx, .int .i64 ow, .int .i64 se, .int .i64 n] 50)).alloc (.cells (madeCells #[.int .u8 0] n) 5))) := by unfold Hid; rw [HS2.out]; exact hb3
  have k0 : Hid (Fl f n T [(w.heap.size + 1, #[vd, .int .i64 tb, .int .i64 tx, .int .i64 ow, .int .i64 se, .int .i64 n], 50), (w.heap.size, #[.int .u64 (n64 E), .slice sa L.length sc, .slice na N.length nc], 26)] (((w.alloc (.cells #[.int .u64 (n64 E), .slice sa L.length sc, .slice na N.length nc] 26)).alloc (.cells #[vd, .int .i64 tb, .int .i64 tx, .int .i64 ow, .int .i64 se, .int .i64 n] 50)).alloc (.cells (madeCells #[.int .u8 0] n) 5)) (fun _ => False) (((w.alloc (.cells #[.int .u64 (n64 E), .slice sa L.length sc, .slice na N.length nc] 26)).alloc (.cells #[vd, .int .i64 tb, .int .i64 tx, .int .i64 ow, .int .i64 se, .int .i64 n] 50)).alloc (.cells (madeCells #[.int .u8 0] n) 5))) := by
    refine ⟨fun x hx => ?_, ⟨madeCells #[.int .u8 0] n, size_madeCells _ _, ?_, fun i hi => ⟨fun h => h.elim, fun _ => made_get n i hi⟩⟩, Kp.refl _ _ _, ?_⟩
    · rcases List.mem_cons.1 hx with rfl | hx
      · exact ⟨by show ¬ w.heap.size + 1 = f; omega, (hb3.5 _ (by rw [hs2]; show w.heap.size + 1 < _; omega)).trans (heap_alloc2_new w _ _)⟩
      · rcases List.mem_cons.1 hx with rfl | hx
        · exact ⟨by show ¬ w.heap.size = f; omega, (hb3.5 _ (by rw [hs2]; show w.heap.size < _; omega)).trans (heap_alloc2_old w _ _)⟩
        · exact absurd hx (List.not_mem_nil)
    · rw [HS2.out]; exact heap_alloc_new _ _
    · rw [hf]; simp
  have HW3 : Hid (Below w.heap.size w (((w.alloc (.cells #[.int .u64 (n64 E), .slice sa L.length sc, .slice na N.length nc] 26)).alloc (.cells #[vd, .int .i64 tb, .int .i64 tx, .int .i64 ow, .int .i64 se, .int .i64 n] 50)).alloc (.cells (madeCells #[.int .u8 0] n) 5))) := HB2.out.trans (hb3.mono HB2.out.size)
  have HI2 : Hid (Img ((w.alloc (.cells #[.int .u64 (n64 E), .slice sa L.length sc, .slice na N.length nc] 26)).alloc (.cells #[vd, .int .i64 tb, .int .i64 tx, .int .i64 ow, .int .i64 se, .int .i64 n] 50)) (.slice sa L.length sc) (.slice na N.length nc) L N) := HI.out.later HB2.out rfl
  have HDT2 : Hid (Dta ((w.alloc (.cells #[.int .u64 (n64 E), .slice sa L.length sc, .slice na N.length nc] 26)).alloc (.cells #[vd, .int .i64 tb, .int .i64 tx, .int .i64 ow, .int .i64 se, .int .i64 n] 50)) L D) := HDT.out.later HB2.out
  have HOW2 : Hid (((w.alloc (.cells #[.int .u64 (n64 E), .slice sa L.length sc, .slice na N.length nc] 26)).alloc (.cells #[vd, .int .i64 tb, .int .i64 tx, .int .i64 ow, .int .i64 se, .int .i64 n] 50)).ownsRow Bd 3 1 vd L.length (iv (pls L L.length))) := own_later HOW.out HB2.out rfl
  clear hs2 hb3 hf
  have hI1 : (n : Int) ≤ 200000 := by omega
  have hI2 : (L.length : Int) ≤ 16 := by omega
  have hI3 : (N.length : Int) ≤ 400 := by omega
  have hI4 : (0 : Int) < (N.length : Int) := by omega
  have HN0 : Hid (0 < N.length) := hn0
  clear hn0 hn hi hdt hd hff hD hSub hT hFL hlen h4 hly hz hse ha e4 ht et hsk h1 h2 h3
  go_enter Tryz.func12, Tryz.ntmps12
  go_upto_region 2 with fail
  have HFe := HF.out
  rw [← HFe]
  clear HFe
  generalize (((w.alloc (.cells #[.int .u64 (n64 E), .slice sa L.length sc, .slice na N.length nc] 26)).alloc (.cells #[vd, .int .i64 tb, .int .i64 tx, .int .i64 ow, .int .i64 se, .int .i64 n] 50)).alloc (.cells (madeCells #[.int .u8 0] n) 5)) = W3 at *
  generalize ((w.alloc (.cells #[.int .u64 (n64 E), .slice sa L.length sc, .slice na N.length nc] 26)).alloc (.cells #[vd, .int .i64 tb, .int .i64 tx, .int .i64 ow, .int .i64 se, .int .i64 n] 50)) = W2 at *
  have i00 := cell_of_row W3 w.heap.size 0 _ _ _ (k0.out.bx (w.heap.size, #[.int .u64 (n64 E), .slice sa L.length sc, .slice na N.length nc], 26) (by simp)).2
  have i01 := cell_of_row W3 w.heap.size 1 _ _ _ (k0.out.bx (w.heap.size, #[.int .u64 (n64 E), .slice sa L.length sc, .slice na N.length nc], 26) (by simp)).2
  have i02 := cell_of_row W3 w.heap.size 2 _ _ _ (k0.out.bx (w.heap.size, #[.int .u64 (n64 E), .slice sa L.length sc, .slice na N.length nc], 26) (by simp)).2
  have p00 := cell_of_row W3 (w.heap.size + 1) 0 _ _ _ (k0.out.bx (w.heap.size + 1, #[vd, .int .i64 tb, .int .i64 tx, .int .i64 ow, .int .i64 se, .int .i64 n], 50) (by simp)).2
  have p01 := cell_of_row W3 (w.heap.size + 1) 1 _ _ _ (k0.out.bx (w.heap.size + 1, #[vd, .int .i64 tb, .int .i64 tx, .int .i64 ow, .int .i64 se, .int .i64 n], 50) (by simp)).2
  have p02 := cell_of_row W3 (w.heap.size + 1) 2 _ _ _ (k0.out.bx (w.heap.size + 1, #[vd, .int .i64 tb, .int .i64 tx, .int .i64 ow, .int .i64 se, .int .i64 n], 50) (by simp)).2
  have p03 := cell_of_row W3 (w.heap.size + 1) 3 _ _ _ (k0.out.bx (w.heap.size + 1, #[vd, .int .i64 tb, .int .i64 tx, .int .i64 ow, .int .i64 se, .int .i64 n], 50) (by simp)).2
  have p04 := cell_of_row W3 (w.heap.size + 1) 4 _ _ _ (k0.out.bx (w.heap.size + 1, #[vd, .int .i64 tb, .int .i64 tx, .int .i64 ow, .int .i64 se, .int .i64 n], 50) (by simp)).2
  have p05 := cell_of_row W3 (w.heap.size + 1) 5 _ _ _ (k0.out.bx (w.heap.size + 1, #[vd, .int .i64 tb, .int .i64 tx, .int .i64 ow, .int .i64 se, .int .i64 n], 50) (by simp)).2
  go_upto_region 3 with (go_at_call 21; refine (whead_a f n E sa na L.length sc N.length nc vd tb tx ow se n T _ W3 k0.out.fil (by omega) (by have := HB.out; omega) hL (by have := HN0.out; omega) (by have := HB.out; omega) HHD.out).mono ?_; rintro e w4 ⟨rfl, h1, h2⟩; have k1 : Hid (Fl f n T [(w.heap.size + 1, #[vd, .int .i64 tb, .int .i64 tx, .int .i64 ow, .int .i64 se, .int .i64 n], 50), (w.heap.size, #[.int .u64 (n64 E), .slice sa L.length sc, .slice na N.length nc], 26)] W3 (fun i => False ∨ (0 ≤ i ∧ i < 64)) w4) := (k0.out.next h1 h2); clear h1 h2; have i10 := cell_of_row w4 w.heap.size 0 _ _ _ (k1.out.bx (w.heap.size, #[.int .u64 (n64 E), .slice sa L.length sc, .slice na N.length nc], 26) (by simp)).2; have i11 := cell_of_row w4 w.heap.size 1 _ _ _ (k1.out.bx (w.heap.size, #[.int .u64 (n64 E), .slice sa L.length sc, .slice na N.length nc], 26) (by simp)).2; have i12 := cell_of_row w4 w.heap.size 2 _ _ _ (k1.out.bx (w.heap.size, #[.int .u64 (n64 E), .slice sa L.length sc, .slice na N.length nc], 26) (by simp)).2; have p10 := cell_of_row w4 (w.heap.size + 1) 0 _ _ _ (k1.out.bx (w.heap.size + 1, #[vd, .int .i64 tb, .int .i64 tx, .int .i64 ow, .int .i64 se, .int .i64 n], 50) (by simp)).2; have p11 := cell_of_row w4 (w.heap.size + 1) 1 _ _ _ (k1.out.bx (w.heap.size + 1, #[vd, .int .i64 tb, .int .i64 tx, .int .i64 ow, .int .i64 se, .int .i64 n], 50) (by simp)).2; have p12 := cell_of_row w4 (w.heap.size + 1) 2 _ _ _ (k1.out.bx (w.heap.size + 1, #[vd, .int .i64 tb, .int .i64 tx, .int .i64 ow, .int .i64 se, .int .i64 n], 50) (by simp)).2; have p13 := cell_of_row w4 (w.heap.size + 1) 3 _ _ _ (k1.out.bx (w.heap.size + 1, #[vd, .int .i64 tb, .int .i64 tx, .int .i64 ow, .int .i64 se, .int .i64 n], 50) (by simp)).2; have p14 := cell_of_row w4 (w.heap.size + 1) 4 _ _ _ (k1.out.bx (w.heap.size + 1, #[vd, .int .i64 tb, .int .i64 tx, .int .i64 ow, .int .i64 se, .int .i64 n], 50) (by simp)).2; have p15 := cell_of_row w4 (w.heap.size + 1) 5 _ _ _ (k1.out.bx (w.heap.size + 1, #[vd, .int .i64 tb, .int .i64 tx, .int .i64 ow, .int .i64 se, .int .i64 n], 50) (by simp)).2)
  go_upto_region 4 with (go_at_call 22; refine (wparts_c f n (.slice sa L.length sc) vd L D tb tx ow se n T _ W2 w4 HS2.out (HB3.out.trans k1.out.below) HI2.out.segs HDT2.out Bd HOW2.out k1.out.fil (by omega) hL HFF.out (by have := HB.out; omega) HPN.out HH.out HDA.out).mono ?_; rintro e w5 ⟨rfl, h1, h2⟩; have k2 : Hid (Fl f n T [(w.heap.size + 1, #[vd, .int .i64 tb, .int .i64 tx, .int .i64 ow, .int .i64 se, .int .i64 n], 50), (w.heap.size, #[.int .u64 (n64 E), .slice sa L.length sc, .slice na N.length nc], 26)] W3 (fun i => ((False ∨ (0 ≤ i ∧ i < 64)) ∨ DS L L.length i) ∨ (64 ≤ i ∧ i < 64 + 56 * L.length)) w5) := (k1.out.next h1 h2); clear h1 h2; have i20 := cell_of_row w5 w.heap.size 0 _ _ _ (k2.out.bx (w.heap.size, #[.int .u64 (n64 E), .slice sa L.length sc, .slice na N.length nc], 26) (by simp)).2; have i21 := cell_of_row w5 w.heap.size 1 _ _ _ (k2.out.bx (w.heap.size, #[.int .u64 (n64 E), .slice sa L.length sc, .slice na N.length nc], 26) (by simp)).2; have i22 := cell_of_row w5 w.heap.size 2 _ _ _ (k2.out.bx (w.heap.size, #[.int .u64 (n64 E), .slice sa L.length sc, .slice na N.length nc], 26) (by simp)).2; have p20 := cell_of_row w5 (w.heap.size + 1) 0 _ _ _ (k2.out.bx (w.heap.size + 1, #[vd, .int .i64 tb, .int .i64 tx, .int .i64 ow, .int .i64 se, .int .i64 n], 50) (by simp)).2; have p21 := cell_of_row w5 (w.heap.size + 1) 1 _ _ _ (k2.out.bx (w.heap.size + 1, #[vd, .int .i64 tb, .int .i64 tx, .int .i64 ow, .int .i64 se, .int .i64 n], 50) (by simp)).2; have p22 := cell_of_row w5 (w.heap.size + 1) 2 _ _ _ (k2.out.bx (w.heap.size + 1, #[vd, .int .i64 tb, .int .i64 tx, .int .i64 ow, .int .i64 se, .int .i64 n], 50) (by simp)).2; have p23 := cell_of_row w5 (w.heap.size + 1) 3 _ _ _ (k2.out.bx (w.heap.size + 1, #[vd, .int .i64 tb, .int .i64 tx, .int .i64 ow, .int .i64 se, .int .i64 n], 50) (by simp)).2; have p24 := cell_of_row w5 (w.heap.size + 1) 4 _ _ _ (k2.out.bx (w.heap.size + 1, #[vd, .int .i64 tb, .int .i64 tx, .int .i64 ow, .int .i64 se, .int .i64 n], 50) (by simp)).2; have p25 := cell_of_row w5 (w.heap.size + 1) 5 _ _ _ (k2.out.bx (w.heap.size + 1, #[vd, .int .i64 tb, .int .i64 tx, .int .i64 ow, .int .i64 se, .int .i64 n], 50) (by simp)).2)
  go_upto_region 6 with (go_at_call 23; refine (wnames_c f n (.slice na N.length nc) vd N tb tx ow se n T _ W2 w5 HS2.out (HB3.out.trans k2.out.below) HI2.out.syms k2.out.fil (by omega) hN (by have := HB.out; omega) HLY.out.tab HLY.out.txt).mono ?_; rintro e w6 ⟨rfl, h1, h2⟩; have k3 : Hid (Fl f n T [(w.heap.size + 1, #[vd, .int .i64 tb, .int .i64 tx, .int .i64 ow, .int .i64 se, .int .i64 n], 50), (w.heap.size, #[.int .u64 (n64 E), .slice sa L.length sc, .slice na N.length nc], 26)] W3 (fun i => ((((False ∨ (0 ≤ i ∧ i < 64)) ∨ DS L L.length i) ∨ (64 ≤ i ∧ i < 64 + 56 * L.length)) ∨ (tx + 1 ≤ i ∧ i < tx + 1 + nk N N.length)) ∨ (tb + 24 ≤ i ∧ i < tb + 24 + 24 * N.length)) w6) := (k2.out.next h1 h2); clear h1 h2; have i30 := cell_of_row w6 w.heap.size 0 _ _ _ (k3.out.bx (w.heap.size, #[.int .u64 (n64 E), .slice sa L.length sc, .slice na N.length nc], 26) (by simp)).2; have i31 := cell_of_row w6 w.heap.size 1 _ _ _ (k3.out.bx (w.heap.size, #[.int .u64 (n64 E), .slice sa L.length sc, .slice na N.length nc], 26) (by simp)).2; have i32 := cell_of_row w6 w.heap.size 2 _ _ _ (k3.out.bx (w.heap.size, #[.int .u64 (n64 E), .slice sa L.length sc, .slice na N.length nc], 26) (by simp)).2; have p30 := cell_of_row w6 (w.heap.size + 1) 0 _ _ _ (k3.out.bx (w.heap.size + 1, #[vd, .int .i64 tb, .int .i64 tx, .int .i64 ow, .int .i64 se, .int .i64 n], 50) (by simp)).2; have p31 := cell_of_row w6 (w.heap.size + 1) 1 _ _ _ (k3.out.bx (w.heap.size + 1, #[vd, .int .i64 tb, .int .i64 tx, .int .i64 ow, .int .i64 se, .int .i64 n], 50) (by simp)).2; have p32 := cell_of_row w6 (w.heap.size + 1) 2 _ _ _ (k3.out.bx (w.heap.size + 1, #[vd, .int .i64 tb, .int .i64 tx, .int .i64 ow, .int .i64 se, .int .i64 n], 50) (by simp)).2; have p33 := cell_of_row w6 (w.heap.size + 1) 3 _ _ _ (k3.out.bx (w.heap.size + 1, #[vd, .int .i64 tb, .int .i64 tx, .int .i64 ow, .int .i64 se, .int .i64 n], 50) (by simp)).2; have p34 := cell_of_row w6 (w.heap.size + 1) 4 _ _ _ (k3.out.bx (w.heap.size + 1, #[vd, .int .i64 tb, .int .i64 tx, .int .i64 ow, .int .i64 se, .int .i64 n], 50) (by simp)).2; have p35 := cell_of_row w6 (w.heap.size + 1) 5 _ _ _ (k3.out.bx (w.heap.size + 1, #[vd, .int .i64 tb, .int .i64 tx, .int .i64 ow, .int .i64 se, .int .i64 n], 50) (by simp)).2)
  go_upto_region 7 with (go_at_call 24; refine (wsec_c f n vd tb tx ow se n (24 + 24 * N.length) (1 + nk N N.length) T _ w6 k3.out.fil (by omega) (by have := HB.out; omega) (by have := HB.out; omega) (by have := HB.out; omega) HLY.out.own HLY.out.sec).mono ?_; rintro e w7 ⟨rfl, h1, h2⟩; have k4 : Hid (Fl f n T [(w.heap.size + 1, #[vd, .int .i64 tb, .int .i64 tx, .int .i64 ow, .int .i64 se, .int .i64 n], 50), (w.heap.size, #[.int .u64 (n64 E), .slice sa L.length sc, .slice na N.length nc], 26)] W3 (fun i => ((((((False ∨ (0 ≤ i ∧ i < 64)) ∨ DS L L.length i) ∨ (64 ≤ i ∧ i < 64 + 56 * L.length)) ∨ (tx + 1 ≤ i ∧ i < tx + 1 + nk N N.length)) ∨ (tb + 24 ≤ i ∧ i < tb + 24 + 24 * N.length)) ∨ (ow ≤ i ∧ i < ow + 27)) ∨ (se + 64 ≤ i ∧ i < se + 256)) w7) := (k3.out.next h1 h2); clear h1 h2; have i40 := cell_of_row w7 w.heap.size 0 _ _ _ (k4.out.bx (w.heap.size, #[.int .u64 (n64 E), .slice sa L.length sc, .slice na N.length nc], 26) (by simp)).2; have i41 := cell_of_row w7 w.heap.size 1 _ _ _ (k4.out.bx (w.heap.size, #[.int .u64 (n64 E), .slice sa L.length sc, .slice na N.length nc], 26) (by simp)).2; have i42 := cell_of_row w7 w.heap.size 2 _ _ _ (k4.out.bx (w.heap.size, #[.int .u64 (n64 E), .slice sa L.length sc, .slice na N.length nc], 26) (by simp)).2; have p40 := cell_of_row w7 (w.heap.size + 1) 0 _ _ _ (k4.out.bx (w.heap.size + 1, #[vd, .int .i64 tb, .int .i64 tx, .int .i64 ow, .int .i64 se, .int .i64 n], 50) (by simp)).2; have p41 := cell_of_row w7 (w.heap.size + 1) 1 _ _ _ (k4.out.bx (w.heap.size + 1, #[vd, .int .i64 tb, .int .i64 tx, .int .i64 ow, .int .i64 se, .int .i64 n], 50) (by simp)).2; have p42 := cell_of_row w7 (w.heap.size + 1) 2 _ _ _ (k4.out.bx (w.heap.size + 1, #[vd, .int .i64 tb, .int .i64 tx, .int .i64 ow, .int .i64 se, .int .i64 n], 50) (by simp)).2; have p43 := cell_of_row w7 (w.heap.size + 1) 3 _ _ _ (k4.out.bx (w.heap.size + 1, #[vd, .int .i64 tb, .int .i64 tx, .int .i64 ow, .int .i64 se, .int .i64 n], 50) (by simp)).2; have p44 := cell_of_row w7 (w.heap.size + 1) 4 _ _ _ (k4.out.bx (w.heap.size + 1, #[vd, .int .i64 tb, .int .i64 tx, .int .i64 ow, .int .i64 se, .int .i64 n], 50) (by simp)).2; have p45 := cell_of_row w7 (w.heap.size + 1) 5 _ _ _ (k4.out.bx (w.heap.size + 1, #[vd, .int .i64 tb, .int .i64 tx, .int .i64 ow, .int .i64 se, .int .i64 n], 50) (by simp)).2)
  go_wp2
  --@CUT
  go_ret
  refine ⟨f, by have := HF.out; omega, rfl, k4.out.fil.byo FL HLEN.out (fun i hi q => HZ.out i hi (fun c => q ?_)) HTT.out, HW3.out.trans (k4.out.below.mono (by have := HF.out; omega))⟩
  rcases c with (((c | c) | c) | c)
  · exact .inl (.inl (.inl (.inl c)))
  · exact .inl (.inl (.inl (.inr c)))
  · exact .inl (.inl (.inr c))
  · rcases c with c | c
    · exact .inl (.inr c)
    · exact .inr c
set_option maxRecDepth 100000 in
set_option maxHeartbeats 4000000 in
theorem wfile_z (E : BitVec 64) (vs vn vd : Value) (L : List Sg) (N : List Sy) (D : Nat → List Int) (tb tx ow se n : Nat) (w : World) (hi : Img w vs vn L N) (hdt : Dta w L D) (Bd : Nat) (hd : w.ownsRow Bd 3 1 vd L.length (iv (pls L L.length))) (hL : L.length ≤ 16) (hN : N.length ≤ 400) (hn0 : N.length = 0) (hff : ∀ j, j < L.length → 0 ≤ (sg L j).f ∧ (sg L j).f ≤ 7) (hn : n = szz L N) (hnb : n ≤ 200000) (h4 : se = 0) :
    Calls Tryz.prog 12 #[.agg #[.int .u64 (n64 E), vs, vn], .agg #[vd, .int .i64 tb, .int .i64 tx, .int .i64 ow, .int .i64 se, .int .i64 n]] w fun e w' => ∃ f, w.heap.size ≤ f ∧ e = .returned (.slice (some ⟨f, 0, none⟩) n n) ∧ Byo w' f n (flZ E.toNat L D) ∧ Below w.heap.size w w' := by
  obtain ⟨FL, hFL⟩ : ∃ FL, FL = flZ E.toNat L D := ⟨_, rfl⟩
  have hD : ∀ j, j < L.length → (D j).length = (sg L j).n := fun j hj => (hdt j hj).1
  obtain ⟨T, hT⟩ : ∃ T : Nat → Int, T = fun i => FL.getD i 0 := ⟨_, rfl⟩
  have hSub : Sub T 0 FL := fun i _ => by rw [hT, Nat.zero_add]
  have hlen : FL.length = n := by rw [hFL, hn]; unfold szz; rw [if_pos hn0]; exact flZ_length hD
  have hsk : n = sk L L.length := by rw [hn]; unfold szz; rw [if_pos hn0]
  have hF0 := hSub
  rw [hFL] at hF0
  unfold flZ at hF0
  have q1 := hF0.left
  have hF1 := hF0.right
  rw [headL_length] at hF1
  have q2 := hF1.left
  have hF2 := hF1.right
  rw [hdL_length] at hF2
  have q3 := hF2.at (show 0 + 64 + 56 * L.length = 64 + 56 * L.length by omega)
  have HHD : Hid (Sub T 0 (headR E.toNat se L.length 0 0)) := by unfold Hid; rw [head_eq, h4]; exact q1
  have HH : Hid (Sub T 64 (hdL L L.length)) := q2
  have HDA : Hid (∀ j, j < L.length → Sub T (plc L j) (D j)) := fun j hj => sub_da hD L.length (Nat.le_refl _) q3 j hj
  have HZ : Hid (∀ i, i < n → ¬ (((False ∨ (0 ≤ i ∧ i < 64)) ∨ DS L L.length i) ∨ (64 ≤ i ∧ i < 64 + 56 * L.length)) → T i = 0) := fun i hi q => by
    refine gap_da hD L.length (Nat.le_refl _) q3 i ?_ (by omega) (fun c => q (.inl (.inr c)))
    refine Nat.le_of_not_lt (fun c => q ?_)
    by_cases c2 : i < 64
    · exact .inl (.inl (.inr ⟨Nat.zero_le _, c2⟩))
    · exact .inr ⟨by omega, c⟩
  have HB : Hid (64 + 56 * L.length ≤ n ∧ 64 ≤ n ∧ se ≤ 1000000 ∧ n ≤ 200000) := by
    have := sk_lo L L.length
    unfold Hid
    omega
  have HPN : Hid (∀ j, j < L.length → plc L j + (sg L j).n ≤ n ∧ plc L j < n) := fun j hj => by
    have h1 := plc_le L L.length j hj
    have h2 := HB.out
    refine ⟨by omega, ?_⟩
    by_cases c : 0 < (sg L j).n
    · omega
    · unfold plc; rw [if_neg c]; omega
  have HFF : Hid (∀ j, j < L.length → 0 ≤ (sg L j).f ∧ (sg L j).f ≤ 7) := hff
  have HTT : Hid (∀ i, i < n → T i = FL.getD i 0) := fun i _ => by rw [hT]
  have HLEN : Hid (FL.length = n) := hlen
  rw [← hFL]
  have HI : Hid (Img w vs vn L N) := hi
  have HDT : Hid (Dta w L D) := hdt
  have HOW : Hid (w.ownsRow Bd 3 1 vd L.length (iv (pls L L.length))) := hd
  obtain ⟨sa, sc, rfl, _, _⟩ := hi.segs
  obtain ⟨na, nc, rfl, _, _⟩ := hi.syms
  have hmk := fun w => run_make_row' (P := Tryz.prog) 29 5 (.int .u8 0) 1 Tryz.underlying29 info5 rfl .i64 .i64 n (by omega) (by omega) w
  obtain ⟨f, hf⟩ : ∃ f, f = w.heap.size + 1 + 1 := ⟨_, rfl⟩
  have HF : Hid (f = w.heap.size + 1 + 1) := hf
  have HB2 : Hid (Below w.heap.size w ((w.alloc (.cells #[.int .u64 (n64 E), .slice sa L.length sc, .slice na N.length nc] 26)).alloc (.cells #[vd, .int .i64 tb, .int .i64 tx, .int .i64 ow, .int .i64 se, .int .i64 n] 50))) := ((Below.refl _ _).alloc (Nat.le_refl _) _).alloc (by simp) _
  have hs2 : ((w.alloc (.cells #[.int .u64 (n64 E), .slice sa L.length sc, .slice na N.length nc] 26)).alloc (.cells #[vd, .int .i64 tb, .int .i64 tx, .int .i64 ow, .int .i64 se, .int .i64 n] 50)).heap.size = w.heap.size + 1 + 1 := by simp
  have HS2 : Hid (f = ((w.alloc (.cells #[.int .u64 (n64 E), .slice sa L.length sc, .slice na N.length nc] 26)).alloc (.cells #[vd, .int .i64 tb, .int .i64 tx, .int .i64 ow, .int .i64 se, .int .i64 n] 50)).heap.size) := by unfold Hid; rw [hs2]; exact hf
  have hb3 : Below ((w.alloc (.cells #[.int .u64 (n64 E), .slice sa L.length sc, .slice na N.length nc] 26)).alloc (.cells #[vd, .int .i64 tb, .int .i64 tx, .int .i64 ow, .int .i64 se, .int .i64 n] 50)).heap.size ((w.alloc (.cells #[.int .u64 (n64 E), .slice sa L.length sc, .slice na N.length nc] 26)).alloc (.cells #[vd, .int .i64 tb, .int .i64 tx, .int .i64 ow, .int .i64 se, .int .i64 n] 50)) (((w.alloc (.cells #[.int .u64 (n64 E), .slice sa L.length sc, .slice na N.length nc] 26)).alloc (.cells #[vd, .int .i64 tb, .int .i64 tx, .int .i64 ow, .int .i64 se, .int .i64 n] 50)).alloc (.cells (madeCells #[.int .u8 0] n) 5)) := (Below.refl _ _).alloc (Nat.le_refl _) _
  have HB3 : Hid (Below f ((w.alloc (.cells #[.int .u64 (n64 E), .slice sa L.length sc, .slice na N.length nc] 26)).alloc (.cells #[vd, .int .i64 tb, .int .i64 tx, .int .i64 ow, .int .i64 se, .int .i64 n] 50)) (((w.alloc (.cells #[.int .u64 (n64 E), .slice sa L.length sc, .slice na N.length nc] 26)).alloc (.cells #[vd, .int .i64 tb, .int .i64 tx, .int .i64 ow, .int .i64 se, .int .i64 n] 50)).alloc (.cells (madeCells #[.int .u8 0] n) 5))) := by unfold Hid; rw [HS2.out]; exact hb3
  have k0 : Hid (Fl f n T [(w.heap.size + 1, #[vd, .int .i64 tb, .int .i64 tx, .int .i64 ow, .int .i64 se, .int .i64 n], 50), (w.heap.size, #[.int .u64 (n64 E), .slice sa L.length sc, .slice na N.length nc], 26)] (((w.alloc (.cells #[.int .u64 (n64 E), .slice sa L.length sc, .slice na N.length nc] 26)).alloc (.cells #[vd, .int .i64 tb, .int .i64 tx, .int .i64 ow, .int .i64 se, .int .i64 n] 50)).alloc (.cells (madeCells #[.int .u8 0] n) 5)) (fun _ => False) (((w.alloc (.cells #[.int .u64 (n64 E), .slice sa L.length sc, .slice na N.length nc] 26)).alloc (.cells #[vd, .int .i64 tb, .int .i64 tx, .int .i64 ow, .int .i64 se, .int .i64 n] 50)).alloc (.cells (madeCells #[.int .u8 0] n) 5))) := by
    refine ⟨fun x hx => ?_, ⟨madeCells #[.int .u8 0] n, size_madeCells _ _, ?_, fun i hi => ⟨fun h => h.elim, fun _ => made_get n i hi⟩⟩, Kp.refl _ _ _, ?_⟩
    · rcases List.mem_cons.1 hx with rfl | hx
      · exact ⟨by show ¬ w.heap.size + 1 = f; omega, (hb3.5 _ (by rw [hs2]; show w.heap.size + 1 < _; omega)).trans (heap_alloc2_new w _ _)⟩
      · rcases List.mem_cons.1 hx with rfl | hx
        · exact ⟨by show ¬ w.heap.size = f; omega, (hb3.5 _ (by rw [hs2]; show w.heap.size < _; omega)).trans (heap_alloc2_old w _ _)⟩
        · exact absurd hx (List.not_mem_nil)
    · rw [HS2.out]; exact heap_alloc_new _ _
    · rw [hf]; simp
  have HW3 : Hid (Below w.heap.size w (((w.alloc (.cells #[.int .u64 (n64 E), .slice sa L.length sc, .slice na N.length nc] 26)).alloc (.cells #[vd, .int .i64 tb, .int .i64 tx, .int .i64 ow, .int .i64 se, .int .i64 n] 50)).alloc (.cells (madeCells #[.int .u8 0] n) 5))) := HB2.out.trans (hb3.mono HB2.out.size)
  have HI2 : Hid (Img ((w.alloc (.cells #[.int .u64 (n64 E), .slice sa L.length sc, .slice na N.length nc] 26)).alloc (.cells #[vd, .int .i64 tb, .int .i64 tx, .int .i64 ow, .int .i64 se, .int .i64 n] 50)) (.slice sa L.length sc) (.slice na N.length nc) L N) := HI.out.later HB2.out rfl
  have HDT2 : Hid (Dta ((w.alloc (.cells #[.int .u64 (n64 E), .slice sa L.length sc, .slice na N.length nc] 26)).alloc (.cells #[vd, .int .i64 tb, .int .i64 tx, .int .i64 ow, .int .i64 se, .int .i64 n] 50)) L D) := HDT.out.later HB2.out
  have HOW2 : Hid (((w.alloc (.cells #[.int .u64 (n64 E), .slice sa L.length sc, .slice na N.length nc] 26)).alloc (.cells #[vd, .int .i64 tb, .int .i64 tx, .int .i64 ow, .int .i64 se, .int .i64 n] 50)).ownsRow Bd 3 1 vd L.length (iv (pls L L.length))) := own_later HOW.out HB2.out rfl
  clear hs2 hb3 hf
  have hI1 : (n : Int) ≤ 200000 := by omega
  have hI2 : (L.length : Int) ≤ 16 := by omega
  have hI3 : (N.length : Int) ≤ 400 := by omega
  have hI4 : ¬ (0 : Int) < (N.length : Int) := by omega
  have HN0 : Hid (N.length = 0) := hn0
  clear hn0 hn hi hdt hd hff hD hSub hT hFL hlen h4 hsk hF0 q1 hF1 q2 hF2 q3
  go_enter Tryz.func12, Tryz.ntmps12
  go_upto_region 2 with fail
  have HFe := HF.out
  rw [← HFe]
  clear HFe
  generalize (((w.alloc (.cells #[.int .u64 (n64 E), .slice sa L.length sc, .slice na N.length nc] 26)).alloc (.cells #[vd, .int .i64 tb, .int .i64 tx, .int .i64 ow, .int .i64 se, .int .i64 n] 50)).alloc (.cells (madeCells #[.int .u8 0] n) 5)) = W3 at *
  generalize ((w.alloc (.cells #[.int .u64 (n64 E), .slice sa L.length sc, .slice na N.length nc] 26)).alloc (.cells #[vd, .int .i64 tb, .int .i64 tx, .int .i64 ow, .int .i64 se, .int .i64 n] 50)) = W2 at *
  have i00 := cell_of_row W3 w.heap.size 0 _ _ _ (k0.out.bx (w.heap.size, #[.int .u64 (n64 E), .slice sa L.length sc, .slice na N.length nc], 26) (by simp)).2
  have i01 := cell_of_row W3 w.heap.size 1 _ _ _ (k0.out.bx (w.heap.size, #[.int .u64 (n64 E), .slice sa L.length sc, .slice na N.length nc], 26) (by simp)).2
  have i02 := cell_of_row W3 w.heap.size 2 _ _ _ (k0.out.bx (w.heap.size, #[.int .u64 (n64 E), .slice sa L.length sc, .slice na N.length nc], 26) (by simp)).2
  have p00 := cell_of_row W3 (w.heap.size + 1) 0 _ _ _ (k0.out.bx (w.heap.size + 1, #[vd, .int .i64 tb, .int .i64 tx, .int .i64 ow, .int .i64 se, .int .i64 n], 50) (by simp)).2
  have p01 := cell_of_row W3 (w.heap.size + 1) 1 _ _ _ (k0.out.bx (w.heap.size + 1, #[vd, .int .i64 tb, .int .i64 tx, .int .i64 ow, .int .i64 se, .int .i64 n], 50) (by simp)).2
  have p02 := cell_of_row W3 (w.heap.size + 1) 2 _ _ _ (k0.out.bx (w.heap.size + 1, #[vd, .int .i64 tb, .int .i64 tx, .int .i64 ow, .int .i64 se, .int .i64 n], 50) (by simp)).2
  have p03 := cell_of_row W3 (w.heap.size + 1) 3 _ _ _ (k0.out.bx (w.heap.size + 1, #[vd, .int .i64 tb, .int .i64 tx, .int .i64 ow, .int .i64 se, .int .i64 n], 50) (by simp)).2
  have p04 := cell_of_row W3 (w.heap.size + 1) 4 _ _ _ (k0.out.bx (w.heap.size + 1, #[vd, .int .i64 tb, .int .i64 tx, .int .i64 ow, .int .i64 se, .int .i64 n], 50) (by simp)).2
  have p05 := cell_of_row W3 (w.heap.size + 1) 5 _ _ _ (k0.out.bx (w.heap.size + 1, #[vd, .int .i64 tb, .int .i64 tx, .int .i64 ow, .int .i64 se, .int .i64 n], 50) (by simp)).2
  go_upto_region 3 with (go_at_call 21; refine (whead_z f n E sa na L.length sc N.length nc vd tb tx ow se n T _ W3 k0.out.fil (by omega) (by have := HB.out; omega) hL (by have := HN0.out; omega) (by have := HB.out; omega) HHD.out).mono ?_; rintro e w4 ⟨rfl, h1, h2⟩; have k1 : Hid (Fl f n T [(w.heap.size + 1, #[vd, .int .i64 tb, .int .i64 tx, .int .i64 ow, .int .i64 se, .int .i64 n], 50), (w.heap.size, #[.int .u64 (n64 E), .slice sa L.length sc, .slice na N.length nc], 26)] W3 (fun i => False ∨ (0 ≤ i ∧ i < 64)) w4) := (k0.out.next h1 h2); clear h1 h2; have i10 := cell_of_row w4 w.heap.size 0 _ _ _ (k1.out.bx (w.heap.size, #[.int .u64 (n64 E), .slice sa L.length sc, .slice na N.length nc], 26) (by simp)).2; have i11 := cell_of_row w4 w.heap.size 1 _ _ _ (k1.out.bx (w.heap.size, #[.int .u64 (n64 E), .slice sa L.length sc, .slice na N.length nc], 26) (by simp)).2; have i12 := cell_of_row w4 w.heap.size 2 _ _ _ (k1.out.bx (w.heap.size, #[.int .u64 (n64 E), .slice sa L.length sc, .slice na N.length nc], 26) (by simp)).2; have p10 := cell_of_row w4 (w.heap.size + 1) 0 _ _ _ (k1.out.bx (w.heap.size + 1, #[vd, .int .i64 tb, .int .i64 tx, .int .i64 ow, .int .i64 se, .int .i64 n], 50) (by simp)).2; have p11 := cell_of_row w4 (w.heap.size + 1) 1 _ _ _ (k1.out.bx (w.heap.size + 1, #[vd, .int .i64 tb, .int .i64 tx, .int .i64 ow, .int .i64 se, .int .i64 n], 50) (by simp)).2; have p12 := cell_of_row w4 (w.heap.size + 1) 2 _ _ _ (k1.out.bx (w.heap.size + 1, #[vd, .int .i64 tb, .int .i64 tx, .int .i64 ow, .int .i64 se, .int .i64 n], 50) (by simp)).2; have p13 := cell_of_row w4 (w.heap.size + 1) 3 _ _ _ (k1.out.bx (w.heap.size + 1, #[vd, .int .i64 tb, .int .i64 tx, .int .i64 ow, .int .i64 se, .int .i64 n], 50) (by simp)).2; have p14 := cell_of_row w4 (w.heap.size + 1) 4 _ _ _ (k1.out.bx (w.heap.size + 1, #[vd, .int .i64 tb, .int .i64 tx, .int .i64 ow, .int .i64 se, .int .i64 n], 50) (by simp)).2; have p15 := cell_of_row w4 (w.heap.size + 1) 5 _ _ _ (k1.out.bx (w.heap.size + 1, #[vd, .int .i64 tb, .int .i64 tx, .int .i64 ow, .int .i64 se, .int .i64 n], 50) (by simp)).2)
  go_upto_region 4 with (go_at_call 22; refine (wparts_c f n (.slice sa L.length sc) vd L D tb tx ow se n T _ W2 w4 HS2.out (HB3.out.trans k1.out.below) HI2.out.segs HDT2.out Bd HOW2.out k1.out.fil (by omega) hL HFF.out (by have := HB.out; omega) HPN.out HH.out HDA.out).mono ?_; rintro e w5 ⟨rfl, h1, h2⟩; have k2 : Hid (Fl f n T [(w.heap.size + 1, #[vd, .int .i64 tb, .int .i64 tx, .int .i64 ow, .int .i64 se, .int .i64 n], 50), (w.heap.size, #[.int .u64 (n64 E), .slice sa L.length sc, .slice na N.length nc], 26)] W3 (fun i => ((False ∨ (0 ≤ i ∧ i < 64)) ∨ DS L L.length i) ∨ (64 ≤ i ∧ i < 64 + 56 * L.length)) w5) := (k1.out.next h1 h2); clear h1 h2; have i20 := cell_of_row w5 w.heap.size 0 _ _ _ (k2.out.bx (w.heap.size, #[.int .u64 (n64 E), .slice sa L.length sc, .slice na N.length nc], 26) (by simp)).2; have i21 := cell_of_row w5 w.heap.size 1 _ _ _ (k2.out.bx (w.heap.size, #[.int .u64 (n64 E), .slice sa L.length sc, .slice na N.length nc], 26) (by simp)).2; have i22 := cell_of_row w5 w.heap.size 2 _ _ _ (k2.out.bx (w.heap.size, #[.int .u64 (n64 E), .slice sa L.length sc, .slice na N.length nc], 26) (by simp)).2; have p20 := cell_of_row w5 (w.heap.size + 1) 0 _ _ _ (k2.out.bx (w.heap.size + 1, #[vd, .int .i64 tb, .int .i64 tx, .int .i64 ow, .int .i64 se, .int .i64 n], 50) (by simp)).2; have p21 := cell_of_row w5 (w.heap.size + 1) 1 _ _ _ (k2.out.bx (w.heap.size + 1, #[vd, .int .i64 tb, .int .i64 tx, .int .i64 ow, .int .i64 se, .int .i64 n], 50) (by simp)).2; have p22 := cell_of_row w5 (w.heap.size + 1) 2 _ _ _ (k2.out.bx (w.heap.size + 1, #[vd, .int .i64 tb, .int .i64 tx, .int .i64 ow, .int .i64 se, .int .i64 n], 50) (by simp)).2; have p23 := cell_of_row w5 (w.heap.size + 1) 3 _ _ _ (k2.out.bx (w.heap.size + 1, #[vd, .int .i64 tb, .int .i64 tx, .int .i64 ow, .int .i64 se, .int .i64 n], 50) (by simp)).2; have p24 := cell_of_row w5 (w.heap.size + 1) 4 _ _ _ (k2.out.bx (w.heap.size + 1, #[vd, .int .i64 tb, .int .i64 tx, .int .i64 ow, .int .i64 se, .int .i64 n], 50) (by simp)).2; have p25 := cell_of_row w5 (w.heap.size + 1) 5 _ _ _ (k2.out.bx (w.heap.size + 1, #[vd, .int .i64 tb, .int .i64 tx, .int .i64 ow, .int .i64 se, .int .i64 n], 50) (by simp)).2)
  go_wp2
  --@CUT
  go_ret
  exact ⟨f, by have := HF.out; omega, rfl, k2.out.fil.byo FL HLEN.out HZ.out HTT.out, HW3.out.trans (k2.out.below.mono (by have := HF.out; omega))⟩
end Go.Proofs.YtopddflnahfomaaGreatDoor
