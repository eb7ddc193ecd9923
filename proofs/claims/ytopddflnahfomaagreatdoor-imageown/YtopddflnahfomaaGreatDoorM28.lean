/-
  Iwm.
-/
import Derived.Test.YtopddflnahfomaaGreatDoorM27
namespace Go.Proofs.YtopddflnahfomaaGreatDoor
set_option linter.unusedVariables false
open Go.ChangeShapes Go.WideShapes Go.ChangeAt Go.RowKit Go.Deep
theorem zs_get (m i : Nat) : (zs m).getD i 0 = 0 := by
  unfold zs
  rw [List.getD_eq_getElem?_getD, List.getElem?_replicate]
  split <;> rfl
theorem Pn.jump {f n : Nat} {T : Nat → Int} {X : List (Nat × Array Value × TypeId)} {w0 : World} {g : Nat} {D : Nat → Prop} {b a m : Nat} {R : List Int} {w : World} (h : Pn f n T X w0 g D b a (zs m ++ R) w) (cI : Int) (c : Nat) (hI : cI = (c : Int)) (hc : c = a + m) : Pn f n T X w0 g D b c R (w.setCell ⟨g, 1, none⟩ (.int .i64 cI)) := by
  subst hI hc
  have hf : Fil f n T (fun i => (D i ∨ (b ≤ i ∧ i < a)) ∨ (a ≤ i ∧ i < a + m)) (w.setCell ⟨g, 1, none⟩ (.int .i64 ((a + m : Nat) : Int))) :=
    (h.fil.other (setCell_other w g 1 _ f (fun e => h.gf e.symm))).wide (fun i _ q => .inl q) (fun i _ q nq => by
      have q := q.resolve_left nq
      have e := h.rest.left (i - a) (by rw [zs_length]; omega)
      rw [zs_get, show a + (i - a) = i by omega] at e
      exact e)
  exact h.next h.pen.move (by omega) hf (setCell_kp g f w g 1 _ (.inl rfl)) (h.rest.right.at (by rw [zs_length]))
/-- How every file begins. -/
def idT : ByteArray := ⟨#[127, 69, 76, 70, 2, 1, 1]⟩
theorem idT_size : idT.size = 7 := rfl
/-- A file's head. -/
def headR (E se ml c t : Nat) : List Int := sb idT ++ (zs 9 ++ (nbs 2 [2, 243] ++ (nbs 4 [1] ++ (nbs 8 [E, 64, se] ++ (nbs 4 [1] ++ (nbs 2 [64, 56, ml, 64, c, t] ++ []))))))
set_option maxRecDepth 100000 in
set_option maxHeartbeats 2000000 in
theorem whead_a (f n : Nat) (E : BitVec 64) (sa na : Option Addr) (ml sc nl nc : Nat) (vd : Value) (tb tx ow se sz : Nat) (T : Nat → Int) (D : Nat → Prop) (w : World) (hF : Fil f n T D w) (hnb : n ≤ 1000000) (hn : 64 ≤ n) (hm : ml ≤ 16) (hnl : 0 < nl) (hs : se ≤ 1000000)
    (hT : Sub T 0 (headR E.toNat se ml 4 3)) :
    Calls Tryz.prog 21 #[.slice (some ⟨f, 0, none⟩) n n, .agg #[.int .u64 (n64 E), .slice sa ml sc, .slice na nl nc], .agg #[vd, .int .i64 tb, .int .i64 tx, .int .i64 ow, .int .i64 se, .int .i64 sz]] w fun e w' => e = .returned (.tuple #[]) ∧ Fil f n T (fun i => D i ∨ (0 ≤ i ∧ i < 64)) w' ∧ Kp f f w w' := by
  have hfl : f < w.heap.size := by obtain ⟨C, _, hr, _⟩ := hF; exact (Array.getElem?_eq_some_iff.1 hr).1
  have k0 : Hid (Pn f n T [(w.heap.size + 1, #[vd, .int .i64 tb, .int .i64 tx, .int .i64 ow, .int .i64 se, .int .i64 sz], 50), (w.heap.size, #[.int .u64 (n64 E), .slice sa ml sc, .slice na nl nc], 26)] w (w.heap.size + 1 + 1) D 0 0 (sb idT ++ (zs 9 ++ (nbs 2 [2, 243] ++ (nbs 4 [1] ++ (nbs 8 [E.toNat, 64, se] ++ (nbs 4 [1] ++ (nbs 2 [64, 56, ml, 64, 4, 3] ++ []))))))) (((w.alloc (.cells #[.int .u64 (n64 E), .slice sa ml sc, .slice na nl nc] 26)).alloc (.cells #[vd, .int .i64 tb, .int .i64 tx, .int .i64 ow, .int .i64 se, .int .i64 sz] 50)).alloc (.cells #[.slice (some ⟨f, 0, none⟩) n n, .int .i64 0] 78))) := by
    refine Pn.start hF (((Below.refl _ _).alloc (Nat.le_refl _) _).alloc (by simp) _) _ (by simp) (fun x hx => ?_) 0 0 rfl _ hT
    rcases List.mem_cons.1 hx with rfl | hx
    · exact ⟨by show w.heap.size + 1 < w.heap.size + 1 + 1; omega, by show ¬ w.heap.size + 1 = f; omega, heap_alloc2_new w _ _⟩
    · rcases List.mem_cons.1 hx with rfl | hx
      · exact ⟨by show w.heap.size < w.heap.size + 1 + 1; omega, by show ¬ w.heap.size = f; omega, heap_alloc2_old w _ _⟩
      · exact absurd hx (List.not_mem_nil)
  have HB : Hid (64 ≤ n ∧ ml ≤ 16 ∧ se ≤ 1000000 ∧ E.toNat < 18446744073709551616) := ⟨hn, hm, hs, E.isLt⟩
  have hI1 : (se : Int) ≤ 1000000 := by omega
  have hI2 : (ml : Int) ≤ 16 := by omega
  have hI3 : (0 : Int) < nl := by omega
  clear hF hT hm hs hn hfl
  go_enter Tryz.func21, Tryz.ntmps21
  go_upto_region 6 with (go_at_call 38; refine (k0.out.text 7 (by rw [idT_size]) (by have := HB.out; omega) hnb).mono ?_; rintro e w1 ⟨rfl, h1⟩; have k1 : Hid (Pn f n T [(w.heap.size + 1, #[vd, .int .i64 tb, .int .i64 tx, .int .i64 ow, .int .i64 se, .int .i64 sz], 50), (w.heap.size, #[.int .u64 (n64 E), .slice sa ml sc, .slice na nl nc], 26)] w (w.heap.size + 1 + 1) D 0 7 (zs 9 ++ (nbs 2 [2, 243] ++ (nbs 4 [1] ++ (nbs 8 [E.toNat, 64, se] ++ (nbs 4 [1] ++ (nbs 2 [64, 56, ml, 64, 4, 3] ++ [])))))) w1) := h1; clear h1; obtain ⟨p1, q1⟩ := k1.out.pen.c1)
  have k2 : Hid (Pn f n T [(w.heap.size + 1, #[vd, .int .i64 tb, .int .i64 tx, .int .i64 ow, .int .i64 se, .int .i64 sz], 50), (w.heap.size, #[.int .u64 (n64 E), .slice sa ml sc, .slice na nl nc], 26)] w (w.heap.size + 1 + 1) D 0 16 (nbs 2 [2, 243] ++ (nbs 4 [1] ++ (nbs 8 [E.toNat, 64, se] ++ (nbs 4 [1] ++ (nbs 2 [64, 56, ml, 64, 4, 3] ++ []))))) (w1.setCell ⟨w.heap.size + 1 + 1, 1, none⟩ (.int .i64 16))) := k1.out.jump 16 16 rfl rfl
  go_upto_region 7 with fail
  obtain ⟨w2, hw2⟩ : ∃ w2, w2 = w1.setCell ⟨w.heap.size + 1 + 1, 1, none⟩ (.int .i64 16) := ⟨_, rfl⟩
  rw [← hw2] at k2 ⊢
  clear hw2 p1 q1
  go_upto_region 8 with (go_at_call 39; refine (k2.out.put 2 2 _ rfl rfl (by decide) rfl (by omega) 20 rfl (by have := HB.out; omega) hnb (by omega)).mono ?_; rintro e w3 ⟨rfl, h1⟩; have k3 : Hid (Pn f n T [(w.heap.size + 1, #[vd, .int .i64 tb, .int .i64 tx, .int .i64 ow, .int .i64 se, .int .i64 sz], 50), (w.heap.size, #[.int .u64 (n64 E), .slice sa ml sc, .slice na nl nc], 26)] w (w.heap.size + 1 + 1) D 0 20 (nbs 4 [1] ++ (nbs 8 [E.toNat, 64, se] ++ (nbs 4 [1] ++ (nbs 2 [64, 56, ml, 64, 4, 3] ++ [])))) w3) := h1; clear h1)
  go_upto_region 9 with (go_at_call 39; refine (k3.out.put 4 1 _ rfl rfl (by decide) rfl (by omega) 24 rfl (by have := HB.out; omega) hnb (by omega)).mono ?_; rintro e w4 ⟨rfl, h1⟩; have k4 : Hid (Pn f n T [(w.heap.size + 1, #[vd, .int .i64 tb, .int .i64 tx, .int .i64 ow, .int .i64 se, .int .i64 sz], 50), (w.heap.size, #[.int .u64 (n64 E), .slice sa ml sc, .slice na nl nc], 26)] w (w.heap.size + 1 + 1) D 0 24 (nbs 8 [E.toNat, 64, se] ++ (nbs 4 [1] ++ (nbs 2 [64, 56, ml, 64, 4, 3] ++ []))) w4) := h1; clear h1; have c1 := cell_of_row w4 (w.heap.size) 0 _ _ _ (k4.out.bx (w.heap.size, #[.int .u64 (n64 E), .slice sa ml sc, .slice na nl nc], 26) (by simp)).2.2; have c2 := cell_of_row w4 (w.heap.size + 1) 4 _ _ _ (k4.out.bx (w.heap.size + 1, #[vd, .int .i64 tb, .int .i64 tx, .int .i64 ow, .int .i64 se, .int .i64 sz], 50) (by simp)).2.2)
  go_upto_region 10 with (go_at_call 39; refine (k4.out.put 8 3 _ rfl rfl (by have := HB.out; intro v hv; simp only [List.mem_cons, List.not_mem_nil, or_false] at hv; omega) rfl (by omega) 48 rfl (by have := HB.out; omega) hnb (by omega)).mono ?_; rintro e w5 ⟨rfl, h1⟩; have k5 : Hid (Pn f n T [(w.heap.size + 1, #[vd, .int .i64 tb, .int .i64 tx, .int .i64 ow, .int .i64 se, .int .i64 sz], 50), (w.heap.size, #[.int .u64 (n64 E), .slice sa ml sc, .slice na nl nc], 26)] w (w.heap.size + 1 + 1) D 0 48 (nbs 4 [1] ++ (nbs 2 [64, 56, ml, 64, 4, 3] ++ [])) w5) := h1; clear h1)
  go_upto_region 11 with (go_at_call 39; refine (k5.out.put 4 1 _ rfl rfl (by decide) rfl (by omega) 52 rfl (by have := HB.out; omega) hnb (by omega)).mono ?_; rintro e w6 ⟨rfl, h1⟩; have k6 : Hid (Pn f n T [(w.heap.size + 1, #[vd, .int .i64 tb, .int .i64 tx, .int .i64 ow, .int .i64 se, .int .i64 sz], 50), (w.heap.size, #[.int .u64 (n64 E), .slice sa ml sc, .slice na nl nc], 26)] w (w.heap.size + 1 + 1) D 0 52 (nbs 2 [64, 56, ml, 64, 4, 3] ++ []) w6) := h1; clear h1; have c3 := cell_of_row w6 (w.heap.size) 1 _ _ _ (k6.out.bx (w.heap.size, #[.int .u64 (n64 E), .slice sa ml sc, .slice na nl nc], 26) (by simp)).2.2)
  go_wp2_with (go_at_call 39; refine (k6.out.put 2 6 _ rfl rfl (by have := HB.out; intro v hv; simp only [List.mem_cons, List.not_mem_nil, or_false] at hv; omega) rfl (by omega) 64 rfl (by have := HB.out; omega) hnb (by omega)).mono ?_; rintro e w7 ⟨rfl, h1⟩; have k7 : Hid (Pn f n T [(w.heap.size + 1, #[vd, .int .i64 tb, .int .i64 tx, .int .i64 ow, .int .i64 se, .int .i64 sz], 50), (w.heap.size, #[.int .u64 (n64 E), .slice sa ml sc, .slice na nl nc], 26)] w (w.heap.size + 1 + 1) D 0 64 ([]) w7) := h1; clear h1)
  --@CUT
  first | go_end0 | refine bodyPost_ret (results_none rfl _ _ _) rfl ?_
  exact ⟨rfl, k7.out.fil, k7.out.kp⟩
set_option maxRecDepth 100000 in
set_option maxHeartbeats 2000000 in
theorem whead_z (f n : Nat) (E : BitVec 64) (sa na : Option Addr) (ml sc nl nc : Nat) (vd : Value) (tb tx ow se sz : Nat) (T : Nat → Int) (D : Nat → Prop) (w : World) (hF : Fil f n T D w) (hnb : n ≤ 1000000) (hn : 64 ≤ n) (hm : ml ≤ 16) (hnl : nl = 0) (hs : se ≤ 1000000)
    (hT : Sub T 0 (headR E.toNat se ml 0 0)) :
    Calls Tryz.prog 21 #[.slice (some ⟨f, 0, none⟩) n n, .agg #[.int .u64 (n64 E), .slice sa ml sc, .slice na nl nc], .agg #[vd, .int .i64 tb, .int .i64 tx, .int .i64 ow, .int .i64 se, .int .i64 sz]] w fun e w' => e = .returned (.tuple #[]) ∧ Fil f n T (fun i => D i ∨ (0 ≤ i ∧ i < 64)) w' ∧ Kp f f w w' := by
  have hfl : f < w.heap.size := by obtain ⟨C, _, hr, _⟩ := hF; exact (Array.getElem?_eq_some_iff.1 hr).1
  have k0 : Hid (Pn f n T [(w.heap.size + 1, #[vd, .int .i64 tb, .int .i64 tx, .int .i64 ow, .int .i64 se, .int .i64 sz], 50), (w.heap.size, #[.int .u64 (n64 E), .slice sa ml sc, .slice na nl nc], 26)] w (w.heap.size + 1 + 1) D 0 0 (sb idT ++ (zs 9 ++ (nbs 2 [2, 243] ++ (nbs 4 [1] ++ (nbs 8 [E.toNat, 64, se] ++ (nbs 4 [1] ++ (nbs 2 [64, 56, ml, 64, 0, 0] ++ []))))))) (((w.alloc (.cells #[.int .u64 (n64 E), .slice sa ml sc, .slice na nl nc] 26)).alloc (.cells #[vd, .int .i64 tb, .int .i64 tx, .int .i64 ow, .int .i64 se, .int .i64 sz] 50)).alloc (.cells #[.slice (some ⟨f, 0, none⟩) n n, .int .i64 0] 78))) := by
    refine Pn.start hF (((Below.refl _ _).alloc (Nat.le_refl _) _).alloc (by simp) _) _ (by simp) (fun x hx => ?_) 0 0 rfl _ hT
    rcases List.mem_cons.1 hx with rfl | hx
    · exact ⟨by show w.heap.size + 1 < w.heap.size + 1 + 1; omega, by show ¬ w.heap.size + 1 = f; omega, heap_alloc2_new w _ _⟩
    · rcases List.mem_cons.1 hx with rfl | hx
      · exact ⟨by show w.heap.size < w.heap.size + 1 + 1; omega, by show ¬ w.heap.size = f; omega, heap_alloc2_old w _ _⟩
      · exact absurd hx (List.not_mem_nil)
  have HB : Hid (64 ≤ n ∧ ml ≤ 16 ∧ se ≤ 1000000 ∧ E.toNat < 18446744073709551616) := ⟨hn, hm, hs, E.isLt⟩
  have hI1 : (se : Int) ≤ 1000000 := by omega
  have hI2 : (ml : Int) ≤ 16 := by omega
  have hI3 : ¬ (0 : Int) < nl := by omega
  clear hnl
  clear hF hT hm hs hn hfl
  go_enter Tryz.func21, Tryz.ntmps21
  go_upto_region 6 with (go_at_call 38; refine (k0.out.text 7 (by rw [idT_size]) (by have := HB.out; omega) hnb).mono ?_; rintro e w1 ⟨rfl, h1⟩; have k1 : Hid (Pn f n T [(w.heap.size + 1, #[vd, .int .i64 tb, .int .i64 tx, .int .i64 ow, .int .i64 se, .int .i64 sz], 50), (w.heap.size, #[.int .u64 (n64 E), .slice sa ml sc, .slice na nl nc], 26)] w (w.heap.size + 1 + 1) D 0 7 (zs 9 ++ (nbs 2 [2, 243] ++ (nbs 4 [1] ++ (nbs 8 [E.toNat, 64, se] ++ (nbs 4 [1] ++ (nbs 2 [64, 56, ml, 64, 0, 0] ++ [])))))) w1) := h1; clear h1; obtain ⟨p1, q1⟩ := k1.out.pen.c1)
  have k2 : Hid (Pn f n T [(w.heap.size + 1, #[vd, .int .i64 tb, .int .i64 tx, .int .i64 ow, .int .i64 se, .int .i64 sz], 50), (w.heap.size, #[.int .u64 (n64 E), .slice sa ml sc, .slice na nl nc], 26)] w (w.heap.size + 1 + 1) D 0 16 (nbs 2 [2, 243] ++ (nbs 4 [1] ++ (nbs 8 [E.toNat, 64, se] ++ (nbs 4 [1] ++ (nbs 2 [64, 56, ml, 64, 0, 0] ++ []))))) (w1.setCell ⟨w.heap.size + 1 + 1, 1, none⟩ (.int .i64 16))) := k1.out.jump 16 16 rfl rfl
  go_upto_region 7 with fail
  obtain ⟨w2, hw2⟩ : ∃ w2, w2 = w1.setCell ⟨w.heap.size + 1 + 1, 1, none⟩ (.int .i64 16) := ⟨_, rfl⟩
  rw [← hw2] at k2 ⊢
  clear hw2 p1 q1
  go_upto_region 8 with (go_at_call 39; refine (k2.out.put 2 2 _ rfl rfl (by decide) rfl (by omega) 20 rfl (by have := HB.out; omega) hnb (by omega)).mono ?_; rintro e w3 ⟨rfl, h1⟩; have k3 : Hid (Pn f n T [(w.heap.size + 1, #[vd, .int .i64 tb, .int .i64 tx, .int .i64 ow, .int .i64 se, .int .i64 sz], 50), (w.heap.size, #[.int .u64 (n64 E), .slice sa ml sc, .slice na nl nc], 26)] w (w.heap.size + 1 + 1) D 0 20 (nbs 4 [1] ++ (nbs 8 [E.toNat, 64, se] ++ (nbs 4 [1] ++ (nbs 2 [64, 56, ml, 64, 0, 0] ++ [])))) w3) := h1; clear h1)
  go_upto_region 9 with (go_at_call 39; refine (k3.out.put 4 1 _ rfl rfl (by decide) rfl (by omega) 24 rfl (by have := HB.out; omega) hnb (by omega)).mono ?_; rintro e w4 ⟨rfl, h1⟩; have k4 : Hid (Pn f n T [(w.heap.size + 1, #[vd, .int .i64 tb, .int .i64 tx, .int .i64 ow, .int .i64 se, .int .i64 sz], 50), (w.heap.size, #[.int .u64 (n64 E), .slice sa ml sc, .slice na nl nc], 26)] w (w.heap.size + 1 + 1) D 0 24 (nbs 8 [E.toNat, 64, se] ++ (nbs 4 [1] ++ (nbs 2 [64, 56, ml, 64, 0, 0] ++ []))) w4) := h1; clear h1; have c1 := cell_of_row w4 (w.heap.size) 0 _ _ _ (k4.out.bx (w.heap.size, #[.int .u64 (n64 E), .slice sa ml sc, .slice na nl nc], 26) (by simp)).2.2; have c2 := cell_of_row w4 (w.heap.size + 1) 4 _ _ _ (k4.out.bx (w.heap.size + 1, #[vd, .int .i64 tb, .int .i64 tx, .int .i64 ow, .int .i64 se, .int .i64 sz], 50) (by simp)).2.2)
  go_upto_region 10 with (go_at_call 39; refine (k4.out.put 8 3 _ rfl rfl (by have := HB.out; intro v hv; simp only [List.mem_cons, List.not_mem_nil, or_false] at hv; omega) rfl (by omega) 48 rfl (by have := HB.out; omega) hnb (by omega)).mono ?_; rintro e w5 ⟨rfl, h1⟩; have k5 : Hid (Pn f n T [(w.heap.size + 1, #[vd, .int .i64 tb, .int .i64 tx, .int .i64 ow, .int .i64 se, .int .i64 sz], 50), (w.heap.size, #[.int .u64 (n64 E), .slice sa ml sc, .slice na nl nc], 26)] w (w.heap.size + 1 + 1) D 0 48 (nbs 4 [1] ++ (nbs 2 [64, 56, ml, 64, 0, 0] ++ [])) w5) := h1; clear h1)
  go_upto_region 11 with (go_at_call 39; refine (k5.out.put 4 1 _ rfl rfl (by decide) rfl (by omega) 52 rfl (by have := HB.out; omega) hnb (by omega)).mono ?_; rintro e w6 ⟨rfl, h1⟩; have k6 : Hid (Pn f n T [(w.heap.size + 1, #[vd, .int .i64 tb, .int .i64 tx, .int .i64 ow, .int .i64 se, .int .i64 sz], 50), (w.heap.size, #[.int .u64 (n64 E), .slice sa ml sc, .slice na nl nc], 26)] w (w.heap.size + 1 + 1) D 0 52 (nbs 2 [64, 56, ml, 64, 0, 0] ++ []) w6) := h1; clear h1; have c3 := cell_of_row w6 (w.heap.size) 1 _ _ _ (k6.out.bx (w.heap.size, #[.int .u64 (n64 E), .slice sa ml sc, .slice na nl nc], 26) (by simp)).2.2)
  go_wp2_with (go_at_call 39; refine (k6.out.put 2 6 _ rfl rfl (by have := HB.out; intro v hv; simp only [List.mem_cons, List.not_mem_nil, or_false] at hv; omega) rfl (by omega) 64 rfl (by have := HB.out; omega) hnb (by omega)).mono ?_; rintro e w7 ⟨rfl, h1⟩; have k7 : Hid (Pn f n T [(w.heap.size + 1, #[vd, .int .i64 tb, .int .i64 tx, .int .i64 ow, .int .i64 se, .int .i64 sz], 50), (w.heap.size, #[.int .u64 (n64 E), .slice sa ml sc, .slice na nl nc], 26)] w (w.heap.size + 1 + 1) D 0 64 ([]) w7) := h1; clear h1)
  --@CUT
  first | go_end0 | refine bodyPost_ret (results_none rfl _ _ _) rfl ?_
  exact ⟨rfl, k7.out.fil, k7.out.kp⟩
end Go.Proofs.YtopddflnahfomaaGreatDoor
