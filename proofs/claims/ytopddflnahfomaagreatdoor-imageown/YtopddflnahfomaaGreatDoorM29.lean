/-
  Iwn Inf.
-/
import Derived.Test.YtopddflnahfomaaGreatDoorM28
import Derived.Test.YtopddflnahfomaaGreatDoorM02
import Derived.Test.YtopddflnahfomaaGreatDoorM22
import Derived.Test.YtopddflnahfomaaGreatDoorM10
namespace Go.Proofs.YtopddflnahfomaaGreatDoor
set_option linter.unusedVariables false
open Go.ChangeShapes Go.WideShapes Go.ChangeAt Go.RowKit Go.Deep
/-- The other pen is taken in hand. -/
theorem Pn.swap {f n : Nat} {T : Nat → Int} {X : List (Nat × Array Value × TypeId)} {w0 : World} {g : Nat} {D : Nat → Prop} {b a : Nat} {R : List Int} {w : World} {g2 c d : Nat} (h : Pn f n T ((g2, #[.slice (some ⟨f, 0, none⟩) n n, .int .i64 d], 78) :: X) w0 g (fun i => D i ∨ (c ≤ i ∧ i < d)) b a R w) (hg : w0.heap.size ≤ g2) (hX : ∀ x, x ∈ X → ¬ x.1 = g2) (hcd : c ≤ d) (S : List Int) (hS : Sub T d S) :
    Pn f n T ((g, #[.slice (some ⟨f, 0, none⟩) n n, .int .i64 a], 78) :: X) w0 g2 (fun i => D i ∨ (b ≤ i ∧ i < a)) c d S w := by
  have h0 := h.bx _ (List.mem_cons_self)
  refine ⟨fun x hx => ?_, h0.2.2, h.fil.set (fun i _ => ?_), h.kp, hg, h.fl, hcd, hS⟩
  · rcases List.mem_cons.1 hx with rfl | hx
    · exact ⟨fun e => h0.1 e.symm, h.gf, h.pen⟩
    · have := h.bx x (List.mem_cons_of_mem _ hx)
      exact ⟨hX x hx, this.2⟩
  · constructor
    · rintro ((h | h) | h)
      · exact .inl (.inl h)
      · exact .inr h
      · exact .inl (.inr h)
    · rintro ((h | h) | h)
      · exact .inl (.inl h)
      · exact .inr h
      · exact .inl (.inr h)
/-- A box was made; it stays too. -/
theorem Pn.box {f n : Nat} {T : Nat → Int} {X : List (Nat × Array Value × TypeId)} {w0 : World} {g : Nat} {D : Nat → Prop} {b a : Nat} {R : List Int} {w : World} (h : Pn f n T X w0 g D b a R w) (cs : Array Value) (ty : TypeId) (X' : List (Nat × Array Value × TypeId)) (hX : ∀ x, x ∈ X' → x = (w.heap.size, cs, ty) ∨ x ∈ X) (S : List Int) (hS : Sub T a S) : Pn f n T X' w0 g D b a S (w.alloc (.cells cs ty)) := by
  have hb : Below w.heap.size w (w.alloc (.cells cs ty)) := (Below.refl _ _).alloc (Nat.le_refl _) _
  have hgs : g < w.heap.size := (Array.getElem?_eq_some_iff.1 h.pen).1
  have hfs : f < w.heap.size := Nat.lt_of_lt_of_le h.fl h.kp.size
  refine ⟨fun x hx => ?_, (hb.5 _ hgs).trans h.pen, h.fil.other (hb.5 _ hfs), ⟨hb.os.trans h.kp.os, hb.tape.trans h.kp.tape, hb.output.trans h.kp.output, Nat.le_trans h.kp.size hb.size, fun k q1 q2 q3 => (hb.5 k (Nat.lt_of_lt_of_le q1 h.kp.size)).trans (h.kp.block k q1 q2 q3)⟩, h.gl, h.fl, h.ba, hS⟩
  rcases hX x hx with rfl | hx
  · exact ⟨by show ¬ w.heap.size = g; omega, by show ¬ w.heap.size = f; omega, heap_alloc_new w _⟩
  · obtain ⟨h1, h2, h3⟩ := h.bx x hx
    exact ⟨h1, h2, (hb.5 _ (Array.getElem?_eq_some_iff.1 h3).1).trans h3⟩
theorem Pn.less {f n : Nat} {T : Nat → Int} {X : List (Nat × Array Value × TypeId)} {w0 : World} {g : Nat} {D : Nat → Prop} {b a : Nat} {R : List Int} {w : World} (h : Pn f n T X w0 g D b a R w) (X' : List (Nat × Array Value × TypeId)) (hX : ∀ x, x ∈ X' → x ∈ X) (S : List Int) (hS : Sub T a S) : Pn f n T X' w0 g D b a S w := ⟨fun x hx => h.bx x (hX x hx), h.pen, h.fil, h.kp, h.gl, h.fl, h.ba, hS⟩
theorem Pn.below {f n : Nat} {T : Nat → Int} {X : List (Nat × Array Value × TypeId)} {w0 : World} {g : Nat} {D : Nat → Prop} {b a : Nat} {R : List Int} {w : World} (h : Pn f n T X w0 g D b a R w) : Below f w0 w := h.kp.below (Nat.le_refl _) (Nat.le_refl _) (Nat.le_of_lt h.fl)
theorem sub_tb {T : Nat → Int} {p : Nat} {N : List Sy} {m : Nat} (h : Sub T p (tbL N m)) (k : Nat) (hk : k < m) : Sub T (p + 24 * k) (entL (1 + nk N k) (sy N k)) := by
  induction m with
  | zero => omega
  | succ m ih =>
    by_cases e : k = m
    · subst e; exact h.right.at (by rw [tbL_length])
    · exact ih h.left (by omega)
theorem sub_tx {T : Nat → Int} {p : Nat} {N : List Sy} {m : Nat} (h : Sub T p (txL N m)) (k : Nat) (hk : k < m) : Sub T (p + 1 + nk N k) (sb (sy N k).s ++ [0]) := by
  induction m with
  | zero => omega
  | succ m ih =>
    by_cases e : k = m
    · subst e; exact h.right.at (by rw [txL_length]; omega)
    · exact ih h.left (by omega)
theorem entL_eq (o : Nat) (x : Sy) : entL o x = nbs 4 [o] ++ (nbs 1 [16, 0] ++ (nbs 2 [65521] ++ (nbs 8 [x.v.toNat, 0] ++ []))) := by
  have e : ptL 16 2 = ptL 16 1 ++ (ptL 0 1 ++ []) := rfl
  simp only [entL, nbs, List.append_assoc, List.append_nil]
  rw [e, List.append_assoc]
  rfl
set_option maxRecDepth 100000 in
set_option maxHeartbeats 4000000 in
theorem wnames_c (f n : Nat) (vn vd : Value) (N : List Sy) (tb tx ow se sz : Nat) (T : Nat → Int) (D : Nat → Prop) (w1 w : World) (hw1 : f = w1.heap.size) (hb1 : Below f w1 w) (hS : Sys w1 vn N) (hF : Fil f n T D w) (hnb : n ≤ 1000000) (hN : N.length ≤ 400) (hb : tb + 24 + 24 * N.length ≤ n ∧ tx + 1 + nk N N.length < n)
    (hT0 : Sub T (tb + 24) (tbL N N.length)) (hT1 : Sub T tx (txL N N.length)) :
    Calls Tryz.prog 23 #[.slice (some ⟨f, 0, none⟩) n n, vn, .agg #[vd, .int .i64 tb, .int .i64 tx, .int .i64 ow, .int .i64 se, .int .i64 sz]] w fun e w' => e = .returned (.tuple #[]) ∧ Fil f n T (fun i => (D i ∨ (tx + 1 ≤ i ∧ i < tx + 1 + nk N N.length)) ∨ (tb + 24 ≤ i ∧ i < tb + 24 + 24 * N.length)) w' ∧ Kp f f w w' := by
  obtain ⟨A0, hA0⟩ : ∃ A0, A0 = tb + 24 := ⟨_, rfl⟩
  obtain ⟨B0, hB0⟩ : ∃ B0, B0 = tx + 1 := ⟨_, rfl⟩
  rw [← hA0] at hT0
  have HI1 : (tb : Int) + 24 = A0 := by omega
  have HI2 : (tx : Int) + 1 = B0 := by omega
  have HT0 : Hid (Sub T A0 (tbL N N.length)) := hT0
  have HT1 : Hid (Sub T tx (txL N N.length)) := hT1
  have HB : Hid (A0 = tb + 24 ∧ B0 = tx + 1 ∧ tb + 24 + 24 * N.length ≤ n ∧ tx + 1 + nk N N.length < n ∧ n ≤ 1000000 ∧ N.length ≤ 400) := by unfold Hid; omega
  have hfl : f < w.heap.size := by obtain ⟨C, _, hr, _⟩ := hF; exact (Array.getElem?_eq_some_iff.1 hr).1
  have HFL : Hid (f < w.heap.size) := hfl
  have HW1 : Hid (f = w1.heap.size) := hw1
  have HB1 : Hid (Below f w1 w) := hb1
  have HS : Hid (Sys w1 vn N) := hS
  obtain ⟨na, nc, rfl, _, _⟩ := hS
  have k0 : Hid (Pn f n T [(w.heap.size, #[vd, .int .i64 tb, .int .i64 tx, .int .i64 ow, .int .i64 se, .int .i64 sz], 50)] w (w.heap.size + 1) D A0 A0 [] ((w.alloc (.cells #[vd, .int .i64 tb, .int .i64 tx, .int .i64 ow, .int .i64 se, .int .i64 sz] 50)).alloc (.cells #[.slice (some ⟨f, 0, none⟩) n n, .int .i64 A0] 78))) := by
    refine Pn.start hF ((Below.refl _ _).alloc (Nat.le_refl _) _) _ (by simp) (fun x hx => ?_) _ A0 rfl _ Sub.nil
    rcases List.mem_cons.1 hx with rfl | hx
    · exact ⟨by show w.heap.size < w.heap.size + 1; omega, by show ¬ w.heap.size = f; omega, heap_alloc_new w _⟩
    · exact absurd hx (List.not_mem_nil)
  have k1 : Hid (Pn f n T [(w.heap.size + 1 + 1, #[.slice (some ⟨f, 0, none⟩) n n, .int .i64 B0], 78), (w.heap.size, #[vd, .int .i64 tb, .int .i64 tx, .int .i64 ow, .int .i64 se, .int .i64 sz], 50)] w (w.heap.size + 1) (fun i => D i ∨ (B0 ≤ i ∧ i < B0)) A0 A0 [] (((w.alloc (.cells #[vd, .int .i64 tb, .int .i64 tx, .int .i64 ow, .int .i64 se, .int .i64 sz] 50)).alloc (.cells #[.slice (some ⟨f, 0, none⟩) n n, .int .i64 A0] 78)).alloc (.cells #[.slice (some ⟨f, 0, none⟩) n n, .int .i64 B0] 78))) := by
    have h := k0.out.box #[.slice (some ⟨f, 0, none⟩) n n, .int .i64 B0] 78 [(w.heap.size + 1 + 1, #[.slice (some ⟨f, 0, none⟩) n n, .int .i64 B0], 78), (w.heap.size, #[vd, .int .i64 tb, .int .i64 tx, .int .i64 ow, .int .i64 se, .int .i64 sz], 50)] (fun x hx => by
      rcases List.mem_cons.1 hx with rfl | hx
      · left; simp
      · right; exact hx) [] Sub.nil
    exact ⟨h.bx, h.pen, h.fil.set (fun i _ => ⟨fun h => h.elim (fun h => .inl (.inl h)) .inr, fun h => h.elim (fun h => h.elim .inl (fun h => by omega)) .inr⟩), h.kp, h.gl, h.fl, h.ba, h.rest⟩
  have hI1 : (A0 : Int) ≤ 1000000 := by omega
  have hI2 : (B0 : Int) ≤ 1000000 := by omega
  have hI3 : (N.length : Int) ≤ 400 := by omega
  clear hF hT0 hT1 hw1 hb1 hA0 hB0 hfl hb k0
  go_enter Tryz.func23, Tryz.ntmps23
  go_wp2
  go_loopw [22] (fun i wr => ∃ k : Nat, k ≤ N.length ∧ i = .int .i64 k ∧ ∃ A B : Nat, Hid (A = A0 + 24 * k ∧ B = B0 + nk N k) ∧ Hid (Pn f n T [(w.heap.size + 1 + 1, #[.slice (some ⟨f, 0, none⟩) n n, .int .i64 (B : Int)], 78), (w.heap.size, #[vd, .int .i64 tb, .int .i64 tx, .int .i64 ow, .int .i64 se, .int .i64 sz], 50)] w (w.heap.size + 1) (fun i => D i ∨ (B0 ≤ i ∧ i < B)) A0 A [] wr)) (fun i _ => N.length - (intOf i).toNat)
  case atStart => exact ⟨0, Nat.zero_le _, rfl, A0, B0, ⟨rfl, rfl⟩, k1⟩
  case round =>
    obtain ⟨k, hk, rfl, A, B, HE, hp⟩ := hrel
    clear k1
    by_cases hlt : k < N.length
    · as_aux_lemma =>
      have hltI : (k : Int) < (N.length : Int) := by omega
      have hmono := nk_mono N (show k + 1 ≤ N.length by omega)
      have HSw := HS.out.later (HB1.out.trans hp.out.below) HW1.out
      obtain ⟨_, _, he, _, hcc⟩ := HSw
      cases he
      obtain ⟨g, off, rfl, hg, hcells⟩ := hcc (by intro e; rw [e] at hlt; exact absurd hlt (Nat.not_lt_zero _))
      obtain ⟨c0, c1⟩ := hcells k hlt
      clear hcells hcc hg
      obtain ⟨q, hq⟩ : ∃ q, q = 1 + nk N k := ⟨_, rfl⟩
      have HQ0 : Hid (q = 1 + nk N k) := hq
      have HST := sub_tx HT1.out k hlt
      have HSE := sub_tb HT0.out k hlt
      rw [← hq, entL_eq] at HSE
      obtain ⟨y, hy⟩ : ∃ y, y = sy N k := ⟨_, rfl⟩
      rw [← hy] at c0 c1 HST HSE
      have hnk : nk N (k + 1) = nk N k + (y.s.size + 1) := by rw [hy]; rfl
      have HY : Hid (nk N (k + 1) = nk N k + (y.s.size + 1)) := hnk
      obtain ⟨ys, hys⟩ : ∃ ys, ys = y.s.size := ⟨_, rfl⟩
      have HB2 : Hid (A = A0 + 24 * k ∧ B = B0 + nk N k ∧ A + 24 ≤ n ∧ B + (ys + 1) < n ∧ n ≤ 1000000 ∧ q ≤ 1000000 ∧ B = tx + q ∧ ys = y.s.size ∧ y.v.toNat < 18446744073709551616) := by
        have := HE.out; have := HB.out; have := y.v.isLt
        unfold Hid
        omega
      have hQI : (B : Int) - (tx : Int) = (q : Int) := by have := HB2.out; omega
      have hI5 : (B : Int) ≤ 1000000 := by have := HB2.out; omega
      have hI6 : (tx : Int) ≤ 1000000 := by have := HB2.out; omega
      have hI7 : (q : Int) ≤ 1000000 := by have := HB2.out; omega
      have HST' : Hid (Sub T B (sb y.s ++ (nbs 1 [0] ++ []))) := HST.at (by have := HB2.out; have := HB.out; omega)
      have HSE' : Hid (Sub T A (nbs 4 [q] ++ (nbs 1 [16, 0] ++ (nbs 2 [65521] ++ (nbs 8 [y.v.toNat, 0] ++ []))))) := HSE.at (by have := HB2.out; omega)
      clear HST HSE hy hnk hys hq hmono HE
      go_upto_region 6 with fail
      have HSZ : Hid (w.heap.size + 1 + 1 < wr.heap.size) := (Array.getElem?_eq_some_iff.1 (hp.out.bx (w.heap.size + 1 + 1, #[.slice (some ⟨f, 0, none⟩) n n, .int .i64 (B : Int)], 78) (by simp)).2.2).1
      have k2 : Hid (Pn f n T [(w.heap.size + 1 + 1, #[.slice (some ⟨f, 0, none⟩) n n, .int .i64 (B : Int)], 78), (wr.heap.size, #[.string y.s, .int .u64 (n64 y.v)], 45), (w.heap.size, #[vd, .int .i64 tb, .int .i64 tx, .int .i64 ow, .int .i64 se, .int .i64 sz], 50)] w (w.heap.size + 1) (fun i => D i ∨ (B0 ≤ i ∧ i < B)) A0 A (nbs 4 [q] ++ (nbs 1 [16, 0] ++ (nbs 2 [65521] ++ (nbs 8 [y.v.toNat, 0] ++ [])))) (wr.alloc (.cells #[.string y.s, .int .u64 (n64 y.v)] 45))) :=
        hp.out.box _ _ _ (fun x hx => by
          rcases List.mem_cons.1 hx with rfl | hx
          · right; simp
          · rcases List.mem_cons.1 hx with rfl | hx
            · left; rfl
            · right; exact List.mem_cons_of_mem _ hx) _ HSE'.out
      obtain ⟨w2, hw2⟩ : ∃ w2, w2 = wr.alloc (.cells #[.string y.s, .int .u64 (n64 y.v)] 45) := ⟨_, rfl⟩
      rw [← hw2] at k2 ⊢
      clear hw2 c0 c1
      have t1 := cell_of_row w2 (w.heap.size + 1 + 1) 1 _ _ _ (k2.out.bx (w.heap.size + 1 + 1, #[.slice (some ⟨f, 0, none⟩) n n, .int .i64 (B : Int)], 78) (by simp)).2.2
      have t2 := cell_of_row w2 w.heap.size 2 _ _ _ (k2.out.bx (w.heap.size, #[vd, .int .i64 tb, .int .i64 tx, .int .i64 ow, .int .i64 se, .int .i64 sz], 50) (by simp)).2.2
      go_upto_region 7 with (go_at_call 39; refine (k2.out.put 4 1 _ rfl rfl (by have := HB2.out; intro v hv; simp only [List.mem_cons, List.not_mem_nil, or_false] at hv; omega) rfl (by omega) (A + 4) (by omega) (by have := HB2.out; omega) hnb (by omega)).mono ?_; rintro e w3 ⟨rfl, h1⟩; have k3 : Hid (Pn f n T [(w.heap.size + 1 + 1, #[.slice (some ⟨f, 0, none⟩) n n, .int .i64 (B : Int)], 78), (wr.heap.size, #[.string y.s, .int .u64 (n64 y.v)], 45), (w.heap.size, #[vd, .int .i64 tb, .int .i64 tx, .int .i64 ow, .int .i64 se, .int .i64 sz], 50)] w (w.heap.size + 1) (fun i => D i ∨ (B0 ≤ i ∧ i < B)) A0 (A + 4) (nbs 1 [16, 0] ++ (nbs 2 [65521] ++ (nbs 8 [y.v.toNat, 0] ++ []))) w3) := h1; clear h1)
      go_upto_region 8 with (go_at_call 39; refine (k3.out.put 1 2 _ rfl rfl (by decide) rfl (by omega) (A + 6) (by omega) (by have := HB2.out; omega) hnb (by omega)).mono ?_; rintro e w4 ⟨rfl, h1⟩; have k4 : Hid (Pn f n T [(w.heap.size + 1 + 1, #[.slice (some ⟨f, 0, none⟩) n n, .int .i64 (B : Int)], 78), (wr.heap.size, #[.string y.s, .int .u64 (n64 y.v)], 45), (w.heap.size, #[vd, .int .i64 tb, .int .i64 tx, .int .i64 ow, .int .i64 se, .int .i64 sz], 50)] w (w.heap.size + 1) (fun i => D i ∨ (B0 ≤ i ∧ i < B)) A0 (A + 6) (nbs 2 [65521] ++ (nbs 8 [y.v.toNat, 0] ++ [])) w4) := h1; clear h1)
      go_upto_region 9 with (go_at_call 39; refine (k4.out.put 2 1 _ rfl rfl (by decide) rfl (by omega) (A + 8) (by omega) (by have := HB2.out; omega) hnb (by omega)).mono ?_; rintro e w5 ⟨rfl, h1⟩; have k5 : Hid (Pn f n T [(w.heap.size + 1 + 1, #[.slice (some ⟨f, 0, none⟩) n n, .int .i64 (B : Int)], 78), (wr.heap.size, #[.string y.s, .int .u64 (n64 y.v)], 45), (w.heap.size, #[vd, .int .i64 tb, .int .i64 tx, .int .i64 ow, .int .i64 se, .int .i64 sz], 50)] w (w.heap.size + 1) (fun i => D i ∨ (B0 ≤ i ∧ i < B)) A0 (A + 8) (nbs 8 [y.v.toNat, 0] ++ []) w5) := h1; clear h1; have t3 := cell_of_row w5 wr.heap.size 1 _ _ _ (k5.out.bx (wr.heap.size, #[.string y.s, .int .u64 (n64 y.v)], 45) (by simp)).2.2)
      go_upto_region 10 with (go_at_call 39; refine (k5.out.put 8 2 _ rfl rfl (by have := HB2.out; intro v hv; simp only [List.mem_cons, List.not_mem_nil, or_false] at hv; omega) rfl (by omega) (A + 24) (by omega) (by have := HB2.out; omega) hnb (by omega)).mono ?_; rintro e w6 ⟨rfl, h1⟩; have k6 : Hid (Pn f n T [(w.heap.size + 1 + 1, #[.slice (some ⟨f, 0, none⟩) n n, .int .i64 (B : Int)], 78), (wr.heap.size, #[.string y.s, .int .u64 (n64 y.v)], 45), (w.heap.size, #[vd, .int .i64 tb, .int .i64 tx, .int .i64 ow, .int .i64 se, .int .i64 sz], 50)] w (w.heap.size + 1) (fun i => D i ∨ (B0 ≤ i ∧ i < B)) A0 (A + 24) ([]) w6) := h1; clear h1; have t4 := cell_of_row w6 wr.heap.size 0 _ _ _ (k6.out.bx (wr.heap.size, #[.string y.s, .int .u64 (n64 y.v)], 45) (by simp)).2.2)
      have k7 : Hid (Pn f n T [(w.heap.size + 1, #[.slice (some ⟨f, 0, none⟩) n n, .int .i64 ((A + 24 : Nat) : Int)], 78), (wr.heap.size, #[.string y.s, .int .u64 (n64 y.v)], 45), (w.heap.size, #[vd, .int .i64 tb, .int .i64 tx, .int .i64 ow, .int .i64 se, .int .i64 sz], 50)] w (w.heap.size + 1 + 1) (fun i => D i ∨ (A0 ≤ i ∧ i < A + 24)) B0 B (sb y.s ++ (nbs 1 [0] ++ [])) w6) := k6.out.swap (by omega) (fun x hx => by
        have := HSZ.out
        rcases List.mem_cons.1 hx with rfl | hx
        · show ¬ wr.heap.size = w.heap.size + 1 + 1; omega
        · rcases List.mem_cons.1 hx with rfl | hx
          · show ¬ w.heap.size = w.heap.size + 1 + 1; omega
          · exact absurd hx (List.not_mem_nil)) (by have := HB2.out; omega) _ HST'.out
      go_upto_region 11 with (go_at_call 38; refine (k7.out.text (B + ys) (by have := HB2.out; omega) (by have := HB2.out; omega) hnb).mono ?_; rintro e w7 ⟨rfl, h1⟩; have k8 : Hid (Pn f n T [(w.heap.size + 1, #[.slice (some ⟨f, 0, none⟩) n n, .int .i64 ((A + 24 : Nat) : Int)], 78), (wr.heap.size, #[.string y.s, .int .u64 (n64 y.v)], 45), (w.heap.size, #[vd, .int .i64 tb, .int .i64 tx, .int .i64 ow, .int .i64 se, .int .i64 sz], 50)] w (w.heap.size + 1 + 1) (fun i => D i ∨ (A0 ≤ i ∧ i < A + 24)) B0 (B + ys) (nbs 1 [0] ++ []) w7) := h1; clear h1)
      go_upto_region 12 with (go_at_call 39; refine (k8.out.put 1 1 _ rfl rfl (by decide) rfl (by omega) (B + ys + 1) (by omega) (by have := HB2.out; omega) hnb (by omega)).mono ?_; rintro e w8 ⟨rfl, h1⟩; have k9 : Hid (Pn f n T [(w.heap.size + 1, #[.slice (some ⟨f, 0, none⟩) n n, .int .i64 ((A + 24 : Nat) : Int)], 78), (wr.heap.size, #[.string y.s, .int .u64 (n64 y.v)], 45), (w.heap.size, #[vd, .int .i64 tb, .int .i64 tx, .int .i64 ow, .int .i64 se, .int .i64 sz], 50)] w (w.heap.size + 1 + 1) (fun i => D i ∨ (A0 ≤ i ∧ i < A + 24)) B0 (B + ys + 1) [] w8) := h1; clear h1)
      have k10 : Hid (Pn f n T [(w.heap.size + 1 + 1, #[.slice (some ⟨f, 0, none⟩) n n, .int .i64 ((B + ys + 1 : Nat) : Int)], 78), (w.heap.size, #[vd, .int .i64 tb, .int .i64 tx, .int .i64 ow, .int .i64 se, .int .i64 sz], 50)] w (w.heap.size + 1) (fun i => D i ∨ (B0 ≤ i ∧ i < B + ys + 1)) A0 (A + 24) [] w8) := (k9.out.swap (by omega) (fun x hx => by
        have := HSZ.out
        rcases List.mem_cons.1 hx with rfl | hx
        · show ¬ wr.heap.size = w.heap.size + 1; omega
        · rcases List.mem_cons.1 hx with rfl | hx
          · show ¬ w.heap.size = w.heap.size + 1; omega
          · exact absurd hx (List.not_mem_nil)) (by have := HB2.out; omega) [] Sub.nil).less _ (fun x hx => by
        rcases List.mem_cons.1 hx with rfl | hx
        · exact List.mem_cons_self
        · exact List.mem_cons_of_mem _ (List.mem_cons_of_mem _ hx)) [] Sub.nil
      clear k9 k8 k7 k6 k5 k4 k3 k2
      go_wp2
      go_roundw
      case rel => exact ⟨k + 1, by omega, by go_num, A + 24, B + ys + 1, ⟨by have := HB2.out; omega, by have := HB2.out; have := HY.out; omega⟩, k10⟩
      case measure => simp only [intOf]; omega
    · obtain rfl : k = N.length := by omega
      have hltI : ¬ ((N.length : Int) < N.length) := by omega
      go_wp2
      first | go_end0 | refine bodyPost_ret (results_none rfl _ _ _) rfl ?_
      refine ⟨rfl, hp.out.fil.set (fun i _ => ?_), hp.out.kp⟩
      have h1 := HE.out
      have h2 := HB.out
      rw [h1.1, h1.2, h2.1, h2.2.1]
end Go.Proofs.YtopddflnahfomaaGreatDoor
namespace Go.Proofs.YtopddflnahfomaaGreatDoor
set_option linter.unusedVariables false
open Go.ChangeShapes Go.WideShapes Go.ChangeAt Go.RowKit Go.Deep
/-- A name's own fault. -/
def nf (N : List Sy) (i : Nat) : Int :=
  if nm (sy N i).s = false then 5 else if 0 < i ∧ ahead (sy N (i - 1)).s (sy N (i - 1)).v (sy N i).s (sy N i).v = false then 25 else 0
set_option maxHeartbeats 4000000 in
theorem cnames_c (N : List Sy) (hb : Hid (∀ j, j < N.length → (sy N j).s.size ≤ 140737488355328)) (hlen : N.length ≤ 140737488355328) (v : Value) (w : World) (hv : Sys w v N) (hT : Hid (Tabs w)) :
    Calls Tryz.prog 20 #[v] w fun e w' => e = .returned (.int .i64 (ff (nf N) N.length 0)) ∧ Below w.heap.size w w' := by
  have HV : Hid (Sys w v N) := hv
  obtain ⟨R, hR⟩ : ∃ R, R = ff (nf N) N.length 0 := ⟨_, rfl⟩
  rw [← hR]
  have HR : Hid (ff (nf N) (N.length - 0) 0 = R) := hR.symm
  clear hR
  obtain ⟨B, hB⟩ : ∃ B, B = w.heap.size := ⟨_, rfl⟩
  have HB0 : Hid (B = w.heap.size) := hB
  clear hB
  obtain ⟨ad, cap, rfl, hcap, hr⟩ := hv
  have HC : Hid (N ≠ [] → ∃ g off, ad = some ⟨g, off, none⟩ ∧ g < w.heap.size) := fun hne => by obtain ⟨g, off, h1, h2, _⟩ := hr hne; exact ⟨g, off, h1, h2⟩
  clear hr
  go_enter Tryz.func20, Tryz.ntmps20
  go_wp2
  go_loopw [7] (fun i wr => ∃ k : Nat, k ≤ N.length ∧ i = .int .i64 k ∧ Hid (ff (nf N) (N.length - k) k = R) ∧ Hid (Below B w wr)) (fun i _ => N.length - (intOf i).toNat)
  case atStart => exact ⟨0, Nat.zero_le _, rfl, HR, Below.refl _ _⟩
  case round =>
    obtain ⟨k, hk, rfl, hrel, hbel⟩ := hrel
    clear HR
    by_cases hlt : k < N.length
    · have hne : N ≠ [] := by intro e; have := congrArg List.length e; simp only [List.length_nil] at this; omega
      obtain ⟨g, off, rfl, _⟩ := HC.out hne
      obtain ⟨_, _, he, _, hcc⟩ := HV.out.later hbel.out HB0.out
      obtain ⟨g', off', hg', hglt, hcells⟩ := hcc hne
      cases he
      cases hg'
      obtain ⟨c0, c1⟩ := hcells k hlt
      have hn := hb.out k hlt
      obtain ⟨x, hx⟩ : ∃ x, x = sy N k := ⟨_, rfl⟩
      rw [← hx] at c0 c1 hn
      have HX : Hid (x = sy N k) := hx
      have hlt2 : (k : Int) < (N.length : Int) := by omega
      have HBs : Hid (B ≤ wr.heap.size) := Nat.le_trans (by rw [HB0.out]; exact Nat.le_refl _) hbel.out.size
      have PN : Hid (∀ h : nf N k ≠ 0, R = nf N k) := fun h => by rw [← hrel.out, ff_hit hlt h]
      have HBA : Hid (Below B w (wr.alloc (.cells #[.string x.s, .int .u64 (n64 x.v)] 45))) := hbel.out.alloc HBs.out _
      have HTA : Hid (Tabs (wr.alloc (.cells #[.string x.s, .int .u64 (n64 x.v)] 45))) := hT.out.below HBA.out HB0.out
      have cN := isName_c x.s hn (wr.alloc (.cells #[.string x.s, .int .u64 (n64 x.v)] 45)) HTA
      have z0 : (wr.alloc (.cells #[.string x.s, .int .u64 (n64 x.v)] 45)).cell? ⟨wr.heap.size, 0, none⟩ = some (.string x.s) := by simp
      have z1 : (wr.alloc (.cells #[.string x.s, .int .u64 (n64 x.v)] 45)).cell? ⟨wr.heap.size, 1, none⟩ = some (.int .u64 (n64 x.v)) := by simp
      have HZ0 : Hid ((wr.alloc (.cells #[.string x.s, .int .u64 (n64 x.v)] 45)).cell? ⟨wr.heap.size, 0, none⟩ = some (.string x.s)) := z0
      have HZ1 : Hid ((wr.alloc (.cells #[.string x.s, .int .u64 (n64 x.v)] 45)).cell? ⟨wr.heap.size, 1, none⟩ = some (.int .u64 (n64 x.v))) := z1
      have HWs : Hid (wr.heap.size < (wr.alloc (.cells #[.string x.s, .int .u64 (n64 x.v)] 45)).heap.size) := by unfold Hid; simp
      have HAs : Hid (B ≤ (wr.alloc (.cells #[.string x.s, .int .u64 (n64 x.v)] 45)).heap.size) := Nat.le_trans HBs.out (by simp)
      clear hx hcells hcc hne z0 z1
      cases hnm : nm x.s with
      | false =>
        rw [hnm] at cN
        have HP : Hid (R = 5) := by
          have hp : nf N k = 5 := by unfold nf; rw [← HX.out, hnm]; rfl
          have := PN.out (by rw [hp]; decide); rw [hp] at this; exact this
        clear hnm PN
        go_wp2_with (go_at_call 36; refine cN.mono ?_; rintro e w2 ⟨rfl, hb2⟩)
        go_ret
        have hB := HB0.out
        subst hB
        exact ⟨ret_int HP.out.symm, HBA.out.trans (hb2.mono HAs.out)⟩
      | true =>
        rw [hnm] at cN
        have HNM : Hid (nm x.s = true) := hnm
        clear hnm
        by_cases hk0 : k = 0
        · have HP0 : Hid (nf N k = 0) := by
            unfold Hid nf; rw [← HX.out, HNM.out, if_neg (by decide), if_neg (by rintro ⟨h, _⟩; omega)]
          have hk0' : ¬ 0 < k := by omega
          clear hk0
          go_wp2_with (go_at_call 36; refine cN.mono ?_; rintro e w2 ⟨rfl, hb2⟩)
          have HB2 : Hid (Below B w w2) := HBA.out.trans (hb2.mono HAs.out)
          clear hb2
          go_quiet (fail)
          have HG : Hid (ff (nf N) (N.length - (k + 1)) (k + 1) = R) := by unfold Hid; rw [← ff_go hlt HP0.out]; exact hrel.out
          have HB3 : Hid (Below B w (w2.drewN nq)) := HB2.out.trans ⟨rfl, rfl, rfl, Nat.le_refl _, fun _ _ => rfl⟩
          generalize w2.drewN nq = w3 at *
          go_wp2
          go_roundw
          case rel => exact ⟨k + 1, by omega, by go_num, HG, HB3⟩
          case measure => simp [intOf]; omega
        · obtain ⟨q, hq⟩ : ∃ q, k = q + 1 := ⟨k - 1, by omega⟩
          have hkq : (k : Int) - 1 = (q : Int) := by omega
          have hk0' : 0 < k := by omega
          have hql : (q : Int) < (N.length : Int) := by omega
          have HQ : Hid (k = q + 1) := hq
          clear hk0 hq
          go_wp2_with (go_at_call 36; refine cN.mono ?_; rintro e w2 ⟨rfl, hb2⟩)
          have HB2 : Hid (Below B w w2) := HBA.out.trans (hb2.mono HAs.out)
          obtain ⟨_, _, he, _, hcc⟩ := HV.out.later HB2.out HB0.out
          obtain ⟨g', off', hg', hg2, hcells⟩ := hcc (by intro e; have := congrArg List.length e; simp only [List.length_nil] at this; omega)
          cases he
          cases hg'
          obtain ⟨p0, p1⟩ := hcells q (by omega)
          obtain ⟨x', hx'⟩ : ∃ x', x' = sy N q := ⟨_, rfl⟩
          rw [← hx'] at p0 p1
          have HX' : Hid (x' = sy N q) := hx'
          clear hx' hcells hcc
          have z0 : w2.cell? ⟨wr.heap.size, 0, none⟩ = some (.string x.s) := by rw [hb2.cell (by exact HWs.out)]; exact HZ0.out
          have z1 : w2.cell? ⟨wr.heap.size, 1, none⟩ = some (.int .u64 (n64 x.v)) := by rw [hb2.cell (by exact HWs.out)]; exact HZ1.out
          have hw2 : wr.heap.size < w2.heap.size := Nat.lt_of_lt_of_le HWs.out hb2.size
          clear hb2
          have y0 : ∀ y : Later w2, y.1.cell? ⟨g, off + q * 2, none⟩ = some (.string x'.s) := fun y => by rw [later_cell y hg2]; exact p0
          have y1 : ∀ y : Later w2, y.1.cell? ⟨g, off + q * 2 + 1, none⟩ = some (.int .u64 (n64 x'.v)) := fun y => by rw [later_cell y hg2]; exact p1
          have y2 : ∀ y : Later w2, y.1.cell? ⟨wr.heap.size, 0, none⟩ = some (.string x.s) := fun y => by rw [later_cell y hw2]; exact z0
          have y3 : ∀ y : Later w2, y.1.cell? ⟨wr.heap.size, 1, none⟩ = some (.int .u64 (n64 x.v)) := fun y => by rw [later_cell y hw2]; exact z1
          have hne := later_nonempty w2
          clear p0 p1 z0 z1 hw2 hg2
          have hca := cz_ahead x'.s x.s x'.v x.v
          obtain ⟨C, hC⟩ : ∃ C, C = cz x'.s x.s x'.v x.v := ⟨_, rfl⟩
          rw [← hC] at hca
          have cC : Hid (∀ w', Calls Tryz.prog 37 #[.agg #[.string x'.s, .int .u64 (n64 x'.v)], .agg #[.string x.s, .int .u64 (n64 x.v)]] w' fun e w'' => e = .returned (.int .i64 C) ∧ Below w'.heap.size w' w'') := fun w' => by rw [hC]; exact compare_z _ _ _ _ w'
          clear hC
          have HBs2 : Hid (B ≤ w2.heap.size) := by unfold Hid; rw [HB0.out]; exact HB2.out.size
          cases hah : ahead x'.s x'.v x.s x.v with
          | false =>
            rw [hah] at hca
            have h0C : 0 ≤ C := of_decide_eq_true hca
            have HP : Hid (R = 25) := by
              have hp : nf N k = 25 := by unfold nf; rw [← HX.out, HNM.out, if_neg (by decide), if_pos ⟨by omega, by rw [show k - 1 = q by have := HQ.out; omega, ← HX'.out]; exact hah⟩]
              have := PN.out (by rw [hp]; decide); rw [hp] at this; exact this
            clear hah hca PN
            refine wp_region_later (x0 := Later.start _) (by kernel_rfl) (by kernel_rfl) ?_
            repeat (go_big_quiet_step ((go_at_call 37; exact calls_later (cC.out _))))
            refine wpQuiet_nil ?_
            rintro _ ⟨yq, rfl⟩
            have HB3 : Hid (Below B w yq.1) := HB2.out.trans (yq.2.mono HBs2.out)
            clear y0 y1 y2 y3 hne
            generalize yq.1 = w3 at *
            go_wp2
            go_ret
            have hB := HB0.out
            subst hB
            exact ⟨ret_int HP.out.symm, HB3.out⟩
          | true =>
            rw [hah] at hca
            have h0C : C < 0 := by have := of_decide_eq_false hca; omega
            have HP0 : Hid (nf N k = 0) := by
              unfold Hid nf; rw [← HX.out, HNM.out, if_neg (by decide), if_neg (by rintro ⟨_, h⟩; rw [show k - 1 = q by have := HQ.out; omega, ← HX'.out, hah] at h; cases h)]
            clear hah hca PN
            refine wp_region_later (x0 := Later.start _) (by kernel_rfl) (by kernel_rfl) ?_
            repeat (go_big_quiet_step ((go_at_call 37; exact calls_later (cC.out _))))
            refine wpQuiet_nil ?_
            rintro _ ⟨yq, rfl⟩
            have HB3 : Hid (Below B w yq.1) := HB2.out.trans (yq.2.mono HBs2.out)
            have HG : Hid (ff (nf N) (N.length - (k + 1)) (k + 1) = R) := by unfold Hid; rw [← ff_go hlt HP0.out]; exact hrel.out
            clear y0 y1 y2 y3 hne
            generalize yq.1 = w3 at *
            go_wp2
            go_roundw
            case rel => exact ⟨k + 1, by omega, by go_num, HG, HB3⟩
            case measure => simp [intOf]; omega
    · have hkl : k = N.length := by omega
      have HR0 : Hid (R = 0) := by unfold Hid; rw [← hrel.out]; exact ff_end _ _ _ (by omega)
      have hle : (N.length : Int) ≤ (k : Int) := by omega
      clear hkl
      go_wp2
      go_ret
      have hB := HB0.out
      subst hB
      exact ⟨ret_int HR0.out.symm, hbel.out⟩
end Go.Proofs.YtopddflnahfomaaGreatDoor
