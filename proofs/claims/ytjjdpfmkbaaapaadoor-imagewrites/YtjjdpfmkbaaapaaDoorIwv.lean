/-
  alike; both Writes in one form.
-/
import Derived.Test.YtjjdpfmkbaaapaaDoorIwu
import Derived.Test.YtjjdpfmkbaaapaaDoorIwf
import Derived.Test.YtjjdpfmkbaaapaaDoorIwg
namespace Go.Proofs.YtjjdpfmkbaaapaaDoor
set_option linter.unusedVariables false
open Go.ChangeShapes Go.WideShapes Go.ChangeAt Go.RowKit Go.Deep
set_option maxRecDepth 100000 in
set_option maxHeartbeats 4000000 in
theorem alike_c (E : BitVec 64) (va vna vb vnb : Value) (L M : List Sg) (N : List Sy) (D : Nat → List Int) (hl : L.length ≤ 140737488355328) (hn : N.length ≤ 140737488355328) (w : World) (ha : Img w va vna M N) (hb : Img w vb vnb L N) (hal : Alike L M) (hda : Dts w M D) (hdb : Dts w L D) :
    Calls Tryd.prog 9 #[.agg #[.int .u64 (n64 E), va, vna], .agg #[.int .u64 (n64 E), vb, vnb]] w fun e w' => e = .returned (.bool true) ∧ Below w.heap.size w w' := by
  have HA : Hid (Img w va vna M N) := ha
  have HB : Hid (Img w vb vnb L N) := hb
  have HL : Hid (Alike L M) := hal
  have HDA : Hid (Dts w M D) := hda
  have HDB : Hid (Dts w L D) := hdb
  obtain ⟨a1, c1, rfl, _, _⟩ := ha.segs
  obtain ⟨a2, c2, rfl, _, _⟩ := ha.syms
  obtain ⟨b1, e1, rfl, _, _⟩ := hb.segs
  obtain ⟨b2, e2, rfl, _, _⟩ := hb.syms
  obtain ⟨m1, hm1⟩ : ∃ m, m = M.length := ⟨_, rfl⟩
  obtain ⟨m3, hm3⟩ : ∃ m, m = L.length := ⟨_, rfl⟩
  obtain ⟨m2, hm2⟩ : ∃ m, m = N.length := ⟨_, rfl⟩
  rw [← hm1, ← hm2] at HA ⊢
  rw [← hm3] at HB ⊢
  rw [← hm2] at HB
  obtain ⟨m4, hm4⟩ : ∃ m, m = m2 := ⟨_, rfl⟩
  have HB1 : Hid (Below w.heap.size w ((w.alloc (.cells #[.int .u64 (n64 E), .slice a1 m1 c1, .slice a2 m2 c2] 26)).alloc (.cells #[.int .u64 (n64 E), .slice b1 m3 e1, .slice b2 m4 e2] 26))) := ((Below.refl _ _).alloc (Nat.le_refl _) _).alloc (by simp) _
  have k0 : Hid (∀ wx, Below ((w.alloc (.cells #[.int .u64 (n64 E), .slice a1 m1 c1, .slice a2 m2 c2] 26)).alloc (.cells #[.int .u64 (n64 E), .slice b1 m3 e1, .slice b2 m4 e2] 26)).heap.size ((w.alloc (.cells #[.int .u64 (n64 E), .slice a1 m1 c1, .slice a2 m2 c2] 26)).alloc (.cells #[.int .u64 (n64 E), .slice b1 m3 e1, .slice b2 m4 e2] 26)) wx → (wx.cell? ⟨w.heap.size, 0, none⟩ = some (.int .u64 (n64 E)) ∧ wx.cell? ⟨w.heap.size, 1, none⟩ = some (.slice a1 m1 c1) ∧ wx.cell? ⟨w.heap.size, 2, none⟩ = some (.slice a2 m2 c2)) ∧ wx.cell? ⟨w.heap.size + 1, 0, none⟩ = some (.int .u64 (n64 E)) ∧ wx.cell? ⟨w.heap.size + 1, 1, none⟩ = some (.slice b1 m3 e1) ∧ wx.cell? ⟨w.heap.size + 1, 2, none⟩ = some (.slice b2 m4 e2)) := fun wx hx => by
    have r1 : wx.heap[w.heap.size]? = some (.cells #[.int .u64 (n64 E), .slice a1 m1 c1, .slice a2 m2 c2] 26 (0, 0)) := by rw [hx.block _ (by simp; omega)]; exact heap_alloc2_old w _ _
    have r2 : wx.heap[w.heap.size + 1]? = some (.cells #[.int .u64 (n64 E), .slice b1 m3 e1, .slice b2 m4 e2] 26 (0, 0)) := by rw [hx.block _ (by simp)]; exact heap_alloc2_new w _ _
    exact ⟨⟨cell_of_row wx _ 0 _ _ _ r1, cell_of_row wx _ 1 _ _ _ r1, cell_of_row wx _ 2 _ _ _ r1⟩, cell_of_row wx _ 0 _ _ _ r2, cell_of_row wx _ 1 _ _ _ r2, cell_of_row wx _ 2 _ _ _ r2⟩
  have cP : Hid (∀ wx, Below ((w.alloc (.cells #[.int .u64 (n64 E), .slice a1 m1 c1, .slice a2 m2 c2] 26)).alloc (.cells #[.int .u64 (n64 E), .slice b1 m3 e1, .slice b2 m4 e2] 26)).heap.size ((w.alloc (.cells #[.int .u64 (n64 E), .slice a1 m1 c1, .slice a2 m2 c2] 26)).alloc (.cells #[.int .u64 (n64 E), .slice b1 m3 e1, .slice b2 m4 e2] 26)) wx → Calls Tryd.prog 19 #[.slice a1 m1 c1, .slice b1 m3 e1] wx fun e w' => e = .returned (.bool true) ∧ Below wx.heap.size wx w') := fun wx hx => by
    have hy := HB1.out.trans (hx.mono HB1.out.size)
    exact lparts_c _ _ L M D hl wx (HA.out.segs.later hy rfl) (HB.out.segs.later hy rfl) HL.out (HDA.out.later hy) (HDB.out.later hy)
  have cN : Hid (∀ wx, Below ((w.alloc (.cells #[.int .u64 (n64 E), .slice a1 m1 c1, .slice a2 m2 c2] 26)).alloc (.cells #[.int .u64 (n64 E), .slice b1 m3 e1, .slice b2 m4 e2] 26)).heap.size ((w.alloc (.cells #[.int .u64 (n64 E), .slice a1 m1 c1, .slice a2 m2 c2] 26)).alloc (.cells #[.int .u64 (n64 E), .slice b1 m3 e1, .slice b2 m4 e2] 26)) wx → Calls Tryd.prog 20 #[.slice a2 m2 c2, .slice b2 m4 e2] wx fun e w' => e = .returned (.bool true) ∧ Below wx.heap.size wx w') := fun wx hx => by
    have hy := HB1.out.trans (hx.mono HB1.out.size)
    rw [hm4]
    exact lnames_c _ _ N hn wx (HA.out.syms.later hy rfl) (HB.out.syms.later hy rfl)
  rw [show Value.slice b2 m2 e2 = Value.slice b2 m4 e2 by rw [hm4]]
  clear ha hb hal hda hdb hm1 hm2 hm3 hm4
  have HZ : Hid (w.heap.size ≤ ((w.alloc (.cells #[.int .u64 (n64 E), .slice a1 m1 c1, .slice a2 m2 c2] 26)).alloc (.cells #[.int .u64 (n64 E), .slice b1 m3 e1, .slice b2 m4 e2] 26)).heap.size) := HB1.out.size
  go_enter Tryd.func9, Tryd.ntmps9
  go_upto_region 1 with fail
  obtain ⟨g1, hg1⟩ : ∃ g1, g1 = w.heap.size := ⟨_, rfl⟩
  obtain ⟨g2, hg2⟩ : ∃ g2, g2 = w.heap.size + 1 := ⟨_, rfl⟩
  have HG : Hid (g1 = w.heap.size) := hg1
  rw [← hg2, ← hg1] at k0 ⊢
  clear hg1 hg2
  generalize ((w.alloc (.cells #[.int .u64 (n64 E), .slice a1 m1 c1, .slice a2 m2 c2] 26)).alloc (.cells #[.int .u64 (n64 E), .slice b1 m3 e1, .slice b2 m4 e2] 26)) = W2 at *
  obtain ⟨⟨q0, q1, q2⟩, p0, p1, p2⟩ := k0.out W2 (Below.refl _ _)
  --@CUT
  go_wp2_with (first | (go_at_call 19; refine (cP.out _ (Below.refl _ _)).mono ?_; rintro e w3 ⟨rfl, hb3⟩; have HB3 : Hid (Below W2.heap.size W2 w3) := hb3; obtain ⟨⟨q0, q1, q2⟩, p0, p1, p2⟩ := k0.out w3 hb3; clear hb3) | (go_at_call 20; refine (cN.out _ HB3.out).mono ?_; rintro e w4 ⟨rfl, hb4⟩; have HB4 : Hid (Below W2.heap.size W2 w4) := HB3.out.trans (hb4.mono HB3.out.size); clear hb4))
  go_ret
  exact ⟨rfl, HB1.out.trans (HB4.out.mono HZ.out)⟩
/-- Where a slice lies: from B on, if anywhere. -/
def From (B : Nat) (v : Value) : Prop := ∀ a n c, v = .slice (some a) n c → B ≤ a.block
theorem from_own {w : World} {B e size n : Nat} {v : Value} {xs : List Value} (h : w.ownsRow B e size v n xs) : From B v := fun a k c e => by
  rcases h.2 with ⟨h', _⟩ | ⟨g, cap, cur, h', h1, _⟩
  · rw [h'] at e; cases e
  · rw [h'] at e; cases e; exact h1
/-- What both Writes answer. -/
def ans (E : BitVec 64) (L : List Sg) (N : List Sy) (D : Nat → List Int) : List Int := if ck E L N = 0 then fl E.toNat L N D else []
theorem pwrite (E : BitVec 64) (vs vn : Value) (L : List Sg) (N : List Sy) (D : Nat → List Int) (hl : L.length ≤ 140737488355328) (hn : N.length ≤ 140737488355328) (w : World) (hi : Img w vs vn L N) (hdt : Dts w L D) (hT : Hid (Tabs w)) (R : Int) (hR : R = ck E L N) :
    Calls Tryd.prog 5 #[.agg #[.int .u64 (n64 E), vs, vn]] w fun e w' => ∃ v, e = .returned (.tuple #[v, .int .i64 R]) ∧ Byt w' v (ans E L N D) ∧ From w.heap.size v ∧ Below w.heap.size w w' := by
  subst hR
  unfold ans
  by_cases h : ck E L N = 0
  · rw [if_pos h, h]
    by_cases h0 : N.length = 0
    · refine (pwrite_z E vs vn L N hl hn w hi D hdt h h0 hT).mono ?_
      rintro e w' ⟨f, n, hf, rfl, hb, hw⟩
      exact ⟨_, rfl, hb, fun a k c e => by cases e; exact hf, hw⟩
    · refine (pwrite_a E vs vn L N hl hn w hi D hdt h (by omega) hT).mono ?_
      rintro e w' ⟨f, n, hf, rfl, hb, hw⟩
      exact ⟨_, rfl, hb, fun a k c e => by cases e; exact hf, hw⟩
  · rw [if_neg h]
    refine (pwrite_e E vs vn L N hl hn w hi h hT).mono ?_
    rintro e w' ⟨rfl, hw⟩
    exact ⟨_, rfl, Byt.nil w', fun a k c e => (by cases e), hw⟩
set_option maxRecDepth 100000 in
set_option maxHeartbeats 4000000 in
theorem rwrite_e (E : BitVec 64) (vs vn : Value) (L : List Sg) (N : List Sy) (hl : L.length ≤ 140737488355328) (hn : N.length ≤ 140737488355328) (w : World) (hi : Img w vs vn L N) (hR : ¬ ck E L N = 0) (hT : Hid (Tabs w)) :
    Calls Tryd.prog 6 #[.agg #[.int .u64 (n64 E), vs, vn]] w fun e w' => e = .returned (.tuple #[.slice none 0 0, .int .i64 (ck E L N)]) ∧ Below w.heap.size w w' := by
  have HI : Hid (Img w vs vn L N) := hi
  obtain ⟨sa, sc, rfl, _, _⟩ := hi.segs
  obtain ⟨na, nc, rfl, _, _⟩ := hi.syms
  clear hi
  have HB1 : Hid (Below w.heap.size w (w.alloc (.cells #[.int .u64 (n64 E), .slice sa L.length sc, .slice na N.length nc] 26))) := (Below.refl _ _).alloc (Nat.le_refl _) _
  have HI1 : Hid (Img (w.alloc (.cells #[.int .u64 (n64 E), .slice sa L.length sc, .slice na N.length nc] 26)) (.slice sa L.length sc) (.slice na N.length nc) L N) := HI.out.later HB1.out rfl
  have HT1 : Hid (Tabs (w.alloc (.cells #[.int .u64 (n64 E), .slice sa L.length sc, .slice na N.length nc] 26))) := hT.out.below HB1.out rfl
  obtain ⟨R, hRR⟩ : ∃ R, R = ck E L N := ⟨_, rfl⟩
  have cC : Hid (Calls Tryd.prog 13 #[.agg #[.int .u64 (n64 E), .slice sa L.length sc, .slice na N.length nc]] (w.alloc (.cells #[.int .u64 (n64 E), .slice sa L.length sc, .slice na N.length nc] 26)) fun e w' => e = .returned (.int .i64 R) ∧ Below (w.alloc (.cells #[.int .u64 (n64 E), .slice sa L.length sc, .slice na N.length nc] 26)).heap.size (w.alloc (.cells #[.int .u64 (n64 E), .slice sa L.length sc, .slice na N.length nc] 26)) w') := by unfold Hid; rw [hRR]; exact rcheck_c E _ _ L N hl hn _ HI1.out HT1
  rw [← hRR] at hR ⊢
  clear hRR
  have hR' : (R != 0) = true := by simp [hR]
  go_enter Tryd.func6, Tryd.ntmps6
  go_upto_region 2 with (go_at_call 13; refine cC.out.mono ?_; rintro e w2 ⟨rfl, hb⟩; have HB2 : Hid (Below (w.alloc (.cells #[.int .u64 (n64 E), .slice sa L.length sc, .slice na N.length nc] 26)).heap.size (w.alloc (.cells #[.int .u64 (n64 E), .slice sa L.length sc, .slice na N.length nc] 26)) w2) := hb; clear hb)
  go_wp2
  go_ret2
  exact ⟨rfl, HB1.out.trans (HB2.out.mono HB1.out.size)⟩
theorem rwrite (E : BitVec 64) (vs vn : Value) (L : List Sg) (N : List Sy) (D : Nat → List Int) (hl : L.length ≤ 140737488355328) (hn : N.length ≤ 140737488355328) (w : World) (hi : Img w vs vn L N) (hdt : Dts w L D) (hT : Hid (Tabs w)) (R : Int) (hR : R = ck E L N) :
    Calls Tryd.prog 6 #[.agg #[.int .u64 (n64 E), vs, vn]] w fun e w' => ∃ v, e = .returned (.tuple #[v, .int .i64 R]) ∧ Byt w' v (ans E L N D) ∧ From w.heap.size v ∧ Below w.heap.size w w' := by
  subst hR
  unfold ans
  by_cases h : ck E L N = 0
  · obtain ⟨hL, hN, hZ, hF⟩ := ck_zero h
    rw [if_pos h, h]
    unfold fl
    by_cases h0 : N.length = 0
    · rw [if_pos h0]
      refine (rwrite_z E vs vn L N D h0 hL hN h hZ hF w hi hdt hT).mono ?_
      rintro e w' ⟨v, t, s, rfl, hp, hw⟩
      exact ⟨v, rfl, Byt.of_own hp.b, from_own (own_leB hp.b (Nat.le_succ _)), hw⟩
    · rw [if_neg h0]
      refine (rwrite_a E vs vn L N D (by omega) hL hN h hZ hF w hi hdt hT).mono ?_
      rintro e w' ⟨v, t, s, rfl, hp, hw⟩
      exact ⟨v, rfl, Byt.of_own hp.b, from_own (own_leB hp.b (Nat.le_succ _)), hw⟩
  · rw [if_neg h]
    refine (rwrite_e E vs vn L N hl hn w hi h hT).mono ?_
    rintro e w' ⟨rfl, hw⟩
    exact ⟨_, rfl, Byt.nil w', fun a k c e => (by cases e), hw⟩
end Go.Proofs.YtjjdpfmkbaaapaaDoor
