/-
  The reference: shift, the signed division, the quotients.
-/
import Derived.Test.YthnjppfgdkiaaacC4
namespace Go.Proofs.Ythnjppfgdkiaaac
open Go.ChangeShapes Go.WideShapes Go.ChangeAt Go.RowKit
theorem Lst.lh {w w' : World} {v : Value} {l : List Int} (h : Hid (Lst w v l)) (hb : Below w.heap.size w w') : Hid (Lst w' v l) := h.out.later hb
/-- The size of a number of n bits. -/
def szn (A n : Nat) : Nat := if bt A (n - 1) = 1 then 2 ^ n - A else A
theorem bt_top {A n : Nat} (h : bt A (n - 1) = 1) : 0 < A := by
  rcases Nat.eq_zero_or_pos A with rfl | h0
  · unfold bt at h; simp at h
  · exact h0
theorem szn_lt {A n : Nat} (hA : A < 2 ^ n) : szn A n < 2 ^ n := by
  unfold szn; split
  · rename_i h; have := bt_top h; omega
  · exact hA
theorem szn_pos {A n : Nat} (hA : A < 2 ^ n) (h0 : 0 < A) : 0 < szn A n := by
  unfold szn; split <;> omega
theorem szn_bl {A n : Nat} (hA : A < 2 ^ n) : bl (if bt A (n - 1) = 1 then mns 0 A n else A) n = bl (szn A n) n := by
  unfold szn; split
  · rw [← bl_mod, mns_mod 0 A n hA, Nat.zero_add, bl_mod]
  · rfl
theorem size_any (A n : Nat) (hn0 : 0 < n) (hn : n ≤ 200) (hA : A < 2 ^ n) (va : Value) (w : World) (la : Lst w va (bl A n)) :
    Calls Try.prog 92 #[va] w fun e w' => ∃ v, e = .returned v ∧ Lst w' v (bl (szn A n) n) ∧ Below w.heap.size w w' := by
  rw [← szn_bl hA]; exact size_ref A n hn0 hn va w la
/-- What minus gives of nothing and A, kept to n bits. -/
def ngn (A n : Nat) : Nat := (2 ^ n - A) % 2 ^ n
theorem ngn_bl {A n : Nat} (hA : A < 2 ^ n) : bl (mns 0 A n) n = bl (ngn A n) n := by
  unfold ngn; rw [← bl_mod, mns_mod 0 A n hA, Nat.zero_add]
/-- The signed quotient and rest. -/
def sq (A B n : Nat) : Nat := if bt A (n - 1) = bt B (n - 1) then szn A n / szn B n else ngn (szn A n / szn B n) n
def sr (A B n : Nat) : Nat := if bt A (n - 1) = 1 then ngn (szn A n % szn B n) n else szn A n % szn B n

theorem neg_any (A n : Nat) (hn0 : 0 < n) (hn : n ≤ 200) (hA : A < 2 ^ n) (va vb : Value) (w : World) (la : Lst w va (bl 0 n)) (lb : Lst w vb (bl A n)) :
    Calls Try.prog 70 #[va, vb] w fun e w' => ∃ v, e = .returned v ∧ Lst w' v (bl (ngn A n) n) ∧ Below w.heap.size w w' := by
  rw [← ngn_bl hA]; exact minus_any 0 A n hn0 hn va vb w la lb
set_option maxHeartbeats 2000000 in
theorem dividedSigned_any (A Bn n : Nat) (hn0 : 0 < n) (hn : n ≤ 100) (hA : A < 2 ^ n) (hB : Bn < 2 ^ n) (hB0 : 0 < Bn) (va vb : Value) (w : World) (la : Lst w va (bl A n)) (lb : Lst w vb (bl Bn n)) :
    Calls Try.prog 89 #[va, vb] w fun e w' => ∃ v1 v2, e = .returned (.tuple #[v1, v2]) ∧ Lst w' v1 (bl (sq A Bn n) n) ∧ Lst w' v2 (bl (sr A Bn n) n) ∧ Below w.heap.size w w' := by
  have La : Hid (Lst w va (bl A n)) := la
  have Lb : Hid (Lst w vb (bl Bn n)) := lb
  obtain ⟨g, off, cap, rfl, h1, h2, h3⟩ := la
  obtain ⟨g', off', cap', rfl, h1', h2', h3'⟩ := lb
  rw [bl_length] at h1 h3 h1' h3'
  rw [bl_length, bl_length]
  rw [bl_length] at La Lb
  have hsA := szn_lt hA
  have hsB := szn_lt hB
  have hpB := szn_pos (n := n) hB hB0
  have hQ : szn A n / szn Bn n < 2 ^ n := Nat.lt_of_le_of_lt (Nat.div_le_self _ _) hsA
  have hR : szn A n % szn Bn n < 2 ^ n := Nat.lt_trans (Nat.mod_lt _ hpB) hsB
  have HS : Hid (szn A n < 2 ^ n ∧ szn Bn n < 2 ^ n ∧ 0 < szn Bn n ∧ szn A n / szn Bn n < 2 ^ n ∧ szn A n % szn Bn n < 2 ^ n ∧ A < 2 ^ n ∧ Bn < 2 ^ n) := ⟨hsA, hsB, hpB, hQ, hR, hA, hB⟩
  clear hsA hsB hpB hQ hR hA hB hB0
  obtain ⟨m, rfl⟩ : ∃ m, n = m + 1 := ⟨n - 1, by omega⟩
  have ha0 := h3 m (by omega)
  have hb0 := h3' m (by omega)
  rw [bl_get _ _ _ (by omega)] at ha0 hb0
  have hl1 : (0 : Int) ≤ (m : Int) := by omega
  have hm : m + 1 - 1 = m := Nat.add_sub_cancel ..
  clear h3 h3'
  rcases bt_cases A m with ea | ea <;> rcases bt_cases Bn m with eb | eb
  · have eq : sq A Bn (m + 1) = szn A (m + 1) / szn Bn (m + 1) := by unfold sq; rw [hm, ea, eb]; rfl
    have er : sr A Bn (m + 1) = szn A (m + 1) % szn Bn (m + 1) := by unfold sr; rw [hm, ea]; rfl
    rw [eq, er]
    rw [ea] at ha0; rw [eb] at hb0
    clear eq er ea eb hm
    go_enter Try.func89, Try.ntmps89
    go_wp2_with fail
    refine (size_any A (m + 1) hn0 (by omega) HS.out.2.2.2.2.2.1 _ _ La.out).mono ?_
    rintro e w1 ⟨v1a, rfl, l1a, b1⟩
    have L1a : Hid (Lst w1 v1a (bl (szn A (m + 1)) (m + 1))) := l1a
    have La_1 := Lst.lh La b1
    have Lb_1 := Lst.lh Lb b1
    have B1 : Hid (Below w.heap.size w w1) := b1
    have ha1 := cell_later b1 ha0; have hb1 := cell_later b1 hb0
    clear l1a b1
    go_wp2_with fail
    refine (size_any Bn (m + 1) hn0 (by omega) HS.out.2.2.2.2.2.2 _ _ Lb_1.out).mono ?_
    rintro e w2 ⟨v2a, rfl, l2a, b2⟩
    have L2a : Hid (Lst w2 v2a (bl (szn Bn (m + 1)) (m + 1))) := l2a
    have La_2 := Lst.lh La_1 b2
    have Lb_2 := Lst.lh Lb_1 b2
    have L1a_2 := Lst.lh L1a b2
    have B2 : Hid (Below w.heap.size w w2) := B1.out.trans (b2.mono B1.out.size)
    have ha2 := cell_later b2 ha1; have hb2 := cell_later b2 hb1
    clear l2a b2
    go_wp2_with fail
    refine (divided_any (szn A (m + 1)) (szn Bn (m + 1)) (m + 1) hn0 hn HS.out.1 HS.out.2.1 HS.out.2.2.1 _ _ _ L1a_2.out L2a.out).mono ?_
    rintro e w3 ⟨v3a, v3b, rfl, l3a, l3b, b3⟩
    have L3a : Hid (Lst w3 v3a (bl (szn A (m + 1) / szn Bn (m + 1)) (m + 1))) := l3a
    have L3b : Hid (Lst w3 v3b (bl (szn A (m + 1) % szn Bn (m + 1)) (m + 1))) := l3b
    have La_3 := Lst.lh La_2 b3
    have Lb_3 := Lst.lh Lb_2 b3
    have L1a_3 := Lst.lh L1a_2 b3
    have L2a_3 := Lst.lh L2a b3
    have B3 : Hid (Below w.heap.size w w3) := B2.out.trans (b3.mono B2.out.size)
    have ha3 := cell_later b3 ha2; have hb3 := cell_later b3 hb2
    clear l3a l3b b3
    go_wp2_with fail
    go_quiet (fail)
    have b4 : Below w3.heap.size w3 (w3.drewN nq) := below_drewN (Below.refl _ _) _
    generalize w3.drewN nq = w4 at b4 ⊢
    have La_4 := Lst.lh La_3 b4
    have Lb_4 := Lst.lh Lb_3 b4
    have L1a_4 := Lst.lh L1a_3 b4
    have L2a_4 := Lst.lh L2a_3 b4
    have L3a_4 := Lst.lh L3a b4
    have L3b_4 := Lst.lh L3b b4
    have B4 : Hid (Below w.heap.size w w4) := B3.out.trans (b4.mono B3.out.size)
    have ha4 := cell_later b4 ha3; have hb4 := cell_later b4 hb3
    clear  b4
    go_wp2
    go_ret2
    exact ⟨_, _, rfl, L3a_4.out, L3b_4.out, B4.out⟩
  · have eq : sq A Bn (m + 1) = ngn (szn A (m + 1) / szn Bn (m + 1)) (m + 1) := by unfold sq; rw [hm, ea, eb]; rfl
    have er : sr A Bn (m + 1) = szn A (m + 1) % szn Bn (m + 1) := by unfold sr; rw [hm, ea]; rfl
    rw [eq, er]
    rw [ea] at ha0; rw [eb] at hb0
    clear eq er ea eb hm
    go_enter Try.func89, Try.ntmps89
    go_wp2_with fail
    refine (size_any A (m + 1) hn0 (by omega) HS.out.2.2.2.2.2.1 _ _ La.out).mono ?_
    rintro e w1 ⟨v1a, rfl, l1a, b1⟩
    have L1a : Hid (Lst w1 v1a (bl (szn A (m + 1)) (m + 1))) := l1a
    have La_1 := Lst.lh La b1
    have Lb_1 := Lst.lh Lb b1
    have B1 : Hid (Below w.heap.size w w1) := b1
    have ha1 := cell_later b1 ha0; have hb1 := cell_later b1 hb0
    clear l1a b1
    go_wp2_with fail
    refine (size_any Bn (m + 1) hn0 (by omega) HS.out.2.2.2.2.2.2 _ _ Lb_1.out).mono ?_
    rintro e w2 ⟨v2a, rfl, l2a, b2⟩
    have L2a : Hid (Lst w2 v2a (bl (szn Bn (m + 1)) (m + 1))) := l2a
    have La_2 := Lst.lh La_1 b2
    have Lb_2 := Lst.lh Lb_1 b2
    have L1a_2 := Lst.lh L1a b2
    have B2 : Hid (Below w.heap.size w w2) := B1.out.trans (b2.mono B1.out.size)
    have ha2 := cell_later b2 ha1; have hb2 := cell_later b2 hb1
    clear l2a b2
    go_wp2_with fail
    refine (divided_any (szn A (m + 1)) (szn Bn (m + 1)) (m + 1) hn0 hn HS.out.1 HS.out.2.1 HS.out.2.2.1 _ _ _ L1a_2.out L2a.out).mono ?_
    rintro e w3 ⟨v3a, v3b, rfl, l3a, l3b, b3⟩
    have L3a : Hid (Lst w3 v3a (bl (szn A (m + 1) / szn Bn (m + 1)) (m + 1))) := l3a
    have L3b : Hid (Lst w3 v3b (bl (szn A (m + 1) % szn Bn (m + 1)) (m + 1))) := l3b
    have La_3 := Lst.lh La_2 b3
    have Lb_3 := Lst.lh Lb_2 b3
    have L1a_3 := Lst.lh L1a_2 b3
    have L2a_3 := Lst.lh L2a b3
    have B3 : Hid (Below w.heap.size w w3) := B2.out.trans (b3.mono B2.out.size)
    have ha3 := cell_later b3 ha2; have hb3 := cell_later b3 hb2
    clear l3a l3b b3
    go_wp2_with fail
    go_quiet (fail)
    have b4 : Below w3.heap.size w3 (w3.drewN nq) := below_drewN (Below.refl _ _) _
    generalize w3.drewN nq = w4 at b4 ⊢
    have La_4 := Lst.lh La_3 b4
    have Lb_4 := Lst.lh Lb_3 b4
    have L1a_4 := Lst.lh L1a_3 b4
    have L2a_4 := Lst.lh L2a_3 b4
    have L3a_4 := Lst.lh L3a b4
    have L3b_4 := Lst.lh L3b b4
    have B4 : Hid (Below w.heap.size w w4) := B3.out.trans (b4.mono B3.out.size)
    have ha4 := cell_later b4 ha3; have hb4 := cell_later b4 hb3
    clear  b4
    go_wp2_with fail
    refine (zeros_lst (m + 1) (by omega) _).mono ?_
    rintro e w5 ⟨v5a, rfl, l5a, b5⟩
    have L5a : Hid (Lst w5 v5a (bl 0 (m + 1))) := l5a
    have La_5 := Lst.lh La_4 b5
    have Lb_5 := Lst.lh Lb_4 b5
    have L1a_5 := Lst.lh L1a_4 b5
    have L2a_5 := Lst.lh L2a_4 b5
    have L3a_5 := Lst.lh L3a_4 b5
    have L3b_5 := Lst.lh L3b_4 b5
    have B5 : Hid (Below w.heap.size w w5) := B4.out.trans (b5.mono B4.out.size)
    have ha5 := cell_later b5 ha4; have hb5 := cell_later b5 hb4
    clear l5a b5
    go_wp2_with fail
    refine (neg_any (szn A (m + 1) / szn Bn (m + 1)) (m + 1) hn0 (by omega) HS.out.2.2.2.1 _ _ _ L5a.out L3a_5.out).mono ?_
    rintro e w6 ⟨v6a, rfl, l6a, b6⟩
    have L6a : Hid (Lst w6 v6a (bl (ngn (szn A (m + 1) / szn Bn (m + 1)) (m + 1)) (m + 1))) := l6a
    have La_6 := Lst.lh La_5 b6
    have Lb_6 := Lst.lh Lb_5 b6
    have L1a_6 := Lst.lh L1a_5 b6
    have L2a_6 := Lst.lh L2a_5 b6
    have L3a_6 := Lst.lh L3a_5 b6
    have L3b_6 := Lst.lh L3b_5 b6
    have L5a_6 := Lst.lh L5a b6
    have B6 : Hid (Below w.heap.size w w6) := B5.out.trans (b6.mono B5.out.size)
    have ha6 := cell_later b6 ha5; have hb6 := cell_later b6 hb5
    clear l6a b6
    go_wp2
    go_ret2
    exact ⟨_, _, rfl, L6a.out, L3b_6.out, B6.out⟩
  · have eq : sq A Bn (m + 1) = ngn (szn A (m + 1) / szn Bn (m + 1)) (m + 1) := by unfold sq; rw [hm, ea, eb]; rfl
    have er : sr A Bn (m + 1) = ngn (szn A (m + 1) % szn Bn (m + 1)) (m + 1) := by unfold sr; rw [hm, ea]; rfl
    rw [eq, er]
    rw [ea] at ha0; rw [eb] at hb0
    clear eq er ea eb hm
    go_enter Try.func89, Try.ntmps89
    go_wp2_with fail
    refine (size_any A (m + 1) hn0 (by omega) HS.out.2.2.2.2.2.1 _ _ La.out).mono ?_
    rintro e w1 ⟨v1a, rfl, l1a, b1⟩
    have L1a : Hid (Lst w1 v1a (bl (szn A (m + 1)) (m + 1))) := l1a
    have La_1 := Lst.lh La b1
    have Lb_1 := Lst.lh Lb b1
    have B1 : Hid (Below w.heap.size w w1) := b1
    have ha1 := cell_later b1 ha0; have hb1 := cell_later b1 hb0
    clear l1a b1
    go_wp2_with fail
    refine (size_any Bn (m + 1) hn0 (by omega) HS.out.2.2.2.2.2.2 _ _ Lb_1.out).mono ?_
    rintro e w2 ⟨v2a, rfl, l2a, b2⟩
    have L2a : Hid (Lst w2 v2a (bl (szn Bn (m + 1)) (m + 1))) := l2a
    have La_2 := Lst.lh La_1 b2
    have Lb_2 := Lst.lh Lb_1 b2
    have L1a_2 := Lst.lh L1a b2
    have B2 : Hid (Below w.heap.size w w2) := B1.out.trans (b2.mono B1.out.size)
    have ha2 := cell_later b2 ha1; have hb2 := cell_later b2 hb1
    clear l2a b2
    go_wp2_with fail
    refine (divided_any (szn A (m + 1)) (szn Bn (m + 1)) (m + 1) hn0 hn HS.out.1 HS.out.2.1 HS.out.2.2.1 _ _ _ L1a_2.out L2a.out).mono ?_
    rintro e w3 ⟨v3a, v3b, rfl, l3a, l3b, b3⟩
    have L3a : Hid (Lst w3 v3a (bl (szn A (m + 1) / szn Bn (m + 1)) (m + 1))) := l3a
    have L3b : Hid (Lst w3 v3b (bl (szn A (m + 1) % szn Bn (m + 1)) (m + 1))) := l3b
    have La_3 := Lst.lh La_2 b3
    have Lb_3 := Lst.lh Lb_2 b3
    have L1a_3 := Lst.lh L1a_2 b3
    have L2a_3 := Lst.lh L2a b3
    have B3 : Hid (Below w.heap.size w w3) := B2.out.trans (b3.mono B2.out.size)
    have ha3 := cell_later b3 ha2; have hb3 := cell_later b3 hb2
    clear l3a l3b b3
    go_wp2_with fail
    go_quiet (fail)
    have b4 : Below w3.heap.size w3 (w3.drewN nq) := below_drewN (Below.refl _ _) _
    generalize w3.drewN nq = w4 at b4 ⊢
    have La_4 := Lst.lh La_3 b4
    have Lb_4 := Lst.lh Lb_3 b4
    have L1a_4 := Lst.lh L1a_3 b4
    have L2a_4 := Lst.lh L2a_3 b4
    have L3a_4 := Lst.lh L3a b4
    have L3b_4 := Lst.lh L3b b4
    have B4 : Hid (Below w.heap.size w w4) := B3.out.trans (b4.mono B3.out.size)
    have ha4 := cell_later b4 ha3; have hb4 := cell_later b4 hb3
    clear  b4
    go_wp2_with fail
    refine (zeros_lst (m + 1) (by omega) _).mono ?_
    rintro e w5 ⟨v5a, rfl, l5a, b5⟩
    have L5a : Hid (Lst w5 v5a (bl 0 (m + 1))) := l5a
    have La_5 := Lst.lh La_4 b5
    have Lb_5 := Lst.lh Lb_4 b5
    have L1a_5 := Lst.lh L1a_4 b5
    have L2a_5 := Lst.lh L2a_4 b5
    have L3a_5 := Lst.lh L3a_4 b5
    have L3b_5 := Lst.lh L3b_4 b5
    have B5 : Hid (Below w.heap.size w w5) := B4.out.trans (b5.mono B4.out.size)
    have ha5 := cell_later b5 ha4; have hb5 := cell_later b5 hb4
    clear l5a b5
    go_wp2_with fail
    refine (neg_any (szn A (m + 1) / szn Bn (m + 1)) (m + 1) hn0 (by omega) HS.out.2.2.2.1 _ _ _ L5a.out L3a_5.out).mono ?_
    rintro e w6 ⟨v6a, rfl, l6a, b6⟩
    have L6a : Hid (Lst w6 v6a (bl (ngn (szn A (m + 1) / szn Bn (m + 1)) (m + 1)) (m + 1))) := l6a
    have La_6 := Lst.lh La_5 b6
    have Lb_6 := Lst.lh Lb_5 b6
    have L1a_6 := Lst.lh L1a_5 b6
    have L2a_6 := Lst.lh L2a_5 b6
    have L3a_6 := Lst.lh L3a_5 b6
    have L3b_6 := Lst.lh L3b_5 b6
    have L5a_6 := Lst.lh L5a b6
    have B6 : Hid (Below w.heap.size w w6) := B5.out.trans (b6.mono B5.out.size)
    have ha6 := cell_later b6 ha5; have hb6 := cell_later b6 hb5
    clear l6a b6
    go_wp2_with fail
    refine (zeros_lst (m + 1) (by omega) _).mono ?_
    rintro e w7 ⟨v7a, rfl, l7a, b7⟩
    have L7a : Hid (Lst w7 v7a (bl 0 (m + 1))) := l7a
    have La_7 := Lst.lh La_6 b7
    have Lb_7 := Lst.lh Lb_6 b7
    have L1a_7 := Lst.lh L1a_6 b7
    have L2a_7 := Lst.lh L2a_6 b7
    have L3a_7 := Lst.lh L3a_6 b7
    have L3b_7 := Lst.lh L3b_6 b7
    have L5a_7 := Lst.lh L5a_6 b7
    have L6a_7 := Lst.lh L6a b7
    have B7 : Hid (Below w.heap.size w w7) := B6.out.trans (b7.mono B6.out.size)
    have ha7 := cell_later b7 ha6; have hb7 := cell_later b7 hb6
    clear l7a b7
    go_wp2_with fail
    refine (neg_any (szn A (m + 1) % szn Bn (m + 1)) (m + 1) hn0 (by omega) HS.out.2.2.2.2.1 _ _ _ L7a.out L3b_7.out).mono ?_
    rintro e w8 ⟨v8a, rfl, l8a, b8⟩
    have L8a : Hid (Lst w8 v8a (bl (ngn (szn A (m + 1) % szn Bn (m + 1)) (m + 1)) (m + 1))) := l8a
    have La_8 := Lst.lh La_7 b8
    have Lb_8 := Lst.lh Lb_7 b8
    have L1a_8 := Lst.lh L1a_7 b8
    have L2a_8 := Lst.lh L2a_7 b8
    have L3a_8 := Lst.lh L3a_7 b8
    have L3b_8 := Lst.lh L3b_7 b8
    have L5a_8 := Lst.lh L5a_7 b8
    have L6a_8 := Lst.lh L6a_7 b8
    have L7a_8 := Lst.lh L7a b8
    have B8 : Hid (Below w.heap.size w w8) := B7.out.trans (b8.mono B7.out.size)
    have ha8 := cell_later b8 ha7; have hb8 := cell_later b8 hb7
    clear l8a b8
    go_wp2
    go_ret2
    exact ⟨_, _, rfl, L6a_8.out, L8a.out, B8.out⟩
  · have eq : sq A Bn (m + 1) = szn A (m + 1) / szn Bn (m + 1) := by unfold sq; rw [hm, ea, eb]; rfl
    have er : sr A Bn (m + 1) = ngn (szn A (m + 1) % szn Bn (m + 1)) (m + 1) := by unfold sr; rw [hm, ea]; rfl
    rw [eq, er]
    rw [ea] at ha0; rw [eb] at hb0
    clear eq er ea eb hm
    go_enter Try.func89, Try.ntmps89
    go_wp2_with fail
    refine (size_any A (m + 1) hn0 (by omega) HS.out.2.2.2.2.2.1 _ _ La.out).mono ?_
    rintro e w1 ⟨v1a, rfl, l1a, b1⟩
    have L1a : Hid (Lst w1 v1a (bl (szn A (m + 1)) (m + 1))) := l1a
    have La_1 := Lst.lh La b1
    have Lb_1 := Lst.lh Lb b1
    have B1 : Hid (Below w.heap.size w w1) := b1
    have ha1 := cell_later b1 ha0; have hb1 := cell_later b1 hb0
    clear l1a b1
    go_wp2_with fail
    refine (size_any Bn (m + 1) hn0 (by omega) HS.out.2.2.2.2.2.2 _ _ Lb_1.out).mono ?_
    rintro e w2 ⟨v2a, rfl, l2a, b2⟩
    have L2a : Hid (Lst w2 v2a (bl (szn Bn (m + 1)) (m + 1))) := l2a
    have La_2 := Lst.lh La_1 b2
    have Lb_2 := Lst.lh Lb_1 b2
    have L1a_2 := Lst.lh L1a b2
    have B2 : Hid (Below w.heap.size w w2) := B1.out.trans (b2.mono B1.out.size)
    have ha2 := cell_later b2 ha1; have hb2 := cell_later b2 hb1
    clear l2a b2
    go_wp2_with fail
    refine (divided_any (szn A (m + 1)) (szn Bn (m + 1)) (m + 1) hn0 hn HS.out.1 HS.out.2.1 HS.out.2.2.1 _ _ _ L1a_2.out L2a.out).mono ?_
    rintro e w3 ⟨v3a, v3b, rfl, l3a, l3b, b3⟩
    have L3a : Hid (Lst w3 v3a (bl (szn A (m + 1) / szn Bn (m + 1)) (m + 1))) := l3a
    have L3b : Hid (Lst w3 v3b (bl (szn A (m + 1) % szn Bn (m + 1)) (m + 1))) := l3b
    have La_3 := Lst.lh La_2 b3
    have Lb_3 := Lst.lh Lb_2 b3
    have L1a_3 := Lst.lh L1a_2 b3
    have L2a_3 := Lst.lh L2a b3
    have B3 : Hid (Below w.heap.size w w3) := B2.out.trans (b3.mono B2.out.size)
    have ha3 := cell_later b3 ha2; have hb3 := cell_later b3 hb2
    clear l3a l3b b3
    go_wp2_with fail
    go_quiet (fail)
    have b4 : Below w3.heap.size w3 (w3.drewN nq) := below_drewN (Below.refl _ _) _
    generalize w3.drewN nq = w4 at b4 ⊢
    have La_4 := Lst.lh La_3 b4
    have Lb_4 := Lst.lh Lb_3 b4
    have L1a_4 := Lst.lh L1a_3 b4
    have L2a_4 := Lst.lh L2a_3 b4
    have L3a_4 := Lst.lh L3a b4
    have L3b_4 := Lst.lh L3b b4
    have B4 : Hid (Below w.heap.size w w4) := B3.out.trans (b4.mono B3.out.size)
    have ha4 := cell_later b4 ha3; have hb4 := cell_later b4 hb3
    clear  b4
    go_wp2_with fail
    refine (zeros_lst (m + 1) (by omega) _).mono ?_
    rintro e w5 ⟨v5a, rfl, l5a, b5⟩
    have L5a : Hid (Lst w5 v5a (bl 0 (m + 1))) := l5a
    have La_5 := Lst.lh La_4 b5
    have Lb_5 := Lst.lh Lb_4 b5
    have L1a_5 := Lst.lh L1a_4 b5
    have L2a_5 := Lst.lh L2a_4 b5
    have L3a_5 := Lst.lh L3a_4 b5
    have L3b_5 := Lst.lh L3b_4 b5
    have B5 : Hid (Below w.heap.size w w5) := B4.out.trans (b5.mono B4.out.size)
    have ha5 := cell_later b5 ha4; have hb5 := cell_later b5 hb4
    clear l5a b5
    go_wp2_with fail
    refine (neg_any (szn A (m + 1) % szn Bn (m + 1)) (m + 1) hn0 (by omega) HS.out.2.2.2.2.1 _ _ _ L5a.out L3b_5.out).mono ?_
    rintro e w6 ⟨v6a, rfl, l6a, b6⟩
    have L6a : Hid (Lst w6 v6a (bl (ngn (szn A (m + 1) % szn Bn (m + 1)) (m + 1)) (m + 1))) := l6a
    have La_6 := Lst.lh La_5 b6
    have Lb_6 := Lst.lh Lb_5 b6
    have L1a_6 := Lst.lh L1a_5 b6
    have L2a_6 := Lst.lh L2a_5 b6
    have L3a_6 := Lst.lh L3a_5 b6
    have L3b_6 := Lst.lh L3b_5 b6
    have L5a_6 := Lst.lh L5a b6
    have B6 : Hid (Below w.heap.size w w6) := B5.out.trans (b6.mono B5.out.size)
    have ha6 := cell_later b6 ha5; have hb6 := cell_later b6 hb5
    clear l6a b6
    go_wp2
    go_ret2
    exact ⟨_, _, rfl, L3a_6.out, L6a.out, B6.out⟩
end Go.Proofs.Ythnjppfgdkiaaac
