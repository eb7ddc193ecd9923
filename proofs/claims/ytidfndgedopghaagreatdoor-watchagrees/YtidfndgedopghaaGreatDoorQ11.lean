/-
  Pbk Pbm.
-/
import Derived.Test.YtidfndgedopghaaGreatDoorQ07
namespace Go.Proofs.YtidfndgedopghaaGreatDoor
set_option linter.unusedVariables false
open Go.ChangeShapes Go.WideShapes Go.ChangeAt Go.RowKit Go.Deep
/-- Whether the Cfg, the Addr takes no write. -/
def cL (c : Nat → BitVec 8) (i : Int) : Bool := if 0 ≤ i ∧ i < 16 then lk (c i.toNat) else true
def nx (c : Nat → BitVec 8) (k : Nat) : Bool := decide (k < 15) && lk (c (k + 1)) && decide (kd (c (k + 1)) = 1#8)
def aL (c : Nat → BitVec 8) (i : Int) : Bool := if 0 ≤ i ∧ i < 16 then (lk (c i.toNat) || nx c i.toNat) else true
theorem cL_in (c : Nat → BitVec 8) (k : Nat) (h : k < 16) : cL c k = lk (c k) := by unfold cL; rw [if_pos (by omega)]; simp
theorem cL_out (c : Nat → BitVec 8) (i : Int) (h : ¬ (0 ≤ i ∧ i < 16)) : cL c i = true := by unfold cL; rw [if_neg h]
theorem aL_in (c : Nat → BitVec 8) (k : Nat) (h : k < 16) : aL c k = (lk (c k) || nx c k) := by unfold aL; rw [if_pos (by omega)]; simp
theorem aL_out (c : Nat → BitVec 8) (i : Int) (h : ¬ (0 ≤ i ∧ i < 16)) : aL c i = true := by unfold aL; rw [if_neg h]
theorem row_cfg {w : World} {g : Nat} {c : Nat → BitVec 8} {a : Nat → BitVec 64} {t : TypeId} (h : Row w g (ec c a) t) (k : Nat) (hk : k < 16) : w.cell? ⟨g, k * 2, none⟩ = some (.int .u8 (n8 (c k))) := by
  rw [h.cell, ec_at _ _ _ (by omega), ecell, if_pos (by omega), Nat.mul_div_cancel _ (by omega)]
theorem row_addr {w : World} {g : Nat} {c : Nat → BitVec 8} {a : Nat → BitVec 64} {t : TypeId} (h : Row w g (ec c a) t) (k : Nat) (hk : k < 16) : w.cell? ⟨g, k * 2 + 1, none⟩ = some (.int .u64 (n64 (a k))) := by
  rw [h.cell, ec_at _ _ _ (by omega), ecell, if_neg (by omega), show (k * 2 + 1) / 2 = k by omega]
theorem prow_cfg {w : World} {g : Nat} {c : Nat → BitVec 8} {a : Nat → BitVec 64} {t : TypeId} (h : Row w g (pc c a) t) (k : Nat) (hk : k < 16) : w.cell? ⟨g, k, none⟩ = some (.int .u8 (n8 (c k))) := by
  rw [h.cell, pc_at _ _ _ (by omega), pcell, if_pos hk]
theorem prow_addr {w : World} {g : Nat} {c : Nat → BitVec 8} {a : Nat → BitVec 64} {t : TypeId} (h : Row w g (pc c a) t) (k : Nat) (hk : k < 16) : w.cell? ⟨g, 16 + k, none⟩ = some (.int .u64 (n64 (a k))) := by
  rw [h.cell, pc_at _ _ _ (by omega), pcell, if_neg (by omega), Nat.add_sub_cancel_left]
set_option maxRecDepth 100000 in
set_option maxHeartbeats 1000000 in
theorem cfgLocked_c (c : Nat → BitVec 8) (a : Nat → BitVec 64) (g : Nat) (i : Int) (w : World) (hg : Row w g (ec c a) 89) :
    Calls Tryz.prog 161 #[.pointer (some ⟨g, 0, none⟩), .int .i64 i] w fun e w' => e = .returned (.bool (cL c i)) ∧ Below w.heap.size w w' := by
  have hE := isEntry_c i w
  by_cases h : 0 ≤ i ∧ i < 16
  · obtain ⟨k, rfl⟩ : ∃ k : Nat, i = k := ⟨i.toNat, by omega⟩
    have hk : k < 16 := by omega
    have hk2 : (k : Int) < 16 := by omega
    rw [decide_eq_true h] at hE
    rw [cL_in c k hk]
    have c0 := row_cfg hg k hk
    have c1 := row_addr hg k hk
    have hB := elocked_c (c k) (.int .u64 (n64 (a k))) w
    generalize lk (c k) = r at hB ⊢
    have HE : Hid (Calls Tryz.prog 172 #[.int .i64 k] w fun e w' => e = .returned (.bool true) ∧ w' = w) := hE
    have HB : Hid (Calls Tryz.prog 173 #[.agg #[.int .u8 (n8 (c k)), .int .u64 (n64 (a k))]] w fun e w' => e = .returned (.bool r) ∧ Below w.heap.size w w') := hB
    clear hE hB hg h
    go_enter Tryz.func161, Tryz.ntmps161
    go_wp2_with (first | (go_at_call 172; refine HE.out.mono ?_; rintro e w1 ⟨rfl, hw⟩; have hw2 := hw.symm; subst hw2) | (go_at_call 173; refine HB.out.mono ?_; rintro e w1 ⟨rfl, hb⟩))
    go_ret
    exact ⟨rfl, hb⟩
  · rw [decide_eq_false h] at hE
    rw [cL_out c i h]
    have HE : Hid (Calls Tryz.prog 172 #[.int .i64 i] w fun e w' => e = .returned (.bool false) ∧ w' = w) := hE
    clear hE hg h
    go_enter Tryz.func161, Tryz.ntmps161
    go_wp2_with (go_at_call 172; refine HE.out.mono ?_; rintro e w1 ⟨rfl, hw⟩; have hw2 := hw.symm; subst hw2)
    go_ret
    exact ⟨rfl, Below.refl _ _⟩
set_option maxRecDepth 100000 in
set_option maxHeartbeats 1000000 in
theorem addrLocked_c (c : Nat → BitVec 8) (a : Nat → BitVec 64) (g : Nat) (i : Int) (w : World) (hg : Row w g (ec c a) 89) :
    Calls Tryz.prog 162 #[.pointer (some ⟨g, 0, none⟩), .int .i64 i] w fun e w' => e = .returned (.bool (aL c i)) ∧ Below w.heap.size w w' := by
  have hE := cfgLocked_c c a g i w hg
  by_cases h : 0 ≤ i ∧ i < 16
  · obtain ⟨k, rfl⟩ : ∃ k : Nat, i = k := ⟨i.toNat, by omega⟩
    have hk : k < 16 := by omega
    have hk2 : (k : Int) < 16 := by omega
    rw [cL_in c k hk] at hE
    rw [aL_in c k hk]
    have HG : Hid (Row w g (ec c a) 89) := hg
    have hlg := hg.lt
    clear h hg
    cases hl : lk (c k) with
    | true =>
      rw [hl] at hE
      simp only [Bool.true_or]
      have HE : Hid (Calls Tryz.prog 161 #[.pointer (some ⟨g, 0, none⟩), .int .i64 k] w fun e w' => e = .returned (.bool true) ∧ Below w.heap.size w w') := hE
      clear hE hl
      go_enter Tryz.func162, Tryz.ntmps162
      go_wp2_with (go_at_call 161; refine HE.out.mono ?_; rintro e w1 ⟨rfl, hb⟩)
      go_ret
      exact ⟨rfl, hb⟩
    | false =>
      rw [hl] at hE
      simp only [Bool.false_or]
      have HE : Hid (Calls Tryz.prog 161 #[.pointer (some ⟨g, 0, none⟩), .int .i64 k] w fun e w' => e = .returned (.bool false) ∧ Below w.heap.size w w') := hE
      clear hE hl
      by_cases hk15 : k < 15
      · have hk3 : (k : Int) + 1 < 16 := by omega
        have c0 := row_cfg HG.out (k + 1) (by omega)
        have c1 := row_addr HG.out (k + 1) (by omega)
        have HC0 : Hid (∀ w1, Below w.heap.size w w1 → w1.cell? ⟨g, (k + 1) * 2, none⟩ = some (.int .u8 (n8 (c (k + 1))))) := fun w1 hb => (hb.cell (p := ⟨g, (k + 1) * 2, none⟩) hlg).trans c0
        have HC1 : Hid (∀ w1, Below w.heap.size w w1 → w1.cell? ⟨g, (k + 1) * 2 + 1, none⟩ = some (.int .u64 (n64 (a (k + 1))))) := fun w1 hb => (hb.cell (p := ⟨g, (k + 1) * 2 + 1, none⟩) hlg).trans c1
        clear c0 c1
        have hq : nx c k = (lk (c (k + 1)) && decide (kd (c (k + 1)) = 1#8)) := by unfold nx; simp [hk15]
        rw [hq]
        have HL : Hid (∀ w1, Calls Tryz.prog 173 #[.agg #[.int .u8 (n8 (c (k + 1))), .int .u64 (n64 (a (k + 1)))]] w1 fun e w' => e = .returned (.bool (lk (c (k + 1)))) ∧ Below w1.heap.size w1 w') := fun w1 => elocked_c _ _ w1
        have HK : Hid (∀ w1, Calls Tryz.prog 157 #[.agg #[.int .u8 (n8 (c (k + 1))), .int .u64 (n64 (a (k + 1)))]] w1 fun e w' => e = .returned (.int .u8 (n8 (kd (c (k + 1))))) ∧ Below w1.heap.size w1 w') := fun w1 => ekind_c _ _ w1
        clear hq
        cases hl2 : lk (c (k + 1)) with
        | false =>
          rw [hl2] at HL
          simp only [Bool.false_and]
          clear hl2
          go_enter Tryz.func162, Tryz.ntmps162
          go_wp2_with (first | (go_at_call 161; refine HE.out.mono ?_; rintro e w1 ⟨rfl, hb⟩; have HB1 : Hid (Below w.heap.size w w1) := hb; clear hb; have d0 := HC0.out w1 HB1.out; have d1 := HC1.out w1 HB1.out) | (go_at_call 173; refine (HL.out _).mono ?_; rintro e w2 ⟨rfl, hb⟩; have HB2 : Hid (Below w1.heap.size w1 w2) := hb; clear hb))
          go_ret
          exact ⟨rfl, HB1.out.trans (HB2.out.mono HB1.out.size)⟩
        | true =>
          rw [hl2] at HL
          simp only [Bool.true_and]
          clear hl2
          have HQ : Hid ((n8 (kd (c (k + 1))) == 1) = decide (kd (c (k + 1)) = 1#8)) := by
            by_cases e1 : kd (c (k + 1)) = 1#8
            · rw [e1]; rfl
            · have : ¬ n8 (kd (c (k + 1))) = 1 := fun q => e1 (n8_inj.1 (q.trans rfl))
              unfold Hid; simp [this, e1]
          generalize decide (kd (c (k + 1)) = 1#8) = q at HQ ⊢
          generalize kd (c (k + 1)) = z at HQ HK
          have hq2 := HQ.out
          go_enter Tryz.func162, Tryz.ntmps162
          go_wp2_with (first | (go_at_call 161; refine HE.out.mono ?_; rintro e w1 ⟨rfl, hb⟩; have HB1 : Hid (Below w.heap.size w w1) := hb; clear hb; have d0 := HC0.out w1 HB1.out; have d1 := HC1.out w1 HB1.out) | (go_at_call 173; refine (HL.out _).mono ?_; rintro e w2 ⟨rfl, hb⟩; have HB2 : Hid (Below w.heap.size w w2) := HB1.out.trans (hb.mono HB1.out.size); clear hb; have d2 := HC0.out w2 HB2.out; have d3 := HC1.out w2 HB2.out) | (go_at_call 157; refine (HK.out _).mono ?_; rintro e w3 ⟨rfl, hb⟩; have HB3 : Hid (Below w.heap.size w w3) := HB2.out.trans (hb.mono HB2.out.size); clear hb))
          go_ret
          exact ⟨by simp_all, HB3.out⟩
      · have hk3 : ¬ (k : Int) + 1 < 16 := by omega
        have hq : nx c k = false := by unfold nx; simp [hk15]
        rw [hq]
        clear hq
        obtain rfl : k = 15 := by omega
        have e15 : ((15 : Nat) : Int) = 15 := rfl
        rw [e15] at HE ⊢
        clear hk hk2 hk3 hk15
        go_enter Tryz.func162, Tryz.ntmps162
        go_wp2_with (go_at_call 161; refine HE.out.mono ?_; rintro e w1 ⟨rfl, hb⟩)
        go_ret
        exact ⟨rfl, hb⟩
  · rw [cL_out c i h] at hE
    rw [aL_out c i h]
    have HE : Hid (Calls Tryz.prog 161 #[.pointer (some ⟨g, 0, none⟩), .int .i64 i] w fun e w' => e = .returned (.bool true) ∧ Below w.heap.size w w') := hE
    clear hE hg h
    go_enter Tryz.func162, Tryz.ntmps162
    go_wp2_with (go_at_call 161; refine HE.out.mono ?_; rintro e w1 ⟨rfl, hb⟩)
    go_ret
    exact ⟨rfl, hb⟩
end Go.Proofs.YtidfndgedopghaaGreatDoor
namespace Go.Proofs.YtidfndgedopghaaGreatDoor
set_option linter.unusedVariables false
open Go.ChangeShapes Go.WideShapes Go.ChangeAt Go.RowKit Go.Deep
theorem lk_shr : ∀ x : BitVec 8, (n8 (x >>> 7) == 1) = lk x := by decide +kernel
theorem kd_i64 : ∀ x : BitVec 8, bits .and .i64 (n8 (x >>> 3)) 3 = n8 (kd x) := by decide +kernel
theorem n8_wrap64 (x : BitVec 8) : wrap64 (n8 x) = n8 x := by have := n8_lo x; have := n8_hi x; unfold wrap64; omega
theorem n8_div128 (x : BitVec 8) : n8 x / (128 : Int) = n8 (x >>> 7) := n8_shr x 7
theorem n8_div8 (x : BitVec 8) : n8 x / (8 : Int) = n8 (x >>> 3) := n8_shr x 3
set_option maxRecDepth 100000 in
set_option maxHeartbeats 1000000 in
theorem Locked_c (c : Nat → BitVec 8) (a : Nat → BitVec 64) (i : Int) (w : World) :
    Calls Tryz.prog 136 #[.agg (pc c a), .int .i64 i] w fun e w' => e = .returned (.tuple #[.bool (cL (PC c) i), .bool (aL (PC c) i)]) ∧ Below w.heap.size w w' := by
  obtain ⟨W0, hW0, r0, b0, s0⟩ := start1 w (pc c a) 28
  have HS : Hid (W0.heap.size = w.heap.size + 1) := s0
  clear s0
  have hcc : Hid (∀ (g : Nat) (W : World), Row W g (ec (PC c) (PA a)) 89 → Calls Tryz.prog 161 #[.pointer (some ⟨g, 0, none⟩), .int .i64 i] W fun e w' => e = .returned (.bool (cL (PC c) i)) ∧ Below W.heap.size W w') := fun g W h => cfgLocked_c _ _ g i W h
  have hca : Hid (∀ (g : Nat) (W : World), Row W g (ec (PC c) (PA a)) 89 → Calls Tryz.prog 162 #[.pointer (some ⟨g, 0, none⟩), .int .i64 i] W fun e w' => e = .returned (.bool (aL (PC c) i)) ∧ Below W.heap.size W w') := fun g W h => addrLocked_c _ _ g i W h
  generalize cL (PC c) i = x1 at hcc ⊢
  generalize aL (PC c) i = x2 at hca ⊢
  go_enter Tryz.func136, Tryz.ntmps136
  go_upto_region 1 with fail
  clear hW0
  go_wp2_with (first | (refine wpList_load_row (by rfl) _ _ (by rfl) _ (by rfl) 28 _ (0, 0) _ r0.out Tryz.underlying28 (by rfl) (by rw [pc_size]; kernel_rfl) ?_) | (go_at_call 53; refine (of_p c a _).mono ?_; rintro e w1 ⟨rfl, hb1⟩; have HB1 : Hid (Below W0.heap.size W0 w1) := hb1; clear hb1) | (go_at_call 161; refine (hcc.out _ _ (Row.new w1 _ _)).mono ?_; rintro e w2 ⟨rfl, hb⟩; have HB2 : Hid (Below (w1.heap.size + 1) (w1.alloc (.cells (ec (PC c) (PA a)) 89)) w2) := (by simpa [Hid] using hb); clear hb) | (go_at_call 162; refine (hca.out w1.heap.size w2 ((Row.new w1 _ _).later HB2.out (by omega))).mono ?_; rintro e w3 ⟨rfl, hb⟩; have HB3 : Hid (Below w2.heap.size w2 w3) := hb; clear hb) | (refine wpList_store_new (by rfl) _ _ _ (by rfl) (by rfl) _ _ (by rfl) (by rfl) (by rw [ec_size]; kernel_rfl) (by rw [ec_size]; rfl) (ec_ones _ _) ?_))
  go_ret2
  refine ⟨rfl, ?_⟩
  have t1 : Below w.heap.size w w1 := b0.out.trans (HB1.out.mono (by rw [HS.out]; omega))
  have t2 : Below w.heap.size w (w1.alloc (.cells (ec (PC c) (PA a)) 89)) := t1.alloc t1.size _
  have t3 : Below w.heap.size w w2 := t2.trans (HB2.out.mono (Nat.le_trans t1.size (by omega)))
  exact t3.trans (HB3.out.mono t3.size)
set_option maxRecDepth 100000 in
set_option maxHeartbeats 1000000 in
theorem rlocked_c (c : Nat → BitVec 8) (a : Nat → BitVec 64) (k : Nat) (hk : k < 16) (w : World) :
    Calls Tryz.prog 167 #[.agg (pc c a), .int .i64 k] w fun e w' => e = .returned (.bool (lk (c k))) ∧ Below w.heap.size w w' := by
  obtain ⟨W0, hW0, r0, b0, s0⟩ := start1 w (pc c a) 28
  clear s0
  have c0 := prow_cfg r0.out k hk
  have hk2 : (k : Int) < 16 := by omega
  have h1 := n8_div128 (c k)
  have h2 := lk_shr (c k)
  generalize lk (c k) = q at h2 ⊢
  generalize c k >>> 7 = z at h1 h2
  go_enter Tryz.func167, Tryz.ntmps167
  go_wp2
  go_ret
  exact ⟨by simp_all, b0.out⟩
set_option maxRecDepth 100000 in
set_option maxHeartbeats 1000000 in
theorem rkind_c (c : Nat → BitVec 8) (a : Nat → BitVec 64) (k : Nat) (hk : k < 16) (w : World) :
    Calls Tryz.prog 168 #[.agg (pc c a), .int .i64 k] w fun e w' => e = .returned (.int .i64 (n8 (kd (c k)))) ∧ Below w.heap.size w w' := by
  obtain ⟨W0, hW0, r0, b0, s0⟩ := start1 w (pc c a) 28
  clear s0
  have c0 := prow_cfg r0.out k hk
  have hk2 : (k : Int) < 16 := by omega
  have h1 := n8_div8 (c k)
  have h2 := kd_i64 (c k)
  have h3 := n8_wrap64 (c k >>> 3)
  generalize kd (c k) = q at h2 ⊢
  generalize c k >>> 3 = z at h1 h2 h3
  go_enter Tryz.func168, Tryz.ntmps168
  go_wp2
  go_ret
  exact ⟨by simp_all, b0.out⟩
theorem wpList_load_rowG {P : Program} {ops : Array Oper} {rest : List Oper} {o : Oper} {a : Act} {w : World} {Q : Exit → Act → World → Prop} (hw : Region.wanted o (yielded ops a.tmps) = true) (ty : TypeId) (x : Operand) (ho : o.op = .load ty x)
    (g : Nat) (hx : a.eval x = .pointer (some ⟨g, 0, none⟩)) (t : TypeId) (cs : Array Value) (fr : Nat × Nat) (d : TypeDesc) (hg : w.heap[g]? = some (.cells cs t fr))
    (hu : P.underlying ty = some d) (hd : (match d with | .struct _ | .array _ _ => true | _ => false) = true) (hi : (P.info? ty).map (·.size) = some cs.size)
    (h : wpList P ops Q rest (a.put o.dst (.agg cs)) w) : wpList P ops Q (o :: rest) a w :=
  BigFrame.wpList_want hw fun _ hK => wp_load_row ty x ho g hx t cs fr d hg hu hd hi (hK _ _ h)
/-- A boxed api.Pmp made proper in its place. -/
theorem start_p {w W0 w1 : World} {c : Nat → BitVec 8} {a : Nat → BitVec 64} {T : TypeId} (q : Array Value) (r0 : Row W0 w.heap.size (pc c a) T) (b0 : Below w.heap.size w W0) (hs : w.heap.size < W0.heap.size) (b1 : Below W0.heap.size W0 w1) :
    ∃ W, w1.setRow w.heap.size q = W ∧ Hid (Row W w.heap.size q T) ∧ Hid (Below w.heap.size w W) ∧ Hid (w.heap.size < W.heap.size) :=
  ⟨_, rfl, setRow_heap _ _ _ _ _ _ (r0.later b1 hs), below_row (b0.trans (b1.mono (by omega))) (Nat.le_refl _) _, by unfold Hid; rw [size_setRow]; exact Nat.lt_of_lt_of_le hs b1.size⟩
set_option maxRecDepth 100000 in
set_option maxHeartbeats 1000000 in
theorem rLocked_out (c : Nat → BitVec 8) (a : Nat → BitVec 64) (i : Int) (h : ¬ (0 ≤ i ∧ i < 16)) (w : World) :
    Calls Tryz.prog 148 #[.agg (pc c a), .int .i64 i] w fun e w' => e = .returned (.tuple #[.bool (cL (PC c) i), .bool (aL (PC c) i)]) ∧ Below w.heap.size w w' := by
  obtain ⟨W0, hW0, r0, b0, s0⟩ := start1 w (pc c a) 28
  have HS : Hid (W0.heap.size = w.heap.size + 1) := s0
  clear s0
  rw [cL_out _ _ h, aL_out _ _ h]
  go_enter Tryz.func148, Tryz.ntmps148
  go_upto_region 1 with fail
  clear hW0
  go_upto_region 2 with (first | (refine wpList_load_rowG (by rfl) _ _ (by rfl) _ (by rfl) 28 _ (0, 0) _ r0.out Tryz.underlying28 (by rfl) (by rw [pc_size]; kernel_rfl) ?_) | (go_at_call 47; refine (rProper_c c a _).mono ?_; rintro e w1 ⟨rfl, hb1⟩; have HB1 : Hid (Below W0.heap.size W0 w1) := hb1; clear hb1) | (refine wpList_store_row (by rfl) _ _ _ (by rfl) (by rfl) _ _ _ (by rfl) (by rfl) (r0.out.later HB1.out (by rw [HS.out]; omega)) (by rw [pc_size]; kernel_rfl) (by rw [pc_size, pc_size]) (pc_ones _ _) ?_))
  obtain ⟨W2, hW2, r2, b2, s2⟩ := start_p (pc (PC c) (PA a)) r0.out b0.out (by rw [HS.out]; omega) HB1.out
  rw [hW2]
  clear hW2
  by_cases h0 : i < 0
  · go_wp2
    go_ret2
    exact ⟨rfl, b2.out⟩
  · have h1 : (15 : Int) < i := by omega
    go_wp2
    go_ret2
    exact ⟨rfl, b2.out⟩
set_option maxRecDepth 100000 in
set_option maxHeartbeats 1000000 in
theorem rLocked_in (c : Nat → BitVec 8) (a : Nat → BitVec 64) (k : Nat) (hk : k < 16) (w : World) :
    Calls Tryz.prog 148 #[.agg (pc c a), .int .i64 k] w fun e w' => e = .returned (.tuple #[.bool (cL (PC c) k), .bool (aL (PC c) k)]) ∧ Below w.heap.size w w' := by
  obtain ⟨W0, hW0, r0, b0, s0⟩ := start1 w (pc c a) 28
  have HS : Hid (W0.heap.size = w.heap.size + 1) := s0
  clear s0
  rw [cL_in _ _ hk, aL_in _ _ hk]
  have hk2 : (k : Int) < 16 := by omega
  obtain ⟨q2, hq2⟩ : ∃ q2, q2 = (lk (PC c k) || nx (PC c) k) := ⟨_, rfl⟩
  rw [← hq2]
  have HQ2 : Hid (q2 = (lk (PC c k) || nx (PC c) k)) := hq2
  clear hq2
  have HL0 : Hid (∀ W, Calls Tryz.prog 167 #[.agg (pc (PC c) (PA a)), .int .i64 k] W fun e w' => e = .returned (.bool (lk (PC c k))) ∧ Below W.heap.size W w') := fun W => rlocked_c _ _ k hk W
  obtain ⟨q0, hq0⟩ : ∃ q0, q0 = lk (PC c k) := ⟨_, rfl⟩
  rw [← hq0] at HL0 HQ2 ⊢
  clear hq0
  go_enter Tryz.func148, Tryz.ntmps148
  go_upto_region 1 with fail
  clear hW0
  go_upto_region 2 with (first | (refine wpList_load_rowG (by rfl) _ _ (by rfl) _ (by rfl) 28 _ (0, 0) _ r0.out Tryz.underlying28 (by rfl) (by rw [pc_size]; kernel_rfl) ?_) | (go_at_call 47; refine (rProper_c c a _).mono ?_; rintro e w1 ⟨rfl, hb1⟩; have HB1 : Hid (Below W0.heap.size W0 w1) := hb1; clear hb1) | (refine wpList_store_row (by rfl) _ _ _ (by rfl) (by rfl) _ _ _ (by rfl) (by rfl) (r0.out.later HB1.out (by rw [HS.out]; omega)) (by rw [pc_size]; kernel_rfl) (by rw [pc_size, pc_size]) (pc_ones _ _) ?_))
  obtain ⟨W2, hW2, r2, b2, s2⟩ := start_p (pc (PC c) (PA a)) r0.out b0.out (by rw [HS.out]; omega) HB1.out
  rw [hW2]
  clear hW2
  have hn0 : ¬ (k : Int) < 0 := by omega
  have hn1 : ¬ (15 : Int) < k := by omega
  go_upto_region 5 with (first | (refine wpList_load_rowG (by rfl) _ _ (by rfl) _ (by rfl) 28 _ (0, 0) _ r2.out Tryz.underlying28 (by rfl) (by rw [pc_size]; kernel_rfl) ?_) | (go_at_call 167; refine (HL0.out _).mono ?_; rintro e w3 ⟨rfl, hb⟩; have HB3 : Hid (Below W2.heap.size W2 w3) := hb; clear hb))
  have r3 : Hid (Row w3 w.heap.size (pc (PC c) (PA a)) 28) := r2.out.later HB3.out s2.out
  have b3 : Hid (Below w.heap.size w w3) := b2.out.trans (HB3.out.mono (Nat.le_of_lt s2.out))
  have s3 : Hid (w.heap.size < w3.heap.size) := Nat.lt_of_lt_of_le s2.out HB3.out.size
  clear HB3 HL0
  by_cases hk15 : k < 15
  · have hk3 : (k : Int) < 15 := by omega
    have HL : Hid (∀ W, Calls Tryz.prog 167 #[.agg (pc (PC c) (PA a)), .int .i64 (k + 1)] W fun e w' => e = .returned (.bool (lk (PC c (k + 1)))) ∧ Below W.heap.size W w') := fun W => rlocked_c _ _ (k + 1) (by omega) W
    have HK : Hid (∀ W, Calls Tryz.prog 168 #[.agg (pc (PC c) (PA a)), .int .i64 (k + 1)] W fun e w' => e = .returned (.int .i64 (n8 (kd (PC c (k + 1))))) ∧ Below W.heap.size W w') := fun W => rkind_c _ _ (k + 1) (by omega) W
    have hq : nx (PC c) k = (lk (PC c (k + 1)) && decide (kd (PC c (k + 1)) = 1#8)) := by unfold nx; simp [hk15]
    rw [hq] at HQ2
    clear hq
    cases hl2 : lk (PC c (k + 1)) with
    | false =>
      rw [hl2, Bool.false_and, Bool.or_false] at HQ2
      rw [hl2] at HL
      clear hl2
      have e9 := HQ2.out
      subst e9
      go_wp2_with (first | (refine wpList_load_rowG (by rfl) _ _ (by rfl) _ (by rfl) 28 _ (0, 0) _ r3.out Tryz.underlying28 (by rfl) (by rw [pc_size]; kernel_rfl) ?_) | (go_at_call 167; refine (HL.out _).mono ?_; rintro e w4 ⟨rfl, hb⟩; have HB4 : Hid (Below w.heap.size w w4) := b3.out.trans (hb.mono (Nat.le_of_lt s3.out)); clear hb))
      go_ret2
      exact ⟨rfl, HB4.out⟩
    | true =>
      rw [hl2, Bool.true_and] at HQ2
      rw [hl2] at HL
      clear hl2
      have HQ : Hid ((n8 (kd (PC c (k + 1))) == 1) = decide (kd (PC c (k + 1)) = 1#8)) := by
        by_cases e1 : kd (PC c (k + 1)) = 1#8
        · rw [e1]; rfl
        · have : ¬ n8 (kd (PC c (k + 1))) = 1 := fun q => e1 (n8_inj.1 (q.trans rfl))
          unfold Hid; simp [this, e1]
      generalize decide (kd (PC c (k + 1)) = 1#8) = q at HQ HQ2
      generalize kd (PC c (k + 1)) = z at HQ HK
      have hq2 := HQ.out
      cases q
      · have e9 := HQ2.out
        rw [Bool.or_false] at e9
        subst e9
        go_wp2_with (first | (refine wpList_load_rowG (by rfl) _ _ (by rfl) _ (by rfl) 28 _ (0, 0) _ r3.out Tryz.underlying28 (by rfl) (by rw [pc_size]; kernel_rfl) ?_) | (refine wpList_load_rowG (by rfl) _ _ (by rfl) _ (by rfl) 28 _ (0, 0) _ r4.out Tryz.underlying28 (by rfl) (by rw [pc_size]; kernel_rfl) ?_) | (go_at_call 167; refine (HL.out _).mono ?_; rintro e w4 ⟨rfl, hb⟩; have HB4 : Hid (Below w.heap.size w w4) := b3.out.trans (hb.mono (Nat.le_of_lt s3.out)); have r4 : Hid (Row w4 w.heap.size (pc (PC c) (PA a)) 28) := r3.out.later hb s3.out; have s4 : Hid (w.heap.size < w4.heap.size) := Nat.lt_of_lt_of_le s3.out hb.size; clear hb) | (go_at_call 168; refine (HK.out _).mono ?_; rintro e w5 ⟨rfl, hb⟩; have HB5 : Hid (Below w.heap.size w w5) := HB4.out.trans (hb.mono (Nat.le_of_lt s4.out)); clear hb))
        go_ret2
        exact ⟨rfl, HB5.out⟩
      · have e9 := HQ2.out
        rw [Bool.or_true] at e9
        subst e9
        go_wp2_with (first | (refine wpList_load_rowG (by rfl) _ _ (by rfl) _ (by rfl) 28 _ (0, 0) _ r3.out Tryz.underlying28 (by rfl) (by rw [pc_size]; kernel_rfl) ?_) | (refine wpList_load_rowG (by rfl) _ _ (by rfl) _ (by rfl) 28 _ (0, 0) _ r4.out Tryz.underlying28 (by rfl) (by rw [pc_size]; kernel_rfl) ?_) | (go_at_call 167; refine (HL.out _).mono ?_; rintro e w4 ⟨rfl, hb⟩; have HB4 : Hid (Below w.heap.size w w4) := b3.out.trans (hb.mono (Nat.le_of_lt s3.out)); have r4 : Hid (Row w4 w.heap.size (pc (PC c) (PA a)) 28) := r3.out.later hb s3.out; have s4 : Hid (w.heap.size < w4.heap.size) := Nat.lt_of_lt_of_le s3.out hb.size; clear hb) | (go_at_call 168; refine (HK.out _).mono ?_; rintro e w5 ⟨rfl, hb⟩; have HB5 : Hid (Below w.heap.size w w5) := HB4.out.trans (hb.mono (Nat.le_of_lt s4.out)); clear hb))
        go_ret2
        exact ⟨rfl, HB5.out⟩
  · have hq : nx (PC c) k = false := by unfold nx; simp [hk15]
    rw [hq, Bool.or_false] at HQ2
    clear hq
    have e9 := HQ2.out
    subst e9
    have hk3 : ¬ (k : Int) < 15 := by omega
    go_wp2
    go_ret2
    exact ⟨rfl, b3.out⟩
theorem rLocked_c (c : Nat → BitVec 8) (a : Nat → BitVec 64) (i : Int) (w : World) :
    Calls Tryz.prog 148 #[.agg (pc c a), .int .i64 i] w fun e w' => e = .returned (.tuple #[.bool (cL (PC c) i), .bool (aL (PC c) i)]) ∧ Below w.heap.size w w' := by
  by_cases h : 0 ≤ i ∧ i < 16
  · obtain ⟨k, rfl⟩ : ∃ k : Nat, i = k := ⟨i.toNat, by omega⟩
    exact rLocked_in c a k (by omega) w
  · exact rLocked_out c a i h w
end Go.Proofs.YtidfndgedopghaaGreatDoor
