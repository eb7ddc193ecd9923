/-
  Pbm Psa Psb.
-/
import Derived.Test.YtidfndgedopghaaGreatDoorM06
import Derived.Lib.TrailingZeros
namespace Go.Proofs.YtidfndgedopghaaGreatDoor
set_option linter.unusedVariables false
open Go.ChangeShapes Go.WideShapes Go.ChangeAt Go.RowKit Go.Deep
theorem lk_shr : ∀ x : BitVec 8, (n8 (x >>> 7) == 1) = lk x := by decide +kernel
theorem kd_i64 : ∀ x : BitVec 8, bits .and .i64 (n8 (x >>> 3)) 3 = n8 (kd x) := by decide +kernel
theorem n8_wrap64 (x : BitVec 8) : wrap64 (n8 x) = n8 x := by have := n8_lo x; have := n8_hi x; unfold wrap64; omega
theorem n8_div128 (x : BitVec 8) : n8 x / (128 : Int) = n8 (x >>> 7) := n8_shr x 7
theorem n8_div8 (x : BitVec 8) : n8 x / (8 : Int) = n8 (x >>> 3) := n8_shr x 3
set_option maxRecDepth 100000 in
set_option maxHeartbeats 1000000 in
theorem Locked_c (c : Nat → BitVec 8) (a : Nat → BitVec 64) (i : Int) (w : World) :
    Calls Tryz.prog 136 #[.agg (pc c a), .int .i64 i] w fun e w' => e = .returned (.tuple #[.bool (cL (PC c) i), .bool (aL (PC c) i)]) ∧ Below w.heap.size w w' := by
  obtain ⟨W0, hW0, r0, b0, s0⟩ := start1 w (pc c a) 28
  have HS : Hid (W0.heap.size = w.heap.size + 1) := s0
  clear s0
  have hcc : Hid (∀ (g : Nat) (W : World), Row W g (ec (PC c) (PA a)) 89 → Calls Tryz.prog 161 #[.pointer (some ⟨g, 0, none⟩), .int .i64 i] W fun e w' => e = .returned (.bool (cL (PC c) i)) ∧ Below W.heap.size W w') := fun g W h => cfgLocked_c _ _ g i W h
  have hca : Hid (∀ (g : Nat) (W : World), Row W g (ec (PC c) (PA a)) 89 → Calls Tryz.prog 162 #[.pointer (some ⟨g, 0, none⟩), .int .i64 i] W fun e w' => e = .returned (.bool (aL (PC c) i)) ∧ Below W.heap.size W w') := fun g W h => addrLocked_c _ _ g i W h
  generalize cL (PC c) i = x1 at hcc ⊢
  generalize aL (PC c) i = x2 at hca ⊢
  go_enter Tryz.func136, Tryz.ntmps136
  go_upto_region 1 with fail
  clear hW0
  go_wp2_with (first | (refine wpList_load_row (by rfl) _ _ (by rfl) _ (by rfl) 28 _ (0, 0) _ r0.out Tryz.underlying28 (by rfl) (by rw [pc_size]; kernel_rfl) ?_) | (go_at_call 53; refine (of_p c a _).mono ?_; rintro e w1 ⟨rfl, hb1⟩; have HB1 : Hid (Below W0.heap.size W0 w1) := hb1; clear hb1) | (go_at_call 161; refine (hcc.out _ _ (Row.new w1 _ _)).mono ?_; rintro e w2 ⟨rfl, hb⟩; have HB2 : Hid (Below (w1.heap.size + 1) (w1.alloc (.cells (ec (PC c) (PA a)) 89)) w2) := (by simpa [Hid] using hb); clear hb) | (go_at_call 162; refine (hca.out w1.heap.size w2 ((Row.new w1 _ _).later HB2.out (by omega))).mono ?_; rintro e w3 ⟨rfl, hb⟩; have HB3 : Hid (Below w2.heap.size w2 w3) := hb; clear hb) | (refine wpList_store_new (by rfl) _ _ _ (by rfl) (by rfl) _ _ (by rfl) (by rfl) (by rw [ec_size]; kernel_rfl) (by rw [ec_size]; rfl) (ec_ones _ _) ?_))
  go_ret2
  refine ⟨rfl, ?_⟩
  have t1 : Below w.heap.size w w1 := b0.out.trans (HB1.out.mono (by rw [HS.out]; omega))
  have t2 : Below w.heap.size w (w1.alloc (.cells (ec (PC c) (PA a)) 89)) := t1.alloc t1.size _
  have t3 : Below w.heap.size w w2 := t2.trans (HB2.out.mono (Nat.le_trans t1.size (by omega)))
  exact t3.trans (HB3.out.mono t3.size)
set_option maxRecDepth 100000 in
set_option maxHeartbeats 1000000 in
theorem rlocked_c (c : Nat → BitVec 8) (a : Nat → BitVec 64) (k : Nat) (hk : k < 16) (w : World) :
    Calls Tryz.prog 167 #[.agg (pc c a), .int .i64 k] w fun e w' => e = .returned (.bool (lk (c k))) ∧ Below w.heap.size w w' := by
  obtain ⟨W0, hW0, r0, b0, s0⟩ := start1 w (pc c a) 28
  clear s0
  have c0 := prow_cfg r0.out k hk
  have hk2 : (k : Int) < 16 := by omega
  have h1 := n8_div128 (c k)
  have h2 := lk_shr (c k)
  generalize lk (c k) = q at h2 ⊢
  generalize c k >>> 7 = z at h1 h2
  go_enter Tryz.func167, Tryz.ntmps167
  go_wp2
  go_ret
  exact ⟨by simp_all, b0.out⟩
set_option maxRecDepth 100000 in
set_option maxHeartbeats 1000000 in
theorem rkind_c (c : Nat → BitVec 8) (a : Nat → BitVec 64) (k : Nat) (hk : k < 16) (w : World) :
    Calls Tryz.prog 168 #[.agg (pc c a), .int .i64 k] w fun e w' => e = .returned (.int .i64 (n8 (kd (c k)))) ∧ Below w.heap.size w w' := by
  obtain ⟨W0, hW0, r0, b0, s0⟩ := start1 w (pc c a) 28
  clear s0
  have c0 := prow_cfg r0.out k hk
  have hk2 : (k : Int) < 16 := by omega
  have h1 := n8_div8 (c k)
  have h2 := kd_i64 (c k)
  have h3 := n8_wrap64 (c k >>> 3)
  generalize kd (c k) = q at h2 ⊢
  generalize c k >>> 3 = z at h1 h2 h3
  go_enter Tryz.func168, Tryz.ntmps168
  go_wp2
  go_ret
  exact ⟨by simp_all, b0.out⟩
theorem wpList_load_rowG {P : Program} {ops : Array Oper} {rest : List Oper} {o : Oper} {a : Act} {w : World} {Q : Exit → Act → World → Prop} (hw : Region.wanted o (yielded ops a.tmps) = true) (ty : TypeId) (x : Operand) (ho : o.op = .load ty x)
    (g : Nat) (hx : a.eval x = .pointer (some ⟨g, 0, none⟩)) (t : TypeId) (cs : Array Value) (fr : Nat × Nat) (d : TypeDesc) (hg : w.heap[g]? = some (.cells cs t fr))
    (hu : P.underlying ty = some d) (hd : (match d with | .struct _ | .array _ _ => true | _ => false) = true) (hi : (P.info? ty).map (·.size) = some cs.size)
    (h : wpList P ops Q rest (a.put o.dst (.agg cs)) w) : wpList P ops Q (o :: rest) a w :=
  BigFrame.wpList_want hw fun _ hK => wp_load_row ty x ho g hx t cs fr d hg hu hd hi (hK _ _ h)
/-- A boxed api.Pmp made proper in its place. -/
theorem start_p {w W0 w1 : World} {c : Nat → BitVec 8} {a : Nat → BitVec 64} {T : TypeId} (q : Array Value) (r0 : Row W0 w.heap.size (pc c a) T) (b0 : Below w.heap.size w W0) (hs : w.heap.size < W0.heap.size) (b1 : Below W0.heap.size W0 w1) :
    ∃ W, w1.setRow w.heap.size q = W ∧ Hid (Row W w.heap.size q T) ∧ Hid (Below w.heap.size w W) ∧ Hid (w.heap.size < W.heap.size) :=
  ⟨_, rfl, setRow_heap _ _ _ _ _ _ (r0.later b1 hs), below_row (b0.trans (b1.mono (by omega))) (Nat.le_refl _) _, by unfold Hid; rw [size_setRow]; exact Nat.lt_of_lt_of_le hs b1.size⟩
set_option maxRecDepth 100000 in
set_option maxHeartbeats 1000000 in
theorem rLocked_out (c : Nat → BitVec 8) (a : Nat → BitVec 64) (i : Int) (h : ¬ (0 ≤ i ∧ i < 16)) (w : World) :
    Calls Tryz.prog 148 #[.agg (pc c a), .int .i64 i] w fun e w' => e = .returned (.tuple #[.bool (cL (PC c) i), .bool (aL (PC c) i)]) ∧ Below w.heap.size w w' := by
  obtain ⟨W0, hW0, r0, b0, s0⟩ := start1 w (pc c a) 28
  have HS : Hid (W0.heap.size = w.heap.size + 1) := s0
  clear s0
  rw [cL_out _ _ h, aL_out _ _ h]
  go_enter Tryz.func148, Tryz.ntmps148
  go_upto_region 1 with fail
  clear hW0
  go_upto_region 2 with (first | (refine wpList_load_rowG (by rfl) _ _ (by rfl) _ (by rfl) 28 _ (0, 0) _ r0.out Tryz.underlying28 (by rfl) (by rw [pc_size]; kernel_rfl) ?_) | (go_at_call 47; refine (rProper_c c a _).mono ?_; rintro e w1 ⟨rfl, hb1⟩; have HB1 : Hid (Below W0.heap.size W0 w1) := hb1; clear hb1) | (refine wpList_store_row (by rfl) _ _ _ (by rfl) (by rfl) _ _ _ (by rfl) (by rfl) (r0.out.later HB1.out (by rw [HS.out]; omega)) (by rw [pc_size]; kernel_rfl) (by rw [pc_size, pc_size]) (pc_ones _ _) ?_))
  obtain ⟨W2, hW2, r2, b2, s2⟩ := start_p (pc (PC c) (PA a)) r0.out b0.out (by rw [HS.out]; omega) HB1.out
  rw [hW2]
  clear hW2
  by_cases h0 : i < 0
  · go_wp2
    go_ret2
    exact ⟨rfl, b2.out⟩
  · have h1 : (15 : Int) < i := by omega
    go_wp2
    go_ret2
    exact ⟨rfl, b2.out⟩
set_option maxRecDepth 100000 in
set_option maxHeartbeats 1000000 in
theorem rLocked_in (c : Nat → BitVec 8) (a : Nat → BitVec 64) (k : Nat) (hk : k < 16) (w : World) :
    Calls Tryz.prog 148 #[.agg (pc c a), .int .i64 k] w fun e w' => e = .returned (.tuple #[.bool (cL (PC c) k), .bool (aL (PC c) k)]) ∧ Below w.heap.size w w' := by
  obtain ⟨W0, hW0, r0, b0, s0⟩ := start1 w (pc c a) 28
  have HS : Hid (W0.heap.size = w.heap.size + 1) := s0
  clear s0
  rw [cL_in _ _ hk, aL_in _ _ hk]
  have hk2 : (k : Int) < 16 := by omega
  obtain ⟨q2, hq2⟩ : ∃ q2, q2 = (lk (PC c k) || nx (PC c) k) := ⟨_, rfl⟩
  rw [← hq2]
  have HQ2 : Hid (q2 = (lk (PC c k) || nx (PC c) k)) := hq2
  clear hq2
  have HL0 : Hid (∀ W, Calls Tryz.prog 167 #[.agg (pc (PC c) (PA a)), .int .i64 k] W fun e w' => e = .returned (.bool (lk (PC c k))) ∧ Below W.heap.size W w') := fun W => rlocked_c _ _ k hk W
  obtain ⟨q0, hq0⟩ : ∃ q0, q0 = lk (PC c k) := ⟨_, rfl⟩
  rw [← hq0] at HL0 HQ2 ⊢
  clear hq0
  go_enter Tryz.func148, Tryz.ntmps148
  go_upto_region 1 with fail
  clear hW0
  go_upto_region 2 with (first | (refine wpList_load_rowG (by rfl) _ _ (by rfl) _ (by rfl) 28 _ (0, 0) _ r0.out Tryz.underlying28 (by rfl) (by rw [pc_size]; kernel_rfl) ?_) | (go_at_call 47; refine (rProper_c c a _).mono ?_; rintro e w1 ⟨rfl, hb1⟩; have HB1 : Hid (Below W0.heap.size W0 w1) := hb1; clear hb1) | (refine wpList_store_row (by rfl) _ _ _ (by rfl) (by rfl) _ _ _ (by rfl) (by rfl) (r0.out.later HB1.out (by rw [HS.out]; omega)) (by rw [pc_size]; kernel_rfl) (by rw [pc_size, pc_size]) (pc_ones _ _) ?_))
  obtain ⟨W2, hW2, r2, b2, s2⟩ := start_p (pc (PC c) (PA a)) r0.out b0.out (by rw [HS.out]; omega) HB1.out
  rw [hW2]
  clear hW2
  have hn0 : ¬ (k : Int) < 0 := by omega
  have hn1 : ¬ (15 : Int) < k := by omega
  go_upto_region 5 with (first | (refine wpList_load_rowG (by rfl) _ _ (by rfl) _ (by rfl) 28 _ (0, 0) _ r2.out Tryz.underlying28 (by rfl) (by rw [pc_size]; kernel_rfl) ?_) | (go_at_call 167; refine (HL0.out _).mono ?_; rintro e w3 ⟨rfl, hb⟩; have HB3 : Hid (Below W2.heap.size W2 w3) := hb; clear hb))
  have r3 : Hid (Row w3 w.heap.size (pc (PC c) (PA a)) 28) := r2.out.later HB3.out s2.out
  have b3 : Hid (Below w.heap.size w w3) := b2.out.trans (HB3.out.mono (Nat.le_of_lt s2.out))
  have s3 : Hid (w.heap.size < w3.heap.size) := Nat.lt_of_lt_of_le s2.out HB3.out.size
  clear HB3 HL0
  by_cases hk15 : k < 15
  · have hk3 : (k : Int) < 15 := by omega
    have HL : Hid (∀ W, Calls Tryz.prog 167 #[.agg (pc (PC c) (PA a)), .int .i64 (k + 1)] W fun e w' => e = .returned (.bool (lk (PC c (k + 1)))) ∧ Below W.heap.size W w') := fun W => rlocked_c _ _ (k + 1) (by omega) W
    have HK : Hid (∀ W, Calls Tryz.prog 168 #[.agg (pc (PC c) (PA a)), .int .i64 (k + 1)] W fun e w' => e = .returned (.int .i64 (n8 (kd (PC c (k + 1))))) ∧ Below W.heap.size W w') := fun W => rkind_c _ _ (k + 1) (by omega) W
    have hq : nx (PC c) k = (lk (PC c (k + 1)) && decide (kd (PC c (k + 1)) = 1#8)) := by unfold nx; simp [hk15]
    rw [hq] at HQ2
    clear hq
    cases hl2 : lk (PC c (k + 1)) with
    | false =>
      rw [hl2, Bool.false_and, Bool.or_false] at HQ2
      rw [hl2] at HL
      clear hl2
      have e9 := HQ2.out
      subst e9
      go_wp2_with (first | (refine wpList_load_rowG (by rfl) _ _ (by rfl) _ (by rfl) 28 _ (0, 0) _ r3.out Tryz.underlying28 (by rfl) (by rw [pc_size]; kernel_rfl) ?_) | (go_at_call 167; refine (HL.out _).mono ?_; rintro e w4 ⟨rfl, hb⟩; have HB4 : Hid (Below w.heap.size w w4) := b3.out.trans (hb.mono (Nat.le_of_lt s3.out)); clear hb))
      go_ret2
      exact ⟨rfl, HB4.out⟩
    | true =>
      rw [hl2, Bool.true_and] at HQ2
      rw [hl2] at HL
      clear hl2
      have HQ : Hid ((n8 (kd (PC c (k + 1))) == 1) = decide (kd (PC c (k + 1)) = 1#8)) := by
        by_cases e1 : kd (PC c (k + 1)) = 1#8
        · rw [e1]; rfl
        · have : ¬ n8 (kd (PC c (k + 1))) = 1 := fun q => e1 (n8_inj.1 (q.trans rfl))
          unfold Hid; simp [this, e1]
      generalize decide (kd (PC c (k + 1)) = 1#8) = q at HQ HQ2
      generalize kd (PC c (k + 1)) = z at HQ HK
      have hq2 := HQ.out
      cases q
      · have e9 := HQ2.out
        rw [Bool.or_false] at e9
        subst e9
        go_wp2_with (first | (refine wpList_load_rowG (by rfl) _ _ (by rfl) _ (by rfl) 28 _ (0, 0) _ r3.out Tryz.underlying28 (by rfl) (by rw [pc_size]; kernel_rfl) ?_) | (refine wpList_load_rowG (by rfl) _ _ (by rfl) _ (by rfl) 28 _ (0, 0) _ r4.out Tryz.underlying28 (by rfl) (by rw [pc_size]; kernel_rfl) ?_) | (go_at_call 167; refine (HL.out _).mono ?_; rintro e w4 ⟨rfl, hb⟩; have HB4 : Hid (Below w.heap.size w w4) := b3.out.trans (hb.mono (Nat.le_of_lt s3.out)); have r4 : Hid (Row w4 w.heap.size (pc (PC c) (PA a)) 28) := r3.out.later hb s3.out; have s4 : Hid (w.heap.size < w4.heap.size) := Nat.lt_of_lt_of_le s3.out hb.size; clear hb) | (go_at_call 168; refine (HK.out _).mono ?_; rintro e w5 ⟨rfl, hb⟩; have HB5 : Hid (Below w.heap.size w w5) := HB4.out.trans (hb.mono (Nat.le_of_lt s4.out)); clear hb))
        go_ret2
        exact ⟨rfl, HB5.out⟩
      · have e9 := HQ2.out
        rw [Bool.or_true] at e9
        subst e9
        go_wp2_with (first | (refine wpList_load_rowG (by rfl) _ _ (by rfl) _ (by rfl) 28 _ (0, 0) _ r3.out Tryz.underlying28 (by rfl) (by rw [pc_size]; kernel_rfl) ?_) | (refine wpList_load_rowG (by rfl) _ _ (by rfl) _ (by rfl) 28 _ (0, 0) _ r4.out Tryz.underlying28 (by rfl) (by rw [pc_size]; kernel_rfl) ?_) | (go_at_call 167; refine (HL.out _).mono ?_; rintro e w4 ⟨rfl, hb⟩; have HB4 : Hid (Below w.heap.size w w4) := b3.out.trans (hb.mono (Nat.le_of_lt s3.out)); have r4 : Hid (Row w4 w.heap.size (pc (PC c) (PA a)) 28) := r3.out.later hb s3.out; have s4 : Hid (w.heap.size < w4.heap.size) := Nat.lt_of_lt_of_le s3.out hb.size; clear hb) | (go_at_call 168; refine (HK.out _).mono ?_; rintro e w5 ⟨rfl, hb⟩; have HB5 : Hid (Below w.heap.size w w5) := HB4.out.trans (hb.mono (Nat.le_of_lt s4.out)); clear hb))
        go_ret2
        exact ⟨rfl, HB5.out⟩
  · have hq : nx (PC c) k = false := by unfold nx; simp [hk15]
    rw [hq, Bool.or_false] at HQ2
    clear hq
    have e9 := HQ2.out
    subst e9
    have hk3 : ¬ (k : Int) < 15 := by omega
    go_wp2
    go_ret2
    exact ⟨rfl, b3.out⟩
theorem rLocked_c (c : Nat → BitVec 8) (a : Nat → BitVec 64) (i : Int) (w : World) :
    Calls Tryz.prog 148 #[.agg (pc c a), .int .i64 i] w fun e w' => e = .returned (.tuple #[.bool (cL (PC c) i), .bool (aL (PC c) i)]) ∧ Below w.heap.size w w' := by
  by_cases h : 0 ≤ i ∧ i < 16
  · obtain ⟨k, rfl⟩ : ∃ k : Nat, i = k := ⟨i.toNat, by omega⟩
    exact rLocked_in c a k (by omega) w
  · exact rLocked_out c a i h w
end Go.Proofs.YtidfndgedopghaaGreatDoor
namespace Go.Proofs.YtidfndgedopghaaGreatDoor
set_option linter.unusedVariables false
open Go.ChangeShapes Go.WideShapes Go.ChangeAt Go.RowKit Go.Deep
/-- The library's table in its variable. -/
def Tb (w : World) : Prop := ∀ j, j < 64 → w.cell? ⟨0, j, none⟩ = some (.int .u8 ((Lib.deBruijn64tab.getD j 0 : Nat) : Int))
theorem Tb.lt {w : World} (h : Tb w) : 0 < w.heap.size := World.block_lt_of_cell? w _ (h 0 (by omega))
theorem Tb.later {w w' : World} {B : Nat} (h : Tb w) (b : Below B w w') (hB : 0 < B) : Tb w' := fun j hj => (b.cell (p := ⟨0, j, none⟩) hB).trans (h j hj)
theorem Tb.next {w w' : World} (h : Tb w) (b : Below w.heap.size w w') : Tb w' := h.later b h.lt
theorem Tb.alloc {w : World} (h : Tb w) (o : Obj) : Tb (w.alloc o) := h.next ((Below.refl _ _).alloc (Nat.le_refl _) _)
/-- The number of trailing zeros of a word. -/
def tz (x : BitVec 64) : Nat := Lib.ctz 64 x.toNat
theorem tz_zero : tz 0#64 = 64 := rfl
theorem n64_neg (x : BitVec 64) : IntKind.u64.wrap (-(n64 x)) = n64 (-x) := by
  rw [wrap_n64]
  congr 1
  apply BitVec.eq_of_toNat_eq
  rw [BitVec.toNat_ofInt, BitVec.toNat_neg]
  unfold n64
  have := x.isLt
  omega
theorem tz_key (x : BitVec 64) (h : x ≠ 0#64) : (((x &&& -x) * 285870213051353865#64) >>> 58).toNat = 2 ^ tz x * 285870213051353865 % 18446744073709551616 / 288230376151711744 ∧ tz x < 64 := by
  have h0 : x.toNat ≠ 0 := fun e => h (BitVec.eq_of_toNat_eq (by simpa using e))
  obtain ⟨hl, hk⟩ := Lib.lowest_bit 64 x.toNat h0 x.isLt
  refine ⟨?_, hk⟩
  have e1 : (x &&& -x).toNat = 2 ^ tz x := by
    rw [BitVec.toNat_and, BitVec.toNat_neg, Nat.mod_eq_of_lt (by have := x.isLt; omega)]
    exact hl
  rw [BitVec.toNat_ushiftRight, BitVec.toNat_mul, e1, Nat.shiftRight_eq_div_pow]
  rfl
theorem tz_c (x : BitVec 64) (w : World) (hT : Tb w) : Calls Tryz.prog 171 #[.int .u64 (n64 x)] w fun e w' => e = .returned (.int .i64 (tz x : Nat)) ∧ w' = w := by
  by_cases h : x = 0#64
  · subst h
    rw [tz_zero]
    have e0 : n64 0#64 = 0 := rfl
    rw [e0]
    go_enter Tryz.func171, Tryz.ntmps171
    go_wp2
    go_ret
    exact ⟨rfl, rfl⟩
  · obtain ⟨hk, h64⟩ := tz_key x h
    obtain ⟨hi, htab⟩ := Lib.deBruijn64_at _ h64
    have e0 : (n64 x == 0) = false := by
      have : ¬ n64 x = 0 := fun e => h (n64_zero e)
      simpa using this
    have e1 := n64_neg x
    have e2 := n64_and x (-x)
    have e3 : IntKind.u64.wrap (n64 (x &&& -x) * 285870213051353865) = n64 ((x &&& -x) * 285870213051353865#64) := n64_mul (x &&& -x) 285870213051353865#64
    obtain ⟨d, hd⟩ : ∃ d, d = (((x &&& -x) * 285870213051353865#64) >>> 58).toNat := ⟨_, rfl⟩
    have e4 : n64 ((x &&& -x) * 285870213051353865#64) / 288230376151711744 = (d : Int) := by
      have := n64_shr ((x &&& -x) * 285870213051353865#64) 58
      rw [hd]
      exact this
    rw [← hk, ← hd] at hi htab
    have hd64 : (d : Int) < 64 := by omega
    have c0 := hT d hi
    rw [htab] at c0
    have hw : wrap64 ((tz x : Nat) : Int) = ((tz x : Nat) : Int) := by unfold wrap64; omega
    generalize (x &&& -x) * 285870213051353865#64 = y3 at e3 e4
    generalize x &&& -x = y2 at e2 e3
    generalize -x = y1 at e1 e2
    generalize ((tz x : Nat) : Int) = t at c0 hw ⊢
    clear hk hd htab hT h
    go_enter Tryz.func171, Tryz.ntmps171
    go_wp2
    go_ret
    exact ⟨by simp_all, rfl⟩
end Go.Proofs.YtidfndgedopghaaGreatDoor
namespace Go.Proofs.YtidfndgedopghaaGreatDoor
set_option linter.unusedVariables false
open Go.ChangeShapes Go.WideShapes Go.ChangeAt Go.RowKit Go.Deep
/-- The trailing ones of an Addr. -/
def on (a : BitVec 64) : Nat := tz (~~~a)
theorem on_rep (a : BitVec 64) (h : a.toNat < 2 ^ 54) : (∃ r, a.toNat = 2 ^ (on a + 1) * r + (2 ^ on a - 1)) ∧ on a ≤ 54 := by
  have hx : (~~~a).toNat = 2 ^ 64 - 1 - a.toNat := BitVec.toNat_not
  have h0 : (~~~a).toNat ≠ 0 := by rw [hx]; omega
  have e : on a = Lib.ctzFrom 64 (~~~a).toNat := by unfold on tz Lib.ctz; rw [if_neg h0]
  obtain ⟨m, hm, hk⟩ := Lib.ctzFrom_spec 64 (~~~a).toNat (by omega) (~~~a).isLt
  rw [← e] at hm hk
  rw [hx] at hm
  generalize on a = n at *
  have hp : 0 < 2 ^ n := Nat.pow_pos (by omega)
  obtain ⟨d, hd⟩ : ∃ d, 64 = n + (d + 1) := ⟨63 - n, by omega⟩
  have h64 : (2 : Nat) ^ 64 = 2 ^ n * (2 * 2 ^ d) := by rw [hd, Nat.pow_add, Nat.pow_succ, Nat.mul_comm (2 ^ d) 2]
  have hA : a.toNat + 2 ^ n * (2 * m + 1) + 1 = 2 ^ n * (2 * 2 ^ d) := by rw [← h64]; omega
  have hmd : m < 2 ^ d := by
    apply Nat.lt_of_not_le
    intro hle
    have : 2 ^ n * (2 * 2 ^ d) ≤ 2 ^ n * (2 * m + 1) := Nat.mul_le_mul_left _ (by omega)
    omega
  obtain ⟨r, hr⟩ : ∃ r, 2 ^ d = m + r + 1 := ⟨2 ^ d - m - 1, by omega⟩
  have hA2 : a.toNat = 2 ^ (n + 1) * r + (2 ^ n - 1) := by
    rw [hr] at hA
    have e2 : 2 ^ n * (2 * (m + r + 1)) = 2 ^ n * (2 * m + 1) + 2 ^ n * (2 * r) + 2 ^ n := by
      rw [show 2 * (m + r + 1) = (2 * m + 1) + 2 * r + 1 by omega, Nat.mul_add, Nat.mul_add, Nat.mul_one]
    have e3 : 2 ^ (n + 1) * r = 2 ^ n * (2 * r) := by rw [Nat.pow_succ, Nat.mul_assoc]
    rw [e3]
    omega
  refine ⟨⟨r, hA2⟩, ?_⟩
  apply Nat.le_of_not_lt
  intro hlt
  have h1 : (2 : Nat) ^ 55 ≤ 2 ^ n := Nat.pow_le_pow_right (by omega) (by omega)
  have h2 : (2 : Nat) ^ 55 = 2 * 2 ^ 54 := by decide
  have h3 : 2 ^ n - 1 ≤ a.toNat := by rw [hA2]; omega
  omega
theorem on_div (a : BitVec 64) (h : a.toNat < 2 ^ 54) : a.toNat = 2 ^ (on a + 1) * (a.toNat / 2 ^ (on a + 1)) + (2 ^ on a - 1) := by
  obtain ⟨⟨r, hr⟩, _⟩ := on_rep a h
  have hp : 0 < 2 ^ on a := Nat.pow_pos (by omega)
  have hq : 2 ^ on a - 1 < 2 ^ (on a + 1) := by rw [Nat.pow_succ]; omega
  have : a.toNat / 2 ^ (on a + 1) = r := by
    rw [hr, Nat.mul_add_div (Nat.pow_pos (by omega)), Nat.div_eq_of_lt hq, Nat.add_zero]
  rw [this]
  exact hr
/-- The first and the last address. -/
def npF (a : BitVec 64) : BitVec 64 := if on a = 54 then 0#64 else BitVec.ofNat 64 (2 ^ (on a + 3) * (a.toNat / 2 ^ (on a + 1)))
def npL (a : BitVec 64) : BitVec 64 := if on a = 54 then ~~~0#64 else BitVec.ofNat 64 (2 ^ (on a + 3) * (a.toNat / 2 ^ (on a + 1)) + (2 ^ (on a + 3) - 1))
theorem np_bound (a : BitVec 64) (h : a.toNat < 2 ^ 54) (hn : on a < 54) : 2 ^ (on a + 3) * (a.toNat / 2 ^ (on a + 1)) + (2 ^ (on a + 3) - 1) < 2 ^ 58 := by
  have hd := on_div a h
  have e : 2 ^ (on a + 3) * (a.toNat / 2 ^ (on a + 1)) = 4 * (2 ^ (on a + 1) * (a.toNat / 2 ^ (on a + 1))) := by
    rw [show on a + 3 = (on a + 1) + 2 by omega, Nat.pow_add (m := on a + 1)]
    rw [Nat.mul_comm (2 ^ (on a + 1)) (2 ^ 2), Nat.mul_assoc]
  have hp : 2 ^ (on a + 3) ≤ 2 ^ 56 := Nat.pow_le_pow_right (by omega) (by omega)
  rw [e]
  omega
theorem four_div (a : BitVec 64) (h : a.toNat < 2 ^ 54) (hn : on a < 54) : 4 * a.toNat / 2 ^ (on a + 3) = a.toNat / 2 ^ (on a + 1) := by
  rw [show on a + 3 = 2 + (on a + 1) by omega, Nat.pow_add]
  rw [show (2 : Nat) ^ 2 = 4 from rfl, Nat.mul_div_mul_left _ _ (by omega)]
theorem clear_low (x : BitVec 64) (k : Nat) (hk : k < 64) : (x &&& ~~~(1#64 <<< k - 1#64)).toNat = 2 ^ k * (x.toNat / 2 ^ k) := by
  have hm : (1#64 <<< k - 1#64).toNat = 2 ^ k - 1 := by
    have h1 : 2 ^ k < 2 ^ 64 := Nat.pow_lt_pow_right (by omega) hk
    have h2 : 0 < 2 ^ k := Nat.pow_pos (by omega)
    have e1 : (1#64 <<< k).toNat = 2 ^ k := by
      rw [BitVec.toNat_shiftLeft, Nat.shiftLeft_eq, show (1#64 : BitVec 64).toNat = 1 from rfl, Nat.one_mul, Nat.mod_eq_of_lt h1]
    rw [BitVec.toNat_sub, e1, show (1#64 : BitVec 64).toNat = 1 from rfl]
    omega
  apply Nat.eq_of_testBit_eq
  intro i
  rw [← BitVec.getLsbD, BitVec.getLsbD_and, BitVec.getLsbD_not, BitVec.getLsbD, BitVec.getLsbD, hm, Nat.testBit_two_pow_sub_one, Nat.mul_comm, Nat.testBit_mul_two_pow, Nat.testBit_div_two_pow]
  by_cases h1 : k ≤ i
  · rw [Nat.sub_add_cancel h1]
    by_cases h2 : i < 64
    · simp [h1, h2, show ¬ i < k by omega]
    · have : x.toNat.testBit i = false := Nat.testBit_lt_two_pow (Nat.lt_of_lt_of_le x.isLt (Nat.pow_le_pow_right (by omega) (by omega)))
      simp [this]
  · simp [h1, show i < k by omega]
theorem unary_comP (x : BitVec 64) : Op.unary .xor (.int .u64 (n64 x)) = pure (.int .u64 (n64 (~~~x))) := by
  have h : bits .xor .u64 (n64 (~~~0#64)) (n64 x) = n64 (~~~x) := by
    rw [n64_xor]; congr 1
  show pure (Value.int IntKind.u64 (bits .xor .u64 (n64 (~~~0#64)) (n64 x))) = _
  rw [h]
set_option maxRecDepth 100000 in
set_option maxHeartbeats 1000000 in
theorem napot_54 (a : BitVec 64) (h : on a = 54) (w : World) (hT : Tb w) : Calls Tryz.prog 159 #[.int .u64 (n64 a)] w fun e w' => e = .returned (.agg #[.int .u64 (n64 (npF a)), .int .u64 (n64 (npL a))]) ∧ Below w.heap.size w w' := by
  have e1 : npF a = 0#64 := by unfold npF; rw [if_pos h]
  have e2 : npL a = ~~~0#64 := by unfold npL; rw [if_pos h]
  have f1 : n64 (npF a) = 0 := by rw [e1]; rfl
  have f2 : n64 (npL a) = 18446744073709551615 := by rw [e2]; rfl
  rw [f1, f2]
  have HC : Hid (∀ W, Tb W → Calls Tryz.prog 171 #[.int .u64 (n64 (~~~a))] W fun e w' => e = .returned (.int .i64 54) ∧ w' = W) := fun W hW => by
    have := tz_c (~~~a) W hW
    rw [show tz (~~~a) = 54 from h] at this
    exact this
  have HT : Hid (Tb w) := hT
  have hu := unary_comP a
  clear e1 e2 f1 f2 hT h
  generalize ~~~a = a2 at hu HC
  go_enter Tryz.func159, Tryz.ntmps159
  go_wp2_with (go_at_call 171; refine (HC.out _ (HT.out.alloc _)).mono ?_; rintro e w1 ⟨rfl, hw⟩; have hw2 := hw.symm; subst hw2)
  exact bodyPost_ret (v := .agg #[.int .u64 0, .int .u64 18446744073709551615]) (results_cell_row Tryz.results159 _ _ w.heap.size 118 _ (0, 0) _ (by rfl) (heap_alloc_last w _) Tryz.underlying118 (by rfl) (by kernel_rfl)) rfl ⟨rfl, (Below.refl _ _).alloc (Nat.le_refl _) _⟩
theorem one_shl (k : Nat) (hk : k < 64) : (1#64 <<< k).toNat = 2 ^ k := by
  rw [BitVec.toNat_shiftLeft, Nat.shiftLeft_eq, show (1#64 : BitVec 64).toNat = 1 from rfl, Nat.one_mul, Nat.mod_eq_of_lt (Nat.pow_lt_pow_right (by omega) hk)]
theorem mask_toNat (k : Nat) (hk : k < 64) : (1#64 <<< k - 1#64).toNat = 2 ^ k - 1 := by
  have h1 : 2 ^ k < 2 ^ 64 := Nat.pow_lt_pow_right (by omega) hk
  have h2 : 0 < 2 ^ k := Nat.pow_pos (by omega)
  rw [BitVec.toNat_sub, one_shl k hk, show (1#64 : BitVec 64).toNat = 1 from rfl]
  omega
theorem mask_int (k : Nat) : IntKind.u64.wrap (IntKind.u64.wrap (2 ^ k) - 1) = n64 (1#64 <<< k - 1#64) := by
  have h1 : IntKind.u64.wrap ((2 : Int) ^ k) = n64 (1#64 <<< k) := by
    have := n64_shl 1#64 k
    rw [show n64 1#64 = 1 from rfl, Int.one_mul] at this
    exact this
  rw [h1]
  exact n64_sub (1#64 <<< k) 1#64
theorem four_toNat (a : BitVec 64) (h : a.toNat < 2 ^ 54) : (a <<< 2).toNat = 4 * a.toNat := by
  rw [BitVec.toNat_shiftLeft, Nat.shiftLeft_eq]
  omega
theorem np_first (a : BitVec 64) (h54 : a.toNat < 2 ^ 54) (h : on a < 54) : bits .andNot .u64 (IntKind.u64.wrap (n64 a * 4)) (IntKind.u64.wrap (IntKind.u64.wrap (2 ^ (on a + 1 + 2)) - 1)) = n64 (npF a) := by
  rw [mask_int, show n64 a * (4 : Int) = n64 a * 2 ^ 2 from rfl, n64_shl, n64_andNot]
  congr 1
  apply BitVec.eq_of_toNat_eq
  have hb := np_bound a h54 h
  rw [clear_low _ _ (by omega), four_toNat a h54, show on a + 1 + 2 = on a + 3 by omega, four_div a h54 h, npF, if_neg (by omega), BitVec.toNat_ofNat, Nat.mod_eq_of_lt (by omega)]
theorem np_last (a : BitVec 64) (h54 : a.toNat < 2 ^ 54) (h : on a < 54) : bits .or .u64 (n64 (npF a)) (IntKind.u64.wrap (IntKind.u64.wrap (2 ^ (on a + 1 + 2)) - 1)) = n64 (npL a) := by
  rw [mask_int, n64_or]
  congr 1
  apply BitVec.eq_of_toNat_eq
  have hb := np_bound a h54 h
  have hp : 0 < 2 ^ (on a + 3) := Nat.pow_pos (by omega)
  rw [BitVec.toNat_or, mask_toNat _ (by omega), show on a + 1 + 2 = on a + 3 by omega, npF, if_neg (by omega), npL, if_neg (by omega), BitVec.toNat_ofNat, BitVec.toNat_ofNat, Nat.mod_eq_of_lt (by omega), Nat.mod_eq_of_lt (by omega)]
  exact (Nat.two_pow_add_eq_or_of_lt (show 2 ^ (on a + 3) - 1 < 2 ^ (on a + 3) by omega) _).symm
set_option maxRecDepth 100000 in
set_option maxHeartbeats 1000000 in
theorem napot_lt (a : BitVec 64) (h54 : a.toNat < 2 ^ 54) (h : on a < 54) (w : World) (hT : Tb w) : Calls Tryz.prog 159 #[.int .u64 (n64 a)] w fun e w' => e = .returned (.agg #[.int .u64 (n64 (npF a)), .int .u64 (n64 (npL a))]) ∧ Below w.heap.size w w' := by
  have HC : Hid (∀ W, Tb W → Calls Tryz.prog 171 #[.int .u64 (n64 (~~~a))] W fun e w' => e = .returned (.int .i64 (on a : Nat)) ∧ w' = W) := fun W hW => tz_c (~~~a) W hW
  have HT : Hid (Tb w) := hT
  have hu := unary_comP a
  obtain ⟨n, hn⟩ : ∃ n, n = on a := ⟨_, rfl⟩
  rw [← hn] at HC
  have hnn : ((n : Int) == 54) = false := by
    have : ¬ (n : Int) = 54 := by omega
    simpa using this
  have hn54 : (n : Int) < 54 := by omega
  have HX1 := np_first a h54 h
  have HX2 := np_last a h54 h
  generalize n64 (npF a) = x1 at HX1 HX2 ⊢
  generalize n64 (npL a) = x2 at HX2 ⊢
  clear hT h54
  generalize ~~~a = a2 at hu HC
  go_enter Tryz.func159, Tryz.ntmps159
  go_wp2_with (go_at_call 171; refine (HC.out _ (HT.out.alloc _)).mono ?_; rintro e w1 ⟨rfl, hw⟩; have hw2 := hw.symm; subst hw2)
  refine bodyPost_ret (results_cell_row Tryz.results159 _ _ w.heap.size 118 _ (0, 0) _ (by rfl) (heap_alloc_last w _) Tryz.underlying118 (by rfl) (by kernel_rfl)) rfl ⟨?_, (Below.refl _ _).alloc (Nat.le_refl _) _⟩
  simp_all
theorem napot_c (a : BitVec 64) (h54 : a.toNat < 2 ^ 54) (w : World) (hT : Tb w) : Calls Tryz.prog 159 #[.int .u64 (n64 a)] w fun e w' => e = .returned (.agg #[.int .u64 (n64 (npF a)), .int .u64 (n64 (npL a))]) ∧ Below w.heap.size w w' := by
  by_cases h : on a = 54
  · exact napot_54 a h w hT
  · exact napot_lt a h54 (by have := (on_rep a h54).2; omega) w hT
end Go.Proofs.YtidfndgedopghaaGreatDoor
