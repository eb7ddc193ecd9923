/-
  PmpShapes: its walk.
-/
import Derived.Test.YtonfobfhdmejkaaDoorPmf
namespace Go.Proofs.YtonfobfhdmejkaaDoor
set_option linter.unusedVariables false
open Go.ChangeShapes Go.WideShapes Go.ChangeAt Go.RowKit Go.Deep
set_option maxRecDepth 100000 in
set_option maxHeartbeats 4000000 in
theorem shapes_out (i n : Int) (b t : BitVec 64) (h : ¬ (0 ≤ i ∧ i ≤ 15 ∧ 0 ≤ n ∧ n ≤ 53)) (w : World) (hT : Tb w) :
    Calls Tryd.prog 3 #[.int .i64 i, .int .i64 n, .int .u64 (n64 b), .int .u64 (n64 t)] w fun e w' => e = .returned (.bool true) ∧ Below w.heap.size w w' := by
  have hL : Hid (Calls Tryd.prog 4 #[] w fun e w' => e = .returned (.bool true) ∧ Below w.heap.size w w') := live_c w hT
  clear hT
  go_enter Tryd.func3, Tryd.ntmps3
  go_upto_region 1 with fail
  rcases (show i < 0 ∨ 15 < i ∨ (0 ≤ i ∧ i ≤ 15 ∧ n < 0) ∨ (0 ≤ i ∧ i ≤ 15 ∧ 0 ≤ n ∧ 53 < n) by omega) with h1 | h1 | ⟨h1, h2, h3⟩ | ⟨h1, h2, h3, h4⟩
  all_goals clear h
  · go_wp2_with (go_at_call 4; refine hL.out.mono ?_; rintro e w1 ⟨rfl, hb⟩)
    go_ret
    exact ⟨rfl, hb⟩
  · go_wp2_with (go_at_call 4; refine hL.out.mono ?_; rintro e w1 ⟨rfl, hb⟩)
    go_ret
    exact ⟨rfl, hb⟩
  · go_wp2_with (go_at_call 4; refine hL.out.mono ?_; rintro e w1 ⟨rfl, hb⟩)
    go_ret
    exact ⟨rfl, hb⟩
  · go_wp2_with (go_at_call 4; refine hL.out.mono ?_; rintro e w1 ⟨rfl, hb⟩)
    go_ret
    exact ⟨rfl, hb⟩
theorem size_setCell' (w : World) (p : Addr) (v : Value) : (w.setCell p v).heap.size = w.heap.size := by
  unfold World.setCell; split <;> simp
set_option maxRecDepth 100000 in
set_option maxHeartbeats 16000000 in
theorem shapes_in (k n : Nat) (hk : k < 16) (hn : n ≤ 53) (b t : BitVec 64) (w : World) (hT : Tb w) :
    Calls Tryd.prog 3 #[.int .i64 k, .int .i64 n, .int .u64 (n64 b), .int .u64 (n64 t)] w fun e w' => e = .returned (.bool true) ∧ Below w.heap.size w w' := by
  have d1 : decide ((k : Int) < 0) = false := decide_eq_false (by omega)
  have d2 : decide ((15 : Int) < k) = false := decide_eq_false (by omega)
  have d3 : decide ((n : Int) < 0) = false := decide_eq_false (by omega)
  have d4 : decide ((53 : Int) < n) = false := decide_eq_false (by omega)
  have e1 : IntKind.u64.wrap (IntKind.u64.wrap (IntKind.u64.wrap (n64 b * 1024) / 1024 / 2 ^ (n + 1) * 2 ^ (n + 1)) * 4) = n64 (shF n b) := by
    rw [show (1024 : Int) = 2 ^ 10 from rfl, n64_shl, n64_shr, n64_shr, n64_shl, show (4 : Int) = 2 ^ 2 from rfl, n64_shl]; rfl
  have e2 : IntKind.u64.wrap (8 * 2 ^ n) = n64 (8#64 <<< n) := n64_shl 8#64 n
  have e3 : bits .or .u64 (n64 (shF n b) / 4) (IntKind.u64.wrap (IntKind.u64.wrap (2 ^ n) - 1)) = n64 (shA n b) := by
    rw [mask_int, show (4 : Int) = 2 ^ 2 from rfl, n64_shr, n64_or]; rfl
  have e4 : IntKind.u64.wrap (n64 (npL (shA n b)) - n64 (shF n b)) = n64 (8#64 <<< n - 1#64) := by rw [n64_sub, sh_size n hn]
  have e5 : IntKind.u64.wrap (n64 (8#64 <<< n) - 1) = n64 (8#64 <<< n - 1#64) := n64_sub _ 1#64
  have e6 : IntKind.u64.wrap (n64 (shF n b) - 1) = n64 (shF n b - 1#64) := n64_sub _ 1#64
  have e7 : IntKind.u64.wrap (n64 (npL (shA n b)) + 1) = n64 (npL (shA n b) + 1#64) := n64_add _ 1#64
  have e8 : IntKind.u64.wrap (n64 (shA n b) * 4) = n64 (shA n b <<< 2) := n64_shl _ 2
  have e9 : IntKind.u64.wrap (n64 (shA n b <<< 2) + 3) = n64 (shA n b <<< 2 + 3#64) := n64_add _ 3#64
  have e10 : IntKind.u64.wrap (n64 (shA n b <<< 2) - 1) = n64 (shA n b <<< 2 - 1#64) := n64_sub _ 1#64
  have e11 : IntKind.u64.wrap (n64 t * 1024) / (256 : Int) = n64 (pad t <<< 2) := by
    rw [show (1024 : Int) = 2 ^ 10 from rfl, n64_shl, show (256 : Int) = 2 ^ 8 from rfl, n64_shr, to_from]
  have h1 : Hid (∀ W : World, Calls Tryd.prog 5 #[.agg (pc lz8 lz64), .int .i64 k, .int .u64 (n64 (shA n b))] W fun e w' => e = .returned (.agg (pc lz8 (eA k n b))) ∧ Below W.heap.size W w') := fun W => set_sh k n b hk hn W
  have h2 : Hid (∀ W : World, Tb W → Calls Tryd.prog 6 #[.agg (pc (upd lz8 k 25#8) (eA k n b)), .int .i64 k] W fun e w' => e = .returned (.tuple #[.int .u64 (n64 (shF n b)), .int .u64 (n64 (npL (shA n b))), .bool true]) ∧ Below W.heap.size W w') := fun W h => span_na k n b hk hn W h
  have g1 : Hid (∀ W : World, Tb W → Calls Tryd.prog 7 #[.agg (pc (upd lz8 k 25#8) (eA k n b)), .int .u64 (n64 (npL (shA n b))), .int .i64 1] W fun e w' => e = .returned (.bool true) ∧ Below W.heap.size W w') := fun W h => gr_c k n b hk hn _ _ (in_hi n b hn) W h
  have g2 : Hid (∀ W : World, Tb W → Calls Tryd.prog 7 #[.agg (pc (upd lz8 k 25#8) (eA k n b)), .int .u64 (n64 (shF n b)), .int .i64 1] W fun e w' => e = .returned (.bool true) ∧ Below W.heap.size W w') := fun W h => gr_c k n b hk hn _ _ (in_lo n b hn) W h
  have g3 : Hid (∀ W : World, Tb W → Calls Tryd.prog 7 #[.agg (pc (upd lz8 k 25#8) (eA k n b)), .int .u64 (n64 (shF n b - 1#64)), .int .i64 1] W fun e w' => e = .returned (.bool false) ∧ Below W.heap.size W w') := fun W h => gr_c k n b hk hn _ _ (in_below n b hn) W h
  have g4 : Hid (∀ W : World, Tb W → Calls Tryd.prog 7 #[.agg (pc (upd lz8 k 25#8) (eA k n b)), .int .u64 (n64 (npL (shA n b) + 1#64)), .int .i64 1] W fun e w' => e = .returned (.bool false) ∧ Below W.heap.size W w') := fun W h => gr_c k n b hk hn _ _ (in_above n b hn) W h
  have h3 : Hid (∀ W : World, Tb W → Calls Tryd.prog 6 #[.agg (pc (upd lz8 k 17#8) (eA k n b)), .int .i64 k] W fun e w' => e = .returned (.tuple #[.int .u64 (n64 (shA n b <<< 2)), .int .u64 (n64 (shA n b <<< 2 + 3#64)), .bool true]) ∧ Below W.heap.size W w') := fun W h => span_n4 k n b hk hn W h
  have h5 : Hid (∀ (o : Option (BitVec 64 × BitVec 64)) (ho : (if n64 (shA n b) ≤ n64 (eF k t) then none else some (eF k t <<< 2, shA n b <<< 2 - 1#64)) = o) (W : World), Tb W → Calls Tryd.prog 6 #[.agg (pc (upd lz8 k 9#8) (eB k n b t)), .int .i64 k] W fun e w' => e = .returned (.tuple #[.int .u64 (n64 (sF o)), .int .u64 (n64 (sL o)), .bool o.isSome]) ∧ Below W.heap.size W w') := fun o ho W h => span_to k n b hk hn t W h o ho
  have HTO : Hid (∀ W : World, ∀ j : Nat, k = j + 1 → Calls Tryd.prog 5 #[.agg (pc (upd lz8 k 9#8) (eA k n b)), .int .i64 j, .int .u64 (n64 t)] W fun e w' => e = .returned (.agg (pc (upd lz8 k 9#8) (eB k n b t))) ∧ Below W.heap.size W w') := fun W j hj => by subst hj; exact set_to n b j (by omega) hn t W
  have HEA : Hid (eA k n b k = shA n b ∧ eB k n b t k = shA n b ∧ (k = 0 → eB k n b t = eA k n b) ∧ (n64 (shA n b <<< 2) ≤ n64 (eF k t <<< 2) ↔ n64 (shA n b) ≤ n64 (eF k t)) ∧ (k ≠ 0 → eF k t = pad t) ∧ (k = 0 → eF k t = 0#64)) :=
    ⟨eA_at k n b, eB_at k n b t, fun h => by unfold eB; rw [if_pos h], shl2_le (shA_lt n hn b) (by unfold eF; split; decide; exact pad_lt t), fun h => by unfold eF; rw [if_neg h], fun h => by unfold eF; rw [if_pos h]⟩
  have HK : Hid (k < 16) := hk
  have hk16 : (k : Int) < 16 := by omega
  have HT : Hid (Tb w) := hT
  have hz : pc (fun _ => 0#8) (fun _ => 0#64) = pc lz8 lz64 := rfl
  clear hT hk
  generalize eA k n b = E at *
  generalize eB k n b t = E2 at *
  generalize shF n b - 1#64 = F1 at *
  generalize npL (shA n b) + 1#64 = L1 at *
  generalize npL (shA n b) = L at *
  generalize shF n b = F at *
  generalize shA n b <<< 2 + 3#64 = A43 at *
  generalize shA n b <<< 2 - 1#64 = A41 at *
  generalize shA n b <<< 2 = A4 at *
  generalize shA n b = A at *
  generalize 8#64 <<< n - 1#64 = S1 at *
  generalize 8#64 <<< n = S at *
  go_enter Tryd.func3, Tryd.ntmps3
  go_upto_region 6 with (first | (go_at_call 5; rw [pc_zero, hz]; refine (h1.out _).mono ?_; rintro e w1 ⟨rfl, hb⟩; have B1 : Hid (Below w.heap.size w w1) := hb; clear hb) | (refine wpList_store_new (by rfl) _ _ _ (by rfl) (by rfl) _ _ (by rfl) (by rfl) (by rw [pc_size]; kernel_rfl) (by rw [pc_size]; rfl) (pc_ones _ _) ?_))
  obtain ⟨W1, hW1, R1, q1, s1⟩ := start1 w1 (pc lz8 E) 28
  rw [hW1]
  have B2 : Hid (Below w.heap.size w W1 ∧ w1.heap.size < W1.heap.size) := ⟨B1.out.trans (q1.out.mono B1.out.size), by rw [s1]; omega⟩
  have HG : Hid (w.heap.size ≤ w1.heap.size) := B1.out.size
  clear hW1 q1 s1 B1 h1 e1 e2 e3 hn
  generalize w1.heap.size = g at *
  have c1 : ∃ u, W1.cell? ⟨g, k, none⟩ = some u := ⟨_, by rw [R1.out.cell, pc_at _ _ _ (by have := HK.out; omega)]⟩
  obtain ⟨u1, c1⟩ := c1
  have f1 := R1.out.froz k
  go_upto_region 7 with fail
  clear c1 f1
  obtain ⟨W2, hW2, RW2, BW2⟩ : ∃ W', W1.setCell ⟨g, k, none⟩ (.int .u8 25) = W' ∧ Hid (Row W' g (pc (upd lz8 k 25#8) E) 28) ∧ Hid (Below w.heap.size w W' ∧ g < W'.heap.size) := by
    refine ⟨_, rfl, ?_, below_put B2.out.1 HG.out _, by have h := B2.out.2; rw [size_setCell']; exact h⟩
    have h := Row.put (i := k) R1.out (.int .u8 (n8 25#8))
    rw [pc_cfg _ _ _ _ HK.out] at h
    exact h
  rw [hW2]
  clear hW2
  clear R1 B2
  have AT2 : Hid (∀ W, Below W2.heap.size W2 W → Row W g (pc (upd lz8 k 25#8) E) 28 ∧ Tb W) := fun W hb => ⟨RW2.out.later hb BW2.out.2, (HT.out.next BW2.out.1).next hb⟩
  have T2 : Hid (Tb W2) := HT.out.next BW2.out.1
  have F1' : Hid True := trivial
  go_upto_region 10 with (first | (refine wpList_load_rowG (by rfl) _ _ (by rfl) _ (by rfl) 28 _ (0, 0) _ RW2.out Tryd.underlying28 (by rfl) (by rw [pc_size]; kernel_rfl) ?_) | (refine wpList_load_rowG (by rfl) _ _ (by rfl) _ (by rfl) 28 _ (0, 0) _ (AT2.out _ B_w3.out).1 Tryd.underlying28 (by rfl) (by rw [pc_size]; kernel_rfl) ?_) | (refine wpList_load_rowG (by rfl) _ _ (by rfl) _ (by rfl) 28 _ (0, 0) _ (AT2.out _ B_w4.out).1 Tryd.underlying28 (by rfl) (by rw [pc_size]; kernel_rfl) ?_) | (refine wpList_load_rowG (by rfl) _ _ (by rfl) _ (by rfl) 28 _ (0, 0) _ (AT2.out _ B_w5.out).1 Tryd.underlying28 (by rfl) (by rw [pc_size]; kernel_rfl) ?_) | (refine wpList_load_rowG (by rfl) _ _ (by rfl) _ (by rfl) 28 _ (0, 0) _ (AT2.out _ B_w6.out).1 Tryd.underlying28 (by rfl) (by rw [pc_size]; kernel_rfl) ?_) | (go_at_call 6; refine (h2.out _ T2.out).mono ?_; rintro e w3 ⟨rfl, hb⟩; have B_w3 : Hid (Below W2.heap.size W2 w3) := hb; clear hb; skip) | (go_at_call 7; clear F1'; refine (g1.out _ (AT2.out _ B_w3.out).2).mono ?_; rintro e w4 ⟨rfl, hb⟩; have B_w4 : Hid (Below W2.heap.size W2 w4) := B_w3.out.trans (hb.mono B_w3.out.size); clear hb; skip; have F2' : Hid True := trivial) | (go_at_call 7; clear F2'; refine (g2.out _ (AT2.out _ B_w4.out).2).mono ?_; rintro e w5 ⟨rfl, hb⟩; have B_w5 : Hid (Below W2.heap.size W2 w5) := B_w4.out.trans (hb.mono B_w4.out.size); clear hb; skip; have F3' : Hid True := trivial) | (go_at_call 7; clear F3'; refine (g3.out _ (AT2.out _ B_w5.out).2).mono ?_; rintro e w6 ⟨rfl, hb⟩; have B_w6 : Hid (Below W2.heap.size W2 w6) := B_w5.out.trans (hb.mono B_w5.out.size); clear hb; skip; have F4' : Hid True := trivial) | (go_at_call 7; clear F4'; refine (g4.out _ (AT2.out _ B_w6.out).2).mono ?_; rintro e w7 ⟨rfl, hb⟩; have B_w7 : Hid (Below W2.heap.size W2 w7) := B_w6.out.trans (hb.mono B_w6.out.size); clear hb; skip))
  have R7 : Hid (Row w7 g (pc (upd lz8 k 25#8) E) 28) := (AT2.out _ B_w7.out).1
  have B7 : Hid (Below w.heap.size w w7 ∧ g < w7.heap.size) := ⟨BW2.out.1.trans (B_w7.out.mono BW2.out.1.size), Nat.lt_of_lt_of_le BW2.out.2 B_w7.out.size⟩
  clear AT2 T2 B_w3 B_w4 B_w5 B_w6 B_w7 RW2 BW2 g1 g2 g3 g4 h2 e4 e5 e6 e7
  have c1 : ∃ u, w7.cell? ⟨g, k, none⟩ = some u := ⟨_, by rw [R7.out.cell, pc_at _ _ _ (by have := HK.out; omega)]⟩
  obtain ⟨u2, c1⟩ := c1
  have f1 := R7.out.froz k
  go_upto_region 11 with fail
  clear c1 f1
  obtain ⟨W8, hW8, RW8, BW8⟩ : ∃ W', w7.setCell ⟨g, k, none⟩ (.int .u8 17) = W' ∧ Hid (Row W' g (pc (upd lz8 k 17#8) E) 28) ∧ Hid (Below w.heap.size w W' ∧ g < W'.heap.size) := by
    refine ⟨_, rfl, ?_, below_put B7.out.1 HG.out _, by have h := B7.out.2; rw [size_setCell']; exact h⟩
    have h := Row.put (i := k) R7.out (.int .u8 (n8 17#8))
    rw [pc_cfg _ _ _ _ HK.out, upd_twice] at h
    exact h
  rw [hW8]
  clear hW8
  clear R7 B7
  have AT2 : Hid (∀ W, Below W8.heap.size W8 W → Row W g (pc (upd lz8 k 17#8) E) 28 ∧ Tb W) := fun W hb => ⟨RW8.out.later hb BW8.out.2, (HT.out.next BW8.out.1).next hb⟩
  have T2 : Hid (Tb W8) := HT.out.next BW8.out.1
  have hcA : Hid (∀ (W : World) (x : BitVec 8), Row W g (pc (upd lz8 k x) E) 28 → W.cell? ⟨g, 16 + k, none⟩ = some (.int .u64 (n64 A))) := fun W x h => by
    have hk := HK.out
    rw [h.cell, pc_at _ _ _ (by omega)]
    unfold pcell
    rw [if_neg (by omega), show 16 + k - 16 = k by omega, HEA.out.1]
  go_upto_region 14 with (first | (refine wpList_load_rowG (by rfl) _ _ (by rfl) _ (by rfl) 28 _ (0, 0) _ RW8.out Tryd.underlying28 (by rfl) (by rw [pc_size]; kernel_rfl) ?_) | (go_at_call 6; refine (h3.out _ T2.out).mono ?_; rintro e w9 ⟨rfl, hb⟩; have B_w9 : Hid (Below W8.heap.size W8 w9) := hb; clear hb; have k9 := hcA.out w9 _ (AT2.out w9 B_w9.out).1; skip))
  have R9 : Hid (Row w9 g (pc (upd lz8 k 17#8) E) 28) := (AT2.out _ B_w9.out).1
  have B9 : Hid (Below w.heap.size w w9 ∧ g < w9.heap.size) := ⟨BW8.out.1.trans (B_w9.out.mono BW8.out.1.size), Nat.lt_of_lt_of_le BW8.out.2 B_w9.out.size⟩
  clear AT2 T2 B_w9 RW8 BW8 h3 e9 k9
  have c1 : ∃ u, w9.cell? ⟨g, k, none⟩ = some u := ⟨_, by rw [R9.out.cell, pc_at _ _ _ (by have := HK.out; omega)]⟩
  obtain ⟨u3, c1⟩ := c1
  have f1 := R9.out.froz k
  go_upto_region 15 with fail
  clear c1 f1
  obtain ⟨W10, hW10, RW10, BW10⟩ : ∃ W', w9.setCell ⟨g, k, none⟩ (.int .u8 9) = W' ∧ Hid (Row W' g (pc (upd lz8 k 9#8) E) 28) ∧ Hid (Below w.heap.size w W' ∧ g < W'.heap.size) := by
    refine ⟨_, rfl, ?_, below_put B9.out.1 HG.out _, by have h := B9.out.2; rw [size_setCell']; exact h⟩
    have h := Row.put (i := k) R9.out (.int .u8 (n8 9#8))
    rw [pc_cfg _ _ _ _ HK.out, upd_twice] at h
    exact h
  rw [hW10]
  clear hW10
  clear R9 B9
  have T10 : Hid (Tb W10) := HT.out.next BW10.out.1
  have hcB : Hid (∀ (W : World) (x : BitVec 8), Row W g (pc (upd lz8 k x) E2) 28 → W.cell? ⟨g, 16 + k, none⟩ = some (.int .u64 (n64 A))) := fun W x h => by
    have hk := HK.out
    rw [h.cell, pc_at _ _ _ (by omega)]
    unfold pcell
    rw [if_neg (by omega), show 16 + k - 16 = k by omega, HEA.out.2.1]
  by_cases hk0 : k = 0
  · have hE := HEA.out.2.2.1 hk0
    have hF := HEA.out.2.2.2.2.2 hk0
    subst hE
    have hle := HEA.out.2.2.2.1
    rw [hF] at hle h5
    have AT2 : Hid (∀ W, Below W10.heap.size W10 W → Row W g (pc (upd lz8 k 9#8) E2) 28 ∧ Tb W) := fun W hb => ⟨RW10.out.later hb BW10.out.2, T10.out.next hb⟩
    have hle2 : n64 A4 ≤ 0 ↔ n64 A ≤ 0 := hle
    have d0 : ¬ (0 : Int) < k := by omega
    clear hle hF HEA HTO e11 hcA d1 d2 d3 d4 hk0
    by_cases hA : n64 A ≤ 0
    · have h6 := h5.out none (by rw [if_pos (show n64 A ≤ n64 0#64 from hA)])
      have h7 : Hid (∀ W : World, Tb W → Calls Tryd.prog 6 #[.agg (pc (upd lz8 k 9#8) E2), .int .i64 k] W fun e w' => e = .returned (.tuple #[.int .u64 0, .int .u64 0, .bool false]) ∧ Below W.heap.size W w') := h6
      have hA4 := hle2.2 hA
      clear h5 h6 hle2 hA
      go_wp2_with (first | (refine wpList_load_rowG (by rfl) _ _ (by rfl) _ (by rfl) 28 _ (0, 0) _ RW10.out Tryd.underlying28 (by rfl) (by rw [pc_size]; kernel_rfl) ?_) | (go_at_call 6; refine (h7.out _ T10.out).mono ?_; rintro e w11 ⟨rfl, hb⟩; have B_w11 : Hid (Below W10.heap.size W10 w11) := hb; clear hb; have k11 := hcB.out w11 _ (AT2.out w11 B_w11.out).1; skip))
      go_ret
      exact ⟨rfl, BW10.out.1.trans (B_w11.out.mono BW10.out.1.size)⟩
    · have h6 := h5.out (some (0#64, A41)) (by rw [if_neg (show ¬ n64 A ≤ n64 0#64 from hA)]; rfl)
      have h7 : Hid (∀ W : World, Tb W → Calls Tryd.prog 6 #[.agg (pc (upd lz8 k 9#8) E2), .int .i64 k] W fun e w' => e = .returned (.tuple #[.int .u64 0, .int .u64 (n64 A41), .bool true]) ∧ Below W.heap.size W w') := h6
      have hA4 : ¬ n64 A4 ≤ 0 := fun h => hA (hle2.1 h)
      clear h5 h6 hle2 hA
      go_wp2_with (first | (refine wpList_load_rowG (by rfl) _ _ (by rfl) _ (by rfl) 28 _ (0, 0) _ RW10.out Tryd.underlying28 (by rfl) (by rw [pc_size]; kernel_rfl) ?_) | (go_at_call 6; refine (h7.out _ T10.out).mono ?_; rintro e w11 ⟨rfl, hb⟩; have B_w11 : Hid (Below W10.heap.size W10 w11) := hb; clear hb; have k11 := hcB.out w11 _ (AT2.out w11 B_w11.out).1; skip))
      go_ret
      exact ⟨rfl, BW10.out.1.trans (B_w11.out.mono BW10.out.1.size)⟩
  · obtain ⟨j, hj⟩ : ∃ j, k = j + 1 := ⟨k - 1, by omega⟩
    have hF := HEA.out.2.2.2.2.1 hk0
    have hle := HEA.out.2.2.2.1
    rw [hF] at hle h5
    have d0 : (0 : Int) < k := by omega
    have dj : (k : Int) - 1 = j := by omega
    have h4 : Hid (∀ W : World, Calls Tryd.prog 5 #[.agg (pc (upd lz8 k 9#8) E), .int .i64 j, .int .u64 (n64 t)] W fun e w' => e = .returned (.agg (pc (upd lz8 k 9#8) E2)) ∧ Below W.heap.size W w') := fun W => HTO.out W j hj
    clear hF HEA HTO hcA d1 d2 d3 d4 hk0 hj
    generalize pad t <<< 2 = T4 at *
    generalize pad t = T0 at *
    go_upto_region 18 with (first | (refine wpList_load_rowG (by rfl) _ _ (by rfl) _ (by rfl) 28 _ (0, 0) _ RW10.out Tryd.underlying28 (by rfl) (by rw [pc_size]; kernel_rfl) ?_) | (go_at_call 5; refine (h4.out _).mono ?_; rintro e w11 ⟨rfl, hb⟩; have B_w11 : Hid (Below W10.heap.size W10 w11) := hb; clear hb; skip) | (refine wpList_store_row (by rfl) _ _ _ (by rfl) (by rfl) _ _ _ (by rfl) (by rfl) (RW10.out.later B_w11.out BW10.out.2) (by rw [pc_size]; kernel_rfl) (by rw [pc_size, pc_size]) (pc_ones _ _) ?_))
    obtain ⟨W12, hW12, R12, B12⟩ : ∃ W2, w11.setRow g (pc (upd lz8 k 9#8) E2) = W2 ∧ Hid (Row W2 g (pc (upd lz8 k 9#8) E2) 28) ∧ Hid (Below w.heap.size w W2 ∧ g < W2.heap.size) := ⟨_, rfl, setRow_heap _ _ _ _ _ _ (RW10.out.later B_w11.out BW10.out.2), below_row (BW10.out.1.trans (B_w11.out.mono BW10.out.1.size)) HG.out _, by have := B_w11.out.size; have := BW10.out.2; rw [size_setRow]; omega⟩
    rw [hW12]
    have T12 : Hid (Tb W12) := HT.out.next B12.out.1
    have AT2 : Hid (∀ W, Below W12.heap.size W12 W → Row W g (pc (upd lz8 k 9#8) E2) 28 ∧ Tb W) := fun W hb => ⟨R12.out.later hb B12.out.2, T12.out.next hb⟩
    clear hW12 RW10 BW10 B_w11 T10 dj h4
    by_cases hA : n64 A ≤ n64 T0
    · have h6 := h5.out none (by rw [if_pos hA])
      have h7 : Hid (∀ W : World, Tb W → Calls Tryd.prog 6 #[.agg (pc (upd lz8 k 9#8) E2), .int .i64 k] W fun e w' => e = .returned (.tuple #[.int .u64 0, .int .u64 0, .bool false]) ∧ Below W.heap.size W w') := h6
      have hA4 := hle.2 hA
      clear h5 h6 hle hA
      go_wp2_with (first | (refine wpList_load_rowG (by rfl) _ _ (by rfl) _ (by rfl) 28 _ (0, 0) _ R12.out Tryd.underlying28 (by rfl) (by rw [pc_size]; kernel_rfl) ?_) | (go_at_call 6; refine (h7.out _ T12.out).mono ?_; rintro e w13 ⟨rfl, hb⟩; have B_w13 : Hid (Below W12.heap.size W12 w13) := hb; clear hb; have k13 := hcB.out w13 _ (AT2.out w13 B_w13.out).1; skip))
      go_ret
      exact ⟨rfl, B12.out.1.trans (B_w13.out.mono B12.out.1.size)⟩
    · have h6 := h5.out (some (T4, A41)) (by rw [if_neg hA])
      have h7 : Hid (∀ W : World, Tb W → Calls Tryd.prog 6 #[.agg (pc (upd lz8 k 9#8) E2), .int .i64 k] W fun e w' => e = .returned (.tuple #[.int .u64 (n64 T4), .int .u64 (n64 A41), .bool true]) ∧ Below W.heap.size W w') := h6
      have hA4 : ¬ n64 A4 ≤ n64 T4 := fun h => hA (hle.1 h)
      clear h5 h6 hle hA
      go_wp2_with (first | (refine wpList_load_rowG (by rfl) _ _ (by rfl) _ (by rfl) 28 _ (0, 0) _ R12.out Tryd.underlying28 (by rfl) (by rw [pc_size]; kernel_rfl) ?_) | (go_at_call 6; refine (h7.out _ T12.out).mono ?_; rintro e w13 ⟨rfl, hb⟩; have B_w13 : Hid (Below W12.heap.size W12 w13) := hb; clear hb; have k13 := hcB.out w13 _ (AT2.out w13 B_w13.out).1; skip))
      go_ret
      exact ⟨rfl, B12.out.1.trans (B_w13.out.mono B12.out.1.size)⟩
end Go.Proofs.YtonfobfhdmejkaaDoor
