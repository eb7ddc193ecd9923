/-
  Psk Oo.
-/
import Derived.Test.YtidfndgedopghaaGreatDoorM10
import Derived.Test.YtidfndgedopghaaGreatDoorM35
import Derived.Test.YtidfndgedopghaaGreatDoorM16
namespace Go.Proofs.YtidfndgedopghaaGreatDoor
set_option linter.unusedVariables false
open Go.ChangeShapes Go.WideShapes Go.ChangeAt Go.RowKit Go.Deep
set_option maxRecDepth 100000 in
set_option maxHeartbeats 2000000 in
theorem rCheck_no (c : Nat → BitVec 8) (a : Nat → BitVec 64) (m : Int) (ad : BitVec 64) (s b : Int) (h : ¬ ckOk m s b) (w : World) :
    Calls Tryz.prog 155 #[.agg (pc c a), .int .i64 m, .int .u64 (n64 ad), .int .i64 s, .int .i64 b] w fun e w' => e = .returned (.bool false) ∧ Below w.heap.size w w' := by
  obtain ⟨W0, hW0, r0, b0, s0⟩ := start1 w (pc c a) 28
  have HS : Hid (W0.heap.size = w.heap.size + 1) := s0
  clear s0
  go_enter Tryz.func155, Tryz.ntmps155
  go_upto_region 1 with fail
  clear hW0
  go_upto_region 2 with (first | (refine wpList_load_rowG (by rfl) _ _ (by rfl) _ (by rfl) 28 _ (0, 0) _ r0.out Tryz.underlying28 (by rfl) (by rw [pc_size]; kernel_rfl) ?_) | (go_at_call 47; refine (rProper_c c a _).mono ?_; rintro e w1 ⟨rfl, hb1⟩; have HB1 : Hid (Below W0.heap.size W0 w1) := hb1; clear hb1) | (refine wpList_store_row (by rfl) _ _ _ (by rfl) (by rfl) _ _ _ (by rfl) (by rfl) (r0.out.later HB1.out (by rw [HS.out]; omega)) (by rw [pc_size]; kernel_rfl) (by rw [pc_size, pc_size]) (pc_ones _ _) ?_))
  obtain ⟨W2, hW2, r2, b2, s2⟩ := start_p (pc (PC c) (PA a)) r0.out b0.out (by rw [HS.out]; omega) HB1.out
  rw [hW2]
  clear hW2 HB1 r0 b0 HS
  have HH : Hid (¬ ckOk m s b) := h
  clear h
  by_cases h1 : m = 0 ∨ m = 3
  · have hx : (s < 1 ∨ 8 < s) ∨ (b < 1 ∨ 7 < b) := by
      by_cases q : (s < 1 ∨ 8 < s) ∨ (b < 1 ∨ 7 < b)
      · exact q
      · exact absurd ⟨h1, by omega, by omega⟩ HH.out
    rcases h1 with h1 | h1
    all_goals
      subst h1
      by_cases q1 : s < 1
      · go_wp2
        go_ret
        exact ⟨rfl, b2.out⟩
      · by_cases q2 : 8 < s
        · go_wp2
          go_ret
          exact ⟨rfl, b2.out⟩
        · by_cases q3 : b < 1
          · go_wp2
            go_ret
            exact ⟨rfl, b2.out⟩
          · have q4 : 7 < b := by omega
            go_wp2
            go_ret
            exact ⟨rfl, b2.out⟩
  · have n0 : (m != 0) = true := by rw [bne_iff_ne]; exact fun e => h1 (.inl e)
    have n3 : (m != 3) = true := by rw [bne_iff_ne]; exact fun e => h1 (.inr e)
    clear h1
    go_wp2
    go_ret
    exact ⟨rfl, b2.out⟩
set_option maxRecDepth 100000 in
set_option maxHeartbeats 2000000 in
theorem rCheck_yes (c : Nat → BitVec 8) (a : Nat → BitVec 64) (m : Int) (ad : BitVec 64) (s : Nat) (b : Int) (h : ckOk m s b) (w : World) :
    Calls Tryz.prog 155 #[.agg (pc c a), .int .i64 m, .int .u64 (n64 ad), .int .i64 s, .int .i64 b] w fun e w' => e = .returned (.bool (ckM (PC c) m (MT (hn (PC c) (PA a) ad s) s) b)) ∧ Below w.heap.size w w' := by
  obtain ⟨W0, hW0, r0, b0, s0⟩ := start1 w (pc c a) 28
  have HS : Hid (W0.heap.size = w.heap.size + 1) := s0
  clear s0
  obtain ⟨h1, h2, h3⟩ := h
  have q1 : ¬ (s : Int) < 1 := by omega
  have q2 : ¬ (8 : Int) < s := by omega
  have q3 : ¬ b < 1 := by omega
  have q4 : ¬ 7 < b := by omega
  have HBt : Hid (∀ x : BitVec 8, bits .and .i64 (n8 x) b = bits .and .i64 (n8 (rts x)) b) := fun x => check_bits x b (by simp; omega)
  have HM : Hid (∀ W, Calls Tryz.prog 57 #[.agg (pc (PC c) (PA a)), .int .u64 (n64 ad), .int .i64 s] W fun e w' => e = .returned (.tuple #[.int .i64 (MT (hn (PC c) (PA a) ad s) s).1, .bool (MT (hn (PC c) (PA a) ad s) s).2]) ∧ Below W.heap.size W w') := fun W => by
    have := rMatch_in (PC c) (PA a) ad s (by omega) (by omega) W
    rw [PC_twice', PA_twice'] at this
    exact this
  have HCL : Hid (∀ (k : Nat) W, k < 16 → Calls Tryz.prog 167 #[.agg (pc (PC c) (PA a)), .int .i64 k] W fun e w' => e = .returned (.bool (lk (PC c k))) ∧ Below W.heap.size W w') := fun k W hk => rlocked_c (PC c) (PA a) k hk W
  obtain ⟨G, hG⟩ : ∃ G, G = ckM (PC c) m (MT (hn (PC c) (PA a) ad s) s) b := ⟨_, rfl⟩
  rw [← hG]
  have HG : Hid (G = ckM (PC c) m (MT (hn (PC c) (PA a) ad s) s) b) := hG
  clear h2 h3 hG
  have HMo : Hid (m = 0 ∨ m = 3) := h1
  clear h1
  go_enter Tryz.func155, Tryz.ntmps155
  go_upto_region 1 with fail
  clear hW0
  go_upto_region 2 with (first | (refine wpList_load_rowG (by rfl) _ _ (by rfl) _ (by rfl) 28 _ (0, 0) _ r0.out Tryz.underlying28 (by rfl) (by rw [pc_size]; kernel_rfl) ?_) | (go_at_call 47; refine (rProper_c c a _).mono ?_; rintro e w1 ⟨rfl, hb1⟩; have HB1 : Hid (Below W0.heap.size W0 w1) := hb1; clear hb1) | (refine wpList_store_row (by rfl) _ _ _ (by rfl) (by rfl) _ _ _ (by rfl) (by rfl) (r0.out.later HB1.out (by rw [HS.out]; omega)) (by rw [pc_size]; kernel_rfl) (by rw [pc_size, pc_size]) (pc_ones _ _) ?_))
  obtain ⟨W2, hW2, r2, b2, s2⟩ := start_p (pc (PC c) (PA a)) r0.out b0.out (by rw [HS.out]; omega) HB1.out
  rw [hW2]
  clear hW2 HB1 r0 b0 HS
  rcases MT_cases (hn (PC c) (PA a) ad s) s with hm | ⟨k, q, hk, hm⟩
  · rw [hm] at HM HG
    rw [ckM_none] at HG
    clear hm
    rcases HMo.out with h0 | h0
    all_goals
      subst h0
      have e9 := HG.out
      subst e9
      go_wp2_with (first | (refine wpList_load_rowG (by rfl) _ _ (by rfl) _ (by rfl) 28 _ (0, 0) _ r2.out Tryz.underlying28 (by rfl) (by rw [pc_size]; kernel_rfl) ?_) | (go_at_call 57; refine (HM.out _).mono ?_; rintro e w3 ⟨rfl, hb⟩; have HB3 : Hid (Below w.heap.size w w3) := b2.out.trans (hb.mono (Nat.le_of_lt s2.out)); clear hb))
      go_ret
      exact ⟨rfl, HB3.out⟩
  · rw [hm] at HM HG
    clear hm
    have hk2 : (k : Int) < 16 := by omega
    have hk3 : ¬ (k : Int) < 0 := by omega
    have hw := n8_wrap64 (PC c k)
    have hbt := HBt.out (PC c k)
    have MA : Hid (∀ W, Below W2.heap.size W2 W → Row W w.heap.size (pc (PC c) (PA a)) 28 ∧ Below w.heap.size w W) := fun W hb => ⟨r2.out.later hb s2.out, b2.out.trans (hb.mono (Nat.le_of_lt s2.out))⟩
    cases q with
    | false =>
      rw [ckM_part] at HG
      have e9 := HG.out
      subst e9
      rcases HMo.out with h0 | h0
      all_goals
        subst h0
        go_wp2_with (first | (refine wpList_load_rowG (by rfl) _ _ (by rfl) _ (by rfl) 28 _ (0, 0) _ r2.out Tryz.underlying28 (by rfl) (by rw [pc_size]; kernel_rfl) ?_) | (go_at_call 57; refine (HM.out _).mono ?_; rintro e w3 ⟨rfl, hb⟩; have HB3 : Hid (Below w.heap.size w w3) := b2.out.trans (hb.mono (Nat.le_of_lt s2.out)); clear hb))
        go_ret
        exact ⟨rfl, HB3.out⟩
    | true =>
      rcases HMo.out with h0 | h0
      · subst h0
        rw [ckM_asked _ _ _ _ (.inl rfl)] at HG
        go_wp2_with (first | (refine wpList_load_rowG (by rfl) _ _ (by rfl) _ (by rfl) 28 _ (0, 0) _ r2.out Tryz.underlying28 (by rfl) (by rw [pc_size]; kernel_rfl) ?_) | (go_at_call 57; refine (HM.out _).mono ?_; rintro e w3 ⟨rfl, hb⟩; have HB3 : Hid (Below W2.heap.size W2 w3) := hb; have d0 := prow_cfg (MA.out w3 hb).1 k hk; clear hb))
        go_ret
        refine ⟨?_, (MA.out w3 HB3.out).2⟩
        rw [HG.out]
        simp_all
      · subst h0
        cases hl : lk (PC c k) with
        | true =>
          rw [ckM_asked _ _ _ _ (.inr hl)] at HG
          have HCK : Hid (∀ W, Calls Tryz.prog 167 #[.agg (pc (PC c) (PA a)), .int .i64 k] W fun e w' => e = .returned (.bool true) ∧ Below W.heap.size W w') := fun W => by
            have := HCL.out k W hk
            rw [hl] at this
            exact this
          clear hl
          go_wp2_with (first | (refine wpList_load_rowG (by rfl) _ _ (by rfl) _ (by rfl) 28 _ (0, 0) _ r2.out Tryz.underlying28 (by rfl) (by rw [pc_size]; kernel_rfl) ?_) | (refine wpList_load_rowG (by rfl) _ _ (by rfl) _ (by rfl) 28 _ (0, 0) _ R3.out Tryz.underlying28 (by rfl) (by rw [pc_size]; kernel_rfl) ?_) | (go_at_call 57; refine (HM.out _).mono ?_; rintro e w3 ⟨rfl, hb⟩; have HB3 : Hid (Below W2.heap.size W2 w3) := hb; have R3 : Hid (Row w3 w.heap.size (pc (PC c) (PA a)) 28) := (MA.out w3 hb).1; clear hb) | (go_at_call 167; refine (HCK.out _).mono ?_; rintro e w4 ⟨rfl, hb⟩; have HB4 : Hid (Below W2.heap.size W2 w4) := HB3.out.trans (hb.mono HB3.out.size); have d0 := prow_cfg (MA.out w4 HB4.out).1 k hk; clear hb))
          go_ret
          refine ⟨?_, (MA.out w4 HB4.out).2⟩
          rw [HG.out]
          simp_all
        | false =>
          rw [ckM_free _ _ _ _ (by rw [hl]; simp)] at HG
          have e9 := HG.out
          subst e9
          have HCK : Hid (∀ W, Calls Tryz.prog 167 #[.agg (pc (PC c) (PA a)), .int .i64 k] W fun e w' => e = .returned (.bool false) ∧ Below W.heap.size W w') := fun W => by
            have := HCL.out k W hk
            rw [hl] at this
            exact this
          clear hl
          go_wp2_with (first | (refine wpList_load_rowG (by rfl) _ _ (by rfl) _ (by rfl) 28 _ (0, 0) _ r2.out Tryz.underlying28 (by rfl) (by rw [pc_size]; kernel_rfl) ?_) | (refine wpList_load_rowG (by rfl) _ _ (by rfl) _ (by rfl) 28 _ (0, 0) _ R3.out Tryz.underlying28 (by rfl) (by rw [pc_size]; kernel_rfl) ?_) | (go_at_call 57; refine (HM.out _).mono ?_; rintro e w3 ⟨rfl, hb⟩; have HB3 : Hid (Below W2.heap.size W2 w3) := hb; have R3 : Hid (Row w3 w.heap.size (pc (PC c) (PA a)) 28) := (MA.out w3 hb).1; clear hb) | (go_at_call 167; refine (HCK.out _).mono ?_; rintro e w4 ⟨rfl, hb⟩; have HB4 : Hid (Below W2.heap.size W2 w4) := HB3.out.trans (hb.mono HB3.out.size); clear hb))
          go_ret
          exact ⟨rfl, (MA.out w4 HB4.out).2⟩
theorem rCheck_c (c : Nat → BitVec 8) (a : Nat → BitVec 64) (m : Int) (ad : BitVec 64) (s b : Int) (w : World) :
    Calls Tryz.prog 155 #[.agg (pc c a), .int .i64 m, .int .u64 (n64 ad), .int .i64 s, .int .i64 b] w fun e w' => e = .returned (.bool (ckA (PC c) (PA a) m ad s b)) ∧ Below w.heap.size w w' := by
  by_cases h : ckOk m s b
  · obtain ⟨q, rfl⟩ : ∃ q : Nat, s = q := ⟨s.toNat, by have := h.2.1; omega⟩
    rw [ckA_yes _ _ _ _ _ _ h]
    exact rCheck_yes c a m ad q b h w
  · rw [ckA_no _ _ _ _ _ _ h]
    exact rCheck_no c a m ad s b h w
end Go.Proofs.YtidfndgedopghaaGreatDoor
namespace Go.Proofs.YtidfndgedopghaaGreatDoor
set_option linter.unusedVariables false
set_option maxRecDepth 100000
set_option maxHeartbeats 4000000
open Go.ChangeShapes Go.WideShapes Go.ChangeAt Go.RowKit Go.Deep
theorem m6280 : ∀ i, i < 64 → (6280#64).getLsbD i = (((decide (i = 3) || decide (i = 7)) || decide (i = 11)) || decide (i = 12)) := by decide
theorem m6144b : ∀ i, i < 64 → (6144#64).getLsbD i = (decide (i = 11) || decide (i = 12)) := by decide
theorem sh_37 (v : BitVec 64) (i : Nat) (hi : i < 64) : (((v >>> 3) &&& 1#64) <<< 7).getLsbD i = (decide (i = 7) && v.getLsbD 3) := by
  rw [BitVec.getLsbD_shiftLeft, BitVec.getLsbD_and, BitVec.getLsbD_ushiftRight]
  by_cases h : i = 7
  · subst h; simp
  · by_cases h7 : i < 7
    · simp [h, h7]
    · have h0 : (1#64).getLsbD (i - 7) = false := by
        rw [show (1#64 : BitVec 64) = tp 0 from rfl, tp_bit _ _ (by decide) (by omega)]
        exact decide_eq_false (by omega)
      simp [h, h0]
theorem en_bits (v : BitVec 64) (m : Int) (hm : m = 0 ∨ m = 3) : (v &&& ~~~6280#64) ||| (((v >>> 3) &&& 1#64) <<< 7) ||| (if m = 3 then 6144#64 else 0#64) = enS v m := by
  apply BitVec.eq_of_getLsbD_eq
  intro i hi
  unfold enS
  rw [wB_bit _ _ _ hi, sB_bit _ _ _ (by decide) hi, sB_bit _ _ _ (by decide) hi]
  simp only [BitVec.getLsbD_or, BitVec.getLsbD_and, BitVec.getLsbD_not, hi, decide_true, Bool.true_and, m6280 i hi, sh_37 v i hi]
  rcases hm with rfl | rfl
  · rw [if_neg (by decide), BitVec.getLsbD_zero]
    by_cases h3 : i = 3
    · subst h3; simp
    · by_cases h7 : i = 7
      · subst h7; simp
      · by_cases h11 : i = 11
        · subst h11; simp
        · by_cases h12 : i = 12
          · subst h12; simp
          · simp [h3, h7, h11, h12]
  · rw [if_pos rfl, m6144b i hi]
    by_cases h3 : i = 3
    · subst h3; simp
    · by_cases h7 : i = 7
      · subst h7; simp
      · by_cases h11 : i = 11
        · subst h11; simp
        · by_cases h12 : i = 12
          · subst h12; simp
          · simp [h3, h7, h11, h12]
theorem rEn_c (v : BitVec 64) (m : Int) (hm : m = 0 ∨ m = 3) (w : World) : Calls Tryz.prog 150 #[.int .u64 (n64 v), .int .i64 m] w fun e w' => e = .returned (.int .u64 (n64 (enS v m))) ∧ w' = w := by
  have h1 : n64 v / (8 : Int) = n64 (v >>> 3) := n64_shr v 3
  have h2 : bits .and .u64 (n64 (v >>> 3)) 1 = n64 ((v >>> 3) &&& 1#64) := n64_and _ 1#64
  have h3 : bits .andNot .u64 (n64 v) 6280 = n64 (v &&& ~~~6280#64) := n64_andNot v 6280#64
  have h4 : IntKind.u64.wrap (n64 ((v >>> 3) &&& 1#64) * (128 : Int)) = n64 (((v >>> 3) &&& 1#64) <<< 7) := n64_shl _ 7
  have h5 : bits .or .u64 (n64 (v &&& ~~~6280#64)) (n64 (((v >>> 3) &&& 1#64) <<< 7)) = n64 ((v &&& ~~~6280#64) ||| (((v >>> 3) &&& 1#64) <<< 7)) := n64_or _ _
  have h6 : IntKind.u64.wrap m = m := by rcases hm with rfl | rfl <;> rfl
  have h7 : IntKind.u64.wrap (m * (2048 : Int)) = n64 (if m = 3 then 6144#64 else 0#64) := by rcases hm with rfl | rfl <;> rfl
  have h8 : bits .or .u64 (n64 ((v &&& ~~~6280#64) ||| (((v >>> 3) &&& 1#64) <<< 7))) (n64 (if m = 3 then 6144#64 else 0#64)) = n64 (enS v m) := by rw [n64_or, en_bits v m hm]
  clear hm
  generalize n64 (enS v m) = y7 at *
  generalize n64 (if m = 3 then 6144#64 else 0#64) = y6 at *
  generalize n64 ((v &&& ~~~6280#64) ||| (((v >>> 3) &&& 1#64) <<< 7)) = y5 at *
  generalize n64 (((v >>> 3) &&& 1#64) <<< 7) = y4 at *
  generalize n64 (v &&& ~~~6280#64) = y3 at *
  generalize n64 ((v >>> 3) &&& 1#64) = y2 at *
  generalize n64 (v >>> 3) = y1 at *
  generalize n64 v = y0 at *
  go_enter Tryz.func150, Tryz.ntmps150
  go_wp2
  go_ret
  exact ⟨rfl, rfl⟩
def r9B (b a : Cp) (r : Rw) : Bool := ((b.md != 0) || (((((((!(n64 (a.s 1) != n64 (b.s 1))) && (!(n64 (a.s 2) != n64 (b.s 2)))) && (!(n64 (a.s 3) != n64 (b.s 3)))) && (!(n64 (a.s 4) != n64 (b.s 4)))) && (!(n64 (a.s 5) != n64 (b.s 5)))) && (!(n64 (a.s 6) != n64 (b.s 6)))) && ((tpB r) || ((((n64 (a.s 0) == n64 (b.s 0)) && (n64 (a.s 7) == n64 (b.s 7))) && (n64 (a.s 8) == n64 (b.s 8))) && (n64 (a.s 9) == n64 (b.s 9))))))
theorem r9_c (b : Cp) (B : St) (br bi bo : Value) (a : Cp) (A : St) (ar ai ao : Value) (K : Cp) (tk ex so : Bool) (vi : Value) (r : Rw) (w : World) : Calls Tryz.prog 110 #[.agg (ssc b B br bi bo a A ar ai ao K tk ex so vi r)] w fun e w' => e = .returned (.bool (r9B b a r)) ∧ Below w.heap.size w w' := by
  obtain ⟨W0, hW0, r0, b0, s0⟩ := start1 w (ssc b B br bi bo a A ar ai ao K tk ex so vi r) 79
  have BB := Hid.mkU b0.out
  clear s0 b0
  have HM : Hid ((r9B b a r) = ((b.md != 0) || (((((((!(n64 (a.s 1) != n64 (b.s 1))) && (!(n64 (a.s 2) != n64 (b.s 2)))) && (!(n64 (a.s 3) != n64 (b.s 3)))) && (!(n64 (a.s 4) != n64 (b.s 4)))) && (!(n64 (a.s 5) != n64 (b.s 5)))) && (!(n64 (a.s 6) != n64 (b.s 6)))) && ((tpB r) || ((((n64 (a.s 0) == n64 (b.s 0)) && (n64 (a.s 7) == n64 (b.s 7))) && (n64 (a.s 8) == n64 (b.s 8))) && (n64 (a.s 9) == n64 (b.s 9))))))) := rfl
  have HTP : Hid (∀ W, Calls Tryz.prog 149 #[.agg (ssc b B br bi bo a A ar ai ao K tk ex so vi r)] W fun e w' => e = .returned (.bool (tpB r)) ∧ Below W.heap.size W w') := fun W => sTr_c b B br bi bo a A ar ai ao K tk ex so vi r W
  generalize hZ : (r9B b a r) = Z at HM ⊢
  clear hZ
  generalize tpB r = z1 at *
  go_enter Tryz.func110, Tryz.ntmps110
  go_upto_region 1 with fail
  clear hW0
  have hzc := zero_cpu
  have Cg3 : Hid (∀ j v, (cpc a)[j]? = some v → W0.cell? ⟨w.heap.size, 97 + j, none⟩ = some v) := (fun j v hv => (r0.out.cell (97 + j)).trans (ssc_ac _ _ _ _ _ _ _ _ _ _ _ _ _ _ _ _ j v hv))
  go_upto_region 2 with (first | (refine wpList_load_agg (by rfl) 32 _ (by rfl) w.heap.size 97 (by rfl) (cpc a) _ Cg3.out Tryz.underlying32 (by rfl) (info_cpuU _) ?_) | (refine wpList_store_new (by rfl) 32 _ _ (by rfl) (by rfl) (cpc cz) (cpc a) (by rfl) (by rfl) (info_cpuU _) (by rw [cpc_size, cpc_size]) (cpc_ones _) ?_))
  refine on_W (motive := fun W => Code.wp _ _ _ _ W) (Q := fun W => Row W w.heap.size (ssc b B br bi bo a A ar ai ao K tk ex so vi r) 79 ∧ Row W W0.heap.size (cpc a) 32 ∧ Below w.heap.size w W) ⟨r0.out.old r0.out.lt _, Row.new _ _ _, BB.out.trans ((below_al _ _).mono BB.out.size)⟩ ?_
  have hl_g3 : Hid (w.heap.size < W0.heap.size) := r0.out.lt
  generalize W0.heap.size = g3 at *
  clear Cg3 r0 BB  
  rintro W1 ⟨q0, qn, qb⟩
  have r0 := Hid.mkU q0
  have r_g3 := Hid.mkU qn
  have BB := Hid.mkU qb
  clear q0 qn qb
  have Cg4 : Hid (∀ j v, (cpc b)[j]? = some v → W1.cell? ⟨w.heap.size, 0 + j, none⟩ = some v) := (fun j v hv => (r0.out.cell (0 + j)).trans (ssc_bc0 _ _ _ _ _ _ _ _ _ _ _ _ _ _ _ _ j v hv))
  go_upto_region 3 with (first | (refine wpList_load_agg (by rfl) 32 _ (by rfl) w.heap.size 0 (by rfl) (cpc b) _ Cg4.out Tryz.underlying32 (by rfl) (info_cpuU _) ?_) | (refine wpList_store_new (by rfl) 32 _ _ (by rfl) (by rfl) (cpc cz) (cpc b) (by rfl) (by rfl) (info_cpuU _) (by rw [cpc_size, cpc_size]) (cpc_ones _) ?_))
  refine on_W (motive := fun W => Code.wp _ _ _ _ W) (Q := fun W => Row W w.heap.size (ssc b B br bi bo a A ar ai ao K tk ex so vi r) 79 ∧ Row W g3 (cpc a) 32 ∧ Row W W1.heap.size (cpc b) 32 ∧ Below w.heap.size w W) ⟨r0.out.old r0.out.lt _, r_g3.out.old r_g3.out.lt _, Row.new _ _ _, BB.out.trans ((below_al _ _).mono BB.out.size)⟩ ?_
  have hl_g4 : Hid (w.heap.size < W1.heap.size) := r0.out.lt
  generalize W1.heap.size = g4 at *
  clear Cg4 r0 BB r_g3 hzc
  rintro W2 ⟨q0, q1, qn, qb⟩
  have r0 := Hid.mkU q0
  have r_g3 := Hid.mkU q1
  have r_g4 := Hid.mkU qn
  have BB := Hid.mkU qb
  clear q0 q1 qn qb
  have cg3_s1 : ∀ x : Later W2, x.1.cell? ⟨g3, 36, none⟩ = some (.int .u64 (n64 (a.s 1))) := fun x => ((lrow r_g3.out x).cell 36).trans (cpc_at _ 36 (by omega))
  have cg3_s2 : ∀ x : Later W2, x.1.cell? ⟨g3, 37, none⟩ = some (.int .u64 (n64 (a.s 2))) := fun x => ((lrow r_g3.out x).cell 37).trans (cpc_at _ 37 (by omega))
  have cg3_s3 : ∀ x : Later W2, x.1.cell? ⟨g3, 38, none⟩ = some (.int .u64 (n64 (a.s 3))) := fun x => ((lrow r_g3.out x).cell 38).trans (cpc_at _ 38 (by omega))
  have cg3_s4 : ∀ x : Later W2, x.1.cell? ⟨g3, 39, none⟩ = some (.int .u64 (n64 (a.s 4))) := fun x => ((lrow r_g3.out x).cell 39).trans (cpc_at _ 39 (by omega))
  have cg3_s5 : ∀ x : Later W2, x.1.cell? ⟨g3, 40, none⟩ = some (.int .u64 (n64 (a.s 5))) := fun x => ((lrow r_g3.out x).cell 40).trans (cpc_at _ 40 (by omega))
  have cg3_s6 : ∀ x : Later W2, x.1.cell? ⟨g3, 41, none⟩ = some (.int .u64 (n64 (a.s 6))) := fun x => ((lrow r_g3.out x).cell 41).trans (cpc_at _ 41 (by omega))
  have cg3_s0 : ∀ x : Later W2, x.1.cell? ⟨g3, 35, none⟩ = some (.int .u64 (n64 (a.s 0))) := fun x => ((lrow r_g3.out x).cell 35).trans (cpc_at _ 35 (by omega))
  have cg3_s7 : ∀ x : Later W2, x.1.cell? ⟨g3, 42, none⟩ = some (.int .u64 (n64 (a.s 7))) := fun x => ((lrow r_g3.out x).cell 42).trans (cpc_at _ 42 (by omega))
  have cg3_s8 : ∀ x : Later W2, x.1.cell? ⟨g3, 43, none⟩ = some (.int .u64 (n64 (a.s 8))) := fun x => ((lrow r_g3.out x).cell 43).trans (cpc_at _ 43 (by omega))
  have cg3_s9 : ∀ x : Later W2, x.1.cell? ⟨g3, 44, none⟩ = some (.int .u64 (n64 (a.s 9))) := fun x => ((lrow r_g3.out x).cell 44).trans (cpc_at _ 44 (by omega))
  have cg4_s1 : ∀ x : Later W2, x.1.cell? ⟨g4, 36, none⟩ = some (.int .u64 (n64 (b.s 1))) := fun x => ((lrow r_g4.out x).cell 36).trans (cpc_at _ 36 (by omega))
  have cg4_s2 : ∀ x : Later W2, x.1.cell? ⟨g4, 37, none⟩ = some (.int .u64 (n64 (b.s 2))) := fun x => ((lrow r_g4.out x).cell 37).trans (cpc_at _ 37 (by omega))
  have cg4_s3 : ∀ x : Later W2, x.1.cell? ⟨g4, 38, none⟩ = some (.int .u64 (n64 (b.s 3))) := fun x => ((lrow r_g4.out x).cell 38).trans (cpc_at _ 38 (by omega))
  have cg4_s4 : ∀ x : Later W2, x.1.cell? ⟨g4, 39, none⟩ = some (.int .u64 (n64 (b.s 4))) := fun x => ((lrow r_g4.out x).cell 39).trans (cpc_at _ 39 (by omega))
  have cg4_s5 : ∀ x : Later W2, x.1.cell? ⟨g4, 40, none⟩ = some (.int .u64 (n64 (b.s 5))) := fun x => ((lrow r_g4.out x).cell 40).trans (cpc_at _ 40 (by omega))
  have cg4_s6 : ∀ x : Later W2, x.1.cell? ⟨g4, 41, none⟩ = some (.int .u64 (n64 (b.s 6))) := fun x => ((lrow r_g4.out x).cell 41).trans (cpc_at _ 41 (by omega))
  have cg4_s0 : ∀ x : Later W2, x.1.cell? ⟨g4, 35, none⟩ = some (.int .u64 (n64 (b.s 0))) := fun x => ((lrow r_g4.out x).cell 35).trans (cpc_at _ 35 (by omega))
  have cg4_s7 : ∀ x : Later W2, x.1.cell? ⟨g4, 42, none⟩ = some (.int .u64 (n64 (b.s 7))) := fun x => ((lrow r_g4.out x).cell 42).trans (cpc_at _ 42 (by omega))
  have cg4_s8 : ∀ x : Later W2, x.1.cell? ⟨g4, 43, none⟩ = some (.int .u64 (n64 (b.s 8))) := fun x => ((lrow r_g4.out x).cell 43).trans (cpc_at _ 43 (by omega))
  have cg4_s9 : ∀ x : Later W2, x.1.cell? ⟨g4, 44, none⟩ = some (.int .u64 (n64 (b.s 9))) := fun x => ((lrow r_g4.out x).cell 44).trans (cpc_at _ 44 (by omega))
  have cg4_md : ∀ x : Later W2, x.1.cell? ⟨g4, 33, none⟩ = some (.int .i64 b.md) := fun x => ((lrow r_g4.out x).cell 33).trans (cpc_at _ 33 (by omega))
  have e3_s1 : W2.cell? ⟨g3, 36, none⟩ = some (.int .u64 (n64 (a.s 1))) := (r_g3.out.cell 36).trans (cpc_at _ 36 (by omega))
  have e4_s1 : W2.cell? ⟨g4, 36, none⟩ = some (.int .u64 (n64 (b.s 1))) := (r_g4.out.cell 36).trans (cpc_at _ 36 (by omega))
  have e3_s2 : W2.cell? ⟨g3, 37, none⟩ = some (.int .u64 (n64 (a.s 2))) := (r_g3.out.cell 37).trans (cpc_at _ 37 (by omega))
  have e4_s2 : W2.cell? ⟨g4, 37, none⟩ = some (.int .u64 (n64 (b.s 2))) := (r_g4.out.cell 37).trans (cpc_at _ 37 (by omega))
  have e3_s3 : W2.cell? ⟨g3, 38, none⟩ = some (.int .u64 (n64 (a.s 3))) := (r_g3.out.cell 38).trans (cpc_at _ 38 (by omega))
  have e4_s3 : W2.cell? ⟨g4, 38, none⟩ = some (.int .u64 (n64 (b.s 3))) := (r_g4.out.cell 38).trans (cpc_at _ 38 (by omega))
  have e3_s4 : W2.cell? ⟨g3, 39, none⟩ = some (.int .u64 (n64 (a.s 4))) := (r_g3.out.cell 39).trans (cpc_at _ 39 (by omega))
  have e4_s4 : W2.cell? ⟨g4, 39, none⟩ = some (.int .u64 (n64 (b.s 4))) := (r_g4.out.cell 39).trans (cpc_at _ 39 (by omega))
  have e3_s5 : W2.cell? ⟨g3, 40, none⟩ = some (.int .u64 (n64 (a.s 5))) := (r_g3.out.cell 40).trans (cpc_at _ 40 (by omega))
  have e4_s5 : W2.cell? ⟨g4, 40, none⟩ = some (.int .u64 (n64 (b.s 5))) := (r_g4.out.cell 40).trans (cpc_at _ 40 (by omega))
  have e3_s6 : W2.cell? ⟨g3, 41, none⟩ = some (.int .u64 (n64 (a.s 6))) := (r_g3.out.cell 41).trans (cpc_at _ 41 (by omega))
  have e4_s6 : W2.cell? ⟨g4, 41, none⟩ = some (.int .u64 (n64 (b.s 6))) := (r_g4.out.cell 41).trans (cpc_at _ 41 (by omega))
  have e4_md : W2.cell? ⟨g4, 33, none⟩ = some (.int .i64 b.md) := (r_g4.out.cell 33).trans (cpc_at _ 33 (by omega))
  have hne := later_nonempty W2
  cases q1 : (b.md != 0)
  focus
    cases q2 : (n64 (a.s 1) != n64 (b.s 1))
    focus
      cases q3 : (n64 (a.s 2) != n64 (b.s 2))
      focus
        cases q4 : (n64 (a.s 3) != n64 (b.s 3))
        focus
          cases q5 : (n64 (a.s 4) != n64 (b.s 4))
          focus
            cases q6 : (n64 (a.s 5) != n64 (b.s 5))
            focus
              cases q7 : (n64 (a.s 6) != n64 (b.s 6))
              focus
                cases z1
                focus
                  cases q8 : (n64 (a.s 0) == n64 (b.s 0))
                  focus
                    have HV : Hid (Z = false) := (by unfold Hid; first | (rw [HM.out, q1, q2, q3, q4, q5, q6, q7, q8]; done) | (rw [HM.out, q1, q2, q3, q4, q5, q6, q7, q8]; rfl))
                    clear HM
                    have MY : Hid True := trivial
                  rotate_left 1
                  focus
                    cases q9 : (n64 (a.s 7) == n64 (b.s 7))
                    focus
                      have HV : Hid (Z = false) := (by unfold Hid; first | (rw [HM.out, q1, q2, q3, q4, q5, q6, q7, q8, q9]; done) | (rw [HM.out, q1, q2, q3, q4, q5, q6, q7, q8, q9]; rfl))
                      clear HM
                      have MY : Hid True := trivial
                    rotate_left 1
                    focus
                      cases q10 : (n64 (a.s 8) == n64 (b.s 8))
                      focus
                        have HV : Hid (Z = false) := (by unfold Hid; first | (rw [HM.out, q1, q2, q3, q4, q5, q6, q7, q8, q9, q10]; done) | (rw [HM.out, q1, q2, q3, q4, q5, q6, q7, q8, q9, q10]; rfl))
                        clear HM
                        have MY : Hid True := trivial
                      rotate_left 1
                      focus
                        cases q11 : (n64 (a.s 9) == n64 (b.s 9))
                        focus
                          have HV : Hid (Z = false) := (by unfold Hid; first | (rw [HM.out, q1, q2, q3, q4, q5, q6, q7, q8, q9, q10, q11]; done) | (rw [HM.out, q1, q2, q3, q4, q5, q6, q7, q8, q9, q10, q11]; rfl))
                          clear HM
                          have MY : Hid True := trivial
                        rotate_left 1
                        focus
                          have HV : Hid (Z = true) := (by unfold Hid; first | (rw [HM.out, q1, q2, q3, q4, q5, q6, q7, q8, q9, q10, q11]; done) | (rw [HM.out, q1, q2, q3, q4, q5, q6, q7, q8, q9, q10, q11]; rfl))
                          clear HM
                          have MY : Hid True := trivial
                        rotate_left 1
                      rotate_left 2
                    rotate_left 3
                  rotate_left 4
                rotate_left 5
                focus
                  have HV : Hid (Z = true) := (by unfold Hid; first | (rw [HM.out, q1, q2, q3, q4, q5, q6, q7]; done) | (rw [HM.out, q1, q2, q3, q4, q5, q6, q7]; rfl))
                  clear HM
                  have MY : Hid True := trivial
                rotate_left 1
              rotate_left 6
              focus
                have HV : Hid (Z = false) := (by unfold Hid; first | (rw [HM.out, q1, q2, q3, q4, q5, q6, q7]; done) | (rw [HM.out, q1, q2, q3, q4, q5, q6, q7]; rfl))
                clear HM
                have MX : Hid True := trivial
              rotate_left 1
            rotate_left 7
            focus
              have HV : Hid (Z = false) := (by unfold Hid; first | (rw [HM.out, q1, q2, q3, q4, q5, q6]; done) | (rw [HM.out, q1, q2, q3, q4, q5, q6]; rfl))
              clear HM
              have MX : Hid True := trivial
            rotate_left 1
          rotate_left 8
          focus
            have HV : Hid (Z = false) := (by unfold Hid; first | (rw [HM.out, q1, q2, q3, q4, q5]; done) | (rw [HM.out, q1, q2, q3, q4, q5]; rfl))
            clear HM
            have MX : Hid True := trivial
          rotate_left 1
        rotate_left 9
        focus
          have HV : Hid (Z = false) := (by unfold Hid; first | (rw [HM.out, q1, q2, q3, q4]; done) | (rw [HM.out, q1, q2, q3, q4]; rfl))
          clear HM
          have MX : Hid True := trivial
        rotate_left 1
      rotate_left 10
      focus
        have HV : Hid (Z = false) := (by unfold Hid; first | (rw [HM.out, q1, q2, q3]; done) | (rw [HM.out, q1, q2, q3]; rfl))
        clear HM
        have MX : Hid True := trivial
      rotate_left 1
    rotate_left 11
    focus
      have HV : Hid (Z = false) := (by unfold Hid; first | (rw [HM.out, q1, q2]; done) | (rw [HM.out, q1, q2]; rfl))
      clear HM
      have MX : Hid True := trivial
    rotate_left 1
  rotate_left 12
  focus
    have HV : Hid (Z = true) := (by unfold Hid; first | (rw [HM.out, q1]; done) | (rw [HM.out, q1]; rfl))
    clear HM
    have MX : Hid True := trivial
  rotate_left 1
  all_goals
    first | (have := MX; (go_wp2); (go_ret); (exact ⟨by rw [HV.out]; first | done | rfl, BB.out⟩)) | (((go_upto_region 7 with fail)); (refine wp_region_plain (x0 := Later.start W2) ?_); ((first | (go_big_quiet_want; refine quiet_load_agg 79 _ (by rfl) (w.heap.size) 0 (by rfl) (ssc b B br bi bo a A ar ai ao K tk ex so vi r) _ r0.out.lt (lrow_cells r0.out) Tryz.underlying79 (by rfl) (info_ss ..) ?_; simp only [Act.put, List.setIfInBounds_toArray, List.set_cons_succ, List.set_cons_zero]; go_big_quiet_on) | (go_big_quiet_step (fail)))); ((go_big_quiet_step ((go_at_call 149; exact calls_later (HTP.out _))))); (refine wpQuiet_nil ?_); (rintro _ ⟨yq, rfl⟩); (have d3_s0 := cg3_s0 yq); (have d4_s0 := cg4_s0 yq); (have d3_s7 := cg3_s7 yq); (have d4_s7 := cg4_s7 yq); (have d3_s8 := cg3_s8 yq); (have d4_s8 := cg4_s8 yq); (have d3_s9 := cg3_s9 yq); (have d4_s9 := cg4_s9 yq); (go_wp2); (go_ret); (exact ⟨by rw [HV.out]; first | done | rfl, BB.out.trans (yq.2.mono BB.out.size)⟩))
def r20B (b : Cp) (r : Rw) : Bool := ((r.len == 0) || (((!((r.len != 2) && (r.len != 4))) && (ckA (PC b.c) (PA b.a) b.md b.pc 2 4)) && ((r.len == 2) || (ckA (PC b.c) (PA b.a) b.md (b.pc + 2#64) 2 4))))
theorem r20_c (b : Cp) (B : St) (br bi bo : Value) (a : Cp) (A : St) (ar ai ao : Value) (K : Cp) (tk ex so : Bool) (vi : Value) (r : Rw) (w : World) : Calls Tryz.prog 120 #[.agg (ssc b B br bi bo a A ar ai ao K tk ex so vi r)] w fun e w' => e = .returned (.bool (r20B b r)) ∧ Below w.heap.size w w' := by
  obtain ⟨W0, hW0, r0, b0, s0⟩ := start1 w (ssc b B br bi bo a A ar ai ao K tk ex so vi r) 79
  have BB := Hid.mkU b0.out
  clear s0 b0
  have HM : Hid ((r20B b r) = ((r.len == 0) || (((!((r.len != 2) && (r.len != 4))) && (ckA (PC b.c) (PA b.a) b.md b.pc 2 4)) && ((r.len == 2) || (ckA (PC b.c) (PA b.a) b.md (b.pc + 2#64) 2 4))))) := rfl
  have hadd : IntKind.u64.wrap (n64 b.pc + 2) = n64 (b.pc + 2#64) := n64_add _ 2#64
  have HC1 : Hid (∀ W, Calls Tryz.prog 155 #[.agg (pc b.c b.a), .int .i64 b.md, .int .u64 (n64 b.pc), .int .i64 2, .int .i64 4] W fun e w' => e = .returned (.bool (ckA (PC b.c) (PA b.a) b.md b.pc 2 4)) ∧ Below W.heap.size W w') := fun W => rCheck_c b.c b.a b.md b.pc 2 4 W
  have HC2 : Hid (∀ W, Calls Tryz.prog 155 #[.agg (pc b.c b.a), .int .i64 b.md, .int .u64 (n64 (b.pc + 2#64)), .int .i64 2, .int .i64 4] W fun e w' => e = .returned (.bool (ckA (PC b.c) (PA b.a) b.md (b.pc + 2#64) 2 4)) ∧ Below W.heap.size W w') := fun W => rCheck_c b.c b.a b.md (b.pc + 2#64) 2 4 W
  generalize hZ : (r20B b r) = Z at HM ⊢
  clear hZ
  generalize ckA (PC b.c) (PA b.a) b.md b.pc 2 4 = z1 at *
  generalize ckA (PC b.c) (PA b.a) b.md (b.pc + 2#64) 2 4 = z2 at *
  go_enter Tryz.func120, Tryz.ntmps120
  go_upto_region 1 with fail
  clear hW0
  have hzc := zero_cpu
  have e_r_len : W0.cell? ⟨w.heap.size, 285, none⟩ = some (.int .i64 r.len) := (r0.out.cell 285).trans (ssc_r _ _ _ _ _ _ _ _ _ _ _ _ _ _ _ _ 5 _ rfl)
  cases q1 : (r.len == 0)
  focus
    cases q2 : (r.len != 2)
    focus
      cases z1
      focus
        have HV : Hid (Z = false) := (by unfold Hid; first | (rw [HM.out, q1, q2]; done) | (rw [HM.out, q1, q2]; rfl))
        clear HM
        have M1 : Hid True := trivial
      rotate_left 1
      focus
        cases q3 : (r.len == 2)
        focus
          cases z2
          focus
            have HV : Hid (Z = false) := (by unfold Hid; first | (rw [HM.out, q1, q2, q3]; done) | (rw [HM.out, q1, q2, q3]; rfl))
            clear HM
            have M2 : Hid True := trivial
          rotate_left 1
          focus
            have HV : Hid (Z = true) := (by unfold Hid; first | (rw [HM.out, q1, q2, q3]; done) | (rw [HM.out, q1, q2, q3]; rfl))
            clear HM
            have M2 : Hid True := trivial
          rotate_left 1
        rotate_left 2
        focus
          have HV : Hid (Z = true) := (by unfold Hid; first | (rw [HM.out, q1, q2, q3]; done) | (rw [HM.out, q1, q2, q3]; rfl))
          clear HM
          have M2 : Hid True := trivial
        rotate_left 1
      rotate_left 3
    rotate_left 4
    focus
      cases q4 : (r.len != 4)
      focus
        cases z1
        focus
          have HV : Hid (Z = false) := (by unfold Hid; first | (rw [HM.out, q1, q2, q4]; done) | (rw [HM.out, q1, q2, q4]; rfl))
          clear HM
          have M1 : Hid True := trivial
        rotate_left 1
        focus
          cases q5 : (r.len == 2)
          focus
            cases z2
            focus
              have HV : Hid (Z = false) := (by unfold Hid; first | (rw [HM.out, q1, q2, q4, q5]; done) | (rw [HM.out, q1, q2, q4, q5]; rfl))
              clear HM
              have M2 : Hid True := trivial
            rotate_left 1
            focus
              have HV : Hid (Z = true) := (by unfold Hid; first | (rw [HM.out, q1, q2, q4, q5]; done) | (rw [HM.out, q1, q2, q4, q5]; rfl))
              clear HM
              have M2 : Hid True := trivial
            rotate_left 1
          rotate_left 2
          focus
            have HV : Hid (Z = true) := (by unfold Hid; first | (rw [HM.out, q1, q2, q4, q5]; done) | (rw [HM.out, q1, q2, q4, q5]; rfl))
            clear HM
            have M2 : Hid True := trivial
          rotate_left 1
        rotate_left 3
      rotate_left 4
      focus
        have HV : Hid (Z = false) := (by unfold Hid; first | (rw [HM.out, q1, q2, q4]; done) | (rw [HM.out, q1, q2, q4]; rfl))
        clear HM
        have M1 : Hid True := trivial
      rotate_left 1
    rotate_left 5
  rotate_left 9
  focus
    have HV : Hid (Z = true) := (by unfold Hid; first | (rw [HM.out, q1]; done) | (rw [HM.out, q1]; rfl))
    clear HM
    have M0 : Hid True := trivial
  rotate_left 1
  all_goals
    first | (have := M0; (go_wp2); (go_ret); (exact ⟨by rw [HV.out]; first | done | rfl, BB.out⟩)) | skip
  all_goals
    (go_upto_region 3 with fail)
    have Cg3 : Hid (∀ j v, (cpc b)[j]? = some v → W0.cell? ⟨w.heap.size, 0 + j, none⟩ = some v) := (fun j v hv => (r0.out.cell (0 + j)).trans (ssc_bc0 _ _ _ _ _ _ _ _ _ _ _ _ _ _ _ _ j v hv))
    go_upto_region 4 with (first | (refine wpList_load_agg (by rfl) 32 _ (by rfl) w.heap.size 0 (by rfl) (cpc b) _ Cg3.out Tryz.underlying32 (by rfl) (info_cpuU _) ?_) | (refine wpList_store_new (by rfl) 32 _ _ (by rfl) (by rfl) (cpc cz) (cpc b) (by rfl) (by rfl) (info_cpuU _) (by rw [cpc_size, cpc_size]) (cpc_ones _) ?_))
    refine on_W (motive := fun W => Code.wp _ _ _ _ W) (Q := fun W => Row W w.heap.size (ssc b B br bi bo a A ar ai ao K tk ex so vi r) 79 ∧ Row W W0.heap.size (cpc b) 32 ∧ Below w.heap.size w W) ⟨r0.out.old r0.out.lt _, Row.new _ _ _, BB.out.trans ((below_al _ _).mono BB.out.size)⟩ ?_
    have hl_g3 : Hid (w.heap.size < W0.heap.size) := r0.out.lt
    generalize W0.heap.size = g3 at *
    clear Cg3 r0 BB  hzc
    rintro W1 ⟨q0, qn, qb⟩
    have r0 := Hid.mkU q0
    have r_g3 := Hid.mkU qn
    have BB := Hid.mkU qb
    clear q0 qn qb
    have c_r_len : ∀ x : Later W1, x.1.cell? ⟨w.heap.size, 285, none⟩ = some (.int .i64 r.len) := fun x => ((lrow r0.out x).cell 285).trans (ssc_r _ _ _ _ _ _ _ _ _ _ _ _ _ _ _ _ 5 _ rfl)
    have cg3_pc : ∀ x : Later W1, x.1.cell? ⟨g3, 0, none⟩ = some (.int .u64 (n64 b.pc)) := fun x => ((lrow r_g3.out x).cell 0).trans (cpc_at _ 0 (by omega))
    have cg3_md : ∀ x : Later W1, x.1.cell? ⟨g3, 33, none⟩ = some (.int .i64 b.md) := fun x => ((lrow r_g3.out x).cell 33).trans (cpc_at _ 33 (by omega))
    have hne := later_nonempty W1
    refine wp_region_plain (x0 := Later.start W1) ?_
    iterate 12 (go_big_quiet_step (fail))
    (first | (go_big_quiet_want; refine quiet_load_agg 28 _ (by rfl) (g3) 47 (by rfl) (pc b.c b.a) _ r_g3.out.lt r_g3.out.pmU Tryz.underlying28 (by rfl) (info_pmpU _ _) ?_; simp only [Act.put, List.setIfInBounds_toArray, List.set_cons_succ, List.set_cons_zero]; go_big_quiet_on) | (go_big_quiet_step (fail)))
    iterate 4 (go_big_quiet_step (fail))
    (go_big_quiet_step ((go_at_call 155; exact calls_later (HC1.out _))))
    iterate 2 (go_big_quiet_step (fail))
    refine wpQuiet_nil ?_
    rintro _ ⟨yq, rfl⟩
    first | (have := M1; (go_wp2); (go_ret); (exact ⟨by rw [HV.out]; first | done | rfl, BB.out.trans (yq.2.mono BB.out.size)⟩)) | (((go_upto_region 6 with fail)); (refine wp_region_plain (x0 := yq) ?_); (iterate 6 (go_big_quiet_step (fail))); ((first | (go_big_quiet_want; refine quiet_load_agg 28 _ (by rfl) (g3) 47 (by rfl) (pc b.c b.a) _ r_g3.out.lt r_g3.out.pmU Tryz.underlying28 (by rfl) (info_pmpU _ _) ?_; simp only [Act.put, List.setIfInBounds_toArray, List.set_cons_succ, List.set_cons_zero]; go_big_quiet_on) | (go_big_quiet_step (fail)))); (iterate 5 (go_big_quiet_step (fail))); ((go_big_quiet_step ((go_at_call 155; exact calls_later (HC2.out _))))); (iterate 2 (go_big_quiet_step (fail))); (refine wpQuiet_nil ?_); (rintro _ ⟨yp, rfl⟩); (go_wp2); (go_ret); (exact ⟨by rw [HV.out]; first | done | rfl, BB.out.trans (yp.2.mono BB.out.size)⟩))
end Go.Proofs.YtidfndgedopghaaGreatDoor
