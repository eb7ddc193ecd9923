/-
  Check of the reference.
-/
import Derived.Test.YtckgjfkodgeagacDoorPsj
namespace Go.Proofs.YtckgjfkodgeagacDoor
set_option linter.unusedVariables false
open Go.ChangeShapes Go.WideShapes Go.ChangeAt Go.RowKit Go.Deep
set_option maxRecDepth 100000 in
set_option maxHeartbeats 2000000 in
theorem rCheck_no (c : Nat → BitVec 8) (a : Nat → BitVec 64) (m : Int) (ad : BitVec 64) (s b : Int) (h : ¬ ckOk m s b) (w : World) :
    Calls Tryd.prog 11 #[.agg (pc c a), .int .i64 m, .int .u64 (n64 ad), .int .i64 s, .int .i64 b] w fun e w' => e = .returned (.bool false) ∧ Below w.heap.size w w' := by
  obtain ⟨W0, hW0, r0, b0, s0⟩ := start1 w (pc c a) 26
  have HS : Hid (W0.heap.size = w.heap.size + 1) := s0
  clear s0
  go_enter Tryd.func11, Tryd.ntmps11
  go_upto_region 1 with fail
  clear hW0
  go_upto_region 2 with (first | (refine wpList_load_rowG (by rfl) _ _ (by rfl) _ (by rfl) 26 _ (0, 0) _ r0.out Tryd.underlying26 (by rfl) (by rw [pc_size]; kernel_rfl) ?_) | (go_at_call 15; refine (rProper_c c a _).mono ?_; rintro e w1 ⟨rfl, hb1⟩; have HB1 : Hid (Below W0.heap.size W0 w1) := hb1; clear hb1) | (refine wpList_store_row (by rfl) _ _ _ (by rfl) (by rfl) _ _ _ (by rfl) (by rfl) (r0.out.later HB1.out (by rw [HS.out]; omega)) (by rw [pc_size]; kernel_rfl) (by rw [pc_size, pc_size]) (pc_ones _ _) ?_))
  obtain ⟨W2, hW2, r2, b2, s2⟩ := start_p (pc (PC c) (PA a)) r0.out b0.out (by rw [HS.out]; omega) HB1.out
  rw [hW2]
  clear hW2 HB1 r0 b0 HS
  have HH : Hid (¬ ckOk m s b) := h
  clear h
  by_cases h1 : m = 0 ∨ m = 3
  · have hx : (s < 1 ∨ 8 < s) ∨ (b < 1 ∨ 7 < b) := by
      by_cases q : (s < 1 ∨ 8 < s) ∨ (b < 1 ∨ 7 < b)
      · exact q
      · exact absurd ⟨h1, by omega, by omega⟩ HH.out
    rcases h1 with h1 | h1
    all_goals
      subst h1
      by_cases q1 : s < 1
      · go_wp2
        go_ret
        exact ⟨rfl, b2.out⟩
      · by_cases q2 : 8 < s
        · go_wp2
          go_ret
          exact ⟨rfl, b2.out⟩
        · by_cases q3 : b < 1
          · go_wp2
            go_ret
            exact ⟨rfl, b2.out⟩
          · have q4 : 7 < b := by omega
            go_wp2
            go_ret
            exact ⟨rfl, b2.out⟩
  · have n0 : (m != 0) = true := by rw [bne_iff_ne]; exact fun e => h1 (.inl e)
    have n3 : (m != 3) = true := by rw [bne_iff_ne]; exact fun e => h1 (.inr e)
    clear h1
    go_wp2
    go_ret
    exact ⟨rfl, b2.out⟩
set_option maxRecDepth 100000 in
set_option maxHeartbeats 2000000 in
theorem rCheck_yes (c : Nat → BitVec 8) (a : Nat → BitVec 64) (m : Int) (ad : BitVec 64) (s : Nat) (b : Int) (h : ckOk m s b) (w : World) :
    Calls Tryd.prog 11 #[.agg (pc c a), .int .i64 m, .int .u64 (n64 ad), .int .i64 s, .int .i64 b] w fun e w' => e = .returned (.bool (ckM (PC c) m (MT (hn (PC c) (PA a) ad s) s) b)) ∧ Below w.heap.size w w' := by
  obtain ⟨W0, hW0, r0, b0, s0⟩ := start1 w (pc c a) 26
  have HS : Hid (W0.heap.size = w.heap.size + 1) := s0
  clear s0
  obtain ⟨h1, h2, h3⟩ := h
  have q1 : ¬ (s : Int) < 1 := by omega
  have q2 : ¬ (8 : Int) < s := by omega
  have q3 : ¬ b < 1 := by omega
  have q4 : ¬ 7 < b := by omega
  have HBt : Hid (∀ x : BitVec 8, bits .and .i64 (n8 x) b = bits .and .i64 (n8 (rts x)) b) := fun x => check_bits x b (by simp; omega)
  have HM : Hid (∀ W, Calls Tryd.prog 26 #[.agg (pc (PC c) (PA a)), .int .u64 (n64 ad), .int .i64 s] W fun e w' => e = .returned (.tuple #[.int .i64 (MT (hn (PC c) (PA a) ad s) s).1, .bool (MT (hn (PC c) (PA a) ad s) s).2]) ∧ Below W.heap.size W w') := fun W => by
    have := rMatch_in (PC c) (PA a) ad s (by omega) (by omega) W
    rw [PC_twice', PA_twice'] at this
    exact this
  have HCL : Hid (∀ (k : Nat) W, k < 16 → Calls Tryd.prog 27 #[.agg (pc (PC c) (PA a)), .int .i64 k] W fun e w' => e = .returned (.bool (lk (PC c k))) ∧ Below W.heap.size W w') := fun k W hk => rlocked_c (PC c) (PA a) k hk W
  obtain ⟨G, hG⟩ : ∃ G, G = ckM (PC c) m (MT (hn (PC c) (PA a) ad s) s) b := ⟨_, rfl⟩
  rw [← hG]
  have HG : Hid (G = ckM (PC c) m (MT (hn (PC c) (PA a) ad s) s) b) := hG
  clear h2 h3 hG
  have HMo : Hid (m = 0 ∨ m = 3) := h1
  clear h1
  go_enter Tryd.func11, Tryd.ntmps11
  go_upto_region 1 with fail
  clear hW0
  go_upto_region 2 with (first | (refine wpList_load_rowG (by rfl) _ _ (by rfl) _ (by rfl) 26 _ (0, 0) _ r0.out Tryd.underlying26 (by rfl) (by rw [pc_size]; kernel_rfl) ?_) | (go_at_call 15; refine (rProper_c c a _).mono ?_; rintro e w1 ⟨rfl, hb1⟩; have HB1 : Hid (Below W0.heap.size W0 w1) := hb1; clear hb1) | (refine wpList_store_row (by rfl) _ _ _ (by rfl) (by rfl) _ _ _ (by rfl) (by rfl) (r0.out.later HB1.out (by rw [HS.out]; omega)) (by rw [pc_size]; kernel_rfl) (by rw [pc_size, pc_size]) (pc_ones _ _) ?_))
  obtain ⟨W2, hW2, r2, b2, s2⟩ := start_p (pc (PC c) (PA a)) r0.out b0.out (by rw [HS.out]; omega) HB1.out
  rw [hW2]
  clear hW2 HB1 r0 b0 HS
  rcases MT_cases (hn (PC c) (PA a) ad s) s with hm | ⟨k, q, hk, hm⟩
  · rw [hm] at HM HG
    rw [ckM_none] at HG
    clear hm
    rcases HMo.out with h0 | h0
    all_goals
      subst h0
      have e9 := HG.out
      subst e9
      go_wp2_with (first | (refine wpList_load_rowG (by rfl) _ _ (by rfl) _ (by rfl) 26 _ (0, 0) _ r2.out Tryd.underlying26 (by rfl) (by rw [pc_size]; kernel_rfl) ?_) | (go_at_call 26; refine (HM.out _).mono ?_; rintro e w3 ⟨rfl, hb⟩; have HB3 : Hid (Below w.heap.size w w3) := b2.out.trans (hb.mono (Nat.le_of_lt s2.out)); clear hb))
      go_ret
      exact ⟨rfl, HB3.out⟩
  · rw [hm] at HM HG
    clear hm
    have hk2 : (k : Int) < 16 := by omega
    have hk3 : ¬ (k : Int) < 0 := by omega
    have hw := n8_wrap64 (PC c k)
    have hbt := HBt.out (PC c k)
    have MA : Hid (∀ W, Below W2.heap.size W2 W → Row W w.heap.size (pc (PC c) (PA a)) 26 ∧ Below w.heap.size w W) := fun W hb => ⟨r2.out.later hb s2.out, b2.out.trans (hb.mono (Nat.le_of_lt s2.out))⟩
    cases q with
    | false =>
      rw [ckM_part] at HG
      have e9 := HG.out
      subst e9
      rcases HMo.out with h0 | h0
      all_goals
        subst h0
        go_wp2_with (first | (refine wpList_load_rowG (by rfl) _ _ (by rfl) _ (by rfl) 26 _ (0, 0) _ r2.out Tryd.underlying26 (by rfl) (by rw [pc_size]; kernel_rfl) ?_) | (go_at_call 26; refine (HM.out _).mono ?_; rintro e w3 ⟨rfl, hb⟩; have HB3 : Hid (Below w.heap.size w w3) := b2.out.trans (hb.mono (Nat.le_of_lt s2.out)); clear hb))
        go_ret
        exact ⟨rfl, HB3.out⟩
    | true =>
      rcases HMo.out with h0 | h0
      · subst h0
        rw [ckM_asked _ _ _ _ (.inl rfl)] at HG
        go_wp2_with (first | (refine wpList_load_rowG (by rfl) _ _ (by rfl) _ (by rfl) 26 _ (0, 0) _ r2.out Tryd.underlying26 (by rfl) (by rw [pc_size]; kernel_rfl) ?_) | (go_at_call 26; refine (HM.out _).mono ?_; rintro e w3 ⟨rfl, hb⟩; have HB3 : Hid (Below W2.heap.size W2 w3) := hb; have d0 := prow_cfg (MA.out w3 hb).1 k hk; clear hb))
        go_ret
        refine ⟨?_, (MA.out w3 HB3.out).2⟩
        rw [HG.out]
        simp_all
      · subst h0
        cases hl : lk (PC c k) with
        | true =>
          rw [ckM_asked _ _ _ _ (.inr hl)] at HG
          have HCK : Hid (∀ W, Calls Tryd.prog 27 #[.agg (pc (PC c) (PA a)), .int .i64 k] W fun e w' => e = .returned (.bool true) ∧ Below W.heap.size W w') := fun W => by
            have := HCL.out k W hk
            rw [hl] at this
            exact this
          clear hl
          go_wp2_with (first | (refine wpList_load_rowG (by rfl) _ _ (by rfl) _ (by rfl) 26 _ (0, 0) _ r2.out Tryd.underlying26 (by rfl) (by rw [pc_size]; kernel_rfl) ?_) | (refine wpList_load_rowG (by rfl) _ _ (by rfl) _ (by rfl) 26 _ (0, 0) _ R3.out Tryd.underlying26 (by rfl) (by rw [pc_size]; kernel_rfl) ?_) | (go_at_call 26; refine (HM.out _).mono ?_; rintro e w3 ⟨rfl, hb⟩; have HB3 : Hid (Below W2.heap.size W2 w3) := hb; have R3 : Hid (Row w3 w.heap.size (pc (PC c) (PA a)) 26) := (MA.out w3 hb).1; clear hb) | (go_at_call 27; refine (HCK.out _).mono ?_; rintro e w4 ⟨rfl, hb⟩; have HB4 : Hid (Below W2.heap.size W2 w4) := HB3.out.trans (hb.mono HB3.out.size); have d0 := prow_cfg (MA.out w4 HB4.out).1 k hk; clear hb))
          go_ret
          refine ⟨?_, (MA.out w4 HB4.out).2⟩
          rw [HG.out]
          simp_all
        | false =>
          rw [ckM_free _ _ _ _ (by rw [hl]; simp)] at HG
          have e9 := HG.out
          subst e9
          have HCK : Hid (∀ W, Calls Tryd.prog 27 #[.agg (pc (PC c) (PA a)), .int .i64 k] W fun e w' => e = .returned (.bool false) ∧ Below W.heap.size W w') := fun W => by
            have := HCL.out k W hk
            rw [hl] at this
            exact this
          clear hl
          go_wp2_with (first | (refine wpList_load_rowG (by rfl) _ _ (by rfl) _ (by rfl) 26 _ (0, 0) _ r2.out Tryd.underlying26 (by rfl) (by rw [pc_size]; kernel_rfl) ?_) | (refine wpList_load_rowG (by rfl) _ _ (by rfl) _ (by rfl) 26 _ (0, 0) _ R3.out Tryd.underlying26 (by rfl) (by rw [pc_size]; kernel_rfl) ?_) | (go_at_call 26; refine (HM.out _).mono ?_; rintro e w3 ⟨rfl, hb⟩; have HB3 : Hid (Below W2.heap.size W2 w3) := hb; have R3 : Hid (Row w3 w.heap.size (pc (PC c) (PA a)) 26) := (MA.out w3 hb).1; clear hb) | (go_at_call 27; refine (HCK.out _).mono ?_; rintro e w4 ⟨rfl, hb⟩; have HB4 : Hid (Below W2.heap.size W2 w4) := HB3.out.trans (hb.mono HB3.out.size); clear hb))
          go_ret
          exact ⟨rfl, (MA.out w4 HB4.out).2⟩
theorem rCheck_c (c : Nat → BitVec 8) (a : Nat → BitVec 64) (m : Int) (ad : BitVec 64) (s b : Int) (w : World) :
    Calls Tryd.prog 11 #[.agg (pc c a), .int .i64 m, .int .u64 (n64 ad), .int .i64 s, .int .i64 b] w fun e w' => e = .returned (.bool (ckA (PC c) (PA a) m ad s b)) ∧ Below w.heap.size w w' := by
  by_cases h : ckOk m s b
  · obtain ⟨q, rfl⟩ : ∃ q : Nat, s = q := ⟨s.toNat, by have := h.2.1; omega⟩
    rw [ckA_yes _ _ _ _ _ _ h]
    exact rCheck_yes c a m ad q b h w
  · rw [ckA_no _ _ _ _ _ _ h]
    exact rCheck_no c a m ad s b h w
end Go.Proofs.YtckgjfkodgeagacDoor
