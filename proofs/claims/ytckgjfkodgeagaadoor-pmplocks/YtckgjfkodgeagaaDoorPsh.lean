/-
  Holds, Match of the reference.
-/
import Derived.Test.YtckgjfkodgeagaaDoorPsf
import Derived.Test.YtckgjfkodgeagaaDoorPsg
namespace Go.Proofs.YtckgjfkodgeagaaDoor
set_option linter.unusedVariables false
open Go.ChangeShapes Go.WideShapes Go.ChangeAt Go.RowKit Go.Deep
/-- Whether an entry has a byte. -/
def hdB (c : Nat → BitVec 8) (a : Nat → BitVec 64) (k : Nat) (x : BitVec 64) : Bool := match spn c a k with | none => false | some (f, l) => inR f l x
theorem hn_zero (c : Nat → BitVec 8) (a : Nat → BitVec 64) (ad : BitVec 64) (k : Nat) : hn c a ad 0 k = 0 := by unfold hn; split <;> rfl
theorem hn_succ (c : Nat → BitVec 8) (a : Nat → BitVec 64) (ad : BitVec 64) (j k : Nat) : hn c a ad (j + 1) k = hn c a ad j k + (if hdB c a k (ad + BitVec.ofNat 64 j) = true then 1 else 0) := by
  unfold hn hdB
  cases spn c a k with
  | none => rfl
  | some fl => rfl
theorem hn_le (c : Nat → BitVec 8) (a : Nat → BitVec 64) (ad : BitVec 64) (j k : Nat) : hn c a ad j k ≤ j := by
  unfold hn; split
  · omega
  · exact hcn_le _ _ _ _
set_option maxRecDepth 100000 in
set_option maxHeartbeats 2000000 in
theorem rHolds_c (c : Nat → BitVec 8) (a : Nat → BitVec 64) (k : Nat) (hk : k < 16) (x : BitVec 64) (w : World) :
    Calls Tryd.prog 25 #[.agg (pc c a), .int .i64 k, .int .u64 (n64 x)] w fun e w' => e = .returned (.bool (hdB (PC c) (PA a) k x)) ∧ Below w.heap.size w w' := by
  obtain ⟨W0, hW0, r0, b0, s0⟩ := start1 w (pc c a) 26
  have HS : Hid (W0.heap.size = w.heap.size + 1) := s0
  clear s0
  have hB := rSpan_c c a k
  rw [spI_in _ _ _ hk] at hB
  have HH : Hid (hdB (PC c) (PA a) k x = match spn (PC c) (PA a) k with | none => false | some (f, l) => inR f l x) := rfl
  obtain ⟨q, hq⟩ : ∃ q, q = hdB (PC c) (PA a) k x := ⟨_, rfl⟩
  rw [← hq] at HH ⊢
  clear hq
  cases hX : spn (PC c) (PA a) k with
  | none =>
    rw [hX] at hB HH
    have HB : Hid (∀ W : World, Calls Tryd.prog 8 #[.agg (pc c a), .int .i64 k] W fun e w' => e = .returned (.tuple #[.int .u64 0, .int .u64 0, .bool false]) ∧ Below W.heap.size W w') := hB
    have e9 : q = false := HH.out
    subst e9
    clear hB hX HH
    go_enter Tryd.func25, Tryd.ntmps25
    go_upto_region 1 with fail
    clear hW0
    go_wp2_with (first | (refine wpList_load_rowG (by rfl) _ _ (by rfl) _ (by rfl) 26 _ (0, 0) _ r0.out Tryd.underlying26 (by rfl) (by rw [pc_size]; kernel_rfl) ?_) | (go_at_call 8; refine (HB.out _).mono ?_; rintro e w1 ⟨rfl, hb⟩; have HB1 : Hid (Below W0.heap.size W0 w1) := hb; clear hb))
    go_ret
    exact ⟨rfl, b0.out.trans (HB1.out.mono (by rw [HS.out]; omega))⟩
  | some fl =>
    obtain ⟨f, l⟩ := fl
    rw [hX] at hB HH
    have HB : Hid (∀ W : World, Calls Tryd.prog 8 #[.agg (pc c a), .int .i64 k] W fun e w' => e = .returned (.tuple #[.int .u64 (n64 f), .int .u64 (n64 l), .bool true]) ∧ Below W.heap.size W w') := hB
    have HQ : Hid (q = (decide (n64 f ≤ n64 x) && decide (n64 x ≤ n64 l))) := HH
    clear hB hX HH
    by_cases h1 : n64 f ≤ n64 x
    · go_enter Tryd.func25, Tryd.ntmps25
      go_upto_region 1 with fail
      clear hW0
      go_wp2_with (first | (refine wpList_load_rowG (by rfl) _ _ (by rfl) _ (by rfl) 26 _ (0, 0) _ r0.out Tryd.underlying26 (by rfl) (by rw [pc_size]; kernel_rfl) ?_) | (go_at_call 8; refine (HB.out _).mono ?_; rintro e w1 ⟨rfl, hb⟩; have HB1 : Hid (Below W0.heap.size W0 w1) := hb; clear hb))
      go_ret
      exact ⟨by rw [HQ.out, decide_eq_true h1, Bool.true_and]; first | done | rfl, b0.out.trans (HB1.out.mono (by rw [HS.out]; omega))⟩
    · go_enter Tryd.func25, Tryd.ntmps25
      go_upto_region 1 with fail
      clear hW0
      go_wp2_with (first | (refine wpList_load_rowG (by rfl) _ _ (by rfl) _ (by rfl) 26 _ (0, 0) _ r0.out Tryd.underlying26 (by rfl) (by rw [pc_size]; kernel_rfl) ?_) | (go_at_call 8; refine (HB.out _).mono ?_; rintro e w1 ⟨rfl, hb⟩; have HB1 : Hid (Below W0.heap.size W0 w1) := hb; clear hb))
      go_ret
      exact ⟨by rw [HQ.out, decide_eq_false (show ¬ n64 f ≤ n64 x by omega), Bool.false_and]; first | done | rfl, b0.out.trans (HB1.out.mono (by rw [HS.out]; omega))⟩
set_option maxRecDepth 100000 in
set_option maxHeartbeats 2000000 in
theorem rMatch_in (c : Nat → BitVec 8) (a : Nat → BitVec 64) (ad : BitVec 64) (s : Nat) (h1 : 1 ≤ s) (h8 : s ≤ 8) (w : World) :
    Calls Tryd.prog 10 #[.agg (pc c a), .int .u64 (n64 ad), .int .i64 s] w fun e w' => e = .returned (.tuple #[.int .i64 (MT (hn (PC c) (PA a) ad s) s).1, .bool (MT (hn (PC c) (PA a) ad s) s).2]) ∧ Below w.heap.size w w' := by
  obtain ⟨W0, hW0, r0, b0, s0⟩ := start1 w (pc c a) 26
  have HS : Hid (W0.heap.size = w.heap.size + 1) := s0
  clear s0
  have n1 : ¬ (s : Int) < 1 := by omega
  have n8' : ¬ (8 : Int) < s := by omega
  have hs8 : (s : Int) ≤ 8 := by omega
  obtain ⟨m1, hm1⟩ : ∃ m1, m1 = (MT (hn (PC c) (PA a) ad s) s).1 := ⟨_, rfl⟩
  obtain ⟨m2, hm2⟩ : ∃ m2, m2 = (MT (hn (PC c) (PA a) ad s) s).2 := ⟨_, rfl⟩
  rw [← hm1, ← hm2]
  have HM : Hid (mtF (hn (PC c) (PA a) ad s) s 16 0 = (m1, m2)) := by unfold Hid; rw [hm1, hm2]; rfl
  have HHo : Hid (∀ (k : Nat), k < 16 → ∀ (x : BitVec 64) W, Calls Tryd.prog 25 #[.agg (pc c a), .int .i64 k, .int .u64 (n64 x)] W fun e w' => e = .returned (.bool (hdB (PC c) (PA a) k x)) ∧ Below W.heap.size W w') := fun k hk x W => rHolds_c c a k hk x W
  clear hm1 hm2
  go_enter Tryd.func10, Tryd.ntmps10
  go_wp2
  clear hW0
  go_loopw [8] (fun i wr => ∃ k : Nat, k ≤ 16 ∧ i = .int .i64 k ∧ Hid (mtF (hn (PC c) (PA a) ad s) s (16 - k) k = (m1, m2)) ∧ Hid (Row wr w.heap.size (pc c a) 26) ∧ Hid (Below w.heap.size w wr)) (fun i _ => 16 - (intOf i).toNat)
  case atStart => exact ⟨0, by omega, rfl, HM, r0, b0⟩
  case round =>
    clear HM r0 b0 HS
    obtain ⟨k, hk, rfl, hm, h0, hb⟩ := hrel
    by_cases hlt : k < 16
    · have hlt2 : (k : Int) < 16 := by omega
      obtain ⟨n, hn1⟩ : ∃ n, 16 - k = n + 1 := ⟨15 - k, by omega⟩
      have HN : Hid (16 - (k + 1) = n) := by unfold Hid; omega
      rw [hn1] at hm
      have HZ : Hid (hn (PC c) (PA a) ad 0 k = 0) := hn_zero _ _ _ _
      clear hn1
      go_wp2
      go_loopw [9, 10] (fun q i wq => ∃ j : Nat, j ≤ s ∧ i = .int .i64 j ∧ q = .int .i64 (hn (PC c) (PA a) ad j k : Nat) ∧ Hid (Row wq w.heap.size (pc c a) 26) ∧ Hid (Below w.heap.size w wq)) (fun _ i _ => s - (intOf i).toNat)
      case atStart => exact ⟨0, by omega, rfl, by rw [HZ.out]; rfl, h0, hb⟩
      case round =>
        clear h0 hb
        obtain ⟨j, hj, rfl, rfl, g0, gb⟩ := hrel
        by_cases hjl : j < s
        · have hjl2 : (j : Int) < s := by omega
          have HA := ad_add ad j (by omega)
          have HC : Hid (hn (PC c) (PA a) ad (j + 1) k = hn (PC c) (PA a) ad j k + (if hdB (PC c) (PA a) k (ad + BitVec.ofNat 64 j) = true then 1 else 0)) := hn_succ _ _ _ _ _
          have hle := hn_le (PC c) (PA a) ad j k
          have hcall := fun W => HHo.out k hlt (ad + BitVec.ofNat 64 j) W
          generalize hn (PC c) (PA a) ad j k = q at HC hle ⊢
          generalize ad + BitVec.ofNat 64 j = x at HA HC hcall
          have hq8 : (q : Int) ≤ 8 := by omega
          have glt := g0.out.lt
          cases hv : hdB (PC c) (PA a) k x with
          | true =>
            rw [hv] at HC hcall
            have H3 : Hid (hn (PC c) (PA a) ad (j + 1) k = q + 1) := HC
            have HCL : Hid (∀ W, Calls Tryd.prog 25 #[.agg (pc c a), .int .i64 k, .int .u64 (n64 x)] W fun e w' => e = .returned (.bool true) ∧ Below W.heap.size W w') := hcall
            clear HC hcall hv
            go_wp2_with (first | (refine wpList_load_rowG (by rfl) _ _ (by rfl) _ (by rfl) 26 _ (0, 0) _ g0.out Tryd.underlying26 (by rfl) (by rw [pc_size]; kernel_rfl) ?_) | (go_at_call 25; refine (HCL.out _).mono ?_; rintro e w3 ⟨rfl, hb3⟩; have HB3 : Hid (Below wr.heap.size wr w3) := hb3; clear hb3))
            go_roundw
            case rel => exact ⟨j + 1, by omega, by go_num, by rw [H3.out]; go_num, g0.out.later HB3.out glt, gb.out.trans (HB3.out.mono gb.out.size)⟩
            case measure => simp [intOf]; omega
          | false =>
            rw [hv] at HC hcall
            have H3 : Hid (hn (PC c) (PA a) ad (j + 1) k = q) := HC
            have HCL : Hid (∀ W, Calls Tryd.prog 25 #[.agg (pc c a), .int .i64 k, .int .u64 (n64 x)] W fun e w' => e = .returned (.bool false) ∧ Below W.heap.size W w') := hcall
            clear HC hcall hv
            go_wp2_with (first | (refine wpList_load_rowG (by rfl) _ _ (by rfl) _ (by rfl) 26 _ (0, 0) _ g0.out Tryd.underlying26 (by rfl) (by rw [pc_size]; kernel_rfl) ?_) | (go_at_call 25; refine (HCL.out _).mono ?_; rintro e w3 ⟨rfl, hb3⟩; have HB3 : Hid (Below wr.heap.size wr w3) := hb3; clear hb3))
            go_roundw
            case rel => exact ⟨j + 1, by omega, by go_num, by rw [H3.out], g0.out.later HB3.out glt, gb.out.trans (HB3.out.mono gb.out.size)⟩
            case measure => simp [intOf]; omega
        · obtain rfl : j = s := by omega
          obtain ⟨q, hq⟩ : ∃ q, q = hn (PC c) (PA a) ad j k := ⟨_, rfl⟩
          rw [← hq]
          by_cases hpos : 0 < q
          · have hhit := hm.out
            rw [mtF_hit _ _ _ _ (by rw [← hq]; exact hpos), ← hq] at hhit
            simp only [Prod.mk.injEq] at hhit
            obtain ⟨z1, z2⟩ := hhit
            have Z1 : Hid ((k : Int) = m1) := z1
            have Z2 : Hid (((q : Int) == (j : Int)) = m2) := z2
            have hpos2 : (0 : Int) < q := by omega
            clear z1 z2 hq hm
            go_wp2
            go_ret2
            refine ⟨?_, gb.out⟩
            have y1 := Z1.out
            have y2 := Z2.out
            simp_all
          · have hmiss := hm.out
            rw [mtF_miss _ _ _ _ (by rw [← hq]; exact hpos), ← HN.out] at hmiss
            have HMs : Hid (mtF (hn (PC c) (PA a) ad j) j (16 - (k + 1)) (k + 1) = (m1, m2)) := hmiss
            obtain rfl : q = 0 := by omega
            have hz : ((0 : Nat) : Int) = 0 := rfl
            rw [hz]
            clear hmiss hq hm hpos hz
            go_wp2
            go_roundw
            case rel => exact ⟨k + 1, by omega, by go_num, HMs, g0, gb⟩
            case measure => simp [intOf]; omega
    · obtain rfl : k = 16 := by omega
      have e16 : ((16 : Nat) : Int) = 16 := rfl
      rw [e16]
      have hq := hm.out
      simp only [Nat.sub_self, mtF, Prod.mk.injEq] at hq
      obtain ⟨z1, z2⟩ := hq
      clear hm hk hlt e16
      subst z1
      subst z2
      go_wp2
      go_ret2
      exact ⟨rfl, hb.out⟩
set_option maxRecDepth 100000 in
set_option maxHeartbeats 2000000 in
theorem rMatch_c (c : Nat → BitVec 8) (a : Nat → BitVec 64) (ad : BitVec 64) (i : Int) (w : World) :
    Calls Tryd.prog 10 #[.agg (pc c a), .int .u64 (n64 ad), .int .i64 i] w fun e w' => e = .returned (mtV (mA (PC c) (PA a) ad i)) ∧ Below w.heap.size w w' := by
  by_cases h : 1 ≤ i ∧ i ≤ 8
  · obtain ⟨s, rfl⟩ : ∃ s : Nat, i = s := ⟨i.toNat, by omega⟩
    rw [mA_in _ _ _ _ (by omega) (by omega)]
    exact rMatch_in c a ad s (by omega) (by omega) w
  · rw [mA_out _ _ _ _ h]
    obtain ⟨W0, hW0, r0, b0, s0⟩ := start1 w (pc c a) 26
    clear s0
    by_cases h1 : i < 1
    · clear h
      go_enter Tryd.func10, Tryd.ntmps10
      go_wp2
      go_ret2
      exact ⟨rfl, b0.out⟩
    · have h2 : (8 : Int) < i := by omega
      clear h
      go_enter Tryd.func10, Tryd.ntmps10
      go_wp2
      go_ret2
      exact ⟨rfl, b0.out⟩
end Go.Proofs.YtckgjfkodgeagaaDoor
