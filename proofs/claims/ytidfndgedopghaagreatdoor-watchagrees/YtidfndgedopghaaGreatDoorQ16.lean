/-
  Psh Psi.
-/
import Derived.Test.YtidfndgedopghaaGreatDoorQ15
namespace Go.Proofs.YtidfndgedopghaaGreatDoor
set_option linter.unusedVariables false
open Go.ChangeShapes Go.WideShapes Go.ChangeAt Go.RowKit Go.Deep
/-- Whether an entry has a byte. -/
def hdB (c : Nat → BitVec 8) (a : Nat → BitVec 64) (k : Nat) (x : BitVec 64) : Bool := match spn c a k with | none => false | some (f, l) => inR f l x
theorem hn_zero (c : Nat → BitVec 8) (a : Nat → BitVec 64) (ad : BitVec 64) (k : Nat) : hn c a ad 0 k = 0 := by unfold hn; split <;> rfl
theorem hn_succ (c : Nat → BitVec 8) (a : Nat → BitVec 64) (ad : BitVec 64) (j k : Nat) : hn c a ad (j + 1) k = hn c a ad j k + (if hdB c a k (ad + BitVec.ofNat 64 j) = true then 1 else 0) := by
  unfold hn hdB
  cases spn c a k with
  | none => rfl
  | some fl => rfl
theorem hn_le (c : Nat → BitVec 8) (a : Nat → BitVec 64) (ad : BitVec 64) (j k : Nat) : hn c a ad j k ≤ j := by
  unfold hn; split
  · omega
  · exact hcn_le _ _ _ _
set_option maxRecDepth 100000 in
set_option maxHeartbeats 2000000 in
theorem rHolds_c (c : Nat → BitVec 8) (a : Nat → BitVec 64) (k : Nat) (hk : k < 16) (x : BitVec 64) (w : World) :
    Calls Tryz.prog 134 #[.agg (pc c a), .int .i64 k, .int .u64 (n64 x)] w fun e w' => e = .returned (.bool (hdB (PC c) (PA a) k x)) ∧ Below w.heap.size w w' := by
  obtain ⟨W0, hW0, r0, b0, s0⟩ := start1 w (pc c a) 28
  have HS : Hid (W0.heap.size = w.heap.size + 1) := s0
  clear s0
  have hB := rSpan_c c a k
  rw [spI_in _ _ _ hk] at hB
  have HH : Hid (hdB (PC c) (PA a) k x = match spn (PC c) (PA a) k with | none => false | some (f, l) => inR f l x) := rfl
  obtain ⟨q, hq⟩ : ∃ q, q = hdB (PC c) (PA a) k x := ⟨_, rfl⟩
  rw [← hq] at HH ⊢
  clear hq
  cases hX : spn (PC c) (PA a) k with
  | none =>
    rw [hX] at hB HH
    have HB : Hid (∀ W : World, Calls Tryz.prog 160 #[.agg (pc c a), .int .i64 k] W fun e w' => e = .returned (.tuple #[.int .u64 0, .int .u64 0, .bool false]) ∧ Below W.heap.size W w') := hB
    have e9 : q = false := HH.out
    subst e9
    clear hB hX HH
    go_enter Tryz.func134, Tryz.ntmps134
    go_upto_region 1 with fail
    clear hW0
    go_wp2_with (first | (refine wpList_load_rowG (by rfl) _ _ (by rfl) _ (by rfl) 28 _ (0, 0) _ r0.out Tryz.underlying28 (by rfl) (by rw [pc_size]; kernel_rfl) ?_) | (go_at_call 160; refine (HB.out _).mono ?_; rintro e w1 ⟨rfl, hb⟩; have HB1 : Hid (Below W0.heap.size W0 w1) := hb; clear hb))
    go_ret
    exact ⟨rfl, b0.out.trans (HB1.out.mono (by rw [HS.out]; omega))⟩
  | some fl =>
    obtain ⟨f, l⟩ := fl
    rw [hX] at hB HH
    have HB : Hid (∀ W : World, Calls Tryz.prog 160 #[.agg (pc c a), .int .i64 k] W fun e w' => e = .returned (.tuple #[.int .u64 (n64 f), .int .u64 (n64 l), .bool true]) ∧ Below W.heap.size W w') := hB
    have HQ : Hid (q = (decide (n64 f ≤ n64 x) && decide (n64 x ≤ n64 l))) := HH
    clear hB hX HH
    by_cases h1 : n64 f ≤ n64 x
    · go_enter Tryz.func134, Tryz.ntmps134
      go_upto_region 1 with fail
      clear hW0
      go_wp2_with (first | (refine wpList_load_rowG (by rfl) _ _ (by rfl) _ (by rfl) 28 _ (0, 0) _ r0.out Tryz.underlying28 (by rfl) (by rw [pc_size]; kernel_rfl) ?_) | (go_at_call 160; refine (HB.out _).mono ?_; rintro e w1 ⟨rfl, hb⟩; have HB1 : Hid (Below W0.heap.size W0 w1) := hb; clear hb))
      go_ret
      exact ⟨by rw [HQ.out, decide_eq_true h1, Bool.true_and]; first | done | rfl, b0.out.trans (HB1.out.mono (by rw [HS.out]; omega))⟩
    · go_enter Tryz.func134, Tryz.ntmps134
      go_upto_region 1 with fail
      clear hW0
      go_wp2_with (first | (refine wpList_load_rowG (by rfl) _ _ (by rfl) _ (by rfl) 28 _ (0, 0) _ r0.out Tryz.underlying28 (by rfl) (by rw [pc_size]; kernel_rfl) ?_) | (go_at_call 160; refine (HB.out _).mono ?_; rintro e w1 ⟨rfl, hb⟩; have HB1 : Hid (Below W0.heap.size W0 w1) := hb; clear hb))
      go_ret
      exact ⟨by rw [HQ.out, decide_eq_false (show ¬ n64 f ≤ n64 x by omega), Bool.false_and]; first | done | rfl, b0.out.trans (HB1.out.mono (by rw [HS.out]; omega))⟩
set_option maxRecDepth 100000 in
set_option maxHeartbeats 2000000 in
theorem rMatch_in (c : Nat → BitVec 8) (a : Nat → BitVec 64) (ad : BitVec 64) (s : Nat) (h1 : 1 ≤ s) (h8 : s ≤ 8) (w : World) :
    Calls Tryz.prog 57 #[.agg (pc c a), .int .u64 (n64 ad), .int .i64 s] w fun e w' => e = .returned (.tuple #[.int .i64 (MT (hn (PC c) (PA a) ad s) s).1, .bool (MT (hn (PC c) (PA a) ad s) s).2]) ∧ Below w.heap.size w w' := by
  obtain ⟨W0, hW0, r0, b0, s0⟩ := start1 w (pc c a) 28
  have HS : Hid (W0.heap.size = w.heap.size + 1) := s0
  clear s0
  have n1 : ¬ (s : Int) < 1 := by omega
  have n8' : ¬ (8 : Int) < s := by omega
  have hs8 : (s : Int) ≤ 8 := by omega
  obtain ⟨m1, hm1⟩ : ∃ m1, m1 = (MT (hn (PC c) (PA a) ad s) s).1 := ⟨_, rfl⟩
  obtain ⟨m2, hm2⟩ : ∃ m2, m2 = (MT (hn (PC c) (PA a) ad s) s).2 := ⟨_, rfl⟩
  rw [← hm1, ← hm2]
  have HM : Hid (mtF (hn (PC c) (PA a) ad s) s 16 0 = (m1, m2)) := by unfold Hid; rw [hm1, hm2]; rfl
  have HHo : Hid (∀ (k : Nat), k < 16 → ∀ (x : BitVec 64) W, Calls Tryz.prog 134 #[.agg (pc c a), .int .i64 k, .int .u64 (n64 x)] W fun e w' => e = .returned (.bool (hdB (PC c) (PA a) k x)) ∧ Below W.heap.size W w') := fun k hk x W => rHolds_c c a k hk x W
  clear hm1 hm2
  go_enter Tryz.func57, Tryz.ntmps57
  go_wp2
  clear hW0
  go_loopw [8] (fun i wr => ∃ k : Nat, k ≤ 16 ∧ i = .int .i64 k ∧ Hid (mtF (hn (PC c) (PA a) ad s) s (16 - k) k = (m1, m2)) ∧ Hid (Row wr w.heap.size (pc c a) 28) ∧ Hid (Below w.heap.size w wr)) (fun i _ => 16 - (intOf i).toNat)
  case atStart => exact ⟨0, by omega, rfl, HM, r0, b0⟩
  case round =>
    clear HM r0 b0 HS
    obtain ⟨k, hk, rfl, hm, h0, hb⟩ := hrel
    by_cases hlt : k < 16
    · have hlt2 : (k : Int) < 16 := by omega
      obtain ⟨n, hn1⟩ : ∃ n, 16 - k = n + 1 := ⟨15 - k, by omega⟩
      have HN : Hid (16 - (k + 1) = n) := by unfold Hid; omega
      rw [hn1] at hm
      have HZ : Hid (hn (PC c) (PA a) ad 0 k = 0) := hn_zero _ _ _ _
      clear hn1
      go_wp2
      go_loopw [9, 10] (fun q i wq => ∃ j : Nat, j ≤ s ∧ i = .int .i64 j ∧ q = .int .i64 (hn (PC c) (PA a) ad j k : Nat) ∧ Hid (Row wq w.heap.size (pc c a) 28) ∧ Hid (Below w.heap.size w wq)) (fun _ i _ => s - (intOf i).toNat)
      case atStart => exact ⟨0, by omega, rfl, by rw [HZ.out]; rfl, h0, hb⟩
      case round =>
        clear h0 hb
        obtain ⟨j, hj, rfl, rfl, g0, gb⟩ := hrel
        by_cases hjl : j < s
        · have hjl2 : (j : Int) < s := by omega
          have HA := ad_add ad j (by omega)
          have HC : Hid (hn (PC c) (PA a) ad (j + 1) k = hn (PC c) (PA a) ad j k + (if hdB (PC c) (PA a) k (ad + BitVec.ofNat 64 j) = true then 1 else 0)) := hn_succ _ _ _ _ _
          have hle := hn_le (PC c) (PA a) ad j k
          have hcall := fun W => HHo.out k hlt (ad + BitVec.ofNat 64 j) W
          generalize hn (PC c) (PA a) ad j k = q at HC hle ⊢
          generalize ad + BitVec.ofNat 64 j = x at HA HC hcall
          have hq8 : (q : Int) ≤ 8 := by omega
          have glt := g0.out.lt
          cases hv : hdB (PC c) (PA a) k x with
          | true =>
            rw [hv] at HC hcall
            have H3 : Hid (hn (PC c) (PA a) ad (j + 1) k = q + 1) := HC
            have HCL : Hid (∀ W, Calls Tryz.prog 134 #[.agg (pc c a), .int .i64 k, .int .u64 (n64 x)] W fun e w' => e = .returned (.bool true) ∧ Below W.heap.size W w') := hcall
            clear HC hcall hv
            go_wp2_with (first | (refine wpList_load_rowG (by rfl) _ _ (by rfl) _ (by rfl) 28 _ (0, 0) _ g0.out Tryz.underlying28 (by rfl) (by rw [pc_size]; kernel_rfl) ?_) | (go_at_call 134; refine (HCL.out _).mono ?_; rintro e w3 ⟨rfl, hb3⟩; have HB3 : Hid (Below wr.heap.size wr w3) := hb3; clear hb3))
            go_roundw
            case rel => exact ⟨j + 1, by omega, by go_num, by rw [H3.out]; go_num, g0.out.later HB3.out glt, gb.out.trans (HB3.out.mono gb.out.size)⟩
            case measure => simp [intOf]; omega
          | false =>
            rw [hv] at HC hcall
            have H3 : Hid (hn (PC c) (PA a) ad (j + 1) k = q) := HC
            have HCL : Hid (∀ W, Calls Tryz.prog 134 #[.agg (pc c a), .int .i64 k, .int .u64 (n64 x)] W fun e w' => e = .returned (.bool false) ∧ Below W.heap.size W w') := hcall
            clear HC hcall hv
            go_wp2_with (first | (refine wpList_load_rowG (by rfl) _ _ (by rfl) _ (by rfl) 28 _ (0, 0) _ g0.out Tryz.underlying28 (by rfl) (by rw [pc_size]; kernel_rfl) ?_) | (go_at_call 134; refine (HCL.out _).mono ?_; rintro e w3 ⟨rfl, hb3⟩; have HB3 : Hid (Below wr.heap.size wr w3) := hb3; clear hb3))
            go_roundw
            case rel => exact ⟨j + 1, by omega, by go_num, by rw [H3.out], g0.out.later HB3.out glt, gb.out.trans (HB3.out.mono gb.out.size)⟩
            case measure => simp [intOf]; omega
        · obtain rfl : j = s := by omega
          obtain ⟨q, hq⟩ : ∃ q, q = hn (PC c) (PA a) ad j k := ⟨_, rfl⟩
          rw [← hq]
          by_cases hpos : 0 < q
          · have hhit := hm.out
            rw [mtF_hit _ _ _ _ (by rw [← hq]; exact hpos), ← hq] at hhit
            simp only [Prod.mk.injEq] at hhit
            obtain ⟨z1, z2⟩ := hhit
            have Z1 : Hid ((k : Int) = m1) := z1
            have Z2 : Hid (((q : Int) == (j : Int)) = m2) := z2
            have hpos2 : (0 : Int) < q := by omega
            clear z1 z2 hq hm
            go_wp2
            go_ret2
            refine ⟨?_, gb.out⟩
            have y1 := Z1.out
            have y2 := Z2.out
            simp_all
          · have hmiss := hm.out
            rw [mtF_miss _ _ _ _ (by rw [← hq]; exact hpos), ← HN.out] at hmiss
            have HMs : Hid (mtF (hn (PC c) (PA a) ad j) j (16 - (k + 1)) (k + 1) = (m1, m2)) := hmiss
            obtain rfl : q = 0 := by omega
            have hz : ((0 : Nat) : Int) = 0 := rfl
            rw [hz]
            clear hmiss hq hm hpos hz
            go_wp2
            go_roundw
            case rel => exact ⟨k + 1, by omega, by go_num, HMs, g0, gb⟩
            case measure => simp [intOf]; omega
    · obtain rfl : k = 16 := by omega
      have e16 : ((16 : Nat) : Int) = 16 := rfl
      rw [e16]
      have hq := hm.out
      simp only [Nat.sub_self, mtF, Prod.mk.injEq] at hq
      obtain ⟨z1, z2⟩ := hq
      clear hm hk hlt e16
      subst z1
      subst z2
      go_wp2
      go_ret2
      exact ⟨rfl, hb.out⟩
set_option maxRecDepth 100000 in
set_option maxHeartbeats 2000000 in
theorem rMatch_c (c : Nat → BitVec 8) (a : Nat → BitVec 64) (ad : BitVec 64) (i : Int) (w : World) :
    Calls Tryz.prog 57 #[.agg (pc c a), .int .u64 (n64 ad), .int .i64 i] w fun e w' => e = .returned (mtV (mA (PC c) (PA a) ad i)) ∧ Below w.heap.size w w' := by
  by_cases h : 1 ≤ i ∧ i ≤ 8
  · obtain ⟨s, rfl⟩ : ∃ s : Nat, i = s := ⟨i.toNat, by omega⟩
    rw [mA_in _ _ _ _ (by omega) (by omega)]
    exact rMatch_in c a ad s (by omega) (by omega) w
  · rw [mA_out _ _ _ _ h]
    obtain ⟨W0, hW0, r0, b0, s0⟩ := start1 w (pc c a) 28
    clear s0
    by_cases h1 : i < 1
    · clear h
      go_enter Tryz.func57, Tryz.ntmps57
      go_wp2
      go_ret2
      exact ⟨rfl, b0.out⟩
    · have h2 : (8 : Int) < i := by omega
      clear h
      go_enter Tryz.func57, Tryz.ntmps57
      go_wp2
      go_ret2
      exact ⟨rfl, b0.out⟩
end Go.Proofs.YtidfndgedopghaaGreatDoor
namespace Go.Proofs.YtidfndgedopghaaGreatDoor
set_option linter.unusedVariables false
open Go.ChangeShapes Go.WideShapes Go.ChangeAt Go.RowKit Go.Deep
theorem mtF_cases (h : Nat → Nat) (s : Nat) : ∀ n i, (mtF h s n i).1 = -1 ∧ (mtF h s n i).2 = false ∨ ∃ k : Nat, k < i + n ∧ (mtF h s n i).1 = (k : Int)
  | 0, i => .inl ⟨rfl, rfl⟩
  | n + 1, i => by
    rw [mtF]
    split
    · exact .inr ⟨i, by omega, rfl⟩
    · rcases mtF_cases h s n (i + 1) with h1 | ⟨k, hk, h1⟩
      · exact .inl h1
      · exact .inr ⟨k, by omega, h1⟩
theorem MT_cases (h : Nat → Nat) (s : Nat) : MT h s = (-1, false) ∨ ∃ (k : Nat) (q : Bool), k < 16 ∧ MT h s = ((k : Int), q) := by
  rcases mtF_cases h s 16 0 with ⟨h1, h2⟩ | ⟨k, hk, h1⟩
  · exact .inl (Prod.ext h1 h2)
  · exact .inr ⟨k, _, by omega, Prod.ext h1 rfl⟩
theorem bits_i64 (u v : Int) : bits .and .i64 u v = IntKind.i64.wrap ((BitVec.ofInt 64 u &&& BitVec.ofInt 64 v).toNat : Int) := rfl
theorem ofInt_wrap (y : BitVec 64) : BitVec.ofInt 64 (IntKind.i64.wrap (y.toNat : Int)) = y := by
  have e : IntKind.i64.wrap (y.toNat : Int) = wrap64 (n64 y) := by
    unfold wrap64 n64; simp [IntKind.wrap, IntKind.signed, IntKind.bits]; split <;> omega
  rw [e, wrap64_n64, BitVec.ofInt_toInt]
theorem ofInt_rts : ∀ x : BitVec 8, BitVec.ofInt 64 (n8 (rts x)) = BitVec.ofInt 64 (n8 x) &&& BitVec.ofInt 64 7 := by decide +kernel
theorem grant_bits (x : BitVec 8) (b : Int) : bits .and .i64 (bits .and .i64 (n8 x) b) 7 = bits .and .i64 (n8 (rts x)) b := by
  rw [bits_i64 (n8 x) b, bits_i64 _ 7, ofInt_wrap, bits_i64, ofInt_rts]
  congr 3
  rw [BitVec.and_assoc, BitVec.and_assoc, BitVec.and_comm (BitVec.ofInt 64 b)]
theorem check_bits : ∀ x : BitVec 8, ∀ b ∈ [(1 : Int), 2, 3, 4, 5, 6, 7], bits .and .i64 (n8 x) b = bits .and .i64 (n8 (rts x)) b := by decide +kernel
theorem pcl_twice' : ∀ x : BitVec 8, pcl (pcl x) = pcl x := by decide +kernel
theorem PC_twice' (c : Nat → BitVec 8) : PC (PC c) = PC c := funext fun j => pcl_twice' (c j)
theorem PA_twice' (a : Nat → BitVec 64) : PA (PA a) = PA a := funext fun j => by show pad (pad (a j)) = pad (a j); unfold pad; rw [BitVec.and_assoc, BitVec.and_self]
/-- Granted's answer. -/
def grA (c : Nat → BitVec 8) (a : Nat → BitVec 64) (ad : BitVec 64) (b : Int) : Bool := if (MT (hn c a ad 1) 1).1 < 0 then false else (bits .and .i64 (n8 (rts (c (MT (hn c a ad 1) 1).1.toNat))) b != 0)
set_option maxRecDepth 100000 in
set_option maxHeartbeats 2000000 in
theorem Granted_c (c : Nat → BitVec 8) (a : Nat → BitVec 64) (ad : BitVec 64) (b : Int) (w : World) (hT : Tb w) :
    Calls Tryz.prog 27 #[.agg (pc c a), .int .u64 (n64 ad), .int .i64 b] w fun e w' => e = .returned (.bool (grA (PC c) (PA a) ad b)) ∧ Below w.heap.size w w' := by
  obtain ⟨W0, hW0, r0, b0, s0⟩ := start1 w (pc c a) 28
  have HS : Hid (W0.heap.size = w.heap.size + 1) := s0
  clear s0
  have HT : Hid (Tb w) := hT
  clear hT
  have HSp : Hid (∀ g W, Tb W → Row W g (ec (PC c) (PA a)) 89 → Calls Tryz.prog 54 #[.pointer (some ⟨g, 0, none⟩), .int .u64 (n64 ad), .int .i64 1] W fun e w' => e = .returned (.tuple #[.int .i64 (MT (hn (PC c) (PA a) ad 1) 1).1, .bool (MT (hn (PC c) (PA a) ad 1) 1).2]) ∧ Below W.heap.size W w') := fun g W h1 h2 => match_c (PC c) (PA a) (PA_lt a) ad 1 (by omega) g W h1 h2
  obtain ⟨G, hG⟩ : ∃ G, G = grA (PC c) (PA a) ad b := ⟨_, rfl⟩
  rw [← hG]
  rw [grA] at hG
  rcases MT_cases (hn (PC c) (PA a) ad 1) 1 with hm | ⟨k, q, hk, hm⟩
  · rw [hm] at HSp hG
    rw [if_pos (by decide)] at hG
    subst hG
    clear hm
    go_enter Tryz.func27, Tryz.ntmps27
    go_upto_region 1 with fail
    clear hW0
    go_upto_region 2 with (first | (refine wpList_load_rowG (by rfl) _ _ (by rfl) _ (by rfl) 28 _ (0, 0) _ r0.out Tryz.underlying28 (by rfl) (by rw [pc_size]; kernel_rfl) ?_) | (go_at_call 53; refine (of_p c a _).mono ?_; rintro e w1 ⟨rfl, hb1⟩; have HB1 : Hid (Below W0.heap.size W0 w1) := hb1; clear hb1) | (refine wpList_store_new (by rfl) _ _ _ (by rfl) (by rfl) _ _ (by rfl) (by rfl) (by rw [ec_size]; kernel_rfl) (by rw [ec_size]; rfl) (ec_ones _ _) ?_))
    obtain ⟨W2, hW2, r2, b2, s2⟩ := start1 w1 (ec (PC c) (PA a)) 89
    rw [hW2]
    have t1 : Below w.heap.size w w1 := b0.out.trans (HB1.out.mono (by rw [HS.out]; omega))
    have b3 : Hid (Below w.heap.size w W2) := t1.trans (b2.out.mono t1.size)
    have T2 : Hid (Tb W2) := HT.out.next b3.out
    have HGL : Hid (W2.heap.size = w1.heap.size + 1) := s2
    clear t1 s2 b2 hW2 HB1 r0 b0 HS
    generalize w1.heap.size = g at *
    go_wp2_with (go_at_call 54; refine (HSp.out g W2 T2.out r2.out).mono ?_; rintro e w5 ⟨rfl, hb⟩; have HB5 : Hid (Below W2.heap.size W2 w5) := hb; clear hb)
    go_ret
    exact ⟨rfl, b3.out.trans (HB5.out.mono b3.out.size)⟩
  · rw [hm] at HSp hG
    rw [if_neg (by show ¬ (k : Int) < 0; omega)] at hG
    have HG : Hid (G = (bits .and .i64 (n8 (rts (PC c k))) b != 0)) := hG
    have hk2 : (k : Int) < 16 := by omega
    have hk3 : ((k : Int) != -1) = true := by rw [bne_iff_ne]; omega
    have HR : Hid (∀ W, Calls Tryz.prog 55 #[.agg #[.int .u8 (n8 (PC c k)), .int .u64 (n64 (PA a k))]] W fun e w' => e = .returned (.int .i64 (n8 (rts (PC c k)))) ∧ Below W.heap.size W w') := fun W => erights_c _ _ W
    clear hm hG
    go_enter Tryz.func27, Tryz.ntmps27
    go_upto_region 1 with fail
    clear hW0
    go_upto_region 2 with (first | (refine wpList_load_rowG (by rfl) _ _ (by rfl) _ (by rfl) 28 _ (0, 0) _ r0.out Tryz.underlying28 (by rfl) (by rw [pc_size]; kernel_rfl) ?_) | (go_at_call 53; refine (of_p c a _).mono ?_; rintro e w1 ⟨rfl, hb1⟩; have HB1 : Hid (Below W0.heap.size W0 w1) := hb1; clear hb1) | (refine wpList_store_new (by rfl) _ _ _ (by rfl) (by rfl) _ _ (by rfl) (by rfl) (by rw [ec_size]; kernel_rfl) (by rw [ec_size]; rfl) (ec_ones _ _) ?_))
    obtain ⟨W2, hW2, r2, b2, s2⟩ := start1 w1 (ec (PC c) (PA a)) 89
    rw [hW2]
    have t1 : Below w.heap.size w w1 := b0.out.trans (HB1.out.mono (by rw [HS.out]; omega))
    have b3 : Hid (Below w.heap.size w W2) := t1.trans (b2.out.mono t1.size)
    have T2 : Hid (Tb W2) := HT.out.next b3.out
    have HGL : Hid (W2.heap.size = w1.heap.size + 1) := s2
    clear t1 s2 b2 hW2 HB1 r0 b0 HS
    generalize w1.heap.size = g at *
    go_wp2_with (first | (go_at_call 54; refine (HSp.out g W2 T2.out r2.out).mono ?_; rintro e w5 ⟨rfl, hb⟩; have HB5 : Hid (Below W2.heap.size W2 w5) := hb; have r5 := r2.out.later hb (by rw [HGL.out]; omega); have d0 := row_cfg r5 k hk; have d1 := row_addr r5 k hk; clear hb r5) | (go_at_call 55; refine (HR.out _).mono ?_; rintro e w6 ⟨rfl, hb⟩; have HB6 : Hid (Below W2.heap.size W2 w6) := HB5.out.trans (hb.mono HB5.out.size); clear hb))
    go_ret
    exact ⟨by rw [HG.out]; first | done | rfl, b3.out.trans (HB6.out.mono b3.out.size)⟩
set_option maxRecDepth 100000 in
set_option maxHeartbeats 2000000 in
theorem rGranted_c (c : Nat → BitVec 8) (a : Nat → BitVec 64) (ad : BitVec 64) (b : Int) (w : World) :
    Calls Tryz.prog 29 #[.agg (pc c a), .int .u64 (n64 ad), .int .i64 b] w fun e w' => e = .returned (.bool (grA (PC c) (PA a) ad b)) ∧ Below w.heap.size w w' := by
  obtain ⟨W0, hW0, r0, b0, s0⟩ := start1 w (pc c a) 28
  have HS : Hid (W0.heap.size = w.heap.size + 1) := s0
  clear s0
  have HM : Hid (∀ W, Calls Tryz.prog 57 #[.agg (pc (PC c) (PA a)), .int .u64 (n64 ad), .int .i64 1] W fun e w' => e = .returned (.tuple #[.int .i64 (MT (hn (PC c) (PA a) ad 1) 1).1, .bool (MT (hn (PC c) (PA a) ad 1) 1).2]) ∧ Below W.heap.size W w') := fun W => by
    have := rMatch_in (PC c) (PA a) ad 1 (by omega) (by omega) W
    rw [PC_twice', PA_twice'] at this
    exact this
  obtain ⟨G, hG⟩ : ∃ G, G = grA (PC c) (PA a) ad b := ⟨_, rfl⟩
  rw [← hG]
  rw [grA] at hG
  rcases MT_cases (hn (PC c) (PA a) ad 1) 1 with hm | ⟨k, q, hk, hm⟩
  · rw [hm] at HM hG
    rw [if_pos (by decide)] at hG
    subst hG
    clear hm
    go_enter Tryz.func29, Tryz.ntmps29
    go_upto_region 1 with fail
    clear hW0
    go_upto_region 2 with (first | (refine wpList_load_rowG (by rfl) _ _ (by rfl) _ (by rfl) 28 _ (0, 0) _ r0.out Tryz.underlying28 (by rfl) (by rw [pc_size]; kernel_rfl) ?_) | (go_at_call 47; refine (rProper_c c a _).mono ?_; rintro e w1 ⟨rfl, hb1⟩; have HB1 : Hid (Below W0.heap.size W0 w1) := hb1; clear hb1) | (refine wpList_store_row (by rfl) _ _ _ (by rfl) (by rfl) _ _ _ (by rfl) (by rfl) (r0.out.later HB1.out (by rw [HS.out]; omega)) (by rw [pc_size]; kernel_rfl) (by rw [pc_size, pc_size]) (pc_ones _ _) ?_))
    obtain ⟨W2, hW2, r2, b2, s2⟩ := start_p (pc (PC c) (PA a)) r0.out b0.out (by rw [HS.out]; omega) HB1.out
    rw [hW2]
    clear hW2 HB1 r0 b0 HS
    go_wp2_with (first | (refine wpList_load_rowG (by rfl) _ _ (by rfl) _ (by rfl) 28 _ (0, 0) _ r2.out Tryz.underlying28 (by rfl) (by rw [pc_size]; kernel_rfl) ?_) | (go_at_call 57; refine (HM.out _).mono ?_; rintro e w3 ⟨rfl, hb⟩; have HB3 : Hid (Below w.heap.size w w3) := b2.out.trans (hb.mono (Nat.le_of_lt s2.out)); clear hb))
    go_ret
    exact ⟨rfl, HB3.out⟩
  · rw [hm] at HM hG
    rw [if_neg (by show ¬ (k : Int) < 0; omega)] at hG
    have HG : Hid (G = (bits .and .i64 (n8 (rts (PC c k))) b != 0)) := hG
    have hk2 : (k : Int) < 16 := by omega
    have hgb := grant_bits (PC c k) b
    have hw := n8_wrap64 (PC c k)
    clear hm hG
    go_enter Tryz.func29, Tryz.ntmps29
    go_upto_region 1 with fail
    clear hW0
    go_upto_region 2 with (first | (refine wpList_load_rowG (by rfl) _ _ (by rfl) _ (by rfl) 28 _ (0, 0) _ r0.out Tryz.underlying28 (by rfl) (by rw [pc_size]; kernel_rfl) ?_) | (go_at_call 47; refine (rProper_c c a _).mono ?_; rintro e w1 ⟨rfl, hb1⟩; have HB1 : Hid (Below W0.heap.size W0 w1) := hb1; clear hb1) | (refine wpList_store_row (by rfl) _ _ _ (by rfl) (by rfl) _ _ _ (by rfl) (by rfl) (r0.out.later HB1.out (by rw [HS.out]; omega)) (by rw [pc_size]; kernel_rfl) (by rw [pc_size, pc_size]) (pc_ones _ _) ?_))
    obtain ⟨W2, hW2, r2, b2, s2⟩ := start_p (pc (PC c) (PA a)) r0.out b0.out (by rw [HS.out]; omega) HB1.out
    rw [hW2]
    clear hW2 HB1 r0 b0 HS
    go_wp2_with (first | (refine wpList_load_rowG (by rfl) _ _ (by rfl) _ (by rfl) 28 _ (0, 0) _ r2.out Tryz.underlying28 (by rfl) (by rw [pc_size]; kernel_rfl) ?_) | (go_at_call 57; refine (HM.out _).mono ?_; rintro e w3 ⟨rfl, hb⟩; have HB3 : Hid (Below w.heap.size w w3) := b2.out.trans (hb.mono (Nat.le_of_lt s2.out)); have r3 := r2.out.later hb s2.out; have d0 := prow_cfg r3 k hk; clear hb r3))
    go_ret
    refine ⟨?_, HB3.out⟩
    rw [HG.out]
    simp_all
end Go.Proofs.YtidfndgedopghaaGreatDoor
