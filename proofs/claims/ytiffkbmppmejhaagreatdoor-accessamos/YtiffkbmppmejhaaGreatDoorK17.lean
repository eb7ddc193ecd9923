import Derived.Test.YtiffkbmppmejhaaGreatDoorK16
import Derived.Test.YtiffkbmppmejhaaGreatDoorTie
import Derived.Test.YtiffkbmppmejhaaGreatDoorCards
import Derived.Test.YtiffkbmppmejhaaGreatDoorK15
import Derived.PinnedBridge
import Derived.Lay
import Derived.LaidOnce
import Derived.SevenTiedAt
import Derived.Lib.LaidU8T
namespace Go.Proofs.YtiffkbmppmejhaaGreatDoor
set_option linter.unusedVariables false
set_option maxRecDepth 100000
set_option maxHeartbeats 8000000
open Go.ChangeShapes Go.WideShapes Go.ChangeAt Go.RowKit Go.Deep _root_.Go.Proofs.Tryz
def qJ (m s b : Int) : Prop := (m = 0 ∨ m = 3) ∧ (1 ≤ s ∧ s ≤ 8) ∧ (1 ≤ b ∧ b ≤ 7)
def ckM (c : Nat → BitVec 8) (m : Int) (p : Int × Bool) (b : Int) : Bool := if p.1 < 0 then decide (m = 3) else if p.2 = false then false else if m = 0 ∨ lk (c p.1.toNat) = true then (bits .and .i64 (n8 (rts (c p.1.toNat))) b == b) else true
def ckA (c : Nat → BitVec 8) (a : Nat → BitVec 64) (m : Int) (ad : BitVec 64) (s b : Int) : Bool := if (m = 0 ∨ m = 3) ∧ (1 ≤ s ∧ s ≤ 8) ∧ (1 ≤ b ∧ b ≤ 7) then ckM c m (MT (hn c a ad s.toNat) s.toNat) b else false
theorem yL (c : Nat → BitVec 8) (a : Nat → BitVec 64) (m : Int) (ad : BitVec 64) (s b : Int) (h : ¬ qJ m s b) : ckA c a m ad s b = false := by unfold ckA; exact if_neg h
theorem uC (c : Nat → BitVec 8) (a : Nat → BitVec 64) (m : Int) (ad : BitVec 64) (s : Nat) (b : Int) (h : qJ m s b) : ckA c a m ad s b = ckM c m (MT (hn c a ad s) s) b := by unfold ckA; exact if_pos h
theorem qH (c : Nat → BitVec 8) (m b : Int) : ckM c m (-1, false) b = decide (m = 3) := rfl
theorem qI (c : Nat → BitVec 8) (m b : Int) (k : Nat) : ckM c m ((k : Int), false) b = false := by unfold ckM; rw [if_neg (by show ¬ (k : Int) < 0; omega), if_pos rfl]
theorem iK (c : Nat → BitVec 8) (m b : Int) (k : Nat) (h : m = 0 ∨ lk (c k) = true) : ckM c m ((k : Int), true) b = (bits .and .i64 (n8 (rts (c k))) b == b) := by unfold ckM; rw [if_neg (by show ¬ (k : Int) < 0; omega), if_neg (by simp)]; exact if_pos h
theorem qG (c : Nat → BitVec 8) (m b : Int) (k : Nat) (h : ¬ (m = 0 ∨ lk (c k) = true)) : ckM c m ((k : Int), true) b = true := by unfold ckM; rw [if_neg (by show ¬ (k : Int) < 0; omega), if_neg (by simp)]; exact if_neg h
theorem xU (c : Nat → BitVec 8) (a : Nat → BitVec 64) (m : Int) (ad : BitVec 64) (s b : Int) (h : ¬ qJ m s b) (w : World) :
  Calls prog 134 #[.agg (pc c a), .int .i64 m, .int .u64 (n64 ad), .int .i64 s, .int .i64 b] w fun e w' => e = .returned (.bool false) ∧ Below w.heap.size w w' := by
 obtain ⟨W0, hW0, r0, b0, s0⟩ := cO w (pc c a) 27
 have HS := hid s0
 clear s0
 have hM := qP m
 have hZ := qQ s
 have hR := mF b
 by_cases h1 : m = 0 ∨ m = 3
 ·by_cases h2 : 1 ≤ s ∧ s ≤ 8
  ·have h3 : ¬ (1 ≤ b ∧ b ≤ 7) := fun h3 => h ⟨h1, h2, h3⟩
   rw [decide_eq_true h1] at hM
   rw [decide_eq_true h2] at hZ
   rw [decide_eq_false h3] at hR
   have HM : Hid (∀ W, Calls prog 145 #[.int .i64 m] W fun e w' => e = .returned (.bool true) ∧ w' = W) := hM
   have HZ : Hid (∀ W, Calls prog 146 #[.int .i64 s] W fun e w' => e = .returned (.bool true) ∧ w' = W) := hZ
   have HR : Hid (∀ W, Calls prog 147 #[.int .i64 b] W fun e w' => e = .returned (.bool false) ∧ w' = W) := hR
   clear h h1 h2 h3 hM hZ hR
   go_enter func134, ntmps134
   go_wp2_with (first | (go_at_call 145; refine (HM.out _).mono ?_; rintro e w9 ⟨rfl, hw⟩; have hw2 := hw.symm; subst hw2) | (go_at_call 146; refine (HZ.out _).mono ?_; rintro e w9 ⟨rfl, hw⟩; have hw2 := hw.symm; subst hw2) | (go_at_call 147; refine (HR.out _).mono ?_; rintro e w9 ⟨rfl, hw⟩; have hw2 := hw.symm; subst hw2))
   go_ret
   exact ⟨rfl, b0.out⟩
  ·rw [decide_eq_true h1] at hM
   rw [decide_eq_false h2] at hZ
   have HM : Hid (∀ W, Calls prog 145 #[.int .i64 m] W fun e w' => e = .returned (.bool true) ∧ w' = W) := hM
   have HZ : Hid (∀ W, Calls prog 146 #[.int .i64 s] W fun e w' => e = .returned (.bool false) ∧ w' = W) := hZ
   clear h h1 h2 hM hZ hR
   go_enter func134, ntmps134
   go_wp2_with (first | (go_at_call 145; refine (HM.out _).mono ?_; rintro e w9 ⟨rfl, hw⟩; have hw2 := hw.symm; subst hw2) | (go_at_call 146; refine (HZ.out _).mono ?_; rintro e w9 ⟨rfl, hw⟩; have hw2 := hw.symm; subst hw2))
   go_ret
   exact ⟨rfl, b0.out⟩
 ·rw [decide_eq_false h1] at hM
  have HM : Hid (∀ W, Calls prog 145 #[.int .i64 m] W fun e w' => e = .returned (.bool false) ∧ w' = W) := hM
  clear h h1 hM hZ hR
  go_enter func134, ntmps134
  go_wp2_with ((go_at_call 145; refine (HM.out _).mono ?_; rintro e w9 ⟨rfl, hw⟩; have hw2 := hw.symm; subst hw2))
  go_ret
  exact ⟨rfl, b0.out⟩
theorem vH (c : Nat → BitVec 8) (a : Nat → BitVec 64) (m : Int) (ad : BitVec 64) (s : Nat) (b : Int) (h : qJ m s b) (w : World) (hT : Tb w) :
  Calls prog 134 #[.agg (pc c a), .int .i64 m, .int .u64 (n64 ad), .int .i64 s, .int .i64 b] w fun e w' => e = .returned (.bool (ckM (PC c) m (MT (hn (PC c) (PA a) ad s) s) b)) ∧ Below w.heap.size w w' := by
 obtain ⟨W0, hW0, r0, b0, s0⟩ := cO w (pc c a) 27
 have HS := hid s0
 clear s0
 have HT := hid hT
 clear hT
 have hM := qP m
 have hZ := qQ s
 have hR := mF b
 obtain ⟨h1, h2, h3⟩ := h
 rw [decide_eq_true h1] at hM
 rw [decide_eq_true h2] at hZ
 rw [decide_eq_true h3] at hR
 have HM : Hid (∀ W, Calls prog 145 #[.int .i64 m] W fun e w' => e = .returned (.bool true) ∧ w' = W) := hM
 have HZ : Hid (∀ W, Calls prog 146 #[.int .i64 s] W fun e w' => e = .returned (.bool true) ∧ w' = W) := hZ
 have HR : Hid (∀ W, Calls prog 147 #[.int .i64 b] W fun e w' => e = .returned (.bool true) ∧ w' = W) := hR
 have HSp : Hid (∀ g W, Tb W → Row W g (ec (PC c) (PA a)) 175 → Calls prog 148 #[.pointer (some ⟨g, 0, none⟩), .int .u64 (n64 ad), .int .i64 s] W fun e w' => e = .returned (.tuple #[.int .i64 (MT (hn (PC c) (PA a) ad s) s).1, .bool (MT (hn (PC c) (PA a) ad s) s).2]) ∧ Below W.heap.size W w') := fun g W h1 h2 => EP (PC c) (PA a) (IR a) ad s (by omega) g W h1 h2
 obtain ⟨G, hG⟩ : ∃ G, G = ckM (PC c) m (MT (hn (PC c) (PA a) ad s) s) b := ⟨_, rfl⟩
 rw [← hG]
 have HG := hid hG
 have HMo := hid h1
 clear hM hZ hR h1 h2 h3 hG
 have HCL : Hid (∀ (g k : Nat) W, k < 16 → Row W g (ec (PC c) (PA a)) 175 → Calls prog 149 #[.pointer (some ⟨g, 0, none⟩), .int .i64 k] W fun e w' => e = .returned (.bool (lk (PC c k))) ∧ Below W.heap.size W w') := fun g k W hk h => by
  have := qE (PC c) (PA a) g k W h
  rw [IV _ _ hk] at this
  exact this
 have HRt : Hid (∀ (k : Nat) W, Calls prog 150 #[.agg #[.int .u8 (n8 (PC c k)), .int .u64 (n64 (PA a k))]] W fun e w' => e = .returned (.int .i64 (n8 (rts (PC c k)))) ∧ Below W.heap.size W w') := fun k W => vZ _ _ W
 go_enter func134, ntmps134
 go_upto_region 1 with fail
 clear hW0
 go_upto_region 4 with (first | (refine aS (by rfl) _ _ (by rfl) _ (by rfl) 27 _ (0, 0) _ r0.out underlying27 (by rfl) (by rw [aP]; kernel_rfl) ?_) | (go_at_call 145; refine (HM.out _).mono ?_; rintro e w9 ⟨rfl, hw⟩; have hw2 := hw.symm; subst hw2) | (go_at_call 146; refine (HZ.out _).mono ?_; rintro e w9 ⟨rfl, hw⟩; have hw2 := hw.symm; subst hw2) | (go_at_call 147; refine (HR.out _).mono ?_; rintro e w9 ⟨rfl, hw⟩; have hw2 := hw.symm; subst hw2) | (go_at_call 101; refine (TE c a _).mono ?_; rintro e w1 ⟨rfl, hb1⟩; have HB1 := hid hb1; clear hb1) | (refine aO (by rfl) _ _ _ (by rfl) (by rfl) _ _ (by rfl) (by rfl) (by rw [dU]; kernel_rfl) (by rw [dU]; rfl) (oR _ _) ?_))
 obtain ⟨W2, hW2, r2, b2, s2⟩ := cO w1 (ec (PC c) (PA a)) 175
 rw [hW2]
 have t1 : Below w.heap.size w w1 := b0.out.trans (HB1.out.mono (by rw [HS.out]; omega))
 have b3 : Hid (Below w.heap.size w W2) := t1.trans (b2.out.mono t1.size)
 have T2 : Hid (Tb W2) := HT.out.next b3.out
 have HGL := hid s2
 clear t1 s2 b2 hW2 HB1 r0 b0 HS
 generalize w1.heap.size = g at *
 rcases pM (hn (PC c) (PA a) ad s) s with hm | ⟨k, q, hk, hm⟩
 ·rw [hm] at HSp HG
  rw [qH] at HG
  clear hm
  go_wp2_with (go_at_call 148; refine (HSp.out g W2 T2.out r2.out).mono ?_; rintro e w5 ⟨rfl, hb⟩; have HB5 := hid hb; clear hb)
  go_ret
  refine ⟨?_, b3.out.trans (HB5.out.mono b3.out.size)⟩
  rw [HG.out]
  rcases HMo.out with rfl | rfl <;> rfl
 ·rw [hm] at HSp HG
  clear hm
  have hk2 : (k : Int) < 16 := by omega
  have hk3 : ((k : Int) == -1) = false := by rw [beq_eq_false_iff_ne]; omega
  have HR5 : Hid (∀ W, Below W2.heap.size W2 W → Row W g (ec (PC c) (PA a)) 175) := fun W hb => r2.out.later hb (by rw [HGL.out]; omega)
  cases q with
  | false =>
   rw [qI] at HG
   have e9 := HG.out
   subst e9
   go_wp2_with (go_at_call 148; refine (HSp.out g W2 T2.out r2.out).mono ?_; rintro e w5 ⟨rfl, hb⟩; have HB5 := hid hb; clear hb)
   go_ret
   exact ⟨rfl, b3.out.trans (HB5.out.mono b3.out.size)⟩
  | true =>
   rcases HMo.out with hm0 | hm3
   ·subst hm0
    rw [iK _ _ _ _ (.inl rfl)] at HG
    go_wp2_with (first | (go_at_call 148; refine (HSp.out g W2 T2.out r2.out).mono ?_; rintro e w5 ⟨rfl, hb⟩; have HB5 := hid hb; have r5 := HR5.out w5 hb; have d0 := lT r5 k hk; have d1 := fO r5 k hk; clear hb r5) | (go_at_call 150; refine (HRt.out k _).mono ?_; rintro e w6 ⟨rfl, hb⟩; have HB6 : Hid (Below W2.heap.size W2 w6) := HB5.out.trans (hb.mono HB5.out.size); clear hb))
    go_ret
    exact ⟨by rw [HG.out]; first | done | rfl, b3.out.trans (HB6.out.mono b3.out.size)⟩
   ·subst hm3
    cases hl : lk (PC c k) with
    | true =>
     rw [iK _ _ _ _ (.inr hl)] at HG
     have HCK : Hid (∀ W, Row W g (ec (PC c) (PA a)) 175 → Calls prog 149 #[.pointer (some ⟨g, 0, none⟩), .int .i64 k] W fun e w' => e = .returned (.bool true) ∧ Below W.heap.size W w') := fun W h => by
      have := HCL.out g k W hk h
      rw [hl] at this
      exact this
     clear hl
     go_wp2_with (first | (go_at_call 148; refine (HSp.out g W2 T2.out r2.out).mono ?_; rintro e w5 ⟨rfl, hb⟩; have HB5 := hid hb; clear hb) | (go_at_call 149; refine (HCK.out _ (HR5.out w5 HB5.out)).mono ?_; rintro e w7 ⟨rfl, hb⟩; have HB7 : Hid (Below W2.heap.size W2 w7) := HB5.out.trans (hb.mono HB5.out.size); have r5 := HR5.out w7 HB7.out; have d0 := lT r5 k hk; have d1 := fO r5 k hk; clear hb r5) | (go_at_call 150; refine (HRt.out k _).mono ?_; rintro e w6 ⟨rfl, hb⟩; have HB6 : Hid (Below W2.heap.size W2 w6) := HB7.out.trans (hb.mono HB7.out.size); clear hb))
     go_ret
     exact ⟨by rw [HG.out]; first | done | rfl, b3.out.trans (HB6.out.mono b3.out.size)⟩
    | false =>
     rw [qG _ _ _ _ (by rw [hl]; simp)] at HG
     have e9 := HG.out
     subst e9
     have HCK : Hid (∀ W, Row W g (ec (PC c) (PA a)) 175 → Calls prog 149 #[.pointer (some ⟨g, 0, none⟩), .int .i64 k] W fun e w' => e = .returned (.bool false) ∧ Below W.heap.size W w') := fun W h => by
      have := HCL.out g k W hk h
      rw [hl] at this
      exact this
     clear hl
     go_wp2_with (first | (go_at_call 148; refine (HSp.out g W2 T2.out r2.out).mono ?_; rintro e w5 ⟨rfl, hb⟩; have HB5 := hid hb; clear hb) | (go_at_call 149; refine (HCK.out _ (HR5.out w5 HB5.out)).mono ?_; rintro e w7 ⟨rfl, hb⟩; have HB7 : Hid (Below W2.heap.size W2 w7) := HB5.out.trans (hb.mono HB5.out.size); clear hb))
     go_ret
     exact ⟨rfl, b3.out.trans (HB7.out.mono b3.out.size)⟩
theorem CZ (c : Nat → BitVec 8) (a : Nat → BitVec 64) (m : Int) (ad : BitVec 64) (s b : Int) (w : World) (hT : Tb w) :
  Calls prog 134 #[.agg (pc c a), .int .i64 m, .int .u64 (n64 ad), .int .i64 s, .int .i64 b] w fun e w' => e = .returned (.bool (ckA (PC c) (PA a) m ad s b)) ∧ Below w.heap.size w w' := by
 by_cases h : qJ m s b
 ·obtain ⟨q, rfl⟩ : ∃ q : Nat, s = q := ⟨s.toNat, by have := h.2.1; omega⟩
  rw [uC _ _ _ _ _ _ h]
  exact vH c a m ad q b h w hT
 ·rw [yL _ _ _ _ _ _ h]
  exact xU c a m ad s b h w
theorem wR (c : Nat → BitVec 8) (a : Nat → BitVec 64) (m : Int) (ad : BitVec 64) (s b : Int) (h : ¬ qJ m s b) (w : World) :
  Calls prog 83 #[.agg (pc c a), .int .i64 m, .int .u64 (n64 ad), .int .i64 s, .int .i64 b] w fun e w' => e = .returned (.bool false) ∧ Below w.heap.size w w' := by
 obtain ⟨W0, hW0, r0, b0, s0⟩ := cO w (pc c a) 27
 have HS := hid s0
 clear s0
 go_enter func83, ntmps83
 go_upto_region 1 with fail
 clear hW0
 go_upto_region 2 with (first | (refine aS (by rfl) _ _ (by rfl) _ (by rfl) 27 _ (0, 0) _ r0.out underlying27 (by rfl) (by rw [aP]; kernel_rfl) ?_) | (go_at_call 82; refine (dI c a _).mono ?_; rintro e w1 ⟨rfl, hb1⟩; have HB1 := hid hb1; clear hb1) | (refine wpList_store_row (by rfl) _ _ _ (by rfl) (by rfl) _ _ _ (by rfl) (by rfl) (r0.out.later HB1.out (by rw [HS.out]; omega)) (by rw [aP]; kernel_rfl) (by rw [aP, aP]) (dE _ _) ?_))
 obtain ⟨W2, hW2, r2, b2, s2⟩ := fA (pc (PC c) (PA a)) r0.out b0.out (by rw [HS.out]; omega) HB1.out
 rw [hW2]
 clear hW2 HB1 r0 b0 HS
 have HH := hid h
 clear h
 by_cases h1 : m = 0 ∨ m = 3
 ·have hx : (s < 1 ∨ 8 < s) ∨ (b < 1 ∨ 7 < b) := by
   by_cases q : (s < 1 ∨ 8 < s) ∨ (b < 1 ∨ 7 < b)
   ·exact q
   ·exact absurd ⟨h1, by omega, by omega⟩ HH.out
  rcases h1 with h1 | h1
  all_goals
   subst h1
   by_cases q1 : s < 1
   ·go_wp2
    go_ret
    exact ⟨rfl, b2.out⟩
   ·by_cases q2 : 8 < s
    ·go_wp2
     go_ret
     exact ⟨rfl, b2.out⟩
    ·by_cases q3 : b < 1
     ·go_wp2
      go_ret
      exact ⟨rfl, b2.out⟩
     ·have q4 : 7 < b := by omega
      go_wp2
      go_ret
      exact ⟨rfl, b2.out⟩
 ·have n0 : (m != 0) = true := by rw [bne_iff_ne]; exact fun e => h1 (.inl e)
  have n3 : (m != 3) = true := by rw [bne_iff_ne]; exact fun e => h1 (.inr e)
  clear h1
  go_wp2
  go_ret
  exact ⟨rfl, b2.out⟩
theorem sY (c : Nat → BitVec 8) (a : Nat → BitVec 64) (m : Int) (ad : BitVec 64) (s : Nat) (b : Int) (h : qJ m s b) (w : World) :
  Calls prog 83 #[.agg (pc c a), .int .i64 m, .int .u64 (n64 ad), .int .i64 s, .int .i64 b] w fun e w' => e = .returned (.bool (ckM (PC c) m (MT (hn (PC c) (PA a) ad s) s) b)) ∧ Below w.heap.size w w' := by
 obtain ⟨W0, hW0, r0, b0, s0⟩ := cO w (pc c a) 27
 have HS := hid s0
 clear s0
 obtain ⟨h1, h2, h3⟩ := h
 have q1 : ¬ (s : Int) < 1 := by omega
 have q2 : ¬ (8 : Int) < s := by omega
 have q3 : ¬ b < 1 := by omega
 have q4 : ¬ 7 < b := by omega
 have HBt : Hid (∀ x : BitVec 8, bits .and .i64 (n8 x) b = bits .and .i64 (n8 (rts x)) b) := fun x => sE x b (by simp; omega)
 have HM : Hid (∀ W, Calls prog 118 #[.agg (pc (PC c) (PA a)), .int .u64 (n64 ad), .int .i64 s] W fun e w' => e = .returned (.tuple #[.int .i64 (MT (hn (PC c) (PA a) ad s) s).1, .bool (MT (hn (PC c) (PA a) ad s) s).2]) ∧ Below W.heap.size W w') := fun W => by
  have := wT (PC c) (PA a) ad s (by omega) (by omega) W
  rw [PC_twice', PA_twice'] at this
  exact this
 have HCL : Hid (∀ (k : Nat) W, k < 16 → Calls prog 119 #[.agg (pc (PC c) (PA a)), .int .i64 k] W fun e w' => e = .returned (.bool (lk (PC c k))) ∧ Below W.heap.size W w') := fun k W hk => xA (PC c) (PA a) k hk W
 obtain ⟨G, hG⟩ : ∃ G, G = ckM (PC c) m (MT (hn (PC c) (PA a) ad s) s) b := ⟨_, rfl⟩
 rw [← hG]
 have HG := hid hG
 clear h2 h3 hG
 have HMo := hid h1
 clear h1
 go_enter func83, ntmps83
 go_upto_region 1 with fail
 clear hW0
 go_upto_region 2 with (first | (refine aS (by rfl) _ _ (by rfl) _ (by rfl) 27 _ (0, 0) _ r0.out underlying27 (by rfl) (by rw [aP]; kernel_rfl) ?_) | (go_at_call 82; refine (dI c a _).mono ?_; rintro e w1 ⟨rfl, hb1⟩; have HB1 := hid hb1; clear hb1) | (refine wpList_store_row (by rfl) _ _ _ (by rfl) (by rfl) _ _ _ (by rfl) (by rfl) (r0.out.later HB1.out (by rw [HS.out]; omega)) (by rw [aP]; kernel_rfl) (by rw [aP, aP]) (dE _ _) ?_))
 obtain ⟨W2, hW2, r2, b2, s2⟩ := fA (pc (PC c) (PA a)) r0.out b0.out (by rw [HS.out]; omega) HB1.out
 rw [hW2]
 clear hW2 HB1 r0 b0 HS
 rcases pM (hn (PC c) (PA a) ad s) s with hm | ⟨k, q, hk, hm⟩
 ·rw [hm] at HM HG
  rw [qH] at HG
  clear hm
  rcases HMo.out with h0 | h0
  all_goals
   subst h0
   have e9 := HG.out
   subst e9
   go_wp2_with (first | (refine aS (by rfl) _ _ (by rfl) _ (by rfl) 27 _ (0, 0) _ r2.out underlying27 (by rfl) (by rw [aP]; kernel_rfl) ?_) | (go_at_call 118; refine (HM.out _).mono ?_; rintro e w3 ⟨rfl, hb⟩; have HB3 : Hid (Below w.heap.size w w3) := b2.out.trans (hb.mono (Nat.le_of_lt s2.out)); clear hb))
   go_ret
   exact ⟨rfl, HB3.out⟩
 ·rw [hm] at HM HG
  clear hm
  have hk2 : (k : Int) < 16 := by omega
  have hk3 : ¬ (k : Int) < 0 := by omega
  have hw := nX (PC c k)
  have hbt := HBt.out (PC c k)
  have MA : Hid (∀ W, Below W2.heap.size W2 W → Row W w.heap.size (pc (PC c) (PA a)) 27 ∧ Below w.heap.size w W) := fun W hb => ⟨r2.out.later hb s2.out, b2.out.trans (hb.mono (Nat.le_of_lt s2.out))⟩
  cases q with
  | false =>
   rw [qI] at HG
   have e9 := HG.out
   subst e9
   rcases HMo.out with h0 | h0
   all_goals
    subst h0
    go_wp2_with (first | (refine aS (by rfl) _ _ (by rfl) _ (by rfl) 27 _ (0, 0) _ r2.out underlying27 (by rfl) (by rw [aP]; kernel_rfl) ?_) | (go_at_call 118; refine (HM.out _).mono ?_; rintro e w3 ⟨rfl, hb⟩; have HB3 : Hid (Below w.heap.size w w3) := b2.out.trans (hb.mono (Nat.le_of_lt s2.out)); clear hb))
    go_ret
    exact ⟨rfl, HB3.out⟩
  | true =>
   rcases HMo.out with h0 | h0
   ·subst h0
    rw [iK _ _ _ _ (.inl rfl)] at HG
    go_wp2_with (first | (refine aS (by rfl) _ _ (by rfl) _ (by rfl) 27 _ (0, 0) _ r2.out underlying27 (by rfl) (by rw [aP]; kernel_rfl) ?_) | (go_at_call 118; refine (HM.out _).mono ?_; rintro e w3 ⟨rfl, hb⟩; have HB3 := hid hb; have d0 := jU (MA.out w3 hb).1 k hk; clear hb))
    go_ret
    refine ⟨?_, (MA.out w3 HB3.out).2⟩
    rw [HG.out]
    simp_all
   ·subst h0
    cases hl : lk (PC c k) with
    | true =>
     rw [iK _ _ _ _ (.inr hl)] at HG
     have HCK : Hid (∀ W, Calls prog 119 #[.agg (pc (PC c) (PA a)), .int .i64 k] W fun e w' => e = .returned (.bool true) ∧ Below W.heap.size W w') := fun W => by
      have := HCL.out k W hk
      rw [hl] at this
      exact this
     clear hl
     go_wp2_with (first | (refine aS (by rfl) _ _ (by rfl) _ (by rfl) 27 _ (0, 0) _ r2.out underlying27 (by rfl) (by rw [aP]; kernel_rfl) ?_) | (refine aS (by rfl) _ _ (by rfl) _ (by rfl) 27 _ (0, 0) _ R3.out underlying27 (by rfl) (by rw [aP]; kernel_rfl) ?_) | (go_at_call 118; refine (HM.out _).mono ?_; rintro e w3 ⟨rfl, hb⟩; have HB3 := hid hb; have R3 : Hid (Row w3 w.heap.size (pc (PC c) (PA a)) 27) := (MA.out w3 hb).1; clear hb) | (go_at_call 119; refine (HCK.out _).mono ?_; rintro e w4 ⟨rfl, hb⟩; have HB4 : Hid (Below W2.heap.size W2 w4) := HB3.out.trans (hb.mono HB3.out.size); have d0 := jU (MA.out w4 HB4.out).1 k hk; clear hb))
     go_ret
     refine ⟨?_, (MA.out w4 HB4.out).2⟩
     rw [HG.out]
     simp_all
    | false =>
     rw [qG _ _ _ _ (by rw [hl]; simp)] at HG
     have e9 := HG.out
     subst e9
     have HCK : Hid (∀ W, Calls prog 119 #[.agg (pc (PC c) (PA a)), .int .i64 k] W fun e w' => e = .returned (.bool false) ∧ Below W.heap.size W w') := fun W => by
      have := HCL.out k W hk
      rw [hl] at this
      exact this
     clear hl
     go_wp2_with (first | (refine aS (by rfl) _ _ (by rfl) _ (by rfl) 27 _ (0, 0) _ r2.out underlying27 (by rfl) (by rw [aP]; kernel_rfl) ?_) | (refine aS (by rfl) _ _ (by rfl) _ (by rfl) 27 _ (0, 0) _ R3.out underlying27 (by rfl) (by rw [aP]; kernel_rfl) ?_) | (go_at_call 118; refine (HM.out _).mono ?_; rintro e w3 ⟨rfl, hb⟩; have HB3 := hid hb; have R3 : Hid (Row w3 w.heap.size (pc (PC c) (PA a)) 27) := (MA.out w3 hb).1; clear hb) | (go_at_call 119; refine (HCK.out _).mono ?_; rintro e w4 ⟨rfl, hb⟩; have HB4 : Hid (Below W2.heap.size W2 w4) := HB3.out.trans (hb.mono HB3.out.size); clear hb))
     go_ret
     exact ⟨rfl, (MA.out w4 HB4.out).2⟩
theorem rJ (c : Nat → BitVec 8) (a : Nat → BitVec 64) (m : Int) (ad : BitVec 64) (s b : Int) (w : World) :
  Calls prog 83 #[.agg (pc c a), .int .i64 m, .int .u64 (n64 ad), .int .i64 s, .int .i64 b] w fun e w' => e = .returned (.bool (ckA (PC c) (PA a) m ad s b)) ∧ Below w.heap.size w w' := by
 by_cases h : qJ m s b
 ·obtain ⟨q, rfl⟩ : ∃ q : Nat, s = q := ⟨s.toNat, by have := h.2.1; omega⟩
  rw [uC _ _ _ _ _ _ h]
  exact sY c a m ad q b h w
 ·rw [yL _ _ _ _ _ _ h]
  exact wR c a m ad s b h w
end Go.Proofs.YtiffkbmppmejhaaGreatDoor
namespace Go.Proofs.YtiffkbmppmejhaaGreatDoor
set_option linter.unusedVariables false
set_option maxRecDepth 100000
set_option maxHeartbeats 8000000
open Go.ChangeShapes Go.WideShapes Go.ChangeAt Go.RowKit Go.Deep Go.Lib Go.Shelf _root_.Go.Proofs.Tryz
theorem QV : (Rows.laid_math_bits_deBruijn64tab : DataW Unit) = tabData .u8 (Lib.deBruijn64tab.map Int.ofNat) := by kernel_rfl
theorem JC {W : World} (h : VarReads prog W "math/bits.deBruijn64tab" (Rows.laid_math_bits_deBruijn64tab : DataW Unit)) : Tb W := by
 rw [QV] at h
 obtain ⟨g', t', cs, fuel, p, hg', ht', hvar, hd⟩ := h
 obtain rfl := Option.some.inj ((show prog.globalNamed "math/bits.deBruijn64tab" = some 0 by kernel_rfl).symm.trans hg')
 obtain rfl := Option.some.inj ((show (prog.globals[0]?).map (·.type) = some 216 by kernel_rfl).symm.trans ht')
 have hc := cells_of_tab underlying216 underlying5 (by kernel_rfl) (by kernel_rfl) hd
 intro j hj
 have hh : ∃ t fr, W.heap[0]? = some (.cells cs t fr) := by
  unfold World.var? at hvar
  rw [hg'] at hvar
  simp only [Option.bind_some] at hvar
  split at hvar
  ·rename_i c1 t1 fr1 hq
   simp only [Option.some.injEq] at hvar
   subst hvar
   exact ⟨t1, fr1, hq⟩
  ·cases hvar
 obtain ⟨t, fr, hh⟩ := hh
 rw [cell_of_row W 0 j cs t fr hh, ← Array.getElem?_toList, hc, List.getElem?_map, List.getElem?_map, List.getElem?_eq_getElem (show j < Lib.deBruijn64tab.length from hj)]
 simp [List.getD, List.getElem?_eq_getElem (show j < Lib.deBruijn64tab.length from hj)]
end Go.Proofs.YtiffkbmppmejhaaGreatDoor
