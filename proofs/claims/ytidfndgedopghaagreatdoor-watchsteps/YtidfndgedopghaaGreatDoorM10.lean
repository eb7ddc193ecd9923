/-
  Psi Psj.
-/
import Derived.Test.YtidfndgedopghaaGreatDoorM09
namespace Go.Proofs.YtidfndgedopghaaGreatDoor
set_option linter.unusedVariables false
open Go.ChangeShapes Go.WideShapes Go.ChangeAt Go.RowKit Go.Deep
theorem mtF_cases (h : Nat → Nat) (s : Nat) : ∀ n i, (mtF h s n i).1 = -1 ∧ (mtF h s n i).2 = false ∨ ∃ k : Nat, k < i + n ∧ (mtF h s n i).1 = (k : Int)
  | 0, i => .inl ⟨rfl, rfl⟩
  | n + 1, i => by
    rw [mtF]
    split
    · exact .inr ⟨i, by omega, rfl⟩
    · rcases mtF_cases h s n (i + 1) with h1 | ⟨k, hk, h1⟩
      · exact .inl h1
      · exact .inr ⟨k, by omega, h1⟩
theorem MT_cases (h : Nat → Nat) (s : Nat) : MT h s = (-1, false) ∨ ∃ (k : Nat) (q : Bool), k < 16 ∧ MT h s = ((k : Int), q) := by
  rcases mtF_cases h s 16 0 with ⟨h1, h2⟩ | ⟨k, hk, h1⟩
  · exact .inl (Prod.ext h1 h2)
  · exact .inr ⟨k, _, by omega, Prod.ext h1 rfl⟩
theorem bits_i64 (u v : Int) : bits .and .i64 u v = IntKind.i64.wrap ((BitVec.ofInt 64 u &&& BitVec.ofInt 64 v).toNat : Int) := rfl
theorem ofInt_wrap (y : BitVec 64) : BitVec.ofInt 64 (IntKind.i64.wrap (y.toNat : Int)) = y := by
  have e : IntKind.i64.wrap (y.toNat : Int) = wrap64 (n64 y) := by
    unfold wrap64 n64; simp [IntKind.wrap, IntKind.signed, IntKind.bits]; split <;> omega
  rw [e, wrap64_n64, BitVec.ofInt_toInt]
theorem ofInt_rts : ∀ x : BitVec 8, BitVec.ofInt 64 (n8 (rts x)) = BitVec.ofInt 64 (n8 x) &&& BitVec.ofInt 64 7 := by decide +kernel
theorem grant_bits (x : BitVec 8) (b : Int) : bits .and .i64 (bits .and .i64 (n8 x) b) 7 = bits .and .i64 (n8 (rts x)) b := by
  rw [bits_i64 (n8 x) b, bits_i64 _ 7, ofInt_wrap, bits_i64, ofInt_rts]
  congr 3
  rw [BitVec.and_assoc, BitVec.and_assoc, BitVec.and_comm (BitVec.ofInt 64 b)]
theorem check_bits : ∀ x : BitVec 8, ∀ b ∈ [(1 : Int), 2, 3, 4, 5, 6, 7], bits .and .i64 (n8 x) b = bits .and .i64 (n8 (rts x)) b := by decide +kernel
theorem pcl_twice' : ∀ x : BitVec 8, pcl (pcl x) = pcl x := by decide +kernel
theorem PC_twice' (c : Nat → BitVec 8) : PC (PC c) = PC c := funext fun j => pcl_twice' (c j)
theorem PA_twice' (a : Nat → BitVec 64) : PA (PA a) = PA a := funext fun j => by show pad (pad (a j)) = pad (a j); unfold pad; rw [BitVec.and_assoc, BitVec.and_self]
/-- Granted's answer. -/
def grA (c : Nat → BitVec 8) (a : Nat → BitVec 64) (ad : BitVec 64) (b : Int) : Bool := if (MT (hn c a ad 1) 1).1 < 0 then false else (bits .and .i64 (n8 (rts (c (MT (hn c a ad 1) 1).1.toNat))) b != 0)
set_option maxRecDepth 100000 in
set_option maxHeartbeats 2000000 in
theorem Granted_c (c : Nat → BitVec 8) (a : Nat → BitVec 64) (ad : BitVec 64) (b : Int) (w : World) (hT : Tb w) :
    Calls Tryz.prog 27 #[.agg (pc c a), .int .u64 (n64 ad), .int .i64 b] w fun e w' => e = .returned (.bool (grA (PC c) (PA a) ad b)) ∧ Below w.heap.size w w' := by
  obtain ⟨W0, hW0, r0, b0, s0⟩ := start1 w (pc c a) 28
  have HS : Hid (W0.heap.size = w.heap.size + 1) := s0
  clear s0
  have HT : Hid (Tb w) := hT
  clear hT
  have HSp : Hid (∀ g W, Tb W → Row W g (ec (PC c) (PA a)) 89 → Calls Tryz.prog 54 #[.pointer (some ⟨g, 0, none⟩), .int .u64 (n64 ad), .int .i64 1] W fun e w' => e = .returned (.tuple #[.int .i64 (MT (hn (PC c) (PA a) ad 1) 1).1, .bool (MT (hn (PC c) (PA a) ad 1) 1).2]) ∧ Below W.heap.size W w') := fun g W h1 h2 => match_c (PC c) (PA a) (PA_lt a) ad 1 (by omega) g W h1 h2
  obtain ⟨G, hG⟩ : ∃ G, G = grA (PC c) (PA a) ad b := ⟨_, rfl⟩
  rw [← hG]
  rw [grA] at hG
  rcases MT_cases (hn (PC c) (PA a) ad 1) 1 with hm | ⟨k, q, hk, hm⟩
  · rw [hm] at HSp hG
    rw [if_pos (by decide)] at hG
    subst hG
    clear hm
    go_enter Tryz.func27, Tryz.ntmps27
    go_upto_region 1 with fail
    clear hW0
    go_upto_region 2 with (first | (refine wpList_load_rowG (by rfl) _ _ (by rfl) _ (by rfl) 28 _ (0, 0) _ r0.out Tryz.underlying28 (by rfl) (by rw [pc_size]; kernel_rfl) ?_) | (go_at_call 53; refine (of_p c a _).mono ?_; rintro e w1 ⟨rfl, hb1⟩; have HB1 : Hid (Below W0.heap.size W0 w1) := hb1; clear hb1) | (refine wpList_store_new (by rfl) _ _ _ (by rfl) (by rfl) _ _ (by rfl) (by rfl) (by rw [ec_size]; kernel_rfl) (by rw [ec_size]; rfl) (ec_ones _ _) ?_))
    obtain ⟨W2, hW2, r2, b2, s2⟩ := start1 w1 (ec (PC c) (PA a)) 89
    rw [hW2]
    have t1 : Below w.heap.size w w1 := b0.out.trans (HB1.out.mono (by rw [HS.out]; omega))
    have b3 : Hid (Below w.heap.size w W2) := t1.trans (b2.out.mono t1.size)
    have T2 : Hid (Tb W2) := HT.out.next b3.out
    have HGL : Hid (W2.heap.size = w1.heap.size + 1) := s2
    clear t1 s2 b2 hW2 HB1 r0 b0 HS
    generalize w1.heap.size = g at *
    go_wp2_with (go_at_call 54; refine (HSp.out g W2 T2.out r2.out).mono ?_; rintro e w5 ⟨rfl, hb⟩; have HB5 : Hid (Below W2.heap.size W2 w5) := hb; clear hb)
    go_ret
    exact ⟨rfl, b3.out.trans (HB5.out.mono b3.out.size)⟩
  · rw [hm] at HSp hG
    rw [if_neg (by show ¬ (k : Int) < 0; omega)] at hG
    have HG : Hid (G = (bits .and .i64 (n8 (rts (PC c k))) b != 0)) := hG
    have hk2 : (k : Int) < 16 := by omega
    have hk3 : ((k : Int) != -1) = true := by rw [bne_iff_ne]; omega
    have HR : Hid (∀ W, Calls Tryz.prog 55 #[.agg #[.int .u8 (n8 (PC c k)), .int .u64 (n64 (PA a k))]] W fun e w' => e = .returned (.int .i64 (n8 (rts (PC c k)))) ∧ Below W.heap.size W w') := fun W => erights_c _ _ W
    clear hm hG
    go_enter Tryz.func27, Tryz.ntmps27
    go_upto_region 1 with fail
    clear hW0
    go_upto_region 2 with (first | (refine wpList_load_rowG (by rfl) _ _ (by rfl) _ (by rfl) 28 _ (0, 0) _ r0.out Tryz.underlying28 (by rfl) (by rw [pc_size]; kernel_rfl) ?_) | (go_at_call 53; refine (of_p c a _).mono ?_; rintro e w1 ⟨rfl, hb1⟩; have HB1 : Hid (Below W0.heap.size W0 w1) := hb1; clear hb1) | (refine wpList_store_new (by rfl) _ _ _ (by rfl) (by rfl) _ _ (by rfl) (by rfl) (by rw [ec_size]; kernel_rfl) (by rw [ec_size]; rfl) (ec_ones _ _) ?_))
    obtain ⟨W2, hW2, r2, b2, s2⟩ := start1 w1 (ec (PC c) (PA a)) 89
    rw [hW2]
    have t1 : Below w.heap.size w w1 := b0.out.trans (HB1.out.mono (by rw [HS.out]; omega))
    have b3 : Hid (Below w.heap.size w W2) := t1.trans (b2.out.mono t1.size)
    have T2 : Hid (Tb W2) := HT.out.next b3.out
    have HGL : Hid (W2.heap.size = w1.heap.size + 1) := s2
    clear t1 s2 b2 hW2 HB1 r0 b0 HS
    generalize w1.heap.size = g at *
    go_wp2_with (first | (go_at_call 54; refine (HSp.out g W2 T2.out r2.out).mono ?_; rintro e w5 ⟨rfl, hb⟩; have HB5 : Hid (Below W2.heap.size W2 w5) := hb; have r5 := r2.out.later hb (by rw [HGL.out]; omega); have d0 := row_cfg r5 k hk; have d1 := row_addr r5 k hk; clear hb r5) | (go_at_call 55; refine (HR.out _).mono ?_; rintro e w6 ⟨rfl, hb⟩; have HB6 : Hid (Below W2.heap.size W2 w6) := HB5.out.trans (hb.mono HB5.out.size); clear hb))
    go_ret
    exact ⟨by rw [HG.out]; first | done | rfl, b3.out.trans (HB6.out.mono b3.out.size)⟩
set_option maxRecDepth 100000 in
set_option maxHeartbeats 2000000 in
theorem rGranted_c (c : Nat → BitVec 8) (a : Nat → BitVec 64) (ad : BitVec 64) (b : Int) (w : World) :
    Calls Tryz.prog 29 #[.agg (pc c a), .int .u64 (n64 ad), .int .i64 b] w fun e w' => e = .returned (.bool (grA (PC c) (PA a) ad b)) ∧ Below w.heap.size w w' := by
  obtain ⟨W0, hW0, r0, b0, s0⟩ := start1 w (pc c a) 28
  have HS : Hid (W0.heap.size = w.heap.size + 1) := s0
  clear s0
  have HM : Hid (∀ W, Calls Tryz.prog 57 #[.agg (pc (PC c) (PA a)), .int .u64 (n64 ad), .int .i64 1] W fun e w' => e = .returned (.tuple #[.int .i64 (MT (hn (PC c) (PA a) ad 1) 1).1, .bool (MT (hn (PC c) (PA a) ad 1) 1).2]) ∧ Below W.heap.size W w') := fun W => by
    have := rMatch_in (PC c) (PA a) ad 1 (by omega) (by omega) W
    rw [PC_twice', PA_twice'] at this
    exact this
  obtain ⟨G, hG⟩ : ∃ G, G = grA (PC c) (PA a) ad b := ⟨_, rfl⟩
  rw [← hG]
  rw [grA] at hG
  rcases MT_cases (hn (PC c) (PA a) ad 1) 1 with hm | ⟨k, q, hk, hm⟩
  · rw [hm] at HM hG
    rw [if_pos (by decide)] at hG
    subst hG
    clear hm
    go_enter Tryz.func29, Tryz.ntmps29
    go_upto_region 1 with fail
    clear hW0
    go_upto_region 2 with (first | (refine wpList_load_rowG (by rfl) _ _ (by rfl) _ (by rfl) 28 _ (0, 0) _ r0.out Tryz.underlying28 (by rfl) (by rw [pc_size]; kernel_rfl) ?_) | (go_at_call 47; refine (rProper_c c a _).mono ?_; rintro e w1 ⟨rfl, hb1⟩; have HB1 : Hid (Below W0.heap.size W0 w1) := hb1; clear hb1) | (refine wpList_store_row (by rfl) _ _ _ (by rfl) (by rfl) _ _ _ (by rfl) (by rfl) (r0.out.later HB1.out (by rw [HS.out]; omega)) (by rw [pc_size]; kernel_rfl) (by rw [pc_size, pc_size]) (pc_ones _ _) ?_))
    obtain ⟨W2, hW2, r2, b2, s2⟩ := start_p (pc (PC c) (PA a)) r0.out b0.out (by rw [HS.out]; omega) HB1.out
    rw [hW2]
    clear hW2 HB1 r0 b0 HS
    go_wp2_with (first | (refine wpList_load_rowG (by rfl) _ _ (by rfl) _ (by rfl) 28 _ (0, 0) _ r2.out Tryz.underlying28 (by rfl) (by rw [pc_size]; kernel_rfl) ?_) | (go_at_call 57; refine (HM.out _).mono ?_; rintro e w3 ⟨rfl, hb⟩; have HB3 : Hid (Below w.heap.size w w3) := b2.out.trans (hb.mono (Nat.le_of_lt s2.out)); clear hb))
    go_ret
    exact ⟨rfl, HB3.out⟩
  · rw [hm] at HM hG
    rw [if_neg (by show ¬ (k : Int) < 0; omega)] at hG
    have HG : Hid (G = (bits .and .i64 (n8 (rts (PC c k))) b != 0)) := hG
    have hk2 : (k : Int) < 16 := by omega
    have hgb := grant_bits (PC c k) b
    have hw := n8_wrap64 (PC c k)
    clear hm hG
    go_enter Tryz.func29, Tryz.ntmps29
    go_upto_region 1 with fail
    clear hW0
    go_upto_region 2 with (first | (refine wpList_load_rowG (by rfl) _ _ (by rfl) _ (by rfl) 28 _ (0, 0) _ r0.out Tryz.underlying28 (by rfl) (by rw [pc_size]; kernel_rfl) ?_) | (go_at_call 47; refine (rProper_c c a _).mono ?_; rintro e w1 ⟨rfl, hb1⟩; have HB1 : Hid (Below W0.heap.size W0 w1) := hb1; clear hb1) | (refine wpList_store_row (by rfl) _ _ _ (by rfl) (by rfl) _ _ _ (by rfl) (by rfl) (r0.out.later HB1.out (by rw [HS.out]; omega)) (by rw [pc_size]; kernel_rfl) (by rw [pc_size, pc_size]) (pc_ones _ _) ?_))
    obtain ⟨W2, hW2, r2, b2, s2⟩ := start_p (pc (PC c) (PA a)) r0.out b0.out (by rw [HS.out]; omega) HB1.out
    rw [hW2]
    clear hW2 HB1 r0 b0 HS
    go_wp2_with (first | (refine wpList_load_rowG (by rfl) _ _ (by rfl) _ (by rfl) 28 _ (0, 0) _ r2.out Tryz.underlying28 (by rfl) (by rw [pc_size]; kernel_rfl) ?_) | (go_at_call 57; refine (HM.out _).mono ?_; rintro e w3 ⟨rfl, hb⟩; have HB3 : Hid (Below w.heap.size w w3) := b2.out.trans (hb.mono (Nat.le_of_lt s2.out)); have r3 := r2.out.later hb s2.out; have d0 := prow_cfg r3 k hk; clear hb r3))
    go_ret
    refine ⟨?_, HB3.out⟩
    rw [HG.out]
    simp_all
end Go.Proofs.YtidfndgedopghaaGreatDoor
namespace Go.Proofs.YtidfndgedopghaaGreatDoor
set_option linter.unusedVariables false
open Go.ChangeShapes Go.WideShapes Go.ChangeAt Go.RowKit Go.Deep
/-- Check's answer. -/
def ckOk (m s b : Int) : Prop := (m = 0 ∨ m = 3) ∧ (1 ≤ s ∧ s ≤ 8) ∧ (1 ≤ b ∧ b ≤ 7)
def ckM (c : Nat → BitVec 8) (m : Int) (p : Int × Bool) (b : Int) : Bool := if p.1 < 0 then decide (m = 3) else if p.2 = false then false else if m = 0 ∨ lk (c p.1.toNat) = true then (bits .and .i64 (n8 (rts (c p.1.toNat))) b == b) else true
def ckA (c : Nat → BitVec 8) (a : Nat → BitVec 64) (m : Int) (ad : BitVec 64) (s b : Int) : Bool := if (m = 0 ∨ m = 3) ∧ (1 ≤ s ∧ s ≤ 8) ∧ (1 ≤ b ∧ b ≤ 7) then ckM c m (MT (hn c a ad s.toNat) s.toNat) b else false
theorem ckA_no (c : Nat → BitVec 8) (a : Nat → BitVec 64) (m : Int) (ad : BitVec 64) (s b : Int) (h : ¬ ckOk m s b) : ckA c a m ad s b = false := by unfold ckA; exact if_neg h
theorem ckA_yes (c : Nat → BitVec 8) (a : Nat → BitVec 64) (m : Int) (ad : BitVec 64) (s : Nat) (b : Int) (h : ckOk m s b) : ckA c a m ad s b = ckM c m (MT (hn c a ad s) s) b := by unfold ckA; exact if_pos h
theorem ckM_none (c : Nat → BitVec 8) (m b : Int) : ckM c m (-1, false) b = decide (m = 3) := rfl
theorem ckM_part (c : Nat → BitVec 8) (m b : Int) (k : Nat) : ckM c m ((k : Int), false) b = false := by unfold ckM; rw [if_neg (by show ¬ (k : Int) < 0; omega), if_pos rfl]
theorem ckM_asked (c : Nat → BitVec 8) (m b : Int) (k : Nat) (h : m = 0 ∨ lk (c k) = true) : ckM c m ((k : Int), true) b = (bits .and .i64 (n8 (rts (c k))) b == b) := by unfold ckM; rw [if_neg (by show ¬ (k : Int) < 0; omega), if_neg (by simp)]; exact if_pos h
theorem ckM_free (c : Nat → BitVec 8) (m b : Int) (k : Nat) (h : ¬ (m = 0 ∨ lk (c k) = true)) : ckM c m ((k : Int), true) b = true := by unfold ckM; rw [if_neg (by show ¬ (k : Int) < 0; omega), if_neg (by simp)]; exact if_neg h
set_option maxRecDepth 100000 in
set_option maxHeartbeats 2000000 in
theorem Check_no (c : Nat → BitVec 8) (a : Nat → BitVec 64) (m : Int) (ad : BitVec 64) (s b : Int) (h : ¬ ckOk m s b) (w : World) :
    Calls Tryz.prog 142 #[.agg (pc c a), .int .i64 m, .int .u64 (n64 ad), .int .i64 s, .int .i64 b] w fun e w' => e = .returned (.bool false) ∧ Below w.heap.size w w' := by
  obtain ⟨W0, hW0, r0, b0, s0⟩ := start1 w (pc c a) 28
  have HS : Hid (W0.heap.size = w.heap.size + 1) := s0
  clear s0
  have hM := isMode_c m
  have hZ := isSize_c s
  have hR := isRights_c b
  by_cases h1 : m = 0 ∨ m = 3
  · by_cases h2 : 1 ≤ s ∧ s ≤ 8
    · have h3 : ¬ (1 ≤ b ∧ b ≤ 7) := fun h3 => h ⟨h1, h2, h3⟩
      rw [decide_eq_true h1] at hM
      rw [decide_eq_true h2] at hZ
      rw [decide_eq_false h3] at hR
      have HM : Hid (∀ W, Calls Tryz.prog 164 #[.int .i64 m] W fun e w' => e = .returned (.bool true) ∧ w' = W) := hM
      have HZ : Hid (∀ W, Calls Tryz.prog 165 #[.int .i64 s] W fun e w' => e = .returned (.bool true) ∧ w' = W) := hZ
      have HR : Hid (∀ W, Calls Tryz.prog 166 #[.int .i64 b] W fun e w' => e = .returned (.bool false) ∧ w' = W) := hR
      clear h h1 h2 h3 hM hZ hR
      go_enter Tryz.func142, Tryz.ntmps142
      go_wp2_with (first | (go_at_call 164; refine (HM.out _).mono ?_; rintro e w9 ⟨rfl, hw⟩; have hw2 := hw.symm; subst hw2) | (go_at_call 165; refine (HZ.out _).mono ?_; rintro e w9 ⟨rfl, hw⟩; have hw2 := hw.symm; subst hw2) | (go_at_call 166; refine (HR.out _).mono ?_; rintro e w9 ⟨rfl, hw⟩; have hw2 := hw.symm; subst hw2))
      go_ret
      exact ⟨rfl, b0.out⟩
    · rw [decide_eq_true h1] at hM
      rw [decide_eq_false h2] at hZ
      have HM : Hid (∀ W, Calls Tryz.prog 164 #[.int .i64 m] W fun e w' => e = .returned (.bool true) ∧ w' = W) := hM
      have HZ : Hid (∀ W, Calls Tryz.prog 165 #[.int .i64 s] W fun e w' => e = .returned (.bool false) ∧ w' = W) := hZ
      clear h h1 h2 hM hZ hR
      go_enter Tryz.func142, Tryz.ntmps142
      go_wp2_with (first | (go_at_call 164; refine (HM.out _).mono ?_; rintro e w9 ⟨rfl, hw⟩; have hw2 := hw.symm; subst hw2) | (go_at_call 165; refine (HZ.out _).mono ?_; rintro e w9 ⟨rfl, hw⟩; have hw2 := hw.symm; subst hw2))
      go_ret
      exact ⟨rfl, b0.out⟩
  · rw [decide_eq_false h1] at hM
    have HM : Hid (∀ W, Calls Tryz.prog 164 #[.int .i64 m] W fun e w' => e = .returned (.bool false) ∧ w' = W) := hM
    clear h h1 hM hZ hR
    go_enter Tryz.func142, Tryz.ntmps142
    go_wp2_with ((go_at_call 164; refine (HM.out _).mono ?_; rintro e w9 ⟨rfl, hw⟩; have hw2 := hw.symm; subst hw2))
    go_ret
    exact ⟨rfl, b0.out⟩
set_option maxRecDepth 100000 in
set_option maxHeartbeats 2000000 in
theorem Check_yes (c : Nat → BitVec 8) (a : Nat → BitVec 64) (m : Int) (ad : BitVec 64) (s : Nat) (b : Int) (h : ckOk m s b) (w : World) (hT : Tb w) :
    Calls Tryz.prog 142 #[.agg (pc c a), .int .i64 m, .int .u64 (n64 ad), .int .i64 s, .int .i64 b] w fun e w' => e = .returned (.bool (ckM (PC c) m (MT (hn (PC c) (PA a) ad s) s) b)) ∧ Below w.heap.size w w' := by
  obtain ⟨W0, hW0, r0, b0, s0⟩ := start1 w (pc c a) 28
  have HS : Hid (W0.heap.size = w.heap.size + 1) := s0
  clear s0
  have HT : Hid (Tb w) := hT
  clear hT
  have hM := isMode_c m
  have hZ := isSize_c s
  have hR := isRights_c b
  obtain ⟨h1, h2, h3⟩ := h
  rw [decide_eq_true h1] at hM
  rw [decide_eq_true h2] at hZ
  rw [decide_eq_true h3] at hR
  have HM : Hid (∀ W, Calls Tryz.prog 164 #[.int .i64 m] W fun e w' => e = .returned (.bool true) ∧ w' = W) := hM
  have HZ : Hid (∀ W, Calls Tryz.prog 165 #[.int .i64 s] W fun e w' => e = .returned (.bool true) ∧ w' = W) := hZ
  have HR : Hid (∀ W, Calls Tryz.prog 166 #[.int .i64 b] W fun e w' => e = .returned (.bool true) ∧ w' = W) := hR
  have HSp : Hid (∀ g W, Tb W → Row W g (ec (PC c) (PA a)) 89 → Calls Tryz.prog 54 #[.pointer (some ⟨g, 0, none⟩), .int .u64 (n64 ad), .int .i64 s] W fun e w' => e = .returned (.tuple #[.int .i64 (MT (hn (PC c) (PA a) ad s) s).1, .bool (MT (hn (PC c) (PA a) ad s) s).2]) ∧ Below W.heap.size W w') := fun g W h1 h2 => match_c (PC c) (PA a) (PA_lt a) ad s (by omega) g W h1 h2
  obtain ⟨G, hG⟩ : ∃ G, G = ckM (PC c) m (MT (hn (PC c) (PA a) ad s) s) b := ⟨_, rfl⟩
  rw [← hG]
  have HG : Hid (G = ckM (PC c) m (MT (hn (PC c) (PA a) ad s) s) b) := hG
  have HMo : Hid (m = 0 ∨ m = 3) := h1
  clear hM hZ hR h1 h2 h3 hG
  have HCL : Hid (∀ (g k : Nat) W, k < 16 → Row W g (ec (PC c) (PA a)) 89 → Calls Tryz.prog 161 #[.pointer (some ⟨g, 0, none⟩), .int .i64 k] W fun e w' => e = .returned (.bool (lk (PC c k))) ∧ Below W.heap.size W w') := fun g k W hk h => by
    have := cfgLocked_c (PC c) (PA a) g k W h
    rw [cL_in _ _ hk] at this
    exact this
  have HRt : Hid (∀ (k : Nat) W, Calls Tryz.prog 55 #[.agg #[.int .u8 (n8 (PC c k)), .int .u64 (n64 (PA a k))]] W fun e w' => e = .returned (.int .i64 (n8 (rts (PC c k)))) ∧ Below W.heap.size W w') := fun k W => erights_c _ _ W
  go_enter Tryz.func142, Tryz.ntmps142
  go_upto_region 1 with fail
  clear hW0
  go_upto_region 4 with (first | (refine wpList_load_rowG (by rfl) _ _ (by rfl) _ (by rfl) 28 _ (0, 0) _ r0.out Tryz.underlying28 (by rfl) (by rw [pc_size]; kernel_rfl) ?_) | (go_at_call 164; refine (HM.out _).mono ?_; rintro e w9 ⟨rfl, hw⟩; have hw2 := hw.symm; subst hw2) | (go_at_call 165; refine (HZ.out _).mono ?_; rintro e w9 ⟨rfl, hw⟩; have hw2 := hw.symm; subst hw2) | (go_at_call 166; refine (HR.out _).mono ?_; rintro e w9 ⟨rfl, hw⟩; have hw2 := hw.symm; subst hw2) | (go_at_call 53; refine (of_p c a _).mono ?_; rintro e w1 ⟨rfl, hb1⟩; have HB1 : Hid (Below W0.heap.size W0 w1) := hb1; clear hb1) | (refine wpList_store_new (by rfl) _ _ _ (by rfl) (by rfl) _ _ (by rfl) (by rfl) (by rw [ec_size]; kernel_rfl) (by rw [ec_size]; rfl) (ec_ones _ _) ?_))
  obtain ⟨W2, hW2, r2, b2, s2⟩ := start1 w1 (ec (PC c) (PA a)) 89
  rw [hW2]
  have t1 : Below w.heap.size w w1 := b0.out.trans (HB1.out.mono (by rw [HS.out]; omega))
  have b3 : Hid (Below w.heap.size w W2) := t1.trans (b2.out.mono t1.size)
  have T2 : Hid (Tb W2) := HT.out.next b3.out
  have HGL : Hid (W2.heap.size = w1.heap.size + 1) := s2
  clear t1 s2 b2 hW2 HB1 r0 b0 HS
  generalize w1.heap.size = g at *
  rcases MT_cases (hn (PC c) (PA a) ad s) s with hm | ⟨k, q, hk, hm⟩
  · rw [hm] at HSp HG
    rw [ckM_none] at HG
    clear hm
    go_wp2_with (go_at_call 54; refine (HSp.out g W2 T2.out r2.out).mono ?_; rintro e w5 ⟨rfl, hb⟩; have HB5 : Hid (Below W2.heap.size W2 w5) := hb; clear hb)
    go_ret
    refine ⟨?_, b3.out.trans (HB5.out.mono b3.out.size)⟩
    rw [HG.out]
    rcases HMo.out with rfl | rfl <;> rfl
  · rw [hm] at HSp HG
    clear hm
    have hk2 : (k : Int) < 16 := by omega
    have hk3 : ((k : Int) == -1) = false := by rw [beq_eq_false_iff_ne]; omega
    have HR5 : Hid (∀ W, Below W2.heap.size W2 W → Row W g (ec (PC c) (PA a)) 89) := fun W hb => r2.out.later hb (by rw [HGL.out]; omega)
    cases q with
    | false =>
      rw [ckM_part] at HG
      have e9 := HG.out
      subst e9
      go_wp2_with (go_at_call 54; refine (HSp.out g W2 T2.out r2.out).mono ?_; rintro e w5 ⟨rfl, hb⟩; have HB5 : Hid (Below W2.heap.size W2 w5) := hb; clear hb)
      go_ret
      exact ⟨rfl, b3.out.trans (HB5.out.mono b3.out.size)⟩
    | true =>
      rcases HMo.out with hm0 | hm3
      · subst hm0
        rw [ckM_asked _ _ _ _ (.inl rfl)] at HG
        go_wp2_with (first | (go_at_call 54; refine (HSp.out g W2 T2.out r2.out).mono ?_; rintro e w5 ⟨rfl, hb⟩; have HB5 : Hid (Below W2.heap.size W2 w5) := hb; have r5 := HR5.out w5 hb; have d0 := row_cfg r5 k hk; have d1 := row_addr r5 k hk; clear hb r5) | (go_at_call 55; refine (HRt.out k _).mono ?_; rintro e w6 ⟨rfl, hb⟩; have HB6 : Hid (Below W2.heap.size W2 w6) := HB5.out.trans (hb.mono HB5.out.size); clear hb))
        go_ret
        exact ⟨by rw [HG.out]; first | done | rfl, b3.out.trans (HB6.out.mono b3.out.size)⟩
      · subst hm3
        cases hl : lk (PC c k) with
        | true =>
          rw [ckM_asked _ _ _ _ (.inr hl)] at HG
          have HCK : Hid (∀ W, Row W g (ec (PC c) (PA a)) 89 → Calls Tryz.prog 161 #[.pointer (some ⟨g, 0, none⟩), .int .i64 k] W fun e w' => e = .returned (.bool true) ∧ Below W.heap.size W w') := fun W h => by
            have := HCL.out g k W hk h
            rw [hl] at this
            exact this
          clear hl
          go_wp2_with (first | (go_at_call 54; refine (HSp.out g W2 T2.out r2.out).mono ?_; rintro e w5 ⟨rfl, hb⟩; have HB5 : Hid (Below W2.heap.size W2 w5) := hb; clear hb) | (go_at_call 161; refine (HCK.out _ (HR5.out w5 HB5.out)).mono ?_; rintro e w7 ⟨rfl, hb⟩; have HB7 : Hid (Below W2.heap.size W2 w7) := HB5.out.trans (hb.mono HB5.out.size); have r5 := HR5.out w7 HB7.out; have d0 := row_cfg r5 k hk; have d1 := row_addr r5 k hk; clear hb r5) | (go_at_call 55; refine (HRt.out k _).mono ?_; rintro e w6 ⟨rfl, hb⟩; have HB6 : Hid (Below W2.heap.size W2 w6) := HB7.out.trans (hb.mono HB7.out.size); clear hb))
          go_ret
          exact ⟨by rw [HG.out]; first | done | rfl, b3.out.trans (HB6.out.mono b3.out.size)⟩
        | false =>
          rw [ckM_free _ _ _ _ (by rw [hl]; simp)] at HG
          have e9 := HG.out
          subst e9
          have HCK : Hid (∀ W, Row W g (ec (PC c) (PA a)) 89 → Calls Tryz.prog 161 #[.pointer (some ⟨g, 0, none⟩), .int .i64 k] W fun e w' => e = .returned (.bool false) ∧ Below W.heap.size W w') := fun W h => by
            have := HCL.out g k W hk h
            rw [hl] at this
            exact this
          clear hl
          go_wp2_with (first | (go_at_call 54; refine (HSp.out g W2 T2.out r2.out).mono ?_; rintro e w5 ⟨rfl, hb⟩; have HB5 : Hid (Below W2.heap.size W2 w5) := hb; clear hb) | (go_at_call 161; refine (HCK.out _ (HR5.out w5 HB5.out)).mono ?_; rintro e w7 ⟨rfl, hb⟩; have HB7 : Hid (Below W2.heap.size W2 w7) := HB5.out.trans (hb.mono HB5.out.size); clear hb))
          go_ret
          exact ⟨rfl, b3.out.trans (HB7.out.mono b3.out.size)⟩
theorem Check_c (c : Nat → BitVec 8) (a : Nat → BitVec 64) (m : Int) (ad : BitVec 64) (s b : Int) (w : World) (hT : Tb w) :
    Calls Tryz.prog 142 #[.agg (pc c a), .int .i64 m, .int .u64 (n64 ad), .int .i64 s, .int .i64 b] w fun e w' => e = .returned (.bool (ckA (PC c) (PA a) m ad s b)) ∧ Below w.heap.size w w' := by
  by_cases h : ckOk m s b
  · obtain ⟨q, rfl⟩ : ∃ q : Nat, s = q := ⟨s.toNat, by have := h.2.1; omega⟩
    rw [ckA_yes _ _ _ _ _ _ h]
    exact Check_yes c a m ad q b h w hT
  · rw [ckA_no _ _ _ _ _ _ h]
    exact Check_no c a m ad s b h w
end Go.Proofs.YtidfndgedopghaaGreatDoor
