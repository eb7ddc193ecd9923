import Derived.Test.YtlhgphokfpnfeaaGreatDoorK12
import Derived.Test.YtlhgphokfpnfeaaGreatDoorCards
import Derived.Test.YtlhgphokfpnfeaaGreatDoorTie
import Derived.PinnedBridge
import Derived.Lay
import Derived.LaidOnce
import Derived.SevenTiedAt
import Derived.Lib.LaidU8T
namespace Go.Proofs.YtlhgphokfpnfeaaGreatDoor
set_option linter.unusedVariables false
open Go.ChangeShapes Go.WideShapes Go.ChangeAt Go.RowKit Go.Deep
/-- Whether a range has a byte; how many of an access's first k bytes it has. -/
def inR (f l x : BitVec 64) : Bool := decide (n64 f ≤ n64 x) && decide (n64 x ≤ n64 l)
def hcn (f l ad : BitVec 64) : Nat → Nat
  | 0 => 0
  | k + 1 => hcn f l ad k + (if inR f l (ad + BitVec.ofNat 64 k) = true then 1 else 0)
theorem hcn_le (f l ad : BitVec 64) : ∀ k, hcn f l ad k ≤ k
  | 0 => Nat.le_refl _
  | k + 1 => by have := hcn_le f l ad k; rw [hcn]; split <;> omega
theorem ad_add (ad : BitVec 64) (k : Nat) (hk : k < 8) : IntKind.u64.wrap (n64 ad + (k : Int)) = n64 (ad + BitVec.ofNat 64 k) := by
  have e : (k : Int) = n64 (BitVec.ofNat 64 k) := by
    unfold n64; rw [BitVec.toNat_ofNat, Nat.mod_eq_of_lt (by omega)]
  rw [e, n64_add]
/-- How many bytes of an access an entry has. -/
def hn (c : Nat → BitVec 8) (a : Nat → BitVec 64) (ad : BitVec 64) (s : Nat) (k : Nat) : Nat := match spn c a k with | none => 0 | some (f, l) => hcn f l ad s
/-- The first entry from i on, of n, that has one. -/
def mtF (h : Nat → Nat) (s : Nat) : Nat → Nat → Int × Bool
  | 0, _ => (-1, false)
  | n + 1, i => if 0 < h i then ((i : Int), (h i : Int) == (s : Int)) else mtF h s n (i + 1)
def MT (h : Nat → Nat) (s : Nat) : Int × Bool := mtF h s 16 0
set_option maxRecDepth 100000 in
set_option maxHeartbeats 2000000 in
theorem held_c (f l ad : BitVec 64) (s : Nat) (hs : s ≤ 8) (w : World) :
    Calls Tryz.prog 54 #[.agg #[.int .u64 (n64 f), .int .u64 (n64 l)], .int .u64 (n64 ad), .int .i64 s] w fun e w' => e = .returned (.int .i64 (hcn f l ad s : Nat)) ∧ Below w.heap.size w w' := by
  obtain ⟨W0, hW0, r0, b0, s0⟩ := start1 w #[Value.int .u64 (n64 f), .int .u64 (n64 l)] 139
  clear s0
  have c0 : W0.cell? ⟨w.heap.size, 0, none⟩ = some (.int .u64 (n64 f)) := r0.out.cell 0
  have c1 : W0.cell? ⟨w.heap.size, 1, none⟩ = some (.int .u64 (n64 l)) := r0.out.cell 1
  have hs2 : (s : Int) ≤ 8 := by omega
  go_enter Tryz.func54, Tryz.ntmps54
  go_wp2
  clear hW0 r0
  go_loopw [7, 11] (fun n i wr => ∃ k : Nat, k ≤ s ∧ i = .int .i64 k ∧ n = .int .i64 (hcn f l ad k : Nat) ∧ wr = W0) (fun _ i _ => s - (intOf i).toNat)
  case atStart => exact ⟨0, by omega, rfl, rfl, rfl⟩
  case round =>
    obtain ⟨k, hk, rfl, rfl, rfl⟩ := hrel
    by_cases hlt : k < s
    · have hlt2 : (k : Int) < s := by omega
      have HA := ad_add ad k (by omega)
      have hle := hcn_le f l ad k
      have HC : Hid (hcn f l ad (k + 1) = hcn f l ad k + (if inR f l (ad + BitVec.ofNat 64 k) = true then 1 else 0)) := rfl
      generalize hcn f l ad k = q at HC hle ⊢
      generalize ad + BitVec.ofNat 64 k = x at HA HC
      have hq : (q : Int) ≤ 8 := by omega
      by_cases h1 : n64 f ≤ n64 x
      · by_cases h2 : n64 x ≤ n64 l
        · have h3 : hcn f l ad (k + 1) = q + 1 := by rw [HC.out, if_pos (by simp [inR, h1, h2])]
          have H3 : Hid (hcn f l ad (k + 1) = q + 1) := h3
          clear HC h3
          go_wp2
          go_roundw
          case rel => exact ⟨k + 1, by omega, by go_num, by rw [H3.out]; go_num, trivial⟩
          case measure => simp [intOf]; omega
        · have h3 : hcn f l ad (k + 1) = q := by rw [HC.out, if_neg (by simp [inR, h2])]; rfl
          have H3 : Hid (hcn f l ad (k + 1) = q) := h3
          clear HC h3
          go_wp2
          go_roundw
          case rel => exact ⟨k + 1, by omega, by go_num, by rw [H3.out], trivial⟩
          case measure => simp [intOf]; omega
      · have h3 : hcn f l ad (k + 1) = q := by rw [HC.out, if_neg (by simp [inR, h1])]; rfl
        have H3 : Hid (hcn f l ad (k + 1) = q) := h3
        clear HC h3
        go_wp2
        go_roundw
        case rel => exact ⟨k + 1, by omega, by go_num, by rw [H3.out], trivial⟩
        case measure => simp [intOf]; omega
    · obtain rfl : k = s := by omega
      go_wp2
      go_ret
      exact ⟨rfl, b0.out⟩
theorem mtF_hit (h : Nat → Nat) (s n i : Nat) (hi : 0 < h i) : mtF h s (n + 1) i = ((i : Int), (h i : Int) == (s : Int)) := by rw [mtF, if_pos hi]
theorem mtF_miss (h : Nat → Nat) (s n i : Nat) (hi : ¬ 0 < h i) : mtF h s (n + 1) i = mtF h s n (i + 1) := by rw [mtF, if_neg hi]
set_option maxRecDepth 100000 in
set_option maxHeartbeats 2000000 in
theorem match_c (c : Nat → BitVec 8) (a : Nat → BitVec 64) (hA : ∀ j, (a j).toNat < 2 ^ 54) (ad : BitVec 64) (s : Nat) (hs : s ≤ 8) (g : Nat) (w : World) (hT : Tb w) (hg : Row w g (ec c a) 79) :
    Calls Tryz.prog 31 #[.pointer (some ⟨g, 0, none⟩), .int .u64 (n64 ad), .int .i64 s] w fun e w' => e = .returned (.tuple #[.int .i64 (MT (hn c a ad s) s).1, .bool (MT (hn c a ad s) s).2]) ∧ Below w.heap.size w w' := by
  have hlg := hg.lt
  have HG : Hid (Row w g (ec c a) 79) := hg
  have HT : Hid (Tb w) := hT
  have HSp : Hid (∀ (k : Nat), k < 16 → ∀ W, Tb W → Row W g (ec c a) 79 → Calls Tryz.prog 53 #[.pointer (some ⟨g, 0, none⟩), .int .i64 k] W fun e w' => e = .returned (.tuple #[.agg #[.int .u64 (n64 (sF (spn c a k))), .int .u64 (n64 (sL (spn c a k)))], .bool (spn c a k).isSome]) ∧ Below W.heap.size W w') := fun k hk W h1 h2 => espan_c c a hA g k hk W h1 h2
  obtain ⟨m1, hm1⟩ : ∃ m1, m1 = (MT (hn c a ad s) s).1 := ⟨_, rfl⟩
  obtain ⟨m2, hm2⟩ : ∃ m2, m2 = (MT (hn c a ad s) s).2 := ⟨_, rfl⟩
  rw [← hm1, ← hm2]
  have HM : Hid (mtF (hn c a ad s) s 16 0 = (m1, m2)) := by unfold Hid; rw [hm1, hm2]; rfl
  clear hm1 hm2 hg hT hA
  go_enter Tryz.func31, Tryz.ntmps31
  go_wp2
  go_loopw [12] (fun i wr => ∃ k : Nat, k ≤ 16 ∧ i = .int .i64 k ∧ Hid (mtF (hn c a ad s) s (16 - k) k = (m1, m2)) ∧ Hid (Row wr g (ec c a) 79) ∧ Hid (Tb wr) ∧ Hid (Below w.heap.size w wr)) (fun i _ => 16 - (intOf i).toNat)
  case atStart => exact ⟨0, by omega, rfl, HM, HG, HT, Below.refl _ _⟩
  case round =>
    clear HM HG HT
    obtain ⟨k, hk, rfl, hm, h0, h1, hb⟩ := hrel
    by_cases hlt : k < 16
    · have hlt2 : (k : Int) < 16 := by omega
      obtain ⟨n, hn1⟩ : ∃ n, 16 - k = n + 1 := ⟨15 - k, by omega⟩
      have HN : Hid (16 - (k + 1) = n) := by unfold Hid; omega
      rw [hn1] at hm
      have hlw := h0.out.lt
      have hS := HSp.out k hlt wr h1.out h0.out
      have HH : Hid (hn c a ad s k = match spn c a k with | none => 0 | some (f, l) => hcn f l ad s) := rfl
      cases hX : spn c a k with
      | none =>
        rw [hX] at hS HH
        have hmiss := hm.out
        rw [mtF_miss _ _ _ _ (by rw [HH.out]; simp), ← HN.out] at hmiss
        have HMs : Hid (mtF (hn c a ad s) s (16 - (k + 1)) (k + 1) = (m1, m2)) := hmiss
        have HSS : Hid (Calls Tryz.prog 53 #[.pointer (some ⟨g, 0, none⟩), .int .i64 k] wr fun e w' => e = .returned (.tuple #[.agg #[.int .u64 0, .int .u64 0], .bool false]) ∧ Below wr.heap.size wr w') := hS
        clear hmiss hX hS HH hn1 hm
        go_wp2_with (go_at_call 53; refine HSS.out.mono ?_; rintro e w1 ⟨rfl, hb1⟩; have HB1 : Hid (Below wr.heap.size wr w1) := hb1; clear hb1)
        go_roundw
        case rel => exact ⟨k + 1, by omega, by go_num, HMs, (h0.out.later HB1.out hlw).old (Nat.lt_of_lt_of_le hlw HB1.out.size) _, (h1.out.next HB1.out).alloc _, (hb.out.trans (HB1.out.mono hb.out.size)).alloc (Nat.le_trans hb.out.size HB1.out.size) _⟩
        case measure => simp [intOf]; omega
      | some fl =>
        obtain ⟨f, l⟩ := fl
        rw [hX] at hS HH
        have HSS : Hid (Calls Tryz.prog 53 #[.pointer (some ⟨g, 0, none⟩), .int .i64 k] wr fun e w' => e = .returned (.tuple #[.agg #[.int .u64 (n64 f), .int .u64 (n64 l)], .bool true]) ∧ Below wr.heap.size wr w') := hS
        have HHd : Hid (∀ W, Calls Tryz.prog 54 #[.agg #[.int .u64 (n64 f), .int .u64 (n64 l)], .int .u64 (n64 ad), .int .i64 s] W fun e w' => e = .returned (.int .i64 (hn c a ad s k : Nat)) ∧ Below W.heap.size W w') := fun W => by
          rw [HH.out]
          exact held_c f l ad s hs W
        clear hX hS HH
        obtain ⟨q, hq⟩ : ∃ q, q = hn c a ad s k := ⟨_, rfl⟩
        rw [← hq] at HHd
        by_cases hpos : 0 < q
        · have hhit := hm.out
          rw [mtF_hit _ _ _ _ (by rw [← hq]; exact hpos), ← hq] at hhit
          simp only [Prod.mk.injEq] at hhit
          obtain ⟨z1, z2⟩ := hhit
          have Z1 : Hid ((k : Int) = m1) := z1
          have Z2 : Hid (((q : Int) == (s : Int)) = m2) := z2
          have hpos2 : (0 : Int) < q := by omega
          clear z1 z2 hq hm hn1
          go_wp2_with (first | (go_at_call 53; refine HSS.out.mono ?_; rintro e w1 ⟨rfl, hb1⟩; have HB1 : Hid (Below w.heap.size w w1) := hb.out.trans (hb1.mono hb.out.size); clear hb1) | (go_at_call 54; refine (HHd.out _).mono ?_; rintro e w2 ⟨rfl, hb2⟩; have HB2 : Hid (Below w.heap.size w w2) := (HB1.out.alloc HB1.out.size _).trans (hb2.mono (Nat.le_trans HB1.out.size (by simp))); clear hb2))
          go_ret2
          refine ⟨?_, HB2.out⟩
          have y1 := Z1.out
          have y2 := Z2.out
          simp_all
        · have hmiss := hm.out
          rw [mtF_miss _ _ _ _ (by rw [← hq]; exact hpos), ← HN.out] at hmiss
          have HMs : Hid (mtF (hn c a ad s) s (16 - (k + 1)) (k + 1) = (m1, m2)) := hmiss
          obtain rfl : q = 0 := by omega
          have hz : ((0 : Nat) : Int) = 0 := rfl
          rw [hz] at HHd
          clear hmiss hq hm hn1 hpos hz
          go_wp2_with (first | (go_at_call 53; refine HSS.out.mono ?_; rintro e w1 ⟨rfl, hb1⟩; have HB1 : Hid (Below wr.heap.size wr w1) := hb1; clear hb1) | (go_at_call 54; refine (HHd.out _).mono ?_; rintro e w2 ⟨rfl, hb2⟩; have HB2 : Hid (Below wr.heap.size wr w2) := (HB1.out.alloc HB1.out.size _).trans (hb2.mono (Nat.le_trans HB1.out.size (by simp))); clear hb2))
          go_roundw
          case rel => exact ⟨k + 1, by omega, by go_num, HMs, h0.out.later HB2.out hlw, h1.out.next HB2.out, hb.out.trans (HB2.out.mono hb.out.size)⟩
          case measure => simp [intOf]; omega
    · obtain rfl : k = 16 := by omega
      have e16 : ((16 : Nat) : Int) = 16 := rfl
      rw [e16]
      have hq := hm.out
      simp only [Nat.sub_self, mtF, Prod.mk.injEq] at hq
      obtain ⟨z1, z2⟩ := hq
      clear hm hk hlt e16
      subst z1
      subst z2
      go_wp2
      go_ret2
      exact ⟨rfl, hb.out⟩
end Go.Proofs.YtlhgphokfpnfeaaGreatDoor
namespace Go.Proofs.YtlhgphokfpnfeaaGreatDoor
set_option linter.unusedVariables false
open Go.ChangeShapes Go.WideShapes Go.ChangeAt Go.RowKit Go.Deep
theorem mtF_cases (h : Nat → Nat) (s : Nat) : ∀ n i, (mtF h s n i).1 = -1 ∧ (mtF h s n i).2 = false ∨ ∃ k : Nat, k < i + n ∧ (mtF h s n i).1 = (k : Int)
  | 0, i => .inl ⟨rfl, rfl⟩
  | n + 1, i => by
    rw [mtF]
    split
    · exact .inr ⟨i, by omega, rfl⟩
    · rcases mtF_cases h s n (i + 1) with h1 | ⟨k, hk, h1⟩
      · exact .inl h1
      · exact .inr ⟨k, by omega, h1⟩
theorem MT_cases (h : Nat → Nat) (s : Nat) : MT h s = (-1, false) ∨ ∃ (k : Nat) (q : Bool), k < 16 ∧ MT h s = ((k : Int), q) := by
  rcases mtF_cases h s 16 0 with ⟨h1, h2⟩ | ⟨k, hk, h1⟩
  · exact .inl (Prod.ext h1 h2)
  · exact .inr ⟨k, _, by omega, Prod.ext h1 rfl⟩
end Go.Proofs.YtlhgphokfpnfeaaGreatDoor
namespace Go.Proofs.YtlhgphokfpnfeaaGreatDoor
set_option linter.unusedVariables false
open Go.ChangeShapes Go.WideShapes Go.ChangeAt Go.RowKit Go.Deep
/-- Check's answer. -/
def ckOk (m s b : Int) : Prop := (m = 0 ∨ m = 3) ∧ (1 ≤ s ∧ s ≤ 8) ∧ (1 ≤ b ∧ b ≤ 7)
def ckM (c : Nat → BitVec 8) (m : Int) (p : Int × Bool) (b : Int) : Bool := if p.1 < 0 then decide (m = 3) else if p.2 = false then false else if m = 0 ∨ lk (c p.1.toNat) = true then (bits .and .i64 (n8 (rts (c p.1.toNat))) b == b) else true
def ckA (c : Nat → BitVec 8) (a : Nat → BitVec 64) (m : Int) (ad : BitVec 64) (s b : Int) : Bool := if (m = 0 ∨ m = 3) ∧ (1 ≤ s ∧ s ≤ 8) ∧ (1 ≤ b ∧ b ≤ 7) then ckM c m (MT (hn c a ad s.toNat) s.toNat) b else false
theorem ckA_no (c : Nat → BitVec 8) (a : Nat → BitVec 64) (m : Int) (ad : BitVec 64) (s b : Int) (h : ¬ ckOk m s b) : ckA c a m ad s b = false := by unfold ckA; exact if_neg h
theorem ckA_yes (c : Nat → BitVec 8) (a : Nat → BitVec 64) (m : Int) (ad : BitVec 64) (s : Nat) (b : Int) (h : ckOk m s b) : ckA c a m ad s b = ckM c m (MT (hn c a ad s) s) b := by unfold ckA; exact if_pos h
theorem ckM_none (c : Nat → BitVec 8) (m b : Int) : ckM c m (-1, false) b = decide (m = 3) := rfl
theorem ckM_part (c : Nat → BitVec 8) (m b : Int) (k : Nat) : ckM c m ((k : Int), false) b = false := by unfold ckM; rw [if_neg (by show ¬ (k : Int) < 0; omega), if_pos rfl]
theorem ckM_asked (c : Nat → BitVec 8) (m b : Int) (k : Nat) (h : m = 0 ∨ lk (c k) = true) : ckM c m ((k : Int), true) b = (bits .and .i64 (n8 (rts (c k))) b == b) := by unfold ckM; rw [if_neg (by show ¬ (k : Int) < 0; omega), if_neg (by simp)]; exact if_pos h
theorem ckM_free (c : Nat → BitVec 8) (m b : Int) (k : Nat) (h : ¬ (m = 0 ∨ lk (c k) = true)) : ckM c m ((k : Int), true) b = true := by unfold ckM; rw [if_neg (by show ¬ (k : Int) < 0; omega), if_neg (by simp)]; exact if_neg h
set_option maxRecDepth 100000 in
set_option maxHeartbeats 2000000 in
theorem Check_no (c : Nat → BitVec 8) (a : Nat → BitVec 64) (m : Int) (ad : BitVec 64) (s b : Int) (h : ¬ ckOk m s b) (w : World) :
    Calls Tryz.prog 12 #[.agg (pc c a), .int .i64 m, .int .u64 (n64 ad), .int .i64 s, .int .i64 b] w fun e w' => e = .returned (.bool false) ∧ Below w.heap.size w w' := by
  obtain ⟨W0, hW0, r0, b0, s0⟩ := start1 w (pc c a) 27
  have HS : Hid (W0.heap.size = w.heap.size + 1) := s0
  clear s0
  have hM := isMode_c m
  have hZ := isSize_c s
  have hR := isRights_c b
  by_cases h1 : m = 0 ∨ m = 3
  · by_cases h2 : 1 ≤ s ∧ s ≤ 8
    · have h3 : ¬ (1 ≤ b ∧ b ≤ 7) := fun h3 => h ⟨h1, h2, h3⟩
      rw [decide_eq_true h1] at hM
      rw [decide_eq_true h2] at hZ
      rw [decide_eq_false h3] at hR
      have HM : Hid (∀ W, Calls Tryz.prog 27 #[.int .i64 m] W fun e w' => e = .returned (.bool true) ∧ w' = W) := hM
      have HZ : Hid (∀ W, Calls Tryz.prog 28 #[.int .i64 s] W fun e w' => e = .returned (.bool true) ∧ w' = W) := hZ
      have HR : Hid (∀ W, Calls Tryz.prog 29 #[.int .i64 b] W fun e w' => e = .returned (.bool false) ∧ w' = W) := hR
      clear h h1 h2 h3 hM hZ hR
      go_enter Tryz.func12, Tryz.ntmps12
      go_wp2_with (first | (go_at_call 27; refine (HM.out _).mono ?_; rintro e w9 ⟨rfl, hw⟩; have hw2 := hw.symm; subst hw2) | (go_at_call 28; refine (HZ.out _).mono ?_; rintro e w9 ⟨rfl, hw⟩; have hw2 := hw.symm; subst hw2) | (go_at_call 29; refine (HR.out _).mono ?_; rintro e w9 ⟨rfl, hw⟩; have hw2 := hw.symm; subst hw2))
      go_ret
      exact ⟨rfl, b0.out⟩
    · rw [decide_eq_true h1] at hM
      rw [decide_eq_false h2] at hZ
      have HM : Hid (∀ W, Calls Tryz.prog 27 #[.int .i64 m] W fun e w' => e = .returned (.bool true) ∧ w' = W) := hM
      have HZ : Hid (∀ W, Calls Tryz.prog 28 #[.int .i64 s] W fun e w' => e = .returned (.bool false) ∧ w' = W) := hZ
      clear h h1 h2 hM hZ hR
      go_enter Tryz.func12, Tryz.ntmps12
      go_wp2_with (first | (go_at_call 27; refine (HM.out _).mono ?_; rintro e w9 ⟨rfl, hw⟩; have hw2 := hw.symm; subst hw2) | (go_at_call 28; refine (HZ.out _).mono ?_; rintro e w9 ⟨rfl, hw⟩; have hw2 := hw.symm; subst hw2))
      go_ret
      exact ⟨rfl, b0.out⟩
  · rw [decide_eq_false h1] at hM
    have HM : Hid (∀ W, Calls Tryz.prog 27 #[.int .i64 m] W fun e w' => e = .returned (.bool false) ∧ w' = W) := hM
    clear h h1 hM hZ hR
    go_enter Tryz.func12, Tryz.ntmps12
    go_wp2_with ((go_at_call 27; refine (HM.out _).mono ?_; rintro e w9 ⟨rfl, hw⟩; have hw2 := hw.symm; subst hw2))
    go_ret
    exact ⟨rfl, b0.out⟩
set_option maxRecDepth 100000 in
set_option maxHeartbeats 2000000 in
theorem Check_yes (c : Nat → BitVec 8) (a : Nat → BitVec 64) (m : Int) (ad : BitVec 64) (s : Nat) (b : Int) (h : ckOk m s b) (w : World) (hT : Tb w) :
    Calls Tryz.prog 12 #[.agg (pc c a), .int .i64 m, .int .u64 (n64 ad), .int .i64 s, .int .i64 b] w fun e w' => e = .returned (.bool (ckM (PC c) m (MT (hn (PC c) (PA a) ad s) s) b)) ∧ Below w.heap.size w w' := by
  obtain ⟨W0, hW0, r0, b0, s0⟩ := start1 w (pc c a) 27
  have HS : Hid (W0.heap.size = w.heap.size + 1) := s0
  clear s0
  have HT : Hid (Tb w) := hT
  clear hT
  have hM := isMode_c m
  have hZ := isSize_c s
  have hR := isRights_c b
  obtain ⟨h1, h2, h3⟩ := h
  rw [decide_eq_true h1] at hM
  rw [decide_eq_true h2] at hZ
  rw [decide_eq_true h3] at hR
  have HM : Hid (∀ W, Calls Tryz.prog 27 #[.int .i64 m] W fun e w' => e = .returned (.bool true) ∧ w' = W) := hM
  have HZ : Hid (∀ W, Calls Tryz.prog 28 #[.int .i64 s] W fun e w' => e = .returned (.bool true) ∧ w' = W) := hZ
  have HR : Hid (∀ W, Calls Tryz.prog 29 #[.int .i64 b] W fun e w' => e = .returned (.bool true) ∧ w' = W) := hR
  have HSp : Hid (∀ g W, Tb W → Row W g (ec (PC c) (PA a)) 79 → Calls Tryz.prog 31 #[.pointer (some ⟨g, 0, none⟩), .int .u64 (n64 ad), .int .i64 s] W fun e w' => e = .returned (.tuple #[.int .i64 (MT (hn (PC c) (PA a) ad s) s).1, .bool (MT (hn (PC c) (PA a) ad s) s).2]) ∧ Below W.heap.size W w') := fun g W h1 h2 => match_c (PC c) (PA a) (PA_lt a) ad s (by omega) g W h1 h2
  obtain ⟨G, hG⟩ : ∃ G, G = ckM (PC c) m (MT (hn (PC c) (PA a) ad s) s) b := ⟨_, rfl⟩
  rw [← hG]
  have HG : Hid (G = ckM (PC c) m (MT (hn (PC c) (PA a) ad s) s) b) := hG
  have HMo : Hid (m = 0 ∨ m = 3) := h1
  clear hM hZ hR h1 h2 h3 hG
  have HCL : Hid (∀ (g k : Nat) W, k < 16 → Row W g (ec (PC c) (PA a)) 79 → Calls Tryz.prog 32 #[.pointer (some ⟨g, 0, none⟩), .int .i64 k] W fun e w' => e = .returned (.bool (lk (PC c k))) ∧ Below W.heap.size W w') := fun g k W hk h => by
    have := cfgLocked_c (PC c) (PA a) g k W h
    rw [cL_in _ _ hk] at this
    exact this
  have HRt : Hid (∀ (k : Nat) W, Calls Tryz.prog 33 #[.agg #[.int .u8 (n8 (PC c k)), .int .u64 (n64 (PA a k))]] W fun e w' => e = .returned (.int .i64 (n8 (rts (PC c k)))) ∧ Below W.heap.size W w') := fun k W => erights_c _ _ W
  go_enter Tryz.func12, Tryz.ntmps12
  go_upto_region 1 with fail
  clear hW0
  go_upto_region 4 with (first | (refine wpList_load_rowG (by rfl) _ _ (by rfl) _ (by rfl) 27 _ (0, 0) _ r0.out Tryz.underlying27 (by rfl) (by rw [pc_size]; kernel_rfl) ?_) | (go_at_call 27; refine (HM.out _).mono ?_; rintro e w9 ⟨rfl, hw⟩; have hw2 := hw.symm; subst hw2) | (go_at_call 28; refine (HZ.out _).mono ?_; rintro e w9 ⟨rfl, hw⟩; have hw2 := hw.symm; subst hw2) | (go_at_call 29; refine (HR.out _).mono ?_; rintro e w9 ⟨rfl, hw⟩; have hw2 := hw.symm; subst hw2) | (go_at_call 30; refine (of_p c a _).mono ?_; rintro e w1 ⟨rfl, hb1⟩; have HB1 : Hid (Below W0.heap.size W0 w1) := hb1; clear hb1) | (refine wpList_store_new (by rfl) _ _ _ (by rfl) (by rfl) _ _ (by rfl) (by rfl) (by rw [ec_size]; kernel_rfl) (by rw [ec_size]; rfl) (ec_ones _ _) ?_))
  obtain ⟨W2, hW2, r2, b2, s2⟩ := start1 w1 (ec (PC c) (PA a)) 79
  rw [hW2]
  have t1 : Below w.heap.size w w1 := b0.out.trans (HB1.out.mono (by rw [HS.out]; omega))
  have b3 : Hid (Below w.heap.size w W2) := t1.trans (b2.out.mono t1.size)
  have T2 : Hid (Tb W2) := HT.out.next b3.out
  have HGL : Hid (W2.heap.size = w1.heap.size + 1) := s2
  clear t1 s2 b2 hW2 HB1 r0 b0 HS
  generalize w1.heap.size = g at *
  rcases MT_cases (hn (PC c) (PA a) ad s) s with hm | ⟨k, q, hk, hm⟩
  · rw [hm] at HSp HG
    rw [ckM_none] at HG
    clear hm
    go_wp2_with (go_at_call 31; refine (HSp.out g W2 T2.out r2.out).mono ?_; rintro e w5 ⟨rfl, hb⟩; have HB5 : Hid (Below W2.heap.size W2 w5) := hb; clear hb)
    go_ret
    refine ⟨?_, b3.out.trans (HB5.out.mono b3.out.size)⟩
    rw [HG.out]
    rcases HMo.out with rfl | rfl <;> rfl
  · rw [hm] at HSp HG
    clear hm
    have hk2 : (k : Int) < 16 := by omega
    have hk3 : ((k : Int) == -1) = false := by rw [beq_eq_false_iff_ne]; omega
    have HR5 : Hid (∀ W, Below W2.heap.size W2 W → Row W g (ec (PC c) (PA a)) 79) := fun W hb => r2.out.later hb (by rw [HGL.out]; omega)
    cases q with
    | false =>
      rw [ckM_part] at HG
      have e9 := HG.out
      subst e9
      go_wp2_with (go_at_call 31; refine (HSp.out g W2 T2.out r2.out).mono ?_; rintro e w5 ⟨rfl, hb⟩; have HB5 : Hid (Below W2.heap.size W2 w5) := hb; clear hb)
      go_ret
      exact ⟨rfl, b3.out.trans (HB5.out.mono b3.out.size)⟩
    | true =>
      rcases HMo.out with hm0 | hm3
      · subst hm0
        rw [ckM_asked _ _ _ _ (.inl rfl)] at HG
        go_wp2_with (first | (go_at_call 31; refine (HSp.out g W2 T2.out r2.out).mono ?_; rintro e w5 ⟨rfl, hb⟩; have HB5 : Hid (Below W2.heap.size W2 w5) := hb; have r5 := HR5.out w5 hb; have d0 := row_cfg r5 k hk; have d1 := row_addr r5 k hk; clear hb r5) | (go_at_call 33; refine (HRt.out k _).mono ?_; rintro e w6 ⟨rfl, hb⟩; have HB6 : Hid (Below W2.heap.size W2 w6) := HB5.out.trans (hb.mono HB5.out.size); clear hb))
        go_ret
        exact ⟨by rw [HG.out]; first | done | rfl, b3.out.trans (HB6.out.mono b3.out.size)⟩
      · subst hm3
        cases hl : lk (PC c k) with
        | true =>
          rw [ckM_asked _ _ _ _ (.inr hl)] at HG
          have HCK : Hid (∀ W, Row W g (ec (PC c) (PA a)) 79 → Calls Tryz.prog 32 #[.pointer (some ⟨g, 0, none⟩), .int .i64 k] W fun e w' => e = .returned (.bool true) ∧ Below W.heap.size W w') := fun W h => by
            have := HCL.out g k W hk h
            rw [hl] at this
            exact this
          clear hl
          go_wp2_with (first | (go_at_call 31; refine (HSp.out g W2 T2.out r2.out).mono ?_; rintro e w5 ⟨rfl, hb⟩; have HB5 : Hid (Below W2.heap.size W2 w5) := hb; clear hb) | (go_at_call 32; refine (HCK.out _ (HR5.out w5 HB5.out)).mono ?_; rintro e w7 ⟨rfl, hb⟩; have HB7 : Hid (Below W2.heap.size W2 w7) := HB5.out.trans (hb.mono HB5.out.size); have r5 := HR5.out w7 HB7.out; have d0 := row_cfg r5 k hk; have d1 := row_addr r5 k hk; clear hb r5) | (go_at_call 33; refine (HRt.out k _).mono ?_; rintro e w6 ⟨rfl, hb⟩; have HB6 : Hid (Below W2.heap.size W2 w6) := HB7.out.trans (hb.mono HB7.out.size); clear hb))
          go_ret
          exact ⟨by rw [HG.out]; first | done | rfl, b3.out.trans (HB6.out.mono b3.out.size)⟩
        | false =>
          rw [ckM_free _ _ _ _ (by rw [hl]; simp)] at HG
          have e9 := HG.out
          subst e9
          have HCK : Hid (∀ W, Row W g (ec (PC c) (PA a)) 79 → Calls Tryz.prog 32 #[.pointer (some ⟨g, 0, none⟩), .int .i64 k] W fun e w' => e = .returned (.bool false) ∧ Below W.heap.size W w') := fun W h => by
            have := HCL.out g k W hk h
            rw [hl] at this
            exact this
          clear hl
          go_wp2_with (first | (go_at_call 31; refine (HSp.out g W2 T2.out r2.out).mono ?_; rintro e w5 ⟨rfl, hb⟩; have HB5 : Hid (Below W2.heap.size W2 w5) := hb; clear hb) | (go_at_call 32; refine (HCK.out _ (HR5.out w5 HB5.out)).mono ?_; rintro e w7 ⟨rfl, hb⟩; have HB7 : Hid (Below W2.heap.size W2 w7) := HB5.out.trans (hb.mono HB5.out.size); clear hb))
          go_ret
          exact ⟨rfl, b3.out.trans (HB7.out.mono b3.out.size)⟩
theorem Check_c (c : Nat → BitVec 8) (a : Nat → BitVec 64) (m : Int) (ad : BitVec 64) (s b : Int) (w : World) (hT : Tb w) :
    Calls Tryz.prog 12 #[.agg (pc c a), .int .i64 m, .int .u64 (n64 ad), .int .i64 s, .int .i64 b] w fun e w' => e = .returned (.bool (ckA (PC c) (PA a) m ad s b)) ∧ Below w.heap.size w w' := by
  by_cases h : ckOk m s b
  · obtain ⟨q, rfl⟩ : ∃ q : Nat, s = q := ⟨s.toNat, by have := h.2.1; omega⟩
    rw [ckA_yes _ _ _ _ _ _ h]
    exact Check_yes c a m ad q b h w hT
  · rw [ckA_no _ _ _ _ _ _ h]
    exact Check_no c a m ad s b h w
end Go.Proofs.YtlhgphokfpnfeaaGreatDoor
namespace Go.Proofs.YtlhgphokfpnfeaaGreatDoor
set_option linter.unusedVariables false
open Go.ChangeShapes Go.WideShapes Go.ChangeAt Go.RowKit Go.Deep Go.Lib Go.Shelf
theorem tab_eq : (Rows.laid_math_bits_deBruijn64tab : DataW Unit) = tabData .u8 (Lib.deBruijn64tab.map Int.ofNat) := by kernel_rfl
theorem tb_of_reads {W : World} (h : VarReads Tryz.prog W "math/bits.deBruijn64tab" (Rows.laid_math_bits_deBruijn64tab : DataW Unit)) : Tb W := by
  rw [tab_eq] at h
  obtain ⟨g', t', cs, fuel, p, hg', ht', hvar, hd⟩ := h
  obtain rfl := Option.some.inj ((show Tryz.prog.globalNamed "math/bits.deBruijn64tab" = some 0 by kernel_rfl).symm.trans hg')
  obtain rfl := Option.some.inj ((show (Tryz.prog.globals[0]?).map (·.type) = some 182 by kernel_rfl).symm.trans ht')
  have hc := cells_of_tab Tryz.underlying182 Tryz.underlying5 (by kernel_rfl) (by kernel_rfl) hd
  intro j hj
  have hh : ∃ t fr, W.heap[0]? = some (.cells cs t fr) := by
    unfold World.var? at hvar
    rw [hg'] at hvar
    simp only [Option.bind_some] at hvar
    split at hvar
    · rename_i c1 t1 fr1 hq
      simp only [Option.some.injEq] at hvar
      subst hvar
      exact ⟨t1, fr1, hq⟩
    · cases hvar
  obtain ⟨t, fr, hh⟩ := hh
  rw [cell_of_row W 0 j cs t fr hh, ← Array.getElem?_toList, hc, List.getElem?_map, List.getElem?_map, List.getElem?_eq_getElem (show j < Lib.deBruijn64tab.length from hj)]
  simp [List.getD, List.getElem?_eq_getElem (show j < Lib.deBruijn64tab.length from hj)]
end Go.Proofs.YtlhgphokfpnfeaaGreatDoor
