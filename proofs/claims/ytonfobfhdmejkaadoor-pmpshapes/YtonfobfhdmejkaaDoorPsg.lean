/-
  held, match, Match of the program.
-/
import Derived.Test.YtonfobfhdmejkaaDoorPsd
namespace Go.Proofs.YtonfobfhdmejkaaDoor
set_option linter.unusedVariables false
open Go.ChangeShapes Go.WideShapes Go.ChangeAt Go.RowKit Go.Deep
/-- Whether a range has a byte; how many of an access's first k bytes it has. -/
def inR (f l x : BitVec 64) : Bool := decide (n64 f ≤ n64 x) && decide (n64 x ≤ n64 l)
def hcn (f l ad : BitVec 64) : Nat → Nat
  | 0 => 0
  | k + 1 => hcn f l ad k + (if inR f l (ad + BitVec.ofNat 64 k) = true then 1 else 0)
theorem hcn_le (f l ad : BitVec 64) : ∀ k, hcn f l ad k ≤ k
  | 0 => Nat.le_refl _
  | k + 1 => by have := hcn_le f l ad k; rw [hcn]; split <;> omega
theorem ad_add (ad : BitVec 64) (k : Nat) (hk : k < 8) : IntKind.u64.wrap (n64 ad + (k : Int)) = n64 (ad + BitVec.ofNat 64 k) := by
  have e : (k : Int) = n64 (BitVec.ofNat 64 k) := by
    unfold n64; rw [BitVec.toNat_ofNat, Nat.mod_eq_of_lt (by omega)]
  rw [e, n64_add]
/-- How many bytes of an access an entry has. -/
def hn (c : Nat → BitVec 8) (a : Nat → BitVec 64) (ad : BitVec 64) (s : Nat) (k : Nat) : Nat := match spn c a k with | none => 0 | some (f, l) => hcn f l ad s
/-- The first entry from i on, of n, that has one. -/
def mtF (h : Nat → Nat) (s : Nat) : Nat → Nat → Int × Bool
  | 0, _ => (-1, false)
  | n + 1, i => if 0 < h i then ((i : Int), (h i : Int) == (s : Int)) else mtF h s n (i + 1)
def MT (h : Nat → Nat) (s : Nat) : Int × Bool := mtF h s 16 0
set_option maxRecDepth 100000 in
set_option maxHeartbeats 2000000 in
theorem held_c (f l ad : BitVec 64) (s : Nat) (hs : s ≤ 8) (w : World) :
    Calls Tryd.prog 28 #[.agg #[.int .u64 (n64 f), .int .u64 (n64 l)], .int .u64 (n64 ad), .int .i64 s] w fun e w' => e = .returned (.int .i64 (hcn f l ad s : Nat)) ∧ Below w.heap.size w w' := by
  obtain ⟨W0, hW0, r0, b0, s0⟩ := start1 w #[Value.int .u64 (n64 f), .int .u64 (n64 l)] 44
  clear s0
  have c0 : W0.cell? ⟨w.heap.size, 0, none⟩ = some (.int .u64 (n64 f)) := r0.out.cell 0
  have c1 : W0.cell? ⟨w.heap.size, 1, none⟩ = some (.int .u64 (n64 l)) := r0.out.cell 1
  have hs2 : (s : Int) ≤ 8 := by omega
  go_enter Tryd.func28, Tryd.ntmps28
  go_wp2
  clear hW0 r0
  go_loopw [7, 11] (fun n i wr => ∃ k : Nat, k ≤ s ∧ i = .int .i64 k ∧ n = .int .i64 (hcn f l ad k : Nat) ∧ wr = W0) (fun _ i _ => s - (intOf i).toNat)
  case atStart => exact ⟨0, by omega, rfl, rfl, rfl⟩
  case round =>
    obtain ⟨k, hk, rfl, rfl, rfl⟩ := hrel
    by_cases hlt : k < s
    · have hlt2 : (k : Int) < s := by omega
      have HA := ad_add ad k (by omega)
      have hle := hcn_le f l ad k
      have HC : Hid (hcn f l ad (k + 1) = hcn f l ad k + (if inR f l (ad + BitVec.ofNat 64 k) = true then 1 else 0)) := rfl
      generalize hcn f l ad k = q at HC hle ⊢
      generalize ad + BitVec.ofNat 64 k = x at HA HC
      have hq : (q : Int) ≤ 8 := by omega
      by_cases h1 : n64 f ≤ n64 x
      · by_cases h2 : n64 x ≤ n64 l
        · have h3 : hcn f l ad (k + 1) = q + 1 := by rw [HC.out, if_pos (by simp [inR, h1, h2])]
          have H3 : Hid (hcn f l ad (k + 1) = q + 1) := h3
          clear HC h3
          go_wp2
          go_roundw
          case rel => exact ⟨k + 1, by omega, by go_num, by rw [H3.out]; go_num, trivial⟩
          case measure => simp [intOf]; omega
        · have h3 : hcn f l ad (k + 1) = q := by rw [HC.out, if_neg (by simp [inR, h2])]; rfl
          have H3 : Hid (hcn f l ad (k + 1) = q) := h3
          clear HC h3
          go_wp2
          go_roundw
          case rel => exact ⟨k + 1, by omega, by go_num, by rw [H3.out], trivial⟩
          case measure => simp [intOf]; omega
      · have h3 : hcn f l ad (k + 1) = q := by rw [HC.out, if_neg (by simp [inR, h1])]; rfl
        have H3 : Hid (hcn f l ad (k + 1) = q) := h3
        clear HC h3
        go_wp2
        go_roundw
        case rel => exact ⟨k + 1, by omega, by go_num, by rw [H3.out], trivial⟩
        case measure => simp [intOf]; omega
    · obtain rfl : k = s := by omega
      go_wp2
      go_ret
      exact ⟨rfl, b0.out⟩
theorem mtF_hit (h : Nat → Nat) (s n i : Nat) (hi : 0 < h i) : mtF h s (n + 1) i = ((i : Int), (h i : Int) == (s : Int)) := by rw [mtF, if_pos hi]
theorem mtF_miss (h : Nat → Nat) (s n i : Nat) (hi : ¬ 0 < h i) : mtF h s (n + 1) i = mtF h s n (i + 1) := by rw [mtF, if_neg hi]
set_option maxRecDepth 100000 in
set_option maxHeartbeats 2000000 in
theorem match_c (c : Nat → BitVec 8) (a : Nat → BitVec 64) (hA : ∀ j, (a j).toNat < 2 ^ 54) (ad : BitVec 64) (s : Nat) (hs : s ≤ 8) (g : Nat) (w : World) (hT : Tb w) (hg : Row w g (ec c a) 39) :
    Calls Tryd.prog 16 #[.pointer (some ⟨g, 0, none⟩), .int .u64 (n64 ad), .int .i64 s] w fun e w' => e = .returned (.tuple #[.int .i64 (MT (hn c a ad s) s).1, .bool (MT (hn c a ad s) s).2]) ∧ Below w.heap.size w w' := by
  have hlg := hg.lt
  have HG : Hid (Row w g (ec c a) 39) := hg
  have HT : Hid (Tb w) := hT
  have HSp : Hid (∀ (k : Nat), k < 16 → ∀ W, Tb W → Row W g (ec c a) 39 → Calls Tryd.prog 15 #[.pointer (some ⟨g, 0, none⟩), .int .i64 k] W fun e w' => e = .returned (.tuple #[.agg #[.int .u64 (n64 (sF (spn c a k))), .int .u64 (n64 (sL (spn c a k)))], .bool (spn c a k).isSome]) ∧ Below W.heap.size W w') := fun k hk W h1 h2 => espan_c c a hA g k hk W h1 h2
  obtain ⟨m1, hm1⟩ : ∃ m1, m1 = (MT (hn c a ad s) s).1 := ⟨_, rfl⟩
  obtain ⟨m2, hm2⟩ : ∃ m2, m2 = (MT (hn c a ad s) s).2 := ⟨_, rfl⟩
  rw [← hm1, ← hm2]
  have HM : Hid (mtF (hn c a ad s) s 16 0 = (m1, m2)) := by unfold Hid; rw [hm1, hm2]; rfl
  clear hm1 hm2 hg hT hA
  go_enter Tryd.func16, Tryd.ntmps16
  go_wp2
  go_loopw [12] (fun i wr => ∃ k : Nat, k ≤ 16 ∧ i = .int .i64 k ∧ Hid (mtF (hn c a ad s) s (16 - k) k = (m1, m2)) ∧ Hid (Row wr g (ec c a) 39) ∧ Hid (Tb wr) ∧ Hid (Below w.heap.size w wr)) (fun i _ => 16 - (intOf i).toNat)
  case atStart => exact ⟨0, by omega, rfl, HM, HG, HT, Below.refl _ _⟩
  case round =>
    clear HM HG HT
    obtain ⟨k, hk, rfl, hm, h0, h1, hb⟩ := hrel
    by_cases hlt : k < 16
    · have hlt2 : (k : Int) < 16 := by omega
      obtain ⟨n, hn1⟩ : ∃ n, 16 - k = n + 1 := ⟨15 - k, by omega⟩
      have HN : Hid (16 - (k + 1) = n) := by unfold Hid; omega
      rw [hn1] at hm
      have hlw := h0.out.lt
      have hS := HSp.out k hlt wr h1.out h0.out
      have HH : Hid (hn c a ad s k = match spn c a k with | none => 0 | some (f, l) => hcn f l ad s) := rfl
      cases hX : spn c a k with
      | none =>
        rw [hX] at hS HH
        have hmiss := hm.out
        rw [mtF_miss _ _ _ _ (by rw [HH.out]; simp), ← HN.out] at hmiss
        have HMs : Hid (mtF (hn c a ad s) s (16 - (k + 1)) (k + 1) = (m1, m2)) := hmiss
        have HSS : Hid (Calls Tryd.prog 15 #[.pointer (some ⟨g, 0, none⟩), .int .i64 k] wr fun e w' => e = .returned (.tuple #[.agg #[.int .u64 0, .int .u64 0], .bool false]) ∧ Below wr.heap.size wr w') := hS
        clear hmiss hX hS HH hn1 hm
        go_wp2_with (go_at_call 15; refine HSS.out.mono ?_; rintro e w1 ⟨rfl, hb1⟩; have HB1 : Hid (Below wr.heap.size wr w1) := hb1; clear hb1)
        go_roundw
        case rel => exact ⟨k + 1, by omega, by go_num, HMs, (h0.out.later HB1.out hlw).old (Nat.lt_of_lt_of_le hlw HB1.out.size) _, (h1.out.next HB1.out).alloc _, (hb.out.trans (HB1.out.mono hb.out.size)).alloc (Nat.le_trans hb.out.size HB1.out.size) _⟩
        case measure => simp [intOf]; omega
      | some fl =>
        obtain ⟨f, l⟩ := fl
        rw [hX] at hS HH
        have HSS : Hid (Calls Tryd.prog 15 #[.pointer (some ⟨g, 0, none⟩), .int .i64 k] wr fun e w' => e = .returned (.tuple #[.agg #[.int .u64 (n64 f), .int .u64 (n64 l)], .bool true]) ∧ Below wr.heap.size wr w') := hS
        have HHd : Hid (∀ W, Calls Tryd.prog 28 #[.agg #[.int .u64 (n64 f), .int .u64 (n64 l)], .int .u64 (n64 ad), .int .i64 s] W fun e w' => e = .returned (.int .i64 (hn c a ad s k : Nat)) ∧ Below W.heap.size W w') := fun W => by
          rw [HH.out]
          exact held_c f l ad s hs W
        clear hX hS HH
        obtain ⟨q, hq⟩ : ∃ q, q = hn c a ad s k := ⟨_, rfl⟩
        rw [← hq] at HHd
        by_cases hpos : 0 < q
        · have hhit := hm.out
          rw [mtF_hit _ _ _ _ (by rw [← hq]; exact hpos), ← hq] at hhit
          simp only [Prod.mk.injEq] at hhit
          obtain ⟨z1, z2⟩ := hhit
          have Z1 : Hid ((k : Int) = m1) := z1
          have Z2 : Hid (((q : Int) == (s : Int)) = m2) := z2
          have hpos2 : (0 : Int) < q := by omega
          clear z1 z2 hq hm hn1
          go_wp2_with (first | (go_at_call 15; refine HSS.out.mono ?_; rintro e w1 ⟨rfl, hb1⟩; have HB1 : Hid (Below w.heap.size w w1) := hb.out.trans (hb1.mono hb.out.size); clear hb1) | (go_at_call 28; refine (HHd.out _).mono ?_; rintro e w2 ⟨rfl, hb2⟩; have HB2 : Hid (Below w.heap.size w w2) := (HB1.out.alloc HB1.out.size _).trans (hb2.mono (Nat.le_trans HB1.out.size (by simp))); clear hb2))
          go_ret2
          refine ⟨?_, HB2.out⟩
          have y1 := Z1.out
          have y2 := Z2.out
          simp_all
        · have hmiss := hm.out
          rw [mtF_miss _ _ _ _ (by rw [← hq]; exact hpos), ← HN.out] at hmiss
          have HMs : Hid (mtF (hn c a ad s) s (16 - (k + 1)) (k + 1) = (m1, m2)) := hmiss
          obtain rfl : q = 0 := by omega
          have hz : ((0 : Nat) : Int) = 0 := rfl
          rw [hz] at HHd
          clear hmiss hq hm hn1 hpos hz
          go_wp2_with (first | (go_at_call 15; refine HSS.out.mono ?_; rintro e w1 ⟨rfl, hb1⟩; have HB1 : Hid (Below wr.heap.size wr w1) := hb1; clear hb1) | (go_at_call 28; refine (HHd.out _).mono ?_; rintro e w2 ⟨rfl, hb2⟩; have HB2 : Hid (Below wr.heap.size wr w2) := (HB1.out.alloc HB1.out.size _).trans (hb2.mono (Nat.le_trans HB1.out.size (by simp))); clear hb2))
          go_roundw
          case rel => exact ⟨k + 1, by omega, by go_num, HMs, h0.out.later HB2.out hlw, h1.out.next HB2.out, hb.out.trans (HB2.out.mono hb.out.size)⟩
          case measure => simp [intOf]; omega
    · obtain rfl : k = 16 := by omega
      have e16 : ((16 : Nat) : Int) = 16 := rfl
      rw [e16]
      have hq := hm.out
      simp only [Nat.sub_self, mtF, Prod.mk.injEq] at hq
      obtain ⟨z1, z2⟩ := hq
      clear hm hk hlt e16
      subst z1
      subst z2
      go_wp2
      go_ret2
      exact ⟨rfl, hb.out⟩
/-- Match's answer. -/
def mA (c : Nat → BitVec 8) (a : Nat → BitVec 64) (ad : BitVec 64) (i : Int) : Int × Bool := if 1 ≤ i ∧ i ≤ 8 then MT (hn c a ad i.toNat) i.toNat else (-1, false)
theorem mA_in (c : Nat → BitVec 8) (a : Nat → BitVec 64) (ad : BitVec 64) (s : Nat) (h1 : 1 ≤ s) (h8 : s ≤ 8) : mA c a ad s = MT (hn c a ad s) s := by unfold mA; rw [if_pos (by omega)]; rfl
theorem mA_out (c : Nat → BitVec 8) (a : Nat → BitVec 64) (ad : BitVec 64) (i : Int) (h : ¬ (1 ≤ i ∧ i ≤ 8)) : mA c a ad i = (-1, false) := by unfold mA; rw [if_neg h]
def mtV (p : Int × Bool) : Value := .tuple #[.int .i64 p.1, .bool p.2]
end Go.Proofs.YtonfobfhdmejkaaDoor
