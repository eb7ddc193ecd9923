import Derived.Test.YtddlmenfcbjoaaaGreatDoorK12
import Derived.Test.YtddlmenfcbjoaaaGreatDoorTie
import Derived.Test.YtddlmenfcbjoaaaGreatDoorCards
import Derived.PinnedBridge
import Derived.Lay
import Derived.LaidOnce
import Derived.SevenTiedAt
import Derived.Lib.LaidU8T
namespace Go.Proofs.YtddlmenfcbjoaaaGreatDoor
set_option linter.unusedVariables false
set_option maxRecDepth 100000
set_option maxHeartbeats 8000000
open Go.ChangeShapes Go.WideShapes Go.ChangeAt Go.RowKit Go.Deep _root_.Go.Proofs.Tryz
def inR (f l x : BitVec 64) : Bool := decide (n64 f ≤ n64 x) && decide (n64 x ≤ n64 l)
def hcn (f l ad : BitVec 64) : Nat → Nat
 | 0 => 0
 | k + 1 => hcn f l ad k + (if inR f l (ad + BitVec.ofNat 64 k) = true then 1 else 0)
theorem IF (f l ad : BitVec 64) : ∀ k, hcn f l ad k ≤ k
 | 0 => ZqE _
 | k + 1 => by have := IF f l ad k; rw [hcn]; split <;> omega
theorem UR (ad : BitVec 64) (k : Nat) (hk : k < 8) : IntKind.u64.wrap (n64 ad + (k : Int)) = n64 (ad + BitVec.ofNat 64 k) := by
 have e : (k : Int) = n64 (BitVec.ofNat 64 k) := by
  unfold n64; rw [ZqR, ZqV (by omega)]
 rw [e, dA]
def hn (c : Nat → BitVec 8) (a : Nat → BitVec 64) (ad : BitVec 64) (s : Nat) (k : Nat) : Nat := match spn c a k with | none => 0 | some (f, l) => hcn f l ad s
def mtF (h : Nat → Nat) (s : Nat) : Nat → Nat → Int × Bool
 | 0, _ => (-1, false)
 | n + 1, i => if 0 < h i then ((i : Int), (h i : Int) == (s : Int)) else mtF h s n (i + 1)
def MT (h : Nat → Nat) (s : Nat) : Int × Bool := mtF h s 16 0
theorem YG (f l ad : BitVec 64) (s : Nat) (hs : s ≤ 8) (w : World) :
  Calls prog 237 #[.agg #[.int .u64 (n64 f), .int .u64 (n64 l)], .int .u64 (n64 ad), .int .i64 s] w fun e w' => e = .returned (.int .i64 (hcn f l ad s : Nat)) ∧ Below w.heap.size w w' := by
 obtain ⟨W0, hW0, r0, b0, s0⟩ := cT w #[Value.int .u64 (n64 f), .int .u64 (n64 l)] 237
 clear s0
 have c0 : W0.cell? ⟨w.heap.size, 0, none⟩ = some (.int .u64 (n64 f)) := r0.out.cell 0
 have c1 : W0.cell? ⟨w.heap.size, 1, none⟩ = some (.int .u64 (n64 l)) := r0.out.cell 1
 have hs2 : (s : Int) ≤ 8 := by omega
 go_enter func237, ntmps237
 go_wp2
 clear hW0 r0
 go_loopw [7, 11] (fun n i wr => ∃ k : Nat, k ≤ s ∧ i = .int .i64 k ∧ n = .int .i64 (hcn f l ad k : Nat) ∧ wr = W0) (fun _ i _ => s - (intOf i).toNat)
 case atStart => exact ⟨0, by omega, rfl, rfl, rfl⟩
 case round =>
  obtain ⟨k, hk, rfl, rfl, rfl⟩ := hrel
  by_cases hlt : k < s
  ·have hlt2 : (k : Int) < s := by omega
   have HA := UR ad k (by omega)
   have hle := IF f l ad k
   have HC : Hid (hcn f l ad (k + 1) = hcn f l ad k + (if inR f l (ad + BitVec.ofNat 64 k) = true then 1 else 0)) := rfl
   generalize hcn f l ad k = q at HC hle ⊢
   generalize ad + BitVec.ofNat 64 k = x at HA HC
   have hq : (q : Int) ≤ 8 := by omega
   by_cases h1 : n64 f ≤ n64 x
   ·by_cases h2 : n64 x ≤ n64 l
    ·have h3 : hcn f l ad (k + 1) = q + 1 := by rw [HC.out, if_pos (by simp [inR, h1, h2])]
     have H3 := hid h3
     clear HC h3
     go_wp2
     go_roundw
     case rel => exact ⟨k + 1, by omega, by go_num, by rw [H3.out]; go_num, trivial⟩
     case measure => simp [intOf]; omega
    ·have h3 : hcn f l ad (k + 1) = q := by rw [HC.out, if_neg (by simp [inR, h2])]; rfl
     have H3 := hid h3
     clear HC h3
     go_wp2
     go_roundw
     case rel => exact ⟨k + 1, by omega, by go_num, by rw [H3.out], trivial⟩
     case measure => simp [intOf]; omega
   ·have h3 : hcn f l ad (k + 1) = q := by rw [HC.out, if_neg (by simp [inR, h1])]; rfl
    have H3 := hid h3
    clear HC h3
    go_wp2
    go_roundw
    case rel => exact ⟨k + 1, by omega, by go_num, by rw [H3.out], trivial⟩
    case measure => simp [intOf]; omega
  ·obtain rfl : k = s := by omega
   go_wp2
   go_ret
   exact ⟨rfl, b0.out⟩
theorem PW (h : Nat → Nat) (s n i : Nat) (hi : 0 < h i) : mtF h s (n + 1) i = ((i : Int), (h i : Int) == (s : Int)) := by rw [mtF, if_pos hi]
theorem wD (h : Nat → Nat) (s n i : Nat) (hi : ¬ 0 < h i) : mtF h s (n + 1) i = mtF h s n (i + 1) := by rw [mtF, if_neg hi]
theorem PU (c : Nat → BitVec 8) (a : Nat → BitVec 64) (hA : ∀ j, (a j).toNat < 2 ^ 54) (ad : BitVec 64) (s : Nat) (hs : s ≤ 8) (g : Nat) (w : World) (hT : Tb w) (hg : Row w g (ec c a) 118) :
  Calls prog 229 #[.pointer (some ⟨g, 0, none⟩), .int .u64 (n64 ad), .int .i64 s] w fun e w' => e = .returned (.tuple #[.int .i64 (MT (hn c a ad s) s).1, .bool (MT (hn c a ad s) s).2]) ∧ Below w.heap.size w w' := by
 have hlg := hg.lt
 have HG := hid hg
 have HT := hid hT
 have HSp : Hid (∀ (k : Nat), k < 16 → ∀ W, Tb W → Row W g (ec c a) 118 → Calls prog 236 #[.pointer (some ⟨g, 0, none⟩), .int .i64 k] W fun e w' => e = .returned (.tuple #[.agg #[.int .u64 (n64 (sF (spn c a k))), .int .u64 (n64 (sL (spn c a k)))], .bool (spn c a k).isSome]) ∧ Below W.heap.size W w') := fun k hk W h1 h2 => OV c a hA g k hk W h1 h2
 obtain ⟨m1, hm1⟩ : ∃ m1, m1 = (MT (hn c a ad s) s).1 := ⟨_, rfl⟩
 obtain ⟨m2, hm2⟩ : ∃ m2, m2 = (MT (hn c a ad s) s).2 := ⟨_, rfl⟩
 rw [← hm1, ← hm2]
 have HM : Hid (mtF (hn c a ad s) s 16 0 = (m1, m2)) := by unfold Hid; rw [hm1, hm2]; rfl
 clear hm1 hm2 hg hT hA
 go_enter func229, ntmps229
 go_wp2
 go_loopw [12] (fun i wr => ∃ k : Nat, k ≤ 16 ∧ i = .int .i64 k ∧ Hid (mtF (hn c a ad s) s (16 - k) k = (m1, m2)) ∧ Hid (Row wr g (ec c a) 118) ∧ Hid (Tb wr) ∧ Hid (Below w.heap.size w wr)) (fun i _ => 16 - (intOf i).toNat)
 case atStart => exact ⟨0, by omega, rfl, HM, HG, HT, ZqD _ _⟩
 case round =>
  clear HM HG HT
  obtain ⟨k, hk, rfl, hm, h0, h1, hb⟩ := hrel
  by_cases hlt : k < 16
  ·have hlt2 : (k : Int) < 16 := by omega
   obtain ⟨n, hn1⟩ : ∃ n, 16 - k = n + 1 := ⟨15 - k, by omega⟩
   have HN : Hid (16 - (k + 1) = n) := by unfold Hid; omega
   rw [hn1] at hm
   have hlw := h0.out.lt
   have hS := HSp.out k hlt wr h1.out h0.out
   have HH : Hid (hn c a ad s k = match spn c a k with | none => 0 | some (f, l) => hcn f l ad s) := rfl
   cases hX : spn c a k with
   | none =>
    rw [hX] at hS HH
    have hmiss := hm.out
    rw [wD _ _ _ _ (by rw [HH.out]; simp), ← HN.out] at hmiss
    have HMs : Hid (mtF (hn c a ad s) s (16 - (k + 1)) (k + 1) = (m1, m2)) := hmiss
    have HSS : Hid (Calls prog 236 #[.pointer (some ⟨g, 0, none⟩), .int .i64 k] wr fun e w' => e = .returned (.tuple #[.agg #[.int .u64 0, .int .u64 0], .bool false]) ∧ Below wr.heap.size wr w') := hS
    clear hmiss hX hS HH hn1 hm
    go_wp2_with (go_at_call 236; refine HSS.out.mono ?_; rintro e w1 ⟨rfl, hb1⟩; have HB1 := hid hb1; clear hb1)
    go_roundw
    case rel => exact ⟨k + 1, by omega, by go_num, HMs, (h0.out.later HB1.out hlw).old (ZqS hlw HB1.out.size) _, (h1.out.next HB1.out).alloc _, (hb.out.trans (HB1.out.mono hb.out.size)).alloc (ZqO hb.out.size HB1.out.size) _⟩
    case measure => simp [intOf]; omega
   | some fl =>
    obtain ⟨f, l⟩ := fl
    rw [hX] at hS HH
    have HSS : Hid (Calls prog 236 #[.pointer (some ⟨g, 0, none⟩), .int .i64 k] wr fun e w' => e = .returned (.tuple #[.agg #[.int .u64 (n64 f), .int .u64 (n64 l)], .bool true]) ∧ Below wr.heap.size wr w') := hS
    have HHd : Hid (∀ W, Calls prog 237 #[.agg #[.int .u64 (n64 f), .int .u64 (n64 l)], .int .u64 (n64 ad), .int .i64 s] W fun e w' => e = .returned (.int .i64 (hn c a ad s k : Nat)) ∧ Below W.heap.size W w') := fun W => by
     rw [HH.out]
     exact YG f l ad s hs W
    clear hX hS HH
    obtain ⟨q, hq⟩ : ∃ q, q = hn c a ad s k := ⟨_, rfl⟩
    rw [← hq] at HHd
    by_cases hpos : 0 < q
    ·have hhit := hm.out
     rw [PW _ _ _ _ (by rw [← hq]; exact hpos), ← hq] at hhit
     simp only [Prod.mk.injEq] at hhit
     obtain ⟨z1, z2⟩ := hhit
     have Z1 := hid z1
     have Z2 := hid z2
     have hpos2 : (0 : Int) < q := by omega
     clear z1 z2 hq hm hn1
     go_wp2_with (first | (go_at_call 236; refine HSS.out.mono ?_; rintro e w1 ⟨rfl, hb1⟩; have HB1 : Hid (Below w.heap.size w w1) := hb.out.trans (hb1.mono hb.out.size); clear hb1) | (go_at_call 237; refine (HHd.out _).mono ?_; rintro e w2 ⟨rfl, hb2⟩; have HB2 : Hid (Below w.heap.size w w2) := (HB1.out.alloc HB1.out.size _).trans (hb2.mono (ZqO HB1.out.size (by simp))); clear hb2))
     go_ret2
     refine ⟨?_, HB2.out⟩
     have y1 := Z1.out
     have y2 := Z2.out
     simp_all
    ·have hmiss := hm.out
     rw [wD _ _ _ _ (by rw [← hq]; exact hpos), ← HN.out] at hmiss
     have HMs : Hid (mtF (hn c a ad s) s (16 - (k + 1)) (k + 1) = (m1, m2)) := hmiss
     obtain rfl : q = 0 := by omega
     have hz : ((0 : Nat) : Int) = 0 := rfl
     rw [hz] at HHd
     clear hmiss hq hm hn1 hpos hz
     go_wp2_with (first | (go_at_call 236; refine HSS.out.mono ?_; rintro e w1 ⟨rfl, hb1⟩; have HB1 := hid hb1; clear hb1) | (go_at_call 237; refine (HHd.out _).mono ?_; rintro e w2 ⟨rfl, hb2⟩; have HB2 : Hid (Below wr.heap.size wr w2) := (HB1.out.alloc HB1.out.size _).trans (hb2.mono (ZqO HB1.out.size (by simp))); clear hb2))
     go_roundw
     case rel => exact ⟨k + 1, by omega, by go_num, HMs, h0.out.later HB2.out hlw, h1.out.next HB2.out, hb.out.trans (HB2.out.mono hb.out.size)⟩
     case measure => simp [intOf]; omega
  ·obtain rfl : k = 16 := by omega
   have e16 : ((16 : Nat) : Int) = 16 := rfl
   rw [e16]
   have hq := hm.out
   simp only [Nat.sub_self, mtF, Prod.mk.injEq] at hq
   obtain ⟨z1, z2⟩ := hq
   clear hm hk hlt e16
   subst z1
   subst z2
   go_wp2
   go_ret2
   exact ⟨rfl, hb.out⟩
theorem sP (h : Nat → Nat) (s : Nat) : ∀ n i, (mtF h s n i).1 = -1 ∧ (mtF h s n i).2 = false ∨ ∃ k : Nat, k < i + n ∧ (mtF h s n i).1 = (k : Int)
 | 0, i => .inl ⟨rfl, rfl⟩
 | n + 1, i => by
  rw [mtF]
  split
  ·exact .inr ⟨i, by omega, rfl⟩
  ·rcases sP h s n (i + 1) with h1 | ⟨k, hk, h1⟩
   ·exact .inl h1
   ·exact .inr ⟨k, by omega, h1⟩
theorem EL (h : Nat → Nat) (s : Nat) : MT h s = (-1, false) ∨ ∃ (k : Nat) (q : Bool), k < 16 ∧ MT h s = ((k : Int), q) := by
 rcases sP h s 16 0 with ⟨h1, h2⟩ | ⟨k, hk, h1⟩
 ·exact .inl (Prod.ext h1 h2)
 ·exact .inr ⟨k, _, by omega, Prod.ext h1 rfl⟩
def FR (m s b : Int) : Prop := (m = 0 ∨ m = 3) ∧ (1 ≤ s ∧ s ≤ 8) ∧ (1 ≤ b ∧ b ≤ 7)
def ckM (c : Nat → BitVec 8) (m : Int) (p : Int × Bool) (b : Int) : Bool := if p.1 < 0 then decide (m = 3) else if p.2 = false then false else if m = 0 ∨ lk (c p.1.toNat) = true then (bits .and .i64 (n8 (rts (c p.1.toNat))) b == b) else true
def ckA (c : Nat → BitVec 8) (a : Nat → BitVec 64) (m : Int) (ad : BitVec 64) (s b : Int) : Bool := if (m = 0 ∨ m = 3) ∧ (1 ≤ s ∧ s ≤ 8) ∧ (1 ≤ b ∧ b ≤ 7) then ckM c m (MT (hn c a ad s.toNat) s.toNat) b else false
theorem VS (c : Nat → BitVec 8) (a : Nat → BitVec 64) (m : Int) (ad : BitVec 64) (s b : Int) (h : ¬ FR m s b) : ckA c a m ad s b = false := by unfold ckA; exact if_neg h
theorem OK (c : Nat → BitVec 8) (a : Nat → BitVec 64) (m : Int) (ad : BitVec 64) (s : Nat) (b : Int) (h : FR m s b) : ckA c a m ad s b = ckM c m (MT (hn c a ad s) s) b := by unfold ckA; exact if_pos h
theorem FP (c : Nat → BitVec 8) (m b : Int) : ckM c m (-1, false) b = decide (m = 3) := rfl
theorem FQ (c : Nat → BitVec 8) (m b : Int) (k : Nat) : ckM c m ((k : Int), false) b = false := by unfold ckM; rw [if_neg (by show ¬ (k : Int) < 0; omega), if_pos rfl]
theorem rY (c : Nat → BitVec 8) (m b : Int) (k : Nat) (h : m = 0 ∨ lk (c k) = true) : ckM c m ((k : Int), true) b = (bits .and .i64 (n8 (rts (c k))) b == b) := by unfold ckM; rw [if_neg (by show ¬ (k : Int) < 0; omega), if_neg (by simp)]; exact if_pos h
theorem FO (c : Nat → BitVec 8) (m b : Int) (k : Nat) (h : ¬ (m = 0 ∨ lk (c k) = true)) : ckM c m ((k : Int), true) b = true := by unfold ckM; rw [if_neg (by show ¬ (k : Int) < 0; omega), if_neg (by simp)]; exact if_neg h
theorem EK (c : Nat → BitVec 8) (a : Nat → BitVec 64) (m : Int) (ad : BitVec 64) (s b : Int) (h : ¬ FR m s b) (w : World) :
  Calls prog 218 #[.agg (pc c a), .int .i64 m, .int .u64 (n64 ad), .int .i64 s, .int .i64 b] w fun e w' => e = .returned (.bool false) ∧ Below w.heap.size w w' := by
 obtain ⟨W0, hW0, r0, b0, s0⟩ := cT w (pc c a) 27
 have HS := hid s0
 clear s0
 have hM := vQ m
 have hZ := vR s
 have hR := qA b
 by_cases h1 : m = 0 ∨ m = 3
 ·by_cases h2 : 1 ≤ s ∧ s ≤ 8
  ·have h3 : ¬ (1 ≤ b ∧ b ≤ 7) := fun h3 => h ⟨h1, h2, h3⟩
   rw [decide_eq_true h1] at hM
   rw [decide_eq_true h2] at hZ
   rw [decide_eq_false h3] at hR
   have HM : Hid (∀ W, Calls prog 226 #[.int .i64 m] W fun e w' => e = .returned (.bool true) ∧ w' = W) := hM
   have HZ : Hid (∀ W, Calls prog 227 #[.int .i64 s] W fun e w' => e = .returned (.bool true) ∧ w' = W) := hZ
   have HR : Hid (∀ W, Calls prog 228 #[.int .i64 b] W fun e w' => e = .returned (.bool false) ∧ w' = W) := hR
   clear h h1 h2 h3 hM hZ hR
   go_enter func218, ntmps218
   go_wp2_with (first | (go_at_call 226; refine (HM.out _).mono ?_; rintro e w9 ⟨rfl, hw⟩; have hw2 := hw.symm; subst hw2) | (go_at_call 227; refine (HZ.out _).mono ?_; rintro e w9 ⟨rfl, hw⟩; have hw2 := hw.symm; subst hw2) | (go_at_call 228; refine (HR.out _).mono ?_; rintro e w9 ⟨rfl, hw⟩; have hw2 := hw.symm; subst hw2))
   go_ret
   exact ⟨rfl, b0.out⟩
  ·rw [decide_eq_true h1] at hM
   rw [decide_eq_false h2] at hZ
   have HM : Hid (∀ W, Calls prog 226 #[.int .i64 m] W fun e w' => e = .returned (.bool true) ∧ w' = W) := hM
   have HZ : Hid (∀ W, Calls prog 227 #[.int .i64 s] W fun e w' => e = .returned (.bool false) ∧ w' = W) := hZ
   clear h h1 h2 hM hZ hR
   go_enter func218, ntmps218
   go_wp2_with (first | (go_at_call 226; refine (HM.out _).mono ?_; rintro e w9 ⟨rfl, hw⟩; have hw2 := hw.symm; subst hw2) | (go_at_call 227; refine (HZ.out _).mono ?_; rintro e w9 ⟨rfl, hw⟩; have hw2 := hw.symm; subst hw2))
   go_ret
   exact ⟨rfl, b0.out⟩
 ·rw [decide_eq_false h1] at hM
  have HM : Hid (∀ W, Calls prog 226 #[.int .i64 m] W fun e w' => e = .returned (.bool false) ∧ w' = W) := hM
  clear h h1 hM hZ hR
  go_enter func218, ntmps218
  go_wp2_with ((go_at_call 226; refine (HM.out _).mono ?_; rintro e w9 ⟨rfl, hw⟩; have hw2 := hw.symm; subst hw2))
  go_ret
  exact ⟨rfl, b0.out⟩
theorem BV (c : Nat → BitVec 8) (a : Nat → BitVec 64) (m : Int) (ad : BitVec 64) (s : Nat) (b : Int) (h : FR m s b) (w : World) (hT : Tb w) :
  Calls prog 218 #[.agg (pc c a), .int .i64 m, .int .u64 (n64 ad), .int .i64 s, .int .i64 b] w fun e w' => e = .returned (.bool (ckM (PC c) m (MT (hn (PC c) (PA a) ad s) s) b)) ∧ Below w.heap.size w w' := by
 obtain ⟨W0, hW0, r0, b0, s0⟩ := cT w (pc c a) 27
 have HS := hid s0
 clear s0
 have HT := hid hT
 clear hT
 have hM := vQ m
 have hZ := vR s
 have hR := qA b
 obtain ⟨h1, h2, h3⟩ := h
 rw [decide_eq_true h1] at hM
 rw [decide_eq_true h2] at hZ
 rw [decide_eq_true h3] at hR
 have HM : Hid (∀ W, Calls prog 226 #[.int .i64 m] W fun e w' => e = .returned (.bool true) ∧ w' = W) := hM
 have HZ : Hid (∀ W, Calls prog 227 #[.int .i64 s] W fun e w' => e = .returned (.bool true) ∧ w' = W) := hZ
 have HR : Hid (∀ W, Calls prog 228 #[.int .i64 b] W fun e w' => e = .returned (.bool true) ∧ w' = W) := hR
 have HSp : Hid (∀ g W, Tb W → Row W g (ec (PC c) (PA a)) 118 → Calls prog 229 #[.pointer (some ⟨g, 0, none⟩), .int .u64 (n64 ad), .int .i64 s] W fun e w' => e = .returned (.tuple #[.int .i64 (MT (hn (PC c) (PA a) ad s) s).1, .bool (MT (hn (PC c) (PA a) ad s) s).2]) ∧ Below W.heap.size W w') := fun g W h1 h2 => PU (PC c) (PA a) (PA_lt a) ad s (by omega) g W h1 h2
 obtain ⟨G, hG⟩ : ∃ G, G = ckM (PC c) m (MT (hn (PC c) (PA a) ad s) s) b := ⟨_, rfl⟩
 rw [← hG]
 have HG := hid hG
 have HMo := hid h1
 clear hM hZ hR h1 h2 h3 hG
 have HCL : Hid (∀ (g k : Nat) W, k < 16 → Row W g (ec (PC c) (PA a)) 118 → Calls prog 174 #[.pointer (some ⟨g, 0, none⟩), .int .i64 k] W fun e w' => e = .returned (.bool (lk (PC c k))) ∧ Below W.heap.size W w') := fun g k W hk h => by
  have := kU (PC c) (PA a) g k W h
  rw [zW _ _ hk] at this
  exact this
 have HRt : Hid (∀ (k : Nat) W, Calls prog 230 #[.agg #[.int .u8 (n8 (PC c k)), .int .u64 (n64 (PA a k))]] W fun e w' => e = .returned (.int .i64 (n8 (rts (PC c k)))) ∧ Below W.heap.size W w') := fun k W => CP _ _ W
 go_enter func218, ntmps218
 go_upto_region 1 with fail
 clear hW0
 go_upto_region 4 with (first | (refine bA (by rfl) _ _ (by rfl) _ (by rfl) 27 _ (0, 0) _ r0.out underlying27 (by rfl) (by rw [bK]; kernel_rfl) ?_) | (go_at_call 226; refine (HM.out _).mono ?_; rintro e w9 ⟨rfl, hw⟩; have hw2 := hw.symm; subst hw2) | (go_at_call 227; refine (HZ.out _).mono ?_; rintro e w9 ⟨rfl, hw⟩; have hw2 := hw.symm; subst hw2) | (go_at_call 228; refine (HR.out _).mono ?_; rintro e w9 ⟨rfl, hw⟩; have hw2 := hw.symm; subst hw2) | (go_at_call 41; refine (DH c a _).mono ?_; rintro e w1 ⟨rfl, hb1⟩; have HB1 := hid hb1; clear hb1) | (refine aK (by rfl) _ _ _ (by rfl) (by rfl) _ _ (by rfl) (by rfl) (by rw [cV]; kernel_rfl) (by rw [cV]; rfl) (jW _ _) ?_))
 obtain ⟨W2, hW2, r2, b2, s2⟩ := cT w1 (ec (PC c) (PA a)) 118
 rw [hW2]
 have t1 : Below w.heap.size w w1 := b0.out.trans (HB1.out.mono (by rw [HS.out]; omega))
 have b3 : Hid (Below w.heap.size w W2) := t1.trans (b2.out.mono t1.size)
 have T2 : Hid (Tb W2) := HT.out.next b3.out
 have HGL := hid s2
 clear t1 s2 b2 hW2 HB1 r0 b0 HS
 generalize w1.heap.size = g at *
 rcases EL (hn (PC c) (PA a) ad s) s with hm | ⟨k, q, hk, hm⟩
 ·rw [hm] at HSp HG
  rw [FP] at HG
  clear hm
  go_wp2_with (go_at_call 229; refine (HSp.out g W2 T2.out r2.out).mono ?_; rintro e w5 ⟨rfl, hb⟩; have HB5 := hid hb; clear hb)
  go_ret
  refine ⟨?_, b3.out.trans (HB5.out.mono b3.out.size)⟩
  rw [HG.out]
  rcases HMo.out with rfl | rfl <;> rfl
 ·rw [hm] at HSp HG
  clear hm
  have hk2 : (k : Int) < 16 := by omega
  have hk3 : ((k : Int) == -1) = false := by rw [beq_eq_false_iff_ne]; omega
  have HR5 : Hid (∀ W, Below W2.heap.size W2 W → Row W g (ec (PC c) (PA a)) 118) := fun W hb => r2.out.later hb (by rw [HGL.out]; omega)
  cases q with
  | false =>
   rw [FQ] at HG
   have e9 := HG.out
   subst e9
   go_wp2_with (go_at_call 229; refine (HSp.out g W2 T2.out r2.out).mono ?_; rintro e w5 ⟨rfl, hb⟩; have HB5 := hid hb; clear hb)
   go_ret
   exact ⟨rfl, b3.out.trans (HB5.out.mono b3.out.size)⟩
  | true =>
   rcases HMo.out with hm0 | hm3
   ·subst hm0
    rw [rY _ _ _ _ (.inl rfl)] at HG
    go_wp2_with (first | (go_at_call 229; refine (HSp.out g W2 T2.out r2.out).mono ?_; rintro e w5 ⟨rfl, hb⟩; have HB5 := hid hb; have r5 := HR5.out w5 hb; have d0 := kG r5 k hk; have d1 := fZ r5 k hk; clear hb r5) | (go_at_call 230; refine (HRt.out k _).mono ?_; rintro e w6 ⟨rfl, hb⟩; have HB6 : Hid (Below W2.heap.size W2 w6) := HB5.out.trans (hb.mono HB5.out.size); clear hb))
    go_ret
    exact ⟨by rw [HG.out]; first | done | rfl, b3.out.trans (HB6.out.mono b3.out.size)⟩
   ·subst hm3
    cases hl : lk (PC c k) with
    | true =>
     rw [rY _ _ _ _ (.inr hl)] at HG
     have HCK : Hid (∀ W, Row W g (ec (PC c) (PA a)) 118 → Calls prog 174 #[.pointer (some ⟨g, 0, none⟩), .int .i64 k] W fun e w' => e = .returned (.bool true) ∧ Below W.heap.size W w') := fun W h => by
      have := HCL.out g k W hk h
      rw [hl] at this
      exact this
     clear hl
     go_wp2_with (first | (go_at_call 229; refine (HSp.out g W2 T2.out r2.out).mono ?_; rintro e w5 ⟨rfl, hb⟩; have HB5 := hid hb; clear hb) | (go_at_call 174; refine (HCK.out _ (HR5.out w5 HB5.out)).mono ?_; rintro e w7 ⟨rfl, hb⟩; have HB7 : Hid (Below W2.heap.size W2 w7) := HB5.out.trans (hb.mono HB5.out.size); have r5 := HR5.out w7 HB7.out; have d0 := kG r5 k hk; have d1 := fZ r5 k hk; clear hb r5) | (go_at_call 230; refine (HRt.out k _).mono ?_; rintro e w6 ⟨rfl, hb⟩; have HB6 : Hid (Below W2.heap.size W2 w6) := HB7.out.trans (hb.mono HB7.out.size); clear hb))
     go_ret
     exact ⟨by rw [HG.out]; first | done | rfl, b3.out.trans (HB6.out.mono b3.out.size)⟩
    | false =>
     rw [FO _ _ _ _ (by rw [hl]; simp)] at HG
     have e9 := HG.out
     subst e9
     have HCK : Hid (∀ W, Row W g (ec (PC c) (PA a)) 118 → Calls prog 174 #[.pointer (some ⟨g, 0, none⟩), .int .i64 k] W fun e w' => e = .returned (.bool false) ∧ Below W.heap.size W w') := fun W h => by
      have := HCL.out g k W hk h
      rw [hl] at this
      exact this
     clear hl
     go_wp2_with (first | (go_at_call 229; refine (HSp.out g W2 T2.out r2.out).mono ?_; rintro e w5 ⟨rfl, hb⟩; have HB5 := hid hb; clear hb) | (go_at_call 174; refine (HCK.out _ (HR5.out w5 HB5.out)).mono ?_; rintro e w7 ⟨rfl, hb⟩; have HB7 : Hid (Below W2.heap.size W2 w7) := HB5.out.trans (hb.mono HB5.out.size); clear hb))
     go_ret
     exact ⟨rfl, b3.out.trans (HB7.out.mono b3.out.size)⟩
theorem MX (c : Nat → BitVec 8) (a : Nat → BitVec 64) (m : Int) (ad : BitVec 64) (s b : Int) (w : World) (hT : Tb w) :
  Calls prog 218 #[.agg (pc c a), .int .i64 m, .int .u64 (n64 ad), .int .i64 s, .int .i64 b] w fun e w' => e = .returned (.bool (ckA (PC c) (PA a) m ad s b)) ∧ Below w.heap.size w w' := by
 by_cases h : FR m s b
 ·obtain ⟨q, rfl⟩ : ∃ q : Nat, s = q := ⟨s.toNat, by have := h.2.1; omega⟩
  rw [OK _ _ _ _ _ _ h]
  exact BV c a m ad q b h w hT
 ·rw [VS _ _ _ _ _ _ h]
  exact EK c a m ad s b h w
def VF (x : Nat → Nat) : Nat → Nat
 | 0 => 0
 | k + 1 => VF x k + x k * 256 ^ k
theorem ES (x : Nat → Nat) (hx : ∀ j, x j < 256) : ∀ k, VF x k < 256 ^ k
 | 0 => by simp [VF]
 | k + 1 => by
  have := ES x hx k
  have h := hx k
  have h2 : x k * 256 ^ k ≤ 255 * 256 ^ k := Nat.mul_le_mul_right _ (by omega)
  rw [VF, Nat.pow_succ]
  omega
def cby (c : Nat → BitVec 8) (f : Nat) : Nat → Nat := fun j => (c (f + j)).toNat
theorem FL (c : Nat → BitVec 8) (f j : Nat) : cby c f j < 256 := (c (f + j)).isLt
def vD (c : Nat → BitVec 8) (f : Nat) : Int := ((VF (cby c f) 8 : Nat) : Int)
theorem QH (x : Nat → Nat) (hx : ∀ j, x j < 256) (k : Nat) (hk : k < 8) : bits .or .u64 ((VF x k : Nat) : Int) (IntKind.u64.wrap (((x k : Nat) : Int) * 2 ^ (8 * k))) = ((VF x (k + 1) : Nat) : Int) := by
 have h1 := ES x hx k
 have hp : (256 : Nat) ^ k = 2 ^ (8 * k) := by rw [show (256 : Nat) = 2 ^ 8 from rfl, ← Nat.pow_mul]
 have h2 : x k * 256 ^ k ≤ 255 * 256 ^ k := Nat.mul_le_mul_right _ (by have := hx k; omega)
 have h3 : 256 * 256 ^ k ≤ 18446744073709551616 := by
  rw [show 256 * 256 ^ k = 256 ^ (k + 1) by rw [Nat.pow_succ, Nat.mul_comm]]
  exact ZqO (Nat.pow_le_pow_right (by omega) (show k + 1 ≤ 8 by omega)) (by decide)
 have e1 : IntKind.u64.wrap (((x k : Nat) : Int) * 2 ^ (8 * k)) = ((x k * 256 ^ k : Nat) : Int) := by
  rw [hp] at h2 h3 ⊢
  rw [show (((x k : Nat) : Int) * 2 ^ (8 * k)) = ((x k * 2 ^ (8 * k) : Nat) : Int) by push_cast; rfl, IntKind.wrap_u64]
  omega
 rw [e1]
 have e2 : bits .or .u64 ((VF x k : Nat) : Int) ((x k * 256 ^ k : Nat) : Int) = ((VF x k ||| x k * 256 ^ k : Nat) : Int) := by
  have a1 : ((VF x k : Nat) : Int) = n64 (BitVec.ofNat 64 (VF x k)) := by unfold n64; rw [ZqR, ZqV (by omega)]
  have a2 : ((x k * 256 ^ k : Nat) : Int) = n64 (BitVec.ofNat 64 (x k * 256 ^ k)) := by unfold n64; rw [ZqR, ZqV (by omega)]
  rw [a1, a2, hU]
  unfold n64
  rw [BitVec.toNat_or, ZqR, ZqR, ZqV (by omega), ZqV (by omega)]
 rw [e2, VF]
 congr 1
 rw [hp] at h1 ⊢
 have := Nat.two_pow_add_eq_or_of_lt h1 (x k)
 rw [Nat.or_comm, Nat.mul_comm (x k), ← this, Nat.add_comm]
theorem EJ (c : Nat → BitVec 8) (a : Nat → BitVec 64) (i : Int) (h0 : ¬ i = 0) (h2 : ¬ i = 2) (w : World) :
  Calls prog 150 #[.agg (pc c a), .int .i64 i] w fun e w' => e = .returned (.int .u64 0) ∧ Below w.heap.size w w' := by
 obtain ⟨W0, hW0, r0, b0, s0⟩ := cT w (pc c a) 27
 clear s0
 have HF : Hid (∀ W, Calls prog 173 #[.int .i64 i] W fun e w' => e = .returned (.tuple #[.int .i64 0, .bool false]) ∧ w' = W) := fun W => sK i h0 h2 W
 clear h0 h2
 go_enter func150, ntmps150
 go_wp2_with (go_at_call 173; refine (HF.out _).mono ?_; rintro e w1 ⟨rfl, hw⟩; have hw2 := hw.symm; subst hw2)
 go_ret
 exact ⟨rfl, b0.out⟩
theorem EI (c : Nat → BitVec 8) (a : Nat → BitVec 64) (i : Int) (f : Nat) (hf : f ≤ 8) (hF : ∀ W, Calls prog 173 #[.int .i64 i] W fun e w' => e = .returned (.tuple #[.int .i64 f, .bool true]) ∧ w' = W) (w : World) :
  Calls prog 150 #[.agg (pc c a), .int .i64 i] w fun e w' => e = .returned (.int .u64 (vD (PC c) f)) ∧ Below w.heap.size w w' := by
 obtain ⟨W0, hW0, r0, b0, s0⟩ := cT w (pc c a) 27
 have HS := hid s0
 clear s0
 have HF := hid hF
 clear hF
 go_enter func150, ntmps150
 go_upto_region 1 with fail
 clear hW0
 go_upto_region 6 with (first | (go_at_call 173; refine (HF.out _).mono ?_; rintro e w1 ⟨rfl, hw⟩; have hw2 := hw.symm; subst hw2) | (refine bA (by rfl) _ _ (by rfl) _ (by rfl) 27 _ (0, 0) _ r0.out underlying27 (by rfl) (by rw [bK]; kernel_rfl) ?_) | (go_at_call 41; refine (DH c a _).mono ?_; rintro e w1 ⟨rfl, hb1⟩; have HB1 := hid hb1; clear hb1) | (refine aK (by rfl) _ _ _ (by rfl) (by rfl) _ _ (by rfl) (by rfl) (by rw [cV]; kernel_rfl) (by rw [cV]; rfl) (jW _ _) ?_))
 obtain ⟨W2, hW2, r2, b2, s2⟩ := cT w1 (ec (PC c) (PA a)) 118
 rw [hW2]
 have t1 : Below w.heap.size w w1 := b0.out.trans (HB1.out.mono (by rw [HS.out]; omega))
 have b3 : Hid (Below w.heap.size w W2) := t1.trans (b2.out.mono t1.size)
 clear t1 s2 b2 hW2 HB1 r0 b0 HS HF
 generalize w1.heap.size = g at *
 go_wp2
 go_loopw [8, 19] (fun v i wr => ∃ k : Nat, k ≤ 8 ∧ i = .int .i64 k ∧ v = .int .u64 ((VF (cby (PC c) f) k : Nat) : Int) ∧ wr = W2) (fun _ i _ => 8 - (intOf i).toNat)
 case atStart => exact ⟨0, by omega, rfl, rfl, rfl⟩
 case round =>
  obtain ⟨k, hk, rfl, rfl, rfl⟩ := hrel
  by_cases hlt : k < 8
  ·have hlt2 : (k : Int) < 8 := by omega
   have c0 := kG r2.out (f + k) (by omega)
   have hf2 : (f : Int) + k < 16 := by omega
   have HO := QH (cby (PC c) f) (FL _ _) k hlt
   have HO2 : Hid (bits .or .u64 ((VF (cby (PC c) f) k : Nat) : Int) (IntKind.u64.wrap (n8 (PC c (f + k)) * 2 ^ (8 * k))) = ((VF (cby (PC c) f) (k + 1) : Nat) : Int)) := HO
   clear HO
   generalize ((VF (cby (PC c) f) k : Nat) : Int) = v0 at *
   go_wp2
   go_roundw
   case rel =>
    refine ⟨k + 1, by omega, by go_num, ?_, trivial⟩
    rw [show IntKind.u64.wrap (n8 (PC c (f + k))) = n8 (PC c (f + k)) by rw [IntKind.wrap_u64]; have := TU (PC c (f + k)); have := TT (PC c (f + k)); omega, HO2.out]
   case measure => simp [intOf]; omega
  ·obtain rfl : k = 8 := by omega
   have e8 : ((8 : Nat) : Int) = 8 := rfl
   rw [e8]
   clear hk hlt e8
   have hV : ((VF (cby (PC c) f) 8 : Nat) : Int) = vD (PC c) f := rfl
   rw [hV]
   clear hV
   go_wp2
   go_ret
   exact ⟨rfl, b3.out⟩
theorem Cfg_0 (c : Nat → BitVec 8) (a : Nat → BitVec 64) (w : World) : Calls prog 150 #[.agg (pc c a), .int .i64 0] w fun e w' => e = .returned (.int .u64 (vD (PC c) 0)) ∧ Below w.heap.size w w' :=
 EI c a 0 0 (by omega) sI w
theorem Cfg_2 (c : Nat → BitVec 8) (a : Nat → BitVec 64) (w : World) : Calls prog 150 #[.agg (pc c a), .int .i64 2] w fun e w' => e = .returned (.int .u64 (vD (PC c) 8)) ∧ Below w.heap.size w w' :=
 EI c a 2 8 (by omega) sJ w
def pO (c : Nat → BitVec 8) (i : Int) : Int := if i = 0 then vD c 0 else if i = 2 then vD c 8 else 0
theorem Cfg_c (c : Nat → BitVec 8) (a : Nat → BitVec 64) (i : Int) (w : World) : Calls prog 150 #[.agg (pc c a), .int .i64 i] w fun e w' => e = .returned (.int .u64 (pO (PC c) i)) ∧ Below w.heap.size w w' := by
 by_cases h0 : i = 0
 ·subst h0; rw [pO, if_pos rfl]; exact Cfg_0 c a w
 ·by_cases h2 : i = 2
  ·subst h2; rw [pO, if_neg h0, if_pos rfl]; exact Cfg_2 c a w
  ·rw [pO, if_neg h0, if_neg h2]; exact EJ c a i h0 h2 w
def sA (c : Nat → BitVec 8) (a : Nat → BitVec 64) (i : Int) (v : BitVec 64) : Nat → BitVec 64 := if aL c i then a else upd a i.toNat (pad v)
theorem EU {c : Nat → BitVec 8} {i : Int} (h : aL c i = false) : 0 ≤ i ∧ i < 16 := by
 by_cases hi : 0 ≤ i ∧ i < 16
 ·exact hi
 ·rw [EV _ _ hi] at h; cases h
theorem BW (c : Nat → BitVec 8) (a : Nat → BitVec 64) (i : Int) (v : BitVec 64) (w : World) :
  Calls prog 152 #[.agg (pc c a), .int .i64 i, .int .u64 (n64 v)] w fun e w' => e = .returned (.agg (pc (PC c) (sA (PC c) (PA a) i v))) ∧ Below w.heap.size w w' := by
 obtain ⟨W0, hW0, r0, r1, b0, s0⟩ := cN w (pc c a) pz 27 27
 have HS := hid s0
 clear s0
 obtain ⟨a', ha'⟩ : ∃ a', a' = sA (PC c) (PA a) i v := ⟨_, rfl⟩
 rw [← ha']
 have HA' : Hid (a' = sA (PC c) (PA a) i v) := ha'
 clear ha'
 have hca : Hid (∀ (g : Nat) (W : World), Row W g (ec (PC c) (PA a)) 118 → Calls prog 175 #[.pointer (some ⟨g, 0, none⟩), .int .i64 i] W fun e w' => e = .returned (.bool (aL (PC c) i)) ∧ Below W.heap.size W w') := fun g W h => tD _ _ g i W h
 go_enter func152, ntmps152
 go_upto_region 1 with fail
 rw [nA, ← pz, hW0]
 clear hW0
 go_upto_region 2 with (first | (refine bA (by rfl) _ _ (by rfl) _ (by rfl) 27 _ (0, 0) _ r0.out underlying27 (by rfl) (by rw [bK]; kernel_rfl) ?_) | (go_at_call 41; refine (DH c a _).mono ?_; rintro e w1 ⟨rfl, hb1⟩; have HB1 := hid hb1; clear hb1) | (refine aK (by rfl) _ _ _ (by rfl) (by rfl) _ _ (by rfl) (by rfl) (by rw [cV]; kernel_rfl) (by rw [cV]; rfl) (jW _ _) ?_))
 obtain ⟨W2, hW2, r2, b2, s2⟩ := cT w1 (ec (PC c) (PA a)) 118
 rw [hW2]
 have t1 : Below w.heap.size w w1 := b0.out.trans (HB1.out.mono (by rw [HS.out]; omega))
 have hgs : w.heap.size + 2 ≤ w1.heap.size := by have := HB1.out.size; rw [HS.out] at this; exact this
 have b3 : Hid (Below w.heap.size w W2) := t1.trans (b2.out.mono t1.size)
 have r3 : Hid (Row W2 (w.heap.size + 1) pz 27) := (r1.out.later HB1.out (by rw [HS.out]; omega)).later b2.out (by omega)
 have HGL : Hid (w.heap.size + 2 ≤ w1.heap.size ∧ W2.heap.size = w1.heap.size + 1) := ⟨hgs, s2⟩
 clear t1 s2 b2 hW2 HB1 r0 b0 HS r1 hgs
 generalize w1.heap.size = g at *
 cases hl : aL (PC c) i with
 | true =>
  rw [hl] at hca
  have e9 : a' = PA a := by rw [HA'.out, sA, if_pos hl]
  subst e9
  clear hl
  go_wp2_with (first | (go_at_call 175; refine (hca.out g W2 r2.out).mono ?_; rintro e w4 ⟨rfl, hb⟩; have HB4 := hid hb; clear hb) | (go_at_call 42; refine (qZ (PC c) (PA a) g w4 (r2.out.later HB4.out (by have := HGL.out.1; rw [HGL.out.2]; omega))).mono ?_; rintro e w5 ⟨rfl, hb⟩; have HB5 : Hid (Below W2.heap.size W2 w5) := HB4.out.trans (hb.mono HB4.out.size); clear hb) | (refine aA (by rfl) _ _ _ (by rfl) (by rfl) _ _ _ (by rfl) (by rfl) (r3.out.later HB5.out (by have := HGL.out.1; rw [HGL.out.2]; omega)) (by rw [bK]; kernel_rfl) (by rw [bK, nB]) (gN _ _) ?_))
  have h9 : Row w5 (w.heap.size + 1) pz 27 := r3.out.later HB5.out (by have := HGL.out.1; rw [HGL.out.2]; omega)
  refine ZqH (v := .agg (pc (PC c) (PA a))) ?_ rfl ⟨rfl, ?_⟩
  ·exact ZqM results152 _ _ (w.heap.size + 1) 27 _ (0, 0) _ (by rfl) (ZqW _ _ _ _ _ _ h9) underlying27 (by rfl) (by rw [bK]; kernel_rfl)
  ·exact aW (b3.out.trans (HB5.out.mono (by have := HGL.out.1; rw [HGL.out.2]; omega))) (by omega) _
 | false =>
  rw [hl] at hca
  obtain ⟨h0, h16⟩ := EU hl
  obtain ⟨k, rfl⟩ : ∃ k : Nat, i = k := ⟨i.toNat, by omega⟩
  have hk : k < 16 := by omega
  have e9 : a' = upd (PA a) k (pad v) := by rw [HA'.out, sA, if_neg (by rw [hl]; simp)]; rfl
  have HE9 : Hid (ec (PC c) a' = (ec (PC c) (PA a)).setIfInBounds (k * 2 + 1) (.int .u64 (n64 (pad v)))) := by rw [AC _ _ _ _ hk, e9]; rfl
  clear hl h0 e9 HA'
  have hp := AO v
  have HR : Hid (∀ W, Below W2.heap.size W2 W → Row W g (ec (PC c) (PA a)) 118) := fun W hb => r2.out.later hb (by rw [HGL.out.2]; omega)
  go_wp2_with (first | (go_at_call 175; refine (hca.out g W2 r2.out).mono ?_; rintro e w4 ⟨rfl, hb⟩; have HB4 := hid hb; have r4 := HR.out w4 hb; have R4 : Hid (Row w4 g (ec (PC c) (PA a)) 118) := r4; have c4 := fZ r4 k hk; have f4 := r4.froz (k * 2 + 1); clear hb r4) | (go_at_call 42; refine (qZ (PC c) a' g _ (by rw [HE9.out]; exact Row.put R4.out _)).mono ?_; rintro e w5 ⟨rfl, hb⟩; have HB5 : Hid (Below g W2 w5) := (aM (i := k * 2 + 1) (HB4.out.mono (by rw [HGL.out.2]; omega)) (ZqE g) (.int .u64 (n64 (pad v)))).trans (hb.mono (by have := HB4.out.size; rw [HGL.out.2] at this; simp [World.setCell]; omega)); clear hb) | (refine aA (by rfl) _ _ _ (by rfl) (by rfl) _ _ _ (by rfl) (by rfl) (r3.out.later HB5.out (by have := HGL.out.1; omega)) (by rw [bK]; kernel_rfl) (by rw [bK, nB]) (gN _ _) ?_))
  have h9 : Row w5 (w.heap.size + 1) pz 27 := r3.out.later HB5.out (by have := HGL.out.1; omega)
  refine ZqH (v := .agg (pc (PC c) a')) ?_ rfl ⟨rfl, ?_⟩
  ·exact ZqM results152 _ _ (w.heap.size + 1) 27 _ (0, 0) _ (by rfl) (ZqW _ _ _ _ _ _ h9) underlying27 (by rfl) (by rw [bK]; kernel_rfl)
  ·exact aW (b3.out.trans (HB5.out.mono (by have := HGL.out.1; omega))) (by omega) _
def bty (v : BitVec 64) (k : Nat) : BitVec 8 := (v >>> (8 * k)).setWidth 8
theorem NV (v : BitVec 64) (k : Nat) : IntKind.u8.wrap (n64 v / 2 ^ (8 * k)) = n8 (bty v k) := by
 rw [kA, uK]
 congr 1
def sC (c : Nat → BitVec 8) (f : Nat) (v : BitVec 64) : Nat → BitVec 8 := fun j => if f ≤ j ∧ j < f + 8 ∧ lk (c j) = false then pcl (bty v (j - f)) else c j
def sR (c : Nat → BitVec 8) (i : Int) (v : BitVec 64) : Nat → BitVec 8 := if i = 0 then sC c 0 v else if i = 2 then sC c 8 v else c
theorem ZH (c : Nat → BitVec 8) (f : Nat) (v : BitVec 64) : eW (f + 8) (sC c f v) c = sC c f v := by
 funext j; unfold eW
 split
 ·rfl
 ·unfold sC; rw [if_neg (by omega)]
theorem LC (c : Nat → BitVec 8) (f : Nat) (v : BitVec 64) : eW (f + 0) (sC c f v) c = c := by
 funext j; unfold eW
 split
 ·unfold sC; rw [if_neg (by omega)]
 ·rfl
theorem DP (c : Nat → BitVec 8) (f k : Nat) (v : BitVec 64) (h : lk (c (f + k)) = true) : eW (f + (k + 1)) (sC c f v) c = eW (f + k) (sC c f v) c := by
 funext j; unfold eW
 by_cases e : j = f + k
 ·subst e
  rw [if_pos (by omega), if_neg (by omega), sC, if_neg (by rw [h]; simp)]
 ·by_cases h1 : j < f + k
  ·rw [if_pos (by omega), if_pos h1]
  ·rw [if_neg (by omega), if_neg h1]
theorem RJ (c : Nat → BitVec 8) (f k : Nat) (hk : k < 8) (v : BitVec 64) (h : lk (c (f + k)) = false) : upd (eW (f + k) (sC c f v) c) (f + k) (pcl (bty v k)) = eW (f + (k + 1)) (sC c f v) c := by
 have := jQ (f + k) (sC c f v) c
 rw [show f + (k + 1) = f + k + 1 by omega, ← this]
 congr 1
 rw [sC, if_pos ⟨by omega, by omega, h⟩, Nat.add_sub_cancel_left]
theorem uT (c : Nat → BitVec 8) (a : Nat → BitVec 64) (i : Int) (v : BitVec 64) (h0 : ¬ i = 0) (h2 : ¬ i = 2) (w : World) :
  Calls prog 151 #[.agg (pc c a), .int .i64 i, .int .u64 (n64 v)] w fun e w' => e = .returned (.agg (pc (PC c) (PA a))) ∧ Below w.heap.size w w' := by
 obtain ⟨W0, hW0, r0, r1, b0, s0⟩ := cN w (pc c a) pz 27 27
 have HS := hid s0
 clear s0
 have HF : Hid (∀ W, Calls prog 173 #[.int .i64 i] W fun e w' => e = .returned (.tuple #[.int .i64 0, .bool false]) ∧ w' = W) := fun W => sK i h0 h2 W
 clear h0 h2
 go_enter func151, ntmps151
 go_upto_region 1 with fail
 rw [nA, ← pz, hW0]
 clear hW0
 go_wp2_with (first | (refine bA (by rfl) _ _ (by rfl) _ (by rfl) 27 _ (0, 0) _ r0.out underlying27 (by rfl) (by rw [bK]; kernel_rfl) ?_) | (go_at_call 41; refine (DH c a _).mono ?_; rintro e w1 ⟨rfl, hb1⟩; have HB1 := hid hb1; clear hb1) | (go_at_call 173; refine (HF.out _).mono ?_; rintro e w9 ⟨rfl, hw⟩; have hw2 := hw.symm; subst hw2) | (go_at_call 42; refine (qZ (PC c) (PA a) _ _ (Row.new _ _ _)).mono ?_; rintro e w2 ⟨rfl, hb2⟩; have HB2 : Hid (Below w1.heap.size w1 w2) := (Below.alloc (ZqD _ _) (ZqE _) _).trans (hb2.mono (by simp)); clear hb2) | (refine aA (by rfl) _ _ _ (by rfl) (by rfl) _ _ _ (by rfl) (by rfl) ((r1.out.later HB1.out (by rw [HS.out]; omega)).later HB2.out (ZqS (by rw [HS.out]; omega) HB1.out.size)) (by rw [bK]; kernel_rfl) (by rw [bK, nB]) (gN _ _) ?_) | (refine aK (by rfl) _ _ _ (by rfl) (by rfl) _ _ (by rfl) (by rfl) (by rw [cV]; kernel_rfl) (by rw [cV]; rfl) (jW _ _) ?_))
 have h9 : Row w2 (w.heap.size + 1) pz 27 := (r1.out.later HB1.out (by rw [HS.out]; omega)).later HB2.out (ZqS (by rw [HS.out]; omega) HB1.out.size)
 refine ZqH (v := .agg (pc (PC c) (PA a))) ?_ rfl ⟨rfl, ?_⟩
 ·exact ZqM results151 _ _ (w.heap.size + 1) 27 _ (0, 0) _ (by rfl) (ZqW _ _ _ _ _ _ h9) underlying27 (by rfl) (by rw [bK]; kernel_rfl)
 ·exact aW ((b0.out.trans (HB1.out.mono (by rw [HS.out]; omega))).trans (HB2.out.mono (ZqO (by rw [HS.out]; omega) HB1.out.size))) (by omega) _
theorem rW (c : Nat → BitVec 8) (a : Nat → BitVec 64) (i : Int) (v : BitVec 64) (f : Nat) (hf : f ≤ 8) (hF : ∀ W, Calls prog 173 #[.int .i64 i] W fun e w' => e = .returned (.tuple #[.int .i64 f, .bool true]) ∧ w' = W) (w : World) :
  Calls prog 151 #[.agg (pc c a), .int .i64 i, .int .u64 (n64 v)] w fun e w' => e = .returned (.agg (pc (sC (PC c) f v) (PA a))) ∧ Below w.heap.size w w' := by
 obtain ⟨W0, hW0, r0, r1, b0, s0⟩ := cN w (pc c a) pz 27 27
 have HS := hid s0
 clear s0
 have HF := hid hF
 clear hF
 go_enter func151, ntmps151
 go_upto_region 1 with fail
 rw [nA, ← pz, hW0]
 clear hW0
 go_upto_region 2 with (first | (refine bA (by rfl) _ _ (by rfl) _ (by rfl) 27 _ (0, 0) _ r0.out underlying27 (by rfl) (by rw [bK]; kernel_rfl) ?_) | (go_at_call 41; refine (DH c a _).mono ?_; rintro e w1 ⟨rfl, hb1⟩; have HB1 := hid hb1; clear hb1) | (refine aK (by rfl) _ _ _ (by rfl) (by rfl) _ _ (by rfl) (by rfl) (by rw [cV]; kernel_rfl) (by rw [cV]; rfl) (jW _ _) ?_))
 obtain ⟨W2, hW2, r2, b2, s2⟩ := cT w1 (ec (PC c) (PA a)) 118
 rw [hW2]
 have t1 : Below w.heap.size w w1 := b0.out.trans (HB1.out.mono (by rw [HS.out]; omega))
 have hgs : w.heap.size + 2 ≤ w1.heap.size := by have := HB1.out.size; rw [HS.out] at this; exact this
 have b3 : Hid (Below w.heap.size w W2) := t1.trans (b2.out.mono t1.size)
 have r3 : Hid (Row W2 (w.heap.size + 1) pz 27) := (r1.out.later HB1.out (by rw [HS.out]; omega)).later b2.out (by omega)
 have HGL := hid hgs
 clear t1 s2 b2 hW2 HB1 r0 b0 HS r1 hgs
 generalize w1.heap.size = g at *
 go_wp2_with (go_at_call 173; refine (HF.out _).mono ?_; rintro e w9 ⟨rfl, hw⟩; have hw2 := hw.symm; subst hw2)
 go_loopw [21] (fun i wr => ∃ k : Nat, k ≤ 8 ∧ i = .int .i64 k ∧ Hid (Row wr g (ec (eW (f + k) (sC (PC c) f v) (PC c)) (PA a)) 118) ∧ Hid (Row wr (w.heap.size + 1) pz 27) ∧ Hid (Below w.heap.size w wr)) (fun i _ => 8 - (intOf i).toNat)
 case atStart => exact ⟨0, by omega, rfl, by rw [LC]; exact r2, r3, b3⟩
 case round =>
  clear r2 r3 b3
  obtain ⟨k, hk, rfl, h0, h1, hb⟩ := hrel
  have HG := HGL.out
  by_cases hlt : k < 8
  ·have hlt2 : (k : Int) < 8 := by omega
   have hf2 : (f : Int) + k < 16 := by omega
   have hfn : f + k < 16 := by omega
   have hlg := h0.out.lt
   have eL : cL (eW (f + k) (sC (PC c) f v) (PC c)) ((f : Int) + k) = lk (PC c (f + k)) := by
    have := zW (eW (f + k) (sC (PC c) f v) (PC c)) (f + k) hfn
    rw [show (((f + k : Nat) : Int)) = (f : Int) + k by omega] at this
    rw [this, eW, if_neg (by omega)]
   have hc := kU (eW (f + k) (sC (PC c) f v) (PC c)) (PA a) g ((f : Int) + k) wr h0.out
   rw [eL] at hc
   clear eL
   cases hl : lk (PC c (f + k)) with
   | true =>
    rw [hl] at hc
    have HC : Hid (Calls prog 174 #[.pointer (some ⟨g, 0, none⟩), .int .i64 ((f : Int) + k)] wr fun e w' => e = .returned (.bool true) ∧ Below wr.heap.size wr w') := hc
    have HE : Hid (eW (f + (k + 1)) (sC (PC c) f v) (PC c) = eW (f + k) (sC (PC c) f v) (PC c)) := DP _ _ _ _ hl
    clear hc hl
    go_wp2_with (go_at_call 174; refine HC.out.mono ?_; rintro e w4 ⟨rfl, hb4⟩; have HB4 := hid hb4; clear hb4)
    go_roundw
    case rel =>
     exact ⟨k + 1, by omega, by go_num, by rw [HE.out]; exact h0.out.later HB4.out hlg, h1.out.later HB4.out (by omega), hb.out.trans (HB4.out.mono hb.out.size)⟩
    case measure => simp [intOf]; omega
   | false =>
    rw [hl] at hc
    have HC : Hid (Calls prog 174 #[.pointer (some ⟨g, 0, none⟩), .int .i64 ((f : Int) + k)] wr fun e w' => e = .returned (.bool false) ∧ Below wr.heap.size wr w') := hc
    have HE : Hid (upd (eW (f + k) (sC (PC c) f v) (PC c)) (f + k) (pcl (bty v k)) = eW (f + (k + 1)) (sC (PC c) f v) (PC c)) := RJ _ _ _ hlt _ hl
    clear hc hl
    have hby := NV v k
    go_wp2_with (first | (go_at_call 174; refine HC.out.mono ?_; rintro e w4 ⟨rfl, hb4⟩; have HB4 := hid hb4; have r4 := h0.out.later hb4 hlg; have R4 : Hid (Row w4 g (ec (eW (f + k) (sC (PC c) f v) (PC c)) (PA a)) 118) := r4; have c4 := kG r4 (f + k) hfn; have f4 := r4.froz ((f + k) * 2); clear hb4 r4) | (go_at_call 57; refine (oF (bty v k) _).mono ?_; rintro e w9 ⟨rfl, hw⟩; have hw2 := hw.symm; subst hw2))
    go_roundw
    case rel =>
     refine ⟨k + 1, by omega, by go_num, ?_, ?_, ?_⟩
     ·have h := Row.put (i := (f + k) * 2) R4.out (.int .u8 (n8 (pcl (bty v k))))
      rw [GN _ _ _ _ hfn, HE.out] at h
      exact h
     ·exact Row.other (h1.out.later HB4.out (by omega)) (by omega) _
     ·exact aM (hb.out.trans (HB4.out.mono hb.out.size)) (by omega) _
    case measure => simp [intOf]; omega
  ·obtain rfl : k = 8 := by omega
   have e8 : ((8 : Nat) : Int) = 8 := rfl
   rw [e8]
   clear hk hlt e8
   rw [ZH] at h0
   have hlg := h0.out.lt
   go_wp2_with (first | (go_at_call 42; refine (qZ (sC (PC c) f v) (PA a) g wr h0.out).mono ?_; rintro e w5 ⟨rfl, hb5⟩; have HB5 := hid hb5; clear hb5) | (refine aA (by rfl) _ _ _ (by rfl) (by rfl) _ _ _ (by rfl) (by rfl) (h1.out.later HB5.out (by omega)) (by rw [bK]; kernel_rfl) (by rw [bK, nB]) (gN _ _) ?_))
   have h9 : Row w5 (w.heap.size + 1) pz 27 := h1.out.later HB5.out (by omega)
   refine ZqH (v := .agg (pc (sC (PC c) f v) (PA a))) ?_ rfl ⟨rfl, ?_⟩
   ·exact ZqM results151 _ _ (w.heap.size + 1) 27 _ (0, 0) _ (by rfl) (ZqW _ _ _ _ _ _ h9) underlying27 (by rfl) (by rw [bK]; kernel_rfl)
   ·exact aW (hb.out.trans (HB5.out.mono hb.out.size)) (by omega) _
theorem ER (c : Nat → BitVec 8) (a : Nat → BitVec 64) (i : Int) (v : BitVec 64) (w : World) :
  Calls prog 151 #[.agg (pc c a), .int .i64 i, .int .u64 (n64 v)] w fun e w' => e = .returned (.agg (pc (sR (PC c) i v) (PA a))) ∧ Below w.heap.size w w' := by
 by_cases h0 : i = 0
 ·subst h0; rw [sR, if_pos rfl]; exact rW c a 0 v 0 (by omega) sI w
 ·by_cases h2 : i = 2
  ·subst h2; rw [sR, if_neg h0, if_pos rfl]; exact rW c a 2 v 8 (by omega) sJ w
  ·rw [sR, if_neg h0, if_neg h2]; exact uT c a i v h0 h2 w
end Go.Proofs.YtddlmenfcbjoaaaGreatDoor
namespace Go.Proofs.YtddlmenfcbjoaaaGreatDoor
set_option linter.unusedVariables false
set_option maxRecDepth 100000
set_option maxHeartbeats 8000000
open Go.ChangeShapes Go.WideShapes Go.ChangeAt Go.RowKit Go.Deep Go.Lib Go.Shelf _root_.Go.Proofs.Tryz
theorem tab_eq : (Rows.laid_math_bits_deBruijn64tab : DataW Unit) = tabData .u8 (Lib.deBruijn64tab.map Int.ofNat) := by kernel_rfl
theorem UA {W : World} (h : VarReads prog W "math/bits.deBruijn64tab" (Rows.laid_math_bits_deBruijn64tab : DataW Unit)) : Tb W := by
 rw [tab_eq] at h
 obtain ⟨g', t', cs, fuel, p, hg', ht', hvar, hd⟩ := h
 obtain rfl := ZqF ((show prog.globalNamed "math/bits.deBruijn64tab" = some 0 by kernel_rfl).symm.trans hg')
 obtain rfl := ZqF ((show (prog.globals[0]?).map (·.type) = some 242 by kernel_rfl).symm.trans ht')
 have hc := cells_of_tab underlying242 underlying5 (by kernel_rfl) (by kernel_rfl) hd
 intro j hj
 have hh : ∃ t fr, W.heap[0]? = some (.cells cs t fr) := by
  unfold World.var? at hvar
  rw [hg'] at hvar
  simp only [Option.bind_some] at hvar
  split at hvar
  ·rename_i c1 t1 fr1 hq
   simp only [Option.some.injEq] at hvar
   subst hvar
   exact ⟨t1, fr1, hq⟩
  ·cases hvar
 obtain ⟨t, fr, hh⟩ := hh
 rw [ZqP W 0 j cs t fr hh, ← Array.getElem?_toList, hc, List.getElem?_map, List.getElem?_map, List.getElem?_eq_getElem (show j < Lib.deBruijn64tab.length from hj)]
 simp [List.getD, List.getElem?_eq_getElem (show j < Lib.deBruijn64tab.length from hj)]
end Go.Proofs.YtddlmenfcbjoaaaGreatDoor
