import Derived.Test.YtiffkbmppmejhaaGreatDoorK15
import Derived.Laws.ResultCell
import Derived.OwnWalk
namespace Go.Proofs.YtiffkbmppmejhaaGreatDoor
set_option linter.unusedVariables false
set_option maxRecDepth 100000
set_option maxHeartbeats 8000000
open Go.ChangeShapes Go.WideShapes Go.ChangeAt Go.RowKit Go.Deep _root_.Go.Proofs.Tryz
theorem bQ {P : Program} {fn : Func} {p u : Tmp} {ty : TypeId} (h : fn.results = #[.cell p ty, .tmp u]) (tmps : Array Value) (w : World) (g : Nat) (t : TypeId) (cs : Array Value) (fr : Nat × Nat) (d : TypeDesc) (v : Value)
  (hp : tmps.getD p undef = .pointer (some ⟨g, 0, none⟩)) (hv : tmps.getD u undef = v) (hg : w.heap[g]? = some (.cells cs t fr))
  (hu : P.underlying ty = some d) (hd : (match d with | .struct _ | .array _ _ => true | _ => false) = true) (hi : (P.info? ty).map (·.size) = some cs.size) :
  (results fn tmps).run P w = .ok (.tuple #[.agg cs, v]) w := by
 rw [results_cell_tmp h]
 have hp' : tmps[p]?.getD undef = .pointer (some ⟨g, 0, none⟩) := by simpa using hp
 have hv' : tmps[u]?.getD undef = v := by simpa using hv
 simp [hp', hv', asAddr, run_loadVar_row w g t ty cs fr d hg hu hd hi, Result.andThen]
def frm (a : Nat → BitVec 64) (k : Nat) : BitVec 64 := if k = 0 then 0#64 else a (k - 1)
def spn (c : Nat → BitVec 8) (a : Nat → BitVec 64) (k : Nat) : Option (BitVec 64 × BitVec 64) :=
 if kd (c k) = 1#8 then (if n64 (a k) ≤ n64 (frm a k) then none else some (frm a k <<< 2, a k <<< 2 - 1#64))
 else if kd (c k) = 2#8 then some (a k <<< 2, a k <<< 2 + 3#64)
 else if kd (c k) = 3#8 then some (npF (a k), npL (a k)) else none
def sF (o : Option (BitVec 64 × BitVec 64)) : BitVec 64 := (o.getD (0#64, 0#64)).1
def sL (o : Option (BitVec 64 × BitVec 64)) : BitVec 64 := (o.getD (0#64, 0#64)).2
def spV (o : Option (BitVec 64 × BitVec 64)) : Value := .agg #[.int .u64 (n64 (sF o)), .int .u64 (n64 (sL o))]
def lH (a : Nat → BitVec 64) (k : Nat) : Option (BitVec 64 × BitVec 64) := if n64 (a k) ≤ n64 (frm a k) then none else some (frm a k <<< 2, a k <<< 2 - 1#64)
theorem TU (c : Nat → BitVec 8) (a : Nat → BitVec 64) (g k : Nat) (hk : k < 16) (w : World) (hg : Row w g (ec c a) 175) :
  Calls prog 162 #[.pointer (some ⟨g, 0, none⟩), .int .i64 k] w fun e w' => e = .returned (.tuple #[spV (lH a k), .bool (lH a k).isSome]) ∧ Below w.heap.size w w' := by
 have hk2 : (k : Int) < 16 := by omega
 have c1 := fO hg k hk
 have hlg := hg.lt
 have e4 : IntKind.u64.wrap (n64 (a k) * 4) = n64 (a k <<< 2) := gQ (a k) 2
 have e5 : IntKind.u64.wrap (n64 (a k <<< 2) - 1) = n64 (a k <<< 2 - 1#64) := gS (a k <<< 2) 1#64
 have e6 : IntKind.u64.wrap (n64 (frm a k) * 4) = n64 (frm a k <<< 2) := gQ (frm a k) 2
 obtain ⟨X, hX⟩ : ∃ X, X = lH a k := ⟨_, rfl⟩
 rw [← hX]
 have HX := hid hX
 clear hX
 cases k with
 | zero =>
  have hfr : frm a 0 = 0#64 := rfl
  by_cases hc : n64 (a 0) ≤ n64 (frm a 0)
  ·have e9 : X = none := by rw [HX.out, lH, if_pos hc]
   subst e9
   rw [hfr] at hc
   have hc2 : n64 (a 0) ≤ 0 := hc
   clear HX hg hc hfr e6
   go_enter func162, ntmps162
   go_wp2
   exact bodyPost_ret (bQ results162 _ _ w.heap.size 210 _ (0, 0) _ _ (by rfl) (by rfl) (heap_alloc_last w _) underlying210 (by rfl) (by kernel_rfl)) rfl ⟨rfl, (Below.refl _ _).alloc (Nat.le_refl _) _⟩
  ·have e9 : X = some (0#64 <<< 2, a 0 <<< 2 - 1#64) := by rw [HX.out, lH, if_neg hc, hfr]
   subst e9
   rw [hfr] at hc
   have hc2 : ¬ n64 (a 0) ≤ 0 := hc
   clear HX hg hc hfr e6
   go_enter func162, ntmps162
   go_wp2
   exact bodyPost_ret (bQ results162 _ _ w.heap.size 210 _ (0, 0) _ _ (by rfl) (by rfl) (heap_alloc_last w _) underlying210 (by rfl) (by kernel_rfl)) rfl ⟨by simp_all [spV, sF, sL, n64], (Below.refl _ _).alloc (Nat.le_refl _) _⟩
 | succ j =>
  have hfr : frm a (j + 1) = a j := rfl
  have c2 := fO hg j (by omega)
  rw [hfr] at e6
  have hj2 : (j : Int) + 1 < 16 := by omega
  have ej : ((j + 1 : Nat) : Int) = (j : Int) + 1 := by omega
  rw [ej]
  have hj3 : (0 : Int) < (j : Int) + 1 := by omega
  by_cases hc : n64 (a (j + 1)) ≤ n64 (frm a (j + 1))
  ·have e9 : X = none := by rw [HX.out, lH, if_pos hc]
   subst e9
   rw [hfr] at hc
   clear HX hg hfr hk2 hk ej
   go_enter func162, ntmps162
   go_wp2
   exact bodyPost_ret (bQ results162 _ _ w.heap.size 210 _ (0, 0) _ _ (by rfl) (by rfl) (heap_alloc_last w _) underlying210 (by rfl) (by kernel_rfl)) rfl ⟨rfl, (Below.refl _ _).alloc (Nat.le_refl _) _⟩
  ·have e9 : X = some (a j <<< 2, a (j + 1) <<< 2 - 1#64) := by rw [HX.out, lH, if_neg hc, hfr]
   subst e9
   rw [hfr] at hc
   clear HX hg hfr hk2 hk ej
   go_enter func162, ntmps162
   go_wp2
   exact bodyPost_ret (bQ results162 _ _ w.heap.size 210 _ (0, 0) _ _ (by rfl) (by rfl) (heap_alloc_last w _) underlying210 (by rfl) (by kernel_rfl)) rfl ⟨by simp_all [spV, sF, sL], (Below.refl _ _).alloc (Nat.le_refl _) _⟩
theorem qU : ∀ x : BitVec 8, kd x = 0#8 ∨ kd x = 1#8 ∨ kd x = 2#8 ∨ kd x = 3#8 := by decide +kernel
theorem NE (x : BitVec 64) : (pad x).toNat < 2 ^ 54 := by
 unfold pad
 rw [BitVec.toNat_and]
 exact Nat.and_lt_two_pow _ (by decide)
theorem GJ {w : World} {g : Nat} {x y : Value} {t : TypeId} (h : Row w g #[x, y] t) (u v : Value) : Row ((w.setCell ⟨g, 0, none⟩ u).setCell ⟨g, 1, none⟩ v) g #[u, v] t := by
 have := Row.put (i := 1) (Row.put (i := 0) h u) v
 simpa using this
theorem DY (c : Nat → BitVec 8) (a : Nat → BitVec 64) (hA : ∀ j, (a j).toNat < 2 ^ 54) (g k : Nat) (hk : k < 16) (w : World) (hT : Tb w) (hg : Row w g (ec c a) 175) :
  Calls prog 155 #[.pointer (some ⟨g, 0, none⟩), .int .i64 k] w fun e w' => e = .returned (.tuple #[spV (spn c a k), .bool (spn c a k).isSome]) ∧ Below w.heap.size w w' := by
 have hk2 : (k : Int) < 16 := by omega
 have hlg := hg.lt
 have HG := hid hg
 obtain ⟨W0, hW0, r0, b0, s0⟩ := cO w #[Value.int .u64 0, .int .u64 0] 210
 have HS := hid s0
 have HGW : Hid (Row W0 g (ec c a) 175) := by rw [← hW0]; exact hg.old hlg _
 have HT : Hid (Tb W0) := by rw [← hW0]; exact hT.alloc _
 have c0 := lT HGW.out k hk
 have c1 := fO HGW.out k hk
 have HK : Hid (∀ W, Calls prog 161 #[.agg #[.int .u8 (n8 (c k)), .int .u64 (n64 (a k))]] W fun e w' => e = .returned (.int .u8 (n8 (kd (c k)))) ∧ Below W.heap.size W w') := fun W => DW _ _ W
 have HTor : Hid (∀ W, Row W g (ec c a) 175 → Calls prog 162 #[.pointer (some ⟨g, 0, none⟩), .int .i64 k] W fun e w' => e = .returned (.tuple #[.agg #[.int .u64 (n64 (sF (lH a k))), .int .u64 (n64 (sL (lH a k)))], .bool (lH a k).isSome]) ∧ Below W.heap.size W w') := fun W h => TU c a g k hk W h
 have HNap : Hid (∀ W, Tb W → Calls prog 163 #[.int .u64 (n64 (a k))] W fun e w' => e = .returned (.agg #[.int .u64 (n64 (npF (a k))), .int .u64 (n64 (npL (a k)))]) ∧ Below W.heap.size W w') := fun W h => EY (a k) (hA k) W h
 have e4 : IntKind.u64.wrap (n64 (a k) * 4) = n64 (a k <<< 2) := gQ (a k) 2
 have e5 : IntKind.u64.wrap (IntKind.u64.wrap (n64 (a k <<< 2) + 4) - 1) = n64 (a k <<< 2 + 3#64) := by
  have h1 : IntKind.u64.wrap (n64 (a k <<< 2) + 4) = n64 (a k <<< 2 + 4#64) := eZ (a k <<< 2) 4#64
  rw [h1]
  have h2 : IntKind.u64.wrap (n64 (a k <<< 2 + 4#64) - 1) = n64 (a k <<< 2 + 4#64 - 1#64) := gS (a k <<< 2 + 4#64) 1#64
  rw [h2]
  congr 1
  rw [BitVec.sub_eq_add_neg, BitVec.add_assoc]
  rfl
 obtain ⟨X, hX⟩ : ∃ X, X = spn c a k := ⟨_, rfl⟩
 rw [← hX]
 have HX := hid hX
 have HCell : Hid (∀ W, Below W0.heap.size W0 W → W.cell? ⟨g, k * 2 + 1, none⟩ = some (.int .u64 (n64 (a k))) ∧ Row W g (ec c a) 175 ∧ Tb W ∧ Row W w.heap.size #[.int .u64 0, .int .u64 0] 210 ∧ Below w.heap.size w W ∧ w.heap.size + 1 ≤ W.heap.size) := fun W hb => by
  have hh := HGW.out.later hb (by rw [HS.out]; omega)
  exact ⟨fO hh k hk, hh, HT.out.next hb, r0.out.later hb (by rw [HS.out]; omega), b0.out.trans (hb.mono (by rw [HS.out]; omega)), by have := hb.size; rw [HS.out] at this; exact this⟩
 clear hX hg s0 hT hA
 rcases qU (c k) with hq | hq | hq | hq
 ·have e9 : X = none := by rw [HX.out, spn, if_neg (by rw [hq]; decide), if_neg (by rw [hq]; decide), if_neg (by rw [hq]; decide)]
  subst e9
  rw [hq] at HK
  have hz : n8 0#8 = 0 := rfl
  rw [hz] at HK
  clear hq HX hz
  go_enter func155, ntmps155
  go_upto_region 1 with fail
  clear hW0
  go_wp2_with ((go_at_call 161; refine (HK.out _).mono ?_; rintro e w1 ⟨rfl, hb⟩; have HB1 := hid hb; obtain ⟨d1, d2, d3, d4, d5, d6⟩ := HCell.out w1 hb; have D2 := hid d2; have D3 := hid d3; have D4 := hid d4; have D5 := hid d5; have c8 := d4.cell 0; have c9 := d4.cell 1; have f8 := d4.froz 0; have f9 := d4.froz 1; clear hb d2 d3 d4 d5))
  refine bodyPost_ret (bQ results155 _ _ w.heap.size 210 _ (0, 0) _ _ (by rfl) (by rfl) (GJ D4.out _ _) underlying210 (by rfl) (by kernel_rfl)) rfl ⟨?_, aQ (aQ D5.out (Nat.le_refl _) _) (Nat.le_refl _) _⟩
  rfl
 ·have e9 : X = lH a k := by rw [HX.out, spn, if_pos hq]; rfl
  subst e9
  rw [hq] at HK
  have hz : n8 1#8 = 1 := rfl
  rw [hz] at HK
  clear hq HX hz
  generalize lH a k = X at HTor ⊢
  go_enter func155, ntmps155
  go_upto_region 1 with fail
  clear hW0
  go_wp2_with (first | (go_at_call 161; refine (HK.out _).mono ?_; rintro e w1 ⟨rfl, hb⟩; have HB1 := hid hb; obtain ⟨d1, d2, d3, d4, d5, d6⟩ := HCell.out w1 hb; have D2 := hid d2; have D3 := hid d3; have D4 := hid d4; have D5 := hid d5; have c8 := d4.cell 0; have c9 := d4.cell 1; have f8 := d4.froz 0; have f9 := d4.froz 1; clear hb d2 d3 d4 d5) | (go_at_call 162; refine (HTor.out w1 D2.out).mono ?_; rintro e w2 ⟨rfl, hb⟩; have HB2 : Hid (Below W0.heap.size W0 w2) := HB1.out.trans (hb.mono HB1.out.size); obtain ⟨g1, g2, g3, g4, g5, g6⟩ := HCell.out w2 HB2.out; have G4 := hid g4; have G5 := hid g5; have k8 := g4.cell 0; have k9 := g4.cell 1; have l8 := g4.froz 0; have l9 := g4.froz 1; clear hb g2 g3 g4 g5))
  refine bodyPost_ret (bQ results155 _ _ w.heap.size 210 _ (0, 0) _ _ (by rfl) (by rfl) (GJ G4.out _ _) underlying210 (by rfl) (by kernel_rfl)) rfl ⟨?_, aQ (aQ G5.out (Nat.le_refl _) _) (Nat.le_refl _) _⟩
  rfl
 ·have e9 : X = some (a k <<< 2, a k <<< 2 + 3#64) := by rw [HX.out, spn, if_neg (by rw [hq]; decide), if_pos hq]
  subst e9
  rw [hq] at HK
  have hz : n8 2#8 = 2 := rfl
  rw [hz] at HK
  clear hq HX hz
  go_enter func155, ntmps155
  go_upto_region 1 with fail
  clear hW0
  go_wp2_with ((go_at_call 161; refine (HK.out _).mono ?_; rintro e w1 ⟨rfl, hb⟩; have HB1 := hid hb; obtain ⟨d1, d2, d3, d4, d5, d6⟩ := HCell.out w1 hb; have D2 := hid d2; have D3 := hid d3; have D4 := hid d4; have D5 := hid d5; have c8 := d4.cell 0; have c9 := d4.cell 1; have f8 := d4.froz 0; have f9 := d4.froz 1; clear hb d2 d3 d4 d5))
  refine bodyPost_ret (bQ results155 _ _ w.heap.size 210 _ (0, 0) _ _ (by rfl) (by rfl) (GJ D4.out _ _) underlying210 (by rfl) (by kernel_rfl)) rfl ⟨?_, aQ (aQ D5.out (Nat.le_refl _) _) (Nat.le_refl _) _⟩
  simp_all [spV, sF, sL]
 ·have e9 : X = some (npF (a k), npL (a k)) := by rw [HX.out, spn, if_neg (by rw [hq]; decide), if_neg (by rw [hq]; decide), if_pos hq]
  subst e9
  rw [hq] at HK
  have hz : n8 3#8 = 3 := rfl
  rw [hz] at HK
  clear hq HX hz
  go_enter func155, ntmps155
  go_upto_region 1 with fail
  clear hW0
  go_wp2_with (first | (go_at_call 161; refine (HK.out _).mono ?_; rintro e w1 ⟨rfl, hb⟩; have HB1 := hid hb; obtain ⟨d1, d2, d3, d4, d5, d6⟩ := HCell.out w1 hb; have D2 := hid d2; have D3 := hid d3; have D4 := hid d4; have D5 := hid d5; have c8 := d4.cell 0; have c9 := d4.cell 1; have f8 := d4.froz 0; have f9 := d4.froz 1; clear hb d2 d3 d4 d5) | (go_at_call 163; refine (HNap.out w1 D3.out).mono ?_; rintro e w2 ⟨rfl, hb⟩; have HB2 : Hid (Below W0.heap.size W0 w2) := HB1.out.trans (hb.mono HB1.out.size); obtain ⟨g1, g2, g3, g4, g5, g6⟩ := HCell.out w2 HB2.out; have G4 := hid g4; have G5 := hid g5; have k8 := g4.cell 0; have k9 := g4.cell 1; have l8 := g4.froz 0; have l9 := g4.froz 1; clear hb g2 g3 g4 g5))
  refine bodyPost_ret (bQ results155 _ _ w.heap.size 210 _ (0, 0) _ _ (by rfl) (by rfl) (GJ G4.out _ _) underlying210 (by rfl) (by kernel_rfl)) rfl ⟨?_, aQ (aQ G5.out (Nat.le_refl _) _) (Nat.le_refl _) _⟩
  rfl
theorem IR (a : Nat → BitVec 64) : ∀ j, (PA a j).toNat < 2 ^ 54 := fun j => NE (a j)
theorem below_drewN {B : Nat} {w w' : World} (h : Below B w w') (n : Nat) : Below B w (w'.drewN n) := ⟨h.os, h.tape, h.output, h.size, h.block⟩
def spI (c : Nat → BitVec 8) (a : Nat → BitVec 64) (i : Int) : Option (BitVec 64 × BitVec 64) := if 0 ≤ i ∧ i < 16 then spn c a i.toNat else none
def sp3 (o : Option (BitVec 64 × BitVec 64)) : Value := .tuple #[.int .u64 (n64 (sF o)), .int .u64 (n64 (sL o)), .bool o.isSome]
theorem jK (x : BitVec 64) : IntKind.u64.wrap (4 * n64 x) = n64 (x <<< 2) := by rw [Int.mul_comm]; exact gQ x 2
theorem mT (c : Nat → BitVec 8) (a : Nat → BitVec 64) (k : Nat) (hk : k < 16) : spI c a k = spn c a k := by unfold spI; rw [if_pos (by omega)]; rfl
theorem wU (c : Nat → BitVec 8) (a : Nat → BitVec 64) (i : Int) (h : ¬ (0 ≤ i ∧ i < 16)) (w : World) :
  Calls prog 154 #[.agg (pc c a), .int .i64 i] w fun e w' => e = .returned (sp3 (spI (PC c) (PA a) i)) ∧ Below w.heap.size w w' := by
 obtain ⟨W0, hW0, r0, b0, s0⟩ := cO w (pc c a) 27
 have HS := hid s0
 clear s0
 have e9 : spI (PC c) (PA a) i = none := by unfold spI; rw [if_neg h]
 rw [e9]
 clear e9
 go_enter func154, ntmps154
 go_upto_region 1 with fail
 clear hW0
 go_upto_region 2 with (first | (refine aS (by rfl) _ _ (by rfl) _ (by rfl) 27 _ (0, 0) _ r0.out underlying27 (by rfl) (by rw [aP]; kernel_rfl) ?_) | (go_at_call 82; refine (dI c a _).mono ?_; rintro e w1 ⟨rfl, hb1⟩; have HB1 := hid hb1; clear hb1) | (refine wpList_store_row (by rfl) _ _ _ (by rfl) (by rfl) _ _ _ (by rfl) (by rfl) (r0.out.later HB1.out (by rw [HS.out]; omega)) (by rw [aP]; kernel_rfl) (by rw [aP, aP]) (dE _ _) ?_))
 obtain ⟨W2, hW2, r2, b2, s2⟩ := fA (pc (PC c) (PA a)) r0.out b0.out (by rw [HS.out]; omega) HB1.out
 rw [hW2]
 clear hW2 HB1 r0 b0 HS
 by_cases h0 : i < 0
 ·go_wp2
  go_ret3
  exact ⟨rfl, b2.out⟩
 ·have h1 : (15 : Int) < i := by omega
  go_wp2
  go_ret3
  exact ⟨rfl, b2.out⟩
theorem FP (c : Nat → BitVec 8) (a : Nat → BitVec 64) (k : Nat) (hk : k < 16) (hq : kd (PC c k) = 0#8) (w : World) :
  Calls prog 154 #[.agg (pc c a), .int .i64 k] w fun e w' => e = .returned (sp3 (spI (PC c) (PA a) k)) ∧ Below w.heap.size w w' := by
 obtain ⟨W0, hW0, r0, b0, s0⟩ := cO w (pc c a) 27
 have HS := hid s0
 clear s0
 obtain ⟨X, hX⟩ : ∃ X, X = spI (PC c) (PA a) k := ⟨_, rfl⟩
 rw [← hX]
 rw [mT _ _ _ hk] at hX
 have hk2 : (k : Int) < 16 := by omega
 have hn0 : ¬ (k : Int) < 0 := by omega
 have hn1 : ¬ (15 : Int) < k := by omega
 have HK : Hid (∀ W, Calls prog 160 #[.agg (pc (PC c) (PA a)), .int .i64 k] W fun e w' => e = .returned (.int .i64 0) ∧ Below W.heap.size W w') := fun W => by
  have := lS (PC c) (PA a) k hk W
  rw [hq] at this
  exact this
 have e9 : X = none := by rw [hX, spn, if_neg (by rw [hq]; decide), if_neg (by rw [hq]; decide), if_neg (by rw [hq]; decide)]
 subst e9
 clear hX hq
 go_enter func154, ntmps154
 go_upto_region 1 with fail
 clear hW0
 go_upto_region 2 with (first | (refine aS (by rfl) _ _ (by rfl) _ (by rfl) 27 _ (0, 0) _ r0.out underlying27 (by rfl) (by rw [aP]; kernel_rfl) ?_) | (go_at_call 82; refine (dI c a _).mono ?_; rintro e w1 ⟨rfl, hb1⟩; have HB1 := hid hb1; clear hb1) | (refine wpList_store_row (by rfl) _ _ _ (by rfl) (by rfl) _ _ _ (by rfl) (by rfl) (r0.out.later HB1.out (by rw [HS.out]; omega)) (by rw [aP]; kernel_rfl) (by rw [aP, aP]) (dE _ _) ?_))
 obtain ⟨W2, hW2, r2, b2, s2⟩ := fA (pc (PC c) (PA a)) r0.out b0.out (by rw [HS.out]; omega) HB1.out
 rw [hW2]
 clear hW2 HB1 r0 b0 HS
 have c1 := cV r2.out k hk
 go_wp2_with (first | (refine aS (by rfl) _ _ (by rfl) _ (by rfl) 27 _ (0, 0) _ r2.out underlying27 (by rfl) (by rw [aP]; kernel_rfl) ?_) | (go_at_call 160; refine (HK.out _).mono ?_; rintro e w3 ⟨rfl, hb⟩; have HB3 : Hid (Below w.heap.size w w3) := b2.out.trans (hb.mono (Nat.le_of_lt s2.out)); have R3 := r2.out.later hb s2.out; have d1 := cV R3 k hk; clear hb R3))
 go_ret3
 exact ⟨rfl, HB3.out⟩
theorem FR (c : Nat → BitVec 8) (a : Nat → BitVec 64) (k : Nat) (hk : k < 16) (hq : kd (PC c k) = 2#8) (w : World) :
  Calls prog 154 #[.agg (pc c a), .int .i64 k] w fun e w' => e = .returned (sp3 (spI (PC c) (PA a) k)) ∧ Below w.heap.size w w' := by
 obtain ⟨W0, hW0, r0, b0, s0⟩ := cO w (pc c a) 27
 have HS := hid s0
 clear s0
 obtain ⟨X, hX⟩ : ∃ X, X = spI (PC c) (PA a) k := ⟨_, rfl⟩
 rw [← hX]
 rw [mT _ _ _ hk] at hX
 have hk2 : (k : Int) < 16 := by omega
 have hn0 : ¬ (k : Int) < 0 := by omega
 have hn1 : ¬ (15 : Int) < k := by omega
 have HK : Hid (∀ W, Calls prog 160 #[.agg (pc (PC c) (PA a)), .int .i64 k] W fun e w' => e = .returned (.int .i64 2) ∧ Below W.heap.size W w') := fun W => by
  have := lS (PC c) (PA a) k hk W
  rw [hq] at this
  exact this
 have e9 : X = some (PA a k <<< 2, PA a k <<< 2 + 3#64) := by rw [hX, spn, if_neg (by rw [hq]; decide), if_pos hq]
 subst e9
 clear hX hq
 have m1 := jK (PA a k)
 have m2 : IntKind.u64.wrap (n64 (PA a k <<< 2) + 3) = n64 (PA a k <<< 2 + 3#64) := eZ (PA a k <<< 2) 3#64
 go_enter func154, ntmps154
 go_upto_region 1 with fail
 clear hW0
 go_upto_region 2 with (first | (refine aS (by rfl) _ _ (by rfl) _ (by rfl) 27 _ (0, 0) _ r0.out underlying27 (by rfl) (by rw [aP]; kernel_rfl) ?_) | (go_at_call 82; refine (dI c a _).mono ?_; rintro e w1 ⟨rfl, hb1⟩; have HB1 := hid hb1; clear hb1) | (refine wpList_store_row (by rfl) _ _ _ (by rfl) (by rfl) _ _ _ (by rfl) (by rfl) (r0.out.later HB1.out (by rw [HS.out]; omega)) (by rw [aP]; kernel_rfl) (by rw [aP, aP]) (dE _ _) ?_))
 obtain ⟨W2, hW2, r2, b2, s2⟩ := fA (pc (PC c) (PA a)) r0.out b0.out (by rw [HS.out]; omega) HB1.out
 rw [hW2]
 clear hW2 HB1 r0 b0 HS
 have c1 := cV r2.out k hk
 go_wp2_with (first | (refine aS (by rfl) _ _ (by rfl) _ (by rfl) 27 _ (0, 0) _ r2.out underlying27 (by rfl) (by rw [aP]; kernel_rfl) ?_) | (go_at_call 160; refine (HK.out _).mono ?_; rintro e w3 ⟨rfl, hb⟩; have HB3 : Hid (Below w.heap.size w w3) := b2.out.trans (hb.mono (Nat.le_of_lt s2.out)); have R3 := r2.out.later hb s2.out; have d1 := cV R3 k hk; clear hb R3))
 go_ret3
 exact ⟨by simp_all [sp3, sF, sL], HB3.out⟩
theorem FQ (c : Nat → BitVec 8) (a : Nat → BitVec 64) (k : Nat) (hk : k < 16) (hq : kd (PC c k) = 1#8) (w : World) :
  Calls prog 154 #[.agg (pc c a), .int .i64 k] w fun e w' => e = .returned (sp3 (spI (PC c) (PA a) k)) ∧ Below w.heap.size w w' := by
 obtain ⟨W0, hW0, r0, b0, s0⟩ := cO w (pc c a) 27
 have HS := hid s0
 clear s0
 obtain ⟨X, hX⟩ : ∃ X, X = spI (PC c) (PA a) k := ⟨_, rfl⟩
 rw [← hX]
 rw [mT _ _ _ hk] at hX
 have hk2 : (k : Int) < 16 := by omega
 have hn0 : ¬ (k : Int) < 0 := by omega
 have hn1 : ¬ (15 : Int) < k := by omega
 have HK : Hid (∀ W, Calls prog 160 #[.agg (pc (PC c) (PA a)), .int .i64 k] W fun e w' => e = .returned (.int .i64 1) ∧ Below W.heap.size W w') := fun W => by
  have := lS (PC c) (PA a) k hk W
  rw [hq] at this
  exact this
 have e8 : X = (if n64 (PA a k) ≤ n64 (frm (PA a) k) then none else some (frm (PA a) k <<< 2, PA a k <<< 2 - 1#64)) := by rw [hX, spn, if_pos hq]
 have HE8 := hid e8
 clear hX hq e8
 have m1 := jK (PA a k)
 have m2 : IntKind.u64.wrap (n64 (PA a k <<< 2) - 1) = n64 (PA a k <<< 2 - 1#64) := gS (PA a k <<< 2) 1#64
 have m3 := jK (frm (PA a) k)
 cases k with
 | zero =>
  have hfr : frm (PA a) 0 = 0#64 := rfl
  have hz : ((0 : Nat) : Int) = 0 := rfl
  rw [hz] at HK ⊢
  by_cases hc : n64 (PA a 0) ≤ n64 (frm (PA a) 0)
  ·have e9 : X = none := by rw [HE8.out, if_pos hc]
   subst e9
   have hc2 : n64 (PA a 0) ≤ 0 := hc
   clear hc hfr hz HE8 m3 hk2 hn0 hn1
   go_enter func154, ntmps154
   go_upto_region 1 with fail
   clear hW0
   go_upto_region 2 with (first | (refine aS (by rfl) _ _ (by rfl) _ (by rfl) 27 _ (0, 0) _ r0.out underlying27 (by rfl) (by rw [aP]; kernel_rfl) ?_) | (go_at_call 82; refine (dI c a _).mono ?_; rintro e w1 ⟨rfl, hb1⟩; have HB1 := hid hb1; clear hb1) | (refine wpList_store_row (by rfl) _ _ _ (by rfl) (by rfl) _ _ _ (by rfl) (by rfl) (r0.out.later HB1.out (by rw [HS.out]; omega)) (by rw [aP]; kernel_rfl) (by rw [aP, aP]) (dE _ _) ?_))
   obtain ⟨W2, hW2, r2, b2, s2⟩ := fA (pc (PC c) (PA a)) r0.out b0.out (by rw [HS.out]; omega) HB1.out
   rw [hW2]
   clear hW2 HB1 r0 b0 HS
   have c1 := cV r2.out 0 hk
   go_wp2_with (first | (refine aS (by rfl) _ _ (by rfl) _ (by rfl) 27 _ (0, 0) _ r2.out underlying27 (by rfl) (by rw [aP]; kernel_rfl) ?_) | (go_at_call 160; refine (HK.out _).mono ?_; rintro e w3 ⟨rfl, hb⟩; have HB3 : Hid (Below w.heap.size w w3) := b2.out.trans (hb.mono (Nat.le_of_lt s2.out)); have R3 := r2.out.later hb s2.out; have d1 := cV R3 0 hk; clear hb R3))
   go_ret3
   exact ⟨rfl, HB3.out⟩
  ·have e9 : X = some (0#64 <<< 2, PA a 0 <<< 2 - 1#64) := by rw [HE8.out, if_neg hc, hfr]
   subst e9
   have hc2 : ¬ n64 (PA a 0) ≤ 0 := hc
   clear hc hfr hz HE8 m3 hk2 hn0 hn1
   go_enter func154, ntmps154
   go_upto_region 1 with fail
   clear hW0
   go_upto_region 2 with (first | (refine aS (by rfl) _ _ (by rfl) _ (by rfl) 27 _ (0, 0) _ r0.out underlying27 (by rfl) (by rw [aP]; kernel_rfl) ?_) | (go_at_call 82; refine (dI c a _).mono ?_; rintro e w1 ⟨rfl, hb1⟩; have HB1 := hid hb1; clear hb1) | (refine wpList_store_row (by rfl) _ _ _ (by rfl) (by rfl) _ _ _ (by rfl) (by rfl) (r0.out.later HB1.out (by rw [HS.out]; omega)) (by rw [aP]; kernel_rfl) (by rw [aP, aP]) (dE _ _) ?_))
   obtain ⟨W2, hW2, r2, b2, s2⟩ := fA (pc (PC c) (PA a)) r0.out b0.out (by rw [HS.out]; omega) HB1.out
   rw [hW2]
   clear hW2 HB1 r0 b0 HS
   have c1 := cV r2.out 0 hk
   go_wp2_with (first | (refine aS (by rfl) _ _ (by rfl) _ (by rfl) 27 _ (0, 0) _ r2.out underlying27 (by rfl) (by rw [aP]; kernel_rfl) ?_) | (go_at_call 160; refine (HK.out _).mono ?_; rintro e w3 ⟨rfl, hb⟩; have HB3 : Hid (Below w.heap.size w w3) := b2.out.trans (hb.mono (Nat.le_of_lt s2.out)); have R3 := r2.out.later hb s2.out; have d1 := cV R3 0 hk; clear hb R3))
   go_ret3
   exact ⟨by simp_all [sp3, sF, sL, n64], HB3.out⟩
 | succ j =>
  have hfr : frm (PA a) (j + 1) = PA a j := rfl
  have hj : j < 16 := by omega
  rw [hfr] at m3
  have ej : ((j + 1 : Nat) : Int) = (j : Int) + 1 := by omega
  have hj2 : (j : Int) + 1 < 16 := by omega
  have hj3 : (0 : Int) < (j : Int) + 1 := by omega
  have hj4 : ¬ (j : Int) + 1 < 0 := by omega
  have hj5 : ¬ (15 : Int) < (j : Int) + 1 := by omega
  rw [ej] at HK ⊢
  by_cases hc : n64 (PA a (j + 1)) ≤ n64 (frm (PA a) (j + 1))
  ·have e9 : X = none := by rw [HE8.out, if_pos hc]
   subst e9
   rw [hfr] at hc
   clear hfr HE8 hk2 hn0 hn1 ej
   go_enter func154, ntmps154
   go_upto_region 1 with fail
   clear hW0
   go_upto_region 2 with (first | (refine aS (by rfl) _ _ (by rfl) _ (by rfl) 27 _ (0, 0) _ r0.out underlying27 (by rfl) (by rw [aP]; kernel_rfl) ?_) | (go_at_call 82; refine (dI c a _).mono ?_; rintro e w1 ⟨rfl, hb1⟩; have HB1 := hid hb1; clear hb1) | (refine wpList_store_row (by rfl) _ _ _ (by rfl) (by rfl) _ _ _ (by rfl) (by rfl) (r0.out.later HB1.out (by rw [HS.out]; omega)) (by rw [aP]; kernel_rfl) (by rw [aP, aP]) (dE _ _) ?_))
   obtain ⟨W2, hW2, r2, b2, s2⟩ := fA (pc (PC c) (PA a)) r0.out b0.out (by rw [HS.out]; omega) HB1.out
   rw [hW2]
   clear hW2 HB1 r0 b0 HS
   have c1 := cV r2.out (j + 1) hk
   go_wp2_with (first | (refine aS (by rfl) _ _ (by rfl) _ (by rfl) 27 _ (0, 0) _ r2.out underlying27 (by rfl) (by rw [aP]; kernel_rfl) ?_) | (go_at_call 160; refine (HK.out _).mono ?_; rintro e w3 ⟨rfl, hb⟩; have HB3 : Hid (Below w.heap.size w w3) := b2.out.trans (hb.mono (Nat.le_of_lt s2.out)); have R3 := r2.out.later hb s2.out; have d2 := cV R3 j hj; clear hb R3))
   go_ret3
   exact ⟨rfl, HB3.out⟩
  ·have e9 : X = some (PA a j <<< 2, PA a (j + 1) <<< 2 - 1#64) := by rw [HE8.out, if_neg hc, hfr]
   subst e9
   rw [hfr] at hc
   clear hfr HE8 hk2 hn0 hn1 ej
   go_enter func154, ntmps154
   go_upto_region 1 with fail
   clear hW0
   go_upto_region 2 with (first | (refine aS (by rfl) _ _ (by rfl) _ (by rfl) 27 _ (0, 0) _ r0.out underlying27 (by rfl) (by rw [aP]; kernel_rfl) ?_) | (go_at_call 82; refine (dI c a _).mono ?_; rintro e w1 ⟨rfl, hb1⟩; have HB1 := hid hb1; clear hb1) | (refine wpList_store_row (by rfl) _ _ _ (by rfl) (by rfl) _ _ _ (by rfl) (by rfl) (r0.out.later HB1.out (by rw [HS.out]; omega)) (by rw [aP]; kernel_rfl) (by rw [aP, aP]) (dE _ _) ?_))
   obtain ⟨W2, hW2, r2, b2, s2⟩ := fA (pc (PC c) (PA a)) r0.out b0.out (by rw [HS.out]; omega) HB1.out
   rw [hW2]
   clear hW2 HB1 r0 b0 HS
   have c1 := cV r2.out (j + 1) hk
   go_wp2_with (first | (refine aS (by rfl) _ _ (by rfl) _ (by rfl) 27 _ (0, 0) _ r2.out underlying27 (by rfl) (by rw [aP]; kernel_rfl) ?_) | (go_at_call 160; refine (HK.out _).mono ?_; rintro e w3 ⟨rfl, hb⟩; have HB3 : Hid (Below w.heap.size w w3) := b2.out.trans (hb.mono (Nat.le_of_lt s2.out)); have R3 := r2.out.later hb s2.out; have d2 := cV R3 j hj; clear hb R3))
   go_ret3
   exact ⟨by simp_all [sp3, sF, sL], HB3.out⟩
theorem NA (x : BitVec 64) (h : x.toNat < 2 ^ 54) (m : Nat) (hm : m ≤ on x) : bits .and .u64 (n64 x / 2 ^ m) 1 = if m = on x then 0 else 1 := by
 obtain ⟨⟨r, hr⟩, _⟩ := oZ x h
 have hp : 0 < 2 ^ on x := Nat.pow_pos (by omega)
 have h1 : x.toNat + 1 = 2 ^ on x * (2 * r + 1) := by
  rw [hr, Nat.pow_succ, Nat.mul_add, Nat.mul_one, Nat.mul_assoc]
  omega
 have hpm : 0 < 2 ^ m := Nat.pow_pos (by omega)
 obtain ⟨d, hd⟩ : ∃ d, on x = m + d := ⟨on x - m, by omega⟩
 have h2 : x.toNat + 1 = 2 ^ m * (2 ^ d * (2 * r + 1)) := by rw [h1, hd, Nat.pow_add, Nat.mul_assoc]
 have hK : 0 < 2 ^ d * (2 * r + 1) := Nat.mul_pos (Nat.pow_pos (by omega)) (by omega)
 have h3 : x.toNat / 2 ^ m = 2 ^ d * (2 * r + 1) - 1 := by
  generalize 2 ^ d * (2 * r + 1) = K at h2 hK
  obtain ⟨q, rfl⟩ : ∃ q, K = q + 1 := ⟨K - 1, by omega⟩
  have e1 : x.toNat = 2 ^ m * q + (2 ^ m - 1) := by rw [Nat.mul_add, Nat.mul_one] at h2; omega
  rw [e1, Nat.mul_add_div hpm, Nat.div_eq_of_lt (by omega)]
  omega
 have e0 : bits .and .u64 (n64 x / 2 ^ m) 1 = n64 ((x >>> m) &&& 1#64) := by rw [gR]; exact bY (x >>> m) 1#64
 rw [e0]
 unfold n64
 rw [BitVec.toNat_and, BitVec.toNat_ushiftRight, Nat.shiftRight_eq_div_pow, h3, show (1#64 : BitVec 64).toNat = 1 from rfl, Nat.and_one_is_mod]
 by_cases hmn : m = on x
 ·rw [if_pos hmn]
  have : d = 0 := by omega
  subst this
  rw [Nat.pow_zero, Nat.one_mul]
  omega
 ·rw [if_neg hmn]
  obtain ⟨d', rfl⟩ : ∃ d', d = d' + 1 := ⟨d - 1, by omega⟩
  have e2 : 2 ^ (d' + 1) * (2 * r + 1) = 2 * (2 ^ d' * (2 * r + 1)) := by rw [Nat.pow_succ, Nat.mul_comm (2 ^ d') 2, Nat.mul_assoc]
  rw [e2] at hK ⊢
  omega
def zsz (k : Nat) : Int := ((2 ^ (k + 3) : Nat) : Int)
theorem CX (k : Nat) (hk : k < 54) : IntKind.u64.wrap (2 * zsz k) = zsz (k + 1) := by
 unfold zsz
 have h1 : 2 ^ (k + 1 + 3) ≤ 2 ^ 57 := Nat.pow_le_pow_right (by omega) (by omega)
 have e : 2 ^ (k + 1 + 3) = 2 * 2 ^ (k + 3) := by rw [show k + 1 + 3 = (k + 3) + 1 by omega, Nat.pow_succ, Nat.mul_comm]
 rw [IntKind.wrap_u64]
 rw [e] at h1 ⊢
 omega
theorem IM (k : Nat) : 0 < zsz k := by unfold zsz; have : 0 < 2 ^ (k + 3) := Nat.pow_pos (by omega); omega
theorem xB (x : BitVec 64) (h54 : x.toNat < 2 ^ 54) (h : on x < 54) : IntKind.u64.wrap (IntKind.u64.wrap ((n64 (x <<< 2)).tdiv (zsz (on x))) * zsz (on x)) = n64 (npF x) := by
 have hz : zsz (on x) = n64 (1#64 <<< (on x + 3)) := by unfold zsz n64; rw [lN _ (by omega)]
 rw [hz, wK, uN]
 congr 1
 apply BitVec.eq_of_toNat_eq
 have hb := jR x h54 h
 rw [BitVec.toNat_mul, BitVec.toNat_udiv, lN _ (by omega), mC x h54, qN x h54 h, npF, if_neg (by omega), BitVec.toNat_ofNat, Nat.mul_comm]
theorem AZ (x : BitVec 64) (h54 : x.toNat < 2 ^ 54) (h : on x < 54) : IntKind.u64.wrap (n64 (npF x) + IntKind.u64.wrap (zsz (on x) - 1)) = n64 (npL x) := by
 have hz : zsz (on x) = n64 (1#64 <<< (on x + 3)) := by unfold zsz n64; rw [lN _ (by omega)]
 have e1 : IntKind.u64.wrap (n64 (1#64 <<< (on x + 3)) - 1) = n64 (1#64 <<< (on x + 3) - 1#64) := gS (1#64 <<< (on x + 3)) 1#64
 rw [hz, e1, eZ]
 congr 1
 apply BitVec.eq_of_toNat_eq
 have hb := jR x h54 h
 rw [BitVec.toNat_add, mJ _ (by omega), npF, if_neg (by omega), npL, if_neg (by omega), BitVec.toNat_ofNat, BitVec.toNat_ofNat, Nat.mod_eq_of_lt (a := 2 ^ (on x + 3) * (x.toNat / 2 ^ (on x + 1))) (by omega)]
theorem FS (c : Nat → BitVec 8) (a : Nat → BitVec 64) (k : Nat) (hk : k < 16) (hq : kd (PC c k) = 3#8) (w : World) :
  Calls prog 154 #[.agg (pc c a), .int .i64 k] w fun e w' => e = .returned (sp3 (spI (PC c) (PA a) k)) ∧ Below w.heap.size w w' := by
 obtain ⟨W0, hW0, r0, b0, s0⟩ := cO w (pc c a) 27
 have HS := hid s0
 clear s0
 obtain ⟨X, hX⟩ : ∃ X, X = spI (PC c) (PA a) k := ⟨_, rfl⟩
 rw [← hX]
 rw [mT _ _ _ hk] at hX
 have hk2 : (k : Int) < 16 := by omega
 have hn0 : ¬ (k : Int) < 0 := by omega
 have hn1 : ¬ (15 : Int) < k := by omega
 have HK : Hid (∀ W, Calls prog 160 #[.agg (pc (PC c) (PA a)), .int .i64 k] W fun e w' => e = .returned (.int .i64 3) ∧ Below W.heap.size W w') := fun W => by
  have := lS (PC c) (PA a) k hk W
  rw [hq] at this
  exact this
 have e9 : X = some (npF (PA a k), npL (PA a k)) := by rw [hX, spn, if_neg (by rw [hq]; decide), if_neg (by rw [hq]; decide), if_pos hq]
 subst e9
 clear hX hq
 have h54 := IR a k
 obtain ⟨x, hx⟩ : ∃ x, x = PA a k := ⟨_, rfl⟩
 rw [← hx] at h54 ⊢
 go_enter func154, ntmps154
 go_upto_region 1 with fail
 clear hW0
 go_upto_region 2 with (first | (refine aS (by rfl) _ _ (by rfl) _ (by rfl) 27 _ (0, 0) _ r0.out underlying27 (by rfl) (by rw [aP]; kernel_rfl) ?_) | (go_at_call 82; refine (dI c a _).mono ?_; rintro e w1 ⟨rfl, hb1⟩; have HB1 := hid hb1; clear hb1) | (refine wpList_store_row (by rfl) _ _ _ (by rfl) (by rfl) _ _ _ (by rfl) (by rfl) (r0.out.later HB1.out (by rw [HS.out]; omega)) (by rw [aP]; kernel_rfl) (by rw [aP, aP]) (dE _ _) ?_))
 obtain ⟨W2, hW2, r2, b2, s2⟩ := fA (pc (PC c) (PA a)) r0.out b0.out (by rw [HS.out]; omega) HB1.out
 rw [hW2]
 clear hW2 HB1 r0 b0 HS
 have c1 := cV r2.out k hk
 rw [← hx] at c1
 clear hx
 go_wp2_with (first | (refine aS (by rfl) _ _ (by rfl) _ (by rfl) 27 _ (0, 0) _ r2.out underlying27 (by rfl) (by rw [aP]; kernel_rfl) ?_) | (go_at_call 160; refine (HK.out _).mono ?_; rintro e w3 ⟨rfl, hb⟩; have HB3 : Hid (Below w.heap.size w w3) := b2.out.trans (hb.mono (Nat.le_of_lt s2.out)); have R3 := r2.out.later hb s2.out; clear hb R3))
 have HBit : Hid (∀ m, m ≤ on x → bits .and .u64 (n64 x / 2 ^ m) 1 = if m = on x then 0 else 1) := fun m hm => NA x h54 m hm
 have hon := (oZ x h54).2
 go_loopw [9] (fun i wr => ∃ m : Nat, m ≤ on x ∧ i = .int .i64 m ∧ wr = w3) (fun i _ => 54 - (intOf i).toNat)
 case atStart => exact ⟨0, by omega, rfl, rfl⟩
 case round =>
  obtain ⟨m, hm, rfl, rfl⟩ := hrel
  by_cases hlt : m < on x
  ·have hb := HBit.out m hm
   rw [if_neg (by omega)] at hb
   have hlt2 : (m : Int) < 54 := by omega
   go_wp2
   go_roundw
   case rel => exact ⟨m + 1, by omega, by go_num, trivial⟩
   case measure => simp [intOf]; omega
  ·obtain rfl : m = on x := by omega
   by_cases h9 : on x = 54
   ·have e1 : n64 (npF x) = 0 := by unfold npF; rw [if_pos h9]; rfl
    have e2 : n64 (npL x) = 18446744073709551615 := by unfold npL; rw [if_pos h9]; rfl
    have E : Hid (sp3 (some (npF x, npL x)) = .tuple #[.int .u64 0, .int .u64 18446744073709551615, .bool true]) := by unfold Hid sp3; simp [sF, sL, e1, e2]
    rw [h9]
    have e54 : ((54 : Nat) : Int) = 54 := rfl
    rw [e54]
    clear e1 e2 HBit hm hlt
    go_wp2
    go_ret3
    exact ⟨by rw [E.out]; rfl, HB3.out⟩
   ·have hb := HBit.out (on x) (Nat.le_refl _)
    rw [if_pos rfl] at hb
    have hlt2 : (on x : Int) < 54 := by omega
    have hne : ((on x : Int) == 54) = false := by
     have : ¬ (on x : Int) = 54 := by omega
     simpa using this
    have HF1 : Hid (IntKind.u64.wrap (IntKind.u64.wrap ((n64 (x <<< 2)).tdiv (zsz (on x))) * zsz (on x)) = n64 (npF x)) := xB x h54 (by omega)
    have HF2 : Hid (IntKind.u64.wrap (n64 (npF x) + IntKind.u64.wrap (zsz (on x) - 1)) = n64 (npL x)) := AZ x h54 (by omega)
    have HON : Hid (on x < 54) := by unfold Hid; omega
    clear HBit hm hlt h9
    have hzz : zsz 0 = 8 := rfl
    go_wp2
    rw [← hzz]
    have HR : Hid (wr = wr) := rfl
    go_loopw [10, 11] (fun z i wr' => ∃ m : Nat, m ≤ on x ∧ i = .int .i64 m ∧ z = .int .u64 (zsz m) ∧ wr' = wr) (fun _ i _ => 54 - (intOf i).toNat)
    case atStart => exact ⟨0, by omega, rfl, rfl, rfl⟩
    case round =>
     obtain ⟨m, hm, rfl, rfl, rfl⟩ := hrel
     by_cases hlt : m < on x
     ·have hlt3 : (m : Int) < (on x : Int) := by omega
      have HZ : Hid (IntKind.u64.wrap (2 * zsz m) = zsz (m + 1)) := CX m (by have := HON.out; omega)
      go_wp2
      go_roundw
      case rel => exact ⟨m + 1, by omega, by go_num, by rw [HZ.out], trivial⟩
      case measure => have := HON.out; simp [intOf]; omega
     ·obtain rfl : m = on x := by omega
      have hzp := IM (on x)
      have hz0 : ¬ zsz (on x) = 0 := by omega
      have hz1 : (zsz (on x) == 0) = false := by simpa using hz0
      have m1 := jK x
      clear hlt hm hzz
      go_wp2
      go_ret3
      refine ⟨?_, HB3.out⟩
      have q1 := HF1.out
      have q2 := HF2.out
      simp_all [sp3, sF, sL]
theorem FU (c : Nat → BitVec 8) (a : Nat → BitVec 64) (i : Int) (w : World) :
  Calls prog 154 #[.agg (pc c a), .int .i64 i] w fun e w' => e = .returned (sp3 (spI (PC c) (PA a) i)) ∧ Below w.heap.size w w' := by
 by_cases h : 0 ≤ i ∧ i < 16
 ·obtain ⟨k, rfl⟩ : ∃ k : Nat, i = k := ⟨i.toNat, by omega⟩
  have hk : k < 16 := by omega
  rcases qU (PC c k) with hq | hq | hq | hq
  ·exact FP c a k hk hq w
  ·exact FQ c a k hk hq w
  ·exact FR c a k hk hq w
  ·exact FS c a k hk hq w
 ·exact wU c a i h w
def inR (f l x : BitVec 64) : Bool := decide (n64 f ≤ n64 x) && decide (n64 x ≤ n64 l)
def hcn (f l ad : BitVec 64) : Nat → Nat
 | 0 => 0
 | k + 1 => hcn f l ad k + (if inR f l (ad + BitVec.ofNat 64 k) = true then 1 else 0)
theorem sJ (f l ad : BitVec 64) : ∀ k, hcn f l ad k ≤ k
 | 0 => Nat.le_refl _
 | k + 1 => by have := sJ f l ad k; rw [hcn]; split <;> omega
theorem xY (ad : BitVec 64) (k : Nat) (hk : k < 8) : IntKind.u64.wrap (n64 ad + (k : Int)) = n64 (ad + BitVec.ofNat 64 k) := by
 have e : (k : Int) = n64 (BitVec.ofNat 64 k) := by
  unfold n64; rw [BitVec.toNat_ofNat, Nat.mod_eq_of_lt (by omega)]
 rw [e, eZ]
def hn (c : Nat → BitVec 8) (a : Nat → BitVec 64) (ad : BitVec 64) (s : Nat) (k : Nat) : Nat := match spn c a k with | none => 0 | some (f, l) => hcn f l ad s
def mtF (h : Nat → Nat) (s : Nat) : Nat → Nat → Int × Bool
 | 0, _ => (-1, false)
 | n + 1, i => if 0 < h i then ((i : Int), (h i : Int) == (s : Int)) else mtF h s n (i + 1)
def MT (h : Nat → Nat) (s : Nat) : Int × Bool := mtF h s 16 0
theorem LX (f l ad : BitVec 64) (s : Nat) (hs : s ≤ 8) (w : World) :
  Calls prog 156 #[.agg #[.int .u64 (n64 f), .int .u64 (n64 l)], .int .u64 (n64 ad), .int .i64 s] w fun e w' => e = .returned (.int .i64 (hcn f l ad s : Nat)) ∧ Below w.heap.size w w' := by
 obtain ⟨W0, hW0, r0, b0, s0⟩ := cO w #[Value.int .u64 (n64 f), .int .u64 (n64 l)] 210
 clear s0
 have c0 : W0.cell? ⟨w.heap.size, 0, none⟩ = some (.int .u64 (n64 f)) := r0.out.cell 0
 have c1 : W0.cell? ⟨w.heap.size, 1, none⟩ = some (.int .u64 (n64 l)) := r0.out.cell 1
 have hs2 : (s : Int) ≤ 8 := by omega
 go_enter func156, ntmps156
 go_wp2
 clear hW0 r0
 go_loopw [7, 11] (fun n i wr => ∃ k : Nat, k ≤ s ∧ i = .int .i64 k ∧ n = .int .i64 (hcn f l ad k : Nat) ∧ wr = W0) (fun _ i _ => s - (intOf i).toNat)
 case atStart => exact ⟨0, by omega, rfl, rfl, rfl⟩
 case round =>
  obtain ⟨k, hk, rfl, rfl, rfl⟩ := hrel
  by_cases hlt : k < s
  ·have hlt2 : (k : Int) < s := by omega
   have HA := xY ad k (by omega)
   have hle := sJ f l ad k
   have HC : Hid (hcn f l ad (k + 1) = hcn f l ad k + (if inR f l (ad + BitVec.ofNat 64 k) = true then 1 else 0)) := rfl
   generalize hcn f l ad k = q at HC hle ⊢
   generalize ad + BitVec.ofNat 64 k = x at HA HC
   have hq : (q : Int) ≤ 8 := by omega
   by_cases h1 : n64 f ≤ n64 x
   ·by_cases h2 : n64 x ≤ n64 l
    ·have h3 : hcn f l ad (k + 1) = q + 1 := by rw [HC.out, if_pos (by simp [inR, h1, h2])]
     have H3 := hid h3
     clear HC h3
     go_wp2
     go_roundw
     case rel => exact ⟨k + 1, by omega, by go_num, by rw [H3.out]; go_num, trivial⟩
     case measure => simp [intOf]; omega
    ·have h3 : hcn f l ad (k + 1) = q := by rw [HC.out, if_neg (by simp [inR, h2])]; rfl
     have H3 := hid h3
     clear HC h3
     go_wp2
     go_roundw
     case rel => exact ⟨k + 1, by omega, by go_num, by rw [H3.out], trivial⟩
     case measure => simp [intOf]; omega
   ·have h3 : hcn f l ad (k + 1) = q := by rw [HC.out, if_neg (by simp [inR, h1])]; rfl
    have H3 := hid h3
    clear HC h3
    go_wp2
    go_roundw
    case rel => exact ⟨k + 1, by omega, by go_num, by rw [H3.out], trivial⟩
    case measure => simp [intOf]; omega
  ·obtain rfl : k = s := by omega
   go_wp2
   go_ret
   exact ⟨rfl, b0.out⟩
theorem uL (h : Nat → Nat) (s n i : Nat) (hi : 0 < h i) : mtF h s (n + 1) i = ((i : Int), (h i : Int) == (s : Int)) := by rw [mtF, if_pos hi]
theorem mL (h : Nat → Nat) (s n i : Nat) (hi : ¬ 0 < h i) : mtF h s (n + 1) i = mtF h s n (i + 1) := by rw [mtF, if_neg hi]
theorem EP (c : Nat → BitVec 8) (a : Nat → BitVec 64) (hA : ∀ j, (a j).toNat < 2 ^ 54) (ad : BitVec 64) (s : Nat) (hs : s ≤ 8) (g : Nat) (w : World) (hT : Tb w) (hg : Row w g (ec c a) 175) :
  Calls prog 148 #[.pointer (some ⟨g, 0, none⟩), .int .u64 (n64 ad), .int .i64 s] w fun e w' => e = .returned (.tuple #[.int .i64 (MT (hn c a ad s) s).1, .bool (MT (hn c a ad s) s).2]) ∧ Below w.heap.size w w' := by
 have hlg := hg.lt
 have HG := hid hg
 have HT := hid hT
 have HSp : Hid (∀ (k : Nat), k < 16 → ∀ W, Tb W → Row W g (ec c a) 175 → Calls prog 155 #[.pointer (some ⟨g, 0, none⟩), .int .i64 k] W fun e w' => e = .returned (.tuple #[.agg #[.int .u64 (n64 (sF (spn c a k))), .int .u64 (n64 (sL (spn c a k)))], .bool (spn c a k).isSome]) ∧ Below W.heap.size W w') := fun k hk W h1 h2 => DY c a hA g k hk W h1 h2
 obtain ⟨m1, hm1⟩ : ∃ m1, m1 = (MT (hn c a ad s) s).1 := ⟨_, rfl⟩
 obtain ⟨m2, hm2⟩ : ∃ m2, m2 = (MT (hn c a ad s) s).2 := ⟨_, rfl⟩
 rw [← hm1, ← hm2]
 have HM : Hid (mtF (hn c a ad s) s 16 0 = (m1, m2)) := by unfold Hid; rw [hm1, hm2]; rfl
 clear hm1 hm2 hg hT hA
 go_enter func148, ntmps148
 go_wp2
 go_loopw [12] (fun i wr => ∃ k : Nat, k ≤ 16 ∧ i = .int .i64 k ∧ Hid (mtF (hn c a ad s) s (16 - k) k = (m1, m2)) ∧ Hid (Row wr g (ec c a) 175) ∧ Hid (Tb wr) ∧ Hid (Below w.heap.size w wr)) (fun i _ => 16 - (intOf i).toNat)
 case atStart => exact ⟨0, by omega, rfl, HM, HG, HT, Below.refl _ _⟩
 case round =>
  clear HM HG HT
  obtain ⟨k, hk, rfl, hm, h0, h1, hb⟩ := hrel
  by_cases hlt : k < 16
  ·have hlt2 : (k : Int) < 16 := by omega
   obtain ⟨n, hn1⟩ : ∃ n, 16 - k = n + 1 := ⟨15 - k, by omega⟩
   have HN : Hid (16 - (k + 1) = n) := by unfold Hid; omega
   rw [hn1] at hm
   have hlw := h0.out.lt
   have hS := HSp.out k hlt wr h1.out h0.out
   have HH : Hid (hn c a ad s k = match spn c a k with | none => 0 | some (f, l) => hcn f l ad s) := rfl
   cases hX : spn c a k with
   | none =>
    rw [hX] at hS HH
    have hmiss := hm.out
    rw [mL _ _ _ _ (by rw [HH.out]; simp), ← HN.out] at hmiss
    have HMs : Hid (mtF (hn c a ad s) s (16 - (k + 1)) (k + 1) = (m1, m2)) := hmiss
    have HSS : Hid (Calls prog 155 #[.pointer (some ⟨g, 0, none⟩), .int .i64 k] wr fun e w' => e = .returned (.tuple #[.agg #[.int .u64 0, .int .u64 0], .bool false]) ∧ Below wr.heap.size wr w') := hS
    clear hmiss hX hS HH hn1 hm
    go_wp2_with (go_at_call 155; refine HSS.out.mono ?_; rintro e w1 ⟨rfl, hb1⟩; have HB1 := hid hb1; clear hb1)
    go_roundw
    case rel => exact ⟨k + 1, by omega, by go_num, HMs, (h0.out.later HB1.out hlw).old (Nat.lt_of_lt_of_le hlw HB1.out.size) _, (h1.out.next HB1.out).alloc _, (hb.out.trans (HB1.out.mono hb.out.size)).alloc (Nat.le_trans hb.out.size HB1.out.size) _⟩
    case measure => simp [intOf]; omega
   | some fl =>
    obtain ⟨f, l⟩ := fl
    rw [hX] at hS HH
    have HSS : Hid (Calls prog 155 #[.pointer (some ⟨g, 0, none⟩), .int .i64 k] wr fun e w' => e = .returned (.tuple #[.agg #[.int .u64 (n64 f), .int .u64 (n64 l)], .bool true]) ∧ Below wr.heap.size wr w') := hS
    have HHd : Hid (∀ W, Calls prog 156 #[.agg #[.int .u64 (n64 f), .int .u64 (n64 l)], .int .u64 (n64 ad), .int .i64 s] W fun e w' => e = .returned (.int .i64 (hn c a ad s k : Nat)) ∧ Below W.heap.size W w') := fun W => by
     rw [HH.out]
     exact LX f l ad s hs W
    clear hX hS HH
    obtain ⟨q, hq⟩ : ∃ q, q = hn c a ad s k := ⟨_, rfl⟩
    rw [← hq] at HHd
    by_cases hpos : 0 < q
    ·have hhit := hm.out
     rw [uL _ _ _ _ (by rw [← hq]; exact hpos), ← hq] at hhit
     simp only [Prod.mk.injEq] at hhit
     obtain ⟨z1, z2⟩ := hhit
     have Z1 := hid z1
     have Z2 := hid z2
     have hpos2 : (0 : Int) < q := by omega
     clear z1 z2 hq hm hn1
     go_wp2_with (first | (go_at_call 155; refine HSS.out.mono ?_; rintro e w1 ⟨rfl, hb1⟩; have HB1 : Hid (Below w.heap.size w w1) := hb.out.trans (hb1.mono hb.out.size); clear hb1) | (go_at_call 156; refine (HHd.out _).mono ?_; rintro e w2 ⟨rfl, hb2⟩; have HB2 : Hid (Below w.heap.size w w2) := (HB1.out.alloc HB1.out.size _).trans (hb2.mono (Nat.le_trans HB1.out.size (by simp))); clear hb2))
     go_ret2
     refine ⟨?_, HB2.out⟩
     have y1 := Z1.out
     have y2 := Z2.out
     simp_all
    ·have hmiss := hm.out
     rw [mL _ _ _ _ (by rw [← hq]; exact hpos), ← HN.out] at hmiss
     have HMs : Hid (mtF (hn c a ad s) s (16 - (k + 1)) (k + 1) = (m1, m2)) := hmiss
     obtain rfl : q = 0 := by omega
     have hz : ((0 : Nat) : Int) = 0 := rfl
     rw [hz] at HHd
     clear hmiss hq hm hn1 hpos hz
     go_wp2_with (first | (go_at_call 155; refine HSS.out.mono ?_; rintro e w1 ⟨rfl, hb1⟩; have HB1 := hid hb1; clear hb1) | (go_at_call 156; refine (HHd.out _).mono ?_; rintro e w2 ⟨rfl, hb2⟩; have HB2 : Hid (Below wr.heap.size wr w2) := (HB1.out.alloc HB1.out.size _).trans (hb2.mono (Nat.le_trans HB1.out.size (by simp))); clear hb2))
     go_roundw
     case rel => exact ⟨k + 1, by omega, by go_num, HMs, h0.out.later HB2.out hlw, h1.out.next HB2.out, hb.out.trans (HB2.out.mono hb.out.size)⟩
     case measure => simp [intOf]; omega
  ·obtain rfl : k = 16 := by omega
   have e16 : ((16 : Nat) : Int) = 16 := rfl
   rw [e16]
   have hq := hm.out
   simp only [Nat.sub_self, mtF, Prod.mk.injEq] at hq
   obtain ⟨z1, z2⟩ := hq
   clear hm hk hlt e16
   subst z1
   subst z2
   go_wp2
   go_ret2
   exact ⟨rfl, hb.out⟩
def hdB (c : Nat → BitVec 8) (a : Nat → BitVec 64) (k : Nat) (x : BitVec 64) : Bool := match spn c a k with | none => false | some (f, l) => inR f l x
theorem EB (c : Nat → BitVec 8) (a : Nat → BitVec 64) (ad : BitVec 64) (k : Nat) : hn c a ad 0 k = 0 := by unfold hn; split <;> rfl
theorem EA (c : Nat → BitVec 8) (a : Nat → BitVec 64) (ad : BitVec 64) (j k : Nat) : hn c a ad (j + 1) k = hn c a ad j k + (if hdB c a k (ad + BitVec.ofNat 64 j) = true then 1 else 0) := by
 unfold hn hdB
 cases spn c a k with
 | none => rfl
 | some fl => rfl
theorem SI (c : Nat → BitVec 8) (a : Nat → BitVec 64) (ad : BitVec 64) (j k : Nat) : hn c a ad j k ≤ j := by
 unfold hn; split
 ·omega
 ·exact sJ _ _ _ _
theorem AO (c : Nat → BitVec 8) (a : Nat → BitVec 64) (k : Nat) (hk : k < 16) (x : BitVec 64) (w : World) :
  Calls prog 137 #[.agg (pc c a), .int .i64 k, .int .u64 (n64 x)] w fun e w' => e = .returned (.bool (hdB (PC c) (PA a) k x)) ∧ Below w.heap.size w w' := by
 obtain ⟨W0, hW0, r0, b0, s0⟩ := cO w (pc c a) 27
 have HS := hid s0
 clear s0
 have hB := FU c a k
 rw [mT _ _ _ hk] at hB
 have HH : Hid (hdB (PC c) (PA a) k x = match spn (PC c) (PA a) k with | none => false | some (f, l) => inR f l x) := rfl
 obtain ⟨q, hq⟩ : ∃ q, q = hdB (PC c) (PA a) k x := ⟨_, rfl⟩
 rw [← hq] at HH ⊢
 clear hq
 cases hX : spn (PC c) (PA a) k with
 | none =>
  rw [hX] at hB HH
  have HB : Hid (∀ W : World, Calls prog 154 #[.agg (pc c a), .int .i64 k] W fun e w' => e = .returned (.tuple #[.int .u64 0, .int .u64 0, .bool false]) ∧ Below W.heap.size W w') := hB
  have e9 : q = false := HH.out
  subst e9
  clear hB hX HH
  go_enter func137, ntmps137
  go_upto_region 1 with fail
  clear hW0
  go_wp2_with (first | (refine aS (by rfl) _ _ (by rfl) _ (by rfl) 27 _ (0, 0) _ r0.out underlying27 (by rfl) (by rw [aP]; kernel_rfl) ?_) | (go_at_call 154; refine (HB.out _).mono ?_; rintro e w1 ⟨rfl, hb⟩; have HB1 := hid hb; clear hb))
  go_ret
  exact ⟨rfl, b0.out.trans (HB1.out.mono (by rw [HS.out]; omega))⟩
 | some fl =>
  obtain ⟨f, l⟩ := fl
  rw [hX] at hB HH
  have HB : Hid (∀ W : World, Calls prog 154 #[.agg (pc c a), .int .i64 k] W fun e w' => e = .returned (.tuple #[.int .u64 (n64 f), .int .u64 (n64 l), .bool true]) ∧ Below W.heap.size W w') := hB
  have HQ : Hid (q = (decide (n64 f ≤ n64 x) && decide (n64 x ≤ n64 l))) := HH
  clear hB hX HH
  by_cases h1 : n64 f ≤ n64 x
  ·go_enter func137, ntmps137
   go_upto_region 1 with fail
   clear hW0
   go_wp2_with (first | (refine aS (by rfl) _ _ (by rfl) _ (by rfl) 27 _ (0, 0) _ r0.out underlying27 (by rfl) (by rw [aP]; kernel_rfl) ?_) | (go_at_call 154; refine (HB.out _).mono ?_; rintro e w1 ⟨rfl, hb⟩; have HB1 := hid hb; clear hb))
   go_ret
   exact ⟨by rw [HQ.out, decide_eq_true h1, Bool.true_and]; first | done | rfl, b0.out.trans (HB1.out.mono (by rw [HS.out]; omega))⟩
  ·go_enter func137, ntmps137
   go_upto_region 1 with fail
   clear hW0
   go_wp2_with (first | (refine aS (by rfl) _ _ (by rfl) _ (by rfl) 27 _ (0, 0) _ r0.out underlying27 (by rfl) (by rw [aP]; kernel_rfl) ?_) | (go_at_call 154; refine (HB.out _).mono ?_; rintro e w1 ⟨rfl, hb⟩; have HB1 := hid hb; clear hb))
   go_ret
   exact ⟨by rw [HQ.out, decide_eq_false (show ¬ n64 f ≤ n64 x by omega), Bool.false_and]; first | done | rfl, b0.out.trans (HB1.out.mono (by rw [HS.out]; omega))⟩
theorem wT (c : Nat → BitVec 8) (a : Nat → BitVec 64) (ad : BitVec 64) (s : Nat) (h1 : 1 ≤ s) (h8 : s ≤ 8) (w : World) :
  Calls prog 118 #[.agg (pc c a), .int .u64 (n64 ad), .int .i64 s] w fun e w' => e = .returned (.tuple #[.int .i64 (MT (hn (PC c) (PA a) ad s) s).1, .bool (MT (hn (PC c) (PA a) ad s) s).2]) ∧ Below w.heap.size w w' := by
 obtain ⟨W0, hW0, r0, b0, s0⟩ := cO w (pc c a) 27
 have HS := hid s0
 clear s0
 have n1 : ¬ (s : Int) < 1 := by omega
 have n8' : ¬ (8 : Int) < s := by omega
 have hs8 : (s : Int) ≤ 8 := by omega
 obtain ⟨m1, hm1⟩ : ∃ m1, m1 = (MT (hn (PC c) (PA a) ad s) s).1 := ⟨_, rfl⟩
 obtain ⟨m2, hm2⟩ : ∃ m2, m2 = (MT (hn (PC c) (PA a) ad s) s).2 := ⟨_, rfl⟩
 rw [← hm1, ← hm2]
 have HM : Hid (mtF (hn (PC c) (PA a) ad s) s 16 0 = (m1, m2)) := by unfold Hid; rw [hm1, hm2]; rfl
 have HHo : Hid (∀ (k : Nat), k < 16 → ∀ (x : BitVec 64) W, Calls prog 137 #[.agg (pc c a), .int .i64 k, .int .u64 (n64 x)] W fun e w' => e = .returned (.bool (hdB (PC c) (PA a) k x)) ∧ Below W.heap.size W w') := fun k hk x W => AO c a k hk x W
 clear hm1 hm2
 go_enter func118, ntmps118
 go_wp2
 clear hW0
 go_loopw [8] (fun i wr => ∃ k : Nat, k ≤ 16 ∧ i = .int .i64 k ∧ Hid (mtF (hn (PC c) (PA a) ad s) s (16 - k) k = (m1, m2)) ∧ Hid (Row wr w.heap.size (pc c a) 27) ∧ Hid (Below w.heap.size w wr)) (fun i _ => 16 - (intOf i).toNat)
 case atStart => exact ⟨0, by omega, rfl, HM, r0, b0⟩
 case round =>
  clear HM r0 b0 HS
  obtain ⟨k, hk, rfl, hm, h0, hb⟩ := hrel
  by_cases hlt : k < 16
  ·have hlt2 : (k : Int) < 16 := by omega
   obtain ⟨n, hn1⟩ : ∃ n, 16 - k = n + 1 := ⟨15 - k, by omega⟩
   have HN : Hid (16 - (k + 1) = n) := by unfold Hid; omega
   rw [hn1] at hm
   have HZ : Hid (hn (PC c) (PA a) ad 0 k = 0) := EB _ _ _ _
   clear hn1
   go_wp2
   go_loopw [9, 10] (fun q i wq => ∃ j : Nat, j ≤ s ∧ i = .int .i64 j ∧ q = .int .i64 (hn (PC c) (PA a) ad j k : Nat) ∧ Hid (Row wq w.heap.size (pc c a) 27) ∧ Hid (Below w.heap.size w wq)) (fun _ i _ => s - (intOf i).toNat)
   case atStart => exact ⟨0, by omega, rfl, by rw [HZ.out]; rfl, h0, hb⟩
   case round =>
    clear h0 hb
    obtain ⟨j, hj, rfl, rfl, g0, gb⟩ := hrel
    by_cases hjl : j < s
    ·have hjl2 : (j : Int) < s := by omega
     have HA := xY ad j (by omega)
     have HC : Hid (hn (PC c) (PA a) ad (j + 1) k = hn (PC c) (PA a) ad j k + (if hdB (PC c) (PA a) k (ad + BitVec.ofNat 64 j) = true then 1 else 0)) := EA _ _ _ _ _
     have hle := SI (PC c) (PA a) ad j k
     have hcall := fun W => HHo.out k hlt (ad + BitVec.ofNat 64 j) W
     generalize hn (PC c) (PA a) ad j k = q at HC hle ⊢
     generalize ad + BitVec.ofNat 64 j = x at HA HC hcall
     have hq8 : (q : Int) ≤ 8 := by omega
     have glt := g0.out.lt
     cases hv : hdB (PC c) (PA a) k x with
     | true =>
      rw [hv] at HC hcall
      have H3 : Hid (hn (PC c) (PA a) ad (j + 1) k = q + 1) := HC
      have HCL : Hid (∀ W, Calls prog 137 #[.agg (pc c a), .int .i64 k, .int .u64 (n64 x)] W fun e w' => e = .returned (.bool true) ∧ Below W.heap.size W w') := hcall
      clear HC hcall hv
      go_wp2_with (first | (refine aS (by rfl) _ _ (by rfl) _ (by rfl) 27 _ (0, 0) _ g0.out underlying27 (by rfl) (by rw [aP]; kernel_rfl) ?_) | (go_at_call 137; refine (HCL.out _).mono ?_; rintro e w3 ⟨rfl, hb3⟩; have HB3 := hid hb3; clear hb3))
      go_roundw
      case rel => exact ⟨j + 1, by omega, by go_num, by rw [H3.out]; go_num, g0.out.later HB3.out glt, gb.out.trans (HB3.out.mono gb.out.size)⟩
      case measure => simp [intOf]; omega
     | false =>
      rw [hv] at HC hcall
      have H3 : Hid (hn (PC c) (PA a) ad (j + 1) k = q) := HC
      have HCL : Hid (∀ W, Calls prog 137 #[.agg (pc c a), .int .i64 k, .int .u64 (n64 x)] W fun e w' => e = .returned (.bool false) ∧ Below W.heap.size W w') := hcall
      clear HC hcall hv
      go_wp2_with (first | (refine aS (by rfl) _ _ (by rfl) _ (by rfl) 27 _ (0, 0) _ g0.out underlying27 (by rfl) (by rw [aP]; kernel_rfl) ?_) | (go_at_call 137; refine (HCL.out _).mono ?_; rintro e w3 ⟨rfl, hb3⟩; have HB3 := hid hb3; clear hb3))
      go_roundw
      case rel => exact ⟨j + 1, by omega, by go_num, by rw [H3.out], g0.out.later HB3.out glt, gb.out.trans (HB3.out.mono gb.out.size)⟩
      case measure => simp [intOf]; omega
    ·obtain rfl : j = s := by omega
     obtain ⟨q, hq⟩ : ∃ q, q = hn (PC c) (PA a) ad j k := ⟨_, rfl⟩
     rw [← hq]
     by_cases hpos : 0 < q
     ·have hhit := hm.out
      rw [uL _ _ _ _ (by rw [← hq]; exact hpos), ← hq] at hhit
      simp only [Prod.mk.injEq] at hhit
      obtain ⟨z1, z2⟩ := hhit
      have Z1 := hid z1
      have Z2 := hid z2
      have hpos2 : (0 : Int) < q := by omega
      clear z1 z2 hq hm
      go_wp2
      go_ret2
      refine ⟨?_, gb.out⟩
      have y1 := Z1.out
      have y2 := Z2.out
      simp_all
     ·have hmiss := hm.out
      rw [mL _ _ _ _ (by rw [← hq]; exact hpos), ← HN.out] at hmiss
      have HMs : Hid (mtF (hn (PC c) (PA a) ad j) j (16 - (k + 1)) (k + 1) = (m1, m2)) := hmiss
      obtain rfl : q = 0 := by omega
      have hz : ((0 : Nat) : Int) = 0 := rfl
      rw [hz]
      clear hmiss hq hm hpos hz
      go_wp2
      go_roundw
      case rel => exact ⟨k + 1, by omega, by go_num, HMs, g0, gb⟩
      case measure => simp [intOf]; omega
  ·obtain rfl : k = 16 := by omega
   have e16 : ((16 : Nat) : Int) = 16 := rfl
   rw [e16]
   have hq := hm.out
   simp only [Nat.sub_self, mtF, Prod.mk.injEq] at hq
   obtain ⟨z1, z2⟩ := hq
   clear hm hk hlt e16
   subst z1
   subst z2
   go_wp2
   go_ret2
   exact ⟨rfl, hb.out⟩
theorem nV (h : Nat → Nat) (s : Nat) : ∀ n i, (mtF h s n i).1 = -1 ∧ (mtF h s n i).2 = false ∨ ∃ k : Nat, k < i + n ∧ (mtF h s n i).1 = (k : Int)
 | 0, i => .inl ⟨rfl, rfl⟩
 | n + 1, i => by
  rw [mtF]
  split
  ·exact .inr ⟨i, by omega, rfl⟩
  ·rcases nV h s n (i + 1) with h1 | ⟨k, hk, h1⟩
   ·exact .inl h1
   ·exact .inr ⟨k, by omega, h1⟩
theorem pM (h : Nat → Nat) (s : Nat) : MT h s = (-1, false) ∨ ∃ (k : Nat) (q : Bool), k < 16 ∧ MT h s = ((k : Int), q) := by
 rcases nV h s 16 0 with ⟨h1, h2⟩ | ⟨k, hk, h1⟩
 ·exact .inl (Prod.ext h1 h2)
 ·exact .inr ⟨k, _, by omega, Prod.ext h1 rfl⟩
theorem sE : ∀ x : BitVec 8, ∀ b ∈ [(1 : Int), 2, 3, 4, 5, 6, 7], bits .and .i64 (n8 x) b = bits .and .i64 (n8 (rts x)) b := by decide +kernel
theorem pcl_twice' : ∀ x : BitVec 8, pcl (pcl x) = pcl x := by decide +kernel
theorem PC_twice' (c : Nat → BitVec 8) : PC (PC c) = PC c := funext fun j => pcl_twice' (c j)
theorem PA_twice' (a : Nat → BitVec 64) : PA (PA a) = PA a := funext fun j => by show pad (pad (a j)) = pad (a j); unfold pad; rw [BitVec.and_assoc, BitVec.and_self]
end Go.Proofs.YtiffkbmppmejhaaGreatDoor
