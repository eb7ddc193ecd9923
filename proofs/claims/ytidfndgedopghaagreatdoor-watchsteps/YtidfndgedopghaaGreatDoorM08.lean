/-
  Psc Psd Pse.
-/
import Derived.Test.YtidfndgedopghaaGreatDoorM07
import Derived.Laws.ResultCell
import Derived.OwnWalk
namespace Go.Proofs.YtidfndgedopghaaGreatDoor
set_option linter.unusedVariables false
open Go.ChangeShapes Go.WideShapes Go.ChangeAt Go.RowKit Go.Deep
theorem results_cell_row_tmp {P : Program} {fn : Func} {p u : Tmp} {ty : TypeId} (h : fn.results = #[.cell p ty, .tmp u]) (tmps : Array Value) (w : World) (g : Nat) (t : TypeId) (cs : Array Value) (fr : Nat × Nat) (d : TypeDesc) (v : Value)
    (hp : tmps.getD p undef = .pointer (some ⟨g, 0, none⟩)) (hv : tmps.getD u undef = v) (hg : w.heap[g]? = some (.cells cs t fr))
    (hu : P.underlying ty = some d) (hd : (match d with | .struct _ | .array _ _ => true | _ => false) = true) (hi : (P.info? ty).map (·.size) = some cs.size) :
    (results fn tmps).run P w = .ok (.tuple #[.agg cs, v]) w := by
  rw [results_cell_tmp h]
  have hp' : tmps[p]?.getD undef = .pointer (some ⟨g, 0, none⟩) := by simpa using hp
  have hv' : tmps[u]?.getD undef = v := by simpa using hv
  simp [hp', hv', asAddr, run_loadVar_row w g t ty cs fr d hg hu hd hi, Result.andThen]
/-- Where a range that ends at an Addr begins. -/
def frm (a : Nat → BitVec 64) (k : Nat) : BitVec 64 := if k = 0 then 0#64 else a (k - 1)
/-- The range of an entry that is proper. -/
def spn (c : Nat → BitVec 8) (a : Nat → BitVec 64) (k : Nat) : Option (BitVec 64 × BitVec 64) :=
  if kd (c k) = 1#8 then (if n64 (a k) ≤ n64 (frm a k) then none else some (frm a k <<< 2, a k <<< 2 - 1#64))
  else if kd (c k) = 2#8 then some (a k <<< 2, a k <<< 2 + 3#64)
  else if kd (c k) = 3#8 then some (npF (a k), npL (a k)) else none
def sF (o : Option (BitVec 64 × BitVec 64)) : BitVec 64 := (o.getD (0#64, 0#64)).1
def sL (o : Option (BitVec 64 × BitVec 64)) : BitVec 64 := (o.getD (0#64, 0#64)).2
def spV (o : Option (BitVec 64 × BitVec 64)) : Value := .agg #[.int .u64 (n64 (sF o)), .int .u64 (n64 (sL o))]
def torV (a : Nat → BitVec 64) (k : Nat) : Option (BitVec 64 × BitVec 64) := if n64 (a k) ≤ n64 (frm a k) then none else some (frm a k <<< 2, a k <<< 2 - 1#64)
set_option maxRecDepth 100000 in
set_option maxHeartbeats 1000000 in
theorem tor_c (c : Nat → BitVec 8) (a : Nat → BitVec 64) (g k : Nat) (hk : k < 16) (w : World) (hg : Row w g (ec c a) 89) :
    Calls Tryz.prog 158 #[.pointer (some ⟨g, 0, none⟩), .int .i64 k] w fun e w' => e = .returned (.tuple #[spV (torV a k), .bool (torV a k).isSome]) ∧ Below w.heap.size w w' := by
  have hk2 : (k : Int) < 16 := by omega
  have c1 := row_addr hg k hk
  have hlg := hg.lt
  have e4 : IntKind.u64.wrap (n64 (a k) * 4) = n64 (a k <<< 2) := n64_shl (a k) 2
  have e5 : IntKind.u64.wrap (n64 (a k <<< 2) - 1) = n64 (a k <<< 2 - 1#64) := n64_sub (a k <<< 2) 1#64
  have e6 : IntKind.u64.wrap (n64 (frm a k) * 4) = n64 (frm a k <<< 2) := n64_shl (frm a k) 2
  obtain ⟨X, hX⟩ : ∃ X, X = torV a k := ⟨_, rfl⟩
  rw [← hX]
  have HX : Hid (X = torV a k) := hX
  clear hX
  cases k with
  | zero =>
    have hfr : frm a 0 = 0#64 := rfl
    by_cases hc : n64 (a 0) ≤ n64 (frm a 0)
    · have e9 : X = none := by rw [HX.out, torV, if_pos hc]
      subst e9
      rw [hfr] at hc
      have hc2 : n64 (a 0) ≤ 0 := hc
      clear HX hg hc hfr e6
      go_enter Tryz.func158, Tryz.ntmps158
      go_wp2
      exact bodyPost_ret (results_cell_row_tmp Tryz.results158 _ _ w.heap.size 118 _ (0, 0) _ _ (by rfl) (by rfl) (heap_alloc_last w _) Tryz.underlying118 (by rfl) (by kernel_rfl)) rfl ⟨rfl, (Below.refl _ _).alloc (Nat.le_refl _) _⟩
    · have e9 : X = some (0#64 <<< 2, a 0 <<< 2 - 1#64) := by rw [HX.out, torV, if_neg hc, hfr]
      subst e9
      rw [hfr] at hc
      have hc2 : ¬ n64 (a 0) ≤ 0 := hc
      clear HX hg hc hfr e6
      go_enter Tryz.func158, Tryz.ntmps158
      go_wp2
      exact bodyPost_ret (results_cell_row_tmp Tryz.results158 _ _ w.heap.size 118 _ (0, 0) _ _ (by rfl) (by rfl) (heap_alloc_last w _) Tryz.underlying118 (by rfl) (by kernel_rfl)) rfl ⟨by simp_all [spV, sF, sL, n64], (Below.refl _ _).alloc (Nat.le_refl _) _⟩
  | succ j =>
    have hfr : frm a (j + 1) = a j := rfl
    have c2 := row_addr hg j (by omega)
    rw [hfr] at e6
    have hj2 : (j : Int) + 1 < 16 := by omega
    have ej : ((j + 1 : Nat) : Int) = (j : Int) + 1 := by omega
    rw [ej]
    have hj3 : (0 : Int) < (j : Int) + 1 := by omega
    by_cases hc : n64 (a (j + 1)) ≤ n64 (frm a (j + 1))
    · have e9 : X = none := by rw [HX.out, torV, if_pos hc]
      subst e9
      rw [hfr] at hc
      clear HX hg hfr hk2 hk ej
      go_enter Tryz.func158, Tryz.ntmps158
      go_wp2
      exact bodyPost_ret (results_cell_row_tmp Tryz.results158 _ _ w.heap.size 118 _ (0, 0) _ _ (by rfl) (by rfl) (heap_alloc_last w _) Tryz.underlying118 (by rfl) (by kernel_rfl)) rfl ⟨rfl, (Below.refl _ _).alloc (Nat.le_refl _) _⟩
    · have e9 : X = some (a j <<< 2, a (j + 1) <<< 2 - 1#64) := by rw [HX.out, torV, if_neg hc, hfr]
      subst e9
      rw [hfr] at hc
      clear HX hg hfr hk2 hk ej
      go_enter Tryz.func158, Tryz.ntmps158
      go_wp2
      exact bodyPost_ret (results_cell_row_tmp Tryz.results158 _ _ w.heap.size 118 _ (0, 0) _ _ (by rfl) (by rfl) (heap_alloc_last w _) Tryz.underlying118 (by rfl) (by kernel_rfl)) rfl ⟨by simp_all [spV, sF, sL], (Below.refl _ _).alloc (Nat.le_refl _) _⟩
theorem kd_cases : ∀ x : BitVec 8, kd x = 0#8 ∨ kd x = 1#8 ∨ kd x = 2#8 ∨ kd x = 3#8 := by decide +kernel
theorem pad_lt (x : BitVec 64) : (pad x).toNat < 2 ^ 54 := by
  unfold pad
  rw [BitVec.toNat_and]
  exact Nat.and_lt_two_pow _ (by decide)
theorem row2 {w : World} {g : Nat} {x y : Value} {t : TypeId} (h : Row w g #[x, y] t) (u v : Value) : Row ((w.setCell ⟨g, 0, none⟩ u).setCell ⟨g, 1, none⟩ v) g #[u, v] t := by
  have := Row.put (i := 1) (Row.put (i := 0) h u) v
  simpa using this
set_option maxRecDepth 100000 in
set_option maxHeartbeats 2000000 in
theorem espan_c (c : Nat → BitVec 8) (a : Nat → BitVec 64) (hA : ∀ j, (a j).toNat < 2 ^ 54) (g k : Nat) (hk : k < 16) (w : World) (hT : Tb w) (hg : Row w g (ec c a) 89) :
    Calls Tryz.prog 132 #[.pointer (some ⟨g, 0, none⟩), .int .i64 k] w fun e w' => e = .returned (.tuple #[spV (spn c a k), .bool (spn c a k).isSome]) ∧ Below w.heap.size w w' := by
  have hk2 : (k : Int) < 16 := by omega
  have hlg := hg.lt
  have HG : Hid (Row w g (ec c a) 89) := hg
  obtain ⟨W0, hW0, r0, b0, s0⟩ := start1 w #[Value.int .u64 0, .int .u64 0] 118
  have HS : Hid (W0.heap.size = w.heap.size + 1) := s0
  have HGW : Hid (Row W0 g (ec c a) 89) := by rw [← hW0]; exact hg.old hlg _
  have HT : Hid (Tb W0) := by rw [← hW0]; exact hT.alloc _
  have c0 := row_cfg HGW.out k hk
  have c1 := row_addr HGW.out k hk
  have HK : Hid (∀ W, Calls Tryz.prog 157 #[.agg #[.int .u8 (n8 (c k)), .int .u64 (n64 (a k))]] W fun e w' => e = .returned (.int .u8 (n8 (kd (c k)))) ∧ Below W.heap.size W w') := fun W => ekind_c _ _ W
  have HTor : Hid (∀ W, Row W g (ec c a) 89 → Calls Tryz.prog 158 #[.pointer (some ⟨g, 0, none⟩), .int .i64 k] W fun e w' => e = .returned (.tuple #[.agg #[.int .u64 (n64 (sF (torV a k))), .int .u64 (n64 (sL (torV a k)))], .bool (torV a k).isSome]) ∧ Below W.heap.size W w') := fun W h => tor_c c a g k hk W h
  have HNap : Hid (∀ W, Tb W → Calls Tryz.prog 159 #[.int .u64 (n64 (a k))] W fun e w' => e = .returned (.agg #[.int .u64 (n64 (npF (a k))), .int .u64 (n64 (npL (a k)))]) ∧ Below W.heap.size W w') := fun W h => napot_c (a k) (hA k) W h
  have e4 : IntKind.u64.wrap (n64 (a k) * 4) = n64 (a k <<< 2) := n64_shl (a k) 2
  have e5 : IntKind.u64.wrap (IntKind.u64.wrap (n64 (a k <<< 2) + 4) - 1) = n64 (a k <<< 2 + 3#64) := by
    have h1 : IntKind.u64.wrap (n64 (a k <<< 2) + 4) = n64 (a k <<< 2 + 4#64) := n64_add (a k <<< 2) 4#64
    rw [h1]
    have h2 : IntKind.u64.wrap (n64 (a k <<< 2 + 4#64) - 1) = n64 (a k <<< 2 + 4#64 - 1#64) := n64_sub (a k <<< 2 + 4#64) 1#64
    rw [h2]
    congr 1
    rw [BitVec.sub_eq_add_neg, BitVec.add_assoc]
    rfl
  obtain ⟨X, hX⟩ : ∃ X, X = spn c a k := ⟨_, rfl⟩
  rw [← hX]
  have HX : Hid (X = spn c a k) := hX
  have HCell : Hid (∀ W, Below W0.heap.size W0 W → W.cell? ⟨g, k * 2 + 1, none⟩ = some (.int .u64 (n64 (a k))) ∧ Row W g (ec c a) 89 ∧ Tb W ∧ Row W w.heap.size #[.int .u64 0, .int .u64 0] 118 ∧ Below w.heap.size w W ∧ w.heap.size + 1 ≤ W.heap.size) := fun W hb => by
    have hh := HGW.out.later hb (by rw [HS.out]; omega)
    exact ⟨row_addr hh k hk, hh, HT.out.next hb, r0.out.later hb (by rw [HS.out]; omega), b0.out.trans (hb.mono (by rw [HS.out]; omega)), by have := hb.size; rw [HS.out] at this; exact this⟩
  clear hX hg s0 hT hA
  rcases kd_cases (c k) with hq | hq | hq | hq
  · have e9 : X = none := by rw [HX.out, spn, if_neg (by rw [hq]; decide), if_neg (by rw [hq]; decide), if_neg (by rw [hq]; decide)]
    subst e9
    rw [hq] at HK
    have hz : n8 0#8 = 0 := rfl
    rw [hz] at HK
    clear hq HX hz
    go_enter Tryz.func132, Tryz.ntmps132
    go_upto_region 1 with fail
    clear hW0
    go_wp2_with ((go_at_call 157; refine (HK.out _).mono ?_; rintro e w1 ⟨rfl, hb⟩; have HB1 : Hid (Below W0.heap.size W0 w1) := hb; obtain ⟨d1, d2, d3, d4, d5, d6⟩ := HCell.out w1 hb; have D2 : Hid (Row w1 g (ec c a) 89) := d2; have D3 : Hid (Tb w1) := d3; have D4 : Hid (Row w1 w.heap.size #[.int .u64 0, .int .u64 0] 118) := d4; have D5 : Hid (Below w.heap.size w w1) := d5; have c8 := d4.cell 0; have c9 := d4.cell 1; have f8 := d4.froz 0; have f9 := d4.froz 1; clear hb d2 d3 d4 d5))
    refine bodyPost_ret (results_cell_row_tmp Tryz.results132 _ _ w.heap.size 118 _ (0, 0) _ _ (by rfl) (by rfl) (row2 D4.out _ _) Tryz.underlying118 (by rfl) (by kernel_rfl)) rfl ⟨?_, below_put (below_put D5.out (Nat.le_refl _) _) (Nat.le_refl _) _⟩
    rfl
  · have e9 : X = torV a k := by rw [HX.out, spn, if_pos hq]; rfl
    subst e9
    rw [hq] at HK
    have hz : n8 1#8 = 1 := rfl
    rw [hz] at HK
    clear hq HX hz
    generalize torV a k = X at HTor ⊢
    go_enter Tryz.func132, Tryz.ntmps132
    go_upto_region 1 with fail
    clear hW0
    go_wp2_with (first | (go_at_call 157; refine (HK.out _).mono ?_; rintro e w1 ⟨rfl, hb⟩; have HB1 : Hid (Below W0.heap.size W0 w1) := hb; obtain ⟨d1, d2, d3, d4, d5, d6⟩ := HCell.out w1 hb; have D2 : Hid (Row w1 g (ec c a) 89) := d2; have D3 : Hid (Tb w1) := d3; have D4 : Hid (Row w1 w.heap.size #[.int .u64 0, .int .u64 0] 118) := d4; have D5 : Hid (Below w.heap.size w w1) := d5; have c8 := d4.cell 0; have c9 := d4.cell 1; have f8 := d4.froz 0; have f9 := d4.froz 1; clear hb d2 d3 d4 d5) | (go_at_call 158; refine (HTor.out w1 D2.out).mono ?_; rintro e w2 ⟨rfl, hb⟩; have HB2 : Hid (Below W0.heap.size W0 w2) := HB1.out.trans (hb.mono HB1.out.size); obtain ⟨g1, g2, g3, g4, g5, g6⟩ := HCell.out w2 HB2.out; have G4 : Hid (Row w2 w.heap.size #[.int .u64 0, .int .u64 0] 118) := g4; have G5 : Hid (Below w.heap.size w w2) := g5; have k8 := g4.cell 0; have k9 := g4.cell 1; have l8 := g4.froz 0; have l9 := g4.froz 1; clear hb g2 g3 g4 g5))
    refine bodyPost_ret (results_cell_row_tmp Tryz.results132 _ _ w.heap.size 118 _ (0, 0) _ _ (by rfl) (by rfl) (row2 G4.out _ _) Tryz.underlying118 (by rfl) (by kernel_rfl)) rfl ⟨?_, below_put (below_put G5.out (Nat.le_refl _) _) (Nat.le_refl _) _⟩
    rfl
  · have e9 : X = some (a k <<< 2, a k <<< 2 + 3#64) := by rw [HX.out, spn, if_neg (by rw [hq]; decide), if_pos hq]
    subst e9
    rw [hq] at HK
    have hz : n8 2#8 = 2 := rfl
    rw [hz] at HK
    clear hq HX hz
    go_enter Tryz.func132, Tryz.ntmps132
    go_upto_region 1 with fail
    clear hW0
    go_wp2_with ((go_at_call 157; refine (HK.out _).mono ?_; rintro e w1 ⟨rfl, hb⟩; have HB1 : Hid (Below W0.heap.size W0 w1) := hb; obtain ⟨d1, d2, d3, d4, d5, d6⟩ := HCell.out w1 hb; have D2 : Hid (Row w1 g (ec c a) 89) := d2; have D3 : Hid (Tb w1) := d3; have D4 : Hid (Row w1 w.heap.size #[.int .u64 0, .int .u64 0] 118) := d4; have D5 : Hid (Below w.heap.size w w1) := d5; have c8 := d4.cell 0; have c9 := d4.cell 1; have f8 := d4.froz 0; have f9 := d4.froz 1; clear hb d2 d3 d4 d5))
    refine bodyPost_ret (results_cell_row_tmp Tryz.results132 _ _ w.heap.size 118 _ (0, 0) _ _ (by rfl) (by rfl) (row2 D4.out _ _) Tryz.underlying118 (by rfl) (by kernel_rfl)) rfl ⟨?_, below_put (below_put D5.out (Nat.le_refl _) _) (Nat.le_refl _) _⟩
    simp_all [spV, sF, sL]
  · have e9 : X = some (npF (a k), npL (a k)) := by rw [HX.out, spn, if_neg (by rw [hq]; decide), if_neg (by rw [hq]; decide), if_pos hq]
    subst e9
    rw [hq] at HK
    have hz : n8 3#8 = 3 := rfl
    rw [hz] at HK
    clear hq HX hz
    go_enter Tryz.func132, Tryz.ntmps132
    go_upto_region 1 with fail
    clear hW0
    go_wp2_with (first | (go_at_call 157; refine (HK.out _).mono ?_; rintro e w1 ⟨rfl, hb⟩; have HB1 : Hid (Below W0.heap.size W0 w1) := hb; obtain ⟨d1, d2, d3, d4, d5, d6⟩ := HCell.out w1 hb; have D2 : Hid (Row w1 g (ec c a) 89) := d2; have D3 : Hid (Tb w1) := d3; have D4 : Hid (Row w1 w.heap.size #[.int .u64 0, .int .u64 0] 118) := d4; have D5 : Hid (Below w.heap.size w w1) := d5; have c8 := d4.cell 0; have c9 := d4.cell 1; have f8 := d4.froz 0; have f9 := d4.froz 1; clear hb d2 d3 d4 d5) | (go_at_call 159; refine (HNap.out w1 D3.out).mono ?_; rintro e w2 ⟨rfl, hb⟩; have HB2 : Hid (Below W0.heap.size W0 w2) := HB1.out.trans (hb.mono HB1.out.size); obtain ⟨g1, g2, g3, g4, g5, g6⟩ := HCell.out w2 HB2.out; have G4 : Hid (Row w2 w.heap.size #[.int .u64 0, .int .u64 0] 118) := g4; have G5 : Hid (Below w.heap.size w w2) := g5; have k8 := g4.cell 0; have k9 := g4.cell 1; have l8 := g4.froz 0; have l9 := g4.froz 1; clear hb g2 g3 g4 g5))
    refine bodyPost_ret (results_cell_row_tmp Tryz.results132 _ _ w.heap.size 118 _ (0, 0) _ _ (by rfl) (by rfl) (row2 G4.out _ _) Tryz.underlying118 (by rfl) (by kernel_rfl)) rfl ⟨?_, below_put (below_put G5.out (Nat.le_refl _) _) (Nat.le_refl _) _⟩
    rfl
end Go.Proofs.YtidfndgedopghaaGreatDoor
namespace Go.Proofs.YtidfndgedopghaaGreatDoor
set_option linter.unusedVariables false
open Go.ChangeShapes Go.WideShapes Go.ChangeAt Go.RowKit Go.Deep
theorem PA_lt (a : Nat → BitVec 64) : ∀ j, (PA a j).toNat < 2 ^ 54 := fun j => pad_lt (a j)
theorem below_drewN {B : Nat} {w w' : World} (h : Below B w w') (n : Nat) : Below B w (w'.drewN n) := ⟨h.os, h.tape, h.output, h.size, h.block⟩
/-- Span's answer. -/
def spI (c : Nat → BitVec 8) (a : Nat → BitVec 64) (i : Int) : Option (BitVec 64 × BitVec 64) := if 0 ≤ i ∧ i < 16 then spn c a i.toNat else none
def sp3 (o : Option (BitVec 64 × BitVec 64)) : Value := .tuple #[.int .u64 (n64 (sF o)), .int .u64 (n64 (sL o)), .bool o.isSome]
end Go.Proofs.YtidfndgedopghaaGreatDoor
namespace Go.Proofs.YtidfndgedopghaaGreatDoor
set_option linter.unusedVariables false
open Go.ChangeShapes Go.WideShapes Go.ChangeAt Go.RowKit Go.Deep
theorem four_mul (x : BitVec 64) : IntKind.u64.wrap (4 * n64 x) = n64 (x <<< 2) := by rw [Int.mul_comm]; exact n64_shl x 2
theorem spI_in (c : Nat → BitVec 8) (a : Nat → BitVec 64) (k : Nat) (hk : k < 16) : spI c a k = spn c a k := by unfold spI; rw [if_pos (by omega)]; rfl
set_option maxRecDepth 100000 in
set_option maxHeartbeats 2000000 in
theorem rSpan_out (c : Nat → BitVec 8) (a : Nat → BitVec 64) (i : Int) (h : ¬ (0 ≤ i ∧ i < 16)) (w : World) :
    Calls Tryz.prog 160 #[.agg (pc c a), .int .i64 i] w fun e w' => e = .returned (sp3 (spI (PC c) (PA a) i)) ∧ Below w.heap.size w w' := by
  obtain ⟨W0, hW0, r0, b0, s0⟩ := start1 w (pc c a) 28
  have HS : Hid (W0.heap.size = w.heap.size + 1) := s0
  clear s0
  have e9 : spI (PC c) (PA a) i = none := by unfold spI; rw [if_neg h]
  rw [e9]
  clear e9
  go_enter Tryz.func160, Tryz.ntmps160
  go_upto_region 1 with fail
  clear hW0
  go_upto_region 2 with (first | (refine wpList_load_rowG (by rfl) _ _ (by rfl) _ (by rfl) 28 _ (0, 0) _ r0.out Tryz.underlying28 (by rfl) (by rw [pc_size]; kernel_rfl) ?_) | (go_at_call 47; refine (rProper_c c a _).mono ?_; rintro e w1 ⟨rfl, hb1⟩; have HB1 : Hid (Below W0.heap.size W0 w1) := hb1; clear hb1) | (refine wpList_store_row (by rfl) _ _ _ (by rfl) (by rfl) _ _ _ (by rfl) (by rfl) (r0.out.later HB1.out (by rw [HS.out]; omega)) (by rw [pc_size]; kernel_rfl) (by rw [pc_size, pc_size]) (pc_ones _ _) ?_))
  obtain ⟨W2, hW2, r2, b2, s2⟩ := start_p (pc (PC c) (PA a)) r0.out b0.out (by rw [HS.out]; omega) HB1.out
  rw [hW2]
  clear hW2 HB1 r0 b0 HS
  by_cases h0 : i < 0
  · go_wp2
    go_ret3
    exact ⟨rfl, b2.out⟩
  · have h1 : (15 : Int) < i := by omega
    go_wp2
    go_ret3
    exact ⟨rfl, b2.out⟩
set_option maxRecDepth 100000 in
set_option maxHeartbeats 2000000 in
theorem rSpan_0 (c : Nat → BitVec 8) (a : Nat → BitVec 64) (k : Nat) (hk : k < 16) (hq : kd (PC c k) = 0#8) (w : World) :
    Calls Tryz.prog 160 #[.agg (pc c a), .int .i64 k] w fun e w' => e = .returned (sp3 (spI (PC c) (PA a) k)) ∧ Below w.heap.size w w' := by
  obtain ⟨W0, hW0, r0, b0, s0⟩ := start1 w (pc c a) 28
  have HS : Hid (W0.heap.size = w.heap.size + 1) := s0
  clear s0
  obtain ⟨X, hX⟩ : ∃ X, X = spI (PC c) (PA a) k := ⟨_, rfl⟩
  rw [← hX]
  rw [spI_in _ _ _ hk] at hX
  have hk2 : (k : Int) < 16 := by omega
  have hn0 : ¬ (k : Int) < 0 := by omega
  have hn1 : ¬ (15 : Int) < k := by omega
  have HK : Hid (∀ W, Calls Tryz.prog 168 #[.agg (pc (PC c) (PA a)), .int .i64 k] W fun e w' => e = .returned (.int .i64 0) ∧ Below W.heap.size W w') := fun W => by
    have := rkind_c (PC c) (PA a) k hk W
    rw [hq] at this
    exact this
  have e9 : X = none := by rw [hX, spn, if_neg (by rw [hq]; decide), if_neg (by rw [hq]; decide), if_neg (by rw [hq]; decide)]
  subst e9
  clear hX hq
  go_enter Tryz.func160, Tryz.ntmps160
  go_upto_region 1 with fail
  clear hW0
  go_upto_region 2 with (first | (refine wpList_load_rowG (by rfl) _ _ (by rfl) _ (by rfl) 28 _ (0, 0) _ r0.out Tryz.underlying28 (by rfl) (by rw [pc_size]; kernel_rfl) ?_) | (go_at_call 47; refine (rProper_c c a _).mono ?_; rintro e w1 ⟨rfl, hb1⟩; have HB1 : Hid (Below W0.heap.size W0 w1) := hb1; clear hb1) | (refine wpList_store_row (by rfl) _ _ _ (by rfl) (by rfl) _ _ _ (by rfl) (by rfl) (r0.out.later HB1.out (by rw [HS.out]; omega)) (by rw [pc_size]; kernel_rfl) (by rw [pc_size, pc_size]) (pc_ones _ _) ?_))
  obtain ⟨W2, hW2, r2, b2, s2⟩ := start_p (pc (PC c) (PA a)) r0.out b0.out (by rw [HS.out]; omega) HB1.out
  rw [hW2]
  clear hW2 HB1 r0 b0 HS
  have c1 := prow_addr r2.out k hk
  go_wp2_with (first | (refine wpList_load_rowG (by rfl) _ _ (by rfl) _ (by rfl) 28 _ (0, 0) _ r2.out Tryz.underlying28 (by rfl) (by rw [pc_size]; kernel_rfl) ?_) | (go_at_call 168; refine (HK.out _).mono ?_; rintro e w3 ⟨rfl, hb⟩; have HB3 : Hid (Below w.heap.size w w3) := b2.out.trans (hb.mono (Nat.le_of_lt s2.out)); have R3 := r2.out.later hb s2.out; have d1 := prow_addr R3 k hk; clear hb R3))
  go_ret3
  exact ⟨rfl, HB3.out⟩
set_option maxRecDepth 100000 in
set_option maxHeartbeats 2000000 in
theorem rSpan_2 (c : Nat → BitVec 8) (a : Nat → BitVec 64) (k : Nat) (hk : k < 16) (hq : kd (PC c k) = 2#8) (w : World) :
    Calls Tryz.prog 160 #[.agg (pc c a), .int .i64 k] w fun e w' => e = .returned (sp3 (spI (PC c) (PA a) k)) ∧ Below w.heap.size w w' := by
  obtain ⟨W0, hW0, r0, b0, s0⟩ := start1 w (pc c a) 28
  have HS : Hid (W0.heap.size = w.heap.size + 1) := s0
  clear s0
  obtain ⟨X, hX⟩ : ∃ X, X = spI (PC c) (PA a) k := ⟨_, rfl⟩
  rw [← hX]
  rw [spI_in _ _ _ hk] at hX
  have hk2 : (k : Int) < 16 := by omega
  have hn0 : ¬ (k : Int) < 0 := by omega
  have hn1 : ¬ (15 : Int) < k := by omega
  have HK : Hid (∀ W, Calls Tryz.prog 168 #[.agg (pc (PC c) (PA a)), .int .i64 k] W fun e w' => e = .returned (.int .i64 2) ∧ Below W.heap.size W w') := fun W => by
    have := rkind_c (PC c) (PA a) k hk W
    rw [hq] at this
    exact this
  have e9 : X = some (PA a k <<< 2, PA a k <<< 2 + 3#64) := by rw [hX, spn, if_neg (by rw [hq]; decide), if_pos hq]
  subst e9
  clear hX hq
  have m1 := four_mul (PA a k)
  have m2 : IntKind.u64.wrap (n64 (PA a k <<< 2) + 3) = n64 (PA a k <<< 2 + 3#64) := n64_add (PA a k <<< 2) 3#64
  go_enter Tryz.func160, Tryz.ntmps160
  go_upto_region 1 with fail
  clear hW0
  go_upto_region 2 with (first | (refine wpList_load_rowG (by rfl) _ _ (by rfl) _ (by rfl) 28 _ (0, 0) _ r0.out Tryz.underlying28 (by rfl) (by rw [pc_size]; kernel_rfl) ?_) | (go_at_call 47; refine (rProper_c c a _).mono ?_; rintro e w1 ⟨rfl, hb1⟩; have HB1 : Hid (Below W0.heap.size W0 w1) := hb1; clear hb1) | (refine wpList_store_row (by rfl) _ _ _ (by rfl) (by rfl) _ _ _ (by rfl) (by rfl) (r0.out.later HB1.out (by rw [HS.out]; omega)) (by rw [pc_size]; kernel_rfl) (by rw [pc_size, pc_size]) (pc_ones _ _) ?_))
  obtain ⟨W2, hW2, r2, b2, s2⟩ := start_p (pc (PC c) (PA a)) r0.out b0.out (by rw [HS.out]; omega) HB1.out
  rw [hW2]
  clear hW2 HB1 r0 b0 HS
  have c1 := prow_addr r2.out k hk
  go_wp2_with (first | (refine wpList_load_rowG (by rfl) _ _ (by rfl) _ (by rfl) 28 _ (0, 0) _ r2.out Tryz.underlying28 (by rfl) (by rw [pc_size]; kernel_rfl) ?_) | (go_at_call 168; refine (HK.out _).mono ?_; rintro e w3 ⟨rfl, hb⟩; have HB3 : Hid (Below w.heap.size w w3) := b2.out.trans (hb.mono (Nat.le_of_lt s2.out)); have R3 := r2.out.later hb s2.out; have d1 := prow_addr R3 k hk; clear hb R3))
  go_ret3
  exact ⟨by simp_all [sp3, sF, sL], HB3.out⟩
set_option maxRecDepth 100000 in
set_option maxHeartbeats 2000000 in
theorem rSpan_1 (c : Nat → BitVec 8) (a : Nat → BitVec 64) (k : Nat) (hk : k < 16) (hq : kd (PC c k) = 1#8) (w : World) :
    Calls Tryz.prog 160 #[.agg (pc c a), .int .i64 k] w fun e w' => e = .returned (sp3 (spI (PC c) (PA a) k)) ∧ Below w.heap.size w w' := by
  obtain ⟨W0, hW0, r0, b0, s0⟩ := start1 w (pc c a) 28
  have HS : Hid (W0.heap.size = w.heap.size + 1) := s0
  clear s0
  obtain ⟨X, hX⟩ : ∃ X, X = spI (PC c) (PA a) k := ⟨_, rfl⟩
  rw [← hX]
  rw [spI_in _ _ _ hk] at hX
  have hk2 : (k : Int) < 16 := by omega
  have hn0 : ¬ (k : Int) < 0 := by omega
  have hn1 : ¬ (15 : Int) < k := by omega
  have HK : Hid (∀ W, Calls Tryz.prog 168 #[.agg (pc (PC c) (PA a)), .int .i64 k] W fun e w' => e = .returned (.int .i64 1) ∧ Below W.heap.size W w') := fun W => by
    have := rkind_c (PC c) (PA a) k hk W
    rw [hq] at this
    exact this
  have e8 : X = (if n64 (PA a k) ≤ n64 (frm (PA a) k) then none else some (frm (PA a) k <<< 2, PA a k <<< 2 - 1#64)) := by rw [hX, spn, if_pos hq]
  have HE8 : Hid (X = (if n64 (PA a k) ≤ n64 (frm (PA a) k) then none else some (frm (PA a) k <<< 2, PA a k <<< 2 - 1#64))) := e8
  clear hX hq e8
  have m1 := four_mul (PA a k)
  have m2 : IntKind.u64.wrap (n64 (PA a k <<< 2) - 1) = n64 (PA a k <<< 2 - 1#64) := n64_sub (PA a k <<< 2) 1#64
  have m3 := four_mul (frm (PA a) k)
  cases k with
  | zero =>
    have hfr : frm (PA a) 0 = 0#64 := rfl
    have hz : ((0 : Nat) : Int) = 0 := rfl
    rw [hz] at HK ⊢
    by_cases hc : n64 (PA a 0) ≤ n64 (frm (PA a) 0)
    · have e9 : X = none := by rw [HE8.out, if_pos hc]
      subst e9
      have hc2 : n64 (PA a 0) ≤ 0 := hc
      clear hc hfr hz HE8 m3 hk2 hn0 hn1
      go_enter Tryz.func160, Tryz.ntmps160
      go_upto_region 1 with fail
      clear hW0
      go_upto_region 2 with (first | (refine wpList_load_rowG (by rfl) _ _ (by rfl) _ (by rfl) 28 _ (0, 0) _ r0.out Tryz.underlying28 (by rfl) (by rw [pc_size]; kernel_rfl) ?_) | (go_at_call 47; refine (rProper_c c a _).mono ?_; rintro e w1 ⟨rfl, hb1⟩; have HB1 : Hid (Below W0.heap.size W0 w1) := hb1; clear hb1) | (refine wpList_store_row (by rfl) _ _ _ (by rfl) (by rfl) _ _ _ (by rfl) (by rfl) (r0.out.later HB1.out (by rw [HS.out]; omega)) (by rw [pc_size]; kernel_rfl) (by rw [pc_size, pc_size]) (pc_ones _ _) ?_))
      obtain ⟨W2, hW2, r2, b2, s2⟩ := start_p (pc (PC c) (PA a)) r0.out b0.out (by rw [HS.out]; omega) HB1.out
      rw [hW2]
      clear hW2 HB1 r0 b0 HS
      have c1 := prow_addr r2.out 0 hk
      go_wp2_with (first | (refine wpList_load_rowG (by rfl) _ _ (by rfl) _ (by rfl) 28 _ (0, 0) _ r2.out Tryz.underlying28 (by rfl) (by rw [pc_size]; kernel_rfl) ?_) | (go_at_call 168; refine (HK.out _).mono ?_; rintro e w3 ⟨rfl, hb⟩; have HB3 : Hid (Below w.heap.size w w3) := b2.out.trans (hb.mono (Nat.le_of_lt s2.out)); have R3 := r2.out.later hb s2.out; have d1 := prow_addr R3 0 hk; clear hb R3))
      go_ret3
      exact ⟨rfl, HB3.out⟩
    · have e9 : X = some (0#64 <<< 2, PA a 0 <<< 2 - 1#64) := by rw [HE8.out, if_neg hc, hfr]
      subst e9
      have hc2 : ¬ n64 (PA a 0) ≤ 0 := hc
      clear hc hfr hz HE8 m3 hk2 hn0 hn1
      go_enter Tryz.func160, Tryz.ntmps160
      go_upto_region 1 with fail
      clear hW0
      go_upto_region 2 with (first | (refine wpList_load_rowG (by rfl) _ _ (by rfl) _ (by rfl) 28 _ (0, 0) _ r0.out Tryz.underlying28 (by rfl) (by rw [pc_size]; kernel_rfl) ?_) | (go_at_call 47; refine (rProper_c c a _).mono ?_; rintro e w1 ⟨rfl, hb1⟩; have HB1 : Hid (Below W0.heap.size W0 w1) := hb1; clear hb1) | (refine wpList_store_row (by rfl) _ _ _ (by rfl) (by rfl) _ _ _ (by rfl) (by rfl) (r0.out.later HB1.out (by rw [HS.out]; omega)) (by rw [pc_size]; kernel_rfl) (by rw [pc_size, pc_size]) (pc_ones _ _) ?_))
      obtain ⟨W2, hW2, r2, b2, s2⟩ := start_p (pc (PC c) (PA a)) r0.out b0.out (by rw [HS.out]; omega) HB1.out
      rw [hW2]
      clear hW2 HB1 r0 b0 HS
      have c1 := prow_addr r2.out 0 hk
      go_wp2_with (first | (refine wpList_load_rowG (by rfl) _ _ (by rfl) _ (by rfl) 28 _ (0, 0) _ r2.out Tryz.underlying28 (by rfl) (by rw [pc_size]; kernel_rfl) ?_) | (go_at_call 168; refine (HK.out _).mono ?_; rintro e w3 ⟨rfl, hb⟩; have HB3 : Hid (Below w.heap.size w w3) := b2.out.trans (hb.mono (Nat.le_of_lt s2.out)); have R3 := r2.out.later hb s2.out; have d1 := prow_addr R3 0 hk; clear hb R3))
      go_ret3
      exact ⟨by simp_all [sp3, sF, sL, n64], HB3.out⟩
  | succ j =>
    have hfr : frm (PA a) (j + 1) = PA a j := rfl
    have hj : j < 16 := by omega
    rw [hfr] at m3
    have ej : ((j + 1 : Nat) : Int) = (j : Int) + 1 := by omega
    have hj2 : (j : Int) + 1 < 16 := by omega
    have hj3 : (0 : Int) < (j : Int) + 1 := by omega
    have hj4 : ¬ (j : Int) + 1 < 0 := by omega
    have hj5 : ¬ (15 : Int) < (j : Int) + 1 := by omega
    rw [ej] at HK ⊢
    by_cases hc : n64 (PA a (j + 1)) ≤ n64 (frm (PA a) (j + 1))
    · have e9 : X = none := by rw [HE8.out, if_pos hc]
      subst e9
      rw [hfr] at hc
      clear hfr HE8 hk2 hn0 hn1 ej
      go_enter Tryz.func160, Tryz.ntmps160
      go_upto_region 1 with fail
      clear hW0
      go_upto_region 2 with (first | (refine wpList_load_rowG (by rfl) _ _ (by rfl) _ (by rfl) 28 _ (0, 0) _ r0.out Tryz.underlying28 (by rfl) (by rw [pc_size]; kernel_rfl) ?_) | (go_at_call 47; refine (rProper_c c a _).mono ?_; rintro e w1 ⟨rfl, hb1⟩; have HB1 : Hid (Below W0.heap.size W0 w1) := hb1; clear hb1) | (refine wpList_store_row (by rfl) _ _ _ (by rfl) (by rfl) _ _ _ (by rfl) (by rfl) (r0.out.later HB1.out (by rw [HS.out]; omega)) (by rw [pc_size]; kernel_rfl) (by rw [pc_size, pc_size]) (pc_ones _ _) ?_))
      obtain ⟨W2, hW2, r2, b2, s2⟩ := start_p (pc (PC c) (PA a)) r0.out b0.out (by rw [HS.out]; omega) HB1.out
      rw [hW2]
      clear hW2 HB1 r0 b0 HS
      have c1 := prow_addr r2.out (j + 1) hk
      go_wp2_with (first | (refine wpList_load_rowG (by rfl) _ _ (by rfl) _ (by rfl) 28 _ (0, 0) _ r2.out Tryz.underlying28 (by rfl) (by rw [pc_size]; kernel_rfl) ?_) | (go_at_call 168; refine (HK.out _).mono ?_; rintro e w3 ⟨rfl, hb⟩; have HB3 : Hid (Below w.heap.size w w3) := b2.out.trans (hb.mono (Nat.le_of_lt s2.out)); have R3 := r2.out.later hb s2.out; have d2 := prow_addr R3 j hj; clear hb R3))
      go_ret3
      exact ⟨rfl, HB3.out⟩
    · have e9 : X = some (PA a j <<< 2, PA a (j + 1) <<< 2 - 1#64) := by rw [HE8.out, if_neg hc, hfr]
      subst e9
      rw [hfr] at hc
      clear hfr HE8 hk2 hn0 hn1 ej
      go_enter Tryz.func160, Tryz.ntmps160
      go_upto_region 1 with fail
      clear hW0
      go_upto_region 2 with (first | (refine wpList_load_rowG (by rfl) _ _ (by rfl) _ (by rfl) 28 _ (0, 0) _ r0.out Tryz.underlying28 (by rfl) (by rw [pc_size]; kernel_rfl) ?_) | (go_at_call 47; refine (rProper_c c a _).mono ?_; rintro e w1 ⟨rfl, hb1⟩; have HB1 : Hid (Below W0.heap.size W0 w1) := hb1; clear hb1) | (refine wpList_store_row (by rfl) _ _ _ (by rfl) (by rfl) _ _ _ (by rfl) (by rfl) (r0.out.later HB1.out (by rw [HS.out]; omega)) (by rw [pc_size]; kernel_rfl) (by rw [pc_size, pc_size]) (pc_ones _ _) ?_))
      obtain ⟨W2, hW2, r2, b2, s2⟩ := start_p (pc (PC c) (PA a)) r0.out b0.out (by rw [HS.out]; omega) HB1.out
      rw [hW2]
      clear hW2 HB1 r0 b0 HS
      have c1 := prow_addr r2.out (j + 1) hk
      go_wp2_with (first | (refine wpList_load_rowG (by rfl) _ _ (by rfl) _ (by rfl) 28 _ (0, 0) _ r2.out Tryz.underlying28 (by rfl) (by rw [pc_size]; kernel_rfl) ?_) | (go_at_call 168; refine (HK.out _).mono ?_; rintro e w3 ⟨rfl, hb⟩; have HB3 : Hid (Below w.heap.size w w3) := b2.out.trans (hb.mono (Nat.le_of_lt s2.out)); have R3 := r2.out.later hb s2.out; have d2 := prow_addr R3 j hj; clear hb R3))
      go_ret3
      exact ⟨by simp_all [sp3, sF, sL], HB3.out⟩
end Go.Proofs.YtidfndgedopghaaGreatDoor
