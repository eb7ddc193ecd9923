/-
  Iri Shelf.
-/
import Derived.Test.YtopddflnahfomaaGreatDoorM07
import Derived.Shelf.SlGeneric
import Derived.Ground.NamesProg
import Derived.Shelf.Unicode.ValidAny
import Derived.Shelf.Unicode.PredsPay
import Derived.Shelf.Utf8.RuneCount
import Derived.Ground.SlsfProg
import Derived.Shelf.SlSortCmp.NoneTotal
import Derived.Shelf.SlicesQ.Contains
import Derived.Laws.StructEq
import Derived.Shelf.Bytes.SlCut
import Derived.Ground.SlbtProg
import Derived.Ground.SlgqProg
import Derived.Test.YtopddflnahfomaaGreatDoorProg
namespace Go.Proofs.YtopddflnahfomaaGreatDoor
set_option linter.unusedVariables false
set_option maxRecDepth 100000
open Go.ChangeShapes Go.WideShapes Go.ChangeAt Go.RowKit Go.Deep
theorem header_c (P K N : Nat) (nI : Int) (hn : nI = N) (h : P + 64 * N ≤ 200000) (w : World) : Calls Tryz.prog 54 #[.agg #[.int .i64 (P : Int), .int .u64 (K : Int)], .int .i64 nI] w fun e w' => e = .returned (.int .i64 ((P + 64 * N : Nat) : Int)) ∧ Below w.heap.size w w' := by
  subst hn
  have h1 : (P : Int) + 64 * N ≤ 200000 := by omega
  have h2 : (64 : Int) * N ≤ 200000 := by omega
  have HB : Hid (Below w.heap.size w (w.alloc (.cells #[.int .i64 (P : Int), .int .u64 (K : Int)] 103))) := (Below.refl _ _).alloc (Nat.le_refl _) _
  go_enter Tryz.func54, Tryz.ntmps54
  go_wp2
  go_ret
  exact ⟨ret_int (by omega), HB.out⟩
/-- The fault of a table's texts. -/
def txF (b : List Int) (P K H : Nat) : Flt :=
  if K ≤ vl b (H + 40) 4 then some (H + 40, 25) else if vl b (P + 64 * vl b (H + 40) 4 + 4) 4 ≠ 3 then some (H + 40, 25)
  else if ¬ room b (vl b (P + 64 * vl b (H + 40) 4 + 24) 8) (vl b (P + 64 * vl b (H + 40) 4 + 32) 8) then some (P + 64 * vl b (H + 40) 4 + 24, 20) else none
/-- The texts. -/
def txB (b : List Int) (P H : Nat) : List Int := (b.drop (vl b (P + 64 * vl b (H + 40) 4 + 24) 8)).take (vl b (P + 64 * vl b (H + 40) 4 + 32) 8)
set_option maxHeartbeats 8000000 in
theorem texts_c {b : List Int} (hB : AllB b) (hl : b.length ≤ 200000) (vb : Value) (P K H : Nat) (hP : P + 64 * K ≤ b.length) (hH : H + 64 ≤ b.length) (hK : K < 18446744073709551616) (w : World) (hv : Byt w vb b) :
    Calls Tryz.prog 72 #[.agg #[vb], .agg #[.int .i64 (P : Int), .int .u64 (K : Int)], .int .i64 H] w fun e w' =>
      (txF b P K H = none ∧ ∃ u, e = .returned u ∧ Byt w' u (txB b P H) ∧ Below w.heap.size w w') ∨ (∃ F, txF b P K H = some F ∧ Pan w F e w') := by
  have HV : Hid (∀ w', Below w.heap.size w w' → Byt w' vb b) := fun w' hb => hv.later hb rfl
  have HB : Hid (AllB b) := hB
  obtain ⟨a, cap, rfl, hc, _, _⟩ := hv
  obtain ⟨W1, hW1⟩ : ∃ W1, (w.alloc (.cells #[.slice a b.length cap] 54)).alloc (.cells #[.int .i64 (P : Int), .int .u64 (K : Int)] 103) = W1 := ⟨_, rfl⟩
  have HBL : Hid (Below w.heap.size w W1) := by rw [← hW1]; exact ((Below.refl _ _).alloc (Nat.le_refl _) _).alloc (by simp) _
  have hsz : Hid (W1.heap.size = w.heap.size + 2) := by unfold Hid; rw [← hW1]; simp
  have R3 : Hid (W1.heap[w.heap.size]? = some (.cells #[.slice a b.length cap] 54 (0, 0))) := by rw [← hW1]; exact heap_alloc2_old w _ _
  have R4 : Hid (W1.heap[w.heap.size + 1]? = some (.cells #[.int .i64 (P : Int), .int .u64 (K : Int)] 103 (0, 0))) := by rw [← hW1]; exact heap_alloc2_new w _ _
  have HC0 : Hid (∀ w', Below W1.heap.size W1 w' → w'.cell? ⟨w.heap.size, 0, none⟩ = some (.slice a b.length cap)) := fun w' hb => (hb.cell (by show w.heap.size < _; rw [hsz.out]; omega)).trans (cell_of_row W1 _ 0 _ _ _ R3.out)
  have HC1 : Hid (∀ w', Below W1.heap.size W1 w' → w'.cell? ⟨w.heap.size + 1, 0, none⟩ = some (.int .i64 (P : Int)) ∧ w'.cell? ⟨w.heap.size + 1, 1, none⟩ = some (.int .u64 (K : Int))) := fun w' hb => ⟨(hb.cell (by show w.heap.size + 1 < _; rw [hsz.out]; omega)).trans (cell_of_row W1 _ 0 _ _ _ R4.out), (hb.cell (by show w.heap.size + 1 < _; rw [hsz.out]; omega)).trans (cell_of_row W1 _ 1 _ _ _ R4.out)⟩
  have c4 : Hid (∀ wx, Below W1.heap.size W1 wx → ∀ pI : Int, pI = ((H + 40 : Nat) : Int) → Calls Tryz.prog 47 #[.agg #[.slice a b.length cap], .int .i64 pI] wx fun e w' => e = .returned (.int .u64 ((vl b (H + 40) 4 : Nat) : Int)) ∧ Below wx.heap.size wx w') := fun wx hx pI hpI => word_c HB.out hl _ (H + 40) pI hpI (by omega) wx (HV.out _ (HBL.out.trans (hx.mono HBL.out.size)))
  have hHI : (H : Int) + 64 ≤ b.length := by omega
  have hlI : (b.length : Int) ≤ 200000 := by omega
  have hPI : (P : Int) + 64 * K ≤ b.length := by omega
  have hKI : (K : Int) < 18446744073709551616 := by omega
  have HF : Hid (txF b P K H = if K ≤ vl b (H + 40) 4 then some (H + 40, 25) else if vl b (P + 64 * vl b (H + 40) 4 + 4) 4 ≠ 3 then some (H + 40, 25)
  else if ¬ room b (vl b (P + 64 * vl b (H + 40) 4 + 24) 8) (vl b (P + 64 * vl b (H + 40) 4 + 32) 8) then some (P + 64 * vl b (H + 40) 4 + 24, 20) else none) := rfl
  have HT : Hid (txB b P H = (b.drop (vl b (P + 64 * vl b (H + 40) 4 + 24) 8)).take (vl b (P + 64 * vl b (H + 40) 4 + 32) 8)) := rfl
  generalize txF b P K H = FF at HF ⊢
  generalize txB b P H = TT at HT ⊢
  have l4 := vl_lt8 hB (H + 40) 4 (by omega)
  generalize vl b (H + 40) 4 = N at c4 HF HT l4
  have i4 : (N : Int) < 18446744073709551616 := by omega
  obtain ⟨RR, hRR⟩ : ∃ RR : Ending → World → Prop, RR = fun e w' => (FF = none ∧ ∃ u, e = .returned u ∧ Byt w' u TT ∧ Below w.heap.size w w') ∨ (∃ F, FF = some F ∧ Pan w F e w') := ⟨_, rfl⟩
  rw [← hRR]
  have HRR : Hid (RR = fun e w' => (FF = none ∧ ∃ u, e = .returned u ∧ Byt w' u TT ∧ Below w.heap.size w w') ∨ (∃ F, FF = some F ∧ Pan w F e w')) := hRR
  clear hRR
  have HW1 : Hid (Below W1.heap.size W1 W1) := Below.refl _ _
  go_enter Tryz.func72, Tryz.ntmps72
  go_upto_region 1 with fail
  have k1 := HC0.out W1 HW1.out
  clear hW1
  go_upto_region 2 with (go_at_call 47; refine (c4.out _ HW1.out _ (by first | omega | (rw [IntKind.wrap_i64]; omega))).mono ?_; rintro e w2 ⟨rfl, hb⟩; have Hw2 : Hid (Below W1.heap.size W1 w2) := HW1.out.trans (hb.mono (HW1.out).size); clear hb)
  have k2 := HC0.out w2 Hw2.out
  obtain ⟨m0, m1⟩ := HC1.out w2 Hw2.out
  by_cases g1 : K ≤ N
  · have g1I : (K : Int) ≤ N := by omega
    have HE : Hid (FF = some (H + 40, 25)) := by unfold Hid; rw [HF.out, if_pos g1]
    clear g1
    go_wp2_with (go_at_call 27; refine (refuse_tI 25 (H + 40) _ (by first | omega | (rw [IntKind.wrap_i64]; omega)) _).mono ?_; rintro e w9 ⟨g, rfl, p2, p3, p4⟩)
    exact ⟨rfl, by rw [HRR.out]; exact .inr ⟨_, HE.out, Pan.later (HBL.out.trans (Hw2.out.mono HBL.out.size)) ⟨g, rfl, p2, p3, p4⟩⟩⟩
  · have g1I : ¬ (K : Int) ≤ N := by omega
    have HG1 : Hid (¬ K ≤ N) := g1
    have hNI : (N : Int) ≤ 200000 := by omega
    obtain ⟨O, hO⟩ : ∃ O, O = P + 64 * N := ⟨_, rfl⟩
    have hOl : O + 64 ≤ b.length := by omega
    have ck : Hid (∀ wx, Below W1.heap.size W1 wx → ∀ pI : Int, pI = ((O + 4 : Nat) : Int) → Calls Tryz.prog 47 #[.agg #[.slice a b.length cap], .int .i64 pI] wx fun e w' => e = .returned (.int .u64 ((vl b (O + 4) 4 : Nat) : Int)) ∧ Below wx.heap.size wx w') := fun wx hx pI hpI => word_c HB.out hl _ (O + 4) pI hpI (by omega) wx (HV.out _ (HBL.out.trans (hx.mono HBL.out.size)))
    have cs : Hid (∀ wx, Below W1.heap.size W1 wx → ∀ pI : Int, pI = ((O + 32 : Nat) : Int) → Calls Tryz.prog 32 #[.agg #[.slice a b.length cap], .int .i64 pI] wx fun e w' => e = .returned (.int .u64 ((vl b (O + 32) 8 : Nat) : Int)) ∧ Below wx.heap.size wx w') := fun wx hx pI hpI => double_c HB.out hl _ (O + 32) pI hpI (by omega) wx (HV.out _ (HBL.out.trans (hx.mono HBL.out.size)))
    have l3 := vl_lt8 hB (O + 32) 8 (by omega)
    have lk := vl_lt8 hB (O + 4) 4 (by omega)
    have c8 : Hid (∀ wx, Below W1.heap.size W1 wx → ∀ pI : Int, pI = ((O + 24 : Nat) : Int) → Calls Tryz.prog 48 #[.agg #[.slice a b.length cap], .int .i64 pI, .int .u64 ((vl b (O + 32) 8 : Nat) : Int)] wx fun e w' => (room b (vl b (O + 24) 8) (vl b (O + 32) 8) ∧ e = .returned (.int .i64 ((vl b (O + 24) 8 : Nat) : Int)) ∧ Below wx.heap.size wx w') ∨ (¬ room b (vl b (O + 24) 8) (vl b (O + 32) 8) ∧ Pan wx (O + 24, 20) e w')) := fun wx hx pI hpI => placeAt_c HB.out hl _ (O + 24) _ pI hpI (by omega) l3 wx (HV.out _ (HBL.out.trans (hx.mono HBL.out.size)))
    have cH : Hid (∀ wx, Calls Tryz.prog 54 #[.agg #[.int .i64 (P : Int), .int .u64 (K : Int)], .int .i64 (N : Int)] wx fun e w' => e = .returned (.int .i64 (O : Int)) ∧ Below wx.heap.size wx w') := fun wx => by rw [hO]; exact header_c P K N _ rfl (by omega) wx
    rw [← hO] at HF HT
    have hOI : (O : Int) + 64 ≤ b.length := by omega
    clear hO g1
    generalize vl b (O + 4) 4 = NK at ck lk HF
    generalize vl b (O + 32) 8 = NS at cs l3 HF HT c8
    generalize vl b (O + 24) 8 = NP at HF HT c8
    have iS : (NS : Int) < 18446744073709551616 := by omega
    have iK : (NK : Int) < 18446744073709551616 := by omega
    go_upto_region 4 with (first | (go_at_call 27; refine (refuse_f _ _ _).mono ?_; rintro e w9 ⟨rfl, hw9⟩; subst hw9) | (go_at_call 54; refine (cH.out _).mono ?_; rintro e w3 ⟨rfl, hb⟩; have Hw3 : Hid (Below W1.heap.size W1 w3) := Hw2.out.trans (hb.mono Hw2.out.size); clear hb))
    clear m0 m1 k1 k2
    have k3 := HC0.out w3 Hw3.out
    by_cases g2 : NK ≠ 3
    · have HE : Hid (FF = some (H + 40, 25)) := by unfold Hid; rw [HF.out, if_neg HG1.out, if_pos g2]
      have g2b : ((NK : Int) != 3) = true := by rw [bne_iff_ne]; omega
      clear g2
      go_wp2_with (first | (go_at_call 47; refine (ck.out _ Hw3.out _ (by first | omega | (rw [IntKind.wrap_i64]; omega))).mono ?_; rintro e w4 ⟨rfl, hb⟩; have Hw4 : Hid (Below W1.heap.size W1 w4) := Hw3.out.trans (hb.mono (Hw3.out).size); clear hb) | (go_at_call 27; refine (refuse_tI 25 (H + 40) _ (by first | omega | (rw [IntKind.wrap_i64]; omega)) _).mono ?_; rintro e w9 ⟨g, rfl, p2, p3, p4⟩))
      exact ⟨rfl, by rw [HRR.out]; exact .inr ⟨_, HE.out, Pan.later (HBL.out.trans (Hw4.out.mono HBL.out.size)) ⟨g, rfl, p2, p3, p4⟩⟩⟩
    · have HG2 : Hid (¬ NK ≠ 3) := g2
      have g2b : ((NK : Int) != 3) = false := by rw [bne_eq_false_iff_eq]; omega
      clear g2
      go_upto_region 5 with (first | (go_at_call 47; refine (ck.out _ Hw3.out _ (by first | omega | (rw [IntKind.wrap_i64]; omega))).mono ?_; rintro e w4 ⟨rfl, hb⟩; have Hw4 : Hid (Below W1.heap.size W1 w4) := Hw3.out.trans (hb.mono (Hw3.out).size); clear hb) | (go_at_call 27; refine (refuse_f _ _ _).mono ?_; rintro e w9 ⟨rfl, hw9⟩; subst hw9))
      clear k3
      have k4 := HC0.out w4 Hw4.out
      go_upto_region 6 with (go_at_call 32; refine (cs.out _ Hw4.out _ (by first | omega | (rw [IntKind.wrap_i64]; omega))).mono ?_; rintro e w5 ⟨rfl, hb⟩; have Hw5 : Hid (Below W1.heap.size W1 w5) := Hw4.out.trans (hb.mono (Hw4.out).size); clear hb)
      clear k4
      have k5 := HC0.out w5 Hw5.out
      by_cases hrm : room b NP NS
      · have HRM : Hid (room b NP NS) := hrm
        have HE : Hid (FF = none) := by unfold Hid; rw [HF.out, if_neg HG1.out, if_neg HG2.out, if_neg (fun q => q hrm)]
        have c8t : Hid (∀ wx, Below W1.heap.size W1 wx → ∀ pI : Int, pI = ((O + 24 : Nat) : Int) → Calls Tryz.prog 48 #[.agg #[.slice a b.length cap], .int .i64 pI, .int .u64 (NS : Int)] wx fun e w' => e = .returned (.int .i64 (NP : Int)) ∧ Below wx.heap.size wx w') := fun wx hx pI hpI => (c8.out wx hx pI hpI).mono fun e w' hq => hq.elim (fun h1 => h1.2) (fun h1 => absurd hrm h1.1)
        clear c8 hrm
        have hrm1 : (NP : Int) + NS ≤ b.length := by have := HRM.out; unfold room at this; omega
        have hsl : ∀ W, (Instr.slice 29 (.slice a b.length cap) (some (.int .i64 (NP : Int))) (some (.int .i64 ((NP : Int) + NS))) none).run Tryz.prog W = .ok (.slice (if cap = NP then a else a.map (fun x => x.add NP)) NS (cap - NP)) W := fun W => slice_I W a b.length cap NP NS _ rfl (by have := HRM.out; unfold room at this; omega)
        obtain ⟨VS, hVS⟩ : ∃ VS : Value, VS = .slice (if cap = NP then a else a.map (fun x => x.add NP)) NS (cap - NP) := ⟨_, rfl⟩
        rw [← hVS] at hsl
        have HVS : Hid (VS = .slice (if cap = NP then a else a.map (fun x => x.add NP)) NS (cap - NP)) := hVS
        clear hVS
        go_upto_region 7 with (go_at_call 48; refine (c8t.out _ Hw5.out _ (by first | omega | (rw [IntKind.wrap_i64]; omega))).mono ?_; rintro e w6 ⟨rfl, hb⟩; have Hw6 : Hid (Below W1.heap.size W1 w6) := Hw5.out.trans (hb.mono (Hw5.out).size); clear hb)
        clear k5
        have k6 := HC0.out w6 Hw6.out
        have HY : Hid (Byt w6 VS TT) := by
          unfold Hid
          rw [HT.out, HVS.out]
          exact (HV.out w6 (HBL.out.trans (Hw6.out.mono HBL.out.size))).sub (by have := HRM.out; unfold room at this; omega)
        go_wp2
        rw [HRR.out]
        exact .inl ⟨HE.out, VS, by rfl, HY.out, HBL.out.trans (Hw6.out.mono HBL.out.size)⟩
      · have HE : Hid (FF = some (O + 24, 20)) := by unfold Hid; rw [HF.out, if_neg HG1.out, if_neg HG2.out, if_pos hrm]
        have c8f : Hid (∀ wx, Below W1.heap.size W1 wx → ∀ pI : Int, pI = ((O + 24 : Nat) : Int) → Calls Tryz.prog 48 #[.agg #[.slice a b.length cap], .int .i64 pI, .int .u64 (NS : Int)] wx fun e w' => Pan wx (O + 24, 20) e w') := fun wx hx pI hpI => (c8.out wx hx pI hpI).mono fun e w' hq => hq.elim (fun h1 => absurd h1.1 hrm) (fun h1 => h1.2)
        clear c8 hrm
        go_wp2_with (go_at_call 48; refine (c8f.out _ Hw5.out _ (by first | omega | (rw [IntKind.wrap_i64]; omega))).mono ?_; rintro e w9 ⟨g, rfl, p2, p3, p4⟩)
        exact ⟨rfl, by rw [HRR.out]; exact .inr ⟨_, HE.out, Pan.later (HBL.out.trans (Hw5.out.mono HBL.out.size)) ⟨g, rfl, p2, p3, p4⟩⟩⟩
end Go.Proofs.YtopddflnahfomaaGreatDoor
namespace Go.Proofs
open Go.Shelf
def Tryz.sortSeg_ren : Go.Shelf.Ren := ⟨fun | 6 => 51 | 15 => 70 | 14 => 69 | 28 => 87 | 29 => 88 | 20 => 79 | 21 => 80 | 22 => 81 | 23 => 82 | 24 => 83 | 25 => 84 | 26 => 85 | 27 => 86 | 46 => 93 | 47 => 94 | 48 => 95 | 49 => 96 | 50 => 97 | 57 => 109 | n => n, fun | 22 => 23 | 24 => 42 | 25 => 101 | 3 => 3 | 39 => 112 | 0 => 0 | 53 => 151 | 55 => 22 | 4 => 4 | 46 => 144 | 45 => 143 | 50 => 148 | 5 => 5 | 9 => 9 | 66 => 159 | 70 => 163 | 76 => 182 | 77 => 183 | n => n, fun | n => n⟩
theorem Tryz.sortSeg : Go.Proofs.SlLaysF0.n6 Tryz.prog Tryz.sortSeg_ren := {
  mixed := by kernel_rfl
  f6 := ⟨Tryz.f51.name, by decide, Tryz.func51.trans (congrArg some (by kernel_rfl))⟩
  f14 := ⟨Tryz.f69.name, by decide, Tryz.func69.trans (congrArg some (by kernel_rfl))⟩
  f15 := Tryz.func70.trans (congrArg some (by kernel_rfl))
  f20 := ⟨Tryz.f79.name, by decide, Tryz.func79.trans (congrArg some (by kernel_rfl))⟩
  f21 := ⟨Tryz.f80.name, by decide, Tryz.func80.trans (congrArg some (by kernel_rfl))⟩
  f22 := ⟨Tryz.f81.name, by decide, Tryz.func81.trans (congrArg some (by kernel_rfl))⟩
  f23 := ⟨Tryz.f82.name, by decide, Tryz.func82.trans (congrArg some (by kernel_rfl))⟩
  f24 := ⟨Tryz.f83.name, by decide, Tryz.func83.trans (congrArg some (by kernel_rfl))⟩
  f25 := ⟨Tryz.f84.name, by decide, Tryz.func84.trans (congrArg some (by kernel_rfl))⟩
  f26 := ⟨Tryz.f85.name, by decide, Tryz.func85.trans (congrArg some (by kernel_rfl))⟩
  f27 := ⟨Tryz.f86.name, by decide, Tryz.func86.trans (congrArg some (by kernel_rfl))⟩
  f28 := Tryz.func87.trans (congrArg some (by kernel_rfl))
  f29 := Tryz.func88.trans (congrArg some (by kernel_rfl))
  f46 := ⟨Tryz.f93.name, by decide, Tryz.func93.trans (congrArg some (by kernel_rfl))⟩
  f47 := Tryz.func94.trans (congrArg some (by kernel_rfl))
  f48 := Tryz.func95.trans (congrArg some (by kernel_rfl))
  f49 := ⟨Tryz.f96.name, by decide, Tryz.func96.trans (congrArg some (by kernel_rfl))⟩
  f50 := ⟨Tryz.f97.name, by decide, Tryz.func97.trans (congrArg some (by kernel_rfl))⟩
  f57 := ⟨Tryz.f109.name, by decide, Tryz.func109.trans (congrArg some (by kernel_rfl))⟩
  t0 := Tryz.underlying0
  a0 := Tryz.isAgg0
  z0 := Tryz.sizeOf0
  v0 := Tryz.zeroValue0
  t3 := Tryz.underlying3
  a3 := Tryz.isAgg3
  z3 := Tryz.sizeOf3
  v3 := Tryz.zeroValue3
  t4 := Tryz.underlying4
  a4 := Tryz.isAgg4
  z4 := Tryz.sizeOf4
  v4 := Tryz.zeroValue4
  t5 := Tryz.underlying5
  a5 := Tryz.isAgg5
  z5 := Tryz.sizeOf5
  v5 := Tryz.zeroValue5
  t9 := Tryz.underlying9
  a9 := Tryz.isAgg9
  z9 := Tryz.sizeOf9
  v9 := Tryz.zeroValue9
  t22 := Tryz.underlying23
  a22 := Tryz.isAgg23
  z22 := Tryz.sizeOf23
  v22 := Tryz.zeroValue23
  t25 := Tryz.underlying101
  a25 := Tryz.isAgg101
  z25 := Tryz.sizeOf101
  v25 := Tryz.zeroValue101
  t39 := Tryz.underlying112
  a39 := Tryz.isAgg112
  z39 := Tryz.sizeOf112
  v39 := Tryz.zeroValue112
  t45 := Tryz.underlying143
  a45 := Tryz.isAgg143
  z45 := Tryz.sizeOf143
  v45 := Tryz.zeroValue143
  t46 := Tryz.underlying144
  a46 := Tryz.isAgg144
  z46 := Tryz.sizeOf144
  v46 := Tryz.zeroValue144
  t50 := Tryz.underlying148
  a50 := Tryz.isAgg148
  z50 := Tryz.sizeOf148
  v50 := Tryz.zeroValue148
  t53 := Tryz.underlying151
  a53 := Tryz.isAgg151
  z53 := Tryz.sizeOf151
  v53 := Tryz.zeroValue151
  t55 := Tryz.underlying22
  a55 := Tryz.isAgg22
  z55 := Tryz.sizeOf22
  v55 := Tryz.zeroValue22
  t66 := Tryz.underlying159
  a66 := Tryz.isAgg159
  z66 := Tryz.sizeOf159
  v66 := Tryz.zeroValue159
  t70 := Tryz.underlying163
  a70 := Tryz.isAgg163
  z70 := Tryz.sizeOf163
  v70 := Tryz.zeroValue163
  t76 := Tryz.underlying182
  a76 := Tryz.isAgg182
  z76 := Tryz.sizeOf182
  v76 := Tryz.zeroValue182
  t77 := Tryz.underlying183
  a77 := Tryz.isAgg183
  z77 := Tryz.sizeOf183
  v77 := Tryz.zeroValue183 }
def Tryz.sortSym_ren : Go.Shelf.Ren := ⟨fun | 6 => 75 | 15 => 70 | 14 => 91 | 28 => 87 | 29 => 88 | 20 => 99 | 21 => 100 | 22 => 101 | 23 => 102 | 24 => 103 | 25 => 104 | 26 => 105 | 27 => 106 | 46 => 115 | 47 => 94 | 48 => 95 | 49 => 116 | 50 => 117 | 57 => 120 | n => n, fun | 22 => 24 | 24 => 45 | 25 => 76 | 3 => 3 | 39 => 112 | 0 => 0 | 53 => 151 | 55 => 22 | 4 => 4 | 46 => 144 | 45 => 143 | 50 => 148 | 5 => 5 | 9 => 9 | 66 => 159 | 70 => 163 | 76 => 182 | 77 => 183 | n => n, fun | n => n⟩
theorem Tryz.sortSym : Go.Proofs.SlLaysF0.n6 Tryz.prog Tryz.sortSym_ren := {
  mixed := by kernel_rfl
  f6 := ⟨Tryz.f75.name, by decide, Tryz.func75.trans (congrArg some (by kernel_rfl))⟩
  f14 := ⟨Tryz.f91.name, by decide, Tryz.func91.trans (congrArg some (by kernel_rfl))⟩
  f15 := Tryz.func70.trans (congrArg some (by kernel_rfl))
  f20 := ⟨Tryz.f99.name, by decide, Tryz.func99.trans (congrArg some (by kernel_rfl))⟩
  f21 := ⟨Tryz.f100.name, by decide, Tryz.func100.trans (congrArg some (by kernel_rfl))⟩
  f22 := ⟨Tryz.f101.name, by decide, Tryz.func101.trans (congrArg some (by kernel_rfl))⟩
  f23 := ⟨Tryz.f102.name, by decide, Tryz.func102.trans (congrArg some (by kernel_rfl))⟩
  f24 := ⟨Tryz.f103.name, by decide, Tryz.func103.trans (congrArg some (by kernel_rfl))⟩
  f25 := ⟨Tryz.f104.name, by decide, Tryz.func104.trans (congrArg some (by kernel_rfl))⟩
  f26 := ⟨Tryz.f105.name, by decide, Tryz.func105.trans (congrArg some (by kernel_rfl))⟩
  f27 := ⟨Tryz.f106.name, by decide, Tryz.func106.trans (congrArg some (by kernel_rfl))⟩
  f28 := Tryz.func87.trans (congrArg some (by kernel_rfl))
  f29 := Tryz.func88.trans (congrArg some (by kernel_rfl))
  f46 := ⟨Tryz.f115.name, by decide, Tryz.func115.trans (congrArg some (by kernel_rfl))⟩
  f47 := Tryz.func94.trans (congrArg some (by kernel_rfl))
  f48 := Tryz.func95.trans (congrArg some (by kernel_rfl))
  f49 := ⟨Tryz.f116.name, by decide, Tryz.func116.trans (congrArg some (by kernel_rfl))⟩
  f50 := ⟨Tryz.f117.name, by decide, Tryz.func117.trans (congrArg some (by kernel_rfl))⟩
  f57 := ⟨Tryz.f120.name, by decide, Tryz.func120.trans (congrArg some (by kernel_rfl))⟩
  t0 := Tryz.underlying0
  a0 := Tryz.isAgg0
  z0 := Tryz.sizeOf0
  v0 := Tryz.zeroValue0
  t3 := Tryz.underlying3
  a3 := Tryz.isAgg3
  z3 := Tryz.sizeOf3
  v3 := Tryz.zeroValue3
  t4 := Tryz.underlying4
  a4 := Tryz.isAgg4
  z4 := Tryz.sizeOf4
  v4 := Tryz.zeroValue4
  t5 := Tryz.underlying5
  a5 := Tryz.isAgg5
  z5 := Tryz.sizeOf5
  v5 := Tryz.zeroValue5
  t9 := Tryz.underlying9
  a9 := Tryz.isAgg9
  z9 := Tryz.sizeOf9
  v9 := Tryz.zeroValue9
  t22 := Tryz.underlying24
  a22 := Tryz.isAgg24
  z22 := Tryz.sizeOf24
  v22 := Tryz.zeroValue24
  t25 := Tryz.underlying76
  a25 := Tryz.isAgg76
  z25 := Tryz.sizeOf76
  v25 := Tryz.zeroValue76
  t39 := Tryz.underlying112
  a39 := Tryz.isAgg112
  z39 := Tryz.sizeOf112
  v39 := Tryz.zeroValue112
  t45 := Tryz.underlying143
  a45 := Tryz.isAgg143
  z45 := Tryz.sizeOf143
  v45 := Tryz.zeroValue143
  t46 := Tryz.underlying144
  a46 := Tryz.isAgg144
  z46 := Tryz.sizeOf144
  v46 := Tryz.zeroValue144
  t50 := Tryz.underlying148
  a50 := Tryz.isAgg148
  z50 := Tryz.sizeOf148
  v50 := Tryz.zeroValue148
  t53 := Tryz.underlying151
  a53 := Tryz.isAgg151
  z53 := Tryz.sizeOf151
  v53 := Tryz.zeroValue151
  t55 := Tryz.underlying22
  a55 := Tryz.isAgg22
  z55 := Tryz.sizeOf22
  v55 := Tryz.zeroValue22
  t66 := Tryz.underlying159
  a66 := Tryz.isAgg159
  z66 := Tryz.sizeOf159
  v66 := Tryz.zeroValue159
  t70 := Tryz.underlying163
  a70 := Tryz.isAgg163
  z70 := Tryz.sizeOf163
  v70 := Tryz.zeroValue163
  t76 := Tryz.underlying182
  a76 := Tryz.isAgg182
  z76 := Tryz.sizeOf182
  v76 := Tryz.zeroValue182
  t77 := Tryz.underlying183
  a77 := Tryz.isAgg183
  z77 := Tryz.sizeOf183
  v77 := Tryz.zeroValue183 }
def Tryz.hasSym_ren : Go.Shelf.Ren := ⟨fun | 7 => 74 | 6 => 90 | n => n, fun | 22 => 24 | 24 => 45 | 4 => 4 | 0 => 0 | 3 => 3 | n => n, fun | n => n⟩
theorem Tryz.hasSym : Go.Proofs.SlLaysQ.n7 Tryz.prog Tryz.hasSym_ren := {
  mixed := by kernel_rfl
  f6 := ⟨Tryz.f90.name, by decide, Tryz.func90.trans (congrArg some (by kernel_rfl))⟩
  f7 := ⟨Tryz.f74.name, by decide, Tryz.func74.trans (congrArg some (by kernel_rfl))⟩
  t0 := Tryz.underlying0
  a0 := Tryz.isAgg0
  z0 := Tryz.sizeOf0
  v0 := Tryz.zeroValue0
  t3 := Tryz.underlying3
  a3 := Tryz.isAgg3
  z3 := Tryz.sizeOf3
  v3 := Tryz.zeroValue3
  t4 := Tryz.underlying4
  a4 := Tryz.isAgg4
  z4 := Tryz.sizeOf4
  v4 := Tryz.zeroValue4
  t22 := Tryz.underlying24
  a22 := Tryz.isAgg24
  z22 := Tryz.sizeOf24
  v22 := Tryz.zeroValue24 }
def Tryz.laysValid_ren : Go.Shelf.Ren := ⟨fun | 196 => 57 | 259 => 76 | n => n, fun | 9 => 9 | 4 => 4 | 3 => 3 | 5 => 5 | 12 => 12 | 119 => 138 | 0 => 0 | 46 => 112 | 139 => 141 | 138 => 140 | 53 => 22 | n => n, fun | 3 => 1 | 4 => 2 | n => n⟩
theorem Tryz.laysValid : Go.Proofs.Lays.n196 Tryz.prog Tryz.laysValid_ren := {
  mixed := by kernel_rfl
  f196 := Tryz.func57.trans (congrArg some (by kernel_rfl))
  f259 := Tryz.func76.trans (congrArg some (by kernel_rfl))
  t0 := Tryz.underlying0
  a0 := Tryz.isAgg0
  z0 := Tryz.sizeOf0
  v0 := Tryz.zeroValue0
  t3 := Tryz.underlying3
  a3 := Tryz.isAgg3
  z3 := Tryz.sizeOf3
  v3 := Tryz.zeroValue3
  t4 := Tryz.underlying4
  a4 := Tryz.isAgg4
  z4 := Tryz.sizeOf4
  v4 := Tryz.zeroValue4
  t5 := Tryz.underlying5
  a5 := Tryz.isAgg5
  z5 := Tryz.sizeOf5
  v5 := Tryz.zeroValue5
  t9 := Tryz.underlying9
  a9 := Tryz.isAgg9
  z9 := Tryz.sizeOf9
  v9 := Tryz.zeroValue9
  t12 := Tryz.underlying12
  a12 := Tryz.isAgg12
  z12 := Tryz.sizeOf12
  v12 := Tryz.zeroValue12
  t46 := Tryz.underlying112
  a46 := Tryz.isAgg112
  z46 := Tryz.sizeOf112
  v46 := Tryz.zeroValue112
  t53 := Tryz.underlying22
  a53 := Tryz.isAgg22
  z53 := Tryz.sizeOf22
  v53 := Tryz.zeroValue22
  t119 := Tryz.underlying138
  a119 := Tryz.isAgg138
  z119 := Tryz.sizeOf138
  t138 := Tryz.underlying140
  a138 := Tryz.isAgg140
  z138 := Tryz.sizeOf140
  v138 := Tryz.zeroValue140
  t139 := Tryz.underlying141
  a139 := Tryz.isAgg141
  z139 := Tryz.sizeOf141
  v139 := Tryz.zeroValue141
  g3 := by kernel_rfl
  g4 := by kernel_rfl }
def Tryz.laysLetter_ren : Go.Shelf.Ren := ⟨fun | 200 => 77 | 261 => 92 | 311 => 107 | 312 => 108 | n => n, fun | 21 => 21 | 4 => 4 | 51 => 151 | 5 => 5 | 119 => 138 | 0 => 0 | 141 => 158 | 196 => 174 | 193 => 171 | 3 => 3 | 198 => 177 | 49 => 175 | 194 => 172 | 201 => 180 | 226 => 188 | 46 => 112 | 227 => 189 | n => n, fun | 7 => 3 | 8 => 4 | n => n⟩
theorem Tryz.laysLetter : Go.Proofs.Lays.n200 Tryz.prog Tryz.laysLetter_ren := {
  mixed := by kernel_rfl
  f200 := Tryz.func77.trans (congrArg some (by kernel_rfl))
  f261 := Tryz.func92.trans (congrArg some (by kernel_rfl))
  f311 := Tryz.func107.trans (congrArg some (by kernel_rfl))
  f312 := Tryz.func108.trans (congrArg some (by kernel_rfl))
  t0 := Tryz.underlying0
  a0 := Tryz.isAgg0
  z0 := Tryz.sizeOf0
  v0 := Tryz.zeroValue0
  t3 := Tryz.underlying3
  a3 := Tryz.isAgg3
  z3 := Tryz.sizeOf3
  v3 := Tryz.zeroValue3
  t4 := Tryz.underlying4
  a4 := Tryz.isAgg4
  z4 := Tryz.sizeOf4
  v4 := Tryz.zeroValue4
  t5 := Tryz.underlying5
  a5 := Tryz.isAgg5
  z5 := Tryz.sizeOf5
  v5 := Tryz.zeroValue5
  t21 := Tryz.underlying21
  a21 := Tryz.isAgg21
  z21 := Tryz.sizeOf21
  v21 := Tryz.zeroValue21
  t46 := Tryz.underlying112
  a46 := Tryz.isAgg112
  z46 := Tryz.sizeOf112
  v46 := Tryz.zeroValue112
  t49 := Tryz.underlying175
  a49 := Tryz.isAgg175
  z49 := Tryz.sizeOf175
  v49 := Tryz.zeroValue175
  t51 := Tryz.underlying151
  a51 := Tryz.isAgg151
  z51 := Tryz.sizeOf151
  v51 := Tryz.zeroValue151
  t119 := Tryz.underlying138
  a119 := Tryz.isAgg138
  z119 := Tryz.sizeOf138
  t141 := Tryz.underlying158
  a141 := Tryz.isAgg158
  z141 := Tryz.sizeOf158
  v141 := Tryz.zeroValue158
  t193 := Tryz.underlying171
  a193 := Tryz.isAgg171
  z193 := Tryz.sizeOf171
  v193 := Tryz.zeroValue171
  t194 := Tryz.underlying172
  a194 := Tryz.isAgg172
  z194 := Tryz.sizeOf172
  v194 := Tryz.zeroValue172
  t196 := Tryz.underlying174
  a196 := Tryz.isAgg174
  z196 := Tryz.sizeOf174
  v196 := Tryz.zeroValue174
  t198 := Tryz.underlying177
  a198 := Tryz.isAgg177
  z198 := Tryz.sizeOf177
  v198 := Tryz.zeroValue177
  t201 := Tryz.underlying180
  a201 := Tryz.isAgg180
  z201 := Tryz.sizeOf180
  v201 := Tryz.zeroValue180
  t226 := Tryz.underlying188
  a226 := Tryz.isAgg188
  z226 := Tryz.sizeOf188
  v226 := Tryz.zeroValue188
  t227 := Tryz.underlying189
  a227 := Tryz.isAgg189
  z227 := Tryz.sizeOf189
  v227 := Tryz.zeroValue189
  g7 := by kernel_rfl
  g8 := by kernel_rfl }
def Tryz.laysCount_ren : Go.Shelf.Ren := ⟨fun | 195 => 58 | n => n, fun | 9 => 9 | 3 => 3 | 0 => 0 | 4 => 4 | n => n, fun | n => n⟩
theorem Tryz.laysCount : Go.Proofs.Lays.n195 Tryz.prog Tryz.laysCount_ren := {
  mixed := by kernel_rfl
  f195 := Tryz.func58.trans (congrArg some (by kernel_rfl))
  t0 := Tryz.underlying0
  a0 := Tryz.isAgg0
  z0 := Tryz.sizeOf0
  v0 := Tryz.zeroValue0
  t3 := Tryz.underlying3
  a3 := Tryz.isAgg3
  z3 := Tryz.sizeOf3
  v3 := Tryz.zeroValue3
  t4 := Tryz.underlying4
  a4 := Tryz.isAgg4
  z4 := Tryz.sizeOf4
  v4 := Tryz.zeroValue4
  t9 := Tryz.underlying9
  a9 := Tryz.isAgg9
  z9 := Tryz.sizeOf9
  v9 := Tryz.zeroValue9 }
def Tryz.laysCutB_ren : Go.Shelf.Ren := ⟨fun | 4 => 89 | 5 => 98 | 6 => 110 | 7 => 111 | 8 => 112 | 9 => 113 | 10 => 114 | 11 => 118 | 12 => 119 | n => n, fun | 22 => 29 | 4 => 4 | 3 => 3 | 0 => 0 | 5 => 5 | 29 => 112 | 9 => 9 | 31 => 190 | 30 => 151 | n => n, fun | 0 => 5 | n => n⟩
theorem Tryz.laysCutB : Go.Proofs.SlLaysT.n4 Tryz.prog Tryz.laysCutB_ren := {
  mixed := by kernel_rfl
  f4 := Tryz.func89.trans (congrArg some (by kernel_rfl))
  f5 := Tryz.func98.trans (congrArg some (by kernel_rfl))
  f6 := Tryz.func110.trans (congrArg some (by kernel_rfl))
  f7 := Tryz.func111.trans (congrArg some (by kernel_rfl))
  f8 := Tryz.func112.trans (congrArg some (by kernel_rfl))
  f9 := Tryz.func113.trans (congrArg some (by kernel_rfl))
  f10 := Tryz.func114.trans (congrArg some (by kernel_rfl))
  f11 := Tryz.func118.trans (congrArg some (by kernel_rfl))
  f12 := Tryz.func119.trans (congrArg some (by kernel_rfl))
  t0 := Tryz.underlying0
  a0 := Tryz.isAgg0
  z0 := Tryz.sizeOf0
  v0 := Tryz.zeroValue0
  t3 := Tryz.underlying3
  a3 := Tryz.isAgg3
  z3 := Tryz.sizeOf3
  v3 := Tryz.zeroValue3
  t4 := Tryz.underlying4
  a4 := Tryz.isAgg4
  z4 := Tryz.sizeOf4
  v4 := Tryz.zeroValue4
  t5 := Tryz.underlying5
  a5 := Tryz.isAgg5
  z5 := Tryz.sizeOf5
  v5 := Tryz.zeroValue5
  t9 := Tryz.underlying9
  a9 := Tryz.isAgg9
  z9 := Tryz.sizeOf9
  v9 := Tryz.zeroValue9
  t22 := Tryz.underlying29
  a22 := Tryz.isAgg29
  z22 := Tryz.sizeOf29
  v22 := Tryz.zeroValue29
  t29 := Tryz.underlying112
  a29 := Tryz.isAgg112
  z29 := Tryz.sizeOf112
  v29 := Tryz.zeroValue112
  t30 := Tryz.underlying151
  a30 := Tryz.isAgg151
  z30 := Tryz.sizeOf151
  v30 := Tryz.zeroValue151
  t31 := Tryz.underlying190
  a31 := Tryz.isAgg190
  z31 := Tryz.sizeOf190
  v31 := Tryz.zeroValue190
  g0 := by kernel_rfl }
end Go.Proofs
