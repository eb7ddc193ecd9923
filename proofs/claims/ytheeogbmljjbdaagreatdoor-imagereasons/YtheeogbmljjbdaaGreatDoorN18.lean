/-
  Iro.
-/
import Derived.Test.YtheeogbmljjbdaaGreatDoorN17
import Derived.BigQuiet
import Derived.Deep.RegionWith
import Derived.Deep.QuietTactic
namespace Go.Proofs.YtheeogbmljjbdaaGreatDoor
set_option linter.unusedVariables false
open Go.ChangeShapes Go.WideShapes Go.ChangeAt Go.RowKit Go.Deep
theorem idF_end {b : List Int} {r i : Nat} (h1 : b.length ≤ i) : idF b (r + 1) i = some (b.length, 20) := by rw [idF, if_pos h1]
theorem idF_bad {b : List Int} {r i : Nat} (h1 : ¬ b.length ≤ i) (h2 : b.getD i 0 ≠ magL.getD i 0) : idF b (r + 1) i = some (i, 21) := by rw [idF, if_neg h1, if_pos h2]
theorem idF_go {b : List Int} {r i : Nat} (h1 : ¬ b.length ≤ i) (h2 : b.getD i 0 = magL.getD i 0) : idF b (r + 1) i = idF b r (i + 1) := by rw [idF, if_neg h1, if_neg (fun h => h h2)]
/-- The whole head. -/
def heF (b : List Int) : Flt := (idF b 7 0).or ((hdF b).or (phF b))
def tl (f : Flt) : Nat × Nat := f.getD (0, 0)
theorem set2_blk {w : World} {R : Nat} {o0 o1 : Value} {t : TypeId} (h : w.heap[R]? = some (.cells #[o0, o1] t (0, 0))) (a b : Value) : ((w.setCell ⟨R, 0, none⟩ a).setCell ⟨R, 1, none⟩ b).heap[R]? = some (.cells #[a, b] t (0, 0)) := by
  have h0 : (w.setCell ⟨R, 0, none⟩ a).heap[R]? = some (.cells #[a, o1] t (0, 0)) := heap_setCell_same w R 0 _ t a h
  exact heap_setCell_same _ R 1 _ t b h0
theorem size52 : (Tryz.prog.info? 70).map (·.size) = some 2 := by kernel_rfl
/-- What head answers. -/
def HdA (b : List Int) (w : World) (e : Ending) (w' : World) : Prop := e = .returned (.agg #[.int .i64 (tl (heF b)).1, .int .i64 (tl (heF b)).2]) ∧ Below w.heap.size w w'
theorem hd_ret {b : List Int} {w wr : World} {F : Nat × Nat} {x y : Int} {tmps : Array Value} (hF : tl (heF b) = F) (hx : x = F.1) (hy : y = F.2) (hr : wr.heap[w.heap.size]? = some (.cells #[.int .i64 0, .int .i64 0] 70 (0, 0))) (hb : Below w.heap.size w wr)
    (hp : tmps.getD 2 undef = .pointer (some ⟨w.heap.size, 0, none⟩)) : bodyPost Tryz.prog Tryz.f32 (fun e w' => HdA b w e w') .ret { tmps := tmps, defers := [] } ((wr.setCell ⟨w.heap.size, 0, none⟩ (.int .i64 x)).setCell ⟨w.heap.size, 1, none⟩ (.int .i64 y)) := by
  subst hx hy
  refine bodyPost_ret (v := .agg #[.int .i64 F.1, .int .i64 F.2]) (results_cell_row Tryz.results32 _ _ w.heap.size 70 _ (0, 0) _ hp (set2_blk hr _ _) Tryz.underlying70 (by rfl) size52) rfl ⟨by rw [hF], ?_⟩
  exact (hb.setCell (p := ⟨w.heap.size, 0, none⟩) (Nat.le_refl _) _).setCell (p := ⟨w.heap.size, 1, none⟩) (Nat.le_refl _) _
theorem mag_cell {wr : World} {g : Nat} (h : wr.heap[g]? = some (.cells #[.int .u8 127, .int .u8 69, .int .u8 76, .int .u8 70, .int .u8 2, .int .u8 1, .int .u8 1] 5 (0, 0))) (q : Nat) (hq : q < 7) : wr.cell? ⟨g, q, none⟩ = some (.int .u8 (magL.getD q 0)) := by
  rw [cell_of_row wr g q _ _ _ h]
  have h : q = 0 ∨ q = 1 ∨ q = 2 ∨ q = 3 ∨ q = 4 ∨ q = 5 ∨ q = 6 := by omega
  rcases h with rfl | rfl | rfl | rfl | rfl | rfl | rfl <;> rfl
set_option maxRecDepth 100000 in
set_option maxHeartbeats 8000000 in
theorem rhead_c {b : List Int} (hB : AllB b) (hl : b.length ≤ 200000) (vb : Value) (w : World) (hv : Byt w vb b) :
    Calls Tryz.prog 32 #[vb] w fun e w' => HdA b w e w' := by
  have HV : Hid (∀ w', Below w.heap.size w w' → Byt w' vb b) := fun w' hb => hv.later hb rfl
  have HB : Hid (AllB b) := hB
  obtain ⟨a, cap, rfl, hc, _, _⟩ := hv
  have hlI : (b.length : Int) ≤ 200000 := by omega
  have HBL : Hid (Below w.heap.size w ((w.alloc (.cells #[.int .i64 0, .int .i64 0] 70)).alloc (.cells #[.int .u8 127, .int .u8 69, .int .u8 76, .int .u8 70, .int .u8 2, .int .u8 1, .int .u8 1] 5))) := ((Below.refl _ _).alloc (Nat.le_refl _) _).alloc (by simp) _
  have HR0 : Hid (((w.alloc (.cells #[.int .i64 0, .int .i64 0] 70)).alloc (.cells #[.int .u8 127, .int .u8 69, .int .u8 76, .int .u8 70, .int .u8 2, .int .u8 1, .int .u8 1] 5)).heap[w.heap.size]? = some (.cells #[.int .i64 0, .int .i64 0] 70 (0, 0))) := heap_alloc2_old w _ _
  have HM0 : Hid (((w.alloc (.cells #[.int .i64 0, .int .i64 0] 70)).alloc (.cells #[.int .u8 127, .int .u8 69, .int .u8 76, .int .u8 70, .int .u8 2, .int .u8 1, .int .u8 1] 5)).heap[w.heap.size + 1]? = some (.cells #[.int .u8 127, .int .u8 69, .int .u8 76, .int .u8 70, .int .u8 2, .int .u8 1, .int .u8 1] 5 (0, 0))) := heap_alloc2_new w _ _
  go_enter Tryz.func32, Tryz.ntmps32
  go_wp2
  generalize ((w.alloc (.cells #[.int .i64 0, .int .i64 0] 70)).alloc (.cells #[.int .u8 127, .int .u8 69, .int .u8 76, .int .u8 70, .int .u8 2, .int .u8 1, .int .u8 1] 5)) = w1 at *
  go_loopw [4] (fun i wr => ∃ q : Nat, q ≤ 7 ∧ i = .int .i64 q ∧ Hid (idF b (7 - q) q = idF b 7 0) ∧ Hid (wr.heap[w.heap.size]? = some (.cells #[.int .i64 0, .int .i64 0] 70 (0, 0))) ∧ Hid (wr.heap[w.heap.size + 1]? = some (.cells #[.int .u8 127, .int .u8 69, .int .u8 76, .int .u8 70, .int .u8 2, .int .u8 1, .int .u8 1] 5 (0, 0))) ∧ Hid (Below w.heap.size w wr)) (fun i _ => 7 - (intOf i).toNat)
  case atStart => exact ⟨0, by omega, rfl, rfl, HR0, HM0, HBL⟩
  case round =>
    obtain ⟨q, hq, rfl, HF, HR, HM, hw⟩ := hrel
    clear HR0 HM0 HBL
    have r0 := cell_of_row wr w.heap.size 0 _ _ _ HR.out
    have r1 := cell_of_row wr w.heap.size 1 _ _ _ HR.out
    have f0 := frozen_of_row wr w.heap.size 0 _ _ HR.out
    have f1 := frozen_of_row wr w.heap.size 1 _ _ HR.out
    by_cases hlt : q < 7
    · have hltI : (q : Int) < 7 := by omega
      have e7 : 7 - q = (6 - q) + 1 := by omega
      by_cases h1 : b.length ≤ q
      · have h1I : (b.length : Int) ≤ q := by omega
        have HE : Hid (tl (heF b) = (b.length, 20)) := by unfold Hid heF; rw [← HF.out, e7, idF_end h1]; rfl
        clear h1 e7
        go_wp2
        --@CUTA
        exact hd_ret HE.out rfl rfl HR.out hw.out (by rfl)
      · have h1I : (q : Int) < b.length := by omega
        have h1n : ¬ ((b.length : Int) ≤ q) := by omega
        obtain ⟨_, _, he, _, _, hr⟩ := HV.out wr hw.out
        simp only [Value.slice.injEq] at he
        obtain ⟨rfl, _, rfl⟩ := he
        obtain ⟨g, off, rfl, _, hcell⟩ := hr (by intro e; rw [e] at h1; exact h1 (Nat.zero_le _))
        have hce := hcell q (by omega)
        have hmc := mag_cell HM.out q hlt
        clear hcell
        by_cases h2 : b.getD q 0 = magL.getD q 0
        · have HE : Hid (idF b (7 - (q + 1)) (q + 1) = idF b 7 0) := by unfold Hid; rw [← HF.out, e7, idF_go h1 h2, show 7 - (q + 1) = 6 - q by omega]
          rw [h2] at hce
          generalize magL.getD q 0 = z at *
          clear h1 h2 e7
          go_upto_region 7 with fail
          go_quiet (fail)
          go_wp2
          go_roundw
          case rel => exact ⟨q + 1, by omega, by go_num, HE, HR, HM, ⟨hw.out.os, hw.out.tape, hw.out.output, hw.out.size, hw.out.block⟩⟩
          case measure => simp only [intOf]; omega
        · have HE : Hid (tl (heF b) = (q, 21)) := by unfold Hid heF; rw [← HF.out, e7, idF_bad h1 h2]; rfl
          generalize b.getD q 0 = z at *
          generalize magL.getD q 0 = y at *
          have hzy : (z != y) = true := by simp [h2]
          clear h1 h2 e7
          go_upto_region 7 with fail
          go_quiet (fail)
          go_wp2
          exact hd_ret HE.out rfl rfl HR.out ⟨hw.out.os, hw.out.tape, hw.out.output, hw.out.size, hw.out.block⟩ (by rfl)
    · obtain rfl : q = 7 := by omega
      have hltI : ¬ ((7 : Nat) : Int) < 7 := by omega
      have HID : Hid (idF b 7 0 = none) := HF.out.symm
      have HVW : Hid (Byt wr (.slice a b.length cap) b) := HV.out wr hw.out
      clear HF hq hlt
      --@CUTB
      by_cases c0 : b.length < 64
      · skip
        have HE : Hid (tl (heF b) = (b.length, 20)) := by unfold Hid heF; rw [HID.out, Option.none_or]; unfold hdF; rw [if_pos c0]; rfl
        have h0 : (b.length : Int) < 64 := by omega
        clear c0
        go_wp2
        exact hd_ret HE.out rfl rfl HR.out hw.out (by rfl)
      · skip
        by_cases c1 : vl b 16 2 ≠ 2
        · skip
          have HE : Hid (tl (heF b) = (16, 21)) := by unfold Hid heF; rw [HID.out, Option.none_or]; unfold hdF; rw [if_neg c0, if_pos c1]; rfl
          have h0 : ¬ (b.length : Int) < 64 := by omega
          have dN0 := rvalue_c HB.out hl (.slice a b.length cap) 56 2 56 2 rfl rfl (by omega) (by omega) wr HVW.out
          have dN1 := rvalue_c HB.out hl (.slice a b.length cap) 16 2 16 2 rfl rfl (by omega) (by omega) wr HVW.out
          have lN0 := vl_lt8 HB.out 56 2 (by omega)
          have lN1 := vl_lt8 HB.out 16 2 (by omega)
          generalize vl b 56 2 = N0 at *
          generalize vl b 16 2 = N1 at *
          have yN1 : ((N1 : Int) != 2) = true := by rw [bne_iff_ne]; omega
          have mN0 : (N0 : Int) < 18446744073709551616 := by omega
          have mN1 : (N1 : Int) < 18446744073709551616 := by omega
          have DN0 : Hid (Calls Tryz.prog 35 #[.slice a b.length cap, .int .i64 56, .int .i64 2] wr fun e w' => e = .returned (.int .u64 (N0 : Int)) ∧ wr = w') := dN0
          have DN1 : Hid (Calls Tryz.prog 35 #[.slice a b.length cap, .int .i64 16, .int .i64 2] wr fun e w' => e = .returned (.int .u64 (N1 : Int)) ∧ wr = w') := dN1
          clear dN0 dN1  lN0 lN1 c0 c1
          go_wp2_with (first | (go_at_call_of 35 (Value.int IntKind.i64 56); refine DN0.out.mono ?_; rintro e w' ⟨rfl, rfl⟩) | (go_at_call_of 35 (Value.int IntKind.i64 16); refine DN1.out.mono ?_; rintro e w' ⟨rfl, rfl⟩))
          exact hd_ret HE.out rfl rfl HR.out hw.out (by rfl)
        · skip
          by_cases c2 : vl b 18 2 ≠ 243
          · skip
            have HE : Hid (tl (heF b) = (18, 21)) := by unfold Hid heF; rw [HID.out, Option.none_or]; unfold hdF; rw [if_neg c0, if_neg c1, if_pos c2]; rfl
            have h0 : ¬ (b.length : Int) < 64 := by omega
            have dN0 := rvalue_c HB.out hl (.slice a b.length cap) 56 2 56 2 rfl rfl (by omega) (by omega) wr HVW.out
            have dN1 := rvalue_c HB.out hl (.slice a b.length cap) 16 2 16 2 rfl rfl (by omega) (by omega) wr HVW.out
            have dN2 := rvalue_c HB.out hl (.slice a b.length cap) 18 2 18 2 rfl rfl (by omega) (by omega) wr HVW.out
            have lN0 := vl_lt8 HB.out 56 2 (by omega)
            have lN1 := vl_lt8 HB.out 16 2 (by omega)
            have lN2 := vl_lt8 HB.out 18 2 (by omega)
            generalize vl b 56 2 = N0 at *
            generalize vl b 16 2 = N1 at *
            generalize vl b 18 2 = N2 at *
            have yN1 : ((N1 : Int) != 2) = false := by simp only [bne_eq_false_iff_eq]; omega
            have yN2 : ((N2 : Int) != 243) = true := by rw [bne_iff_ne]; omega
            have mN0 : (N0 : Int) < 18446744073709551616 := by omega
            have mN1 : (N1 : Int) < 18446744073709551616 := by omega
            have mN2 : (N2 : Int) < 18446744073709551616 := by omega
            have DN0 : Hid (Calls Tryz.prog 35 #[.slice a b.length cap, .int .i64 56, .int .i64 2] wr fun e w' => e = .returned (.int .u64 (N0 : Int)) ∧ wr = w') := dN0
            have DN1 : Hid (Calls Tryz.prog 35 #[.slice a b.length cap, .int .i64 16, .int .i64 2] wr fun e w' => e = .returned (.int .u64 (N1 : Int)) ∧ wr = w') := dN1
            have DN2 : Hid (Calls Tryz.prog 35 #[.slice a b.length cap, .int .i64 18, .int .i64 2] wr fun e w' => e = .returned (.int .u64 (N2 : Int)) ∧ wr = w') := dN2
            clear dN0 dN1 dN2  lN0 lN1 lN2 c0 c1 c2
            go_wp2_with (first | (go_at_call_of 35 (Value.int IntKind.i64 56); refine DN0.out.mono ?_; rintro e w' ⟨rfl, rfl⟩) | (go_at_call_of 35 (Value.int IntKind.i64 16); refine DN1.out.mono ?_; rintro e w' ⟨rfl, rfl⟩) | (go_at_call_of 35 (Value.int IntKind.i64 18); refine DN2.out.mono ?_; rintro e w' ⟨rfl, rfl⟩))
            exact hd_ret HE.out rfl rfl HR.out hw.out (by rfl)
          · skip
            by_cases c3 : vl b 20 4 ≠ 1
            · skip
              have HE : Hid (tl (heF b) = (20, 21)) := by unfold Hid heF; rw [HID.out, Option.none_or]; unfold hdF; rw [if_neg c0, if_neg c1, if_neg c2, if_pos c3]; rfl
              have h0 : ¬ (b.length : Int) < 64 := by omega
              have dN0 := rvalue_c HB.out hl (.slice a b.length cap) 56 2 56 2 rfl rfl (by omega) (by omega) wr HVW.out
              have dN1 := rvalue_c HB.out hl (.slice a b.length cap) 16 2 16 2 rfl rfl (by omega) (by omega) wr HVW.out
              have dN2 := rvalue_c HB.out hl (.slice a b.length cap) 18 2 18 2 rfl rfl (by omega) (by omega) wr HVW.out
              have dN3 := rvalue_c HB.out hl (.slice a b.length cap) 20 4 20 4 rfl rfl (by omega) (by omega) wr HVW.out
              have lN0 := vl_lt8 HB.out 56 2 (by omega)
              have lN1 := vl_lt8 HB.out 16 2 (by omega)
              have lN2 := vl_lt8 HB.out 18 2 (by omega)
              have lN3 := vl_lt8 HB.out 20 4 (by omega)
              generalize vl b 56 2 = N0 at *
              generalize vl b 16 2 = N1 at *
              generalize vl b 18 2 = N2 at *
              generalize vl b 20 4 = N3 at *
              have yN1 : ((N1 : Int) != 2) = false := by simp only [bne_eq_false_iff_eq]; omega
              have yN2 : ((N2 : Int) != 243) = false := by simp only [bne_eq_false_iff_eq]; omega
              have yN3 : ((N3 : Int) != 1) = true := by rw [bne_iff_ne]; omega
              have mN0 : (N0 : Int) < 18446744073709551616 := by omega
              have mN1 : (N1 : Int) < 18446744073709551616 := by omega
              have mN2 : (N2 : Int) < 18446744073709551616 := by omega
              have mN3 : (N3 : Int) < 18446744073709551616 := by omega
              have DN0 : Hid (Calls Tryz.prog 35 #[.slice a b.length cap, .int .i64 56, .int .i64 2] wr fun e w' => e = .returned (.int .u64 (N0 : Int)) ∧ wr = w') := dN0
              have DN1 : Hid (Calls Tryz.prog 35 #[.slice a b.length cap, .int .i64 16, .int .i64 2] wr fun e w' => e = .returned (.int .u64 (N1 : Int)) ∧ wr = w') := dN1
              have DN2 : Hid (Calls Tryz.prog 35 #[.slice a b.length cap, .int .i64 18, .int .i64 2] wr fun e w' => e = .returned (.int .u64 (N2 : Int)) ∧ wr = w') := dN2
              have DN3 : Hid (Calls Tryz.prog 35 #[.slice a b.length cap, .int .i64 20, .int .i64 4] wr fun e w' => e = .returned (.int .u64 (N3 : Int)) ∧ wr = w') := dN3
              clear dN0 dN1 dN2 dN3  lN0 lN1 lN2 lN3 c0 c1 c2 c3
              go_wp2_with (first | (go_at_call_of 35 (Value.int IntKind.i64 56); refine DN0.out.mono ?_; rintro e w' ⟨rfl, rfl⟩) | (go_at_call_of 35 (Value.int IntKind.i64 16); refine DN1.out.mono ?_; rintro e w' ⟨rfl, rfl⟩) | (go_at_call_of 35 (Value.int IntKind.i64 18); refine DN2.out.mono ?_; rintro e w' ⟨rfl, rfl⟩) | (go_at_call_of 35 (Value.int IntKind.i64 20); refine DN3.out.mono ?_; rintro e w' ⟨rfl, rfl⟩))
              exact hd_ret HE.out rfl rfl HR.out hw.out (by rfl)
            · skip
              by_cases c4 : vl b 24 8 % 2 = 1
              · skip
                have HE : Hid (tl (heF b) = (24, 22)) := by unfold Hid heF; rw [HID.out, Option.none_or]; unfold hdF; rw [if_neg c0, if_neg c1, if_neg c2, if_neg c3, if_pos c4]; rfl
                have h0 : ¬ (b.length : Int) < 64 := by omega
                have dN0 := rvalue_c HB.out hl (.slice a b.length cap) 56 2 56 2 rfl rfl (by omega) (by omega) wr HVW.out
                have dN1 := rvalue_c HB.out hl (.slice a b.length cap) 16 2 16 2 rfl rfl (by omega) (by omega) wr HVW.out
                have dN2 := rvalue_c HB.out hl (.slice a b.length cap) 18 2 18 2 rfl rfl (by omega) (by omega) wr HVW.out
                have dN3 := rvalue_c HB.out hl (.slice a b.length cap) 20 4 20 4 rfl rfl (by omega) (by omega) wr HVW.out
                have dN4 := rvalue_c HB.out hl (.slice a b.length cap) 24 8 24 8 rfl rfl (by omega) (by omega) wr HVW.out
                have lN0 := vl_lt8 HB.out 56 2 (by omega)
                have lN1 := vl_lt8 HB.out 16 2 (by omega)
                have lN2 := vl_lt8 HB.out 18 2 (by omega)
                have lN3 := vl_lt8 HB.out 20 4 (by omega)
                have lN4 := vl_lt8 HB.out 24 8 (by omega)
                generalize vl b 56 2 = N0 at *
                generalize vl b 16 2 = N1 at *
                generalize vl b 18 2 = N2 at *
                generalize vl b 20 4 = N3 at *
                generalize vl b 24 8 = N4 at *
                have yN1 : ((N1 : Int) != 2) = false := by simp only [bne_eq_false_iff_eq]; omega
                have yN2 : ((N2 : Int) != 243) = false := by simp only [bne_eq_false_iff_eq]; omega
                have yN3 : ((N3 : Int) != 1) = false := by simp only [bne_eq_false_iff_eq]; omega
                have rN4 : N4 % 2 = 1 := by omega
                have yN4 : ((N4 : Int) % 2 == 1) = true := by rw [show (N4 : Int) % 2 = 1 by omega]; rfl
                have xN4 : (((N4 % 2 : Nat) : Int) == 1) = true := by rw [rN4]; rfl
                have vN4 : ((N4 : Int).tmod 2 == 1) = true := by rw [Int.tmod_eq_emod_of_nonneg (by omega)]; exact yN4
                clear rN4
                have mN0 : (N0 : Int) < 18446744073709551616 := by omega
                have mN1 : (N1 : Int) < 18446744073709551616 := by omega
                have mN2 : (N2 : Int) < 18446744073709551616 := by omega
                have mN3 : (N3 : Int) < 18446744073709551616 := by omega
                have mN4 : (N4 : Int) < 18446744073709551616 := by omega
                have DN0 : Hid (Calls Tryz.prog 35 #[.slice a b.length cap, .int .i64 56, .int .i64 2] wr fun e w' => e = .returned (.int .u64 (N0 : Int)) ∧ wr = w') := dN0
                have DN1 : Hid (Calls Tryz.prog 35 #[.slice a b.length cap, .int .i64 16, .int .i64 2] wr fun e w' => e = .returned (.int .u64 (N1 : Int)) ∧ wr = w') := dN1
                have DN2 : Hid (Calls Tryz.prog 35 #[.slice a b.length cap, .int .i64 18, .int .i64 2] wr fun e w' => e = .returned (.int .u64 (N2 : Int)) ∧ wr = w') := dN2
                have DN3 : Hid (Calls Tryz.prog 35 #[.slice a b.length cap, .int .i64 20, .int .i64 4] wr fun e w' => e = .returned (.int .u64 (N3 : Int)) ∧ wr = w') := dN3
                have DN4 : Hid (Calls Tryz.prog 35 #[.slice a b.length cap, .int .i64 24, .int .i64 8] wr fun e w' => e = .returned (.int .u64 (N4 : Int)) ∧ wr = w') := dN4
                clear dN0 dN1 dN2 dN3 dN4  lN0 lN1 lN2 lN3 lN4 c0 c1 c2 c3 c4
                go_wp2_with (first | (go_at_call_of 35 (Value.int IntKind.i64 56); refine DN0.out.mono ?_; rintro e w' ⟨rfl, rfl⟩) | (go_at_call_of 35 (Value.int IntKind.i64 16); refine DN1.out.mono ?_; rintro e w' ⟨rfl, rfl⟩) | (go_at_call_of 35 (Value.int IntKind.i64 18); refine DN2.out.mono ?_; rintro e w' ⟨rfl, rfl⟩) | (go_at_call_of 35 (Value.int IntKind.i64 20); refine DN3.out.mono ?_; rintro e w' ⟨rfl, rfl⟩) | (go_at_call_of 35 (Value.int IntKind.i64 24); refine DN4.out.mono ?_; rintro e w' ⟨rfl, rfl⟩))
                exact hd_ret HE.out rfl rfl HR.out hw.out (by rfl)
              · skip
                by_cases c5 : 1 < vl b 48 4
                · skip
                  have HE : Hid (tl (heF b) = (48, 22)) := by unfold Hid heF; rw [HID.out, Option.none_or]; unfold hdF; rw [if_neg c0, if_neg c1, if_neg c2, if_neg c3, if_neg c4, if_pos c5]; rfl
                  have h0 : ¬ (b.length : Int) < 64 := by omega
                  have dN0 := rvalue_c HB.out hl (.slice a b.length cap) 56 2 56 2 rfl rfl (by omega) (by omega) wr HVW.out
                  have dN1 := rvalue_c HB.out hl (.slice a b.length cap) 16 2 16 2 rfl rfl (by omega) (by omega) wr HVW.out
                  have dN2 := rvalue_c HB.out hl (.slice a b.length cap) 18 2 18 2 rfl rfl (by omega) (by omega) wr HVW.out
                  have dN3 := rvalue_c HB.out hl (.slice a b.length cap) 20 4 20 4 rfl rfl (by omega) (by omega) wr HVW.out
                  have dN4 := rvalue_c HB.out hl (.slice a b.length cap) 24 8 24 8 rfl rfl (by omega) (by omega) wr HVW.out
                  have dN5 := rvalue_c HB.out hl (.slice a b.length cap) 48 4 48 4 rfl rfl (by omega) (by omega) wr HVW.out
                  have lN0 := vl_lt8 HB.out 56 2 (by omega)
                  have lN1 := vl_lt8 HB.out 16 2 (by omega)
                  have lN2 := vl_lt8 HB.out 18 2 (by omega)
                  have lN3 := vl_lt8 HB.out 20 4 (by omega)
                  have lN4 := vl_lt8 HB.out 24 8 (by omega)
                  have lN5 := vl_lt8 HB.out 48 4 (by omega)
                  generalize vl b 56 2 = N0 at *
                  generalize vl b 16 2 = N1 at *
                  generalize vl b 18 2 = N2 at *
                  generalize vl b 20 4 = N3 at *
                  generalize vl b 24 8 = N4 at *
                  generalize vl b 48 4 = N5 at *
                  have yN1 : ((N1 : Int) != 2) = false := by simp only [bne_eq_false_iff_eq]; omega
                  have yN2 : ((N2 : Int) != 243) = false := by simp only [bne_eq_false_iff_eq]; omega
                  have yN3 : ((N3 : Int) != 1) = false := by simp only [bne_eq_false_iff_eq]; omega
                  have rN4 : N4 % 2 = 0 := by omega
                  have yN4 : ((N4 : Int) % 2 == 1) = false := by rw [show (N4 : Int) % 2 = 0 by omega]; rfl
                  have xN4 : (((N4 % 2 : Nat) : Int) == 1) = false := by rw [rN4]; rfl
                  have vN4 : ((N4 : Int).tmod 2 == 1) = false := by rw [Int.tmod_eq_emod_of_nonneg (by omega)]; exact yN4
                  clear rN4
                  have yN5 : decide ((1 : Int) < (N5 : Int)) = true := by rw [decide_eq_true_iff]; omega
                  have xN5 : (1 : Int) < (N5 : Int) := by omega
                  have mN0 : (N0 : Int) < 18446744073709551616 := by omega
                  have mN1 : (N1 : Int) < 18446744073709551616 := by omega
                  have mN2 : (N2 : Int) < 18446744073709551616 := by omega
                  have mN3 : (N3 : Int) < 18446744073709551616 := by omega
                  have mN4 : (N4 : Int) < 18446744073709551616 := by omega
                  have mN5 : (N5 : Int) < 18446744073709551616 := by omega
                  have DN0 : Hid (Calls Tryz.prog 35 #[.slice a b.length cap, .int .i64 56, .int .i64 2] wr fun e w' => e = .returned (.int .u64 (N0 : Int)) ∧ wr = w') := dN0
                  have DN1 : Hid (Calls Tryz.prog 35 #[.slice a b.length cap, .int .i64 16, .int .i64 2] wr fun e w' => e = .returned (.int .u64 (N1 : Int)) ∧ wr = w') := dN1
                  have DN2 : Hid (Calls Tryz.prog 35 #[.slice a b.length cap, .int .i64 18, .int .i64 2] wr fun e w' => e = .returned (.int .u64 (N2 : Int)) ∧ wr = w') := dN2
                  have DN3 : Hid (Calls Tryz.prog 35 #[.slice a b.length cap, .int .i64 20, .int .i64 4] wr fun e w' => e = .returned (.int .u64 (N3 : Int)) ∧ wr = w') := dN3
                  have DN4 : Hid (Calls Tryz.prog 35 #[.slice a b.length cap, .int .i64 24, .int .i64 8] wr fun e w' => e = .returned (.int .u64 (N4 : Int)) ∧ wr = w') := dN4
                  have DN5 : Hid (Calls Tryz.prog 35 #[.slice a b.length cap, .int .i64 48, .int .i64 4] wr fun e w' => e = .returned (.int .u64 (N5 : Int)) ∧ wr = w') := dN5
                  clear dN0 dN1 dN2 dN3 dN4 dN5  lN0 lN1 lN2 lN3 lN4 lN5 c0 c1 c2 c3 c4 c5
                  go_wp2_with (first | (go_at_call_of 35 (Value.int IntKind.i64 56); refine DN0.out.mono ?_; rintro e w' ⟨rfl, rfl⟩) | (go_at_call_of 35 (Value.int IntKind.i64 16); refine DN1.out.mono ?_; rintro e w' ⟨rfl, rfl⟩) | (go_at_call_of 35 (Value.int IntKind.i64 18); refine DN2.out.mono ?_; rintro e w' ⟨rfl, rfl⟩) | (go_at_call_of 35 (Value.int IntKind.i64 20); refine DN3.out.mono ?_; rintro e w' ⟨rfl, rfl⟩) | (go_at_call_of 35 (Value.int IntKind.i64 24); refine DN4.out.mono ?_; rintro e w' ⟨rfl, rfl⟩) | (go_at_call_of 35 (Value.int IntKind.i64 48); refine DN5.out.mono ?_; rintro e w' ⟨rfl, rfl⟩))
                  exact hd_ret HE.out rfl rfl HR.out hw.out (by rfl)
                · skip
                  by_cases c6 : vl b 52 2 ≠ 64
                  · skip
                    have HE : Hid (tl (heF b) = (52, 22)) := by unfold Hid heF; rw [HID.out, Option.none_or]; unfold hdF; rw [if_neg c0, if_neg c1, if_neg c2, if_neg c3, if_neg c4, if_neg c5, if_pos c6]; rfl
                    have h0 : ¬ (b.length : Int) < 64 := by omega
                    have dN0 := rvalue_c HB.out hl (.slice a b.length cap) 56 2 56 2 rfl rfl (by omega) (by omega) wr HVW.out
                    have dN1 := rvalue_c HB.out hl (.slice a b.length cap) 16 2 16 2 rfl rfl (by omega) (by omega) wr HVW.out
                    have dN2 := rvalue_c HB.out hl (.slice a b.length cap) 18 2 18 2 rfl rfl (by omega) (by omega) wr HVW.out
                    have dN3 := rvalue_c HB.out hl (.slice a b.length cap) 20 4 20 4 rfl rfl (by omega) (by omega) wr HVW.out
                    have dN4 := rvalue_c HB.out hl (.slice a b.length cap) 24 8 24 8 rfl rfl (by omega) (by omega) wr HVW.out
                    have dN5 := rvalue_c HB.out hl (.slice a b.length cap) 48 4 48 4 rfl rfl (by omega) (by omega) wr HVW.out
                    have dN6 := rvalue_c HB.out hl (.slice a b.length cap) 52 2 52 2 rfl rfl (by omega) (by omega) wr HVW.out
                    have lN0 := vl_lt8 HB.out 56 2 (by omega)
                    have lN1 := vl_lt8 HB.out 16 2 (by omega)
                    have lN2 := vl_lt8 HB.out 18 2 (by omega)
                    have lN3 := vl_lt8 HB.out 20 4 (by omega)
                    have lN4 := vl_lt8 HB.out 24 8 (by omega)
                    have lN5 := vl_lt8 HB.out 48 4 (by omega)
                    have lN6 := vl_lt8 HB.out 52 2 (by omega)
                    generalize vl b 56 2 = N0 at *
                    generalize vl b 16 2 = N1 at *
                    generalize vl b 18 2 = N2 at *
                    generalize vl b 20 4 = N3 at *
                    generalize vl b 24 8 = N4 at *
                    generalize vl b 48 4 = N5 at *
                    generalize vl b 52 2 = N6 at *
                    have yN1 : ((N1 : Int) != 2) = false := by simp only [bne_eq_false_iff_eq]; omega
                    have yN2 : ((N2 : Int) != 243) = false := by simp only [bne_eq_false_iff_eq]; omega
                    have yN3 : ((N3 : Int) != 1) = false := by simp only [bne_eq_false_iff_eq]; omega
                    have rN4 : N4 % 2 = 0 := by omega
                    have yN4 : ((N4 : Int) % 2 == 1) = false := by rw [show (N4 : Int) % 2 = 0 by omega]; rfl
                    have xN4 : (((N4 % 2 : Nat) : Int) == 1) = false := by rw [rN4]; rfl
                    have vN4 : ((N4 : Int).tmod 2 == 1) = false := by rw [Int.tmod_eq_emod_of_nonneg (by omega)]; exact yN4
                    clear rN4
                    have yN5 : decide ((1 : Int) < (N5 : Int)) = false := by rw [decide_eq_false_iff_not]; omega
                    have xN5 : ¬ (1 : Int) < (N5 : Int) := by omega
                    have yN6 : ((N6 : Int) != 64) = true := by rw [bne_iff_ne]; omega
                    have mN0 : (N0 : Int) < 18446744073709551616 := by omega
                    have mN1 : (N1 : Int) < 18446744073709551616 := by omega
                    have mN2 : (N2 : Int) < 18446744073709551616 := by omega
                    have mN3 : (N3 : Int) < 18446744073709551616 := by omega
                    have mN4 : (N4 : Int) < 18446744073709551616 := by omega
                    have mN5 : (N5 : Int) < 18446744073709551616 := by omega
                    have mN6 : (N6 : Int) < 18446744073709551616 := by omega
                    have DN0 : Hid (Calls Tryz.prog 35 #[.slice a b.length cap, .int .i64 56, .int .i64 2] wr fun e w' => e = .returned (.int .u64 (N0 : Int)) ∧ wr = w') := dN0
                    have DN1 : Hid (Calls Tryz.prog 35 #[.slice a b.length cap, .int .i64 16, .int .i64 2] wr fun e w' => e = .returned (.int .u64 (N1 : Int)) ∧ wr = w') := dN1
                    have DN2 : Hid (Calls Tryz.prog 35 #[.slice a b.length cap, .int .i64 18, .int .i64 2] wr fun e w' => e = .returned (.int .u64 (N2 : Int)) ∧ wr = w') := dN2
                    have DN3 : Hid (Calls Tryz.prog 35 #[.slice a b.length cap, .int .i64 20, .int .i64 4] wr fun e w' => e = .returned (.int .u64 (N3 : Int)) ∧ wr = w') := dN3
                    have DN4 : Hid (Calls Tryz.prog 35 #[.slice a b.length cap, .int .i64 24, .int .i64 8] wr fun e w' => e = .returned (.int .u64 (N4 : Int)) ∧ wr = w') := dN4
                    have DN5 : Hid (Calls Tryz.prog 35 #[.slice a b.length cap, .int .i64 48, .int .i64 4] wr fun e w' => e = .returned (.int .u64 (N5 : Int)) ∧ wr = w') := dN5
                    have DN6 : Hid (Calls Tryz.prog 35 #[.slice a b.length cap, .int .i64 52, .int .i64 2] wr fun e w' => e = .returned (.int .u64 (N6 : Int)) ∧ wr = w') := dN6
                    clear dN0 dN1 dN2 dN3 dN4 dN5 dN6  lN0 lN1 lN2 lN3 lN4 lN5 lN6 c0 c1 c2 c3 c4 c5 c6
                    go_wp2_with (first | (go_at_call_of 35 (Value.int IntKind.i64 56); refine DN0.out.mono ?_; rintro e w' ⟨rfl, rfl⟩) | (go_at_call_of 35 (Value.int IntKind.i64 16); refine DN1.out.mono ?_; rintro e w' ⟨rfl, rfl⟩) | (go_at_call_of 35 (Value.int IntKind.i64 18); refine DN2.out.mono ?_; rintro e w' ⟨rfl, rfl⟩) | (go_at_call_of 35 (Value.int IntKind.i64 20); refine DN3.out.mono ?_; rintro e w' ⟨rfl, rfl⟩) | (go_at_call_of 35 (Value.int IntKind.i64 24); refine DN4.out.mono ?_; rintro e w' ⟨rfl, rfl⟩) | (go_at_call_of 35 (Value.int IntKind.i64 48); refine DN5.out.mono ?_; rintro e w' ⟨rfl, rfl⟩) | (go_at_call_of 35 (Value.int IntKind.i64 52); refine DN6.out.mono ?_; rintro e w' ⟨rfl, rfl⟩))
                    exact hd_ret HE.out rfl rfl HR.out hw.out (by rfl)
                  · skip
                    by_cases c7 : vl b 56 2 ≠ 0 ∧ vl b 54 2 ≠ 56
                    · skip
                      have HE : Hid (tl (heF b) = (54, 22)) := by unfold Hid heF; rw [HID.out, Option.none_or]; unfold hdF; rw [if_neg c0, if_neg c1, if_neg c2, if_neg c3, if_neg c4, if_neg c5, if_neg c6, Option.none_or]; unfold phF; rw [if_pos c7]; rfl
                      have h0 : ¬ (b.length : Int) < 64 := by omega
                      have dN0 := rvalue_c HB.out hl (.slice a b.length cap) 56 2 56 2 rfl rfl (by omega) (by omega) wr HVW.out
                      have dN1 := rvalue_c HB.out hl (.slice a b.length cap) 16 2 16 2 rfl rfl (by omega) (by omega) wr HVW.out
                      have dN2 := rvalue_c HB.out hl (.slice a b.length cap) 18 2 18 2 rfl rfl (by omega) (by omega) wr HVW.out
                      have dN3 := rvalue_c HB.out hl (.slice a b.length cap) 20 4 20 4 rfl rfl (by omega) (by omega) wr HVW.out
                      have dN4 := rvalue_c HB.out hl (.slice a b.length cap) 24 8 24 8 rfl rfl (by omega) (by omega) wr HVW.out
                      have dN5 := rvalue_c HB.out hl (.slice a b.length cap) 48 4 48 4 rfl rfl (by omega) (by omega) wr HVW.out
                      have dN6 := rvalue_c HB.out hl (.slice a b.length cap) 52 2 52 2 rfl rfl (by omega) (by omega) wr HVW.out
                      have dN7 := rvalue_c HB.out hl (.slice a b.length cap) 54 2 54 2 rfl rfl (by omega) (by omega) wr HVW.out
                      have lN0 := vl_lt8 HB.out 56 2 (by omega)
                      have lN1 := vl_lt8 HB.out 16 2 (by omega)
                      have lN2 := vl_lt8 HB.out 18 2 (by omega)
                      have lN3 := vl_lt8 HB.out 20 4 (by omega)
                      have lN4 := vl_lt8 HB.out 24 8 (by omega)
                      have lN5 := vl_lt8 HB.out 48 4 (by omega)
                      have lN6 := vl_lt8 HB.out 52 2 (by omega)
                      have lN7 := vl_lt8 HB.out 54 2 (by omega)
                      generalize vl b 56 2 = N0 at *
                      generalize vl b 16 2 = N1 at *
                      generalize vl b 18 2 = N2 at *
                      generalize vl b 20 4 = N3 at *
                      generalize vl b 24 8 = N4 at *
                      generalize vl b 48 4 = N5 at *
                      generalize vl b 52 2 = N6 at *
                      generalize vl b 54 2 = N7 at *
                      have yN1 : ((N1 : Int) != 2) = false := by simp only [bne_eq_false_iff_eq]; omega
                      have yN2 : ((N2 : Int) != 243) = false := by simp only [bne_eq_false_iff_eq]; omega
                      have yN3 : ((N3 : Int) != 1) = false := by simp only [bne_eq_false_iff_eq]; omega
                      have rN4 : N4 % 2 = 0 := by omega
                      have yN4 : ((N4 : Int) % 2 == 1) = false := by rw [show (N4 : Int) % 2 = 0 by omega]; rfl
                      have xN4 : (((N4 % 2 : Nat) : Int) == 1) = false := by rw [rN4]; rfl
                      have vN4 : ((N4 : Int).tmod 2 == 1) = false := by rw [Int.tmod_eq_emod_of_nonneg (by omega)]; exact yN4
                      clear rN4
                      have yN5 : decide ((1 : Int) < (N5 : Int)) = false := by rw [decide_eq_false_iff_not]; omega
                      have xN5 : ¬ (1 : Int) < (N5 : Int) := by omega
                      have yN6 : ((N6 : Int) != 64) = false := by simp only [bne_eq_false_iff_eq]; omega
                      have mN0 : (N0 : Int) < 18446744073709551616 := by omega
                      have mN1 : (N1 : Int) < 18446744073709551616 := by omega
                      have mN2 : (N2 : Int) < 18446744073709551616 := by omega
                      have mN3 : (N3 : Int) < 18446744073709551616 := by omega
                      have mN4 : (N4 : Int) < 18446744073709551616 := by omega
                      have mN5 : (N5 : Int) < 18446744073709551616 := by omega
                      have mN6 : (N6 : Int) < 18446744073709551616 := by omega
                      have mN7 : (N7 : Int) < 18446744073709551616 := by omega
                      have yz : ((N0 : Int) != 0) = true := by rw [bne_iff_ne]; omega
                      have yy : ((N7 : Int) != 56) = true := by rw [bne_iff_ne]; omega
                      have DN0 : Hid (Calls Tryz.prog 35 #[.slice a b.length cap, .int .i64 56, .int .i64 2] wr fun e w' => e = .returned (.int .u64 (N0 : Int)) ∧ wr = w') := dN0
                      have DN1 : Hid (Calls Tryz.prog 35 #[.slice a b.length cap, .int .i64 16, .int .i64 2] wr fun e w' => e = .returned (.int .u64 (N1 : Int)) ∧ wr = w') := dN1
                      have DN2 : Hid (Calls Tryz.prog 35 #[.slice a b.length cap, .int .i64 18, .int .i64 2] wr fun e w' => e = .returned (.int .u64 (N2 : Int)) ∧ wr = w') := dN2
                      have DN3 : Hid (Calls Tryz.prog 35 #[.slice a b.length cap, .int .i64 20, .int .i64 4] wr fun e w' => e = .returned (.int .u64 (N3 : Int)) ∧ wr = w') := dN3
                      have DN4 : Hid (Calls Tryz.prog 35 #[.slice a b.length cap, .int .i64 24, .int .i64 8] wr fun e w' => e = .returned (.int .u64 (N4 : Int)) ∧ wr = w') := dN4
                      have DN5 : Hid (Calls Tryz.prog 35 #[.slice a b.length cap, .int .i64 48, .int .i64 4] wr fun e w' => e = .returned (.int .u64 (N5 : Int)) ∧ wr = w') := dN5
                      have DN6 : Hid (Calls Tryz.prog 35 #[.slice a b.length cap, .int .i64 52, .int .i64 2] wr fun e w' => e = .returned (.int .u64 (N6 : Int)) ∧ wr = w') := dN6
                      have DN7 : Hid (Calls Tryz.prog 35 #[.slice a b.length cap, .int .i64 54, .int .i64 2] wr fun e w' => e = .returned (.int .u64 (N7 : Int)) ∧ wr = w') := dN7
                      clear dN0 dN1 dN2 dN3 dN4 dN5 dN6 dN7  lN0 lN1 lN2 lN3 lN4 lN5 lN6 lN7 c0 c1 c2 c3 c4 c5 c6 c7
                      go_wp2_with (first | (go_at_call_of 35 (Value.int IntKind.i64 56); refine DN0.out.mono ?_; rintro e w' ⟨rfl, rfl⟩) | (go_at_call_of 35 (Value.int IntKind.i64 16); refine DN1.out.mono ?_; rintro e w' ⟨rfl, rfl⟩) | (go_at_call_of 35 (Value.int IntKind.i64 18); refine DN2.out.mono ?_; rintro e w' ⟨rfl, rfl⟩) | (go_at_call_of 35 (Value.int IntKind.i64 20); refine DN3.out.mono ?_; rintro e w' ⟨rfl, rfl⟩) | (go_at_call_of 35 (Value.int IntKind.i64 24); refine DN4.out.mono ?_; rintro e w' ⟨rfl, rfl⟩) | (go_at_call_of 35 (Value.int IntKind.i64 48); refine DN5.out.mono ?_; rintro e w' ⟨rfl, rfl⟩) | (go_at_call_of 35 (Value.int IntKind.i64 52); refine DN6.out.mono ?_; rintro e w' ⟨rfl, rfl⟩) | (go_at_call_of 35 (Value.int IntKind.i64 54); refine DN7.out.mono ?_; rintro e w' ⟨rfl, rfl⟩))
                      exact hd_ret HE.out rfl rfl HR.out hw.out (by rfl)
                    · skip
                      by_cases c8 : 16 < vl b 56 2
                      · skip
                        have HE : Hid (tl (heF b) = (56, 2)) := by unfold Hid heF; rw [HID.out, Option.none_or]; unfold hdF; rw [if_neg c0, if_neg c1, if_neg c2, if_neg c3, if_neg c4, if_neg c5, if_neg c6, Option.none_or]; unfold phF; rw [if_neg c7, if_pos c8]; rfl
                        have h0 : ¬ (b.length : Int) < 64 := by omega
                        have dN0 := rvalue_c HB.out hl (.slice a b.length cap) 56 2 56 2 rfl rfl (by omega) (by omega) wr HVW.out
                        have dN1 := rvalue_c HB.out hl (.slice a b.length cap) 16 2 16 2 rfl rfl (by omega) (by omega) wr HVW.out
                        have dN2 := rvalue_c HB.out hl (.slice a b.length cap) 18 2 18 2 rfl rfl (by omega) (by omega) wr HVW.out
                        have dN3 := rvalue_c HB.out hl (.slice a b.length cap) 20 4 20 4 rfl rfl (by omega) (by omega) wr HVW.out
                        have dN4 := rvalue_c HB.out hl (.slice a b.length cap) 24 8 24 8 rfl rfl (by omega) (by omega) wr HVW.out
                        have dN5 := rvalue_c HB.out hl (.slice a b.length cap) 48 4 48 4 rfl rfl (by omega) (by omega) wr HVW.out
                        have dN6 := rvalue_c HB.out hl (.slice a b.length cap) 52 2 52 2 rfl rfl (by omega) (by omega) wr HVW.out
                        have dN7 := rvalue_c HB.out hl (.slice a b.length cap) 54 2 54 2 rfl rfl (by omega) (by omega) wr HVW.out
                        have lN0 := vl_lt8 HB.out 56 2 (by omega)
                        have lN1 := vl_lt8 HB.out 16 2 (by omega)
                        have lN2 := vl_lt8 HB.out 18 2 (by omega)
                        have lN3 := vl_lt8 HB.out 20 4 (by omega)
                        have lN4 := vl_lt8 HB.out 24 8 (by omega)
                        have lN5 := vl_lt8 HB.out 48 4 (by omega)
                        have lN6 := vl_lt8 HB.out 52 2 (by omega)
                        have lN7 := vl_lt8 HB.out 54 2 (by omega)
                        generalize vl b 56 2 = N0 at *
                        generalize vl b 16 2 = N1 at *
                        generalize vl b 18 2 = N2 at *
                        generalize vl b 20 4 = N3 at *
                        generalize vl b 24 8 = N4 at *
                        generalize vl b 48 4 = N5 at *
                        generalize vl b 52 2 = N6 at *
                        generalize vl b 54 2 = N7 at *
                        have yN1 : ((N1 : Int) != 2) = false := by simp only [bne_eq_false_iff_eq]; omega
                        have yN2 : ((N2 : Int) != 243) = false := by simp only [bne_eq_false_iff_eq]; omega
                        have yN3 : ((N3 : Int) != 1) = false := by simp only [bne_eq_false_iff_eq]; omega
                        have rN4 : N4 % 2 = 0 := by omega
                        have yN4 : ((N4 : Int) % 2 == 1) = false := by rw [show (N4 : Int) % 2 = 0 by omega]; rfl
                        have xN4 : (((N4 % 2 : Nat) : Int) == 1) = false := by rw [rN4]; rfl
                        have vN4 : ((N4 : Int).tmod 2 == 1) = false := by rw [Int.tmod_eq_emod_of_nonneg (by omega)]; exact yN4
                        clear rN4
                        have yN5 : decide ((1 : Int) < (N5 : Int)) = false := by rw [decide_eq_false_iff_not]; omega
                        have xN5 : ¬ (1 : Int) < (N5 : Int) := by omega
                        have yN6 : ((N6 : Int) != 64) = false := by simp only [bne_eq_false_iff_eq]; omega
                        have mN0 : (N0 : Int) < 18446744073709551616 := by omega
                        have mN1 : (N1 : Int) < 18446744073709551616 := by omega
                        have mN2 : (N2 : Int) < 18446744073709551616 := by omega
                        have mN3 : (N3 : Int) < 18446744073709551616 := by omega
                        have mN4 : (N4 : Int) < 18446744073709551616 := by omega
                        have mN5 : (N5 : Int) < 18446744073709551616 := by omega
                        have mN6 : (N6 : Int) < 18446744073709551616 := by omega
                        have mN7 : (N7 : Int) < 18446744073709551616 := by omega
                        have y0 : (16 : Int) < (N0 : Int) := by omega
                        have x0 : decide ((16 : Int) < (N0 : Int)) = true := by rw [decide_eq_true_iff]; omega
                        have v0 : ((16 : Int) < (N0 : Int)) := by omega
                        have DN0 : Hid (Calls Tryz.prog 35 #[.slice a b.length cap, .int .i64 56, .int .i64 2] wr fun e w' => e = .returned (.int .u64 (N0 : Int)) ∧ wr = w') := dN0
                        have DN1 : Hid (Calls Tryz.prog 35 #[.slice a b.length cap, .int .i64 16, .int .i64 2] wr fun e w' => e = .returned (.int .u64 (N1 : Int)) ∧ wr = w') := dN1
                        have DN2 : Hid (Calls Tryz.prog 35 #[.slice a b.length cap, .int .i64 18, .int .i64 2] wr fun e w' => e = .returned (.int .u64 (N2 : Int)) ∧ wr = w') := dN2
                        have DN3 : Hid (Calls Tryz.prog 35 #[.slice a b.length cap, .int .i64 20, .int .i64 4] wr fun e w' => e = .returned (.int .u64 (N3 : Int)) ∧ wr = w') := dN3
                        have DN4 : Hid (Calls Tryz.prog 35 #[.slice a b.length cap, .int .i64 24, .int .i64 8] wr fun e w' => e = .returned (.int .u64 (N4 : Int)) ∧ wr = w') := dN4
                        have DN5 : Hid (Calls Tryz.prog 35 #[.slice a b.length cap, .int .i64 48, .int .i64 4] wr fun e w' => e = .returned (.int .u64 (N5 : Int)) ∧ wr = w') := dN5
                        have DN6 : Hid (Calls Tryz.prog 35 #[.slice a b.length cap, .int .i64 52, .int .i64 2] wr fun e w' => e = .returned (.int .u64 (N6 : Int)) ∧ wr = w') := dN6
                        have DN7 : Hid (Calls Tryz.prog 35 #[.slice a b.length cap, .int .i64 54, .int .i64 2] wr fun e w' => e = .returned (.int .u64 (N7 : Int)) ∧ wr = w') := dN7
                        have hzz : N0 = 0 ∨ (¬ N0 = 0 ∧ N7 = 56) := by omega
                        clear dN0 dN1 dN2 dN3 dN4 dN5 dN6 dN7  lN0 lN1 lN2 lN3 lN4 lN5 lN6 lN7 c0 c1 c2 c3 c4 c5 c6 c7 c8
                        rcases hzz with hz | ⟨hz, hs⟩
                        · skip
                          have yz : ((N0 : Int) != 0) = false := by simp only [bne_eq_false_iff_eq]; omega
                          clear hz
                          go_wp2_with (first | (go_at_call_of 35 (Value.int IntKind.i64 56); refine DN0.out.mono ?_; rintro e w' ⟨rfl, rfl⟩) | (go_at_call_of 35 (Value.int IntKind.i64 16); refine DN1.out.mono ?_; rintro e w' ⟨rfl, rfl⟩) | (go_at_call_of 35 (Value.int IntKind.i64 18); refine DN2.out.mono ?_; rintro e w' ⟨rfl, rfl⟩) | (go_at_call_of 35 (Value.int IntKind.i64 20); refine DN3.out.mono ?_; rintro e w' ⟨rfl, rfl⟩) | (go_at_call_of 35 (Value.int IntKind.i64 24); refine DN4.out.mono ?_; rintro e w' ⟨rfl, rfl⟩) | (go_at_call_of 35 (Value.int IntKind.i64 48); refine DN5.out.mono ?_; rintro e w' ⟨rfl, rfl⟩) | (go_at_call_of 35 (Value.int IntKind.i64 52); refine DN6.out.mono ?_; rintro e w' ⟨rfl, rfl⟩) | (go_at_call_of 35 (Value.int IntKind.i64 54); refine DN7.out.mono ?_; rintro e w' ⟨rfl, rfl⟩))
                          exact hd_ret HE.out rfl rfl HR.out hw.out (by rfl)
                        · skip
                          have yz : ((N0 : Int) != 0) = true := by rw [bne_iff_ne]; omega
                          have yy : ((N7 : Int) != 56) = false := by simp only [bne_eq_false_iff_eq]; omega
                          clear hz hs
                          go_wp2_with (first | (go_at_call_of 35 (Value.int IntKind.i64 56); refine DN0.out.mono ?_; rintro e w' ⟨rfl, rfl⟩) | (go_at_call_of 35 (Value.int IntKind.i64 16); refine DN1.out.mono ?_; rintro e w' ⟨rfl, rfl⟩) | (go_at_call_of 35 (Value.int IntKind.i64 18); refine DN2.out.mono ?_; rintro e w' ⟨rfl, rfl⟩) | (go_at_call_of 35 (Value.int IntKind.i64 20); refine DN3.out.mono ?_; rintro e w' ⟨rfl, rfl⟩) | (go_at_call_of 35 (Value.int IntKind.i64 24); refine DN4.out.mono ?_; rintro e w' ⟨rfl, rfl⟩) | (go_at_call_of 35 (Value.int IntKind.i64 48); refine DN5.out.mono ?_; rintro e w' ⟨rfl, rfl⟩) | (go_at_call_of 35 (Value.int IntKind.i64 52); refine DN6.out.mono ?_; rintro e w' ⟨rfl, rfl⟩) | (go_at_call_of 35 (Value.int IntKind.i64 54); refine DN7.out.mono ?_; rintro e w' ⟨rfl, rfl⟩))
                          exact hd_ret HE.out rfl rfl HR.out hw.out (by rfl)
                      · skip
                        by_cases c9 : ¬ room b (vl b 32 8) (56 * vl b 56 2)
                        · skip
                          have HE : Hid (tl (heF b) = (32, 20)) := by unfold Hid heF; rw [HID.out, Option.none_or]; unfold hdF; rw [if_neg c0, if_neg c1, if_neg c2, if_neg c3, if_neg c4, if_neg c5, if_neg c6, Option.none_or]; unfold phF; rw [if_neg c7, if_neg c8, if_pos c9]; rfl
                          have h0 : ¬ (b.length : Int) < 64 := by omega
                          have dN0 := rvalue_c HB.out hl (.slice a b.length cap) 56 2 56 2 rfl rfl (by omega) (by omega) wr HVW.out
                          have dN1 := rvalue_c HB.out hl (.slice a b.length cap) 16 2 16 2 rfl rfl (by omega) (by omega) wr HVW.out
                          have dN2 := rvalue_c HB.out hl (.slice a b.length cap) 18 2 18 2 rfl rfl (by omega) (by omega) wr HVW.out
                          have dN3 := rvalue_c HB.out hl (.slice a b.length cap) 20 4 20 4 rfl rfl (by omega) (by omega) wr HVW.out
                          have dN4 := rvalue_c HB.out hl (.slice a b.length cap) 24 8 24 8 rfl rfl (by omega) (by omega) wr HVW.out
                          have dN5 := rvalue_c HB.out hl (.slice a b.length cap) 48 4 48 4 rfl rfl (by omega) (by omega) wr HVW.out
                          have dN6 := rvalue_c HB.out hl (.slice a b.length cap) 52 2 52 2 rfl rfl (by omega) (by omega) wr HVW.out
                          have dN7 := rvalue_c HB.out hl (.slice a b.length cap) 54 2 54 2 rfl rfl (by omega) (by omega) wr HVW.out
                          have dN8 := rvalue_c HB.out hl (.slice a b.length cap) 32 8 32 8 rfl rfl (by omega) (by omega) wr HVW.out
                          have dR := rroom_c hl (.slice a b.length cap) (vl b 32 8) (56 * vl b 56 2) (vl_lt8 HB.out 32 8 (by omega)) (by have := vl_lt8 HB.out 56 2 (by omega); omega) wr HVW.out
                          have lN0 := vl_lt8 HB.out 56 2 (by omega)
                          have lN1 := vl_lt8 HB.out 16 2 (by omega)
                          have lN2 := vl_lt8 HB.out 18 2 (by omega)
                          have lN3 := vl_lt8 HB.out 20 4 (by omega)
                          have lN4 := vl_lt8 HB.out 24 8 (by omega)
                          have lN5 := vl_lt8 HB.out 48 4 (by omega)
                          have lN6 := vl_lt8 HB.out 52 2 (by omega)
                          have lN7 := vl_lt8 HB.out 54 2 (by omega)
                          have lN8 := vl_lt8 HB.out 32 8 (by omega)
                          have HRM : decide (room b (vl b 32 8) (56 * vl b 56 2)) = false := by exact decide_eq_false c9
                          rw [HRM] at dR
                          clear HRM
                          generalize vl b 56 2 = N0 at *
                          generalize vl b 16 2 = N1 at *
                          generalize vl b 18 2 = N2 at *
                          generalize vl b 20 4 = N3 at *
                          generalize vl b 24 8 = N4 at *
                          generalize vl b 48 4 = N5 at *
                          generalize vl b 52 2 = N6 at *
                          generalize vl b 54 2 = N7 at *
                          generalize vl b 32 8 = N8 at *
                          have yN1 : ((N1 : Int) != 2) = false := by simp only [bne_eq_false_iff_eq]; omega
                          have yN2 : ((N2 : Int) != 243) = false := by simp only [bne_eq_false_iff_eq]; omega
                          have yN3 : ((N3 : Int) != 1) = false := by simp only [bne_eq_false_iff_eq]; omega
                          have rN4 : N4 % 2 = 0 := by omega
                          have yN4 : ((N4 : Int) % 2 == 1) = false := by rw [show (N4 : Int) % 2 = 0 by omega]; rfl
                          have xN4 : (((N4 % 2 : Nat) : Int) == 1) = false := by rw [rN4]; rfl
                          have vN4 : ((N4 : Int).tmod 2 == 1) = false := by rw [Int.tmod_eq_emod_of_nonneg (by omega)]; exact yN4
                          clear rN4
                          have yN5 : decide ((1 : Int) < (N5 : Int)) = false := by rw [decide_eq_false_iff_not]; omega
                          have xN5 : ¬ (1 : Int) < (N5 : Int) := by omega
                          have yN6 : ((N6 : Int) != 64) = false := by simp only [bne_eq_false_iff_eq]; omega
                          have mN0 : (N0 : Int) < 18446744073709551616 := by omega
                          have mN1 : (N1 : Int) < 18446744073709551616 := by omega
                          have mN2 : (N2 : Int) < 18446744073709551616 := by omega
                          have mN3 : (N3 : Int) < 18446744073709551616 := by omega
                          have mN4 : (N4 : Int) < 18446744073709551616 := by omega
                          have mN5 : (N5 : Int) < 18446744073709551616 := by omega
                          have mN6 : (N6 : Int) < 18446744073709551616 := by omega
                          have mN7 : (N7 : Int) < 18446744073709551616 := by omega
                          have mN8 : (N8 : Int) < 18446744073709551616 := by omega
                          have y0 : (N0 : Int) ≤ 16 := by omega
                          have x0 : decide ((16 : Int) < (N0 : Int)) = false := by rw [decide_eq_false_iff_not]; omega
                          have v0 : ¬ ((16 : Int) < (N0 : Int)) := by omega
                          have DN0 : Hid (Calls Tryz.prog 35 #[.slice a b.length cap, .int .i64 56, .int .i64 2] wr fun e w' => e = .returned (.int .u64 (N0 : Int)) ∧ wr = w') := dN0
                          have DN1 : Hid (Calls Tryz.prog 35 #[.slice a b.length cap, .int .i64 16, .int .i64 2] wr fun e w' => e = .returned (.int .u64 (N1 : Int)) ∧ wr = w') := dN1
                          have DN2 : Hid (Calls Tryz.prog 35 #[.slice a b.length cap, .int .i64 18, .int .i64 2] wr fun e w' => e = .returned (.int .u64 (N2 : Int)) ∧ wr = w') := dN2
                          have DN3 : Hid (Calls Tryz.prog 35 #[.slice a b.length cap, .int .i64 20, .int .i64 4] wr fun e w' => e = .returned (.int .u64 (N3 : Int)) ∧ wr = w') := dN3
                          have DN4 : Hid (Calls Tryz.prog 35 #[.slice a b.length cap, .int .i64 24, .int .i64 8] wr fun e w' => e = .returned (.int .u64 (N4 : Int)) ∧ wr = w') := dN4
                          have DN5 : Hid (Calls Tryz.prog 35 #[.slice a b.length cap, .int .i64 48, .int .i64 4] wr fun e w' => e = .returned (.int .u64 (N5 : Int)) ∧ wr = w') := dN5
                          have DN6 : Hid (Calls Tryz.prog 35 #[.slice a b.length cap, .int .i64 52, .int .i64 2] wr fun e w' => e = .returned (.int .u64 (N6 : Int)) ∧ wr = w') := dN6
                          have DN7 : Hid (Calls Tryz.prog 35 #[.slice a b.length cap, .int .i64 54, .int .i64 2] wr fun e w' => e = .returned (.int .u64 (N7 : Int)) ∧ wr = w') := dN7
                          have DN8 : Hid (Calls Tryz.prog 35 #[.slice a b.length cap, .int .i64 32, .int .i64 8] wr fun e w' => e = .returned (.int .u64 (N8 : Int)) ∧ wr = w') := dN8
                          have DR : Hid (Calls Tryz.prog 57 #[.slice a b.length cap, .int .u64 (N8 : Int), .int .u64 (56 * (N0 : Int))] wr fun e w' => e = .returned (.bool false) ∧ wr = w') := by unfold Hid; rw [show (56 : Int) * (N0 : Int) = ((56 * N0 : Nat) : Int) by omega]; exact dR
                          have hzz : N0 = 0 ∨ (¬ N0 = 0 ∧ N7 = 56) := by omega
                          clear dN0 dN1 dN2 dN3 dN4 dN5 dN6 dN7 dN8 dR lN0 lN1 lN2 lN3 lN4 lN5 lN6 lN7 lN8 c0 c1 c2 c3 c4 c5 c6 c7 c8 c9
                          rcases hzz with hz | ⟨hz, hs⟩
                          · skip
                            have yz : ((N0 : Int) != 0) = false := by simp only [bne_eq_false_iff_eq]; omega
                            clear hz
                            go_wp2_with (first | (go_at_call_of 35 (Value.int IntKind.i64 56); refine DN0.out.mono ?_; rintro e w' ⟨rfl, rfl⟩) | (go_at_call_of 35 (Value.int IntKind.i64 16); refine DN1.out.mono ?_; rintro e w' ⟨rfl, rfl⟩) | (go_at_call_of 35 (Value.int IntKind.i64 18); refine DN2.out.mono ?_; rintro e w' ⟨rfl, rfl⟩) | (go_at_call_of 35 (Value.int IntKind.i64 20); refine DN3.out.mono ?_; rintro e w' ⟨rfl, rfl⟩) | (go_at_call_of 35 (Value.int IntKind.i64 24); refine DN4.out.mono ?_; rintro e w' ⟨rfl, rfl⟩) | (go_at_call_of 35 (Value.int IntKind.i64 48); refine DN5.out.mono ?_; rintro e w' ⟨rfl, rfl⟩) | (go_at_call_of 35 (Value.int IntKind.i64 52); refine DN6.out.mono ?_; rintro e w' ⟨rfl, rfl⟩) | (go_at_call_of 35 (Value.int IntKind.i64 54); refine DN7.out.mono ?_; rintro e w' ⟨rfl, rfl⟩) | (go_at_call_of 35 (Value.int IntKind.i64 32); refine DN8.out.mono ?_; rintro e w' ⟨rfl, rfl⟩) | (go_at_call 57; refine DR.out.mono ?_; rintro e w' ⟨rfl, rfl⟩))
                            exact hd_ret HE.out rfl rfl HR.out hw.out (by rfl)
                          · skip
                            have yz : ((N0 : Int) != 0) = true := by rw [bne_iff_ne]; omega
                            have yy : ((N7 : Int) != 56) = false := by simp only [bne_eq_false_iff_eq]; omega
                            clear hz hs
                            go_wp2_with (first | (go_at_call_of 35 (Value.int IntKind.i64 56); refine DN0.out.mono ?_; rintro e w' ⟨rfl, rfl⟩) | (go_at_call_of 35 (Value.int IntKind.i64 16); refine DN1.out.mono ?_; rintro e w' ⟨rfl, rfl⟩) | (go_at_call_of 35 (Value.int IntKind.i64 18); refine DN2.out.mono ?_; rintro e w' ⟨rfl, rfl⟩) | (go_at_call_of 35 (Value.int IntKind.i64 20); refine DN3.out.mono ?_; rintro e w' ⟨rfl, rfl⟩) | (go_at_call_of 35 (Value.int IntKind.i64 24); refine DN4.out.mono ?_; rintro e w' ⟨rfl, rfl⟩) | (go_at_call_of 35 (Value.int IntKind.i64 48); refine DN5.out.mono ?_; rintro e w' ⟨rfl, rfl⟩) | (go_at_call_of 35 (Value.int IntKind.i64 52); refine DN6.out.mono ?_; rintro e w' ⟨rfl, rfl⟩) | (go_at_call_of 35 (Value.int IntKind.i64 54); refine DN7.out.mono ?_; rintro e w' ⟨rfl, rfl⟩) | (go_at_call_of 35 (Value.int IntKind.i64 32); refine DN8.out.mono ?_; rintro e w' ⟨rfl, rfl⟩) | (go_at_call 57; refine DR.out.mono ?_; rintro e w' ⟨rfl, rfl⟩))
                            exact hd_ret HE.out rfl rfl HR.out hw.out (by rfl)
                        · skip
                          have HE : Hid (tl (heF b) = (0, 0)) := by unfold Hid heF; rw [HID.out, Option.none_or]; unfold hdF; rw [if_neg c0, if_neg c1, if_neg c2, if_neg c3, if_neg c4, if_neg c5, if_neg c6, Option.none_or]; unfold phF; rw [if_neg c7, if_neg c8, if_neg c9]; rfl
                          have h0 : ¬ (b.length : Int) < 64 := by omega
                          have dN0 := rvalue_c HB.out hl (.slice a b.length cap) 56 2 56 2 rfl rfl (by omega) (by omega) wr HVW.out
                          have dN1 := rvalue_c HB.out hl (.slice a b.length cap) 16 2 16 2 rfl rfl (by omega) (by omega) wr HVW.out
                          have dN2 := rvalue_c HB.out hl (.slice a b.length cap) 18 2 18 2 rfl rfl (by omega) (by omega) wr HVW.out
                          have dN3 := rvalue_c HB.out hl (.slice a b.length cap) 20 4 20 4 rfl rfl (by omega) (by omega) wr HVW.out
                          have dN4 := rvalue_c HB.out hl (.slice a b.length cap) 24 8 24 8 rfl rfl (by omega) (by omega) wr HVW.out
                          have dN5 := rvalue_c HB.out hl (.slice a b.length cap) 48 4 48 4 rfl rfl (by omega) (by omega) wr HVW.out
                          have dN6 := rvalue_c HB.out hl (.slice a b.length cap) 52 2 52 2 rfl rfl (by omega) (by omega) wr HVW.out
                          have dN7 := rvalue_c HB.out hl (.slice a b.length cap) 54 2 54 2 rfl rfl (by omega) (by omega) wr HVW.out
                          have dN8 := rvalue_c HB.out hl (.slice a b.length cap) 32 8 32 8 rfl rfl (by omega) (by omega) wr HVW.out
                          have dR := rroom_c hl (.slice a b.length cap) (vl b 32 8) (56 * vl b 56 2) (vl_lt8 HB.out 32 8 (by omega)) (by have := vl_lt8 HB.out 56 2 (by omega); omega) wr HVW.out
                          have lN0 := vl_lt8 HB.out 56 2 (by omega)
                          have lN1 := vl_lt8 HB.out 16 2 (by omega)
                          have lN2 := vl_lt8 HB.out 18 2 (by omega)
                          have lN3 := vl_lt8 HB.out 20 4 (by omega)
                          have lN4 := vl_lt8 HB.out 24 8 (by omega)
                          have lN5 := vl_lt8 HB.out 48 4 (by omega)
                          have lN6 := vl_lt8 HB.out 52 2 (by omega)
                          have lN7 := vl_lt8 HB.out 54 2 (by omega)
                          have lN8 := vl_lt8 HB.out 32 8 (by omega)
                          have HRM : decide (room b (vl b 32 8) (56 * vl b 56 2)) = true := by exact decide_eq_true (Classical.not_not.1 c9)
                          rw [HRM] at dR
                          clear HRM
                          generalize vl b 56 2 = N0 at *
                          generalize vl b 16 2 = N1 at *
                          generalize vl b 18 2 = N2 at *
                          generalize vl b 20 4 = N3 at *
                          generalize vl b 24 8 = N4 at *
                          generalize vl b 48 4 = N5 at *
                          generalize vl b 52 2 = N6 at *
                          generalize vl b 54 2 = N7 at *
                          generalize vl b 32 8 = N8 at *
                          have yN1 : ((N1 : Int) != 2) = false := by simp only [bne_eq_false_iff_eq]; omega
                          have yN2 : ((N2 : Int) != 243) = false := by simp only [bne_eq_false_iff_eq]; omega
                          have yN3 : ((N3 : Int) != 1) = false := by simp only [bne_eq_false_iff_eq]; omega
                          have rN4 : N4 % 2 = 0 := by omega
                          have yN4 : ((N4 : Int) % 2 == 1) = false := by rw [show (N4 : Int) % 2 = 0 by omega]; rfl
                          have xN4 : (((N4 % 2 : Nat) : Int) == 1) = false := by rw [rN4]; rfl
                          have vN4 : ((N4 : Int).tmod 2 == 1) = false := by rw [Int.tmod_eq_emod_of_nonneg (by omega)]; exact yN4
                          clear rN4
                          have yN5 : decide ((1 : Int) < (N5 : Int)) = false := by rw [decide_eq_false_iff_not]; omega
                          have xN5 : ¬ (1 : Int) < (N5 : Int) := by omega
                          have yN6 : ((N6 : Int) != 64) = false := by simp only [bne_eq_false_iff_eq]; omega
                          have mN0 : (N0 : Int) < 18446744073709551616 := by omega
                          have mN1 : (N1 : Int) < 18446744073709551616 := by omega
                          have mN2 : (N2 : Int) < 18446744073709551616 := by omega
                          have mN3 : (N3 : Int) < 18446744073709551616 := by omega
                          have mN4 : (N4 : Int) < 18446744073709551616 := by omega
                          have mN5 : (N5 : Int) < 18446744073709551616 := by omega
                          have mN6 : (N6 : Int) < 18446744073709551616 := by omega
                          have mN7 : (N7 : Int) < 18446744073709551616 := by omega
                          have mN8 : (N8 : Int) < 18446744073709551616 := by omega
                          have y0 : (N0 : Int) ≤ 16 := by omega
                          have x0 : decide ((16 : Int) < (N0 : Int)) = false := by rw [decide_eq_false_iff_not]; omega
                          have v0 : ¬ ((16 : Int) < (N0 : Int)) := by omega
                          have DN0 : Hid (Calls Tryz.prog 35 #[.slice a b.length cap, .int .i64 56, .int .i64 2] wr fun e w' => e = .returned (.int .u64 (N0 : Int)) ∧ wr = w') := dN0
                          have DN1 : Hid (Calls Tryz.prog 35 #[.slice a b.length cap, .int .i64 16, .int .i64 2] wr fun e w' => e = .returned (.int .u64 (N1 : Int)) ∧ wr = w') := dN1
                          have DN2 : Hid (Calls Tryz.prog 35 #[.slice a b.length cap, .int .i64 18, .int .i64 2] wr fun e w' => e = .returned (.int .u64 (N2 : Int)) ∧ wr = w') := dN2
                          have DN3 : Hid (Calls Tryz.prog 35 #[.slice a b.length cap, .int .i64 20, .int .i64 4] wr fun e w' => e = .returned (.int .u64 (N3 : Int)) ∧ wr = w') := dN3
                          have DN4 : Hid (Calls Tryz.prog 35 #[.slice a b.length cap, .int .i64 24, .int .i64 8] wr fun e w' => e = .returned (.int .u64 (N4 : Int)) ∧ wr = w') := dN4
                          have DN5 : Hid (Calls Tryz.prog 35 #[.slice a b.length cap, .int .i64 48, .int .i64 4] wr fun e w' => e = .returned (.int .u64 (N5 : Int)) ∧ wr = w') := dN5
                          have DN6 : Hid (Calls Tryz.prog 35 #[.slice a b.length cap, .int .i64 52, .int .i64 2] wr fun e w' => e = .returned (.int .u64 (N6 : Int)) ∧ wr = w') := dN6
                          have DN7 : Hid (Calls Tryz.prog 35 #[.slice a b.length cap, .int .i64 54, .int .i64 2] wr fun e w' => e = .returned (.int .u64 (N7 : Int)) ∧ wr = w') := dN7
                          have DN8 : Hid (Calls Tryz.prog 35 #[.slice a b.length cap, .int .i64 32, .int .i64 8] wr fun e w' => e = .returned (.int .u64 (N8 : Int)) ∧ wr = w') := dN8
                          have DR : Hid (Calls Tryz.prog 57 #[.slice a b.length cap, .int .u64 (N8 : Int), .int .u64 (56 * (N0 : Int))] wr fun e w' => e = .returned (.bool true) ∧ wr = w') := by unfold Hid; rw [show (56 : Int) * (N0 : Int) = ((56 * N0 : Nat) : Int) by omega]; exact dR
                          have hzz : N0 = 0 ∨ (¬ N0 = 0 ∧ N7 = 56) := by omega
                          clear dN0 dN1 dN2 dN3 dN4 dN5 dN6 dN7 dN8 dR lN0 lN1 lN2 lN3 lN4 lN5 lN6 lN7 lN8 c0 c1 c2 c3 c4 c5 c6 c7 c8 c9
                          rcases hzz with hz | ⟨hz, hs⟩
                          · skip
                            have yz : ((N0 : Int) != 0) = false := by simp only [bne_eq_false_iff_eq]; omega
                            clear hz
                            go_wp2_with (first | (go_at_call_of 35 (Value.int IntKind.i64 56); refine DN0.out.mono ?_; rintro e w' ⟨rfl, rfl⟩) | (go_at_call_of 35 (Value.int IntKind.i64 16); refine DN1.out.mono ?_; rintro e w' ⟨rfl, rfl⟩) | (go_at_call_of 35 (Value.int IntKind.i64 18); refine DN2.out.mono ?_; rintro e w' ⟨rfl, rfl⟩) | (go_at_call_of 35 (Value.int IntKind.i64 20); refine DN3.out.mono ?_; rintro e w' ⟨rfl, rfl⟩) | (go_at_call_of 35 (Value.int IntKind.i64 24); refine DN4.out.mono ?_; rintro e w' ⟨rfl, rfl⟩) | (go_at_call_of 35 (Value.int IntKind.i64 48); refine DN5.out.mono ?_; rintro e w' ⟨rfl, rfl⟩) | (go_at_call_of 35 (Value.int IntKind.i64 52); refine DN6.out.mono ?_; rintro e w' ⟨rfl, rfl⟩) | (go_at_call_of 35 (Value.int IntKind.i64 54); refine DN7.out.mono ?_; rintro e w' ⟨rfl, rfl⟩) | (go_at_call_of 35 (Value.int IntKind.i64 32); refine DN8.out.mono ?_; rintro e w' ⟨rfl, rfl⟩) | (go_at_call 57; refine DR.out.mono ?_; rintro e w' ⟨rfl, rfl⟩))
                            exact hd_ret HE.out rfl rfl HR.out hw.out (by rfl)
                          · skip
                            have yz : ((N0 : Int) != 0) = true := by rw [bne_iff_ne]; omega
                            have yy : ((N7 : Int) != 56) = false := by simp only [bne_eq_false_iff_eq]; omega
                            clear hz hs
                            go_wp2_with (first | (go_at_call_of 35 (Value.int IntKind.i64 56); refine DN0.out.mono ?_; rintro e w' ⟨rfl, rfl⟩) | (go_at_call_of 35 (Value.int IntKind.i64 16); refine DN1.out.mono ?_; rintro e w' ⟨rfl, rfl⟩) | (go_at_call_of 35 (Value.int IntKind.i64 18); refine DN2.out.mono ?_; rintro e w' ⟨rfl, rfl⟩) | (go_at_call_of 35 (Value.int IntKind.i64 20); refine DN3.out.mono ?_; rintro e w' ⟨rfl, rfl⟩) | (go_at_call_of 35 (Value.int IntKind.i64 24); refine DN4.out.mono ?_; rintro e w' ⟨rfl, rfl⟩) | (go_at_call_of 35 (Value.int IntKind.i64 48); refine DN5.out.mono ?_; rintro e w' ⟨rfl, rfl⟩) | (go_at_call_of 35 (Value.int IntKind.i64 52); refine DN6.out.mono ?_; rintro e w' ⟨rfl, rfl⟩) | (go_at_call_of 35 (Value.int IntKind.i64 54); refine DN7.out.mono ?_; rintro e w' ⟨rfl, rfl⟩) | (go_at_call_of 35 (Value.int IntKind.i64 32); refine DN8.out.mono ?_; rintro e w' ⟨rfl, rfl⟩) | (go_at_call 57; refine DR.out.mono ?_; rintro e w' ⟨rfl, rfl⟩))
                            exact hd_ret HE.out rfl rfl HR.out hw.out (by rfl)
end Go.Proofs.YtheeogbmljjbdaaGreatDoor
