/-
  Layer 16 (save): the reference's devices.
-/
import Derived.Test.YtnlkamfoopikhaaHq
namespace Go.Proofs.Ytnlkamfoopikhaa
set_option linter.unusedVariables false
set_option maxRecDepth 100000
open Go.ChangeShapes Go.WideShapes Go.ChangeAt Go.RowKit Go.Deep
theorem wB_small' (N : Nat) (hN : N < 2 ^ 64) : (wB N).toNat = N := by rw [wB_nat]; omega
set_option maxHeartbeats 4000000 in
theorem qdev_c (B : Nat) (vb : Value) (lb : List Int) (S : St) (ar ai ao : Option Addr) (cr ci co : Nat) (w : World) (hp : Owb B w vb lb) (hlb : lb.length < 100000) (hB : B ≤ w.heap.size)
    (hs : ∀ W, Below B w W → Bs S (.slice ar S.ram.length cr) (.slice ai S.inp.length ci) (.slice ao S.out.length co) W) (hw : StW S) (hi : S.inp.length ≤ 64) (ho : S.out.length ≤ 4096) (hf0 : 0 ≤ S.off) (hc0 : 0 ≤ S.code) :
    Calls Try.prog 30 #[vb, .agg (stc S (.slice ar S.ram.length cr) (.slice ai S.inp.length ci) (.slice ao S.out.length co))] w fun e w' => ∃ v, e = .returned v ∧ Owb B w' v (lb ++ (devS S).flatten) ∧ Fr B w w' := by
  have QN : Hid (∀ W vb lb (N n : Nat), Owb B W vb lb → N < 2 ^ 64 → n ≤ 24 → lb.length < 140737488350000 → B ≤ W.heap.size → Calls Try.prog 33 #[vb, .int .u64 N, .int .i64 n] W fun e w' => ∃ v, e = .returned v ∧ Owb B w' v (lb ++ ptL N n) ∧ Fr B W w') := fun W vb lb N n h1 h2 h3 h4 h5 => qnum_c B vb lb N n W h1 h2 h3 h4 h5
  have QF : Hid (∀ W vb lb (b : Bool), Owb B W vb lb → lb.length < 140737488350000 → B ≤ W.heap.size → Calls Try.prog 53 #[vb, .bool b] W fun e w' => ∃ v, e = .returned v ∧ Owb B w' v (lb ++ [fl b]) ∧ Fr B W w') := fun W vb lb b h1 h2 h3 => qflag_c B vb lb b W h1 h2 h3
  have HSL := Hid.mk' hs
  obtain ⟨ms, hms⟩ : ∃ ms : Nat, S.msip = (ms : Int) := ⟨S.msip.toNat, by have := hw.msip; omega⟩
  have Hms := Hid.mk' hms
  have hms2 : ms < 2 ^ 64 := by have := hw.msip; omega
  have Hmsw : Hid ((wB S.msip).toNat = ms) := by unfold Hid; rw [hms]; exact wB_small' _ hms2
  obtain ⟨cm, hcm⟩ : ∃ cm : Nat, S.cmp = (cm : Int) := ⟨S.cmp.toNat, by have := hw.cmp; omega⟩
  have Hcm := Hid.mk' hcm
  have hcm2 : cm < 2 ^ 64 := by have := hw.cmp; omega
  have Hcmw : Hid ((wB S.cmp).toNat = cm) := by unfold Hid; rw [hcm]; exact wB_small' _ hcm2
  obtain ⟨tm, htm⟩ : ∃ tm : Nat, S.time = (tm : Int) := ⟨S.time.toNat, by have := hw.time; omega⟩
  have Htm := Hid.mk' htm
  have htm2 : tm < 2 ^ 64 := by have := hw.time; omega
  have Htmw : Hid ((wB S.time).toNat = tm) := by unfold Hid; rw [htm]; exact wB_small' _ htm2
  obtain ⟨of, hof⟩ : ∃ of : Nat, S.off = (of : Int) := ⟨S.off.toNat, by omega⟩
  have Hof := Hid.mk' hof
  have hof2 : of < 2 ^ 64 := by have := hw.off; omega
  have Hofw : Hid ((wB S.off).toNat = of) := by unfold Hid; rw [hof]; exact wB_small' _ hof2
  obtain ⟨cd, hcd⟩ : ∃ cd : Nat, S.code = (cd : Int) := ⟨S.code.toNat, by omega⟩
  have Hcd := Hid.mk' hcd
  have hcd2 : cd < 2 ^ 64 := by have := hw.code; omega
  have Hcdw : Hid ((wB S.code).toNat = cd) := by unfold Hid; rw [hcd]; exact wB_small' _ hcd2
  have HOF : Hid (ptL of 1 = [S.off % 256]) := by unfold Hid; rw [← ptL_one, Hofw.out]
  have hms3 : (ms : Int) ≤ 4294967295 := by have := hw.msip; omega
  have hof3 : (of : Int) ≤ 9223372036854775807 := by have := hw.off; omega
  have hcd3 : (cd : Int) ≤ 9223372036854775807 := by have := hw.code; omega
  have hcm3 : (cm : Int) ≤ 18446744073709551615 := by have := hw.cmp; omega
  have htm3 : (tm : Int) ≤ 18446744073709551615 := by have := hw.time; omega
  obtain ⟨il, hil⟩ : ∃ il, il = S.inp.length := ⟨_, rfl⟩
  obtain ⟨ol, hol⟩ : ∃ ol, ol = S.out.length := ⟨_, rfl⟩
  have HIL := Hid.mk' hil
  have HOL := Hid.mk' hol
  have HR : Hid (Row (w.alloc (.cells (stc S (.slice ar S.ram.length cr) (.slice ai S.inp.length ci) (.slice ao S.out.length co)) 35)) w.heap.size (stc S (.slice ar S.ram.length cr) (.slice ai S.inp.length ci) (.slice ao S.out.length co)) 35) := Row.new _ _ _
  have HO := Hid.mk' (World.ownsRow.alloc hp (.cells (stc S (.slice ar S.ram.length cr) (.slice ai S.inp.length ci) (.slice ao S.out.length co)) 35))
  have HF := Hid.mk' ((Fr.refl B w).alloc hB (.cells (stc S (.slice ar S.ram.length cr) (.slice ai S.inp.length ci) (.slice ao S.out.length co)) 35))
  rw [← hil, ← hol] at HR HO HF HSL ⊢
  rw [← hil] at hi
  rw [← hol] at ho
  obtain ⟨V, hV⟩ : ∃ V, V = stc S (.slice ar S.ram.length cr) (.slice ai il ci) (.slice ao ol co) := ⟨_, rfl⟩
  have HV := Hid.mk' hV
  rw [← hV] at HR HO HF ⊢
  have HLB : Hid (lb.length < 100000) := hlb
  have HL : Hid (lb.length ≤ lb.length + 0) := Nat.le_refl _
  clear hp hlb hV hil hol hs hms hcm htm hof hcd hf0 hc0 hw
  go_enter Try.func30, Try.ntmps30
  go_upto_region 1 with fail
  obtain ⟨W0, hW⟩ : ∃ W, W = w.alloc (.cells V 35) := ⟨_, rfl⟩
  rw [← hW] at HO HR HF ⊢
  obtain ⟨g, hg⟩ : ∃ g, g = w.heap.size := ⟨_, rfl⟩
  rw [← hg] at HR ⊢
  clear hW hg
  have HO0 : Hid (Owb B W0 vb lb) := HO
  have HR0 := Hid.mk' HR.out
  rw [HV.out] at HR0
  have HF0 := Hid.mk' HF.out
  clear HO HR HF
  obtain ⟨L0, hL0⟩ : ∃ L0, L0 = lb := ⟨_, rfl⟩
  have HE0 := Hid.mk' hL0
  rw [← hL0] at HO0
  have HL0 : Hid (L0.length ≤ lb.length + (0)) := by rw [hL0]; exact HL
  clear hL0 HL
  have cA : W0.cell? ⟨g, 1, none⟩ = some (.int .u32 (ms : Int)) := (HR0.out.cell 1).trans (congrArg (fun z => some (Value.int .u32 z)) Hms.out)
  go_upto_region 2 with (go_at_call 33; refine (QN.out _ _ L0 (ms) 4 HO0.out (by omega) (by omega) (by have := HL0.out; have := HLB.out; omega) (Nat.le_trans hB HF0.out.b.size)).mono ?_; rintro e W1 ⟨v1, rfl, ho1, hf1⟩; have HO1 := Hid.mk' ho1; have HG1 := Hid.mk' hf1; clear ho1 hf1)
  clear cA
  obtain ⟨L1, hL1⟩ : ∃ L1, L1 = L0 ++ ptL (ms) 4 := ⟨_, rfl⟩
  have HE1 := Hid.mk' hL1
  have HL1 : Hid (L1.length ≤ lb.length + (0 + 4)) := by have := HL0.out; unfold Hid; rw [hL1]; simp [ptL_length]; omega
  rw [← hL1] at HO1
  clear hL1
  have HR1 := Hid.mk' (HR0.out.fr HG1.out (by decide))
  have HF1 := Hid.mk' (HF0.out.trans HG1.out)
  clear HO0 HF0 HL0 HG1 HR0
  have cA : W1.cell? ⟨g, 2, none⟩ = some (.int .u64 (cm : Int)) := (HR1.out.cell 2).trans (congrArg (fun z => some (Value.int .u64 z)) Hcm.out)
  go_upto_region 3 with (go_at_call 33; refine (QN.out _ _ L1 (cm) 8 HO1.out (by omega) (by omega) (by have := HL1.out; have := HLB.out; omega) (Nat.le_trans hB HF1.out.b.size)).mono ?_; rintro e W2 ⟨v2, rfl, ho1, hf1⟩; have HO2 := Hid.mk' ho1; have HG2 := Hid.mk' hf1; clear ho1 hf1)
  clear cA
  obtain ⟨L2, hL2⟩ : ∃ L2, L2 = L1 ++ ptL (cm) 8 := ⟨_, rfl⟩
  have HE2 := Hid.mk' hL2
  have HL2 : Hid (L2.length ≤ lb.length + (0 + 4 + 8)) := by have := HL1.out; unfold Hid; rw [hL2]; simp [ptL_length]; omega
  rw [← hL2] at HO2
  clear hL2
  have HR2 := Hid.mk' (HR1.out.fr HG2.out (by decide))
  have HF2 := Hid.mk' (HF1.out.trans HG2.out)
  clear HO1 HF1 HL1 HG2 HR1
  have cA : W2.cell? ⟨g, 3, none⟩ = some (.int .u64 (tm : Int)) := (HR2.out.cell 3).trans (congrArg (fun z => some (Value.int .u64 z)) Htm.out)
  go_upto_region 4 with (go_at_call 33; refine (QN.out _ _ L2 (tm) 8 HO2.out (by omega) (by omega) (by have := HL2.out; have := HLB.out; omega) (Nat.le_trans hB HF2.out.b.size)).mono ?_; rintro e W3 ⟨v3, rfl, ho1, hf1⟩; have HO3 := Hid.mk' ho1; have HG3 := Hid.mk' hf1; clear ho1 hf1)
  clear cA
  obtain ⟨L3, hL3⟩ : ∃ L3, L3 = L2 ++ ptL (tm) 8 := ⟨_, rfl⟩
  have HE3 := Hid.mk' hL3
  have HL3 : Hid (L3.length ≤ lb.length + (0 + 4 + 8 + 8)) := by have := HL2.out; unfold Hid; rw [hL3]; simp [ptL_length]; omega
  rw [← hL3] at HO3
  clear hL3
  have HR3 := Hid.mk' (HR2.out.fr HG3.out (by decide))
  have HF3 := Hid.mk' (HF2.out.trans HG3.out)
  clear HO2 HF2 HL2 HG3 HR2
  have cA : W3.cell? ⟨g, 4, none⟩ = some (.bool S.ext) := (HR3.out.cell 4).trans rfl
  go_upto_region 5 with (go_at_call 53; refine (QF.out _ _ L3 S.ext HO3.out (by have := HL3.out; have := HLB.out; omega) (Nat.le_trans hB HF3.out.b.size)).mono ?_; rintro e W4 ⟨v4, rfl, ho1, hf1⟩; have HO4 := Hid.mk' ho1; have HG4 := Hid.mk' hf1; clear ho1 hf1)
  clear cA
  obtain ⟨L4, hL4⟩ : ∃ L4, L4 = L3 ++ [fl S.ext] := ⟨_, rfl⟩
  have HE4 := Hid.mk' hL4
  have HL4 : Hid (L4.length ≤ lb.length + (0 + 4 + 8 + 8 + 1)) := by have := HL3.out; unfold Hid; rw [hL4]; simp; omega
  rw [← hL4] at HO4
  clear hL4
  have HR4 := Hid.mk' (HR3.out.fr HG4.out (by decide))
  have HF4 := Hid.mk' (HF3.out.trans HG4.out)
  clear HO3 HF3 HL3 HG4 HR3
  have cA : W4.cell? ⟨g, 5, none⟩ = some (.bool S.soft) := (HR4.out.cell 5).trans rfl
  go_upto_region 6 with (go_at_call 53; refine (QF.out _ _ L4 S.soft HO4.out (by have := HL4.out; have := HLB.out; omega) (Nat.le_trans hB HF4.out.b.size)).mono ?_; rintro e W5 ⟨v5, rfl, ho1, hf1⟩; have HO5 := Hid.mk' ho1; have HG5 := Hid.mk' hf1; clear ho1 hf1)
  clear cA
  obtain ⟨L5, hL5⟩ : ∃ L5, L5 = L4 ++ [fl S.soft] := ⟨_, rfl⟩
  have HE5 := Hid.mk' hL5
  have HL5 : Hid (L5.length ≤ lb.length + (0 + 4 + 8 + 8 + 1 + 1)) := by have := HL4.out; unfold Hid; rw [hL5]; simp; omega
  rw [← hL5] at HO5
  clear hL5
  have HR5 := Hid.mk' (HR4.out.fr HG5.out (by decide))
  have HF5 := Hid.mk' (HF4.out.trans HG5.out)
  clear HO4 HF4 HL4 HG5 HR4
  have c6 : W5.cell? ⟨g, 6, none⟩ = some (.int .u8 S.ier) := (HR5.out.cell 6).trans rfl
  have c7 : W5.cell? ⟨g, 7, none⟩ = some (.int .u8 S.lcr) := (HR5.out.cell 7).trans rfl
  have c8 : W5.cell? ⟨g, 8, none⟩ = some (.int .u8 S.mcr) := (HR5.out.cell 8).trans rfl
  have c9 : W5.cell? ⟨g, 9, none⟩ = some (.int .u8 S.scr) := (HR5.out.cell 9).trans rfl
  go_upto_region 7 with (at_builtin; refine appN (by rfl) _ _ (by rfl) B _ L5 [S.ier, S.lcr, S.mcr, S.scr] (by rfl) HO5.out _ 4 (by rfl) (by rfl) (by simp) (by have := HL5.out; have := HLB.out; simp; omega) (Nat.le_trans hB HF5.out.b.size) ?_; intro v6 W6 ho1 hf1; have HO6 := Hid.mk' ho1; have HG6 := Hid.mk' hf1; clear ho1 hf1)
  clear c6 c7 c8 c9
  obtain ⟨L6, hL6⟩ : ∃ L6, L6 = L5 ++ [S.ier, S.lcr, S.mcr, S.scr] := ⟨_, rfl⟩
  have HE6 := Hid.mk' hL6
  have HL6 : Hid (L6.length ≤ lb.length + (0 + 4 + 8 + 8 + 1 + 1 + 4)) := by have := HL5.out; unfold Hid; rw [hL6]; simp; omega
  rw [← hL6] at HO6
  clear hL6
  have HR6 := Hid.mk' (HR5.out.fr HG6.out (by decide))
  have HF6 := Hid.mk' (HF5.out.trans HG6.out)
  clear HO5 HF5 HL5 HG6 HR5
  have cA : W6.cell? ⟨g, 10, none⟩ = some (.bool S.ov) := (HR6.out.cell 10).trans rfl
  go_upto_region 8 with (go_at_call 53; refine (QF.out _ _ L6 S.ov HO6.out (by have := HL6.out; have := HLB.out; omega) (Nat.le_trans hB HF6.out.b.size)).mono ?_; rintro e W7 ⟨v7, rfl, ho1, hf1⟩; have HO7 := Hid.mk' ho1; have HG7 := Hid.mk' hf1; clear ho1 hf1)
  clear cA
  obtain ⟨L7, hL7⟩ : ∃ L7, L7 = L6 ++ [fl S.ov] := ⟨_, rfl⟩
  have HE7 := Hid.mk' hL7
  have HL7 : Hid (L7.length ≤ lb.length + (0 + 4 + 8 + 8 + 1 + 1 + 4 + 1)) := by have := HL6.out; unfold Hid; rw [hL7]; simp; omega
  rw [← hL7] at HO7
  clear hL7
  have HR7 := Hid.mk' (HR6.out.fr HG7.out (by decide))
  have HF7 := Hid.mk' (HF6.out.trans HG7.out)
  clear HO6 HF6 HL6 HG7 HR6
  have cA : W7.cell? ⟨g, 13, none⟩ = some (.int .i64 (of : Int)) := (HR7.out.cell 13).trans (congrArg (fun z => some (Value.int .i64 z)) Hof.out)
  go_upto_region 9 with (go_at_call 33; refine (QN.out _ _ L7 (of) 1 HO7.out (by omega) (by omega) (by have := HL7.out; have := HLB.out; omega) (Nat.le_trans hB HF7.out.b.size)).mono ?_; rintro e W8 ⟨v8, rfl, ho1, hf1⟩; have HO8 := Hid.mk' ho1; have HG8 := Hid.mk' hf1; clear ho1 hf1)
  clear cA
  obtain ⟨L8, hL8⟩ : ∃ L8, L8 = L7 ++ ptL (of) 1 := ⟨_, rfl⟩
  have HE8 := Hid.mk' hL8
  have HL8 : Hid (L8.length ≤ lb.length + (0 + 4 + 8 + 8 + 1 + 1 + 4 + 1 + 1)) := by have := HL7.out; unfold Hid; rw [hL8]; simp [ptL_length]; omega
  rw [← hL8] at HO8
  clear hL8
  have HR8 := Hid.mk' (HR7.out.fr HG8.out (by decide))
  have HF8 := Hid.mk' (HF7.out.trans HG8.out)
  clear HO7 HF7 HL7 HG8 HR7
  have cA : W8.cell? ⟨g, 14, none⟩ = some (.int .i64 (cd : Int)) := (HR8.out.cell 14).trans (congrArg (fun z => some (Value.int .i64 z)) Hcd.out)
  go_upto_region 10 with (go_at_call 33; refine (QN.out _ _ L8 (cd) 4 HO8.out (by omega) (by omega) (by have := HL8.out; have := HLB.out; omega) (Nat.le_trans hB HF8.out.b.size)).mono ?_; rintro e W9 ⟨v9, rfl, ho1, hf1⟩; have HO9 := Hid.mk' ho1; have HG9 := Hid.mk' hf1; clear ho1 hf1)
  clear cA
  obtain ⟨L9, hL9⟩ : ∃ L9, L9 = L8 ++ ptL (cd) 4 := ⟨_, rfl⟩
  have HE9 := Hid.mk' hL9
  have HL9 : Hid (L9.length ≤ lb.length + (0 + 4 + 8 + 8 + 1 + 1 + 4 + 1 + 1 + 4)) := by have := HL8.out; unfold Hid; rw [hL9]; simp [ptL_length]; omega
  rw [← hL9] at HO9
  clear hL9
  have HR9 := Hid.mk' (HR8.out.fr HG9.out (by decide))
  have HF9 := Hid.mk' (HF8.out.trans HG9.out)
  clear HO8 HF8 HL8 HG9 HR8
  have cA : W9.cell? ⟨g, 11, none⟩ = some (.slice ai il ci) := (HR9.out.cell 11).trans (rfl)
  go_upto_region 11 with (go_at_call 33; refine (QN.out _ _ L9 (il) 1 HO9.out (by omega) (by omega) (by have := HL9.out; have := HLB.out; omega) (Nat.le_trans hB HF9.out.b.size)).mono ?_; rintro e W10 ⟨v10, rfl, ho1, hf1⟩; have HO10 := Hid.mk' ho1; have HG10 := Hid.mk' hf1; clear ho1 hf1)
  clear cA
  obtain ⟨L10, hL10⟩ : ∃ L10, L10 = L9 ++ ptL (il) 1 := ⟨_, rfl⟩
  have HE10 := Hid.mk' hL10
  have HL10 : Hid (L10.length ≤ lb.length + (0 + 4 + 8 + 8 + 1 + 1 + 4 + 1 + 1 + 4 + 1)) := by have := HL9.out; unfold Hid; rw [hL10]; simp [ptL_length]; omega
  rw [← hL10] at HO10
  clear hL10
  have HR10 := Hid.mk' (HR9.out.fr HG10.out (by decide))
  have HF10 := Hid.mk' (HF9.out.trans HG10.out)
  clear HO9 HF9 HL9 HG10 HR9
  have cA : W10.cell? ⟨g, 11, none⟩ = some (.slice ai il ci) := (HR10.out.cell 11).trans rfl
  have hby := Hid.mk' (HSL.out _ HF10.out.b).i
  go_upto_region 12 with (at_builtin; refine appY (by rfl) _ _ (by rfl) B _ _ L10 S.inp (by rfl) HO10.out (by rfl) hby.out (by have := HL10.out; have := HLB.out; have := HIL.out; omega) (Nat.le_trans hB HF10.out.b.size) ?_; intro v11 W11 ho1 hf1; have HO11 := Hid.mk' ho1; have HG11 := Hid.mk' hf1; clear ho1 hf1)
  clear cA hby
  obtain ⟨L11, hL11⟩ : ∃ L11, L11 = L10 ++ S.inp := ⟨_, rfl⟩
  have HE11 := Hid.mk' hL11
  have HL11 : Hid (L11.length ≤ lb.length + (0 + 4 + 8 + 8 + 1 + 1 + 4 + 1 + 1 + 4 + 1 + il)) := by have := HL10.out; unfold Hid; rw [hL11]; rw [List.length_append, ← HIL.out]; omega
  rw [← hL11] at HO11
  clear hL11
  have HR11 := Hid.mk' (HR10.out.fr HG11.out (by decide))
  have HF11 := Hid.mk' (HF10.out.trans HG11.out)
  clear HO10 HF10 HL10 HG11 HR10
  have cA : W11.cell? ⟨g, 12, none⟩ = some (.slice ao ol co) := (HR11.out.cell 12).trans (rfl)
  go_upto_region 13 with (go_at_call 33; refine (QN.out _ _ L11 (ol) 2 HO11.out (by omega) (by omega) (by have := HL11.out; have := HLB.out; omega) (Nat.le_trans hB HF11.out.b.size)).mono ?_; rintro e W12 ⟨v12, rfl, ho1, hf1⟩; have HO12 := Hid.mk' ho1; have HG12 := Hid.mk' hf1; clear ho1 hf1)
  clear cA
  obtain ⟨L12, hL12⟩ : ∃ L12, L12 = L11 ++ ptL (ol) 2 := ⟨_, rfl⟩
  have HE12 := Hid.mk' hL12
  have HL12 : Hid (L12.length ≤ lb.length + (0 + 4 + 8 + 8 + 1 + 1 + 4 + 1 + 1 + 4 + 1 + il + 2)) := by have := HL11.out; unfold Hid; rw [hL12]; simp [ptL_length]; omega
  rw [← hL12] at HO12
  clear hL12
  have HR12 := Hid.mk' (HR11.out.fr HG12.out (by decide))
  have HF12 := Hid.mk' (HF11.out.trans HG12.out)
  clear HO11 HF11 HL11 HG12 HR11
  have cA : W12.cell? ⟨g, 12, none⟩ = some (.slice ao ol co) := (HR12.out.cell 12).trans rfl
  have hby := Hid.mk' (HSL.out _ HF12.out.b).o
  go_wp2_with (at_builtin; refine appY (by rfl) _ _ (by rfl) B _ _ L12 S.out (by rfl) HO12.out (by rfl) hby.out (by have := HL12.out; have := HLB.out; have := HOL.out; omega) (Nat.le_trans hB HF12.out.b.size) ?_; intro v13 W13 ho1 hf1; have HO13 := Hid.mk' ho1; have HG13 := Hid.mk' hf1; clear ho1 hf1)
  clear cA hby
  obtain ⟨L13, hL13⟩ : ∃ L13, L13 = L12 ++ S.out := ⟨_, rfl⟩
  have HE13 := Hid.mk' hL13
  have HL13 : Hid (L13.length ≤ lb.length + (0 + 4 + 8 + 8 + 1 + 1 + 4 + 1 + 1 + 4 + 1 + il + 2 + ol)) := by have := HL12.out; unfold Hid; rw [hL13]; rw [List.length_append, ← HOL.out]; omega
  rw [← hL13] at HO13
  clear hL13
  have HR13 := Hid.mk' (HR12.out.fr HG13.out (by decide))
  have HF13 := Hid.mk' (HF12.out.trans HG13.out)
  clear HO12 HF12 HL12 HG13 HR12
  have HEND : Hid (L13 = lb ++ (devS S).flatten) := by
    unfold Hid
    rw [HE13.out, HE12.out, HE11.out, HE10.out, HE9.out, HE8.out, HE7.out, HE6.out, HE5.out, HE4.out, HE3.out, HE2.out, HE1.out, HE0.out, HOF.out]
    unfold devS
    rw [Hmsw.out, Hcdw.out, ← HIL.out, ← HOL.out, wB_small' il (by omega), wB_small' ol (by omega)]
    simp [dbl, Hcmw.out, Htmw.out]
  go_ret
  exact ⟨_, rfl, by rw [← HEND.out]; exact HO13.out, HF13.out⟩
end Go.Proofs.Ytnlkamfoopikhaa
