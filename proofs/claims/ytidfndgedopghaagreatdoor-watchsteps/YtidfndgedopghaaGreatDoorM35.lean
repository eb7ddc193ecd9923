/-
  On.
-/
import Derived.Test.YtidfndgedopghaaGreatDoorM34
namespace Go.Proofs.YtidfndgedopghaaGreatDoor
set_option linter.unusedVariables false
set_option maxRecDepth 100000
set_option maxHeartbeats 4000000
open Go.ChangeShapes Go.WideShapes Go.ChangeAt Go.RowKit Go.Deep
theorem ssc_bc0 (b : Cp) (B : St) (br bi bo : Value) (a : Cp) (A : St) (ar ai ao : Value) (K : Cp) (tk ex so : Bool) (vi : Value) (r : Rw) (j : Nat) (v : Value) (h : (cpc b)[j]? = some v) : (ssc b B br bi bo a A ar ai ao K tk ex so vi r)[0 + j]? = some v := by
  rw [Nat.zero_add]
  exact ssc_bc b B br bi bo a A ar ai ao K tk ex so vi r j v h
theorem r14_c (b : Cp) (B : St) (br bi bo : Value) (a : Cp) (A : St) (ar ai ao : Value) (K : Cp) (tk ex so : Bool) (vi : Value) (r : Rw) (w : World) : Calls Tryz.prog 115 #[.agg (ssc b B br bi bo a A ar ai ao K tk ex so vi r)] w fun e w' => e = .returned (.bool (r14B B A r tk)) ∧ Below w.heap.size w w' := by
  obtain ⟨W0, hW0, r0, b0, s0⟩ := start1 w (ssc b B br bi bo a A ar ai ao K tk ex so vi r) 79
  have BB := Hid.mkU b0.out
  clear s0 b0
  have HM : Hid ((r14B B A r tk) = ((((r.kd == 5) || (soB r 33603576#64 8)) || ((tk) && (A.time == IntKind.u64.wrap (B.time + 1)))) || ((!(tk)) && (A.time == B.time)))) := rfl
  have HST : Hid (∀ W, Calls Tryz.prog 153 #[.agg (ssc b B br bi bo a A ar ai ao K tk ex so vi r), .int .u64 33603576, .int .i64 8] W fun e w' => e = .returned (.bool (soB r 33603576#64 8)) ∧ Below W.heap.size W w') := fun W => sSt_33603576 b B br bi bo a A ar ai ao K tk ex so vi r W
  generalize hZ : (r14B B A r tk) = Z at HM ⊢
  clear hZ
  generalize soB r 33603576#64 8 = z1 at *
  go_enter Tryz.func115, Tryz.ntmps115
  go_upto_region 1 with fail
  clear hW0
  have c_r_kd : ∀ x : Later W0, x.1.cell? ⟨w.heap.size, 281, none⟩ = some (.int .i64 r.kd) := fun x => ((lrow r0.out x).cell 281).trans (ssc_r _ _ _ _ _ _ _ _ _ _ _ _ _ _ _ _ 1 _ rfl)
  have c_tk : ∀ x : Later W0, x.1.cell? ⟨w.heap.size, 276, none⟩ = some (.bool tk) := fun x => ((lrow r0.out x).cell 276).trans (ssc_w _ _ _ _ _ _ _ _ _ _ _ _ _ _ _ _ 0 _ rfl)
  have c_B_time : ∀ x : Later W0, x.1.cell? ⟨w.heap.size, 85, none⟩ = some (.int .u64 B.time) := fun x => ((lrow r0.out x).cell 85).trans (ssc_bs _ _ _ _ _ _ _ _ _ _ _ _ _ _ _ _ 3 _ rfl)
  have c_A_time : ∀ x : Later W0, x.1.cell? ⟨w.heap.size, 182, none⟩ = some (.int .u64 A.time) := fun x => ((lrow r0.out x).cell 182).trans (ssc_as _ _ _ _ _ _ _ _ _ _ _ _ _ _ _ _ 3 _ rfl)
  generalize hzt : tk = zt at HM c_tk
  have HZT := Hid.mkU hzt
  clear hzt
  have hne := later_nonempty W0
  cases q1 : (r.kd == 5)
  focus
    cases z1
    focus
      cases zt
      focus
        cases q2 : (A.time == B.time)
        focus
          have HV : Hid (Z = false) := (by unfold Hid; first | (rw [HM.out, q1, q2]; done) | (rw [HM.out, q1, q2]; rfl))
          clear HM
        rotate_left 1
        focus
          have HV : Hid (Z = true) := (by unfold Hid; first | (rw [HM.out, q1, q2]; done) | (rw [HM.out, q1, q2]; rfl))
          clear HM
        rotate_left 1
      rotate_left 2
      focus
        cases q3 : (A.time == IntKind.u64.wrap (B.time + 1))
        focus
          have HV : Hid (Z = false) := (by unfold Hid; first | (rw [HM.out, q1, q3]; done) | (rw [HM.out, q1, q3]; rfl))
          clear HM
        rotate_left 1
        focus
          have HV : Hid (Z = true) := (by unfold Hid; first | (rw [HM.out, q1, q3]; done) | (rw [HM.out, q1, q3]; rfl))
          clear HM
        rotate_left 1
      rotate_left 2
    rotate_left 4
    focus
      have HV : Hid (Z = true) := (by unfold Hid; first | (rw [HM.out, q1]; done) | (rw [HM.out, q1]; rfl))
      clear HM
    rotate_left 1
  rotate_left 5
  focus
    have HV : Hid (Z = true) := (by unfold Hid; first | (rw [HM.out, q1]; done) | (rw [HM.out, q1]; rfl))
    clear HM
  rotate_left 1
  all_goals
    refine wp_region_plain (x0 := Later.start W0) ?_
    iterate 5 (go_big_quiet_step (fail))
    (first | (go_big_quiet_want; refine quiet_load_agg 79 _ (by rfl) (w.heap.size) 0 (by rfl) (ssc b B br bi bo a A ar ai ao K tk ex so vi r) _ r0.out.lt (lrow_cells r0.out) Tryz.underlying79 (by rfl) (info_ss ..) ?_; simp only [Act.put, List.setIfInBounds_toArray, List.set_cons_succ, List.set_cons_zero]; go_big_quiet_on) | (go_big_quiet_step (fail)))
    (go_big_quiet_step ((go_at_call 153; exact calls_later (HST.out _))))
    (go_big_quiet_step (fail))
    refine wpQuiet_nil ?_
    rintro _ ⟨yq, rfl⟩
    have d_tk := c_tk yq
    have d_B_time := c_B_time yq
    have d_A_time := c_A_time yq
    go_wp2
    go_ret
    exact ⟨by rw [HV.out]; first | done | rfl, BB.out.trans (yq.2.mono BB.out.size)⟩
def r15B (B A : St) (r : Rw) : Bool := (((soB r 33570816#64 8) || (A.cmp == B.cmp)) && ((soB r 33554432#64 4) || (A.msip == B.msip)))
theorem r15_c (b : Cp) (B : St) (br bi bo : Value) (a : Cp) (A : St) (ar ai ao : Value) (K : Cp) (tk ex so : Bool) (vi : Value) (r : Rw) (w : World) : Calls Tryz.prog 116 #[.agg (ssc b B br bi bo a A ar ai ao K tk ex so vi r)] w fun e w' => e = .returned (.bool (r15B B A r)) ∧ Below w.heap.size w w' := by
  obtain ⟨W0, hW0, r0, b0, s0⟩ := start1 w (ssc b B br bi bo a A ar ai ao K tk ex so vi r) 79
  have BB := Hid.mkU b0.out
  clear s0 b0
  have HM : Hid ((r15B B A r) = (((soB r 33570816#64 8) || (A.cmp == B.cmp)) && ((soB r 33554432#64 4) || (A.msip == B.msip)))) := rfl
  have HST : Hid (∀ W, Calls Tryz.prog 153 #[.agg (ssc b B br bi bo a A ar ai ao K tk ex so vi r), .int .u64 33570816, .int .i64 8] W fun e w' => e = .returned (.bool (soB r 33570816#64 8)) ∧ Below W.heap.size W w') := fun W => sSt_33570816 b B br bi bo a A ar ai ao K tk ex so vi r W
  have HSU : Hid (∀ W, Calls Tryz.prog 153 #[.agg (ssc b B br bi bo a A ar ai ao K tk ex so vi r), .int .u64 33554432, .int .i64 4] W fun e w' => e = .returned (.bool (soB r 33554432#64 4)) ∧ Below W.heap.size W w') := fun W => sSt_33554432 b B br bi bo a A ar ai ao K tk ex so vi r W
  generalize hZ : (r15B B A r) = Z at HM ⊢
  clear hZ
  generalize soB r 33570816#64 8 = z1 at *
  generalize soB r 33554432#64 4 = z2 at *
  go_enter Tryz.func116, Tryz.ntmps116
  go_upto_region 1 with fail
  clear hW0
  have c_B_cmp : ∀ x : Later W0, x.1.cell? ⟨w.heap.size, 84, none⟩ = some (.int .u64 B.cmp) := fun x => ((lrow r0.out x).cell 84).trans (ssc_bs _ _ _ _ _ _ _ _ _ _ _ _ _ _ _ _ 2 _ rfl)
  have c_A_cmp : ∀ x : Later W0, x.1.cell? ⟨w.heap.size, 181, none⟩ = some (.int .u64 A.cmp) := fun x => ((lrow r0.out x).cell 181).trans (ssc_as _ _ _ _ _ _ _ _ _ _ _ _ _ _ _ _ 2 _ rfl)
  have c_B_msip : ∀ x : Later W0, x.1.cell? ⟨w.heap.size, 83, none⟩ = some (.int .u32 B.msip) := fun x => ((lrow r0.out x).cell 83).trans (ssc_bs _ _ _ _ _ _ _ _ _ _ _ _ _ _ _ _ 1 _ rfl)
  have c_A_msip : ∀ x : Later W0, x.1.cell? ⟨w.heap.size, 180, none⟩ = some (.int .u32 A.msip) := fun x => ((lrow r0.out x).cell 180).trans (ssc_as _ _ _ _ _ _ _ _ _ _ _ _ _ _ _ _ 1 _ rfl)
  have hne := later_nonempty W0
  cases z1
  focus
    cases q1 : (A.cmp == B.cmp)
    focus
      have HV : Hid (Z = false) := (by unfold Hid; first | (rw [HM.out, q1]; done) | (rw [HM.out, q1]; rfl))
      clear HM
      have MX : Hid True := trivial
    rotate_left 1
    focus
      cases z2
      focus
        cases q2 : (A.msip == B.msip)
        focus
          have HV : Hid (Z = false) := (by unfold Hid; first | (rw [HM.out, q1, q2]; done) | (rw [HM.out, q1, q2]; rfl))
          clear HM
          have MY : Hid True := trivial
        rotate_left 1
        focus
          have HV : Hid (Z = true) := (by unfold Hid; first | (rw [HM.out, q1, q2]; done) | (rw [HM.out, q1, q2]; rfl))
          clear HM
          have MY : Hid True := trivial
        rotate_left 1
      rotate_left 2
      focus
        have HV : Hid (Z = true) := (by unfold Hid; first | (rw [HM.out, q1]; done) | (rw [HM.out, q1]; rfl))
        clear HM
        have MY : Hid True := trivial
      rotate_left 1
    rotate_left 3
  rotate_left 4
  focus
    cases z2
    focus
      cases q3 : (A.msip == B.msip)
      focus
        have HV : Hid (Z = false) := (by unfold Hid; first | (rw [HM.out, q3]; done) | (rw [HM.out, q3]; rfl))
        clear HM
        have MY : Hid True := trivial
      rotate_left 1
      focus
        have HV : Hid (Z = true) := (by unfold Hid; first | (rw [HM.out, q3]; done) | (rw [HM.out, q3]; rfl))
        clear HM
        have MY : Hid True := trivial
      rotate_left 1
    rotate_left 2
    focus
      have HV : Hid (Z = true) := (by unfold Hid; first | (rw [HM.out]; done) | (rw [HM.out]; rfl))
      clear HM
      have MY : Hid True := trivial
    rotate_left 1
  rotate_left 3
  all_goals
    refine wp_region_plain (x0 := Later.start W0) ?_
    (first | (go_big_quiet_want; refine quiet_load_agg 79 _ (by rfl) (w.heap.size) 0 (by rfl) (ssc b B br bi bo a A ar ai ao K tk ex so vi r) _ r0.out.lt (lrow_cells r0.out) Tryz.underlying79 (by rfl) (info_ss ..) ?_; simp only [Act.put, List.setIfInBounds_toArray, List.set_cons_succ, List.set_cons_zero]; go_big_quiet_on) | (go_big_quiet_step (fail)))
    (go_big_quiet_step ((go_at_call 153; exact calls_later (HST.out _))))
    iterate 12 (go_big_quiet_step (fail))
    refine wpQuiet_nil ?_
    rintro _ ⟨yq, rfl⟩
    first | (have := MX; (go_wp2); (go_ret); (exact ⟨by rw [HV.out]; first | done | rfl, BB.out.trans (yq.2.mono BB.out.size)⟩)) | (((go_upto_region 3 with fail)); (refine wp_region_plain (x0 := yq) ?_); ((first | (go_big_quiet_want; refine quiet_load_agg 79 _ (by rfl) (w.heap.size) 0 (by rfl) (ssc b B br bi bo a A ar ai ao K tk ex so vi r) _ r0.out.lt (lrow_cells r0.out) Tryz.underlying79 (by rfl) (info_ss ..) ?_; simp only [Act.put, List.setIfInBounds_toArray, List.set_cons_succ, List.set_cons_zero]; go_big_quiet_on) | (go_big_quiet_step (fail)))); ((go_big_quiet_step ((go_at_call 153; exact calls_later (HSU.out _))))); (iterate 12 (go_big_quiet_step (fail))); (refine wpQuiet_nil ?_); (rintro _ ⟨yp, rfl⟩); (go_wp2); (go_ret); (exact ⟨by rw [HV.out]; first | done | rfl, BB.out.trans (yp.2.mono BB.out.size)⟩))
/-- Lists that are no longer than any memory. -/
structure Bd (S : St) : Prop where
  r : S.ram.length ≤ 140737488351232
  i : S.inp.length ≤ 140737488351232
  o : S.out.length ≤ 140737488351232
def sbus (A B : St) : Bool := rdB A B && bsB A.ram B.ram
theorem sbus_c (A B : St) (ar ai ao br bi bo : Value) (w : World) (hA : Bs A ar ai ao w) (hB : Bs B br bi bo w) (dA : Bd A) (dB : Bd B) : Calls Tryz.prog 145 #[.agg (stc A ar ai ao), .agg (stc B br bi bo)] w fun e w' => e = .returned (.bool (sbus A B)) ∧ Below w.heap.size w w' := by
  obtain ⟨W0, hW0, r0, r1, b0, s0⟩ := start2 w (stc A ar ai ao) (stc B br bi bo) 44 44
  have BB := Hid.mkU b0.out
  clear s0
  have HDV : Hid (∀ x : Later W0, Calls Tryz.prog 28 #[.agg (stc A ar ai ao), .agg (stc B br bi bo)] x.1 fun e w' => e = .returned (.bool (rdB A B)) ∧ Below x.1.heap.size x.1 w') := fun x => rdev_c A B ar ai ao br bi bo x.1 (hA.later (b0.out.trans (x.2.mono b0.out.size))) (hB.later (b0.out.trans (x.2.mono b0.out.size))) dA.i dB.i dA.o dB.o
  have HBS : Hid (∀ x : Later W0, Calls Tryz.prog 56 #[ar, br] x.1 fun e w' => e = .returned (.bool (bsB A.ram B.ram)) ∧ Below x.1.heap.size x.1 w') := fun x => rbytes_c A.ram B.ram ar br x.1 (hA.r.later (b0.out.trans (x.2.mono b0.out.size)) rfl) (hB.r.later (b0.out.trans (x.2.mono b0.out.size)) rfl) dA.r dB.r
  have HM : Hid (sbus A B = (rdB A B && bsB A.ram B.ram)) := rfl
  generalize sbus A B = Z at HM ⊢
  generalize rdB A B = z1 at *
  generalize bsB A.ram B.ram = z2 at *
  have c0 : ∀ x : Later W0, x.1.cell? ⟨w.heap.size, 0, none⟩ = some ar := fun x => (lrow r0.out x).cell 0
  have c1 : ∀ x : Later W0, x.1.cell? ⟨w.heap.size + 1, 0, none⟩ = some br := fun x => (lrow r1.out x).cell 0
  have hne := later_nonempty W0
  clear b0 hA hB dA dB
  go_enter Tryz.func145, Tryz.ntmps145
  go_upto_region 1 with fail
  clear hW0
  cases z1
  focus
    have HV : Hid (Z = false) := (by unfold Hid; first | (rw [HM.out]; done) | (rw [HM.out]; rfl))
    clear HM
  rotate_left 1
  focus
    cases z2
    focus
      have HV : Hid (Z = false) := (by unfold Hid; first | (rw [HM.out]; done) | (rw [HM.out]; rfl))
      clear HM
    rotate_left 1
    focus
      have HV : Hid (Z = true) := (by unfold Hid; first | (rw [HM.out]; done) | (rw [HM.out]; rfl))
      clear HM
    rotate_left 1
  rotate_left 2
  all_goals
    refine wp_region_plain (x0 := Later.start W0) ?_
    (first | (go_big_quiet_want; refine quiet_load_agg 44 _ (by rfl) (w.heap.size) 0 (by rfl) (stc A ar ai ao) _ r0.out.lt (lrow_cells r0.out) Tryz.underlying44 (by rfl) (info_bst _ _ _ _) ?_; simp only [Act.put, List.setIfInBounds_toArray, List.set_cons_succ, List.set_cons_zero]; go_big_quiet_on) | (go_big_quiet_step (fail)))
    (first | (go_big_quiet_want; refine quiet_load_agg 44 _ (by rfl) (w.heap.size + 1) 0 (by rfl) (stc B br bi bo) _ r1.out.lt (lrow_cells r1.out) Tryz.underlying44 (by rfl) (info_bst _ _ _ _) ?_; simp only [Act.put, List.setIfInBounds_toArray, List.set_cons_succ, List.set_cons_zero]; go_big_quiet_on) | (go_big_quiet_step (fail)))
    (go_big_quiet_step ((go_at_call 28; exact calls_later (HDV.out _))))
    iterate 5 (go_big_quiet_step (fail))
    (go_big_quiet_step ((go_at_call 56; exact calls_later (HBS.out _))))
    iterate 2 (go_big_quiet_step (fail))
    refine wpQuiet_nil ?_
    rintro _ ⟨yq, rfl⟩
    go_wp2
    go_ret
    exact ⟨by rw [HV.out]; first | done | rfl, BB.out.trans (yq.2.mono BB.out.size)⟩
theorem bit1_u32 (v : Int) : (bits .and .u32 v 1 == 1) = (bits .and .u32 v 1 != 0) := by
  have h : bits .and .u32 v 1 = ((BitVec.ofInt 32 v).toNat % 2 : Nat) := by
    show IntKind.u32.wrap (((BitVec.ofInt 32 v &&& BitVec.ofInt 32 1).toNat : Nat) : Int) = _
    rw [show BitVec.ofInt 32 1 = 1#32 from rfl, BitVec.toNat_and, show (1#32).toNat = 1 from rfl, Nat.and_one_is_mod]
    show (((BitVec.ofInt 32 v).toNat % 2 : Nat) : Int) % 4294967296 = _
    omega
  rw [h]
  rcases Nat.mod_two_eq_zero_or_one (BitVec.ofInt 32 v).toNat with e | e <;> rw [e] <;> rfl
theorem bit1_u8 (v : Int) : (bits .and .u8 v 1 == 1) = (bits .and .u8 v 1 != 0) := by
  have h : bits .and .u8 v 1 = ((BitVec.ofInt 8 v).toNat % 2 : Nat) := by
    show IntKind.u8.wrap (((BitVec.ofInt 8 v &&& BitVec.ofInt 8 1).toNat : Nat) : Int) = _
    rw [show BitVec.ofInt 8 1 = 1#8 from rfl, BitVec.toNat_and, show (1#8).toNat = 1 from rfl, Nat.and_one_is_mod]
    show (((BitVec.ofInt 8 v).toNat % 2 : Nat) : Int) % 256 = _
    omega
  rw [h]
  rcases Nat.mod_two_eq_zero_or_one (BitVec.ofInt 8 v).toNat with e | e <;> rw [e] <;> rfl
theorem rMip_c (S : St) (vr vo : Value) (ai : Option Addr) (ci : Nat) (w : World) : Calls Tryz.prog 151 #[.agg (stc S vr (.slice ai S.inp.length ci) vo)] w fun e w' => e = .returned (.int .u64 (n64 (mpV S))) ∧ Below w.heap.size w w' := by
  obtain ⟨W0, hW0, r0, b0, s0⟩ := start1 w (stc S vr (.slice ai S.inp.length ci) vo) 44
  have BB := Hid.mkU b0.out
  clear s0 b0
  have c_msip : W0.cell? ⟨w.heap.size, 1, none⟩ = some (.int .u32 S.msip) := r0.out.cell 1
  have c_cmp : W0.cell? ⟨w.heap.size, 2, none⟩ = some (.int .u64 S.cmp) := r0.out.cell 2
  have c_time : W0.cell? ⟨w.heap.size, 3, none⟩ = some (.int .u64 S.time) := r0.out.cell 3
  have c_ext : W0.cell? ⟨w.heap.size, 4, none⟩ = some (.bool S.ext) := r0.out.cell 4
  have c_soft : W0.cell? ⟨w.heap.size, 5, none⟩ = some (.bool S.soft) := r0.out.cell 5
  have c_ier : W0.cell? ⟨w.heap.size, 6, none⟩ = some (.int .u8 S.ier) := r0.out.cell 6
  have c_i : W0.cell? ⟨w.heap.size, 11, none⟩ = some (.slice ai S.inp.length ci) := r0.out.cell 11
  have HM : Hid (mpV S = (if mp1 S then 8#64 else 0#64) ||| (if mp2 S then 128#64 else 0#64) ||| (if mp3 S then 2048#64 else 0#64)) := rfl
  have H1 : Hid (mp1 S = ((bits .and .u32 S.msip 1 == 1) || (S.soft))) := by unfold Hid; rw [bit1_u32]; rfl
  have H2 : Hid (mp2 S = (decide (S.cmp ≤ S.time))) := rfl
  have H3 : Hid (mp3 S = ((S.ext) || ((bits .and .u8 S.ier 1 == 1) && (decide (0 < S.inp.length))))) := by unfold Hid; rw [bit1_u8]; rfl
  generalize mpV S = Z at HM ⊢
  generalize mp1 S = m1 at *
  generalize mp2 S = m2 at *
  generalize mp3 S = m3 at *
  generalize S.msip = x1 at *
  generalize S.soft = x2 at *
  generalize S.cmp = x3 at *
  generalize S.time = x4 at *
  generalize S.ext = x5 at *
  generalize S.ier = x6 at *
  generalize S.inp.length = x7 at *
  go_enter Tryz.func151, Tryz.ntmps151
  go_upto_region 1 with fail
  clear hW0
  cases q1 : (bits .and .u32 x1 1 == 1)
  focus
    cases x2
    focus
      have K1 : Hid (m1 = false) := (by unfold Hid; first | (rw [H1.out, q1]; done) | (rw [H1.out, q1]; rfl))
      clear H1
      cases q1 : (decide (x3 ≤ x4))
      focus
        have K2 : Hid (m2 = false) := (by unfold Hid; first | (rw [H2.out, q1]; done) | (rw [H2.out, q1]; rfl))
        clear H2
        cases x5
        focus
          cases q1 : (bits .and .u8 x6 1 == 1)
          focus
            have K3 : Hid (m3 = false) := (by unfold Hid; first | (rw [H3.out, q1]; done) | (rw [H3.out, q1]; rfl))
            clear H3
            have HV : Hid (Z = 0#64) := (by unfold Hid; rw [HM.out, K1.out, K2.out, K3.out]; decide)
            clear HM K1 K2 K3
          rotate_left 1
          focus
            cases q2 : (decide (0 < x7))
            focus
              have K3 : Hid (m3 = false) := (by unfold Hid; first | (rw [H3.out, q1, q2]; done) | (rw [H3.out, q1, q2]; rfl))
              clear H3
              have HV : Hid (Z = 0#64) := (by unfold Hid; rw [HM.out, K1.out, K2.out, K3.out]; decide)
              clear HM K1 K2 K3
            rotate_left 1
            focus
              have K3 : Hid (m3 = true) := (by unfold Hid; first | (rw [H3.out, q1, q2]; done) | (rw [H3.out, q1, q2]; rfl))
              clear H3
              have HV : Hid (Z = 2048#64) := (by unfold Hid; rw [HM.out, K1.out, K2.out, K3.out]; decide)
              clear HM K1 K2 K3
            rotate_left 1
          rotate_left 2
        rotate_left 3
        focus
          have K3 : Hid (m3 = true) := (by unfold Hid; first | (rw [H3.out]; done) | (rw [H3.out]; rfl))
          clear H3
          have HV : Hid (Z = 2048#64) := (by unfold Hid; rw [HM.out, K1.out, K2.out, K3.out]; decide)
          clear HM K1 K2 K3
        rotate_left 1
      rotate_left 4
      focus
        have K2 : Hid (m2 = true) := (by unfold Hid; first | (rw [H2.out, q1]; done) | (rw [H2.out, q1]; rfl))
        clear H2
        cases x5
        focus
          cases q13 : (bits .and .u8 x6 1 == 1)
          focus
            have K3 : Hid (m3 = false) := (by unfold Hid; first | (rw [H3.out, q13]; done) | (rw [H3.out, q13]; rfl))
            clear H3
            have HV : Hid (Z = 128#64) := (by unfold Hid; rw [HM.out, K1.out, K2.out, K3.out]; decide)
            clear HM K1 K2 K3
          rotate_left 1
          focus
            cases q14 : (decide (0 < x7))
            focus
              have K3 : Hid (m3 = false) := (by unfold Hid; first | (rw [H3.out, q13, q14]; done) | (rw [H3.out, q13, q14]; rfl))
              clear H3
              have HV : Hid (Z = 128#64) := (by unfold Hid; rw [HM.out, K1.out, K2.out, K3.out]; decide)
              clear HM K1 K2 K3
            rotate_left 1
            focus
              have K3 : Hid (m3 = true) := (by unfold Hid; first | (rw [H3.out, q13, q14]; done) | (rw [H3.out, q13, q14]; rfl))
              clear H3
              have HV : Hid (Z = 2176#64) := (by unfold Hid; rw [HM.out, K1.out, K2.out, K3.out]; decide)
              clear HM K1 K2 K3
            rotate_left 1
          rotate_left 2
        rotate_left 3
        focus
          have K3 : Hid (m3 = true) := (by unfold Hid; first | (rw [H3.out]; done) | (rw [H3.out]; rfl))
          clear H3
          have HV : Hid (Z = 2176#64) := (by unfold Hid; rw [HM.out, K1.out, K2.out, K3.out]; decide)
          clear HM K1 K2 K3
        rotate_left 1
      rotate_left 4
    rotate_left 8
    focus
      have K1 : Hid (m1 = true) := (by unfold Hid; first | (rw [H1.out, q1]; done) | (rw [H1.out, q1]; rfl))
      clear H1
      cases q12 : (decide (x3 ≤ x4))
      focus
        have K2 : Hid (m2 = false) := (by unfold Hid; first | (rw [H2.out, q12]; done) | (rw [H2.out, q12]; rfl))
        clear H2
        cases x5
        focus
          cases q12 : (bits .and .u8 x6 1 == 1)
          focus
            have K3 : Hid (m3 = false) := (by unfold Hid; first | (rw [H3.out, q12]; done) | (rw [H3.out, q12]; rfl))
            clear H3
            have HV : Hid (Z = 8#64) := (by unfold Hid; rw [HM.out, K1.out, K2.out, K3.out]; decide)
            clear HM K1 K2 K3
          rotate_left 1
          focus
            cases q13 : (decide (0 < x7))
            focus
              have K3 : Hid (m3 = false) := (by unfold Hid; first | (rw [H3.out, q12, q13]; done) | (rw [H3.out, q12, q13]; rfl))
              clear H3
              have HV : Hid (Z = 8#64) := (by unfold Hid; rw [HM.out, K1.out, K2.out, K3.out]; decide)
              clear HM K1 K2 K3
            rotate_left 1
            focus
              have K3 : Hid (m3 = true) := (by unfold Hid; first | (rw [H3.out, q12, q13]; done) | (rw [H3.out, q12, q13]; rfl))
              clear H3
              have HV : Hid (Z = 2056#64) := (by unfold Hid; rw [HM.out, K1.out, K2.out, K3.out]; decide)
              clear HM K1 K2 K3
            rotate_left 1
          rotate_left 2
        rotate_left 3
        focus
          have K3 : Hid (m3 = true) := (by unfold Hid; first | (rw [H3.out]; done) | (rw [H3.out]; rfl))
          clear H3
          have HV : Hid (Z = 2056#64) := (by unfold Hid; rw [HM.out, K1.out, K2.out, K3.out]; decide)
          clear HM K1 K2 K3
        rotate_left 1
      rotate_left 4
      focus
        have K2 : Hid (m2 = true) := (by unfold Hid; first | (rw [H2.out, q12]; done) | (rw [H2.out, q12]; rfl))
        clear H2
        cases x5
        focus
          cases q24 : (bits .and .u8 x6 1 == 1)
          focus
            have K3 : Hid (m3 = false) := (by unfold Hid; first | (rw [H3.out, q24]; done) | (rw [H3.out, q24]; rfl))
            clear H3
            have HV : Hid (Z = 136#64) := (by unfold Hid; rw [HM.out, K1.out, K2.out, K3.out]; decide)
            clear HM K1 K2 K3
          rotate_left 1
          focus
            cases q25 : (decide (0 < x7))
            focus
              have K3 : Hid (m3 = false) := (by unfold Hid; first | (rw [H3.out, q24, q25]; done) | (rw [H3.out, q24, q25]; rfl))
              clear H3
              have HV : Hid (Z = 136#64) := (by unfold Hid; rw [HM.out, K1.out, K2.out, K3.out]; decide)
              clear HM K1 K2 K3
            rotate_left 1
            focus
              have K3 : Hid (m3 = true) := (by unfold Hid; first | (rw [H3.out, q24, q25]; done) | (rw [H3.out, q24, q25]; rfl))
              clear H3
              have HV : Hid (Z = 2184#64) := (by unfold Hid; rw [HM.out, K1.out, K2.out, K3.out]; decide)
              clear HM K1 K2 K3
            rotate_left 1
          rotate_left 2
        rotate_left 3
        focus
          have K3 : Hid (m3 = true) := (by unfold Hid; first | (rw [H3.out]; done) | (rw [H3.out]; rfl))
          clear H3
          have HV : Hid (Z = 2184#64) := (by unfold Hid; rw [HM.out, K1.out, K2.out, K3.out]; decide)
          clear HM K1 K2 K3
        rotate_left 1
      rotate_left 4
    rotate_left 8
  rotate_left 16
  focus
    have K1 : Hid (m1 = true) := (by unfold Hid; first | (rw [H1.out, q1]; done) | (rw [H1.out, q1]; rfl))
    clear H1
    cases q23 : (decide (x3 ≤ x4))
    focus
      have K2 : Hid (m2 = false) := (by unfold Hid; first | (rw [H2.out, q23]; done) | (rw [H2.out, q23]; rfl))
      clear H2
      cases x5
      focus
        cases q23 : (bits .and .u8 x6 1 == 1)
        focus
          have K3 : Hid (m3 = false) := (by unfold Hid; first | (rw [H3.out, q23]; done) | (rw [H3.out, q23]; rfl))
          clear H3
          have HV : Hid (Z = 8#64) := (by unfold Hid; rw [HM.out, K1.out, K2.out, K3.out]; decide)
          clear HM K1 K2 K3
        rotate_left 1
        focus
          cases q24 : (decide (0 < x7))
          focus
            have K3 : Hid (m3 = false) := (by unfold Hid; first | (rw [H3.out, q23, q24]; done) | (rw [H3.out, q23, q24]; rfl))
            clear H3
            have HV : Hid (Z = 8#64) := (by unfold Hid; rw [HM.out, K1.out, K2.out, K3.out]; decide)
            clear HM K1 K2 K3
          rotate_left 1
          focus
            have K3 : Hid (m3 = true) := (by unfold Hid; first | (rw [H3.out, q23, q24]; done) | (rw [H3.out, q23, q24]; rfl))
            clear H3
            have HV : Hid (Z = 2056#64) := (by unfold Hid; rw [HM.out, K1.out, K2.out, K3.out]; decide)
            clear HM K1 K2 K3
          rotate_left 1
        rotate_left 2
      rotate_left 3
      focus
        have K3 : Hid (m3 = true) := (by unfold Hid; first | (rw [H3.out]; done) | (rw [H3.out]; rfl))
        clear H3
        have HV : Hid (Z = 2056#64) := (by unfold Hid; rw [HM.out, K1.out, K2.out, K3.out]; decide)
        clear HM K1 K2 K3
      rotate_left 1
    rotate_left 4
    focus
      have K2 : Hid (m2 = true) := (by unfold Hid; first | (rw [H2.out, q23]; done) | (rw [H2.out, q23]; rfl))
      clear H2
      cases x5
      focus
        cases q35 : (bits .and .u8 x6 1 == 1)
        focus
          have K3 : Hid (m3 = false) := (by unfold Hid; first | (rw [H3.out, q35]; done) | (rw [H3.out, q35]; rfl))
          clear H3
          have HV : Hid (Z = 136#64) := (by unfold Hid; rw [HM.out, K1.out, K2.out, K3.out]; decide)
          clear HM K1 K2 K3
        rotate_left 1
        focus
          cases q36 : (decide (0 < x7))
          focus
            have K3 : Hid (m3 = false) := (by unfold Hid; first | (rw [H3.out, q35, q36]; done) | (rw [H3.out, q35, q36]; rfl))
            clear H3
            have HV : Hid (Z = 136#64) := (by unfold Hid; rw [HM.out, K1.out, K2.out, K3.out]; decide)
            clear HM K1 K2 K3
          rotate_left 1
          focus
            have K3 : Hid (m3 = true) := (by unfold Hid; first | (rw [H3.out, q35, q36]; done) | (rw [H3.out, q35, q36]; rfl))
            clear H3
            have HV : Hid (Z = 2184#64) := (by unfold Hid; rw [HM.out, K1.out, K2.out, K3.out]; decide)
            clear HM K1 K2 K3
          rotate_left 1
        rotate_left 2
      rotate_left 3
      focus
        have K3 : Hid (m3 = true) := (by unfold Hid; first | (rw [H3.out]; done) | (rw [H3.out]; rfl))
        clear H3
        have HV : Hid (Z = 2184#64) := (by unfold Hid; rw [HM.out, K1.out, K2.out, K3.out]; decide)
        clear HM K1 K2 K3
      rotate_left 1
    rotate_left 4
  rotate_left 8
  all_goals
    go_wp2
    go_ret
    exact ⟨by rw [HV.out]; first | done | rfl | kernel_rfl, BB.out⟩
def r3B (b a : Cp) (B A : St) (r : Rw) : Bool := (((((B.off != 0) && (r.kd == 5)) && (eqC a b)) && (sbus A B)) || ((!(B.off != 0)) && (!(r.kd == 5))))
theorem r3_c (b : Cp) (B : St) (br bi bo : Value) (a : Cp) (A : St) (ar ai ao : Value) (K : Cp) (tk ex so : Bool) (vi : Value) (r : Rw) (w : World) (hA : Bs A ar ai ao w) (hB : Bs B br bi bo w) (dA : Bd A) (dB : Bd B) : Calls Tryz.prog 105 #[.agg (ssc b B br bi bo a A ar ai ao K tk ex so vi r)] w fun e w' => e = .returned (.bool (r3B b a B A r)) ∧ Below w.heap.size w w' := by
  obtain ⟨W0, hW0, r0, b0, s0⟩ := start1 w (ssc b B br bi bo a A ar ai ao K tk ex so vi r) 79
  have BB := Hid.mkU b0.out
  clear s0 b0
  have HM : Hid ((r3B b a B A r) = (((((B.off != 0) && (r.kd == 5)) && (eqC a b)) && (sbus A B)) || ((!(B.off != 0)) && (!(r.kd == 5))))) := rfl
  have c_B_off : ∀ x : Later W0, x.1.cell? ⟨w.heap.size, 95, none⟩ = some (.int .i64 B.off) := fun x => ((lrow r0.out x).cell 95).trans (ssc_bs _ _ _ _ _ _ _ _ _ _ _ _ _ _ _ _ 13 _ rfl)
  have c_r_kd : ∀ x : Later W0, x.1.cell? ⟨w.heap.size, 281, none⟩ = some (.int .i64 r.kd) := fun x => ((lrow r0.out x).cell 281).trans (ssc_r _ _ _ _ _ _ _ _ _ _ _ _ _ _ _ _ 1 _ rfl)
  have HEC := Hid.mkU (fun w => eq_cpuU a b w)
  have HSB : Hid (∀ x : Later W0, Calls Tryz.prog 145 #[.agg (stc A ar ai ao), .agg (stc B br bi bo)] x.1 fun e w' => e = .returned (.bool (sbus A B)) ∧ Below x.1.heap.size x.1 w') := fun x => sbus_c A B ar ai ao br bi bo x.1 (hA.later (BB.out.trans (x.2.mono BB.out.size))) (hB.later (BB.out.trans (x.2.mono BB.out.size))) dA dB
  generalize hZ : (r3B b a B A r) = Z at HM ⊢
  clear hZ
  generalize eqC a b = z1 at *
  generalize sbus A B = z2 at *
  go_enter Tryz.func105, Tryz.ntmps105
  go_upto_region 1 with fail
  clear hW0
  have c1 := c_B_off (Later.start W0)
  have c2 := c_r_kd (Later.start W0)
  have c1b : W0.cell? ⟨w.heap.size, 95, none⟩ = some (.int .i64 B.off) := c1
  have c2b : W0.cell? ⟨w.heap.size, 281, none⟩ = some (.int .i64 r.kd) := c2
  clear c1 c2
  have hne := later_nonempty W0
  cases q1 : (B.off != 0)
  focus
    cases q2 : (r.kd == 5)
    focus
      have HV : Hid (Z = true) := (by unfold Hid; first | (rw [HM.out, q1, q2]; done) | (rw [HM.out, q1, q2]; rfl))
      clear HM
      have MY : Hid True := trivial
    rotate_left 1
    focus
      have HV : Hid (Z = false) := (by unfold Hid; first | (rw [HM.out, q1, q2]; done) | (rw [HM.out, q1, q2]; rfl))
      clear HM
      have MX : Hid True := trivial
    rotate_left 1
  rotate_left 2
  focus
    cases q3 : (r.kd == 5)
    focus
      have HV : Hid (Z = false) := (by unfold Hid; first | (rw [HM.out, q1, q3]; done) | (rw [HM.out, q1, q3]; rfl))
      clear HM
      have MX : Hid True := trivial
    rotate_left 1
    focus
      cases z1
      focus
        have HV : Hid (Z = false) := (by unfold Hid; first | (rw [HM.out, q1, q3]; done) | (rw [HM.out, q1, q3]; rfl))
        clear HM
        have MY : Hid True := trivial
      rotate_left 1
      focus
        cases z2
        focus
          have HV : Hid (Z = false) := (by unfold Hid; first | (rw [HM.out, q1, q3]; done) | (rw [HM.out, q1, q3]; rfl))
          clear HM
          have MY : Hid True := trivial
        rotate_left 1
        focus
          have HV : Hid (Z = true) := (by unfold Hid; first | (rw [HM.out, q1, q3]; done) | (rw [HM.out, q1, q3]; rfl))
          clear HM
          have MY : Hid True := trivial
        rotate_left 1
      rotate_left 2
    rotate_left 3
  rotate_left 4
  all_goals
    first | (have := MX; (go_wp2); (go_ret); (exact ⟨by rw [HV.out]; first | done | rfl, BB.out⟩)) | (((go_upto_region 4 with fail)); (refine wp_region_plain (x0 := Later.start W0) ?_); (iterate 5 (go_big_quiet_step (fail))); ((first | (go_big_quiet_want; refine quiet_load_agg 32 _ (by rfl) (w.heap.size) 97 (by rfl) (cpc a) _ r0.out.lt (fun j v hv => (r0.out.cell (97 + j)).trans (ssc_ac _ _ _ _ _ _ _ _ _ _ _ _ _ _ _ _ j v hv)) Tryz.underlying32 (by rfl) (info_cpuU _) ?_; simp only [Act.put, List.setIfInBounds_toArray, List.set_cons_succ, List.set_cons_zero]; go_big_quiet_on) | (go_big_quiet_step (fail)))); (iterate 2 (go_big_quiet_step (fail))); ((first | (go_big_quiet_want; refine quiet_load_agg 32 _ (by rfl) (w.heap.size) 0 (by rfl) (cpc b) _ r0.out.lt (fun j v hv => (r0.out.cell (0 + j)).trans (ssc_bc0 _ _ _ _ _ _ _ _ _ _ _ _ _ _ _ _ j v hv)) Tryz.underlying32 (by rfl) (info_cpuU _) ?_; simp only [Act.put, List.setIfInBounds_toArray, List.set_cons_succ, List.set_cons_zero]; go_big_quiet_on) | (go_big_quiet_step (fail)))); ((first | (go_big_quiet_want; refine quiet_eql_agg 32 _ _ _ (by rfl) (cpc a) (cpc b) (by rfl) (by rfl) _ HEC.out (fun w => eqG_cpuU _ _ _ _ w) ?_; simp only [Act.put, List.setIfInBounds_toArray, List.set_cons_succ, List.set_cons_zero]; go_big_quiet_on) | (go_big_quiet_step (fail)))); (iterate 3 (go_big_quiet_step (fail))); ((first | (go_big_quiet_want; refine quiet_load_agg 44 _ (by rfl) (w.heap.size) 179 (by rfl) (stc A ar ai ao) _ r0.out.lt (fun j v hv => (r0.out.cell (179 + j)).trans (ssc_as _ _ _ _ _ _ _ _ _ _ _ _ _ _ _ _ j v hv)) Tryz.underlying44 (by rfl) (info_bst _ _ _ _) ?_; simp only [Act.put, List.setIfInBounds_toArray, List.set_cons_succ, List.set_cons_zero]; go_big_quiet_on) | (go_big_quiet_step (fail)))); (iterate 2 (go_big_quiet_step (fail))); ((first | (go_big_quiet_want; refine quiet_load_agg 44 _ (by rfl) (w.heap.size) 82 (by rfl) (stc B br bi bo) _ r0.out.lt (fun j v hv => (r0.out.cell (82 + j)).trans (ssc_bs _ _ _ _ _ _ _ _ _ _ _ _ _ _ _ _ j v hv)) Tryz.underlying44 (by rfl) (info_bst _ _ _ _) ?_; simp only [Act.put, List.setIfInBounds_toArray, List.set_cons_succ, List.set_cons_zero]; go_big_quiet_on) | (go_big_quiet_step (fail)))); ((go_big_quiet_step ((go_at_call 145; exact calls_later (HSB.out _))))); (iterate 3 (go_big_quiet_step (fail))); (refine wpQuiet_nil ?_); (rintro _ ⟨yq, rfl⟩); (go_wp2); (go_ret); (exact ⟨by rw [HV.out]; first | done | rfl, BB.out.trans (yq.2.mono BB.out.size)⟩))
def r2B (b a : Cp) (r : Rw) : Bool := ((((((decide (1 ≤ r.kd)) && (decide (r.kd ≤ 5))) && (r.md == b.md)) && (n64 r.pc == n64 b.pc)) && (n64 r.nx == n64 a.pc)) && (r.nm == a.md))
theorem r2_c (b : Cp) (B : St) (br bi bo : Value) (a : Cp) (A : St) (ar ai ao : Value) (K : Cp) (tk ex so : Bool) (vi : Value) (r : Rw) (w : World) : Calls Tryz.prog 104 #[.agg (ssc b B br bi bo a A ar ai ao K tk ex so vi r)] w fun e w' => e = .returned (.bool (r2B b a r)) ∧ Below w.heap.size w w' := by
  obtain ⟨W0, hW0, r0, b0, s0⟩ := start1 w (ssc b B br bi bo a A ar ai ao K tk ex so vi r) 79
  have BB := Hid.mkU b0.out
  clear s0 b0
  have HM : Hid ((r2B b a r) = ((((((decide (1 ≤ r.kd)) && (decide (r.kd ≤ 5))) && (r.md == b.md)) && (n64 r.pc == n64 b.pc)) && (n64 r.nx == n64 a.pc)) && (r.nm == a.md))) := rfl
  generalize hZ : (r2B b a r) = Z at HM ⊢
  clear hZ
  go_enter Tryz.func104, Tryz.ntmps104
  go_upto_region 1 with fail
  clear hW0
  have hzr := zero_rw
  have Cg5 : Hid (∀ j v, (rwc r)[j]? = some v → W0.cell? ⟨w.heap.size, 280 + j, none⟩ = some v) := (fun j v hv => (r0.out.cell (280 + j)).trans (ssc_r _ _ _ _ _ _ _ _ _ _ _ _ _ _ _ _ j v hv))
  go_upto_region 2 with (first | (refine wpList_load_agg (by rfl) 52 _ (by rfl) w.heap.size 280 (by rfl) (rwc r) _ Cg5.out Tryz.underlying52 (by rfl) (info_rw _) ?_) | (refine wpList_store_new (by rfl) 52 _ _ (by rfl) (by rfl) (rwc rz) (rwc r) (by rfl) (by rfl) (info_rw _) (by rfl) (rwc_ones _) ?_))
  refine on_W (motive := fun W => Code.wp _ _ _ _ W) (Q := fun W => Row W w.heap.size (ssc b B br bi bo a A ar ai ao K tk ex so vi r) 79 ∧ Row W W0.heap.size (rwc r) 52 ∧ Below w.heap.size w W) ⟨r0.out.old r0.out.lt _, Row.new _ _ _, BB.out.trans ((below_al _ _).mono BB.out.size)⟩ ?_
  generalize W0.heap.size = g5 at *
  clear Cg5 r0 BB  hzr
  rintro W1 ⟨q0, qn, qb⟩
  have r0 := Hid.mkU q0
  have r_g5 := Hid.mkU qn
  have BB := Hid.mkU qb
  clear q0 qn qb
  have cg5_kd : W1.cell? ⟨g5, 1, none⟩ = some (.int .i64 r.kd) := (r_g5.out.cell 1)
  have cg5_md : W1.cell? ⟨g5, 2, none⟩ = some (.int .i64 r.md) := (r_g5.out.cell 2)
  have cg5_pc : W1.cell? ⟨g5, 3, none⟩ = some (.int .u64 (n64 r.pc)) := (r_g5.out.cell 3)
  have cg5_nx : W1.cell? ⟨g5, 14, none⟩ = some (.int .u64 (n64 r.nx)) := (r_g5.out.cell 14)
  have cg5_nm : W1.cell? ⟨g5, 15, none⟩ = some (.int .i64 r.nm) := (r_g5.out.cell 15)
  have c_b_md : W1.cell? ⟨w.heap.size, 33, none⟩ = some (.int .i64 b.md) := (r0.out.cell 33).trans (ssc_bc _ _ _ _ _ _ _ _ _ _ _ _ _ _ _ _ 33 _ (cpc_at _ 33 (by omega)))
  have c_b_pc : W1.cell? ⟨w.heap.size, 0, none⟩ = some (.int .u64 (n64 b.pc)) := (r0.out.cell 0).trans (ssc_bc _ _ _ _ _ _ _ _ _ _ _ _ _ _ _ _ 0 _ (cpc_at _ 0 (by omega)))
  have c_a_pc : W1.cell? ⟨w.heap.size, 97, none⟩ = some (.int .u64 (n64 a.pc)) := (r0.out.cell 97).trans (ssc_ac _ _ _ _ _ _ _ _ _ _ _ _ _ _ _ _ 0 _ (cpc_at _ 0 (by omega)))
  have c_a_md : W1.cell? ⟨w.heap.size, 130, none⟩ = some (.int .i64 a.md) := (r0.out.cell 130).trans (ssc_ac _ _ _ _ _ _ _ _ _ _ _ _ _ _ _ _ 33 _ (cpc_at _ 33 (by omega)))
  cases q1 : (decide (1 ≤ r.kd))
  focus
    have HV : Hid (Z = false) := (by unfold Hid; first | (rw [HM.out, q1]; done) | (rw [HM.out, q1]; rfl))
    clear HM
  rotate_left 1
  focus
    cases q2 : (decide (r.kd ≤ 5))
    focus
      have HV : Hid (Z = false) := (by unfold Hid; first | (rw [HM.out, q1, q2]; done) | (rw [HM.out, q1, q2]; rfl))
      clear HM
    rotate_left 1
    focus
      cases q3 : (r.md == b.md)
      focus
        have HV : Hid (Z = false) := (by unfold Hid; first | (rw [HM.out, q1, q2, q3]; done) | (rw [HM.out, q1, q2, q3]; rfl))
        clear HM
      rotate_left 1
      focus
        cases q4 : (n64 r.pc == n64 b.pc)
        focus
          have HV : Hid (Z = false) := (by unfold Hid; first | (rw [HM.out, q1, q2, q3, q4]; done) | (rw [HM.out, q1, q2, q3, q4]; rfl))
          clear HM
        rotate_left 1
        focus
          cases q5 : (n64 r.nx == n64 a.pc)
          focus
            have HV : Hid (Z = false) := (by unfold Hid; first | (rw [HM.out, q1, q2, q3, q4, q5]; done) | (rw [HM.out, q1, q2, q3, q4, q5]; rfl))
            clear HM
          rotate_left 1
          focus
            cases q6 : (r.nm == a.md)
            focus
              have HV : Hid (Z = false) := (by unfold Hid; first | (rw [HM.out, q1, q2, q3, q4, q5, q6]; done) | (rw [HM.out, q1, q2, q3, q4, q5, q6]; rfl))
              clear HM
            rotate_left 1
            focus
              have HV : Hid (Z = true) := (by unfold Hid; first | (rw [HM.out, q1, q2, q3, q4, q5, q6]; done) | (rw [HM.out, q1, q2, q3, q4, q5, q6]; rfl))
              clear HM
            rotate_left 1
          rotate_left 2
        rotate_left 3
      rotate_left 4
    rotate_left 5
  rotate_left 6
  all_goals
    go_wp2
    go_ret
    exact ⟨by rw [HV.out]; first | done | rfl, BB.out⟩
end Go.Proofs.YtidfndgedopghaaGreatDoor
