/-
  Oq.
-/
import Derived.Test.YtidfndgedopghaaGreatDoorM36
namespace Go.Proofs.YtidfndgedopghaaGreatDoor
set_option linter.unusedVariables false
set_option maxRecDepth 100000
set_option maxHeartbeats 4000000
open Go.ChangeShapes Go.WideShapes Go.ChangeAt Go.RowKit Go.Deep
theorem hdl_yes (tv c : BitVec 64) (h : (c.getLsbD 63 && tv.getLsbD 0) = true) : IntKind.u64.wrap (n64 (hbs tv) + n64 (4#64 * (c - tp 63))) = n64 (hdl tv c) := by
  unfold hdl
  rw [if_pos h]
  exact n64_add _ _
theorem hdl_no (tv c : BitVec 64) (h : (c.getLsbD 63 && tv.getLsbD 0) = false) : n64 (hbs tv) = n64 (hdl tv c) := by
  unfold hdl
  rw [if_neg (by rw [h]; simp)]
theorem top_63 (c : BitVec 64) : (n64 (c >>> 63) == 1) = c.getLsbD 63 := by
  have h := n64_odd c 63
  have h2 : n64 (c >>> 63) < 2 := by
    rw [← n64_shr]
    have := n64_hi c
    omega
  have h3 := n64_lo (c >>> 63)
  rw [← h, show n64 (c >>> 63) % (2 : Int) = n64 (c >>> 63) by omega]
theorem low_0 (c : BitVec 64) : (n64 (c &&& 1#64) == 1) = c.getLsbD 0 := by
  have h := n64_odd c 0
  rw [BitVec.ushiftRight_zero] at h
  rw [← h]
  have e : n64 (c &&& 1#64) = n64 c % 2 := by
    unfold n64
    rw [BitVec.toNat_and, show (1#64).toNat = 1 from rfl, Nat.and_one_is_mod]
    omega
  rw [e]
def r10B (b a : Cp) (r : Rw) : Bool := ((!(tpB r)) || ((((((((n64 (a.s 7) == n64 b.pc) && (n64 (a.s 8) == n64 r.ca)) && (n64 (a.s 9) == n64 r.tv)) && (n64 (a.s 0) == n64 (enS (b.s 0) b.md))) && (a.md == 3)) && (!(a.wt))) && (rnE a)) && (n64 a.pc == n64 (hdl (b.s 1) r.ca))))
set_option maxHeartbeats 16000000 in
theorem r10_c (b : Cp) (B : St) (br bi bo : Value) (a : Cp) (A : St) (ar ai ao : Value) (K : Cp) (tk ex so : Bool) (vi : Value) (r : Rw) (w : World) (hm : b.md = 0 ∨ b.md = 3) : Calls Tryz.prog 111 #[.agg (ssc b B br bi bo a A ar ai ao K tk ex so vi r)] w fun e w' => e = .returned (.bool (r10B b a r)) ∧ Below w.heap.size w w' := by
  obtain ⟨W0, hW0, r0, b0, s0⟩ := start1 w (ssc b B br bi bo a A ar ai ao K tk ex so vi r) 79
  have BB := Hid.mkU b0.out
  clear s0 b0
  have HM : Hid ((r10B b a r) = ((!(tpB r)) || ((((((((n64 (a.s 7) == n64 b.pc) && (n64 (a.s 8) == n64 r.ca)) && (n64 (a.s 9) == n64 r.tv)) && (n64 (a.s 0) == n64 (enS (b.s 0) b.md))) && (a.md == 3)) && (!(a.wt))) && (rnE a)) && (n64 a.pc == n64 (hdl (b.s 1) r.ca))))) := rfl
  have HER := Hid.mkU (fun w => eq_res0 a w)
  have hzr := zero_resU
  have hzc := zero_cpu
  have HEN : Hid (∀ W, Calls Tryz.prog 150 #[.int .u64 (n64 (b.s 0)), .int .i64 b.md] W fun e w' => e = .returned (.int .u64 (n64 (enS (b.s 0) b.md))) ∧ w' = W) := rEn_c _ _ hm
  have HTP : Hid (∀ W, Calls Tryz.prog 149 #[.agg (ssc b B br bi bo a A ar ai ao K tk ex so vi r)] W fun e w' => e = .returned (.bool (tpB r)) ∧ Below W.heap.size W w') := fun W => sTr_c b B br bi bo a A ar ai ao K tk ex so vi r W
  generalize hZ : (r10B b a r) = Z at HM ⊢
  clear hZ
  generalize tpB r = z1 at *
  go_enter Tryz.func111, Tryz.ntmps111
  go_upto_region 1 with fail
  clear hW0
  have hne := later_nonempty W0
  cases z1
  focus
    have HV : Hid (Z = true) := (by unfold Hid; rw [HM.out]; rfl)
    clear HM
    refine wp_region_plain (x0 := Later.start W0) ?_
    (first | (go_big_quiet_want; refine quiet_load_agg 79 _ (by rfl) (w.heap.size) 0 (by rfl) (ssc b B br bi bo a A ar ai ao K tk ex so vi r) _ r0.out.lt (lrow_cells r0.out) Tryz.underlying79 (by rfl) (info_ss ..) ?_; simp only [Act.put, List.setIfInBounds_toArray, List.set_cons_succ, List.set_cons_zero]; go_big_quiet_on) | (go_big_quiet_step (fail)))
    (go_big_quiet_step ((go_at_call 149; exact calls_later (HTP.out _))))
    (go_big_quiet_step (fail))
    refine wpQuiet_nil ?_
    rintro _ ⟨yq, rfl⟩
    go_wp2
    go_ret
    exact ⟨by rw [HV.out]; first | done | rfl, BB.out.trans (yq.2.mono BB.out.size)⟩
  focus
    refine wp_region_plain (x0 := Later.start W0) ?_
    (first | (go_big_quiet_want; refine quiet_load_agg 79 _ (by rfl) (w.heap.size) 0 (by rfl) (ssc b B br bi bo a A ar ai ao K tk ex so vi r) _ r0.out.lt (lrow_cells r0.out) Tryz.underlying79 (by rfl) (info_ss ..) ?_; simp only [Act.put, List.setIfInBounds_toArray, List.set_cons_succ, List.set_cons_zero]; go_big_quiet_on) | (go_big_quiet_step (fail)))
    (go_big_quiet_step ((go_at_call 149; exact calls_later (HTP.out _))))
    (go_big_quiet_step (fail))
    refine wpQuiet_nil ?_
    rintro _ ⟨yq, rfl⟩
    go_upto_region 3 with fail
    refine on_W (motive := fun W => Code.wp _ _ _ _ W) (Q := fun W => Row W w.heap.size (ssc b B br bi bo a A ar ai ao K tk ex so vi r) 79 ∧ Below w.heap.size w W) ⟨lrow r0.out yq, BB.out.trans (yq.2.mono BB.out.size)⟩ ?_
    clear r0 BB 
    rintro W1 ⟨q0, qb⟩
    have r0 := Hid.mkU q0
    have BB := Hid.mkU qb
    clear q0 qb
    clear yq
    have Cg3 : Hid (∀ j v, (cpc a)[j]? = some v → W1.cell? ⟨w.heap.size, 97 + j, none⟩ = some v) := (fun j v hv => (r0.out.cell (97 + j)).trans (ssc_ac _ _ _ _ _ _ _ _ _ _ _ _ _ _ _ _ j v hv))
    go_upto_region 4 with (first | (refine wpList_load_agg (by rfl) 32 _ (by rfl) w.heap.size 97 (by rfl) (cpc a) _ Cg3.out Tryz.underlying32 (by rfl) (info_cpuU _) ?_) | (refine wpList_store_new (by rfl) 32 _ _ (by rfl) (by rfl) (cpc cz) (cpc a) (by rfl) (by rfl) (info_cpuU _) (by rw [cpc_size, cpc_size]) (cpc_ones _) ?_))
    refine on_W (motive := fun W => Code.wp _ _ _ _ W) (Q := fun W => Row W w.heap.size (ssc b B br bi bo a A ar ai ao K tk ex so vi r) 79 ∧ Row W W1.heap.size (cpc a) 32 ∧ Below w.heap.size w W) ⟨r0.out.old r0.out.lt _, Row.new _ _ _, BB.out.trans ((below_al _ _).mono BB.out.size)⟩ ?_
    have hl_g3 : Hid (w.heap.size < W1.heap.size) := r0.out.lt
    generalize W1.heap.size = g3 at *
    clear Cg3 r0 BB  
    rintro W2 ⟨q0, qn, qb⟩
    have r0 := Hid.mkU q0
    have r_g3 := Hid.mkU qn
    have BB := Hid.mkU qb
    clear q0 qn qb
    have Cg4 : Hid (∀ j v, (cpc b)[j]? = some v → W2.cell? ⟨w.heap.size, 0 + j, none⟩ = some v) := (fun j v hv => (r0.out.cell (0 + j)).trans (ssc_bc0 _ _ _ _ _ _ _ _ _ _ _ _ _ _ _ _ j v hv))
    go_upto_region 5 with (first | (refine wpList_load_agg (by rfl) 32 _ (by rfl) w.heap.size 0 (by rfl) (cpc b) _ Cg4.out Tryz.underlying32 (by rfl) (info_cpuU _) ?_) | (refine wpList_store_new (by rfl) 32 _ _ (by rfl) (by rfl) (cpc cz) (cpc b) (by rfl) (by rfl) (info_cpuU _) (by rw [cpc_size, cpc_size]) (cpc_ones _) ?_))
    refine on_W (motive := fun W => Code.wp _ _ _ _ W) (Q := fun W => Row W w.heap.size (ssc b B br bi bo a A ar ai ao K tk ex so vi r) 79 ∧ Row W g3 (cpc a) 32 ∧ Row W W2.heap.size (cpc b) 32 ∧ Below w.heap.size w W) ⟨r0.out.old r0.out.lt _, r_g3.out.old r_g3.out.lt _, Row.new _ _ _, BB.out.trans ((below_al _ _).mono BB.out.size)⟩ ?_
    have hl_g4 : Hid (w.heap.size < W2.heap.size) := r0.out.lt
    generalize W2.heap.size = g4 at *
    clear Cg4 r0 BB r_g3 hzc
    rintro W3 ⟨q0, q1, qn, qb⟩
    have r0 := Hid.mkU q0
    have r_g3 := Hid.mkU q1
    have r_g4 := Hid.mkU qn
    have BB := Hid.mkU qb
    clear q0 q1 qn qb
    have e4_s1 : W3.cell? ⟨g4, 36, none⟩ = some (.int .u64 (n64 (b.s 1))) := (r_g4.out.cell 36).trans (cpc_at _ 36 (by omega))
    have e_r_ca : W3.cell? ⟨w.heap.size, 286, none⟩ = some (.int .u64 (n64 r.ca)) := (r0.out.cell 286).trans (ssc_r _ _ _ _ _ _ _ _ _ _ _ _ _ _ _ _ 6 _ rfl)
    have b0 : bits .andNot .u64 (n64 (b.s 1)) 3 = n64 (b.s 1 &&& ~~~3#64) := n64_andNot (b.s 1) 3#64
    rw [hbs_and] at b0
    have b1 : bits .and .u64 (n64 (b.s 1)) 1 = n64 (b.s 1 &&& 1#64) := n64_and (b.s 1) 1#64
    have b2 := low_0 (b.s 1)
    have b3 : n64 r.ca / (9223372036854775808 : Int) = n64 (r.ca >>> 63) := n64_shr r.ca 63
    have b4 := top_63 r.ca
    generalize n64 (b.s 1 &&& 1#64) = y1 at b1 b2
    generalize n64 (r.ca >>> 63) = y5 at b3 b4
    have HS : Hid (IntKind.u64.wrap ((4 : Int) * n64 (r.ca - tp 63)) = n64 (4#64 * (r.ca - tp 63))) := n64_mul 4#64 _
    have HT1 := Hid.mkU (hdl_yes (b.s 1) r.ca)
    have HT0 := Hid.mkU (hdl_no (b.s 1) r.ca)
    have HC6 : Hid (r.ca.getLsbD 63 = true → bits .andNot .u64 (n64 r.ca) 9223372036854775808 = n64 (r.ca - tp 63)) := fun h => (n64_andNot r.ca (tp 63)).trans (by rw [cause_63 r.ca h])
    generalize n64 (hdl (b.s 1) r.ca) = yh at *
    generalize n64 (hbs (b.s 1)) = y0 at *
    generalize hc : r.ca.getLsbD 63 = tc at *
    generalize ht : (b.s 1).getLsbD 0 = tt at *
    clear hc ht
    generalize n64 (4#64 * (r.ca - tp 63)) = y3 at *
    generalize n64 (r.ca - tp 63) = y2 at *
    generalize n64 (b.s 1) = x at *
    go_upto_region 6 with fail
    go_cut [29] from 19 to 28 (fun v wx => v = .bool (tc && tt) ∧ wx = W3)
    case first =>
      clear HS HT1 HT0 HC6 HM
      cases tc <;> cases tt <;> (go_wp2; go_meet; exact ⟨rfl, rfl⟩)
    case rest =>
      obtain ⟨rfl, hwc⟩ := hcut
      have hwd := hwc.symm
      subst hwd
      clear hwc b1 b2 b3 b4
      cases htt : (tc && tt)
      focus
        have hy := (HT0.out htt).symm
        subst hy
        clear HT0 HT1 HC6 HS htt
        go_upto_region 9 with (refine wpList_store_new (by rfl) 30 _ _ (by rfl) (by rfl) (rsc false 0#64 0) (rsc false 0#64 0) (by rfl) (by rfl) (info_res _ _ _) (by rfl) (by rfl) ?_)
        refine on_W (motive := fun W => Code.wp _ _ _ _ W) (Q := fun W => Row W w.heap.size (ssc b B br bi bo a A ar ai ao K tk ex so vi r) 79 ∧ Row W g3 (cpc a) 32 ∧ Row W g4 (cpc b) 32 ∧ Row W W3.heap.size (rsc false 0#64 0) 30 ∧ Below w.heap.size w W) ⟨r0.out.old r0.out.lt _, r_g3.out.old r_g3.out.lt _, r_g4.out.old r_g4.out.lt _, Row.new _ _ _, BB.out.trans ((below_al _ _).mono BB.out.size)⟩ ?_
        generalize W3.heap.size = g6 at *
        clear r0 r_g3 r_g4 BB e4_s1 e_r_ca hzr
        rintro W4 ⟨q0, q1, q2, q3, qb⟩
        have r0 := Hid.mkU q0
        have r_g3 := Hid.mkU q1
        have r_g4 := Hid.mkU q2
        have r_g6 := Hid.mkU q3
        have BB := Hid.mkU qb
        clear q0 q1 q2 q3 qb
      rotate_left 1
      focus
        have htc : tc = true := (by cases tc; exact htt; rfl)
        have hy := HT1.out htt
        have hz := HC6.out htc
        have hs := HS.out
        clear HT0 HT1 HC6 HS htt htc
        go_upto_region 9 with (refine wpList_store_new (by rfl) 30 _ _ (by rfl) (by rfl) (rsc false 0#64 0) (rsc false 0#64 0) (by rfl) (by rfl) (info_res _ _ _) (by rfl) (by rfl) ?_)
        refine on_W (motive := fun W => Code.wp _ _ _ _ W) (Q := fun W => Row W w.heap.size (ssc b B br bi bo a A ar ai ao K tk ex so vi r) 79 ∧ Row W g3 (cpc a) 32 ∧ Row W g4 (cpc b) 32 ∧ Row W W3.heap.size (rsc false 0#64 0) 30 ∧ Below w.heap.size w W) ⟨r0.out.old r0.out.lt _, r_g3.out.old r_g3.out.lt _, r_g4.out.old r_g4.out.lt _, Row.new _ _ _, BB.out.trans ((below_al _ _).mono BB.out.size)⟩ ?_
        generalize W3.heap.size = g6 at *
        clear r0 r_g3 r_g4 BB e4_s1 e_r_ca hzr
        rintro W4 ⟨q0, q1, q2, q3, qb⟩
        have r0 := Hid.mkU q0
        have r_g3 := Hid.mkU q1
        have r_g4 := Hid.mkU q2
        have r_g6 := Hid.mkU q3
        have BB := Hid.mkU qb
        clear q0 q1 q2 q3 qb
        clear hy hz hs
      rotate_left 1
      all_goals
        have cg3_s7 : ∀ x : Later W4, x.1.cell? ⟨g3, 42, none⟩ = some (.int .u64 (n64 (a.s 7))) := fun x => ((lrow r_g3.out x).cell 42).trans (cpc_at _ 42 (by omega))
        have cg3_s8 : ∀ x : Later W4, x.1.cell? ⟨g3, 43, none⟩ = some (.int .u64 (n64 (a.s 8))) := fun x => ((lrow r_g3.out x).cell 43).trans (cpc_at _ 43 (by omega))
        have cg3_s9 : ∀ x : Later W4, x.1.cell? ⟨g3, 44, none⟩ = some (.int .u64 (n64 (a.s 9))) := fun x => ((lrow r_g3.out x).cell 44).trans (cpc_at _ 44 (by omega))
        have cg3_s0 : ∀ x : Later W4, x.1.cell? ⟨g3, 35, none⟩ = some (.int .u64 (n64 (a.s 0))) := fun x => ((lrow r_g3.out x).cell 35).trans (cpc_at _ 35 (by omega))
        have cg3_md : ∀ x : Later W4, x.1.cell? ⟨g3, 33, none⟩ = some (.int .i64 a.md) := fun x => ((lrow r_g3.out x).cell 33).trans (cpc_at _ 33 (by omega))
        have cg3_wt : ∀ x : Later W4, x.1.cell? ⟨g3, 34, none⟩ = some (.bool a.wt) := fun x => ((lrow r_g3.out x).cell 34).trans (cpc_at _ 34 (by omega))
        have cg3_pc : ∀ x : Later W4, x.1.cell? ⟨g3, 0, none⟩ = some (.int .u64 (n64 a.pc)) := fun x => ((lrow r_g3.out x).cell 0).trans (cpc_at _ 0 (by omega))
        have cg4_pc : ∀ x : Later W4, x.1.cell? ⟨g4, 0, none⟩ = some (.int .u64 (n64 b.pc)) := fun x => ((lrow r_g4.out x).cell 0).trans (cpc_at _ 0 (by omega))
        have cg4_s0 : ∀ x : Later W4, x.1.cell? ⟨g4, 35, none⟩ = some (.int .u64 (n64 (b.s 0))) := fun x => ((lrow r_g4.out x).cell 35).trans (cpc_at _ 35 (by omega))
        have cg4_md : ∀ x : Later W4, x.1.cell? ⟨g4, 33, none⟩ = some (.int .i64 b.md) := fun x => ((lrow r_g4.out x).cell 33).trans (cpc_at _ 33 (by omega))
        have c_r_ca : ∀ x : Later W4, x.1.cell? ⟨w.heap.size, 286, none⟩ = some (.int .u64 (n64 r.ca)) := fun x => ((lrow r0.out x).cell 286).trans (ssc_r _ _ _ _ _ _ _ _ _ _ _ _ _ _ _ _ 6 _ rfl)
        have c_r_tv : ∀ x : Later W4, x.1.cell? ⟨w.heap.size, 287, none⟩ = some (.int .u64 (n64 r.tv)) := fun x => ((lrow r0.out x).cell 287).trans (ssc_r _ _ _ _ _ _ _ _ _ _ _ _ _ _ _ _ 7 _ rfl)
        have hne := later_nonempty W4
        generalize a.wt = z5 at *
        generalize rnE a = z6 at *
        cases q1 : (n64 (a.s 7) == n64 b.pc)
        focus
          have HV : Hid (Z = false) := (by unfold Hid; first | (rw [HM.out, q1]; done) | (rw [HM.out, q1]; rfl))
          clear HM
        rotate_left 1
        focus
          cases q2 : (n64 (a.s 8) == n64 r.ca)
          focus
            have HV : Hid (Z = false) := (by unfold Hid; first | (rw [HM.out, q1, q2]; done) | (rw [HM.out, q1, q2]; rfl))
            clear HM
          rotate_left 1
          focus
            cases q3 : (n64 (a.s 9) == n64 r.tv)
            focus
              have HV : Hid (Z = false) := (by unfold Hid; first | (rw [HM.out, q1, q2, q3]; done) | (rw [HM.out, q1, q2, q3]; rfl))
              clear HM
            rotate_left 1
            focus
              cases q4 : (n64 (a.s 0) == n64 (enS (b.s 0) b.md))
              focus
                have HV : Hid (Z = false) := (by unfold Hid; first | (rw [HM.out, q1, q2, q3, q4]; done) | (rw [HM.out, q1, q2, q3, q4]; rfl))
                clear HM
              rotate_left 1
              focus
                cases q5 : (a.md == 3)
                focus
                  have HV : Hid (Z = false) := (by unfold Hid; first | (rw [HM.out, q1, q2, q3, q4, q5]; done) | (rw [HM.out, q1, q2, q3, q4, q5]; rfl))
                  clear HM
                rotate_left 1
                focus
                  cases z5
                  focus
                    cases z6
                    focus
                      have HV : Hid (Z = false) := (by unfold Hid; first | (rw [HM.out, q1, q2, q3, q4, q5]; done) | (rw [HM.out, q1, q2, q3, q4, q5]; rfl))
                      clear HM
                    rotate_left 1
                    focus
                      cases q6 : (n64 a.pc == yh)
                      focus
                        have HV : Hid (Z = false) := (by unfold Hid; first | (rw [HM.out, q1, q2, q3, q4, q5, q6]; done) | (rw [HM.out, q1, q2, q3, q4, q5, q6]; rfl))
                        clear HM
                      rotate_left 1
                      focus
                        have HV : Hid (Z = true) := (by unfold Hid; first | (rw [HM.out, q1, q2, q3, q4, q5, q6]; done) | (rw [HM.out, q1, q2, q3, q4, q5, q6]; rfl))
                        clear HM
                      rotate_left 1
                    rotate_left 2
                  rotate_left 3
                  focus
                    have HV : Hid (Z = false) := (by unfold Hid; first | (rw [HM.out, q1, q2, q3, q4, q5]; done) | (rw [HM.out, q1, q2, q3, q4, q5]; rfl))
                    clear HM
                  rotate_left 1
                rotate_left 4
              rotate_left 5
            rotate_left 6
          rotate_left 7
        rotate_left 8
        all_goals
          refine wp_region_later (x0 := Later.start W4) (by kernel_rfl) (by kernel_rfl) ?_
          iterate 28 (go_big_quiet_step (fail))
          (go_big_quiet_step ((go_at_call 150; exact calls_later_same (HEN.out _))))
          iterate 14 (go_big_quiet_step (fail))
          (first | (go_big_quiet_want; refine quiet_load_agg 30 _ (by rfl) (g3) 79 (by rfl) (rsc a.rv a.ra a.rs) _ r_g3.out.lt r_g3.out.res Tryz.underlying30 (by rfl) (info_res _ _ _) ?_; simp only [Act.put, List.setIfInBounds_toArray, List.set_cons_succ, List.set_cons_zero]; go_big_quiet_on) | (go_big_quiet_step (fail)))
          (first | (go_big_quiet_want; refine quiet_load_agg 30 _ (by rfl) (g6) 0 (by rfl) (rsc false 0#64 0) _ r_g6.out.lt (lrow_cells r_g6.out) Tryz.underlying30 (by rfl) (info_res _ _ _) ?_; simp only [Act.put, List.setIfInBounds_toArray, List.set_cons_succ, List.set_cons_zero]; go_big_quiet_on) | (go_big_quiet_step (fail)))
          (first | (go_big_quiet_want; refine quiet_eql_agg 30 _ _ _ (by rfl) (rsc a.rv a.ra a.rs) (rsc false 0#64 0) (by rfl) (by rfl) _ HER.out (fun w => eqG_res0 _ _ _ _ w) ?_; simp only [Act.put, List.setIfInBounds_toArray, List.set_cons_succ, List.set_cons_zero]; go_big_quiet_on) | (go_big_quiet_step (fail)))
          iterate 8 (go_big_quiet_step (fail))
          refine wpQuiet_nil ?_
          rintro _ ⟨yq, rfl⟩
          go_wp2
          go_ret
          exact ⟨by rw [HV.out]; first | done | rfl, BB.out.trans (yq.2.mono BB.out.size)⟩
def r11B (b a : Cp) (A : St) (r : Rw) : Bool := ((r.kd != 4) || (((b.wt) && (bits .and .u64 (n64 (mpV A)) (n64 (b.s 2)) == 0)) && (sbB b a)))
set_option maxHeartbeats 8000000 in
theorem r11_c (b : Cp) (B : St) (br bi bo : Value) (a : Cp) (A : St) (ar ai ao : Value) (K : Cp) (tk ex so : Bool) (vi : Value) (r : Rw) (xi : Option Addr) (ci : Nat) (w : World) (hai : ai = .slice xi A.inp.length ci) : Calls Tryz.prog 112 #[.agg (ssc b B br bi bo a A ar ai ao K tk ex so vi r)] w fun e w' => e = .returned (.bool (r11B b a A r)) ∧ Below w.heap.size w w' := by
  obtain ⟨W0, hW0, r0, b0, s0⟩ := start1 w (ssc b B br bi bo a A ar ai ao K tk ex so vi r) 79
  have BB := Hid.mkU b0.out
  clear s0 b0
  have HM : Hid ((r11B b a A r) = ((r.kd != 4) || (((b.wt) && (bits .and .u64 (n64 (mpV A)) (n64 (b.s 2)) == 0)) && (sbB b a)))) := rfl
  have HEC : Hid (∀ w, (Op.equalIn 10000 32 (.agg (cpc a)) (.agg (cpc { b with s := upd b.s 10 (a.s 10) }))).run Tryz.prog w = .ok (sbB b a) w) := fun w => eq_cpuU a { b with s := upd b.s 10 (a.s 10) } w
  have hzc := zero_cpu
  have HMI : Hid (∀ W, Calls Tryz.prog 151 #[.agg (stc A ar ai ao)] W fun e w' => e = .returned (.int .u64 (n64 (mpV A))) ∧ Below W.heap.size W w') := fun W => by rw [hai]; exact rMip_c A ar ao xi ci W
  clear hai
  have e_r_kd : W0.cell? ⟨w.heap.size, 281, none⟩ = some (.int .i64 r.kd) := (r0.out.cell 281).trans (ssc_r _ _ _ _ _ _ _ _ _ _ _ _ _ _ _ _ 1 _ rfl)
  generalize hZ : (r11B b a A r) = Z at HM ⊢
  clear hZ
  go_enter Tryz.func112, Tryz.ntmps112
  go_upto_region 1 with fail
  clear hW0
  have hne : True := trivial
  clear hne
  cases q0 : (r.kd != 4)
  rotate_left 1
  focus
    have HV : Hid (Z = true) := (by unfold Hid; rw [HM.out, q0]; rfl)
    clear HM
    go_wp2
    go_ret
    exact ⟨by rw [HV.out]; first | done | rfl, BB.out⟩
  have Cg3 : Hid (∀ j v, (cpc b)[j]? = some v → W0.cell? ⟨w.heap.size, 0 + j, none⟩ = some v) := (fun j v hv => (r0.out.cell (0 + j)).trans (ssc_bc0 _ _ _ _ _ _ _ _ _ _ _ _ _ _ _ _ j v hv))
  go_upto_region 4 with (first | (refine wpList_load_agg (by rfl) 32 _ (by rfl) w.heap.size 0 (by rfl) (cpc b) _ Cg3.out Tryz.underlying32 (by rfl) (info_cpuU _) ?_) | (refine wpList_store_new (by rfl) 32 _ _ (by rfl) (by rfl) (cpc cz) (cpc b) (by rfl) (by rfl) (info_cpuU _) (by rw [cpc_size, cpc_size]) (cpc_ones _) ?_))
  refine on_W (motive := fun W => Code.wp _ _ _ _ W) (Q := fun W => Row W w.heap.size (ssc b B br bi bo a A ar ai ao K tk ex so vi r) 79 ∧ Row W W0.heap.size (cpc b) 32 ∧ Below w.heap.size w W) ⟨r0.out.old r0.out.lt _, Row.new _ _ _, BB.out.trans ((below_al _ _).mono BB.out.size)⟩ ?_
  have hl_g3 : Hid (w.heap.size < W0.heap.size) := r0.out.lt
  generalize W0.heap.size = g3 at *
  clear Cg3 r0 BB  hzc e_r_kd
  rintro W1 ⟨q0, qn, qb⟩
  have r0 := Hid.mkU q0
  have r_g3 := Hid.mkU qn
  have BB := Hid.mkU qb
  clear q0 qn qb
  have e_m : W1.cell? ⟨w.heap.size, 142, none⟩ = some (.int .u64 (n64 (a.s 10))) := (r0.out.cell 142).trans (ssc_ac _ _ _ _ _ _ _ _ _ _ _ _ _ _ _ _ 45 _ (cpc_at _ 45 (by omega)))
  have e_b : W1.cell? ⟨g3, 45, none⟩ = some (.int .u64 (n64 (b.s 10))) := (r_g3.out.cell 45).trans (cpc_at _ 45 (by omega))
  have hfr := r_g3.out.froz 45
  go_upto_region 5 with fail
  refine go_onP (motive := fun W => Code.wp _ _ _ _ W) (Q := fun W => Row W w.heap.size (ssc b B br bi bo a A ar ai ao K tk ex so vi r) 79 ∧ Row W g3 (cpc { b with s := upd b.s 10 (a.s 10) }) 32 ∧ Below w.heap.size w W) ⟨r0.out.other (by have := hl_g3.out; omega) _, by have q := r_g3.out.put (i := 45) (.int .u64 (n64 (a.s 10))); rw [cpc_s10] at q; exact q, below_put BB.out (by have := hl_g3.out; omega) _⟩ ?_
  clear r0 r_g3 BB e_m e_b hfr
  rintro W2 ⟨q0, q1, qb⟩
  have r0 := Hid.mkU q0
  have r_g3 := Hid.mkU q1
  have BB := Hid.mkU qb
  clear q0 q1 qb
  have c_b_wt : ∀ x : Later W2, x.1.cell? ⟨w.heap.size, 34, none⟩ = some (.bool b.wt) := fun x => ((lrow r0.out x).cell 34).trans (ssc_bc _ _ _ _ _ _ _ _ _ _ _ _ _ _ _ _ 34 _ (cpc_at _ 34 (by omega)))
  have c_b_s2 : ∀ x : Later W2, x.1.cell? ⟨w.heap.size, 37, none⟩ = some (.int .u64 (n64 (b.s 2))) := fun x => ((lrow r0.out x).cell 37).trans (ssc_bc _ _ _ _ _ _ _ _ _ _ _ _ _ _ _ _ 37 _ (cpc_at _ 37 (by omega)))
  have hne := later_nonempty W2
  generalize n64 (mpV A) = ym at *
  generalize b.wt = z5 at HM c_b_wt
  generalize sbB b a = z6 at *
  cases z5
  focus
    have HV : Hid (Z = false) := (by unfold Hid; first | (rw [HM.out, q0]; done) | (rw [HM.out, q0]; rfl))
    clear HM
  rotate_left 1
  focus
    cases q1 : (bits .and .u64 ym (n64 (b.s 2)) == 0)
    focus
      have HV : Hid (Z = false) := (by unfold Hid; first | (rw [HM.out, q0, q1]; done) | (rw [HM.out, q0, q1]; rfl))
      clear HM
    rotate_left 1
    focus
      cases z6
      focus
        have HV : Hid (Z = false) := (by unfold Hid; first | (rw [HM.out, q0, q1]; done) | (rw [HM.out, q0, q1]; rfl))
        clear HM
      rotate_left 1
      focus
        have HV : Hid (Z = true) := (by unfold Hid; first | (rw [HM.out, q0, q1]; done) | (rw [HM.out, q0, q1]; rfl))
        clear HM
      rotate_left 1
    rotate_left 2
  rotate_left 3
  all_goals
    refine wp_region_later (x0 := Later.start W2) (by kernel_rfl) (by kernel_rfl) ?_
    iterate 7 (go_big_quiet_step (fail))
    (first | (go_big_quiet_want; refine quiet_load_agg 44 _ (by rfl) (w.heap.size) 179 (by rfl) (stc A ar ai ao) _ r0.out.lt (fun j v hv => (r0.out.cell (179 + j)).trans (ssc_as _ _ _ _ _ _ _ _ _ _ _ _ _ _ _ _ j v hv)) Tryz.underlying44 (by rfl) (info_bst _ _ _ _) ?_; simp only [Act.put, List.setIfInBounds_toArray, List.set_cons_succ, List.set_cons_zero]; go_big_quiet_on) | (go_big_quiet_step (fail)))
    (go_big_quiet_step ((go_at_call 151; exact calls_later (HMI.out _))))
    iterate 10 (go_big_quiet_step (fail))
    (first | (go_big_quiet_want; refine quiet_load_agg 32 _ (by rfl) (w.heap.size) 97 (by rfl) (cpc a) _ r0.out.lt (fun j v hv => (r0.out.cell (97 + j)).trans (ssc_ac _ _ _ _ _ _ _ _ _ _ _ _ _ _ _ _ j v hv)) Tryz.underlying32 (by rfl) (info_cpuU _) ?_; simp only [Act.put, List.setIfInBounds_toArray, List.set_cons_succ, List.set_cons_zero]; go_big_quiet_on) | (go_big_quiet_step (fail)))
    (first | (go_big_quiet_want; refine quiet_load_agg 32 _ (by rfl) (g3) 0 (by rfl) (cpc { b with s := upd b.s 10 (a.s 10) }) _ r_g3.out.lt (lrow_cells r_g3.out) Tryz.underlying32 (by rfl) (info_cpuU _) ?_; simp only [Act.put, List.setIfInBounds_toArray, List.set_cons_succ, List.set_cons_zero]; go_big_quiet_on) | (go_big_quiet_step (fail)))
    (first | (go_big_quiet_want; refine quiet_eql_agg 32 _ _ _ (by rfl) (cpc a) (cpc { b with s := upd b.s 10 (a.s 10) }) (by rfl) (by rfl) _ HEC.out (fun w => eqG_cpuU _ _ _ _ w) ?_; simp only [Act.put, List.setIfInBounds_toArray, List.set_cons_succ, List.set_cons_zero]; go_big_quiet_on) | (go_big_quiet_step (fail)))
    iterate 2 (go_big_quiet_step (fail))
    refine wpQuiet_nil ?_
    rintro _ ⟨yq, rfl⟩
    go_wp2
    go_ret
    exact ⟨by rw [HV.out]; first | done | rfl, BB.out.trans (yq.2.mono BB.out.size)⟩
end Go.Proofs.YtidfndgedopghaaGreatDoor
