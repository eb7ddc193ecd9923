/-
  Or.
-/
import Derived.Test.YtidfndgedopghaaGreatDoorM37
namespace Go.Proofs.YtidfndgedopghaaGreatDoor
set_option linter.unusedVariables false
set_option maxRecDepth 100000
set_option maxHeartbeats 4000000
open Go.ChangeShapes Go.WideShapes Go.ChangeAt Go.RowKit Go.Deep
theorem xs_cp (k : Cp) (j : Nat) (v : Value) (h : (xsc k.x)[j]? = some v) : (cpc k)[1 + j]? = some v := by
  by_cases hj : j < 32
  · rw [xsc_at _ _ hj] at h; rw [cpc_at _ _ (by omega), cpcell_xU _ _ hj]; exact h
  · rw [Array.getElem?_eq_none (by rw [xsc_size]; omega)] at h; cases h
theorem pm_cp (k : Cp) (j : Nat) (v : Value) (h : (pc k.c k.a)[j]? = some v) : (cpc k)[47 + j]? = some v := by
  by_cases hj : j < 32
  · rw [pc_at _ _ _ hj] at h; rw [cpc_at _ _ (by omega), cpcell_cU _ _ hj]; exact h
  · rw [Array.getElem?_eq_none (by rw [pc_size]; omega)] at h; cases h
theorem zero_xs (w : World) : (zeroValue 24).run Tryz.prog w = .ok (.agg (xsc fun _ => 0#64)) w := by kernel_rfl
section
variable (b : Cp) (B : St) (br bi bo : Value) (a : Cp) (A : St) (ar ai ao : Value) (K : Cp) (tk ex so : Bool) (vi : Value) (r : Rw)
theorem ssc_bx (j : Nat) (v : Value) (h : (xsc b.x)[j]? = some v) : (ssc b B br bi bo a A ar ai ao K tk ex so vi r)[1 + j]? = some v := ssc_bc b B br bi bo a A ar ai ao K tk ex so vi r (1 + j) v (xs_cp b j v h)
theorem ssc_ax (j : Nat) (v : Value) (h : (xsc a.x)[j]? = some v) : (ssc b B br bi bo a A ar ai ao K tk ex so vi r)[98 + j]? = some v := by
  rw [show 98 + j = 97 + (1 + j) by omega]
  exact ssc_ac b B br bi bo a A ar ai ao K tk ex so vi r (1 + j) v (xs_cp a j v h)
theorem ssc_bp (j : Nat) (v : Value) (h : (pc b.c b.a)[j]? = some v) : (ssc b B br bi bo a A ar ai ao K tk ex so vi r)[47 + j]? = some v := ssc_bc b B br bi bo a A ar ai ao K tk ex so vi r (47 + j) v (pm_cp b j v h)
theorem ssc_ap (j : Nat) (v : Value) (h : (pc a.c a.a)[j]? = some v) : (ssc b B br bi bo a A ar ai ao K tk ex so vi r)[144 + j]? = some v := by
  rw [show 144 + j = 97 + (47 + j) by omega]
  exact ssc_ac b B br bi bo a A ar ai ao K tk ex so vi r (47 + j) v (pm_cp a j v h)
end
set_option maxHeartbeats 16000000 in
theorem r4_c (b : Cp) (B : St) (br bi bo : Value) (a : Cp) (A : St) (ar ai ao : Value) (K : Cp) (tk ex so : Bool) (vi : Value) (r : Rw) (w : World) : Calls Tryz.prog 106 #[.agg (ssc b B br bi bo a A ar ai ao K tk ex so vi r)] w fun e w' => e = .returned (.bool (woB r b.x a.x)) ∧ Below w.heap.size w w' := by
  obtain ⟨W0, hW0, r0, b0, s0⟩ := start1 w (ssc b B br bi bo a A ar ai ao K tk ex so vi r) 79
  have BB := Hid.mkU b0.out
  clear s0 b0
  have HEX := Hid.mkU (fun w => eq_xsU a.x b.x w)
  have HEU := Hid.mkU (fun w => eq_xsU a.x (upd b.x r.rd.toNat r.val) w)
  have HM : Hid (woB r b.x a.x = if r.kd != 1 then xEq a.x b.x && dnB r else if (decide (r.rd < 0) || decide (31 < r.rd)) then false else if r.rd != 0 then xEq a.x (upd b.x r.rd.toNat r.val) else xEq a.x b.x) := by
    unfold Hid woB
    rw [show decide (32 ≤ r.rd) = decide (31 < r.rd) from by rw [decide_eq_decide]; omega]
  have HD : Hid (dnB r = ((((((r.rd == 0) && (n64 r.val == 0)) && (r.mem == 0)) && (n64 r.ad == 0)) && (r.sz == 0)) && (n64 r.dat == 0))) := by
    unfold Hid dnB rnB
    simp only [Bool.and_assoc]
  generalize woB r b.x a.x = Z at HM ⊢
  generalize dnB r = zd at HM HD
  have hzr := zero_rw
  go_enter Tryz.func106, Tryz.ntmps106
  go_upto_region 1 with fail
  clear hW0
  have Cg5 : Hid (∀ j v, (rwc r)[j]? = some v → W0.cell? ⟨w.heap.size, 280 + j, none⟩ = some v) := (fun j v hv => (r0.out.cell (280 + j)).trans (ssc_r _ _ _ _ _ _ _ _ _ _ _ _ _ _ _ _ j v hv))
  go_upto_region 2 with (first | (refine wpList_load_agg (by rfl) 52 _ (by rfl) w.heap.size 280 (by rfl) (rwc r) _ Cg5.out Tryz.underlying52 (by rfl) (info_rw _) ?_) | (refine wpList_store_new (by rfl) 52 _ _ (by rfl) (by rfl) (rwc rz) (rwc r) (by rfl) (by rfl) (info_rw _) (by rfl) (rwc_ones _) ?_))
  refine on_W (motive := fun W => Code.wp _ _ _ _ W) (Q := fun W => Row W w.heap.size (ssc b B br bi bo a A ar ai ao K tk ex so vi r) 79 ∧ Row W W0.heap.size (rwc r) 52 ∧ Below w.heap.size w W) ⟨r0.out.old r0.out.lt _, Row.new _ _ _, BB.out.trans ((below_al _ _).mono BB.out.size)⟩ ?_
  have hl_g5 : Hid (w.heap.size < W0.heap.size) := r0.out.lt
  generalize W0.heap.size = g5 at *
  clear Cg5 r0 BB  hzr
  rintro W1 ⟨q0, qn, qb⟩
  have r0 := Hid.mkU q0
  have r_g5 := Hid.mkU qn
  have BB := Hid.mkU qb
  clear q0 qn qb
  have e_kd : W1.cell? ⟨g5, 1, none⟩ = some (.int .i64 r.kd) := (r_g5.out.cell 1)
  have e_rd : W1.cell? ⟨g5, 8, none⟩ = some (.int .i64 r.rd) := (r_g5.out.cell 8)
  have e_val : W1.cell? ⟨g5, 9, none⟩ = some (.int .u64 (n64 r.val)) := (r_g5.out.cell 9)
  cases q1 : (r.kd != 1)
  rotate_left 1
  focus
    generalize xEq a.x b.x = z1 at *
    have HM : Hid (Z = (((((((z1) && (r.rd == 0)) && (n64 r.val == 0)) && (r.mem == 0)) && (n64 r.ad == 0)) && (r.sz == 0)) && (n64 r.dat == 0))) := by
      unfold Hid
      rw [HM.out, q1, if_pos rfl, HD.out]
      simp only [Bool.and_assoc]
    clear HD
    have hne := later_nonempty W1
    have cg5_kd : ∀ x : Later W1, x.1.cell? ⟨g5, 1, none⟩ = some (.int .i64 r.kd) := fun x => ((lrow r_g5.out x).cell 1)
    have cg5_rd : ∀ x : Later W1, x.1.cell? ⟨g5, 8, none⟩ = some (.int .i64 r.rd) := fun x => ((lrow r_g5.out x).cell 8)
    have cg5_val : ∀ x : Later W1, x.1.cell? ⟨g5, 9, none⟩ = some (.int .u64 (n64 r.val)) := fun x => ((lrow r_g5.out x).cell 9)
    have cg5_mem : ∀ x : Later W1, x.1.cell? ⟨g5, 10, none⟩ = some (.int .i64 r.mem) := fun x => ((lrow r_g5.out x).cell 10)
    have cg5_ad : ∀ x : Later W1, x.1.cell? ⟨g5, 11, none⟩ = some (.int .u64 (n64 r.ad)) := fun x => ((lrow r_g5.out x).cell 11)
    have cg5_sz : ∀ x : Later W1, x.1.cell? ⟨g5, 12, none⟩ = some (.int .i64 r.sz) := fun x => ((lrow r_g5.out x).cell 12)
    have cg5_dat : ∀ x : Later W1, x.1.cell? ⟨g5, 13, none⟩ = some (.int .u64 (n64 r.dat)) := fun x => ((lrow r_g5.out x).cell 13)
    cases z1
    focus
      have HV : Hid (Z = false) := (by unfold Hid; first | (rw [HM.out]; done) | (rw [HM.out]; rfl))
      clear HM
    rotate_left 1
    focus
      cases q1 : (r.rd == 0)
      focus
        have HV : Hid (Z = false) := (by unfold Hid; first | (rw [HM.out, q1]; done) | (rw [HM.out, q1]; rfl))
        clear HM
      rotate_left 1
      focus
        cases q2 : (n64 r.val == 0)
        focus
          have HV : Hid (Z = false) := (by unfold Hid; first | (rw [HM.out, q1, q2]; done) | (rw [HM.out, q1, q2]; rfl))
          clear HM
        rotate_left 1
        focus
          cases q3 : (r.mem == 0)
          focus
            have HV : Hid (Z = false) := (by unfold Hid; first | (rw [HM.out, q1, q2, q3]; done) | (rw [HM.out, q1, q2, q3]; rfl))
            clear HM
          rotate_left 1
          focus
            cases q4 : (n64 r.ad == 0)
            focus
              have HV : Hid (Z = false) := (by unfold Hid; first | (rw [HM.out, q1, q2, q3, q4]; done) | (rw [HM.out, q1, q2, q3, q4]; rfl))
              clear HM
            rotate_left 1
            focus
              cases q5 : (r.sz == 0)
              focus
                have HV : Hid (Z = false) := (by unfold Hid; first | (rw [HM.out, q1, q2, q3, q4, q5]; done) | (rw [HM.out, q1, q2, q3, q4, q5]; rfl))
                clear HM
              rotate_left 1
              focus
                cases q6 : (n64 r.dat == 0)
                focus
                  have HV : Hid (Z = false) := (by unfold Hid; first | (rw [HM.out, q1, q2, q3, q4, q5, q6]; done) | (rw [HM.out, q1, q2, q3, q4, q5, q6]; rfl))
                  clear HM
                rotate_left 1
                focus
                  have HV : Hid (Z = true) := (by unfold Hid; first | (rw [HM.out, q1, q2, q3, q4, q5, q6]; done) | (rw [HM.out, q1, q2, q3, q4, q5, q6]; rfl))
                  clear HM
                rotate_left 1
              rotate_left 2
            rotate_left 3
          rotate_left 4
        rotate_left 5
      rotate_left 6
    rotate_left 7
    all_goals
      (go_upto_region 3 with fail)
      refine wp_region_plain (x0 := Later.start W1) ?_
      iterate 3 (go_big_quiet_step (fail))
      (first | (go_big_quiet_want; refine quiet_load_agg 24 _ (by rfl) (w.heap.size) 98 (by rfl) (xsc a.x) _ r0.out.lt (fun j v hv => (r0.out.cell (98 + j)).trans (ssc_ax _ _ _ _ _ _ _ _ _ _ _ _ _ _ _ _ j v hv)) Tryz.underlying24 (by rfl) (info_xs _) ?_; simp only [Act.put, List.setIfInBounds_toArray, List.set_cons_succ, List.set_cons_zero]; go_big_quiet_on) | (go_big_quiet_step (fail)))
      iterate 3 (go_big_quiet_step (fail))
      (first | (go_big_quiet_want; refine quiet_load_agg 24 _ (by rfl) (w.heap.size) 1 (by rfl) (xsc b.x) _ r0.out.lt (fun j v hv => (r0.out.cell (1 + j)).trans (ssc_bx _ _ _ _ _ _ _ _ _ _ _ _ _ _ _ _ j v hv)) Tryz.underlying24 (by rfl) (info_xs _) ?_; simp only [Act.put, List.setIfInBounds_toArray, List.set_cons_succ, List.set_cons_zero]; go_big_quiet_on) | (go_big_quiet_step (fail)))
      (first | (go_big_quiet_want; refine quiet_eql_agg 24 _ _ _ (by rfl) (xsc a.x) (xsc b.x) (by rfl) (by rfl) _ HEX.out (fun w => eqG_xsU _ _ _ _ w) ?_; simp only [Act.put, List.setIfInBounds_toArray, List.set_cons_succ, List.set_cons_zero]; go_big_quiet_on) | (go_big_quiet_step (fail)))
      iterate 31 (go_big_quiet_step (fail))
      refine wpQuiet_nil ?_
      rintro _ ⟨yq, rfl⟩
      go_wp2
      go_ret
      exact ⟨by rw [HV.out]; first | done | rfl, BB.out.trans (yq.2.mono BB.out.size)⟩
  clear HD
  have hne : True := trivial
  generalize xEq a.x b.x = z1 at *
  generalize xEq a.x (upd b.x r.rd.toNat r.val) = z2 at *
  cases q2 : decide (r.rd < 0)
  rotate_left 1
  focus
    have HV : Hid (Z = false) := (by unfold Hid; rw [HM.out, q1, q2]; rfl)
    clear HM
    go_wp2
    go_ret
    exact ⟨by rw [HV.out]; first | done | rfl, BB.out⟩
  cases q3 : decide (31 < r.rd)
  rotate_left 1
  focus
    have HV : Hid (Z = false) := (by unfold Hid; rw [HM.out, q1, q2, q3]; rfl)
    clear HM
    go_wp2
    go_ret
    exact ⟨by rw [HV.out]; first | done | rfl, BB.out⟩
  clear hne
  have hzx := zero_xs
  have C6 : Hid (∀ j v, (xsc b.x)[j]? = some v → W1.cell? ⟨w.heap.size, 1 + j, none⟩ = some v) := (fun j v hv => (r0.out.cell (1 + j)).trans (ssc_bx _ _ _ _ _ _ _ _ _ _ _ _ _ _ _ _ j v hv))
  go_upto_region 6 with fail
  go_upto_region 7 with (first | (refine wpList_load_agg (by rfl) 24 _ (by rfl) w.heap.size 1 (by rfl) (xsc b.x) _ C6.out Tryz.underlying24 (by rfl) (info_xs _) ?_) | (refine wpList_store_new (by rfl) 24 _ _ (by rfl) (by rfl) (xsc fun _ => 0#64) (xsc b.x) (by rfl) (by rfl) (info_xs _) (by rw [xsc_size, xsc_size]) (xsc_ones _) ?_))
  refine on_W (motive := fun W => Code.wp _ _ _ _ W) (Q := fun W => Row W w.heap.size (ssc b B br bi bo a A ar ai ao K tk ex so vi r) 79 ∧ Row W g5 (rwc r) 52 ∧ Row W W1.heap.size (xsc b.x) 24 ∧ Below w.heap.size w W) ⟨r0.out.old r0.out.lt _, r_g5.out.old r_g5.out.lt _, Row.new _ _ _, BB.out.trans ((below_al _ _).mono BB.out.size)⟩ ?_
  have hl_g6 : Hid (g5 < W1.heap.size ∧ w.heap.size < W1.heap.size) := ⟨r_g5.out.lt, r0.out.lt⟩
  generalize W1.heap.size = g6 at *
  clear C6 r0 r_g5 BB e_kd e_rd e_val hzx
  rintro W2 ⟨q5, q6, q7, qb⟩
  have r0 := Hid.mkU q5
  have r_g5 := Hid.mkU q6
  have r_g6 := Hid.mkU q7
  have BB := Hid.mkU qb
  clear q5 q6 q7 qb
  have e_rd : W2.cell? ⟨g5, 8, none⟩ = some (.int .i64 r.rd) := (r_g5.out.cell 8)
  have e_val : W2.cell? ⟨g5, 9, none⟩ = some (.int .u64 (n64 r.val)) := (r_g5.out.cell 9)
  cases q4 : (r.rd != 0)
  focus
    have HV : Hid (Z = z1) := (by unfold Hid; rw [HM.out, q1, q2, q3, q4]; rfl)
    clear HM
    have HE1 : Hid (∀ w, (Op.equalIn 10000 24 (.agg (xsc a.x)) (.agg (xsc b.x))).run Tryz.prog w = .ok z1 w) := HEX
    go_upto_region 9 with fail
    have hne := later_nonempty W2
    refine wp_region_plain (x0 := Later.start W2) ?_
    iterate 3 (go_big_quiet_step (fail))
    (first | (go_big_quiet_want; refine quiet_load_agg 24 _ (by rfl) (w.heap.size) 98 (by rfl) (xsc a.x) _ r0.out.lt (fun j v hv => (r0.out.cell (98 + j)).trans (ssc_ax _ _ _ _ _ _ _ _ _ _ _ _ _ _ _ _ j v hv)) Tryz.underlying24 (by rfl) (info_xs _) ?_; simp only [Act.put, List.setIfInBounds_toArray, List.set_cons_succ, List.set_cons_zero]; go_big_quiet_on) | (go_big_quiet_step (fail)))
    (first | (go_big_quiet_want; refine quiet_load_agg 24 _ (by rfl) (g6) 0 (by rfl) (xsc b.x) _ r_g6.out.lt (lrow_cells r_g6.out) Tryz.underlying24 (by rfl) (info_xs _) ?_; simp only [Act.put, List.setIfInBounds_toArray, List.set_cons_succ, List.set_cons_zero]; go_big_quiet_on) | (go_big_quiet_step (fail)))
    (first | (go_big_quiet_want; refine quiet_eql_agg 24 _ _ _ (by rfl) (xsc a.x) (xsc b.x) (by rfl) (by rfl) _ HE1.out (fun w => eqG_xsU _ _ _ _ w) ?_; simp only [Act.put, List.setIfInBounds_toArray, List.set_cons_succ, List.set_cons_zero]; go_big_quiet_on) | (go_big_quiet_step (fail)))
    (go_big_quiet_step (fail))
    refine wpQuiet_nil ?_
    rintro _ ⟨yq, rfl⟩
    go_wp2
    go_ret
    exact ⟨by rw [HV.out]; first | done | rfl, BB.out.trans (yq.2.mono BB.out.size)⟩
  have HV : Hid (Z = z2) := (by unfold Hid; rw [HM.out, q1, q2, q3, q4]; rfl)
  have hlo := of_decide_eq_false q2
  have hhi := of_decide_eq_false q3
  clear HM
  obtain ⟨i, hi⟩ : ∃ i : Nat, r.rd = (i : Int) := ⟨r.rd.toNat, by omega⟩
  have hi32 : i < 32 := by omega
  have hiI : (i : Int) < 32 := by omega
  have HI : Hid (r.rd.toNat = i) := (by unfold Hid; omega)
  rw [hi] at q4 e_rd
  have hcb : W2.cell? ⟨g6, i, none⟩ = some (.int .u64 (n64 (b.x i))) := (r_g6.out.cell i).trans (xsc_at _ _ hi32)
  have hfr := r_g6.out.froz i
  clear hi hlo hhi q2 q3
  go_upto_region 9 with fail
  refine go_onP (motive := fun W => Code.wp _ _ _ _ W) (Q := fun W => Row W w.heap.size (ssc b B br bi bo a A ar ai ao K tk ex so vi r) 79 ∧ Row W g6 (xsc (upd b.x i r.val)) 24 ∧ Below w.heap.size w W) ⟨r0.out.other (by have := hl_g6.out; omega) _, by have q := r_g6.out.put (i := i) (.int .u64 (n64 r.val)); rw [xsc_set _ _ _ hi32] at q; exact q, below_put BB.out (by have := hl_g6.out; omega) _⟩ ?_
  clear r0 r_g5 r_g6 BB hcb hfr e_rd e_val
  rintro W3 ⟨q5, q6, qb⟩
  have r0 := Hid.mkU q5
  have r_g6 := Hid.mkU q6
  have BB := Hid.mkU qb
  clear q5 q6 qb
  rw [HI.out] at HEU
  have hne := later_nonempty W3
  refine wp_region_plain (x0 := Later.start W3) ?_
  iterate 3 (go_big_quiet_step (fail))
  (first | (go_big_quiet_want; refine quiet_load_agg 24 _ (by rfl) (w.heap.size) 98 (by rfl) (xsc a.x) _ r0.out.lt (fun j v hv => (r0.out.cell (98 + j)).trans (ssc_ax _ _ _ _ _ _ _ _ _ _ _ _ _ _ _ _ j v hv)) Tryz.underlying24 (by rfl) (info_xs _) ?_; simp only [Act.put, List.setIfInBounds_toArray, List.set_cons_succ, List.set_cons_zero]; go_big_quiet_on) | (go_big_quiet_step (fail)))
  (first | (go_big_quiet_want; refine quiet_load_agg 24 _ (by rfl) (g6) 0 (by rfl) (xsc (upd b.x i r.val)) _ r_g6.out.lt (lrow_cells r_g6.out) Tryz.underlying24 (by rfl) (info_xs _) ?_; simp only [Act.put, List.setIfInBounds_toArray, List.set_cons_succ, List.set_cons_zero]; go_big_quiet_on) | (go_big_quiet_step (fail)))
  (first | (go_big_quiet_want; refine quiet_eql_agg 24 _ _ _ (by rfl) (xsc a.x) (xsc (upd b.x i r.val)) (by rfl) (by rfl) _ HEU.out (fun w => eqG_xsU _ _ _ _ w) ?_; simp only [Act.put, List.setIfInBounds_toArray, List.set_cons_succ, List.set_cons_zero]; go_big_quiet_on) | (go_big_quiet_step (fail)))
  (go_big_quiet_step (fail))
  refine wpQuiet_nil ?_
  rintro _ ⟨yq, rfl⟩
  go_wp2
  go_ret
  exact ⟨by rw [HV.out]; first | done | rfl, BB.out.trans (yq.2.mono BB.out.size)⟩
set_option maxHeartbeats 16000000 in
theorem r19_c (b : Cp) (B : St) (br bi bo : Value) (a : Cp) (A : St) (ar ai ao : Value) (K : Cp) (tk ex so : Bool) (vi : Value) (r : Rw) (w : World) : Calls Tryz.prog 119 #[.agg (ssc b B br bi bo a A ar ai ao K tk ex so vi r)] w fun e w' => e = .returned (.bool (rl19 b r)) ∧ Below w.heap.size w w' := by
  obtain ⟨W0, hW0, r0, b0, s0⟩ := start1 w (ssc b B br bi bo a A ar ai ao K tk ex so vi r) 79
  have BB := Hid.mkU b0.out
  clear s0 b0
  have HCK : Hid (∀ W, Calls Tryz.prog 155 #[.agg (pc b.c b.a), .int .i64 (EF b), .int .u64 (n64 r.ad), .int .i64 r.sz, .int .i64 r.mem] W fun e w' => e = .returned (.bool (ckA (PC b.c) (PA b.a) (EF b) r.ad r.sz r.mem)) ∧ Below W.heap.size W w') := fun W => rCheck_c b.c b.a (EF b) r.ad r.sz r.mem W
  have HEF : Hid (∀ W, Calls Tryz.prog 154 #[.agg (cpc b)] W fun e w' => e = .returned (.int .i64 (EF b)) ∧ Below W.heap.size W w') := fun W => rEffective_c b W
  have HM : Hid (rl19 b r = (((r.kd != 1) || (r.mem == 0)) || ((((!(decide (r.mem < 0)) && !(decide (3 < r.mem))) && wdB r.sz) && !((n64 r.ad).tmod r.sz != 0)) && ckA (PC b.c) (PA b.a) (EF b) r.ad r.sz r.mem))) := by
    unfold Hid rl19 mrB alB
    by_cases hm : r.mem = 0
    · rw [hm]; cases r.kd != 1 <;> rfl
    · have ha : acB r.mem = (!(decide (r.mem < 0)) && !(decide (3 < r.mem))) := by
        unfold acB
        rw [Bool.eq_iff_iff]
        simp
        omega
      rw [ha, show (!((n64 r.ad).tmod r.sz != 0)) = ((n64 r.ad).tmod r.sz == 0) from Bool.not_not _]
  generalize rl19 b r = Z at HM ⊢
  generalize ckA (PC b.c) (PA b.a) (EF b) r.ad r.sz r.mem = zc at *
  generalize EF b = ef at *
  generalize hza : ((n64 r.ad).tmod r.sz != 0) = za at HM
  have HW := Hid.mkU (fun h => wdB_cases (z := r.sz) h)
  have hzr := zero_rw
  go_enter Tryz.func119, Tryz.ntmps119
  go_upto_region 1 with fail
  clear hW0
  have Cg5 : Hid (∀ j v, (rwc r)[j]? = some v → W0.cell? ⟨w.heap.size, 280 + j, none⟩ = some v) := (fun j v hv => (r0.out.cell (280 + j)).trans (ssc_r _ _ _ _ _ _ _ _ _ _ _ _ _ _ _ _ j v hv))
  go_upto_region 2 with (first | (refine wpList_load_agg (by rfl) 52 _ (by rfl) w.heap.size 280 (by rfl) (rwc r) _ Cg5.out Tryz.underlying52 (by rfl) (info_rw _) ?_) | (refine wpList_store_new (by rfl) 52 _ _ (by rfl) (by rfl) (rwc rz) (rwc r) (by rfl) (by rfl) (info_rw _) (by rfl) (rwc_ones _) ?_))
  refine on_W (motive := fun W => Code.wp _ _ _ _ W) (Q := fun W => Row W w.heap.size (ssc b B br bi bo a A ar ai ao K tk ex so vi r) 79 ∧ Row W W0.heap.size (rwc r) 52 ∧ Below w.heap.size w W) ⟨r0.out.old r0.out.lt _, Row.new _ _ _, BB.out.trans ((below_al _ _).mono BB.out.size)⟩ ?_
  have hl_g5 : Hid (w.heap.size < W0.heap.size) := r0.out.lt
  generalize W0.heap.size = g5 at *
  clear Cg5 r0 BB  hzr
  rintro W1 ⟨q0, qn, qb⟩
  have r0 := Hid.mkU q0
  have r_g5 := Hid.mkU qn
  have BB := Hid.mkU qb
  clear q0 qn qb
  have e_kd : W1.cell? ⟨g5, 1, none⟩ = some (.int .i64 r.kd) := (r_g5.out.cell 1)
  have e_mem : W1.cell? ⟨g5, 10, none⟩ = some (.int .i64 r.mem) := (r_g5.out.cell 10)
  have e_ad : W1.cell? ⟨g5, 11, none⟩ = some (.int .u64 (n64 r.ad)) := (r_g5.out.cell 11)
  have e_sz : W1.cell? ⟨g5, 12, none⟩ = some (.int .i64 r.sz) := (r_g5.out.cell 12)
  have cg5_mem : ∀ x : Later W1, x.1.cell? ⟨g5, 10, none⟩ = some (.int .i64 r.mem) := fun x => ((lrow r_g5.out x).cell 10)
  have cg5_ad : ∀ x : Later W1, x.1.cell? ⟨g5, 11, none⟩ = some (.int .u64 (n64 r.ad)) := fun x => ((lrow r_g5.out x).cell 11)
  have cg5_sz : ∀ x : Later W1, x.1.cell? ⟨g5, 12, none⟩ = some (.int .i64 r.sz) := fun x => ((lrow r_g5.out x).cell 12)
  cases q1 : (r.kd != 1)
  focus
    cases q2 : (r.mem == 0)
    focus
      cases q3 : (decide (r.mem < 0))
      focus
        cases q4 : (decide (3 < r.mem))
        focus
          cases qw : wdB r.sz
          focus
            have HV : Hid (Z = false) := (by unfold Hid; rw [HM.out, q1, q2, q3, q4, qw]; rfl)
            clear HM hza HW
            have M0 : Hid True := trivial
            unfold wdB at qw
            have n1 : (r.sz != 1) = true := (by simp at qw; simp; omega)
            have n2 : (r.sz != 2) = true := (by simp at qw; simp; omega)
            have n4 : (r.sz != 4) = true := (by simp at qw; simp; omega)
            have n8 : (r.sz != 8) = true := (by simp at qw; simp; omega)
            clear qw
          rotate_left 1
          focus
            have hw := HW.out qw
            have HN : Hid (Z = ((!za) && zc)) := (by unfold Hid; rw [HM.out, q1, q2, q3, q4, qw]; simp)
            clear HM HW qw
            generalize r.sz = z at *
            rcases hw with rfl | rfl | rfl | rfl
            focus
              have h1 : za = false := (by rw [← hza, Int.tmod_one]; rfl)
              subst h1
              clear hza
            rotate_left 1
            focus
              cases za
              rotate_left 1
              focus
                have HV : Hid (Z = false) := (by unfold Hid; rw [HN.out]; rfl)
                clear HN
                have M0 : Hid True := trivial
            rotate_left 2
            focus
              cases za
              rotate_left 1
              focus
                have HV : Hid (Z = false) := (by unfold Hid; rw [HN.out]; rfl)
                clear HN
                have M0 : Hid True := trivial
            rotate_left 2
            focus
              cases za
              rotate_left 1
              focus
                have HV : Hid (Z = false) := (by unfold Hid; rw [HN.out]; rfl)
                clear HN
                have M0 : Hid True := trivial
            rotate_left 2
        rotate_left 8
        focus
          have HV : Hid (Z = false) := (by unfold Hid; first | (rw [HM.out, q1, q2, q3, q4]; done) | (rw [HM.out, q1, q2, q3, q4]; rfl))
          clear HM hza HW
          have M0 : Hid True := trivial
        rotate_left 1
      rotate_left 9
      focus
        have HV : Hid (Z = false) := (by unfold Hid; first | (rw [HM.out, q1, q2, q3]; done) | (rw [HM.out, q1, q2, q3]; rfl))
        clear HM hza HW
        have M0 : Hid True := trivial
      rotate_left 1
    rotate_left 10
    focus
      have HV : Hid (Z = true) := (by unfold Hid; first | (rw [HM.out, q1, q2]; done) | (rw [HM.out, q1, q2]; rfl))
      clear HM hza HW
      have M0 : Hid True := trivial
    rotate_left 1
  rotate_left 11
  focus
    have HV : Hid (Z = true) := (by unfold Hid; first | (rw [HM.out, q1]; done) | (rw [HM.out, q1]; rfl))
    clear HM hza HW
    have M0 : Hid True := trivial
  rotate_left 1
  all_goals
    first | (have := M0; (go_wp2); (go_ret); (exact ⟨by rw [HV.out]; first | done | rfl, BB.out⟩)) | ((have hne := later_nonempty W1); ((go_upto_region 6 with fail)); (refine wp_region_plain (x0 := Later.start W1) ?_); (iterate 2 (go_big_quiet_step (fail))); ((first | (go_big_quiet_want; refine quiet_load_agg 32 _ (by rfl) (w.heap.size) 0 (by rfl) (cpc b) _ r0.out.lt (fun j v hv => (r0.out.cell (0 + j)).trans (ssc_bc0 _ _ _ _ _ _ _ _ _ _ _ _ _ _ _ _ j v hv)) Tryz.underlying32 (by rfl) (info_cpuU _) ?_; simp only [Act.put, List.setIfInBounds_toArray, List.set_cons_succ, List.set_cons_zero]; go_big_quiet_on) | (go_big_quiet_step (fail)))); ((go_big_quiet_step ((go_at_call 154; exact calls_later (HEF.out _))))); ((go_big_quiet_step (fail))); (refine wpQuiet_nil ?_); (rintro _ ⟨yq, rfl⟩); ((go_upto_region 7 with fail)); (refine wp_region_plain (x0 := yq) ?_); (iterate 3 (go_big_quiet_step (fail))); ((first | (go_big_quiet_want; refine quiet_load_agg 28 _ (by rfl) (w.heap.size) 47 (by rfl) (pc b.c b.a) _ r0.out.lt (fun j v hv => (r0.out.cell (47 + j)).trans (ssc_bp _ _ _ _ _ _ _ _ _ _ _ _ _ _ _ _ j v hv)) Tryz.underlying28 (by rfl) (info_pmpU _ _) ?_; simp only [Act.put, List.setIfInBounds_toArray, List.set_cons_succ, List.set_cons_zero]; go_big_quiet_on) | (go_big_quiet_step (fail)))); (iterate 7 (go_big_quiet_step (fail))); ((go_big_quiet_step ((go_at_call 155; exact calls_later (HCK.out _))))); ((go_big_quiet_step (fail))); (refine wpQuiet_nil ?_); (rintro _ ⟨yp, rfl⟩); (cases zc))
  all_goals
    first | (have HV : Hid (Z = false) := (by unfold Hid; rw [HN.out]; rfl); (go_wp2); (go_ret); (exact ⟨by rw [HV.out]; first | done | rfl, BB.out.trans (yp.2.mono BB.out.size)⟩)) | (have HV : Hid (Z = true) := (by unfold Hid; rw [HN.out]; rfl); (go_wp2); (go_ret); (exact ⟨by rw [HV.out]; first | done | rfl, BB.out.trans (yp.2.mono BB.out.size)⟩))
end Go.Proofs.YtidfndgedopghaaGreatDoor
