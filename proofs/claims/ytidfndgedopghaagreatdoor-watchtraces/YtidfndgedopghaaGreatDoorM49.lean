/-
  Ob.
-/
import Derived.Test.YtidfndgedopghaaGreatDoorM48
namespace Go.Proofs.YtidfndgedopghaaGreatDoor
set_option linter.unusedVariables false
set_option maxRecDepth 100000
set_option maxHeartbeats 4000000
open Go.ChangeShapes Go.WideShapes Go.ChangeAt Go.RowKit Go.Deep
set_option maxHeartbeats 4000000 in
theorem ctrace_c (l : List Rw) (v : Value) (K : Cp) (f c : Int) (u : Value) (ub : List Int) (w : World) (hv : Rws w v l) (hu : Byt w u ub) (hl : l.length * 128 ≤ 140737488355328) (hub : ub.length ≤ 140737488355328) : Calls Tryz.prog 6 #[.agg (trc v K f c u)] w fun e w' => ∃ v' u', e = .returned (.agg (trc v' K f c u')) ∧ Rws w' v' l ∧ Byt w' u' ub ∧ Below w.heap.size w w' := by
  have hz := zero_tr
  obtain ⟨W0, hW0, r0, r1, b0, s0⟩ := start2 w (trc v K f c u) trz 35 35
  have HV : Hid (∀ W, Below w.heap.size w W → Rws W v l) := fun W h => hv.later h
  have HU : Hid (∀ W, Below w.heap.size w W → Byt W u ub) := fun W h => hu.later h rfl
  have HON : Hid (∀ a b : Value, a.oneCell' = true → b.oneCell' = true → (trc a K f c b).all (·.oneCell') = true) := fun a b h1 h2 => trc_ones a K f c b h1 h2
  have hv1 := hv.one
  have hu1 : u.oneCell' = true := by obtain ⟨a, cap, e, -⟩ := hu; rw [e]; rfl
  have HO1 := Hid.mkU hv1
  have HO2 := Hid.mkU hu1
  have HL := Hid.mkU hl
  have HLB := Hid.mkU hub
  have HS0 := Hid.mkU s0
  have HZS : Hid (∀ a b : Value, trz.size = (trc a K f c b).size) := fun a b => by unfold trz; rw [trc_size, trc_size]
  clear hv hu hv1 hu1 hl hub s0
  go_enter Tryz.func6, Tryz.ntmps6
  go_upto_region 1 with fail
  clear hW0
  go_upto_region 2 with (first | (refine wpList_load_row (by rfl) _ _ (by rfl) _ (by rfl) 35 _ (0, 0) _ r0.out Tryz.underlying35 (by rfl) (info_tr ..) ?_) | (refine wpList_store_new (by rfl) 35 _ _ (by rfl) (by rfl) trz (trc v K f c u) (by rfl) (by rfl) (info_tr ..) (HZS.out _ _) (HON.out _ _ HO1.out HO2.out) ?_))
  --@R2
  refine on_W (motive := fun W => Code.wp _ _ _ _ W) (Q := fun W => Row W w.heap.size (trc v K f c u) 35 ∧ Row W (w.heap.size + 1) trz 35 ∧ Row W W0.heap.size (trc v K f c u) 35 ∧ Below w.heap.size w W) ⟨r0.out.old r0.out.lt _, r1.out.old r1.out.lt _, Row.new _ _ _, b0.out.trans ((below_al _ _).mono b0.out.size)⟩ ?_
  have og : Hid (w.heap.size + 1 ≠ W0.heap.size ∧ w.heap.size ≠ W0.heap.size ∧ w.heap.size ≤ W0.heap.size) := by have := HS0.out; exact ⟨by omega, by omega, by omega⟩
  generalize W0.heap.size = g at *
  clear r0 r1 b0 HS0 hz
  rintro W1 ⟨q0, q1, q2, q3⟩
  have r0 := Hid.mkU q0
  have r1 := Hid.mkU q1
  have r2 := Hid.mkU q2
  have BB := Hid.mkU q3
  clear q0 q1 q2 q3 W0
  have cA : W1.cell? ⟨w.heap.size, 0, none⟩ = some v := (r0.out.cell 0).trans (trc_v ..)
  go_upto_region 3 with (at_builtin; go_loud (refine appRw (by rfl) _ _ (by rfl) v l (by rfl) (by rfl) (HV.out _ BB.out) HL.out ?_; intro v0 x0 hrw hbx; obtain ⟨xa0, ya0, rfl, -⟩ := id (own_rws hrw); have HRW := Hid.mkU (own_le hrw (show g + 1 ≤ W1.heap.size from r2.out.lt)); have HBX := Hid.mkU hbx; have R2x := Hid.mkU (r2.out.later hbx r2.out.lt); have cB : x0.cell? ⟨g, 0, none⟩ = some v := (R2x.out.cell 0).trans (trc_v ..); have fB := R2x.out.froz 0; clear hrw hbx))
  --@R3
  refine on_W (motive := fun W => Code.wp _ _ _ _ W) (Q := fun W => Row W w.heap.size (trc v K f c u) 35 ∧ Row W (w.heap.size + 1) trz 35 ∧ Row W g (trc (.slice xa0 l.length ya0) K f c u) 35 ∧ Below w.heap.size w W ∧ W.ownsRow (g + 1) 52 16 (.slice xa0 l.length ya0) l.length (rwL l)) ⟨(r0.out.later HBX.out r0.out.lt).other og.out.2.1 _, (r1.out.later HBX.out r1.out.lt).other og.out.1 _, row_cast (R2x.out.put (i := 0) _) (trc_setv ..), below_put (BB.out.trans (HBX.out.mono BB.out.size)) og.out.2.2 _, ownsRow_setCell_below HRW.out (Nat.lt_succ_self g) _⟩ ?_
  clear cA cB fB HBX R2x HRW r0 r1 r2 BB
  rintro W2 ⟨q0, q1, q2, q3, q4⟩
  have r0 := Hid.mkU q0
  have r1 := Hid.mkU q1
  have r2 := Hid.mkU q2
  have BB := Hid.mkU q3
  have HRW := Hid.mkU q4
  clear q0 q1 q2 q3 q4 W1 x0
  have cA : W2.cell? ⟨w.heap.size, 85, none⟩ = some u := (r0.out.cell 85).trans ((trc_e _ _ _ _ _ 2).trans rfl)
  go_upto_region 4 with (at_builtin; go_loud (refine appL (by rfl) _ _ (by rfl) W2.heap.size (.slice none 0 0) u [] ub (by rfl) (World.ownsRow_nil _ _ _ _) (by rfl) (HU.out _ BB.out) (by simpa using HLB.out) (Nat.le_refl _) ?_; intro u0 x0 hown hg; obtain ⟨xa1, ya1, za1, rfl⟩ := own_one hown; have hbx : Below W2.heap.size W2 x0 := (Below.refl _ _).grown hg (Nat.le_refl _) (fun k hk => by cases hk); have HRB := Hid.mkU (own_le (by simpa using hown : x0.ownsRow W2.heap.size 5 1 (.slice xa1 ya1 za1) ub.length (bv ub)) (show g + 1 ≤ W2.heap.size from r2.out.lt)); have HRX := Hid.mkU (own_later HRW.out hbx rfl); have HBX := Hid.mkU hbx; have R2x := Hid.mkU (r2.out.later hbx r2.out.lt); have cB : x0.cell? ⟨g, 85, none⟩ = some u := (R2x.out.cell 85).trans ((trc_e _ _ _ _ _ 2).trans rfl); have fB := R2x.out.froz 85; clear hown hg hbx))
  --@R4
  refine on_W (motive := fun W => Code.wp _ _ _ _ W) (Q := fun W => Row W (w.heap.size + 1) trz 35 ∧ Row W g (trc (.slice xa0 l.length ya0) K f c (.slice xa1 ya1 za1)) 35 ∧ Below w.heap.size w W ∧ W.ownsRow (g + 1) 52 16 (.slice xa0 l.length ya0) l.length (rwL l) ∧ W.ownsRow (g + 1) 5 1 (.slice xa1 ya1 za1) ub.length (bv ub)) ⟨(r1.out.later HBX.out r1.out.lt).other og.out.1 _, row_cast (R2x.out.put (i := 85) _) (trc_setu ..), below_put (BB.out.trans (HBX.out.mono BB.out.size)) og.out.2.2 _, ownsRow_setCell_below HRX.out (Nat.lt_succ_self g) _, ownsRow_setCell_below HRB.out (Nat.lt_succ_self g) _⟩ ?_
  clear cA cB fB HBX R2x HRX HRB HRW r0 r1 r2 BB
  rintro W3 ⟨q1, q2, q3, q4, q5⟩
  have r1 := Hid.mkU q1
  have r2 := Hid.mkU q2
  have BB := Hid.mkU q3
  have HRW := Hid.mkU q4
  have HRB := Hid.mkU q5
  clear q1 q2 q3 q4 q5 W2 x0
  have HI : Hid ((Tryz.prog.info? 35).map (·.size) = some (trc (.slice xa0 l.length ya0) K f c (.slice xa1 ya1 za1)).size) := info_tr ..
  have HZ2 := Hid.mkU (HZS.out (.slice xa0 l.length ya0) (.slice xa1 ya1 za1))
  have HO3 := Hid.mkU (HON.out (.slice xa0 l.length ya0) (.slice xa1 ya1 za1) rfl rfl)
  clear HV HU HON HO1 HO2 HL HLB HZS
  generalize hcs : trc (.slice xa0 l.length ya0) K f c (.slice xa1 ya1 za1) = cs at *
  have HCS := Hid.mkU hcs
  clear hcs
  go_wp2_with (first | (refine wpList_load_row (by rfl) _ _ (by rfl) _ (by rfl) 35 _ (0, 0) _ r2.out Tryz.underlying35 (by rfl) (HI.out) ?_) | (refine wpList_store_row (by rfl) _ _ _ (by rfl) (by rfl) _ _ _ (by rfl) (by rfl) r1.out HI.out HZ2.out HO3.out ?_))
  refine bodyPost_ret (v := .agg cs) (results_cell_row Tryz.results6 _ _ (w.heap.size + 1) 35 _ (0, 0) _ (by rfl) (setRow_heap _ _ _ _ _ _ r1.out) Tryz.underlying35 (by rfl) HI.out) rfl ?_
  have hex : Exc (· = w.heap.size + 1) W3 (W3.setRow (w.heap.size + 1) cs) := ⟨rfl, rfl, rfl, by simp [World.setRow], fun k hk hn => setRow_other _ _ _ _ hn⟩
  have hlt : w.heap.size + 1 < g + 1 := by have := og.out; omega
  refine ⟨.slice xa0 l.length ya0, .slice xa1 ya1 za1, by rw [HCS.out], own_rws (own_exc HRW.out hex (fun k hk e => by have := (HRW.out.lt k hk).1; omega)), Byt.of_own (own_exc HRB.out hex (fun k hk e => by have := (HRB.out.lt k hk).1; omega)), below_row BB.out (by omega) _⟩

theorem cmp_rw (r : Rw) (w : World) (d : Nat) : Cmp Tryz.prog w (d + 2) 52 (.agg (rwc r)) (.agg (rwc r)) (r.st = r.st ∧ r.kd = r.kd ∧ r.md = r.md ∧ n64 r.pc = n64 r.pc ∧ r.raw = r.raw ∧ r.len = r.len ∧ n64 r.ca = n64 r.ca ∧ n64 r.tv = n64 r.tv ∧ r.rd = r.rd ∧ n64 r.val = n64 r.val ∧ r.mem = r.mem ∧ n64 r.ad = n64 r.ad ∧ r.sz = r.sz ∧ n64 r.dat = n64 r.dat ∧ n64 r.nx = n64 r.nx ∧ r.nm = r.nm ∧ True) :=
  Cmp.struct Tryz.underlying52 (by kernel_rfl) (CmpF.cons (by decide) (run_part_plain w (by kernel_rfl) (by rfl)) (run_part_plain w (by kernel_rfl) (by rfl)) (Cmp.int Tryz.underlying3) (CmpF.cons (by decide) (run_part_plain w (by kernel_rfl) (by rfl)) (run_part_plain w (by kernel_rfl) (by rfl)) (Cmp.int Tryz.underlying3) (CmpF.cons (by decide) (run_part_plain w (by kernel_rfl) (by rfl)) (run_part_plain w (by kernel_rfl) (by rfl)) (Cmp.int Tryz.underlying3) (CmpF.cons (by decide) (run_part_plain w (by kernel_rfl) (by rfl)) (run_part_plain w (by kernel_rfl) (by rfl)) (Cmp.int Tryz.underlying23) (CmpF.cons (by decide) (run_part_plain w (by kernel_rfl) (by rfl)) (run_part_plain w (by kernel_rfl) (by rfl)) (Cmp.int Tryz.underlying42) (CmpF.cons (by decide) (run_part_plain w (by kernel_rfl) (by rfl)) (run_part_plain w (by kernel_rfl) (by rfl)) (Cmp.int Tryz.underlying3) (CmpF.cons (by decide) (run_part_plain w (by kernel_rfl) (by rfl)) (run_part_plain w (by kernel_rfl) (by rfl)) (Cmp.int Tryz.underlying23) (CmpF.cons (by decide) (run_part_plain w (by kernel_rfl) (by rfl)) (run_part_plain w (by kernel_rfl) (by rfl)) (Cmp.int Tryz.underlying23) (CmpF.cons (by decide) (run_part_plain w (by kernel_rfl) (by rfl)) (run_part_plain w (by kernel_rfl) (by rfl)) (Cmp.int Tryz.underlying3) (CmpF.cons (by decide) (run_part_plain w (by kernel_rfl) (by rfl)) (run_part_plain w (by kernel_rfl) (by rfl)) (Cmp.int Tryz.underlying23) (CmpF.cons (by decide) (run_part_plain w (by kernel_rfl) (by rfl)) (run_part_plain w (by kernel_rfl) (by rfl)) (Cmp.int Tryz.underlying3) (CmpF.cons (by decide) (run_part_plain w (by kernel_rfl) (by rfl)) (run_part_plain w (by kernel_rfl) (by rfl)) (Cmp.int Tryz.underlying23) (CmpF.cons (by decide) (run_part_plain w (by kernel_rfl) (by rfl)) (run_part_plain w (by kernel_rfl) (by rfl)) (Cmp.int Tryz.underlying3) (CmpF.cons (by decide) (run_part_plain w (by kernel_rfl) (by rfl)) (run_part_plain w (by kernel_rfl) (by rfl)) (Cmp.int Tryz.underlying23) (CmpF.cons (by decide) (run_part_plain w (by kernel_rfl) (by rfl)) (run_part_plain w (by kernel_rfl) (by rfl)) (Cmp.int Tryz.underlying23) (CmpF.cons (by decide) (run_part_plain w (by kernel_rfl) (by rfl)) (run_part_plain w (by kernel_rfl) (by rfl)) (Cmp.int Tryz.underlying3) CmpF.nil))))))))))))))))
theorem eq_rw (r : Rw) (w : World) : (Op.equalIn 10000 52 (.agg (rwc r)) (.agg (rwc r))).run Tryz.prog w = .ok true w := eq_of_cmp (cmp_rw r w 9998) true (by simp)
theorem eqN_rw (x y : Operand) (u v : Array Value) (w : World) : (eqGuard .neq 52 x y (.agg u) (.agg v)).run Tryz.prog w = .ok () w := by kernel_rfl
theorem eq_cpuT (K : Cp) (w : World) : (Op.equalIn 10000 32 (.agg (cpc K)) (.agg (cpc K))).run Tryz.prog w = .ok true w := by
  have q := eq_cpuU K K w
  rw [show eqC K K = true from (eqC_iff K K).2 rfl] at q; exact q
set_option maxHeartbeats 8000000 in
theorem strace_c (l : List Rw) (v v' : Value) (K : Cp) (f c : Int) (u u' : Value) (ub : List Int) (w : World) (hv : Rws w v l) (hv' : Rws w v' l) (hu : Byt w u ub) (hu' : Byt w u' ub) (hL : l.length ≤ 140737488351232) : Calls Tryz.prog 9 #[.agg (trc v K f c u), .agg (trc v' K f c u')] w fun e w' => e = .returned (.bool true) ∧ Below w.heap.size w w' := by
  obtain ⟨W0, hW0, r0, r1, b0, s0⟩ := start2 w (trc v K f c u) (trc v' K f c u') 35 35
  have HCV : Hid (∀ W, Below w.heap.size w W → (convert 33 9 u).run Tryz.prog W = .ok (.string (strOfNums ub)) W) := fun W h => (hu.later h rfl).conv
  have HCV' : Hid (∀ W, Below w.heap.size w W → (convert 33 9 u').run Tryz.prog W = .ok (.string (strOfNums ub)) W) := fun W h => (hu'.later h rfl).conv
  have BB := Hid.mkU b0.out
  obtain ⟨a1, c1, rfl, -, -, hr1⟩ := hv
  obtain ⟨a2, c2, rfl, -, -, hr2⟩ := hv'
  obtain ⟨a3, c3, rfl, -⟩ := hu
  obtain ⟨a4, c4, rfl, -⟩ := hu'
  have HR1 := Hid.mkU hr1
  have HR2 := Hid.mkU hr2
  have HL := Hid.mkU hL
  clear s0 b0 hr1 hr2 hL
  have f1 : ∀ x : Later W0, x.1.cell? ⟨w.heap.size, 0, none⟩ = some (.slice a1 l.length c1) := fun x => ((lrow r0.out x).cell 0).trans (trc_v ..)
  have f2 : ∀ x : Later W0, x.1.cell? ⟨w.heap.size + 1, 0, none⟩ = some (.slice a2 l.length c2) := fun x => ((lrow r1.out x).cell 0).trans (trc_v ..)
  have f3 : ∀ x : Later W0, x.1.cell? ⟨w.heap.size, 83, none⟩ = some (.int .i64 f) := fun x => ((lrow r0.out x).cell 83).trans ((trc_e _ _ _ _ _ 0).trans rfl)
  have f4 : ∀ x : Later W0, x.1.cell? ⟨w.heap.size + 1, 83, none⟩ = some (.int .i64 f) := fun x => ((lrow r1.out x).cell 83).trans ((trc_e _ _ _ _ _ 0).trans rfl)
  have f5 : ∀ x : Later W0, x.1.cell? ⟨w.heap.size, 84, none⟩ = some (.int .i64 c) := fun x => ((lrow r0.out x).cell 84).trans ((trc_e _ _ _ _ _ 1).trans rfl)
  have f6 : ∀ x : Later W0, x.1.cell? ⟨w.heap.size + 1, 84, none⟩ = some (.int .i64 c) := fun x => ((lrow r1.out x).cell 84).trans ((trc_e _ _ _ _ _ 1).trans rfl)
  have f7 : ∀ x : Later W0, x.1.cell? ⟨w.heap.size, 85, none⟩ = some (.slice a3 ub.length c3) := fun x => ((lrow r0.out x).cell 85).trans ((trc_e _ _ _ _ _ 2).trans rfl)
  have f8 : ∀ x : Later W0, x.1.cell? ⟨w.heap.size + 1, 85, none⟩ = some (.slice a4 ub.length c4) := fun x => ((lrow r1.out x).cell 85).trans ((trc_e _ _ _ _ _ 2).trans rfl)
  have g1 : ∀ x : Later W0, (convert 33 9 (.slice a3 ub.length c3)).run Tryz.prog x.1 = .ok (.string (strOfNums ub)) x.1 := fun x => HCV.out x.1 (BB.out.trans (x.2.mono BB.out.size))
  have g2 : ∀ x : Later W0, (convert 33 9 (.slice a4 ub.length c4)).run Tryz.prog x.1 = .ok (.string (strOfNums ub)) x.1 := fun x => HCV'.out x.1 (BB.out.trans (x.2.mono BB.out.size))
  have HEC := Hid.mkU (fun w => eq_cpuT K w)
  have hne := later_nonempty W0
  clear HCV HCV'
  generalize strOfNums ub = sb at *
  generalize ub.length = nb at *
  go_enter Tryz.func9, Tryz.ntmps9
  go_upto_region 1 with fail
  clear hW0
  refine wp_region_plain (x0 := Later.start W0) ?_
  (go_big_quiet_step (fail))
  (first | (go_big_quiet_want; refine quiet_load_agg 32 _ (by rfl) (w.heap.size) 1 (by rfl) (cpc K) _ r0.out.lt (fun j v hv => (r0.out.cell (1 + j)).trans (trc_c _ _ _ _ _ j v hv)) Tryz.underlying32 (by rfl) (info_cpuU _) ?_; simp only [Act.put, List.setIfInBounds_toArray, List.set_cons_succ, List.set_cons_zero]; go_big_quiet_on) | (go_big_quiet_want; refine quiet_load_agg 32 _ (by rfl) (w.heap.size + 1) 1 (by rfl) (cpc K) _ r1.out.lt (fun j v hv => (r1.out.cell (1 + j)).trans (trc_c _ _ _ _ _ j v hv)) Tryz.underlying32 (by rfl) (info_cpuU _) ?_; simp only [Act.put, List.setIfInBounds_toArray, List.set_cons_succ, List.set_cons_zero]; go_big_quiet_on))
  (go_big_quiet_step (fail))
  (first | (go_big_quiet_want; refine quiet_load_agg 32 _ (by rfl) (w.heap.size) 1 (by rfl) (cpc K) _ r0.out.lt (fun j v hv => (r0.out.cell (1 + j)).trans (trc_c _ _ _ _ _ j v hv)) Tryz.underlying32 (by rfl) (info_cpuU _) ?_; simp only [Act.put, List.setIfInBounds_toArray, List.set_cons_succ, List.set_cons_zero]; go_big_quiet_on) | (go_big_quiet_want; refine quiet_load_agg 32 _ (by rfl) (w.heap.size + 1) 1 (by rfl) (cpc K) _ r1.out.lt (fun j v hv => (r1.out.cell (1 + j)).trans (trc_c _ _ _ _ _ j v hv)) Tryz.underlying32 (by rfl) (info_cpuU _) ?_; simp only [Act.put, List.setIfInBounds_toArray, List.set_cons_succ, List.set_cons_zero]; go_big_quiet_on))
  (go_big_quiet_want; refine quiet_neq_agg 32 _ _ _ (by rfl) (cpc K) (cpc K) (by rfl) (by rfl) _ HEC.out (fun w => eqN_cpuU _ _ _ _ w) false (by rfl) ?_; simp only [Act.put, List.setIfInBounds_toArray, List.set_cons_succ, List.set_cons_zero]; go_big_quiet_on)
  (go_big_quiet_step (fail))
  (go_big_quiet_step (fail))
  (go_big_quiet_step (fail))
  (go_big_quiet_step (fail))
  (go_big_quiet_step (fail))
  (go_big_quiet_step (fail))
  (go_big_quiet_step (fail))
  (go_big_quiet_step (fail))
  (go_big_quiet_step (fail))
  (go_big_quiet_step (fail))
  (go_big_quiet_step (fail))
  (go_big_quiet_step (fail))
  (go_big_quiet_step (fail))
  (go_big_quiet_step (fail))
  (go_big_quiet_step (fail))
  (go_big_quiet_step (fail))
  (go_big_quiet_step (fail))
  (go_big_quiet_step (fail))
  (go_big_quiet_step (fail))
  (go_big_quiet_step (fail))
  (go_big_quiet_step (fail))
  (go_big_quiet_step (fail))
  (go_big_quiet_step (fail))
  (go_big_quiet_step (fail))
  (go_big_quiet_step (fail))
  (go_big_quiet_step (fail))
  (go_big_quiet_step (rfl))
  (go_big_quiet_step (fail))
  (go_big_quiet_step (fail))
  (go_big_quiet_step (rfl))
  (go_big_quiet_step (fail))
  (go_big_quiet_step (fail))
  refine wpQuiet_nil ?_
  rintro _ ⟨yq, rfl⟩
  --@R3
  have HY := Hid.mkU yq.2
  clear f3 f4 f5 f6 f7 f8 g1 g2 HEC
  go_upto_region 3 with fail
  go_wp2
  go_loopw [5] (fun i wr => ∃ k : Nat, k ≤ l.length ∧ i = .int .i64 k ∧ Hid (Below W0.heap.size W0 wr)) (fun i _ => l.length - (intOf i).toNat)
  case atStart => exact ⟨0, Nat.zero_le _, rfl, HY.out⟩
  case round =>
    obtain ⟨k, hk, rfl, hb⟩ := hrel
    have h1 := f1 ⟨wr, hb.out⟩
    have h2 := f2 ⟨wr, hb.out⟩
    simp only at h1 h2
    have e1 : ∀ x : Later wr, x.1.cell? ⟨w.heap.size, 0, none⟩ = some (.slice a1 l.length c1) := fun x => f1 ⟨x.1, hb.out.trans (x.2.mono hb.out.size)⟩
    have e2 : ∀ x : Later wr, x.1.cell? ⟨w.heap.size + 1, 0, none⟩ = some (.slice a2 l.length c2) := fun x => f2 ⟨x.1, hb.out.trans (x.2.mono hb.out.size)⟩
    have HBW := Hid.mkU (BB.out.trans (hb.out.mono BB.out.size))
    have hL2 := HL.out
    clear f1 f2 HY hne
    by_cases hlt : k < l.length
    · have hlt2 : (k : Int) < (l.length : Int) := by omega
      obtain ⟨g1, o1, ha1, hg1, hc1⟩ := HR1.out (by intro e; rw [e] at hlt; exact absurd hlt (by simp))
      obtain ⟨g2, o2, ha2, hg2, hc2⟩ := HR2.out (by intro e; rw [e] at hlt; exact absurd hlt (by simp))
      subst ha1 ha2
      have C1 : Hid (g1 < wr.heap.size ∧ ∀ i v, (rwc (l.getD k rz))[i]? = some v → wr.cell? ⟨g1, o1 + k * 16 + i, none⟩ = some v) := ⟨Nat.lt_of_lt_of_le hg1 HBW.out.size, fun i v hv => (HBW.out.cell hg1).trans (hc1 k hlt i v hv)⟩
      have C2 : Hid (g2 < wr.heap.size ∧ ∀ i v, (rwc (l.getD k rz))[i]? = some v → wr.cell? ⟨g2, o2 + k * 16 + i, none⟩ = some v) := ⟨Nat.lt_of_lt_of_le hg2 HBW.out.size, fun i v hv => (HBW.out.cell hg2).trans (hc2 k hlt i v hv)⟩
      generalize l.getD k rz = r at *
      have HER := Hid.mkU (fun w => eq_rw r w)
      have hne := later_nonempty wr
      clear hc1 hc2 HR1 HR2 hg1 hg2
      go_upto_region 6 with fail
      refine wp_region_later (x0 := Later.start wr) (by kernel_rfl) (by kernel_rfl) ?_
      (go_big_quiet_step (fail))
      (go_big_quiet_step (fail))
      (go_big_quiet_step (fail))
      (go_big_quiet_step (fail))
      (first | (go_big_quiet_want; refine quiet_load_agg 52 _ (by rfl) g1 (o1 + k * 16) (by rfl) (rwc r) _ C1.out.1 C1.out.2 Tryz.underlying52 (by rfl) (info_rw _) ?_; simp only [Act.put, List.setIfInBounds_toArray, List.set_cons_succ, List.set_cons_zero]; go_big_quiet_on) | (go_big_quiet_want; refine quiet_load_agg 52 _ (by rfl) g2 (o2 + k * 16) (by rfl) (rwc r) _ C2.out.1 C2.out.2 Tryz.underlying52 (by rfl) (info_rw _) ?_; simp only [Act.put, List.setIfInBounds_toArray, List.set_cons_succ, List.set_cons_zero]; go_big_quiet_on))
      (go_big_quiet_step (fail))
      (go_big_quiet_step (fail))
      (go_big_quiet_step (fail))
      (go_big_quiet_step (fail))
      (first | (go_big_quiet_want; refine quiet_load_agg 52 _ (by rfl) g1 (o1 + k * 16) (by rfl) (rwc r) _ C1.out.1 C1.out.2 Tryz.underlying52 (by rfl) (info_rw _) ?_; simp only [Act.put, List.setIfInBounds_toArray, List.set_cons_succ, List.set_cons_zero]; go_big_quiet_on) | (go_big_quiet_want; refine quiet_load_agg 52 _ (by rfl) g2 (o2 + k * 16) (by rfl) (rwc r) _ C2.out.1 C2.out.2 Tryz.underlying52 (by rfl) (info_rw _) ?_; simp only [Act.put, List.setIfInBounds_toArray, List.set_cons_succ, List.set_cons_zero]; go_big_quiet_on))
      (go_big_quiet_want; refine quiet_neq_agg 52 _ _ _ (by rfl) (rwc r) (rwc r) (by rfl) (by rfl) _ HER.out (fun w => eqN_rw _ _ _ _ w) false (by rfl) ?_; simp only [Act.put, List.setIfInBounds_toArray, List.set_cons_succ, List.set_cons_zero]; go_big_quiet_on)
      refine wpQuiet_nil ?_
      rintro _ ⟨yr, rfl⟩
      have HB2 := Hid.mkU (hb.out.trans (yr.2.mono hb.out.size))
      clear e1 e2
      go_wp2
      go_roundw
      case rel => exact ⟨k + 1, by omega, by go_num, HB2⟩
      case measure => simp [intOf]; omega
    · have hge : ¬ ((k : Int) < (l.length : Int)) := by omega
      go_wp2
      go_ret
      exact ⟨rfl, HBW.out⟩
end Go.Proofs.YtidfndgedopghaaGreatDoor
