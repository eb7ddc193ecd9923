/-
  Oi Ok.
-/
import Derived.Test.YtidfndgedopghaaGreatDoorM32
namespace Go.Proofs.YtidfndgedopghaaGreatDoor
set_option linter.unusedVariables false
set_option maxRecDepth 100000
set_option maxHeartbeats 4000000
open Go.ChangeShapes Go.WideShapes Go.ChangeAt Go.RowKit Go.Deep
set_option maxHeartbeats 16000000 in
theorem watchAgrees_walk (a : Cp) (A : St) (ar ai ao : Value) (b : Cp) (B : St) (br bi bo : Value) (w : World) (hT : Tb w) (hA : Bs A ar ai ao w) (hB : Bs B br bi bo w) (wA : StW A) (wB : StW B) (l1 : A.ram.length ≤ 140737488351232) (l2 : A.inp.length ≤ 140737488351232) (l3 : A.out.length ≤ 140737488351232) (m1 : B.ram.length ≤ 140737488351232) (m2 : B.inp.length ≤ 140737488351232) (m3 : B.out.length ≤ 140737488351232) :
    Calls Tryz.prog 4 #[.agg (whc a A ar ai ao), .agg (whc b B br bi bo)] w fun e w' => e = .returned (.bool true) ∧ Below w.heap.size w w' := by
  have hz := zero_wh
  obtain ⟨W0, hW0, r0, r1, b0, s0⟩ := start2 w (whc a A ar ai ao) (whc b B br bi bo) 46 46
  have BB := Hid.mkU b0.out
  have HA : Hid (∀ W, Below w.heap.size w W → Bs A ar ai ao W) := fun W h => hA.later h
  have HB : Hid (∀ W, Below w.heap.size w W → Bs B br bi bo W) := fun W h => hB.later h
  have HT : Hid (∀ W, Below w.heap.size w W → Tb W) := fun W h => hT.next h
  have HTA : Hid (∀ W, Below w.heap.size w W → Calls Tryz.prog 11 #[.agg (whc a A ar ai ao)] W fun e w' => ∃ ur ui uo, e = .returned (.agg (whc a A ur ui uo)) ∧ Bs A ur ui uo w' ∧ (whc a A ur ui uo).all (·.oneCell') = true ∧ Below W.heap.size W w') := fun W h => twin_c a A ar ai ao W (hA.later h) (by omega) (by omega) (by omega)
  have HTB : Hid (∀ W, Below w.heap.size w W → Calls Tryz.prog 11 #[.agg (whc b B br bi bo)] W fun e w' => ∃ ur ui uo, e = .returned (.agg (whc b B ur ui uo)) ∧ Bs B ur ui uo w' ∧ (whc b B ur ui uo).all (·.oneCell') = true ∧ Below W.heap.size W w') := fun W h => twin_c b B br bi bo W (hB.later h) (by omega) (by omega) (by omega)
  have HAG : Hid (∀ (xr xi xo yr yi yo : Value) (W : World), Tb W → Bs A xr xi xo W → Bs B yr yi yo W → Calls Tryz.prog 12 #[.agg (whc a A xr xi xo), .agg (whc b B yr yi yo)] W fun e w' => e = .returned (.bool (agV a A b B)) ∧ Below W.heap.size W w') := fun xr xi xo yr yi yo W hT h1 h2 => agree_c a A xr xi xo b B yr yi yo W h1 h2 hT l1
  have HAH : Hid (∀ (xr xi xo yr yi yo : Value) (W : World), Tb W → Bs A xr xi xo W → Bs B yr yi yo W → Calls Tryz.prog 12 #[.agg (whc b B yr yi yo), .agg (whc a A xr xi xo)] W fun e w' => e = .returned (.bool (agV b B a A)) ∧ Below W.heap.size W w') := fun xr xi xo yr yi yo W hT h1 h2 => agree_c b B yr yi yo a A xr xi xo W h2 h1 hT m1
  have HRG : Hid (∀ W, Below w.heap.size w W → Calls Tryz.prog 13 #[.agg (whc a A ar ai ao), .agg (whc b B br bi bo)] W fun e w' => e = .returned (.bool (agV a A b B)) ∧ Below W.heap.size W w') := fun W h => by rw [← rg_eq a A b B wA.i wB.i wA.o wB.o]; exact ragree_c a A ar ai ao b B br bi bo W (hA.later h) (hB.later h) l1 l2 m2 l3 m3
  have HRH : Hid (∀ W, Below w.heap.size w W → Calls Tryz.prog 13 #[.agg (whc b B br bi bo), .agg (whc a A ar ai ao)] W fun e w' => e = .returned (.bool (agV b B a A)) ∧ Below W.heap.size W w') := fun W h => by rw [← rg_eq b B a A wB.i wA.i wB.o wA.o]; exact ragree_c b B br bi bo a A ar ai ao W (hB.later h) (hA.later h) m1 m2 l2 m3 l3
  clear hA hB hT wA wB l1 l2 l3 m1 m2 m3 b0 s0
  generalize agV a A b B = z1 at *
  generalize agV b B a A = z2 at *
  go_enter Tryz.func4, Tryz.ntmps4
  go_upto_region 1 with fail
  clear hW0
  go_upto_region 2 with (first | (refine wpList_load_row (by rfl) _ _ (by rfl) _ (by rfl) 46 _ (0, 0) _ r0.out Tryz.underlying46 (by rfl) (info_whU ..) ?_) | (go_at_call 11; refine (HTA.out _ BB.out).mono ?_; rintro e w1 ⟨xr, xi, xo, rfl, q1, q2, q3⟩; have HBX := Hid.mkU q1; have HON : Hid ((whc a A xr xi xo).all (·.oneCell') = true) := q2; have HB1 := Hid.mkU q3; clear q1 q2 q3) | (refine wpList_store_new (by rfl) 46 _ _ (by rfl) (by rfl) whz (whc a A xr xi xo) (by rfl) (by rfl) (info_whU ..) (whz_size ..) HON.out ?_))
  --@R2
  refine on_W (motive := fun W => Code.wp _ _ _ _ W) (Q := fun W => Row W w.heap.size (whc a A ar ai ao) 46 ∧ Row W (w.heap.size + 1) (whc b B br bi bo) 46 ∧ Row W w1.heap.size (whc a A xr xi xo) 46 ∧ Below w.heap.size w W ∧ Bs A xr xi xo W) ⟨(r0.out.later HB1.out r0.out.lt).old (r0.out.later HB1.out r0.out.lt).lt _, (r1.out.later HB1.out r1.out.lt).old (r1.out.later HB1.out r1.out.lt).lt _, Row.new _ _ _, BB.out.trans ((HB1.out.trans ((below_al _ _).mono HB1.out.size)).mono BB.out.size), HBX.out.later (below_al _ _)⟩ ?_
  generalize w1.heap.size = gx at *
  clear r0 r1 BB HBX HB1 HON HTA
  rintro W2 ⟨q0, q1, q2, q3, q4⟩
  have r0 := Hid.mkU q0
  have r1 := Hid.mkU q1
  have r2 := Hid.mkU q2
  have BB := Hid.mkU q3
  have HBX := Hid.mkU q4
  clear q0 q1 q2 q3 q4 W0
  go_upto_region 3 with (first | (refine wpList_load_row (by rfl) _ _ (by rfl) _ (by rfl) 46 _ (0, 0) _ r1.out Tryz.underlying46 (by rfl) (info_whU ..) ?_) | (go_at_call 11; refine (HTB.out _ BB.out).mono ?_; rintro e w3 ⟨yr, yi, yo, rfl, q1, q2, q3⟩; have HBY := Hid.mkU q1; have HON : Hid ((whc b B yr yi yo).all (·.oneCell') = true) := q2; have HB1 := Hid.mkU q3; clear q1 q2 q3) | (refine wpList_store_new (by rfl) 46 _ _ (by rfl) (by rfl) whz (whc b B yr yi yo) (by rfl) (by rfl) (info_whU ..) (whz_size ..) HON.out ?_))
  --@R3
  refine on_W (motive := fun W => Code.wp _ _ _ _ W) (Q := fun W => Row W w.heap.size (whc a A ar ai ao) 46 ∧ Row W (w.heap.size + 1) (whc b B br bi bo) 46 ∧ Row W gx (whc a A xr xi xo) 46 ∧ Row W w3.heap.size (whc b B yr yi yo) 46 ∧ Below w.heap.size w W ∧ Bs A xr xi xo W ∧ Bs B yr yi yo W) ⟨(r0.out.later HB1.out r0.out.lt).old (r0.out.later HB1.out r0.out.lt).lt _, (r1.out.later HB1.out r1.out.lt).old (r1.out.later HB1.out r1.out.lt).lt _, (r2.out.later HB1.out r2.out.lt).old (r2.out.later HB1.out r2.out.lt).lt _, Row.new _ _ _, BB.out.trans ((HB1.out.trans ((below_al _ _).mono HB1.out.size)).mono BB.out.size), (HBX.out.later HB1.out).later (below_al _ _), HBY.out.later (below_al _ _)⟩ ?_
  generalize w3.heap.size = gy at *
  clear r0 r1 r2 BB HBX HBY HB1 HON HTB hz
  rintro W3 ⟨q0, q1, q2, q3, q4, q5, q6⟩
  have r0 := Hid.mkU q0
  have r1 := Hid.mkU q1
  have r2 := Hid.mkU q2
  have r3 := Hid.mkU q3
  have BB := Hid.mkU q4
  have HBX := Hid.mkU q5
  have HBY := Hid.mkU q6
  clear q0 q1 q2 q3 q4 q5 q6 W2
  have later3 : ∀ x : Later W3, Below w.heap.size w x.1 := fun x => BB.out.trans (x.2.mono BB.out.size)
  have HC1 : Hid (∀ x : Later W3, Calls Tryz.prog 12 #[.agg (whc a A xr xi xo), .agg (whc b B yr yi yo)] x.1 fun e w' => e = .returned (.bool z1) ∧ Below x.1.heap.size x.1 w') := fun x => HAG.out _ _ _ _ _ _ x.1 (HT.out _ (later3 x)) (HBX.out.later x.2) (HBY.out.later x.2)
  have HC2 : Hid (∀ x : Later W3, Calls Tryz.prog 12 #[.agg (whc b B yr yi yo), .agg (whc a A xr xi xo)] x.1 fun e w' => e = .returned (.bool z2) ∧ Below x.1.heap.size x.1 w') := fun x => HAH.out _ _ _ _ _ _ x.1 (HT.out _ (later3 x)) (HBX.out.later x.2) (HBY.out.later x.2)
  have HC3 : Hid (∀ x : Later W3, Calls Tryz.prog 13 #[.agg (whc a A ar ai ao), .agg (whc b B br bi bo)] x.1 fun e w' => e = .returned (.bool z1) ∧ Below x.1.heap.size x.1 w') := fun x => HRG.out x.1 (later3 x)
  have HC4 : Hid (∀ x : Later W3, Calls Tryz.prog 13 #[.agg (whc b B br bi bo), .agg (whc a A ar ai ao)] x.1 fun e w' => e = .returned (.bool z2) ∧ Below x.1.heap.size x.1 w') := fun x => HRH.out x.1 (later3 x)
  have HC5 : Hid (∀ x : Later W3, Calls Tryz.prog 14 #[.agg (whc a A xr xi xo), .agg (whc a A ar ai ao)] x.1 fun e w' => e = .returned (.bool true) ∧ Below x.1.heap.size x.1 w') := fun x => same18_c a A _ _ _ _ _ _ x.1 (HBX.out.later x.2) (HA.out x.1 (later3 x))
  have HC6 : Hid (∀ x : Later W3, Calls Tryz.prog 14 #[.agg (whc b B yr yi yo), .agg (whc b B br bi bo)] x.1 fun e w' => e = .returned (.bool true) ∧ Below x.1.heap.size x.1 w') := fun x => same18_c b B _ _ _ _ _ _ x.1 (HBY.out.later x.2) (HB.out x.1 (later3 x))
  have HC7 : Hid (∀ x : Later W3, Calls Tryz.prog 10 #[] x.1 fun e w' => e = .returned (.bool true) ∧ Below x.1.heap.size x.1 w') := fun x => first_c x.1 (HT.out _ (later3 x))
  have hne := later_nonempty W3
  have h11 : (z1 == z1) = true := beq_self_eq_true _
  have h22 : (z2 == z2) = true := beq_self_eq_true _
  clear HAG HAH HRG HRH HBX HBY HA HB HT later3
  refine wp_region_later (x0 := Later.start W3) (by kernel_rfl) (by kernel_rfl) ?_
  (first | (go_big_quiet_want; refine quiet_load_agg 46 _ (by rfl) (gx) 0 (by rfl) (whc a A xr xi xo) _ r2.out.lt (lrow_cells r2.out) Tryz.underlying46 (by rfl) (info_whU ..) ?_; simp only [Act.put, List.setIfInBounds_toArray, List.set_cons_succ, List.set_cons_zero]; go_big_quiet_on) | (go_big_quiet_want; refine quiet_load_agg 46 _ (by rfl) (gy) 0 (by rfl) (whc b B yr yi yo) _ r3.out.lt (lrow_cells r3.out) Tryz.underlying46 (by rfl) (info_whU ..) ?_; simp only [Act.put, List.setIfInBounds_toArray, List.set_cons_succ, List.set_cons_zero]; go_big_quiet_on) | (go_big_quiet_want; refine quiet_load_agg 46 _ (by rfl) (w.heap.size) 0 (by rfl) (whc a A ar ai ao) _ r0.out.lt (lrow_cells r0.out) Tryz.underlying46 (by rfl) (info_whU ..) ?_; simp only [Act.put, List.setIfInBounds_toArray, List.set_cons_succ, List.set_cons_zero]; go_big_quiet_on) | (go_big_quiet_want; refine quiet_load_agg 46 _ (by rfl) (w.heap.size + 1) 0 (by rfl) (whc b B br bi bo) _ r1.out.lt (lrow_cells r1.out) Tryz.underlying46 (by rfl) (info_whU ..) ?_; simp only [Act.put, List.setIfInBounds_toArray, List.set_cons_succ, List.set_cons_zero]; go_big_quiet_on) | (go_big_quiet_step (fail)))
  (first | (go_big_quiet_want; refine quiet_load_agg 46 _ (by rfl) (gx) 0 (by rfl) (whc a A xr xi xo) _ r2.out.lt (lrow_cells r2.out) Tryz.underlying46 (by rfl) (info_whU ..) ?_; simp only [Act.put, List.setIfInBounds_toArray, List.set_cons_succ, List.set_cons_zero]; go_big_quiet_on) | (go_big_quiet_want; refine quiet_load_agg 46 _ (by rfl) (gy) 0 (by rfl) (whc b B yr yi yo) _ r3.out.lt (lrow_cells r3.out) Tryz.underlying46 (by rfl) (info_whU ..) ?_; simp only [Act.put, List.setIfInBounds_toArray, List.set_cons_succ, List.set_cons_zero]; go_big_quiet_on) | (go_big_quiet_want; refine quiet_load_agg 46 _ (by rfl) (w.heap.size) 0 (by rfl) (whc a A ar ai ao) _ r0.out.lt (lrow_cells r0.out) Tryz.underlying46 (by rfl) (info_whU ..) ?_; simp only [Act.put, List.setIfInBounds_toArray, List.set_cons_succ, List.set_cons_zero]; go_big_quiet_on) | (go_big_quiet_want; refine quiet_load_agg 46 _ (by rfl) (w.heap.size + 1) 0 (by rfl) (whc b B br bi bo) _ r1.out.lt (lrow_cells r1.out) Tryz.underlying46 (by rfl) (info_whU ..) ?_; simp only [Act.put, List.setIfInBounds_toArray, List.set_cons_succ, List.set_cons_zero]; go_big_quiet_on) | (go_big_quiet_step (fail)))
  (go_big_quiet_step ((go_at_call 12; exact calls_later (HC1.out _))))
  (first | (go_big_quiet_want; refine quiet_load_agg 46 _ (by rfl) (gx) 0 (by rfl) (whc a A xr xi xo) _ r2.out.lt (lrow_cells r2.out) Tryz.underlying46 (by rfl) (info_whU ..) ?_; simp only [Act.put, List.setIfInBounds_toArray, List.set_cons_succ, List.set_cons_zero]; go_big_quiet_on) | (go_big_quiet_want; refine quiet_load_agg 46 _ (by rfl) (gy) 0 (by rfl) (whc b B yr yi yo) _ r3.out.lt (lrow_cells r3.out) Tryz.underlying46 (by rfl) (info_whU ..) ?_; simp only [Act.put, List.setIfInBounds_toArray, List.set_cons_succ, List.set_cons_zero]; go_big_quiet_on) | (go_big_quiet_want; refine quiet_load_agg 46 _ (by rfl) (w.heap.size) 0 (by rfl) (whc a A ar ai ao) _ r0.out.lt (lrow_cells r0.out) Tryz.underlying46 (by rfl) (info_whU ..) ?_; simp only [Act.put, List.setIfInBounds_toArray, List.set_cons_succ, List.set_cons_zero]; go_big_quiet_on) | (go_big_quiet_want; refine quiet_load_agg 46 _ (by rfl) (w.heap.size + 1) 0 (by rfl) (whc b B br bi bo) _ r1.out.lt (lrow_cells r1.out) Tryz.underlying46 (by rfl) (info_whU ..) ?_; simp only [Act.put, List.setIfInBounds_toArray, List.set_cons_succ, List.set_cons_zero]; go_big_quiet_on) | (go_big_quiet_step (fail)))
  (first | (go_big_quiet_want; refine quiet_load_agg 46 _ (by rfl) (gx) 0 (by rfl) (whc a A xr xi xo) _ r2.out.lt (lrow_cells r2.out) Tryz.underlying46 (by rfl) (info_whU ..) ?_; simp only [Act.put, List.setIfInBounds_toArray, List.set_cons_succ, List.set_cons_zero]; go_big_quiet_on) | (go_big_quiet_want; refine quiet_load_agg 46 _ (by rfl) (gy) 0 (by rfl) (whc b B yr yi yo) _ r3.out.lt (lrow_cells r3.out) Tryz.underlying46 (by rfl) (info_whU ..) ?_; simp only [Act.put, List.setIfInBounds_toArray, List.set_cons_succ, List.set_cons_zero]; go_big_quiet_on) | (go_big_quiet_want; refine quiet_load_agg 46 _ (by rfl) (w.heap.size) 0 (by rfl) (whc a A ar ai ao) _ r0.out.lt (lrow_cells r0.out) Tryz.underlying46 (by rfl) (info_whU ..) ?_; simp only [Act.put, List.setIfInBounds_toArray, List.set_cons_succ, List.set_cons_zero]; go_big_quiet_on) | (go_big_quiet_want; refine quiet_load_agg 46 _ (by rfl) (w.heap.size + 1) 0 (by rfl) (whc b B br bi bo) _ r1.out.lt (lrow_cells r1.out) Tryz.underlying46 (by rfl) (info_whU ..) ?_; simp only [Act.put, List.setIfInBounds_toArray, List.set_cons_succ, List.set_cons_zero]; go_big_quiet_on) | (go_big_quiet_step (fail)))
  (go_big_quiet_step ((go_at_call 13; exact calls_later (HC3.out _))))
  (go_big_quiet_step (fail))
  (go_big_quiet_step (fail))
  (first | (go_big_quiet_want; refine quiet_load_agg 46 _ (by rfl) (gx) 0 (by rfl) (whc a A xr xi xo) _ r2.out.lt (lrow_cells r2.out) Tryz.underlying46 (by rfl) (info_whU ..) ?_; simp only [Act.put, List.setIfInBounds_toArray, List.set_cons_succ, List.set_cons_zero]; go_big_quiet_on) | (go_big_quiet_want; refine quiet_load_agg 46 _ (by rfl) (gy) 0 (by rfl) (whc b B yr yi yo) _ r3.out.lt (lrow_cells r3.out) Tryz.underlying46 (by rfl) (info_whU ..) ?_; simp only [Act.put, List.setIfInBounds_toArray, List.set_cons_succ, List.set_cons_zero]; go_big_quiet_on) | (go_big_quiet_want; refine quiet_load_agg 46 _ (by rfl) (w.heap.size) 0 (by rfl) (whc a A ar ai ao) _ r0.out.lt (lrow_cells r0.out) Tryz.underlying46 (by rfl) (info_whU ..) ?_; simp only [Act.put, List.setIfInBounds_toArray, List.set_cons_succ, List.set_cons_zero]; go_big_quiet_on) | (go_big_quiet_want; refine quiet_load_agg 46 _ (by rfl) (w.heap.size + 1) 0 (by rfl) (whc b B br bi bo) _ r1.out.lt (lrow_cells r1.out) Tryz.underlying46 (by rfl) (info_whU ..) ?_; simp only [Act.put, List.setIfInBounds_toArray, List.set_cons_succ, List.set_cons_zero]; go_big_quiet_on) | (go_big_quiet_step (fail)))
  (first | (go_big_quiet_want; refine quiet_load_agg 46 _ (by rfl) (gx) 0 (by rfl) (whc a A xr xi xo) _ r2.out.lt (lrow_cells r2.out) Tryz.underlying46 (by rfl) (info_whU ..) ?_; simp only [Act.put, List.setIfInBounds_toArray, List.set_cons_succ, List.set_cons_zero]; go_big_quiet_on) | (go_big_quiet_want; refine quiet_load_agg 46 _ (by rfl) (gy) 0 (by rfl) (whc b B yr yi yo) _ r3.out.lt (lrow_cells r3.out) Tryz.underlying46 (by rfl) (info_whU ..) ?_; simp only [Act.put, List.setIfInBounds_toArray, List.set_cons_succ, List.set_cons_zero]; go_big_quiet_on) | (go_big_quiet_want; refine quiet_load_agg 46 _ (by rfl) (w.heap.size) 0 (by rfl) (whc a A ar ai ao) _ r0.out.lt (lrow_cells r0.out) Tryz.underlying46 (by rfl) (info_whU ..) ?_; simp only [Act.put, List.setIfInBounds_toArray, List.set_cons_succ, List.set_cons_zero]; go_big_quiet_on) | (go_big_quiet_want; refine quiet_load_agg 46 _ (by rfl) (w.heap.size + 1) 0 (by rfl) (whc b B br bi bo) _ r1.out.lt (lrow_cells r1.out) Tryz.underlying46 (by rfl) (info_whU ..) ?_; simp only [Act.put, List.setIfInBounds_toArray, List.set_cons_succ, List.set_cons_zero]; go_big_quiet_on) | (go_big_quiet_step (fail)))
  (go_big_quiet_step ((go_at_call 12; exact calls_later (HC2.out _))))
  (first | (go_big_quiet_want; refine quiet_load_agg 46 _ (by rfl) (gx) 0 (by rfl) (whc a A xr xi xo) _ r2.out.lt (lrow_cells r2.out) Tryz.underlying46 (by rfl) (info_whU ..) ?_; simp only [Act.put, List.setIfInBounds_toArray, List.set_cons_succ, List.set_cons_zero]; go_big_quiet_on) | (go_big_quiet_want; refine quiet_load_agg 46 _ (by rfl) (gy) 0 (by rfl) (whc b B yr yi yo) _ r3.out.lt (lrow_cells r3.out) Tryz.underlying46 (by rfl) (info_whU ..) ?_; simp only [Act.put, List.setIfInBounds_toArray, List.set_cons_succ, List.set_cons_zero]; go_big_quiet_on) | (go_big_quiet_want; refine quiet_load_agg 46 _ (by rfl) (w.heap.size) 0 (by rfl) (whc a A ar ai ao) _ r0.out.lt (lrow_cells r0.out) Tryz.underlying46 (by rfl) (info_whU ..) ?_; simp only [Act.put, List.setIfInBounds_toArray, List.set_cons_succ, List.set_cons_zero]; go_big_quiet_on) | (go_big_quiet_want; refine quiet_load_agg 46 _ (by rfl) (w.heap.size + 1) 0 (by rfl) (whc b B br bi bo) _ r1.out.lt (lrow_cells r1.out) Tryz.underlying46 (by rfl) (info_whU ..) ?_; simp only [Act.put, List.setIfInBounds_toArray, List.set_cons_succ, List.set_cons_zero]; go_big_quiet_on) | (go_big_quiet_step (fail)))
  (first | (go_big_quiet_want; refine quiet_load_agg 46 _ (by rfl) (gx) 0 (by rfl) (whc a A xr xi xo) _ r2.out.lt (lrow_cells r2.out) Tryz.underlying46 (by rfl) (info_whU ..) ?_; simp only [Act.put, List.setIfInBounds_toArray, List.set_cons_succ, List.set_cons_zero]; go_big_quiet_on) | (go_big_quiet_want; refine quiet_load_agg 46 _ (by rfl) (gy) 0 (by rfl) (whc b B yr yi yo) _ r3.out.lt (lrow_cells r3.out) Tryz.underlying46 (by rfl) (info_whU ..) ?_; simp only [Act.put, List.setIfInBounds_toArray, List.set_cons_succ, List.set_cons_zero]; go_big_quiet_on) | (go_big_quiet_want; refine quiet_load_agg 46 _ (by rfl) (w.heap.size) 0 (by rfl) (whc a A ar ai ao) _ r0.out.lt (lrow_cells r0.out) Tryz.underlying46 (by rfl) (info_whU ..) ?_; simp only [Act.put, List.setIfInBounds_toArray, List.set_cons_succ, List.set_cons_zero]; go_big_quiet_on) | (go_big_quiet_want; refine quiet_load_agg 46 _ (by rfl) (w.heap.size + 1) 0 (by rfl) (whc b B br bi bo) _ r1.out.lt (lrow_cells r1.out) Tryz.underlying46 (by rfl) (info_whU ..) ?_; simp only [Act.put, List.setIfInBounds_toArray, List.set_cons_succ, List.set_cons_zero]; go_big_quiet_on) | (go_big_quiet_step (fail)))
  (go_big_quiet_step ((go_at_call 13; exact calls_later (HC4.out _))))
  (go_big_quiet_step (fail))
  (go_big_quiet_step (fail))
  (go_big_quiet_step (fail))
  (first | (go_big_quiet_want; refine quiet_load_agg 46 _ (by rfl) (gx) 0 (by rfl) (whc a A xr xi xo) _ r2.out.lt (lrow_cells r2.out) Tryz.underlying46 (by rfl) (info_whU ..) ?_; simp only [Act.put, List.setIfInBounds_toArray, List.set_cons_succ, List.set_cons_zero]; go_big_quiet_on) | (go_big_quiet_want; refine quiet_load_agg 46 _ (by rfl) (gy) 0 (by rfl) (whc b B yr yi yo) _ r3.out.lt (lrow_cells r3.out) Tryz.underlying46 (by rfl) (info_whU ..) ?_; simp only [Act.put, List.setIfInBounds_toArray, List.set_cons_succ, List.set_cons_zero]; go_big_quiet_on) | (go_big_quiet_want; refine quiet_load_agg 46 _ (by rfl) (w.heap.size) 0 (by rfl) (whc a A ar ai ao) _ r0.out.lt (lrow_cells r0.out) Tryz.underlying46 (by rfl) (info_whU ..) ?_; simp only [Act.put, List.setIfInBounds_toArray, List.set_cons_succ, List.set_cons_zero]; go_big_quiet_on) | (go_big_quiet_want; refine quiet_load_agg 46 _ (by rfl) (w.heap.size + 1) 0 (by rfl) (whc b B br bi bo) _ r1.out.lt (lrow_cells r1.out) Tryz.underlying46 (by rfl) (info_whU ..) ?_; simp only [Act.put, List.setIfInBounds_toArray, List.set_cons_succ, List.set_cons_zero]; go_big_quiet_on) | (go_big_quiet_step (fail)))
  (first | (go_big_quiet_want; refine quiet_load_agg 46 _ (by rfl) (gx) 0 (by rfl) (whc a A xr xi xo) _ r2.out.lt (lrow_cells r2.out) Tryz.underlying46 (by rfl) (info_whU ..) ?_; simp only [Act.put, List.setIfInBounds_toArray, List.set_cons_succ, List.set_cons_zero]; go_big_quiet_on) | (go_big_quiet_want; refine quiet_load_agg 46 _ (by rfl) (gy) 0 (by rfl) (whc b B yr yi yo) _ r3.out.lt (lrow_cells r3.out) Tryz.underlying46 (by rfl) (info_whU ..) ?_; simp only [Act.put, List.setIfInBounds_toArray, List.set_cons_succ, List.set_cons_zero]; go_big_quiet_on) | (go_big_quiet_want; refine quiet_load_agg 46 _ (by rfl) (w.heap.size) 0 (by rfl) (whc a A ar ai ao) _ r0.out.lt (lrow_cells r0.out) Tryz.underlying46 (by rfl) (info_whU ..) ?_; simp only [Act.put, List.setIfInBounds_toArray, List.set_cons_succ, List.set_cons_zero]; go_big_quiet_on) | (go_big_quiet_want; refine quiet_load_agg 46 _ (by rfl) (w.heap.size + 1) 0 (by rfl) (whc b B br bi bo) _ r1.out.lt (lrow_cells r1.out) Tryz.underlying46 (by rfl) (info_whU ..) ?_; simp only [Act.put, List.setIfInBounds_toArray, List.set_cons_succ, List.set_cons_zero]; go_big_quiet_on) | (go_big_quiet_step (fail)))
  (go_big_quiet_step ((go_at_call 14; exact calls_later (HC5.out _))))
  (go_big_quiet_step (fail))
  (go_big_quiet_step (fail))
  (first | (go_big_quiet_want; refine quiet_load_agg 46 _ (by rfl) (gx) 0 (by rfl) (whc a A xr xi xo) _ r2.out.lt (lrow_cells r2.out) Tryz.underlying46 (by rfl) (info_whU ..) ?_; simp only [Act.put, List.setIfInBounds_toArray, List.set_cons_succ, List.set_cons_zero]; go_big_quiet_on) | (go_big_quiet_want; refine quiet_load_agg 46 _ (by rfl) (gy) 0 (by rfl) (whc b B yr yi yo) _ r3.out.lt (lrow_cells r3.out) Tryz.underlying46 (by rfl) (info_whU ..) ?_; simp only [Act.put, List.setIfInBounds_toArray, List.set_cons_succ, List.set_cons_zero]; go_big_quiet_on) | (go_big_quiet_want; refine quiet_load_agg 46 _ (by rfl) (w.heap.size) 0 (by rfl) (whc a A ar ai ao) _ r0.out.lt (lrow_cells r0.out) Tryz.underlying46 (by rfl) (info_whU ..) ?_; simp only [Act.put, List.setIfInBounds_toArray, List.set_cons_succ, List.set_cons_zero]; go_big_quiet_on) | (go_big_quiet_want; refine quiet_load_agg 46 _ (by rfl) (w.heap.size + 1) 0 (by rfl) (whc b B br bi bo) _ r1.out.lt (lrow_cells r1.out) Tryz.underlying46 (by rfl) (info_whU ..) ?_; simp only [Act.put, List.setIfInBounds_toArray, List.set_cons_succ, List.set_cons_zero]; go_big_quiet_on) | (go_big_quiet_step (fail)))
  (first | (go_big_quiet_want; refine quiet_load_agg 46 _ (by rfl) (gx) 0 (by rfl) (whc a A xr xi xo) _ r2.out.lt (lrow_cells r2.out) Tryz.underlying46 (by rfl) (info_whU ..) ?_; simp only [Act.put, List.setIfInBounds_toArray, List.set_cons_succ, List.set_cons_zero]; go_big_quiet_on) | (go_big_quiet_want; refine quiet_load_agg 46 _ (by rfl) (gy) 0 (by rfl) (whc b B yr yi yo) _ r3.out.lt (lrow_cells r3.out) Tryz.underlying46 (by rfl) (info_whU ..) ?_; simp only [Act.put, List.setIfInBounds_toArray, List.set_cons_succ, List.set_cons_zero]; go_big_quiet_on) | (go_big_quiet_want; refine quiet_load_agg 46 _ (by rfl) (w.heap.size) 0 (by rfl) (whc a A ar ai ao) _ r0.out.lt (lrow_cells r0.out) Tryz.underlying46 (by rfl) (info_whU ..) ?_; simp only [Act.put, List.setIfInBounds_toArray, List.set_cons_succ, List.set_cons_zero]; go_big_quiet_on) | (go_big_quiet_want; refine quiet_load_agg 46 _ (by rfl) (w.heap.size + 1) 0 (by rfl) (whc b B br bi bo) _ r1.out.lt (lrow_cells r1.out) Tryz.underlying46 (by rfl) (info_whU ..) ?_; simp only [Act.put, List.setIfInBounds_toArray, List.set_cons_succ, List.set_cons_zero]; go_big_quiet_on) | (go_big_quiet_step (fail)))
  (go_big_quiet_step ((go_at_call 14; exact calls_later (HC6.out _))))
  (go_big_quiet_step (fail))
  (go_big_quiet_step (fail))
  (go_big_quiet_step ((go_at_call 10; exact calls_later (HC7.out _))))
  (go_big_quiet_step (fail))
  (go_big_quiet_step (fail))
  refine wpQuiet_nil ?_
  rintro _ ⟨yq, rfl⟩
  go_wp2
  go_ret
  exact ⟨by first | done | rfl, BB.out.trans (yq.2.mono BB.out.size)⟩
section
variable {H : Type} {enc : TypeId × Value → H} {w : World} {base : Nat} {held : Bool}
theorem open_whole1 {b0 : Nat} {v : Value} {d : DataW H} {p : List MemPlace} (hv : Value.okWide Tryz.prog w .any b0 46 v) (h : DataW.Trod enc Tryz.prog w base (fun _ => true) held 46 v d p) (hz : ∀ q ∈ d.weights Tryz.prog 46, q ≤ reachBytes) : ∃ (K : Cp) (S : St) (vr vi vo : Value), v = .agg (whc K S vr vi vo) ∧ Bs S vr vi vo w ∧ StW S ∧ S.ram.length ≤ 140737488351232 ∧ S.inp.length ≤ 140737488351232 ∧ S.out.length ≤ 140737488351232 := by
  obtain ⟨cs, rfl, _⟩ := okWide_struct Tryz.underlying46 hv
  obtain ⟨fuel, hf⟩ := h
  obtain ⟨K, S, ar, ai, ao, cr, ci, co, e, h1, h2, h3, h4, h5⟩ := open_whole hf hz
  refine ⟨K, S, _, _, _, ?_, h1, h2, h3, h4, h5⟩
  cases cs
  simpa [Value.cells] using congrArg List.toArray e
end
end Go.Proofs.YtidfndgedopghaaGreatDoor
namespace Go.Proofs.YtidfndgedopghaaGreatDoor
set_option linter.unusedVariables false
set_option maxRecDepth 100000
set_option maxHeartbeats 4000000
open Go.ChangeShapes Go.WideShapes Go.ChangeAt Go.RowKit Go.Deep
def ssc (b : Cp) (B : St) (br bi bo : Value) (a : Cp) (A : St) (ar ai ao : Value) (K : Cp) (tk ex so : Bool) (vi : Value) (r : Rw) : Array Value := whc b B br bi bo ++ (whc a A ar ai ao ++ (cpc K ++ (#[.bool tk, .bool ex, .bool so, vi] ++ rwc r)))
section
variable (b : Cp) (B : St) (br bi bo : Value) (a : Cp) (A : St) (ar ai ao : Value) (K : Cp) (tk ex so : Bool) (vi : Value) (r : Rw)
theorem ssc_wb : ∀ j v, (whc b B br bi bo)[j]? = some v → (ssc b B br bi bo a A ar ai ao K tk ex so vi r)[0 + j]? = some v := fun j v h => by
  have hj := (Array.getElem?_eq_some_iff.1 h).1
  unfold ssc
  rw [Nat.zero_add, Array.getElem?_append_left hj]
  exact h
theorem ssc_wa : ∀ j v, (whc a A ar ai ao)[j]? = some v → (ssc b B br bi bo a A ar ai ao K tk ex so vi r)[97 + j]? = some v := fun j v h => by
  have hj := (Array.getElem?_eq_some_iff.1 h).1
  have h1 := whc_size b B br bi bo
  unfold ssc
  rw [Array.getElem?_append_right (by omega), Array.getElem?_append_left (by omega)]
  rw [show 97 + j - (whc b B br bi bo).size = j by omega]
  exact h
theorem ssc_k (j : Nat) : (ssc b B br bi bo a A ar ai ao K tk ex so vi r)[194 + j]? = (cpc K ++ (#[.bool tk, .bool ex, .bool so, vi] ++ rwc r))[j]? := by
  have h1 := whc_size b B br bi bo
  have h2 := whc_size a A ar ai ao
  unfold ssc
  rw [Array.getElem?_append_right (by omega), Array.getElem?_append_right (by omega)]
  rw [show 194 + j - (whc b B br bi bo).size - (whc a A ar ai ao).size = j by omega]
theorem ssc_hi (j : Nat) : (ssc b B br bi bo a A ar ai ao K tk ex so vi r)[276 + j]? = (#[.bool tk, .bool ex, .bool so, vi] ++ rwc r)[j]? := by
  have h3 := cpc_size K
  rw [show 276 + j = 194 + (82 + j) by omega, ssc_k, Array.getElem?_append_right (by omega)]
  rw [show 82 + j - (cpc K).size = j by omega]
theorem ssc_bc (j : Nat) (v : Value) (h : (cpc b)[j]? = some v) : (ssc b B br bi bo a A ar ai ao K tk ex so vi r)[j]? = some v := by
  have := ssc_wb b B br bi bo a A ar ai ao K tk ex so vi r (0 + j) v (whc_c b B br bi bo j v h)
  rwa [Nat.zero_add, Nat.zero_add] at this
theorem ssc_bs (j : Nat) (v : Value) (h : (stc B br bi bo)[j]? = some v) : (ssc b B br bi bo a A ar ai ao K tk ex so vi r)[82 + j]? = some v := by
  have := ssc_wb b B br bi bo a A ar ai ao K tk ex so vi r (82 + j) v (whc_b b B br bi bo j v h)
  rwa [Nat.zero_add] at this
theorem ssc_ac (j : Nat) (v : Value) (h : (cpc a)[j]? = some v) : (ssc b B br bi bo a A ar ai ao K tk ex so vi r)[97 + j]? = some v := by
  have := ssc_wa b B br bi bo a A ar ai ao K tk ex so vi r (0 + j) v (whc_c a A ar ai ao j v h)
  rwa [Nat.zero_add] at this
theorem ssc_as (j : Nat) (v : Value) (h : (stc A ar ai ao)[j]? = some v) : (ssc b B br bi bo a A ar ai ao K tk ex so vi r)[179 + j]? = some v := by
  have := ssc_wa b B br bi bo a A ar ai ao K tk ex so vi r (82 + j) v (whc_b a A ar ai ao j v h)
  rwa [show 97 + (82 + j) = 179 + j by omega] at this
theorem ssc_kc (j : Nat) (v : Value) (h : (cpc K)[j]? = some v) : (ssc b B br bi bo a A ar ai ao K tk ex so vi r)[194 + j]? = some v := by
  have hj := (Array.getElem?_eq_some_iff.1 h).1
  rw [ssc_k, Array.getElem?_append_left hj]
  exact h
theorem ssc_w (j : Nat) (v : Value) (h : (#[.bool tk, .bool ex, .bool so, vi] : Array Value)[j]? = some v) : (ssc b B br bi bo a A ar ai ao K tk ex so vi r)[276 + j]? = some v := by
  have hj := (Array.getElem?_eq_some_iff.1 h).1
  rw [ssc_hi, Array.getElem?_append_left hj]
  exact h
theorem ssc_r (j : Nat) (v : Value) (h : (rwc r)[j]? = some v) : (ssc b B br bi bo a A ar ai ao K tk ex so vi r)[280 + j]? = some v := by
  rw [show 280 + j = 276 + (4 + j) by omega, ssc_hi, Array.getElem?_append_right (by show 4 ≤ 4 + j; omega)]
  rw [show 4 + j - (#[.bool tk, .bool ex, .bool so, vi] : Array Value).size = j by show 4 + j - 4 = j; omega]
  exact h
theorem ssc_size : (ssc b B br bi bo a A ar ai ao K tk ex so vi r).size = 296 := by
  have h1 := whc_size b B br bi bo
  have h2 := whc_size a A ar ai ao
  have h3 := cpc_size K
  have h4 := rwc_size r
  unfold ssc
  simp only [Array.size_append, h1, h2, h3, h4]
  rfl
theorem info_ss : (Tryz.prog.info? 79).map (·.size) = some (ssc b B br bi bo a A ar ai ao K tk ex so vi r).size := by rw [ssc_size]; kernel_rfl
end
theorem sTr_c (b : Cp) (B : St) (br bi bo : Value) (a : Cp) (A : St) (ar ai ao : Value) (K : Cp) (tk ex so : Bool) (vi : Value) (r : Rw) (w : World) : Calls Tryz.prog 149 #[.agg (ssc b B br bi bo a A ar ai ao K tk ex so vi r)] w fun e w' => e = .returned (.bool (tpB r)) ∧ Below w.heap.size w w' := by
  obtain ⟨W0, hW0, r0, b0, s0⟩ := start1 w (ssc b B br bi bo a A ar ai ao K tk ex so vi r) 79
  have BB := Hid.mkU b0.out
  clear s0 b0
  have HM : Hid ((tpB r) = ((r.kd == 2) || (r.kd == 3))) := rfl
  have c0_r_kd : W0.cell? ⟨w.heap.size, 281, none⟩ = some (.int .i64 r.kd) := (r0.out.cell 281).trans (ssc_r _ _ _ _ _ _ _ _ _ _ _ _ _ _ _ _ 1 _ rfl)
  generalize hZ : (tpB r) = Z at HM ⊢
  clear hZ
  go_enter Tryz.func149, Tryz.ntmps149
  go_upto_region 1 with fail
  clear hW0
  cases q1 : (r.kd == 2)
  focus
    cases q2 : (r.kd == 3)
    focus
      have HV : Hid (Z = false) := (by unfold Hid; rw [HM.out]; first | (rw [q1, q2]; done) | (rw [q1, q2]; rfl))
    rotate_left 1
    focus
      have HV : Hid (Z = true) := (by unfold Hid; rw [HM.out]; first | (rw [q1, q2]; done) | (rw [q1, q2]; rfl))
    rotate_left 1
  rotate_left 2
  focus
    have HV : Hid (Z = true) := (by unfold Hid; rw [HM.out]; first | (rw [q1]; done) | (rw [q1]; rfl))
  rotate_left 1
  all_goals
    clear HM
    go_wp2
    go_ret
    exact ⟨by rw [HV.out]; first | done | rfl, BB.out⟩
theorem sSy_c (b : Cp) (B : St) (br bi bo : Value) (a : Cp) (A : St) (ar ai ao : Value) (K : Cp) (tk ex so : Bool) (vi : Value) (r : Rw) (w : World) : Calls Tryz.prog 152 #[.agg (ssc b B br bi bo a A ar ai ao K tk ex so vi r)] w fun e w' => e = .returned (.bool (wcB r)) ∧ Below w.heap.size w w' := by
  obtain ⟨W0, hW0, r0, b0, s0⟩ := start1 w (ssc b B br bi bo a A ar ai ao K tk ex so vi r) 79
  have BB := Hid.mkU b0.out
  clear s0 b0
  have HM : Hid ((wcB r) = ((r.kd == 1) && (bits .and .u32 r.raw 127 == 115))) := rfl
  have c0_r_kd : W0.cell? ⟨w.heap.size, 281, none⟩ = some (.int .i64 r.kd) := (r0.out.cell 281).trans (ssc_r _ _ _ _ _ _ _ _ _ _ _ _ _ _ _ _ 1 _ rfl)
  have c0_r_raw : W0.cell? ⟨w.heap.size, 284, none⟩ = some (.int .u32 r.raw) := (r0.out.cell 284).trans (ssc_r _ _ _ _ _ _ _ _ _ _ _ _ _ _ _ _ 4 _ rfl)
  generalize hZ : (wcB r) = Z at HM ⊢
  clear hZ
  go_enter Tryz.func152, Tryz.ntmps152
  go_upto_region 1 with fail
  clear hW0
  cases q1 : (r.kd == 1) with
  | true =>
    cases q2 : (bits .and .u32 r.raw 127 == 115) with
    | true =>
      have HV : Hid (Z = true) := (by unfold Hid; rw [HM.out]; first | (rw [q1, q2]; done) | (rw [q1, q2]; rfl))
      clear HM
      go_wp2
      go_ret
      exact ⟨by rw [HV.out]; first | done | rfl, BB.out⟩
    | false =>
      have HV : Hid (Z = false) := (by unfold Hid; rw [HM.out]; first | (rw [q1, q2]; done) | (rw [q1, q2]; rfl))
      clear HM
      go_wp2
      go_ret
      exact ⟨by rw [HV.out]; first | done | rfl, BB.out⟩
  | false =>
    have HV : Hid (Z = false) := (by unfold Hid; rw [HM.out]; first | (rw [q1]; done) | (rw [q1]; rfl))
    clear HM
    go_wp2
    go_ret
    exact ⟨by rw [HV.out]; first | done | rfl, BB.out⟩
/-- What size answers. -/
def szV (r : Rw) : Int := if r.mem == 0 then 0 else if decide (r.sz < 1) then 0 else if decide (8 < r.sz) then 0 else r.sz
theorem sSz_c (b : Cp) (B : St) (br bi bo : Value) (a : Cp) (A : St) (ar ai ao : Value) (K : Cp) (tk ex so : Bool) (vi : Value) (r : Rw) (w : World) : Calls Tryz.prog 146 #[.agg (ssc b B br bi bo a A ar ai ao K tk ex so vi r)] w fun e w' => e = .returned (.int .i64 (szV r)) ∧ Below w.heap.size w w' := by
  obtain ⟨W0, hW0, r0, b0, s0⟩ := start1 w (ssc b B br bi bo a A ar ai ao K tk ex so vi r) 79
  have HM : Hid (szV r = if r.mem == 0 then 0 else if decide (r.sz < 1) then 0 else if decide (8 < r.sz) then 0 else r.sz) := rfl
  generalize szV r = Z at HM ⊢
  have c1 : W0.cell? ⟨w.heap.size, 290, none⟩ = some (.int .i64 r.mem) := (r0.out.cell 290).trans (ssc_r _ _ _ _ _ _ _ _ _ _ _ _ _ _ _ _ 10 _ rfl)
  have c2 : W0.cell? ⟨w.heap.size, 292, none⟩ = some (.int .i64 r.sz) := (r0.out.cell 292).trans (ssc_r _ _ _ _ _ _ _ _ _ _ _ _ _ _ _ _ 12 _ rfl)
  clear s0
  go_enter Tryz.func146, Tryz.ntmps146
  go_upto_region 1 with fail
  clear hW0
  cases q1 : (r.mem == 0)
  focus
    cases q2 : decide (r.sz < 1)
    focus
      cases q3 : decide (8 < r.sz)
      focus
        have HV : Hid (Z = r.sz) := (by unfold Hid; rw [HM.out, q1, q2, q3]; rfl)
      rotate_left 1
      focus
        have HV : Hid (Z = 0) := (by unfold Hid; rw [HM.out, q1, q2, q3]; rfl)
      rotate_left 1
    rotate_left 2
    focus
      have HV : Hid (Z = 0) := (by unfold Hid; rw [HM.out, q1, q2]; rfl)
    rotate_left 1
  rotate_left 3
  focus
    have HV : Hid (Z = 0) := (by unfold Hid; rw [HM.out, q1]; rfl)
  rotate_left 1
  all_goals
    clear HM
    go_wp2
    go_ret
    exact ⟨by rw [HV.out]; first | done | rfl, b0.out⟩
def inB (r : Rw) (t : BitVec 64) : Bool := decide (n64 r.ad ≤ n64 t) && decide (n64 (t - r.ad) < IntKind.u64.wrap (szV r))
theorem sIn_c (b : Cp) (B : St) (br bi bo : Value) (a : Cp) (A : St) (ar ai ao : Value) (K : Cp) (tk ex so : Bool) (vi : Value) (r : Rw) (t : BitVec 64) (w : World) : Calls Tryz.prog 147 #[.agg (ssc b B br bi bo a A ar ai ao K tk ex so vi r), .int .u64 (n64 t)] w fun e w' => e = .returned (.bool (inB r t)) ∧ Below w.heap.size w w' := by
  have hsub : IntKind.u64.wrap (n64 t - n64 r.ad) = n64 (t - r.ad) := n64_sub t r.ad
  obtain ⟨W0, hW0, r0, b0, s0⟩ := start1 w (ssc b B br bi bo a A ar ai ao K tk ex so vi r) 79
  have BB := Hid.mkU b0.out
  clear s0 b0
  have HM : Hid ((inB r t) = ((decide (n64 r.ad ≤ n64 t)) && (decide (n64 (t - r.ad) < IntKind.u64.wrap (szV r))))) := rfl
  have c0_r_ad : ∀ x : Later W0, x.1.cell? ⟨w.heap.size, 291, none⟩ = some (.int .u64 (n64 r.ad)) := fun x => ((lrow r0.out x).cell 291).trans (ssc_r _ _ _ _ _ _ _ _ _ _ _ _ _ _ _ _ 11 _ rfl)
  have HSZ : Hid (∀ W, Calls Tryz.prog 146 #[.agg (ssc b B br bi bo a A ar ai ao K tk ex so vi r)] W fun e w' => e = .returned (.int .i64 (szV r)) ∧ Below W.heap.size W w') := sSz_c b B br bi bo a A ar ai ao K tk ex so vi r
  generalize hZ : (inB r t) = Z at HM ⊢
  clear hZ
  go_enter Tryz.func147, Tryz.ntmps147
  go_upto_region 1 with fail
  clear hW0
  have hne := later_nonempty W0
  cases q1 : (decide (n64 r.ad ≤ n64 t))
  focus
    have HV : Hid (Z = false) := (by unfold Hid; rw [HM.out]; first | (rw [q1]; done) | (rw [q1]; rfl))
  rotate_left 1
  focus
    cases q2 : (decide (n64 (t - r.ad) < IntKind.u64.wrap (szV r)))
    focus
      have HV : Hid (Z = false) := (by unfold Hid; rw [HM.out]; first | (rw [q1, q2]; done) | (rw [q1, q2]; rfl))
    rotate_left 1
    focus
      have HV : Hid (Z = true) := (by unfold Hid; rw [HM.out]; first | (rw [q1, q2]; done) | (rw [q1, q2]; rfl))
    rotate_left 1
  rotate_left 2
  all_goals
    clear HM
    refine wp_region_later (x0 := Later.start W0) (by kernel_rfl) (by kernel_rfl) ?_
    iterate 11 (go_big_quiet_step (fail))
    (first | (go_big_quiet_want; refine quiet_load_agg 79 _ (by rfl) (w.heap.size) 0 (by rfl) (ssc b B br bi bo a A ar ai ao K tk ex so vi r) _ r0.out.lt (lrow_cells r0.out) Tryz.underlying79 (by rfl) (info_ss ..) ?_; simp only [Act.put, List.setIfInBounds_toArray, List.set_cons_succ, List.set_cons_zero]; go_big_quiet_on) | (go_big_quiet_step (fail)))
    (go_big_quiet_step ((go_at_call 146; exact calls_later (HSZ.out _))))
    iterate 4 (go_big_quiet_step (fail))
    refine wpQuiet_nil ?_
    rintro _ ⟨yq, rfl⟩
    go_wp2
    go_ret
    exact ⟨by rw [HV.out]; first | done | rfl, BB.out.trans (yq.2.mono BB.out.size)⟩
end Go.Proofs.YtidfndgedopghaaGreatDoor
