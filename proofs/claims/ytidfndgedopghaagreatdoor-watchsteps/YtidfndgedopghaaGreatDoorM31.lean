/-
  Og.
-/
import Derived.Test.YtidfndgedopghaaGreatDoorM30
namespace Go.Proofs.YtidfndgedopghaaGreatDoor
set_option linter.unusedVariables false
set_option maxRecDepth 100000
set_option maxHeartbeats 4000000
open Go.ChangeShapes Go.WideShapes Go.ChangeAt Go.RowKit Go.Deep
def rgV (a : Cp) (A : St) (b : Cp) (B : St) : Bool := ((eqC (PR a) (PR b) && rdB A B) && ((A.ram.length : Int) == (B.ram.length : Int))) && swB (gr5 (PR a)) A.ram B.ram
theorem rg_eq (a : Cp) (A : St) (b : Cp) (B : St) (h1 : AllB A.inp) (h2 : AllB B.inp) (h3 : AllB A.out) (h4 : AllB B.out) : rgV a A b B = agV a A b B := by
  unfold rgV agV
  rw [rd_eq _ _ h1 h2 h3 h4]
theorem sw_hit (f : BitVec 64 → Bool) (B A : List Int) (k : Nat) (hk : k < B.length) (h : ((A.getD k 0 == B.getD k 0) || !f (BitVec.ofNat 64 (2147483648 + k))) = false) : swB f B A = false := all_hit hk h
set_option maxHeartbeats 16000000 in
theorem ragree_c (a : Cp) (A : St) (ar ai ao : Value) (b : Cp) (B : St) (br bi bo : Value) (w : World) (hA : Bs A ar ai ao w) (hB : Bs B br bi bo w) (hL : A.ram.length ≤ 140737488351232) (l1 : A.inp.length ≤ 140737488351232) (l2 : B.inp.length ≤ 140737488351232) (l3 : A.out.length ≤ 140737488351232) (l4 : B.out.length ≤ 140737488351232) : Calls Tryz.prog 13 #[.agg (whc a A ar ai ao), .agg (whc b B br bi bo)] w fun e w' => e = .returned (.bool (rgV a A b B)) ∧ Below w.heap.size w w' := by
  have hz := zero_cpu
  obtain ⟨W0, hW0, r0, r1, b0, s0⟩ := start2 w (whc a A ar ai ao) (whc b B br bi bo) 46 46
  have HA := Hid.mkU hA
  have HB := Hid.mkU hB
  have HL := Hid.mkU hL
  have HDV0 : Hid (∀ W, Below w.heap.size w W → Calls Tryz.prog 28 #[.agg (stc A ar ai ao), .agg (stc B br bi bo)] W fun e w' => e = .returned (.bool (rdB A B)) ∧ Below W.heap.size W w') := fun W h => rdev_c A B ar ai ao br bi bo W (hA.later h) (hB.later h) l1 l2 l3 l4
  clear hA hB hL l1 l2 l3 l4 s0
  have HM : Hid (rgV a A b B = (((eqC (PR a) (PR b) && rdB A B) && ((A.ram.length : Int) == (B.ram.length : Int))) && swB (gr5 (PR a)) A.ram B.ram)) := rfl
  have HSH : Hid (∀ k, k < A.ram.length → ((B.ram.getD k 0 == A.ram.getD k 0) || !gr5 (PR a) (BitVec.ofNat 64 (2147483648 + k))) = false → swB (gr5 (PR a)) A.ram B.ram = false) := fun k h1 h2 => all_hit h1 h2
  have HSN : Hid ((∀ k, k < A.ram.length → ((B.ram.getD k 0 == A.ram.getD k 0) || !gr5 (PR a) (BitVec.ofNat 64 (2147483648 + k))) = true) → swB (gr5 (PR a)) A.ram B.ram = true) := fun h => all_none h
  generalize rgV a A b B = Z at HM ⊢
  have C0 : Hid (∀ j v, (cpc a)[j]? = some v → W0.cell? ⟨w.heap.size, 0 + j, none⟩ = some v) := fun j v hv => (r0.out.cell (0 + j)).trans (whc_c a A ar ai ao j v hv)
  go_enter Tryz.func13, Tryz.ntmps13
  go_upto_region 1 with fail
  clear hW0
  go_upto_region 2 with (first | (refine wpList_load_agg (by rfl) 32 _ (by rfl) w.heap.size 0 (by rfl) (cpc a) _ C0.out Tryz.underlying32 (by rfl) (info_cpuU _) ?_) | (go_at_call 20; refine (rPr_c a _).mono ?_; rintro e w1 ⟨rfl, hb1⟩; have HB1 : Hid (Below W0.heap.size W0 w1) := hb1; clear hb1) | (refine wpList_store_new (by rfl) 32 _ _ (by rfl) (by rfl) (cpc cz) (cpc (PR a)) (by rfl) (by rfl) (info_cpuU _) (by rw [cpc_size, cpc_size]) (cpc_ones _) ?_))
  refine on_W (motive := fun W => Code.wp _ _ _ _ W) (Q := fun W => Row W w.heap.size (whc a A ar ai ao) 46 ∧ Row W (w.heap.size + 1) (whc b B br bi bo) 46 ∧ Row W w1.heap.size (cpc (PR a)) 32 ∧ Below w.heap.size w W) ⟨(r0.out.later HB1.out r0.out.lt).old (r0.out.later HB1.out r0.out.lt).lt _, (r1.out.later HB1.out r1.out.lt).old (r1.out.later HB1.out r1.out.lt).lt _, Row.new _ _ _, (b0.out.trans (HB1.out.mono b0.out.size)).trans ((below_al _ _).mono (b0.out.trans (HB1.out.mono b0.out.size)).size)⟩ ?_
  generalize w1.heap.size = g5 at *
  clear r0 r1 b0 HB1 C0 hz
  rintro W1 ⟨q0, q1, q5, qb⟩
  have r0 := Hid.mkU q0
  have r1 := Hid.mkU q1
  have r5 := Hid.mkU q5
  have BB := Hid.mkU qb
  clear q0 q1 q5 qb
  have HAb := Hid.mkU (HA.out.later BB.out)
  have HBb := Hid.mkU (HB.out.later BB.out)
  have HEC := Hid.mkU (fun w => eq_cpuU (PR a) (PR b) w)
  have HPb : Hid (∀ x : Later W1, Calls Tryz.prog 20 #[.agg (cpc b)] x.1 fun e w' => e = .returned (.agg (cpc (PR b))) ∧ Below x.1.heap.size x.1 w') := fun x => rPr_c b x.1
  have HDV : Hid (∀ x : Later W1, Calls Tryz.prog 28 #[.agg (stc A ar ai ao), .agg (stc B br bi bo)] x.1 fun e w' => e = .returned (.bool (rdB A B)) ∧ Below x.1.heap.size x.1 w') := fun x => HDV0.out x.1 (BB.out.trans (x.2.mono BB.out.size))
  have HGR : Hid (∀ (t : BitVec 64) (W : World), Calls Tryz.prog 29 #[.agg (pc (PR a).c (PR a).a), .int .u64 (n64 t), .int .i64 5] W fun e w' => e = .returned (.bool (gr5 (PR a) t)) ∧ Below W.heap.size W w') := fun t W => rGranted_c (PR a).c (PR a).a t 5 W
  have c0r : ∀ x : Later W1, x.1.cell? ⟨w.heap.size, 82, none⟩ = some ar := fun x => ((lrow r0.out x).cell 82).trans (whc_b a A ar ai ao 0 _ rfl)
  have c1r : ∀ x : Later W1, x.1.cell? ⟨w.heap.size + 1, 82, none⟩ = some br := fun x => ((lrow r1.out x).cell 82).trans (whc_b b B br bi bo 0 _ rfl)
  have hne := later_nonempty W1
  obtain ⟨xa, ca, har, -, -, hra⟩ := HAb.out.r
  obtain ⟨xb, cb, hbr, -, -, hrb⟩ := HBb.out.r
  have HRA := Hid.mkU hra
  have HRB := Hid.mkU hrb
  subst har hbr
  clear HAb HBb HA HB HDV0 hra hrb
  generalize eqC (PR a) (PR b) = z1 at *
  generalize rdB A B = z2 at *
  generalize swB (gr5 (PR a)) A.ram B.ram = z4 at *
  cases z1 with
  | false =>
    have HV : Hid (Z = false) := by unfold Hid; rw [HM.out]; rfl
    clear HM HSH HSN
    refine wp_region_later (x0 := Later.start W1) (by kernel_rfl) (by kernel_rfl) ?_
    (first | (go_big_quiet_want; refine quiet_load_agg 32 _ (by rfl) (g5) 0 (by rfl) (cpc (PR a)) _ r5.out.lt (lrow_cells r5.out) Tryz.underlying32 (by rfl) (info_cpuU _) ?_; simp only [Act.put, List.setIfInBounds_toArray, List.set_cons_succ, List.set_cons_zero]; go_big_quiet_on) | (go_big_quiet_want; refine quiet_load_agg 32 _ (by rfl) (w.heap.size + 1) 0 (by rfl) (cpc b) _ r1.out.lt (fun j v hv => (r1.out.cell (0 + j)).trans (whc_c b B _ bi bo j v hv)) Tryz.underlying32 (by rfl) (info_cpuU _) ?_; simp only [Act.put, List.setIfInBounds_toArray, List.set_cons_succ, List.set_cons_zero]; go_big_quiet_on) | (go_big_quiet_want; refine quiet_load_agg 44 _ (by rfl) (w.heap.size) 82 (by rfl) (stc A (.slice xa A.ram.length ca) ai ao) _ r0.out.lt (fun j v hv => (r0.out.cell (82 + j)).trans (whc_b a A _ ai ao j v hv)) Tryz.underlying44 (by rfl) (info_bst _ _ _ _) ?_; simp only [Act.put, List.setIfInBounds_toArray, List.set_cons_succ, List.set_cons_zero]; go_big_quiet_on) | (go_big_quiet_want; refine quiet_load_agg 44 _ (by rfl) (w.heap.size + 1) 82 (by rfl) (stc B (.slice xb B.ram.length cb) bi bo) _ r1.out.lt (fun j v hv => (r1.out.cell (82 + j)).trans (whc_b b B _ bi bo j v hv)) Tryz.underlying44 (by rfl) (info_bst _ _ _ _) ?_; simp only [Act.put, List.setIfInBounds_toArray, List.set_cons_succ, List.set_cons_zero]; go_big_quiet_on) | (go_big_quiet_step (fail)))
    (go_big_quiet_step (fail))
    (first | (go_big_quiet_want; refine quiet_load_agg 32 _ (by rfl) (g5) 0 (by rfl) (cpc (PR a)) _ r5.out.lt (lrow_cells r5.out) Tryz.underlying32 (by rfl) (info_cpuU _) ?_; simp only [Act.put, List.setIfInBounds_toArray, List.set_cons_succ, List.set_cons_zero]; go_big_quiet_on) | (go_big_quiet_want; refine quiet_load_agg 32 _ (by rfl) (w.heap.size + 1) 0 (by rfl) (cpc b) _ r1.out.lt (fun j v hv => (r1.out.cell (0 + j)).trans (whc_c b B _ bi bo j v hv)) Tryz.underlying32 (by rfl) (info_cpuU _) ?_; simp only [Act.put, List.setIfInBounds_toArray, List.set_cons_succ, List.set_cons_zero]; go_big_quiet_on) | (go_big_quiet_want; refine quiet_load_agg 44 _ (by rfl) (w.heap.size) 82 (by rfl) (stc A (.slice xa A.ram.length ca) ai ao) _ r0.out.lt (fun j v hv => (r0.out.cell (82 + j)).trans (whc_b a A _ ai ao j v hv)) Tryz.underlying44 (by rfl) (info_bst _ _ _ _) ?_; simp only [Act.put, List.setIfInBounds_toArray, List.set_cons_succ, List.set_cons_zero]; go_big_quiet_on) | (go_big_quiet_want; refine quiet_load_agg 44 _ (by rfl) (w.heap.size + 1) 82 (by rfl) (stc B (.slice xb B.ram.length cb) bi bo) _ r1.out.lt (fun j v hv => (r1.out.cell (82 + j)).trans (whc_b b B _ bi bo j v hv)) Tryz.underlying44 (by rfl) (info_bst _ _ _ _) ?_; simp only [Act.put, List.setIfInBounds_toArray, List.set_cons_succ, List.set_cons_zero]; go_big_quiet_on) | (go_big_quiet_step (fail)))
    (go_big_quiet_step ((go_at_call 20; exact calls_later (HPb.out _))))
    (go_big_quiet_want; refine quiet_neq_agg 32 _ _ _ (by rfl) (cpc (PR a)) (cpc (PR b)) (by rfl) (by rfl) _ HEC.out (fun w => eqN_cpuU _ _ _ _ w) true (by rfl) ?_; simp only [Act.put, List.setIfInBounds_toArray, List.set_cons_succ, List.set_cons_zero]; go_big_quiet_on)
    (go_big_quiet_step (fail))
    (go_big_quiet_step (fail))
    (first | (go_big_quiet_want; refine quiet_load_agg 32 _ (by rfl) (g5) 0 (by rfl) (cpc (PR a)) _ r5.out.lt (lrow_cells r5.out) Tryz.underlying32 (by rfl) (info_cpuU _) ?_; simp only [Act.put, List.setIfInBounds_toArray, List.set_cons_succ, List.set_cons_zero]; go_big_quiet_on) | (go_big_quiet_want; refine quiet_load_agg 32 _ (by rfl) (w.heap.size + 1) 0 (by rfl) (cpc b) _ r1.out.lt (fun j v hv => (r1.out.cell (0 + j)).trans (whc_c b B _ bi bo j v hv)) Tryz.underlying32 (by rfl) (info_cpuU _) ?_; simp only [Act.put, List.setIfInBounds_toArray, List.set_cons_succ, List.set_cons_zero]; go_big_quiet_on) | (go_big_quiet_want; refine quiet_load_agg 44 _ (by rfl) (w.heap.size) 82 (by rfl) (stc A (.slice xa A.ram.length ca) ai ao) _ r0.out.lt (fun j v hv => (r0.out.cell (82 + j)).trans (whc_b a A _ ai ao j v hv)) Tryz.underlying44 (by rfl) (info_bst _ _ _ _) ?_; simp only [Act.put, List.setIfInBounds_toArray, List.set_cons_succ, List.set_cons_zero]; go_big_quiet_on) | (go_big_quiet_want; refine quiet_load_agg 44 _ (by rfl) (w.heap.size + 1) 82 (by rfl) (stc B (.slice xb B.ram.length cb) bi bo) _ r1.out.lt (fun j v hv => (r1.out.cell (82 + j)).trans (whc_b b B _ bi bo j v hv)) Tryz.underlying44 (by rfl) (info_bst _ _ _ _) ?_; simp only [Act.put, List.setIfInBounds_toArray, List.set_cons_succ, List.set_cons_zero]; go_big_quiet_on) | (go_big_quiet_step (fail)))
    (go_big_quiet_step (fail))
    (first | (go_big_quiet_want; refine quiet_load_agg 32 _ (by rfl) (g5) 0 (by rfl) (cpc (PR a)) _ r5.out.lt (lrow_cells r5.out) Tryz.underlying32 (by rfl) (info_cpuU _) ?_; simp only [Act.put, List.setIfInBounds_toArray, List.set_cons_succ, List.set_cons_zero]; go_big_quiet_on) | (go_big_quiet_want; refine quiet_load_agg 32 _ (by rfl) (w.heap.size + 1) 0 (by rfl) (cpc b) _ r1.out.lt (fun j v hv => (r1.out.cell (0 + j)).trans (whc_c b B _ bi bo j v hv)) Tryz.underlying32 (by rfl) (info_cpuU _) ?_; simp only [Act.put, List.setIfInBounds_toArray, List.set_cons_succ, List.set_cons_zero]; go_big_quiet_on) | (go_big_quiet_want; refine quiet_load_agg 44 _ (by rfl) (w.heap.size) 82 (by rfl) (stc A (.slice xa A.ram.length ca) ai ao) _ r0.out.lt (fun j v hv => (r0.out.cell (82 + j)).trans (whc_b a A _ ai ao j v hv)) Tryz.underlying44 (by rfl) (info_bst _ _ _ _) ?_; simp only [Act.put, List.setIfInBounds_toArray, List.set_cons_succ, List.set_cons_zero]; go_big_quiet_on) | (go_big_quiet_want; refine quiet_load_agg 44 _ (by rfl) (w.heap.size + 1) 82 (by rfl) (stc B (.slice xb B.ram.length cb) bi bo) _ r1.out.lt (fun j v hv => (r1.out.cell (82 + j)).trans (whc_b b B _ bi bo j v hv)) Tryz.underlying44 (by rfl) (info_bst _ _ _ _) ?_; simp only [Act.put, List.setIfInBounds_toArray, List.set_cons_succ, List.set_cons_zero]; go_big_quiet_on) | (go_big_quiet_step (fail)))
    (go_big_quiet_step ((go_at_call 28; exact calls_later (HDV.out _))))
    (go_big_quiet_step (fail))
    (go_big_quiet_step (fail))
    (go_big_quiet_step (fail))
    (go_big_quiet_step (fail))
    (go_big_quiet_step (fail))
    (go_big_quiet_step (fail))
    (go_big_quiet_step (rfl))
    (go_big_quiet_step (fail))
    (go_big_quiet_step (fail))
    (go_big_quiet_step (fail))
    (go_big_quiet_step (rfl))
    (go_big_quiet_step (fail))
    (go_big_quiet_step (fail))
    refine wpQuiet_nil ?_
    rintro _ ⟨yq, rfl⟩
    go_wp2
    go_ret
    exact ⟨by rw [HV.out]; first | done | rfl, BB.out.trans (yq.2.mono BB.out.size)⟩
  | true =>
    cases z2 with
    | false =>
      have HV : Hid (Z = false) := by unfold Hid; rw [HM.out]; rfl
      clear HM HSH HSN
      refine wp_region_later (x0 := Later.start W1) (by kernel_rfl) (by kernel_rfl) ?_
      (first | (go_big_quiet_want; refine quiet_load_agg 32 _ (by rfl) (g5) 0 (by rfl) (cpc (PR a)) _ r5.out.lt (lrow_cells r5.out) Tryz.underlying32 (by rfl) (info_cpuU _) ?_; simp only [Act.put, List.setIfInBounds_toArray, List.set_cons_succ, List.set_cons_zero]; go_big_quiet_on) | (go_big_quiet_want; refine quiet_load_agg 32 _ (by rfl) (w.heap.size + 1) 0 (by rfl) (cpc b) _ r1.out.lt (fun j v hv => (r1.out.cell (0 + j)).trans (whc_c b B _ bi bo j v hv)) Tryz.underlying32 (by rfl) (info_cpuU _) ?_; simp only [Act.put, List.setIfInBounds_toArray, List.set_cons_succ, List.set_cons_zero]; go_big_quiet_on) | (go_big_quiet_want; refine quiet_load_agg 44 _ (by rfl) (w.heap.size) 82 (by rfl) (stc A (.slice xa A.ram.length ca) ai ao) _ r0.out.lt (fun j v hv => (r0.out.cell (82 + j)).trans (whc_b a A _ ai ao j v hv)) Tryz.underlying44 (by rfl) (info_bst _ _ _ _) ?_; simp only [Act.put, List.setIfInBounds_toArray, List.set_cons_succ, List.set_cons_zero]; go_big_quiet_on) | (go_big_quiet_want; refine quiet_load_agg 44 _ (by rfl) (w.heap.size + 1) 82 (by rfl) (stc B (.slice xb B.ram.length cb) bi bo) _ r1.out.lt (fun j v hv => (r1.out.cell (82 + j)).trans (whc_b b B _ bi bo j v hv)) Tryz.underlying44 (by rfl) (info_bst _ _ _ _) ?_; simp only [Act.put, List.setIfInBounds_toArray, List.set_cons_succ, List.set_cons_zero]; go_big_quiet_on) | (go_big_quiet_step (fail)))
      (go_big_quiet_step (fail))
      (first | (go_big_quiet_want; refine quiet_load_agg 32 _ (by rfl) (g5) 0 (by rfl) (cpc (PR a)) _ r5.out.lt (lrow_cells r5.out) Tryz.underlying32 (by rfl) (info_cpuU _) ?_; simp only [Act.put, List.setIfInBounds_toArray, List.set_cons_succ, List.set_cons_zero]; go_big_quiet_on) | (go_big_quiet_want; refine quiet_load_agg 32 _ (by rfl) (w.heap.size + 1) 0 (by rfl) (cpc b) _ r1.out.lt (fun j v hv => (r1.out.cell (0 + j)).trans (whc_c b B _ bi bo j v hv)) Tryz.underlying32 (by rfl) (info_cpuU _) ?_; simp only [Act.put, List.setIfInBounds_toArray, List.set_cons_succ, List.set_cons_zero]; go_big_quiet_on) | (go_big_quiet_want; refine quiet_load_agg 44 _ (by rfl) (w.heap.size) 82 (by rfl) (stc A (.slice xa A.ram.length ca) ai ao) _ r0.out.lt (fun j v hv => (r0.out.cell (82 + j)).trans (whc_b a A _ ai ao j v hv)) Tryz.underlying44 (by rfl) (info_bst _ _ _ _) ?_; simp only [Act.put, List.setIfInBounds_toArray, List.set_cons_succ, List.set_cons_zero]; go_big_quiet_on) | (go_big_quiet_want; refine quiet_load_agg 44 _ (by rfl) (w.heap.size + 1) 82 (by rfl) (stc B (.slice xb B.ram.length cb) bi bo) _ r1.out.lt (fun j v hv => (r1.out.cell (82 + j)).trans (whc_b b B _ bi bo j v hv)) Tryz.underlying44 (by rfl) (info_bst _ _ _ _) ?_; simp only [Act.put, List.setIfInBounds_toArray, List.set_cons_succ, List.set_cons_zero]; go_big_quiet_on) | (go_big_quiet_step (fail)))
      (go_big_quiet_step ((go_at_call 20; exact calls_later (HPb.out _))))
      (go_big_quiet_want; refine quiet_neq_agg 32 _ _ _ (by rfl) (cpc (PR a)) (cpc (PR b)) (by rfl) (by rfl) _ HEC.out (fun w => eqN_cpuU _ _ _ _ w) false (by rfl) ?_; simp only [Act.put, List.setIfInBounds_toArray, List.set_cons_succ, List.set_cons_zero]; go_big_quiet_on)
      (go_big_quiet_step (fail))
      (go_big_quiet_step (fail))
      (first | (go_big_quiet_want; refine quiet_load_agg 32 _ (by rfl) (g5) 0 (by rfl) (cpc (PR a)) _ r5.out.lt (lrow_cells r5.out) Tryz.underlying32 (by rfl) (info_cpuU _) ?_; simp only [Act.put, List.setIfInBounds_toArray, List.set_cons_succ, List.set_cons_zero]; go_big_quiet_on) | (go_big_quiet_want; refine quiet_load_agg 32 _ (by rfl) (w.heap.size + 1) 0 (by rfl) (cpc b) _ r1.out.lt (fun j v hv => (r1.out.cell (0 + j)).trans (whc_c b B _ bi bo j v hv)) Tryz.underlying32 (by rfl) (info_cpuU _) ?_; simp only [Act.put, List.setIfInBounds_toArray, List.set_cons_succ, List.set_cons_zero]; go_big_quiet_on) | (go_big_quiet_want; refine quiet_load_agg 44 _ (by rfl) (w.heap.size) 82 (by rfl) (stc A (.slice xa A.ram.length ca) ai ao) _ r0.out.lt (fun j v hv => (r0.out.cell (82 + j)).trans (whc_b a A _ ai ao j v hv)) Tryz.underlying44 (by rfl) (info_bst _ _ _ _) ?_; simp only [Act.put, List.setIfInBounds_toArray, List.set_cons_succ, List.set_cons_zero]; go_big_quiet_on) | (go_big_quiet_want; refine quiet_load_agg 44 _ (by rfl) (w.heap.size + 1) 82 (by rfl) (stc B (.slice xb B.ram.length cb) bi bo) _ r1.out.lt (fun j v hv => (r1.out.cell (82 + j)).trans (whc_b b B _ bi bo j v hv)) Tryz.underlying44 (by rfl) (info_bst _ _ _ _) ?_; simp only [Act.put, List.setIfInBounds_toArray, List.set_cons_succ, List.set_cons_zero]; go_big_quiet_on) | (go_big_quiet_step (fail)))
      (go_big_quiet_step (fail))
      (first | (go_big_quiet_want; refine quiet_load_agg 32 _ (by rfl) (g5) 0 (by rfl) (cpc (PR a)) _ r5.out.lt (lrow_cells r5.out) Tryz.underlying32 (by rfl) (info_cpuU _) ?_; simp only [Act.put, List.setIfInBounds_toArray, List.set_cons_succ, List.set_cons_zero]; go_big_quiet_on) | (go_big_quiet_want; refine quiet_load_agg 32 _ (by rfl) (w.heap.size + 1) 0 (by rfl) (cpc b) _ r1.out.lt (fun j v hv => (r1.out.cell (0 + j)).trans (whc_c b B _ bi bo j v hv)) Tryz.underlying32 (by rfl) (info_cpuU _) ?_; simp only [Act.put, List.setIfInBounds_toArray, List.set_cons_succ, List.set_cons_zero]; go_big_quiet_on) | (go_big_quiet_want; refine quiet_load_agg 44 _ (by rfl) (w.heap.size) 82 (by rfl) (stc A (.slice xa A.ram.length ca) ai ao) _ r0.out.lt (fun j v hv => (r0.out.cell (82 + j)).trans (whc_b a A _ ai ao j v hv)) Tryz.underlying44 (by rfl) (info_bst _ _ _ _) ?_; simp only [Act.put, List.setIfInBounds_toArray, List.set_cons_succ, List.set_cons_zero]; go_big_quiet_on) | (go_big_quiet_want; refine quiet_load_agg 44 _ (by rfl) (w.heap.size + 1) 82 (by rfl) (stc B (.slice xb B.ram.length cb) bi bo) _ r1.out.lt (fun j v hv => (r1.out.cell (82 + j)).trans (whc_b b B _ bi bo j v hv)) Tryz.underlying44 (by rfl) (info_bst _ _ _ _) ?_; simp only [Act.put, List.setIfInBounds_toArray, List.set_cons_succ, List.set_cons_zero]; go_big_quiet_on) | (go_big_quiet_step (fail)))
      (go_big_quiet_step ((go_at_call 28; exact calls_later (HDV.out _))))
      (go_big_quiet_step (fail))
      (go_big_quiet_step (fail))
      (go_big_quiet_step (fail))
      (go_big_quiet_step (fail))
      (go_big_quiet_step (fail))
      (go_big_quiet_step (fail))
      (go_big_quiet_step (rfl))
      (go_big_quiet_step (fail))
      (go_big_quiet_step (fail))
      (go_big_quiet_step (fail))
      (go_big_quiet_step (rfl))
      (go_big_quiet_step (fail))
      (go_big_quiet_step (fail))
      refine wpQuiet_nil ?_
      rintro _ ⟨yq, rfl⟩
      go_wp2
      go_ret
      exact ⟨by rw [HV.out]; first | done | rfl, BB.out.trans (yq.2.mono BB.out.size)⟩
    | true =>
      by_cases hlen : A.ram.length = B.ram.length
      · have q3 : ((A.ram.length : Int) == (B.ram.length : Int)) = true := by rw [beq_iff_eq]; omega
        have q4 : ((A.ram.length : Int) != (B.ram.length : Int)) = false := by unfold bne; rw [q3]; rfl
        have HLN := Hid.mkU hlen
        clear hlen
        have HZ : Hid (Z = z4) := by unfold Hid; rw [HM.out, q3]; rfl
        clear HM
        refine wp_region_later (x0 := Later.start W1) (by kernel_rfl) (by kernel_rfl) ?_
        (first | (go_big_quiet_want; refine quiet_load_agg 32 _ (by rfl) (g5) 0 (by rfl) (cpc (PR a)) _ r5.out.lt (lrow_cells r5.out) Tryz.underlying32 (by rfl) (info_cpuU _) ?_; simp only [Act.put, List.setIfInBounds_toArray, List.set_cons_succ, List.set_cons_zero]; go_big_quiet_on) | (go_big_quiet_want; refine quiet_load_agg 32 _ (by rfl) (w.heap.size + 1) 0 (by rfl) (cpc b) _ r1.out.lt (fun j v hv => (r1.out.cell (0 + j)).trans (whc_c b B _ bi bo j v hv)) Tryz.underlying32 (by rfl) (info_cpuU _) ?_; simp only [Act.put, List.setIfInBounds_toArray, List.set_cons_succ, List.set_cons_zero]; go_big_quiet_on) | (go_big_quiet_want; refine quiet_load_agg 44 _ (by rfl) (w.heap.size) 82 (by rfl) (stc A (.slice xa A.ram.length ca) ai ao) _ r0.out.lt (fun j v hv => (r0.out.cell (82 + j)).trans (whc_b a A _ ai ao j v hv)) Tryz.underlying44 (by rfl) (info_bst _ _ _ _) ?_; simp only [Act.put, List.setIfInBounds_toArray, List.set_cons_succ, List.set_cons_zero]; go_big_quiet_on) | (go_big_quiet_want; refine quiet_load_agg 44 _ (by rfl) (w.heap.size + 1) 82 (by rfl) (stc B (.slice xb B.ram.length cb) bi bo) _ r1.out.lt (fun j v hv => (r1.out.cell (82 + j)).trans (whc_b b B _ bi bo j v hv)) Tryz.underlying44 (by rfl) (info_bst _ _ _ _) ?_; simp only [Act.put, List.setIfInBounds_toArray, List.set_cons_succ, List.set_cons_zero]; go_big_quiet_on) | (go_big_quiet_step (fail)))
        (go_big_quiet_step (fail))
        (first | (go_big_quiet_want; refine quiet_load_agg 32 _ (by rfl) (g5) 0 (by rfl) (cpc (PR a)) _ r5.out.lt (lrow_cells r5.out) Tryz.underlying32 (by rfl) (info_cpuU _) ?_; simp only [Act.put, List.setIfInBounds_toArray, List.set_cons_succ, List.set_cons_zero]; go_big_quiet_on) | (go_big_quiet_want; refine quiet_load_agg 32 _ (by rfl) (w.heap.size + 1) 0 (by rfl) (cpc b) _ r1.out.lt (fun j v hv => (r1.out.cell (0 + j)).trans (whc_c b B _ bi bo j v hv)) Tryz.underlying32 (by rfl) (info_cpuU _) ?_; simp only [Act.put, List.setIfInBounds_toArray, List.set_cons_succ, List.set_cons_zero]; go_big_quiet_on) | (go_big_quiet_want; refine quiet_load_agg 44 _ (by rfl) (w.heap.size) 82 (by rfl) (stc A (.slice xa A.ram.length ca) ai ao) _ r0.out.lt (fun j v hv => (r0.out.cell (82 + j)).trans (whc_b a A _ ai ao j v hv)) Tryz.underlying44 (by rfl) (info_bst _ _ _ _) ?_; simp only [Act.put, List.setIfInBounds_toArray, List.set_cons_succ, List.set_cons_zero]; go_big_quiet_on) | (go_big_quiet_want; refine quiet_load_agg 44 _ (by rfl) (w.heap.size + 1) 82 (by rfl) (stc B (.slice xb B.ram.length cb) bi bo) _ r1.out.lt (fun j v hv => (r1.out.cell (82 + j)).trans (whc_b b B _ bi bo j v hv)) Tryz.underlying44 (by rfl) (info_bst _ _ _ _) ?_; simp only [Act.put, List.setIfInBounds_toArray, List.set_cons_succ, List.set_cons_zero]; go_big_quiet_on) | (go_big_quiet_step (fail)))
        (go_big_quiet_step ((go_at_call 20; exact calls_later (HPb.out _))))
        (go_big_quiet_want; refine quiet_neq_agg 32 _ _ _ (by rfl) (cpc (PR a)) (cpc (PR b)) (by rfl) (by rfl) _ HEC.out (fun w => eqN_cpuU _ _ _ _ w) false (by rfl) ?_; simp only [Act.put, List.setIfInBounds_toArray, List.set_cons_succ, List.set_cons_zero]; go_big_quiet_on)
        (go_big_quiet_step (fail))
        (go_big_quiet_step (fail))
        (first | (go_big_quiet_want; refine quiet_load_agg 32 _ (by rfl) (g5) 0 (by rfl) (cpc (PR a)) _ r5.out.lt (lrow_cells r5.out) Tryz.underlying32 (by rfl) (info_cpuU _) ?_; simp only [Act.put, List.setIfInBounds_toArray, List.set_cons_succ, List.set_cons_zero]; go_big_quiet_on) | (go_big_quiet_want; refine quiet_load_agg 32 _ (by rfl) (w.heap.size + 1) 0 (by rfl) (cpc b) _ r1.out.lt (fun j v hv => (r1.out.cell (0 + j)).trans (whc_c b B _ bi bo j v hv)) Tryz.underlying32 (by rfl) (info_cpuU _) ?_; simp only [Act.put, List.setIfInBounds_toArray, List.set_cons_succ, List.set_cons_zero]; go_big_quiet_on) | (go_big_quiet_want; refine quiet_load_agg 44 _ (by rfl) (w.heap.size) 82 (by rfl) (stc A (.slice xa A.ram.length ca) ai ao) _ r0.out.lt (fun j v hv => (r0.out.cell (82 + j)).trans (whc_b a A _ ai ao j v hv)) Tryz.underlying44 (by rfl) (info_bst _ _ _ _) ?_; simp only [Act.put, List.setIfInBounds_toArray, List.set_cons_succ, List.set_cons_zero]; go_big_quiet_on) | (go_big_quiet_want; refine quiet_load_agg 44 _ (by rfl) (w.heap.size + 1) 82 (by rfl) (stc B (.slice xb B.ram.length cb) bi bo) _ r1.out.lt (fun j v hv => (r1.out.cell (82 + j)).trans (whc_b b B _ bi bo j v hv)) Tryz.underlying44 (by rfl) (info_bst _ _ _ _) ?_; simp only [Act.put, List.setIfInBounds_toArray, List.set_cons_succ, List.set_cons_zero]; go_big_quiet_on) | (go_big_quiet_step (fail)))
        (go_big_quiet_step (fail))
        (first | (go_big_quiet_want; refine quiet_load_agg 32 _ (by rfl) (g5) 0 (by rfl) (cpc (PR a)) _ r5.out.lt (lrow_cells r5.out) Tryz.underlying32 (by rfl) (info_cpuU _) ?_; simp only [Act.put, List.setIfInBounds_toArray, List.set_cons_succ, List.set_cons_zero]; go_big_quiet_on) | (go_big_quiet_want; refine quiet_load_agg 32 _ (by rfl) (w.heap.size + 1) 0 (by rfl) (cpc b) _ r1.out.lt (fun j v hv => (r1.out.cell (0 + j)).trans (whc_c b B _ bi bo j v hv)) Tryz.underlying32 (by rfl) (info_cpuU _) ?_; simp only [Act.put, List.setIfInBounds_toArray, List.set_cons_succ, List.set_cons_zero]; go_big_quiet_on) | (go_big_quiet_want; refine quiet_load_agg 44 _ (by rfl) (w.heap.size) 82 (by rfl) (stc A (.slice xa A.ram.length ca) ai ao) _ r0.out.lt (fun j v hv => (r0.out.cell (82 + j)).trans (whc_b a A _ ai ao j v hv)) Tryz.underlying44 (by rfl) (info_bst _ _ _ _) ?_; simp only [Act.put, List.setIfInBounds_toArray, List.set_cons_succ, List.set_cons_zero]; go_big_quiet_on) | (go_big_quiet_want; refine quiet_load_agg 44 _ (by rfl) (w.heap.size + 1) 82 (by rfl) (stc B (.slice xb B.ram.length cb) bi bo) _ r1.out.lt (fun j v hv => (r1.out.cell (82 + j)).trans (whc_b b B _ bi bo j v hv)) Tryz.underlying44 (by rfl) (info_bst _ _ _ _) ?_; simp only [Act.put, List.setIfInBounds_toArray, List.set_cons_succ, List.set_cons_zero]; go_big_quiet_on) | (go_big_quiet_step (fail)))
        (go_big_quiet_step ((go_at_call 28; exact calls_later (HDV.out _))))
        (go_big_quiet_step (fail))
        (go_big_quiet_step (fail))
        (go_big_quiet_step (fail))
        (go_big_quiet_step (fail))
        (go_big_quiet_step (fail))
        (go_big_quiet_step (fail))
        (go_big_quiet_step (rfl))
        (go_big_quiet_step (fail))
        (go_big_quiet_step (fail))
        (go_big_quiet_step (fail))
        (go_big_quiet_step (rfl))
        (go_big_quiet_step (fail))
        (go_big_quiet_step (fail))
        refine wpQuiet_nil ?_
        rintro _ ⟨yq, rfl⟩
        --@L
        have HY := Hid.mkU (BB.out.trans (yq.2.mono BB.out.size))
        have HC0 : Hid (∀ W, Below W1.heap.size W1 W → W.cell? ⟨w.heap.size, 82, none⟩ = some (.slice xa A.ram.length ca)) := fun W h => c0r ⟨W, h⟩
        have HC1 : Hid (∀ W, Below W1.heap.size W1 W → W.cell? ⟨w.heap.size + 1, 82, none⟩ = some (.slice xb B.ram.length cb)) := fun W h => c1r ⟨W, h⟩
        have HYW := Hid.mkU yq.2
        clear c0r c1r hne HPb HDV HEC q3 q4
        go_upto_region 4 with fail
        go_wp2
        go_loopw [6] (fun i wr => ∃ k : Nat, k ≤ A.ram.length ∧ i = .int .i64 k ∧ Hid (∀ j, j < k → ((B.ram.getD j 0 == A.ram.getD j 0) || !gr5 (PR a) (BitVec.ofNat 64 (2147483648 + j))) = true) ∧ Hid (Below W1.heap.size W1 wr)) (fun i _ => A.ram.length - (intOf i).toNat)
        case atStart => exact ⟨0, Nat.zero_le _, rfl, fun j hj => absurd hj (Nat.not_lt_zero _), HYW.out⟩
        case round =>
          obtain ⟨k, hk, rfl, hf, hb⟩ := hrel
          clear HY HYW
          have c0 := HC0.out wr hb.out
          have HBW := Hid.mkU (BB.out.trans (hb.out.mono BB.out.size))
          by_cases hlt : k < A.ram.length
          · have hlt2 : (k : Int) < (A.ram.length : Int) := by omega
            have hltB : (k : Int) < (B.ram.length : Int) := by have := HLN.out; omega
            have d0 : ∀ x : Later wr, x.1.cell? ⟨w.heap.size, 82, none⟩ = some (.slice xa A.ram.length ca) := fun x => HC0.out x.1 (hb.out.trans (x.2.mono hb.out.size))
            have d1 : ∀ x : Later wr, x.1.cell? ⟨w.heap.size + 1, 82, none⟩ = some (.slice xb B.ram.length cb) := fun x => HC1.out x.1 (hb.out.trans (x.2.mono hb.out.size))
            obtain ⟨gu, ou, hxa, hgu, hcu⟩ := HRA.out (by intro e; rw [e] at hlt; simp at hlt)
            obtain ⟨gv, ov, hxb, hgv, hcv⟩ := HRB.out (by intro e; have h0 : B.ram.length = 0 := by rw [e]; rfl
                                                          have := HLN.out; omega)
            subst hxa hxb
            have hku : ∀ x : Later wr, x.1.cell? ⟨gu, ou + k, none⟩ = some (.int .u8 (A.ram.getD k 0)) := fun x => ((hb.out.trans (x.2.mono hb.out.size)).cell hgu).trans (hcu k hlt)
            have hkv : ∀ x : Later wr, x.1.cell? ⟨gv, ov + k, none⟩ = some (.int .u8 (B.ram.getD k 0)) := fun x => ((hb.out.trans (x.2.mono hb.out.size)).cell hgv).trans (hcv k (by have := HLN.out; omega))
            have had := ram_at k (by have := HL.out; omega)
            have hcw : IntKind.u64.wrap (k : Int) = (k : Int) := by show (k : Int) % 18446744073709551616 = _; have := HL.out; omega
            have r5w := Hid.mkU (r5.out.later hb.out r5.out.lt)
            have HC : Hid (∀ x : Later wr, Calls Tryz.prog 29 #[.agg (pc (PR a).c (PR a).a), .int .u64 (n64 (BitVec.ofNat 64 (2147483648 + k))), .int .i64 5] x.1 fun e w' => e = .returned (.bool (gr5 (PR a) (BitVec.ofNat 64 (2147483648 + k)))) ∧ Below x.1.heap.size x.1 w') := fun x => HGR.out _ x.1
            have HT : Hid (((B.ram.getD k 0 == A.ram.getD k 0) || !gr5 (PR a) (BitVec.ofNat 64 (2147483648 + k))) = true → ∀ j, j < k + 1 → ((B.ram.getD j 0 == A.ram.getD j 0) || !gr5 (PR a) (BitVec.ofNat 64 (2147483648 + j))) = true) := fun hq j hj => by
              by_cases e : j = k
              · rw [e]; exact hq
              · exact hf.out j (by omega)
            have HZZ : Hid (((B.ram.getD k 0 == A.ram.getD k 0) || !gr5 (PR a) (BitVec.ofNat 64 (2147483648 + k))) = false → Z = false) := fun hq => HZ.out.trans (HSH.out k hlt hq)
            have hne := later_nonempty wr
            have hL2 := HL.out
            clear hf hcu hcv HRA HRB HGR HSH HSN HC0 HC1 HZ HL
            generalize gr5 (PR a) (BitVec.ofNat 64 (2147483648 + k)) = q at *
            generalize n64 (BitVec.ofNat 64 (2147483648 + k)) = y at *
            generalize hx : A.ram.getD k 0 = x at *
            generalize hzz : B.ram.getD k 0 = z at *
            clear hx hzz
            go_upto_region 7 with fail
            cases h1 : (x != z) with
            | false =>
              have HX : Hid ((z == x) = true) := (by unfold Hid; have : x = z := by simpa using h1
                                                     rw [this]; simp)
              have HF := Hid.mkU (HT.out (by rw [HX.out]; rfl))
              clear HT HZZ HC
              refine wp_region_later (x0 := Later.start wr) (by kernel_rfl) (by kernel_rfl) ?_
              (go_big_quiet_step (fail))
              (go_big_quiet_step (fail))
              (go_big_quiet_step (fail))
              (go_big_quiet_step (fail))
              (go_big_quiet_step (fail))
              (go_big_quiet_step (fail))
              (go_big_quiet_step (fail))
              (go_big_quiet_step (fail))
              (go_big_quiet_step (fail))
              (go_big_quiet_step (fail))
              (go_big_quiet_step (fail))
              (go_big_quiet_step (fail))
              (go_big_quiet_step (fail))
              (go_big_quiet_step (fail))
              (go_big_quiet_step (fail))
              (first | (go_big_quiet_want; refine quiet_load_agg 28 _ (by rfl) g5 47 (by rfl) (pc (PR a).c (PR a).a) _ r5w.out.lt r5w.out.pmU Tryz.underlying28 (by rfl) (info_pmpU _ _) ?_; simp only [Act.put, List.setIfInBounds_toArray, List.set_cons_succ, List.set_cons_zero]; go_big_quiet_on) | (go_big_quiet_step (fail)))
              (go_big_quiet_step (fail))
              (go_big_quiet_step (fail))
              (go_big_quiet_step (fail))
              (go_big_quiet_step (fail))
              (go_big_quiet_step (fail))
              refine wpQuiet_nil ?_
              rintro _ ⟨yr, rfl⟩
              have HB2 := Hid.mkU (hb.out.trans (yr.2.mono hb.out.size))
              clear hku hkv d0 d1
              go_wp2
              go_roundw
              case rel => exact ⟨k + 1, by omega, by go_num, HF, HB2⟩
              case measure => simp [intOf]; omega
            | true =>
              have HX : Hid ((z == x) = false) := (by unfold Hid; rw [beq_eq_false_iff_ne]; intro e; rw [e] at h1; simp at h1)
              cases q with
              | true =>
                have HV := Hid.mkU (HZZ.out (by rw [HX.out]; rfl))
                clear HT HZZ
                refine wp_region_later (x0 := Later.start wr) (by kernel_rfl) (by kernel_rfl) ?_
                (go_big_quiet_step (fail))
                (go_big_quiet_step (fail))
                (go_big_quiet_step (fail))
                (go_big_quiet_step (fail))
                (go_big_quiet_step (fail))
                (go_big_quiet_step (fail))
                (go_big_quiet_step (fail))
                (go_big_quiet_step (fail))
                (go_big_quiet_step (fail))
                (go_big_quiet_step (fail))
                (go_big_quiet_step (fail))
                (go_big_quiet_step (fail))
                (go_big_quiet_step (fail))
                (go_big_quiet_step (fail))
                (go_big_quiet_step (fail))
                (first | (go_big_quiet_want; refine quiet_load_agg 28 _ (by rfl) g5 47 (by rfl) (pc (PR a).c (PR a).a) _ r5w.out.lt r5w.out.pmU Tryz.underlying28 (by rfl) (info_pmpU _ _) ?_; simp only [Act.put, List.setIfInBounds_toArray, List.set_cons_succ, List.set_cons_zero]; go_big_quiet_on) | (go_big_quiet_step (fail)))
                (go_big_quiet_step (fail))
                (go_big_quiet_step (fail))
                (go_big_quiet_step (fail))
                (go_big_quiet_step ((go_at_call 29; exact calls_later (HC.out _))))
                (go_big_quiet_step (fail))
                refine wpQuiet_nil ?_
                rintro _ ⟨yr, rfl⟩
                go_wp2
                go_ret
                exact ⟨by rw [HV.out]; first | done | rfl, HBW.out.trans (yr.2.mono HBW.out.size)⟩
              | false =>
                have HF := Hid.mkU (HT.out (by rw [HX.out]; rfl))
                clear HT HZZ
                refine wp_region_later (x0 := Later.start wr) (by kernel_rfl) (by kernel_rfl) ?_
                (go_big_quiet_step (fail))
                (go_big_quiet_step (fail))
                (go_big_quiet_step (fail))
                (go_big_quiet_step (fail))
                (go_big_quiet_step (fail))
                (go_big_quiet_step (fail))
                (go_big_quiet_step (fail))
                (go_big_quiet_step (fail))
                (go_big_quiet_step (fail))
                (go_big_quiet_step (fail))
                (go_big_quiet_step (fail))
                (go_big_quiet_step (fail))
                (go_big_quiet_step (fail))
                (go_big_quiet_step (fail))
                (go_big_quiet_step (fail))
                (first | (go_big_quiet_want; refine quiet_load_agg 28 _ (by rfl) g5 47 (by rfl) (pc (PR a).c (PR a).a) _ r5w.out.lt r5w.out.pmU Tryz.underlying28 (by rfl) (info_pmpU _ _) ?_; simp only [Act.put, List.setIfInBounds_toArray, List.set_cons_succ, List.set_cons_zero]; go_big_quiet_on) | (go_big_quiet_step (fail)))
                (go_big_quiet_step (fail))
                (go_big_quiet_step (fail))
                (go_big_quiet_step (fail))
                (go_big_quiet_step ((go_at_call 29; exact calls_later (HC.out _))))
                (go_big_quiet_step (fail))
                refine wpQuiet_nil ?_
                rintro _ ⟨yr, rfl⟩
                have HB2 := Hid.mkU (hb.out.trans (yr.2.mono hb.out.size))
                clear hku hkv d0 d1
                go_wp2
                go_roundw
                case rel => exact ⟨k + 1, by omega, by go_num, HF, HB2⟩
                case measure => simp [intOf]; omega
          · have hge : ¬ ((k : Int) < (A.ram.length : Int)) := by omega
            have HV : Hid (Z = true) := HZ.out.trans (HSN.out (fun j hj => hf.out j (by omega)))
            clear HSH HSN hf HZ
            go_wp2
            go_ret
            exact ⟨by rw [HV.out]; first | done | rfl, HBW.out⟩
      · have q3 : ((A.ram.length : Int) == (B.ram.length : Int)) = false := by rw [beq_eq_false_iff_ne]; omega
        have q4 : ((A.ram.length : Int) != (B.ram.length : Int)) = true := by unfold bne; rw [q3]; rfl
        clear hlen
        have HV : Hid (Z = false) := by unfold Hid; rw [HM.out, q3]; rfl
        clear HM HSH HSN
        refine wp_region_later (x0 := Later.start W1) (by kernel_rfl) (by kernel_rfl) ?_
        (first | (go_big_quiet_want; refine quiet_load_agg 32 _ (by rfl) (g5) 0 (by rfl) (cpc (PR a)) _ r5.out.lt (lrow_cells r5.out) Tryz.underlying32 (by rfl) (info_cpuU _) ?_; simp only [Act.put, List.setIfInBounds_toArray, List.set_cons_succ, List.set_cons_zero]; go_big_quiet_on) | (go_big_quiet_want; refine quiet_load_agg 32 _ (by rfl) (w.heap.size + 1) 0 (by rfl) (cpc b) _ r1.out.lt (fun j v hv => (r1.out.cell (0 + j)).trans (whc_c b B _ bi bo j v hv)) Tryz.underlying32 (by rfl) (info_cpuU _) ?_; simp only [Act.put, List.setIfInBounds_toArray, List.set_cons_succ, List.set_cons_zero]; go_big_quiet_on) | (go_big_quiet_want; refine quiet_load_agg 44 _ (by rfl) (w.heap.size) 82 (by rfl) (stc A (.slice xa A.ram.length ca) ai ao) _ r0.out.lt (fun j v hv => (r0.out.cell (82 + j)).trans (whc_b a A _ ai ao j v hv)) Tryz.underlying44 (by rfl) (info_bst _ _ _ _) ?_; simp only [Act.put, List.setIfInBounds_toArray, List.set_cons_succ, List.set_cons_zero]; go_big_quiet_on) | (go_big_quiet_want; refine quiet_load_agg 44 _ (by rfl) (w.heap.size + 1) 82 (by rfl) (stc B (.slice xb B.ram.length cb) bi bo) _ r1.out.lt (fun j v hv => (r1.out.cell (82 + j)).trans (whc_b b B _ bi bo j v hv)) Tryz.underlying44 (by rfl) (info_bst _ _ _ _) ?_; simp only [Act.put, List.setIfInBounds_toArray, List.set_cons_succ, List.set_cons_zero]; go_big_quiet_on) | (go_big_quiet_step (fail)))
        (go_big_quiet_step (fail))
        (first | (go_big_quiet_want; refine quiet_load_agg 32 _ (by rfl) (g5) 0 (by rfl) (cpc (PR a)) _ r5.out.lt (lrow_cells r5.out) Tryz.underlying32 (by rfl) (info_cpuU _) ?_; simp only [Act.put, List.setIfInBounds_toArray, List.set_cons_succ, List.set_cons_zero]; go_big_quiet_on) | (go_big_quiet_want; refine quiet_load_agg 32 _ (by rfl) (w.heap.size + 1) 0 (by rfl) (cpc b) _ r1.out.lt (fun j v hv => (r1.out.cell (0 + j)).trans (whc_c b B _ bi bo j v hv)) Tryz.underlying32 (by rfl) (info_cpuU _) ?_; simp only [Act.put, List.setIfInBounds_toArray, List.set_cons_succ, List.set_cons_zero]; go_big_quiet_on) | (go_big_quiet_want; refine quiet_load_agg 44 _ (by rfl) (w.heap.size) 82 (by rfl) (stc A (.slice xa A.ram.length ca) ai ao) _ r0.out.lt (fun j v hv => (r0.out.cell (82 + j)).trans (whc_b a A _ ai ao j v hv)) Tryz.underlying44 (by rfl) (info_bst _ _ _ _) ?_; simp only [Act.put, List.setIfInBounds_toArray, List.set_cons_succ, List.set_cons_zero]; go_big_quiet_on) | (go_big_quiet_want; refine quiet_load_agg 44 _ (by rfl) (w.heap.size + 1) 82 (by rfl) (stc B (.slice xb B.ram.length cb) bi bo) _ r1.out.lt (fun j v hv => (r1.out.cell (82 + j)).trans (whc_b b B _ bi bo j v hv)) Tryz.underlying44 (by rfl) (info_bst _ _ _ _) ?_; simp only [Act.put, List.setIfInBounds_toArray, List.set_cons_succ, List.set_cons_zero]; go_big_quiet_on) | (go_big_quiet_step (fail)))
        (go_big_quiet_step ((go_at_call 20; exact calls_later (HPb.out _))))
        (go_big_quiet_want; refine quiet_neq_agg 32 _ _ _ (by rfl) (cpc (PR a)) (cpc (PR b)) (by rfl) (by rfl) _ HEC.out (fun w => eqN_cpuU _ _ _ _ w) false (by rfl) ?_; simp only [Act.put, List.setIfInBounds_toArray, List.set_cons_succ, List.set_cons_zero]; go_big_quiet_on)
        (go_big_quiet_step (fail))
        (go_big_quiet_step (fail))
        (first | (go_big_quiet_want; refine quiet_load_agg 32 _ (by rfl) (g5) 0 (by rfl) (cpc (PR a)) _ r5.out.lt (lrow_cells r5.out) Tryz.underlying32 (by rfl) (info_cpuU _) ?_; simp only [Act.put, List.setIfInBounds_toArray, List.set_cons_succ, List.set_cons_zero]; go_big_quiet_on) | (go_big_quiet_want; refine quiet_load_agg 32 _ (by rfl) (w.heap.size + 1) 0 (by rfl) (cpc b) _ r1.out.lt (fun j v hv => (r1.out.cell (0 + j)).trans (whc_c b B _ bi bo j v hv)) Tryz.underlying32 (by rfl) (info_cpuU _) ?_; simp only [Act.put, List.setIfInBounds_toArray, List.set_cons_succ, List.set_cons_zero]; go_big_quiet_on) | (go_big_quiet_want; refine quiet_load_agg 44 _ (by rfl) (w.heap.size) 82 (by rfl) (stc A (.slice xa A.ram.length ca) ai ao) _ r0.out.lt (fun j v hv => (r0.out.cell (82 + j)).trans (whc_b a A _ ai ao j v hv)) Tryz.underlying44 (by rfl) (info_bst _ _ _ _) ?_; simp only [Act.put, List.setIfInBounds_toArray, List.set_cons_succ, List.set_cons_zero]; go_big_quiet_on) | (go_big_quiet_want; refine quiet_load_agg 44 _ (by rfl) (w.heap.size + 1) 82 (by rfl) (stc B (.slice xb B.ram.length cb) bi bo) _ r1.out.lt (fun j v hv => (r1.out.cell (82 + j)).trans (whc_b b B _ bi bo j v hv)) Tryz.underlying44 (by rfl) (info_bst _ _ _ _) ?_; simp only [Act.put, List.setIfInBounds_toArray, List.set_cons_succ, List.set_cons_zero]; go_big_quiet_on) | (go_big_quiet_step (fail)))
        (go_big_quiet_step (fail))
        (first | (go_big_quiet_want; refine quiet_load_agg 32 _ (by rfl) (g5) 0 (by rfl) (cpc (PR a)) _ r5.out.lt (lrow_cells r5.out) Tryz.underlying32 (by rfl) (info_cpuU _) ?_; simp only [Act.put, List.setIfInBounds_toArray, List.set_cons_succ, List.set_cons_zero]; go_big_quiet_on) | (go_big_quiet_want; refine quiet_load_agg 32 _ (by rfl) (w.heap.size + 1) 0 (by rfl) (cpc b) _ r1.out.lt (fun j v hv => (r1.out.cell (0 + j)).trans (whc_c b B _ bi bo j v hv)) Tryz.underlying32 (by rfl) (info_cpuU _) ?_; simp only [Act.put, List.setIfInBounds_toArray, List.set_cons_succ, List.set_cons_zero]; go_big_quiet_on) | (go_big_quiet_want; refine quiet_load_agg 44 _ (by rfl) (w.heap.size) 82 (by rfl) (stc A (.slice xa A.ram.length ca) ai ao) _ r0.out.lt (fun j v hv => (r0.out.cell (82 + j)).trans (whc_b a A _ ai ao j v hv)) Tryz.underlying44 (by rfl) (info_bst _ _ _ _) ?_; simp only [Act.put, List.setIfInBounds_toArray, List.set_cons_succ, List.set_cons_zero]; go_big_quiet_on) | (go_big_quiet_want; refine quiet_load_agg 44 _ (by rfl) (w.heap.size + 1) 82 (by rfl) (stc B (.slice xb B.ram.length cb) bi bo) _ r1.out.lt (fun j v hv => (r1.out.cell (82 + j)).trans (whc_b b B _ bi bo j v hv)) Tryz.underlying44 (by rfl) (info_bst _ _ _ _) ?_; simp only [Act.put, List.setIfInBounds_toArray, List.set_cons_succ, List.set_cons_zero]; go_big_quiet_on) | (go_big_quiet_step (fail)))
        (go_big_quiet_step ((go_at_call 28; exact calls_later (HDV.out _))))
        (go_big_quiet_step (fail))
        (go_big_quiet_step (fail))
        (go_big_quiet_step (fail))
        (go_big_quiet_step (fail))
        (go_big_quiet_step (fail))
        (go_big_quiet_step (fail))
        (go_big_quiet_step (rfl))
        (go_big_quiet_step (fail))
        (go_big_quiet_step (fail))
        (go_big_quiet_step (fail))
        (go_big_quiet_step (rfl))
        (go_big_quiet_step (fail))
        (go_big_quiet_step (fail))
        refine wpQuiet_nil ?_
        rintro _ ⟨yq, rfl⟩
        go_wp2
        go_ret
        exact ⟨by rw [HV.out]; first | done | rfl, BB.out.trans (yq.2.mono BB.out.size)⟩
end Go.Proofs.YtidfndgedopghaaGreatDoor
