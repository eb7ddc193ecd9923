/-
  Uh.
-/
import Derived.Test.YtidfndgedopghaaGreatDoorM17
import Derived.Test.YtidfndgedopghaaGreatDoorM18
namespace Go.Proofs.YtidfndgedopghaaGreatDoor
set_option linter.unusedVariables false
set_option maxRecDepth 100000
set_option maxHeartbeats 4000000
open Go.ChangeShapes Go.WideShapes Go.ChangeAt Go.RowKit Go.Deep
theorem Byt.takeU {w : World} {a : Option Addr} {n c : Nat} {l : List Int} (h : Byt w (.slice a l.length c) l) (hn : n ≤ l.length) : Byt w (.slice a n c) (l.take n) := by
  obtain ⟨a', c', e, h1, h2, h3⟩ := h
  cases e
  have hl : (l.take n).length = n := by rw [List.length_take]; omega
  refine ⟨a, c, by rw [hl], by rw [hl]; omega, h2, fun hne => ?_⟩
  obtain ⟨g, off, rfl, h4, h5⟩ := h3 (by intro e; apply hne; rw [e]; simp)
  refine ⟨g, off, rfl, h4, fun j hj => ?_⟩
  rw [hl] at hj
  rw [h5 j (by omega)]
  congr 2
  rw [List.getD_eq_getElem?_getD, List.getD_eq_getElem?_getD, List.getElem?_take_of_lt hj]
def hpB (A B : List Int) : Bool := decide (B.length ≤ A.length) && beB (A.take B.length) B
theorem uHp_c (A B : List Int) (u v : Value) (w : World) (hu : Byt w u A) (hv : Byt w v B) : Calls Tryz.prog 139 #[u, v] w fun e w' => e = .returned (.bool (hpB A B)) ∧ w' = w := by
  have hu0 := hu
  obtain ⟨au, cu, rfl, h1, h1', _⟩ := hu
  have hv0 := hv
  obtain ⟨av, cv, rfl, h2, _, _⟩ := hv
  have HM : Hid (hpB A B = (decide (B.length ≤ A.length) && beB (A.take B.length) B)) := rfl
  generalize hpB A B = Z at HM ⊢
  cases q1 : decide (B.length ≤ A.length) with
  | true =>
    have hle := of_decide_eq_true q1
    have HE : Hid (Calls Tryz.prog 130 #[.slice au B.length cu, .slice av B.length cv] w fun e w' => e = .returned (.bool (beB (A.take B.length) B)) ∧ w' = w) := uBe_c _ _ _ _ w (hu0.takeU hle) hv0
    have HV : Hid (Z = beB (A.take B.length) B) := (by unfold Hid; rw [HM.out, q1]; rfl)
    generalize beB (A.take B.length) B = z at *
    have hca : B.length ≤ cu := by omega
    have hca2 : (B.length : Int) ≤ (cu : Int) := by omega
    clear HM hu0 hv0
    go_enter Tryz.func139, Tryz.ntmps139
    go_wp2_with (go_at_call 130; refine HE.out.mono ?_; rintro e wb ⟨rfl, hwb⟩; have hwb2 := hwb.symm; subst hwb2)
    go_ret
    exact ⟨by rw [HV.out]; first | done | rfl, rfl⟩
  | false =>
    have HV : Hid (Z = false) := (by unfold Hid; rw [HM.out, q1]; rfl)
    clear HM hu0 hv0
    go_enter Tryz.func139, Tryz.ntmps139
    go_wp2
    go_ret
    exact ⟨by rw [HV.out]; first | done | rfl, rfl⟩
def plE (p : Pl) : Bool := (n64 p.f == 268435456) && (p.n == 1)
theorem cmp_pl (p q : Pl) (w : World) (d : Nat) : Cmp Tryz.prog w (d + 2) 97 (.agg (plc2 p)) (.agg (plc2 q)) (n64 p.f = n64 q.f ∧ p.n = q.n ∧ True) :=
  Cmp.struct Tryz.underlying97 (by kernel_rfl) (CmpF.cons (by decide) (run_part_plain w (by kernel_rfl) (by rfl)) (run_part_plain w (by kernel_rfl) (by rfl)) (Cmp.int Tryz.underlying23) (CmpF.cons (by decide) (run_part_plain w (by kernel_rfl) (by rfl)) (run_part_plain w (by kernel_rfl) (by rfl)) (Cmp.int Tryz.underlying23) CmpF.nil))
theorem eq_pl (p : Pl) (w : World) : (Op.equalIn 10000 97 (.agg (plc2 p)) (.agg #[.int .u64 268435456, .int .u64 1])).run Tryz.prog w = .ok (plE p) w := eq_of_cmp (cmp_pl p ⟨268435456#64, 1⟩ w 9998) _ (by unfold plE; simp [n64])
theorem quiet_buildU {P : Program} {W : World} {o : Oper} {a : Act} {K : Act → Prop} (t : TypeId) (parts : Array (Nat × Operand)) (ho : o.op = .build t parts) (cells : Array Value) (hc : P.built t (parts.map fun (i, x) => (i, a.eval x)).toList = some cells)
    (hk : K (a.put o.dst (.agg cells))) : o.quiet P a (fun w' => ∃ x : Later W, w' = x.1) K := by
  refine ⟨_, fun w hw => ?_, hk⟩
  obtain ⟨y, rfl⟩ := hw
  unfold Oper.quietAt execOp
  simp only [ho, Sem.run_bind, run_build y.1 t _ cells hc, Result.andThen_ok]
  exact ⟨rfl, rfl⟩
theorem eqG_pl (x y : Operand) (u v : Array Value) (w : World) : (eqGuard .eql 97 x y (.agg u) (.agg v)).run Tryz.prog w = .ok () w := by kernel_rfl
def snB (B A : List Int) (p : Pl) (d : BitVec 64) : Bool := beB B A || (((plE p && decide (A.length = B.length + 1)) && hpB A B) && (A.getD B.length 0 == n64 d))
theorem uSn_c (B A : List Int) (u v : Value) (p : Pl) (d : BitVec 64) (w : World) (hu : Byt w u B) (hv : Byt w v A) (hLB : B.length ≤ 140737488351232) (hAll : AllB A) :
    Calls Tryz.prog 96 #[u, v, .agg (plc2 p), .int .u64 (n64 d)] w fun e w' => e = .returned (.bool (snB B A p d)) ∧ Below w.heap.size w w' := by
  obtain ⟨W0, hW0, r0, b0, s0⟩ := start1 w (plc2 p) 97
  have BB := Hid.mkU b0.out
  clear s0 b0
  have HE : Hid (∀ x : Later W0, Calls Tryz.prog 130 #[u, v] x.1 fun e w' => e = .returned (.bool (beB B A)) ∧ w' = x.1) := fun x => uBe_c _ _ _ _ _ (hu.later (BB.out.trans (x.2.mono BB.out.size)) rfl) (hv.later (BB.out.trans (x.2.mono BB.out.size)) rfl)
  have HE0 := Hid.mkU (HE.out (Later.start W0))
  have HP : Hid (∀ x : Later W0, Calls Tryz.prog 139 #[v, u] x.1 fun e w' => e = .returned (.bool (hpB A B)) ∧ w' = x.1) := fun x => uHp_c _ _ _ _ _ (hv.later (BB.out.trans (x.2.mono BB.out.size)) rfl) (hu.later (BB.out.trans (x.2.mono BB.out.size)) rfl)
  have HEQ := Hid.mkU (fun w => eq_pl p w)
  have hzp := zero_pl
  have HM : Hid (snB B A p d = (beB B A || (((plE p && decide (A.length = B.length + 1)) && hpB A B) && (A.getD B.length 0 == n64 d)))) := rfl
  generalize snB B A p d = Z at HM ⊢
  generalize beB B A = z0 at *
  generalize plE p = z1 at *
  generalize hpB A B = z2 at *
  obtain ⟨au, cu, rfl, _, _, hu2⟩ := hu
  obtain ⟨av, cv, rfl, _, _, hv2⟩ := hv
  have HVV := Hid.mkU hv2
  clear hu2 hv2
  have hne := later_nonempty W0
  go_enter Tryz.func96, Tryz.ntmps96
  go_upto_region 1 with fail
  clear hW0
  cases z0 with
  | true =>
    have HV : Hid (Z = true) := (by unfold Hid; rw [HM.out]; rfl)
    clear HM HE
    go_wp2_with (go_at_call 130; refine HE0.out.mono ?_; rintro e wb ⟨rfl, hwb⟩; have hwb2 : wb = W0 := hwb; subst hwb2)
    go_ret
    exact ⟨by rw [HV.out]; first | done | rfl, BB.out⟩
  | false =>
    go_upto_region 3 with (go_at_call 130; refine HE0.out.mono ?_; rintro e wb ⟨rfl, hwb⟩; have hwb2 : W0 = wb := hwb.symm; subst hwb2)
    clear HE HE0
    cases z1 with
    | true =>
      by_cases hlen : A.length = B.length + 1
      · have Q9 : Hid (decide (A.length = B.length + 1) = true) := decide_eq_true hlen
        have HLN := Hid.mkU hlen
        have q8 : ((A.length : Int) == (B.length : Int) + 1) = true := by rw [beq_iff_eq]; omega
        clear hlen
        cases z2 with
        | true =>
          obtain ⟨gv, ov, rfl, hgv, hcv⟩ := HVV.out (by intro e; have := HLN.out; rw [e] at this; simp at this)
          have hcell : ∀ x : Later W0, x.1.cell? ⟨gv, ov + B.length, none⟩ = some (.int .u8 (A.getD B.length 0)) := fun x => ((BB.out.trans (x.2.mono BB.out.size)).cell hgv).trans (hcv _ (by have := HLN.out; omega))
          have hix : (B.length : Int) < (A.length : Int) := by have := HLN.out; omega
          have hb8 : 0 ≤ A.getD B.length 0 ∧ A.getD B.length 0 ≤ 255 := hAll _ (by rw [List.getD_eq_getElem?_getD, List.getElem?_eq_getElem (by have := HLN.out; omega)]; exact List.getElem_mem _)
          have hcvt : IntKind.u64.wrap (A.getD B.length 0) = A.getD B.length 0 := by show _ % 18446744073709551616 = _; omega
          clear hcv HVV hAll
          generalize A.getD B.length 0 = x at *
          clear hb8
          cases q1 : (x == n64 d) with
          | true =>
            have HV : Hid (Z = true) := (by unfold Hid; rw [HM.out]; first | (rw [Q9.out, q1]; done) | (rw [Q9.out, q1]; rfl))
            clear HM
            refine wp_region_plain (x0 := Later.start W0) ?_
            (first | (go_big_quiet_want; refine quiet_load_agg 97 _ (by rfl) (w.heap.size) 0 (by rfl) (plc2 p) _ r0.out.lt (lrow_cells r0.out) Tryz.underlying97 (by rfl) (info_pl _) ?_; simp only [Act.put, List.setIfInBounds_toArray, List.set_cons_succ, List.set_cons_zero]; go_big_quiet_on) | (go_big_quiet_step (rfl)))
            (first | (go_big_quiet_want; refine quiet_buildU 97 _ (by rfl) #[.int .u64 268435456, .int .u64 1] (by kernel_rfl) ?_; simp only [Act.put, List.setIfInBounds_toArray, List.set_cons_succ, List.set_cons_zero]; go_big_quiet_on) | (go_big_quiet_step (rfl)))
            (first | (go_big_quiet_want; refine quiet_eql_agg 97 _ _ _ (by rfl) (plc2 p) (#[.int .u64 268435456, .int .u64 1]) (by rfl) (by rfl) _ HEQ.out (fun w => eqG_pl _ _ _ _ w) ?_; simp only [Act.put, List.setIfInBounds_toArray, List.set_cons_succ, List.set_cons_zero]; go_big_quiet_on) | (go_big_quiet_step (rfl)))
            iterate 2 (go_big_quiet_step (rfl))
            (go_big_quiet_step (rfl))
            (go_big_quiet_step (rfl))
            (go_big_quiet_step (rfl))
            iterate 6 (go_big_quiet_step (rfl))
            (go_big_quiet_step ((go_at_call 139; exact calls_later_same (HP.out _))))
            iterate 4 (go_big_quiet_step (rfl))
            (go_big_quiet_step (rfl))
            iterate 7 (go_big_quiet_step (rfl))
            refine wpQuiet_nil ?_
            rintro _ ⟨yq, rfl⟩
            go_wp2
            go_ret
            exact ⟨by rw [HV.out]; first | done | rfl, BB.out.trans (yq.2.mono BB.out.size)⟩
          | false =>
            have HV : Hid (Z = false) := (by unfold Hid; rw [HM.out]; first | (rw [Q9.out, q1]; done) | (rw [Q9.out, q1]; rfl))
            clear HM
            refine wp_region_plain (x0 := Later.start W0) ?_
            (first | (go_big_quiet_want; refine quiet_load_agg 97 _ (by rfl) (w.heap.size) 0 (by rfl) (plc2 p) _ r0.out.lt (lrow_cells r0.out) Tryz.underlying97 (by rfl) (info_pl _) ?_; simp only [Act.put, List.setIfInBounds_toArray, List.set_cons_succ, List.set_cons_zero]; go_big_quiet_on) | (go_big_quiet_step (rfl)))
            (first | (go_big_quiet_want; refine quiet_buildU 97 _ (by rfl) #[.int .u64 268435456, .int .u64 1] (by kernel_rfl) ?_; simp only [Act.put, List.setIfInBounds_toArray, List.set_cons_succ, List.set_cons_zero]; go_big_quiet_on) | (go_big_quiet_step (rfl)))
            (first | (go_big_quiet_want; refine quiet_eql_agg 97 _ _ _ (by rfl) (plc2 p) (#[.int .u64 268435456, .int .u64 1]) (by rfl) (by rfl) _ HEQ.out (fun w => eqG_pl _ _ _ _ w) ?_; simp only [Act.put, List.setIfInBounds_toArray, List.set_cons_succ, List.set_cons_zero]; go_big_quiet_on) | (go_big_quiet_step (rfl)))
            iterate 2 (go_big_quiet_step (rfl))
            (go_big_quiet_step (rfl))
            (go_big_quiet_step (rfl))
            (go_big_quiet_step (rfl))
            iterate 6 (go_big_quiet_step (rfl))
            (go_big_quiet_step ((go_at_call 139; exact calls_later_same (HP.out _))))
            iterate 4 (go_big_quiet_step (rfl))
            (go_big_quiet_step (rfl))
            iterate 7 (go_big_quiet_step (rfl))
            refine wpQuiet_nil ?_
            rintro _ ⟨yq, rfl⟩
            go_wp2
            go_ret
            exact ⟨by rw [HV.out]; first | done | rfl, BB.out.trans (yq.2.mono BB.out.size)⟩
        | false =>
          have HV : Hid (Z = false) := (by unfold Hid; rw [HM.out]; first | (rw [Q9.out]; done) | (rw [Q9.out]; rfl))
          clear HM
          refine wp_region_plain (x0 := Later.start W0) ?_
          (first | (go_big_quiet_want; refine quiet_load_agg 97 _ (by rfl) (w.heap.size) 0 (by rfl) (plc2 p) _ r0.out.lt (lrow_cells r0.out) Tryz.underlying97 (by rfl) (info_pl _) ?_; simp only [Act.put, List.setIfInBounds_toArray, List.set_cons_succ, List.set_cons_zero]; go_big_quiet_on) | (go_big_quiet_step (rfl)))
          (first | (go_big_quiet_want; refine quiet_buildU 97 _ (by rfl) #[.int .u64 268435456, .int .u64 1] (by kernel_rfl) ?_; simp only [Act.put, List.setIfInBounds_toArray, List.set_cons_succ, List.set_cons_zero]; go_big_quiet_on) | (go_big_quiet_step (rfl)))
          (first | (go_big_quiet_want; refine quiet_eql_agg 97 _ _ _ (by rfl) (plc2 p) (#[.int .u64 268435456, .int .u64 1]) (by rfl) (by rfl) _ HEQ.out (fun w => eqG_pl _ _ _ _ w) ?_; simp only [Act.put, List.setIfInBounds_toArray, List.set_cons_succ, List.set_cons_zero]; go_big_quiet_on) | (go_big_quiet_step (rfl)))
          iterate 2 (go_big_quiet_step (rfl))
          (go_big_quiet_step (rfl))
          (go_big_quiet_step (rfl))
          (go_big_quiet_step (rfl))
          iterate 6 (go_big_quiet_step (rfl))
          (go_big_quiet_step ((go_at_call 139; exact calls_later_same (HP.out _))))
          iterate 4 (go_big_quiet_step (rfl))
          (go_big_quiet_step (rfl))
          iterate 7 (go_big_quiet_step (rfl))
          refine wpQuiet_nil ?_
          rintro _ ⟨yq, rfl⟩
          go_wp2
          go_ret
          exact ⟨by rw [HV.out]; first | done | rfl, BB.out.trans (yq.2.mono BB.out.size)⟩
      · have Q9 : Hid (decide (A.length = B.length + 1) = false) := decide_eq_false hlen
        have q8 : ((A.length : Int) == (B.length : Int) + 1) = false := by rw [beq_eq_false_iff_ne]; omega
        clear hlen
        have HV : Hid (Z = false) := (by unfold Hid; rw [HM.out]; first | (rw [Q9.out]; done) | (rw [Q9.out]; rfl))
        clear HM
        refine wp_region_plain (x0 := Later.start W0) ?_
        (first | (go_big_quiet_want; refine quiet_load_agg 97 _ (by rfl) (w.heap.size) 0 (by rfl) (plc2 p) _ r0.out.lt (lrow_cells r0.out) Tryz.underlying97 (by rfl) (info_pl _) ?_; simp only [Act.put, List.setIfInBounds_toArray, List.set_cons_succ, List.set_cons_zero]; go_big_quiet_on) | (go_big_quiet_step (rfl)))
        (first | (go_big_quiet_want; refine quiet_buildU 97 _ (by rfl) #[.int .u64 268435456, .int .u64 1] (by kernel_rfl) ?_; simp only [Act.put, List.setIfInBounds_toArray, List.set_cons_succ, List.set_cons_zero]; go_big_quiet_on) | (go_big_quiet_step (rfl)))
        (first | (go_big_quiet_want; refine quiet_eql_agg 97 _ _ _ (by rfl) (plc2 p) (#[.int .u64 268435456, .int .u64 1]) (by rfl) (by rfl) _ HEQ.out (fun w => eqG_pl _ _ _ _ w) ?_; simp only [Act.put, List.setIfInBounds_toArray, List.set_cons_succ, List.set_cons_zero]; go_big_quiet_on) | (go_big_quiet_step (rfl)))
        iterate 2 (go_big_quiet_step (rfl))
        (go_big_quiet_step (rfl))
        (go_big_quiet_step (rfl))
        (go_big_quiet_step (rfl))
        iterate 6 (go_big_quiet_step (rfl))
        (go_big_quiet_step ((go_at_call 139; exact calls_later_same (HP.out _))))
        iterate 4 (go_big_quiet_step (rfl))
        (go_big_quiet_step (rfl))
        iterate 7 (go_big_quiet_step (rfl))
        refine wpQuiet_nil ?_
        rintro _ ⟨yq, rfl⟩
        go_wp2
        go_ret
        exact ⟨by rw [HV.out]; first | done | rfl, BB.out.trans (yq.2.mono BB.out.size)⟩
    | false =>
      have HV : Hid (Z = false) := (by unfold Hid; rw [HM.out]; rfl)
      clear HM
      refine wp_region_plain (x0 := Later.start W0) ?_
      (first | (go_big_quiet_want; refine quiet_load_agg 97 _ (by rfl) (w.heap.size) 0 (by rfl) (plc2 p) _ r0.out.lt (lrow_cells r0.out) Tryz.underlying97 (by rfl) (info_pl _) ?_; simp only [Act.put, List.setIfInBounds_toArray, List.set_cons_succ, List.set_cons_zero]; go_big_quiet_on) | (go_big_quiet_step (rfl)))
      (first | (go_big_quiet_want; refine quiet_buildU 97 _ (by rfl) #[.int .u64 268435456, .int .u64 1] (by kernel_rfl) ?_; simp only [Act.put, List.setIfInBounds_toArray, List.set_cons_succ, List.set_cons_zero]; go_big_quiet_on) | (go_big_quiet_step (rfl)))
      (first | (go_big_quiet_want; refine quiet_eql_agg 97 _ _ _ (by rfl) (plc2 p) (#[.int .u64 268435456, .int .u64 1]) (by rfl) (by rfl) _ HEQ.out (fun w => eqG_pl _ _ _ _ w) ?_; simp only [Act.put, List.setIfInBounds_toArray, List.set_cons_succ, List.set_cons_zero]; go_big_quiet_on) | (go_big_quiet_step (rfl)))
      iterate 2 (go_big_quiet_step (rfl))
      (go_big_quiet_step (rfl))
      (go_big_quiet_step (rfl))
      (go_big_quiet_step (rfl))
      iterate 6 (go_big_quiet_step (rfl))
      (go_big_quiet_step ((go_at_call 139; exact calls_later_same (HP.out _))))
      iterate 4 (go_big_quiet_step (rfl))
      (go_big_quiet_step (rfl))
      iterate 7 (go_big_quiet_step (rfl))
      refine wpQuiet_nil ?_
      rintro _ ⟨yq, rfl⟩
      go_wp2
      go_ret
      exact ⟨by rw [HV.out]; first | done | rfl, BB.out.trans (yq.2.mono BB.out.size)⟩
def whB (K : Cp) (A : St) (J : Cp) (B : St) : Bool := (((eqC K J) && (dvB A B)) && (beB A.ram B.ram))
theorem uWh_c (K : Cp) (A : St) (J : Cp) (B : St) (ar ai ao br bi bo : Value) (w : World) (hA : Bs A ar ai ao w) (hB : Bs B br bi bo w) : Calls Tryz.prog 64 #[.agg (whc K A ar ai ao), .agg (whc J B br bi bo)] w fun e w' => e = .returned (.bool (whB K A J B)) ∧ Below w.heap.size w w' := by
  obtain ⟨W0, hW0, r0, r1, b0, s0⟩ := start2 w (whc K A ar ai ao) (whc J B br bi bo) 46 46
  have BB := Hid.mkU b0.out
  clear s0 b0
  have HM : Hid ((whB K A J B) = (((eqC K J) && (dvB A B)) && (beB A.ram B.ram))) := rfl
  have HEC := Hid.mkU (fun w => eq_cpuU K J w)
  have c0r : ∀ x : Later W0, x.1.cell? ⟨w.heap.size, 82, none⟩ = some ar := fun x => ((lrow r0.out x).cell 82).trans (whc_b K A ar ai ao 0 _ rfl)
  have c1r : ∀ x : Later W0, x.1.cell? ⟨w.heap.size + 1, 82, none⟩ = some br := fun x => ((lrow r1.out x).cell 82).trans (whc_b J B br bi bo 0 _ rfl)
  have HDV : Hid (∀ x : Later W0, Calls Tryz.prog 24 #[.agg (stc A ar ai ao), .agg (stc B br bi bo)] x.1 fun e w' => e = .returned (.bool (dvB A B)) ∧ Below x.1.heap.size x.1 w') := fun x => uDv_c A B ar ai ao br bi bo x.1 ((hA.later BB.out).later x.2) ((hB.later BB.out).later x.2)
  have HBR : Hid (∀ x : Later W0, Calls Tryz.prog 130 #[ar, br] x.1 fun e w' => e = .returned (.bool (beB A.ram B.ram)) ∧ w' = x.1) := fun x => uBe_c _ _ _ _ _ ((hA.later BB.out).r.later x.2 rfl) ((hB.later BB.out).r.later x.2 rfl)
  generalize hZ : (whB K A J B) = Z at HM ⊢
  clear hZ
  generalize eqC K J = z0 at *
  generalize dvB A B = z1 at *
  generalize beB A.ram B.ram = z2 at *
  go_enter Tryz.func64, Tryz.ntmps64
  go_upto_region 1 with fail
  clear hW0
  have hne := later_nonempty W0
  cases z0
  focus
    have HV : Hid (Z = false) := (by unfold Hid; rw [HM.out]; rfl)
  rotate_left 1
  focus
    cases z1
    focus
      have HV : Hid (Z = false) := (by unfold Hid; rw [HM.out]; rfl)
    rotate_left 1
    focus
      cases z2
      focus
        have HV : Hid (Z = false) := (by unfold Hid; rw [HM.out]; rfl)
      rotate_left 1
      focus
        have HV : Hid (Z = true) := (by unfold Hid; rw [HM.out]; rfl)
      rotate_left 1
    rotate_left 2
  rotate_left 3
  all_goals
    clear HM
    refine wp_region_plain (x0 := Later.start W0) ?_
    (go_big_quiet_step (fail))
    (first | (go_big_quiet_want; refine quiet_load_agg 32 _ (by rfl) (w.heap.size) 0 (by rfl) (cpc K) _ r0.out.lt (fun j v hv => (r0.out.cell (0 + j)).trans (whc_c K A ar ai ao j v hv)) Tryz.underlying32 (by rfl) (info_cpuU _) ?_; simp only [Act.put, List.setIfInBounds_toArray, List.set_cons_succ, List.set_cons_zero]; go_big_quiet_on) | (go_big_quiet_want; refine quiet_load_agg 32 _ (by rfl) (w.heap.size + 1) 0 (by rfl) (cpc J) _ r1.out.lt (fun j v hv => (r1.out.cell (0 + j)).trans (whc_c J B br bi bo j v hv)) Tryz.underlying32 (by rfl) (info_cpuU _) ?_; simp only [Act.put, List.setIfInBounds_toArray, List.set_cons_succ, List.set_cons_zero]; go_big_quiet_on) | (go_big_quiet_want; refine quiet_load_agg 44 _ (by rfl) (w.heap.size) 82 (by rfl) (stc A ar ai ao) _ r0.out.lt (fun j v hv => (r0.out.cell (82 + j)).trans (whc_b K A ar ai ao j v hv)) Tryz.underlying44 (by rfl) (info_bst _ _ _ _) ?_; simp only [Act.put, List.setIfInBounds_toArray, List.set_cons_succ, List.set_cons_zero]; go_big_quiet_on) | (go_big_quiet_want; refine quiet_load_agg 44 _ (by rfl) (w.heap.size + 1) 82 (by rfl) (stc B br bi bo) _ r1.out.lt (fun j v hv => (r1.out.cell (82 + j)).trans (whc_b J B br bi bo j v hv)) Tryz.underlying44 (by rfl) (info_bst _ _ _ _) ?_; simp only [Act.put, List.setIfInBounds_toArray, List.set_cons_succ, List.set_cons_zero]; go_big_quiet_on) | (go_big_quiet_step (fail)))
    (go_big_quiet_step (fail))
    (first | (go_big_quiet_want; refine quiet_load_agg 32 _ (by rfl) (w.heap.size) 0 (by rfl) (cpc K) _ r0.out.lt (fun j v hv => (r0.out.cell (0 + j)).trans (whc_c K A ar ai ao j v hv)) Tryz.underlying32 (by rfl) (info_cpuU _) ?_; simp only [Act.put, List.setIfInBounds_toArray, List.set_cons_succ, List.set_cons_zero]; go_big_quiet_on) | (go_big_quiet_want; refine quiet_load_agg 32 _ (by rfl) (w.heap.size + 1) 0 (by rfl) (cpc J) _ r1.out.lt (fun j v hv => (r1.out.cell (0 + j)).trans (whc_c J B br bi bo j v hv)) Tryz.underlying32 (by rfl) (info_cpuU _) ?_; simp only [Act.put, List.setIfInBounds_toArray, List.set_cons_succ, List.set_cons_zero]; go_big_quiet_on) | (go_big_quiet_want; refine quiet_load_agg 44 _ (by rfl) (w.heap.size) 82 (by rfl) (stc A ar ai ao) _ r0.out.lt (fun j v hv => (r0.out.cell (82 + j)).trans (whc_b K A ar ai ao j v hv)) Tryz.underlying44 (by rfl) (info_bst _ _ _ _) ?_; simp only [Act.put, List.setIfInBounds_toArray, List.set_cons_succ, List.set_cons_zero]; go_big_quiet_on) | (go_big_quiet_want; refine quiet_load_agg 44 _ (by rfl) (w.heap.size + 1) 82 (by rfl) (stc B br bi bo) _ r1.out.lt (fun j v hv => (r1.out.cell (82 + j)).trans (whc_b J B br bi bo j v hv)) Tryz.underlying44 (by rfl) (info_bst _ _ _ _) ?_; simp only [Act.put, List.setIfInBounds_toArray, List.set_cons_succ, List.set_cons_zero]; go_big_quiet_on) | (go_big_quiet_step (fail)))
    (first | (go_big_quiet_want; refine quiet_eql_agg 32 _ _ _ (by rfl) (cpc K) (cpc J) (by rfl) (by rfl) _ HEC.out (fun w => eqG_cpuU _ _ _ _ w) ?_; simp only [Act.put, List.setIfInBounds_toArray, List.set_cons_succ, List.set_cons_zero]; go_big_quiet_on) | (go_big_quiet_step (fail)))
    iterate 2 (go_big_quiet_step (fail))
    (first | (go_big_quiet_want; refine quiet_load_agg 32 _ (by rfl) (w.heap.size) 0 (by rfl) (cpc K) _ r0.out.lt (fun j v hv => (r0.out.cell (0 + j)).trans (whc_c K A ar ai ao j v hv)) Tryz.underlying32 (by rfl) (info_cpuU _) ?_; simp only [Act.put, List.setIfInBounds_toArray, List.set_cons_succ, List.set_cons_zero]; go_big_quiet_on) | (go_big_quiet_want; refine quiet_load_agg 32 _ (by rfl) (w.heap.size + 1) 0 (by rfl) (cpc J) _ r1.out.lt (fun j v hv => (r1.out.cell (0 + j)).trans (whc_c J B br bi bo j v hv)) Tryz.underlying32 (by rfl) (info_cpuU _) ?_; simp only [Act.put, List.setIfInBounds_toArray, List.set_cons_succ, List.set_cons_zero]; go_big_quiet_on) | (go_big_quiet_want; refine quiet_load_agg 44 _ (by rfl) (w.heap.size) 82 (by rfl) (stc A ar ai ao) _ r0.out.lt (fun j v hv => (r0.out.cell (82 + j)).trans (whc_b K A ar ai ao j v hv)) Tryz.underlying44 (by rfl) (info_bst _ _ _ _) ?_; simp only [Act.put, List.setIfInBounds_toArray, List.set_cons_succ, List.set_cons_zero]; go_big_quiet_on) | (go_big_quiet_want; refine quiet_load_agg 44 _ (by rfl) (w.heap.size + 1) 82 (by rfl) (stc B br bi bo) _ r1.out.lt (fun j v hv => (r1.out.cell (82 + j)).trans (whc_b J B br bi bo j v hv)) Tryz.underlying44 (by rfl) (info_bst _ _ _ _) ?_; simp only [Act.put, List.setIfInBounds_toArray, List.set_cons_succ, List.set_cons_zero]; go_big_quiet_on) | (go_big_quiet_step (fail)))
    (go_big_quiet_step (fail))
    (first | (go_big_quiet_want; refine quiet_load_agg 32 _ (by rfl) (w.heap.size) 0 (by rfl) (cpc K) _ r0.out.lt (fun j v hv => (r0.out.cell (0 + j)).trans (whc_c K A ar ai ao j v hv)) Tryz.underlying32 (by rfl) (info_cpuU _) ?_; simp only [Act.put, List.setIfInBounds_toArray, List.set_cons_succ, List.set_cons_zero]; go_big_quiet_on) | (go_big_quiet_want; refine quiet_load_agg 32 _ (by rfl) (w.heap.size + 1) 0 (by rfl) (cpc J) _ r1.out.lt (fun j v hv => (r1.out.cell (0 + j)).trans (whc_c J B br bi bo j v hv)) Tryz.underlying32 (by rfl) (info_cpuU _) ?_; simp only [Act.put, List.setIfInBounds_toArray, List.set_cons_succ, List.set_cons_zero]; go_big_quiet_on) | (go_big_quiet_want; refine quiet_load_agg 44 _ (by rfl) (w.heap.size) 82 (by rfl) (stc A ar ai ao) _ r0.out.lt (fun j v hv => (r0.out.cell (82 + j)).trans (whc_b K A ar ai ao j v hv)) Tryz.underlying44 (by rfl) (info_bst _ _ _ _) ?_; simp only [Act.put, List.setIfInBounds_toArray, List.set_cons_succ, List.set_cons_zero]; go_big_quiet_on) | (go_big_quiet_want; refine quiet_load_agg 44 _ (by rfl) (w.heap.size + 1) 82 (by rfl) (stc B br bi bo) _ r1.out.lt (fun j v hv => (r1.out.cell (82 + j)).trans (whc_b J B br bi bo j v hv)) Tryz.underlying44 (by rfl) (info_bst _ _ _ _) ?_; simp only [Act.put, List.setIfInBounds_toArray, List.set_cons_succ, List.set_cons_zero]; go_big_quiet_on) | (go_big_quiet_step (fail)))
    (go_big_quiet_step ((go_at_call 24; exact calls_later (HDV.out _))))
    iterate 8 (go_big_quiet_step (fail))
    (go_big_quiet_step ((go_at_call 130; exact calls_later_same (HBR.out _))))
    iterate 2 (go_big_quiet_step (fail))
    refine wpQuiet_nil ?_
    rintro _ ⟨yq, rfl⟩
    go_wp2
    go_ret
    exact ⟨by rw [HV.out]; first | done | rfl, BB.out.trans (yq.2.mono BB.out.size)⟩
def sbB (b a : Cp) : Bool := eqC a { b with s := upd b.s 10 (a.s 10) }
theorem uSb_c (b a : Cp) (w : World) : Calls Tryz.prog 84 #[.agg (cpc b), .agg (cpc a)] w fun e w' => e = .returned (.bool (sbB b a)) ∧ Below w.heap.size w w' := by
  obtain ⟨W0, hW0, r0, r1, b0, s0⟩ := start2 w (cpc b) (cpc a) 32 32
  have c1 : W0.cell? ⟨w.heap.size + 1, 45, none⟩ = some (.int .u64 (n64 (a.s 10))) := (r1.out.cell 45).trans (cpc_at _ 45 (by omega))
  have hfr := r0.out.froz 45
  have c0 : W0.cell? ⟨w.heap.size, 45, none⟩ = some (.int .u64 (n64 (b.s 10))) := (r0.out.cell 45).trans (cpc_at _ 45 (by omega))
  have HEC := Hid.mkU (fun w => eq_cpuU a { b with s := upd b.s 10 (a.s 10) } w)
  have HZ : Hid (sbB b a = eqC a { b with s := upd b.s 10 (a.s 10) }) := rfl
  rw [HZ.out]
  clear HZ
  generalize eqC a { b with s := upd b.s 10 (a.s 10) } = z at *
  go_enter Tryz.func84, Tryz.ntmps84
  go_upto_region 1 with fail
  clear hW0
  go_upto_region 2 with fail
  refine go_onP (motive := fun W => Code.wp _ _ _ _ W) (Q := fun W => Row W w.heap.size (cpc { b with s := upd b.s 10 (a.s 10) }) 32 ∧ Row W (w.heap.size + 1) (cpc a) 32 ∧ Below w.heap.size w W) ⟨by have q := r0.out.put (i := 45) (.int .u64 (n64 (a.s 10))); rw [cpc_s10] at q; exact q, r1.out.other (by omega) _, below_put b0.out (Nat.le_refl _) _⟩ ?_
  rintro W1 ⟨q0, q1, qb⟩
  have HR0 := Hid.mkU q0
  have HR1 := Hid.mkU q1
  have BB := Hid.mkU qb
  clear q0 q1 qb r0 r1 b0 s0 c0 c1 hfr
  have hne := later_nonempty W1
  refine wp_region_plain (x0 := Later.start W1) ?_
  (first | (go_big_quiet_want; refine quiet_load_agg 32 _ (by rfl) (w.heap.size + 1) 0 (by rfl) (cpc a) _ HR1.out.lt (lrow_cells HR1.out) Tryz.underlying32 (by rfl) (info_cpuU _) ?_; simp only [Act.put, List.setIfInBounds_toArray, List.set_cons_succ, List.set_cons_zero]; go_big_quiet_on) | (go_big_quiet_want; refine quiet_load_agg 32 _ (by rfl) (w.heap.size) 0 (by rfl) (cpc { b with s := upd b.s 10 (a.s 10) }) _ HR0.out.lt (lrow_cells HR0.out) Tryz.underlying32 (by rfl) (info_cpuU _) ?_; simp only [Act.put, List.setIfInBounds_toArray, List.set_cons_succ, List.set_cons_zero]; go_big_quiet_on) | (go_big_quiet_step (fail)))
  (first | (go_big_quiet_want; refine quiet_load_agg 32 _ (by rfl) (w.heap.size + 1) 0 (by rfl) (cpc a) _ HR1.out.lt (lrow_cells HR1.out) Tryz.underlying32 (by rfl) (info_cpuU _) ?_; simp only [Act.put, List.setIfInBounds_toArray, List.set_cons_succ, List.set_cons_zero]; go_big_quiet_on) | (go_big_quiet_want; refine quiet_load_agg 32 _ (by rfl) (w.heap.size) 0 (by rfl) (cpc { b with s := upd b.s 10 (a.s 10) }) _ HR0.out.lt (lrow_cells HR0.out) Tryz.underlying32 (by rfl) (info_cpuU _) ?_; simp only [Act.put, List.setIfInBounds_toArray, List.set_cons_succ, List.set_cons_zero]; go_big_quiet_on) | (go_big_quiet_step (fail)))
  (first | (go_big_quiet_want; refine quiet_eql_agg 32 _ _ _ (by rfl) (cpc a) (cpc { b with s := upd b.s 10 (a.s 10) }) (by rfl) (by rfl) _ HEC.out (fun w => eqG_cpuU _ _ _ _ w) ?_; simp only [Act.put, List.setIfInBounds_toArray, List.set_cons_succ, List.set_cons_zero]; go_big_quiet_on) | (go_big_quiet_step (fail)))
  (go_big_quiet_step (fail))
  refine wpQuiet_nil ?_
  rintro _ ⟨yq, rfl⟩
  go_wp2
  go_ret
  exact ⟨rfl, BB.out.trans (yq.2.mono BB.out.size)⟩
def rnE (a : Cp) : Bool := (a.rv == false) && (n64 a.ra == 0) && (a.rs == 0)
theorem eq_res0 (a : Cp) (w : World) : (Op.equalIn 10000 30 (.agg (rsc a.rv a.ra a.rs)) (.agg #[.bool false, .int .u64 0, .int .i64 0])).run Tryz.prog w = .ok (rnE a) w := by
  refine eq_of_cmp (cmp_res w 9998 a.rv false a.ra 0#64 a.rs 0) _ ?_
  unfold rnE
  have h0 : (n64 a.ra == 0) = true ↔ a.ra = 0#64 := by rw [beq_iff_eq, show (0 : Int) = n64 0#64 from rfl, n64_inj]
  simp only [Bool.and_eq_true, beq_iff_eq] at *
  constructor
  · rintro ⟨⟨x, y⟩, z⟩; exact ⟨x, h0.1 y, z, trivial⟩
  · rintro ⟨x, y, z, _⟩; exact ⟨⟨x, h0.2 y⟩, z⟩
theorem zero_resU (w : World) : (zeroValue 30).run Tryz.prog w = .ok (.agg #[.bool false, .int .u64 0, .int .i64 0]) w := by kernel_rfl
theorem eqG_res0 (x y : Operand) (u v : Array Value) (w : World) : (eqGuard .eql 30 x y (.agg u) (.agg v)).run Tryz.prog w = .ok () w := by kernel_rfl
def etB (r : Rw) (b a : Cp) : Bool := ((((((((n64 (a.s 7) == n64 b.pc) && (n64 (a.s 8) == n64 r.ca)) && (n64 (a.s 9) == n64 r.tv)) && (n64 (a.s 0) == n64 (enS (b.s 0) b.md))) && (a.md == 3)) && (!(a.wt))) && (rnE a)) && (n64 a.pc == n64 (hdl (b.s 1) r.ca)))
theorem uEt_c (r : Rw) (b a : Cp) (w : World) (hm : b.md = 0 ∨ b.md = 3) : Calls Tryz.prog 81 #[.agg (rwc r), .agg (cpc b), .agg (cpc a)] w fun e w' => e = .returned (.bool (etB r b a)) ∧ Below w.heap.size w w' := by
  obtain ⟨W0, hW0, r0, r1, r2, b0, s0⟩ := start3 w (rwc r) (cpc b) (cpc a) 52 32 32
  have BB := Hid.mkU b0.out
  clear s0 b0
  have HM : Hid ((etB r b a) = ((((((((n64 (a.s 7) == n64 b.pc) && (n64 (a.s 8) == n64 r.ca)) && (n64 (a.s 9) == n64 r.tv)) && (n64 (a.s 0) == n64 (enS (b.s 0) b.md))) && (a.md == 3)) && (!(a.wt))) && (rnE a)) && (n64 a.pc == n64 (hdl (b.s 1) r.ca)))) := rfl
  have c0_ca : ∀ x : Later W0, x.1.cell? ⟨w.heap.size, 6, none⟩ = some (.int .u64 (n64 r.ca)) := fun x => (lrow r0.out x).cell 6
  have c0_tv : ∀ x : Later W0, x.1.cell? ⟨w.heap.size, 7, none⟩ = some (.int .u64 (n64 r.tv)) := fun x => (lrow r0.out x).cell 7
  have c1_pc : ∀ x : Later W0, x.1.cell? ⟨w.heap.size + 1, 0, none⟩ = some (.int .u64 (n64 b.pc)) := fun x => ((lrow r1.out x).cell 0).trans (cpc_at _ 0 (by omega))
  have c1_md : ∀ x : Later W0, x.1.cell? ⟨w.heap.size + 1, 33, none⟩ = some (.int .i64 b.md) := fun x => ((lrow r1.out x).cell 33).trans (cpc_at _ 33 (by omega))
  have c1_s0 : ∀ x : Later W0, x.1.cell? ⟨w.heap.size + 1, 35, none⟩ = some (.int .u64 (n64 (b.s 0))) := fun x => ((lrow r1.out x).cell 35).trans (cpc_at _ 35 (by omega))
  have c1_s1 : ∀ x : Later W0, x.1.cell? ⟨w.heap.size + 1, 36, none⟩ = some (.int .u64 (n64 (b.s 1))) := fun x => ((lrow r1.out x).cell 36).trans (cpc_at _ 36 (by omega))
  have c2_pc : ∀ x : Later W0, x.1.cell? ⟨w.heap.size + 2, 0, none⟩ = some (.int .u64 (n64 a.pc)) := fun x => ((lrow r2.out x).cell 0).trans (cpc_at _ 0 (by omega))
  have c2_md : ∀ x : Later W0, x.1.cell? ⟨w.heap.size + 2, 33, none⟩ = some (.int .i64 a.md) := fun x => ((lrow r2.out x).cell 33).trans (cpc_at _ 33 (by omega))
  have c2_wt : ∀ x : Later W0, x.1.cell? ⟨w.heap.size + 2, 34, none⟩ = some (.bool a.wt) := fun x => ((lrow r2.out x).cell 34).trans (cpc_at _ 34 (by omega))
  have c2_s0 : ∀ x : Later W0, x.1.cell? ⟨w.heap.size + 2, 35, none⟩ = some (.int .u64 (n64 (a.s 0))) := fun x => ((lrow r2.out x).cell 35).trans (cpc_at _ 35 (by omega))
  have c2_s7 : ∀ x : Later W0, x.1.cell? ⟨w.heap.size + 2, 42, none⟩ = some (.int .u64 (n64 (a.s 7))) := fun x => ((lrow r2.out x).cell 42).trans (cpc_at _ 42 (by omega))
  have c2_s8 : ∀ x : Later W0, x.1.cell? ⟨w.heap.size + 2, 43, none⟩ = some (.int .u64 (n64 (a.s 8))) := fun x => ((lrow r2.out x).cell 43).trans (cpc_at _ 43 (by omega))
  have c2_s9 : ∀ x : Later W0, x.1.cell? ⟨w.heap.size + 2, 44, none⟩ = some (.int .u64 (n64 (a.s 9))) := fun x => ((lrow r2.out x).cell 44).trans (cpc_at _ 44 (by omega))
  have HER := Hid.mkU (fun w => eq_res0 a w)
  have hzr := zero_resU
  have HEN : Hid (∀ W, Calls Tryz.prog 137 #[.int .u64 (n64 (b.s 0)), .int .i64 b.md] W fun e w' => e = .returned (.int .u64 (n64 (enS (b.s 0) b.md))) ∧ w' = W) := uEn_c _ _ hm
  have HHD : Hid (∀ W, Calls Tryz.prog 138 #[.int .u64 (n64 (b.s 1)), .int .u64 (n64 r.ca)] W fun e w' => e = .returned (.int .u64 (n64 (hdl (b.s 1) r.ca))) ∧ w' = W) := uHd_c _ _
  generalize hZ : (etB r b a) = Z at HM ⊢
  clear hZ
  generalize a.wt = z5 at *
  generalize rnE a = z6 at *
  go_enter Tryz.func81, Tryz.ntmps81
  go_upto_region 1 with fail
  clear hW0
  have hne := later_nonempty W0
  cases q1 : (n64 (a.s 7) == n64 b.pc)
  focus
    have HV : Hid (Z = false) := (by unfold Hid; rw [HM.out]; first | (rw [q1]; done) | (rw [q1]; rfl))
  rotate_left 1
  focus
    cases q2 : (n64 (a.s 8) == n64 r.ca)
    focus
      have HV : Hid (Z = false) := (by unfold Hid; rw [HM.out]; first | (rw [q1, q2]; done) | (rw [q1, q2]; rfl))
    rotate_left 1
    focus
      cases q3 : (n64 (a.s 9) == n64 r.tv)
      focus
        have HV : Hid (Z = false) := (by unfold Hid; rw [HM.out]; first | (rw [q1, q2, q3]; done) | (rw [q1, q2, q3]; rfl))
      rotate_left 1
      focus
        cases q4 : (n64 (a.s 0) == n64 (enS (b.s 0) b.md))
        focus
          have HV : Hid (Z = false) := (by unfold Hid; rw [HM.out]; first | (rw [q1, q2, q3, q4]; done) | (rw [q1, q2, q3, q4]; rfl))
        rotate_left 1
        focus
          cases q5 : (a.md == 3)
          focus
            have HV : Hid (Z = false) := (by unfold Hid; rw [HM.out]; first | (rw [q1, q2, q3, q4, q5]; done) | (rw [q1, q2, q3, q4, q5]; rfl))
          rotate_left 1
          focus
            cases z5
            focus
              cases z6
              focus
                have HV : Hid (Z = false) := (by unfold Hid; rw [HM.out]; first | (rw [q1, q2, q3, q4, q5]; done) | (rw [q1, q2, q3, q4, q5]; rfl))
              rotate_left 1
              focus
                cases q6 : (n64 a.pc == n64 (hdl (b.s 1) r.ca))
                focus
                  have HV : Hid (Z = false) := (by unfold Hid; rw [HM.out]; first | (rw [q1, q2, q3, q4, q5, q6]; done) | (rw [q1, q2, q3, q4, q5, q6]; rfl))
                rotate_left 1
                focus
                  have HV : Hid (Z = true) := (by unfold Hid; rw [HM.out]; first | (rw [q1, q2, q3, q4, q5, q6]; done) | (rw [q1, q2, q3, q4, q5, q6]; rfl))
                rotate_left 1
              rotate_left 2
            rotate_left 3
            focus
              have HV : Hid (Z = false) := (by unfold Hid; rw [HM.out]; first | (rw [q1, q2, q3, q4, q5]; done) | (rw [q1, q2, q3, q4, q5]; rfl))
            rotate_left 1
          rotate_left 4
        rotate_left 5
      rotate_left 6
    rotate_left 7
  rotate_left 8
  all_goals
    clear HM
    refine wp_region_later (x0 := Later.start W0) (by kernel_rfl) (by kernel_rfl) ?_
    iterate 26 (go_big_quiet_step (fail))
    (go_big_quiet_step ((go_at_call 137; exact calls_later_same (HEN.out _))))
    iterate 14 (go_big_quiet_step (fail))
    (first | (go_big_quiet_want; refine quiet_load_agg 30 _ (by rfl) (w.heap.size + 2) 79 (by rfl) (rsc a.rv a.ra a.rs) _ r2.out.lt r2.out.res Tryz.underlying30 (by rfl) (info_res _ _ _) ?_; simp only [Act.put, List.setIfInBounds_toArray, List.set_cons_succ, List.set_cons_zero]; go_big_quiet_on) | (go_big_quiet_step (fail)))
    (first | (go_big_quiet_step (fail)))
    (first | (go_big_quiet_want; refine quiet_eql_agg 30 _ _ _ (by rfl) (rsc a.rv a.ra a.rs) (#[.bool false, .int .u64 0, .int .i64 0]) (by rfl) (by rfl) _ HER.out (fun w => eqG_res0 _ _ _ _ w) ?_; simp only [Act.put, List.setIfInBounds_toArray, List.set_cons_succ, List.set_cons_zero]; go_big_quiet_on) | (go_big_quiet_step (fail)))
    iterate 8 (go_big_quiet_step (fail))
    (go_big_quiet_step ((go_at_call 138; exact calls_later_same (HHD.out _))))
    iterate 3 (go_big_quiet_step (fail))
    refine wpQuiet_nil ?_
    rintro _ ⟨yq, rfl⟩
    go_wp2
    go_ret
    exact ⟨by rw [HV.out]; first | done | rfl, BB.out.trans (yq.2.mono BB.out.size)⟩
def woB (r : Rw) (b a : Nat → BitVec 64) : Bool := if r.kd != 1 then xEq a b && dnB r else if (decide (r.rd < 0) || decide (32 ≤ r.rd)) then false else if r.rd != 0 then xEq a (upd b r.rd.toNat r.val) else xEq a b
theorem xsc_set (f : Nat → BitVec 64) (i : Nat) (v : BitVec 64) (hi : i < 32) : (xsc f).setIfInBounds i (.int .u64 (n64 v)) = xsc (upd f i v) := by
  apply Array.ext_getElem?
  intro j
  rw [Array.getElem?_setIfInBounds]
  by_cases hj : j < 32
  · rw [xsc_at _ _ hj, xsc_at _ _ hj, xsc_size]
    by_cases e : i = j
    · subst e; rw [if_pos rfl, if_pos hi]; unfold upd; rw [if_pos rfl]
    · rw [if_neg e]; unfold upd; rw [if_neg (fun h => e h.symm)]
  · rw [Array.getElem?_eq_none (by rw [xsc_size]; omega), Array.getElem?_eq_none (by rw [xsc_size]; omega), if_neg (by omega)]
theorem uWo_c (r : Rw) (b a : Nat → BitVec 64) (w : World) : Calls Tryz.prog 66 #[.agg (rwc r), .agg (xsc b), .agg (xsc a)] w fun e w' => e = .returned (.bool (woB r b a)) ∧ Below w.heap.size w w' := by
  obtain ⟨W0, hW0, r0, r1, r2, b0, s0⟩ := start3 w (rwc r) (xsc b) (xsc a) 52 24 24
  have BB := Hid.mkU b0.out
  clear s0 b0
  have c_kd : W0.cell? ⟨w.heap.size, 1, none⟩ = some (.int .i64 r.kd) := r0.out.cell 1
  have c_rd : W0.cell? ⟨w.heap.size, 8, none⟩ = some (.int .i64 r.rd) := r0.out.cell 8
  have c_val : W0.cell? ⟨w.heap.size, 9, none⟩ = some (.int .u64 (n64 r.val)) := r0.out.cell 9
  have HDN := Hid.mkU (fun W => uDn_c r W)
  have HEX := Hid.mkU (fun w => eq_xsU a b w)
  have HEU := Hid.mkU (fun w => eq_xsU a (upd b r.rd.toNat r.val) w)
  have HM : Hid (woB r b a = if r.kd != 1 then xEq a b && dnB r else if (decide (r.rd < 0) || decide (32 ≤ r.rd)) then false else if r.rd != 0 then xEq a (upd b r.rd.toNat r.val) else xEq a b) := rfl
  generalize woB r b a = Z at HM ⊢
  generalize dnB r = z0 at *
  generalize xEq a b = z1 at *
  generalize xEq a (upd b r.rd.toNat r.val) = z2 at *
  have hne := later_nonempty W0
  go_enter Tryz.func66, Tryz.ntmps66
  go_upto_region 1 with fail
  clear hW0
  cases q1 : (r.kd != 1) with
  | true =>
    have HV : Hid (Z = (z1 && z0)) := (by unfold Hid; rw [HM.out, q1]; rfl)
    clear HM
    go_upto_region 2 with fail
    cases z1 with
    | true =>
      refine wp_region_plain (x0 := Later.start W0) ?_
      (first | (go_big_quiet_want; refine quiet_load_agg 24 _ (by rfl) (w.heap.size + 2) 0 (by rfl) (xsc a) _ r2.out.lt (lrow_cells r2.out) Tryz.underlying24 (by rfl) (info_xs _) ?_; simp only [Act.put, List.setIfInBounds_toArray, List.set_cons_succ, List.set_cons_zero]; go_big_quiet_on) | (go_big_quiet_want; refine quiet_load_agg 24 _ (by rfl) (w.heap.size + 1) 0 (by rfl) (xsc b) _ r1.out.lt (lrow_cells r1.out) Tryz.underlying24 (by rfl) (info_xs _) ?_; simp only [Act.put, List.setIfInBounds_toArray, List.set_cons_succ, List.set_cons_zero]; go_big_quiet_on) | (go_big_quiet_want; refine quiet_load_agg 52 _ (by rfl) (w.heap.size) 0 (by rfl) (rwc r) _ r0.out.lt (lrow_cells r0.out) Tryz.underlying52 (by rfl) (info_rw _) ?_; simp only [Act.put, List.setIfInBounds_toArray, List.set_cons_succ, List.set_cons_zero]; go_big_quiet_on) | (go_big_quiet_step (fail)))
      (first | (go_big_quiet_want; refine quiet_load_agg 24 _ (by rfl) (w.heap.size + 2) 0 (by rfl) (xsc a) _ r2.out.lt (lrow_cells r2.out) Tryz.underlying24 (by rfl) (info_xs _) ?_; simp only [Act.put, List.setIfInBounds_toArray, List.set_cons_succ, List.set_cons_zero]; go_big_quiet_on) | (go_big_quiet_want; refine quiet_load_agg 24 _ (by rfl) (w.heap.size + 1) 0 (by rfl) (xsc b) _ r1.out.lt (lrow_cells r1.out) Tryz.underlying24 (by rfl) (info_xs _) ?_; simp only [Act.put, List.setIfInBounds_toArray, List.set_cons_succ, List.set_cons_zero]; go_big_quiet_on) | (go_big_quiet_want; refine quiet_load_agg 52 _ (by rfl) (w.heap.size) 0 (by rfl) (rwc r) _ r0.out.lt (lrow_cells r0.out) Tryz.underlying52 (by rfl) (info_rw _) ?_; simp only [Act.put, List.setIfInBounds_toArray, List.set_cons_succ, List.set_cons_zero]; go_big_quiet_on) | (go_big_quiet_step (fail)))
      (first | (go_big_quiet_want; refine quiet_eql_agg 24 _ _ _ (by rfl) (xsc a) (xsc b) (by rfl) (by rfl) _ HEX.out (fun w => eqG_xsU _ _ _ _ w) ?_; simp only [Act.put, List.setIfInBounds_toArray, List.set_cons_succ, List.set_cons_zero]; go_big_quiet_on) | (go_big_quiet_step (fail)))
      (go_big_quiet_step (fail))
      (first | (go_big_quiet_want; refine quiet_load_agg 24 _ (by rfl) (w.heap.size + 2) 0 (by rfl) (xsc a) _ r2.out.lt (lrow_cells r2.out) Tryz.underlying24 (by rfl) (info_xs _) ?_; simp only [Act.put, List.setIfInBounds_toArray, List.set_cons_succ, List.set_cons_zero]; go_big_quiet_on) | (go_big_quiet_want; refine quiet_load_agg 24 _ (by rfl) (w.heap.size + 1) 0 (by rfl) (xsc b) _ r1.out.lt (lrow_cells r1.out) Tryz.underlying24 (by rfl) (info_xs _) ?_; simp only [Act.put, List.setIfInBounds_toArray, List.set_cons_succ, List.set_cons_zero]; go_big_quiet_on) | (go_big_quiet_want; refine quiet_load_agg 52 _ (by rfl) (w.heap.size) 0 (by rfl) (rwc r) _ r0.out.lt (lrow_cells r0.out) Tryz.underlying52 (by rfl) (info_rw _) ?_; simp only [Act.put, List.setIfInBounds_toArray, List.set_cons_succ, List.set_cons_zero]; go_big_quiet_on) | (go_big_quiet_step (fail)))
      (go_big_quiet_step ((go_at_call 135; exact calls_later (HDN.out _))))
      iterate 2 (go_big_quiet_step (fail))
      refine wpQuiet_nil ?_
      rintro _ ⟨yq, rfl⟩
      go_wp2
      go_ret
      exact ⟨by rw [HV.out]; first | done | rfl, BB.out.trans (yq.2.mono BB.out.size)⟩
    | false =>
      refine wp_region_plain (x0 := Later.start W0) ?_
      (first | (go_big_quiet_want; refine quiet_load_agg 24 _ (by rfl) (w.heap.size + 2) 0 (by rfl) (xsc a) _ r2.out.lt (lrow_cells r2.out) Tryz.underlying24 (by rfl) (info_xs _) ?_; simp only [Act.put, List.setIfInBounds_toArray, List.set_cons_succ, List.set_cons_zero]; go_big_quiet_on) | (go_big_quiet_want; refine quiet_load_agg 24 _ (by rfl) (w.heap.size + 1) 0 (by rfl) (xsc b) _ r1.out.lt (lrow_cells r1.out) Tryz.underlying24 (by rfl) (info_xs _) ?_; simp only [Act.put, List.setIfInBounds_toArray, List.set_cons_succ, List.set_cons_zero]; go_big_quiet_on) | (go_big_quiet_want; refine quiet_load_agg 52 _ (by rfl) (w.heap.size) 0 (by rfl) (rwc r) _ r0.out.lt (lrow_cells r0.out) Tryz.underlying52 (by rfl) (info_rw _) ?_; simp only [Act.put, List.setIfInBounds_toArray, List.set_cons_succ, List.set_cons_zero]; go_big_quiet_on) | (go_big_quiet_step (fail)))
      (first | (go_big_quiet_want; refine quiet_load_agg 24 _ (by rfl) (w.heap.size + 2) 0 (by rfl) (xsc a) _ r2.out.lt (lrow_cells r2.out) Tryz.underlying24 (by rfl) (info_xs _) ?_; simp only [Act.put, List.setIfInBounds_toArray, List.set_cons_succ, List.set_cons_zero]; go_big_quiet_on) | (go_big_quiet_want; refine quiet_load_agg 24 _ (by rfl) (w.heap.size + 1) 0 (by rfl) (xsc b) _ r1.out.lt (lrow_cells r1.out) Tryz.underlying24 (by rfl) (info_xs _) ?_; simp only [Act.put, List.setIfInBounds_toArray, List.set_cons_succ, List.set_cons_zero]; go_big_quiet_on) | (go_big_quiet_want; refine quiet_load_agg 52 _ (by rfl) (w.heap.size) 0 (by rfl) (rwc r) _ r0.out.lt (lrow_cells r0.out) Tryz.underlying52 (by rfl) (info_rw _) ?_; simp only [Act.put, List.setIfInBounds_toArray, List.set_cons_succ, List.set_cons_zero]; go_big_quiet_on) | (go_big_quiet_step (fail)))
      (first | (go_big_quiet_want; refine quiet_eql_agg 24 _ _ _ (by rfl) (xsc a) (xsc b) (by rfl) (by rfl) _ HEX.out (fun w => eqG_xsU _ _ _ _ w) ?_; simp only [Act.put, List.setIfInBounds_toArray, List.set_cons_succ, List.set_cons_zero]; go_big_quiet_on) | (go_big_quiet_step (fail)))
      (go_big_quiet_step (fail))
      (first | (go_big_quiet_want; refine quiet_load_agg 24 _ (by rfl) (w.heap.size + 2) 0 (by rfl) (xsc a) _ r2.out.lt (lrow_cells r2.out) Tryz.underlying24 (by rfl) (info_xs _) ?_; simp only [Act.put, List.setIfInBounds_toArray, List.set_cons_succ, List.set_cons_zero]; go_big_quiet_on) | (go_big_quiet_want; refine quiet_load_agg 24 _ (by rfl) (w.heap.size + 1) 0 (by rfl) (xsc b) _ r1.out.lt (lrow_cells r1.out) Tryz.underlying24 (by rfl) (info_xs _) ?_; simp only [Act.put, List.setIfInBounds_toArray, List.set_cons_succ, List.set_cons_zero]; go_big_quiet_on) | (go_big_quiet_want; refine quiet_load_agg 52 _ (by rfl) (w.heap.size) 0 (by rfl) (rwc r) _ r0.out.lt (lrow_cells r0.out) Tryz.underlying52 (by rfl) (info_rw _) ?_; simp only [Act.put, List.setIfInBounds_toArray, List.set_cons_succ, List.set_cons_zero]; go_big_quiet_on) | (go_big_quiet_step (fail)))
      (go_big_quiet_step ((go_at_call 135; exact calls_later (HDN.out _))))
      iterate 2 (go_big_quiet_step (fail))
      refine wpQuiet_nil ?_
      rintro _ ⟨yq, rfl⟩
      go_wp2
      go_ret
      exact ⟨by rw [HV.out]; first | done | rfl, BB.out.trans (yq.2.mono BB.out.size)⟩
  | false =>
    cases q2 : decide (r.rd < 0) with
    | true =>
      have HV : Hid (Z = false) := (by unfold Hid; rw [HM.out, q1, q2]; rfl)
      clear HM
      go_wp2
      go_ret
      exact ⟨by rw [HV.out]; first | done | rfl, BB.out⟩
    | false =>
      cases q3 : decide (32 ≤ r.rd) with
      | true =>
        have HV : Hid (Z = false) := (by unfold Hid; rw [HM.out, q1, q2, q3]; rfl)
        clear HM
        go_wp2
        go_ret
        exact ⟨by rw [HV.out]; first | done | rfl, BB.out⟩
      | false =>
        cases q4 : (r.rd != 0) with
        | false =>
          have HV : Hid (Z = z1) := (by unfold Hid; rw [HM.out, q1, q2, q3, q4]; rfl)
          clear HM
          go_upto_region 7 with fail
          refine wp_region_plain (x0 := Later.start W0) ?_
          (first | (go_big_quiet_want; refine quiet_load_agg 24 _ (by rfl) (w.heap.size + 2) 0 (by rfl) (xsc a) _ r2.out.lt (lrow_cells r2.out) Tryz.underlying24 (by rfl) (info_xs _) ?_; simp only [Act.put, List.setIfInBounds_toArray, List.set_cons_succ, List.set_cons_zero]; go_big_quiet_on) | (go_big_quiet_want; refine quiet_load_agg 24 _ (by rfl) (w.heap.size + 1) 0 (by rfl) (xsc b) _ r1.out.lt (lrow_cells r1.out) Tryz.underlying24 (by rfl) (info_xs _) ?_; simp only [Act.put, List.setIfInBounds_toArray, List.set_cons_succ, List.set_cons_zero]; go_big_quiet_on) | (go_big_quiet_step (fail)))
          (first | (go_big_quiet_want; refine quiet_load_agg 24 _ (by rfl) (w.heap.size + 2) 0 (by rfl) (xsc a) _ r2.out.lt (lrow_cells r2.out) Tryz.underlying24 (by rfl) (info_xs _) ?_; simp only [Act.put, List.setIfInBounds_toArray, List.set_cons_succ, List.set_cons_zero]; go_big_quiet_on) | (go_big_quiet_want; refine quiet_load_agg 24 _ (by rfl) (w.heap.size + 1) 0 (by rfl) (xsc b) _ r1.out.lt (lrow_cells r1.out) Tryz.underlying24 (by rfl) (info_xs _) ?_; simp only [Act.put, List.setIfInBounds_toArray, List.set_cons_succ, List.set_cons_zero]; go_big_quiet_on) | (go_big_quiet_step (fail)))
          (first | (go_big_quiet_want; refine quiet_eql_agg 24 _ _ _ (by rfl) (xsc a) (xsc b) (by rfl) (by rfl) _ HEX.out (fun w => eqG_xsU _ _ _ _ w) ?_; simp only [Act.put, List.setIfInBounds_toArray, List.set_cons_succ, List.set_cons_zero]; go_big_quiet_on) | (go_big_quiet_step (fail)))
          (go_big_quiet_step (fail))
          refine wpQuiet_nil ?_
          rintro _ ⟨yq, rfl⟩
          go_wp2
          go_ret
          exact ⟨by rw [HV.out]; first | done | rfl, BB.out.trans (yq.2.mono BB.out.size)⟩
        | true =>
          have HV : Hid (Z = z2) := (by unfold Hid; rw [HM.out, q1, q2, q3, q4]; rfl)
          have hlo := of_decide_eq_false q2
          have hhi := of_decide_eq_false q3
          clear HM
          obtain ⟨i, hi⟩ : ∃ i : Nat, r.rd = (i : Int) := ⟨r.rd.toNat, by omega⟩
          have hi32 : i < 32 := by omega
          have hiI : (i : Int) < 32 := by omega
          have HI : Hid (r.rd.toNat = i) := (by unfold Hid; omega)
          rw [hi] at q2 q3 q4 c_rd
          have hcb : W0.cell? ⟨w.heap.size + 1, i, none⟩ = some (.int .u64 (n64 (b i))) := (r1.out.cell i).trans (xsc_at _ _ hi32)
          have hfr := r1.out.froz i
          clear hi hlo hhi
          go_upto_region 7 with fail
          refine go_onP (motive := fun W => Code.wp _ _ _ _ W) (Q := fun W => Row W (w.heap.size + 1) (xsc (upd b i r.val)) 24 ∧ Row W (w.heap.size + 2) (xsc a) 24 ∧ Below w.heap.size w W) ⟨by have q := r1.out.put (i := i) (.int .u64 (n64 r.val)); rw [xsc_set _ _ _ hi32] at q; exact q, r2.out.other (by omega) _, below_put BB.out (by omega) _⟩ ?_
          rintro W1 ⟨p1, p2, pb⟩
          have P1 := Hid.mkU p1
          have P2 := Hid.mkU p2
          clear BB
          have BB := Hid.mkU pb
          rw [HI.out] at HEU
          clear p1 p2 pb r0 r1 r2 hcb hfr c_kd c_rd c_val hne
          have hne := later_nonempty W1
          refine wp_region_plain (x0 := Later.start W1) ?_
          (first | (go_big_quiet_want; refine quiet_load_agg 24 _ (by rfl) (w.heap.size + 2) 0 (by rfl) (xsc a) _ P2.out.lt (lrow_cells P2.out) Tryz.underlying24 (by rfl) (info_xs _) ?_; simp only [Act.put, List.setIfInBounds_toArray, List.set_cons_succ, List.set_cons_zero]; go_big_quiet_on) | (go_big_quiet_want; refine quiet_load_agg 24 _ (by rfl) (w.heap.size + 1) 0 (by rfl) (xsc (upd b i r.val)) _ P1.out.lt (lrow_cells P1.out) Tryz.underlying24 (by rfl) (info_xs _) ?_; simp only [Act.put, List.setIfInBounds_toArray, List.set_cons_succ, List.set_cons_zero]; go_big_quiet_on) | (go_big_quiet_step (fail)))
          (first | (go_big_quiet_want; refine quiet_load_agg 24 _ (by rfl) (w.heap.size + 2) 0 (by rfl) (xsc a) _ P2.out.lt (lrow_cells P2.out) Tryz.underlying24 (by rfl) (info_xs _) ?_; simp only [Act.put, List.setIfInBounds_toArray, List.set_cons_succ, List.set_cons_zero]; go_big_quiet_on) | (go_big_quiet_want; refine quiet_load_agg 24 _ (by rfl) (w.heap.size + 1) 0 (by rfl) (xsc (upd b i r.val)) _ P1.out.lt (lrow_cells P1.out) Tryz.underlying24 (by rfl) (info_xs _) ?_; simp only [Act.put, List.setIfInBounds_toArray, List.set_cons_succ, List.set_cons_zero]; go_big_quiet_on) | (go_big_quiet_step (fail)))
          (first | (go_big_quiet_want; refine quiet_eql_agg 24 _ _ _ (by rfl) (xsc a) (xsc (upd b i r.val)) (by rfl) (by rfl) _ HEU.out (fun w => eqG_xsU _ _ _ _ w) ?_; simp only [Act.put, List.setIfInBounds_toArray, List.set_cons_succ, List.set_cons_zero]; go_big_quiet_on) | (go_big_quiet_step (fail)))
          (go_big_quiet_step (fail))
          refine wpQuiet_nil ?_
          rintro _ ⟨yq, rfl⟩
          go_wp2
          go_ret
          exact ⟨by rw [HV.out]; first | done | rfl, BB.out.trans (yq.2.mono BB.out.size)⟩
end Go.Proofs.YtidfndgedopghaaGreatDoor
