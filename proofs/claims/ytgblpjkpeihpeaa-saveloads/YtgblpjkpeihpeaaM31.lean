/-
  Kj.
-/
import Derived.Test.YtgblpjkpeihpeaaM30
namespace Go.Proofs.Ytgblpjkpeihpeaa
set_option linter.unusedVariables false
set_option maxRecDepth 100000
open Go.ChangeShapes Go.WideShapes Go.ChangeAt Go.RowKit Go.Deep
theorem stc_setr (S : St) (r : List Int) (vr vr' vi vo : Value) : (stc S vr vi vo).setIfInBounds 0 vr' = stc { S with ram := r } vr' vi vo := rfl
theorem byt_far {V3 V4 V5 W : World} {u : Value} {l : List Int} {g8 g10 m : Nat} (h : Byt V3 u l) (hk : ∀ k, u.ownBlock = some k → m ≤ k) (h8 : g8 < m) (h10 : g10 = V3.heap.size) (x0 : Exc (· = g8) V3 V4) (x1 : Exc (· = g8) V4 V5) (x2 : Exc (· = g10) V5 W) : Byt W u l := by
  obtain ⟨a, cap, rfl, q1, q2, q3⟩ := h
  refine ⟨a, cap, rfl, q1, q2, fun hn => ?_⟩
  obtain ⟨g, off, rfl, h3, h4⟩ := q3 hn
  have hm := hk g rfl
  have s4 : g < V4.heap.size := Nat.lt_of_lt_of_le h3 x0.size
  have s5 : g < V5.heap.size := Nat.lt_of_lt_of_le s4 x1.size
  exact ⟨g, off, rfl, Nat.lt_of_lt_of_le s5 x2.size, fun j hj => by
    rw [x2.cell s5 (fun e => by have e2 : g = g10 := e; omega), x1.cell s4 (fun e => by have e2 : g = g8 := e; omega), x0.cell h3 (fun e => by have e2 : g = g8 := e; omega)]
    exact h4 j hj⟩
theorem built_wh2 (K : Cp) (S : St) (vr vi vo : Value) : Try.prog.built 37 [(0, .agg (cpc K)), (1, .agg (stc S vr vi vo))] = some (whc K S vr vi vo) := by kernel_rfl
theorem wpList_build_two {P : Program} {ops : Array Oper} {rest : List Oper} {o : Oper} {a : Act} {w : World} {Q : Exit → Act → World → Prop} (hgd : o.guard = none) (t : TypeId) (x y : Operand) (ho : o.op = .build t #[(0, x), (1, y)]) (u v : Value) (cs : Array Value)
    (hx : a.eval x = u) (hy : a.eval y = v) (hb : P.built t [(0, u), (1, v)] = some cs) (h : wpList P ops Q rest (a.put o.dst (.agg cs)) w) : wpList P ops Q (o :: rest) a w := by
  refine wpList_build_tab hgd t _ ho cs ?_ h
  rw [show (#[(0, x), (1, y)].map fun (i, u) => (i, a.eval u)).toList = [(0, a.eval x), (1, a.eval y)] by simp, hx, hy]
  exact hb
theorem store_endK {P : Program} {ops : Array Oper} {rest : List Oper} {o : Oper} {a : Act} {w' : World} {Q : Exit → Act → World → Prop} (hgd : o.guard = none) (t : TypeId) (x y : Operand) (ho : o.op = .store t x y) (hd : o.dst = none)
    (w : World) (c c' : Array Value) (hw : w' = w.alloc (.cells c t)) (hx : a.eval x = .pointer (some ⟨w.heap.size, 0, none⟩)) (hy : a.eval y = .agg c') (hi : (P.info? t).map (·.size) = some c'.size) (hs : c.size = c'.size) (h1 : c'.all (·.oneCell') = true)
    (h : wpList P ops Q rest a (w.alloc (.cells c' t))) : wpList P ops Q (o :: rest) a w' := by
  subst hw
  exact wpList_store_new hgd t x y ho hd c c' hx hy hi hs h1 h
theorem load_aggGK {P : Program} {ops : Array Oper} {rest : List Oper} {o : Oper} {a : Act} {w : World} {Q : Exit → Act → World → Prop} (ty : TypeId) (x : Operand) (ho : o.op = .load ty x) (hw : Region.wanted o (yielded ops a.tmps) = true)
    (g off : Nat) (hx : a.eval x = .pointer (some ⟨g, off, none⟩)) (cs : Array Value) (d : TypeDesc) (hc : ∀ j v, cs[j]? = some v → w.cell? ⟨g, off + j, none⟩ = some v)
    (hu : P.underlying ty = some d) (hd : (match d with | .struct _ | .array _ _ => true | _ => false) = true) (hi : (P.info? ty).map (·.size) = some cs.size)
    (h : wpList P ops Q rest (a.put o.dst (.agg cs)) w) : wpList P ops Q (o :: rest) a w :=
  BigFrame.wpList_want hw fun _ hK => by
    unfold Oper.wp execOp
    simp only [ho, hx, Instr.loadAt, Instr.sureAddr, Sem.run_bind, Sem.run_pure, Result.andThen_ok, run_load_agg w ty g off cs d hc hu hd hi]
    exact hK _ _ h
theorem wpList_neq_aggG {ops : Array Oper} {rest : List Oper} {o : Oper} {a : Act} {w : World} {Q : Exit → Act → World → Prop} (t t2 : TypeId) (x y : Operand) (ho : o.op = .binOp .neq t x y t2) (hw : Region.wanted o (yielded ops a.tmps) = true)
    (u v : Array Value) (hx : a.eval x = .agg u) (hy : a.eval y = .agg v) (r : Bool) (he : (Op.equalIn 10000 t (.agg u) (.agg v)).run Try.prog w = .ok r w) (hg : (eqGuard .neq t x y (.agg u) (.agg v)).run Try.prog w = .ok () w) (s : Bool) (hs : (!r) = s)
    (h : wpList Try.prog ops Q rest (a.put o.dst (.bool s)) w) : wpList Try.prog ops Q (o :: rest) a w := by
  subst hs
  exact BigFrame.wpList_want hw fun _ hK => by
    unfold Oper.wp execOp
    simp only [ho, hx, hy]
    go_simp
    exact hK _ _ h
set_option maxHeartbeats 60000000 in
theorem rload_rest {w : World} {a : Option Addr} {c : Nat} {l : List Int} (hb : Byt w (.slice a l.length c) l) (hl : l.length ≤ 140737488355328) (hall : AllB l) (h12 : 12 ≤ l.length) (h72 : l.length ≤ 72000) (hh : ((strOfNums (l.take 8)).toList == [65, 78, 86, 73, 76, 83, 1, 90]) = true) (hs : ldS l = true) :
    Calls Try.prog 17 #[.slice a l.length c] w fun e w' => LoadP l w e w' := by
  have hz := zero_wh
  obtain ⟨W0, hW0, r0, b0, s0⟩ := start1 w whz 37
  have HB := Hid.mk' b0.out
  have HR := Hid.mk' r0.out
  have HHD := Hid.mk' (qhead_c W0)
  have HBB := Hid.mk' (hb.later b0.out rfl)
  clear hb
  have hE : ldH l = true := by unfold ldH; simp only [hh, h12, h72, decide_true, Bool.and_self]
  have h1 : ¬ ((l.length : Nat) : Int) < 12 := by omega
  have h1b : decide (((l.length : Nat) : Int) < 12) = false := by simp [h1]
  have h2 : ¬ 72000 < ((l.length : Nat) : Int) := by omega
  have h2b : decide (72000 < ((l.length : Nat) : Int)) = false := by simp [h2]
  obtain ⟨hcc, q1, q2, q3, q4⟩ := load_parts HBB.out h12
  have hs8 : ∀ W, (Instr.slice 32 (.slice a l.length c) none (some (.int .i64 ((8 : Nat) : Int))) none).run Try.prog W = .ok (.slice a 8 c) W := fun W => by
    have q := sl_h W a l.length c 8 (by omega)
    rw [if_neg (by omega), map_add0] at q; exact q
  rw [show ((8 : Nat) : Int) = 8 from rfl] at hs8
  have hsn : ∀ W, (Instr.slice 32 (.slice a l.length c) none (some (.int .i64 ((l.length - 4 : Nat) : Int))) none).run Try.prog W = .ok (.slice a (l.length - 4) c) W := fun W => by
    have q := sl_h W a l.length c (l.length - 4) (by omega)
    rw [if_neg (by omega), map_add0] at q; exact q
  have hse : ∀ W, (Instr.slice 32 (.slice a l.length c) (some (.int .i64 ((l.length - 4 : Nat) : Int))) none none).run Try.prog W = .ok (.slice (a.map (fun x => x.add (l.length - 4))) (l.length - (l.length - 4)) (c - (l.length - 4))) W := fun W => by
    have q := sl_l W a l.length c (l.length - 4) (by omega)
    rw [if_neg (by omega)] at q; exact q
  rw [show ((l.length - 4 : Nat) : Int) = ((l.length : Nat) : Int) - 4 from by omega] at hsn hse
  have HQ1 := Hid.mk' q1
  have HQ3 := Hid.mk' q3
  have HQ2 : Hid (Byt W0 (.slice a (l.length - 4) c) (l.take (l.length - 4))) := (by
    have q := HBB.out.cut 0 (l.length - 4) c (Nat.zero_le _) (by omega) (Nat.le_refl _) (by omega)
    rw [if_neg (by omega), map_add0, List.drop_zero, Nat.sub_zero, Nat.sub_zero] at q
    exact q)
  have HFT := Hid.mk' (foot_eq (M := l.drop (l.length - 4)) (fun x hx => hall x (List.mem_of_mem_drop hx)) (by rw [List.length_drop]; omega) (sumB (l.take (l.length - 4))).toNat (by have := (sumB (l.take (l.length - 4))).isLt; omega))
  have hsh : (strOfNums headB).toList = [65, 78, 86, 73, 76, 83, 1, 90] := by kernel_rfl
  have hs' : decide (((tk (l.drop (l.length - 4)) : Nat) : Int) = (((sumB (l.take (l.length - 4))).toNat : Nat) : Int)) = true := hs
  rw [hs'] at HFT
  have HLL : Hid ((l.take (l.length - 4)).length ≤ 72000) := (by unfold Hid; rw [List.length_take]; omega)
  have HEE : Hid (ldE l = match rdV (l.take (l.length - 4)) with | none => 161 | some x => if ldW x then 0 else 162) := (by unfold Hid ldE; rw [hE, if_neg (by simp), if_neg (by rw [hs]; simp)]; rfl)
  have HVV : Hid (ldV l = match rdV (l.take (l.length - 4)) with | none => (cz, zS) | some x => if ldW x then x else (cz, zS)) := (by unfold Hid ldV; rw [hE, if_neg (by simp), if_neg (by rw [hs]; simp)]; rfl)
  have HAL : Hid (AllB (l.take (l.length - 4))) := fun x hx => hall x (List.mem_of_mem_take hx)
  have HLN : Hid (l.length - 4 = (l.take (l.length - 4)).length ∧ 8 ≤ (l.take (l.length - 4)).length) := (by unfold Hid; rw [List.length_take]; omega)
  have HOA : Hid (∀ k, (Value.slice a (l.length - 4) c).ownBlock = some k → k < W0.heap.size) := (by have q := load_own HBB.out h12 True (l.length - 4) c; simpa [Hid] using q)
  clear hE q1 q2 q3 q4 hcc hall HBB hs hs'
  have HRL : Hid (w.heap.size < W0.heap.size) := HR.out.lt
  have HWG : Hid (w.heap.size ≤ W0.heap.size) := HB.out.size
  generalize hs8l : strOfNums (l.take 8) = s8 at *
  generalize hLL : l.take (l.length - 4) = L at *
  generalize hMM : l.drop (l.length - 4) = M at *
  generalize (a.map (fun x => x.add (l.length - 4))) = aE at *
  generalize l.length = n at *
  go_enter Try.func17, Try.ntmps17
  go_upto_region 1 with fail
  clear hz hW0 r0 b0 s0
  go_upto_region 2 with (go_at_call 27; refine HHD.out.mono ?_; rintro e W1 ⟨rfl, hob, hbl⟩; have HOB := Hid.mk' hob; have HBL := Hid.mk' hbl; clear hob hbl)
  have HR1 := Hid.mk' (HR.out.later HBL.out HRL.out)
  have HB1 := Hid.mk' (HB.out.trans (HBL.out.mono HWG.out))
  have hcv : ∀ x : Later W1, (convert 32 9 (.slice a 8 c)).run Try.prog x.1 = .ok (.string s8) x.1 := fun x => by rw [← hs8l]; exact (HQ1.out.later (HBL.out.trans (x.below.mono HBL.out.size)) rfl).conv
  have hch : ∀ x : Later W1, (convert 32 9 (.slice (some ⟨W0.heap.size, 0, none⟩) 8 8)).run Try.prog x.1 = .ok (.string (strOfNums headB)) x.1 := fun x => ((Byt.of_own HOB.out).later x.below rfl).conv
  generalize strOfNums headB = sh at *
  have heqs : s8.toList = sh.toList := by rw [hsh]; simpa using hh
  clear hs8l
  have := later_nonempty W1
  refine wp_region_later (x0 := Later.start W1) (by kernel_rfl) (by kernel_rfl) ?_
  repeat (go_big_quiet_step (fail))
  refine wpQuiet_nil ?_
  rintro w' ⟨x9, rfl⟩
  have HR9 := Hid.mk' (HR1.out.later x9.below HR1.out.lt)
  have HB9 := Hid.mk' (HB1.out.trans (x9.below.mono HB1.out.size))
  have HI := Hid.mk' info_whz
  have HON := Hid.mk' whz_ones
  have HBW := Hid.mk' built_wh
  clear this
  have HX0 : Hid (Below W0.heap.size W0 x9.1) := HBL.out.trans (x9.below.mono HBL.out.size)
  clear hcv hch hs8 hh hsh heqs h1 h1b h2 h2b
  have HSM := Hid.mk' (rsum_c L _ x9.1 (HQ2.out.later HX0.out rfl) (by have := HLL.out; omega))
  have HNM : Hid (Calls Try.prog 33 #[.slice none 0 0, .int .u64 (n32 (sumB L)), .int .i64 ((4 : Nat) : Int)] x9.1 fun e w' => ∃ v, e = .returned v ∧ Owb x9.1.heap.size w' v ([] ++ ptL (sumB L).toNat 4) ∧ Fr x9.1.heap.size x9.1 w') := qnum_c x9.1.heap.size (.slice none 0 0) [] (sumB L).toNat 4 x9.1 ⟨by simp [bv], .inl ⟨rfl, rfl⟩⟩ (by have := (sumB L).isLt; omega) (by omega) (by simp) (Nat.le_refl _)
  have hr2 := n32_hiJ (sumB L)
  have hr3 := n32_loJ (sumB L)
  rw [List.nil_append] at HNM
  generalize n32 (sumB L) = SM at *
  generalize ptL (sumB L).toNat 4 = PT at *
  go_upto_region 7 with (first | (go_at_call 32; refine HSM.out.mono ?_; rintro e w5 ⟨rfl, hw5⟩; have hw6 := hw5.symm; subst hw6) | (go_at_call 33; refine HNM.out.mono ?_; rintro e W4 ⟨v, rfl, hov, hfr⟩; have HOV := Hid.mk' hov; have HFR := Hid.mk' hfr; clear hov hfr))
  have HX4 : Hid (Below W0.heap.size W0 W4) := HX0.out.trans (HFR.out.b.mono HX0.out.size)
  have hcv : ∀ x : Later W4, (convert 32 9 v).run Try.prog x.1 = .ok (.string (strOfNums PT)) x.1 := fun x => ((Byt.of_own HOV.out).later x.below rfl).conv
  have hce : ∀ x : Later W4, (convert 32 9 (.slice aE (n - (n - 4)) (c - (n - 4)))).run Try.prog x.1 = .ok (.string (strOfNums M)) x.1 := fun x => (HQ3.out.later (HX4.out.trans (x.below.mono HX4.out.size)) rfl).conv
  have hft := HFT.out
  generalize strOfNums PT = s1 at *
  generalize strOfNums M = s2 at *
  have := later_nonempty W4
  refine wp_region_later (x0 := Later.start W4) (by kernel_rfl) (by kernel_rfl) ?_
  repeat (go_big_quiet_step (fail))
  refine wpQuiet_nil ?_
  rintro w' ⟨x8, rfl⟩
  have HR8 := Hid.mk' ((HR9.out.later HFR.out.b HR9.out.lt).later x8.below (Nat.lt_of_lt_of_le HR9.out.lt HFR.out.b.size))
  have HB8 := Hid.mk' ((HB9.out.trans (HFR.out.b.mono HB9.out.size)).trans (x8.below.mono (HB9.out.trans (HFR.out.b.mono HB9.out.size)).size))
  have HX8 : Hid (Below W0.heap.size W0 x8.1) := HX4.out.trans (x8.below.mono HX4.out.size)
  clear this hcv hce hft hse
  clear HSM HNM HOV HFR HX4 HX0 HFT HQ1 HQ3 HR9 HB9 HR1 HB1 HOB HBL HHD HB HR
  go_upto_region 10 with fail
  obtain ⟨g8, hg8⟩ : ∃ g8, g8 = x8.1.heap.size := ⟨_, rfl⟩
  have hl0 := HLN.out.1
  have hbd8 : bd false L 8 = false := by have := HLN.out.2; unfold bd; simp; omega
  have HP0 : Hid (Rrd g8 (x8.1.alloc (.cells #[.slice a (n - 4) c, .int .i64 8, .bool false] 77)) g8 L 8 false) := ⟨Nat.le_refl _, HAL.out, a, c, 8, by rw [hbd8, ← hl0, hg8]; exact Row.new _ _ _, by rw [← hl0]; exact (HQ2.out.later HX8.out rfl).later (below_al _ _) rfl, HLL.out, (fun k hk => by rw [hg8]; rw [← hl0] at hk; exact Nat.lt_of_lt_of_le (HOA.out k hk) HX8.out.size), (fun _ => rfl), by omega, by omega⟩
  have HZ0 := Hid.mk' (HR8.out.old HR8.out.lt (.cells #[.slice a (n - 4) c, .int .i64 8, .bool false] 77))
  have HB0 : Hid (Below w.heap.size w (x8.1.alloc (.cells #[.slice a (n - 4) c, .int .i64 8, .bool false] 77))) := HB8.out.trans ((below_al _ _).mono HB8.out.size)
  have k8 : w.heap.size < g8 := by rw [hg8]; exact HR8.out.lt
  rw [← hg8]
  generalize x8.1.alloc (.cells #[.slice a (n - 4) c, .int .i64 8, .bool false] 77) = V0 at *
  clear hg8 hl0 hbd8 HR8 HB8 HX8 hsn HQ2 HOA
  have hz := zero_cpu
  go_upto_region 11 with (first | (go_at_call 37; refine (rcpu_c HP0.out HAL.out).mono ?_; rintro e V1 ⟨K, rfl, h1, h2, h3, h4, h5, h6, h7⟩; have HK1 := Hid.mk' h1; have HP1 := Hid.mk' h6; have HX1 := Hid.mk' h7; clear h1 h2 h3 h4 h5 h6 h7; have HIC := Hid.mk' (info_cpuJ K); have HOC := Hid.mk' (cpc_ones K); have HSC : Hid ((cpc cz).size = (cpc K).size) := (by unfold Hid; rw [cpc_size, cpc_size]); obtain ⟨CK, hCK⟩ : ∃ CK, CK = cpc K := ⟨_, rfl⟩; rw [← hCK] at HIC HOC HSC ⊢; have HCK := Hid.mk' hCK; clear hCK) | (refine wpList_store_new (by rfl) 31 _ _ (by rfl) (by rfl) (cpc cz) CK (by rfl) (by rfl) HIC.out HSC.out HOC.out ?_))
  obtain ⟨g9, hg9⟩ : ∃ g9, g9 = V1.heap.size := ⟨_, rfl⟩
  have n89 : g8 < g9 := by rw [hg9]; exact HP1.out.lt
  have HB1 : Hid (Below w.heap.size w V1) := HB0.out.trans (HX1.out.below HB0.out.size (fun k e => by omega))
  have HZ1 : Hid (Row V1 w.heap.size whz 37) := (HX1.out.block _ HZ0.out.lt (by omega)).trans HZ0.out
  rw [← hg9]
  refine on_W (motive := fun W => Code.wp _ _ _ _ W) (Q := fun W => Row W g9 CK 31 ∧ Row W w.heap.size whz 37 ∧ Rrd g8 W g8 L 524 (cpuF L 8 false) ∧ Below w.heap.size w W)
    ⟨by rw [hg9]; exact Row.new _ _ _, HZ1.out.old HZ1.out.lt _, HP1.out.later (below_al _ _), HB1.out.trans ((below_al _ _).mono HB1.out.size)⟩ ?_
  clear HP1 HX1 HZ1 HB1 HP0 HZ0 HB0 hz hg9 HIC HOC HSC
  rintro V2 ⟨p1, p2, p3, p4⟩
  have HC0 := Hid.mk' p1
  have HZ0 := Hid.mk' p2
  have HP0 := Hid.mk' p3
  have HB0 := Hid.mk' p4
  clear p1 p2 p3 p4
  have hz := zero_bus
  go_upto_region 12 with (first | (go_at_call 38; refine (rdev_c HP0.out HAL.out).mono ?_; rintro e V3 ⟨S, a1, a2, n1, n2, c1, c2, rfl, h1, h2, h3, h4, h5, h6, h7, h8⟩; have HS1 := Hid.mk' h1; have HI1 := Hid.mk' h2; have HO1 := Hid.mk' h3; have HLE := Hid.mk' (And.intro h4 h5); have HS2 := Hid.mk' h6; have HP1 := Hid.mk' h7; have HX1 := Hid.mk' h8; clear h1 h2 h3 h4 h5 h6 h7 h8; have HIC := Hid.mk' (info_busJ S (.slice none 0 0) (.slice a1 n1 c1) (.slice a2 n2 c2)); have HOC := Hid.mk' (stc_onesJ S none a1 a2 0 n1 n2 0 c1 c2)) | (refine wpList_store_new (by rfl) 35 _ _ (by rfl) (by rfl) _ (stc S (.slice none 0 0) (.slice a1 n1 c1) (.slice a2 n2 c2)) (by rfl) (by rfl) HIC.out (by rfl) HOC.out ?_))
  obtain ⟨g10, hg10⟩ : ∃ g10, g10 = V3.heap.size := ⟨_, rfl⟩
  have HC1 : Hid (Row V3 g9 CK 31) := (HX1.out.block _ HC0.out.lt (by omega)).trans HC0.out
  have HZ1 : Hid (Row V3 w.heap.size whz 37) := (HX1.out.block _ HZ0.out.lt (by omega)).trans HZ0.out
  have n910 : g9 < g10 := by rw [hg10]; exact HC1.out.lt
  have HB1 : Hid (Below w.heap.size w V3) := HB0.out.trans (HX1.out.below HB0.out.size (fun k e => by omega))
  have h9s : g9 < V2.heap.size := HC0.out.lt
  rw [← hg10]
  have HX2 : Hid (Exc (· = g8) V3 (V3.alloc (.cells (stc S (.slice none 0 0) (.slice a1 n1 c1) (.slice a2 n2 c2)) 35))) := Exc.of_below (below_al _ _) rfl
  have HG10 := Hid.mk' hg10
  refine on_W (motive := fun W => Code.wp _ _ _ _ W) (Q := fun W => Row W g10 (stc S (.slice none 0 0) (.slice a1 n1 c1) (.slice a2 n2 c2)) 35 ∧ Row W g9 CK 31 ∧ Row W w.heap.size whz 37 ∧ Rrd g8 W g8 L (devQ L 524) (devF L 524 (cpuF L 8 false)) ∧ Below w.heap.size w W ∧ Exc (· = g8) V3 W)
    ⟨by rw [hg10]; exact Row.new _ _ _, HC1.out.old HC1.out.lt _, HZ1.out.old HZ1.out.lt _, HP1.out.later (below_al _ _), HB1.out.trans ((below_al _ _).mono HB1.out.size), HX2.out⟩ ?_
  clear HP1 HX1 HZ1 HB1 HP0 HZ0 HB0 hz HC0 HC1 HX2 HIC HOC hg10
  rintro V4 ⟨p1, p2, p3, p4, p5, p6⟩
  have HD0 := Hid.mk' p1
  have HC0 := Hid.mk' p2
  have HZ0 := Hid.mk' p3
  have HP0 := Hid.mk' p4
  have HB0 := Hid.mk' p5
  have HX0 := Hid.mk' p6
  clear p1 p2 p3 p4 p5 p6
  go_upto_region 13 with (go_at_call 39; refine (rram_c HP0.out).mono ?_; rintro e V5 ⟨r, a0, n0, c0, qf, bf, rfl, h1, h2, h3, h4, h5, h6, h7⟩; have HM1 := Hid.mk' h1; have HL1 := Hid.mk' h3; have HY1 := Hid.mk' h4; have HN1 := Hid.mk' h5; have HP1 := Hid.mk' h6; have HX1 := Hid.mk' h7; clear h1 h2 h3 h4 h5 h6 h7; have HD1 := Hid.mk' ((HX1.out.block g10 HD0.out.lt (by omega)).trans HD0.out); have cS := Row.cell HD1.out 0; have fS := Row.froz HD1.out 0)
  have HDX : Hid (Row V5 g10 (stc S (.slice none 0 0) (.slice a1 n1 c1) (.slice a2 n2 c2)) 35) := HD1.out
  have n9g : g9 ≠ g10 := by omega
  have hv4 : g10 < V4.heap.size := HD0.out.lt
  have x5 : Exc (· = g10) V5 (V5.setCell ⟨g10, 0, none⟩ (.slice a0 n0 c0)) := (Exc.refl _ _).set g10 0 _ rfl
  have HOW : Hid ((∀ k, (Value.slice a0 n0 c0).ownBlock = some k → w.heap.size < k) ∧ (∀ k, (Value.slice a1 n1 c1).ownBlock = some k → w.heap.size < k) ∧ (∀ k, (Value.slice a2 n2 c2).ownBlock = some k → w.heap.size < k)) := ⟨fun k hk => by have := HM1.out.2 k hk; omega, fun k hk => by have := HI1.out.2 k hk; omega, fun k hk => by have := HO1.out.2 k hk; omega⟩
  have HBS : Hid (Bs { S with ram := r } (.slice a0 n0 c0) (.slice a1 n1 c1) (.slice a2 n2 c2) (V5.setCell ⟨g10, 0, none⟩ (.slice a0 n0 c0))) := ⟨HM1.out.1.exc x5 (fun g off n c e q => by have := HM1.out.2 g (by rw [e]; rfl); have q2 : g = g10 := q; omega), byt_far HI1.out.1 HI1.out.2 (by omega) HG10.out HX0.out HX1.out x5, byt_far HO1.out.1 HO1.out.2 (by omega) HG10.out HX0.out HX1.out x5⟩
  have HC5 : Hid (Row V5 g9 CK 31) := (HX1.out.block _ HC0.out.lt (by omega)).trans HC0.out
  have HZ5 : Hid (Row V5 w.heap.size whz 37) := (HX1.out.block _ HZ0.out.lt (by omega)).trans HZ0.out
  have HB5 : Hid (Below w.heap.size w V5) := HB0.out.trans (HX1.out.below HB0.out.size (fun k e => by omega))
  refine on_W (motive := fun W => Code.wp _ _ _ _ W) (Q := fun W => Row W g10 (stc { S with ram := r } (.slice a0 n0 c0) (.slice a1 n1 c1) (.slice a2 n2 c2)) 35 ∧ Row W g9 CK 31 ∧ Row W w.heap.size whz 37 ∧ Rrd g8 W g8 L qf bf ∧ Below w.heap.size w W ∧ Bs { S with ram := r } (.slice a0 n0 c0) (.slice a1 n1 c1) (.slice a2 n2 c2) W)
    ⟨by have q := Row.put (i := 0) HDX.out (.slice a0 n0 c0); rw [stc_setr S r] at q; exact q, HC5.out.other n9g _, HZ5.out.other (by omega) _, HP1.out.put (by omega) (by omega) _, below_put HB5.out (by omega) _, HBS.out⟩ ?_
  clear HDX HBS x5 cS fS HX1 HX0 HD0 HD1 HC0 HC5 HZ0 HZ5 HP0 HP1 HB0 HB5 HM1 HI1 HO1 HG10 hv4
  rintro V6 ⟨p1, p2, p3, p4, p5, p6⟩
  have HD0 := Hid.mk' p1
  have HC0 := Hid.mk' p2
  have HZ0 := Hid.mk' p3
  have HP0 := Hid.mk' p4
  have HB0 := Hid.mk' p5
  have HS0 := Hid.mk' p6
  clear p1 p2 p3 p4 p5 p6
  obtain ⟨S', hS'⟩ : ∃ S' : St, S' = { S with ram := r } := ⟨_, rfl⟩
  rw [← hS'] at HD0 HS0
  have HSP := Hid.mk' hS'
  clear hS'
  obtain ⟨e0, e1, e2⟩ : n0 = S'.ram.length ∧ n1 = S'.inp.length ∧ n2 = S'.out.length := (by
    obtain ⟨⟨_, _, q0, _⟩, ⟨_, _, q1, _⟩, ⟨_, _, q2, _⟩⟩ := HS0.out
    cases q0; cases q1; cases q2
    exact ⟨rfl, rfl, rfl⟩)
  subst e0 e1 e2
  obtain ⟨aR, cR, pR, hrr, -, -, -, hpq, hp0, hp7⟩ := HP0.out.st
  have c1R := hrr.cell 1
  have c2R := hrr.cell 2
  have HPQ := Hid.mk' hpq
  clear hrr hpq HP0
  cases hbd : bd bf L qf with
  | true =>
    rw [hbd] at c2R
    have hrd := rd_no (HN1.out hbd)
    have HE := Hid.mk' (show ldE l = 161 from by rw [HEE.out, hrd])
    have HV := Hid.mk' (show ldV l = (cz, zS) from by rw [HVV.out, hrd])
    clear HEE HVV hrd hbd HN1 HY1 HPQ
    go_wp2_with (first | (refine wpList_build_tab (by rfl) 37 _ (by rfl) whz HBW.out ?_) | (refine wpList_store_row (by rfl) _ _ _ (by rfl) (by rfl) _ _ _ (by rfl) (by rfl) HZ0.out HI.out rfl HON.out ?_))
    refine bodyPost_ret (v := .tuple #[.agg whz, .int .i64 161]) (results_row_slot Try.results17 _ _ w.heap.size 37 _ (0, 0) _ _ (by rfl) (by rfl) (setRow_heap _ _ _ _ _ _ HZ0.out) Try.underlying37 (by rfl) HI.out) rfl ?_
    exact LoadP.no HE.out HV.out (below_row HB0.out (Nat.le_refl _) _)
  | false =>
    rw [hbd] at c2R
    obtain ⟨hb1, hr1⟩ := HY1.out hbd
    have hpe := HPQ.out hbd
    subst hpe
    by_cases hq : qf = L.length
    · have hqe : (qf : Int) = (n : Int) - 4 := by have := HLN.out.1; have := HLN.out.2; omega
      have hrd := rd_yes hb1 hr1 hq
      have HC2 : Hid (CK = cpc (cpuN L 8)) := HCK.out.trans (HK1.out (rd_cpu hb1))
      have hS := HS2.out hb1
      have hSS : ({ devN L 524 with ram := r } : St) = S' := by rw [HSP.out, ← hS]
      rw [hSS] at hrd
      have HE2 : Hid (ldE l = if ldW (cpuN L 8, S') then 0 else 162) := (by unfold Hid; rw [HEE.out, hrd])
      have HV2 : Hid (ldV l = if ldW (cpuN L 8, S') then (cpuN L 8, S') else (cz, zS)) := (by unfold Hid; rw [HVV.out, hrd])
      clear HEE HVV hrd hbd HN1 HY1 HPQ HK1 hS hSS HS2 HSP HCK HS1 hr1 hb1 hq
      generalize cpuN L 8 = K' at *
      have HIC : Hid ((Try.prog.info? 31).map (·.size) = some CK.size) := (by unfold Hid; rw [HC2.out]; exact info_cpuJ K')
      have HIB := Hid.mk' (info_busJ S' (.slice a0 S'.ram.length c0) (.slice a1 S'.inp.length c1) (.slice a2 S'.out.length c2))
      have HIX := Hid.mk' (info_wh K' S' (.slice a0 S'.ram.length c0) (.slice a1 S'.inp.length c1) (.slice a2 S'.out.length c2))
      have HOX := Hid.mk' (whc_ones K' S' a0 a1 a2 S'.ram.length S'.inp.length S'.out.length c0 c1 c2)
      have HZX := Hid.mk' (whz_size K' S' (.slice a0 S'.ram.length c0) (.slice a1 S'.inp.length c1) (.slice a2 S'.out.length c2))
      have HBT : Hid (Try.prog.built 37 [(0, .agg CK), (1, .agg (stc S' (.slice a0 S'.ram.length c0) (.slice a1 S'.inp.length c1) (.slice a2 S'.out.length c2)))] = some (whc K' S' (.slice a0 S'.ram.length c0) (.slice a1 S'.inp.length c1) (.slice a2 S'.out.length c2))) := (by unfold Hid; rw [HC2.out]; exact built_wh2 _ _ _ _ _)
      have HCH : Hid (∀ W, Calls Try.prog 9 #[.agg (whc K' S' (.slice a0 S'.ram.length c0) (.slice a1 S'.inp.length c1) (.slice a2 S'.out.length c2))] W fun e w' => e = .returned (.int .i64 (if S'.ok then 0 else 162)) ∧ Below W.heap.size W w') := fun W => rchk_c K' S' a0 a1 a2 c0 c1 c2 W
      obtain ⟨BK, hBK⟩ : ∃ BK, BK = stc S' (.slice a0 S'.ram.length c0) (.slice a1 S'.inp.length c1) (.slice a2 S'.out.length c2) := ⟨_, rfl⟩
      obtain ⟨cs, hcs⟩ : ∃ cs, cs = whc K' S' (.slice a0 S'.ram.length c0) (.slice a1 S'.inp.length c1) (.slice a2 S'.out.length c2) := ⟨_, rfl⟩
      rw [← hBK] at HD0 HIB HBT
      rw [← hcs] at HIX HOX HZX HBT HCH
      have HCS := Hid.mk' hcs
      clear hcs hBK
      have HPR : Hid (∀ W, Calls Try.prog 28 #[.agg CK] W fun e w' => e = .returned (.agg (cpc (PR K'))) ∧ Below W.heap.size W w') := fun W => by rw [HC2.out]; exact rPr_c K' W
      have HIP := Hid.mk' (info_cpuJ (PR K'))
      have HOP := Hid.mk' (cpc_ones (PR K'))
      have HSC : Hid ((cpc cz).size = (cpc (PR K')).size) := (by unfold Hid; rw [cpc_size, cpc_size])
      have HEQ : Hid (∀ r, (r = true ↔ cpc (PR K') = CK) → ∀ W, (Op.equalIn 10000 31 (.agg (cpc (PR K'))) (.agg CK)).run Try.prog W = .ok r W) := (by unfold Hid; rw [HC2.out]; exact cmp_cpuJ (PR K') K')
      have HWW : Hid (ldW (K', S') = (@decide (CK = cpc (PR K')) (Classical.propDecidable _) && S'.ok)) := (by unfold Hid; rw [HC2.out]; rfl)
      obtain ⟨CP, hCP⟩ : ∃ CP, CP = cpc (PR K') := ⟨_, rfl⟩
      rw [← hCP] at HPR HIP HOP HSC HEQ HWW
      clear hCP HC2
      have hz := zero_wh
      go_upto_region 16 with (first | (refine wpList_load_row (by rfl) _ _ (by rfl) _ (by rfl) 31 _ (0, 0) _ HC0.out Try.underlying31 (by rfl) HIC.out ?_) | (refine wpList_load_row (by rfl) _ _ (by rfl) _ (by rfl) 35 _ (0, 0) _ HD0.out Try.underlying35 (by rfl) HIB.out ?_) | (refine wpList_build_two (by rfl) 37 _ _ (by rfl) (.agg CK) (.agg BK) cs (by rfl) (by rfl) HBT.out ?_) | (refine store_endK (by rfl) 37 _ _ (by rfl) (by rfl) V6 whz cs (by rfl) (by rfl) (by rfl) HIX.out HZX.out HOX.out ?_))
      obtain ⟨g11, hg11⟩ : ∃ g11, g11 = V6.heap.size := ⟨_, rfl⟩
      rw [← hg11]
      refine on_W (motive := fun W => Code.wp _ _ _ _ W) (Q := fun W => Row W g11 cs 37 ∧ Row W g9 CK 31 ∧ Row W w.heap.size whz 37 ∧ Below w.heap.size w W ∧ Bs S' (.slice a0 S'.ram.length c0) (.slice a1 S'.inp.length c1) (.slice a2 S'.out.length c2) W)
        ⟨by rw [hg11]; exact Row.new _ _ _, HC0.out.old HC0.out.lt _, HZ0.out.old HZ0.out.lt _, HB0.out.trans ((below_al _ _).mono HB0.out.size), HS0.out.later (below_al _ _)⟩ ?_
      clear hg11 HD0 HC0 HZ0 HB0 HS0 HBT HIB hz c1R c2R hqe
      rintro V7 ⟨p1, p2, p3, p4, p5⟩
      have HW0 := Hid.mk' p1
      have HC0 := Hid.mk' p2
      have HZ0 := Hid.mk' p3
      have HB0 := Hid.mk' p4
      have HS0 := Hid.mk' p5
      clear p1 p2 p3 p4 p5
      have hz := zero_cpu
      go_upto_region 17 with (first | (refine wpList_load_row (by rfl) _ _ (by rfl) _ (by rfl) 31 _ (0, 0) _ HC0.out Try.underlying31 (by rfl) HIC.out ?_) | (go_at_call 28; refine (HPR.out _).mono ?_; rintro e V8 ⟨rfl, hb8⟩; have HB8 := Hid.mk' hb8; clear hb8) | (refine store_endK (by rfl) 31 _ _ (by rfl) (by rfl) V8 (cpc cz) CP (by rfl) (by rfl) (by rfl) HIP.out HSC.out HOP.out ?_))
      obtain ⟨g12, hg12⟩ : ∃ g12, g12 = V8.heap.size := ⟨_, rfl⟩
      rw [← hg12]
      have HB9 : Hid (Below V7.heap.size V7 (V8.alloc (.cells CP 31))) := HB8.out.trans ((below_al _ _).mono HB8.out.size)
      refine on_W (motive := fun W => Code.wp _ _ _ _ W) (Q := fun W => Row W g12 CP 31 ∧ Row W g11 cs 37 ∧ Row W g9 CK 31 ∧ Row W w.heap.size whz 37 ∧ Below w.heap.size w W ∧ Bs S' (.slice a0 S'.ram.length c0) (.slice a1 S'.inp.length c1) (.slice a2 S'.out.length c2) W)
        ⟨by rw [hg12]; exact Row.new _ _ _, HW0.out.later HB9.out HW0.out.lt, HC0.out.later HB9.out HC0.out.lt, HZ0.out.later HB9.out HZ0.out.lt, HB0.out.trans (HB9.out.mono HB0.out.size), HS0.out.later HB9.out⟩ ?_
      clear hg12 HC0 HZ0 HB0 HS0 HW0 HB8 HB9 hz HPR HOP HSC
      rintro V9 ⟨p0, p1, p2, p3, p4, p5⟩
      have HP0 := Hid.mk' p0
      have HW0 := Hid.mk' p1
      have HC0 := Hid.mk' p2
      have HZ0 := Hid.mk' p3
      have HB0 := Hid.mk' p4
      have HS0 := Hid.mk' p5
      clear p0 p1 p2 p3 p4 p5
      cases hk : S'.ok with
      | false =>
        rw [hk] at HCH HWW
        have HW2 : Hid (ldW (K', S') = false) := (by unfold Hid; rw [HWW.out]; simp)
        go_upto_region 18 with (first | (refine wpList_load_row (by rfl) _ _ (by rfl) _ (by rfl) 37 _ (0, 0) _ HW0.out Try.underlying37 (by rfl) HIX.out ?_) | (go_at_call 9; refine (HCH.out _).mono ?_; rintro e V10 ⟨rfl, hb10⟩; have HB10 := Hid.mk' hb10; clear hb10))
        have HZ1 := Hid.mk' (HZ0.out.later HB10.out HZ0.out.lt)
        have HB1 := Hid.mk' (HB0.out.trans (HB10.out.mono HB0.out.size))
        have HE := Hid.mk' (show ldE l = 162 from by rw [HE2.out, HW2.out]; rfl)
        have HV := Hid.mk' (show ldV l = (cz, zS) from by rw [HV2.out, HW2.out]; rfl)
        clear HCH HWW HE2 HV2 HW2 HP0 HC0 HZ0 HW0 HS0 HB10 HIX HOX HZX HIC HIP HEQ
        go_wp2_with (first | (refine wpList_build_tab (by rfl) 37 _ (by rfl) whz HBW.out ?_) | (refine wpList_store_row (by rfl) _ _ _ (by rfl) (by rfl) _ _ _ (by rfl) (by rfl) HZ1.out HI.out rfl HON.out ?_))
        refine bodyPost_ret (v := .tuple #[.agg whz, .int .i64 162]) (results_row_slot Try.results17 _ _ w.heap.size 37 _ (0, 0) _ _ (by rfl) (by rfl) (setRow_heap _ _ _ _ _ _ HZ1.out) Try.underlying37 (by rfl) HI.out) rfl ?_
        exact LoadP.no HE.out HV.out (below_row HB1.out (Nat.le_refl _) _)
      | true =>
        rw [hk] at HCH HWW
        go_upto_region 18 with (first | (refine wpList_load_row (by rfl) _ _ (by rfl) _ (by rfl) 37 _ (0, 0) _ HW0.out Try.underlying37 (by rfl) HIX.out ?_) | (go_at_call 9; refine (HCH.out _).mono ?_; rintro e V10 ⟨rfl, hb10⟩; have HB10 := Hid.mk' hb10; clear hb10))
        have HZ1 := Hid.mk' (HZ0.out.later HB10.out HZ0.out.lt)
        have HW1 := Hid.mk' (HW0.out.later HB10.out HW0.out.lt)
        have HB1 := Hid.mk' (HB0.out.trans (HB10.out.mono HB0.out.size))
        have HS1 := Hid.mk' (HS0.out.later HB10.out)
        have hPr := HP0.out.later HB10.out HP0.out.lt
        have hCr := HC0.out.later HB10.out HC0.out.lt
        have HPC : Hid (∀ j v, CP[j]? = some v → V10.cell? ⟨g12, 0 + j, none⟩ = some v) := fun j v h => by rw [Nat.zero_add, hPr.cell]; exact h
        have HCC : Hid (∀ j v, CK[j]? = some v → V10.cell? ⟨g9, 0 + j, none⟩ = some v) := fun j v h => by rw [Nat.zero_add, hCr.cell]; exact h
        have HEG := Hid.mk' (fun x y => eqG_cpuJ x y CP CK V10)
        clear HCH HP0 HC0 HZ0 HW0 HS0 HB10 hPr hCr
        by_cases hp : CK = CP
        · have HQ := Hid.mk' (HEQ.out true (by simp [hp]) V10)
          have HW2 : Hid (ldW (K', S') = true) := (by unfold Hid; rw [HWW.out]; simp [hp])
          have HEE := Hid.mk' (show ldE l = 0 from by rw [HE2.out, HW2.out]; rfl)
          have HVV := Hid.mk' (show ldV l = (K', S') from by rw [HV2.out, HW2.out]; rfl)
          clear HE2 HV2 HW2 HWW HEQ hp
          go_upto_region 20 with (first | (refine load_aggGK 31 _ (by rfl) (by rfl) g12 0 (by rfl) CP _ HPC.out Try.underlying31 (by rfl) HIP.out ?_) | (refine load_aggGK 31 _ (by rfl) (by rfl) g9 0 (by rfl) CK _ HCC.out Try.underlying31 (by rfl) HIC.out ?_) | (refine wpList_neq_aggG 31 _ _ _ (by rfl) (by rfl) CP CK (by rfl) (by rfl) true HQ.out (HEG.out _ _) false rfl ?_))
          clear HPC HCC HQ HEG
          go_wp2_with (first | (refine wpList_load_row (by rfl) _ _ (by rfl) _ (by rfl) 37 _ (0, 0) _ HW1.out Try.underlying37 (by rfl) HIX.out ?_) | (refine wpList_store_row (by rfl) _ _ _ (by rfl) (by rfl) _ _ _ (by rfl) (by rfl) HZ1.out HIX.out HZX.out HOX.out ?_))
          refine bodyPost_ret (v := .tuple #[.agg cs, .int .i64 0]) (results_row_slot Try.results17 _ _ w.heap.size 37 _ (0, 0) _ _ (by rfl) (by rfl) (setRow_heap _ _ _ _ _ _ HZ1.out) Try.underlying37 (by rfl) HIX.out) rfl ?_
          refine ⟨a0, a1, a2, S'.ram.length, S'.inp.length, S'.out.length, c0, c1, c2, by rw [HEE.out, HVV.out, HCS.out], ?_, ⟨fun k hk => Nat.le_of_lt (HOW.out.1 k hk), fun k hk => Nat.le_of_lt (HOW.out.2.1 k hk), fun k hk => Nat.le_of_lt (HOW.out.2.2 k hk)⟩, below_row HB1.out (Nat.le_refl _) _⟩
          rw [HVV.out]
          have hxe : Exc (· = w.heap.size) V10 (V10.setRow w.heap.size cs) := ⟨rfl, rfl, rfl, (by rw [size_row]; exact Nat.le_refl _), fun k hk hn => setRow_other _ _ _ _ hn⟩
          exact ⟨HS1.out.r.exc hxe (fun g off n c e hg => by have := HOW.out.1 g (by rw [e]; rfl); omega), HS1.out.i.exc hxe (fun g off n c e hg => by have := HOW.out.2.1 g (by rw [e]; rfl); omega), HS1.out.o.exc hxe (fun g off n c e hg => by have := HOW.out.2.2 g (by rw [e]; rfl); omega)⟩
        · have HQ := Hid.mk' (HEQ.out false (by simp [Ne.symm hp]) V10)
          have HW2 : Hid (ldW (K', S') = false) := (by unfold Hid; rw [HWW.out]; simp [hp])
          have HE := Hid.mk' (show ldE l = 162 from by rw [HE2.out, HW2.out]; rfl)
          have HV := Hid.mk' (show ldV l = (cz, zS) from by rw [HV2.out, HW2.out]; rfl)
          clear HE2 HV2 HW2 HWW HEQ hp
          go_upto_region 19 with (first | (refine load_aggGK 31 _ (by rfl) (by rfl) g12 0 (by rfl) CP _ HPC.out Try.underlying31 (by rfl) HIP.out ?_) | (refine load_aggGK 31 _ (by rfl) (by rfl) g9 0 (by rfl) CK _ HCC.out Try.underlying31 (by rfl) HIC.out ?_) | (refine wpList_neq_aggG 31 _ _ _ (by rfl) (by rfl) CP CK (by rfl) (by rfl) false HQ.out (HEG.out _ _) true rfl ?_))
          clear HPC HCC HQ HEG
          go_wp2_with (first | (refine wpList_build_tab (by rfl) 37 _ (by rfl) whz HBW.out ?_) | (refine wpList_store_row (by rfl) _ _ _ (by rfl) (by rfl) _ _ _ (by rfl) (by rfl) HZ1.out HI.out rfl HON.out ?_))
          refine bodyPost_ret (v := .tuple #[.agg whz, .int .i64 162]) (results_row_slot Try.results17 _ _ w.heap.size 37 _ (0, 0) _ _ (by rfl) (by rfl) (setRow_heap _ _ _ _ _ _ HZ1.out) Try.underlying37 (by rfl) HI.out) rfl ?_
          exact LoadP.no HE.out HV.out (below_row HB1.out (Nat.le_refl _) _)
    · have hne : ¬ (qf : Int) = (n : Int) - 4 := by have := HLN.out.1; have := HLN.out.2; omega
      have hrd := rd_off hr1 hq
      have HE := Hid.mk' (show ldE l = 161 from by rw [HEE.out, hrd])
      have HV := Hid.mk' (show ldV l = (cz, zS) from by rw [HVV.out, hrd])
      clear HEE HVV hrd hbd HN1 HY1 HPQ hq hr1 hb1
      go_wp2_with (first | (refine wpList_build_tab (by rfl) 37 _ (by rfl) whz HBW.out ?_) | (refine wpList_store_row (by rfl) _ _ _ (by rfl) (by rfl) _ _ _ (by rfl) (by rfl) HZ0.out HI.out rfl HON.out ?_))
      refine bodyPost_ret (v := .tuple #[.agg whz, .int .i64 161]) (results_row_slot Try.results17 _ _ w.heap.size 37 _ (0, 0) _ _ (by rfl) (by rfl) (setRow_heap _ _ _ _ _ _ HZ0.out) Try.underlying37 (by rfl) HI.out) rfl ?_
      exact LoadP.no HE.out HV.out (below_row HB0.out (Nat.le_refl _) _)
theorem rload_c {w : World} {a : Option Addr} {c : Nat} {l : List Int} (hb : Byt w (.slice a l.length c) l) (hl : l.length ≤ 140737488355328) (hall : AllB l) :
    Calls Try.prog 17 #[.slice a l.length c] w fun e w' => LoadP l w e w' := by
  by_cases h1 : l.length < 12
  · exact rload_short hb hl h1
  by_cases h2 : 72000 < l.length
  · exact rload_long hb hl h2
  cases h3 : ((strOfNums (l.take 8)).toList == [65, 78, 86, 73, 76, 83, 1, 90]) with
  | false => exact rload_head hb hl (by omega) (by omega) h3
  | true =>
    cases h4 : ldS l with
    | false => exact rload_sum hb hl hall (by omega) (by omega) h3 h4
    | true => exact rload_rest hb hl hall (by omega) (by omega) h3 h4
end Go.Proofs.Ytgblpjkpeihpeaa
