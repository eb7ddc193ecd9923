/-
  Ixr.
-/
import Derived.Test.YtopddflnahfomaaGreatDoorM18
import Derived.Test.YtopddflnahfomaaGreatDoorM19
import Derived.Defers
import Derived.Recover
namespace Go.Proofs.YtopddflnahfomaaGreatDoor
set_option linter.unusedVariables false
set_option maxRecDepth 100000
open Go.ChangeShapes Go.WideShapes Go.ChangeAt Go.RowKit Go.Deep Go.Stop
theorem err_has (v : Value) (w : World) : (Instr.typeAssert (.iface 65 v) 20 36 true).run Tryz.prog w = .ok (.tuple #[.iface 65 v, .bool true]) w := run_typeAssert_hasB Tryz.underlying36 (by kernel_rfl) v _ w
theorem faultOf_c (g : Nat) (w : World) (hE : Hid (EtW w)) : Calls Tryz.prog 15 #[.iface 65 (.pointer (some ⟨g, 0, none⟩))] w fun e w' => e = .returned (.iface 65 (.pointer (some ⟨g, 0, none⟩))) ∧ Below w.heap.size w w' := by
  have hta := err_has (.pointer (some ⟨g, 0, none⟩))
  have cA : Hid (Calls Tryz.prog 26 #[.iface 65 (.pointer (some ⟨g, 0, none⟩)), .iface 67 (.pointer (some ⟨w.heap.size, 0, none⟩))] (w.alloc (.cells #[.pointer none] 65)) fun ev w' => ev = .returned (.bool true) ∧ w' = asW (w.alloc (.cells #[.pointer none] 65)) ⟨g, 0, none⟩ ⟨w.heap.size, 0, none⟩) := asHit_c _ _ (.pointer none) _ (hE.out.below ((Below.refl _ _).alloc (Nat.le_refl _) _) rfl) (by simp) (by simp)
  have HR : Hid ((asW (w.alloc (.cells #[.pointer none] 65)) ⟨g, 0, none⟩ ⟨w.heap.size, 0, none⟩).heap[w.heap.size]? = some (.cells #[.pointer (some ⟨g, 0, none⟩)] 65 (0, 0))) := asW_t _ _ _ _ (.pointer none) (heap_alloc_new w _)
  have HB : Hid (Below w.heap.size w (asW (w.alloc (.cells #[.pointer none] 65)) ⟨g, 0, none⟩ ⟨w.heap.size, 0, none⟩)) := asW_below _ _ ((Below.refl _ _).alloc (Nat.le_refl _) _) (by simp) (Nat.le_refl _)
  generalize asW (w.alloc (.cells #[.pointer none] 65)) ⟨g, 0, none⟩ ⟨w.heap.size, 0, none⟩ = W2 at cA HR HB
  have c2 := cell_of_row W2 w.heap.size 0 _ _ _ HR.out
  go_enter Tryz.func15, Tryz.ntmps15
  go_wp2_with (go_at_call 26; refine cA.out.mono ?_; rintro e w3 ⟨rfl, hw3⟩; subst hw3)
  go_ret
  exact ⟨rfl, HB.out⟩
/-- The deferred function, where the reader gave up. -/
theorem catchR_p {w0 : World} {B gi ge g : Nat} {F : Nat × Nat} {x0 x1 x2 y : Value} (older : List PanicEntry) (w : World) (hE : Hid (EtW w)) (hi : w.heap[gi]? = some (.cells #[x0, x1, x2] 26 (0, 0))) (he : w.heap[ge]? = some (.cells #[y] 36 (0, 0)))
    (hg : w.heap[g]? = some (.cells #[.int .i64 0, .int .i64 F.1, .int .i64 F.2] 95 (0, 0))) (n1 : gi ≠ ge) (n2 : g ≠ gi) (n3 : g ≠ ge) (hb : Below B w0 w) (hBw : B ≤ w.heap.size) (hBi : B ≤ gi) (hBe : B ≤ ge) :
    CallsD Tryz.prog 14 #[.pointer (some ⟨gi, 0, none⟩), .pointer (some ⟨ge, 0, none⟩)] (.panicking ({ v := .iface 65 (.pointer (some ⟨g, 0, none⟩)), recovered := false } :: older)) w fun e u' w' =>
      e = .returned (.tuple #[]) ∧ u' = .panicking ({ v := .iface 65 (.pointer (some ⟨g, 0, none⟩)), recovered := true } :: older) ∧ w'.heap[gi]? = some (.cells #[.int .u64 0, .slice none 0 0, .slice none 0 0] 26 (0, 0)) ∧ w'.heap[ge]? = some (.cells #[.iface 65 (.pointer (some ⟨g, 0, none⟩))] 36 (0, 0)) ∧ w'.heap[g]? = some (.cells #[.int .i64 0, .int .i64 F.1, .int .i64 F.2] 95 (0, 0)) ∧ Below B w0 w' := by
  refine callsD_of_wpS Tryz.func14 rfl fun c₀ cs hu => ?_
  apply wpS_seq
  apply wpS_region
  simp [wpOpsS, go_sem, recoverD, hu, Tryz.ntmps14, Exit.thenS]
  refine wpS_of_wp ?_
  obtain ⟨v, hv⟩ : ∃ v : Value, v = .iface 65 (.pointer (some ⟨g, 0, none⟩)) := ⟨_, rfl⟩
  have hnil : ∀ w : World, (binOp .neq 20 (.iface 65 (.pointer (some ⟨g, 0, none⟩))) .nilIface).run Tryz.prog w = .ok (.bool true) w := fun w => by kernel_rfl
  have heg : ∀ w : World, (eqGuard .neq 20 (.tmp 4) (.const .nilIface) (.iface 65 (.pointer (some ⟨g, 0, none⟩))) .nilIface).run Tryz.prog w = .ok () w := fun w => by kernel_rfl
  have cF : Hid (Calls Tryz.prog 15 #[.iface 65 (.pointer (some ⟨g, 0, none⟩))] w fun e w' => e = .returned (.iface 65 (.pointer (some ⟨g, 0, none⟩))) ∧ Below w.heap.size w w') := faultOf_c g w hE
  have HI := Hid.mkI hi
  have HE := Hid.mkI he
  have HG := Hid.mkI hg
  have HB := Hid.mkI hb
  change Code.wp _ _ _ { tmps := #[.pointer (some ⟨gi, 0, none⟩), .pointer (some ⟨ge, 0, none⟩), .iface 65 (.pointer (some ⟨g, 0, none⟩)), .iface 65 (.pointer (some ⟨g, 0, none⟩)), undef, undef, undef, undef, undef], defers := [] } w
  clear hi he hg hb hv v
  go_wp2_with (go_at_call 15; refine cF.out.mono ?_; rintro e w3 ⟨rfl, hb3⟩; have B3 := Hid.mkI hb3; have r1 := (hb3.block gi (heap_lt HI.out)).trans HI.out; have r2 := (hb3.block ge (heap_lt HE.out)).trans HE.out; have R1 := Hid.mkI r1; have R2 := Hid.mkI r2; have a0 := cell_of_row w3 gi 0 _ _ _ r1; have a1 := cell_of_row w3 gi 1 _ _ _ r1; have a2 := cell_of_row w3 gi 2 _ _ _ r1; have b0 := frozen_of_row w3 gi 0 _ _ r1; have b1 := frozen_of_row w3 gi 1 _ _ r1; have b2 := frozen_of_row w3 gi 2 _ _ r1; have d0 := cell_of_row w3 ge 0 _ _ _ r2; have d1 := frozen_of_row w3 ge 0 _ _ r2; clear hb3 r1 r2)
  have hB3 : B ≤ w3.heap.size := Nat.le_trans hBw B3.out.size
  have q1 := set3_at R1.out (.int .u64 0) (.slice none 0 0) (.slice none 0 0)
  have q2 : (((w3.setCell ⟨gi, 0, none⟩ (.int .u64 0)).setCell ⟨gi, 1, none⟩ (.slice none 0 0)).setCell ⟨gi, 2, none⟩ (.slice none 0 0)).heap[ge]? = some (.cells #[y] 36 (0, 0)) := (set3_other (Ne.symm n1) _ _ _).trans R2.out
  have q3 : (((w3.setCell ⟨gi, 0, none⟩ (.int .u64 0)).setCell ⟨gi, 1, none⟩ (.slice none 0 0)).setCell ⟨gi, 2, none⟩ (.slice none 0 0)).heap[g]? = some (.cells #[.int .i64 0, .int .i64 F.1, .int .i64 F.2] 95 (0, 0)) := (set3_other n2 _ _ _).trans ((B3.out.block g (heap_lt HG.out)).trans HG.out)
  have q4 := below_set3 (HB.out.trans (B3.out.mono hBw)) hBi (.int .u64 0) (.slice none 0 0) (.slice none 0 0)
  exact ⟨rfl, _, rfl, _, results_none rfl _ _ _, rfl, rfl, (heap_setCell_other _ _ gi _ n1).trans q1, heap_setCell_same _ ge 0 _ _ _ q2, (heap_setCell_other _ _ g _ n3).trans q3, q4.setCell (p := ⟨ge, 0, none⟩) hBe _⟩
theorem catchR_i {gi ge : Nat} (w : World) : CallsD Tryz.prog 14 #[.pointer (some ⟨gi, 0, none⟩), .pointer (some ⟨ge, 0, none⟩)] .returning w fun e u' w' => e = .returned (.tuple #[]) ∧ u' = .returning ∧ w' = w := by
  refine callsD_of_wpS Tryz.func14 rfl fun c₀ cs hu => ?_
  apply wpS_seq
  apply wpS_region
  simp [wpOpsS, go_sem, recoverD, hu, Tryz.ntmps14, Exit.thenS]
  refine wpS_of_wp ?_
  have hnil : ∀ w : World, (binOp .neq 20 .nilIface .nilIface).run Tryz.prog w = .ok (.bool false) w := fun w => by kernel_rfl
  have heg : ∀ w : World, (eqGuard .neq 20 (.tmp 4) (.const .nilIface) .nilIface .nilIface).run Tryz.prog w = .ok () w := fun w => by kernel_rfl
  change Code.wp _ _ _ { tmps := #[.pointer (some ⟨gi, 0, none⟩), .pointer (some ⟨ge, 0, none⟩), .nilIface, .nilIface, undef, undef, undef, undef, undef], defers := [] } w
  go_wp2
  refine ⟨rfl, .returning, ?_, _, results_none rfl _ _ _, rfl, rfl, rfl⟩
  cases c₀
  simp_all
/-- A row and a cell handed back. -/
theorem results_rc {P : Program} {fn : Func} {p q : Tmp} {ty tz : TypeId} (h : fn.results = #[.cell p ty, .cell q tz]) (tmps : Array Value) (w : World) (g g2 : Nat) (t t2 : TypeId) (cs : Array Value) (y : Value) (fr fr2 : Nat × Nat) (d : TypeDesc)
    (hp : tmps.getD p undef = .pointer (some ⟨g, 0, none⟩)) (hq : tmps.getD q undef = .pointer (some ⟨g2, 0, none⟩)) (hg : w.heap[g]? = some (.cells cs t fr)) (hg2 : w.heap[g2]? = some (.cells #[y] t2 fr2))
    (hu : P.underlying ty = some d) (hd : (match d with | .struct _ | .array _ _ => true | _ => false) = true) (hi : (P.info? ty).map (·.size) = some cs.size) (hl : (loadVar tz ⟨g2, 0, none⟩).run P w = .ok y w) :
    (results fn tmps).run P w = .ok (.tuple #[.agg cs, y]) w := by
  have hp' : tmps[p]?.getD undef = .pointer (some ⟨g, 0, none⟩) := by simpa using hp
  have hq' : tmps[q]?.getD undef = .pointer (some ⟨g2, 0, none⟩) := by simpa using hq
  simp [results, h, hp', hq', asAddr, run_loadVar_row w g t ty cs fr d hg hu hd hi, hl]
theorem load_err {w : World} {g : Nat} {y : Value} {t : TypeId} {fr : Nat × Nat} (h : w.heap[g]? = some (.cells #[y] t fr)) : (loadVar 36 ⟨g, 0, none⟩).run Tryz.prog w = .ok y w := by
  have hc : w.cell? ⟨g, 0, none⟩ = some y := cell_of_row w g 0 _ _ _ h
  simp [loadVar, isAgg, underlying, Tryz.underlying36, hc, Result.andThen]
/-- What Read answers. -/
def RdP (b : List Int) (w : World) (e : Ending) (w' : World) : Prop :=
  (rdF b = none ∧ ∃ u v L, e = .returned (.tuple #[.agg #[.int .u64 ((vl b 24 8 : Nat) : Int), u, v], .nilIface]) ∧ ImO b w.heap.size w' u v L ∧ Below w.heap.size w w')
  ∨ (∃ F g, rdF b = some F ∧ e = .returned (.tuple #[.agg #[.int .u64 0, .slice none 0 0, .slice none 0 0], .iface 65 (.pointer (some ⟨g, 0, none⟩))]) ∧ w.heap.size ≤ g ∧ w'.heap[g]? = some (.cells #[.int .i64 0, .int .i64 F.1, .int .i64 F.2] 95 (0, 0)) ∧ Below w.heap.size w w')
set_option maxHeartbeats 4000000 in
theorem read_c {b : List Int} (hB : AllB b) (hbl : b.length ≤ 140737488355328) (vb : Value) (w : World) (hv : Byt w vb b) (hTb : Hid (Tabs w)) (hEt : Hid (EtW w)) :
    Calls Tryz.prog 9 #[vb] w fun e w' => RdP b w e w' := by
  have hmf : ∀ (fn : Fn) (first cap : Array Value) (w : World), (Instr.makeFunc fn first cap).run Tryz.prog w = .ok (.func fn first cap) w := fun _ _ _ _ => rfl
  obtain ⟨W1, hW1⟩ : ∃ W1, (w.alloc (.cells #[.int .u64 0, .slice none 0 0, .slice none 0 0] 26)).alloc (.cells #[.nilIface] 36) = W1 := ⟨_, rfl⟩
  have HBL : Hid (Below w.heap.size w W1) := by rw [← hW1]; exact ((Below.refl _ _).alloc (Nat.le_refl _) _).alloc (by simp) _
  have hsz : Hid (W1.heap.size = w.heap.size + 2) := by unfold Hid; rw [← hW1]; simp
  have R3 : Hid (W1.heap[w.heap.size]? = some (.cells #[.int .u64 0, .slice none 0 0, .slice none 0 0] 26 (0, 0))) := by rw [← hW1]; exact heap_alloc2_old w _ _
  have R4 : Hid (W1.heap[w.heap.size + 1]? = some (.cells #[.nilIface] 36 (0, 0))) := by rw [← hW1]; exact heap_alloc2_new w _ _
  have cI : Hid (Calls Tryz.prog 16 #[.agg #[vb]] W1 fun e w' => ImP b W1 e w') := image_c hB hbl vb W1 (hv.later HBL.out rfl) (hTb.out.below HBL.out rfl)
  have HET : Hid (∀ w', Below W1.heap.size W1 w' → EtW w') := fun w' hb => hEt.out.below (HBL.out.trans (hb.mono HBL.out.size)) rfl
  obtain ⟨a, cap, rfl, _⟩ := hv
  clear hTb hEt hB
  go_enter_defers Tryz.func9, Tryz.ntmps9
  go_upto_region 2 with fail
  --@R1
  clear hW1
  cases hF : rdF b with
  | some F =>
    have cP : Hid (Calls Tryz.prog 16 #[.agg #[.slice a b.length cap]] W1 fun e w' => Pan W1 F e w') := cI.out.mono fun e w' hq => by
      rcases hq with ⟨q, _⟩ | ⟨F', q, r⟩
      · rw [hF] at q; cases q
      · rw [hF] at q; cases q; exact r
    have HF := Hid.mkI hF
    clear cI hF
    go_wp2_with (go_at_call 16; refine cP.out.mono ?_)
    --@R2
    rintro e w4 ⟨g, rfl, p2, p3, p4⟩
    have hs4 := p4.size
    have hz := hsz.out
    refine leaves_cons (f := 14) (args := #[.pointer (some ⟨w.heap.size, 0, none⟩), .pointer (some ⟨w.heap.size + 1, 0, none⟩)]) (by simp) (by simp [go_sem]) ?_
    --@R3
    refine (catchR_p (w0 := w) (B := w.heap.size) (F := F) (g := g) [] w4 (HET.out w4 p4) ((p4.block _ (by omega)).trans R3.out) ((p4.block _ (by omega)).trans R4.out) p3 (by omega) (by omega) (by omega) (HBL.out.trans (p4.mono HBL.out.size)) (by omega) (Nat.le_refl _) (by omega)).mono ?_
    rintro e u' w5 ⟨rfl, rfl, s1, s2, s3, s4⟩
    exact ⟨.tuple #[.agg #[.int .u64 0, .slice none 0 0, .slice none 0 0], .iface 65 (.pointer (some ⟨g, 0, none⟩))], results_rc Tryz.results9 _ _ w.heap.size (w.heap.size + 1) 26 36 _ _ (0, 0) (0, 0) _ (by rfl) (by rfl) s1 s2 Tryz.underlying26 (by rfl) size_img (load_err s2), .inr ⟨F, g, HF.out, rfl, by omega, s3, s4⟩⟩
  | none =>
    have cT : Hid (Calls Tryz.prog 16 #[.agg #[.slice a b.length cap]] W1 fun e w' => ∃ um un uc vm vn vc L, e = .returned (.agg #[.int .u64 ((vl b 24 8 : Nat) : Int), .slice um un uc, .slice vm vn vc]) ∧ ImO b W1.heap.size w' (.slice um un uc) (.slice vm vn vc) L ∧ Below W1.heap.size W1 w') := cI.out.mono fun e w' hq => by
      rcases hq with ⟨_, u, v, L, rfl, q1, q2⟩ | ⟨F', q, r⟩
      · obtain ⟨um, un, uc, rfl⟩ := own_slice q1.segs
        obtain ⟨vm, vn, vc, rfl⟩ := own_slice q1.syms
        exact ⟨um, un, uc, vm, vn, vc, L, rfl, q1, q2⟩
      · rw [hF] at q; cases q
    have HF := Hid.mkI hF
    clear cI hF
    obtain ⟨EN, hEN⟩ : ∃ EN : Int, EN = ((vl b 24 8 : Nat) : Int) := ⟨_, rfl⟩
    rw [← hEN] at cT
    have HEN := Hid.mkI hEN
    clear hEN
    go_wp2_with (go_at_call 16; refine cT.out.mono ?_; rintro e w4 ⟨um, un, uc, vm, vn, vc, L, rfl, q1, q2⟩; have HI := Hid.mkI q1; have B4 := Hid.mkI q2; have r1 := (q2.block w.heap.size (by rw [hsz.out]; omega)).trans R3.out; have r2 := (q2.block (w.heap.size + 1) (by rw [hsz.out]; omega)).trans R4.out; have R1 := Hid.mkI r1; have R2 := Hid.mkI r2; have a0 := cell_of_row w4 w.heap.size 0 _ _ _ r1; have a1 := cell_of_row w4 w.heap.size 1 _ _ _ r1; have a2 := cell_of_row w4 w.heap.size 2 _ _ _ r1; have b0 := frozen_of_row w4 w.heap.size 0 _ _ r1; have b1 := frozen_of_row w4 w.heap.size 1 _ _ r1; have b2 := frozen_of_row w4 w.heap.size 2 _ _ r1; have d0 := cell_of_row w4 (w.heap.size + 1) 0 _ _ _ r2; have d1 := frozen_of_row w4 (w.heap.size + 1) 0 _ _ r2; clear q1 q2 r1 r2)
    --@R4
    all_goals
      refine leaves_cons (f := 14) (args := #[.pointer (some ⟨w.heap.size, 0, none⟩), .pointer (some ⟨w.heap.size + 1, 0, none⟩)]) (by simp) (by simp [go_sem]) ?_
      refine (catchR_i _).mono ?_
      rintro e u' w5 ⟨rfl, rfl, rfl⟩
      have q1 := set3_at R1.out (.int .u64 EN) (.slice um un uc) (.slice vm vn vc)
      have q2 : (((w4.setCell ⟨w.heap.size, 0, none⟩ (.int .u64 EN)).setCell ⟨w.heap.size, 1, none⟩ (.slice um un uc)).setCell ⟨w.heap.size, 2, none⟩ (.slice vm vn vc)).heap[w.heap.size + 1]? = some (.cells #[.nilIface] 36 (0, 0)) := (set3_other (by omega) _ _ _).trans R2.out
      have q4 := below_set3 (HBL.out.trans (B4.out.mono HBL.out.size)) (Nat.le_refl _) (.int .u64 EN) (.slice um un uc) (.slice vm vn vc)
      have t1 := (heap_setCell_other (((w4.setCell ⟨w.heap.size, 0, none⟩ (.int .u64 EN)).setCell ⟨w.heap.size, 1, none⟩ (.slice um un uc)).setCell ⟨w.heap.size, 2, none⟩ (.slice vm vn vc)) ⟨w.heap.size + 1, 0, none⟩ w.heap.size .nilIface (by show w.heap.size ≠ w.heap.size + 1; omega)).trans q1
      have t2 := heap_setCell_same _ (w.heap.size + 1) 0 _ _ .nilIface q2
      refine ⟨.tuple #[.agg #[.int .u64 EN, .slice um un uc, .slice vm vn vc], .nilIface], results_rc Tryz.results9 _ _ w.heap.size (w.heap.size + 1) 26 36 _ _ (0, 0) (0, 0) _ (by rfl) (by rfl) t1 t2 Tryz.underlying26 (by rfl) size_img (load_err t2), .inl ⟨HF.out, _, _, L, by rw [HEN.out], ?_, q4.setCell (p := ⟨w.heap.size + 1, 0, none⟩) (by show w.heap.size ≤ w.heap.size + 1; omega) _⟩⟩
      refine HI.out.move HBL.out.size (fun j hj => ?_)
      have hz := hsz.out
      rw [heap_setCell_other _ _ j _ (by show j ≠ w.heap.size + 1; omega)]
      exact set3_other (by omega) _ _ _
end Go.Proofs.YtopddflnahfomaaGreatDoor
