/-
  Uj.
-/
import Derived.Test.YtidfndgedopghaaGreatDoorM20
import Derived.Test.YtidfndgedopghaaGreatDoorM16
namespace Go.Proofs.YtidfndgedopghaaGreatDoor
set_option linter.unusedVariables false
set_option maxRecDepth 100000
set_option maxHeartbeats 4000000
open Go.ChangeShapes Go.WideShapes Go.ChangeAt Go.RowKit Go.Deep
/-- A sight's cells. -/
def sgc (b : Cp) (B : St) (br bi bo : Value) (a : Cp) (A : St) (ar ai ao : Value) (tk ex so : Bool) (vi : Value) (r : Rw) (wp : Bool) : Array Value := whc b B br bi bo ++ (whc a A ar ai ao ++ (#[.bool tk, .bool ex, .bool so, vi] ++ (rwc r ++ #[.bool wp])))
section
variable (b : Cp) (B : St) (br bi bo : Value) (a : Cp) (A : St) (ar ai ao : Value) (tk ex so : Bool) (vi : Value) (r : Rw) (wp : Bool)
theorem sgc_hi (j : Nat) : (sgc b B br bi bo a A ar ai ao tk ex so vi r wp)[194 + j]? = (#[.bool tk, .bool ex, .bool so, vi] ++ (rwc r ++ #[.bool wp]))[j]? := by
  have h1 := whc_size b B br bi bo
  have h2 := whc_size a A ar ai ao
  unfold sgc
  rw [Array.getElem?_append_right (by omega), Array.getElem?_append_right (by omega)]
  rw [show 194 + j - (whc b B br bi bo).size - (whc a A ar ai ao).size = j by omega]
theorem sgc_lo4 (j : Nat) (h : j < 4) : (sgc b B br bi bo a A ar ai ao tk ex so vi r wp)[194 + j]? = (#[.bool tk, .bool ex, .bool so, vi] : Array Value)[j]? := by
  rw [sgc_hi, Array.getElem?_append_left h]
theorem sgc_at_tk : (sgc b B br bi bo a A ar ai ao tk ex so vi r wp)[194]? = some (.bool tk) := by rw [show 194 = 194 + 0 from rfl, sgc_lo4 _ _ _ _ _ _ _ _ _ _ _ _ _ _ _ _ 0 (by omega)]; rfl
theorem sgc_at_ex : (sgc b B br bi bo a A ar ai ao tk ex so vi r wp)[195]? = some (.bool ex) := by rw [show 195 = 194 + 1 from rfl, sgc_lo4 _ _ _ _ _ _ _ _ _ _ _ _ _ _ _ _ 1 (by omega)]; rfl
theorem sgc_at_so : (sgc b B br bi bo a A ar ai ao tk ex so vi r wp)[196]? = some (.bool so) := by rw [show 196 = 194 + 2 from rfl, sgc_lo4 _ _ _ _ _ _ _ _ _ _ _ _ _ _ _ _ 2 (by omega)]; rfl
theorem sgc_at_wp : (sgc b B br bi bo a A ar ai ao tk ex so vi r wp)[214]? = some (.bool wp) := by
  have h1 := rwc_size r
  rw [show 214 = 194 + 20 from rfl, sgc_hi, Array.getElem?_append_right (by show 4 ≤ 20; omega)]
  rw [show 20 - (#[.bool tk, .bool ex, .bool so, vi] : Array Value).size = 16 from rfl, Array.getElem?_append_right (by omega)]
  rw [show 16 - (rwc r).size = 0 by omega]
  rfl
theorem sgc_wb : ∀ j v, (whc b B br bi bo)[j]? = some v → (sgc b B br bi bo a A ar ai ao tk ex so vi r wp)[0 + j]? = some v := fun j v h => by
  have hj := (Array.getElem?_eq_some_iff.1 h).1
  unfold sgc
  rw [Nat.zero_add, Array.getElem?_append_left hj]
  exact h
theorem sgc_wa : ∀ j v, (whc a A ar ai ao)[j]? = some v → (sgc b B br bi bo a A ar ai ao tk ex so vi r wp)[97 + j]? = some v := fun j v h => by
  have hj := (Array.getElem?_eq_some_iff.1 h).1
  have h1 := whc_size b B br bi bo
  unfold sgc
  rw [Array.getElem?_append_right (by omega), Array.getElem?_append_left (by omega)]
  rw [show 97 + j - (whc b B br bi bo).size = j by omega]
  exact h
end
theorem info_whU (b : Cp) (B : St) (br bi bo : Value) : (Tryz.prog.info? 46).map (·.size) = some (whc b B br bi bo).size := by rw [whc_size]; kernel_rfl
def rl1 (B A : St) (wp : Bool) : Bool := (((A.ram.length : Int) == (B.ram.length : Int)) && (wp))
theorem uR1_c (b a : Cp) (B A : St) (br bi bo ar ai ao vi : Value) (r : Rw) (wp tk ex so : Bool) (xa xb : Option Addr) (ca cb : Nat) (g0 g1 g2 : Nat) (w : World) (h0 : Row w g0 (stc A ar ai ao) 44) (h1 : Row w g1 (stc B br bi bo) 44) (h2 : Row w g2 (sgc b B br bi bo a A ar ai ao tk ex so vi r wp) 73) (ha : ar = .slice xa A.ram.length ca) (hb : br = .slice xb B.ram.length cb) : Calls Tryz.prog 59 #[.pointer (some ⟨g0, 0, none⟩), .pointer (some ⟨g1, 0, none⟩), .pointer (some ⟨g2, 0, none⟩)] w fun e w' => e = .returned (.bool (rl1 B A wp)) ∧ Below w.heap.size w w' := by
  have r0 := Hid.mkU h0
  have r1 := Hid.mkU h1
  have r2 := Hid.mkU h2
  have c0_r : ∀ x : Later w, x.1.cell? ⟨g0, 0, none⟩ = some (ar) := fun x => (lrow r0.out x).cell 0
  have c1_r : ∀ x : Later w, x.1.cell? ⟨g1, 0, none⟩ = some (br) := fun x => (lrow r1.out x).cell 0
  have c2_wp : ∀ x : Later w, x.1.cell? ⟨g2, 214, none⟩ = some (.bool wp) := fun x => ((lrow r2.out x).cell 214).trans (sgc_at_wp ..)
  clear h0 h1 h2
  subst ha hb
  have BB : Hid (Below w.heap.size w w) := Below.refl _ _
  have HM : Hid ((rl1 B A wp) = (((A.ram.length : Int) == (B.ram.length : Int)) && (wp))) := rfl
  generalize hZ : (rl1 B A wp) = Z at HM ⊢
  clear hZ
  generalize wp = z1 at *
  go_enter Tryz.func59, Tryz.ntmps59
  go_upto_region 1 with fail
  have hne := later_nonempty w
  cases q1 : ((A.ram.length : Int) == (B.ram.length : Int))
  focus
    have HV : Hid (Z = false) := (by unfold Hid; rw [HM.out]; first | (rw [q1]; done) | (rw [q1]; rfl))
  rotate_left 1
  focus
    cases z1
    focus
      have HV : Hid (Z = false) := (by unfold Hid; rw [HM.out]; first | (rw [q1]; done) | (rw [q1]; rfl))
    rotate_left 1
    focus
      have HV : Hid (Z = true) := (by unfold Hid; rw [HM.out]; first | (rw [q1]; done) | (rw [q1]; rfl))
    rotate_left 1
  rotate_left 2
  all_goals
    clear HM
    refine wp_region_plain (x0 := Later.start w) ?_
    iterate 2 (go_big_quiet_step (fail))
    (go_big_quiet_step (rfl))
    iterate 2 (go_big_quiet_step (fail))
    (go_big_quiet_step (rfl))
    iterate 6 (go_big_quiet_step (fail))
    refine wpQuiet_nil ?_
    rintro _ ⟨yq, rfl⟩
    go_wp2
    go_ret
    exact ⟨by rw [HV.out]; first | done | rfl, BB.out.trans (yq.2.mono BB.out.size)⟩
def rl2 (b a : Cp) (r : Rw) : Bool := (((kdB r.kd) && (bgB r b)) && (enB r a))
theorem uR2_c (b a : Cp) (r : Rw) (g0 g1 g2 : Nat) (w : World) (h0 : Row w g0 (rwc r) 52) (h1 : Row w g1 (cpc b) 32) (h2 : Row w g2 (cpc a) 32) : Calls Tryz.prog 60 #[.pointer (some ⟨g0, 0, none⟩), .pointer (some ⟨g1, 0, none⟩), .pointer (some ⟨g2, 0, none⟩)] w fun e w' => e = .returned (.bool (rl2 b a r)) ∧ Below w.heap.size w w' := by
  have r0 := Hid.mkU h0
  have r1 := Hid.mkU h1
  have r2 := Hid.mkU h2
  have c0_kd : ∀ x : Later w, x.1.cell? ⟨g0, 1, none⟩ = some (.int .i64 r.kd) := fun x => (lrow r0.out x).cell 1
  clear h0 h1 h2
  have BB : Hid (Below w.heap.size w w) := Below.refl _ _
  have HM : Hid ((rl2 b a r) = (((kdB r.kd) && (bgB r b)) && (enB r a))) := rfl
  have HKD : Hid (∀ x : Later w, Calls Tryz.prog 61 #[.int .i64 r.kd] x.1 fun e w' => e = .returned (.bool (kdB r.kd)) ∧ w' = x.1) := fun x => uKind_c r.kd x.1
  have HBG : Hid (∀ x : Later w, Calls Tryz.prog 62 #[.agg (rwc r), .agg (cpc b)] x.1 fun e w' => e = .returned (.bool (bgB r b)) ∧ Below x.1.heap.size x.1 w') := fun x => uBeg_c r b x.1
  have HEN : Hid (∀ x : Later w, Calls Tryz.prog 43 #[.agg (rwc r), .agg (cpc a)] x.1 fun e w' => e = .returned (.bool (enB r a)) ∧ Below x.1.heap.size x.1 w') := fun x => uEnd_c r a x.1
  generalize hZ : (rl2 b a r) = Z at HM ⊢
  clear hZ
  generalize kdB r.kd = z0 at *
  generalize bgB r b = z1 at *
  generalize enB r a = z2 at *
  go_enter Tryz.func60, Tryz.ntmps60
  go_upto_region 1 with fail
  have hne := later_nonempty w
  cases z0
  focus
    have HV : Hid (Z = false) := (by unfold Hid; first | (rw [HM.out]; done) | (rw [HM.out]; rfl))
  rotate_left 1
  focus
    cases z1
    focus
      have HV : Hid (Z = false) := (by unfold Hid; first | (rw [HM.out]; done) | (rw [HM.out]; rfl))
    rotate_left 1
    focus
      cases z2
      focus
        have HV : Hid (Z = false) := (by unfold Hid; first | (rw [HM.out]; done) | (rw [HM.out]; rfl))
      rotate_left 1
      focus
        have HV : Hid (Z = true) := (by unfold Hid; first | (rw [HM.out]; done) | (rw [HM.out]; rfl))
      rotate_left 1
    rotate_left 2
  rotate_left 3
  all_goals
    clear HM
    refine wp_region_plain (x0 := Later.start w) ?_
    iterate 2 (go_big_quiet_step (fail))
    (go_big_quiet_step ((go_at_call 61; exact calls_later_same (HKD.out _))))
    (go_big_quiet_step (fail))
    (first | (go_big_quiet_want; refine quiet_load_agg 52 _ (by rfl) (g0) 0 (by rfl) (rwc r) _ r0.out.lt (lrow_cells r0.out) Tryz.underlying52 (by rfl) (info_rw _) ?_; simp only [Act.put, List.setIfInBounds_toArray, List.set_cons_succ, List.set_cons_zero]; go_big_quiet_on) | (go_big_quiet_want; refine quiet_load_agg 32 _ (by rfl) (g1) 0 (by rfl) (cpc b) _ r1.out.lt (lrow_cells r1.out) Tryz.underlying32 (by rfl) (info_cpuU _) ?_; simp only [Act.put, List.setIfInBounds_toArray, List.set_cons_succ, List.set_cons_zero]; go_big_quiet_on) | (go_big_quiet_want; refine quiet_load_agg 32 _ (by rfl) (g2) 0 (by rfl) (cpc a) _ r2.out.lt (lrow_cells r2.out) Tryz.underlying32 (by rfl) (info_cpuU _) ?_; simp only [Act.put, List.setIfInBounds_toArray, List.set_cons_succ, List.set_cons_zero]; go_big_quiet_on) | (go_big_quiet_step (fail)))
    (first | (go_big_quiet_want; refine quiet_load_agg 52 _ (by rfl) (g0) 0 (by rfl) (rwc r) _ r0.out.lt (lrow_cells r0.out) Tryz.underlying52 (by rfl) (info_rw _) ?_; simp only [Act.put, List.setIfInBounds_toArray, List.set_cons_succ, List.set_cons_zero]; go_big_quiet_on) | (go_big_quiet_want; refine quiet_load_agg 32 _ (by rfl) (g1) 0 (by rfl) (cpc b) _ r1.out.lt (lrow_cells r1.out) Tryz.underlying32 (by rfl) (info_cpuU _) ?_; simp only [Act.put, List.setIfInBounds_toArray, List.set_cons_succ, List.set_cons_zero]; go_big_quiet_on) | (go_big_quiet_want; refine quiet_load_agg 32 _ (by rfl) (g2) 0 (by rfl) (cpc a) _ r2.out.lt (lrow_cells r2.out) Tryz.underlying32 (by rfl) (info_cpuU _) ?_; simp only [Act.put, List.setIfInBounds_toArray, List.set_cons_succ, List.set_cons_zero]; go_big_quiet_on) | (go_big_quiet_step (fail)))
    (go_big_quiet_step ((go_at_call 62; exact calls_later (HBG.out _))))
    iterate 2 (go_big_quiet_step (fail))
    (first | (go_big_quiet_want; refine quiet_load_agg 52 _ (by rfl) (g0) 0 (by rfl) (rwc r) _ r0.out.lt (lrow_cells r0.out) Tryz.underlying52 (by rfl) (info_rw _) ?_; simp only [Act.put, List.setIfInBounds_toArray, List.set_cons_succ, List.set_cons_zero]; go_big_quiet_on) | (go_big_quiet_want; refine quiet_load_agg 32 _ (by rfl) (g1) 0 (by rfl) (cpc b) _ r1.out.lt (lrow_cells r1.out) Tryz.underlying32 (by rfl) (info_cpuU _) ?_; simp only [Act.put, List.setIfInBounds_toArray, List.set_cons_succ, List.set_cons_zero]; go_big_quiet_on) | (go_big_quiet_want; refine quiet_load_agg 32 _ (by rfl) (g2) 0 (by rfl) (cpc a) _ r2.out.lt (lrow_cells r2.out) Tryz.underlying32 (by rfl) (info_cpuU _) ?_; simp only [Act.put, List.setIfInBounds_toArray, List.set_cons_succ, List.set_cons_zero]; go_big_quiet_on) | (go_big_quiet_step (fail)))
    (first | (go_big_quiet_want; refine quiet_load_agg 52 _ (by rfl) (g0) 0 (by rfl) (rwc r) _ r0.out.lt (lrow_cells r0.out) Tryz.underlying52 (by rfl) (info_rw _) ?_; simp only [Act.put, List.setIfInBounds_toArray, List.set_cons_succ, List.set_cons_zero]; go_big_quiet_on) | (go_big_quiet_want; refine quiet_load_agg 32 _ (by rfl) (g1) 0 (by rfl) (cpc b) _ r1.out.lt (lrow_cells r1.out) Tryz.underlying32 (by rfl) (info_cpuU _) ?_; simp only [Act.put, List.setIfInBounds_toArray, List.set_cons_succ, List.set_cons_zero]; go_big_quiet_on) | (go_big_quiet_want; refine quiet_load_agg 32 _ (by rfl) (g2) 0 (by rfl) (cpc a) _ r2.out.lt (lrow_cells r2.out) Tryz.underlying32 (by rfl) (info_cpuU _) ?_; simp only [Act.put, List.setIfInBounds_toArray, List.set_cons_succ, List.set_cons_zero]; go_big_quiet_on) | (go_big_quiet_step (fail)))
    (go_big_quiet_step ((go_at_call 43; exact calls_later (HEN.out _))))
    iterate 2 (go_big_quiet_step (fail))
    refine wpQuiet_nil ?_
    rintro _ ⟨yq, rfl⟩
    go_wp2
    go_ret
    exact ⟨by rw [HV.out]; first | done | rfl, BB.out.trans (yq.2.mono BB.out.size)⟩
def rl3 (b a : Cp) (B A : St) (off : Bool) : Bool := ((((B.off != 0) && (off)) && (whB b B a A)) || ((!(B.off != 0)) && (!(off))))
theorem uR3_c (b a : Cp) (B A : St) (br bi bo ar ai ao vi : Value) (r : Rw) (off wp tk ex so : Bool) (g0 g1 g2 : Nat) (w : World) (h0 : Row w g0 (#[.bool off]) 4) (h1 : Row w g1 (stc B br bi bo) 44) (h2 : Row w g2 (sgc b B br bi bo a A ar ai ao tk ex so vi r wp) 73) (hB : Bs B br bi bo w) (hA : Bs A ar ai ao w) : Calls Tryz.prog 63 #[.pointer (some ⟨g0, 0, none⟩), .pointer (some ⟨g1, 0, none⟩), .pointer (some ⟨g2, 0, none⟩)] w fun e w' => e = .returned (.bool (rl3 b a B A off)) ∧ Below w.heap.size w w' := by
  have r0 := Hid.mkU h0
  have r1 := Hid.mkU h1
  have r2 := Hid.mkU h2
  have c0 : ∀ x : Later w, x.1.cell? ⟨g0, 0, none⟩ = some (.bool off) := fun x => (lrow r0.out x).cell 0
  have c1_off : ∀ x : Later w, x.1.cell? ⟨g1, 13, none⟩ = some (.int .i64 B.off) := fun x => (lrow r1.out x).cell 13
  clear h0 h1 h2
  have BB : Hid (Below w.heap.size w w) := Below.refl _ _
  have HM : Hid ((rl3 b a B A off) = ((((B.off != 0) && (off)) && (whB b B a A)) || ((!(B.off != 0)) && (!(off))))) := rfl
  have HWH : Hid (∀ x : Later w, Calls Tryz.prog 64 #[.agg (whc b B br bi bo), .agg (whc a A ar ai ao)] x.1 fun e w' => e = .returned (.bool (whB b B a A)) ∧ Below x.1.heap.size x.1 w') := fun x => uWh_c b B a A br bi bo ar ai ao x.1 (hB.later x.2) (hA.later x.2)
  generalize hZ : (rl3 b a B A off) = Z at HM ⊢
  clear hZ
  generalize off = z1 at *
  generalize whB b B a A = z2 at *
  go_enter Tryz.func63, Tryz.ntmps63
  go_upto_region 1 with fail
  have hne := later_nonempty w
  cases q1 : (B.off != 0)
  focus
    cases z1
    focus
      have HV : Hid (Z = true) := (by unfold Hid; rw [HM.out]; first | (rw [q1]; done) | (rw [q1]; rfl))
    rotate_left 1
    focus
      have HV : Hid (Z = false) := (by unfold Hid; rw [HM.out]; first | (rw [q1]; done) | (rw [q1]; rfl))
    rotate_left 1
  rotate_left 2
  focus
    cases z1
    focus
      have HV : Hid (Z = false) := (by unfold Hid; rw [HM.out]; first | (rw [q1]; done) | (rw [q1]; rfl))
    rotate_left 1
    focus
      cases z2
      focus
        have HV : Hid (Z = false) := (by unfold Hid; rw [HM.out]; first | (rw [q1]; done) | (rw [q1]; rfl))
      rotate_left 1
      focus
        have HV : Hid (Z = true) := (by unfold Hid; rw [HM.out]; first | (rw [q1]; done) | (rw [q1]; rfl))
      rotate_left 1
    rotate_left 2
  rotate_left 3
  all_goals
    clear HM
    refine wp_region_plain (x0 := Later.start w) ?_
    iterate 10 (go_big_quiet_step (fail))
    (first | (go_big_quiet_want; refine quiet_load_agg 46 _ (by rfl) (g2) 0 (by rfl) (whc b B br bi bo) _ r2.out.lt (fun j v hv => (r2.out.cell (0 + j)).trans (sgc_wb _ _ _ _ _ _ _ _ _ _ _ _ _ _ _ _ j v hv)) Tryz.underlying46 (by rfl) (info_whU _ _ _ _ _) ?_; simp only [Act.put, List.setIfInBounds_toArray, List.set_cons_succ, List.set_cons_zero]; go_big_quiet_on) | (go_big_quiet_want; refine quiet_load_agg 46 _ (by rfl) (g2) 97 (by rfl) (whc a A ar ai ao) _ r2.out.lt (fun j v hv => (r2.out.cell (97 + j)).trans (sgc_wa _ _ _ _ _ _ _ _ _ _ _ _ _ _ _ _ j v hv)) Tryz.underlying46 (by rfl) (info_whU _ _ _ _ _) ?_; simp only [Act.put, List.setIfInBounds_toArray, List.set_cons_succ, List.set_cons_zero]; go_big_quiet_on) | (go_big_quiet_step (fail)))
    (go_big_quiet_step (fail))
    (first | (go_big_quiet_want; refine quiet_load_agg 46 _ (by rfl) (g2) 0 (by rfl) (whc b B br bi bo) _ r2.out.lt (fun j v hv => (r2.out.cell (0 + j)).trans (sgc_wb _ _ _ _ _ _ _ _ _ _ _ _ _ _ _ _ j v hv)) Tryz.underlying46 (by rfl) (info_whU _ _ _ _ _) ?_; simp only [Act.put, List.setIfInBounds_toArray, List.set_cons_succ, List.set_cons_zero]; go_big_quiet_on) | (go_big_quiet_want; refine quiet_load_agg 46 _ (by rfl) (g2) 97 (by rfl) (whc a A ar ai ao) _ r2.out.lt (fun j v hv => (r2.out.cell (97 + j)).trans (sgc_wa _ _ _ _ _ _ _ _ _ _ _ _ _ _ _ _ j v hv)) Tryz.underlying46 (by rfl) (info_whU _ _ _ _ _) ?_; simp only [Act.put, List.setIfInBounds_toArray, List.set_cons_succ, List.set_cons_zero]; go_big_quiet_on) | (go_big_quiet_step (fail)))
    (go_big_quiet_step ((go_at_call 64; exact calls_later (HWH.out _))))
    iterate 3 (go_big_quiet_step (fail))
    refine wpQuiet_nil ?_
    rintro _ ⟨yq, rfl⟩
    go_wp2
    go_ret
    exact ⟨by rw [HV.out]; first | done | rfl, BB.out.trans (yq.2.mono BB.out.size)⟩
def rl4 (b a : Cp) (r : Rw) : Bool := (woB r b.x a.x)
theorem uR4_c (b a : Cp) (r : Rw) (g0 g1 g2 : Nat) (w : World) (h0 : Row w g0 (rwc r) 52) (h1 : Row w g1 (cpc b) 32) (h2 : Row w g2 (cpc a) 32) : Calls Tryz.prog 65 #[.pointer (some ⟨g0, 0, none⟩), .pointer (some ⟨g1, 0, none⟩), .pointer (some ⟨g2, 0, none⟩)] w fun e w' => e = .returned (.bool (rl4 b a r)) ∧ Below w.heap.size w w' := by
  have r0 := Hid.mkU h0
  have r1 := Hid.mkU h1
  have r2 := Hid.mkU h2
  clear h0 h1 h2
  have BB : Hid (Below w.heap.size w w) := Below.refl _ _
  have HM : Hid ((rl4 b a r) = (woB r b.x a.x)) := rfl
  have HWO : Hid (∀ x : Later w, Calls Tryz.prog 66 #[.agg (rwc r), .agg (xsc b.x), .agg (xsc a.x)] x.1 fun e w' => e = .returned (.bool (woB r b.x a.x)) ∧ Below x.1.heap.size x.1 w') := fun x => uWo_c r b.x a.x x.1
  generalize hZ : (rl4 b a r) = Z at HM ⊢
  clear hZ
  generalize woB r b.x a.x = z0 at *
  go_enter Tryz.func65, Tryz.ntmps65
  go_upto_region 1 with fail
  have hne := later_nonempty w
  cases z0
  focus
    have HV : Hid (Z = false) := (by unfold Hid; first | (rw [HM.out]; done) | (rw [HM.out]; rfl))
  rotate_left 1
  focus
    have HV : Hid (Z = true) := (by unfold Hid; first | (rw [HM.out]; done) | (rw [HM.out]; rfl))
  rotate_left 1
  all_goals
    clear HM
    refine wp_region_plain (x0 := Later.start w) ?_
    (first | (go_big_quiet_want; refine quiet_load_agg 52 _ (by rfl) (g0) 0 (by rfl) (rwc r) _ r0.out.lt (lrow_cells r0.out) Tryz.underlying52 (by rfl) (info_rw _) ?_; simp only [Act.put, List.setIfInBounds_toArray, List.set_cons_succ, List.set_cons_zero]; go_big_quiet_on) | (go_big_quiet_want; refine quiet_load_agg 24 _ (by rfl) (g1) 1 (by rfl) (xsc b.x) _ r1.out.lt r1.out.xsU Tryz.underlying24 (by rfl) (info_xs _) ?_; simp only [Act.put, List.setIfInBounds_toArray, List.set_cons_succ, List.set_cons_zero]; go_big_quiet_on) | (go_big_quiet_want; refine quiet_load_agg 24 _ (by rfl) (g2) 1 (by rfl) (xsc a.x) _ r2.out.lt r2.out.xsU Tryz.underlying24 (by rfl) (info_xs _) ?_; simp only [Act.put, List.setIfInBounds_toArray, List.set_cons_succ, List.set_cons_zero]; go_big_quiet_on) | (go_big_quiet_step (fail)))
    (go_big_quiet_step (fail))
    (first | (go_big_quiet_want; refine quiet_load_agg 52 _ (by rfl) (g0) 0 (by rfl) (rwc r) _ r0.out.lt (lrow_cells r0.out) Tryz.underlying52 (by rfl) (info_rw _) ?_; simp only [Act.put, List.setIfInBounds_toArray, List.set_cons_succ, List.set_cons_zero]; go_big_quiet_on) | (go_big_quiet_want; refine quiet_load_agg 24 _ (by rfl) (g1) 1 (by rfl) (xsc b.x) _ r1.out.lt r1.out.xsU Tryz.underlying24 (by rfl) (info_xs _) ?_; simp only [Act.put, List.setIfInBounds_toArray, List.set_cons_succ, List.set_cons_zero]; go_big_quiet_on) | (go_big_quiet_want; refine quiet_load_agg 24 _ (by rfl) (g2) 1 (by rfl) (xsc a.x) _ r2.out.lt r2.out.xsU Tryz.underlying24 (by rfl) (info_xs _) ?_; simp only [Act.put, List.setIfInBounds_toArray, List.set_cons_succ, List.set_cons_zero]; go_big_quiet_on) | (go_big_quiet_step (fail)))
    (go_big_quiet_step (fail))
    (first | (go_big_quiet_want; refine quiet_load_agg 52 _ (by rfl) (g0) 0 (by rfl) (rwc r) _ r0.out.lt (lrow_cells r0.out) Tryz.underlying52 (by rfl) (info_rw _) ?_; simp only [Act.put, List.setIfInBounds_toArray, List.set_cons_succ, List.set_cons_zero]; go_big_quiet_on) | (go_big_quiet_want; refine quiet_load_agg 24 _ (by rfl) (g1) 1 (by rfl) (xsc b.x) _ r1.out.lt r1.out.xsU Tryz.underlying24 (by rfl) (info_xs _) ?_; simp only [Act.put, List.setIfInBounds_toArray, List.set_cons_succ, List.set_cons_zero]; go_big_quiet_on) | (go_big_quiet_want; refine quiet_load_agg 24 _ (by rfl) (g2) 1 (by rfl) (xsc a.x) _ r2.out.lt r2.out.xsU Tryz.underlying24 (by rfl) (info_xs _) ?_; simp only [Act.put, List.setIfInBounds_toArray, List.set_cons_succ, List.set_cons_zero]; go_big_quiet_on) | (go_big_quiet_step (fail)))
    (go_big_quiet_step ((go_at_call 66; exact calls_later (HWO.out _))))
    (go_big_quiet_step (fail))
    refine wpQuiet_nil ?_
    rintro _ ⟨yq, rfl⟩
    go_wp2
    go_ret
    exact ⟨by rw [HV.out]; first | done | rfl, BB.out.trans (yq.2.mono BB.out.size)⟩
def rl7 (b a : Cp) (fu : Bool) : Bool := ((!(fu)) || (pEq a.c a.a b.c b.a))
theorem uR7_c (b a : Cp) (fu : Bool) (g0 g1 g2 : Nat) (w : World) (h0 : Row w g0 (#[.bool fu]) 4) (h1 : Row w g1 (cpc a) 32) (h2 : Row w g2 (cpc b) 32) : Calls Tryz.prog 73 #[.pointer (some ⟨g0, 0, none⟩), .pointer (some ⟨g1, 0, none⟩), .pointer (some ⟨g2, 0, none⟩)] w fun e w' => e = .returned (.bool (rl7 b a fu)) ∧ Below w.heap.size w w' := by
  have r0 := Hid.mkU h0
  have r1 := Hid.mkU h1
  have r2 := Hid.mkU h2
  have c0 : ∀ x : Later w, x.1.cell? ⟨g0, 0, none⟩ = some (.bool fu) := fun x => (lrow r0.out x).cell 0
  clear h0 h1 h2
  have HEP := Hid.mkU (fun w => eq_pmpU a.c a.a b.c b.a w)
  have BB : Hid (Below w.heap.size w w) := Below.refl _ _
  have HM : Hid ((rl7 b a fu) = ((!(fu)) || (pEq a.c a.a b.c b.a))) := rfl
  generalize hZ : (rl7 b a fu) = Z at HM ⊢
  clear hZ
  generalize fu = z0 at *
  generalize pEq a.c a.a b.c b.a = z1 at *
  go_enter Tryz.func73, Tryz.ntmps73
  go_upto_region 1 with fail
  have hne := later_nonempty w
  cases z0
  focus
    have HV : Hid (Z = true) := (by unfold Hid; first | (rw [HM.out]; done) | (rw [HM.out]; rfl))
  rotate_left 1
  focus
    cases z1
    focus
      have HV : Hid (Z = false) := (by unfold Hid; first | (rw [HM.out]; done) | (rw [HM.out]; rfl))
    rotate_left 1
    focus
      have HV : Hid (Z = true) := (by unfold Hid; first | (rw [HM.out]; done) | (rw [HM.out]; rfl))
    rotate_left 1
  rotate_left 2
  all_goals
    clear HM
    refine wp_region_plain (x0 := Later.start w) ?_
    iterate 4 (go_big_quiet_step (fail))
    (first | (go_big_quiet_want; refine quiet_load_agg 28 _ (by rfl) (g1) 47 (by rfl) (pc a.c a.a) _ r1.out.lt r1.out.pmU Tryz.underlying28 (by rfl) (info_pmpU _ _) ?_; simp only [Act.put, List.setIfInBounds_toArray, List.set_cons_succ, List.set_cons_zero]; go_big_quiet_on) | (go_big_quiet_want; refine quiet_load_agg 28 _ (by rfl) (g2) 47 (by rfl) (pc b.c b.a) _ r2.out.lt r2.out.pmU Tryz.underlying28 (by rfl) (info_pmpU _ _) ?_; simp only [Act.put, List.setIfInBounds_toArray, List.set_cons_succ, List.set_cons_zero]; go_big_quiet_on) | (go_big_quiet_step (fail)))
    (go_big_quiet_step (fail))
    (first | (go_big_quiet_want; refine quiet_load_agg 28 _ (by rfl) (g1) 47 (by rfl) (pc a.c a.a) _ r1.out.lt r1.out.pmU Tryz.underlying28 (by rfl) (info_pmpU _ _) ?_; simp only [Act.put, List.setIfInBounds_toArray, List.set_cons_succ, List.set_cons_zero]; go_big_quiet_on) | (go_big_quiet_want; refine quiet_load_agg 28 _ (by rfl) (g2) 47 (by rfl) (pc b.c b.a) _ r2.out.lt r2.out.pmU Tryz.underlying28 (by rfl) (info_pmpU _ _) ?_; simp only [Act.put, List.setIfInBounds_toArray, List.set_cons_succ, List.set_cons_zero]; go_big_quiet_on) | (go_big_quiet_step (fail)))
    (first | (go_big_quiet_want; refine quiet_eql_agg 28 _ _ _ (by rfl) (pc a.c a.a) (pc b.c b.a) (by rfl) (by rfl) _ HEP.out (fun w => eqG_pmpU _ _ _ _ w) ?_; simp only [Act.put, List.setIfInBounds_toArray, List.set_cons_succ, List.set_cons_zero]; go_big_quiet_on) | (go_big_quiet_step (fail)))
    iterate 2 (go_big_quiet_step (fail))
    refine wpQuiet_nil ?_
    rintro _ ⟨yq, rfl⟩
    go_wp2
    go_ret
    exact ⟨by rw [HV.out]; first | done | rfl, BB.out.trans (yq.2.mono BB.out.size)⟩
def rl8 (b a : Cp) : Bool := (klB b.c b.a a.c a.a)
theorem uR8_c (b a : Cp) (g0 g1 : Nat) (w : World) (h0 : Row w g0 (cpc b) 32) (h1 : Row w g1 (cpc a) 32) : Calls Tryz.prog 74 #[.pointer (some ⟨g0, 0, none⟩), .pointer (some ⟨g1, 0, none⟩)] w fun e w' => e = .returned (.bool (rl8 b a)) ∧ Below w.heap.size w w' := by
  have r0 := Hid.mkU h0
  have r1 := Hid.mkU h1
  clear h0 h1
  have BB : Hid (Below w.heap.size w w) := Below.refl _ _
  have HM : Hid ((rl8 b a) = (klB b.c b.a a.c a.a)) := rfl
  have HKL : Hid (∀ x : Later w, Calls Tryz.prog 75 #[.agg (pc b.c b.a), .agg (pc a.c a.a)] x.1 fun e w' => e = .returned (.bool (klB b.c b.a a.c a.a)) ∧ Below x.1.heap.size x.1 w') := fun x => uKl_c b.c b.a a.c a.a x.1
  generalize hZ : (rl8 b a) = Z at HM ⊢
  clear hZ
  generalize klB b.c b.a a.c a.a = z0 at *
  go_enter Tryz.func74, Tryz.ntmps74
  go_upto_region 1 with fail
  have hne := later_nonempty w
  cases z0
  focus
    have HV : Hid (Z = false) := (by unfold Hid; first | (rw [HM.out]; done) | (rw [HM.out]; rfl))
  rotate_left 1
  focus
    have HV : Hid (Z = true) := (by unfold Hid; first | (rw [HM.out]; done) | (rw [HM.out]; rfl))
  rotate_left 1
  all_goals
    clear HM
    refine wp_region_plain (x0 := Later.start w) ?_
    (go_big_quiet_step (fail))
    (first | (go_big_quiet_want; refine quiet_load_agg 28 _ (by rfl) (g0) 47 (by rfl) (pc b.c b.a) _ r0.out.lt r0.out.pmU Tryz.underlying28 (by rfl) (info_pmpU _ _) ?_; simp only [Act.put, List.setIfInBounds_toArray, List.set_cons_succ, List.set_cons_zero]; go_big_quiet_on) | (go_big_quiet_want; refine quiet_load_agg 28 _ (by rfl) (g1) 47 (by rfl) (pc a.c a.a) _ r1.out.lt r1.out.pmU Tryz.underlying28 (by rfl) (info_pmpU _ _) ?_; simp only [Act.put, List.setIfInBounds_toArray, List.set_cons_succ, List.set_cons_zero]; go_big_quiet_on) | (go_big_quiet_step (fail)))
    (go_big_quiet_step (fail))
    (first | (go_big_quiet_want; refine quiet_load_agg 28 _ (by rfl) (g0) 47 (by rfl) (pc b.c b.a) _ r0.out.lt r0.out.pmU Tryz.underlying28 (by rfl) (info_pmpU _ _) ?_; simp only [Act.put, List.setIfInBounds_toArray, List.set_cons_succ, List.set_cons_zero]; go_big_quiet_on) | (go_big_quiet_want; refine quiet_load_agg 28 _ (by rfl) (g1) 47 (by rfl) (pc a.c a.a) _ r1.out.lt r1.out.pmU Tryz.underlying28 (by rfl) (info_pmpU _ _) ?_; simp only [Act.put, List.setIfInBounds_toArray, List.set_cons_succ, List.set_cons_zero]; go_big_quiet_on) | (go_big_quiet_step (fail)))
    (go_big_quiet_step ((go_at_call 75; exact calls_later (HKL.out _))))
    (go_big_quiet_step (fail))
    refine wpQuiet_nil ?_
    rintro _ ⟨yq, rfl⟩
    go_wp2
    go_ret
    exact ⟨by rw [HV.out]; first | done | rfl, BB.out.trans (yq.2.mono BB.out.size)⟩
def rl9 (b a : Cp) (r : Rw) (fu : Bool) : Bool := ((!(fu)) || ((owB b a) && ((tpB r) || (tlB b a))))
theorem uR9_c (b a : Cp) (r : Rw) (fu : Bool) (g0 g1 g2 g3 : Nat) (w : World) (h0 : Row w g0 (#[.bool fu]) 4) (h1 : Row w g1 (cpc b) 32) (h2 : Row w g2 (cpc a) 32) (h3 : Row w g3 (rwc r) 52) : Calls Tryz.prog 76 #[.pointer (some ⟨g0, 0, none⟩), .pointer (some ⟨g1, 0, none⟩), .pointer (some ⟨g2, 0, none⟩), .pointer (some ⟨g3, 0, none⟩)] w fun e w' => e = .returned (.bool (rl9 b a r fu)) ∧ Below w.heap.size w w' := by
  have r0 := Hid.mkU h0
  have r1 := Hid.mkU h1
  have r2 := Hid.mkU h2
  have r3 := Hid.mkU h3
  have c0 : ∀ x : Later w, x.1.cell? ⟨g0, 0, none⟩ = some (.bool fu) := fun x => (lrow r0.out x).cell 0
  clear h0 h1 h2 h3
  have BB : Hid (Below w.heap.size w w) := Below.refl _ _
  have HM : Hid ((rl9 b a r fu) = ((!(fu)) || ((owB b a) && ((tpB r) || (tlB b a))))) := rfl
  have HOW : Hid (∀ x : Later w, Calls Tryz.prog 77 #[.agg (cpc b), .agg (cpc a)] x.1 fun e w' => e = .returned (.bool (owB b a)) ∧ Below x.1.heap.size x.1 w') := fun x => uOwn_c b a x.1
  have HTP : Hid (∀ x : Later w, Calls Tryz.prog 78 #[.agg (rwc r)] x.1 fun e w' => e = .returned (.bool (tpB r)) ∧ Below x.1.heap.size x.1 w') := fun x => uTrap_c r x.1
  have HTL : Hid (∀ x : Later w, Calls Tryz.prog 79 #[.agg (cpc b), .agg (cpc a)] x.1 fun e w' => e = .returned (.bool (tlB b a)) ∧ Below x.1.heap.size x.1 w') := fun x => uTold_c b a x.1
  generalize hZ : (rl9 b a r fu) = Z at HM ⊢
  clear hZ
  generalize fu = z0 at *
  generalize owB b a = z1 at *
  generalize tpB r = z2 at *
  generalize tlB b a = z3 at *
  go_enter Tryz.func76, Tryz.ntmps76
  go_upto_region 1 with fail
  have hne := later_nonempty w
  cases z0
  focus
    have HV : Hid (Z = true) := (by unfold Hid; first | (rw [HM.out]; done) | (rw [HM.out]; rfl))
  rotate_left 1
  focus
    cases z1
    focus
      have HV : Hid (Z = false) := (by unfold Hid; first | (rw [HM.out]; done) | (rw [HM.out]; rfl))
    rotate_left 1
    focus
      cases z2
      focus
        cases z3
        focus
          have HV : Hid (Z = false) := (by unfold Hid; first | (rw [HM.out]; done) | (rw [HM.out]; rfl))
        rotate_left 1
        focus
          have HV : Hid (Z = true) := (by unfold Hid; first | (rw [HM.out]; done) | (rw [HM.out]; rfl))
        rotate_left 1
      rotate_left 2
      focus
        have HV : Hid (Z = true) := (by unfold Hid; first | (rw [HM.out]; done) | (rw [HM.out]; rfl))
      rotate_left 1
    rotate_left 3
  rotate_left 4
  all_goals
    clear HM
    refine wp_region_plain (x0 := Later.start w) ?_
    iterate 3 (go_big_quiet_step (fail))
    (first | (go_big_quiet_want; refine quiet_load_agg 32 _ (by rfl) (g1) 0 (by rfl) (cpc b) _ r1.out.lt (lrow_cells r1.out) Tryz.underlying32 (by rfl) (info_cpuU _) ?_; simp only [Act.put, List.setIfInBounds_toArray, List.set_cons_succ, List.set_cons_zero]; go_big_quiet_on) | (go_big_quiet_want; refine quiet_load_agg 32 _ (by rfl) (g2) 0 (by rfl) (cpc a) _ r2.out.lt (lrow_cells r2.out) Tryz.underlying32 (by rfl) (info_cpuU _) ?_; simp only [Act.put, List.setIfInBounds_toArray, List.set_cons_succ, List.set_cons_zero]; go_big_quiet_on) | (go_big_quiet_want; refine quiet_load_agg 52 _ (by rfl) (g3) 0 (by rfl) (rwc r) _ r3.out.lt (lrow_cells r3.out) Tryz.underlying52 (by rfl) (info_rw _) ?_; simp only [Act.put, List.setIfInBounds_toArray, List.set_cons_succ, List.set_cons_zero]; go_big_quiet_on) | (go_big_quiet_step (fail)))
    (first | (go_big_quiet_want; refine quiet_load_agg 32 _ (by rfl) (g1) 0 (by rfl) (cpc b) _ r1.out.lt (lrow_cells r1.out) Tryz.underlying32 (by rfl) (info_cpuU _) ?_; simp only [Act.put, List.setIfInBounds_toArray, List.set_cons_succ, List.set_cons_zero]; go_big_quiet_on) | (go_big_quiet_want; refine quiet_load_agg 32 _ (by rfl) (g2) 0 (by rfl) (cpc a) _ r2.out.lt (lrow_cells r2.out) Tryz.underlying32 (by rfl) (info_cpuU _) ?_; simp only [Act.put, List.setIfInBounds_toArray, List.set_cons_succ, List.set_cons_zero]; go_big_quiet_on) | (go_big_quiet_want; refine quiet_load_agg 52 _ (by rfl) (g3) 0 (by rfl) (rwc r) _ r3.out.lt (lrow_cells r3.out) Tryz.underlying52 (by rfl) (info_rw _) ?_; simp only [Act.put, List.setIfInBounds_toArray, List.set_cons_succ, List.set_cons_zero]; go_big_quiet_on) | (go_big_quiet_step (fail)))
    (go_big_quiet_step ((go_at_call 77; exact calls_later (HOW.out _))))
    (go_big_quiet_step (fail))
    (first | (go_big_quiet_want; refine quiet_load_agg 32 _ (by rfl) (g1) 0 (by rfl) (cpc b) _ r1.out.lt (lrow_cells r1.out) Tryz.underlying32 (by rfl) (info_cpuU _) ?_; simp only [Act.put, List.setIfInBounds_toArray, List.set_cons_succ, List.set_cons_zero]; go_big_quiet_on) | (go_big_quiet_want; refine quiet_load_agg 32 _ (by rfl) (g2) 0 (by rfl) (cpc a) _ r2.out.lt (lrow_cells r2.out) Tryz.underlying32 (by rfl) (info_cpuU _) ?_; simp only [Act.put, List.setIfInBounds_toArray, List.set_cons_succ, List.set_cons_zero]; go_big_quiet_on) | (go_big_quiet_want; refine quiet_load_agg 52 _ (by rfl) (g3) 0 (by rfl) (rwc r) _ r3.out.lt (lrow_cells r3.out) Tryz.underlying52 (by rfl) (info_rw _) ?_; simp only [Act.put, List.setIfInBounds_toArray, List.set_cons_succ, List.set_cons_zero]; go_big_quiet_on) | (go_big_quiet_step (fail)))
    (go_big_quiet_step ((go_at_call 78; exact calls_later (HTP.out _))))
    (go_big_quiet_step (fail))
    (first | (go_big_quiet_want; refine quiet_load_agg 32 _ (by rfl) (g1) 0 (by rfl) (cpc b) _ r1.out.lt (lrow_cells r1.out) Tryz.underlying32 (by rfl) (info_cpuU _) ?_; simp only [Act.put, List.setIfInBounds_toArray, List.set_cons_succ, List.set_cons_zero]; go_big_quiet_on) | (go_big_quiet_want; refine quiet_load_agg 32 _ (by rfl) (g2) 0 (by rfl) (cpc a) _ r2.out.lt (lrow_cells r2.out) Tryz.underlying32 (by rfl) (info_cpuU _) ?_; simp only [Act.put, List.setIfInBounds_toArray, List.set_cons_succ, List.set_cons_zero]; go_big_quiet_on) | (go_big_quiet_want; refine quiet_load_agg 52 _ (by rfl) (g3) 0 (by rfl) (rwc r) _ r3.out.lt (lrow_cells r3.out) Tryz.underlying52 (by rfl) (info_rw _) ?_; simp only [Act.put, List.setIfInBounds_toArray, List.set_cons_succ, List.set_cons_zero]; go_big_quiet_on) | (go_big_quiet_step (fail)))
    (first | (go_big_quiet_want; refine quiet_load_agg 32 _ (by rfl) (g1) 0 (by rfl) (cpc b) _ r1.out.lt (lrow_cells r1.out) Tryz.underlying32 (by rfl) (info_cpuU _) ?_; simp only [Act.put, List.setIfInBounds_toArray, List.set_cons_succ, List.set_cons_zero]; go_big_quiet_on) | (go_big_quiet_want; refine quiet_load_agg 32 _ (by rfl) (g2) 0 (by rfl) (cpc a) _ r2.out.lt (lrow_cells r2.out) Tryz.underlying32 (by rfl) (info_cpuU _) ?_; simp only [Act.put, List.setIfInBounds_toArray, List.set_cons_succ, List.set_cons_zero]; go_big_quiet_on) | (go_big_quiet_want; refine quiet_load_agg 52 _ (by rfl) (g3) 0 (by rfl) (rwc r) _ r3.out.lt (lrow_cells r3.out) Tryz.underlying52 (by rfl) (info_rw _) ?_; simp only [Act.put, List.setIfInBounds_toArray, List.set_cons_succ, List.set_cons_zero]; go_big_quiet_on) | (go_big_quiet_step (fail)))
    (go_big_quiet_step ((go_at_call 79; exact calls_later (HTL.out _))))
    iterate 4 (go_big_quiet_step (fail))
    refine wpQuiet_nil ?_
    rintro _ ⟨yq, rfl⟩
    go_wp2
    go_ret
    exact ⟨by rw [HV.out]; first | done | rfl, BB.out.trans (yq.2.mono BB.out.size)⟩
def rl10 (b a : Cp) (r : Rw) : Bool := ((!(tpB r)) || (etB r b a))
theorem uR10_c (b a : Cp) (r : Rw) (g0 g1 g2 : Nat) (w : World) (h0 : Row w g0 (rwc r) 52) (h1 : Row w g1 (cpc b) 32) (h2 : Row w g2 (cpc a) 32) (hm : b.md = 0 ∨ b.md = 3) : Calls Tryz.prog 80 #[.pointer (some ⟨g0, 0, none⟩), .pointer (some ⟨g1, 0, none⟩), .pointer (some ⟨g2, 0, none⟩)] w fun e w' => e = .returned (.bool (rl10 b a r)) ∧ Below w.heap.size w w' := by
  have r0 := Hid.mkU h0
  have r1 := Hid.mkU h1
  have r2 := Hid.mkU h2
  clear h0 h1 h2
  have BB : Hid (Below w.heap.size w w) := Below.refl _ _
  have HM : Hid ((rl10 b a r) = ((!(tpB r)) || (etB r b a))) := rfl
  have HTP : Hid (∀ x : Later w, Calls Tryz.prog 78 #[.agg (rwc r)] x.1 fun e w' => e = .returned (.bool (tpB r)) ∧ Below x.1.heap.size x.1 w') := fun x => uTrap_c r x.1
  have HET : Hid (∀ x : Later w, Calls Tryz.prog 81 #[.agg (rwc r), .agg (cpc b), .agg (cpc a)] x.1 fun e w' => e = .returned (.bool (etB r b a)) ∧ Below x.1.heap.size x.1 w') := fun x => uEt_c r b a x.1 hm
  generalize hZ : (rl10 b a r) = Z at HM ⊢
  clear hZ
  generalize tpB r = z0 at *
  generalize etB r b a = z1 at *
  go_enter Tryz.func80, Tryz.ntmps80
  go_upto_region 1 with fail
  have hne := later_nonempty w
  cases z0
  focus
    have HV : Hid (Z = true) := (by unfold Hid; first | (rw [HM.out]; done) | (rw [HM.out]; rfl))
  rotate_left 1
  focus
    cases z1
    focus
      have HV : Hid (Z = false) := (by unfold Hid; first | (rw [HM.out]; done) | (rw [HM.out]; rfl))
    rotate_left 1
    focus
      have HV : Hid (Z = true) := (by unfold Hid; first | (rw [HM.out]; done) | (rw [HM.out]; rfl))
    rotate_left 1
  rotate_left 2
  all_goals
    clear HM
    refine wp_region_plain (x0 := Later.start w) ?_
    (first | (go_big_quiet_want; refine quiet_load_agg 52 _ (by rfl) (g0) 0 (by rfl) (rwc r) _ r0.out.lt (lrow_cells r0.out) Tryz.underlying52 (by rfl) (info_rw _) ?_; simp only [Act.put, List.setIfInBounds_toArray, List.set_cons_succ, List.set_cons_zero]; go_big_quiet_on) | (go_big_quiet_want; refine quiet_load_agg 32 _ (by rfl) (g1) 0 (by rfl) (cpc b) _ r1.out.lt (lrow_cells r1.out) Tryz.underlying32 (by rfl) (info_cpuU _) ?_; simp only [Act.put, List.setIfInBounds_toArray, List.set_cons_succ, List.set_cons_zero]; go_big_quiet_on) | (go_big_quiet_want; refine quiet_load_agg 32 _ (by rfl) (g2) 0 (by rfl) (cpc a) _ r2.out.lt (lrow_cells r2.out) Tryz.underlying32 (by rfl) (info_cpuU _) ?_; simp only [Act.put, List.setIfInBounds_toArray, List.set_cons_succ, List.set_cons_zero]; go_big_quiet_on) | (go_big_quiet_step (fail)))
    (go_big_quiet_step ((go_at_call 78; exact calls_later (HTP.out _))))
    iterate 2 (go_big_quiet_step (fail))
    (first | (go_big_quiet_want; refine quiet_load_agg 52 _ (by rfl) (g0) 0 (by rfl) (rwc r) _ r0.out.lt (lrow_cells r0.out) Tryz.underlying52 (by rfl) (info_rw _) ?_; simp only [Act.put, List.setIfInBounds_toArray, List.set_cons_succ, List.set_cons_zero]; go_big_quiet_on) | (go_big_quiet_want; refine quiet_load_agg 32 _ (by rfl) (g1) 0 (by rfl) (cpc b) _ r1.out.lt (lrow_cells r1.out) Tryz.underlying32 (by rfl) (info_cpuU _) ?_; simp only [Act.put, List.setIfInBounds_toArray, List.set_cons_succ, List.set_cons_zero]; go_big_quiet_on) | (go_big_quiet_want; refine quiet_load_agg 32 _ (by rfl) (g2) 0 (by rfl) (cpc a) _ r2.out.lt (lrow_cells r2.out) Tryz.underlying32 (by rfl) (info_cpuU _) ?_; simp only [Act.put, List.setIfInBounds_toArray, List.set_cons_succ, List.set_cons_zero]; go_big_quiet_on) | (go_big_quiet_step (fail)))
    (first | (go_big_quiet_want; refine quiet_load_agg 52 _ (by rfl) (g0) 0 (by rfl) (rwc r) _ r0.out.lt (lrow_cells r0.out) Tryz.underlying52 (by rfl) (info_rw _) ?_; simp only [Act.put, List.setIfInBounds_toArray, List.set_cons_succ, List.set_cons_zero]; go_big_quiet_on) | (go_big_quiet_want; refine quiet_load_agg 32 _ (by rfl) (g1) 0 (by rfl) (cpc b) _ r1.out.lt (lrow_cells r1.out) Tryz.underlying32 (by rfl) (info_cpuU _) ?_; simp only [Act.put, List.setIfInBounds_toArray, List.set_cons_succ, List.set_cons_zero]; go_big_quiet_on) | (go_big_quiet_want; refine quiet_load_agg 32 _ (by rfl) (g2) 0 (by rfl) (cpc a) _ r2.out.lt (lrow_cells r2.out) Tryz.underlying32 (by rfl) (info_cpuU _) ?_; simp only [Act.put, List.setIfInBounds_toArray, List.set_cons_succ, List.set_cons_zero]; go_big_quiet_on) | (go_big_quiet_step (fail)))
    (first | (go_big_quiet_want; refine quiet_load_agg 52 _ (by rfl) (g0) 0 (by rfl) (rwc r) _ r0.out.lt (lrow_cells r0.out) Tryz.underlying52 (by rfl) (info_rw _) ?_; simp only [Act.put, List.setIfInBounds_toArray, List.set_cons_succ, List.set_cons_zero]; go_big_quiet_on) | (go_big_quiet_want; refine quiet_load_agg 32 _ (by rfl) (g1) 0 (by rfl) (cpc b) _ r1.out.lt (lrow_cells r1.out) Tryz.underlying32 (by rfl) (info_cpuU _) ?_; simp only [Act.put, List.setIfInBounds_toArray, List.set_cons_succ, List.set_cons_zero]; go_big_quiet_on) | (go_big_quiet_want; refine quiet_load_agg 32 _ (by rfl) (g2) 0 (by rfl) (cpc a) _ r2.out.lt (lrow_cells r2.out) Tryz.underlying32 (by rfl) (info_cpuU _) ?_; simp only [Act.put, List.setIfInBounds_toArray, List.set_cons_succ, List.set_cons_zero]; go_big_quiet_on) | (go_big_quiet_step (fail)))
    (go_big_quiet_step ((go_at_call 81; exact calls_later (HET.out _))))
    iterate 2 (go_big_quiet_step (fail))
    refine wpQuiet_nil ?_
    rintro _ ⟨yq, rfl⟩
    go_wp2
    go_ret
    exact ⟨by rw [HV.out]; first | done | rfl, BB.out.trans (yq.2.mono BB.out.size)⟩
def rl12 (b a : Cp) (r : Rw) (off : Bool) : Bool := (((off) || (wcB r)) || (n64 (a.s 10) == n64 (b.s 10 + oB (cyB b))))
theorem uR12_c (b a : Cp) (r : Rw) (off : Bool) (g0 g1 g2 g3 : Nat) (w : World) (h0 : Row w g0 (#[.bool off]) 4) (h1 : Row w g1 (rwc r) 52) (h2 : Row w g2 (cpc a) 32) (h3 : Row w g3 (cpc b) 32) : Calls Tryz.prog 85 #[.pointer (some ⟨g0, 0, none⟩), .pointer (some ⟨g1, 0, none⟩), .pointer (some ⟨g2, 0, none⟩), .pointer (some ⟨g3, 0, none⟩)] w fun e w' => e = .returned (.bool (rl12 b a r off)) ∧ Below w.heap.size w w' := by
  have r0 := Hid.mkU h0
  have r1 := Hid.mkU h1
  have r2 := Hid.mkU h2
  have r3 := Hid.mkU h3
  have c0 : ∀ x : Later w, x.1.cell? ⟨g0, 0, none⟩ = some (.bool off) := fun x => (lrow r0.out x).cell 0
  have c2_s10 : ∀ x : Later w, x.1.cell? ⟨g2, 45, none⟩ = some (.int .u64 (n64 (a.s 10))) := fun x => ((lrow r2.out x).cell 45).trans (cpc_at _ 45 (by omega))
  have c3_s10 : ∀ x : Later w, x.1.cell? ⟨g3, 45, none⟩ = some (.int .u64 (n64 (b.s 10))) := fun x => ((lrow r3.out x).cell 45).trans (cpc_at _ 45 (by omega))
  clear h0 h1 h2 h3
  have hadd : IntKind.u64.wrap (n64 (b.s 10) + n64 (oB (cyB b))) = n64 (b.s 10 + oB (cyB b)) := n64_add _ _
  have BB : Hid (Below w.heap.size w w) := Below.refl _ _
  have HM : Hid ((rl12 b a r off) = (((off) || (wcB r)) || (n64 (a.s 10) == n64 (b.s 10 + oB (cyB b))))) := rfl
  have HWC : Hid (∀ x : Later w, Calls Tryz.prog 86 #[.agg (rwc r)] x.1 fun e w' => e = .returned (.bool (wcB r)) ∧ Below x.1.heap.size x.1 w') := fun x => uMayW_c r x.1
  have HCY : Hid (∀ x : Later w, Calls Tryz.prog 87 #[.agg (cpc b)] x.1 fun e w' => e = .returned (.int .u64 (n64 (oB (cyB b)))) ∧ Below x.1.heap.size x.1 w') := fun x => uCy_c b x.1
  generalize hZ : (rl12 b a r off) = Z at HM ⊢
  clear hZ
  generalize off = z0 at *
  generalize wcB r = z1 at *
  go_enter Tryz.func85, Tryz.ntmps85
  go_upto_region 1 with fail
  have hne := later_nonempty w
  cases z0
  focus
    cases z1
    focus
      cases q1 : (n64 (a.s 10) == n64 (b.s 10 + oB (cyB b)))
      focus
        have HV : Hid (Z = false) := (by unfold Hid; rw [HM.out]; first | (rw [q1]; done) | (rw [q1]; rfl))
      rotate_left 1
      focus
        have HV : Hid (Z = true) := (by unfold Hid; rw [HM.out]; first | (rw [q1]; done) | (rw [q1]; rfl))
      rotate_left 1
    rotate_left 2
    focus
      have HV : Hid (Z = true) := (by unfold Hid; first | (rw [HM.out]; done) | (rw [HM.out]; rfl))
    rotate_left 1
  rotate_left 3
  focus
    have HV : Hid (Z = true) := (by unfold Hid; first | (rw [HM.out]; done) | (rw [HM.out]; rfl))
  rotate_left 1
  all_goals
    clear HM
    refine wp_region_later (x0 := Later.start w) (by kernel_rfl) (by kernel_rfl) ?_
    iterate 2 (go_big_quiet_step (fail))
    (first | (go_big_quiet_want; refine quiet_load_agg 52 _ (by rfl) (g1) 0 (by rfl) (rwc r) _ r1.out.lt (lrow_cells r1.out) Tryz.underlying52 (by rfl) (info_rw _) ?_; simp only [Act.put, List.setIfInBounds_toArray, List.set_cons_succ, List.set_cons_zero]; go_big_quiet_on) | (go_big_quiet_want; refine quiet_load_agg 32 _ (by rfl) (g3) 0 (by rfl) (cpc b) _ r3.out.lt (lrow_cells r3.out) Tryz.underlying32 (by rfl) (info_cpuU _) ?_; simp only [Act.put, List.setIfInBounds_toArray, List.set_cons_succ, List.set_cons_zero]; go_big_quiet_on) | (go_big_quiet_step (fail)))
    (go_big_quiet_step ((go_at_call 86; exact calls_later (HWC.out _))))
    iterate 6 (go_big_quiet_step (fail))
    (first | (go_big_quiet_want; refine quiet_load_agg 52 _ (by rfl) (g1) 0 (by rfl) (rwc r) _ r1.out.lt (lrow_cells r1.out) Tryz.underlying52 (by rfl) (info_rw _) ?_; simp only [Act.put, List.setIfInBounds_toArray, List.set_cons_succ, List.set_cons_zero]; go_big_quiet_on) | (go_big_quiet_want; refine quiet_load_agg 32 _ (by rfl) (g3) 0 (by rfl) (cpc b) _ r3.out.lt (lrow_cells r3.out) Tryz.underlying32 (by rfl) (info_cpuU _) ?_; simp only [Act.put, List.setIfInBounds_toArray, List.set_cons_succ, List.set_cons_zero]; go_big_quiet_on) | (go_big_quiet_step (fail)))
    (go_big_quiet_step ((go_at_call 87; exact calls_later (HCY.out _))))
    iterate 4 (go_big_quiet_step (fail))
    refine wpQuiet_nil ?_
    rintro _ ⟨yq, rfl⟩
    go_wp2
    go_ret
    exact ⟨by rw [HV.out]; first | done | rfl, BB.out.trans (yq.2.mono BB.out.size)⟩
def rl13 (b a : Cp) (r : Rw) : Bool := ((wcB r) || (n64 (a.s 11) == n64 (b.s 11 + oB (rtB r b))))
theorem uR13_c (b a : Cp) (r : Rw) (g0 g1 g2 : Nat) (w : World) (h0 : Row w g0 (rwc r) 52) (h1 : Row w g1 (cpc a) 32) (h2 : Row w g2 (cpc b) 32) : Calls Tryz.prog 88 #[.pointer (some ⟨g0, 0, none⟩), .pointer (some ⟨g1, 0, none⟩), .pointer (some ⟨g2, 0, none⟩)] w fun e w' => e = .returned (.bool (rl13 b a r)) ∧ Below w.heap.size w w' := by
  have r0 := Hid.mkU h0
  have r1 := Hid.mkU h1
  have r2 := Hid.mkU h2
  have c1_s11 : ∀ x : Later w, x.1.cell? ⟨g1, 46, none⟩ = some (.int .u64 (n64 (a.s 11))) := fun x => ((lrow r1.out x).cell 46).trans (cpc_at _ 46 (by omega))
  have c2_s11 : ∀ x : Later w, x.1.cell? ⟨g2, 46, none⟩ = some (.int .u64 (n64 (b.s 11))) := fun x => ((lrow r2.out x).cell 46).trans (cpc_at _ 46 (by omega))
  clear h0 h1 h2
  have hadd : IntKind.u64.wrap (n64 (b.s 11) + n64 (oB (rtB r b))) = n64 (b.s 11 + oB (rtB r b)) := n64_add _ _
  have BB : Hid (Below w.heap.size w w) := Below.refl _ _
  have HM : Hid ((rl13 b a r) = ((wcB r) || (n64 (a.s 11) == n64 (b.s 11 + oB (rtB r b))))) := rfl
  have HWC : Hid (∀ x : Later w, Calls Tryz.prog 86 #[.agg (rwc r)] x.1 fun e w' => e = .returned (.bool (wcB r)) ∧ Below x.1.heap.size x.1 w') := fun x => uMayW_c r x.1
  have HRT : Hid (∀ x : Later w, Calls Tryz.prog 89 #[.agg (rwc r), .agg (cpc b)] x.1 fun e w' => e = .returned (.int .u64 (n64 (oB (rtB r b)))) ∧ Below x.1.heap.size x.1 w') := fun x => uRt_c r b x.1
  generalize hZ : (rl13 b a r) = Z at HM ⊢
  clear hZ
  generalize wcB r = z0 at *
  go_enter Tryz.func88, Tryz.ntmps88
  go_upto_region 1 with fail
  have hne := later_nonempty w
  cases z0
  focus
    cases q1 : (n64 (a.s 11) == n64 (b.s 11 + oB (rtB r b)))
    focus
      have HV : Hid (Z = false) := (by unfold Hid; rw [HM.out]; first | (rw [q1]; done) | (rw [q1]; rfl))
    rotate_left 1
    focus
      have HV : Hid (Z = true) := (by unfold Hid; rw [HM.out]; first | (rw [q1]; done) | (rw [q1]; rfl))
    rotate_left 1
  rotate_left 2
  focus
    have HV : Hid (Z = true) := (by unfold Hid; first | (rw [HM.out]; done) | (rw [HM.out]; rfl))
  rotate_left 1
  all_goals
    clear HM
    refine wp_region_later (x0 := Later.start w) (by kernel_rfl) (by kernel_rfl) ?_
    (first | (go_big_quiet_want; refine quiet_load_agg 52 _ (by rfl) (g0) 0 (by rfl) (rwc r) _ r0.out.lt (lrow_cells r0.out) Tryz.underlying52 (by rfl) (info_rw _) ?_; simp only [Act.put, List.setIfInBounds_toArray, List.set_cons_succ, List.set_cons_zero]; go_big_quiet_on) | (go_big_quiet_want; refine quiet_load_agg 32 _ (by rfl) (g2) 0 (by rfl) (cpc b) _ r2.out.lt (lrow_cells r2.out) Tryz.underlying32 (by rfl) (info_cpuU _) ?_; simp only [Act.put, List.setIfInBounds_toArray, List.set_cons_succ, List.set_cons_zero]; go_big_quiet_on) | (go_big_quiet_step (fail)))
    (go_big_quiet_step ((go_at_call 86; exact calls_later (HWC.out _))))
    iterate 5 (go_big_quiet_step (fail))
    (first | (go_big_quiet_want; refine quiet_load_agg 52 _ (by rfl) (g0) 0 (by rfl) (rwc r) _ r0.out.lt (lrow_cells r0.out) Tryz.underlying52 (by rfl) (info_rw _) ?_; simp only [Act.put, List.setIfInBounds_toArray, List.set_cons_succ, List.set_cons_zero]; go_big_quiet_on) | (go_big_quiet_want; refine quiet_load_agg 32 _ (by rfl) (g2) 0 (by rfl) (cpc b) _ r2.out.lt (lrow_cells r2.out) Tryz.underlying32 (by rfl) (info_cpuU _) ?_; simp only [Act.put, List.setIfInBounds_toArray, List.set_cons_succ, List.set_cons_zero]; go_big_quiet_on) | (go_big_quiet_step (fail)))
    (first | (go_big_quiet_want; refine quiet_load_agg 52 _ (by rfl) (g0) 0 (by rfl) (rwc r) _ r0.out.lt (lrow_cells r0.out) Tryz.underlying52 (by rfl) (info_rw _) ?_; simp only [Act.put, List.setIfInBounds_toArray, List.set_cons_succ, List.set_cons_zero]; go_big_quiet_on) | (go_big_quiet_want; refine quiet_load_agg 32 _ (by rfl) (g2) 0 (by rfl) (cpc b) _ r2.out.lt (lrow_cells r2.out) Tryz.underlying32 (by rfl) (info_cpuU _) ?_; simp only [Act.put, List.setIfInBounds_toArray, List.set_cons_succ, List.set_cons_zero]; go_big_quiet_on) | (go_big_quiet_step (fail)))
    (go_big_quiet_step ((go_at_call 89; exact calls_later (HRT.out _))))
    iterate 4 (go_big_quiet_step (fail))
    refine wpQuiet_nil ?_
    rintro _ ⟨yq, rfl⟩
    go_wp2
    go_ret
    exact ⟨by rw [HV.out]; first | done | rfl, BB.out.trans (yq.2.mono BB.out.size)⟩
def rl14 (B A : St) (p : Pl) (off tk : Bool) : Bool := (((off) || (metB p 33603576#64 8)) || (A.time == IntKind.u64.wrap (B.time + n64 (oB tk))))
theorem uR14_c (b a : Cp) (B A : St) (br bi bo ar ai ao vi : Value) (r : Rw) (p : Pl) (off wp tk ex so : Bool) (g0 g1 g2 g3 g4 : Nat) (w : World) (h0 : Row w g0 (#[.bool off]) 4) (h1 : Row w g1 (plc2 p) 97) (h2 : Row w g2 (stc A ar ai ao) 44) (h3 : Row w g3 (stc B br bi bo) 44) (h4 : Row w g4 (sgc b B br bi bo a A ar ai ao tk ex so vi r wp) 73) : Calls Tryz.prog 90 #[.pointer (some ⟨g0, 0, none⟩), .pointer (some ⟨g1, 0, none⟩), .pointer (some ⟨g2, 0, none⟩), .pointer (some ⟨g3, 0, none⟩), .pointer (some ⟨g4, 0, none⟩)] w fun e w' => e = .returned (.bool (rl14 B A p off tk)) ∧ Below w.heap.size w w' := by
  have r0 := Hid.mkU h0
  have r1 := Hid.mkU h1
  have r2 := Hid.mkU h2
  have r3 := Hid.mkU h3
  have r4 := Hid.mkU h4
  have c0 : ∀ x : Later w, x.1.cell? ⟨g0, 0, none⟩ = some (.bool off) := fun x => (lrow r0.out x).cell 0
  have c2_time : ∀ x : Later w, x.1.cell? ⟨g2, 3, none⟩ = some (.int .u64 A.time) := fun x => (lrow r2.out x).cell 3
  have c3_time : ∀ x : Later w, x.1.cell? ⟨g3, 3, none⟩ = some (.int .u64 B.time) := fun x => (lrow r3.out x).cell 3
  have c4_tk : ∀ x : Later w, x.1.cell? ⟨g4, 194, none⟩ = some (.bool tk) := fun x => ((lrow r4.out x).cell 194).trans (sgc_at_tk ..)
  clear h0 h1 h2 h3 h4
  have BB : Hid (Below w.heap.size w w) := Below.refl _ _
  have HM : Hid ((rl14 B A p off tk) = (((off) || (metB p 33603576#64 8)) || (A.time == IntKind.u64.wrap (B.time + n64 (oB tk))))) := rfl
  have HMT : Hid (∀ x : Later w, Calls Tryz.prog 91 #[.agg (plc2 p), .int .u64 33603576, .int .u64 8] x.1 fun e w' => e = .returned (.bool (metB p 33603576#64 8)) ∧ Below x.1.heap.size x.1 w') := fun x => uMet_c p 33603576#64 8 (by omega) x.1
  have HON : Hid (∀ x : Later w, Calls Tryz.prog 92 #[.bool tk] x.1 fun e w' => e = .returned (.int .u64 (n64 (oB tk))) ∧ w' = x.1) := fun x => uOne_c tk x.1
  generalize hZ : (rl14 B A p off tk) = Z at HM ⊢
  clear hZ
  generalize off = z0 at *
  generalize metB p 33603576#64 8 = z1 at *
  go_enter Tryz.func90, Tryz.ntmps90
  go_upto_region 1 with fail
  have hne := later_nonempty w
  cases z0
  focus
    cases z1
    focus
      cases q1 : (A.time == IntKind.u64.wrap (B.time + n64 (oB tk)))
      focus
        have HV : Hid (Z = false) := (by unfold Hid; rw [HM.out]; first | (rw [q1]; done) | (rw [q1]; rfl))
      rotate_left 1
      focus
        have HV : Hid (Z = true) := (by unfold Hid; rw [HM.out]; first | (rw [q1]; done) | (rw [q1]; rfl))
      rotate_left 1
    rotate_left 2
    focus
      have HV : Hid (Z = true) := (by unfold Hid; first | (rw [HM.out]; done) | (rw [HM.out]; rfl))
    rotate_left 1
  rotate_left 3
  focus
    have HV : Hid (Z = true) := (by unfold Hid; first | (rw [HM.out]; done) | (rw [HM.out]; rfl))
  rotate_left 1
  all_goals
    clear HM
    refine wp_region_later (x0 := Later.start w) (by kernel_rfl) (by kernel_rfl) ?_
    iterate 2 (go_big_quiet_step (fail))
    (first | (go_big_quiet_want; refine quiet_load_agg 97 _ (by rfl) (g1) 0 (by rfl) (plc2 p) _ r1.out.lt (lrow_cells r1.out) Tryz.underlying97 (by rfl) (info_pl _) ?_; simp only [Act.put, List.setIfInBounds_toArray, List.set_cons_succ, List.set_cons_zero]; go_big_quiet_on) | (go_big_quiet_step (fail)))
    (go_big_quiet_step ((go_at_call 91; exact calls_later (HMT.out _))))
    iterate 9 (go_big_quiet_step (fail))
    (go_big_quiet_step ((go_at_call 92; exact calls_later_same (HON.out _))))
    iterate 4 (go_big_quiet_step (fail))
    refine wpQuiet_nil ?_
    rintro _ ⟨yq, rfl⟩
    go_wp2
    go_ret
    exact ⟨by rw [HV.out]; first | done | rfl, BB.out.trans (yq.2.mono BB.out.size)⟩
def rl15 (B A : St) (p : Pl) : Bool := (((A.cmp == B.cmp) || (metB p 33570816#64 8)) && ((A.msip == B.msip) || (metB p 33554432#64 4)))
theorem uR15_c (B A : St) (br bi bo ar ai ao : Value) (p : Pl) (g0 g1 g2 : Nat) (w : World) (h0 : Row w g0 (stc A ar ai ao) 44) (h1 : Row w g1 (stc B br bi bo) 44) (h2 : Row w g2 (plc2 p) 97) : Calls Tryz.prog 93 #[.pointer (some ⟨g0, 0, none⟩), .pointer (some ⟨g1, 0, none⟩), .pointer (some ⟨g2, 0, none⟩)] w fun e w' => e = .returned (.bool (rl15 B A p)) ∧ Below w.heap.size w w' := by
  have r0 := Hid.mkU h0
  have r1 := Hid.mkU h1
  have r2 := Hid.mkU h2
  have c0_cmp : ∀ x : Later w, x.1.cell? ⟨g0, 2, none⟩ = some (.int .u64 A.cmp) := fun x => (lrow r0.out x).cell 2
  have c0_msip : ∀ x : Later w, x.1.cell? ⟨g0, 1, none⟩ = some (.int .u32 A.msip) := fun x => (lrow r0.out x).cell 1
  have c1_cmp : ∀ x : Later w, x.1.cell? ⟨g1, 2, none⟩ = some (.int .u64 B.cmp) := fun x => (lrow r1.out x).cell 2
  have c1_msip : ∀ x : Later w, x.1.cell? ⟨g1, 1, none⟩ = some (.int .u32 B.msip) := fun x => (lrow r1.out x).cell 1
  clear h0 h1 h2
  have BB : Hid (Below w.heap.size w w) := Below.refl _ _
  have HM : Hid ((rl15 B A p) = (((A.cmp == B.cmp) || (metB p 33570816#64 8)) && ((A.msip == B.msip) || (metB p 33554432#64 4)))) := rfl
  have HM1 : Hid (∀ x : Later w, Calls Tryz.prog 91 #[.agg (plc2 p), .int .u64 33570816, .int .u64 8] x.1 fun e w' => e = .returned (.bool (metB p 33570816#64 8)) ∧ Below x.1.heap.size x.1 w') := fun x => uMet_c p 33570816#64 8 (by omega) x.1
  have HM2 : Hid (∀ x : Later w, Calls Tryz.prog 91 #[.agg (plc2 p), .int .u64 33554432, .int .u64 4] x.1 fun e w' => e = .returned (.bool (metB p 33554432#64 4)) ∧ Below x.1.heap.size x.1 w') := fun x => uMet_c p 33554432#64 4 (by omega) x.1
  generalize hZ : (rl15 B A p) = Z at HM ⊢
  clear hZ
  generalize metB p 33570816#64 8 = z1 at *
  generalize metB p 33554432#64 4 = z3 at *
  go_enter Tryz.func93, Tryz.ntmps93
  go_upto_region 1 with fail
  have hne := later_nonempty w
  cases q1 : (A.cmp == B.cmp)
  focus
    cases z1
    focus
      have HV : Hid (Z = false) := (by unfold Hid; rw [HM.out]; first | (rw [q1]; done) | (rw [q1]; rfl))
    rotate_left 1
    focus
      cases q3 : (A.msip == B.msip)
      focus
        cases z3
        focus
          have HV : Hid (Z = false) := (by unfold Hid; rw [HM.out]; first | (rw [q1, q3]; done) | (rw [q1, q3]; rfl))
        rotate_left 1
        focus
          have HV : Hid (Z = true) := (by unfold Hid; rw [HM.out]; first | (rw [q1, q3]; done) | (rw [q1, q3]; rfl))
        rotate_left 1
      rotate_left 2
      focus
        have HV : Hid (Z = true) := (by unfold Hid; rw [HM.out]; first | (rw [q1, q3]; done) | (rw [q1, q3]; rfl))
      rotate_left 1
    rotate_left 3
  rotate_left 4
  focus
    cases q2 : (A.msip == B.msip)
    focus
      cases z3
      focus
        have HV : Hid (Z = false) := (by unfold Hid; rw [HM.out]; first | (rw [q1, q2]; done) | (rw [q1, q2]; rfl))
      rotate_left 1
      focus
        have HV : Hid (Z = true) := (by unfold Hid; rw [HM.out]; first | (rw [q1, q2]; done) | (rw [q1, q2]; rfl))
      rotate_left 1
    rotate_left 2
    focus
      have HV : Hid (Z = true) := (by unfold Hid; rw [HM.out]; first | (rw [q1, q2]; done) | (rw [q1, q2]; rfl))
    rotate_left 1
  rotate_left 3
  all_goals
    clear HM
    refine wp_region_plain (x0 := Later.start w) ?_
    iterate 6 (go_big_quiet_step (fail))
    (first | (go_big_quiet_want; refine quiet_load_agg 97 _ (by rfl) (g2) 0 (by rfl) (plc2 p) _ r2.out.lt (lrow_cells r2.out) Tryz.underlying97 (by rfl) (info_pl _) ?_; simp only [Act.put, List.setIfInBounds_toArray, List.set_cons_succ, List.set_cons_zero]; go_big_quiet_on) | (go_big_quiet_step (fail)))
    (go_big_quiet_step ((go_at_call 91; exact calls_later (HM1.out _))))
    iterate 8 (go_big_quiet_step (fail))
    (first | (go_big_quiet_want; refine quiet_load_agg 97 _ (by rfl) (g2) 0 (by rfl) (plc2 p) _ r2.out.lt (lrow_cells r2.out) Tryz.underlying97 (by rfl) (info_pl _) ?_; simp only [Act.put, List.setIfInBounds_toArray, List.set_cons_succ, List.set_cons_zero]; go_big_quiet_on) | (go_big_quiet_step (fail)))
    (go_big_quiet_step ((go_at_call 91; exact calls_later (HM2.out _))))
    iterate 3 (go_big_quiet_step (fail))
    refine wpQuiet_nil ?_
    rintro _ ⟨yq, rfl⟩
    go_wp2
    go_ret
    exact ⟨by rw [HV.out]; first | done | rfl, BB.out.trans (yq.2.mono BB.out.size)⟩
def rl16 (A : St) (off ex so : Bool) : Bool := ((off) || ((A.ext == ex) && (A.soft == so)))
theorem uR16_c (b a : Cp) (B A : St) (br bi bo ar ai ao vi : Value) (r : Rw) (off wp tk ex so : Bool) (g0 g1 g2 : Nat) (w : World) (h0 : Row w g0 (#[.bool off]) 4) (h1 : Row w g1 (stc A ar ai ao) 44) (h2 : Row w g2 (sgc b B br bi bo a A ar ai ao tk ex so vi r wp) 73) : Calls Tryz.prog 94 #[.pointer (some ⟨g0, 0, none⟩), .pointer (some ⟨g1, 0, none⟩), .pointer (some ⟨g2, 0, none⟩)] w fun e w' => e = .returned (.bool (rl16 A off ex so)) ∧ Below w.heap.size w w' := by
  have r0 := Hid.mkU h0
  have r1 := Hid.mkU h1
  have r2 := Hid.mkU h2
  have c0 : ∀ x : Later w, x.1.cell? ⟨g0, 0, none⟩ = some (.bool off) := fun x => (lrow r0.out x).cell 0
  have c1_ext : ∀ x : Later w, x.1.cell? ⟨g1, 4, none⟩ = some (.bool A.ext) := fun x => (lrow r1.out x).cell 4
  have c1_soft : ∀ x : Later w, x.1.cell? ⟨g1, 5, none⟩ = some (.bool A.soft) := fun x => (lrow r1.out x).cell 5
  have c2_ex : ∀ x : Later w, x.1.cell? ⟨g2, 195, none⟩ = some (.bool ex) := fun x => ((lrow r2.out x).cell 195).trans (sgc_at_ex ..)
  have c2_so : ∀ x : Later w, x.1.cell? ⟨g2, 196, none⟩ = some (.bool so) := fun x => ((lrow r2.out x).cell 196).trans (sgc_at_so ..)
  clear h0 h1 h2
  have BB : Hid (Below w.heap.size w w) := Below.refl _ _
  have HM : Hid ((rl16 A off ex so) = ((off) || ((A.ext == ex) && (A.soft == so)))) := rfl
  generalize hZ : (rl16 A off ex so) = Z at HM ⊢
  clear hZ
  generalize off = z0 at *
  go_enter Tryz.func94, Tryz.ntmps94
  go_upto_region 1 with fail
  have hne := later_nonempty w
  cases z0
  focus
    cases q1 : (A.ext == ex)
    focus
      have HV : Hid (Z = false) := (by unfold Hid; rw [HM.out]; first | (rw [q1]; done) | (rw [q1]; rfl))
    rotate_left 1
    focus
      cases q2 : (A.soft == so)
      focus
        have HV : Hid (Z = false) := (by unfold Hid; rw [HM.out]; first | (rw [q1, q2]; done) | (rw [q1, q2]; rfl))
      rotate_left 1
      focus
        have HV : Hid (Z = true) := (by unfold Hid; rw [HM.out]; first | (rw [q1, q2]; done) | (rw [q1, q2]; rfl))
      rotate_left 1
    rotate_left 2
  rotate_left 3
  focus
    have HV : Hid (Z = true) := (by unfold Hid; first | (rw [HM.out]; done) | (rw [HM.out]; rfl))
  rotate_left 1
  all_goals
    clear HM
    refine wp_region_plain (x0 := Later.start w) ?_
    iterate 18 (go_big_quiet_step (fail))
    refine wpQuiet_nil ?_
    rintro _ ⟨yq, rfl⟩
    go_wp2
    go_ret
    exact ⟨by rw [HV.out]; first | done | rfl, BB.out.trans (yq.2.mono BB.out.size)⟩
def rl18 (b a : Cp) (r : Rw) : Bool := (mtT r b.md a.md)
theorem uR18_c (b a : Cp) (r : Rw) (g0 g1 g2 : Nat) (w : World) (h0 : Row w g0 (rwc r) 52) (h1 : Row w g1 (cpc b) 32) (h2 : Row w g2 (cpc a) 32) : Calls Tryz.prog 97 #[.pointer (some ⟨g0, 0, none⟩), .pointer (some ⟨g1, 0, none⟩), .pointer (some ⟨g2, 0, none⟩)] w fun e w' => e = .returned (.bool (rl18 b a r)) ∧ Below w.heap.size w w' := by
  have r0 := Hid.mkU h0
  have r1 := Hid.mkU h1
  have r2 := Hid.mkU h2
  have c1_md : ∀ x : Later w, x.1.cell? ⟨g1, 33, none⟩ = some (.int .i64 b.md) := fun x => ((lrow r1.out x).cell 33).trans (cpc_at _ 33 (by omega))
  have c2_md : ∀ x : Later w, x.1.cell? ⟨g2, 33, none⟩ = some (.int .i64 a.md) := fun x => ((lrow r2.out x).cell 33).trans (cpc_at _ 33 (by omega))
  clear h0 h1 h2
  have BB : Hid (Below w.heap.size w w) := Below.refl _ _
  have HM : Hid ((rl18 b a r) = (mtT r b.md a.md)) := rfl
  have HMT : Hid (∀ x : Later w, Calls Tryz.prog 98 #[.agg (rwc r), .int .i64 b.md, .int .i64 a.md] x.1 fun e w' => e = .returned (.bool (mtT r b.md a.md)) ∧ Below x.1.heap.size x.1 w') := fun x => uMt_c r b.md a.md x.1
  generalize hZ : (rl18 b a r) = Z at HM ⊢
  clear hZ
  generalize mtT r b.md a.md = z0 at *
  go_enter Tryz.func97, Tryz.ntmps97
  go_upto_region 1 with fail
  have hne := later_nonempty w
  cases z0
  focus
    have HV : Hid (Z = false) := (by unfold Hid; first | (rw [HM.out]; done) | (rw [HM.out]; rfl))
  rotate_left 1
  focus
    have HV : Hid (Z = true) := (by unfold Hid; first | (rw [HM.out]; done) | (rw [HM.out]; rfl))
  rotate_left 1
  all_goals
    clear HM
    refine wp_region_plain (x0 := Later.start w) ?_
    (first | (go_big_quiet_want; refine quiet_load_agg 52 _ (by rfl) (g0) 0 (by rfl) (rwc r) _ r0.out.lt (lrow_cells r0.out) Tryz.underlying52 (by rfl) (info_rw _) ?_; simp only [Act.put, List.setIfInBounds_toArray, List.set_cons_succ, List.set_cons_zero]; go_big_quiet_on) | (go_big_quiet_step (fail)))
    iterate 4 (go_big_quiet_step (fail))
    (go_big_quiet_step ((go_at_call 98; exact calls_later (HMT.out _))))
    (go_big_quiet_step (fail))
    refine wpQuiet_nil ?_
    rintro _ ⟨yq, rfl⟩
    go_wp2
    go_ret
    exact ⟨by rw [HV.out]; first | done | rfl, BB.out.trans (yq.2.mono BB.out.size)⟩
def rl20 (b : Cp) (r : Rw) : Bool := ((r.len == 0) || (ftB r b))
theorem uR20_c (b : Cp) (r : Rw) (g0 g1 : Nat) (w : World) (h0 : Row w g0 (rwc r) 52) (h1 : Row w g1 (cpc b) 32) (hT : Tb w) : Calls Tryz.prog 102 #[.pointer (some ⟨g0, 0, none⟩), .pointer (some ⟨g1, 0, none⟩)] w fun e w' => e = .returned (.bool (rl20 b r)) ∧ Below w.heap.size w w' := by
  have r0 := Hid.mkU h0
  have r1 := Hid.mkU h1
  have c0_len : ∀ x : Later w, x.1.cell? ⟨g0, 5, none⟩ = some (.int .i64 r.len) := fun x => (lrow r0.out x).cell 5
  clear h0 h1
  have BB : Hid (Below w.heap.size w w) := Below.refl _ _
  have HM : Hid ((rl20 b r) = ((r.len == 0) || (ftB r b))) := rfl
  have HFT : Hid (∀ x : Later w, Calls Tryz.prog 103 #[.agg (rwc r), .agg (cpc b)] x.1 fun e w' => e = .returned (.bool (ftB r b)) ∧ Below x.1.heap.size x.1 w') := fun x => uFt_c r b x.1 (hT.next x.2)
  generalize hZ : (rl20 b r) = Z at HM ⊢
  clear hZ
  generalize ftB r b = z1 at *
  go_enter Tryz.func102, Tryz.ntmps102
  go_upto_region 1 with fail
  have hne := later_nonempty w
  cases q1 : (r.len == 0)
  focus
    cases z1
    focus
      have HV : Hid (Z = false) := (by unfold Hid; rw [HM.out]; first | (rw [q1]; done) | (rw [q1]; rfl))
    rotate_left 1
    focus
      have HV : Hid (Z = true) := (by unfold Hid; rw [HM.out]; first | (rw [q1]; done) | (rw [q1]; rfl))
    rotate_left 1
  rotate_left 2
  focus
    have HV : Hid (Z = true) := (by unfold Hid; rw [HM.out]; first | (rw [q1]; done) | (rw [q1]; rfl))
  rotate_left 1
  all_goals
    clear HM
    refine wp_region_plain (x0 := Later.start w) ?_
    iterate 4 (go_big_quiet_step (fail))
    (first | (go_big_quiet_want; refine quiet_load_agg 52 _ (by rfl) (g0) 0 (by rfl) (rwc r) _ r0.out.lt (lrow_cells r0.out) Tryz.underlying52 (by rfl) (info_rw _) ?_; simp only [Act.put, List.setIfInBounds_toArray, List.set_cons_succ, List.set_cons_zero]; go_big_quiet_on) | (go_big_quiet_want; refine quiet_load_agg 32 _ (by rfl) (g1) 0 (by rfl) (cpc b) _ r1.out.lt (lrow_cells r1.out) Tryz.underlying32 (by rfl) (info_cpuU _) ?_; simp only [Act.put, List.setIfInBounds_toArray, List.set_cons_succ, List.set_cons_zero]; go_big_quiet_on) | (go_big_quiet_step (fail)))
    (first | (go_big_quiet_want; refine quiet_load_agg 52 _ (by rfl) (g0) 0 (by rfl) (rwc r) _ r0.out.lt (lrow_cells r0.out) Tryz.underlying52 (by rfl) (info_rw _) ?_; simp only [Act.put, List.setIfInBounds_toArray, List.set_cons_succ, List.set_cons_zero]; go_big_quiet_on) | (go_big_quiet_want; refine quiet_load_agg 32 _ (by rfl) (g1) 0 (by rfl) (cpc b) _ r1.out.lt (lrow_cells r1.out) Tryz.underlying32 (by rfl) (info_cpuU _) ?_; simp only [Act.put, List.setIfInBounds_toArray, List.set_cons_succ, List.set_cons_zero]; go_big_quiet_on) | (go_big_quiet_step (fail)))
    (go_big_quiet_step ((go_at_call 103; exact calls_later (HFT.out _))))
    iterate 2 (go_big_quiet_step (fail))
    refine wpQuiet_nil ?_
    rintro _ ⟨yq, rfl⟩
    go_wp2
    go_ret
    exact ⟨by rw [HV.out]; first | done | rfl, BB.out.trans (yq.2.mono BB.out.size)⟩
def gr2 (b : Cp) (t : BitVec 64) : Bool := grA (PC b.c) (PA b.a) t 2
def gr5 (b : Cp) (t : BitVec 64) : Bool := grA (PC b.c) (PA b.a) t 5
def gn2 (b : Cp) (t : BitVec 64) : Bool := !gr2 b t
def hsN (p : Pl) (t : BitVec 64) : Bool := !hasB p t
theorem uG5_c (b : Cp) (t : BitVec 64) (g0 : Nat) (w : World) (h0 : Row w g0 (cpc b) 32) (hT : Tb w) : Calls Tryz.prog 68 #[.int .u64 (n64 t), .pointer (some ⟨g0, 0, none⟩)] w fun e w' => e = .returned (.bool (gn2 b t)) ∧ Below w.heap.size w w' := by
  have r0 := Hid.mkU h0
  clear h0
  have BB : Hid (Below w.heap.size w w) := Below.refl _ _
  have HM : Hid ((gn2 b t) = (!(gr2 b t))) := rfl
  have HGR : Hid (∀ x : Later w, Calls Tryz.prog 27 #[.agg (pc b.c b.a), .int .u64 (n64 t), .int .i64 2] x.1 fun e w' => e = .returned (.bool (gr2 b t)) ∧ Below x.1.heap.size x.1 w') := fun x => Granted_c b.c b.a t 2 x.1 (hT.next x.2)
  generalize hZ : (gn2 b t) = Z at HM ⊢
  clear hZ
  generalize gr2 b t = z0 at *
  go_enter Tryz.func68, Tryz.ntmps68
  go_upto_region 1 with fail
  have hne := later_nonempty w
  cases z0
  focus
    have HV : Hid (Z = true) := (by unfold Hid; first | (rw [HM.out]; done) | (rw [HM.out]; rfl))
  rotate_left 1
  focus
    have HV : Hid (Z = false) := (by unfold Hid; first | (rw [HM.out]; done) | (rw [HM.out]; rfl))
  rotate_left 1
  all_goals
    clear HM
    refine wp_region_plain (x0 := Later.start w) ?_
    (go_big_quiet_step (fail))
    (first | (go_big_quiet_want; refine quiet_load_agg 28 _ (by rfl) (g0) 47 (by rfl) (pc b.c b.a) _ r0.out.lt r0.out.pmU Tryz.underlying28 (by rfl) (info_pmpU _ _) ?_; simp only [Act.put, List.setIfInBounds_toArray, List.set_cons_succ, List.set_cons_zero]; go_big_quiet_on) | (go_big_quiet_step (fail)))
    (go_big_quiet_step (fail))
    (go_big_quiet_step ((go_at_call 27; exact calls_later (HGR.out _))))
    iterate 2 (go_big_quiet_step (fail))
    refine wpQuiet_nil ?_
    rintro _ ⟨yq, rfl⟩
    go_wp2
    go_ret
    exact ⟨by rw [HV.out]; first | done | rfl, BB.out.trans (yq.2.mono BB.out.size)⟩
theorem uGA_c (b : Cp) (t : BitVec 64) (g0 : Nat) (w : World) (h0 : Row w g0 (cpc b) 32) (hT : Tb w) : Calls Tryz.prog 26 #[.int .u64 (n64 t), .pointer (some ⟨g0, 0, none⟩)] w fun e w' => e = .returned (.bool (gr5 b t)) ∧ Below w.heap.size w w' := by
  have r0 := Hid.mkU h0
  clear h0
  have BB : Hid (Below w.heap.size w w) := Below.refl _ _
  have HM : Hid ((gr5 b t) = (gr5 b t)) := rfl
  have HGR : Hid (∀ x : Later w, Calls Tryz.prog 27 #[.agg (pc b.c b.a), .int .u64 (n64 t), .int .i64 5] x.1 fun e w' => e = .returned (.bool (gr5 b t)) ∧ Below x.1.heap.size x.1 w') := fun x => Granted_c b.c b.a t 5 x.1 (hT.next x.2)
  generalize gr5 b t = z0 at *
  go_enter Tryz.func26, Tryz.ntmps26
  go_upto_region 1 with fail
  have hne := later_nonempty w
  refine wp_region_plain (x0 := Later.start w) ?_
  (go_big_quiet_step (fail))
  (first | (go_big_quiet_want; refine quiet_load_agg 28 _ (by rfl) (g0) 47 (by rfl) (pc b.c b.a) _ r0.out.lt r0.out.pmU Tryz.underlying28 (by rfl) (info_pmpU _ _) ?_; simp only [Act.put, List.setIfInBounds_toArray, List.set_cons_succ, List.set_cons_zero]; go_big_quiet_on) | (go_big_quiet_step (fail)))
  (go_big_quiet_step (fail))
  (go_big_quiet_step ((go_at_call 27; exact calls_later (HGR.out _))))
  (go_big_quiet_step (fail))
  refine wpQuiet_nil ?_
  rintro _ ⟨yq, rfl⟩
  go_wp2
  go_ret
  exact ⟨rfl, BB.out.trans (yq.2.mono BB.out.size)⟩
theorem uG6_c (p : Pl) (t : BitVec 64) (g0 : Nat) (w : World) (h0 : Row w g0 (plc2 p) 97) : Calls Tryz.prog 70 #[.int .u64 (n64 t), .pointer (some ⟨g0, 0, none⟩)] w fun e w' => e = .returned (.bool (hsN p t)) ∧ Below w.heap.size w w' := by
  have r0 := Hid.mkU h0
  clear h0
  have BB : Hid (Below w.heap.size w w) := Below.refl _ _
  have HM : Hid ((hsN p t) = (!(hasB p t))) := rfl
  have HHS : Hid (∀ x : Later w, Calls Tryz.prog 71 #[.agg (plc2 p), .int .u64 (n64 t)] x.1 fun e w' => e = .returned (.bool (hasB p t)) ∧ Below x.1.heap.size x.1 w') := fun x => uHas_c p t x.1
  generalize hZ : (hsN p t) = Z at HM ⊢
  clear hZ
  generalize hasB p t = z0 at *
  go_enter Tryz.func70, Tryz.ntmps70
  go_upto_region 1 with fail
  have hne := later_nonempty w
  cases z0
  focus
    have HV : Hid (Z = true) := (by unfold Hid; first | (rw [HM.out]; done) | (rw [HM.out]; rfl))
  rotate_left 1
  focus
    have HV : Hid (Z = false) := (by unfold Hid; first | (rw [HM.out]; done) | (rw [HM.out]; rfl))
  rotate_left 1
  all_goals
    clear HM
    refine wp_region_plain (x0 := Later.start w) ?_
    (first | (go_big_quiet_want; refine quiet_load_agg 97 _ (by rfl) (g0) 0 (by rfl) (plc2 p) _ r0.out.lt (lrow_cells r0.out) Tryz.underlying97 (by rfl) (info_pl _) ?_; simp only [Act.put, List.setIfInBounds_toArray, List.set_cons_succ, List.set_cons_zero]; go_big_quiet_on) | (go_big_quiet_step (fail)))
    (go_big_quiet_step (fail))
    (go_big_quiet_step ((go_at_call 71; exact calls_later (HHS.out _))))
    iterate 2 (go_big_quiet_step (fail))
    refine wpQuiet_nil ?_
    rintro _ ⟨yq, rfl⟩
    go_wp2
    go_ret
    exact ⟨by rw [HV.out]; first | done | rfl, BB.out.trans (yq.2.mono BB.out.size)⟩
def rl5 (b : Cp) (B A : St) (fu : Bool) : Bool := ((!(fu)) || (swB (gn2 b) B.ram A.ram))
theorem uR5_c (b : Cp) (B A : St) (br bi bo ar ai ao : Value) (fu : Bool) (g0 g1 g2 g3 : Nat) (w : World) (h0 : Row w g0 (#[.bool fu]) 4) (h1 : Row w g1 (stc B br bi bo) 44) (h2 : Row w g2 (stc A ar ai ao) 44) (h3 : Row w g3 (cpc b) 32) (hB : Bs B br bi bo w) (hA : Bs A ar ai ao w) (hT : Tb w) (hl : A.ram.length = B.ram.length) (hL : B.ram.length ≤ 140737488351232) : Calls Tryz.prog 67 #[.pointer (some ⟨g0, 0, none⟩), .pointer (some ⟨g1, 0, none⟩), .pointer (some ⟨g2, 0, none⟩), .pointer (some ⟨g3, 0, none⟩)] w fun e w' => e = .returned (.bool (rl5 b B A fu)) ∧ Below w.heap.size w w' := by
  have r0 := Hid.mkU h0
  have r1 := Hid.mkU h1
  have r2 := Hid.mkU h2
  have r3 := Hid.mkU h3
  have c0 : ∀ x : Later w, x.1.cell? ⟨g0, 0, none⟩ = some (.bool fu) := fun x => (lrow r0.out x).cell 0
  have c1_r : ∀ x : Later w, x.1.cell? ⟨g1, 0, none⟩ = some (br) := fun x => (lrow r1.out x).cell 0
  have c2_r : ∀ x : Later w, x.1.cell? ⟨g2, 0, none⟩ = some (ar) := fun x => (lrow r2.out x).cell 0
  clear h0 h1 h2 h3
  have hmf : ∀ (fn : Fn) (first cap : Array Value) (w : World), (Instr.makeFunc fn first cap).run Tryz.prog w = .ok (.func fn first cap) w := fun _ _ _ _ => rfl
  have BB : Hid (Below w.heap.size w w) := Below.refl _ _
  have HM : Hid ((rl5 b B A fu) = ((!(fu)) || (swB (gn2 b) B.ram A.ram))) := rfl
  have HSW : Hid (∀ x : Later w, Calls Tryz.prog 25 #[br, ar, .func (.func 68) #[] #[.pointer (some ⟨g3, 0, none⟩)]] x.1 fun e w' => e = .returned (.bool (swB (gn2 b) B.ram A.ram)) ∧ Below x.1.heap.size x.1 w') := fun x => uSw5_c (gn2 b) B.ram A.ram br ar g3 x.1 (hB.later x.2).r (hA.later x.2).r hl hL (fun t W hb => uG5_c b t g3 W ((lrow r3.out x).later hb (lrow r3.out x).lt) ((hT.next x.2).next hb))
  generalize hZ : (rl5 b B A fu) = Z at HM ⊢
  clear hZ
  generalize fu = z0 at *
  generalize swB (gn2 b) B.ram A.ram = z1 at *
  go_enter Tryz.func67, Tryz.ntmps67
  go_upto_region 1 with fail
  have hne := later_nonempty w
  cases z0
  focus
    have HV : Hid (Z = true) := (by unfold Hid; first | (rw [HM.out]; done) | (rw [HM.out]; rfl))
  rotate_left 1
  focus
    cases z1
    focus
      have HV : Hid (Z = false) := (by unfold Hid; first | (rw [HM.out]; done) | (rw [HM.out]; rfl))
    rotate_left 1
    focus
      have HV : Hid (Z = true) := (by unfold Hid; first | (rw [HM.out]; done) | (rw [HM.out]; rfl))
    rotate_left 1
  rotate_left 2
  all_goals
    clear HM
    refine wp_region_plain (x0 := Later.start w) ?_
    iterate 8 (go_big_quiet_step (fail))
    (go_big_quiet_step ((go_at_call 25; exact calls_later (HSW.out _))))
    iterate 2 (go_big_quiet_step (fail))
    refine wpQuiet_nil ?_
    rintro _ ⟨yq, rfl⟩
    go_wp2
    go_ret
    exact ⟨by rw [HV.out]; first | done | rfl, BB.out.trans (yq.2.mono BB.out.size)⟩
def rl6 (B A : St) (r : Rw) (p : Pl) : Bool := ((swB (hsN p) B.ram A.ram) && (holB p A.ram r.dat))
theorem uR6_c (B A : St) (br bi bo ar ai ao : Value) (r : Rw) (p : Pl) (g0 g1 g2 g3 : Nat) (w : World) (h0 : Row w g0 (stc B br bi bo) 44) (h1 : Row w g1 (stc A ar ai ao) 44) (h2 : Row w g2 (plc2 p) 97) (h3 : Row w g3 (rwc r) 52) (m : Nat) (hp : p.n = (m : Int)) (hm : m ≤ 8) (hB : Bs B br bi bo w) (hA : Bs A ar ai ao w) (hl : A.ram.length = B.ram.length) (hL : B.ram.length ≤ 140737488351232) : Calls Tryz.prog 69 #[.pointer (some ⟨g0, 0, none⟩), .pointer (some ⟨g1, 0, none⟩), .pointer (some ⟨g2, 0, none⟩), .pointer (some ⟨g3, 0, none⟩)] w fun e w' => e = .returned (.bool (rl6 B A r p)) ∧ Below w.heap.size w w' := by
  have r0 := Hid.mkU h0
  have r1 := Hid.mkU h1
  have r2 := Hid.mkU h2
  have r3 := Hid.mkU h3
  have c0_r : ∀ x : Later w, x.1.cell? ⟨g0, 0, none⟩ = some (br) := fun x => (lrow r0.out x).cell 0
  have c1_r : ∀ x : Later w, x.1.cell? ⟨g1, 0, none⟩ = some (ar) := fun x => (lrow r1.out x).cell 0
  have c3_dat : ∀ x : Later w, x.1.cell? ⟨g3, 13, none⟩ = some (.int .u64 (n64 r.dat)) := fun x => (lrow r3.out x).cell 13
  clear h0 h1 h2 h3
  have hmf : ∀ (fn : Fn) (first cap : Array Value) (w : World), (Instr.makeFunc fn first cap).run Tryz.prog w = .ok (.func fn first cap) w := fun _ _ _ _ => rfl
  have BB : Hid (Below w.heap.size w w) := Below.refl _ _
  have HM : Hid ((rl6 B A r p) = ((swB (hsN p) B.ram A.ram) && (holB p A.ram r.dat))) := rfl
  have HSW : Hid (∀ x : Later w, Calls Tryz.prog 25 #[br, ar, .func (.func 70) #[] #[.pointer (some ⟨g2, 0, none⟩)]] x.1 fun e w' => e = .returned (.bool (swB (hsN p) B.ram A.ram)) ∧ Below x.1.heap.size x.1 w') := fun x => uSw6_c (hsN p) B.ram A.ram br ar g2 x.1 (hB.later x.2).r (hA.later x.2).r hl hL (fun t W hb => uG6_c p t g2 W ((lrow r2.out x).later hb (lrow r2.out x).lt))
  have HHO : Hid (∀ x : Later w, Calls Tryz.prog 72 #[.agg (plc2 p), ar, .int .u64 (n64 r.dat)] x.1 fun e w' => e = .returned (.bool (holB p A.ram r.dat)) ∧ Below x.1.heap.size x.1 w') := fun x => uHol_c p m hp hm A.ram ar r.dat x.1 (hA.later x.2).r (by omega)
  generalize hZ : (rl6 B A r p) = Z at HM ⊢
  clear hZ
  generalize swB (hsN p) B.ram A.ram = z0 at *
  generalize holB p A.ram r.dat = z1 at *
  go_enter Tryz.func69, Tryz.ntmps69
  go_upto_region 1 with fail
  have hne := later_nonempty w
  cases z0
  focus
    have HV : Hid (Z = false) := (by unfold Hid; first | (rw [HM.out]; done) | (rw [HM.out]; rfl))
  rotate_left 1
  focus
    cases z1
    focus
      have HV : Hid (Z = false) := (by unfold Hid; first | (rw [HM.out]; done) | (rw [HM.out]; rfl))
    rotate_left 1
    focus
      have HV : Hid (Z = true) := (by unfold Hid; first | (rw [HM.out]; done) | (rw [HM.out]; rfl))
    rotate_left 1
  rotate_left 2
  all_goals
    clear HM
    refine wp_region_plain (x0 := Later.start w) ?_
    iterate 5 (go_big_quiet_step (fail))
    (go_big_quiet_step ((go_at_call 25; exact calls_later (HSW.out _))))
    (go_big_quiet_step (fail))
    (first | (go_big_quiet_want; refine quiet_load_agg 97 _ (by rfl) (g2) 0 (by rfl) (plc2 p) _ r2.out.lt (lrow_cells r2.out) Tryz.underlying97 (by rfl) (info_pl _) ?_; simp only [Act.put, List.setIfInBounds_toArray, List.set_cons_succ, List.set_cons_zero]; go_big_quiet_on) | (go_big_quiet_step (fail)))
    iterate 4 (go_big_quiet_step (fail))
    (go_big_quiet_step ((go_at_call 72; exact calls_later (HHO.out _))))
    iterate 2 (go_big_quiet_step (fail))
    refine wpQuiet_nil ?_
    rintro _ ⟨yq, rfl⟩
    go_wp2
    go_ret
    exact ⟨by rw [HV.out]; first | done | rfl, BB.out.trans (yq.2.mono BB.out.size)⟩
def rl11 (b a : Cp) (r : Rw) (mv : Int) : Bool := ((r.kd != 4) || (((b.wt) && (bits .and .u64 mv (n64 (a.s 2)) == 0)) && (sbB b a)))
theorem uR11_c (b a : Cp) (A : St) (ar ai ao : Value) (r : Rw) (mv : Int) (g0 g1 g2 g3 : Nat) (w : World) (h0 : Row w g0 (rwc r) 52) (h1 : Row w g1 (cpc b) 32) (h2 : Row w g2 (stc A ar ai ao) 44) (h3 : Row w g3 (cpc a) 32) (hmi : ∀ x : Later w, Calls Tryz.prog 83 #[.agg (stc A ar ai ao)] x.1 fun e w' => e = .returned (.int .u64 mv) ∧ Below x.1.heap.size x.1 w') : Calls Tryz.prog 82 #[.pointer (some ⟨g0, 0, none⟩), .pointer (some ⟨g1, 0, none⟩), .pointer (some ⟨g2, 0, none⟩), .pointer (some ⟨g3, 0, none⟩)] w fun e w' => e = .returned (.bool (rl11 b a r mv)) ∧ Below w.heap.size w w' := by
  have r0 := Hid.mkU h0
  have r1 := Hid.mkU h1
  have r2 := Hid.mkU h2
  have r3 := Hid.mkU h3
  have c0_kd : ∀ x : Later w, x.1.cell? ⟨g0, 1, none⟩ = some (.int .i64 r.kd) := fun x => (lrow r0.out x).cell 1
  have c1_wt : ∀ x : Later w, x.1.cell? ⟨g1, 34, none⟩ = some (.bool b.wt) := fun x => ((lrow r1.out x).cell 34).trans (cpc_at _ 34 (by omega))
  have c3_s2 : ∀ x : Later w, x.1.cell? ⟨g3, 37, none⟩ = some (.int .u64 (n64 (a.s 2))) := fun x => ((lrow r3.out x).cell 37).trans (cpc_at _ 37 (by omega))
  clear h0 h1 h2 h3
  have BB : Hid (Below w.heap.size w w) := Below.refl _ _
  have HM : Hid ((rl11 b a r mv) = ((r.kd != 4) || (((b.wt) && (bits .and .u64 mv (n64 (a.s 2)) == 0)) && (sbB b a)))) := rfl
  have HMI : Hid (∀ x : Later w, Calls Tryz.prog 83 #[.agg (stc A ar ai ao)] x.1 fun e w' => e = .returned (.int .u64 mv) ∧ Below x.1.heap.size x.1 w') := fun x => hmi x
  have HSB : Hid (∀ x : Later w, Calls Tryz.prog 84 #[.agg (cpc b), .agg (cpc a)] x.1 fun e w' => e = .returned (.bool (sbB b a)) ∧ Below x.1.heap.size x.1 w') := fun x => uSb_c b a x.1
  generalize hZ : (rl11 b a r mv) = Z at HM ⊢
  clear hZ
  generalize b.wt = z1 at *
  generalize sbB b a = z3 at *
  go_enter Tryz.func82, Tryz.ntmps82
  go_upto_region 1 with fail
  have hne := later_nonempty w
  cases q1 : (r.kd != 4)
  focus
    cases z1
    focus
      have HV : Hid (Z = false) := (by unfold Hid; rw [HM.out]; first | (rw [q1]; done) | (rw [q1]; rfl))
    rotate_left 1
    focus
      cases q2 : (bits .and .u64 mv (n64 (a.s 2)) == 0)
      focus
        have HV : Hid (Z = false) := (by unfold Hid; rw [HM.out]; first | (rw [q1, q2]; done) | (rw [q1, q2]; rfl))
      rotate_left 1
      focus
        cases z3
        focus
          have HV : Hid (Z = false) := (by unfold Hid; rw [HM.out]; first | (rw [q1, q2]; done) | (rw [q1, q2]; rfl))
        rotate_left 1
        focus
          have HV : Hid (Z = true) := (by unfold Hid; rw [HM.out]; first | (rw [q1, q2]; done) | (rw [q1, q2]; rfl))
        rotate_left 1
      rotate_left 2
    rotate_left 3
  rotate_left 4
  focus
    have HV : Hid (Z = true) := (by unfold Hid; rw [HM.out]; first | (rw [q1]; done) | (rw [q1]; rfl))
  rotate_left 1
  all_goals
    clear HM
    refine wp_region_later (x0 := Later.start w) (by kernel_rfl) (by kernel_rfl) ?_
    iterate 7 (go_big_quiet_step (fail))
    (first | (go_big_quiet_want; refine quiet_load_agg 32 _ (by rfl) (g1) 0 (by rfl) (cpc b) _ r1.out.lt (lrow_cells r1.out) Tryz.underlying32 (by rfl) (info_cpuU _) ?_; simp only [Act.put, List.setIfInBounds_toArray, List.set_cons_succ, List.set_cons_zero]; go_big_quiet_on) | (go_big_quiet_want; refine quiet_load_agg 44 _ (by rfl) (g2) 0 (by rfl) (stc A ar ai ao) _ r2.out.lt (lrow_cells r2.out) Tryz.underlying44 (by rfl) (info_bst _ _ _ _) ?_; simp only [Act.put, List.setIfInBounds_toArray, List.set_cons_succ, List.set_cons_zero]; go_big_quiet_on) | (go_big_quiet_want; refine quiet_load_agg 32 _ (by rfl) (g3) 0 (by rfl) (cpc a) _ r3.out.lt (lrow_cells r3.out) Tryz.underlying32 (by rfl) (info_cpuU _) ?_; simp only [Act.put, List.setIfInBounds_toArray, List.set_cons_succ, List.set_cons_zero]; go_big_quiet_on) | (go_big_quiet_step (fail)))
    (go_big_quiet_step ((go_at_call 83; exact calls_later (HMI.out _))))
    iterate 6 (go_big_quiet_step (fail))
    (first | (go_big_quiet_want; refine quiet_load_agg 32 _ (by rfl) (g1) 0 (by rfl) (cpc b) _ r1.out.lt (lrow_cells r1.out) Tryz.underlying32 (by rfl) (info_cpuU _) ?_; simp only [Act.put, List.setIfInBounds_toArray, List.set_cons_succ, List.set_cons_zero]; go_big_quiet_on) | (go_big_quiet_want; refine quiet_load_agg 44 _ (by rfl) (g2) 0 (by rfl) (stc A ar ai ao) _ r2.out.lt (lrow_cells r2.out) Tryz.underlying44 (by rfl) (info_bst _ _ _ _) ?_; simp only [Act.put, List.setIfInBounds_toArray, List.set_cons_succ, List.set_cons_zero]; go_big_quiet_on) | (go_big_quiet_want; refine quiet_load_agg 32 _ (by rfl) (g3) 0 (by rfl) (cpc a) _ r3.out.lt (lrow_cells r3.out) Tryz.underlying32 (by rfl) (info_cpuU _) ?_; simp only [Act.put, List.setIfInBounds_toArray, List.set_cons_succ, List.set_cons_zero]; go_big_quiet_on) | (go_big_quiet_step (fail)))
    (first | (go_big_quiet_want; refine quiet_load_agg 32 _ (by rfl) (g1) 0 (by rfl) (cpc b) _ r1.out.lt (lrow_cells r1.out) Tryz.underlying32 (by rfl) (info_cpuU _) ?_; simp only [Act.put, List.setIfInBounds_toArray, List.set_cons_succ, List.set_cons_zero]; go_big_quiet_on) | (go_big_quiet_want; refine quiet_load_agg 44 _ (by rfl) (g2) 0 (by rfl) (stc A ar ai ao) _ r2.out.lt (lrow_cells r2.out) Tryz.underlying44 (by rfl) (info_bst _ _ _ _) ?_; simp only [Act.put, List.setIfInBounds_toArray, List.set_cons_succ, List.set_cons_zero]; go_big_quiet_on) | (go_big_quiet_want; refine quiet_load_agg 32 _ (by rfl) (g3) 0 (by rfl) (cpc a) _ r3.out.lt (lrow_cells r3.out) Tryz.underlying32 (by rfl) (info_cpuU _) ?_; simp only [Act.put, List.setIfInBounds_toArray, List.set_cons_succ, List.set_cons_zero]; go_big_quiet_on) | (go_big_quiet_step (fail)))
    (go_big_quiet_step ((go_at_call 84; exact calls_later (HSB.out _))))
    iterate 3 (go_big_quiet_step (fail))
    refine wpQuiet_nil ?_
    rintro _ ⟨yq, rfl⟩
    go_wp2
    go_ret
    exact ⟨by rw [HV.out]; first | done | rfl, BB.out.trans (yq.2.mono BB.out.size)⟩
def rl17 (B A : St) (r : Rw) (p : Pl) : Bool := (snB B.out A.out p r.dat)
theorem uR17_c (B A : St) (br bi bo ar ai ao : Value) (r : Rw) (p : Pl) (g0 g1 g2 g3 : Nat) (w : World) (h0 : Row w g0 (stc B br bi bo) 44) (h1 : Row w g1 (stc A ar ai ao) 44) (h2 : Row w g2 (plc2 p) 97) (h3 : Row w g3 (rwc r) 52) (hB : Bs B br bi bo w) (hA : Bs A ar ai ao w) (hLo : B.out.length ≤ 140737488351232) (hAo : AllB A.out) : Calls Tryz.prog 95 #[.pointer (some ⟨g0, 0, none⟩), .pointer (some ⟨g1, 0, none⟩), .pointer (some ⟨g2, 0, none⟩), .pointer (some ⟨g3, 0, none⟩)] w fun e w' => e = .returned (.bool (rl17 B A r p)) ∧ Below w.heap.size w w' := by
  have r0 := Hid.mkU h0
  have r1 := Hid.mkU h1
  have r2 := Hid.mkU h2
  have r3 := Hid.mkU h3
  have c0_o : ∀ x : Later w, x.1.cell? ⟨g0, 12, none⟩ = some (bo) := fun x => (lrow r0.out x).cell 12
  have c1_o : ∀ x : Later w, x.1.cell? ⟨g1, 12, none⟩ = some (ao) := fun x => (lrow r1.out x).cell 12
  have c3_dat : ∀ x : Later w, x.1.cell? ⟨g3, 13, none⟩ = some (.int .u64 (n64 r.dat)) := fun x => (lrow r3.out x).cell 13
  clear h0 h1 h2 h3
  have BB : Hid (Below w.heap.size w w) := Below.refl _ _
  have HM : Hid ((rl17 B A r p) = (snB B.out A.out p r.dat)) := rfl
  have HSN : Hid (∀ x : Later w, Calls Tryz.prog 96 #[bo, ao, .agg (plc2 p), .int .u64 (n64 r.dat)] x.1 fun e w' => e = .returned (.bool (snB B.out A.out p r.dat)) ∧ Below x.1.heap.size x.1 w') := fun x => uSn_c B.out A.out bo ao p r.dat x.1 (hB.later x.2).o (hA.later x.2).o hLo hAo
  generalize hZ : (rl17 B A r p) = Z at HM ⊢
  clear hZ
  generalize snB B.out A.out p r.dat = z0 at *
  go_enter Tryz.func95, Tryz.ntmps95
  go_upto_region 1 with fail
  have hne := later_nonempty w
  cases z0
  focus
    have HV : Hid (Z = false) := (by unfold Hid; first | (rw [HM.out]; done) | (rw [HM.out]; rfl))
  rotate_left 1
  focus
    have HV : Hid (Z = true) := (by unfold Hid; first | (rw [HM.out]; done) | (rw [HM.out]; rfl))
  rotate_left 1
  all_goals
    clear HM
    refine wp_region_plain (x0 := Later.start w) ?_
    iterate 4 (go_big_quiet_step (fail))
    (first | (go_big_quiet_want; refine quiet_load_agg 97 _ (by rfl) (g2) 0 (by rfl) (plc2 p) _ r2.out.lt (lrow_cells r2.out) Tryz.underlying97 (by rfl) (info_pl _) ?_; simp only [Act.put, List.setIfInBounds_toArray, List.set_cons_succ, List.set_cons_zero]; go_big_quiet_on) | (go_big_quiet_step (fail)))
    iterate 2 (go_big_quiet_step (fail))
    (go_big_quiet_step ((go_at_call 96; exact calls_later (HSN.out _))))
    (go_big_quiet_step (fail))
    refine wpQuiet_nil ?_
    rintro _ ⟨yq, rfl⟩
    go_wp2
    go_ret
    exact ⟨by rw [HV.out]; first | done | rfl, BB.out.trans (yq.2.mono BB.out.size)⟩
def rl19 (b : Cp) (r : Rw) : Bool := (((r.kd != 1) || (r.mem == 0)) || (mrB r b.c b.a (EF b)))
theorem uR19_c (b : Cp) (r : Rw) (g0 g1 : Nat) (w : World) (h0 : Row w g0 (rwc r) 52) (h1 : Row w g1 (cpc b) 32) (hT : Tb w) : Calls Tryz.prog 99 #[.pointer (some ⟨g0, 0, none⟩), .pointer (some ⟨g1, 0, none⟩)] w fun e w' => e = .returned (.bool (rl19 b r)) ∧ Below w.heap.size w w' := by
  have r0 := Hid.mkU h0
  have r1 := Hid.mkU h1
  have c0_kd : ∀ x : Later w, x.1.cell? ⟨g0, 1, none⟩ = some (.int .i64 r.kd) := fun x => (lrow r0.out x).cell 1
  have c0_mem : ∀ x : Later w, x.1.cell? ⟨g0, 10, none⟩ = some (.int .i64 r.mem) := fun x => (lrow r0.out x).cell 10
  clear h0 h1
  have BB : Hid (Below w.heap.size w w) := Below.refl _ _
  have HM : Hid ((rl19 b r) = (((r.kd != 1) || (r.mem == 0)) || (mrB r b.c b.a (EF b)))) := rfl
  have HEF : Hid (∀ x : Later w, Calls Tryz.prog 101 #[.agg (cpc b)] x.1 fun e w' => e = .returned (.int .i64 (EF b)) ∧ Below x.1.heap.size x.1 w') := fun x => Effective_c b x.1
  have HMR : Hid (∀ x : Later w, Calls Tryz.prog 100 #[.agg (rwc r), .agg (pc b.c b.a), .int .i64 (EF b)] x.1 fun e w' => e = .returned (.bool (mrB r b.c b.a (EF b))) ∧ Below x.1.heap.size x.1 w') := fun x => uMr_c r b.c b.a (EF b) x.1 (hT.next x.2)
  generalize hZ : (rl19 b r) = Z at HM ⊢
  clear hZ
  generalize mrB r b.c b.a (EF b) = z2 at *
  go_enter Tryz.func99, Tryz.ntmps99
  go_upto_region 1 with fail
  have hne := later_nonempty w
  cases q1 : (r.kd != 1)
  focus
    cases q2 : (r.mem == 0)
    focus
      cases z2
      focus
        have HV : Hid (Z = false) := (by unfold Hid; rw [HM.out]; first | (rw [q1, q2]; done) | (rw [q1, q2]; rfl))
      rotate_left 1
      focus
        have HV : Hid (Z = true) := (by unfold Hid; rw [HM.out]; first | (rw [q1, q2]; done) | (rw [q1, q2]; rfl))
      rotate_left 1
    rotate_left 2
    focus
      have HV : Hid (Z = true) := (by unfold Hid; rw [HM.out]; first | (rw [q1, q2]; done) | (rw [q1, q2]; rfl))
    rotate_left 1
  rotate_left 3
  focus
    have HV : Hid (Z = true) := (by unfold Hid; rw [HM.out]; first | (rw [q1]; done) | (rw [q1]; rfl))
  rotate_left 1
  all_goals
    clear HM
    refine wp_region_later (x0 := Later.start w) (by kernel_rfl) (by kernel_rfl) ?_
    iterate 9 (go_big_quiet_step (fail))
    (first | (go_big_quiet_want; refine quiet_load_agg 52 _ (by rfl) (g0) 0 (by rfl) (rwc r) _ r0.out.lt (lrow_cells r0.out) Tryz.underlying52 (by rfl) (info_rw _) ?_; simp only [Act.put, List.setIfInBounds_toArray, List.set_cons_succ, List.set_cons_zero]; go_big_quiet_on) | (go_big_quiet_want; refine quiet_load_agg 32 _ (by rfl) (g1) 0 (by rfl) (cpc b) _ r1.out.lt (lrow_cells r1.out) Tryz.underlying32 (by rfl) (info_cpuU _) ?_; simp only [Act.put, List.setIfInBounds_toArray, List.set_cons_succ, List.set_cons_zero]; go_big_quiet_on) | (go_big_quiet_want; refine quiet_load_agg 28 _ (by rfl) (g1) 47 (by rfl) (pc b.c b.a) _ r1.out.lt r1.out.pmU Tryz.underlying28 (by rfl) (info_pmpU _ _) ?_; simp only [Act.put, List.setIfInBounds_toArray, List.set_cons_succ, List.set_cons_zero]; go_big_quiet_on) | (go_big_quiet_step (fail)))
    (go_big_quiet_step (fail))
    (first | (go_big_quiet_want; refine quiet_load_agg 52 _ (by rfl) (g0) 0 (by rfl) (rwc r) _ r0.out.lt (lrow_cells r0.out) Tryz.underlying52 (by rfl) (info_rw _) ?_; simp only [Act.put, List.setIfInBounds_toArray, List.set_cons_succ, List.set_cons_zero]; go_big_quiet_on) | (go_big_quiet_want; refine quiet_load_agg 32 _ (by rfl) (g1) 0 (by rfl) (cpc b) _ r1.out.lt (lrow_cells r1.out) Tryz.underlying32 (by rfl) (info_cpuU _) ?_; simp only [Act.put, List.setIfInBounds_toArray, List.set_cons_succ, List.set_cons_zero]; go_big_quiet_on) | (go_big_quiet_want; refine quiet_load_agg 28 _ (by rfl) (g1) 47 (by rfl) (pc b.c b.a) _ r1.out.lt r1.out.pmU Tryz.underlying28 (by rfl) (info_pmpU _ _) ?_; simp only [Act.put, List.setIfInBounds_toArray, List.set_cons_succ, List.set_cons_zero]; go_big_quiet_on) | (go_big_quiet_step (fail)))
    (first | (go_big_quiet_want; refine quiet_load_agg 52 _ (by rfl) (g0) 0 (by rfl) (rwc r) _ r0.out.lt (lrow_cells r0.out) Tryz.underlying52 (by rfl) (info_rw _) ?_; simp only [Act.put, List.setIfInBounds_toArray, List.set_cons_succ, List.set_cons_zero]; go_big_quiet_on) | (go_big_quiet_want; refine quiet_load_agg 32 _ (by rfl) (g1) 0 (by rfl) (cpc b) _ r1.out.lt (lrow_cells r1.out) Tryz.underlying32 (by rfl) (info_cpuU _) ?_; simp only [Act.put, List.setIfInBounds_toArray, List.set_cons_succ, List.set_cons_zero]; go_big_quiet_on) | (go_big_quiet_want; refine quiet_load_agg 28 _ (by rfl) (g1) 47 (by rfl) (pc b.c b.a) _ r1.out.lt r1.out.pmU Tryz.underlying28 (by rfl) (info_pmpU _ _) ?_; simp only [Act.put, List.setIfInBounds_toArray, List.set_cons_succ, List.set_cons_zero]; go_big_quiet_on) | (go_big_quiet_step (fail)))
    (go_big_quiet_step ((go_at_call 101; exact calls_later (HEF.out _))))
    (go_big_quiet_step ((go_at_call 100; exact calls_later (HMR.out _))))
    iterate 2 (go_big_quiet_step (fail))
    refine wpQuiet_nil ?_
    rintro _ ⟨yq, rfl⟩
    go_wp2
    go_ret
    exact ⟨by rw [HV.out]; first | done | rfl, BB.out.trans (yq.2.mono BB.out.size)⟩
end Go.Proofs.YtidfndgedopghaaGreatDoor
