/-
  Je.
-/
import Derived.Test.YtgblpjkpeihpeaaM18
import Derived.Test.YtgblpjkpeihpeaaM24
namespace Go.Proofs.Ytgblpjkpeihpeaa
set_option linter.unusedVariables false
set_option maxRecDepth 100000
open Go.ChangeShapes Go.WideShapes Go.ChangeAt Go.RowKit Go.Deep
set_option maxHeartbeats 8000000 in
theorem pcpu_c {B : Nat} {w : World} {g : Nat} {L : List Int} {q : Nat} {b : Bool} (h : Prd B w g L (q) b) (hall : AllB L) :
    Calls Try.prog 57 #[.pointer (some ⟨g, 0, none⟩)] w fun e w' => CpuP (fun W => Prd B W g L (q + 516) (cpuF L q b)) L q b g w e w' := by
  have hz := zero_cpu
  obtain ⟨W0, hW0, r0, r1, b0, s0⟩ := start2 w (cpc cz) (cpc cz) 31 31
  have hgl : g < w.heap.size := h.lt
  have HP0 := Hid.mk' (h.later b0.out)
  have HX0 : Hid (Exc (· = g) w W0) := Exc.of_below b0.out rfl
  obtain ⟨K0, hK0⟩ : ∃ K0 : Cp, K0 = cz := ⟨_, rfl⟩
  go_enter Try.func57, Try.ntmps57
  go_upto_region 2 with fail
  obtain ⟨g0, hg0⟩ : ∃ g0, g0 = w.heap.size := ⟨_, rfl⟩
  obtain ⟨g1, hg1⟩ : ∃ g1, g1 = w.heap.size + 1 := ⟨_, rfl⟩
  have hne : g1 ≠ g := by omega
  have hn0 : g0 ≠ g := by omega
  have hB1 : B ≤ g1 := by have := h.bg; omega
  have hBg : B ≤ w.heap.size := by have := h.bg; omega
  have hw1 : w.heap.size ≤ g1 := by omega
  have h01 : g0 < g1 := by omega
  rw [← hg0] at r0
  rw [← hg1] at r1
  have HZ0 := Hid.mk' r0.out
  have HR0 := Hid.mk' r1.out
  rw [← hK0] at HR0
  have HK0 := Hid.mk' hK0
  have HG0 := Hid.mk' hg0
  rw [← hg1, ← hg0]
  have HALL := Hid.mk' hall
  clear hz hW0 r0 r1 b0 s0 h hgl hK0 hg0 hg1 hall
  go_upto_region 3 with (go_at_call 71; refine (double_c HP0.out).mono ?_; rintro e V1 ⟨N1, rfl, h1, h2, h3, h4⟩; have HN1 := Hid.mk' h1; have HV1 := Hid.mk' h2; have HQ1 := Hid.mk' h3; have HG1 := Hid.mk' h4; clear h1 h2 h3 h4; have hN1 : ((N1 : Nat) : Int) < 18446744073709551616 := (by have := HN1.out; omega); unfold u64V; have HS1 : Hid (Row V1 g1 (cpc K0) 31) := (HG1.out.block g1 HR0.out.lt hne).trans HR0.out; have cS := (HS1.out.cell 0).trans (cpc_at K0 0 (by decide)); have fS := HS1.out.froz 0)
  clear cS fS
  obtain ⟨K1, hK1⟩ : ∃ K1 : Cp, K1 = { K0 with pc := w64 N1 } := ⟨_, rfl⟩
  refine on_W (motive := fun W => Code.wp _ _ _ _ W) (Q := fun W => Row W g1 (cpc K1) 31 ∧ Row W g0 (cpc cz) 31 ∧ Prd B W g L (q + 8) b ∧ Exc (· = g) w W)
    ⟨by have r := HS1.out.put (i := 0) (.int .u64 ((N1 : Nat) : Int)); have e : (cpc K0).setIfInBounds 0 (.int .u64 ((N1 : Nat) : Int)) = cpc K1 := (by rw [w64_int (by omega), cpc_pc, ← hK1]); rw [e] at r; exact r, Row.other (show Row _ g0 (cpc cz) 31 from (HG1.out.block g0 HZ0.out.lt hn0).trans HZ0.out) (by omega) _, HQ1.out.put (Ne.symm hne) hB1 _, (HX0.out.trans HG1.out).put hw1 _⟩ ?_
  rintro W1 ⟨p1, p2, p3, p4⟩
  have HR1 := Hid.mk' p1
  have HZ1 := Hid.mk' p2
  have HP1 := Hid.mk' p3
  have HX1 := Hid.mk' p4
  have HK1 := Hid.mk' hK1
  clear p1 p2 p3 p4 hK1 HS1 HQ1 HG1 HR0 HZ0 HP0 HX0
  go_wp2
  go_loopw [9] (fun i wr => ∃ (j : Nat) (X : Nat → BitVec 64), j ≤ 32 ∧ i = .int .i64 j ∧ Hid (∀ i, i < j → bd b L (q + 8 + 8 * (i + 1)) = false → X i = w64 (nv L (q + 8 + 8 * i) 8)) ∧ Hid (Row wr g1 (cpc { K1 with x := X }) 31) ∧ Hid (Row wr g0 (cpc cz) 31) ∧ Hid (Prd B wr g L (q + 8 + 8 * j) b) ∧ Hid (Exc (· = g) w wr)) (fun i _ => 32 - (intOf i).toNat)
  case atStart => exact ⟨0, K1.x, Nat.zero_le _, rfl, (fun i hi => by omega), HR1, HZ1, HP1, HX1⟩
  case round =>
  obtain ⟨j, X, hj, rfl, HXF, rr, rz, rp, rx⟩ := hrel
  clear HR1 HZ1 HP1 HX1
  by_cases hlt : j < 32
  · have hlt2 : (j : Int) < 32 := by omega
    go_wp2_with (go_at_call 71; refine (double_c rp.out).mono ?_; rintro e V5 ⟨N5, rfl, h1, h2, h3, h4⟩; have HN5 := Hid.mk' h1; have HV5 := Hid.mk' h2; have HQ5 := Hid.mk' h3; have HG5 := Hid.mk' h4; clear h1 h2 h3 h4; have hN5 : ((N5 : Nat) : Int) < 18446744073709551616 := (by have := HN5.out; omega); unfold u64V; have HS5 := Hid.mk' ((HG5.out.block g1 rr.out.lt hne).trans rr.out); have cS := (Row.cell HS5.out (1 + j)).trans (cpc_at _ (1 + j) (by omega)); have fS := Row.froz HS5.out (1 + j))
    go_roundw
    case rel =>
      refine ⟨j + 1, upd X j (w64 N5), by omega, by go_num, (fun i hi hbd => ?_), ?_, Row.other (show Row _ g0 (cpc cz) 31 from (HG5.out.block g0 rz.out.lt hn0).trans rz.out) (by omega) _, ?_, (rx.out.trans HG5.out).put hw1 _⟩
      · by_cases e : i = j
        · subst e
          simp only [upd, if_true]
          rw [HV5.out (by rw [show q + 8 + 8 * i + 8 = q + 8 + 8 * (i + 1) by omega]; exact hbd)]
        · simp only [upd, if_neg e]
          exact HXF.out i (by omega) hbd
      · have r := Row.put (i := 1 + j) HS5.out (.int .u64 ((N5 : Nat) : Int))
        have e : (cpc { K1 with x := X }).setIfInBounds (1 + j) (.int .u64 ((N5 : Nat) : Int)) = cpc { K1 with x := upd X j (w64 N5) } := by
          rw [w64_int (by omega), cpc_x _ _ hlt]
        rw [e] at r
        exact r
      · have p := HQ5.out.put (j := 1 + j) (Ne.symm hne) hB1 (.int .u64 ((N5 : Nat) : Int))
        rw [show q + 8 + 8 * j + 8 = q + 8 + 8 * (j + 1) by omega] at p
        exact p
    case measure => simp [intOf]; omega
  have hjn : j = 32 := by omega
  subst hjn
  rw [show ((32 : Nat) : Int) = (32 : Int) from rfl]
  obtain ⟨K2, hK2⟩ : ∃ K2 : Cp, K2 = { K1 with x := X } := ⟨_, rfl⟩
  have HXF2 := Hid.mk' HXF.out
  have HR2 := Hid.mk' rr.out
  have HZ2 := Hid.mk' rz.out
  have HP2 : Hid (Prd B wr g L (q + 264) b) := rp.out
  have HX2 := Hid.mk' rx.out
  rw [← hK2] at HR2
  have HK2 := Hid.mk' hK2
  obtain ⟨X2, hX2⟩ : ∃ X2, X2 = X := ⟨_, rfl⟩
  rw [← hX2] at HK2 HXF2
  obtain ⟨W2, hW2⟩ : ∃ W, W = wr := ⟨_, rfl⟩
  rw [← hW2] at HR2 HZ2 HP2 HX2 ⊢
  clear hK2 HXF rr rz rp rx hlt hj hX2 hW2
  go_upto_region 8 with fail
  go_upto_region 9 with (go_at_call 72; refine (single_c HP2.out).mono ?_; rintro e V3 ⟨N3, rfl, h1, h2, h3, h4⟩; have HN3 := Hid.mk' h1; have HV3 := Hid.mk' h2; have HQ3 := Hid.mk' h3; have HG3 := Hid.mk' h4; clear h1 h2 h3 h4; have hN3 : ((N3 : Nat) : Int) < 256 := (by have := HN3.out; omega); unfold u8V; have HS3 : Hid (Row V3 g1 (cpc K2) 31) := (HG3.out.block g1 HR2.out.lt hne).trans HR2.out; have cS := (HS3.out.cell 33).trans (cpc_at K2 33 (by decide)); have fS := HS3.out.froz 33)
  clear cS fS
  obtain ⟨K3, hK3⟩ : ∃ K3 : Cp, K3 = { K2 with md := (N3 : Nat) } := ⟨_, rfl⟩
  refine on_W (motive := fun W => Code.wp _ _ _ _ W) (Q := fun W => Row W g1 (cpc K3) 31 ∧ Row W g0 (cpc cz) 31 ∧ Prd B W g L (q + 265) b ∧ Exc (· = g) w W)
    ⟨by have r := HS3.out.put (i := 33) (.int .i64 ((N3 : Nat) : Int)); have e : (cpc K2).setIfInBounds 33 (.int .i64 ((N3 : Nat) : Int)) = cpc K3 := (by rw [cpc_md, ← hK3]); rw [e] at r; exact r, Row.other (show Row _ g0 (cpc cz) 31 from (HG3.out.block g0 HZ2.out.lt hn0).trans HZ2.out) (by omega) _, HQ3.out.put (Ne.symm hne) hB1 _, (HX2.out.trans HG3.out).put hw1 _⟩ ?_
  rintro W3 ⟨p1, p2, p3, p4⟩
  have HR3 := Hid.mk' p1
  have HZ3 := Hid.mk' p2
  have HP3 := Hid.mk' p3
  have HX3 := Hid.mk' p4
  have HK3 := Hid.mk' hK3
  clear p1 p2 p3 p4 hK3 HS3 HQ3 HG3 HR2 HZ2 HP2 HX2
  go_upto_region 10 with (go_at_call 73; refine (pflag_c HP3.out).mono ?_; rintro e V4 ⟨f4, rfl, h2, h3, h4⟩; have HV4 := Hid.mk' h2; have HQ4 := Hid.mk' h3; have HG4 := Hid.mk' h4; clear h2 h3 h4; have HS4 : Hid (Row V4 g1 (cpc K3) 31) := (HG4.out.block g1 HR3.out.lt hne).trans HR3.out; have cS := (HS4.out.cell 34).trans (cpc_at K3 34 (by decide)); have fS := HS4.out.froz 34)
  clear cS fS
  obtain ⟨K4, hK4⟩ : ∃ K4 : Cp, K4 = { K3 with wt := f4 } := ⟨_, rfl⟩
  refine on_W (motive := fun W => Code.wp _ _ _ _ W) (Q := fun W => Row W g1 (cpc K4) 31 ∧ Row W g0 (cpc cz) 31 ∧ Prd B W g L (q + 266) (b || decide (1 < nv L (q + 265) 1)) ∧ Exc (· = g) w W)
    ⟨by have r := HS4.out.put (i := 34) (.bool f4); have e : (cpc K3).setIfInBounds 34 (.bool f4) = cpc K4 := (by rw [cpc_wt, ← hK4]); rw [e] at r; exact r, Row.other (show Row _ g0 (cpc cz) 31 from (HG4.out.block g0 HZ3.out.lt hn0).trans HZ3.out) (by omega) _, HQ4.out.put (Ne.symm hne) hB1 _, (HX3.out.trans HG4.out).put hw1 _⟩ ?_
  rintro W4 ⟨p1, p2, p3, p4⟩
  have HR4 := Hid.mk' p1
  have HZ4 := Hid.mk' p2
  have HP4 := Hid.mk' p3
  have HX4 := Hid.mk' p4
  have HK4 := Hid.mk' hK4
  clear p1 p2 p3 p4 hK4 HS4 HQ4 HG4 HR3 HZ3 HP3 HX3
  go_upto_region 11 with (go_at_call 71; refine (double_c HP4.out).mono ?_; rintro e V5 ⟨N5, rfl, h1, h2, h3, h4⟩; have HN5 := Hid.mk' h1; have HV5 := Hid.mk' h2; have HQ5 := Hid.mk' h3; have HG5 := Hid.mk' h4; clear h1 h2 h3 h4; have hN5 : ((N5 : Nat) : Int) < 18446744073709551616 := (by have := HN5.out; omega); unfold u64V; have HS5 : Hid (Row V5 g1 (cpc K4) 31) := (HG5.out.block g1 HR4.out.lt hne).trans HR4.out; have cS := (HS5.out.cell 35).trans (cpc_at K4 35 (by decide)); have fS := HS5.out.froz 35)
  clear cS fS
  obtain ⟨K5, hK5⟩ : ∃ K5 : Cp, K5 = { K4 with s := upd K4.s 0 (w64 N5) } := ⟨_, rfl⟩
  refine on_W (motive := fun W => Code.wp _ _ _ _ W) (Q := fun W => Row W g1 (cpc K5) 31 ∧ Row W g0 (cpc cz) 31 ∧ Prd B W g L (q + 274) (b || decide (1 < nv L (q + 265) 1)) ∧ Exc (· = g) w W)
    ⟨by have r := HS5.out.put (i := 35) (.int .u64 ((N5 : Nat) : Int)); have e : (cpc K4).setIfInBounds 35 (.int .u64 ((N5 : Nat) : Int)) = cpc K5 := (by rw [w64_int (by omega), show (35 : Nat) = 35 + 0 from rfl, cpc_s _ 0 (by decide), ← hK5]); rw [e] at r; exact r, Row.other (show Row _ g0 (cpc cz) 31 from (HG5.out.block g0 HZ4.out.lt hn0).trans HZ4.out) (by omega) _, HQ5.out.put (Ne.symm hne) hB1 _, (HX4.out.trans HG5.out).put hw1 _⟩ ?_
  rintro W5 ⟨p1, p2, p3, p4⟩
  have HR5 := Hid.mk' p1
  have HZ5 := Hid.mk' p2
  have HP5 := Hid.mk' p3
  have HX5 := Hid.mk' p4
  have HK5 := Hid.mk' hK5
  clear p1 p2 p3 p4 hK5 HS5 HQ5 HG5 HR4 HZ4 HP4 HX4
  go_upto_region 12 with (go_at_call 71; refine (double_c HP5.out).mono ?_; rintro e V6 ⟨N6, rfl, h1, h2, h3, h4⟩; have HN6 := Hid.mk' h1; have HV6 := Hid.mk' h2; have HQ6 := Hid.mk' h3; have HG6 := Hid.mk' h4; clear h1 h2 h3 h4; have hN6 : ((N6 : Nat) : Int) < 18446744073709551616 := (by have := HN6.out; omega); unfold u64V; have HS6 : Hid (Row V6 g1 (cpc K5) 31) := (HG6.out.block g1 HR5.out.lt hne).trans HR5.out; have cS := (HS6.out.cell 36).trans (cpc_at K5 36 (by decide)); have fS := HS6.out.froz 36)
  clear cS fS
  obtain ⟨K6, hK6⟩ : ∃ K6 : Cp, K6 = { K5 with s := upd K5.s 1 (w64 N6) } := ⟨_, rfl⟩
  refine on_W (motive := fun W => Code.wp _ _ _ _ W) (Q := fun W => Row W g1 (cpc K6) 31 ∧ Row W g0 (cpc cz) 31 ∧ Prd B W g L (q + 282) (b || decide (1 < nv L (q + 265) 1)) ∧ Exc (· = g) w W)
    ⟨by have r := HS6.out.put (i := 36) (.int .u64 ((N6 : Nat) : Int)); have e : (cpc K5).setIfInBounds 36 (.int .u64 ((N6 : Nat) : Int)) = cpc K6 := (by rw [w64_int (by omega), show (36 : Nat) = 35 + 1 from rfl, cpc_s _ 1 (by decide), ← hK6]); rw [e] at r; exact r, Row.other (show Row _ g0 (cpc cz) 31 from (HG6.out.block g0 HZ5.out.lt hn0).trans HZ5.out) (by omega) _, HQ6.out.put (Ne.symm hne) hB1 _, (HX5.out.trans HG6.out).put hw1 _⟩ ?_
  rintro W6 ⟨p1, p2, p3, p4⟩
  have HR6 := Hid.mk' p1
  have HZ6 := Hid.mk' p2
  have HP6 := Hid.mk' p3
  have HX6 := Hid.mk' p4
  have HK6 := Hid.mk' hK6
  clear p1 p2 p3 p4 hK6 HS6 HQ6 HG6 HR5 HZ5 HP5 HX5
  go_upto_region 13 with (go_at_call 71; refine (double_c HP6.out).mono ?_; rintro e V7 ⟨N7, rfl, h1, h2, h3, h4⟩; have HN7 := Hid.mk' h1; have HV7 := Hid.mk' h2; have HQ7 := Hid.mk' h3; have HG7 := Hid.mk' h4; clear h1 h2 h3 h4; have hN7 : ((N7 : Nat) : Int) < 18446744073709551616 := (by have := HN7.out; omega); unfold u64V; have HS7 : Hid (Row V7 g1 (cpc K6) 31) := (HG7.out.block g1 HR6.out.lt hne).trans HR6.out; have cS := (HS7.out.cell 37).trans (cpc_at K6 37 (by decide)); have fS := HS7.out.froz 37)
  clear cS fS
  obtain ⟨K7, hK7⟩ : ∃ K7 : Cp, K7 = { K6 with s := upd K6.s 2 (w64 N7) } := ⟨_, rfl⟩
  refine on_W (motive := fun W => Code.wp _ _ _ _ W) (Q := fun W => Row W g1 (cpc K7) 31 ∧ Row W g0 (cpc cz) 31 ∧ Prd B W g L (q + 290) (b || decide (1 < nv L (q + 265) 1)) ∧ Exc (· = g) w W)
    ⟨by have r := HS7.out.put (i := 37) (.int .u64 ((N7 : Nat) : Int)); have e : (cpc K6).setIfInBounds 37 (.int .u64 ((N7 : Nat) : Int)) = cpc K7 := (by rw [w64_int (by omega), show (37 : Nat) = 35 + 2 from rfl, cpc_s _ 2 (by decide), ← hK7]); rw [e] at r; exact r, Row.other (show Row _ g0 (cpc cz) 31 from (HG7.out.block g0 HZ6.out.lt hn0).trans HZ6.out) (by omega) _, HQ7.out.put (Ne.symm hne) hB1 _, (HX6.out.trans HG7.out).put hw1 _⟩ ?_
  rintro W7 ⟨p1, p2, p3, p4⟩
  have HR7 := Hid.mk' p1
  have HZ7 := Hid.mk' p2
  have HP7 := Hid.mk' p3
  have HX7 := Hid.mk' p4
  have HK7 := Hid.mk' hK7
  clear p1 p2 p3 p4 hK7 HS7 HQ7 HG7 HR6 HZ6 HP6 HX6
  go_upto_region 14 with (go_at_call 71; refine (double_c HP7.out).mono ?_; rintro e V8 ⟨N8, rfl, h1, h2, h3, h4⟩; have HN8 := Hid.mk' h1; have HV8 := Hid.mk' h2; have HQ8 := Hid.mk' h3; have HG8 := Hid.mk' h4; clear h1 h2 h3 h4; have hN8 : ((N8 : Nat) : Int) < 18446744073709551616 := (by have := HN8.out; omega); unfold u64V; have HS8 : Hid (Row V8 g1 (cpc K7) 31) := (HG8.out.block g1 HR7.out.lt hne).trans HR7.out; have cS := (HS8.out.cell 38).trans (cpc_at K7 38 (by decide)); have fS := HS8.out.froz 38)
  clear cS fS
  obtain ⟨K8, hK8⟩ : ∃ K8 : Cp, K8 = { K7 with s := upd K7.s 3 (w64 N8) } := ⟨_, rfl⟩
  refine on_W (motive := fun W => Code.wp _ _ _ _ W) (Q := fun W => Row W g1 (cpc K8) 31 ∧ Row W g0 (cpc cz) 31 ∧ Prd B W g L (q + 298) (b || decide (1 < nv L (q + 265) 1)) ∧ Exc (· = g) w W)
    ⟨by have r := HS8.out.put (i := 38) (.int .u64 ((N8 : Nat) : Int)); have e : (cpc K7).setIfInBounds 38 (.int .u64 ((N8 : Nat) : Int)) = cpc K8 := (by rw [w64_int (by omega), show (38 : Nat) = 35 + 3 from rfl, cpc_s _ 3 (by decide), ← hK8]); rw [e] at r; exact r, Row.other (show Row _ g0 (cpc cz) 31 from (HG8.out.block g0 HZ7.out.lt hn0).trans HZ7.out) (by omega) _, HQ8.out.put (Ne.symm hne) hB1 _, (HX7.out.trans HG8.out).put hw1 _⟩ ?_
  rintro W8 ⟨p1, p2, p3, p4⟩
  have HR8 := Hid.mk' p1
  have HZ8 := Hid.mk' p2
  have HP8 := Hid.mk' p3
  have HX8 := Hid.mk' p4
  have HK8 := Hid.mk' hK8
  clear p1 p2 p3 p4 hK8 HS8 HQ8 HG8 HR7 HZ7 HP7 HX7
  go_upto_region 15 with (go_at_call 71; refine (double_c HP8.out).mono ?_; rintro e V9 ⟨N9, rfl, h1, h2, h3, h4⟩; have HN9 := Hid.mk' h1; have HV9 := Hid.mk' h2; have HQ9 := Hid.mk' h3; have HG9 := Hid.mk' h4; clear h1 h2 h3 h4; have hN9 : ((N9 : Nat) : Int) < 18446744073709551616 := (by have := HN9.out; omega); unfold u64V; have HS9 : Hid (Row V9 g1 (cpc K8) 31) := (HG9.out.block g1 HR8.out.lt hne).trans HR8.out; have cS := (HS9.out.cell 39).trans (cpc_at K8 39 (by decide)); have fS := HS9.out.froz 39)
  clear cS fS
  obtain ⟨K9, hK9⟩ : ∃ K9 : Cp, K9 = { K8 with s := upd K8.s 4 (w64 N9) } := ⟨_, rfl⟩
  refine on_W (motive := fun W => Code.wp _ _ _ _ W) (Q := fun W => Row W g1 (cpc K9) 31 ∧ Row W g0 (cpc cz) 31 ∧ Prd B W g L (q + 306) (b || decide (1 < nv L (q + 265) 1)) ∧ Exc (· = g) w W)
    ⟨by have r := HS9.out.put (i := 39) (.int .u64 ((N9 : Nat) : Int)); have e : (cpc K8).setIfInBounds 39 (.int .u64 ((N9 : Nat) : Int)) = cpc K9 := (by rw [w64_int (by omega), show (39 : Nat) = 35 + 4 from rfl, cpc_s _ 4 (by decide), ← hK9]); rw [e] at r; exact r, Row.other (show Row _ g0 (cpc cz) 31 from (HG9.out.block g0 HZ8.out.lt hn0).trans HZ8.out) (by omega) _, HQ9.out.put (Ne.symm hne) hB1 _, (HX8.out.trans HG9.out).put hw1 _⟩ ?_
  rintro W9 ⟨p1, p2, p3, p4⟩
  have HR9 := Hid.mk' p1
  have HZ9 := Hid.mk' p2
  have HP9 := Hid.mk' p3
  have HX9 := Hid.mk' p4
  have HK9 := Hid.mk' hK9
  clear p1 p2 p3 p4 hK9 HS9 HQ9 HG9 HR8 HZ8 HP8 HX8
  go_upto_region 16 with (go_at_call 71; refine (double_c HP9.out).mono ?_; rintro e V10 ⟨N10, rfl, h1, h2, h3, h4⟩; have HN10 := Hid.mk' h1; have HV10 := Hid.mk' h2; have HQ10 := Hid.mk' h3; have HG10 := Hid.mk' h4; clear h1 h2 h3 h4; have hN10 : ((N10 : Nat) : Int) < 18446744073709551616 := (by have := HN10.out; omega); unfold u64V; have HS10 : Hid (Row V10 g1 (cpc K9) 31) := (HG10.out.block g1 HR9.out.lt hne).trans HR9.out; have cS := (HS10.out.cell 40).trans (cpc_at K9 40 (by decide)); have fS := HS10.out.froz 40)
  clear cS fS
  obtain ⟨K10, hK10⟩ : ∃ K10 : Cp, K10 = { K9 with s := upd K9.s 5 (w64 N10) } := ⟨_, rfl⟩
  refine on_W (motive := fun W => Code.wp _ _ _ _ W) (Q := fun W => Row W g1 (cpc K10) 31 ∧ Row W g0 (cpc cz) 31 ∧ Prd B W g L (q + 314) (b || decide (1 < nv L (q + 265) 1)) ∧ Exc (· = g) w W)
    ⟨by have r := HS10.out.put (i := 40) (.int .u64 ((N10 : Nat) : Int)); have e : (cpc K9).setIfInBounds 40 (.int .u64 ((N10 : Nat) : Int)) = cpc K10 := (by rw [w64_int (by omega), show (40 : Nat) = 35 + 5 from rfl, cpc_s _ 5 (by decide), ← hK10]); rw [e] at r; exact r, Row.other (show Row _ g0 (cpc cz) 31 from (HG10.out.block g0 HZ9.out.lt hn0).trans HZ9.out) (by omega) _, HQ10.out.put (Ne.symm hne) hB1 _, (HX9.out.trans HG10.out).put hw1 _⟩ ?_
  rintro W10 ⟨p1, p2, p3, p4⟩
  have HR10 := Hid.mk' p1
  have HZ10 := Hid.mk' p2
  have HP10 := Hid.mk' p3
  have HX10 := Hid.mk' p4
  have HK10 := Hid.mk' hK10
  clear p1 p2 p3 p4 hK10 HS10 HQ10 HG10 HR9 HZ9 HP9 HX9
  go_upto_region 17 with (go_at_call 71; refine (double_c HP10.out).mono ?_; rintro e V11 ⟨N11, rfl, h1, h2, h3, h4⟩; have HN11 := Hid.mk' h1; have HV11 := Hid.mk' h2; have HQ11 := Hid.mk' h3; have HG11 := Hid.mk' h4; clear h1 h2 h3 h4; have hN11 : ((N11 : Nat) : Int) < 18446744073709551616 := (by have := HN11.out; omega); unfold u64V; have HS11 : Hid (Row V11 g1 (cpc K10) 31) := (HG11.out.block g1 HR10.out.lt hne).trans HR10.out; have cS := (HS11.out.cell 41).trans (cpc_at K10 41 (by decide)); have fS := HS11.out.froz 41)
  clear cS fS
  obtain ⟨K11, hK11⟩ : ∃ K11 : Cp, K11 = { K10 with s := upd K10.s 6 (w64 N11) } := ⟨_, rfl⟩
  refine on_W (motive := fun W => Code.wp _ _ _ _ W) (Q := fun W => Row W g1 (cpc K11) 31 ∧ Row W g0 (cpc cz) 31 ∧ Prd B W g L (q + 322) (b || decide (1 < nv L (q + 265) 1)) ∧ Exc (· = g) w W)
    ⟨by have r := HS11.out.put (i := 41) (.int .u64 ((N11 : Nat) : Int)); have e : (cpc K10).setIfInBounds 41 (.int .u64 ((N11 : Nat) : Int)) = cpc K11 := (by rw [w64_int (by omega), show (41 : Nat) = 35 + 6 from rfl, cpc_s _ 6 (by decide), ← hK11]); rw [e] at r; exact r, Row.other (show Row _ g0 (cpc cz) 31 from (HG11.out.block g0 HZ10.out.lt hn0).trans HZ10.out) (by omega) _, HQ11.out.put (Ne.symm hne) hB1 _, (HX10.out.trans HG11.out).put hw1 _⟩ ?_
  rintro W11 ⟨p1, p2, p3, p4⟩
  have HR11 := Hid.mk' p1
  have HZ11 := Hid.mk' p2
  have HP11 := Hid.mk' p3
  have HX11 := Hid.mk' p4
  have HK11 := Hid.mk' hK11
  clear p1 p2 p3 p4 hK11 HS11 HQ11 HG11 HR10 HZ10 HP10 HX10
  go_upto_region 18 with (go_at_call 71; refine (double_c HP11.out).mono ?_; rintro e V12 ⟨N12, rfl, h1, h2, h3, h4⟩; have HN12 := Hid.mk' h1; have HV12 := Hid.mk' h2; have HQ12 := Hid.mk' h3; have HG12 := Hid.mk' h4; clear h1 h2 h3 h4; have hN12 : ((N12 : Nat) : Int) < 18446744073709551616 := (by have := HN12.out; omega); unfold u64V; have HS12 : Hid (Row V12 g1 (cpc K11) 31) := (HG12.out.block g1 HR11.out.lt hne).trans HR11.out; have cS := (HS12.out.cell 42).trans (cpc_at K11 42 (by decide)); have fS := HS12.out.froz 42)
  clear cS fS
  obtain ⟨K12, hK12⟩ : ∃ K12 : Cp, K12 = { K11 with s := upd K11.s 7 (w64 N12) } := ⟨_, rfl⟩
  refine on_W (motive := fun W => Code.wp _ _ _ _ W) (Q := fun W => Row W g1 (cpc K12) 31 ∧ Row W g0 (cpc cz) 31 ∧ Prd B W g L (q + 330) (b || decide (1 < nv L (q + 265) 1)) ∧ Exc (· = g) w W)
    ⟨by have r := HS12.out.put (i := 42) (.int .u64 ((N12 : Nat) : Int)); have e : (cpc K11).setIfInBounds 42 (.int .u64 ((N12 : Nat) : Int)) = cpc K12 := (by rw [w64_int (by omega), show (42 : Nat) = 35 + 7 from rfl, cpc_s _ 7 (by decide), ← hK12]); rw [e] at r; exact r, Row.other (show Row _ g0 (cpc cz) 31 from (HG12.out.block g0 HZ11.out.lt hn0).trans HZ11.out) (by omega) _, HQ12.out.put (Ne.symm hne) hB1 _, (HX11.out.trans HG12.out).put hw1 _⟩ ?_
  rintro W12 ⟨p1, p2, p3, p4⟩
  have HR12 := Hid.mk' p1
  have HZ12 := Hid.mk' p2
  have HP12 := Hid.mk' p3
  have HX12 := Hid.mk' p4
  have HK12 := Hid.mk' hK12
  clear p1 p2 p3 p4 hK12 HS12 HQ12 HG12 HR11 HZ11 HP11 HX11
  go_upto_region 19 with (go_at_call 71; refine (double_c HP12.out).mono ?_; rintro e V13 ⟨N13, rfl, h1, h2, h3, h4⟩; have HN13 := Hid.mk' h1; have HV13 := Hid.mk' h2; have HQ13 := Hid.mk' h3; have HG13 := Hid.mk' h4; clear h1 h2 h3 h4; have hN13 : ((N13 : Nat) : Int) < 18446744073709551616 := (by have := HN13.out; omega); unfold u64V; have HS13 : Hid (Row V13 g1 (cpc K12) 31) := (HG13.out.block g1 HR12.out.lt hne).trans HR12.out; have cS := (HS13.out.cell 43).trans (cpc_at K12 43 (by decide)); have fS := HS13.out.froz 43)
  clear cS fS
  obtain ⟨K13, hK13⟩ : ∃ K13 : Cp, K13 = { K12 with s := upd K12.s 8 (w64 N13) } := ⟨_, rfl⟩
  refine on_W (motive := fun W => Code.wp _ _ _ _ W) (Q := fun W => Row W g1 (cpc K13) 31 ∧ Row W g0 (cpc cz) 31 ∧ Prd B W g L (q + 338) (b || decide (1 < nv L (q + 265) 1)) ∧ Exc (· = g) w W)
    ⟨by have r := HS13.out.put (i := 43) (.int .u64 ((N13 : Nat) : Int)); have e : (cpc K12).setIfInBounds 43 (.int .u64 ((N13 : Nat) : Int)) = cpc K13 := (by rw [w64_int (by omega), show (43 : Nat) = 35 + 8 from rfl, cpc_s _ 8 (by decide), ← hK13]); rw [e] at r; exact r, Row.other (show Row _ g0 (cpc cz) 31 from (HG13.out.block g0 HZ12.out.lt hn0).trans HZ12.out) (by omega) _, HQ13.out.put (Ne.symm hne) hB1 _, (HX12.out.trans HG13.out).put hw1 _⟩ ?_
  rintro W13 ⟨p1, p2, p3, p4⟩
  have HR13 := Hid.mk' p1
  have HZ13 := Hid.mk' p2
  have HP13 := Hid.mk' p3
  have HX13 := Hid.mk' p4
  have HK13 := Hid.mk' hK13
  clear p1 p2 p3 p4 hK13 HS13 HQ13 HG13 HR12 HZ12 HP12 HX12
  go_upto_region 20 with (go_at_call 71; refine (double_c HP13.out).mono ?_; rintro e V14 ⟨N14, rfl, h1, h2, h3, h4⟩; have HN14 := Hid.mk' h1; have HV14 := Hid.mk' h2; have HQ14 := Hid.mk' h3; have HG14 := Hid.mk' h4; clear h1 h2 h3 h4; have hN14 : ((N14 : Nat) : Int) < 18446744073709551616 := (by have := HN14.out; omega); unfold u64V; have HS14 : Hid (Row V14 g1 (cpc K13) 31) := (HG14.out.block g1 HR13.out.lt hne).trans HR13.out; have cS := (HS14.out.cell 44).trans (cpc_at K13 44 (by decide)); have fS := HS14.out.froz 44)
  clear cS fS
  obtain ⟨K14, hK14⟩ : ∃ K14 : Cp, K14 = { K13 with s := upd K13.s 9 (w64 N14) } := ⟨_, rfl⟩
  refine on_W (motive := fun W => Code.wp _ _ _ _ W) (Q := fun W => Row W g1 (cpc K14) 31 ∧ Row W g0 (cpc cz) 31 ∧ Prd B W g L (q + 346) (b || decide (1 < nv L (q + 265) 1)) ∧ Exc (· = g) w W)
    ⟨by have r := HS14.out.put (i := 44) (.int .u64 ((N14 : Nat) : Int)); have e : (cpc K13).setIfInBounds 44 (.int .u64 ((N14 : Nat) : Int)) = cpc K14 := (by rw [w64_int (by omega), show (44 : Nat) = 35 + 9 from rfl, cpc_s _ 9 (by decide), ← hK14]); rw [e] at r; exact r, Row.other (show Row _ g0 (cpc cz) 31 from (HG14.out.block g0 HZ13.out.lt hn0).trans HZ13.out) (by omega) _, HQ14.out.put (Ne.symm hne) hB1 _, (HX13.out.trans HG14.out).put hw1 _⟩ ?_
  rintro W14 ⟨p1, p2, p3, p4⟩
  have HR14 := Hid.mk' p1
  have HZ14 := Hid.mk' p2
  have HP14 := Hid.mk' p3
  have HX14 := Hid.mk' p4
  have HK14 := Hid.mk' hK14
  clear p1 p2 p3 p4 hK14 HS14 HQ14 HG14 HR13 HZ13 HP13 HX13
  go_upto_region 21 with (go_at_call 71; refine (double_c HP14.out).mono ?_; rintro e V15 ⟨N15, rfl, h1, h2, h3, h4⟩; have HN15 := Hid.mk' h1; have HV15 := Hid.mk' h2; have HQ15 := Hid.mk' h3; have HG15 := Hid.mk' h4; clear h1 h2 h3 h4; have hN15 : ((N15 : Nat) : Int) < 18446744073709551616 := (by have := HN15.out; omega); unfold u64V; have HS15 : Hid (Row V15 g1 (cpc K14) 31) := (HG15.out.block g1 HR14.out.lt hne).trans HR14.out; have cS := (HS15.out.cell 45).trans (cpc_at K14 45 (by decide)); have fS := HS15.out.froz 45)
  clear cS fS
  obtain ⟨K15, hK15⟩ : ∃ K15 : Cp, K15 = { K14 with s := upd K14.s 10 (w64 N15) } := ⟨_, rfl⟩
  refine on_W (motive := fun W => Code.wp _ _ _ _ W) (Q := fun W => Row W g1 (cpc K15) 31 ∧ Row W g0 (cpc cz) 31 ∧ Prd B W g L (q + 354) (b || decide (1 < nv L (q + 265) 1)) ∧ Exc (· = g) w W)
    ⟨by have r := HS15.out.put (i := 45) (.int .u64 ((N15 : Nat) : Int)); have e : (cpc K14).setIfInBounds 45 (.int .u64 ((N15 : Nat) : Int)) = cpc K15 := (by rw [w64_int (by omega), show (45 : Nat) = 35 + 10 from rfl, cpc_s _ 10 (by decide), ← hK15]); rw [e] at r; exact r, Row.other (show Row _ g0 (cpc cz) 31 from (HG15.out.block g0 HZ14.out.lt hn0).trans HZ14.out) (by omega) _, HQ15.out.put (Ne.symm hne) hB1 _, (HX14.out.trans HG15.out).put hw1 _⟩ ?_
  rintro W15 ⟨p1, p2, p3, p4⟩
  have HR15 := Hid.mk' p1
  have HZ15 := Hid.mk' p2
  have HP15 := Hid.mk' p3
  have HX15 := Hid.mk' p4
  have HK15 := Hid.mk' hK15
  clear p1 p2 p3 p4 hK15 HS15 HQ15 HG15 HR14 HZ14 HP14 HX14
  go_upto_region 22 with (go_at_call 71; refine (double_c HP15.out).mono ?_; rintro e V16 ⟨N16, rfl, h1, h2, h3, h4⟩; have HN16 := Hid.mk' h1; have HV16 := Hid.mk' h2; have HQ16 := Hid.mk' h3; have HG16 := Hid.mk' h4; clear h1 h2 h3 h4; have hN16 : ((N16 : Nat) : Int) < 18446744073709551616 := (by have := HN16.out; omega); unfold u64V; have HS16 : Hid (Row V16 g1 (cpc K15) 31) := (HG16.out.block g1 HR15.out.lt hne).trans HR15.out; have cS := (HS16.out.cell 46).trans (cpc_at K15 46 (by decide)); have fS := HS16.out.froz 46)
  clear cS fS
  obtain ⟨K16, hK16⟩ : ∃ K16 : Cp, K16 = { K15 with s := upd K15.s 11 (w64 N16) } := ⟨_, rfl⟩
  refine on_W (motive := fun W => Code.wp _ _ _ _ W) (Q := fun W => Row W g1 (cpc K16) 31 ∧ Row W g0 (cpc cz) 31 ∧ Prd B W g L (q + 362) (b || decide (1 < nv L (q + 265) 1)) ∧ Exc (· = g) w W)
    ⟨by have r := HS16.out.put (i := 46) (.int .u64 ((N16 : Nat) : Int)); have e : (cpc K15).setIfInBounds 46 (.int .u64 ((N16 : Nat) : Int)) = cpc K16 := (by rw [w64_int (by omega), show (46 : Nat) = 35 + 11 from rfl, cpc_s _ 11 (by decide), ← hK16]); rw [e] at r; exact r, Row.other (show Row _ g0 (cpc cz) 31 from (HG16.out.block g0 HZ15.out.lt hn0).trans HZ15.out) (by omega) _, HQ16.out.put (Ne.symm hne) hB1 _, (HX15.out.trans HG16.out).put hw1 _⟩ ?_
  rintro W16 ⟨p1, p2, p3, p4⟩
  have HR16 := Hid.mk' p1
  have HZ16 := Hid.mk' p2
  have HP16 := Hid.mk' p3
  have HX16 := Hid.mk' p4
  have HK16 := Hid.mk' hK16
  clear p1 p2 p3 p4 hK16 HS16 HQ16 HG16 HR15 HZ15 HP15 HX15
  go_upto_region 22 with fail
  have HSC := Hid.mk' (sect_c (HP16.out.later (Below.refl _ _).drew) 16 (by omega))
  go_wp2
  rename_i hK
  refine wp_region_one (by kernel_rfl) 4 5 (fun i => ([[], [0], [1, 0], [], [3], [2, 4, 0, 1, 3]] : List (List Nat)).getD i []) (fun i => ([.pointer (some ⟨g1, 47, none⟩), .pointer (some ⟨g1, 47, none⟩), .slice (some ⟨g1, 47, none⟩) 16 16, .pointer (some ⟨g, 0, none⟩), .pointer (some ⟨g, 0, none⟩), .pointer (some ⟨g, 0, none⟩)] : List Value).getD i undef) (fun u w' => SecP B W16.drew g L (q + 362) (b || decide (1 < nv L (q + 265) 1)) 16 (.returned u) w') W16 _ (by kernel_rfl) (by decide) (by decide) (by decide) (by decide) ?_ ?_ (by decide) 74 #[.pointer (some ⟨g, 0, none⟩), .int .i64 ((16 : Nat) : Int)] ?_ ?_ ?_
  · exact hop_list ⟨⟨by simp, rfl⟩, ⟨by simp, rfl⟩, ⟨by simp, rfl⟩, ⟨by simp, rfl⟩, ⟨by simp, rfl⟩, ⟨by simp, rfl⟩, trivial⟩
  · refine hop_list ⟨fun _ _ a w9 h1 h3 _ => ?_, fun _ _ a w9 h1 h3 _ => ?_, fun _ _ a w9 h1 h3 _ => ?_, fun _ _ a w9 h1 h3 _ => ?_, fun h => absurd rfl h, fun _ h => absurd rfl h, trivial⟩
    · have q0 : a.eval (.tmp 3) = .pointer (some ⟨g1, 0, none⟩) := (h1 3 (by kernel_rfl)).trans rfl
      clear h1 h3
      generalize a.eval = ρ at *
      simp [execOp, q0, go_sem]
    · have q0 : a.eval (.tmp 61) = .pointer (some ⟨g1, 47, none⟩) := h3 0 (by decide) (by decide)
      clear h1 h3
      generalize a.eval = ρ at *
      simp [execOp, q0, go_sem]
    · have q0 : a.eval (.tmp 62) = .pointer (some ⟨g1, 47, none⟩) := h3 1 (by decide) (by decide)
      clear h1 h3
      generalize a.eval = ρ at *
      simp [execOp, q0, go_sem]
    · have q0 : a.eval (.tmp 0) = .pointer (some ⟨g, 0, none⟩) := (h1 0 (by kernel_rfl)).trans rfl
      clear h1 h3
      generalize a.eval = ρ at *
      simp [execOp, q0, go_sem]
  · intro o ho a h1 h3
    cases ho
    have q0 : a.eval (.tmp 64) = .pointer (some ⟨g, 0, none⟩) := h3 3 (by decide)
    have hcon : ∀ c, a.eval (.const c) = c := fun _ => rfl
    have hf : a.eval (.func 74) = .func (.func 74) #[] #[] := rfl
    clear h1 h3
    generalize a.eval = ρ at *
    simp [execOp, q0, hcon, hf, go_sem]
  · exact HSC.out.mono fun e w' ⟨u, M', he, hr⟩ => ⟨u, he, u, M', rfl, hr⟩
  intro o ho a w9 u h1 h3 hu hC
  cases ho
  have q0 : a.eval (.tmp 63) = .slice (some ⟨g1, 47, none⟩) 16 16 := h3 2 (by decide) (by decide) (by decide)
  have q1 : a.eval (.tmp 65) = u := hu
  obtain ⟨u', M', hue, hcut, hlen, hallM, hgood, hprd, hexc⟩ := hC
  cases hue
  have xr : Exc (· = g) W16 w9 := (Exc.of_below (Below.refl _ _).drew rfl).trans hexc
  have hrow : Row w9 g1 (cpc K16) 31 := (xr.block g1 HR16.out.lt hne).trans HR16.out
  have hz0 : Row w9 g0 (cpc cz) 31 := (xr.block g0 HZ16.out.lt hn0).trans HZ16.out
  have hcb := hcut.1
  obtain ⟨ao, cap, hu2, hcc, hc0, hcell⟩ := hcb
  obtain ⟨gs, offs, hao, hgs, hcells⟩ := hcell (by intro e; rw [e] at hlen; simp at hlen)
  subst hao
  have hbl : (bv M').length = 16 := by simp [bv, hlen]
  have hrun := Go.run_copy_row (P := Try.prog) w9 32 32 3 5 g1 47 16 16 ⟨gs, offs, none⟩ M'.length cap (cpc K16) 31 (bv M') Try.underlying32 (by kernel_rfl) hrow (by rw [hbl, hlen]; rfl) (fun j v hj => by
    have hjl : j < M'.length := by have := (List.getElem?_eq_some_iff.1 hj).1; rw [hbl] at this; omega
    rw [bv_get M' j hjl] at hj
    cases hj
    rw [addAt]
    exact hcells j hjl) (by rw [hbl, cpc_size]; omega) (fun v hv => by simp [bv] at hv; obtain ⟨q, _, rfl⟩ := hv; rfl)
  rw [List.append_assoc, cpc_cfg K16 M' hlen hallM, hbl] at hrun
  refine ⟨.int .i64 16, w9.setRow g1 (cpc { K16 with c := fun i => BitVec.ofNat 8 (M'.getD i 0).toNat }), ?_, ?_⟩
  · rw [hu2] at q1
    clear h1 h3 hu
    generalize a.eval = ρ at *
    simp [execOp, resolve, invoke, builtin, q0, q1, hrun, go_sem, Result.andThen]
  obtain ⟨K17, hK17⟩ : ∃ K17 : Cp, K17 = { K16 with c := fun i => BitVec.ofNat 8 (M'.getD i 0).toNat } := ⟨_, rfl⟩
  have xs : Exc (· = g1) w9 (w9.setRow g1 (cpc K17)) := ⟨rfl, rfl, rfl, by simp [World.setRow], fun k _ h => Go.setRow_other w9 g1 k _ h⟩
  rw [← hK17]
  have HR17 : Hid (Row (w9.setRow g1 (cpc K17)) g1 (cpc K17) 31) := setRow_heap _ _ _ _ _ _ hrow
  have HZ17 : Hid (Row (w9.setRow g1 (cpc K17)) g0 (cpc cz) 31) := (setRow_other _ _ _ _ (by omega)).trans hz0
  have HP17 : Hid (Prd B (w9.setRow g1 (cpc K17)) g L (q + 378) (b || decide (1 < nv L (q + 265) 1))) := hprd.exc xs (fun e => hne e.symm) (fun k hk e => by have e2 : k = g1 := e; omega)
  have HX17 : Hid (Exc (· = g) w (w9.setRow g1 (cpc K17))) := (HX16.out.trans xr).fresh xs hw1
  have HK17 := Hid.mk' hK17
  have HM17 : Hid (bd (b || decide (1 < nv L (q + 265) 1)) L (q + 378) = false → M' = (L.drop (q + 362)).take 16) := hgood
  obtain ⟨W17, hW17⟩ : ∃ W, W = w9.setRow g1 (cpc K17) := ⟨_, rfl⟩
  rw [← hW17] at HR17 HZ17 HP17 HX17 ⊢
  simp only [putAll, Nat.zero_add, Nat.reduceAdd, Act.put, List.setIfInBounds_toArray, List.set_cons_zero, List.set_cons_succ]
  simp only [List.getD_cons_zero, List.getD_cons_succ, Nat.reduceEqDiff, if_true, if_false]
  clear h1 h3 hu hrun hrow hz0 xr xs hexc hprd hgood hcut hcells hcell hc0 hu2 hlen hcc hbl hallM hgs hK17 hW17 q0 q1 HR16 HZ16 HP16 HX16 HSC
  refine hK _ _ ?_
  go_wp2
  go_loopw [67] (fun i wr => ∃ (j : Nat) (X : Nat → BitVec 64), j ≤ 16 ∧ i = .int .i64 j ∧ Hid (∀ i, i < j → bd (b || decide (1 < nv L (q + 265) 1)) L (q + 378 + 8 * (i + 1)) = false → X i = w64 (nv L (q + 378 + 8 * i) 8)) ∧ Hid (Row wr g1 (cpc { K17 with a := X }) 31) ∧ Hid (Row wr g0 (cpc cz) 31) ∧ Hid (Prd B wr g L (q + 378 + 8 * j) (b || decide (1 < nv L (q + 265) 1))) ∧ Hid (Exc (· = g) w wr)) (fun i _ => 16 - (intOf i).toNat)
  case atStart => exact ⟨0, K17.a, Nat.zero_le _, rfl, (fun i hi => by omega), HR17, HZ17, HP17, HX17⟩
  case round =>
  obtain ⟨j, X, hj, rfl, HXF, rr, rz, rp, rx⟩ := hrel
  clear HR17 HZ17 HP17 HX17
  by_cases hlt : j < 16
  · have hlt2 : (j : Int) < 16 := by omega
    go_wp2_with (go_at_call 71; refine (double_c rp.out).mono ?_; rintro e V5 ⟨N5, rfl, h1, h2, h3, h4⟩; have HN5 := Hid.mk' h1; have HV5 := Hid.mk' h2; have HQ5 := Hid.mk' h3; have HG5 := Hid.mk' h4; clear h1 h2 h3 h4; have hN5 : ((N5 : Nat) : Int) < 18446744073709551616 := (by have := HN5.out; omega); unfold u64V; have HS5 := Hid.mk' ((HG5.out.block g1 rr.out.lt hne).trans rr.out); have cS := (Row.cell HS5.out (63 + j)).trans (cpc_at _ (63 + j) (by omega)); have fS := Row.froz HS5.out (63 + j))
    go_roundw
    case rel =>
      refine ⟨j + 1, upd X j (w64 N5), by omega, by go_num, (fun i hi hbd => ?_), ?_, Row.other (show Row _ g0 (cpc cz) 31 from (HG5.out.block g0 rz.out.lt hn0).trans rz.out) (by omega) _, ?_, (rx.out.trans HG5.out).put hw1 _⟩
      · by_cases e : i = j
        · subst e
          simp only [upd, if_true]
          rw [HV5.out (by rw [show q + 378 + 8 * i + 8 = q + 378 + 8 * (i + 1) by omega]; exact hbd)]
        · simp only [upd, if_neg e]
          exact HXF.out i (by omega) hbd
      · have r := Row.put (i := 63 + j) HS5.out (.int .u64 ((N5 : Nat) : Int))
        have e : (cpc { K17 with a := X }).setIfInBounds (63 + j) (.int .u64 ((N5 : Nat) : Int)) = cpc { K17 with a := upd X j (w64 N5) } := by
          rw [w64_int (by omega), cpc_a _ _ hlt]
        rw [e] at r
        exact r
      · have p := HQ5.out.put (j := 63 + j) (Ne.symm hne) hB1 (.int .u64 ((N5 : Nat) : Int))
        rw [show q + 378 + 8 * j + 8 = q + 378 + 8 * (j + 1) by omega] at p
        exact p
    case measure => simp [intOf]; omega
  have hjn : j = 16 := by omega
  subst hjn
  rw [show ((16 : Nat) : Int) = (16 : Int) from rfl]
  obtain ⟨K18, hK18⟩ : ∃ K18 : Cp, K18 = { K17 with a := X } := ⟨_, rfl⟩
  have HXF18 := Hid.mk' HXF.out
  have HR18 := Hid.mk' rr.out
  have HZ18 := Hid.mk' rz.out
  have HP18 : Hid (Prd B wr g L (q + 506) (b || decide (1 < nv L (q + 265) 1))) := rp.out
  have HX18 := Hid.mk' rx.out
  rw [← hK18] at HR18
  have HK18 := Hid.mk' hK18
  obtain ⟨X18, hX18⟩ : ∃ X18, X18 = X := ⟨_, rfl⟩
  rw [← hX18] at HK18 HXF18
  obtain ⟨W18, hW18⟩ : ∃ W, W = wr := ⟨_, rfl⟩
  rw [← hW18] at HR18 HZ18 HP18 HX18 ⊢
  clear hK18 HXF rr rz rp rx hlt hj hX18 hW18
  go_upto_region 28 with fail
  go_upto_region 29 with (go_at_call 73; refine (pflag_c HP18.out).mono ?_; rintro e V19 ⟨f19, rfl, h2, h3, h4⟩; have HV19 := Hid.mk' h2; have HQ19 := Hid.mk' h3; have HG19 := Hid.mk' h4; clear h2 h3 h4; have HS19 : Hid (Row V19 g1 (cpc K18) 31) := (HG19.out.block g1 HR18.out.lt hne).trans HR18.out; have cS := (HS19.out.cell 79).trans (cpc_at K18 79 (by decide)); have fS := HS19.out.froz 79)
  clear cS fS
  obtain ⟨K19, hK19⟩ : ∃ K19 : Cp, K19 = { K18 with rv := f19 } := ⟨_, rfl⟩
  refine on_W (motive := fun W => Code.wp _ _ _ _ W) (Q := fun W => Row W g1 (cpc K19) 31 ∧ Row W g0 (cpc cz) 31 ∧ Prd B W g L (q + 507) ((b || decide (1 < nv L (q + 265) 1)) || decide (1 < nv L (q + 506) 1)) ∧ Exc (· = g) w W)
    ⟨by have r := HS19.out.put (i := 79) (.bool f19); have e : (cpc K18).setIfInBounds 79 (.bool f19) = cpc K19 := (by rw [cpc_rv, ← hK19]); rw [e] at r; exact r, Row.other (show Row _ g0 (cpc cz) 31 from (HG19.out.block g0 HZ18.out.lt hn0).trans HZ18.out) (by omega) _, HQ19.out.put (Ne.symm hne) hB1 _, (HX18.out.trans HG19.out).put hw1 _⟩ ?_
  rintro W19 ⟨p1, p2, p3, p4⟩
  have HR19 := Hid.mk' p1
  have HZ19 := Hid.mk' p2
  have HP19 := Hid.mk' p3
  have HX19 := Hid.mk' p4
  have HK19 := Hid.mk' hK19
  clear p1 p2 p3 p4 hK19 HS19 HQ19 HG19 HR18 HZ18 HP18 HX18
  go_upto_region 30 with (go_at_call 71; refine (double_c HP19.out).mono ?_; rintro e V20 ⟨N20, rfl, h1, h2, h3, h4⟩; have HN20 := Hid.mk' h1; have HV20 := Hid.mk' h2; have HQ20 := Hid.mk' h3; have HG20 := Hid.mk' h4; clear h1 h2 h3 h4; have hN20 : ((N20 : Nat) : Int) < 18446744073709551616 := (by have := HN20.out; omega); unfold u64V; have HS20 : Hid (Row V20 g1 (cpc K19) 31) := (HG20.out.block g1 HR19.out.lt hne).trans HR19.out; have cS := (HS20.out.cell 80).trans (cpc_at K19 80 (by decide)); have fS := HS20.out.froz 80)
  clear cS fS
  obtain ⟨K20, hK20⟩ : ∃ K20 : Cp, K20 = { K19 with ra := w64 N20 } := ⟨_, rfl⟩
  refine on_W (motive := fun W => Code.wp _ _ _ _ W) (Q := fun W => Row W g1 (cpc K20) 31 ∧ Row W g0 (cpc cz) 31 ∧ Prd B W g L (q + 515) ((b || decide (1 < nv L (q + 265) 1)) || decide (1 < nv L (q + 506) 1)) ∧ Exc (· = g) w W)
    ⟨by have r := HS20.out.put (i := 80) (.int .u64 ((N20 : Nat) : Int)); have e : (cpc K19).setIfInBounds 80 (.int .u64 ((N20 : Nat) : Int)) = cpc K20 := (by rw [w64_int (by omega), cpc_ra, ← hK20]); rw [e] at r; exact r, Row.other (show Row _ g0 (cpc cz) 31 from (HG20.out.block g0 HZ19.out.lt hn0).trans HZ19.out) (by omega) _, HQ20.out.put (Ne.symm hne) hB1 _, (HX19.out.trans HG20.out).put hw1 _⟩ ?_
  rintro W20 ⟨p1, p2, p3, p4⟩
  have HR20 := Hid.mk' p1
  have HZ20 := Hid.mk' p2
  have HP20 := Hid.mk' p3
  have HX20 := Hid.mk' p4
  have HK20 := Hid.mk' hK20
  clear p1 p2 p3 p4 hK20 HS20 HQ20 HG20 HR19 HZ19 HP19 HX19
  go_upto_region 31 with (go_at_call 72; refine (single_c HP20.out).mono ?_; rintro e V21 ⟨N21, rfl, h1, h2, h3, h4⟩; have HN21 := Hid.mk' h1; have HV21 := Hid.mk' h2; have HQ21 := Hid.mk' h3; have HG21 := Hid.mk' h4; clear h1 h2 h3 h4; have hN21 : ((N21 : Nat) : Int) < 256 := (by have := HN21.out; omega); unfold u8V; have HS21 : Hid (Row V21 g1 (cpc K20) 31) := (HG21.out.block g1 HR20.out.lt hne).trans HR20.out; have cS := (HS21.out.cell 81).trans (cpc_at K20 81 (by decide)); have fS := HS21.out.froz 81)
  clear cS fS
  obtain ⟨K21, hK21⟩ : ∃ K21 : Cp, K21 = { K20 with rs := (N21 : Nat) } := ⟨_, rfl⟩
  refine on_W (motive := fun W => Code.wp _ _ _ _ W) (Q := fun W => Row W g1 (cpc K21) 31 ∧ Row W g0 (cpc cz) 31 ∧ Prd B W g L (q + 516) ((b || decide (1 < nv L (q + 265) 1)) || decide (1 < nv L (q + 506) 1)) ∧ Exc (· = g) w W)
    ⟨by have r := HS21.out.put (i := 81) (.int .i64 ((N21 : Nat) : Int)); have e : (cpc K20).setIfInBounds 81 (.int .i64 ((N21 : Nat) : Int)) = cpc K21 := (by rw [cpc_rs, ← hK21]); rw [e] at r; exact r, Row.other (show Row _ g0 (cpc cz) 31 from (HG21.out.block g0 HZ20.out.lt hn0).trans HZ20.out) (by omega) _, HQ21.out.put (Ne.symm hne) hB1 _, (HX20.out.trans HG21.out).put hw1 _⟩ ?_
  rintro W21 ⟨p1, p2, p3, p4⟩
  have HR21 := Hid.mk' p1
  have HZ21 := Hid.mk' p2
  have HP21 := Hid.mk' p3
  have HX21 := Hid.mk' p4
  have HK21 := Hid.mk' hK21
  clear p1 p2 p3 p4 hK21 HS21 HQ21 HG21 HR20 HZ20 HP20 HX20
  have HIC := Hid.mk' (show (Try.prog.info? 31).map (·.size) = some (cpc K21).size from by rw [cpc_size]; kernel_rfl)
  have HON := Hid.mk' (cpc_ones K21)
  have HZS : Hid ((cpc cz).size = (cpc K21).size) := by unfold Hid; rw [cpc_size, cpc_size]
  have HGOOD : Hid (bd (cpuF L q b) L (q + 516) = false → cpc K21 = cpc (cpuN L q)) := by
    intro hg
    have e1 := HV1.out (bd_mono (b' := cpuF L q b) (by unfold cpuF; intro h; simp [h]) (by omega) hg)
    have e3 := HV3.out (bd_mono (b' := cpuF L q b) (by unfold cpuF; intro h; simp [h]) (by omega) hg)
    have e4 := HV4.out (bd_mono (b' := cpuF L q b) (by unfold cpuF; intro h; simp [h]) (by omega) hg)
    have e5 := HV5.out (bd_mono (b' := cpuF L q b) (by unfold cpuF; intro h; simp [h]) (by omega) hg)
    have e6 := HV6.out (bd_mono (b' := cpuF L q b) (by unfold cpuF; intro h; simp [h]) (by omega) hg)
    have e7 := HV7.out (bd_mono (b' := cpuF L q b) (by unfold cpuF; intro h; simp [h]) (by omega) hg)
    have e8 := HV8.out (bd_mono (b' := cpuF L q b) (by unfold cpuF; intro h; simp [h]) (by omega) hg)
    have e9 := HV9.out (bd_mono (b' := cpuF L q b) (by unfold cpuF; intro h; simp [h]) (by omega) hg)
    have e10 := HV10.out (bd_mono (b' := cpuF L q b) (by unfold cpuF; intro h; simp [h]) (by omega) hg)
    have e11 := HV11.out (bd_mono (b' := cpuF L q b) (by unfold cpuF; intro h; simp [h]) (by omega) hg)
    have e12 := HV12.out (bd_mono (b' := cpuF L q b) (by unfold cpuF; intro h; simp [h]) (by omega) hg)
    have e13 := HV13.out (bd_mono (b' := cpuF L q b) (by unfold cpuF; intro h; simp [h]) (by omega) hg)
    have e14 := HV14.out (bd_mono (b' := cpuF L q b) (by unfold cpuF; intro h; simp [h]) (by omega) hg)
    have e15 := HV15.out (bd_mono (b' := cpuF L q b) (by unfold cpuF; intro h; simp [h]) (by omega) hg)
    have e16 := HV16.out (bd_mono (b' := cpuF L q b) (by unfold cpuF; intro h; simp [h]) (by omega) hg)
    have e19 := HV19.out (bd_mono (b' := cpuF L q b) (by unfold cpuF; intro h; simp [h]) (by omega) hg)
    have e20 := HV20.out (bd_mono (b' := cpuF L q b) (by unfold cpuF; intro h; simp [h]) (by omega) hg)
    have e21 := HV21.out (bd_mono (b' := cpuF L q b) (by unfold cpuF; intro h; simp [h]) (by omega) hg)
    have xx := fun i hi => HXF2.out i hi (bd_mono (b' := cpuF L q b) (by unfold cpuF; intro h; simp [h]) (by omega) hg)
    have aa := fun i hi => HXF18.out i hi (bd_mono (b' := cpuF L q b) (by unfold cpuF; intro h; simp [h]) (by omega) hg)
    have cc := HM17.out (bd_mono (b' := cpuF L q b) (by unfold cpuF; intro h; simp [h]) (by omega) hg)
    have hln := bd_len hg
    have kpc : K21.pc = w64 N1 := (show K21.pc = K20.pc from by rw [HK21.out]).trans ((show K20.pc = K19.pc from by rw [HK20.out]).trans ((show K19.pc = K18.pc from by rw [HK19.out]).trans ((show K18.pc = K17.pc from by rw [HK18.out]).trans ((show K17.pc = K16.pc from by rw [HK17.out]).trans ((show K16.pc = K15.pc from by rw [HK16.out]).trans ((show K15.pc = K14.pc from by rw [HK15.out]).trans ((show K14.pc = K13.pc from by rw [HK14.out]).trans ((show K13.pc = K12.pc from by rw [HK13.out]).trans ((show K12.pc = K11.pc from by rw [HK12.out]).trans ((show K11.pc = K10.pc from by rw [HK11.out]).trans ((show K10.pc = K9.pc from by rw [HK10.out]).trans ((show K9.pc = K8.pc from by rw [HK9.out]).trans ((show K8.pc = K7.pc from by rw [HK8.out]).trans ((show K7.pc = K6.pc from by rw [HK7.out]).trans ((show K6.pc = K5.pc from by rw [HK6.out]).trans ((show K5.pc = K4.pc from by rw [HK5.out]).trans ((show K4.pc = K3.pc from by rw [HK4.out]).trans ((show K3.pc = K2.pc from by rw [HK3.out]).trans ((show K2.pc = K1.pc from by rw [HK2.out]).trans ((by rw [HK1.out])))))))))))))))))))))
    have kx : K21.x = X2 := (show K21.x = K20.x from by rw [HK21.out]).trans ((show K20.x = K19.x from by rw [HK20.out]).trans ((show K19.x = K18.x from by rw [HK19.out]).trans ((show K18.x = K17.x from by rw [HK18.out]).trans ((show K17.x = K16.x from by rw [HK17.out]).trans ((show K16.x = K15.x from by rw [HK16.out]).trans ((show K15.x = K14.x from by rw [HK15.out]).trans ((show K14.x = K13.x from by rw [HK14.out]).trans ((show K13.x = K12.x from by rw [HK13.out]).trans ((show K12.x = K11.x from by rw [HK12.out]).trans ((show K11.x = K10.x from by rw [HK11.out]).trans ((show K10.x = K9.x from by rw [HK10.out]).trans ((show K9.x = K8.x from by rw [HK9.out]).trans ((show K8.x = K7.x from by rw [HK8.out]).trans ((show K7.x = K6.x from by rw [HK7.out]).trans ((show K6.x = K5.x from by rw [HK6.out]).trans ((show K5.x = K4.x from by rw [HK5.out]).trans ((show K4.x = K3.x from by rw [HK4.out]).trans ((show K3.x = K2.x from by rw [HK3.out]).trans ((by rw [HK2.out]))))))))))))))))))))
    have kmd : K21.md = ((N3 : Nat) : Int) := (show K21.md = K20.md from by rw [HK21.out]).trans ((show K20.md = K19.md from by rw [HK20.out]).trans ((show K19.md = K18.md from by rw [HK19.out]).trans ((show K18.md = K17.md from by rw [HK18.out]).trans ((show K17.md = K16.md from by rw [HK17.out]).trans ((show K16.md = K15.md from by rw [HK16.out]).trans ((show K15.md = K14.md from by rw [HK15.out]).trans ((show K14.md = K13.md from by rw [HK14.out]).trans ((show K13.md = K12.md from by rw [HK13.out]).trans ((show K12.md = K11.md from by rw [HK12.out]).trans ((show K11.md = K10.md from by rw [HK11.out]).trans ((show K10.md = K9.md from by rw [HK10.out]).trans ((show K9.md = K8.md from by rw [HK9.out]).trans ((show K8.md = K7.md from by rw [HK8.out]).trans ((show K7.md = K6.md from by rw [HK7.out]).trans ((show K6.md = K5.md from by rw [HK6.out]).trans ((show K5.md = K4.md from by rw [HK5.out]).trans ((show K4.md = K3.md from by rw [HK4.out]).trans ((by rw [HK3.out])))))))))))))))))))
    have kwt : K21.wt = f4 := (show K21.wt = K20.wt from by rw [HK21.out]).trans ((show K20.wt = K19.wt from by rw [HK20.out]).trans ((show K19.wt = K18.wt from by rw [HK19.out]).trans ((show K18.wt = K17.wt from by rw [HK18.out]).trans ((show K17.wt = K16.wt from by rw [HK17.out]).trans ((show K16.wt = K15.wt from by rw [HK16.out]).trans ((show K15.wt = K14.wt from by rw [HK15.out]).trans ((show K14.wt = K13.wt from by rw [HK14.out]).trans ((show K13.wt = K12.wt from by rw [HK13.out]).trans ((show K12.wt = K11.wt from by rw [HK12.out]).trans ((show K11.wt = K10.wt from by rw [HK11.out]).trans ((show K10.wt = K9.wt from by rw [HK10.out]).trans ((show K9.wt = K8.wt from by rw [HK9.out]).trans ((show K8.wt = K7.wt from by rw [HK8.out]).trans ((show K7.wt = K6.wt from by rw [HK7.out]).trans ((show K6.wt = K5.wt from by rw [HK6.out]).trans ((show K5.wt = K4.wt from by rw [HK5.out]).trans ((by rw [HK4.out]))))))))))))))))))
    have ks : K21.s = K16.s := (show K21.s = K20.s from by rw [HK21.out]).trans ((show K20.s = K19.s from by rw [HK20.out]).trans ((show K19.s = K18.s from by rw [HK19.out]).trans ((show K18.s = K17.s from by rw [HK18.out]).trans ((by rw [HK17.out])))))
    have ks0 : K5.s = upd K4.s 0 (w64 N5) := by rw [HK5.out]
    have ks1 : K6.s = upd K5.s 1 (w64 N6) := by rw [HK6.out]
    have ks2 : K7.s = upd K6.s 2 (w64 N7) := by rw [HK7.out]
    have ks3 : K8.s = upd K7.s 3 (w64 N8) := by rw [HK8.out]
    have ks4 : K9.s = upd K8.s 4 (w64 N9) := by rw [HK9.out]
    have ks5 : K10.s = upd K9.s 5 (w64 N10) := by rw [HK10.out]
    have ks6 : K11.s = upd K10.s 6 (w64 N11) := by rw [HK11.out]
    have ks7 : K12.s = upd K11.s 7 (w64 N12) := by rw [HK12.out]
    have ks8 : K13.s = upd K12.s 8 (w64 N13) := by rw [HK13.out]
    have ks9 : K14.s = upd K13.s 9 (w64 N14) := by rw [HK14.out]
    have ks10 : K15.s = upd K14.s 10 (w64 N15) := by rw [HK15.out]
    have ks11 : K16.s = upd K15.s 11 (w64 N16) := by rw [HK16.out]
    have kc : K21.c = fun i => BitVec.ofNat 8 (M'.getD i 0).toNat := (show K21.c = K20.c from by rw [HK21.out]).trans ((show K20.c = K19.c from by rw [HK20.out]).trans ((show K19.c = K18.c from by rw [HK19.out]).trans ((show K18.c = K17.c from by rw [HK18.out]).trans ((by rw [HK17.out])))))
    have ka : K21.a = X18 := (show K21.a = K20.a from by rw [HK21.out]).trans ((show K20.a = K19.a from by rw [HK20.out]).trans ((show K19.a = K18.a from by rw [HK19.out]).trans ((by rw [HK18.out]))))
    have krv : K21.rv = f19 := (show K21.rv = K20.rv from by rw [HK21.out]).trans ((show K20.rv = K19.rv from by rw [HK20.out]).trans ((by rw [HK19.out])))
    have kra : K21.ra = w64 N20 := (show K21.ra = K20.ra from by rw [HK21.out]).trans ((by rw [HK20.out]))
    have krs : K21.rs = ((N21 : Nat) : Int) := (by rw [HK21.out])
    refine Alk.cells ⟨?_, fun i hi => ?_, ?_, ?_, fun i hi => ?_, fun i hi => ?_, fun i hi => ?_, ?_, ?_, ?_⟩
    · rw [kpc, e1]; rfl
    · rw [kx]; exact xx i hi
    · rw [kmd, e3]; rfl
    · rw [kwt]; exact e4
    · rw [ks]
      match i, hi with
      | 0, _ => rw [ks11, ks10, ks9, ks8, ks7, ks6, ks5, ks4, ks3, ks2, ks1, ks0]; simp only [upd, Nat.reduceEqDiff, if_true, if_false]; rw [e5]; rfl
      | 1, _ => rw [ks11, ks10, ks9, ks8, ks7, ks6, ks5, ks4, ks3, ks2, ks1]; simp only [upd, Nat.reduceEqDiff, if_true, if_false]; rw [e6]; rfl
      | 2, _ => rw [ks11, ks10, ks9, ks8, ks7, ks6, ks5, ks4, ks3, ks2]; simp only [upd, Nat.reduceEqDiff, if_true, if_false]; rw [e7]; rfl
      | 3, _ => rw [ks11, ks10, ks9, ks8, ks7, ks6, ks5, ks4, ks3]; simp only [upd, Nat.reduceEqDiff, if_true, if_false]; rw [e8]; rfl
      | 4, _ => rw [ks11, ks10, ks9, ks8, ks7, ks6, ks5, ks4]; simp only [upd, Nat.reduceEqDiff, if_true, if_false]; rw [e9]; rfl
      | 5, _ => rw [ks11, ks10, ks9, ks8, ks7, ks6, ks5]; simp only [upd, Nat.reduceEqDiff, if_true, if_false]; rw [e10]; rfl
      | 6, _ => rw [ks11, ks10, ks9, ks8, ks7, ks6]; simp only [upd, Nat.reduceEqDiff, if_true, if_false]; rw [e11]; rfl
      | 7, _ => rw [ks11, ks10, ks9, ks8, ks7]; simp only [upd, Nat.reduceEqDiff, if_true, if_false]; rw [e12]; rfl
      | 8, _ => rw [ks11, ks10, ks9, ks8]; simp only [upd, Nat.reduceEqDiff, if_true, if_false]; rw [e13]; rfl
      | 9, _ => rw [ks11, ks10, ks9]; simp only [upd, Nat.reduceEqDiff, if_true, if_false]; rw [e14]; rfl
      | 10, _ => rw [ks11, ks10]; simp only [upd, Nat.reduceEqDiff, if_true, if_false]; rw [e15]; rfl
      | 11, _ => rw [ks11]; simp only [upd, if_true]; rw [e16]; rfl
    · rw [kc]
      show BitVec.ofNat 8 (M'.getD i 0).toNat = BitVec.ofNat 8 (nv L (q + 362 + i) 1)
      rw [nv_one HALL.out (by omega), cc]
      refine congrArg (fun z => BitVec.ofNat 8 (Int.toNat z)) ?_
      simp only [List.getD_eq_getElem?_getD]
      rw [List.getElem?_take_of_lt hi, List.getElem?_drop]
    · rw [ka]; exact aa i hi
    · rw [krv]; exact e19
    · rw [kra, e20]; rfl
    · rw [krs, e21]; rfl
  have hmdK : Hid (K21.md = ((N3 : Nat) : Int)) := (show K21.md = K20.md from by rw [HK21.out]).trans ((show K20.md = K19.md from by rw [HK20.out]).trans ((show K19.md = K18.md from by rw [HK19.out]).trans ((show K18.md = K17.md from by rw [HK18.out]).trans ((show K17.md = K16.md from by rw [HK17.out]).trans ((show K16.md = K15.md from by rw [HK16.out]).trans ((show K15.md = K14.md from by rw [HK15.out]).trans ((show K14.md = K13.md from by rw [HK14.out]).trans ((show K13.md = K12.md from by rw [HK13.out]).trans ((show K12.md = K11.md from by rw [HK12.out]).trans ((show K11.md = K10.md from by rw [HK11.out]).trans ((show K10.md = K9.md from by rw [HK10.out]).trans ((show K9.md = K8.md from by rw [HK9.out]).trans ((show K8.md = K7.md from by rw [HK8.out]).trans ((show K7.md = K6.md from by rw [HK7.out]).trans ((show K6.md = K5.md from by rw [HK6.out]).trans ((show K5.md = K4.md from by rw [HK5.out]).trans ((show K4.md = K3.md from by rw [HK4.out]).trans ((by rw [HK3.out])))))))))))))))))))
  have hrsK : Hid (K21.rs = ((N21 : Nat) : Int)) := by unfold Hid; rw [HK21.out]
  have hmB := HN3.out
  have hrB := HN21.out
  go_wp2_with (first | (refine wpList_load_row (by rfl) _ _ (by rfl) _ (by rfl) 31 _ (0, 0) _ HR21.out Try.underlying31 (by rfl) HIC.out ?_) | (refine wpList_store_row (by rfl) _ _ _ (by rfl) (by rfl) _ _ _ (by rfl) (by rfl) HZ21.out HIC.out HZS.out HON.out ?_))
  refine bodyPost_ret (v := .agg (cpc K21)) (results_cell_row Try.results57 _ _ g0 31 _ (0, 0) _ (by rfl) (setRow_heap _ _ _ _ _ _ HZ21.out) Try.underlying31 (by rfl) HIC.out) rfl ?_
  have xs : Exc (· = g0) W21 (W21.setRow g0 (cpc K21)) := ⟨rfl, rfl, rfl, by simp [World.setRow], fun k _ h => Go.setRow_other W21 g0 k _ h⟩
  exact ⟨K21, rfl, HGOOD.out, by rw [hmdK.out]; omega, by rw [hmdK.out]; omega, by rw [hrsK.out]; omega, by rw [hrsK.out]; omega, HP21.out.exc xs (fun e => hn0 e.symm) (fun k hk e => by have e2 : k = g0 := e; have := hBg; have := HG0.out; omega), HX21.out.fresh xs (by have := HG0.out; omega)⟩
end Go.Proofs.Ytgblpjkpeihpeaa
