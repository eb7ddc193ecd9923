/-
  Dq.
-/
import Derived.Test.YthmjimmmkoeeoaaDoorM26
namespace Go.Proofs.YthmjimmmkoeeoaaDoor
set_option linter.unusedVariables false
set_option maxRecDepth 100000
open Go.ChangeShapes Go.WideShapes Go.ChangeAt Go.RowKit Go.Deep Go.Shelf
set_option maxHeartbeats 8000000 in
theorem isvalid_c (r : Int) (K : Cp) (mt : BitVec 64) (ps : List Pt) (ws : List Wd) (v u : Value) (w : World) (hr : -9223372036854775808 ≤ r ∧ r ≤ 9223372036854775807) (hv : Pts w v ps) (hu : Wds w u ws) (hn : ps.length ≤ 140737488355328) (hm : ws.length ≤ 140737488355328)
    (hd : ∀ p ∈ ps, p.d.length ≤ 140737488355328) (hi : ∀ x ∈ ws, x.i.length ≤ 140737488355328) :
    Calls Tryd.prog 8 #[.agg (dkc r K mt v u)] w fun e w' => e = .returned (.bool (dkV ⟨r, K, mt, ps, ws⟩ && dkF ⟨r, K, mt, ps, ws⟩)) ∧ Below w.heap.size w w' := by
  obtain ⟨W0, hW0, r0, b0, s0⟩ := start1 w (dkc r K mt v u) 35
  have HVD : Hid (∀ w', Below w.heap.size w w' → Calls Tryd.prog 19 #[.agg (dkc r K mt v u)] w' fun e w'' => e = .returned (.bool (dkV ⟨r, K, mt, ps, ws⟩)) ∧ Below w'.heap.size w' w'') := fun w' hb => vdeck_c r K mt ps ws v u w' hr (hv.later hb) (hu.later hb) hn hm hd hi
  have HV : Hid (Pts w v ps) := hv
  have HU : Hid (Wds w u ws) := hu
  have HL : Hid (∀ j, j < ps.length → (ps.getD j pt0).d.length ≤ 140737488355328) := fun j hj => hd _ (by rw [List.getD_eq_getElem?_getD, List.getElem?_eq_getElem hj]; exact List.getElem_mem hj)
  have HM : Hid (∀ j, j < ws.length → (ws.getD j wd0).i.length ≤ 140737488355328) := fun j hj => hi _ (by rw [List.getD_eq_getElem?_getD, List.getElem?_eq_getElem hj]; exact List.getElem_mem hj)
  obtain ⟨av, cv, rfl, hcv, _, _⟩ := hv
  obtain ⟨au, cu, rfl, hcu, _, _⟩ := hu
  obtain ⟨N, hN⟩ : ∃ N, N = ps.length := ⟨_, rfl⟩
  obtain ⟨M, hM⟩ : ∃ M, M = ws.length := ⟨_, rfl⟩
  rw [← hN] at hn hcv
  rw [← hM] at hm hcu
  have HN : Hid (N = ps.length) := hN
  have HMM : Hid (M = ws.length) := hM
  have c0 : W0.cell? ⟨w.heap.size, 0, none⟩ = some (.int .i64 r) := (r0.out.cell 0).trans (dkc_r ..)
  have c84 : W0.cell? ⟨w.heap.size, 84, none⟩ = some (.slice av N cv) := by rw [hN]; exact (r0.out.cell (83 + 1)).trans ((dkc_e ..).trans rfl)
  have c85 : W0.cell? ⟨w.heap.size, 85, none⟩ = some (.slice au M cu) := by rw [hM]; exact (r0.out.cell (83 + 2)).trans ((dkc_e ..).trans rfl)
  have HC : Hid (∀ w', Below W0.heap.size W0 w' → w'.cell? ⟨w.heap.size, 0, none⟩ = some (.int .i64 r) ∧ w'.cell? ⟨w.heap.size, 84, none⟩ = some (.slice av N cv) ∧ w'.cell? ⟨w.heap.size, 85, none⟩ = some (.slice au M cu)) := fun w' hb => ⟨(hb.cell (p := ⟨w.heap.size, 0, none⟩) (by show w.heap.size < _; omega)).trans c0, (hb.cell (p := ⟨w.heap.size, 84, none⟩) (by show w.heap.size < _; omega)).trans c84, (hb.cell (p := ⟨w.heap.size, 85, none⟩) (by show w.heap.size < _; omega)).trans c85⟩
  have HZ : Hid (dkF ⟨r, K, mt, ps, ws⟩ = ps.all (fun p => decide (0 ≤ p.f) && decide (p.f ≤ 7))) := rfl
  have HCD : Hid (∀ i y, (dkc r K mt (.slice av ps.length cv) (.slice au ws.length cu))[i]? = some y → W0.cell? ⟨w.heap.size, 0 + i, none⟩ = some y) := fun i y h => by rw [Nat.zero_add]; exact (r0.out.cell i).trans h
  have HID := info_dk r K mt (.slice av ps.length cv) (.slice au ws.length cu)
  generalize dkV ⟨r, K, mt, ps, ws⟩ = Y at HVD ⊢
  generalize dkF ⟨r, K, mt, ps, ws⟩ = Z at HZ ⊢
  generalize dkc r K mt (.slice av ps.length cv) (.slice au ws.length cu) = DC at hW0 HVD HCD HID ⊢
  clear hN hM hr hd hi s0 r0
  cases Y
  · go_enter Tryd.func8, Tryd.ntmps8
    go_upto_region 1 with fail
    clear hW0
    go_wp2_with (first
      | (go_at_call 19; refine (HVD.out _ b0.out).mono ?_; rintro e w1 ⟨rfl, hb⟩; have HB1 : Hid (Below W0.heap.size W0 w1) := hb; clear hb)
      | (refine wpList_load_agg (by rfl) 35 _ (by rfl) w.heap.size 0 (by rfl) DC _ HCD.out Tryd.underlying35 (by rfl) HID ?_))
    go_ret
    exact ⟨rfl, b0.out.trans (HB1.out.mono b0.out.size)⟩
  go_enter Tryd.func8, Tryd.ntmps8
  go_upto_region 1 with fail
  clear hW0
  go_upto_region 4 with (first
    | (go_at_call 19; refine (HVD.out _ b0.out).mono ?_; rintro e w1 ⟨rfl, hb⟩; have HB1 : Hid (Below W0.heap.size W0 w1) := hb; obtain ⟨c0, c84, c85⟩ := HC.out w1 hb; clear hb)
    | (refine wpList_load_agg (by rfl) 35 _ (by rfl) w.heap.size 0 (by rfl) DC _ HCD.out Tryd.underlying35 (by rfl) HID ?_))
  --@U1
  clear HVD HCD HID
  go_loopw [4, 11] (fun _ i wr => ∃ k : Nat, k ≤ N ∧ i = .int .i64 k ∧ Hid ((ps.take k).all (fun p => decide (0 ≤ p.f) && decide (p.f ≤ 7)) = true) ∧ Hid (Below W0.heap.size W0 wr)) (fun _ i _ => N - (intOf i).toNat)
  case atStart => exact ⟨0, Nat.zero_le _, rfl, rfl, HB1.out⟩
  case round =>
    obtain ⟨k, hk, rfl, HA, HB⟩ := hrel
    clear HB1
    by_cases hlt : k < N
    · have hltI : (k : Int) < N := by omega
      obtain ⟨g, off, cap2, e1, hc2, hg, hcs⟩ := HV.out.at k (by rw [← HN.out]; exact hlt)
      cases e1
      obtain ⟨uk, hck, hbk, hak⟩ := hcs k (by rw [← HN.out]; exact hlt)
      have HSUC : Hid ((ps.take (k + 1)).all (fun p => decide (0 ≤ p.f) && decide (p.f ≤ 7)) = (decide (0 ≤ (ps.getD k pt0).f) && decide ((ps.getD k pt0).f ≤ 7))) := by unfold Hid; rw [all_succ _ pt0 _ _ (by rw [← HN.out]; exact hlt), HA.out, Bool.true_and]
      have HMIS : Hid ((decide (0 ≤ (ps.getD k pt0).f) && decide ((ps.getD k pt0).f ≤ 7)) = false → Z = false) := fun h => by rw [HZ.out, all_miss _ pt0 _ _ (by rw [← HN.out]; exact hlt) h]
      generalize ps.getD k pt0 = p at hck hbk hak HSUC HMIS
      obtain ⟨ad, cd, rfl, _, _, _⟩ := hbk
      have HWR : Hid (Below w.heap.size w wr) := b0.out.trans (HB.out.mono b0.out.size)
      have HCK : Hid (∀ i y, (#[.int .u64 (n64 p.a), .int .u64 (n64 p.s), .int .i64 p.f, .slice ad p.d.length cd] : Array Value)[i]? = some y → wr.cell? ⟨g, off + k * 4 + i, none⟩ = some y) := fun i y h => (HWR.out.cell (p := ⟨g, off + k * 4 + i, none⟩) hg).trans (hck i y h)
      generalize p.d.length = L at *
      generalize n64 p.a = A at *
      generalize n64 p.s = S at *
      generalize p.f = F at *
      obtain ⟨WA, hWA, rA, bA, sA⟩ := start1 wr #[.int .u64 A, .int .u64 S, .int .i64 F, .slice ad L cd] 46
      have HBA : Hid (Below W0.heap.size W0 WA) := HB.out.trans (bA.out.mono HB.out.size)
      have a2 := rA.out.cell 2
      have HKN : Hid (k + 1 ≤ N) := hlt
      clear hck hak hg hcs hc2
      go_upto_region 6 with (first
        | (refine wpList_allocZ1 (by rfl) 46 (by rfl) #[.int .u64 0, .int .u64 0, .int .i64 0, .slice none 0 0] zero_sg ?_)
        | (refine wpList_store_new (by rfl) 46 _ _ (by rfl) (by rfl) #[.int .u64 0, .int .u64 0, .int .i64 0, .slice none 0 0] #[.int .u64 A, .int .u64 S, .int .i64 F, .slice ad L cd] (by rfl) (by rfl) (info_sg _ _ _ _) (by rfl) (ones4 (by rfl) (by rfl) (by rfl) (by rfl)) ?_)
        | (refine wpList_load_agg (by rfl) 46 _ (by rfl) g (off + k * 4) (by rfl) #[.int .u64 A, .int .u64 S, .int .i64 F, .slice ad L cd] _ HCK.out Tryd.underlying46 (by rfl) (info_sg _ _ _ _) ?_))
      try rw [hWA]
      clear hWA
      by_cases h1 : 0 ≤ F
      · have g1 : ¬ F < 0 := by omega
        by_cases h2 : F ≤ 7
        · have g2 : ¬ (7 : Int) < F := by omega
          have HT : Hid ((ps.take (k + 1)).all (fun p => decide (0 ≤ p.f) && decide (p.f ≤ 7)) = true) := by unfold Hid; rw [HSUC.out, decide_eq_true h1, decide_eq_true h2]; rfl
          go_wp2
          go_roundw
          case rel => exact ⟨k + 1, HKN.out, by go_num, HT.out, HBA.out⟩
          case measure => have := HKN.out; simp [intOf]; omega
        · have g2 : (7 : Int) < F := by omega
          have HF : Hid (Z = false) := HMIS.out (by rw [decide_eq_false h2]; simp)
          go_wp2
          go_ret
          exact ⟨by rw [HF.out]; rfl, b0.out.trans (HBA.out.mono b0.out.size)⟩
      · have g1 : F < 0 := by omega
        have HF : Hid (Z = false) := HMIS.out (by rw [decide_eq_false h1]; rfl)
        go_wp2
        go_ret
        exact ⟨by rw [HF.out]; rfl, b0.out.trans (HBA.out.mono b0.out.size)⟩
    · have hke : k = N := by omega
      have HF : Hid (Z = true) := by unfold Hid; have h := HA.out; rw [hke, HN.out, List.take_length] at h; rw [HZ.out, h]
      go_wp2
      go_ret
      exact ⟨by rw [HF.out]; rfl, b0.out.trans (HB.out.mono b0.out.size)⟩
/-- The reference's reader, when Valid asks it. -/
def rdc (r : Int) : Array Value := dkc r cz 0#64 (.slice none 0 0) (.slice none 0 0) ++ #[.int .i64 0, .bool false, .bool false, .int .i64 0, .slice none 0 0, .bool false, .int .i64 0, .string ⟨#[]⟩, .int .i64 0, .int .i64 0, .int .i64 0, .int .i64 0]
theorem rdc_r (r : Int) : (rdc r)[0]? = some (.int .i64 r) := by unfold rdc; rw [Array.getElem?_append_left (by rw [dkc_size]; omega)]; exact dkc_r ..
theorem built_dk (r : Int) : Tryd.prog.built 35 [(0, .int .i64 r)] = some (dkc r cz 0#64 (.slice none 0 0) (.slice none 0 0)) := by kernel_rfl
theorem built_rd (r : Int) : Tryd.prog.built 71 [(0, .agg (dkc r cz 0#64 (.slice none 0 0) (.slice none 0 0)))] = some (rdc r) := by kernel_rfl
set_option maxHeartbeats 8000000 in
theorem rvalid_c (r : Int) (K : Cp) (mt : BitVec 64) (ps : List Pt) (ws : List Wd) (v u : Value) (w : World) (hr : -9223372036854775808 ≤ r ∧ r ≤ 9223372036854775807) (hv : Pts w v ps) (hu : Wds w u ws) (hn : ps.length ≤ 140737488355328) (hm : ws.length ≤ 140737488355328)
    (hd : ∀ p ∈ ps, p.d.length ≤ 140737488355328) (hi : ∀ x ∈ ws, x.i.length ≤ 140737488355328) :
    Calls Tryd.prog 10 #[.agg (dkc r K mt v u)] w fun e w' => e = .returned (.bool (dkV ⟨r, K, mt, ps, ws⟩)) ∧ Below w.heap.size w w' := by
  obtain ⟨W0, hW0, r0, b0, s0⟩ := start1 w (dkc r K mt v u) 35
  have HV : Hid (Pts w v ps) := hv
  have HU : Hid (Wds w u ws) := hu
  have HL : Hid (∀ j, j < ps.length → (ps.getD j pt0).d.length ≤ 140737488355328) := fun j hj => hd _ (by rw [List.getD_eq_getElem?_getD, List.getElem?_eq_getElem hj]; exact List.getElem_mem hj)
  have HM : Hid (∀ j, j < ws.length → (ws.getD j wd0).i.length ≤ 140737488355328) := fun j hj => hi _ (by rw [List.getD_eq_getElem?_getD, List.getElem?_eq_getElem hj]; exact List.getElem_mem hj)
  obtain ⟨av, cv, rfl, hcv, _, _⟩ := hv
  obtain ⟨au, cu, rfl, hcu, _, _⟩ := hu
  obtain ⟨N, hN⟩ : ∃ N, N = ps.length := ⟨_, rfl⟩
  obtain ⟨M, hM⟩ : ∃ M, M = ws.length := ⟨_, rfl⟩
  obtain ⟨Z, hZ⟩ : ∃ Z, Z = dkV ⟨r, K, mt, ps, ws⟩ := ⟨_, rfl⟩
  rw [← hZ]
  unfold dkV at hZ
  simp only at hZ
  rw [← hN] at hn hcv hZ
  rw [← hM] at hm hcu hZ
  have HN : Hid (N = ps.length) := hN
  have HMM : Hid (M = ws.length) := hM
  have HZ : Hid (Z = (raV r && decide (N ≤ 16) && decide (M ≤ 4000) && ps.all (ptV r) && ws.all (fun w => decide (w.i.length ≤ 64)))) := hZ
  have c0 : W0.cell? ⟨w.heap.size, 0, none⟩ = some (.int .i64 r) := (r0.out.cell 0).trans (dkc_r ..)
  have c84 : W0.cell? ⟨w.heap.size, 84, none⟩ = some (.slice av N cv) := by rw [hN]; exact (r0.out.cell (83 + 1)).trans ((dkc_e ..).trans rfl)
  have c85 : W0.cell? ⟨w.heap.size, 85, none⟩ = some (.slice au M cu) := by rw [hM]; exact (r0.out.cell (83 + 2)).trans ((dkc_e ..).trans rfl)
  have HC : Hid (∀ w', Below W0.heap.size W0 w' → w'.cell? ⟨w.heap.size, 0, none⟩ = some (.int .i64 r) ∧ w'.cell? ⟨w.heap.size, 84, none⟩ = some (.slice av N cv) ∧ w'.cell? ⟨w.heap.size, 85, none⟩ = some (.slice au M cu)) := fun w' hb => ⟨(hb.cell (p := ⟨w.heap.size, 0, none⟩) (by show w.heap.size < _; omega)).trans c0, (hb.cell (p := ⟨w.heap.size, 84, none⟩) (by show w.heap.size < _; omega)).trans c84, (hb.cell (p := ⟨w.heap.size, 85, none⟩) (by show w.heap.size < _; omega)).trans c85⟩
  have HRR : Hid (raV r = true → 0 ≤ r ∧ r ≤ 65536) := fun h => by unfold raV at h; simp at h; omega
  generalize dkc r K mt (.slice av ps.length cv) (.slice au ws.length cu) = DC at hW0 ⊢
  clear hN hM hZ hr hd hi s0 r0
  by_cases q1 : 8 ≤ r
  case neg =>
    have HR : Hid (Z = false) := by unfold Hid; rw [HZ.out]; unfold raV; rw [decide_eq_false q1]; rfl
    have f1 : r < 8 := by omega
    clear HZ
    go_enter Tryd.func10, Tryd.ntmps10
    go_upto_region 1 with fail
    clear hW0
    go_wp2
    go_ret
    exact ⟨by rw [HR.out]; rfl, b0.out⟩
  by_cases q2 : r ≤ 65536
  case neg =>
    have HR : Hid (Z = false) := by unfold Hid; rw [HZ.out]; unfold raV; rw [decide_eq_false q2]; simp
    have f1 : ¬ r < 8 := by omega
    have f2 : 65536 < r := by omega
    clear HZ
    go_enter Tryd.func10, Tryd.ntmps10
    go_upto_region 1 with fail
    clear hW0
    go_wp2
    go_ret
    exact ⟨by rw [HR.out]; rfl, b0.out⟩
  have hmod : Int.tmod r 8 = r % 8 := Int.tmod_eq_emod_of_nonneg (by omega)
  have f1 : ¬ r < 8 := by omega
  have f2 : ¬ 65536 < r := by omega
  have HRQ : Hid (0 ≤ r ∧ r ≤ 65536) := ⟨by omega, q2⟩
  have d1 : decide (8 ≤ r) = true := decide_eq_true q1
  have d2 : decide (r ≤ 65536) = true := decide_eq_true q2
  unfold Hid raV at HZ
  rw [d1, d2] at HZ
  have hmw : IntKind.i64.wrap (r % 8) = r % 8 := wrapI _ (by omega)
  clear HRR q1 q2 d1 d2
  obtain ⟨rm, hrm⟩ : ∃ rm, rm = r % 8 := ⟨_, rfl⟩
  rw [← hrm] at hmod HZ hmw
  clear hrm
  by_cases q3 : rm = 0
  case neg =>
    have HR : Hid (Z = false) := by unfold Hid; rw [HZ, decide_eq_false q3]; simp
    have f3 : (rm == 0) = false := by simpa using q3
    clear HZ
    go_enter Tryd.func10, Tryd.ntmps10
    go_upto_region 1 with fail
    clear hW0
    go_wp2
    go_ret
    exact ⟨by rw [HR.out]; rfl, b0.out⟩
  subst q3
  by_cases h16 : N ≤ 16
  case neg =>
    have HR : Hid (Z = false) := by unfold Hid; rw [HZ, decide_eq_false h16]; simp
    have g16 : (16 : Int) < (N : Int) := by omega
    clear HZ
    go_enter Tryd.func10, Tryd.ntmps10
    go_upto_region 1 with fail
    clear hW0
    go_wp2
    go_ret
    exact ⟨by rw [HR.out]; rfl, b0.out⟩
  by_cases h40 : M ≤ 4000
  case neg =>
    have HR : Hid (Z = false) := by unfold Hid; rw [HZ, decide_eq_false h40]; simp
    have g16 : ¬ (16 : Int) < (N : Int) := by omega
    have g40 : (4000 : Int) < (M : Int) := by omega
    clear HZ
    go_enter Tryd.func10, Tryd.ntmps10
    go_upto_region 1 with fail
    clear hW0
    go_wp2
    go_ret
    exact ⟨by rw [HR.out]; rfl, b0.out⟩
  have HZ2 : Hid (Z = (ps.all (ptV r) && ws.all (fun w => decide (w.i.length ≤ 64)))) := by unfold Hid; rw [HZ, decide_eq_true h16, decide_eq_true h40]; simp
  have g16 : ¬ (16 : Int) < (N : Int) := by omega
  have g40 : ¬ (4000 : Int) < (M : Int) := by omega
  clear HZ
  go_enter Tryd.func10, Tryd.ntmps10
  go_upto_region 1 with fail
  clear hW0
  go_upto_region 3 with fail
  obtain ⟨WR, hWR, rR, bR, sR⟩ := start1 W0 (rdc r) 71
  have HBR : Hid (Below W0.heap.size W0 WR) := bR.out
  have HCR : Hid (∀ w', Below WR.heap.size WR w' → w'.cell? ⟨W0.heap.size, 0, none⟩ = some (.int .i64 r)) := fun w' hb => (hb.cell (p := ⟨W0.heap.size, 0, none⟩) (by show W0.heap.size < _; omega)).trans ((rR.out.cell 0).trans (rdc_r r))
  clear rR bR sR
  go_upto_region 5 with (first
    | (refine wpList_build_tab (by rfl) 35 _ (by rfl) (dkc r cz 0#64 (.slice none 0 0) (.slice none 0 0)) (by kernel_rfl) ?_)
    | (refine wpList_build_tab (by rfl) 71 _ (by rfl) (rdc r) (by kernel_rfl) ?_))
  try rw [hWR]
  clear hWR
  --@U1
  go_loopw [4, 5, 6] (fun i _ _ wr => ∃ k : Nat, k ≤ N ∧ i = .int .i64 k ∧ Hid ((ps.take k).all (ptV r) = true) ∧ Hid (Below WR.heap.size WR wr)) (fun i _ _ _ => N - (intOf i).toNat)
  case atStart => exact ⟨0, Nat.zero_le _, rfl, rfl, Below.refl _ _⟩
  case round =>
    obtain ⟨k, hk, rfl, HA, HBx⟩ := hrel
    have HB : Hid (Below W0.heap.size W0 wr) := HBR.out.trans (HBx.out.mono HBR.out.size)
    obtain ⟨c0, c84, c85⟩ := HC.out wr HB.out
    by_cases hlt : k < N
    · have hltI : (k : Int) < N := by omega
      obtain ⟨g, off, cap2, e1, hc2, hg, hcs⟩ := HV.out.at k (by rw [← HN.out]; exact hlt)
      cases e1
      obtain ⟨uk, hck, hbk, hak⟩ := hcs k (by rw [← HN.out]; exact hlt)
      have HLK : Hid ((ps.getD k pt0).d.length ≤ 140737488355328) := HL.out k (by rw [← HN.out]; exact hlt)
      have HSUC : Hid ((ps.take (k + 1)).all (ptV r) = ptV r (ps.getD k pt0)) := by unfold Hid; rw [all_succ _ pt0 _ _ (by rw [← HN.out]; exact hlt), HA.out, Bool.true_and]
      have HMIS : Hid (ptV r (ps.getD k pt0) = false → Z = false) := fun h => by rw [HZ2.out, all_miss _ pt0 _ _ (by rw [← HN.out]; exact hlt) h]; rfl
      generalize ps.getD k pt0 = p at hck hbk hak HSUC HMIS HLK
      obtain ⟨ad, cd, rfl, _, _, _⟩ := hbk
      have HWR : Hid (Below w.heap.size w wr) := b0.out.trans (HB.out.mono b0.out.size)
      have HCK : Hid (∀ i y, (#[.int .u64 (n64 p.a), .int .u64 (n64 p.s), .int .i64 p.f, .slice ad p.d.length cd] : Array Value)[i]? = some y → wr.cell? ⟨g, off + k * 4 + i, none⟩ = some y) := fun i y h => (HWR.out.cell (p := ⟨g, off + k * 4 + i, none⟩) hg).trans (hck i y h)
      have HPL : Hid (∀ w', Below WR.heap.size WR w' → Calls Tryd.prog 28 #[.pointer (some ⟨W0.heap.size, 0, none⟩), .int .u64 (n64 p.a), .int .u64 (n64 p.s)] w' fun e w'' => e = .returned (.bool (plB r (n64 p.s) (n64 p.a))) ∧ w'' = w') := fun w' hb => inside_c r _ _ _ HRQ.out (n64_rng p.s) (n64_rng p.a) w' (HCR.out w' hb)
      have HEQ : Hid (ptV r p = (plB r (n64 p.s) (n64 p.a) && decide ((p.d.length : Int) ≤ n64 p.s))) := ptV_eq r p
      generalize plB r (n64 p.s) (n64 p.a) = PB at HPL HEQ
      generalize p.d.length = L at *
      generalize n64 p.a = A at *
      generalize n64 p.s = S at *
      generalize p.f = F at *
      have hLL : (L : Int) ≤ 140737488355328 := by have := HLK.out; omega
      have hwL : IntKind.u64.wrap (L : Int) = L := wrapU _ (by omega)
      obtain ⟨WA, hWA, rA, bA, sA⟩ := start1 wr #[.int .u64 A, .int .u64 S, .int .i64 F, .slice ad L cd] 46
      have HBA : Hid (Below W0.heap.size W0 WA) := HB.out.trans (bA.out.mono HB.out.size)
      have HBQ : Hid (Below WR.heap.size WR WA) := HBx.out.trans (bA.out.mono HBx.out.size)
      have a0 := rA.out.cell 0
      have a1 := rA.out.cell 1
      have a3 := rA.out.cell 3
      have HKN : Hid (k + 1 ≤ N) := hlt
      clear hck hak hg hcs hc2 HLK
      go_upto_region 8 with (first
        | (refine wpList_allocZ1 (by rfl) 46 (by rfl) #[.int .u64 0, .int .u64 0, .int .i64 0, .slice none 0 0] zero_sg ?_)
        | (refine wpList_store_new (by rfl) 46 _ _ (by rfl) (by rfl) #[.int .u64 0, .int .u64 0, .int .i64 0, .slice none 0 0] #[.int .u64 A, .int .u64 S, .int .i64 F, .slice ad L cd] (by rfl) (by rfl) (info_sg _ _ _ _) (by rfl) (ones4 (by rfl) (by rfl) (by rfl) (by rfl)) ?_)
        | (refine wpList_load_agg (by rfl) 46 _ (by rfl) g (off + k * 4) (by rfl) #[.int .u64 A, .int .u64 S, .int .i64 F, .slice ad L cd] _ HCK.out Tryd.underlying46 (by rfl) (info_sg _ _ _ _) ?_))
      try rw [hWA]
      clear hWA
      --@U2
      cases PB
      · have HF : Hid (Z = false) := HMIS.out (by rw [HEQ.out]; rfl)
        go_wp2_with (go_at_call 28; refine (HPL.out _ HBQ.out).mono ?_; rintro e wp ⟨rfl, hw⟩; have hw2 := hw.symm; subst hw2)
        go_ret
        exact ⟨by rw [HF.out]; rfl, b0.out.trans (HBA.out.mono b0.out.size)⟩
      · by_cases hLS : (L : Int) ≤ S
        · have HT : Hid ((ps.take (k + 1)).all (ptV r) = true) := by unfold Hid; rw [HSUC.out, HEQ.out, decide_eq_true hLS]; rfl
          have hLS2 : ¬ S < (L : Int) := by omega
          go_wp2_with (go_at_call 28; refine (HPL.out _ HBQ.out).mono ?_; rintro e wp ⟨rfl, hw⟩; have hw2 := hw.symm; subst hw2)
          go_roundw
          case rel => exact ⟨k + 1, HKN.out, by go_num, HT.out, HBQ.out⟩
          case measure => have := HKN.out; simp [intOf]; omega
        · have HF : Hid (Z = false) := HMIS.out (by rw [HEQ.out, decide_eq_false hLS]; rfl)
          have hLS2 : S < (L : Int) := by omega
          go_wp2_with (go_at_call 28; refine (HPL.out _ HBQ.out).mono ?_; rintro e wp ⟨rfl, hw⟩; have hw2 := hw.symm; subst hw2)
          go_ret
          exact ⟨by rw [HF.out]; rfl, b0.out.trans (HBA.out.mono b0.out.size)⟩
    · have hke : k = N := by omega
      have HZ3 : Hid (Z = ws.all (fun w => decide (w.i.length ≤ 64))) := by unfold Hid; have h := HA.out; rw [hke, HN.out, List.take_length] at h; rw [HZ2.out, h, Bool.true_and]
      clear hke HA HV HL HBx
      rename World => w7
      have HB1 : Hid (Below W0.heap.size W0 w7) := HB.out
      clear HB
      go_upto_region 12 with fail
      --@U5
      go_loopw [7] (fun i wr => ∃ k : Nat, k ≤ M ∧ i = .int .i64 k ∧ Hid ((ws.take k).all (fun w => decide (w.i.length ≤ 64)) = true) ∧ Hid (Below W0.heap.size W0 wr)) (fun i _ => M - (intOf i).toNat)
      case atStart => exact ⟨0, Nat.zero_le _, rfl, rfl, HB1.out⟩
      case round =>
        obtain ⟨q, hq, rfl, HA, HB⟩ := hrel
        clear HB1 c0 c84 c85
        obtain ⟨c0, c84, c85⟩ := HC.out wr HB.out
        by_cases hlt : q < M
        · have hltI : (q : Int) < M := by omega
          obtain ⟨g, off, cap2, e1, hc2, hg, hcs⟩ := HU.out.at q (by rw [← HMM.out]; exact hlt)
          cases e1
          obtain ⟨uk, hck, hbk, hak⟩ := hcs q (by rw [← HMM.out]; exact hlt)
          have HLK : Hid ((ws.getD q wd0).i.length ≤ 140737488355328) := HM.out q (by rw [← HMM.out]; exact hlt)
          have HSUC : Hid ((ws.take (q + 1)).all (fun w => decide (w.i.length ≤ 64)) = decide ((ws.getD q wd0).i.length ≤ 64)) := by unfold Hid; rw [all_succ _ wd0 _ _ (by rw [← HMM.out]; exact hlt), HA.out, Bool.true_and]
          have HMIS : Hid (decide ((ws.getD q wd0).i.length ≤ 64) = false → Z = false) := fun h => by rw [HZ3.out, all_miss _ wd0 _ _ (by rw [← HMM.out]; exact hlt) h]
          generalize ws.getD q wd0 = p at hck hbk hak HSUC HMIS HLK
          obtain ⟨ad, cd, rfl, _, _, _⟩ := hbk
          have HWR : Hid (Below w.heap.size w wr) := b0.out.trans (HB.out.mono b0.out.size)
          have a3 : wr.cell? ⟨g, off + q * 4 + 3, none⟩ = some (.slice ad p.i.length cd) := (HWR.out.cell (p := ⟨g, off + q * 4 + 3, none⟩) hg).trans (hck 3 _ rfl)
          generalize p.i.length = L at *
          have hLL : L ≤ 140737488355328 := HLK.out
          have HKN : Hid (q + 1 ≤ M) := hlt
          clear hck hak hg hcs hc2 HLK
          by_cases hLS : L ≤ 64
          · have HT : Hid ((ws.take (q + 1)).all (fun w => decide (w.i.length ≤ 64)) = true) := by unfold Hid; rw [HSUC.out, decide_eq_true hLS]
            have hLS2 : ¬ (64 : Int) < (L : Int) := by omega
            go_wp2
            go_roundw
            case rel => exact ⟨q + 1, HKN.out, by go_num, HT.out, HB.out⟩
            case measure => have := HKN.out; simp [intOf]; omega
          · have HF : Hid (Z = false) := HMIS.out (decide_eq_false hLS)
            have hLS2 : (64 : Int) < (L : Int) := by omega
            go_wp2
            go_ret
            exact ⟨by rw [HF.out]; rfl, b0.out.trans (HB.out.mono b0.out.size)⟩
        · have hqe : q = M := by omega
          have HF : Hid (Z = true) := by unfold Hid; have h := HA.out; rw [hqe, HMM.out, List.take_length] at h; rw [HZ3.out, h]
          go_wp2
          go_ret
          exact ⟨by rw [HF.out]; rfl, b0.out.trans (HB.out.mono b0.out.size)⟩
end Go.Proofs.YthmjimmmkoeeoaaDoor
