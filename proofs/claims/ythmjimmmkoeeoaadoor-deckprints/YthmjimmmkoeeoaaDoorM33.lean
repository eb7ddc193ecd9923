/-
  Dw.
-/
import Derived.Test.YthmjimmmkoeeoaaDoorM32
import Derived.BigFrame
namespace Go.Proofs.YthmjimmmkoeeoaaDoor
set_option linter.unusedVariables false
set_option maxRecDepth 100000
open Go.ChangeShapes Go.WideShapes Go.ChangeAt Go.RowKit Go.Deep Go.Shelf
theorem wpList_load_aggG {P : Program} {ops : Array Oper} {rest : List Oper} {o : Oper} {a : Act} {w : World} {Q : Exit → Act → World → Prop} (hw : Region.wanted o (yielded ops a.tmps) = true) (ty : TypeId) (x : Operand) (ho : o.op = .load ty x)
    (g off : Nat) (hx : a.eval x = .pointer (some ⟨g, off, none⟩)) (cs : Array Value) (d : TypeDesc) (hc : ∀ j v, cs[j]? = some v → w.cell? ⟨g, off + j, none⟩ = some v)
    (hu : P.underlying ty = some d) (hd : (match d with | .struct _ | .array _ _ => true | _ => false) = true) (hi : (P.info? ty).map (·.size) = some cs.size)
    (h : wpList P ops Q rest (a.put o.dst (.agg cs)) w) : wpList P ops Q (o :: rest) a w :=
  BigFrame.wpList_want hw fun _ hK => by
    unfold Oper.wp execOp
    simp only [ho, hx, Instr.loadAt, Instr.sureAddr, Sem.run_bind, Sem.run_pure, Result.andThen_ok, run_load_agg w ty g off cs d hc hu hd hi]
    exact hK _ _ h
theorem PR_x0z (k : Cp) : (PR k).x 0 = 0#64 := by show upd k.x 0 0#64 0 = 0#64; unfold upd; simp
theorem dtLs_cnt2 (n : Nat) : ∀ d : List Int, d.length ≤ n → 32 * (dtLs d).length ≤ d.length + 31 := by
  induction n using Nat.strongRecOn with
  | _ n ih =>
    intro d hd
    by_cases h : d = []
    · subst h; simp [dtLs_nil]
    · have hp := List.length_pos_iff.2 h
      rw [dtLs_more h, List.length_cons]
      have := ih (n - 1) (by omega) (d.drop 32) (by rw [List.length_drop]; omega)
      rw [List.length_drop] at this
      by_cases h2 : d.length ≤ 32
      · have h3 : d.drop 32 = [] := List.drop_of_length_le h2
        rw [h3, dtLs_nil]; simp; omega
      · omega
theorem pt_cnt (ps : List Pt) (h : ∀ p ∈ ps, p.s.toNat ≤ 65536 ∧ p.d.length ≤ 65536 ∧ 0 ≤ p.f ∧ p.f ≤ 7) : ∀ k, ((ps.take k).flatMap ptLs).length ≤ 2100 * k := by
  intro k
  induction k with
  | zero => simp
  | succ k ih =>
    by_cases hk : k < ps.length
    · rw [flat_snoc ps k hk, List.length_append]
      have hm : ps.getD k pt0 ∈ ps := by rw [List.getD_eq_getElem?_getD, List.getElem?_eq_getElem hk]; exact List.getElem_mem hk
      have h1 := h _ hm
      have h2 := dtLs_cnt2 _ (ps.getD k pt0).d (Nat.le_refl _)
      have h3 : (ptLs (ps.getD k pt0)).length = (dtLs (ps.getD k pt0).d).length + 1 := by unfold ptLs; rw [List.length_cons]
      omega
    · rw [List.take_of_length_le (by omega)]; rw [List.take_of_length_le (by omega)] at ih; omega
theorem wdLs_cnt (n : Nat) : ∀ l : List Wd, l.length ≤ n → (wdLs l).length ≤ l.length := by
  induction n using Nat.strongRecOn with
  | _ n ih =>
    intro l hn
    cases l with
    | nil => simp [wdLs_nil]
    | cons x r =>
      rw [wdLs_more, List.length_cons, List.length_cons]
      simp only [List.length_cons] at hn
      have := ih (n - 1) (by omega) (r.drop (runN x r)) (by rw [List.length_drop]; omega)
      rw [List.length_drop] at this
      omega
theorem cpuLs_cnt (k : Cp) : (cpuLs k).length ≤ 64 := cpuU_cnt k 64
theorem dkLs_cnt (D : Dk) (h : dkV D = true) (hf : dkF D = true) : (dkLs D).length ≤ 40000 := by
  obtain ⟨h1, h2, h3, h4, h5, h6⟩ := dkV_spec h hf
  unfold dkLs hdLs
  have a1 := cpuLs_cnt (PR D.cpu)
  have a2 := pt_cnt D.ps h5 D.ps.length
  rw [List.take_length] at a2
  have a3 := wdLs_cnt _ D.ws (Nat.le_refl _)
  have a4 : (if D.mt = 0#64 then ([] : List Tx) else [jw [[109, 116, 105, 109, 101], hxT D.mt]]).length ≤ 1 := by split <;> simp
  simp only [List.length_append, List.length_cons, List.length_nil]
  omega
theorem dkLs_len (D : Dk) (h : dkV D = true) (hf : dkF D = true) : (lnT (dkLs D)).length ≤ 20000000 := by
  obtain ⟨h1, h2, h3, h4, h5, h6⟩ := dkV_spec h hf
  unfold dkLs
  rw [lnT_append, lnT_append, lnT_append]
  have a0 := hd_len D (by omega)
  have a1 : (lnT (cpuLs (PR D.cpu))).length ≤ 101 * 64 := cpuU_len (PR D.cpu) (PR_rs D.cpu) 64
  have a2 := flat_len D.ps h5 D.ps.length
  rw [List.take_length] at a2
  have a3 := wdLs_len _ D.ws (Nat.le_refl _) h4 h6
  simp only [List.length_append]
  omega
set_option maxHeartbeats 16000000 in
theorem rprint_c (r : Int) (K : Cp) (mt : BitVec 64) (ps : List Pt) (ws : List Wd) (v u : Value) (w : World) (hr : -9223372036854775808 ≤ r ∧ r ≤ 9223372036854775807) (hT : Rt w) (hv : Pts w v ps) (hu : Wds w u ws) (hn : ps.length ≤ 140737488355328) (hm : ws.length ≤ 140737488355328)
    (hd : ∀ p ∈ ps, p.d.length ≤ 140737488355328) (hi : ∀ x ∈ ws, x.i.length ≤ 140737488355328) :
    Calls Tryd.prog 6 #[.agg (dkc r K mt v u)] w fun e w' => e = .returned (.tuple #[.string (tS (prT ⟨r, K, mt, ps, ws⟩).1), .int .i64 (prT ⟨r, K, mt, ps, ws⟩).2]) ∧ Below w.heap.size w w' := by
  obtain ⟨W0, hW0, r0, b0, s0⟩ := start1 w (dkc r K mt v u) 35
  have HVD : Hid (∀ w', Below w.heap.size w w' → Calls Tryd.prog 10 #[.agg (dkc r K mt v u)] w' fun e w'' => e = .returned (.bool (dkV ⟨r, K, mt, ps, ws⟩)) ∧ Below w'.heap.size w' w'') := fun w' hb => rvalid_c r K mt ps ws v u w' hr (hv.later hb) (hu.later hb) hn hm hd hi
  have HT : Hid (∀ w', Below W0.heap.size W0 w' → Rt w') := fun w' hb => (hT.next b0.out).next hb
  have HV : Hid (Pts W0 v ps) := hv.later b0.out
  have HU : Hid (Wds W0 u ws) := hu.later b0.out
  have HSP : Hid (dkV ⟨r, K, mt, ps, ws⟩ = true → dkF ⟨r, K, mt, ps, ws⟩ = true → 8 ≤ r ∧ r ≤ 65536 ∧ ps.length ≤ 16 ∧ ws.length ≤ 4000 ∧ (∀ p ∈ ps, p.s.toNat ≤ 65536 ∧ p.d.length ≤ 65536 ∧ 0 ≤ p.f ∧ p.f ≤ 7) ∧ ∀ x ∈ ws, x.i.length ≤ 64) := fun h1 h2 => dkV_spec h1 h2
  have HCT : Hid (dkV ⟨r, K, mt, ps, ws⟩ = true → dkF ⟨r, K, mt, ps, ws⟩ = true → (dkLs ⟨r, K, mt, ps, ws⟩).length ≤ 40000 ∧ (lnT (dkLs ⟨r, K, mt, ps, ws⟩)).length ≤ 20000000) := fun h1 h2 => ⟨dkLs_cnt _ h1 h2, dkLs_len _ h1 h2⟩
  have HDL : Hid (dkLs ⟨r, K, mt, ps, ws⟩ = [jw [[97, 110, 118, 105, 108], [49]]] ++ [jw [[114, 97, 109], dcL r.toNat]] ++ (if mt = 0#64 then [] else [jw [[109, 116, 105, 109, 101], hxT mt]]) ++ cpuLs (PR K) ++ ps.flatMap ptLs ++ wdLs ws) := rfl
  have HPT : Hid (prT ⟨r, K, mt, ps, ws⟩ = if (dkV ⟨r, K, mt, ps, ws⟩ && dkF ⟨r, K, mt, ps, ws⟩) = false then ([], 140) else if (400000 : Int) < (lnT (dkLs ⟨r, K, mt, ps, ws⟩)).length then ([], 4) else (lnT (dkLs ⟨r, K, mt, ps, ws⟩), 0)) := rfl
  have HFD : Hid (dkF ⟨r, K, mt, ps, ws⟩ = ps.all (fun p => decide (0 ≤ p.f) && decide (p.f ≤ 7))) := rfl
  have HML : Hid (ps.length ≤ 140737488355328 ∧ ws.length ≤ 140737488355328) := ⟨hn, hm⟩
  have hls : w.heap.size < W0.heap.size := by omega
  have HC : Hid (∀ w', Below W0.heap.size W0 w' → w'.cell? ⟨w.heap.size, 0, none⟩ = some (.int .i64 r) ∧ w'.cell? ⟨w.heap.size, 83, none⟩ = some (.int .u64 (n64 mt)) ∧ w'.cell? ⟨w.heap.size, 84, none⟩ = some v ∧ w'.cell? ⟨w.heap.size, 85, none⟩ = some u) := fun w' hb => ⟨(hb.cell (p := ⟨w.heap.size, 0, none⟩) hls).trans ((r0.out.cell 0).trans (dkc_r ..)), (hb.cell (p := ⟨w.heap.size, 83, none⟩) hls).trans ((r0.out.cell (83 + 0)).trans ((dkc_e ..).trans rfl)), (hb.cell (p := ⟨w.heap.size, 84, none⟩) hls).trans ((r0.out.cell (83 + 1)).trans ((dkc_e ..).trans rfl)), (hb.cell (p := ⟨w.heap.size, 85, none⟩) hls).trans ((r0.out.cell (83 + 2)).trans ((dkc_e ..).trans rfl))⟩
  have HCK : Hid (∀ w', Below W0.heap.size W0 w' → ∀ j x, (cpc K)[j]? = some x → w'.cell? ⟨w.heap.size, 1 + j, none⟩ = some x) := fun w' hb j x h => ((hb.cell (p := ⟨w.heap.size, 1 + j, none⟩) hls).trans (r0.out.cell (1 + j))).trans (dkc_c _ _ _ _ _ j x h)
  have HCD : Hid (∀ i y, (dkc r K mt v u)[i]? = some y → W0.cell? ⟨w.heap.size, 0 + i, none⟩ = some y) := fun i y h => by rw [Nat.zero_add]; exact (r0.out.cell i).trans h
  have HID := info_dk r K mt v u
  have HVD0 : Hid (Calls Tryd.prog 10 #[.agg (dkc r K mt v u)] W0 fun e w'' => e = .returned (.bool (dkV ⟨r, K, mt, ps, ws⟩)) ∧ Below W0.heap.size W0 w'') := HVD.out W0 b0.out
  generalize prT ⟨r, K, mt, ps, ws⟩ = Z at HPT ⊢
  generalize dkV ⟨r, K, mt, ps, ws⟩ = YV at HVD0 HSP HCT HPT
  generalize dkF ⟨r, K, mt, ps, ws⟩ = YF at HFD HSP HCT HPT
  generalize dkLs ⟨r, K, mt, ps, ws⟩ = DL at HDL HCT HPT
  generalize dkc r K mt v u = DC at hW0 HVD0 HCD HID ⊢
  clear HVD hT hv hu hn hm hd hi s0 r0
  cases YV
  · have HE : Hid (Z = ([], 140)) := by unfold Hid; rw [HPT.out]; rfl
    go_enter Tryd.func6, Tryd.ntmps6
    go_upto_region 1 with fail
    clear hW0
    go_wp2_with (first
      | (go_at_call 10; refine HVD0.out.mono ?_; rintro e w1 ⟨rfl, hb⟩; have HB1 : Hid (Below W0.heap.size W0 w1) := hb; clear hb)
      | (refine wpList_load_agg (by rfl) 35 _ (by rfl) w.heap.size 0 (by rfl) DC _ HCD.out Tryd.underlying35 (by rfl) HID ?_))
    go_ret2
    exact ⟨by rw [HE.out]; rfl, b0.out.trans (HB1.out.mono b0.out.size)⟩
  obtain ⟨va, vc, rfl, _, _, _⟩ := HV.out
  obtain ⟨ua, uc, rfl, _, _, _⟩ := HU.out
  obtain ⟨N, hN⟩ : ∃ N, N = ps.length := ⟨_, rfl⟩
  obtain ⟨M, hM⟩ : ∃ M, M = ws.length := ⟨_, rfl⟩
  have HN : Hid (N = ps.length) := hN
  have HM : Hid (M = ws.length) := hM
  rw [← hN, ← hM] at HC
  clear hN hM
  go_enter Tryd.func6, Tryd.ntmps6
  go_upto_region 1 with fail
  clear hW0
  go_upto_region 4 with (first
    | (go_at_call 10; refine HVD0.out.mono ?_; rintro e w1 ⟨rfl, hb⟩; have HB1 : Hid (Below W0.heap.size W0 w1) := hb; clear hb)
    | (refine wpList_load_agg (by rfl) 35 _ (by rfl) w.heap.size 0 (by rfl) DC _ HCD.out Tryd.underlying35 (by rfl) HID ?_))
  clear HVD0 HCD HID
  go_upto_region 5 with fail
  --@U1
  go_loopw [5] (fun i wr => ∃ k : Nat, k ≤ N ∧ i = .int .i64 k ∧ Hid ((ps.take k).all (fun p => decide (0 ≤ p.f) && decide (p.f ≤ 7)) = true) ∧ Hid (Below W0.heap.size W0 wr)) (fun i _ => N - (intOf i).toNat)
  case atStart => exact ⟨0, Nat.zero_le _, rfl, rfl, HB1⟩
  case round =>
    obtain ⟨k, hk, rfl, HA, HB⟩ := hrel
    clear HB1
    obtain ⟨c0, c83, c84, c85⟩ := HC.out wr HB.out
    have hN1 : N ≤ 140737488355328 := by rw [HN.out]; exact HML.out.1
    by_cases hlt : k < N
    · have hltI : (k : Int) < N := by omega
      obtain ⟨g, off, cap2, e1, hc2, hg, hcs⟩ := HV.out.at k (by rw [← HN.out]; exact hlt)
      cases e1
      obtain ⟨uk, hck, hbk, hak⟩ := hcs k (by rw [← HN.out]; exact hlt)
      have HSUC : Hid ((ps.take (k + 1)).all (fun p => decide (0 ≤ p.f) && decide (p.f ≤ 7)) = (decide (0 ≤ (ps.getD k pt0).f) && decide ((ps.getD k pt0).f ≤ 7))) := by unfold Hid; rw [all_succ _ pt0 _ _ (by rw [← HN.out]; exact hlt), HA.out, Bool.true_and]
      have HMIS : Hid ((decide (0 ≤ (ps.getD k pt0).f) && decide ((ps.getD k pt0).f ≤ 7)) = false → Z = ([], 140)) := fun h => by rw [HPT.out, HFD.out, all_miss _ pt0 _ _ (by rw [← HN.out]; exact hlt) h]; rfl
      have cf : wr.cell? ⟨g, off + k * 4 + 2, none⟩ = some (.int .i64 (ps.getD k pt0).f) := (HB.out.cell (p := ⟨g, off + k * 4 + 2, none⟩) hg).trans (hck 2 _ rfl)
      generalize (ps.getD k pt0).f = F at cf HSUC HMIS
      have HKN : Hid (k + 1 ≤ N) := hlt
      clear hck hak hg hcs hc2 hbk
      by_cases h1 : 0 ≤ F
      · have g1 : ¬ F < 0 := by omega
        by_cases h2 : F ≤ 7
        · have g2 : ¬ (7 : Int) < F := by omega
          have HT2 : Hid ((ps.take (k + 1)).all (fun p => decide (0 ≤ p.f) && decide (p.f ≤ 7)) = true) := by unfold Hid; rw [HSUC.out, decide_eq_true h1, decide_eq_true h2]; rfl
          go_wp2
          go_roundw
          case rel => exact ⟨k + 1, HKN.out, by go_num, HT2, HB⟩
          case measure => have := HKN.out; simp [intOf]; omega
        · have g2 : (7 : Int) < F := by omega
          have HE : Hid (Z = ([], 140)) := HMIS.out (by rw [decide_eq_false h2]; simp)
          go_wp2
          go_ret2
          exact ⟨by rw [HE.out]; rfl, b0.out.trans (HB.out.mono b0.out.size)⟩
      · have g1 : F < 0 := by omega
        have HE : Hid (Z = ([], 140)) := HMIS.out (by rw [decide_eq_false h1]; rfl)
        go_wp2
        go_ret2
        exact ⟨by rw [HE.out]; rfl, b0.out.trans (HB.out.mono b0.out.size)⟩
    · have hke : k = N := by omega
      have HYF : Hid (YF = true) := by unfold Hid; have h := HA.out; rw [hke, HN.out, List.take_length] at h; rw [HFD.out, h]
      have HS : Hid (8 ≤ r ∧ r ≤ 65536 ∧ ps.length ≤ 16 ∧ ws.length ≤ 4000 ∧ (∀ p ∈ ps, p.s.toNat ≤ 65536 ∧ p.d.length ≤ 65536 ∧ 0 ≤ p.f ∧ p.f ≤ 7) ∧ ∀ x ∈ ws, x.i.length ≤ 64) := HSP.out (by first | rfl | trivial) HYF.out
      have HCTT : Hid (DL.length ≤ 40000 ∧ (lnT DL).length ≤ 20000000) := HCT.out (by first | rfl | trivial) HYF.out
      have HZ2 : Hid (Z = if (400000 : Int) < (lnT DL).length then ([], 4) else (lnT DL, 0)) := by unfold Hid; rw [HPT.out, HYF.out, if_neg (by simp)]
      clear HFD HPT HSP HCT HYF HA hk hlt hN1 HML
      subst hke
      rename World => w2
      have HB2 : Hid (Below W0.heap.size W0 w2) := HB
      clear HB
      --@U2
      obtain ⟨rn, hrn⟩ := Int.eq_ofNat_of_zero_le (show 0 ≤ r by have := HS.out; omega)
      subst hrn
      have HRN : Hid (rn ≤ 65536) := by unfold Hid; have := HS.out; omega
      rw [Int.toNat_natCast] at HDL
      have hN16 : k ≤ 16 := by have := HN.out; have := HS.out; omega
      have hM40 : M ≤ 4000 := by have := HM.out; have := HS.out; omega
      obtain ⟨c0, c83, c84, c85⟩ := HC.out w2 HB2.out
      have HO2 : Hid (w2.ownsRow W0.heap.size 9 1 (.slice none 0 0) ([] : List Tx).length (stv [])) := own_nilW _ _
      have HIT : Hid (∀ w', Calls Tryd.prog 11 #[.int .i64 (rn : Int)] w' fun e w'' => e = .returned (.string (tS (dcL rn))) ∧ Below w'.heap.size w' w'') := fun w' => rdec_c rn (by have := HRN.out; omega) w'
      have hds : (tS (dcL rn)).size ≤ 10 := by rw [tS_size]; have := dcL_len rn 5 (by have := HRN.out; omega); omega
      have HE1 : Hid ((⟨#[114, 97, 109, 32]⟩ : ByteArray) ++ tS (dcL rn) = tS (jw [[114, 97, 109], dcL rn])) := by unfold Hid; rw [jw_cons, jw_one]; exact tS_append [114, 97, 109, 32] _
      generalize tS (dcL rn) = ds at HIT hds HE1
      generalize jw [[114, 97, 109], dcL rn] = l2 at HE1 HDL
      --@U3
      go_upto_region 12 with (first
        | (go_at_call 11; refine (HIT.out _).mono ?_; rintro e w4 ⟨rfl, hb⟩; have HB4 : Hid (Below W0.heap.size W0 w4) := HB_w3.out.trans (hb.mono HB_w3.out.size); have HO4 : Hid (w4.ownsRow W0.heap.size 9 1 v3 ([] ++ [jw [[97, 110, 118, 105, 108], [49]]]).length (stv ([] ++ [jw [[97, 110, 118, 105, 108], [49]]]))) := ownW_later HO_w3.out hb; clear hb)
        | (at_builtin; refine appW (by rfl) _ _ (by rfl) W0.heap.size _ ([] : List Tx) (by rfl) (ownW_al HO2.out _) [jw [[97, 110, 118, 105, 108], [49]]] _ 0 1 (by rfl) (bs1e _ rfl) (by simp) (by have := HB2.out.size; simp; omega) ?_; intro v3 w3 h1 h2 h3; have HO_w3 : Hid (w3.ownsRow W0.heap.size 9 1 v3 ([] ++ [jw [[97, 110, 118, 105, 108], [49]]]).length (stv ([] ++ [jw [[97, 110, 118, 105, 108], [49]]]))) := h1; have HB_w3 : Hid (Below W0.heap.size W0 w3) := ((HB2.out).alloc (HB2.out).size _).trans h2; obtain ⟨c0, c83, c84, c85⟩ := HC.out w3 HB_w3.out; clear h1 h2 h3)
        | (at_builtin; refine appW (by rfl) _ _ (by rfl) W0.heap.size _ ([] ++ [jw [[97, 110, 118, 105, 108], [49]]]) (by rfl) (ownW_al HO4.out _) [l2] _ 0 1 (by rfl) (bs1e _ HE1.out) (by simp) (by have := HB4.out.size; simp; omega) ?_; intro v5 w5 h1 h2 h3; have HO5 : Hid (w5.ownsRow W0.heap.size 9 1 v5 ([] ++ [jw [[97, 110, 118, 105, 108], [49]]] ++ [l2]).length (stv ([] ++ [jw [[97, 110, 118, 105, 108], [49]]] ++ [l2]))) := h1; have HB5 : Hid (Below W0.heap.size W0 w5) := ((HB4.out).alloc (HB4.out).size _).trans h2; clear h1 h2 h3))
      --@U4
      have HD2 : Hid (DL = ([] ++ [jw [[97, 110, 118, 105, 108], [49]]] ++ [l2]) ++ (if mt = 0#64 then [] else [jw [[109, 116, 105, 109, 101], hxT mt]]) ++ cpuLs (PR K) ++ ps.flatMap ptLs ++ wdLs ws) := HDL.out
      have HLA : Hid (([] ++ [jw [[97, 110, 118, 105, 108], [49]]] ++ [l2] : List Tx).length ≤ 10) := by unfold Hid; simp
      generalize ([] ++ [jw [[97, 110, 118, 105, 108], [49]]] ++ [l2] : List Tx) = LA at HD2 HLA HO5
      clear HDL HE1 HIT HO2 HO4 HB4 HO_w3 HB_w3 c0 c83 c84 c85 hds HB2
      obtain ⟨c0, c83, c84, c85⟩ := HC.out w5 HB5.out
      go_upto_if 52 with fail
      go_cut [6] from 52 to 59 (fun v wx => Hid (wx.ownsRow W0.heap.size 9 1 v (LA ++ (if mt = 0#64 then [] else [jw [[109, 116, 105, 109, 101], hxT mt]])).length (stv (LA ++ (if mt = 0#64 then [] else [jw [[109, 116, 105, 109, 101], hxT mt]])))) ∧ Hid (Below W0.heap.size W0 wx))
      case first =>
        by_cases hm : mt = 0#64
        · have hq : (n64 mt == 0) = true := by rw [hm]; rfl
          have hp : n64 mt = 0 := by rw [hm]; rfl
          have HF : Hid (LA ++ (if mt = 0#64 then [] else [jw [[109, 116, 105, 109, 101], hxT mt]]) = LA) := by unfold Hid; rw [if_pos hm, List.append_nil]
          clear hm
          go_wp2
          go_meet
          exact ⟨by rw [HF.out]; exact HO5, HB5⟩
        · have hq : (n64 mt == 0) = false := n64_ne (y := 0#64) hm
          have hp : ¬ n64 mt = 0 := by simpa using hq
          obtain ⟨l3, hl3⟩ : ∃ l3, l3 = jw [[109, 116, 105, 109, 101], hxT mt] := ⟨_, rfl⟩
          have HF : Hid (LA ++ (if mt = 0#64 then [] else [jw [[109, 116, 105, 109, 101], hxT mt]]) = LA ++ [l3]) := by unfold Hid; rw [if_neg hm, hl3]
          have HX : Hid (∀ w', Calls Tryd.prog 12 #[.int .u64 (n64 mt)] w' fun e w'' => e = .returned (.string (tS (hxT mt))) ∧ Below w'.heap.size w' w'') := fun w' => rhx_c _ w'
          have hds : (tS (hxT mt)).size ≤ 20 := by rw [tS_size]; have := hxT_len mt; omega
          have HE1 : Hid ((⟨#[109, 116, 105, 109, 101, 32]⟩ : ByteArray) ++ tS (hxT mt) = tS l3) := by unfold Hid; rw [hl3, jw_cons, jw_one]; exact tS_append [109, 116, 105, 109, 101, 32] _
          generalize tS (hxT mt) = hs at HX hds HE1
          clear hm hl3
          go_wp2_with (first
            | (go_at_call 12; refine (HX.out _).mono ?_; rintro e w6 ⟨rfl, hb⟩; have HB6 : Hid (Below W0.heap.size W0 w6) := HB5.out.trans (hb.mono HB5.out.size); have HO6 : Hid (w6.ownsRow W0.heap.size 9 1 v5 LA.length (stv LA)) := ownW_later HO5.out hb; clear hb)
            | (at_builtin; refine appW (by rfl) _ _ (by rfl) W0.heap.size _ LA (by rfl) (ownW_al HO6.out _) [l3] _ 0 1 (by rfl) (bs1e _ HE1.out) (by have := HLA.out; simp; omega) (by have := HB6.out.size; simp; omega) ?_; intro v7 w7 h1 h2 h3; have HO7 : Hid (w7.ownsRow W0.heap.size 9 1 v7 (LA ++ [l3]).length (stv (LA ++ [l3]))) := h1; have HB7 : Hid (Below W0.heap.size W0 w7) := ((HB6.out).alloc (HB6.out).size _).trans h2; clear h1 h2 h3))
          go_meet
          exact ⟨by rw [HF.out]; exact HO7, HB7⟩
      case rest =>
        obtain ⟨HOc, HBc⟩ := hcut
        have HLB : Hid ((LA ++ (if mt = 0#64 then [] else [jw [[109, 116, 105, 109, 101], hxT mt]])).length ≤ 20) := by unfold Hid; rw [List.length_append]; have := HLA.out; split <;> simp <;> omega
        generalize LA ++ (if mt = 0#64 then [] else [jw [[109, 116, 105, 109, 101], hxT mt]]) = LB at HD2 HOc HLB
        clear HO5 HB5 c0 c83 c84 c85 HLA
        rename World => w8
        have HCL : Hid ((cpuLs (PR K)).length ≤ 64) := cpuLs_cnt _
        have HRC : Hid (∀ w', Below W0.heap.size W0 w' → Calls Tryd.prog 13 #[.agg (cpc (PR K))] w' fun e w'' => ∃ u, e = .returned u ∧ w''.ownsRow w'.heap.size 9 1 u (cpuLs (PR K)).length (stv (cpuLs (PR K))) ∧ Below w'.heap.size w' w'') := fun w' hb => rcpu_c (PR K) (PR_x0z K) (PR_rs K) w' (HT.out w' hb)
        generalize cpuLs (PR K) = LC at HD2 HCL HRC
        --@U5
        go_upto_region 15 with (first
          | (go_at_call 14; refine (rPr_c K _).mono ?_; rintro e w9 ⟨rfl, hb⟩; have HB9 : Hid (Below W0.heap.size W0 w9) := HBc.out.trans (hb.mono HBc.out.size); have HO9 : Hid (w9.ownsRow W0.heap.size 9 1 u6 LB.length (stv LB)) := ownW_later HOc.out hb; clear hb)
          | (go_at_call 13; refine (HRC.out _ HB9.out).mono ?_; rintro e wa ⟨ux, rfl, hox, hb⟩; have HBa : Hid (Below W0.heap.size W0 wa) := HB9.out.trans (hb.mono HB9.out.size); have HOa : Hid (wa.ownsRow W0.heap.size 9 1 u6 LB.length (stv LB)) := ownW_later HO9.out hb; have HOX : Hid (wa.ownsRow w9.heap.size 9 1 ux LC.length (stv LC)) := hox; clear hb hox)
          | (at_builtin; refine appW2 (by rfl) _ _ (by rfl) W0.heap.size _ LB (by rfl) HOa.out _ LC w9.heap.size (by rfl) HOX.out (by have := HLB.out; have := HCL.out; omega) HBa.out.size ?_; intro vb wb h1 h2 h3; have HOb : Hid (wb.ownsRow W0.heap.size 9 1 vb (LB ++ LC).length (stv (LB ++ LC))) := h1; have HBb : Hid (Below W0.heap.size W0 wb) := HBa.out.trans h2; clear h1 h2 h3)
          | (refine wpList_load_agg (by rfl) 31 _ (by rfl) w.heap.size 1 (by rfl) (cpc K) _ (HCK.out _ HBc.out) Tryd.underlying31 (by rfl) (info_cpu _) ?_))
        have HLD : Hid ((LB ++ LC).length ≤ 100) := by unfold Hid; rw [List.length_append]; have := HLB.out; have := HCL.out; omega
        generalize LB ++ LC = LD at HD2 HOb HLD
        clear HRC HCL HLB HOc HBc HB9 HO9 HBa HOa HOX
        go_upto_region 16 with fail
        --@U6
        go_loopw [6, 7] (fun v i wr => ∃ q : Nat, q ≤ k ∧ i = .int .i64 q ∧ Hid (wr.ownsRow W0.heap.size 9 1 v (LD ++ (ps.take q).flatMap ptLs).length (stv (LD ++ (ps.take q).flatMap ptLs))) ∧ Hid (Below W0.heap.size W0 wr)) (fun _ i _ => k - (intOf i).toNat)
        case atStart => exact ⟨0, Nat.zero_le _, rfl, by rw [List.take_zero, List.flatMap_nil, List.append_nil]; exact HOb, HBb⟩
        case round =>
          obtain ⟨q, hq, rfl, HOr, HBr⟩ := hrel
          clear HOb HBb
          obtain ⟨c0, c83, c84, c85⟩ := HC.out wr HBr.out
          by_cases hlt : q < k
          · have hltI : (q : Int) < k := by omega
            obtain ⟨g, off, cap2, e1, hc2, hg, hcs⟩ := HV.out.at q (by rw [← HN.out]; exact hlt)
            cases e1
            obtain ⟨uk, hck, hbk, hak⟩ := hcs q (by rw [← HN.out]; exact hlt)
            have hmem : ps.getD q pt0 ∈ ps := by rw [List.getD_eq_getElem?_getD, List.getElem?_eq_getElem (by rw [← HN.out]; exact hlt)]; exact List.getElem_mem _
            have hsp := HS.out.2.2.2.2.1 _ hmem
            have HNX : Hid (LD ++ (ps.take (q + 1)).flatMap ptLs = LD ++ (ps.take q).flatMap ptLs ++ ptLs (ps.getD q pt0)) := by unfold Hid; rw [flat_snoc ps q (by rw [← HN.out]; exact hlt), List.append_assoc]
            have HLX : Hid ((LD ++ (ps.take q).flatMap ptLs).length ≤ 40000) := by unfold Hid; rw [List.length_append]; have := pt_cnt ps HS.out.2.2.2.2.1 q; have := HLD.out; omega
            have HPL : Hid ((ptLs (ps.getD q pt0)).length ≤ 70000) := by unfold Hid ptLs; rw [List.length_cons]; have := dtLs_cnt _ (ps.getD q pt0).d (Nat.le_refl _); omega
            generalize LD ++ (ps.take q).flatMap ptLs = m at HOr HNX HLX
            have HRP : Hid (∀ w', Below W0.heap.size W0 w' → Calls Tryd.prog 15 #[.agg #[.int .u64 (n64 (ps.getD q pt0).a), .int .u64 (n64 (ps.getD q pt0).s), .int .i64 (ps.getD q pt0).f, uk]] w' fun e w'' => ∃ u, e = .returned u ∧ w''.ownsRow w'.heap.size 9 1 u (ptLs (ps.getD q pt0)).length (stv (ptLs (ps.getD q pt0))) ∧ Below w'.heap.size w' w'') := fun w' hb => rpart_c (ps.getD q pt0) uk w' (hbk.later hb rfl) hak ⟨hsp.2.2.1, hsp.2.2.2⟩ (by omega) (by omega)
            have HCK2 : Hid (∀ i y, (#[.int .u64 (n64 (ps.getD q pt0).a), .int .u64 (n64 (ps.getD q pt0).s), .int .i64 (ps.getD q pt0).f, uk] : Array Value)[i]? = some y → wr.cell? ⟨g, off + q * 4 + i, none⟩ = some y) := fun i y h => (HBr.out.cell (p := ⟨g, off + q * 4 + i, none⟩) hg).trans (hck i y h)
            generalize ptLs (ps.getD q pt0) = PL at HRP HNX HPL
            generalize n64 (ps.getD q pt0).a = A at *
            generalize n64 (ps.getD q pt0).s = S at *
            generalize (ps.getD q pt0).f = F at *
            have HKN : Hid (q + 1 ≤ k) := hlt
            clear hck hak hg hcs hc2 hbk hsp hmem hlt
            go_wp2_with (first
              | (go_at_call 15; refine (HRP.out _ HBr.out).mono ?_; rintro e wc ⟨ux, rfl, hox, hb⟩; have HBc : Hid (Below W0.heap.size W0 wc) := HBr.out.trans (hb.mono HBr.out.size); have HOc : Hid (wc.ownsRow W0.heap.size 9 1 u6 m.length (stv m)) := ownW_later HOr.out hb; have HOX : Hid (wc.ownsRow wr.heap.size 9 1 ux PL.length (stv PL)) := hox; clear hb hox)
              | (at_builtin; refine appW2 (by rfl) _ _ (by rfl) W0.heap.size _ m (by rfl) HOc.out _ PL wr.heap.size (by rfl) HOX.out (by have := HLX.out; have := HPL.out; omega) HBc.out.size ?_; intro vd wd h1 h2 h3; have HOd : Hid (wd.ownsRow W0.heap.size 9 1 vd (m ++ PL).length (stv (m ++ PL))) := h1; have HBd : Hid (Below W0.heap.size W0 wd) := HBc.out.trans h2; clear h1 h2 h3)
              | (refine wpList_load_agg (by rfl) 46 _ (by rfl) g (off + q * 4) (by rfl) #[.int .u64 A, .int .u64 S, .int .i64 F, uk] _ HCK2.out Tryd.underlying46 (by rfl) (info_sg _ _ _ _) ?_))
            go_roundw
            case rel => exact ⟨q + 1, HKN.out, by go_num, by rw [HNX.out]; exact HOd, HBd⟩
            case measure => have := HKN.out; simp [intOf]; omega
          · have hqe : q = k := by omega
            have HE7 : Hid (LD ++ (ps.take q).flatMap ptLs = LD ++ ps.flatMap ptLs) := by unfold Hid; rw [hqe, HN.out, List.take_length]
            have HLX : Hid ((LD ++ ps.flatMap ptLs).length ≤ 40000) := by unfold Hid; rw [List.length_append]; have := pt_cnt ps HS.out.2.2.2.2.1 ps.length; rw [List.take_length] at this; have := HLD.out; have := HS.out; omega
            rw [HE7.out] at HOr
            have HD3 : Hid ((LD ++ ps.flatMap ptLs) ++ wdLs (ws.drop 0) = DL) := by unfold Hid; rw [List.drop_zero]; exact HD2.out.symm
            generalize LD ++ ps.flatMap ptLs = LE at HOr HLX HD3
            have hqe2 : Hid (q = k) := hqe
            clear HE7 HD2 HLD hqe hlt hq
            rename World => wx
            have HO8 : Hid (wx.ownsRow W0.heap.size 9 1 u6 LE.length (stv LE)) := HOr
            have HB8 : Hid (Below W0.heap.size W0 wx) := HBr
            clear HOr HBr
            have hqk : ¬ (q : Int) < (k : Int) := by have := hqe2.out; omega
            go_upto_region 20 with fail
            clear c0 c83 c84 c85 hqk
            --@U7
            go_loopw [6, 8, 9, 10] (fun v i _ _ wr => ∃ q : Nat, ∃ m : List Tx, q ≤ M ∧ i = .int .i64 q ∧ Hid (wr.ownsRow W0.heap.size 9 1 v m.length (stv m)) ∧ Hid (m ++ wdLs (ws.drop q) = DL) ∧ Hid (Below W0.heap.size W0 wr)) (fun _ i _ _ _ => M - (intOf i).toNat)
            case atStart => exact ⟨0, LE, Nat.zero_le _, rfl, HO8, HD3, HB8⟩
            case round =>
              obtain ⟨q, m, hq, rfl, HO5, HE, HB5⟩ := hrel
              clear HO8 HB8 HD3 HLX hqe2
              obtain ⟨c0, c83, c84, c85⟩ := HC.out wr HB5.out
              have HLM : Hid (m.length ≤ 40000) := by unfold Hid; have := congrArg List.length HE.out; rw [List.length_append] at this; have := HCTT.out; omega
              by_cases hlt : q < M
              · have hltI : (q : Int) < M := by omega
                obtain ⟨g, off, cap2, e1, hc2, hg, hcs⟩ := HU.out.at q (by rw [← HM.out]; exact hlt)
                cases e1
                have HCS : Hid (∀ j, j < ws.length → ∃ u, (∀ i y, (#[.bool (ws.getD j wd0).t, .bool (ws.getD j wd0).e, .bool (ws.getD j wd0).s, u] : Array Value)[i]? = some y → W0.cell? ⟨g, off + j * 4 + i, none⟩ = some y) ∧ Byt W0 u (ws.getD j wd0).i ∧ AllB (ws.getD j wd0).i) := hcs
                obtain ⟨uk, hck, hbk, hak⟩ := hcs q (by rw [← HM.out]; exact hlt)
                have HGG : Hid (g < W0.heap.size) := hg
                have HIL : Hid (∀ j, j < ws.length → (ws.getD j wd0).i.length ≤ 64) := fun j hj => HS.out.2.2.2.2.2 _ (by rw [List.getD_eq_getElem?_getD, List.getElem?_eq_getElem hj]; exact List.getElem_mem hj)
                have hil := HIL.out q (by rw [← HM.out]; exact hlt)
                have HD0 : Hid (ws.drop q = ws.getD q wd0 :: ws.drop (q + 1)) := drop_at ws q (by rw [← HM.out]; exact hlt)
                generalize ws.getD q wd0 = x at hck hbk hak hil HD0
                have HCK2 : Hid (∀ i y, (#[.bool x.t, .bool x.e, .bool x.s, uk] : Array Value)[i]? = some y → wr.cell? ⟨g, off + q * 4 + i, none⟩ = some y) := fun i y h => (HB5.out.cell (p := ⟨g, off + q * 4 + i, none⟩) hg).trans (hck i y h)
                have HWW : Hid (∀ w', Below W0.heap.size W0 w' → Calls Tryd.prog 16 #[.agg #[.bool x.t, .bool x.e, .bool x.s, uk]] w' fun e w'' => e = .returned (.string (tS (wdX x))) ∧ Below w'.heap.size w' w'') := fun w' hb => rwords_c x.t x.e x.s x.i hak (by omega) uk w' (hbk.later hb rfl)
                have hss : (tS (wdX x)).size ≤ 300 := by rw [tS_size]; exact wdX_len x hil
                have HAX : Hid (AllB x.i) := hak
                obtain ⟨s, hs⟩ : ∃ s, s = tS (wdX x) := ⟨_, rfl⟩
                rw [← hs] at HWW hss
                have HSX : Hid (s = tS (wdX x)) := hs
                clear hck hbk hak hg hcs hc2 hil hs
                --@U8
                go_upto_region 22 with (first
                  | (go_at_call 16; refine (HWW.out _ HB5.out).mono ?_; rintro e wq ⟨rfl, hb⟩; have HBq : Hid (Below W0.heap.size W0 wq) := HB5.out.trans (hb.mono HB5.out.size); have HOq : Hid (wq.ownsRow W0.heap.size 9 1 u6 m.length (stv m)) := ownW_later HO5.out hb; clear hb)
                  | (refine wpList_load_agg (by rfl) 48 _ (by rfl) g (off + q * 4) (by rfl) #[.bool x.t, .bool x.e, .bool x.s, uk] _ HCK2.out Tryd.underlying48 (by rfl) (info_wd _ _ _ _) ?_))
                clear HO5 HB5 HCK2 HWW c0 c83 c84 c85
                have HO5 := HOq
                have HB5 := HBq
                clear HOq HBq
                have hlt2 : Hid (q < M) := hlt
                clear hlt
                go_upto_region 23 with fail
                --@U9
                go_loopw [10] (fun n wr => ∃ j : Nat, 1 ≤ j ∧ q + j ≤ M ∧ n = .int .i64 j ∧ Hid (runN x (ws.drop (q + 1)) = (j - 1) + runN x (ws.drop (q + j))) ∧ Hid (Below wq.heap.size wq wr)) (fun n _ => M - (intOf n).toNat)
                case atStart => exact ⟨1, Nat.le_refl _, hlt2.out, rfl, by unfold Hid; omega, Below.refl _ _⟩
                case round =>
                  obtain ⟨j, hj1, hj2, rfl, HRN, HB59⟩ := hrel
                  have HBW : Hid (Below W0.heap.size W0 wr) := HB5.out.trans (HB59.out.mono HB5.out.size)
                  obtain ⟨c0, c83, c84, c85⟩ := HC.out wr HBW.out
                  by_cases hjn : q + j < M
                  · obtain ⟨t, ht⟩ : ∃ t, t = q + j := ⟨_, rfl⟩
                    have hqj : (q : Int) + (j : Int) = (t : Int) := by omega
                    have htM : t < M := by omega
                    have hjI : (t : Int) < (M : Int) := by omega
                    obtain ⟨uc, hcc, hbc, hac⟩ := HCS.out t (by rw [← HM.out]; exact htM)
                    have hil := HIL.out t (by rw [← HM.out]; exact htM)
                    have HDC : Hid (ws.drop (q + j) = ws.getD t wd0 :: ws.drop (q + j + 1)) := by unfold Hid; rw [ht]; exact drop_at ws (q + j) (by rw [← HM.out]; exact hjn)
                    clear ht
                    generalize ws.getD t wd0 = y at hcc hbc hac hil HDC
                    have HCK2 : Hid (∀ i z, (#[.bool y.t, .bool y.e, .bool y.s, uc] : Array Value)[i]? = some z → wr.cell? ⟨g, off + t * 4 + i, none⟩ = some z) := fun i z h => (HBW.out.cell (p := ⟨g, off + t * 4 + i, none⟩) HGG.out).trans (hcc i z h)
                    have HWY : Hid (Calls Tryd.prog 16 #[.agg #[.bool y.t, .bool y.e, .bool y.s, uc]] wr fun e w'' => e = .returned (.string (tS (wdX y))) ∧ Below wr.heap.size wr w'') := rwords_c y.t y.e y.s y.i hac (by omega) uc wr (hbc.later HBW.out rfl)
                    have hab := wdX_eqb x y HAX.out hac
                    rcases hab with h | ⟨h, p1, p2, p3⟩
                    · have hxy : Hid (tS (wdX y) = s) := by unfold Hid; rw [HSX.out, alB_iff.1 h]
                      have HRH : Hid (runN x (ws.drop (q + 1)) = (j + 1 - 1) + runN x (ws.drop (q + (j + 1)))) := by unfold Hid; have := HRN.out; rw [HDC.out, runN_hit _ _ _ h] at this; rw [show q + (j + 1) = q + j + 1 by omega]; omega
                      rw [hxy.out] at HWY
                      have HJN : Hid (q + (j + 1) ≤ M) := hjn
                      clear hcc hbc hac hil h
                      --@UA
                      go_wp2_with (first
                        | (go_at_call 16; refine HWY.out.mono ?_; rintro e wz ⟨rfl, hb⟩; have HBz : Hid (Below wq.heap.size wq wz) := HB59.out.trans (hb.mono HB59.out.size); clear hb)
                        | (refine wpList_load_aggG (by rfl) 48 _ (by rfl) g (off + t * 4) (by rfl) #[.bool y.t, .bool y.e, .bool y.s, uc] _ HCK2.out Tryd.underlying48 (by rfl) (info_wd _ _ _ _) ?_))
                      go_roundw
                      case rel => exact ⟨j + 1, by omega, HJN.out, by go_num, HRH, HBz⟩
                      case measure => have := HJN.out; simp [intOf]; omega
                    · have HRC : Hid (runN x (ws.drop (q + 1)) = j - 1) := by unfold Hid; have := HRN.out; rw [HDC.out, runN_miss _ _ _ h] at this; omega
                      rw [← HSX.out] at p1 p2 p3
                      have p4 : ((tS (wdX y)).toList == s.toList) = false := by rw [beq_eq_false_iff_ne]; exact p1
                      generalize tS (wdX y) = sy at HWY p1 p2 p3 p4
                      clear hcc hbc hac hil h HDC
                      --@UB
                      go_upto_region 25 with (first
                        | (go_at_call 16; refine HWY.out.mono ?_; rintro e W9 ⟨rfl, hb⟩; replace HB59 : Hid (Below wq.heap.size wq W9) := HB59.out.trans (hb.mono HB59.out.size); clear hb)
                        | (refine wpList_load_aggG (by rfl) 48 _ (by rfl) g (off + t * 4) (by rfl) #[.bool y.t, .bool y.e, .bool y.s, uc] _ HCK2.out Tryd.underlying48 (by rfl) (info_wd _ _ _ _) ?_))
                      clear c0 c83 c84 c85 HWY HCK2 p1 p2 p3 p4 HBW HRN hqj hjI htM
                      have HNX : Hid (m ++ [wdH j x] ++ wdLs (ws.drop (q + j)) = DL) := by
                        have e1 : 1 + runN x (ws.drop (q + 1)) = j := by have := HRC.out; omega
                        have e2 : (ws.drop (q + 1)).drop (runN x (ws.drop (q + 1))) = ws.drop (q + j) := by rw [List.drop_drop]; congr 1; have := HRC.out; omega
                        unfold Hid; have := HE.out; rw [HD0.out, wdLs_more, e1, e2] at this; rw [← this]; simp
                      have HJM : Hid (1 ≤ j ∧ q + j ≤ M) := ⟨hj1, hj2⟩
                      have HO9 : Hid (W9.ownsRow W0.heap.size 9 1 u6 m.length (stv m)) := ownW_later HO5.out HB59.out
                      have HB9 : Hid (Below W0.heap.size W0 W9) := HB5.out.trans (HB59.out.mono HB5.out.size)
                      by_cases h1 : j = 1
                      · have hj1 : j = 1 := h1
                        subst hj1
                        have HEQ : Hid ((⟨#[115, 116, 101, 112]⟩ : ByteArray) ++ s = tS (wdH 1 x)) := by unfold Hid wdH; rw [HSX.out, if_pos rfl]; exact tS_append [115, 116, 101, 112] _
                        generalize wdH 1 x = ln at HEQ HNX
                        clear h1 hj2 HRC
                        --@V1
                        go_wp2_with (at_builtin; refine appW (by rfl) _ _ (by rfl) W0.heap.size _ m (by rfl) (ownW_al HO9.out _) [ln] _ 0 1 (by rfl) (bs1e _ HEQ.out) (by have := HLM.out; simp; omega) (by have := HB9.out.size; simp; omega) ?_; intro vk wk h1 h2 h3; have HO_wk : Hid (wk.ownsRow W0.heap.size 9 1 vk (m ++ [ln]).length (stv (m ++ [ln]))) := h1; have HB_wk : Hid (Below W0.heap.size W0 wk) := ((HB9.out).alloc (HB9.out).size _).trans h2; clear h1 h2 h3)
                        go_roundw
                        case rel => exact ⟨q + 1, m ++ [ln], HJM.out.2, by go_num, HO_wk, HNX, HB_wk⟩
                        case measure => have := HJM.out; simp [intOf]; omega
                      · have hjb : ((j : Int) == 1) = false := by rw [beq_eq_false_iff_ne]; omega
                        have hjp : ¬ (j : Int) = 1 := by omega
                        have HDEC : Hid (∀ w', Calls Tryd.prog 11 #[.int .i64 (j : Int)] w' fun e w'' => e = .returned (.string (tS (dcL j))) ∧ Below w'.heap.size w' w'') := fun w' => rdec_c j (by omega) w'
                        have hdj : (tS (dcL j)).size ≤ 10 := by rw [tS_size]; have := dcL_len j 4 (by omega); omega
                        have HEQ : Hid (((⟨#[115, 116, 101, 112, 115, 32]⟩ : ByteArray) ++ tS (dcL j)) ++ s = tS (wdH j x)) := by unfold Hid wdH; rw [HSX.out, if_neg h1, ← tS_append, ← tS_append]; rfl
                        generalize wdH j x = ln at HEQ HNX
                        generalize tS (dcL j) = dj at HDEC hdj HEQ
                        clear h1 HRC
                        --@V2
                        go_wp2_with (first
                          | (go_at_call 11; refine (HDEC.out _).mono ?_; rintro e wj ⟨rfl, hb⟩; have HBj : Hid (Below W0.heap.size W0 wj) := HB9.out.trans (hb.mono HB9.out.size); have HOj : Hid (wj.ownsRow W0.heap.size 9 1 u6 m.length (stv m)) := ownW_later HO9.out hb; clear hb)
                          | (at_builtin; refine appW (by rfl) _ _ (by rfl) W0.heap.size _ m (by rfl) (ownW_al HOj.out _) [ln] _ 0 1 (by rfl) (bs1e _ HEQ.out) (by have := HLM.out; simp; omega) (by have := HBj.out.size; simp; omega) ?_; intro vk wk h1 h2 h3; have HO_wk : Hid (wk.ownsRow W0.heap.size 9 1 vk (m ++ [ln]).length (stv (m ++ [ln]))) := h1; have HB_wk : Hid (Below W0.heap.size W0 wk) := ((HBj.out).alloc (HBj.out).size _).trans h2; clear h1 h2 h3))
                        go_roundw
                        case rel => exact ⟨q + j, m ++ [ln], HJM.out.2, by go_num, HO_wk, HNX, HB_wk⟩
                        case measure => have := HJM.out; simp [intOf]; omega
                  · have hjI : ¬ (q : Int) + (j : Int) < (M : Int) := by omega
                    have HRC : Hid (runN x (ws.drop (q + 1)) = j - 1) := by
                      unfold Hid; have := HRN.out
                      have e : ws.drop (q + j) = [] := List.drop_of_length_le (by rw [← HM.out]; omega)
                      rw [e] at this; simpa [runN] using this
                    go_upto_region 25 with fail
                    clear c0 c83 c84 c85 HBW HRN hjI
                    rename World => W9
                    have HNX : Hid (m ++ [wdH j x] ++ wdLs (ws.drop (q + j)) = DL) := by
                      have e1 : 1 + runN x (ws.drop (q + 1)) = j := by have := HRC.out; omega
                      have e2 : (ws.drop (q + 1)).drop (runN x (ws.drop (q + 1))) = ws.drop (q + j) := by rw [List.drop_drop]; congr 1; have := HRC.out; omega
                      unfold Hid; have := HE.out; rw [HD0.out, wdLs_more, e1, e2] at this; rw [← this]; simp
                    have HJM : Hid (1 ≤ j ∧ q + j ≤ M) := ⟨hj1, hj2⟩
                    have HO9 : Hid (W9.ownsRow W0.heap.size 9 1 u6 m.length (stv m)) := ownW_later HO5.out HB59.out
                    have HB9 : Hid (Below W0.heap.size W0 W9) := HB5.out.trans (HB59.out.mono HB5.out.size)
                    by_cases h1 : j = 1
                    · have hj1 : j = 1 := h1
                      subst hj1
                      have HEQ : Hid ((⟨#[115, 116, 101, 112]⟩ : ByteArray) ++ s = tS (wdH 1 x)) := by unfold Hid wdH; rw [HSX.out, if_pos rfl]; exact tS_append [115, 116, 101, 112] _
                      generalize wdH 1 x = ln at HEQ HNX
                      clear h1 hj2 HRC
                      --@V1
                      go_wp2_with (at_builtin; refine appW (by rfl) _ _ (by rfl) W0.heap.size _ m (by rfl) (ownW_al HO9.out _) [ln] _ 0 1 (by rfl) (bs1e _ HEQ.out) (by have := HLM.out; simp; omega) (by have := HB9.out.size; simp; omega) ?_; intro vk wk h1 h2 h3; have HO_wk : Hid (wk.ownsRow W0.heap.size 9 1 vk (m ++ [ln]).length (stv (m ++ [ln]))) := h1; have HB_wk : Hid (Below W0.heap.size W0 wk) := ((HB9.out).alloc (HB9.out).size _).trans h2; clear h1 h2 h3)
                      go_roundw
                      case rel => exact ⟨q + 1, m ++ [ln], HJM.out.2, by go_num, HO_wk, HNX, HB_wk⟩
                      case measure => have := HJM.out; simp [intOf]; omega
                    · have hjb : ((j : Int) == 1) = false := by rw [beq_eq_false_iff_ne]; omega
                      have hjp : ¬ (j : Int) = 1 := by omega
                      have HDEC : Hid (∀ w', Calls Tryd.prog 11 #[.int .i64 (j : Int)] w' fun e w'' => e = .returned (.string (tS (dcL j))) ∧ Below w'.heap.size w' w'') := fun w' => rdec_c j (by omega) w'
                      have hdj : (tS (dcL j)).size ≤ 10 := by rw [tS_size]; have := dcL_len j 4 (by omega); omega
                      have HEQ : Hid (((⟨#[115, 116, 101, 112, 115, 32]⟩ : ByteArray) ++ tS (dcL j)) ++ s = tS (wdH j x)) := by unfold Hid wdH; rw [HSX.out, if_neg h1, ← tS_append, ← tS_append]; rfl
                      generalize wdH j x = ln at HEQ HNX
                      generalize tS (dcL j) = dj at HDEC hdj HEQ
                      clear h1 HRC
                      --@V2
                      go_wp2_with (first
                        | (go_at_call 11; refine (HDEC.out _).mono ?_; rintro e wj ⟨rfl, hb⟩; have HBj : Hid (Below W0.heap.size W0 wj) := HB9.out.trans (hb.mono HB9.out.size); have HOj : Hid (wj.ownsRow W0.heap.size 9 1 u6 m.length (stv m)) := ownW_later HO9.out hb; clear hb)
                        | (at_builtin; refine appW (by rfl) _ _ (by rfl) W0.heap.size _ m (by rfl) (ownW_al HOj.out _) [ln] _ 0 1 (by rfl) (bs1e _ HEQ.out) (by have := HLM.out; simp; omega) (by have := HBj.out.size; simp; omega) ?_; intro vk wk h1 h2 h3; have HO_wk : Hid (wk.ownsRow W0.heap.size 9 1 vk (m ++ [ln]).length (stv (m ++ [ln]))) := h1; have HB_wk : Hid (Below W0.heap.size W0 wk) := ((HBj.out).alloc (HBj.out).size _).trans h2; clear h1 h2 h3))
                      go_roundw
                      case rel => exact ⟨q + j, m ++ [ln], HJM.out.2, by go_num, HO_wk, HNX, HB_wk⟩
                      case measure => have := HJM.out; simp [intOf]; omega
              · have hqe : q = M := by omega
                have HE9 : Hid (m = DL) := by unfold Hid; have := HE.out; rw [hqe, HM.out, List.drop_length, wdLs_nil, List.append_nil] at this; exact this
                have hqI : ¬ (q : Int) < (M : Int) := by omega
                have hqe2 : Hid (q = M) := hqe
                clear hqe hlt hq HE
                --@UC
                rw [HE9.out] at HO5
                clear HE9 HLM
                rename World => w9
                have hqI2 : Hid True := trivial
                have HCX : Hid (∀ i, i < DL.length → ∃ gl cl, u6 = .slice (some ⟨gl, 0, none⟩) DL.length cl ∧ gl < w9.heap.size ∧ w9.cell? ⟨gl, i, none⟩ = some (.string (tS (DL.getD i [])))) := fun i hi => by
                  obtain ⟨gl, cl, e, _, hgl, hcl⟩ := own_slice HO5.out (by intro e; rw [e] at hi; simp at hi)
                  refine ⟨gl, cl, e, hgl, ?_⟩
                  have := hcl i (DL.getD i []) (by simp [List.getD, hi])
                  rw [Nat.zero_add] at this; exact this
                have hform : ∃ a c, u6 = .slice a DL.length c := by
                  rcases HO5.out.2 with ⟨e, h0⟩ | ⟨gl, cl, cur, e, _⟩
                  · exact ⟨none, 0, by rw [e, h0]⟩
                  · exact ⟨_, _, e⟩
                obtain ⟨la, lc, rfl⟩ := hform
                obtain ⟨n, hn⟩ : ∃ n, n = DL.length := ⟨_, rfl⟩
                have HNL : Hid (n = DL.length) := hn
                have hn4 : n ≤ 40000 := by rw [hn]; exact HCTT.out.1
                have HZE : Hid (lnT (DL.take n) = lnT DL) := by unfold Hid; rw [hn, List.take_length]
                go_upto_region 31 with fail
                rw [← hn] at HCX ⊢
                clear hn
                --@UD
                go_loopw [11, 12] (fun t i wr => ∃ q : Nat, q ≤ n ∧ i = .int .i64 q ∧ t = .int .i64 ((lnT (DL.take q)).length : Int) ∧ Hid (Below w9.heap.size w9 wr)) (fun _ i _ => n - (intOf i).toNat)
                case atStart => exact ⟨0, Nat.zero_le _, rfl, rfl, Below.refl _ _⟩
                case round =>
                  obtain ⟨q2, hq2, rfl, rfl, HBz⟩ := hrel
                  by_cases hl2 : q2 < n
                  · have hI2 : (q2 : Int) < (n : Int) := by omega
                    obtain ⟨gl, cl, e1, hgl, hcl⟩ := HCX.out q2 hl2
                    cases e1
                    have hc2 : wr.cell? ⟨gl, q2, none⟩ = some (.string (tS (DL.getD q2 []))) := (HBz.out.cell (p := ⟨gl, q2, none⟩) hgl).trans hcl
                    have hsz := tS_size (DL.getD q2 [])
                    have htk := congrArg List.length (take_line DL q2 (by rw [← HNL.out]; exact hl2))
                    have hle := lnT_take_le DL (q2 + 1)
                    have hmx := HCTT.out.2
                    simp only [List.length_append, List.length_cons, List.length_nil] at htk
                    have HTK : Hid (((lnT (DL.take (q2 + 1))).length : Int) = ((lnT (DL.take q2)).length : Int) + ((DL.getD q2 []).length : Int) + 1) := by unfold Hid; omega
                    have hbd : (lnT (DL.take q2)).length + (DL.getD q2 []).length + 1 ≤ 20000000 := by omega
                    generalize (lnT (DL.take q2)).length = a1 at HTK hbd ⊢
                    generalize (DL.getD q2 []).length = b1 at HTK hbd hsz
                    generalize tS (DL.getD q2 []) = sx at hc2 hsz
                    have HKN : Hid (q2 + 1 ≤ n) := hl2
                    clear htk hle hmx hgl hcl hl2
                    --@UE
                    go_wp2
                    go_roundw
                    case rel => exact ⟨q2 + 1, HKN.out, by go_num, by rw [HTK.out], HBz⟩
                    case measure => have := HKN.out; simp [intOf]; omega
                  · have hqe : q2 = n := by omega
                    have hI2 : ¬ (q2 : Int) < (n : Int) := by omega
                    have HSZ : Hid (((lnT (DL.take q2)).length : Int) = ((lnT DL).length : Int)) := by unfold Hid; rw [hqe, HZE.out]
                    rw [HSZ.out]
                    have HB10 : Hid (Below W0.heap.size W0 wr) := HB5.out.trans (HBz.out.mono HB5.out.size)
                    have HO10 : Hid (wr.ownsRow W0.heap.size 9 1 (.slice la n lc) DL.length (stv DL)) := by have := ownW_later HO5.out HBz.out; rw [← HNL.out] at this ⊢; exact this
                    by_cases hbig : (400000 : Int) < ((lnT DL).length : Int)
                    · have HE : Hid (Z = ([], 4)) := by unfold Hid; rw [HZ2.out, if_pos hbig]
                      generalize ((lnT DL).length : Int) = lz at hbig ⊢
                      clear hqe hq2
                      go_wp2
                      go_ret2
                      exact ⟨by rw [HE.out]; rfl, b0.out.trans (HB10.out.mono b0.out.size)⟩
                    · have HE : Hid (Z = (lnT DL, 0)) := by unfold Hid; rw [HZ2.out, if_neg hbig]
                      have HJ : Hid (Calls Tryd.prog 17 #[.slice la n lc] wr fun e w'' => e = .returned (.string (tS (lnT DL))) ∧ Below wr.heap.size wr w'') := rjoin_c DL (.slice la n lc) W0.heap.size wr HO10.out (by have := HCTT.out; omega) (by have := HCTT.out; omega)
                      have HSE : Hid (tS Z.1 = tS (lnT DL) ∧ Z.2 = 0) := ⟨by rw [HE.out], by rw [HE.out]⟩
                      generalize tS (lnT DL) = sz at HJ HSE
                      generalize ((lnT DL).length : Int) = lz at hbig ⊢
                      clear hqe hq2 HE
                      go_wp2_with (go_at_call 17; refine HJ.out.mono ?_; rintro e w11 ⟨rfl, hb⟩; have HB11 : Hid (Below W0.heap.size W0 w11) := HB10.out.trans (hb.mono HB10.out.size); clear hb)
                      go_ret2
                      exact ⟨by rw [HSE.out.1, HSE.out.2]; rfl, b0.out.trans (HB11.out.mono b0.out.size)⟩
end Go.Proofs.YthmjimmmkoeeoaaDoor
