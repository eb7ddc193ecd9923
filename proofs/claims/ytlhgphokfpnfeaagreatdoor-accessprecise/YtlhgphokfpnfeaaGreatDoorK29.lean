import Derived.Test.YtlhgphokfpnfeaaGreatDoorK28
import Derived.Deep.CutRange
namespace Go.Proofs.YtlhgphokfpnfeaaGreatDoor
set_option linter.unusedVariables false
open Go.MuLone Go.ChangeShapes Go.WideShapes Go.ChangeAt Go.RowKit Go.Deep
set_option maxRecDepth 100000 in
set_option maxHeartbeats 4000000 in
theorem precise_no (K : Cp) (S : St) (ar ai ao : Option Addr) (cr ci co : Nat) (O : List Acd) (va : Value) (w : World) (hT : Tb w) (hs : Bs S (.slice ar S.ram.length cr) (.slice ai S.inp.length ci) (.slice ao S.out.length co) w) (hw : StW S) (lr : S.ram.length ≤ 140737488355328) (li : S.inp.length ≤ 140737488355328) (lo : S.out.length ≤ 140737488355328) (ha : Acts w va O) (hl : O.length ≤ 140737488355328) (hok : S.ok = false) :
    Calls Tryz.prog 4 #[.agg (scc K S (.slice ar S.ram.length cr) (.slice ai S.inp.length ci) (.slice ao S.out.length co) va)] w fun e w' => e = .returned (.bool true) ∧ Below w.heap.size w w' := by
  obtain ⟨W0, hW0, r0, b0, s0⟩ := start1 w (scc K S (.slice ar S.ram.length cr) (.slice ai S.inp.length ci) (.slice ao S.out.length co) va) 38
  have HSB : Hid (∀ W, Below W0.heap.size W0 W → ∀ j v, (stc S (.slice ar S.ram.length cr) (.slice ai S.inp.length ci) (.slice ao S.out.length co))[j]? = some v → W.cell? ⟨w.heap.size, 82 + j, none⟩ = some v) := fun W hb j v h => by rw [(r0.out.later hb r0.out.lt).cell]; exact scc_b _ _ _ _ _ _ j v h
  have HLV : Hid (∀ W, Tb W → Calls Tryz.prog 9 #[] W fun e w' => e = .returned (.bool true) ∧ Below W.heap.size W w') := fun W h => live_c W h
  have HT0 : Hid (Tb W0) := hT.next b0.out
  have HST : Hid (∀ W, Calls Tryz.prog 8 #[.agg (stc S (.slice ar S.ram.length cr) (.slice ai S.inp.length ci) (.slice ao S.out.length co))] W fun e w' => e = .returned (.pointer none) ∧ Below W.heap.size W w') := fun W => start_no S ar ai ao cr ci co W hok
  clear hs hw lr li lo ha hl hok s0 hT
  go_enter Tryz.func4, Tryz.ntmps4
  go_upto_region 1 with fail
  clear hW0 r0
  go_wp2_with (first | (refine wpList_load_agg (by rfl) _ _ (by rfl) w.heap.size 82 (by rfl) (stc S (.slice ar S.ram.length cr) (.slice ai S.inp.length ci) (.slice ao S.out.length co)) _ (HSB.out _ (Below.refl _ _)) Tryz.underlying35 (by rfl) (info_bus _ _ _ _) ?_) | (go_at_call 8; refine (HST.out _).mono ?_; rintro e w1 ⟨rfl, hb1⟩; have HB1 : Hid (Below W0.heap.size W0 w1) := hb1; clear hb1) | (go_at_call 9; refine (HLV.out _ (HT0.out.next HB1.out)).mono ?_; rintro e w3 ⟨rfl, hb3⟩; have HB3 : Hid (Below W0.heap.size W0 w3) := HB1.out.trans (hb3.mono HB1.out.size); clear hb3))
  go_ret
  exact ⟨rfl, b0.out.trans (HB3.out.mono b0.out.size)⟩
set_option maxRecDepth 100000 in
set_option maxHeartbeats 8000000 in
theorem precise_ok (K : Cp) (S : St) (ar ai ao : Option Addr) (cr ci co : Nat) (O : List Acd) (va : Value) (w : World) (hT : Tb w) (hs : Bs S (.slice ar S.ram.length cr) (.slice ai S.inp.length ci) (.slice ao S.out.length co) w) (hw : StW S) (lr : S.ram.length ≤ 140737488355328) (li : S.inp.length ≤ 140737488355328) (lo : S.out.length ≤ 140737488355328) (ha : Acts w va O) (hl : O.length ≤ 140737488355328) (hok : S.ok = true) :
    Calls Tryz.prog 4 #[.agg (scc K S (.slice ar S.ram.length cr) (.slice ai S.inp.length ci) (.slice ao S.out.length co) va)] w fun e w' => e = .returned (.bool true) ∧ Below w.heap.size w w' := by
  obtain ⟨W0, hW0, r0, b0, s0⟩ := start1 w (scc K S (.slice ar S.ram.length cr) (.slice ai S.inp.length ci) (.slice ao S.out.length co) va) 38
  have HSB : Hid (∀ W, Below W0.heap.size W0 W → ∀ j v, (stc S (.slice ar S.ram.length cr) (.slice ai S.inp.length ci) (.slice ao S.out.length co))[j]? = some v → W.cell? ⟨w.heap.size, 82 + j, none⟩ = some v) := fun W hb j v h => by rw [(r0.out.later hb r0.out.lt).cell]; exact scc_b _ _ _ _ _ _ j v h
  have HLV : Hid (∀ W, Tb W → Calls Tryz.prog 9 #[] W fun e w' => e = .returned (.bool true) ∧ Below W.heap.size W w') := fun W h => live_c W h
  have HT0 : Hid (Tb W0) := hT.next b0.out
  have HSC : Hid (∀ W, Below W0.heap.size W0 W → ∀ j v, (cpc K)[j]? = some v → W.cell? ⟨w.heap.size, 0 + j, none⟩ = some v) := fun W hb j v h => by rw [(r0.out.later hb r0.out.lt).cell]; exact scc_c _ _ _ _ _ _ j v h
  have HSA : Hid (∀ W, Below W0.heap.size W0 W → W.cell? ⟨w.heap.size, 97, none⟩ = some va) := fun W hb => by rw [(r0.out.later hb r0.out.lt).cell]; exact scc_a _ _ _ _ _ _
  have HST : Hid (Calls Tryz.prog 8 #[.agg (stc S (.slice ar S.ram.length cr) (.slice ai S.inp.length ci) (.slice ao S.out.length co))] W0 fun e w' => ∃ L, e = .returned (.pointer (some ⟨L.b, 0, none⟩)) ∧ PB W0.heap.size L S w' ∧ Below W0.heap.size W0 w') := start_ok S ar ai ao cr ci co W0 hok (hs.later b0.out) lr li lo
  have HSK : Hid (Sok S) := ⟨hok, hw⟩
  obtain ⟨aA, cA, rfl, hcap, hel⟩ := ha
  have HEL : Hid (∀ j, j < O.length → ∃ g off, aA = some ⟨g, off, none⟩ ∧ g < W0.heap.size ∧ ∀ i, i < 5 → ∀ W, Below W0.heap.size W0 W → W.cell? ⟨g, off + j * 5 + i, none⟩ = (acc (O.getD j ⟨0, 0, 0, 0#64, 0#64⟩))[i]?) := fun j hj => by
    obtain ⟨g, off, e, hg, hc⟩ := hel (fun e => by rw [e] at hj; simp at hj)
    refine ⟨g, off, e, Nat.lt_of_lt_of_le hg b0.out.size, fun i hi W hb => ?_⟩
    rw [hb.cell (p := ⟨g, off + j * 5 + i, none⟩) (Nat.lt_of_lt_of_le hg b0.out.size), b0.out.cell (p := ⟨g, off + j * 5 + i, none⟩) hg]
    exact hc j hj i hi
  have HL0 : Hid (O.length ≤ 140737488355328) := hl
  have hzc := zero_cpu
  have hza := zero_act
  have hzo := zero_out
  have hzt := zero_trap
  clear hs hw lr li lo hok s0 hT hel hcap hl
  go_enter Tryz.func4, Tryz.ntmps4
  go_upto_region 1 with fail
  clear hW0 r0
  go_upto_region 4 with (first | (refine wpList_load_agg (by rfl) _ _ (by rfl) w.heap.size 82 (by rfl) (stc S (.slice ar S.ram.length cr) (.slice ai S.inp.length ci) (.slice ao S.out.length co)) _ (HSB.out _ (Below.refl _ _)) Tryz.underlying35 (by rfl) (info_bus _ _ _ _) ?_) | (go_at_call 8; refine HST.out.mono ?_; rintro e w1 ⟨L, rfl, hp1, hb1⟩; have HK1 : Hid (Ky W0 L.b L S w1) := ⟨hp1, rfl, hb1⟩; clear hp1 hb1) | (go_at_call 9; refine (HLV.out _ (HT0.out.next HK1.out.be)).mono ?_; rintro e w3 ⟨rfl, hb3⟩; have HK3 : Hid (Ky W0 L.b L S w3) := HK1.out.later hb3; clear hb3))
  have HA0 : Hid (Calls Tryz.prog 10 #[.agg (cpc K), .pointer (some ⟨L.b, 0, none⟩)] w3 fun e w' => e = .returned (.agg (cpc (PR K))) ∧ ∃ L', PSt W0.heap.size L w3 L' S w') := access0_c w3 HK3.out.p HSK.out (HT0.out.next HK3.out.be) HT0.out.lt K
  go_upto_region 5 with (first | (refine wpList_load_agg (by rfl) _ _ (by rfl) w.heap.size 0 (by rfl) (cpc K) _ (HSC.out _ HK3.out.be) Tryz.underlying31 (by rfl) (info_cpu _) ?_) | (go_at_call 10; refine HA0.out.mono ?_; rintro e w4 ⟨rfl, L1, hp4⟩; have HK4 : Hid (Ky W0 L.b L1 S w4) := HK3.out.step hp4; clear hp4) | (refine wpList_store_end (by rfl) 31 _ _ (by rfl) (by rfl) w4 (cpc cz) (cpc (PR K)) (by rfl) (by rfl) (by rfl) (info_cpu _) (by rw [cpc_size, cpc_size]) (cpc_ones _) ?_))
  refine on_P (motive := fun W => Code.wp _ _ _ _ W) (Q := fun W => Ky W0 L.b L1 S W ∧ Ks W0 L1 W w4.heap.size (cpc (PR K)) 31) ⟨HK4.out.later (below_al _ _), Ks.new HK4.out _ _⟩ ?_
  clear HK1 HK3 HK4 HA0 HSB HSC HST HLV
  generalize w4.heap.size = gc
  rintro W5 ⟨hk5, hr5⟩
  have HK5 : Hid (Ky W0 L.b L1 S W5) := hk5
  have HR5 : Hid (Ks W0 L1 W5 gc (cpc (PR K)) 31) := hr5
  clear hk5 hr5
  have hzb := zero_busv
  obtain ⟨K0, hK0⟩ : ∃ K0, K0 = PR K := ⟨_, rfl⟩
  have HPK : Hid (PR K0 = K0) := by unfold Hid; rw [hK0]; exact PR_PR K
  rw [← hK0] at HR5
  clear hK0
  have HU : Hid (Osv W0 L.b gc K0 W5) := ⟨K0, L1, S, HK5.out, HSK.out, HR5.out, Cst.refl HPK.out⟩
  clear HK5 HR5 HSK HPK
  generalize L.b = b at HU ⊢
  clear L1 L w1 w3 w4
  go_wp2
  go_loopw [5] (fun vi wr => ∃ j : Nat, j ≤ O.length ∧ vi = .int .i64 j ∧ Hid (Osv W0 b gc K0 wr)) (fun i _ => O.length - (intOf i).toNat)
  case atStart => exact ⟨0, Nat.zero_le _, rfl, HU⟩
  case round =>
    obtain ⟨j, hj, rfl, hst⟩ := hrel
    clear HU
    obtain ⟨K1, L1, S1, hk, hsk, hr, hrv⟩ := hst.out
    have c97 := HSA.out wr hk.be
    have hlenI : (O.length : Int) ≤ 140737488355328 := by have := HL0.out; omega
    by_cases hlt : j < O.length
    · have hltI : (j : Int) < (O.length : Int) := by omega
      by_cases h60 : j < 60
      · have h60I : (j : Int) < 60 := by omega
        have HKX : Hid (Ky W0 b L1 S1 wr) := hk
        have HSO : Hid (Sok S1) := hsk
        have HRC : Hid (Ks W0 L1 wr gc (cpc K1) 31) := hr
        have HCS : Hid (Cst K0 K1) := hrv
        clear hk hsk hr hst hrv
        obtain ⟨ga, off, rfl, hga, hcell⟩ := HEL.out j hlt
        obtain ⟨y, hy⟩ : ∃ y, y = O.getD j ⟨0, 0, 0, 0#64, 0#64⟩ := ⟨_, rfl⟩
        have HAC : Hid (∀ W, Below W0.heap.size W0 W → ∀ i v, (acc y)[i]? = some v → W.cell? ⟨ga, off + j * 5 + i, none⟩ = some v) := fun W hb i v h => by
          have hi : i < 5 := by
            by_cases q : i < 5
            · exact q
            · rw [Array.getElem?_eq_none (by show 5 ≤ i; omega)] at h; cases h
          rw [hcell i hi W hb, ← hy]; exact h
        clear hcell hy hga
        have HDC : Hid (∀ W, Ky W0 b L1 S1 W → Calls Tryz.prog 14 #[.agg (cpc K1), .pointer (some ⟨b, 0, none⟩), .agg (acc y)] W fun e w' => e = .returned (.agg (otc (DO S1 K1 y).1)) ∧ ∃ L', PSt W0.heap.size L1 W L' (DO S1 K1 y).2 w') := fun W hk => by
          have q := does_c W hk.p HSO.out (HT0.out.next hk.be) HT0.out.lt K1 y
          rw [hk.e] at q
          exact q
        have HSOK : Hid (Sok (DO S1 K1 y).2) := DO_ok HSO.out K1 y
        have HCN : Hid (Cst K0 (resOf K1 (DO S1 K1 y).1.K)) := HCS.out.step S1 y
        have HDN : Hid (Dn S1 K1 y (DO S1 K1 y).1 (DO S1 K1 y).2) := DO_dn HCS.out.p
        have HSTA : Hid (∀ W, Ky W0 b L1 S1 W → Calls Tryz.prog 15 #[.pointer (some ⟨b, 0, none⟩)] W fun e w' => ∃ ur ui uo, e = .returned (.agg (stc S1 ur ui uo)) ∧ Sv W.heap.size S1 ur ui uo w' ∧ Below W.heap.size W w') := fun W hk => by
          obtain ⟨hn1, hn2, hn3, hn4, _⟩ := HSO.out.n
          have q := state_c W hk.p (by omega) (by omega) (by omega)
          rw [hk.e] at q
          exact q
        have HSTB : Hid (∀ L W, Ky W0 b L S1 W → Calls Tryz.prog 15 #[.pointer (some ⟨b, 0, none⟩)] W fun e w' => ∃ ur ui uo, e = .returned (.agg (stc S1 ur ui uo)) ∧ Sv W.heap.size S1 ur ui uo w' ∧ Below W.heap.size W w') := fun L W hk => by
          obtain ⟨hn1, hn2, hn3, hn4, _⟩ := HSO.out.n
          have q := state_c W hk.p (by omega) (by omega) (by omega)
          rw [hk.e] at q
          exact q
        generalize (DO S1 K1 y).1 = o at HDC HDN HCN
        generalize (DO S1 K1 y).2 = S2 at HDC HDN HSOK
        go_upto_region 9 with (first | (go_at_call 15; refine (HSTA.out _ HKX.out).mono ?_; rintro e w2 ⟨ur, ui, uo, rfl, hsv, hb2⟩; obtain ⟨y1, z1, y2, z2, y3, z3, rfl, rfl, rfl⟩ := hsv.bs.forms; have HSV : Hid _ := hsv; have HB2 : Hid _ := hb2; clear hsv hb2) | (refine wpList_store_end (by rfl) 35 _ _ (by rfl) (by rfl) w2 (stc zST (.slice none 0 0) (.slice none 0 0) (.slice none 0 0)) (stc S1 (.slice y1 S1.ram.length z1) (.slice y2 S1.inp.length z2) (.slice y3 S1.out.length z3)) (by rfl) (by rfl) (by rfl) (info_bus _ _ _ _) (by rfl) (stOne S1) ?_))
        clear c97
        refine on_P (motive := fun W => Code.wp _ _ _ _ W) (Q := fun W => Ky W0 b L1 S1 W ∧ Ks W0 L1 W gc (cpc K1) 31 ∧ Ks W0 L1 W w2.heap.size (stc S1 (.slice y1 S1.ram.length z1) (.slice y2 S1.inp.length z2) (.slice y3 S1.out.length z3)) 35 ∧ Sb L1 w2.heap.size S1 (.slice y1 S1.ram.length z1) (.slice y2 S1.inp.length z2) (.slice y3 S1.out.length z3) W) ⟨(HKX.out.later HB2.out).later (below_al _ _), (HRC.out.later HB2.out).later (below_al _ _), Ks.new (HKX.out.later HB2.out) _ _, (Sb.new HKX.out.p HB2.out HSV.out).later (below_al _ _)⟩ ?_
        clear HKX HRC HSV HB2
        generalize w2.heap.size = gb
        rintro W1 ⟨h0, h1, h2, h3⟩
        have HKX1 : Hid (Ky W0 b L1 S1 W1) := h0
        have HRC1 : Hid (Ks W0 L1 W1 gc (cpc K1) 31) := h1
        have HRB : Hid (Ks W0 L1 W1 gb (stc S1 (.slice y1 S1.ram.length z1) (.slice y2 S1.inp.length z2) (.slice y3 S1.out.length z3)) 35) := h2
        have HSB2 : Hid (Sb L1 gb S1 (.slice y1 S1.ram.length z1) (.slice y2 S1.inp.length z2) (.slice y3 S1.out.length z3) W1) := h3
        clear h0 h1 h2 h3
        have HKX := HKX1
        have HRC := HRC1
        clear HKX1 HRC1
        go_cut [7] from 36 to 43 (fun p wx => ∃ gO L2, p = .pointer (some ⟨gO, 0, none⟩) ∧ Ky W0 b L2 S2 wx ∧ Ks W0 L2 wx gc (cpc K1) 31 ∧ Ks W0 L2 wx gO (otc o) 52 ∧ gc < gO ∧ Ks W0 L2 wx gb (stc S1 (.slice y1 S1.ram.length z1) (.slice y2 S1.inp.length z2) (.slice y3 S1.out.length z3)) 35 ∧ Sb L2 gb S1 (.slice y1 S1.ram.length z1) (.slice y2 S1.inp.length z2) (.slice y3 S1.out.length z3) wx ∧ gb < gO ∧ gb ≤ gO)
        case first =>
          have hS0 : Below W0.heap.size W0 W1.drew ∧ Row W1.drew gc (cpc K1) 31 := ⟨(HKX.out.later (Below.refl _ _).drew).be, (HRC.out.later (Below.refl _ _).drew).r⟩
          refine wp_region_held (S := fun w' => Below W0.heap.size W0 w' ∧ Row w' gc (cpc K1) 31) (by kernel_rfl) ?_
          change wpAnyH _ _ _ _ _ _ _ _ W1.drew
          refine wpAnyH_takeD 0 (some 36) (v := .agg (cpc K1)) rfl (by kernel_rfl) (by kernel_rfl) (by kernel_rfl) (by kernel_rfl) (fun _ _ _ h => h) (Or.inl ⟨by rfl, fun w9 hSw => ?_⟩) hS0 ?_
          · have q := load_rows (P := Tryz.prog) 31 gc (cpc K1) _ w9 hSw.2 Tryz.underlying31 (by rfl) (info_cpu _)
            unfold execOp
            exact q
          try simp only [Act.put, List.setIfInBounds_toArray, List.set_cons_zero, List.set_cons_succ]
          refine wpAnyH_takeD 1 (some 37) (v := .pointer (some ⟨b, 0, none⟩)) rfl (by kernel_rfl) (by kernel_rfl) (by kernel_rfl) (by kernel_rfl) (fun _ _ _ h => h) (Or.inl ⟨by rfl, fun w9 hSw => by go_simp⟩) hS0 ?_
          try simp only [Act.put, List.setIfInBounds_toArray, List.set_cons_zero, List.set_cons_succ]
          refine wpAnyH_takeD 2 (some 38) (v := .pointer (some ⟨w.heap.size, 97, none⟩)) rfl (by kernel_rfl) (by kernel_rfl) (by kernel_rfl) (by kernel_rfl) (fun _ _ _ h => h) (Or.inl ⟨by rfl, fun w9 hSw => by go_simp⟩) hS0 ?_
          try simp only [Act.put, List.setIfInBounds_toArray, List.set_cons_zero, List.set_cons_succ]
          refine wpAnyH_takeD 3 (some 39) (v := .slice (some ⟨ga, off, none⟩) O.length cA) rfl (by kernel_rfl) (by kernel_rfl) (by kernel_rfl) (by kernel_rfl) (fun _ _ _ h => h) (Or.inl ⟨by rfl, fun w9 hSw => by have q97 := HSA.out w9 hSw.1; go_simp⟩) hS0 ?_
          try simp only [Act.put, List.setIfInBounds_toArray, List.set_cons_zero, List.set_cons_succ]
          refine wpAnyH_takeD 4 (some 40) (v := .int .i64 (j : Int)) rfl (by kernel_rfl) (by kernel_rfl) (by kernel_rfl) (by kernel_rfl) (fun _ _ _ h => h) (Or.inl ⟨by rfl, fun w9 hSw => by go_simp⟩) hS0 ?_
          try simp only [Act.put, List.setIfInBounds_toArray, List.set_cons_zero, List.set_cons_succ]
          refine wpAnyH_takeD 5 (some 41) (v := .pointer (some ⟨ga, off + j * 5, none⟩)) rfl (by kernel_rfl) (by kernel_rfl) (by kernel_rfl) (by kernel_rfl) (fun _ _ _ h => h) (Or.inl ⟨by rfl, fun w9 hSw => by go_simp⟩) hS0 ?_
          try simp only [Act.put, List.setIfInBounds_toArray, List.set_cons_zero, List.set_cons_succ]
          refine wpAnyH_takeD 6 (some 42) (v := .agg (acc y)) rfl (by kernel_rfl) (by kernel_rfl) (by kernel_rfl) (by kernel_rfl) (fun _ _ _ h => h) (Or.inl ⟨by rfl, fun w9 hSw => ?_⟩) hS0 ?_
          · have q := load_aggs (P := Tryz.prog) 45 ga (off + j * 5) (acc y) _ w9 (HAC.out w9 hSw.1) Tryz.underlying45 (by rfl) (info_act _)
            unfold execOp
            exact q
          try simp only [Act.put, List.setIfInBounds_toArray, List.set_cons_zero, List.set_cons_succ]
          refine wpAnyH_ready (rs := [7, 8]) (by kernel_rfl) (by simp) ?_
          refine AllReadyH.cons (o := _) rfl (fun KK hKK => ?_) ?_
          ·
            rw [if_pos (by rfl)]
            go_simp
            go_at_call 14
            have HKY := HKX.out.later (Below.refl _ _).drew
            refine (HDC.out _ HKY).mono ?_
            rintro e w3 ⟨rfl, L2, hp⟩
            have hk3 := HKY.step hp
            have hr3 := (HRC.out.later (Below.refl _ _).drew).step hp
            have HRB3 := (HRB.out.later (Below.refl _ _).drew).step hp
            have HSB23 := (HSB2.out.later (Below.refl _ _).drew).step hp
            have hS3 : Below W0.heap.size W0 w3 ∧ Row w3 gc (cpc K1) 31 := ⟨hk3.be, hr3.r⟩
            refine hKK.out _ _ hS3 (fun _ => ?_)
            try simp only [Act.put, List.setIfInBounds_toArray, List.set_cons_zero, List.set_cons_succ]
            refine wpAnyH_ready (rs := [8]) (by kernel_rfl) (by simp) ?_
            refine AllReadyH.cons (o := _) rfl (fun KL hKL => ?_) AllReadyH.nil
            rw [if_pos (by rfl)]
            go_simp
            have hk4 := hk3.later (below_al w3 (.cells (otc (oz cz)) 52))
            have hr4 := hr3.later (below_al w3 (.cells (otc (oz cz)) 52))
            have HRB4 := HRB3.later (below_al w3 (.cells (otc (oz cz)) 52))
            have HSB24 := HSB23.later (below_al w3 (.cells (otc (oz cz)) 52))
            have hn4 := Ks.new hk3 (otc (oz cz)) 52
            have hlt4 : gc < w3.heap.size := hr3.r.lt
            have hS4 : Below W0.heap.size W0 (w3.alloc (.cells (otc (oz cz)) 52)) ∧ Row (w3.alloc (.cells (otc (oz cz)) 52)) gc (cpc K1) 31 := ⟨hk4.be, hr4.r⟩
            refine hKL.out _ _ hS4 (fun _ => ?_)
            try simp only [Act.put, List.setIfInBounds_toArray, List.set_cons_zero, List.set_cons_succ]
            have hk5 := hk4.row hn4 (otc o)
            have hr5 := hr4.far (show gc ≠ w3.heap.size by omega) (otc o)
            have HRB5 := HRB4.far (show _ ≠ w3.heap.size by have := HRB3.r.lt; omega) (otc o)
            have HSB25 := HSB24.row (show _ ≤ w3.heap.size from HSB23.l) (otc o)
            have hn5 := hn4.put (otc o)
            have hS5 : Below W0.heap.size W0 ((w3.alloc (.cells (otc (oz cz)) 52)).setRow w3.heap.size (otc o)) ∧ Row ((w3.alloc (.cells (otc (oz cz)) 52)).setRow w3.heap.size (otc o)) gc (cpc K1) 31 := ⟨hk5.be, hr5.r⟩
            refine wpAnyH_store_row 9 52 (.tmp 7) (.tmp 43) (by kernel_rfl) (by kernel_rfl) w3.heap.size (otc (oz cz)) (otc o) (by rfl) (by rfl) hn4.r (info_out _) (otc_sz _ _) (otc_ones _) hS5 ?_
            try simp only [Act.put, List.setIfInBounds_toArray, List.set_cons_zero, List.set_cons_succ]
            refine wpAnyH_done (by kernel_rfl) ?_ _
            go_wp2_with fail
            go_meet
            exact ⟨w3.heap.size, L2, rfl, hk5, hr5, hn5, by omega, HRB5, HSB25, by have := HRB3.r.lt; omega, HSB23.l⟩
          ·
            refine AllReadyH.cons (o := _) rfl (fun KK hKK => ?_) AllReadyH.nil
            rw [if_pos (by rfl)]
            go_simp
            have HKY := (HKX.out.later (Below.refl _ _).drew).later (below_al _ (.cells (otc (oz cz)) 52))
            have hr3 := (HRC.out.later (Below.refl _ _).drew).later (below_al _ (.cells (otc (oz cz)) 52))
            have HRB3 := (HRB.out.later (Below.refl _ _).drew).later (below_al _ (.cells (otc (oz cz)) 52))
            have HSB23 := (HSB2.out.later (Below.refl _ _).drew).later (below_al _ (.cells (otc (oz cz)) 52))
            have hn3 := Ks.new (HKX.out.later (Below.refl _ _).drew) (otc (oz cz)) 52
            have hlt4 : gc < W1.heap.size := HRC.out.r.lt
            have hS3 : Below W0.heap.size W0 (W1.drew.alloc (.cells (otc (oz cz)) 52)) ∧ Row (W1.drew.alloc (.cells (otc (oz cz)) 52)) gc (cpc K1) 31 := ⟨HKY.be, hr3.r⟩
            refine hKK.out _ _ hS3 (fun _ => ?_)
            try simp only [Act.put, List.setIfInBounds_toArray, List.set_cons_zero, List.set_cons_succ]
            refine wpAnyH_ready (rs := [7]) (by kernel_rfl) (by simp) ?_
            refine AllReadyH.cons (o := _) rfl (fun KL hKL => ?_) AllReadyH.nil
            rw [if_pos (by rfl)]
            go_simp
            go_at_call 14
            refine (HDC.out _ HKY).mono ?_
            rintro e w3 ⟨rfl, L2, hp⟩
            have hk4 := HKY.step hp
            have hr4 := hr3.step hp
            have HRB4 := HRB3.step hp
            have HSB24 := HSB23.step hp
            have hn4 := hn3.step hp
            have hS4 : Below W0.heap.size W0 w3 ∧ Row w3 gc (cpc K1) 31 := ⟨hk4.be, hr4.r⟩
            refine hKL.out _ _ hS4 (fun _ => ?_)
            try simp only [Act.put, List.setIfInBounds_toArray, List.set_cons_zero, List.set_cons_succ]
            have hk5 := hk4.row hn4 (otc o)
            have hr5 := hr4.far (show gc ≠ W1.heap.size by omega) (otc o)
            have HRB5 := HRB4.far (show _ ≠ W1.heap.size by have := HRB.out.r.lt; omega) (otc o)
            have HSB25 := HSB24.row (show _ ≤ W1.heap.size from HSB2.out.l) (otc o)
            have hn5 := hn4.put (otc o)
            have hS5 : Below W0.heap.size W0 (w3.setRow W1.heap.size (otc o)) ∧ Row (w3.setRow W1.heap.size (otc o)) gc (cpc K1) 31 := ⟨hk5.be, hr5.r⟩
            refine wpAnyH_store_row 9 52 (.tmp 7) (.tmp 43) (by kernel_rfl) (by kernel_rfl) W1.heap.size (otc (oz cz)) (otc o) (by rfl) (by rfl) hn4.r (info_out _) (otc_sz _ _) (otc_ones _) hS5 ?_
            try simp only [Act.put, List.setIfInBounds_toArray, List.set_cons_zero, List.set_cons_succ]
            refine wpAnyH_done (by kernel_rfl) ?_ _
            go_wp2_with fail
            go_meet
            exact ⟨W1.heap.size, L2, rfl, hk5, hr5, hn5, by omega, HRB5, HSB25, by have := HRB.out.r.lt; omega, HSB2.out.l⟩
        case rest =>
          obtain ⟨go, L2, rfl, hk2, hr2, ho2, hne, hb2, hs2, hne2, _⟩ := hcut
          have HKX2 : Hid (Ky W0 b L2 S2 wc) := hk2
          have HRC2 : Hid (Ks W0 L2 wc gc (cpc K1) 31) := hr2
          have HRO : Hid (Ks W0 L2 wc go (otc o) 52) := ho2
          have HRB2 : Hid (Ks W0 L2 wc gb (stc S1 (.slice y1 S1.ram.length z1) (.slice y2 S1.inp.length z2) (.slice y3 S1.out.length z3)) 35) := hb2
          have HSB3 : Hid (Sb L2 gb S1 (.slice y1 S1.ram.length z1) (.slice y2 S1.inp.length z2) (.slice y3 S1.out.length z3) wc) := hs2
          have HNE : Hid (gc < go ∧ gb < go) := ⟨hne, hne2⟩
          clear hk2 hr2 ho2 hne hb2 hs2 hne2 HKX HRC HRB HSB2 HDC HSTA
          have HKX := HKX2
          have HRC := HRC2
          have HRB := HRB2
          have HSB2 := HSB3
          clear HKX2 HRC2 HRB2 HSB3
          have HOC : Hid (∀ j v, (cpc o.K)[j]? = some v → wc.cell? ⟨go, 7 + j, none⟩ = some v) := otc_cpu HRO.out.r
          go_upto_region 11 with (first | (refine wpList_load_agg (by rfl) _ _ (by rfl) go 7 (by rfl) (cpc o.K) _ HOC.out Tryz.underlying31 (by rfl) (info_cpu _) ?_) | (refine wpList_store_end (by rfl) 31 _ _ (by rfl) (by rfl) wc (cpc cz) (cpc o.K) (by rfl) (by rfl) (by rfl) (info_cpu _) (by rw [cpc_size, cpc_size]) (cpc_ones _) ?_))
          refine on_P (motive := fun W => Code.wp _ _ _ _ W) (Q := fun W => Ky W0 b L2 S2 W ∧ Ks W0 L2 W gc (cpc K1) 31 ∧ Ks W0 L2 W go (otc o) 52 ∧ Ks W0 L2 W gb (stc S1 (.slice y1 S1.ram.length z1) (.slice y2 S1.inp.length z2) (.slice y3 S1.out.length z3)) 35 ∧ Sb L2 gb S1 (.slice y1 S1.ram.length z1) (.slice y2 S1.inp.length z2) (.slice y3 S1.out.length z3) W ∧ Ks W0 L2 W wc.heap.size (cpc o.K) 31 ∧ gc < wc.heap.size ∧ gb < wc.heap.size ∧ go < wc.heap.size) ⟨HKX.out.later (below_al _ _), HRC.out.later (below_al _ _), HRO.out.later (below_al _ _), HRB.out.later (below_al _ _), HSB2.out.later (below_al _ _), Ks.new HKX.out _ _, ⟨HRC.out.r.lt, HRB.out.r.lt, HRO.out.r.lt⟩⟩ ?_
          clear HKX HRC HRO HRB HSB2 HOC
          generalize wc.heap.size = gd
          rintro W5 ⟨h0, h1, h2, h3, h4, h5, h6⟩
          have HKX5 : Hid (Ky W0 b L2 S2 W5) := h0
          have HRC5 : Hid (Ks W0 L2 W5 gc (cpc K1) 31) := h1
          have HRO5 : Hid (Ks W0 L2 W5 go (otc o) 52) := h2
          have HRB5 : Hid (Ks W0 L2 W5 gb (stc S1 (.slice y1 S1.ram.length z1) (.slice y2 S1.inp.length z2) (.slice y3 S1.out.length z3)) 35) := h3
          have HSB5 : Hid (Sb L2 gb S1 (.slice y1 S1.ram.length z1) (.slice y2 S1.inp.length z2) (.slice y3 S1.out.length z3) W5) := h4
          have HRD : Hid (Ks W0 L2 W5 gd (cpc o.K) 31) := h5
          have HNF : Hid (gc < gd ∧ gb < gd ∧ go < gd) := h6
          clear h0 h1 h2 h3 h4 h5 h6
          have c97 := HSA.out W5 HKX5.out.be
          have ya : W5.cell? ⟨ga, off + j * 5, none⟩ = some (.int .i64 y.kd) := HAC.out W5 HKX5.out.be 0 _ rfl
          have d0 : W5.cell? ⟨gc, 0, none⟩ = some (.int .u64 (n64 K1.pc)) := HRC5.out.r.cls.pc
          obtain ⟨D, hD⟩ : ∃ D, D = cpB K1 y o.K := ⟨_, rfl⟩
          go_upto_if 52 with fail
          go_cut [52] from 53 to 55 (fun _ wx => Ky W0 b L2 S2 wx ∧ Ks W0 L2 wx gc (cpc K1) 31 ∧ Ks W0 L2 wx go (otc o) 52 ∧ Ks W0 L2 wx gb (stc S1 (.slice y1 S1.ram.length z1) (.slice y2 S1.inp.length z2) (.slice y3 S1.out.length z3)) 35 ∧ Sb L2 gb S1 (.slice y1 S1.ram.length z1) (.slice y2 S1.inp.length z2) (.slice y3 S1.out.length z3) wx ∧ Ks W0 L2 wx gd (cpc D) 31)
          case first =>
            by_cases k1 : y.kd = 1
            · have e1 : (y.kd == 1) = true := by rw [k1]; rfl
              have HDE : Hid (D = { o.K with pc := K1.pc }) := by unfold Hid; rw [hD]; unfold cpB; rw [if_pos k1]
              clear k1 hD
              have df : W5.frozen? ⟨gd, 0, none⟩ = false := frozen_of_row W5 gd 0 _ _ HRD.out.r
              have dc : W5.cell? ⟨gd, 0, none⟩ = some (.int .u64 (n64 o.K.pc)) := HRD.out.r.cls.pc
              go_wp2
              go_meet
              have hl := HRD.out.r.lay [.int .u64 (n64 K1.pc)] 0
              exact ⟨HKX5.out.lay HRD.out 0 [.int .u64 (n64 K1.pc)], ⟨HRC5.out.r.lays (by have := HNF.out; omega) [.int .u64 (n64 K1.pc)] 0, HRC5.out.n, HRC5.out.ge⟩, ⟨HRO5.out.r.lays (by have := HNF.out; omega) [.int .u64 (n64 K1.pc)] 0, HRO5.out.n, HRO5.out.ge⟩, ⟨HRB5.out.r.lays (by have := HNF.out; omega) [.int .u64 (n64 K1.pc)] 0, HRB5.out.n, HRB5.out.ge⟩, HSB5.out.lay (by have := HNF.out; omega) 0 [.int .u64 (n64 K1.pc)], ⟨by rw [HDE.out, ← cpc_pc]; exact hl, HRD.out.n, HRD.out.ge⟩⟩
            · have e1 : (y.kd == 1) = false := by rw [beq_eq_false_iff_ne]; exact k1
              have HDE : Hid (D = o.K) := by unfold Hid; rw [hD]; unfold cpB; rw [if_neg k1]
              clear k1 hD
              go_wp2
              go_meet
              exact ⟨HKX5.out, HRC5.out, HRO5.out, HRB5.out, HSB5.out, by rw [HDE.out]; exact HRD.out⟩
          case rest =>
            obtain ⟨hk6, hc6, ho6, hb6, hs6, hd6⟩ := hcut
            obtain ⟨W6, hW6⟩ : ∃ W6, W6 = wc := ⟨_, rfl⟩
            rw [← hW6] at hk6 hc6 ho6 hb6 hs6 hd6 ⊢
            clear hW6
            have HKX : Hid (Ky W0 b L2 S2 W6) := hk6
            have HRC : Hid (Ks W0 L2 W6 gc (cpc K1) 31) := hc6
            have HRO : Hid (Ks W0 L2 W6 go (otc o) 52) := ho6
            have HRB : Hid (Ks W0 L2 W6 gb (stc S1 (.slice y1 S1.ram.length z1) (.slice y2 S1.inp.length z2) (.slice y3 S1.out.length z3)) 35) := hb6
            have HSB2 : Hid (Sb L2 gb S1 (.slice y1 S1.ram.length z1) (.slice y2 S1.inp.length z2) (.slice y3 S1.out.length z3) W6) := hs6
            have HRD6 : Hid (Ks W0 L2 W6 gd (cpc D) 31) := hd6
            clear hk6 hc6 ho6 hb6 hs6 hd6 HKX5 HRC5 HRO5 HRB5 HSB5 HRD c97 ya d0
            have HDK : Hid (({ D with rv := K1.rv, ra := K1.ra, rs := K1.rs } : Cp) = K1) := by unfold Hid; rw [hD]; exact HDN.out.k
            have HTR : Hid (o.t.is = true → S2 = S1 ∧ D = K1 ∧ o.A = 0 ∧ o.B = 0 ∧ o.N = 0 ∧ o.ok = false) := fun h => by rw [hD]; exact HDN.out.tr h
            have HNO : Hid (o.t.is = false → o.t = tN) := HDN.out.no
            clear hD HDN
            have o4 : W6.cell? ⟨go, 4, none⟩ = some (.bool o.t.is) := by rw [HRO.out.r.cell, otc_at _ _ (by omega)]; rfl
            go_upto_region 13 with fail
            go_cut [89] from 56 to 88 (fun v wx => v = .bool false ∧ Below W6.heap.size W6 wx)
            case first =>
              cases hti : o.t.is with
              | false =>
                rw [hti] at o4
                have L4 : ∀ x : Later W6, x.1.cell? ⟨go, 4, none⟩ = some (.bool false) := fun x9 => (x9.below.cell (p := ⟨go, 4, none⟩) HRO.out.r.lt).trans o4
                clear hti
                have := later_nonempty W6
                refine wp_region_later (x0 := Later.start W6) (by kernel_rfl) (by kernel_rfl) ?_
                repeat (go_big_quiet_step (fail))
                refine wpQuiet_nil ?_
                rintro w' ⟨x9, rfl⟩
                go_wp2
                go_meet
                exact ⟨rfl, x9.below⟩
              | true =>
                obtain ⟨e1, e2, e3, e4, e5, e6⟩ := HTR.out hti
                have HRD : Hid (Ks W0 L2 W6 gd (cpc K1) 31) := by unfold Hid; rw [← e2]; exact HRD6.out
                have HSTA2 : Hid (∀ W, Ky W0 b L2 S2 W → Calls Tryz.prog 15 #[.pointer (some ⟨b, 0, none⟩)] W fun e w' => ∃ ur ui uo, e = .returned (.agg (stc S1 ur ui uo)) ∧ Sv W.heap.size S1 ur ui uo w' ∧ Below W.heap.size W w') := fun W hk => HSTB.out L2 W (by rw [← e1]; exact hk)
                have HC4 : Hid (otcell o 4 = .bool true) := by unfold Hid; rw [← hti]; rfl
                have HC0 : Hid (otcell o 0 = .int .u64 0) := by unfold Hid; rw [← e3]; rfl
                have HC1 : Hid (otcell o 1 = .int .u64 0) := by unfold Hid; rw [← e4]; rfl
                have HC2 : Hid (otcell o 2 = .int .i64 0) := by unfold Hid; rw [← e5]; rfl
                have HC3 : Hid (otcell o 3 = .bool false) := by unfold Hid; rw [← e6]; rfl
                have heq := fun W => eq_cpu W K1
                clear e1 e2 e3 e4 e5 e6 hti o4 HRD6 HDK HTR HNO HSTB
                have hS0 : Row W6.drew gd (cpc K1) 31 ∧ Row W6.drew gc (cpc K1) 31 ∧ Row W6.drew gb (stc S1 (.slice y1 S1.ram.length z1) (.slice y2 S1.inp.length z2) (.slice y3 S1.out.length z3)) 35 ∧ Row W6.drew go (otc o) 52 := ⟨HRD.out.r, HRC.out.r, HRB.out.r, HRO.out.r⟩
                refine wp_region_held (S := fun w' => Row w' gd (cpc K1) 31 ∧ Row w' gc (cpc K1) 31 ∧ Row w' gb (stc S1 (.slice y1 S1.ram.length z1) (.slice y2 S1.inp.length z2) (.slice y3 S1.out.length z3)) 35 ∧ Row w' go (otc o) 52) (by kernel_rfl) ?_
                change wpAnyH _ _ _ _ _ _ _ _ W6.drew
                refine wpAnyH_takeD 0 (some 56) (v := .pointer (some ⟨go, 4, none⟩)) rfl (by kernel_rfl) (by kernel_rfl) (by kernel_rfl) (by kernel_rfl) (fun _ _ _ h => h) (Or.inl ⟨by rfl, fun w9 hSw => by go_simp⟩) hS0 ?_
                try simp only [Act.put, List.setIfInBounds_toArray, List.set_cons_zero, List.set_cons_succ]
                refine wpAnyH_takeD 1 (some 57) (v := .pointer (some ⟨go, 4, none⟩)) rfl (by kernel_rfl) (by kernel_rfl) (by kernel_rfl) (by kernel_rfl) (fun _ _ _ h => h) (Or.inl ⟨by rfl, fun w9 hSw => by go_simp⟩) hS0 ?_
                try simp only [Act.put, List.setIfInBounds_toArray, List.set_cons_zero, List.set_cons_succ]
                refine wpAnyH_takeD 2 (some 58) (v := .bool true) rfl (by kernel_rfl) (by kernel_rfl) (by kernel_rfl) (by kernel_rfl) (fun _ _ _ h => h) (Or.inl ⟨by rfl, fun w9 hSw => by have q9 : w9.cell? ⟨go, 4, none⟩ = some (.bool true) := (by rw [hSw.2.2.2.cell, otc_at _ _ (by omega)]; exact congrArg some HC4.out); go_simp⟩) hS0 ?_
                try simp only [Act.put, List.setIfInBounds_toArray, List.set_cons_zero, List.set_cons_succ]
                refine wpAnyH_takeD 3 (some 59) (v := .bool true) rfl (by kernel_rfl) (by kernel_rfl) (by kernel_rfl) (by kernel_rfl) (fun _ _ _ h => h) (Or.inl ⟨by rfl, fun w9 hSw => by go_simp⟩) hS0 ?_
                try simp only [Act.put, List.setIfInBounds_toArray, List.set_cons_zero, List.set_cons_succ]
                refine wpAnyH_takeD 4 (some 60) (v := .agg (cpc K1)) rfl (by kernel_rfl) (by kernel_rfl) (by kernel_rfl) (by kernel_rfl) (fun _ _ _ h => h) (Or.inl ⟨by rfl, fun w9 hSw => ?_⟩) hS0 ?_
                · have q := load_rows (P := Tryz.prog) 31 gd (cpc K1) _ w9 hSw.1 Tryz.underlying31 (by rfl) (info_cpu _)
                  unfold execOp
                  exact q
                try simp only [Act.put, List.setIfInBounds_toArray, List.set_cons_zero, List.set_cons_succ]
                refine wpAnyH_takeD 5 (some 61) (v := .agg (cpc K1)) rfl (by kernel_rfl) (by kernel_rfl) (by kernel_rfl) (by kernel_rfl) (fun _ _ _ h => h) (Or.inl ⟨by rfl, fun w9 hSw => ?_⟩) hS0 ?_
                · have q := load_rows (P := Tryz.prog) 31 gc (cpc K1) _ w9 hSw.2.1 Tryz.underlying31 (by rfl) (info_cpu _)
                  unfold execOp
                  exact q
                try simp only [Act.put, List.setIfInBounds_toArray, List.set_cons_zero, List.set_cons_succ]
                refine wpAnyH_takeD 6 (some 62) (v := .bool false) rfl (by kernel_rfl) (by kernel_rfl) (by kernel_rfl) (by kernel_rfl) (fun _ _ _ h => h) (Or.inl ⟨by rfl, fun w9 hSw => by have q9 := heq w9; go_simp⟩) hS0 ?_
                try simp only [Act.put, List.setIfInBounds_toArray, List.set_cons_zero, List.set_cons_succ]
                refine wpAnyH_takeD 7 (some 63) (v := .bool false) rfl (by kernel_rfl) (by kernel_rfl) (by kernel_rfl) (by kernel_rfl) (fun _ _ _ h => h) (Or.inl ⟨by rfl, fun w9 hSw => by go_simp⟩) hS0 ?_
                try simp only [Act.put, List.setIfInBounds_toArray, List.set_cons_zero, List.set_cons_succ]
                refine wpAnyH_takeD 8 (some 64) (v := .pointer (some ⟨b, 0, none⟩)) rfl (by kernel_rfl) (by kernel_rfl) (by kernel_rfl) (by kernel_rfl) (fun _ _ _ h => h) (Or.inl ⟨by rfl, fun w9 hSw => by go_simp⟩) hS0 ?_
                try simp only [Act.put, List.setIfInBounds_toArray, List.set_cons_zero, List.set_cons_succ]
                refine wpAnyH_takeD 10 (some 66) (v := .agg (stc S1 (.slice y1 S1.ram.length z1) (.slice y2 S1.inp.length z2) (.slice y3 S1.out.length z3))) rfl (by kernel_rfl) (by kernel_rfl) (by kernel_rfl) (by kernel_rfl) (fun _ _ _ h => h) (Or.inl ⟨by rfl, fun w9 hSw => ?_⟩) hS0 ?_
                · have q := load_rows (P := Tryz.prog) 35 gb ((stc S1 (.slice y1 S1.ram.length z1) (.slice y2 S1.inp.length z2) (.slice y3 S1.out.length z3))) _ w9 hSw.2.2.1 Tryz.underlying35 (by rfl) (info_bus _ _ _ _)
                  unfold execOp
                  exact q
                try simp only [Act.put, List.setIfInBounds_toArray, List.set_cons_zero, List.set_cons_succ]
                refine wpAnyH_ready (rs := [9]) (by kernel_rfl) (by simp) ?_
                refine AllReadyH.cons (o := _) rfl (fun KK hKK => ?_) AllReadyH.nil
                rw [if_pos (by rfl)]
                go_simp
                go_at_call 15
                refine (HSTA2.out _ (HKX.out.later (Below.refl _ _).drew)).mono ?_
                rintro e w7 ⟨ur, ui, uo, rfl, hsv, hb7⟩
                have hb7' : Below W6.heap.size W6 w7 := ((Below.refl _ _).drew).trans hb7
                have hS7 : Row w7 gd (cpc K1) 31 ∧ Row w7 gc (cpc K1) 31 ∧ Row w7 gb (stc S1 (.slice y1 S1.ram.length z1) (.slice y2 S1.inp.length z2) (.slice y3 S1.out.length z3)) 35 ∧ Row w7 go (otc o) 52 := ⟨(HRD.out.later hb7').r, (HRC.out.later hb7').r, (HRB.out.later hb7').r, (HRO.out.later hb7').r⟩
                refine hKK.out _ _ hS7 (fun _ => ?_)
                try simp only [Act.put, List.setIfInBounds_toArray, List.set_cons_zero, List.set_cons_succ]
                refine wpAnyH_ready (rs := [11]) (by kernel_rfl) (by simp) ?_
                refine AllReadyH.cons (o := _) rfl (fun KL hKL => ?_) AllReadyH.nil
                rw [if_pos (by rfl)]
                go_simp
                go_at_call 16
                refine (same_c S1 ur ui uo (.slice y1 S1.ram.length z1) (.slice y2 S1.inp.length z2) (.slice y3 S1.out.length z3) w7 hsv.bs (HSB2.out.later hb7').b).mono ?_
                rintro e w8 ⟨rfl, hb8⟩
                have hb8' : Below W6.heap.size W6 w8 := hb7'.trans (hb8.mono hb7'.size)
                have hS8 : Row w8 gd (cpc K1) 31 ∧ Row w8 gc (cpc K1) 31 ∧ Row w8 gb (stc S1 (.slice y1 S1.ram.length z1) (.slice y2 S1.inp.length z2) (.slice y3 S1.out.length z3)) 35 ∧ Row w8 go (otc o) 52 := ⟨(HRD.out.later hb8').r, (HRC.out.later hb8').r, (HRB.out.later hb8').r, (HRO.out.later hb8').r⟩
                refine hKL.out _ _ hS8 (fun _ => ?_)
                try simp only [Act.put, List.setIfInBounds_toArray, List.set_cons_zero, List.set_cons_succ]
                refine wpAnyH_takeD 12 (some 68) (v := .bool false) rfl (by kernel_rfl) (by kernel_rfl) (by kernel_rfl) (by kernel_rfl) (fun _ _ _ h => h) (Or.inl ⟨by rfl, fun w9 hSw => by go_simp⟩) hS8 ?_
                try simp only [Act.put, List.setIfInBounds_toArray, List.set_cons_zero, List.set_cons_succ]
                refine wpAnyH_takeD 13 (some 69) (v := .bool false) rfl (by kernel_rfl) (by kernel_rfl) (by kernel_rfl) (by kernel_rfl) (fun _ _ _ h => h) (Or.inl ⟨by rfl, fun w9 hSw => by go_simp⟩) hS8 ?_
                try simp only [Act.put, List.setIfInBounds_toArray, List.set_cons_zero, List.set_cons_succ]
                refine wpAnyH_takeD 14 (some 70) (v := .bool false) rfl (by kernel_rfl) (by kernel_rfl) (by kernel_rfl) (by kernel_rfl) (fun _ _ _ h => h) (Or.inl ⟨by rfl, fun w9 hSw => by go_simp⟩) hS8 ?_
                try simp only [Act.put, List.setIfInBounds_toArray, List.set_cons_zero, List.set_cons_succ]
                refine wpAnyH_takeD 15 (some 71) (v := .pointer (some ⟨go, 0, none⟩)) rfl (by kernel_rfl) (by kernel_rfl) (by kernel_rfl) (by kernel_rfl) (fun _ _ _ h => h) (Or.inl ⟨by rfl, fun w9 hSw => by go_simp⟩) hS8 ?_
                try simp only [Act.put, List.setIfInBounds_toArray, List.set_cons_zero, List.set_cons_succ]
                refine wpAnyH_takeD 16 (some 72) (v := .int .u64 0) rfl (by kernel_rfl) (by kernel_rfl) (by kernel_rfl) (by kernel_rfl) (fun _ _ _ h => h) (Or.inl ⟨by rfl, fun w9 hSw => by have q9 : w9.cell? ⟨go, 0, none⟩ = some (.int .u64 0) := (by rw [hSw.2.2.2.cell, otc_at _ _ (by omega)]; exact congrArg some HC0.out); go_simp⟩) hS8 ?_
                try simp only [Act.put, List.setIfInBounds_toArray, List.set_cons_zero, List.set_cons_succ]
                refine wpAnyH_takeD 17 (some 73) (v := .bool false) rfl (by kernel_rfl) (by kernel_rfl) (by kernel_rfl) (by kernel_rfl) (fun _ _ _ h => h) (Or.inl ⟨by rfl, fun w9 hSw => by go_simp⟩) hS8 ?_
                try simp only [Act.put, List.setIfInBounds_toArray, List.set_cons_zero, List.set_cons_succ]
                refine wpAnyH_takeD 18 (some 74) (v := .bool false) rfl (by kernel_rfl) (by kernel_rfl) (by kernel_rfl) (by kernel_rfl) (fun _ _ _ h => h) (Or.inl ⟨by rfl, fun w9 hSw => by go_simp⟩) hS8 ?_
                try simp only [Act.put, List.setIfInBounds_toArray, List.set_cons_zero, List.set_cons_succ]
                refine wpAnyH_takeD 19 (some 75) (v := .bool false) rfl (by kernel_rfl) (by kernel_rfl) (by kernel_rfl) (by kernel_rfl) (fun _ _ _ h => h) (Or.inl ⟨by rfl, fun w9 hSw => by go_simp⟩) hS8 ?_
                try simp only [Act.put, List.setIfInBounds_toArray, List.set_cons_zero, List.set_cons_succ]
                refine wpAnyH_takeD 20 (some 76) (v := .pointer (some ⟨go, 1, none⟩)) rfl (by kernel_rfl) (by kernel_rfl) (by kernel_rfl) (by kernel_rfl) (fun _ _ _ h => h) (Or.inl ⟨by rfl, fun w9 hSw => by go_simp⟩) hS8 ?_
                try simp only [Act.put, List.setIfInBounds_toArray, List.set_cons_zero, List.set_cons_succ]
                refine wpAnyH_takeD 21 (some 77) (v := .int .u64 0) rfl (by kernel_rfl) (by kernel_rfl) (by kernel_rfl) (by kernel_rfl) (fun _ _ _ h => h) (Or.inl ⟨by rfl, fun w9 hSw => by have q9 : w9.cell? ⟨go, 1, none⟩ = some (.int .u64 0) := (by rw [hSw.2.2.2.cell, otc_at _ _ (by omega)]; exact congrArg some HC1.out); go_simp⟩) hS8 ?_
                try simp only [Act.put, List.setIfInBounds_toArray, List.set_cons_zero, List.set_cons_succ]
                refine wpAnyH_takeD 22 (some 78) (v := .bool false) rfl (by kernel_rfl) (by kernel_rfl) (by kernel_rfl) (by kernel_rfl) (fun _ _ _ h => h) (Or.inl ⟨by rfl, fun w9 hSw => by go_simp⟩) hS8 ?_
                try simp only [Act.put, List.setIfInBounds_toArray, List.set_cons_zero, List.set_cons_succ]
                refine wpAnyH_takeD 23 (some 79) (v := .bool false) rfl (by kernel_rfl) (by kernel_rfl) (by kernel_rfl) (by kernel_rfl) (fun _ _ _ h => h) (Or.inl ⟨by rfl, fun w9 hSw => by go_simp⟩) hS8 ?_
                try simp only [Act.put, List.setIfInBounds_toArray, List.set_cons_zero, List.set_cons_succ]
                refine wpAnyH_takeD 24 (some 80) (v := .bool false) rfl (by kernel_rfl) (by kernel_rfl) (by kernel_rfl) (by kernel_rfl) (fun _ _ _ h => h) (Or.inl ⟨by rfl, fun w9 hSw => by go_simp⟩) hS8 ?_
                try simp only [Act.put, List.setIfInBounds_toArray, List.set_cons_zero, List.set_cons_succ]
                refine wpAnyH_takeD 25 (some 81) (v := .pointer (some ⟨go, 2, none⟩)) rfl (by kernel_rfl) (by kernel_rfl) (by kernel_rfl) (by kernel_rfl) (fun _ _ _ h => h) (Or.inl ⟨by rfl, fun w9 hSw => by go_simp⟩) hS8 ?_
                try simp only [Act.put, List.setIfInBounds_toArray, List.set_cons_zero, List.set_cons_succ]
                refine wpAnyH_takeD 26 (some 82) (v := .int .i64 0) rfl (by kernel_rfl) (by kernel_rfl) (by kernel_rfl) (by kernel_rfl) (fun _ _ _ h => h) (Or.inl ⟨by rfl, fun w9 hSw => by have q9 : w9.cell? ⟨go, 2, none⟩ = some (.int .i64 0) := (by rw [hSw.2.2.2.cell, otc_at _ _ (by omega)]; exact congrArg some HC2.out); go_simp⟩) hS8 ?_
                try simp only [Act.put, List.setIfInBounds_toArray, List.set_cons_zero, List.set_cons_succ]
                refine wpAnyH_takeD 27 (some 83) (v := .bool false) rfl (by kernel_rfl) (by kernel_rfl) (by kernel_rfl) (by kernel_rfl) (fun _ _ _ h => h) (Or.inl ⟨by rfl, fun w9 hSw => by go_simp⟩) hS8 ?_
                try simp only [Act.put, List.setIfInBounds_toArray, List.set_cons_zero, List.set_cons_succ]
                refine wpAnyH_takeD 28 (some 84) (v := .bool false) rfl (by kernel_rfl) (by kernel_rfl) (by kernel_rfl) (by kernel_rfl) (fun _ _ _ h => h) (Or.inl ⟨by rfl, fun w9 hSw => by go_simp⟩) hS8 ?_
                try simp only [Act.put, List.setIfInBounds_toArray, List.set_cons_zero, List.set_cons_succ]
                refine wpAnyH_takeD 29 (some 85) (v := .bool false) rfl (by kernel_rfl) (by kernel_rfl) (by kernel_rfl) (by kernel_rfl) (fun _ _ _ h => h) (Or.inl ⟨by rfl, fun w9 hSw => by go_simp⟩) hS8 ?_
                try simp only [Act.put, List.setIfInBounds_toArray, List.set_cons_zero, List.set_cons_succ]
                refine wpAnyH_takeD 30 (some 86) (v := .pointer (some ⟨go, 3, none⟩)) rfl (by kernel_rfl) (by kernel_rfl) (by kernel_rfl) (by kernel_rfl) (fun _ _ _ h => h) (Or.inl ⟨by rfl, fun w9 hSw => by go_simp⟩) hS8 ?_
                try simp only [Act.put, List.setIfInBounds_toArray, List.set_cons_zero, List.set_cons_succ]
                refine wpAnyH_takeD 31 (some 87) (v := .bool false) rfl (by kernel_rfl) (by kernel_rfl) (by kernel_rfl) (by kernel_rfl) (fun _ _ _ h => h) (Or.inl ⟨by rfl, fun w9 hSw => by have q9 : w9.cell? ⟨go, 3, none⟩ = some (.bool false) := (by rw [hSw.2.2.2.cell, otc_at _ _ (by omega)]; exact congrArg some HC3.out); go_simp⟩) hS8 ?_
                try simp only [Act.put, List.setIfInBounds_toArray, List.set_cons_zero, List.set_cons_succ]
                refine wpAnyH_takeD 32 (some 88) (v := .bool false) rfl (by kernel_rfl) (by kernel_rfl) (by kernel_rfl) (by kernel_rfl) (fun _ _ _ h => h) (Or.inl ⟨by rfl, fun w9 hSw => by go_simp⟩) hS8 ?_
                try simp only [Act.put, List.setIfInBounds_toArray, List.set_cons_zero, List.set_cons_succ]
                refine wpAnyH_takeD 33 (some 89) (v := .bool false) rfl (by kernel_rfl) (by kernel_rfl) (by kernel_rfl) (by kernel_rfl) (fun _ _ _ h => h) (Or.inl ⟨by rfl, fun w9 hSw => by go_simp⟩) hS8 ?_
                try simp only [Act.put, List.setIfInBounds_toArray, List.set_cons_zero, List.set_cons_succ]
                refine wpAnyH_done (by kernel_rfl) ?_ _
                go_wp2_with fail
                go_meet
                exact ⟨rfl, hb8'⟩
            case rest =>
              obtain ⟨rfl, hb7⟩ := hcut
              obtain ⟨W7, hW7⟩ : ∃ W7, W7 = wc := ⟨_, rfl⟩
              rw [← hW7] at hb7 ⊢
              clear hW7
              have HKX7 : Hid (Ky W0 b L2 S2 W7) := HKX.out.later hb7
              have HRC7 : Hid (Ks W0 L2 W7 gc (cpc K1) 31) := HRC.out.later hb7
              have HRO7 : Hid (Ks W0 L2 W7 go (otc o) 52) := HRO.out.later hb7
              have HRD7 : Hid (Ks W0 L2 W7 gd (cpc D) 31) := HRD6.out.later hb7
              clear hb7 HKX HRC HRO HRB HSB2 HRD6 o4
              have o4 : W7.cell? ⟨go, 4, none⟩ = some (.bool o.t.is) := by rw [HRO7.out.r.cell, otc_at _ _ (by omega)]; rfl
              go_upto_region 15 with fail
              go_cut [99] from 90 to 98 (fun v wx => v = .bool false ∧ wx = W7)
              case first =>
                cases hti : o.t.is with
                | true =>
                  rw [hti] at o4
                  clear hti
                  go_wp2
                  go_meet
                  exact ⟨rfl, rfl⟩
                | false =>
                  have e1 := HNO.out hti
                  have HTO : Hid (∀ j v, (tpc tN)[j]? = some v → W7.cell? ⟨go, 4 + j, none⟩ = some v) := fun j v hv => otc_trap HRO7.out.r j v (by rw [e1]; exact hv)
                  have heq := fun W => eq_trap W tN
                  rw [hti] at o4
                  clear hti e1
                  go_wp2_with (first | (refine wpList_load_aggG (by rfl) _ _ (by rfl) go 4 (by rfl) (tpc tN) _ HTO.out Tryz.underlying48 (by rfl) (info_trap _) ?_) | (refine wpList_build_tabG (by rfl) 48 _ (by rfl) (tpc tN) (by kernel_rfl) ?_))
                  go_meet
                  exact ⟨rfl, rfl⟩
              case rest =>
                obtain ⟨rfl, hwc⟩ := hcut
                have hwc2 := hwc.symm
                subst hwc2
                clear o4 HTR HNO
                have HRS : Hid (∀ j v, (rsc K1.rv K1.ra K1.rs)[j]? = some v → W7.cell? ⟨gc, 79 + j, none⟩ = some v) := fun j v hv => by
                  rw [HRC7.out.r.cell, cpc_at _ _ (by
                    match j, hv with
                    | 0, _ => omega
                    | 1, _ => omega
                    | 2, _ => omega
                    | j + 3, hv => cases hv)]
                  match j, hv with
                  | 0, hv => exact hv
                  | 1, hv => exact hv
                  | 2, hv => exact hv
                  | j + 3, hv => cases hv
                go_upto_region 18 with (first | (refine wpList_load_agg (by rfl) _ _ (by rfl) gc 79 (by rfl) (rsc K1.rv K1.ra K1.rs) _ HRS.out Tryz.underlying29 (by rfl) (info_res _ _ _) ?_) | (refine wpList_store_part (by rfl) _ _ _ (by rfl) (by rfl) gd 79 _ (by rfl) (by rfl) (HRD7.out.r.there (by rw [cpc_size]; show 79 + 3 ≤ 82; omega)) (info_res _ _ _) (rsc_ones _ _ _) ?_))
                refine on_P (motive := fun W => Code.wp _ _ _ _ W) (Q := fun W => Ky W0 b L2 S2 W ∧ Ks W0 L2 W gc (cpc K1) 31 ∧ Ks W0 L2 W go (otc o) 52 ∧ Ks W0 L2 W gd (cpc K1) 31) ⟨HKX7.out.lay HRD7.out 79 _, ⟨HRC7.out.r.lays (by have := HNF.out; omega) _ _, HRC7.out.n, HRC7.out.ge⟩, ⟨HRO7.out.r.lays (by have := HNF.out; omega) _ _, HRO7.out.n, HRO7.out.ge⟩, ⟨by have q := HRD7.out.r.lay (rsc K1.rv K1.ra K1.rs).toList 79; rw [show (rsc K1.rv K1.ra K1.rs).toList = [.bool K1.rv, .int .u64 (n64 K1.ra), .int .i64 K1.rs] from rfl, cpc_res, HDK.out] at q; exact q, HRD7.out.n, HRD7.out.ge⟩⟩ ?_
                clear HKX7 HRC7 HRO7 HRD7 HRS HDK
                rintro W8 ⟨h0, h1, h2, h3⟩
                have HKX8 : Hid (Ky W0 b L2 S2 W8) := h0
                have HRC8 : Hid (Ks W0 L2 W8 gc (cpc K1) 31) := h1
                have HRO8 : Hid (Ks W0 L2 W8 go (otc o) 52) := h2
                have HRD8 : Hid (Ks W0 L2 W8 gd (cpc K1) 31) := h3
                clear h0 h1 h2 h3
                have heq := fun W => eq_cpu W K1
                go_upto_region 20 with (first | (refine wpList_load_row (by rfl) _ _ (by rfl) _ (by rfl) 31 _ (0, 0) _ HRD8.out.r Tryz.underlying31 (by rfl) (info_cpu _) ?_) | (refine wpList_load_row (by rfl) _ _ (by rfl) _ (by rfl) 31 _ (0, 0) _ HRC8.out.r Tryz.underlying31 (by rfl) (info_cpu _) ?_))
                clear heq
                have HRC := HRC8
                have HRO := HRO8
                go_upto_region 7 with (first | (refine wpList_load_agg (by rfl) _ _ (by rfl) go 86 (by rfl) (rsc o.K.rv o.K.ra o.K.rs) _ (otc_res HRO.out.r) Tryz.underlying29 (by rfl) (info_res _ _ _) ?_) | (refine wpList_store_part (by rfl) _ _ _ (by rfl) (by rfl) gc 79 _ (by rfl) (by rfl) (HRC.out.r.there (by rw [cpc_size]; show 79 + 3 ≤ 82; omega)) (info_res _ _ _) (rsc_ones _ _ _) ?_))
                refine on_P (motive := fun W => Code.wp _ _ _ _ W) (Q := fun W => Osv W0 b gc K0 W) ⟨_, L2, S2, HKX8.out.lay HRC.out 79 _, HSOK.out, ⟨by have q := HRC.out.r.lay (rsc o.K.rv o.K.ra o.K.rs).toList 79; rw [show (rsc o.K.rv o.K.ra o.K.rs).toList = [.bool o.K.rv, .int .u64 (n64 o.K.ra), .int .i64 o.K.rs] from rfl, cpc_res] at q; exact q, HRC.out.n, HRC.out.ge⟩, HCN.out⟩ ?_
                clear HKX8 HRC8 HRO8 HRD8 HRC HRO HSOK HCN
                intro W9 hW9
                have HU9 : Hid (Osv W0 b gc K0 W9) := hW9
                clear hW9
                go_wp2
                go_roundw
                · exact ⟨j + 1, by omega, by go_num, HU9⟩
                · simp only [intOf]; omega
      · have h60I : ¬ ((j : Int) < 60) := by omega
        go_wp2
        go_ret
        exact ⟨rfl, b0.out.trans (hk.be.mono b0.out.size)⟩
    · obtain rfl : j = O.length := by omega
      have hltI : ¬ ((O.length : Int) < (O.length : Int)) := by omega
      go_wp2
      go_ret
      exact ⟨rfl, b0.out.trans (hk.be.mono b0.out.size)⟩
end Go.Proofs.YtlhgphokfpnfeaaGreatDoor
