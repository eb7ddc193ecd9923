/-
  Dr.
-/
import Derived.Test.YthmjimmmkoeeoaaDoorM27
namespace Go.Proofs.YthmjimmmkoeeoaaDoor
set_option linter.unusedVariables false
set_option maxRecDepth 100000
open Go.ChangeShapes Go.WideShapes Go.ChangeAt Go.RowKit Go.Deep Go.Shelf
theorem PR_rs (k : Cp) : 0 ≤ (PR k).rs ∧ (PR k).rs < 1000 := by
  show 0 ≤ (if rok k.rv k.ra k.rs then k.rs else 0) ∧ (if rok k.rv k.ra k.rs then k.rs else 0) < 1000
  split
  · rename_i h
    unfold rok at h
    simp only [Bool.and_eq_true, Bool.or_eq_true, beq_iff_eq] at h
    omega
  · omega
theorem zero_pg (w : World) : (zeroValue 63).run Tryd.prog w = .ok (.agg #[.pointer none, .slice none 0 0]) w := by kernel_rfl
/-- What a valid deck is. -/
theorem dkV_spec {D : Dk} (h : dkV D = true) (hf : dkF D = true) : 8 ≤ D.ram ∧ D.ram ≤ 65536 ∧ D.ps.length ≤ 16 ∧ D.ws.length ≤ 4000 ∧ (∀ p ∈ D.ps, p.s.toNat ≤ 65536 ∧ p.d.length ≤ 65536 ∧ 0 ≤ p.f ∧ p.f ≤ 7) ∧ ∀ x ∈ D.ws, x.i.length ≤ 64 := by
  unfold dkV raV at h
  unfold dkF at hf
  simp only [Bool.and_eq_true, decide_eq_true_eq, List.all_eq_true] at h hf
  refine ⟨h.1.1.1.1.1.1, h.1.1.1.1.1.2, h.1.1.1.2, h.1.1.2, fun p hp => ?_, fun x hx => h.2 x hx⟩
  have h1 := h.1.2 p hp
  have h2 := hf p hp
  unfold ptV at h1
  simp only [Bool.and_eq_true, decide_eq_true_eq] at h1
  have h3 := h.1.1.1.1.1.2
  refine ⟨by omega, by omega, h2.1, h2.2⟩
theorem hd_len (D : Dk) (h : D.ram.toNat ≤ 65536) : (lnT (hdLs D)).length ≤ 100 := by
  unfold hdLs
  have := dcL_len D.ram.toNat 5 (by omega)
  have := hxT_len D.mt
  by_cases h0 : D.mt = 0#64
  · rw [if_pos h0, List.append_nil, lnT_cons, lnT_one]; simp only [List.length_append, jw2, List.length_cons, List.length_nil]; omega
  · rw [if_neg h0, lnT_append, lnT_cons, lnT_one, lnT_one]; simp only [List.length_append, jw2, List.length_cons, List.length_nil]; omega
theorem flat_snoc (ps : List Pt) (k : Nat) (h : k < ps.length) : (ps.take (k + 1)).flatMap ptLs = (ps.take k).flatMap ptLs ++ ptLs (ps.getD k pt0) := by
  rw [List.take_succ_eq_append_getElem h, List.flatMap_append]
  simp [List.getD, h]
theorem flat_len (ps : List Pt) (h : ∀ p ∈ ps, p.s.toNat ≤ 65536 ∧ p.d.length ≤ 65536 ∧ 0 ≤ p.f ∧ p.f ≤ 7) : ∀ k, (lnT ((ps.take k).flatMap ptLs)).length ≤ 600000 * k := by
  intro k
  induction k with
  | zero => simp [lnT]
  | succ k ih =>
    by_cases hk : k < ps.length
    · rw [flat_snoc ps k hk, lnT_append, List.length_append]
      have hm : ps.getD k pt0 ∈ ps := by rw [List.getD_eq_getElem?_getD, List.getElem?_eq_getElem hk]; exact List.getElem_mem hk
      have h1 := h _ hm
      have := ptLs_len (ps.getD k pt0) (by omega) (by omega)
      omega
    · rw [List.take_of_length_le (by omega)]; rw [List.take_of_length_le (by omega)] at ih; omega
set_option maxHeartbeats 8000000 in
theorem deckText_c (r : Int) (K : Cp) (mt : BitVec 64) (ps : List Pt) (ws : List Wd) (v u : Value) (w : World) (hG : Gp w) (hv : Pts w v ps) (hu : Wds w u ws) (hV : dkV ⟨r, K, mt, ps, ws⟩ = true) (hF : dkF ⟨r, K, mt, ps, ws⟩ = true) :
    Calls Tryd.prog 9 #[.agg (dkc r K mt v u)] w fun e w' => e = .returned (.string (tS (dkT ⟨r, K, mt, ps, ws⟩))) ∧ Below w.heap.size w w' := by
  obtain ⟨W0, hW0, r0, b0, s0⟩ := start1 w (dkc r K mt v u) 35
  obtain ⟨v1, v2, v3, v4, v5, v6⟩ := dkV_spec hV hF
  simp only at v1 v2 v3 v4 v5 v6
  have HG : Hid (Gp W0) := hG.next b0.out
  have HV : Hid (Pts W0 v ps) := hv.later b0.out
  have HU : Hid (Wds W0 u ws) := hu.later b0.out
  obtain ⟨rn, hrn⟩ := Int.eq_ofNat_of_zero_le (show 0 ≤ r by omega)
  have HRN : Hid (rn ≤ 65536) := by unfold Hid; omega
  have HSP : Hid (ps.length ≤ 16 ∧ ws.length ≤ 4000 ∧ (∀ p ∈ ps, p.s.toNat ≤ 65536 ∧ p.d.length ≤ 65536 ∧ 0 ≤ p.f ∧ p.f ≤ 7) ∧ ∀ x ∈ ws, x.i.length ≤ 64) := ⟨v3, v4, v5, v6⟩
  have HT : Hid (dkT ⟨r, K, mt, ps, ws⟩ = lnT (hdLs ⟨r, K, mt, ps, ws⟩) ++ lnT (cpuLs (PR K)) ++ lnT (ps.flatMap ptLs) ++ lnT (wdLs ws)) := by unfold Hid dkT dkLs; rw [lnT_append, lnT_append, lnT_append]
  have HH : Hid (lnT (hdLs ⟨r, K, mt, ps, ws⟩) = jw [[97, 110, 118, 105, 108], [49]] ++ [10] ++ (jw [[114, 97, 109], dcL rn] ++ [10]) ++ lnT (if mt = 0#64 then [] else [jw [[109, 116, 105, 109, 101], hxT mt]])) := by
    unfold Hid hdLs; rw [lnT_append, lnT_cons, lnT_one]; simp only [hrn, Int.toNat_natCast]
  have HHL : Hid ((lnT (hdLs ⟨r, K, mt, ps, ws⟩)).length ≤ 100) := hd_len _ (by simp only; omega)
  have HDL : Hid ((dcL rn).length ≤ 6) := dcL_len rn 5 (by omega)
  have c0 : W0.cell? ⟨w.heap.size, 0, none⟩ = some (.int .i64 (rn : Int)) := by rw [← hrn]; exact (r0.out.cell 0).trans (dkc_r ..)
  have c83 : W0.cell? ⟨w.heap.size, 83, none⟩ = some (.int .u64 (n64 mt)) := (r0.out.cell (83 + 0)).trans ((dkc_e ..).trans rfl)
  have c84 : W0.cell? ⟨w.heap.size, 84, none⟩ = some v := (r0.out.cell (83 + 1)).trans ((dkc_e ..).trans rfl)
  have c85 : W0.cell? ⟨w.heap.size, 85, none⟩ = some u := (r0.out.cell (83 + 2)).trans ((dkc_e ..).trans rfl)
  have hlw : w.heap.size < W0.heap.size := by omega
  have HC : Hid (∀ w', Below W0.heap.size W0 w' → w'.cell? ⟨w.heap.size, 0, none⟩ = some (.int .i64 (rn : Int)) ∧ w'.cell? ⟨w.heap.size, 83, none⟩ = some (.int .u64 (n64 mt)) ∧ w'.cell? ⟨w.heap.size, 84, none⟩ = some v ∧ w'.cell? ⟨w.heap.size, 85, none⟩ = some u) := fun w' hb => ⟨(hb.cell (p := ⟨w.heap.size, 0, none⟩) hlw).trans c0, (hb.cell (p := ⟨w.heap.size, 83, none⟩) hlw).trans c83, (hb.cell (p := ⟨w.heap.size, 84, none⟩) hlw).trans c84, (hb.cell (p := ⟨w.heap.size, 85, none⟩) hlw).trans c85⟩
  have HCK : Hid (∀ w', Below W0.heap.size W0 w' → ∀ j x, (cpc K)[j]? = some x → w'.cell? ⟨w.heap.size, 1 + j, none⟩ = some x) := fun w' hb j x h => ((hb.cell (p := ⟨w.heap.size, 1 + j, none⟩) hlw).trans (r0.out.cell (1 + j))).trans (dkc_c _ _ _ _ _ j x h)
  have HIT : Hid (∀ w', Below W0.heap.size W0 w' → Calls Tryd.prog 21 #[.int .i64 (rn : Int)] w' fun e w'' => e = .returned (.string (tS (dcL rn))) ∧ Below w'.heap.size w' w'') := fun w' h => itoa_c rn (by omega) w' (HG.out.base h).2
  have HHX : Hid (∀ w', Below W0.heap.size W0 w' → Calls Tryd.prog 22 #[.int .u64 (n64 mt)] w' fun e w'' => e = .returned (.string (tS (hxT mt))) ∧ Below w'.heap.size w' w'') := fun w' h => phx_c _ w' (HG.out.base h).1
  have HCP : Hid (∀ (m : Tx) w', Below W0.heap.size W0 w' → Bd 63 W0.heap.size W0.heap.size m w' → m.length ≤ 1000000 → Calls Tryd.prog 23 #[.pointer (some ⟨W0.heap.size, 0, none⟩), .agg (cpc (PR K))] w' fun e w'' => e = .returned (.tuple #[]) ∧ Bd 63 W0.heap.size W0.heap.size (m ++ lnT (cpuLs (PR K))) w'' ∧ Bk W0.heap.size W0.heap.size w' w'') := fun m w' hb hP hm => addCpu_c (PR K) (PR_rs K) w' HG.out hb hP (by omega)
  have HCL : Hid ((lnT (cpuLs (PR K))).length ≤ 7000) := by have := cpuU_len (PR K) (PR_rs K) 64; unfold Hid cpuLs; omega
  have HM : Hid ((mt = 0#64 ∧ lnT (if mt = 0#64 then [] else [jw [[109, 116, 105, 109, 101], hxT mt]]) = []) ∨ (n64 mt == 0) = false ∧ lnT (if mt = 0#64 then [] else [jw [[109, 116, 105, 109, 101], hxT mt]]) = jw [[109, 116, 105, 109, 101], hxT mt] ++ [10]) := by
    by_cases h : mt = 0#64
    · exact .inl ⟨h, by rw [if_pos h]; rfl⟩
    · exact .inr ⟨n64_ne (y := 0#64) h, by rw [if_neg h, lnT_one]⟩
  generalize dkc r K mt v u = DC at hW0 ⊢
  generalize dkT ⟨r, K, mt, ps, ws⟩ = TT at HT ⊢
  generalize lnT (hdLs ⟨r, K, mt, ps, ws⟩) = TH at HT HH HHL
  generalize lnT (if mt = 0#64 then ([] : List Tx) else [jw [[109, 116, 105, 109, 101], hxT mt]]) = TM at HH HM
  generalize lnT (cpuLs (PR K)) = TC at HT HCP HCL
  have HXL : Hid ((hxT mt).length ≤ 18) := hxT_len mt
  generalize hxT mt = hx at HHX HM HXL
  clear hG hv hu hV hF v1 v2 v3 v4 v5 v6 r0 s0 hrn c0 c83 c84 c85
  obtain ⟨WP, hWP, rP, bP, sP⟩ := start1 W0 #[.pointer none, .slice none 0 0] 63
  have HP0 : Hid (Bd 63 W0.heap.size W0.heap.size [] WP) := by unfold Hid; rw [← hWP]; exact Bd.fresh _ W0
  have HBP : Hid (Below W0.heap.size W0 WP) := bP.out
  go_enter Tryd.func9, Tryd.ntmps9
  go_upto_region 1 with fail
  clear hW0
  go_upto_region 2 with (refine wpList_allocZ1 (by rfl) 63 (by rfl) #[.pointer none, .slice none 0 0] zero_pg ?_)
  try rw [hWP]
  clear hWP rP bP sP
  --@U1
  go_upto_region 3 with (go_at_call 20; refine (add2_c [97, 110, 118, 105, 108] [49] WP HP0.out (by rw [jw2]; simp) (by simp)).mono ?_; rintro e w1 ⟨rfl, h1, h2⟩; have HP1 : Hid (Bd 63 W0.heap.size W0.heap.size ([] ++ jw [[97, 110, 118, 105, 108], [49]] ++ [10]) w1) := h1; have HB1 : Hid (Below W0.heap.size W0 w1) := HBP.out.trans h2.bel; clear h1 h2)
  obtain ⟨c0, -, -, -⟩ := HC.out w1 HB1.out
  --@U2
  go_upto_region 4 with (first
    | (go_at_call 21; refine (HIT.out _ HB1.out).mono ?_; rintro e w2 ⟨rfl, hb⟩; have HB2 : Hid (Below W0.heap.size W0 w2) := HB1.out.trans (hb.mono HB1.out.size); have HP2 : Hid (Bd 63 W0.heap.size W0.heap.size ([] ++ jw [[97, 110, 118, 105, 108], [49]] ++ [10]) w2) := HP1.out.later hb; clear hb)
    | (go_at_call 20; refine (add2_c [114, 97, 109] (dcL rn) w2 HP2.out (by rw [jw2]; have := HDL.out; simp only [List.length_cons, List.length_nil]; omega) (by rw [List.length_append, List.length_append, jw2]; simp)).mono ?_; rintro e w3 ⟨rfl, h1, h2⟩; have HP3 : Hid (Bd 63 W0.heap.size W0.heap.size ([] ++ jw [[97, 110, 118, 105, 108], [49]] ++ [10] ++ jw [[114, 97, 109], dcL rn] ++ [10]) w3) := h1; have HB3 : Hid (Below W0.heap.size W0 w3) := HB2.out.trans h2.bel; clear h1 h2))
  obtain ⟨-, c83, -, -⟩ := HC.out w3 HB3.out
  --@U3
  have HTN : Hid (0 < TH.length) := by unfold Hid; rw [HH.out]; simp; omega
  have HE3 : Hid ([] ++ jw [[97, 110, 118, 105, 108], [49]] ++ [10] ++ jw [[114, 97, 109], dcL rn] ++ [10] ++ TM = TH) := by unfold Hid; rw [HH.out]; simp
  have HL3 : Hid (([] ++ jw [[97, 110, 118, 105, 108], [49]] ++ [10] ++ jw [[114, 97, 109], dcL rn] ++ [10] : Tx).length ≤ 100) := by unfold Hid; have := congrArg List.length HE3.out; rw [List.length_append] at this; have := HHL.out; omega
  generalize ([] ++ jw [[97, 110, 118, 105, 108], [49]] ++ [10] ++ jw [[114, 97, 109], dcL rn] ++ [10] : Tx) = M3 at HE3 HL3 HP3
  clear HP1 HP2 HB1 HB2 HP0 HBP HIT HDL HH
  rcases HM.out with ⟨hm, hTM⟩ | ⟨hm, hTM⟩
  · have hm2 : (n64 mt == 0) = true := by rw [hm]; rfl
    have HE5 : Hid (M3 = TH) := by unfold Hid; rw [← HE3.out, hTM, List.append_nil]
    clear hm hTM HM
    go_upto_region 6 with fail
    have HP5 : Hid (Bd 63 W0.heap.size W0.heap.size TH w3) := by unfold Hid; rw [← HE5.out]; exact HP3.out
    have HB5 : Hid (Below W0.heap.size W0 w3) := HB3.out
    clear HHX
    --@U4
    go_upto_region 7 with (first
      | (go_at_call 24; refine (Pr_c K _).mono ?_; rintro e w6 ⟨rfl, hb⟩; have HB6 : Hid (Below W0.heap.size W0 w6) := HB5.out.trans (hb.mono HB5.out.size); have HP6 : Hid (Bd 63 W0.heap.size W0.heap.size TH w6) := HP5.out.later hb; clear hb)
      | (go_at_call 23; refine (HCP.out TH w6 HB6.out HP6.out (by have := HHL.out; omega)).mono ?_; rintro e w7 ⟨rfl, h1, h2⟩; have HP7 : Hid (Bd 63 W0.heap.size W0.heap.size (TH ++ TC) w7) := h1; have HB7 : Hid (Below W0.heap.size W0 w7) := HB6.out.trans h2.bel; clear h1 h2)
      | (refine wpList_load_agg (by rfl) 31 _ (by rfl) w.heap.size 1 (by rfl) (cpc K) _ (HCK.out _ HB5.out) Tryd.underlying31 (by rfl) (info_cpu _) ?_))
    obtain ⟨-, -, c84, c85⟩ := HC.out w7 HB7.out
    have HPL : Hid ((TH ++ TC).length ≤ 7100 ∧ 0 < (TH ++ TC).length) := by unfold Hid; rw [List.length_append]; have := HHL.out; have := HCL.out; have := HTN.out; omega
    have HT7 : Hid (TT = (TH ++ TC) ++ lnT (ps.flatMap ptLs) ++ lnT (wdLs ws)) := HT.out
    generalize TH ++ TC = T7 at HP7 HPL HT7
    clear HCP HCL HP5 HB5 HE5 HL3 HHL HT HE3
    have HV2 : Hid (Pts W0 v ps) := HV.out
    obtain ⟨av, cv, rfl, hcv, _, _⟩ := HV.out
    obtain ⟨N, hN⟩ : ∃ N, N = ps.length := ⟨_, rfl⟩
    rw [← hN] at hcv c84 HC
    have HN : Hid (N = ps.length) := hN
    clear hN
    go_upto_region 8 with fail
    --@U5
    go_loopw [5, 28] (fun _ i wr => ∃ k : Nat, k ≤ N ∧ i = .int .i64 k ∧ Hid (Bd 63 W0.heap.size W0.heap.size (T7 ++ lnT ((ps.take k).flatMap ptLs)) wr) ∧ Hid (Below W0.heap.size W0 wr)) (fun _ i _ => N - (intOf i).toNat)
    case atStart => exact ⟨0, Nat.zero_le _, rfl, by unfold Hid; rw [List.take_zero, List.flatMap_nil, lnT_nil, List.append_nil]; exact HP7.out, HB7.out⟩
    case round =>
      obtain ⟨k, hk, rfl, HD, HB⟩ := hrel
      clear HP7 HB7 c84 c85
      by_cases hlt : k < N
      · have hltI : (k : Int) < N := by omega
        have hN16 : N ≤ 16 := by have := HN.out; have := HSP.out.1; omega
        obtain ⟨g, off, cap2, e1, hc2, hg, hcs⟩ := HV2.out.at k (by rw [← HN.out]; exact hlt)
        cases e1
        obtain ⟨uk, hck, hbk, hak⟩ := hcs k (by rw [← HN.out]; exact hlt)
        have hmem : ps.getD k pt0 ∈ ps := by rw [List.getD_eq_getElem?_getD, List.getElem?_eq_getElem (by rw [← HN.out]; exact hlt)]; exact List.getElem_mem _
        have hsp := HSP.out.2.2.1 _ hmem
        have HLX : Hid ((T7 ++ lnT ((ps.take k).flatMap ptLs)).length ≤ 20000000) := by unfold Hid; rw [List.length_append]; have := flat_len ps HSP.out.2.2.1 k; have := HPL.out.1; have := HSP.out.1; have := HN.out; omega
        have HNX : Hid (T7 ++ lnT ((ps.take (k + 1)).flatMap ptLs) = T7 ++ lnT ((ps.take k).flatMap ptLs) ++ lnT (ptLs (ps.getD k pt0))) := by unfold Hid; rw [flat_snoc ps k (by rw [← HN.out]; exact hlt), lnT_append, List.append_assoc]
        generalize T7 ++ lnT ((ps.take k).flatMap ptLs) = m at HD HLX HNX
        generalize ps.getD k pt0 = p at hck hbk hak hsp HNX
        have HAP : Hid (∀ w', Below W0.heap.size W0 w' → Bd 63 W0.heap.size W0.heap.size m w' → Calls Tryd.prog 25 #[.pointer (some ⟨W0.heap.size, 0, none⟩), .agg #[.int .u64 (n64 p.a), .int .u64 (n64 p.s), .int .i64 p.f, uk]] w' fun e w'' => e = .returned (.tuple #[]) ∧ Bd 63 W0.heap.size W0.heap.size (m ++ lnT (ptLs p)) w'' ∧ Bk W0.heap.size W0.heap.size w' w'') := fun w' hb hP => addPart_c p uk hbk hak ⟨hsp.2.2.1, hsp.2.2.2⟩ (by omega) (by omega) w' HG.out hb hP (by have := HLX.out; omega)
        have HCK2 : Hid (∀ i y, (#[.int .u64 (n64 p.a), .int .u64 (n64 p.s), .int .i64 p.f, uk] : Array Value)[i]? = some y → wr.cell? ⟨g, off + k * 4 + i, none⟩ = some y) := fun i y h => (HB.out.cell (p := ⟨g, off + k * 4 + i, none⟩) hg).trans (hck i y h)
        have huk : uk.oneCell' = true := by obtain ⟨a', c', rfl, _⟩ := hbk; rfl
        generalize n64 p.a = A at *
        generalize n64 p.s = S at *
        generalize p.f = F at *
        obtain ⟨WA, hWA, rA, bA, sA⟩ := start1 wr #[.int .u64 A, .int .u64 S, .int .i64 F, uk] 46
        have HBA : Hid (Below W0.heap.size W0 WA) := HB.out.trans (bA.out.mono HB.out.size)
        have HDA : Hid (Bd 63 W0.heap.size W0.heap.size m WA) := HD.out.later bA.out
        have HCA : Hid (∀ i y, (#[.int .u64 A, .int .u64 S, .int .i64 F, uk] : Array Value)[i]? = some y → WA.cell? ⟨wr.heap.size, 0 + i, none⟩ = some y) := fun i y h => by rw [Nat.zero_add]; exact (rA.out.cell i).trans h
        have HKN : Hid (k + 1 ≤ N) := hlt
        clear hck hak hg hcs hc2 hbk hsp hmem
        go_upto_region 10 with (first
          | (refine wpList_allocZ1 (by rfl) 46 (by rfl) #[.int .u64 0, .int .u64 0, .int .i64 0, .slice none 0 0] zero_sg ?_)
          | (refine wpList_store_new (by rfl) 46 _ _ (by rfl) (by rfl) #[.int .u64 0, .int .u64 0, .int .i64 0, .slice none 0 0] #[.int .u64 A, .int .u64 S, .int .i64 F, uk] (by rfl) (by rfl) (info_sg _ _ _ _) (by rfl) (ones4 (by rfl) (by rfl) (by rfl) huk) ?_)
          | (refine wpList_load_agg (by rfl) 46 _ (by rfl) g (off + k * 4) (by rfl) #[.int .u64 A, .int .u64 S, .int .i64 F, uk] _ HCK2.out Tryd.underlying46 (by rfl) (info_sg _ _ _ _) ?_))
        try rw [hWA]
        clear hWA rA bA sA
        --@U6
        go_wp2_with (first
          | (go_at_call 25; refine (HAP.out WA HBA.out HDA.out).mono ?_; rintro e w8 ⟨rfl, h1, h2⟩; have HP8 : Hid (Bd 63 W0.heap.size W0.heap.size (m ++ lnT (ptLs p)) w8) := h1; have HB8 : Hid (Below W0.heap.size W0 w8) := HBA.out.trans h2.bel; clear h1 h2)
          | (refine wpList_load_agg (by rfl) 46 _ (by rfl) wr.heap.size 0 (by rfl) #[.int .u64 A, .int .u64 S, .int .i64 F, uk] _ HCA.out Tryd.underlying46 (by rfl) (info_sg _ _ _ _) ?_))
        go_roundw
        case rel => exact ⟨k + 1, HKN.out, by go_num, by unfold Hid; rw [HNX.out]; exact HP8.out, HB8.out⟩
        case measure => have := HKN.out; simp [intOf]; omega
      · have hke : k = N := by omega
        have HT8 : Hid (T7 ++ lnT ((ps.take k).flatMap ptLs) = T7 ++ lnT (ps.flatMap ptLs)) := by unfold Hid; rw [hke, HN.out, List.take_length]
        have HLX : Hid ((T7 ++ lnT (ps.flatMap ptLs)).length ≤ 20000000) := by unfold Hid; rw [List.length_append]; have := flat_len ps HSP.out.2.2.1 ps.length; rw [List.take_length] at this; have := HPL.out.1; have := HSP.out.1; omega
        rw [HT8.out] at HD
        have HNE : Hid (TT ≠ []) := by
          unfold Hid; rw [HT7.out]; intro h
          have := congrArg List.length h
          rw [List.length_append, List.length_append, List.length_nil] at this
          have := HPL.out; omega
        generalize T7 ++ lnT (ps.flatMap ptLs) = m at HD HLX HT7
        obtain ⟨c0, c83, c84, c85⟩ := HC.out wr HB.out
        have HAW : Hid (Calls Tryd.prog 26 #[.pointer (some ⟨W0.heap.size, 0, none⟩), u] wr fun e w'' => e = .returned (.tuple #[]) ∧ Bd 63 W0.heap.size W0.heap.size (m ++ lnT (wdLs ws)) w'' ∧ Bk W0.heap.size W0.heap.size wr w'') := addWorlds_c ws u HU.out HSP.out.2.1 HSP.out.2.2.2 wr HG.out HB.out HD.out (by have := HLX.out; omega)
        rw [← HT7.out] at HAW
        clear hke
        go_wp2_with (first
          | (go_at_call 26; refine HAW.out.mono ?_; rintro e w8 ⟨rfl, h1, h2⟩; have HP8 : Hid (Bd 63 W0.heap.size W0.heap.size TT w8) := h1; have HB8 : Hid (Below W0.heap.size W0 w8) := HB.out.trans h2.bel; clear h1 h2)
          | (go_at_call 27; refine (HP8.out.st HNE.out).mono ?_; rintro e w9 ⟨rfl, h2⟩; have HB9 : Hid (Below W0.heap.size W0 w9) := HB8.out.trans h2.bel; clear h2))
        go_ret
        exact ⟨rfl, b0.out.trans (HB9.out.mono b0.out.size)⟩
  · have HE5 : Hid (M3 ++ jw [[109, 116, 105, 109, 101], hx] ++ [10] = TH) := by unfold Hid; rw [← HE3.out, hTM]; simp
    clear hTM HM
    go_upto_region 6 with (first
      | (go_at_call 22; refine (HHX.out _ HB3.out).mono ?_; rintro e w4 ⟨rfl, hb⟩; have HB4 : Hid (Below W0.heap.size W0 w4) := HB3.out.trans (hb.mono HB3.out.size); have HP4 : Hid (Bd 63 W0.heap.size W0.heap.size M3 w4) := HP3.out.later hb; clear hb)
      | (go_at_call 20; refine (add2_c [109, 116, 105, 109, 101] hx w4 HP4.out (by rw [jw2]; have := HXL.out; simp only [List.length_cons, List.length_nil]; omega) (by have := HL3.out; omega)).mono ?_; rintro e w5 ⟨rfl, h1, h2⟩; have HP5a : Hid (Bd 63 W0.heap.size W0.heap.size (M3 ++ jw [[109, 116, 105, 109, 101], hx] ++ [10]) w5) := h1; have HB5a : Hid (Below W0.heap.size W0 w5) := HB4.out.trans h2.bel; clear h1 h2))
    have HP5 : Hid (Bd 63 W0.heap.size W0.heap.size TH w5) := by unfold Hid; rw [← HE5.out]; exact HP5a.out
    have HB5 : Hid (Below W0.heap.size W0 w5) := HB5a.out
    clear HHX
    --@U4
    go_upto_region 7 with (first
      | (go_at_call 24; refine (Pr_c K _).mono ?_; rintro e w6 ⟨rfl, hb⟩; have HB6 : Hid (Below W0.heap.size W0 w6) := HB5.out.trans (hb.mono HB5.out.size); have HP6 : Hid (Bd 63 W0.heap.size W0.heap.size TH w6) := HP5.out.later hb; clear hb)
      | (go_at_call 23; refine (HCP.out TH w6 HB6.out HP6.out (by have := HHL.out; omega)).mono ?_; rintro e w7 ⟨rfl, h1, h2⟩; have HP7 : Hid (Bd 63 W0.heap.size W0.heap.size (TH ++ TC) w7) := h1; have HB7 : Hid (Below W0.heap.size W0 w7) := HB6.out.trans h2.bel; clear h1 h2)
      | (refine wpList_load_agg (by rfl) 31 _ (by rfl) w.heap.size 1 (by rfl) (cpc K) _ (HCK.out _ HB5.out) Tryd.underlying31 (by rfl) (info_cpu _) ?_))
    obtain ⟨-, -, c84, c85⟩ := HC.out w7 HB7.out
    have HPL : Hid ((TH ++ TC).length ≤ 7100 ∧ 0 < (TH ++ TC).length) := by unfold Hid; rw [List.length_append]; have := HHL.out; have := HCL.out; have := HTN.out; omega
    have HT7 : Hid (TT = (TH ++ TC) ++ lnT (ps.flatMap ptLs) ++ lnT (wdLs ws)) := HT.out
    generalize TH ++ TC = T7 at HP7 HPL HT7
    clear HCP HCL HP5 HB5 HE5 HL3 HHL HT HE3
    have HV2 : Hid (Pts W0 v ps) := HV.out
    obtain ⟨av, cv, rfl, hcv, _, _⟩ := HV.out
    obtain ⟨N, hN⟩ : ∃ N, N = ps.length := ⟨_, rfl⟩
    rw [← hN] at hcv c84 HC
    have HN : Hid (N = ps.length) := hN
    clear hN
    go_upto_region 8 with fail
    --@U5
    go_loopw [5, 28] (fun _ i wr => ∃ k : Nat, k ≤ N ∧ i = .int .i64 k ∧ Hid (Bd 63 W0.heap.size W0.heap.size (T7 ++ lnT ((ps.take k).flatMap ptLs)) wr) ∧ Hid (Below W0.heap.size W0 wr)) (fun _ i _ => N - (intOf i).toNat)
    case atStart => exact ⟨0, Nat.zero_le _, rfl, by unfold Hid; rw [List.take_zero, List.flatMap_nil, lnT_nil, List.append_nil]; exact HP7.out, HB7.out⟩
    case round =>
      obtain ⟨k, hk, rfl, HD, HB⟩ := hrel
      clear HP7 HB7 c84 c85
      by_cases hlt : k < N
      · have hltI : (k : Int) < N := by omega
        have hN16 : N ≤ 16 := by have := HN.out; have := HSP.out.1; omega
        obtain ⟨g, off, cap2, e1, hc2, hg, hcs⟩ := HV2.out.at k (by rw [← HN.out]; exact hlt)
        cases e1
        obtain ⟨uk, hck, hbk, hak⟩ := hcs k (by rw [← HN.out]; exact hlt)
        have hmem : ps.getD k pt0 ∈ ps := by rw [List.getD_eq_getElem?_getD, List.getElem?_eq_getElem (by rw [← HN.out]; exact hlt)]; exact List.getElem_mem _
        have hsp := HSP.out.2.2.1 _ hmem
        have HLX : Hid ((T7 ++ lnT ((ps.take k).flatMap ptLs)).length ≤ 20000000) := by unfold Hid; rw [List.length_append]; have := flat_len ps HSP.out.2.2.1 k; have := HPL.out.1; have := HSP.out.1; have := HN.out; omega
        have HNX : Hid (T7 ++ lnT ((ps.take (k + 1)).flatMap ptLs) = T7 ++ lnT ((ps.take k).flatMap ptLs) ++ lnT (ptLs (ps.getD k pt0))) := by unfold Hid; rw [flat_snoc ps k (by rw [← HN.out]; exact hlt), lnT_append, List.append_assoc]
        generalize T7 ++ lnT ((ps.take k).flatMap ptLs) = m at HD HLX HNX
        generalize ps.getD k pt0 = p at hck hbk hak hsp HNX
        have HAP : Hid (∀ w', Below W0.heap.size W0 w' → Bd 63 W0.heap.size W0.heap.size m w' → Calls Tryd.prog 25 #[.pointer (some ⟨W0.heap.size, 0, none⟩), .agg #[.int .u64 (n64 p.a), .int .u64 (n64 p.s), .int .i64 p.f, uk]] w' fun e w'' => e = .returned (.tuple #[]) ∧ Bd 63 W0.heap.size W0.heap.size (m ++ lnT (ptLs p)) w'' ∧ Bk W0.heap.size W0.heap.size w' w'') := fun w' hb hP => addPart_c p uk hbk hak ⟨hsp.2.2.1, hsp.2.2.2⟩ (by omega) (by omega) w' HG.out hb hP (by have := HLX.out; omega)
        have HCK2 : Hid (∀ i y, (#[.int .u64 (n64 p.a), .int .u64 (n64 p.s), .int .i64 p.f, uk] : Array Value)[i]? = some y → wr.cell? ⟨g, off + k * 4 + i, none⟩ = some y) := fun i y h => (HB.out.cell (p := ⟨g, off + k * 4 + i, none⟩) hg).trans (hck i y h)
        have huk : uk.oneCell' = true := by obtain ⟨a', c', rfl, _⟩ := hbk; rfl
        generalize n64 p.a = A at *
        generalize n64 p.s = S at *
        generalize p.f = F at *
        obtain ⟨WA, hWA, rA, bA, sA⟩ := start1 wr #[.int .u64 A, .int .u64 S, .int .i64 F, uk] 46
        have HBA : Hid (Below W0.heap.size W0 WA) := HB.out.trans (bA.out.mono HB.out.size)
        have HDA : Hid (Bd 63 W0.heap.size W0.heap.size m WA) := HD.out.later bA.out
        have HCA : Hid (∀ i y, (#[.int .u64 A, .int .u64 S, .int .i64 F, uk] : Array Value)[i]? = some y → WA.cell? ⟨wr.heap.size, 0 + i, none⟩ = some y) := fun i y h => by rw [Nat.zero_add]; exact (rA.out.cell i).trans h
        have HKN : Hid (k + 1 ≤ N) := hlt
        clear hck hak hg hcs hc2 hbk hsp hmem
        go_upto_region 10 with (first
          | (refine wpList_allocZ1 (by rfl) 46 (by rfl) #[.int .u64 0, .int .u64 0, .int .i64 0, .slice none 0 0] zero_sg ?_)
          | (refine wpList_store_new (by rfl) 46 _ _ (by rfl) (by rfl) #[.int .u64 0, .int .u64 0, .int .i64 0, .slice none 0 0] #[.int .u64 A, .int .u64 S, .int .i64 F, uk] (by rfl) (by rfl) (info_sg _ _ _ _) (by rfl) (ones4 (by rfl) (by rfl) (by rfl) huk) ?_)
          | (refine wpList_load_agg (by rfl) 46 _ (by rfl) g (off + k * 4) (by rfl) #[.int .u64 A, .int .u64 S, .int .i64 F, uk] _ HCK2.out Tryd.underlying46 (by rfl) (info_sg _ _ _ _) ?_))
        try rw [hWA]
        clear hWA rA bA sA
        --@U6
        go_wp2_with (first
          | (go_at_call 25; refine (HAP.out WA HBA.out HDA.out).mono ?_; rintro e w8 ⟨rfl, h1, h2⟩; have HP8 : Hid (Bd 63 W0.heap.size W0.heap.size (m ++ lnT (ptLs p)) w8) := h1; have HB8 : Hid (Below W0.heap.size W0 w8) := HBA.out.trans h2.bel; clear h1 h2)
          | (refine wpList_load_agg (by rfl) 46 _ (by rfl) wr.heap.size 0 (by rfl) #[.int .u64 A, .int .u64 S, .int .i64 F, uk] _ HCA.out Tryd.underlying46 (by rfl) (info_sg _ _ _ _) ?_))
        go_roundw
        case rel => exact ⟨k + 1, HKN.out, by go_num, by unfold Hid; rw [HNX.out]; exact HP8.out, HB8.out⟩
        case measure => have := HKN.out; simp [intOf]; omega
      · have hke : k = N := by omega
        have HT8 : Hid (T7 ++ lnT ((ps.take k).flatMap ptLs) = T7 ++ lnT (ps.flatMap ptLs)) := by unfold Hid; rw [hke, HN.out, List.take_length]
        have HLX : Hid ((T7 ++ lnT (ps.flatMap ptLs)).length ≤ 20000000) := by unfold Hid; rw [List.length_append]; have := flat_len ps HSP.out.2.2.1 ps.length; rw [List.take_length] at this; have := HPL.out.1; have := HSP.out.1; omega
        rw [HT8.out] at HD
        have HNE : Hid (TT ≠ []) := by
          unfold Hid; rw [HT7.out]; intro h
          have := congrArg List.length h
          rw [List.length_append, List.length_append, List.length_nil] at this
          have := HPL.out; omega
        generalize T7 ++ lnT (ps.flatMap ptLs) = m at HD HLX HT7
        obtain ⟨c0, c83, c84, c85⟩ := HC.out wr HB.out
        have HAW : Hid (Calls Tryd.prog 26 #[.pointer (some ⟨W0.heap.size, 0, none⟩), u] wr fun e w'' => e = .returned (.tuple #[]) ∧ Bd 63 W0.heap.size W0.heap.size (m ++ lnT (wdLs ws)) w'' ∧ Bk W0.heap.size W0.heap.size wr w'') := addWorlds_c ws u HU.out HSP.out.2.1 HSP.out.2.2.2 wr HG.out HB.out HD.out (by have := HLX.out; omega)
        rw [← HT7.out] at HAW
        clear hke
        go_wp2_with (first
          | (go_at_call 26; refine HAW.out.mono ?_; rintro e w8 ⟨rfl, h1, h2⟩; have HP8 : Hid (Bd 63 W0.heap.size W0.heap.size TT w8) := h1; have HB8 : Hid (Below W0.heap.size W0 w8) := HB.out.trans h2.bel; clear h1 h2)
          | (go_at_call 27; refine (HP8.out.st HNE.out).mono ?_; rintro e w9 ⟨rfl, h2⟩; have HB9 : Hid (Below W0.heap.size W0 w9) := HB8.out.trans h2.bel; clear h2))
        go_ret
        exact ⟨rfl, b0.out.trans (HB9.out.mono b0.out.size)⟩
set_option maxHeartbeats 4000000 in
theorem print_c (r : Int) (K : Cp) (mt : BitVec 64) (ps : List Pt) (ws : List Wd) (v u : Value) (w : World) (hr : -9223372036854775808 ≤ r ∧ r ≤ 9223372036854775807) (hG : Gp w) (hv : Pts w v ps) (hu : Wds w u ws) (hn : ps.length ≤ 140737488355328) (hm : ws.length ≤ 140737488355328)
    (hd : ∀ p ∈ ps, p.d.length ≤ 140737488355328) (hi : ∀ x ∈ ws, x.i.length ≤ 140737488355328) :
    Calls Tryd.prog 5 #[.agg (dkc r K mt v u)] w fun e w' => e = .returned (.tuple #[.string (tS (prT ⟨r, K, mt, ps, ws⟩).1), .int .i64 (prT ⟨r, K, mt, ps, ws⟩).2]) ∧ Below w.heap.size w w' := by
  obtain ⟨W0, hW0, r0, b0, s0⟩ := start1 w (dkc r K mt v u) 35
  have HIV : Hid (∀ w', Below w.heap.size w w' → Calls Tryd.prog 8 #[.agg (dkc r K mt v u)] w' fun e w'' => e = .returned (.bool (dkV ⟨r, K, mt, ps, ws⟩ && dkF ⟨r, K, mt, ps, ws⟩)) ∧ Below w'.heap.size w' w'') := fun w' hb => isvalid_c r K mt ps ws v u w' hr (hv.later hb) (hu.later hb) hn hm hd hi
  have HDT : Hid ((dkV ⟨r, K, mt, ps, ws⟩ && dkF ⟨r, K, mt, ps, ws⟩) = true → ∀ w', Below w.heap.size w w' → Calls Tryd.prog 9 #[.agg (dkc r K mt v u)] w' fun e w'' => e = .returned (.string (tS (dkT ⟨r, K, mt, ps, ws⟩))) ∧ Below w'.heap.size w' w'') := fun h w' hb => by
    rw [Bool.and_eq_true] at h
    exact deckText_c r K mt ps ws v u w' (hG.next hb) (hv.later hb) (hu.later hb) h.1 h.2
  have HCD : Hid (∀ w', Below W0.heap.size W0 w' → ∀ i y, (dkc r K mt v u)[i]? = some y → w'.cell? ⟨w.heap.size, 0 + i, none⟩ = some y) := fun w' hb i y h => by rw [Nat.zero_add]; exact ((hb.cell (p := ⟨w.heap.size, i, none⟩) (by show w.heap.size < _; omega)).trans (r0.out.cell i)).trans h
  have HID := info_dk r K mt v u
  have HZ : Hid (prT ⟨r, K, mt, ps, ws⟩ = if (dkV ⟨r, K, mt, ps, ws⟩ && dkF ⟨r, K, mt, ps, ws⟩) = false then ([], 140) else if (400000 : Int) < (dkT ⟨r, K, mt, ps, ws⟩).length then ([], 4) else (dkT ⟨r, K, mt, ps, ws⟩, 0)) := rfl
  generalize prT ⟨r, K, mt, ps, ws⟩ = Z at HZ ⊢
  generalize (dkV ⟨r, K, mt, ps, ws⟩ && dkF ⟨r, K, mt, ps, ws⟩) = Y at HIV HDT HZ
  generalize dkT ⟨r, K, mt, ps, ws⟩ = T at HDT HZ
  generalize dkc r K mt v u = DC at *
  clear hG hv hu hn hm hd hi hr s0 r0
  have HI0 : Hid (Calls Tryd.prog 8 #[.agg DC] W0 fun e w'' => e = .returned (.bool Y) ∧ Below W0.heap.size W0 w'') := HIV.out W0 b0.out
  clear HIV
  cases Y
  · have HE : Hid (Z = ([], 140)) := by unfold Hid; rw [HZ.out, if_pos rfl]
    go_enter Tryd.func5, Tryd.ntmps5
    go_upto_region 1 with fail
    clear hW0
    go_wp2_with (first
      | (go_at_call 8; refine HI0.out.mono ?_; rintro e w1 ⟨rfl, hb⟩; have HB1 : Hid (Below W0.heap.size W0 w1) := hb; clear hb)
      | (refine wpList_load_agg (by rfl) 35 _ (by rfl) w.heap.size 0 (by rfl) DC _ (HCD.out _ (Below.refl _ _)) Tryd.underlying35 (by rfl) HID ?_))
    go_ret2
    exact ⟨by rw [HE.out]; rfl, b0.out.trans (HB1.out.mono b0.out.size)⟩
  · have HD0 : Hid (∀ w', Below W0.heap.size W0 w' → Calls Tryd.prog 9 #[.agg DC] w' fun e w'' => e = .returned (.string (tS T)) ∧ Below w'.heap.size w' w'') := fun w' hb => HDT.out rfl w' (b0.out.trans (hb.mono b0.out.size))
    have HZ2 : Hid (Z = if (400000 : Int) < T.length then ([], 4) else (T, 0)) := by unfold Hid; rw [HZ.out, if_neg (by simp)]
    have hsz : (tS T).size = T.length := tS_size T
    have HS : Hid (∀ x : Tx × Int, x = (T, 0) → tS x.1 = tS T) := fun x h => by rw [h]
    clear HZ HDT
    by_cases hl : (400000 : Int) < T.length
    · have HE : Hid (Z = ([], 4)) := by unfold Hid; rw [HZ2.out, if_pos hl]
      clear HZ2 HS
      generalize T.length = q at hl hsz
      generalize tS T = s at HD0 hsz
      go_enter Tryd.func5, Tryd.ntmps5
      go_upto_region 1 with fail
      clear hW0
      go_wp2_with (first
        | (go_at_call 8; refine HI0.out.mono ?_; rintro e w1 ⟨rfl, hb⟩; have HB1 : Hid (Below W0.heap.size W0 w1) := hb; clear hb)
        | (go_at_call 9; refine (HD0.out _ HB1.out).mono ?_; rintro e w2 ⟨rfl, hb⟩; have HB2 : Hid (Below W0.heap.size W0 w2) := HB1.out.trans (hb.mono HB1.out.size); clear hb)
        | (refine wpList_load_agg (by rfl) 35 _ (by rfl) w.heap.size 0 (by rfl) DC _ (HCD.out _ (by first | exact Below.refl _ _ | exact HB1.out)) Tryd.underlying35 (by rfl) HID ?_))
      go_ret2
      exact ⟨by rw [HE.out]; rfl, b0.out.trans (HB2.out.mono b0.out.size)⟩
    · have HE : Hid (Z = (T, 0)) := by unfold Hid; rw [HZ2.out, if_neg hl]
      have HSE : Hid (tS Z.1 = tS T ∧ Z.2 = 0) := ⟨by rw [HE.out], by rw [HE.out]⟩
      clear HZ2 HS HE
      generalize T.length = q at hl hsz
      generalize tS T = s at HD0 hsz HSE
      go_enter Tryd.func5, Tryd.ntmps5
      go_upto_region 1 with fail
      clear hW0
      go_wp2_with (first
        | (go_at_call 8; refine HI0.out.mono ?_; rintro e w1 ⟨rfl, hb⟩; have HB1 : Hid (Below W0.heap.size W0 w1) := hb; clear hb)
        | (go_at_call 9; refine (HD0.out _ HB1.out).mono ?_; rintro e w2 ⟨rfl, hb⟩; have HB2 : Hid (Below W0.heap.size W0 w2) := HB1.out.trans (hb.mono HB1.out.size); clear hb)
        | (refine wpList_load_agg (by rfl) 35 _ (by rfl) w.heap.size 0 (by rfl) DC _ (HCD.out _ (by first | exact Below.refl _ _ | exact HB1.out)) Tryd.underlying35 (by rfl) HID ?_))
      go_ret2
      exact ⟨by rw [HSE.out.1, HSE.out.2]; rfl, b0.out.trans (HB2.out.mono b0.out.size)⟩
end Go.Proofs.YthmjimmmkoeeoaaDoor
