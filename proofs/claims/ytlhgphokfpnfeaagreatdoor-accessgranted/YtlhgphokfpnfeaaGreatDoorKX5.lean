import Derived.Test.YtlhgphokfpnfeaaGreatDoorKX4
import Derived.Deep.CutRange
namespace Go.Proofs.YtlhgphokfpnfeaaGreatDoor
set_option linter.unusedVariables false
open Go.MuLone Go.ChangeShapes Go.WideShapes Go.ChangeAt Go.RowKit Go.Deep
theorem md0_L (k : Cp) : layC (cpc k) 33 [.int .i64 0] = cpc { k with md := 0 } := cpc_md k 0
theorem PR_md0 {k : Cp} (h : PR k = k) : PR { k with md := 0 } = { k with md := 0 } := by
  have e : PR { k with md := 0 } = { PR k with md := 0 } := rfl
  rw [e, h]
set_option maxRecDepth 100000 in
set_option maxHeartbeats 4000000 in
theorem granted_no (K : Cp) (S : St) (ar ai ao : Option Addr) (cr ci co : Nat) (O : List Acd) (va : Value) (w : World) (hT : Tb w) (hs : Bs S (.slice ar S.ram.length cr) (.slice ai S.inp.length ci) (.slice ao S.out.length co) w) (hw : StW S) (lr : S.ram.length ≤ 140737488355328) (li : S.inp.length ≤ 140737488355328) (lo : S.out.length ≤ 140737488355328) (ha : Acts w va O) (hl : O.length ≤ 140737488355328) (hok : S.ok = false) :
    Calls Tryz.prog 7 #[.agg (scc K S (.slice ar S.ram.length cr) (.slice ai S.inp.length ci) (.slice ao S.out.length co) va)] w fun e w' => e = .returned (.bool true) ∧ Below w.heap.size w w' := by
  obtain ⟨W0, hW0, r0, b0, s0⟩ := start1 w (scc K S (.slice ar S.ram.length cr) (.slice ai S.inp.length ci) (.slice ao S.out.length co) va) 38
  have HSB : Hid (∀ W, Below W0.heap.size W0 W → ∀ j v, (stc S (.slice ar S.ram.length cr) (.slice ai S.inp.length ci) (.slice ao S.out.length co))[j]? = some v → W.cell? ⟨w.heap.size, 82 + j, none⟩ = some v) := fun W hb j v h => by rw [(r0.out.later hb r0.out.lt).cell]; exact scc_b _ _ _ _ _ _ j v h
  have HLV : Hid (∀ W, Tb W → Calls Tryz.prog 9 #[] W fun e w' => e = .returned (.bool true) ∧ Below W.heap.size W w') := fun W h => live_c W h
  have HT0 : Hid (Tb W0) := hT.next b0.out
  have HST : Hid (∀ W, Calls Tryz.prog 8 #[.agg (stc S (.slice ar S.ram.length cr) (.slice ai S.inp.length ci) (.slice ao S.out.length co))] W fun e w' => e = .returned (.pointer none) ∧ Below W.heap.size W w') := fun W => start_no S ar ai ao cr ci co W hok
  clear hs hw lr li lo ha hl hok s0 hT
  go_enter Tryz.func7, Tryz.ntmps7
  go_upto_region 1 with fail
  clear hW0 r0
  go_wp2_with (first | (refine wpList_load_agg (by rfl) _ _ (by rfl) w.heap.size 82 (by rfl) (stc S (.slice ar S.ram.length cr) (.slice ai S.inp.length ci) (.slice ao S.out.length co)) _ (HSB.out _ (Below.refl _ _)) Tryz.underlying35 (by rfl) (info_bus _ _ _ _) ?_) | (go_at_call 8; refine (HST.out _).mono ?_; rintro e w1 ⟨rfl, hb1⟩; have HB1 : Hid (Below W0.heap.size W0 w1) := hb1; clear hb1) | (go_at_call 9; refine (HLV.out _ (HT0.out.next HB1.out)).mono ?_; rintro e w3 ⟨rfl, hb3⟩; have HB3 : Hid (Below W0.heap.size W0 w3) := HB1.out.trans (hb3.mono HB1.out.size); clear hb3))
  go_ret
  exact ⟨rfl, b0.out.trans (HB3.out.mono b0.out.size)⟩
set_option maxRecDepth 100000 in
set_option maxHeartbeats 8000000 in
theorem granted_ok (K : Cp) (S : St) (ar ai ao : Option Addr) (cr ci co : Nat) (O : List Acd) (va : Value) (w : World) (hT : Tb w) (hs : Bs S (.slice ar S.ram.length cr) (.slice ai S.inp.length ci) (.slice ao S.out.length co) w) (hw : StW S) (lr : S.ram.length ≤ 140737488355328) (li : S.inp.length ≤ 140737488355328) (lo : S.out.length ≤ 140737488355328) (ha : Acts w va O) (hl : O.length ≤ 140737488355328) (hok : S.ok = true) :
    Calls Tryz.prog 7 #[.agg (scc K S (.slice ar S.ram.length cr) (.slice ai S.inp.length ci) (.slice ao S.out.length co) va)] w fun e w' => e = .returned (.bool true) ∧ Below w.heap.size w w' := by
  obtain ⟨W0, hW0, r0, b0, s0⟩ := start1 w (scc K S (.slice ar S.ram.length cr) (.slice ai S.inp.length ci) (.slice ao S.out.length co) va) 38
  have HSB : Hid (∀ W, Below W0.heap.size W0 W → ∀ j v, (stc S (.slice ar S.ram.length cr) (.slice ai S.inp.length ci) (.slice ao S.out.length co))[j]? = some v → W.cell? ⟨w.heap.size, 82 + j, none⟩ = some v) := fun W hb j v h => by rw [(r0.out.later hb r0.out.lt).cell]; exact scc_b _ _ _ _ _ _ j v h
  have HLV : Hid (∀ W, Tb W → Calls Tryz.prog 9 #[] W fun e w' => e = .returned (.bool true) ∧ Below W.heap.size W w') := fun W h => live_c W h
  have HT0 : Hid (Tb W0) := hT.next b0.out
  have HSC : Hid (∀ W, Below W0.heap.size W0 W → ∀ j v, (cpc K)[j]? = some v → W.cell? ⟨w.heap.size, 0 + j, none⟩ = some v) := fun W hb j v h => by rw [(r0.out.later hb r0.out.lt).cell]; exact scc_c _ _ _ _ _ _ j v h
  have HSA : Hid (∀ W, Below W0.heap.size W0 W → W.cell? ⟨w.heap.size, 97, none⟩ = some va) := fun W hb => by rw [(r0.out.later hb r0.out.lt).cell]; exact scc_a _ _ _ _ _ _
  have HST : Hid (Calls Tryz.prog 8 #[.agg (stc S (.slice ar S.ram.length cr) (.slice ai S.inp.length ci) (.slice ao S.out.length co))] W0 fun e w' => ∃ L, e = .returned (.pointer (some ⟨L.b, 0, none⟩)) ∧ PB W0.heap.size L S w' ∧ Below W0.heap.size W0 w') := start_ok S ar ai ao cr ci co W0 hok (hs.later b0.out) lr li lo
  have HSK : Hid (Sok S) := ⟨hok, hw⟩
  obtain ⟨aA, cA, rfl, hcap, hel⟩ := ha
  have HEL : Hid (∀ j, j < O.length → ∃ g off, aA = some ⟨g, off, none⟩ ∧ g < W0.heap.size ∧ ∀ i, i < 5 → ∀ W, Below W0.heap.size W0 W → W.cell? ⟨g, off + j * 5 + i, none⟩ = (acc (O.getD j ⟨0, 0, 0, 0#64, 0#64⟩))[i]?) := fun j hj => by
    obtain ⟨g, off, e, hg, hc⟩ := hel (fun e => by rw [e] at hj; simp at hj)
    refine ⟨g, off, e, Nat.lt_of_lt_of_le hg b0.out.size, fun i hi W hb => ?_⟩
    rw [hb.cell (p := ⟨g, off + j * 5 + i, none⟩) (Nat.lt_of_lt_of_le hg b0.out.size), b0.out.cell (p := ⟨g, off + j * 5 + i, none⟩) hg]
    exact hc j hj i hi
  have HL0 : Hid (O.length ≤ 140737488355328) := hl
  have hzc := zero_cpu
  have hza := zero_act
  have hzo := zero_out
  have hzt := zero_trap
  clear hs hw lr li lo hok s0 hT hel hcap hl
  go_enter Tryz.func7, Tryz.ntmps7
  go_upto_region 1 with fail
  clear hW0 r0
  go_upto_region 4 with (first | (refine wpList_load_agg (by rfl) _ _ (by rfl) w.heap.size 82 (by rfl) (stc S (.slice ar S.ram.length cr) (.slice ai S.inp.length ci) (.slice ao S.out.length co)) _ (HSB.out _ (Below.refl _ _)) Tryz.underlying35 (by rfl) (info_bus _ _ _ _) ?_) | (go_at_call 8; refine HST.out.mono ?_; rintro e w1 ⟨L, rfl, hp1, hb1⟩; have HK1 : Hid (Ky W0 L.b L S w1) := ⟨hp1, rfl, hb1⟩; clear hp1 hb1) | (go_at_call 9; refine (HLV.out _ (HT0.out.next HK1.out.be)).mono ?_; rintro e w3 ⟨rfl, hb3⟩; have HK3 : Hid (Ky W0 L.b L S w3) := HK1.out.later hb3; clear hb3))
  have HA0 : Hid (Calls Tryz.prog 10 #[.agg (cpc K), .pointer (some ⟨L.b, 0, none⟩)] w3 fun e w' => e = .returned (.agg (cpc (PR K))) ∧ ∃ L', PSt W0.heap.size L w3 L' S w') := access0_c w3 HK3.out.p HSK.out (HT0.out.next HK3.out.be) HT0.out.lt K
  go_upto_region 5 with (first | (refine wpList_load_agg (by rfl) _ _ (by rfl) w.heap.size 0 (by rfl) (cpc K) _ (HSC.out _ HK3.out.be) Tryz.underlying31 (by rfl) (info_cpu _) ?_) | (go_at_call 10; refine HA0.out.mono ?_; rintro e w4 ⟨rfl, L1, hp4⟩; have HK4 : Hid (Ky W0 L.b L1 S w4) := HK3.out.step hp4; clear hp4) | (refine wpList_store_end (by rfl) 31 _ _ (by rfl) (by rfl) w4 (cpc cz) (cpc (PR K)) (by rfl) (by rfl) (by rfl) (info_cpu _) (by rw [cpc_size, cpc_size]) (cpc_ones _) ?_))
  refine on_P (motive := fun W => Code.wp _ _ _ _ W) (Q := fun W => Ky W0 L.b L1 S W ∧ Ks W0 L1 W w4.heap.size (cpc (PR K)) 31) ⟨HK4.out.later (below_al _ _), Ks.new HK4.out _ _⟩ ?_
  clear HK1 HK3 HK4 HA0 HSB HSC HST HLV
  generalize w4.heap.size = gc
  rintro W5 ⟨hk5, hr5⟩
  have HK5 : Hid (Ky W0 L.b L1 S W5) := hk5
  have HR5 : Hid (Ks W0 L1 W5 gc (cpc (PR K)) 31) := hr5
  clear hk5 hr5
  have hzb := zero_busv
  have c33 : W5.cell? ⟨gc, 33, none⟩ = some (.int .i64 (PR K).md) := HR5.out.r.cls.md
  have f33 : W5.frozen? ⟨gc, 33, none⟩ = false := frozen_of_row W5 gc 33 _ _ HR5.out.r
  generalize (PR K).md = m9 at c33
  go_upto_region 6 with fail
  obtain ⟨K0, hK0⟩ : ∃ K0 : Cp, K0 = { PR K with md := 0 } := ⟨_, rfl⟩
  have HPK : Hid (PR K0 = K0 ∧ K0.md = 0) := by unfold Hid; rw [hK0]; exact ⟨PR_md0 (PR_PR K), rfl⟩
  have HL2 : Hid (layC (cpc (PR K)) 33 [.int .i64 0] = cpc K0) := by unfold Hid; rw [hK0]; exact md0_L (PR K)
  clear hK0
  refine on_P (motive := fun W => Code.wp _ _ _ _ W) (Q := fun W => Osv W0 L.b gc K0 W) ⟨K0, L1, S, HK5.out.lay HR5.out 33 [.int .i64 0], HSK.out, ⟨by have q := HR5.out.r.lay [.int .i64 0] 33; rw [HL2.out] at q; exact q, HR5.out.n, HR5.out.ge⟩, Cst.refl HPK.out.1⟩ ?_
  clear HK5 HR5 HSK HL2 c33 f33
  intro W6 hW6
  have HU : Hid (Osv W0 L.b gc K0 W6) := hW6
  clear hW6
  generalize L.b = b at HU ⊢
  clear L1 L w1 w3 w4 W5
  go_wp2
  go_loopw [5] (fun vi wr => ∃ j : Nat, j ≤ O.length ∧ vi = .int .i64 j ∧ Hid (Osv W0 b gc K0 wr)) (fun i _ => O.length - (intOf i).toNat)
  case atStart => exact ⟨0, Nat.zero_le _, rfl, HU⟩
  case round =>
    obtain ⟨j, hj, rfl, hst⟩ := hrel
    clear HU
    obtain ⟨K1, L1, S1, hk, hsk, hr, hrv⟩ := hst.out
    have c97 := HSA.out wr hk.be
    have hlenI : (O.length : Int) ≤ 140737488355328 := by have := HL0.out; omega
    by_cases hlt : j < O.length
    · have hltI : (j : Int) < (O.length : Int) := by omega
      by_cases h60 : j < 60
      · have h60I : (j : Int) < 60 := by omega
        have HKX : Hid (Ky W0 b L1 S1 wr) := hk
        have HSO : Hid (Sok S1) := hsk
        have HRC : Hid (Ks W0 L1 wr gc (cpc K1) 31) := hr
        have HCS : Hid (Cst K0 K1) := hrv
        clear hk hsk hr hst hrv
        obtain ⟨ga, off, rfl, hga, hcell⟩ := HEL.out j hlt
        obtain ⟨y, hy⟩ : ∃ y, y = O.getD j ⟨0, 0, 0, 0#64, 0#64⟩ := ⟨_, rfl⟩
        have HAC : Hid (∀ W, Below W0.heap.size W0 W → ∀ i v, (acc y)[i]? = some v → W.cell? ⟨ga, off + j * 5 + i, none⟩ = some v) := fun W hb i v h => by
          have hi : i < 5 := by
            by_cases q : i < 5
            · exact q
            · rw [Array.getElem?_eq_none (by show 5 ≤ i; omega)] at h; cases h
          rw [hcell i hi W hb, ← hy]; exact h
        clear hcell hy hga
        have HDC : Hid (∀ W, Ky W0 b L1 S1 W → Calls Tryz.prog 14 #[.agg (cpc K1), .pointer (some ⟨b, 0, none⟩), .agg (acc y)] W fun e w' => e = .returned (.agg (otc (DO S1 K1 y).1)) ∧ ∃ L', PSt W0.heap.size L1 W L' (DO S1 K1 y).2 w') := fun W hk => by
          have q := does_c W hk.p HSO.out (HT0.out.next hk.be) HT0.out.lt K1 y
          rw [hk.e] at q
          exact q
        have HSOK : Hid (Sok (DO S1 K1 y).2) := DO_ok HSO.out K1 y
        have HCN : Hid (Cst K0 (resOf K1 (DO S1 K1 y).1.K)) := HCS.out.step S1 y
        have HMD : Hid (K1.md = 0) := by
          obtain ⟨v, x, s, e⟩ := HCS.out.e
          unfold Hid
          rw [e]; exact HPK.out.2
        have HGW0 : Hid (¬ y.kd = 7 → GrW K1 S1 (DO S1 K1 y).2 y) := fun h7 => DO_gr HCS.out.p HMD.out h7
        have HSTA : Hid (∀ W, Ky W0 b L1 S1 W → Calls Tryz.prog 15 #[.pointer (some ⟨b, 0, none⟩)] W fun e w' => ∃ ur ui uo, e = .returned (.agg (stc S1 ur ui uo)) ∧ Sv W.heap.size S1 ur ui uo w' ∧ Below W.heap.size W w') := fun W hk => by
          obtain ⟨hn1, hn2, hn3, hn4, _⟩ := HSO.out.n
          have q := state_c W hk.p (by omega) (by omega) (by omega)
          rw [hk.e] at q
          exact q
        have HSTB : Hid (∀ L W, Ky W0 b L (DO S1 K1 y).2 W → Calls Tryz.prog 15 #[.pointer (some ⟨b, 0, none⟩)] W fun e w' => ∃ ur ui uo, e = .returned (.agg (stc (DO S1 K1 y).2 ur ui uo)) ∧ Sv W.heap.size (DO S1 K1 y).2 ur ui uo w' ∧ Below W.heap.size W w') := fun L W hk => by
          obtain ⟨hn1, hn2, hn3, hn4, _⟩ := HSOK.out.n
          have q := state_c W hk.p (by omega) (by omega) (by omega)
          rw [hk.e] at q
          exact q
        generalize (DO S1 K1 y).1 = o at HDC HCN
        generalize (DO S1 K1 y).2 = S2 at HDC HSTB HSOK HGW0
        go_upto_region 10 with (first | (refine wpList_load_agg (by rfl) _ _ (by rfl) ga (off + j * 5) (by rfl) (acc y) _ (HAC.out _ HKX.out.be) Tryz.underlying45 (by rfl) (info_act _) ?_) | (refine wpList_store_end (by rfl) 45 _ _ (by rfl) (by rfl) wr (acc ⟨0, 0, 0, 0#64, 0#64⟩) (acc y) (by rfl) (by rfl) (by rfl) (info_act _) (by rfl) (by kernel_rfl) ?_))
        clear c97
        refine on_P (motive := fun W => Code.wp _ _ _ _ W) (Q := fun W => (Ky W0 b L1 S1 W) ∧ (Ks W0 L1 W gc (cpc K1) 31) ∧ (Ks W0 L1 W wr.heap.size (acc y) 45) ∧ (gc < wr.heap.size)) ⟨HKX.out.later (below_al _ _), HRC.out.later (below_al _ _), Ks.new HKX.out _ _, HRC.out.r.lt⟩ ?_
        clear HKX HRC HAC
        generalize wr.heap.size = gy
        rintro W1 ⟨h0, h1, h2, h3⟩
        have HKX1 : Hid (Ky W0 b L1 S1 W1) := h0
        have HRC1 : Hid (Ks W0 L1 W1 gc (cpc K1) 31) := h1
        have HRY : Hid (Ks W0 L1 W1 gy (acc y) 45) := h2
        have HN1 : Hid (gc < gy) := h3
        clear h0 h1 h2 h3
        have HKX := HKX1
        have HRC := HRC1
        clear HKX1 HRC1
        have y0 : W1.cell? ⟨gy, 0, none⟩ = some (.int .i64 y.kd) := HRY.out.r.cell 0
        --@Va
        by_cases k7 : y.kd = 7
        · have e7 : (y.kd == 7) = true := by rw [k7]; rfl
          have HWD : Hid (Calls Tryz.prog 19 #[.agg (acc y)] W1 fun e w' => ∃ g, W1.heap.size ≤ g ∧ e = .returned (.agg #[.bool (n64 y.v % 2 == 1), .bool (decide (n64 y.v % 4 > 1)), .bool false, .slice (some ⟨g, 0, none⟩) 1 1]) ∧ Byt w' (.slice (some ⟨g, 0, none⟩) 1 1) [n64 y.ad % 256] ∧ Below W1.heap.size W1 w') := lworld_c y W1
          have HBG : Hid (∀ (W : World) (g : Nat), Below W1.heap.size W1 W → W1.heap.size ≤ g → Byt W (.slice (some ⟨g, 0, none⟩) 1 1) [n64 y.ad % 256] → Calls Tryz.prog 18 #[.pointer (some ⟨b, 0, none⟩), .agg #[.bool (n64 y.v % 2 == 1), .bool (decide (n64 y.v % 4 > 1)), .bool false, .slice (some ⟨g, 0, none⟩) 1 1]] W fun e w' => e = .returned (.tuple #[]) ∧ ∃ L', PSt W0.heap.size L1 W L' (S1.beg (n64 y.v % 2 == 1) (decide (n64 y.v % 4 > 1)) false [n64 y.ad % 256]) w') := fun W g hb hg hy => by
            have hnn : ¬ L1.own g := fun q => by have := HKX.out.p.own_hi _ q; omega
            have q := Begin_c W (HKX.out.p.later hb) (n64 y.v % 2 == 1) (decide (n64 y.v % 4 > 1)) false _ [n64 y.ad % 256] hy (by show 1 ≤ 140737488351232; omega) HSO.out.n.2.2.1 (fun g' off n c e => by cases e; exact hnn)
            rw [HKX.out.e] at q
            exact q
          have HSB9 : Hid (Sok (S1.beg (n64 y.v % 2 == 1) (decide (n64 y.v % 4 > 1)) false [n64 y.ad % 256])) := HSO.out.beg _ _ _ _ (fun x hx => by simp only [List.mem_singleton] at hx; subst hx; omega)
          generalize S1.beg (n64 y.v % 2 == 1) (decide (n64 y.v % 4 > 1)) false [n64 y.ad % 256] = T at HBG HSB9
          generalize (n64 y.v % 2 == 1) = q1 at HWD HBG
          generalize (decide (n64 y.v % 4 > 1)) = q2 at HWD HBG
          clear k7
          go_wp2_with (first | (refine wpList_load_row (by rfl) _ _ (by rfl) _ (by rfl) 45 _ (0, 0) _ HRY.out.r Tryz.underlying45 (by rfl) (info_act _) ?_) | (go_at_call 19; refine HWD.out.mono ?_; rintro e w3 ⟨g3, hg3, rfl, hy3, hb3⟩; have HB3 : Hid (Below W1.heap.size W1 w3) := hb3; have HG3 : Hid (W1.heap.size ≤ g3) := hg3; have HY3 : Hid (Byt w3 (.slice (some ⟨g3, 0, none⟩) 1 1) [n64 y.ad % 256]) := hy3; clear hb3 hg3 hy3) | (go_at_call 18; refine (HBG.out w3 g3 HB3.out HG3.out HY3.out).mono ?_; rintro e w4 ⟨rfl, L2, hp4⟩; have HP4 : Hid (PSt W0.heap.size L1 w3 L2 T w4) := hp4; clear hp4))
          go_roundw
          · exact ⟨j + 1, by omega, by go_num, ⟨K1, L2, T, (HKX.out.later HB3.out).step HP4.out, HSB9.out, (HRC.out.later HB3.out).step HP4.out, HCS.out⟩⟩
          · simp only [intOf]; omega
        --@Vb
        have e7 : (y.kd == 7) = false := by rw [beq_eq_false_iff_ne]; exact k7
        have HGW : Hid (GrW K1 S1 S2 y) := HGW0.out k7
        clear k7 HGW0
        go_upto_region 13 with (first | (go_at_call 15; refine (HSTA.out _ HKX.out).mono ?_; rintro e w2 ⟨ur, ui, uo, rfl, hsv, hb2⟩; obtain ⟨a1, a2, i1, i2, p1, p2, rfl, rfl, rfl⟩ := hsv.bs.forms; have HSVw2 : Hid _ := hsv; have HBw2 : Hid _ := hb2; clear hsv hb2) | (refine wpList_store_end (by rfl) 35 _ _ (by rfl) (by rfl) w2 (stc zST (.slice none 0 0) (.slice none 0 0) (.slice none 0 0)) (stc S1 (.slice a1 S1.ram.length a2) (.slice i1 S1.inp.length i2) (.slice p1 S1.out.length p2)) (by rfl) (by rfl) (by rfl) (info_bus _ _ _ _) (by rfl) (stOne S1) ?_))
        refine on_P (motive := fun W => Code.wp _ _ _ _ W) (Q := fun W => (Ky W0 b L1 S1 W) ∧ (Ks W0 L1 W gc (cpc K1) 31) ∧ (Ks W0 L1 W gy (acc y) 45) ∧ (Ks W0 L1 W w2.heap.size (stc S1 (.slice a1 S1.ram.length a2) (.slice i1 S1.inp.length i2) (.slice p1 S1.out.length p2)) 35) ∧ (Sb L1 w2.heap.size S1 (.slice a1 S1.ram.length a2) (.slice i1 S1.inp.length i2) (.slice p1 S1.out.length p2) W) ∧ (gc < w2.heap.size ∧ gy < w2.heap.size)) ⟨(HKX.out.later HBw2.out).later (below_al _ _), (HRC.out.later HBw2.out).later (below_al _ _), (HRY.out.later HBw2.out).later (below_al _ _), Ks.new (HKX.out.later HBw2.out) _ _, (Sb.new HKX.out.p HBw2.out HSVw2.out).later (below_al _ _), ⟨(HRC.out.later HBw2.out).r.lt, (HRY.out.later HBw2.out).r.lt⟩⟩ ?_
        clear HKX HRC HRY HSVw2 HBw2 y0
        generalize w2.heap.size = gb
        rintro W2 ⟨h0, h1, h2, h3, h4, h5⟩
        have HKX2 : Hid (Ky W0 b L1 S1 W2) := h0
        have HRC2 : Hid (Ks W0 L1 W2 gc (cpc K1) 31) := h1
        have HRY2 : Hid (Ks W0 L1 W2 gy (acc y) 45) := h2
        have HRB : Hid (Ks W0 L1 W2 gb (stc S1 (.slice a1 S1.ram.length a2) (.slice i1 S1.inp.length i2) (.slice p1 S1.out.length p2)) 35) := h3
        have HSB2 : Hid (Sb L1 gb S1 (.slice a1 S1.ram.length a2) (.slice i1 S1.inp.length i2) (.slice p1 S1.out.length p2) W2) := h4
        have HN2 : Hid (gc < gb ∧ gy < gb) := h5
        clear h0 h1 h2 h3 h4 h5
        --@Vc
        go_upto_region 14 with (first | (refine wpList_load_row (by rfl) _ _ (by rfl) _ (by rfl) 31 _ (0, 0) _ HRC2.out.r Tryz.underlying31 (by rfl) (info_cpu _) ?_) | (refine wpList_load_row (by rfl) _ _ (by rfl) _ (by rfl) 45 _ (0, 0) _ HRY2.out.r Tryz.underlying45 (by rfl) (info_act _) ?_) | (go_at_call 14; refine (HDC.out _ HKX2.out).mono ?_; rintro e w3 ⟨rfl, L2, hp3⟩; have HP3 : Hid (PSt W0.heap.size L1 W2 L2 S2 w3) := hp3; clear hp3) | (refine wpList_store_end (by rfl) 52 _ _ (by rfl) (by rfl) w3 (otc (oz cz)) (otc o) (by rfl) (by rfl) (by rfl) (info_out _) (otc_sz _ _) (otc_ones _) ?_))
        refine on_P (motive := fun W => Code.wp _ _ _ _ W) (Q := fun W => (Ky W0 b L2 S2 W) ∧ (Ks W0 L2 W gc (cpc K1) 31) ∧ (Ks W0 L2 W gy (acc y) 45) ∧ (Ks W0 L2 W gb (stc S1 (.slice a1 S1.ram.length a2) (.slice i1 S1.inp.length i2) (.slice p1 S1.out.length p2)) 35) ∧ (Sb L2 gb S1 (.slice a1 S1.ram.length a2) (.slice i1 S1.inp.length i2) (.slice p1 S1.out.length p2) W) ∧ (Ks W0 L2 W w3.heap.size (otc o) 52) ∧ (gc < w3.heap.size)) ⟨(HKX2.out.step HP3.out).later (below_al _ _), (HRC2.out.step HP3.out).later (below_al _ _), (HRY2.out.step HP3.out).later (below_al _ _), (HRB.out.step HP3.out).later (below_al _ _), (HSB2.out.step HP3.out).later (below_al _ _), Ks.new (HKX2.out.step HP3.out) _ _, (HRC2.out.step HP3.out).r.lt⟩ ?_
        clear HKX2 HRC2 HRY2 HRB HSB2 HP3 HDC HSTA
        generalize w3.heap.size = go
        rintro W3 ⟨h0, h1, h2, h3, h4, h5, h6⟩
        have HKX3 : Hid (Ky W0 b L2 S2 W3) := h0
        have HRC3 : Hid (Ks W0 L2 W3 gc (cpc K1) 31) := h1
        have HRY3 : Hid (Ks W0 L2 W3 gy (acc y) 45) := h2
        have HRB3 : Hid (Ks W0 L2 W3 gb (stc S1 (.slice a1 S1.ram.length a2) (.slice i1 S1.inp.length i2) (.slice p1 S1.out.length p2)) 35) := h3
        have HSB3 : Hid (Sb L2 gb S1 (.slice a1 S1.ram.length a2) (.slice i1 S1.inp.length i2) (.slice p1 S1.out.length p2) W3) := h4
        have HRO3 : Hid (Ks W0 L2 W3 go (otc o) 52) := h5
        have HN3 : Hid (gc < go) := h6
        clear h0 h1 h2 h3 h4 h5 h6
        --@Vd
        go_upto_region 15 with (first | (go_at_call 15; refine (HSTB.out L2 _ HKX3.out).mono ?_; rintro e w4 ⟨ur, ui, uo, rfl, hsv, hb2⟩; obtain ⟨b1, b2, k1, k2, v1, v2, rfl, rfl, rfl⟩ := hsv.bs.forms; have HSVw4 : Hid _ := hsv; have HBw4 : Hid _ := hb2; clear hsv hb2) | (refine wpList_store_end (by rfl) 35 _ _ (by rfl) (by rfl) w4 (stc zST (.slice none 0 0) (.slice none 0 0) (.slice none 0 0)) (stc S2 (.slice b1 S2.ram.length b2) (.slice k1 S2.inp.length k2) (.slice v1 S2.out.length v2)) (by rfl) (by rfl) (by rfl) (info_bus _ _ _ _) (by rfl) (stOne S2) ?_))
        refine on_P (motive := fun W => Code.wp _ _ _ _ W) (Q := fun W => (Ky W0 b L2 S2 W) ∧ (Ks W0 L2 W gc (cpc K1) 31) ∧ (Ks W0 L2 W gy (acc y) 45) ∧ (Ks W0 L2 W gb (stc S1 (.slice a1 S1.ram.length a2) (.slice i1 S1.inp.length i2) (.slice p1 S1.out.length p2)) 35) ∧ (Bs S1 (.slice a1 S1.ram.length a2) (.slice i1 S1.inp.length i2) (.slice p1 S1.out.length p2) W) ∧ (Ks W0 L2 W go (otc o) 52) ∧ (Ks W0 L2 W w4.heap.size (stc S2 (.slice b1 S2.ram.length b2) (.slice k1 S2.inp.length k2) (.slice v1 S2.out.length v2)) 35) ∧ (Bs S2 (.slice b1 S2.ram.length b2) (.slice k1 S2.inp.length k2) (.slice v1 S2.out.length v2) W)) ⟨(HKX3.out.later HBw4.out).later (below_al _ _), (HRC3.out.later HBw4.out).later (below_al _ _), (HRY3.out.later HBw4.out).later (below_al _ _), (HRB3.out.later HBw4.out).later (below_al _ _), ((HSB3.out.later HBw4.out).later (below_al _ _)).b, (HRO3.out.later HBw4.out).later (below_al _ _), Ks.new (HKX3.out.later HBw4.out) _ _, (HSVw4.out.bs).later (below_al _ _)⟩ ?_
        clear HKX3 HRC3 HRY3 HRB3 HSB3 HRO3 HSVw4 HBw4 HSTB
        generalize w4.heap.size = gi
        rintro W4 ⟨h0, h1, h2, h3, h4, h5, h6, h7⟩
        have HKX4 : Hid (Ky W0 b L2 S2 W4) := h0
        have HRC4 : Hid (Ks W0 L2 W4 gc (cpc K1) 31) := h1
        have HRY4 : Hid (Ks W0 L2 W4 gy (acc y) 45) := h2
        have HRB4 : Hid (Ks W0 L2 W4 gb (stc S1 (.slice a1 S1.ram.length a2) (.slice i1 S1.inp.length i2) (.slice p1 S1.out.length p2)) 35) := h3
        have HYB4 : Hid (Bs S1 (.slice a1 S1.ram.length a2) (.slice i1 S1.inp.length i2) (.slice p1 S1.out.length p2) W4) := h4
        have HRO4 : Hid (Ks W0 L2 W4 go (otc o) 52) := h5
        have HRI4 : Hid (Ks W0 L2 W4 gi (stc S2 (.slice b1 S2.ram.length b2) (.slice k1 S2.inp.length k2) (.slice v1 S2.out.length v2)) 35) := h6
        have HYI4 : Hid (Bs S2 (.slice b1 S2.ram.length b2) (.slice k1 S2.inp.length k2) (.slice v1 S2.out.length v2) W4) := h7
        clear h0 h1 h2 h3 h4 h5 h6 h7
        --@Ve
        have hlen : Hid (S2.ram.length = S1.ram.length) := HGW.out.len
        have i0 : W4.cell? ⟨gi, 0, none⟩ = some (.slice b1 S2.ram.length b2) := HRI4.out.r.cell 0
        have w0' : W4.cell? ⟨gb, 0, none⟩ = some (.slice a1 S1.ram.length a2) := HRB4.out.r.cell 0
        have hle : ((S2.ram.length : Int) != (S1.ram.length : Int)) = false := by rw [hlen.out]; simp
        go_upto_region 17 with fail
        have hne2 : S2.ram ≠ [] := fun e => by have := HSOK.out.n.2.1; rw [e] at this; simp at this
        have hne1 : S1.ram ≠ [] := fun e => by have := HSO.out.n.2.1; rw [e] at this; simp at this
        obtain ⟨rb, ob, rfl, hrb, hcb⟩ := HYI4.out.r.spot hne2
        obtain ⟨ra, oa, rfl, hra, hca⟩ := HYB4.out.r.spot hne1
        have HCBY : Hid (rb < W4.heap.size ∧ ra < W4.heap.size ∧ (∀ j, j < S2.ram.length → W4.cell? ⟨rb, ob + j, none⟩ = some (.int .u8 (S2.ram.getD j 0))) ∧ (∀ j, j < S1.ram.length → W4.cell? ⟨ra, oa + j, none⟩ = some (.int .u8 (S1.ram.getD j 0)))) := ⟨hrb, hra, hcb, hca⟩
        have HN65 : Hid (S2.ram.length ≤ 65536) := HSOK.out.n.1
        clear hne1 hne2 hrb hcb hra hca i0 w0'
        have HAT : Hid (∀ j, j < S1.ram.length → S2.ram.getD j 0 ≠ S1.ram.getD j 0 → grA (PC K1.c) (PA K1.a) (2147483648#64 + BitVec.ofNat 64 j) 2 = true) := HGW.out.at'
        have HCHG : Hid (S2 ≠ S1 → ∃ z : Nat, wid4 z ∧ wdt y = z ∧ (gtA K1 y.ad z 2 ∨ (y.kd = 2 ∧ gtA K1 y.ad z 1 ∧ quS S2 = quS S1))) := HGW.out.ch
        clear HGW
        --@V1
        go_wp2
        go_loopw [10] (fun vk wr => ∃ k : Nat, k ≤ S2.ram.length ∧ vk = .int .i64 (k : Int) ∧ Hid (Below W4.heap.size W4 wr)) (fun k _ => S2.ram.length - (intOf k).toNat)
        case atStart => exact ⟨0, Nat.zero_le _, rfl, Below.refl _ _⟩
        case round =>
          obtain ⟨k, hk9, rfl, hbw⟩ := hrel
          have q0 : wr.cell? ⟨gi, 0, none⟩ = some (.slice (some ⟨rb, ob, none⟩) S2.ram.length b2) := (HRI4.out.later hbw.out).r.cell 0
          by_cases hkl : k < S2.ram.length
          · have hklI : (k : Int) < (S2.ram.length : Int) := by omega
            have hk65 : (k : Int) < 65536 := by have := HN65.out; omega
            have hklJ : (k : Int) < (S1.ram.length : Int) := by rw [← hlen.out]; exact hklI
            have l0 : ∀ x : Later wr, x.1.cell? ⟨gi, 0, none⟩ = some (.slice (some ⟨rb, ob, none⟩) S2.ram.length b2) := fun x => ((HRI4.out.later hbw.out).later x.below).r.cell 0
            have l1 : ∀ x : Later wr, x.1.cell? ⟨gb, 0, none⟩ = some (.slice (some ⟨ra, oa, none⟩) S1.ram.length a2) := fun x => ((HRB4.out.later hbw.out).later x.below).r.cell 0
            have l2 : ∀ x : Later wr, x.1.cell? ⟨rb, ob + k, none⟩ = some (.int .u8 (S2.ram.getD k 0)) := fun x => ((hbw.out.trans (x.below.mono hbw.out.size)).cell (p := ⟨rb, ob + k, none⟩) HCBY.out.1).trans (HCBY.out.2.2.1 k hkl)
            have l3 : ∀ x : Later wr, x.1.cell? ⟨ra, oa + k, none⟩ = some (.int .u8 (S1.ram.getD k 0)) := fun x => ((hbw.out.trans (x.below.mono hbw.out.size)).cell (p := ⟨ra, oa + k, none⟩) HCBY.out.2.1).trans (HCBY.out.2.2.2 k (by rw [← hlen.out]; exact hkl))
            have hw1 : IntKind.u64.wrap (k : Int) = (k : Int) := u64_small (by omega) (by have := HN65.out; omega)
            have hs1 : IntKind.u64.wrap (2147483648 + (k : Int)) = n64 (2147483648#64 + BitVec.ofNat 64 k) := by
              have q := n64_add 2147483648#64 (BitVec.ofNat 64 k)
              have q2 : n64 (BitVec.ofNat 64 k) = (k : Int) := by unfold n64; rw [BitVec.toNat_ofNat, Nat.mod_eq_of_lt (by have := HN65.out; omega)]
              rw [q2] at q
              exact q
            have HGR : Hid (∀ W, Below wr.heap.size wr W → Calls Tryz.prog 17 #[.agg (pc K1.c K1.a), .int .u64 (n64 (2147483648#64 + BitVec.ofNat 64 k)), .int .i64 2] W fun e w' => e = .returned (.bool (grA (PC K1.c) (PA K1.a) (2147483648#64 + BitVec.ofNat 64 k) 2)) ∧ Below W.heap.size W w') := fun W hb => Granted_c K1.c K1.a _ 2 W (HT0.out.next ((HKX4.out.later hbw.out).later hb).be)
            have HAK := HAT.out k (by rw [← hlen.out]; exact hkl)
            generalize S2.ram.getD k 0 = vb at l2 HAK
            generalize S1.ram.getD k 0 = va9 at l3 HAK
            generalize grA (PC K1.c) (PA K1.a) (2147483648#64 + BitVec.ofNat 64 k) 2 = gg at HGR HAK
            generalize n64 (2147483648#64 + BitVec.ofNat 64 k) = nn at HGR hs1
            have HLC : Hid (gc < wr.heap.size) := (HRC4.out.later hbw.out).r.lt
            have HCP : Hid (∀ j v, (pc K1.c K1.a)[j]? = some v → wr.cell? ⟨gc, 47 + j, none⟩ = some v) := (HRC4.out.later hbw.out).r.pmp
            have := later_nonempty wr
            by_cases hv : vb = va9
            · have en : (vb != va9) = false := by rw [hv]; simp
              clear hv HAK
              go_upto_region 20 with fail
              refine wp_region_later (x0 := Later.start wr) (by kernel_rfl) (by kernel_rfl) ?_
              repeat (go_big_quiet_step (fail))
              refine wpQuiet_nil ?_
              rintro w' ⟨x9, rfl⟩
              go_wp2
              go_roundw
              · exact ⟨k + 1, by omega, by go_num, hbw.out.trans (x9.below.mono hbw.out.size)⟩
              · simp only [intOf]; omega
            · have en : (vb != va9) = true := by rw [bne_iff_ne]; exact hv
              have hgg := HAK hv
              subst hgg
              clear hv HAK
              go_upto_region 20 with fail
              refine wp_region_later (x0 := Later.start wr) (by kernel_rfl) (by kernel_rfl) ?_
              repeat (first | (refine BigFrame.wpQuiet_want (by rfl) fun KK hK => ?_; refine quiet_load_agg 27 _ (by rfl) gc 47 (by rfl) (pc K1.c K1.a) _ HLC.out HCP.out Tryz.underlying27 (by rfl) (info_pmp _ _) (hK _ ?_); clear hK KK; simp only [Act.put, List.setIfInBounds_toArray, List.set_cons_succ, List.set_cons_zero]) | (go_big_quiet_step (first | (go_at_call 17; exact calls_later (HGR.out _ (Later.below _))))))
              refine wpQuiet_nil ?_
              rintro w' ⟨x9, rfl⟩
              go_wp2
              go_roundw
              · exact ⟨k + 1, by omega, by go_num, hbw.out.trans (x9.below.mono hbw.out.size)⟩
              · simp only [intOf]; omega
          · obtain rfl : k = S2.ram.length := by omega
            have hklI : ¬ (S2.ram.length : Int) < (S2.ram.length : Int) := by omega
            --@V2
            go_upto_region 22 with fail
            obtain ⟨W7, hW7⟩ : ∃ W7, W7 = wr := ⟨_, rfl⟩
            rw [← hW7] at hbw q0 ⊢
            clear hW7
            have HKX : Hid (Ky W0 b L2 S2 W7) := HKX4.out.later hbw.out
            have HRC : Hid (Ks W0 L2 W7 gc (cpc K1) 31) := HRC4.out.later hbw.out
            have HRO : Hid (Ks W0 L2 W7 go (otc o) 52) := HRO4.out.later hbw.out
            have HYB : Hid (Bs S1 (.slice (some ⟨ra, oa, none⟩) S1.ram.length a2) (.slice i1 S1.inp.length i2) (.slice p1 S1.out.length p2) W7) := HYB4.out.later hbw.out
            have HYI : Hid (Bs S2 (.slice (some ⟨rb, ob, none⟩) S2.ram.length b2) (.slice k1 S2.inp.length k2) (.slice v1 S2.out.length v2) W7) := HYI4.out.later hbw.out
            have HBE : Hid (Below W0.heap.size W0 W7) := HKX.out.be
            have HLI : Hid (gi < W7.heap.size) := (HRI4.out.later hbw.out).r.lt
            have HCI : Hid (∀ j v, (stc S2 (.slice (some ⟨rb, ob, none⟩) S2.ram.length b2) (.slice k1 S2.inp.length k2) (.slice v1 S2.out.length v2))[j]? = some v → W7.cell? ⟨gi, 0 + j, none⟩ = some v) := (HRI4.out.later hbw.out).r.agg
            have HLB : Hid (gb < W7.heap.size) := (HRB4.out.later hbw.out).r.lt
            have HCB : Hid (∀ j v, (stc S1 (.slice (some ⟨ra, oa, none⟩) S1.ram.length a2) (.slice i1 S1.inp.length i2) (.slice p1 S1.out.length p2))[j]? = some v → W7.cell? ⟨gb, 0 + j, none⟩ = some v) := (HRB4.out.later hbw.out).r.agg
            have HLC : Hid (gc < W7.heap.size) := HRC.out.r.lt
            have HCC : Hid (∀ j v, (cpc K1)[j]? = some v → W7.cell? ⟨gc, 0 + j, none⟩ = some v) := HRC.out.r.agg
            have HLY : Hid (gy < W7.heap.size) := (HRY4.out.later hbw.out).r.lt
            have HCY : Hid (∀ j v, (acc y)[j]? = some v → W7.cell? ⟨gy, 0 + j, none⟩ = some v) := (HRY4.out.later hbw.out).r.agg
            have yL : ∀ x : Later W7, x.1.cell? ⟨gy, 0, none⟩ = some (.int .i64 y.kd) := fun x => ((HRY4.out.later hbw.out).later x.below).r.cell 0
            have HSM0 : Hid (∀ W, Below W7.heap.size W7 W → Calls Tryz.prog 16 #[.agg (stc S2 (.slice (some ⟨rb, ob, none⟩) S2.ram.length b2) (.slice k1 S2.inp.length k2) (.slice v1 S2.out.length v2)), .agg (stc S1 (.slice (some ⟨ra, oa, none⟩) S1.ram.length a2) (.slice i1 S1.inp.length i2) (.slice p1 S1.out.length p2))] W fun e w' => e = .returned (.bool (smB S2 S1)) ∧ Below W.heap.size W w') := fun W hb => same_a S2 S1 _ _ _ _ _ _ W (HYI.out.later hb) (HYB.out.later hb)
            have HCH : Hid (smB S2 S1 = false → ∃ z : Nat, wid4 z ∧ wdt y = z ∧ (gtA K1 y.ad z 2 ∨ (y.kd = 2 ∧ gtA K1 y.ad z 1 ∧ quS S2 = quS S1))) := fun h => HCHG.out (fun e => by rw [e, smB_self] at h; cases h)
            clear HCHG HAT HCBY HKX4 HRC4 HRY4 HRB4 HYB4 HRO4 HRI4 HYI4 hbw q0 hlen hle
            generalize smB S2 S1 = r at HSM0 HCH
            have HSM : Hid (∀ W, Below W7.heap.size W7 W → Calls Tryz.prog 16 #[.agg (stc S2 (.slice (some ⟨rb, ob, none⟩) S2.ram.length b2) (.slice k1 S2.inp.length k2) (.slice v1 S2.out.length v2)), .agg (stc S1 (.slice (some ⟨ra, oa, none⟩) S1.ram.length a2) (.slice i1 S1.inp.length i2) (.slice p1 S1.out.length p2))] W fun e w' => e = .returned (.bool r) ∧ Below W.heap.size W w') := HSM0.out
            clear HSM0
            go_cut [122] from 91 to 121 (fun v wx => v = .bool false ∧ Below W7.heap.size W7 wx)
            case first =>
              have := later_nonempty W7
              cases r with
              | true =>
                refine wp_region_later (x0 := Later.start W7) (by kernel_rfl) (by kernel_rfl) ?_
                iterate 3 (first | (refine BigFrame.wpQuiet_want (by rfl) fun KK hK => ?_; refine quiet_load_agg 35 _ (by rfl) gi 0 (by rfl) (stc S2 (.slice (some ⟨rb, ob, none⟩) S2.ram.length b2) (.slice k1 S2.inp.length k2) (.slice v1 S2.out.length v2)) _ HLI.out HCI.out Tryz.underlying35 (by rfl) (info_bus _ _ _ _) (hK _ ?_); clear hK KK; simp only [Act.put, List.setIfInBounds_toArray, List.set_cons_succ, List.set_cons_zero]) | (refine BigFrame.wpQuiet_want (by rfl) fun KK hK => ?_; refine quiet_load_agg 35 _ (by rfl) gb 0 (by rfl) (stc S1 (.slice (some ⟨ra, oa, none⟩) S1.ram.length a2) (.slice i1 S1.inp.length i2) (.slice p1 S1.out.length p2)) _ HLB.out HCB.out Tryz.underlying35 (by rfl) (info_bus _ _ _ _) (hK _ ?_); clear hK KK; simp only [Act.put, List.setIfInBounds_toArray, List.set_cons_succ, List.set_cons_zero]) | (go_big_quiet_step (first | (go_at_call 16; exact calls_later (HSM.out _ (Later.below _))))))
                repeat (go_big_quiet_step (fail))
                --@X1
                refine wpQuiet_nil ?_
                rintro w' ⟨x9, rfl⟩
                go_wp2
                go_meet
                exact ⟨rfl, x9.below⟩
                --@X2
              | false =>
                obtain ⟨z, hz4, hwz, hcase⟩ := HCH.out rfl
                have hz8 : z ≤ 8 := by rcases hz4 with rfl | rfl | rfl | rfl <;> decide
                have HWD : Hid (∀ W, Calls Tryz.prog 11 #[.agg (acc y)] W fun e w' => e = .returned (.int .i64 (z : Int)) ∧ Below W.heap.size W w') := fun W => by rw [← hwz]; exact width_c y W
                have HG20 : Hid (∀ W, Below W7.heap.size W7 W → Calls Tryz.prog 20 #[.agg (cpc K1), .agg (acc y), .int .i64 (z : Int), .int .i64 2] W fun e w' => e = .returned (.bool (gtD K1 y.ad z 2)) ∧ Below W.heap.size W w') := fun W hb => granted_c K1 y z hz8 2 W (HT0.out.next (HBE.out.trans (hb.mono HBE.out.size)))
                have HG10 : Hid (∀ W, Below W7.heap.size W7 W → Calls Tryz.prog 20 #[.agg (cpc K1), .agg (acc y), .int .i64 (z : Int), .int .i64 1] W fun e w' => e = .returned (.bool (gtD K1 y.ad z 1)) ∧ Below W.heap.size W w') := fun W hb => granted_c K1 y z hz8 1 W (HT0.out.next (HBE.out.trans (hb.mono HBE.out.size)))
                have HCS2 : Hid (gtD K1 y.ad z 2 = true ∨ (y.kd = 2 ∧ gtD K1 y.ad z 1 = true ∧ quS S2 = quS S1)) := by
                  rcases hcase with q | q
                  · exact .inl (gtD_yes q)
                  · exact .inr ⟨q.1, gtD_yes q.2.1, q.2.2⟩
                clear hcase hz4 hwz hz8 HCH
                generalize gtD K1 y.ad z 2 = g2 at HG20 HCS2
                generalize gtD K1 y.ad z 1 = g1 at HG10 HCS2
                have HG2 : Hid (∀ W, Below W7.heap.size W7 W → Calls Tryz.prog 20 #[.agg (cpc K1), .agg (acc y), .int .i64 (z : Int), .int .i64 2] W fun e w' => e = .returned (.bool g2) ∧ Below W.heap.size W w') := HG20.out
                clear HG20
                cases g2 with
                | true =>
                  clear HCS2 HG10
                  refine wp_region_later (x0 := Later.start W7) (by kernel_rfl) (by kernel_rfl) ?_
                  --@X3
                  iterate 3 (first | (refine BigFrame.wpQuiet_want (by rfl) fun KK hK => ?_; refine quiet_load_agg 35 _ (by rfl) gi 0 (by rfl) (stc S2 (.slice (some ⟨rb, ob, none⟩) S2.ram.length b2) (.slice k1 S2.inp.length k2) (.slice v1 S2.out.length v2)) _ HLI.out HCI.out Tryz.underlying35 (by rfl) (info_bus _ _ _ _) (hK _ ?_); clear hK KK; simp only [Act.put, List.setIfInBounds_toArray, List.set_cons_succ, List.set_cons_zero]) | (refine BigFrame.wpQuiet_want (by rfl) fun KK hK => ?_; refine quiet_load_agg 35 _ (by rfl) gb 0 (by rfl) (stc S1 (.slice (some ⟨ra, oa, none⟩) S1.ram.length a2) (.slice i1 S1.inp.length i2) (.slice p1 S1.out.length p2)) _ HLB.out HCB.out Tryz.underlying35 (by rfl) (info_bus _ _ _ _) (hK _ ?_); clear hK KK; simp only [Act.put, List.setIfInBounds_toArray, List.set_cons_succ, List.set_cons_zero]) | (go_big_quiet_step (first | (go_at_call 16; exact calls_later (HSM.out _ (Later.below _))))))
                  iterate 7 (first | (refine BigFrame.wpQuiet_want (by rfl) fun KK hK => ?_; refine quiet_load_agg 31 _ (by rfl) gc 0 (by rfl) (cpc K1) _ HLC.out HCC.out Tryz.underlying31 (by rfl) (info_cpu _) (hK _ ?_); clear hK KK; simp only [Act.put, List.setIfInBounds_toArray, List.set_cons_succ, List.set_cons_zero]) | (refine BigFrame.wpQuiet_want (by rfl) fun KK hK => ?_; refine quiet_load_agg 45 _ (by rfl) gy 0 (by rfl) (acc y) _ HLY.out HCY.out Tryz.underlying45 (by rfl) (info_act _) (hK _ ?_); clear hK KK; simp only [Act.put, List.setIfInBounds_toArray, List.set_cons_succ, List.set_cons_zero]) | (go_big_quiet_step (first | (go_at_call 11; exact calls_later (HWD.out _)) | (go_at_call 20; exact calls_later (HG2.out _ (Later.below _))))))
                  repeat (go_big_quiet_step (fail))
                  --@X4
                  refine wpQuiet_nil ?_
                  rintro w' ⟨x9, rfl⟩
                  go_wp2
                  go_meet
                  exact ⟨rfl, x9.below⟩
                | false =>
                  obtain ⟨hk2, hg1, hqq⟩ : y.kd = 2 ∧ g1 = true ∧ quS S2 = quS S1 := by
                    rcases HCS2.out with q | q
                    · cases q
                    · exact q
                  subst hg1
                  rw [hk2] at yL
                  have HG1 : Hid (∀ W, Below W7.heap.size W7 W → Calls Tryz.prog 20 #[.agg (cpc K1), .agg (acc y), .int .i64 (z : Int), .int .i64 1] W fun e w' => e = .returned (.bool true) ∧ Below W.heap.size W w') := HG10.out
                  have HQ2 : Hid (∀ W, Calls Tryz.prog 21 #[.agg (stc S2 (.slice (some ⟨rb, ob, none⟩) S2.ram.length b2) (.slice k1 S2.inp.length k2) (.slice v1 S2.out.length v2))] W fun e w' => e = .returned (.agg (stc (quS S1) (.slice none 0 0) (.slice none 0 0) (.slice v1 S2.out.length v2))) ∧ Below W.heap.size W w') := fun W => by rw [← hqq]; exact quiet_c S2 (some ⟨rb, ob, none⟩) k1 v1 b2 k2 v2 W
                  have HQ1 : Hid (∀ W, Calls Tryz.prog 21 #[.agg (stc S1 (.slice (some ⟨ra, oa, none⟩) S1.ram.length a2) (.slice i1 S1.inp.length i2) (.slice p1 S1.out.length p2))] W fun e w' => e = .returned (.agg (stc (quS S1) (.slice none 0 0) (.slice none 0 0) (.slice p1 S1.out.length p2))) ∧ Below W.heap.size W w') := fun W => quiet_c S1 (some ⟨ra, oa, none⟩) i1 p1 a2 i2 p2 W
                  have HSQ : Hid (∀ W, Below W7.heap.size W7 W → Calls Tryz.prog 16 #[.agg (stc (quS S1) (.slice none 0 0) (.slice none 0 0) (.slice v1 S2.out.length v2)), .agg (stc (quS S1) (.slice none 0 0) (.slice none 0 0) (.slice p1 S1.out.length p2))] W fun e w' => e = .returned (.bool true) ∧ Below W.heap.size W w') := fun W hb => by
                    have eo : S2.out = S1.out := by have := congrArg St.out hqq; exact this
                    refine same_c (quS S1) _ _ _ _ _ _ W ⟨byt_nil W, byt_nil W, ?_⟩ ⟨byt_nil W, byt_nil W, (HYB.out.later hb).o⟩
                    show Byt W (.slice v1 S2.out.length v2) S1.out
                    rw [← eo]
                    exact (HYI.out.later hb).o
                  clear HCS2 HG10 hqq hk2
                  refine wp_region_later (x0 := Later.start W7) (by kernel_rfl) (by kernel_rfl) ?_
                  --@X5
                  iterate 3 (first | (refine BigFrame.wpQuiet_want (by rfl) fun KK hK => ?_; refine quiet_load_agg 35 _ (by rfl) gi 0 (by rfl) (stc S2 (.slice (some ⟨rb, ob, none⟩) S2.ram.length b2) (.slice k1 S2.inp.length k2) (.slice v1 S2.out.length v2)) _ HLI.out HCI.out Tryz.underlying35 (by rfl) (info_bus _ _ _ _) (hK _ ?_); clear hK KK; simp only [Act.put, List.setIfInBounds_toArray, List.set_cons_succ, List.set_cons_zero]) | (refine BigFrame.wpQuiet_want (by rfl) fun KK hK => ?_; refine quiet_load_agg 35 _ (by rfl) gb 0 (by rfl) (stc S1 (.slice (some ⟨ra, oa, none⟩) S1.ram.length a2) (.slice i1 S1.inp.length i2) (.slice p1 S1.out.length p2)) _ HLB.out HCB.out Tryz.underlying35 (by rfl) (info_bus _ _ _ _) (hK _ ?_); clear hK KK; simp only [Act.put, List.setIfInBounds_toArray, List.set_cons_succ, List.set_cons_zero]) | (go_big_quiet_step (first | (go_at_call 16; exact calls_later (HSM.out _ (Later.below _))))))
                  iterate 7 (first | (refine BigFrame.wpQuiet_want (by rfl) fun KK hK => ?_; refine quiet_load_agg 31 _ (by rfl) gc 0 (by rfl) (cpc K1) _ HLC.out HCC.out Tryz.underlying31 (by rfl) (info_cpu _) (hK _ ?_); clear hK KK; simp only [Act.put, List.setIfInBounds_toArray, List.set_cons_succ, List.set_cons_zero]) | (refine BigFrame.wpQuiet_want (by rfl) fun KK hK => ?_; refine quiet_load_agg 45 _ (by rfl) gy 0 (by rfl) (acc y) _ HLY.out HCY.out Tryz.underlying45 (by rfl) (info_act _) (hK _ ?_); clear hK KK; simp only [Act.put, List.setIfInBounds_toArray, List.set_cons_succ, List.set_cons_zero]) | (go_big_quiet_step (first | (go_at_call 11; exact calls_later (HWD.out _)) | (go_at_call 20; exact calls_later (HG2.out _ (Later.below _))))))
                  iterate 16 (first | (refine BigFrame.wpQuiet_want (by rfl) fun KK hK => ?_; refine quiet_load_agg 31 _ (by rfl) gc 0 (by rfl) (cpc K1) _ HLC.out HCC.out Tryz.underlying31 (by rfl) (info_cpu _) (hK _ ?_); clear hK KK; simp only [Act.put, List.setIfInBounds_toArray, List.set_cons_succ, List.set_cons_zero]) | (refine BigFrame.wpQuiet_want (by rfl) fun KK hK => ?_; refine quiet_load_agg 45 _ (by rfl) gy 0 (by rfl) (acc y) _ HLY.out HCY.out Tryz.underlying45 (by rfl) (info_act _) (hK _ ?_); clear hK KK; simp only [Act.put, List.setIfInBounds_toArray, List.set_cons_succ, List.set_cons_zero]) | (refine BigFrame.wpQuiet_want (by rfl) fun KK hK => ?_; refine quiet_load_agg 35 _ (by rfl) gi 0 (by rfl) (stc S2 (.slice (some ⟨rb, ob, none⟩) S2.ram.length b2) (.slice k1 S2.inp.length k2) (.slice v1 S2.out.length v2)) _ HLI.out HCI.out Tryz.underlying35 (by rfl) (info_bus _ _ _ _) (hK _ ?_); clear hK KK; simp only [Act.put, List.setIfInBounds_toArray, List.set_cons_succ, List.set_cons_zero]) | (go_big_quiet_step (first | (go_at_call 11; exact calls_later (HWD.out _)) | (go_at_call 20; exact calls_later (HG1.out _ (Later.below _))) | (go_at_call 21; exact calls_later (HQ2.out _)))))
                  --@X6
                  repeat (first | (refine BigFrame.wpQuiet_want (by rfl) fun KK hK => ?_; refine quiet_load_agg 35 _ (by rfl) gb 0 (by rfl) (stc S1 (.slice (some ⟨ra, oa, none⟩) S1.ram.length a2) (.slice i1 S1.inp.length i2) (.slice p1 S1.out.length p2)) _ HLB.out HCB.out Tryz.underlying35 (by rfl) (info_bus _ _ _ _) (hK _ ?_); clear hK KK; simp only [Act.put, List.setIfInBounds_toArray, List.set_cons_succ, List.set_cons_zero]) | (go_big_quiet_step (first | (go_at_call 21; exact calls_later (HQ1.out _)) | (go_at_call 16; exact calls_later (HSQ.out _ (Later.below _))))))
                  --@X7
                  refine wpQuiet_nil ?_
                  rintro w' ⟨x9, rfl⟩
                  go_wp2
                  go_meet
                  exact ⟨rfl, x9.below⟩
            case rest =>
              obtain ⟨rfl, hb8⟩ := hcut
              have HKX8 : Hid (Ky W0 b L2 S2 wc) := HKX.out.later hb8
              have HRC8 : Hid (Ks W0 L2 wc gc (cpc K1) 31) := HRC.out.later hb8
              have HRO8 : Hid (Ks W0 L2 wc go (otc o) 52) := HRO.out.later hb8
              clear hb8 HKX HRC HRO HYB HYI HBE HLI HCI HLB HCB HLC HCC HLY HCY yL HCH HSM
              have HRC := HRC8
              have HRO := HRO8
              --@V3
              go_upto_region 8 with (first | (refine wpList_load_agg (by rfl) _ _ (by rfl) go 86 (by rfl) (rsc o.K.rv o.K.ra o.K.rs) _ (otc_res HRO.out.r) Tryz.underlying29 (by rfl) (info_res _ _ _) ?_) | (refine wpList_store_part (by rfl) _ _ _ (by rfl) (by rfl) gc 79 _ (by rfl) (by rfl) (HRC.out.r.there (by rw [cpc_size]; show 79 + 3 ≤ 82; omega)) (info_res _ _ _) (rsc_ones _ _ _) ?_))
              refine on_P (motive := fun W => Code.wp _ _ _ _ W) (Q := fun W => Osv W0 b gc K0 W) ⟨_, L2, S2, HKX8.out.lay HRC.out 79 _, HSOK.out, ⟨by have q := HRC.out.r.lay (rsc o.K.rv o.K.ra o.K.rs).toList 79; rw [show (rsc o.K.rv o.K.ra o.K.rs).toList = [.bool o.K.rv, .int .u64 (n64 o.K.ra), .int .i64 o.K.rs] from rfl, cpc_res] at q; exact q, HRC.out.n, HRC.out.ge⟩, HCN.out⟩ ?_
              clear HKX8 HRC8 HRO8 HRC HRO HSOK HCN
              intro W9 hW9
              have HU9 : Hid (Osv W0 b gc K0 W9) := hW9
              clear hW9
              go_wp2
              go_roundw
              · exact ⟨j + 1, by omega, by go_num, HU9⟩
              · simp only [intOf]; omega
      · have h60I : ¬ ((j : Int) < 60) := by omega
        go_wp2
        go_ret
        exact ⟨rfl, b0.out.trans (hk.be.mono b0.out.size)⟩
    · obtain rfl : j = O.length := by omega
      have hltI : ¬ ((O.length : Int) < (O.length : Int)) := by omega
      go_wp2
      go_ret
      exact ⟨rfl, b0.out.trans (hk.be.mono b0.out.size)⟩
end Go.Proofs.YtlhgphokfpnfeaaGreatDoor
