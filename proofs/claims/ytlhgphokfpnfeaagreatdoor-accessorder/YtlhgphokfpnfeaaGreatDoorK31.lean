import Derived.Test.YtlhgphokfpnfeaaGreatDoorK28
import Derived.Test.YtlhgphokfpnfeaaGreatDoorK30
import Derived.Deep.CutRange
namespace Go.Proofs.YtlhgphokfpnfeaaGreatDoor
set_option linter.unusedVariables false
open Go.MuLone Go.ChangeShapes Go.WideShapes Go.ChangeAt Go.RowKit Go.Deep
set_option maxRecDepth 100000 in
set_option maxHeartbeats 4000000 in
theorem order_no (K : Cp) (S : St) (ar ai ao : Option Addr) (cr ci co : Nat) (O : List Acd) (va : Value) (w : World) (hT : Tb w) (hs : Bs S (.slice ar S.ram.length cr) (.slice ai S.inp.length ci) (.slice ao S.out.length co) w) (hw : StW S) (lr : S.ram.length ≤ 140737488355328) (li : S.inp.length ≤ 140737488355328) (lo : S.out.length ≤ 140737488355328) (ha : Acts w va O) (hl : O.length ≤ 140737488355328) (hok : S.ok = false) :
    Calls Tryz.prog 3 #[.agg (scc K S (.slice ar S.ram.length cr) (.slice ai S.inp.length ci) (.slice ao S.out.length co) va)] w fun e w' => e = .returned (.bool true) ∧ Below w.heap.size w w' := by
  obtain ⟨W0, hW0, r0, b0, s0⟩ := start1 w (scc K S (.slice ar S.ram.length cr) (.slice ai S.inp.length ci) (.slice ao S.out.length co) va) 38
  have HSB : Hid (∀ W, Below W0.heap.size W0 W → ∀ j v, (stc S (.slice ar S.ram.length cr) (.slice ai S.inp.length ci) (.slice ao S.out.length co))[j]? = some v → W.cell? ⟨w.heap.size, 82 + j, none⟩ = some v) := fun W hb j v h => by rw [(r0.out.later hb r0.out.lt).cell]; exact scc_b _ _ _ _ _ _ j v h
  have HLV : Hid (∀ W, Tb W → Calls Tryz.prog 9 #[] W fun e w' => e = .returned (.bool true) ∧ Below W.heap.size W w') := fun W h => live_c W h
  have HT0 : Hid (Tb W0) := hT.next b0.out
  have HST : Hid (∀ W, Calls Tryz.prog 8 #[.agg (stc S (.slice ar S.ram.length cr) (.slice ai S.inp.length ci) (.slice ao S.out.length co))] W fun e w' => e = .returned (.pointer none) ∧ Below W.heap.size W w') := fun W => start_no S ar ai ao cr ci co W hok
  clear hs hw lr li lo ha hl hok s0 hT
  go_enter Tryz.func3, Tryz.ntmps3
  go_upto_region 1 with fail
  clear hW0 r0
  go_wp2_with (first | (refine wpList_load_agg (by rfl) _ _ (by rfl) w.heap.size 82 (by rfl) (stc S (.slice ar S.ram.length cr) (.slice ai S.inp.length ci) (.slice ao S.out.length co)) _ (HSB.out _ (Below.refl _ _)) Tryz.underlying35 (by rfl) (info_bus _ _ _ _) ?_) | (go_at_call 8; refine (HST.out _).mono ?_; rintro e w1 ⟨rfl, hb1⟩; have HB1 : Hid (Below W0.heap.size W0 w1) := hb1; clear hb1) | (go_at_call 9; refine (HLV.out _ (HT0.out.next HB1.out)).mono ?_; rintro e w3 ⟨rfl, hb3⟩; have HB3 : Hid (Below W0.heap.size W0 w3) := HB1.out.trans (hb3.mono HB1.out.size); clear hb3))
  go_ret
  exact ⟨rfl, b0.out.trans (HB3.out.mono b0.out.size)⟩
set_option maxRecDepth 100000 in
set_option maxHeartbeats 8000000 in
theorem order_ok (K : Cp) (S : St) (ar ai ao : Option Addr) (cr ci co : Nat) (O : List Acd) (va : Value) (w : World) (hT : Tb w) (hs : Bs S (.slice ar S.ram.length cr) (.slice ai S.inp.length ci) (.slice ao S.out.length co) w) (hw : StW S) (lr : S.ram.length ≤ 140737488355328) (li : S.inp.length ≤ 140737488355328) (lo : S.out.length ≤ 140737488355328) (ha : Acts w va O) (hl : O.length ≤ 140737488355328) (hok : S.ok = true) :
    Calls Tryz.prog 3 #[.agg (scc K S (.slice ar S.ram.length cr) (.slice ai S.inp.length ci) (.slice ao S.out.length co) va)] w fun e w' => e = .returned (.bool true) ∧ Below w.heap.size w w' := by
  obtain ⟨W0, hW0, r0, b0, s0⟩ := start1 w (scc K S (.slice ar S.ram.length cr) (.slice ai S.inp.length ci) (.slice ao S.out.length co) va) 38
  have HSB : Hid (∀ W, Below W0.heap.size W0 W → ∀ j v, (stc S (.slice ar S.ram.length cr) (.slice ai S.inp.length ci) (.slice ao S.out.length co))[j]? = some v → W.cell? ⟨w.heap.size, 82 + j, none⟩ = some v) := fun W hb j v h => by rw [(r0.out.later hb r0.out.lt).cell]; exact scc_b _ _ _ _ _ _ j v h
  have HLV : Hid (∀ W, Tb W → Calls Tryz.prog 9 #[] W fun e w' => e = .returned (.bool true) ∧ Below W.heap.size W w') := fun W h => live_c W h
  have HT0 : Hid (Tb W0) := hT.next b0.out
  have HSC : Hid (∀ W, Below W0.heap.size W0 W → ∀ j v, (cpc K)[j]? = some v → W.cell? ⟨w.heap.size, 0 + j, none⟩ = some v) := fun W hb j v h => by rw [(r0.out.later hb r0.out.lt).cell]; exact scc_c _ _ _ _ _ _ j v h
  have HSA : Hid (∀ W, Below W0.heap.size W0 W → W.cell? ⟨w.heap.size, 97, none⟩ = some va) := fun W hb => by rw [(r0.out.later hb r0.out.lt).cell]; exact scc_a _ _ _ _ _ _
  have HST : Hid (Calls Tryz.prog 8 #[.agg (stc S (.slice ar S.ram.length cr) (.slice ai S.inp.length ci) (.slice ao S.out.length co))] W0 fun e w' => ∃ L, e = .returned (.pointer (some ⟨L.b, 0, none⟩)) ∧ PB W0.heap.size L S w' ∧ Below W0.heap.size W0 w') := start_ok S ar ai ao cr ci co W0 hok (hs.later b0.out) lr li lo
  have HSK : Hid (Sok S) := ⟨hok, hw⟩
  obtain ⟨aA, cA, rfl, hcap, hel⟩ := ha
  have HEL : Hid (∀ j, j < O.length → ∃ g off, aA = some ⟨g, off, none⟩ ∧ g < W0.heap.size ∧ ∀ i, i < 5 → ∀ W, Below W0.heap.size W0 W → W.cell? ⟨g, off + j * 5 + i, none⟩ = (acc (O.getD j ⟨0, 0, 0, 0#64, 0#64⟩))[i]?) := fun j hj => by
    obtain ⟨g, off, e, hg, hc⟩ := hel (fun e => by rw [e] at hj; simp at hj)
    refine ⟨g, off, e, Nat.lt_of_lt_of_le hg b0.out.size, fun i hi W hb => ?_⟩
    rw [hb.cell (p := ⟨g, off + j * 5 + i, none⟩) (Nat.lt_of_lt_of_le hg b0.out.size), b0.out.cell (p := ⟨g, off + j * 5 + i, none⟩) hg]
    exact hc j hj i hi
  have HL0 : Hid (O.length ≤ 140737488355328) := hl
  have hzc := zero_cpu
  have hza := zero_act
  have hzo := zero_out
  have hzt := zero_trap
  clear hs hw lr li lo hok s0 hT hel hcap hl
  go_enter Tryz.func3, Tryz.ntmps3
  go_upto_region 1 with fail
  clear hW0 r0
  go_upto_region 4 with (first | (refine wpList_load_agg (by rfl) _ _ (by rfl) w.heap.size 82 (by rfl) (stc S (.slice ar S.ram.length cr) (.slice ai S.inp.length ci) (.slice ao S.out.length co)) _ (HSB.out _ (Below.refl _ _)) Tryz.underlying35 (by rfl) (info_bus _ _ _ _) ?_) | (go_at_call 8; refine HST.out.mono ?_; rintro e w1 ⟨L, rfl, hp1, hb1⟩; have HK1 : Hid (Ky W0 L.b L S w1) := ⟨hp1, rfl, hb1⟩; clear hp1 hb1) | (go_at_call 9; refine (HLV.out _ (HT0.out.next HK1.out.be)).mono ?_; rintro e w3 ⟨rfl, hb3⟩; have HK3 : Hid (Ky W0 L.b L S w3) := HK1.out.later hb3; clear hb3))
  have HA0 : Hid (Calls Tryz.prog 10 #[.agg (cpc K), .pointer (some ⟨L.b, 0, none⟩)] w3 fun e w' => e = .returned (.agg (cpc (PR K))) ∧ ∃ L', PSt W0.heap.size L w3 L' S w') := access0_c w3 HK3.out.p HSK.out (HT0.out.next HK3.out.be) HT0.out.lt K
  go_upto_region 5 with (first | (refine wpList_load_agg (by rfl) _ _ (by rfl) w.heap.size 0 (by rfl) (cpc K) _ (HSC.out _ HK3.out.be) Tryz.underlying31 (by rfl) (info_cpu _) ?_) | (go_at_call 10; refine HA0.out.mono ?_; rintro e w4 ⟨rfl, L1, hp4⟩; have HK4 : Hid (Ky W0 L.b L1 S w4) := HK3.out.step hp4; clear hp4) | (refine wpList_store_end (by rfl) 31 _ _ (by rfl) (by rfl) w4 (cpc cz) (cpc (PR K)) (by rfl) (by rfl) (by rfl) (info_cpu _) (by rw [cpc_size, cpc_size]) (cpc_ones _) ?_))
  refine on_P (motive := fun W => Code.wp _ _ _ _ W) (Q := fun W => Ky W0 L.b L1 S W ∧ Ks W0 L1 W w4.heap.size (cpc (PR K)) 31) ⟨HK4.out.later (below_al _ _), Ks.new HK4.out _ _⟩ ?_
  clear HK1 HK3 HK4 HA0 HSB HSC HST HLV
  generalize w4.heap.size = gc
  rintro W5 ⟨hk5, hr5⟩
  have HK5 : Hid (Ky W0 L.b L1 S W5) := hk5
  have HR5 : Hid (Ks W0 L1 W5 gc (cpc (PR K)) 31) := hr5
  clear hk5 hr5
  obtain ⟨K0, hK0⟩ : ∃ K0, K0 = PR K := ⟨_, rfl⟩
  have HPK : Hid (PR K0 = K0) := by unfold Hid; rw [hK0]; exact PR_PR K
  rw [← hK0] at HR5
  clear hK0
  have c33 : W5.cell? ⟨gc, 33, none⟩ = some (.int .i64 K0.md) := HR5.out.r.cls.md
  have c35 : W5.cell? ⟨gc, 35, none⟩ = some (.int .u64 (n64 (K0.s 0))) := HR5.out.r.cls.s0
  have HXE : Hid (xE K0 = if K0.md = 3 ∧ (K0.s 0 &&& 131072#64) ≠ 0#64 then n64 (bfB (K0.s 0)) else K0.md) := rfl
  have b17 : n64 (K0.s 0) / (131072 : Int) = n64 (K0.s 0 >>> 17) := n64_shr _ 17
  have a17 : bits .and .u64 (n64 (K0.s 0 >>> 17)) 1 = n64 (K0.s 0 >>> 17 &&& 1#64) := n64_and _ 1#64
  have HT17 : Hid ((n64 (K0.s 0 >>> 17 &&& 1#64) == 1) = decide (K0.s 0 &&& 131072#64 ≠ 0#64)) := bit17 _
  have b11 : n64 (K0.s 0) / (2048 : Int) = n64 (K0.s 0 >>> 11) := n64_shr _ 11
  have a11 : bits .and .u64 (n64 (K0.s 0 >>> 11)) 3 = n64 (bfB (K0.s 0)) := n64_and _ 3#64
  have hlo := n64_lo (bfB (K0.s 0))
  have hhi := bf_le (K0.s 0)
  obtain ⟨m, hm⟩ : ∃ m, m = xE K0 := ⟨_, rfl⟩
  have HM : Hid (m = xE K0) := hm
  rw [← hm] at HXE
  clear hm
  generalize n64 (bfB (K0.s 0)) = t3 at a11 hlo hhi HXE
  generalize n64 (K0.s 0 >>> 11) = t2 at a11 b11
  generalize n64 (K0.s 0 >>> 17 &&& 1#64) = t1 at a17 HT17
  generalize n64 (K0.s 0 >>> 17) = t0 at a17 b17
  generalize n64 (K0.s 0) = ms at b11 b17 c35
  have hms : True := trivial
  obtain ⟨T, hTe⟩ : ∃ T, T = decide (K0.md = 3 ∧ (K0.s 0 &&& 131072#64) ≠ 0#64) := ⟨_, rfl⟩
  have HTE : Hid (T = decide (K0.md = 3 ∧ (K0.s 0 &&& 131072#64) ≠ 0#64)) := hTe
  clear hTe
  go_upto_region 6 with fail
  go_cut [37] from 29 to 37 (fun v wx => v = .bool T ∧ wx = W5)
  case first =>
    by_cases h3 : K0.md = 3
    · have e3 : (K0.md == 3) = true := by rw [h3]; rfl
      have HX : Hid ((t1 == 1) = T) := by unfold Hid; rw [HT17.out, HTE.out]; simp [h3]
      clear h3
      go_wp2
      go_meet
      exact ⟨by rw [HX.out], rfl⟩
    · have e3 : (K0.md == 3) = false := by rw [beq_eq_false_iff_ne]; exact h3
      have HX : Hid (false = T) := by unfold Hid; rw [HTE.out]; simp [h3]
      go_wp2
      go_meet
      exact ⟨by rw [HX.out], rfl⟩
  case rest =>
    obtain ⟨rfl, hwc⟩ := hcut
    subst hwc
    go_upto_if 37 with fail
    go_cut [5] from 38 to 42 (fun v wx => v = .int .i64 m ∧ wx = wc)
    case first =>
      cases T with
      | true =>
        have HX : Hid (m = t3) := by unfold Hid; rw [HXE.out, if_pos (of_decide_eq_true HTE.out.symm)]
        go_wp2
        go_meet
        exact ⟨by rw [HX.out], rfl⟩
      | false =>
        have HX : Hid (m = K0.md) := by unfold Hid; rw [HXE.out, if_neg (of_decide_eq_false HTE.out.symm)]
        go_wp2
        go_meet
        exact ⟨by rw [HX.out], rfl⟩
    case rest =>
      obtain ⟨rfl, hwc⟩ := hcut
      subst hwc
      have HU : Hid (Osv W0 L.b gc K0 wc) := ⟨K0, L1, S, HK5.out, HSK.out, HR5.out, Cst.refl HPK.out⟩
      clear HK5 HR5 HSK c33 c35 b17 a17 HT17 b11 a11 hlo hhi HTE HXE HPK
      generalize L.b = b at HU ⊢
      clear L1 L w1 w3 w4
      go_wp2
      go_loopw [6] (fun vi wr => ∃ j : Nat, j ≤ O.length ∧ vi = .int .i64 j ∧ Hid (Osv W0 b gc K0 wr)) (fun i _ => O.length - (intOf i).toNat)
      case atStart => exact ⟨0, Nat.zero_le _, rfl, HU⟩
      case round =>
        obtain ⟨j, hj, rfl, hst⟩ := hrel
        clear HU
        obtain ⟨K1, L1, S1, hk, hsk, hr, hrv⟩ := hst.out
        have c97 := HSA.out wr hk.be
        have hlenI : (O.length : Int) ≤ 140737488355328 := by have := HL0.out; omega
        by_cases hlt : j < O.length
        · have hltI : (j : Int) < (O.length : Int) := by omega
          by_cases h60 : j < 60
          · have h60I : (j : Int) < 60 := by omega
            have HKX : Hid (Ky W0 b L1 S1 wr) := hk
            have HSO : Hid (Sok S1) := hsk
            have HRC : Hid (Ks W0 L1 wr gc (cpc K1) 31) := hr
            have HCS : Hid (Cst K0 K1) := hrv
            clear hk hsk hr hst hrv
            obtain ⟨ga, off, rfl, hga, hcell⟩ := HEL.out j hlt
            obtain ⟨y, hy⟩ : ∃ y, y = O.getD j ⟨0, 0, 0, 0#64, 0#64⟩ := ⟨_, rfl⟩
            have HAC : Hid (∀ W, Below W0.heap.size W0 W → ∀ i v, (acc y)[i]? = some v → W.cell? ⟨ga, off + j * 5 + i, none⟩ = some v) := fun W hb i v h => by
              have hi : i < 5 := by
                by_cases q : i < 5
                · exact q
                · rw [Array.getElem?_eq_none (by show 5 ≤ i; omega)] at h; cases h
              rw [hcell i hi W hb, ← hy]; exact h
            clear hcell hy hga
            have HDC : Hid (∀ W, Ky W0 b L1 S1 W → Calls Tryz.prog 14 #[.agg (cpc K1), .pointer (some ⟨b, 0, none⟩), .agg (acc y)] W fun e w' => e = .returned (.agg (otc (DO S1 K1 y).1)) ∧ ∃ L', PSt W0.heap.size L1 W L' (DO S1 K1 y).2 w') := fun W hk => by
              have q := does_c W hk.p HSO.out (HT0.out.next hk.be) HT0.out.lt K1 y
              rw [hk.e] at q
              exact q
            have HSOK : Hid (Sok (DO S1 K1 y).2) := DO_ok HSO.out K1 y
            have HCN : Hid (Cst K0 (resOf K1 (DO S1 K1 y).1.K)) := HCS.out.step S1 y
            have HM1 : Hid (m = xE K1) := by
              unfold Hid
              obtain ⟨v, x, s, e⟩ := HCS.out.e
              rw [HM.out, e]; rfl
            have HO2 : Hid (∀ z : Nat, y.kd = 2 → wid4 z → wdt y = z → (DO S1 K1 y).1.t = ordT S1 K1.c K1.a m y 4 1 z) := fun z hk hz e => by rw [HM1.out]; exact ord_2 HCS.out.p hk hz (by unfold wdt at e; rw [if_neg (by omega)] at e; exact e)
            have HO3 : Hid (∀ z : Nat, y.kd = 3 → wid4 z → wdt y = z → (DO S1 K1 y).1.t = ordT S1 K1.c K1.a m y 6 2 z) := fun z hk hz e => by rw [HM1.out]; exact ord_3 HCS.out.p hk hz (by unfold wdt at e; rw [if_neg (by omega)] at e; exact e)
            have HO4 : Hid (∀ z : Nat, y.kd = 4 → (z = 4 ∨ z = 8) → wdt y = z → (DO S1 K1 y).1.t = ordT S1 K1.c K1.a m y 4 1 z) := fun z hk hz e => by rw [HM1.out]; exact ord_4 HCS.out.p hk hz (by unfold wdt at e; rw [if_neg (by omega)] at e; exact e)
            have HO5 : Hid (∀ z : Nat, y.kd = 5 → (z = 4 ∨ z = 8) → wdt y = z → (DO S1 K1 y).1.t = ordT S1 K1.c K1.a m y 6 2 z) := fun z hk hz e => by rw [HM1.out]; exact ord_5 HCS.out.p hk hz (by unfold wdt at e; rw [if_neg (by omega)] at e; exact e)
            have HO6 : Hid (∀ z : Nat, y.kd = 6 → 77 ≤ y.op → ¬ y.op = 86 → ¬ y.op = 87 → y.op ≤ 96 → wdt y = z → (DO S1 K1 y).1.t = ordT S1 K1.c K1.a m y 6 3 z) := fun z hk h1 h2 h3 h4 e => by
              rw [HM1.out]
              unfold wdt at e
              rw [if_pos hk] at e
              refine (ord_6 HCS.out.p hk ?_).1
              by_cases h8 : 86 ≤ y.op
              · rw [if_pos h8] at e; exact .inr ⟨by omega, by omega, h4⟩
              · rw [if_neg h8] at e; exact .inl ⟨by omega, h1, by omega⟩
            have HCK : Hid (∀ W, Ky W0 b L1 S1 W → ∀ n r : Int, Calls Tryz.prog 12 #[.agg (pc K1.c K1.a), .int .i64 m, .int .u64 (n64 y.ad), .int .i64 n, .int .i64 r] W fun e w' => e = .returned (.bool (ckA (PC K1.c) (PA K1.a) m y.ad n r)) ∧ Below W.heap.size W w') := fun W hk n r => Check_c K1.c K1.a m y.ad n r W (HT0.out.next hk.be)
            have HTH : Hid (1 ≤ wdt y ∧ wdt y ≤ 8 → ∀ W, Ky W0 b L1 S1 W → Calls Tryz.prog 13 #[.pointer (some ⟨b, 0, none⟩), .agg (acc y)] W fun e w' => e = .returned (.bool (thA S1 y)) ∧ Below W.heap.size W w') := fun hz W hk => by
              have q := lthere_c W hk.p HSO.out y hz
              rw [hk.e] at q
              exact q
            have HWD : Hid (∀ W, Calls Tryz.prog 11 #[.agg (acc y)] W fun e w' => e = .returned (.int .i64 (wdt y)) ∧ Below W.heap.size W w') := fun W => width_c y W
            have HN48 : Hid (y.kd = 6 → wdt y = 4 ∨ wdt y = 8) := fun h => by
              unfold wdt
              rw [if_pos h]
              split
              · exact .inr rfl
              · exact .inl rfl
            generalize (DO S1 K1 y).1 = o at HDC HO2 HO3 HO4 HO5 HO6 HCN
            generalize (DO S1 K1 y).2 = S2 at HDC HSOK
            clear HM1
            generalize hwn : wdt y = n at HWD HO2 HO3 HO4 HO5 HO6 HTH HN48
            clear hwn
            go_upto_region 12 with (first | (refine wpList_load_agg (by rfl) _ _ (by rfl) ga (off + j * 5) (by rfl) (acc y) _ (HAC.out _ HKX.out.be) Tryz.underlying45 (by rfl) (info_act _) ?_) | (refine wpList_store_end (by rfl) 45 _ _ (by rfl) (by rfl) wr (acc ⟨0, 0, 0, 0#64, 0#64⟩) (acc y) (by rfl) (by rfl) (by rfl) (info_act _) (by rfl) (by kernel_rfl) ?_))
            clear c97
            refine on_P (motive := fun W => Code.wp _ _ _ _ W) (Q := fun W => (Ky W0 b L1 S1 W) ∧ (Ks W0 L1 W gc (cpc K1) 31) ∧ (Ks W0 L1 W wr.heap.size (acc y) 45) ∧ (gc < wr.heap.size)) ⟨HKX.out.later (below_al _ _), HRC.out.later (below_al _ _), Ks.new HKX.out _ _, HRC.out.r.lt⟩ ?_
            clear HKX HRC
            generalize wr.heap.size = gy
            rintro W1 ⟨h0, h1, h2, h3⟩
            have HKX1 : Hid (Ky W0 b L1 S1 W1) := h0
            have HRC1 : Hid (Ks W0 L1 W1 gc (cpc K1) 31) := h1
            have HRY : Hid (Ks W0 L1 W1 gy (acc y) 45) := h2
            have HN1 : Hid (gc < gy) := h3
            clear h0 h1 h2 h3
            have HKX := HKX1
            have HRC := HRC1
            clear HKX1 HRC1
            clear HAC
            have y0 : W1.cell? ⟨gy, 0, none⟩ = some (.int .i64 y.kd) := HRY.out.r.cell 0
            have y1 : W1.cell? ⟨gy, 1, none⟩ = some (.int .i64 y.sz) := HRY.out.r.cell 1
            have y2 : W1.cell? ⟨gy, 2, none⟩ = some (.int .i64 y.op) := HRY.out.r.cell 2
            have y3 : W1.cell? ⟨gy, 3, none⟩ = some (.int .u64 (n64 y.ad)) := HRY.out.r.cell 3
            by_cases kl : y.kd < 2
            · have HN : Hid (Osv W0 b gc K0 W1) := ⟨K1, L1, S1, HKX.out, HSO.out, HRC.out, HCS.out⟩
              clear HKX HRC HRY HSO HCS HDC HSOK HCN HO2 HO3 HO4 HO5 HO6 HCK HTH HWD HN1
              go_wp2
              go_roundw
              · exact ⟨j + 1, by omega, by go_num, HN⟩
              · simp only [intOf]; omega
            by_cases kg : 6 < y.kd
            · have HN : Hid (Osv W0 b gc K0 W1) := ⟨K1, L1, S1, HKX.out, HSO.out, HRC.out, HCS.out⟩
              clear HKX HRC HRY HSO HCS HDC HSOK HCN HO2 HO3 HO4 HO5 HO6 HCK HTH HWD HN1
              go_wp2
              go_roundw
              · exact ⟨j + 1, by omega, by go_num, HN⟩
              · simp only [intOf]; omega
            by_cases kv : y.kd = 6 ∧ (y.op < 77 ∨ y.op = 86 ∨ y.op = 87 ∨ 96 < y.op)
            · obtain ⟨k6, ko⟩ := kv
              rw [k6] at y0
              clear k6
              by_cases o1 : y.op < 77
              · have HN : Hid (Osv W0 b gc K0 W1) := ⟨K1, L1, S1, HKX.out, HSO.out, HRC.out, HCS.out⟩
                clear HKX HRC HRY HSO HCS HDC HSOK HCN HO2 HO3 HO4 HO5 HO6 HCK HTH HWD HN1
                go_wp2
                go_roundw
                · exact ⟨j + 1, by omega, by go_num, HN⟩
                · simp only [intOf]; omega
              by_cases o2 : y.op = 86
              · rw [o2] at y2
                have HN : Hid (Osv W0 b gc K0 W1) := ⟨K1, L1, S1, HKX.out, HSO.out, HRC.out, HCS.out⟩
                clear HKX HRC HRY HSO HCS HDC HSOK HCN HO2 HO3 HO4 HO5 HO6 HCK HTH HWD HN1
                go_wp2
                go_roundw
                · exact ⟨j + 1, by omega, by go_num, HN⟩
                · simp only [intOf]; omega
              by_cases o3 : y.op = 87
              · rw [o3] at y2
                have HN : Hid (Osv W0 b gc K0 W1) := ⟨K1, L1, S1, HKX.out, HSO.out, HRC.out, HCS.out⟩
                clear HKX HRC HRY HSO HCS HDC HSOK HCN HO2 HO3 HO4 HO5 HO6 HCK HTH HWD HN1
                go_wp2
                go_roundw
                · exact ⟨j + 1, by omega, by go_num, HN⟩
                · simp only [intOf]; omega
              have eo2 : (y.op == 86) = false := by rw [beq_eq_false_iff_ne]; exact o2
              have eo3 : (y.op == 87) = false := by rw [beq_eq_false_iff_ne]; exact o3
              have o4 : 96 < y.op := by omega
              clear ko
              have HN : Hid (Osv W0 b gc K0 W1) := ⟨K1, L1, S1, HKX.out, HSO.out, HRC.out, HCS.out⟩
              clear HKX HRC HRY HSO HCS HDC HSOK HCN HO2 HO3 HO4 HO5 HO6 HCK HTH HWD HN1
              go_wp2
              go_roundw
              · exact ⟨j + 1, by omega, by go_num, HN⟩
              · simp only [intOf]; omega
            have HKD : Hid (2 ≤ y.kd ∧ y.kd ≤ 6 ∧ (y.kd = 6 → 77 ≤ y.op ∧ ¬ y.op = 86 ∧ ¬ y.op = 87 ∧ y.op ≤ 96)) := ⟨by omega, by omega, fun h => ⟨by omega, by omega, by omega, by omega⟩⟩
            clear kv
            obtain ⟨kd, hkd⟩ : ∃ kd, kd = y.kd := ⟨_, rfl⟩
            have HK : Hid (kd = y.kd) := hkd
            rw [← hkd] at y0 kl kg
            clear hkd
            go_cut [91] from 59 to 90 (fun v wx => v = .bool false ∧ wx = W1)
            case first =>
              have hq := HKD.out
              rw [← HK.out] at hq
              by_cases k6 : kd = 6
              · subst k6
                obtain ⟨q1, q2, q3, q4⟩ := hq.2.2 rfl
                have eo1 : ¬ y.op < 77 := by omega
                have eo2 : (y.op == 86) = false := by rw [beq_eq_false_iff_ne]; exact q2
                have eo3 : (y.op == 87) = false := by rw [beq_eq_false_iff_ne]; exact q3
                have eo4 : ¬ 96 < y.op := by omega
                clear q1 q2 q3 q4 hq
                go_wp2
                go_meet
                exact ⟨rfl, rfl⟩
              · have e6 : (kd == 6) = false := by rw [beq_eq_false_iff_ne]; exact k6
                clear hq k6
                go_wp2
                go_meet
                exact ⟨rfl, rfl⟩
            case rest =>
              obtain ⟨rfl, hwc⟩ := hcut
              have hwc2 := hwc.symm
              subst hwc2
              go_upto_region 14 with (first | (refine wpList_load_row (by rfl) _ _ (by rfl) _ (by rfl) 45 _ (0, 0) _ HRY.out.r Tryz.underlying45 (by rfl) (info_act _) ?_) | (go_at_call 11; refine (HWD.out _).mono ?_; rintro e w2 ⟨rfl, hb2⟩; have HB2 : Hid (Below W1.heap.size W1 w2) := hb2; clear hb2))
              refine on_P (motive := fun W => Code.wp _ _ _ _ W) (Q := fun W => (Ky W0 b L1 S1 W) ∧ (Ks W0 L1 W gc (cpc K1) 31) ∧ (Ks W0 L1 W gy (acc y) 45)) ⟨HKX.out.later HB2.out, HRC.out.later HB2.out, HRY.out.later HB2.out⟩ ?_
              clear HKX HRC HRY HB2 y0 y1 y2 y3 HWD
              rintro W2 ⟨h0, h1, h2⟩
              have HKX2 : Hid (Ky W0 b L1 S1 W2) := h0
              have HRC2 : Hid (Ks W0 L1 W2 gc (cpc K1) 31) := h1
              have HRY2 : Hid (Ks W0 L1 W2 gy (acc y) 45) := h2
              clear h0 h1 h2
              have HKX := HKX2
              have HRC := HRC2
              have HRY := HRY2
              clear HKX2 HRC2 HRY2
              have y0 : W2.cell? ⟨gy, 0, none⟩ = some (.int .i64 kd) := by rw [HK.out]; exact HRY.out.r.cell 0
              have y3 : W2.cell? ⟨gy, 3, none⟩ = some (.int .u64 (n64 y.ad)) := HRY.out.r.cell 3
              by_cases hz : n = 4 ∨ n = 8 ∨ (kd ≤ 3 ∧ (n = 1 ∨ n = 2))
              rotate_left 1
              · have e4 : (n != 4) = true := by rw [bne_iff_ne]; omega
                have e8 : (n != 8) = true := by rw [bne_iff_ne]; omega
                by_cases k3 : 3 < kd
                · clear hz
                  have HN : Hid (Osv W0 b gc K0 W2) := ⟨K1, L1, S1, HKX.out, HSO.out, HRC.out, HCS.out⟩
                  clear HKX HRC HRY HSO HCS HDC HSOK HCN HO2 HO3 HO4 HO5 HO6 HCK HTH HN1 HKD HK
                  go_wp2
                  go_roundw
                  · exact ⟨j + 1, by omega, by go_num, HN⟩
                  · simp only [intOf]; omega
                · have e1 : (n != 1) = true := by rw [bne_iff_ne]; omega
                  have e2 : (n != 2) = true := by rw [bne_iff_ne]; omega
                  clear hz
                  have HN : Hid (Osv W0 b gc K0 W2) := ⟨K1, L1, S1, HKX.out, HSO.out, HRC.out, HCS.out⟩
                  clear HKX HRC HRY HSO HCS HDC HSOK HCN HO2 HO3 HO4 HO5 HO6 HCK HTH HN1 HKD HK
                  go_wp2
                  go_roundw
                  · exact ⟨j + 1, by omega, by go_num, HN⟩
                  · simp only [intOf]; omega
              go_cut [112] from 94 to 111 (fun v wx => v = .bool false ∧ wx = W2)
              case first =>
                rcases hz with hz | hz | ⟨hk3, hz | hz⟩
                · have e4 : (n != 4) = false := by rw [hz]; rfl
                  clear hz
                  go_wp2
                  go_meet
                  exact ⟨rfl, rfl⟩
                · have e4 : (n != 4) = true := by rw [hz]; rfl
                  have e8 : (n != 8) = false := by rw [hz]; rfl
                  clear hz
                  go_wp2
                  go_meet
                  exact ⟨rfl, rfl⟩
                · have e4 : (n != 4) = true := by rw [hz]; rfl
                  have e8 : (n != 8) = true := by rw [hz]; rfl
                  have e1 : (n != 1) = false := by rw [hz]; rfl
                  have hk : ¬ 3 < kd := by omega
                  clear hz
                  go_wp2
                  go_meet
                  exact ⟨rfl, rfl⟩
                · have e4 : (n != 4) = true := by rw [hz]; rfl
                  have e8 : (n != 8) = true := by rw [hz]; rfl
                  have e1 : (n != 1) = true := by rw [hz]; rfl
                  have e2 : (n != 2) = false := by rw [hz]; rfl
                  have hk : ¬ 3 < kd := by omega
                  clear hz
                  go_wp2
                  go_meet
                  exact ⟨rfl, rfl⟩
              case rest =>
                obtain ⟨rfl, hwc⟩ := hcut
                have hwc2 := hwc.symm
                subst hwc2
                obtain ⟨z, hzz, rfl⟩ : ∃ z : Nat, (z = 4 ∨ z = 8 ∨ (kd ≤ 3 ∧ (z = 1 ∨ z = 2))) ∧ n = (z : Int) := ⟨n.toNat, by omega, by omega⟩
                clear hz
                obtain ⟨ca, hca⟩ : ∃ ca : Int, ca = if kd = 2 ∨ kd = 4 then 4 else 6 := ⟨_, rfl⟩
                obtain ⟨r0, hr0⟩ : ∃ r0 : Int, r0 = if kd = 2 ∨ kd = 4 then 1 else 2 := ⟨_, rfl⟩
                obtain ⟨r, hr⟩ : ∃ r : Int, r = if kd = 6 then 3 else r0 := ⟨_, rfl⟩
                have HCA : Hid (ca = if kd = 2 ∨ kd = 4 then 4 else 6) := hca
                have HR0 : Hid (r0 = if kd = 2 ∨ kd = 4 then 1 else 2) := hr0
                have HRR : Hid (r = if kd = 6 then 3 else r0) := hr
                clear hca hr0 hr
                have HTT : Hid (o.t = ordT S1 K1.c K1.a m y ca r z) := by
                  have q := HKD.out
                  rw [← HK.out] at q
                  have q5 : kd = 2 ∨ kd = 3 ∨ kd = 4 ∨ kd = 5 ∨ kd = 6 := by omega
                  rw [Hid, HRR.out, HR0.out, HCA.out]
                  have hk := HK.out
                  rcases q5 with e | e | e | e | e
                  · rw [e]; exact HO2.out z (hk.symm.trans e) (by unfold wid4; omega) rfl
                  · rw [e]; exact HO3.out z (hk.symm.trans e) (by unfold wid4; omega) rfl
                  · rw [e]; exact HO4.out z (hk.symm.trans e) (by omega) rfl
                  · rw [e]; exact HO5.out z (hk.symm.trans e) (by omega) rfl
                  · obtain ⟨q1, q2, q3, q4⟩ := q.2.2 e
                    rw [e]; exact HO6.out z (hk.symm.trans e) q1 q2 q3 q4 rfl
                have hw1 : IntKind.u64.wrap (z : Int) = (z : Int) := u64_small (by omega) (by omega)
                have hz0 : ¬ (z : Int) = 0 := by omega
                have htm : (n64 y.ad).tmod (z : Int) = n64 y.ad % (z : Int) := Int.tmod_eq_emod_of_nonneg (n64_lo _)
                have HCC : Hid (∀ W, Ky W0 b L1 S1 W → Calls Tryz.prog 12 #[.agg (pc K1.c K1.a), .int .i64 m, .int .u64 (n64 y.ad), .int .i64 (z : Int), .int .i64 r] W fun e w' => e = .returned (.bool (ckA (PC K1.c) (PA K1.a) m y.ad z r)) ∧ Below W.heap.size W w') := fun W hk => HCK.out W hk z r
                have HTHH : Hid (∀ W, Ky W0 b L1 S1 W → Calls Tryz.prog 13 #[.pointer (some ⟨b, 0, none⟩), .agg (acc y)] W fun e w' => e = .returned (.bool (thA S1 y)) ∧ Below W.heap.size W w') := fun W hk => HTH.out (by omega) W hk
                have HEX : Hid (ordT S1 K1.c K1.a m y ca r z = if n64 y.ad % (z : Int) = 0 then (if ckA (PC K1.c) (PA K1.a) m y.ad z r = true ∧ thA S1 y = true then tN else tS (ca + 1) y.ad) else tS ca y.ad) := rfl
                clear HO2 HO3 HO4 HO5 HO6 HCK HTH HN1 HN48
                generalize ordT S1 K1.c K1.a m y ca r z = TT at HTT HEX
                generalize ckA (PC K1.c) (PA K1.a) m y.ad z r = q1 at HCC HEX
                generalize thA S1 y = q2 at HTHH HEX
                --@U1
                go_upto_region 17 with fail
                obtain ⟨T7, hT7⟩ : ∃ T7 : Bool, T7 = decide (¬ (kd = 2 ∨ kd = 4)) := ⟨_, rfl⟩
                have HT7 : Hid (T7 = decide (¬ (kd = 2 ∨ kd = 4))) := hT7
                clear hT7
                go_cut [120] from 113 to 119 (fun v wx => v = .bool T7 ∧ wx = W2)
                case first =>
                  by_cases k2 : kd = 2
                  · have e2 : (kd != 2) = false := by rw [k2]; rfl
                    have HX : Hid (T7 = false) := by unfold Hid; rw [HT7.out]; simp [k2]
                    clear k2
                    go_wp2
                    go_meet
                    exact ⟨by rw [HX.out], rfl⟩
                  · have e2 : (kd != 2) = true := by rw [bne_iff_ne]; exact k2
                    by_cases k4 : kd = 4
                    · have e4 : (kd != 4) = false := by rw [k4]; rfl
                      have HX : Hid (T7 = false) := by unfold Hid; rw [HT7.out]; simp [k4]
                      clear k2 k4
                      go_wp2
                      go_meet
                      exact ⟨by rw [HX.out], rfl⟩
                    · have e4 : (kd != 4) = true := by rw [bne_iff_ne]; exact k4
                      have HX : Hid (T7 = true) := by unfold Hid; rw [HT7.out]; simp [k2, k4]
                      clear k2 k4
                      go_wp2
                      go_meet
                      exact ⟨by rw [HX.out], rfl⟩
                case rest =>
                  obtain ⟨rfl, hwc⟩ := hcut
                  have hwc2 := hwc.symm
                  subst hwc2
                  go_upto_if 120 with fail
                  go_cut [9, 10] from 113 to 119 (fun v u wx => v = .int .i64 ca ∧ u = .int .i64 r0 ∧ wx = W2)
                  case first =>
                    cases T7 with
                    | true =>
                      have hn := of_decide_eq_true HT7.out.symm
                      have H1 : Hid (ca = 6) := by unfold Hid; rw [HCA.out, if_neg hn]
                      have H2 : Hid (r0 = 2) := by unfold Hid; rw [HR0.out, if_neg hn]
                      clear hn
                      go_wp2
                      go_meet
                      exact ⟨by rw [H1.out], by rw [H2.out], rfl⟩
                    | false =>
                      have hn : kd = 2 ∨ kd = 4 := by
                        have q := of_decide_eq_false HT7.out.symm
                        omega
                      have H1 : Hid (ca = 4) := by unfold Hid; rw [HCA.out, if_pos hn]
                      have H2 : Hid (r0 = 1) := by unfold Hid; rw [HR0.out, if_pos hn]
                      clear hn
                      go_wp2
                      go_meet
                      exact ⟨by rw [H1.out], by rw [H2.out], rfl⟩
                  case rest =>
                    obtain ⟨rfl, rfl, hwc⟩ := hcut
                    have hwc2 := hwc.symm
                    subst hwc2
                    go_upto_if 123 with fail
                    go_cut [10] from 121 to 123 (fun u wx => u = .int .i64 r ∧ wx = W2)
                    case first =>
                      by_cases k6 : kd = 6
                      · have e6 : (kd == 6) = true := by rw [k6]; rfl
                        have H1 : Hid (r = 3) := by unfold Hid; rw [HRR.out, if_pos k6]
                        clear k6
                        go_wp2
                        go_meet
                        exact ⟨by rw [H1.out], rfl⟩
                      · have e6 : (kd == 6) = false := by rw [beq_eq_false_iff_ne]; exact k6
                        have H1 : Hid (r = r0) := by unfold Hid; rw [HRR.out, if_neg k6]
                        clear k6
                        go_wp2
                        go_meet
                        exact ⟨by rw [H1.out], rfl⟩
                    case rest =>
                      obtain ⟨rfl, hwc⟩ := hcut
                      have hwc2 := hwc.symm
                      subst hwc2
                      --@U2
                      go_upto_region 23 with (first | (refine wpList_build_tab (by rfl) 48 _ (by rfl) (tpc tN) (by kernel_rfl) ?_) | (refine wpList_store_end (by rfl) 48 _ _ (by rfl) (by rfl) W2 (tpc tN) (tpc tN) (by rfl) (by rfl) (by rfl) (info_trap _) (tpc_sz _ _) (tpc_ones _) ?_))
                      refine on_P (motive := fun W => Code.wp _ _ _ _ W) (Q := fun W => (Ky W0 b L1 S1 W) ∧ (Ks W0 L1 W gc (cpc K1) 31) ∧ (Ks W0 L1 W gy (acc y) 45) ∧ (Ks W0 L1 W W2.heap.size (tpc tN) 48) ∧ (gc < W2.heap.size ∧ gy < W2.heap.size)) ⟨HKX.out.later (below_al _ _), HRC.out.later (below_al _ _), HRY.out.later (below_al _ _), Ks.new HKX.out _ _, ⟨HRC.out.r.lt, HRY.out.r.lt⟩⟩ ?_
                      clear HKX HRC HRY y0 y3
                      generalize W2.heap.size = gw
                      rintro W3 ⟨h0, h1, h2, h3, h4⟩
                      have HKX3 : Hid (Ky W0 b L1 S1 W3) := h0
                      have HRC3 : Hid (Ks W0 L1 W3 gc (cpc K1) 31) := h1
                      have HRY3 : Hid (Ks W0 L1 W3 gy (acc y) 45) := h2
                      have HRW : Hid (Ks W0 L1 W3 gw (tpc tN) 48) := h3
                      have HNC : Hid (gc < gw ∧ gy < gw) := h4
                      clear h0 h1 h2 h3 h4
                      have HKX := HKX3
                      have HRC := HRC3
                      have HRY := HRY3
                      clear HKX3 HRC3 HRY3
                      have y3 : W3.cell? ⟨gy, 3, none⟩ = some (.int .u64 (n64 y.ad)) := HRY.out.r.cell 3
                      go_upto_if 130 with fail
                      --@U3
                      go_cut [130] from 131 to 156 (fun _ wx => Ky W0 b L1 S1 wx ∧ Ks W0 L1 wx gc (cpc K1) 31 ∧ Ks W0 L1 wx gy (acc y) 45 ∧ Ks W0 L1 wx gw (tpc (TT)) 48)
                      case first =>
                        by_cases kc : kd = 2 ∨ kd = 4
                        · have hc : ca = 4 := by rw [HCA.out, if_pos kc]
                          clear HCA HR0 HRR HTT kc HK HKD HSOK HCN HDC
                          subst hc
                          by_cases hm : n64 y.ad % (z : Int) = 0
                          · have hm2 : (n64 y.ad % (z : Int) != 0) = false := by rw [hm]; rfl
                            rw [if_pos hm] at HEX
                            cases q1 with
                            | false =>
                              have HE : Hid (TT = tS 5 y.ad) := by unfold Hid; rw [HEX.out]; rfl
                              clear HEX HTHH hm
                              go_upto_if 150 with (first | (refine wpList_load_agg (by rfl) _ _ (by rfl) gc 47 (by rfl) (pc K1.c K1.a) _ HRC.out.r.pmp Tryz.underlying27 (by rfl) (info_pmp _ _) ?_) | (go_at_call 12; refine (HCC.out _ HKX.out).mono ?_; rintro e w4 ⟨rfl, hb4⟩; have HB4 : Hid (Below W3.heap.size W3 w4) := hb4; clear hb4; have y4 : w4.cell? ⟨gy, 3, none⟩ = some (.int .u64 (n64 y.ad)) := (HRY.out.later HB4.out).r.cell 3))
                              go_wp2_with (first | (refine wpList_build_tab (by rfl) 48 _ (by rfl) (tpc (tS 5 y.ad)) (by kernel_rfl) ?_) | (refine wpList_store_row (by rfl) _ _ _ (by rfl) (by rfl) gw (tpc tN) (tpc (tS 5 y.ad)) (by rfl) (by rfl) (HRW.out.later HB4.out).r (info_trap _) (tpc_sz _ _) (tpc_ones _) ?_))
                              go_meet
                              exact ⟨(HKX.out.later HB4.out).row (HRW.out.later HB4.out) _, (HRC.out.later HB4.out).far (by have := HNC.out; omega) _, (HRY.out.later HB4.out).far (by have := HNC.out; omega) _, by have q := (HRW.out.later HB4.out).put (tpc (tS 5 y.ad)); rw [HE.out]; exact q⟩
                            | true =>
                              clear hm
                              go_upto_if 150 with (first | (refine wpList_load_agg (by rfl) _ _ (by rfl) gc 47 (by rfl) (pc K1.c K1.a) _ HRC.out.r.pmp Tryz.underlying27 (by rfl) (info_pmp _ _) ?_) | (refine wpList_load_rowG (by rfl) _ _ (by rfl) _ (by rfl) 45 _ (0, 0) _ (HRY.out.later HB4.out).r Tryz.underlying45 (by rfl) (info_act _) ?_) | (go_at_call 12; refine (HCC.out _ HKX.out).mono ?_; rintro e w4 ⟨rfl, hb4⟩; have HB4 : Hid (Below W3.heap.size W3 w4) := hb4; clear hb4; have y4 : w4.cell? ⟨gy, 3, none⟩ = some (.int .u64 (n64 y.ad)) := (HRY.out.later HB4.out).r.cell 3) | (go_at_call 13; refine (HTHH.out _ (HKX.out.later HB4.out)).mono ?_; rintro e w5 ⟨rfl, hb5⟩; have HB5 : Hid (Below W3.heap.size W3 w5) := HB4.out.trans (hb5.mono HB4.out.size); clear hb5))
                              clear y4
                              have y4 : w5.cell? ⟨gy, 3, none⟩ = some (.int .u64 (n64 y.ad)) := (HRY.out.later HB5.out).r.cell 3
                              cases q2 with
                              | false =>
                                have HE : Hid (TT = tS 5 y.ad) := by unfold Hid; rw [HEX.out]; rfl
                                clear HEX HTHH HCC HB4
                                go_wp2_with (first | (refine wpList_build_tab (by rfl) 48 _ (by rfl) (tpc (tS 5 y.ad)) (by kernel_rfl) ?_) | (refine wpList_store_row (by rfl) _ _ _ (by rfl) (by rfl) gw (tpc tN) (tpc (tS 5 y.ad)) (by rfl) (by rfl) (HRW.out.later HB5.out).r (info_trap _) (tpc_sz _ _) (tpc_ones _) ?_))
                                go_meet
                                exact ⟨(HKX.out.later HB5.out).row (HRW.out.later HB5.out) _, (HRC.out.later HB5.out).far (by have := HNC.out; omega) _, (HRY.out.later HB5.out).far (by have := HNC.out; omega) _, by have q := (HRW.out.later HB5.out).put (tpc (tS 5 y.ad)); rw [HE.out]; exact q⟩
                              | true =>
                                have HE : Hid (TT = tN) := by unfold Hid; rw [HEX.out]; rfl
                                clear HEX HTHH HCC HB4
                                go_wp2
                                go_meet
                                exact ⟨HKX.out.later HB5.out, HRC.out.later HB5.out, HRY.out.later HB5.out, by rw [HE.out]; exact HRW.out.later HB5.out⟩
                          · have hm2 : (n64 y.ad % (z : Int) != 0) = true := by rw [bne_iff_ne]; exact hm
                            rw [if_neg hm] at HEX
                            have HE : Hid (TT = tS 4 y.ad) := by unfold Hid; rw [HEX.out]
                            clear HEX HTHH HCC hm
                            go_wp2_with (first | (refine wpList_build_tab (by rfl) 48 _ (by rfl) (tpc (tS 4 y.ad)) (by kernel_rfl) ?_) | (refine wpList_store_row (by rfl) _ _ _ (by rfl) (by rfl) gw (tpc tN) (tpc (tS 4 y.ad)) (by rfl) (by rfl) HRW.out.r (info_trap _) (tpc_sz _ _) (tpc_ones _) ?_))
                            go_meet
                            exact ⟨HKX.out.row HRW.out _, HRC.out.far (by have := HNC.out; omega) _, HRY.out.far (by have := HNC.out; omega) _, by have q := HRW.out.put (tpc (tS 4 y.ad)); rw [HE.out]; exact q⟩
                        · have hc : ca = 6 := by rw [HCA.out, if_neg kc]
                          clear HCA HR0 HRR HTT kc HK HKD HSOK HCN HDC
                          subst hc
                          by_cases hm : n64 y.ad % (z : Int) = 0
                          · have hm2 : (n64 y.ad % (z : Int) != 0) = false := by rw [hm]; rfl
                            rw [if_pos hm] at HEX
                            cases q1 with
                            | false =>
                              have HE : Hid (TT = tS 7 y.ad) := by unfold Hid; rw [HEX.out]; rfl
                              clear HEX HTHH hm
                              go_upto_if 150 with (first | (refine wpList_load_agg (by rfl) _ _ (by rfl) gc 47 (by rfl) (pc K1.c K1.a) _ HRC.out.r.pmp Tryz.underlying27 (by rfl) (info_pmp _ _) ?_) | (go_at_call 12; refine (HCC.out _ HKX.out).mono ?_; rintro e w4 ⟨rfl, hb4⟩; have HB4 : Hid (Below W3.heap.size W3 w4) := hb4; clear hb4; have y4 : w4.cell? ⟨gy, 3, none⟩ = some (.int .u64 (n64 y.ad)) := (HRY.out.later HB4.out).r.cell 3))
                              go_wp2_with (first | (refine wpList_build_tab (by rfl) 48 _ (by rfl) (tpc (tS 7 y.ad)) (by kernel_rfl) ?_) | (refine wpList_store_row (by rfl) _ _ _ (by rfl) (by rfl) gw (tpc tN) (tpc (tS 7 y.ad)) (by rfl) (by rfl) (HRW.out.later HB4.out).r (info_trap _) (tpc_sz _ _) (tpc_ones _) ?_))
                              go_meet
                              exact ⟨(HKX.out.later HB4.out).row (HRW.out.later HB4.out) _, (HRC.out.later HB4.out).far (by have := HNC.out; omega) _, (HRY.out.later HB4.out).far (by have := HNC.out; omega) _, by have q := (HRW.out.later HB4.out).put (tpc (tS 7 y.ad)); rw [HE.out]; exact q⟩
                            | true =>
                              clear hm
                              go_upto_if 150 with (first | (refine wpList_load_agg (by rfl) _ _ (by rfl) gc 47 (by rfl) (pc K1.c K1.a) _ HRC.out.r.pmp Tryz.underlying27 (by rfl) (info_pmp _ _) ?_) | (refine wpList_load_rowG (by rfl) _ _ (by rfl) _ (by rfl) 45 _ (0, 0) _ (HRY.out.later HB4.out).r Tryz.underlying45 (by rfl) (info_act _) ?_) | (go_at_call 12; refine (HCC.out _ HKX.out).mono ?_; rintro e w4 ⟨rfl, hb4⟩; have HB4 : Hid (Below W3.heap.size W3 w4) := hb4; clear hb4; have y4 : w4.cell? ⟨gy, 3, none⟩ = some (.int .u64 (n64 y.ad)) := (HRY.out.later HB4.out).r.cell 3) | (go_at_call 13; refine (HTHH.out _ (HKX.out.later HB4.out)).mono ?_; rintro e w5 ⟨rfl, hb5⟩; have HB5 : Hid (Below W3.heap.size W3 w5) := HB4.out.trans (hb5.mono HB4.out.size); clear hb5))
                              clear y4
                              have y4 : w5.cell? ⟨gy, 3, none⟩ = some (.int .u64 (n64 y.ad)) := (HRY.out.later HB5.out).r.cell 3
                              cases q2 with
                              | false =>
                                have HE : Hid (TT = tS 7 y.ad) := by unfold Hid; rw [HEX.out]; rfl
                                clear HEX HTHH HCC HB4
                                go_wp2_with (first | (refine wpList_build_tab (by rfl) 48 _ (by rfl) (tpc (tS 7 y.ad)) (by kernel_rfl) ?_) | (refine wpList_store_row (by rfl) _ _ _ (by rfl) (by rfl) gw (tpc tN) (tpc (tS 7 y.ad)) (by rfl) (by rfl) (HRW.out.later HB5.out).r (info_trap _) (tpc_sz _ _) (tpc_ones _) ?_))
                                go_meet
                                exact ⟨(HKX.out.later HB5.out).row (HRW.out.later HB5.out) _, (HRC.out.later HB5.out).far (by have := HNC.out; omega) _, (HRY.out.later HB5.out).far (by have := HNC.out; omega) _, by have q := (HRW.out.later HB5.out).put (tpc (tS 7 y.ad)); rw [HE.out]; exact q⟩
                              | true =>
                                have HE : Hid (TT = tN) := by unfold Hid; rw [HEX.out]; rfl
                                clear HEX HTHH HCC HB4
                                go_wp2
                                go_meet
                                exact ⟨HKX.out.later HB5.out, HRC.out.later HB5.out, HRY.out.later HB5.out, by rw [HE.out]; exact HRW.out.later HB5.out⟩
                          · have hm2 : (n64 y.ad % (z : Int) != 0) = true := by rw [bne_iff_ne]; exact hm
                            rw [if_neg hm] at HEX
                            have HE : Hid (TT = tS 6 y.ad) := by unfold Hid; rw [HEX.out]
                            clear HEX HTHH HCC hm
                            go_wp2_with (first | (refine wpList_build_tab (by rfl) 48 _ (by rfl) (tpc (tS 6 y.ad)) (by kernel_rfl) ?_) | (refine wpList_store_row (by rfl) _ _ _ (by rfl) (by rfl) gw (tpc tN) (tpc (tS 6 y.ad)) (by rfl) (by rfl) HRW.out.r (info_trap _) (tpc_sz _ _) (tpc_ones _) ?_))
                            go_meet
                            exact ⟨HKX.out.row HRW.out _, HRC.out.far (by have := HNC.out; omega) _, HRY.out.far (by have := HNC.out; omega) _, by have q := HRW.out.put (tpc (tS 6 y.ad)); rw [HE.out]; exact q⟩
                      case rest =>
                        obtain ⟨hk6, hc6, hy6, hw6⟩ := hcut
                        have HOT : Hid (o.t = TT) := HTT.out
                        have HKX9 : Hid (Ky W0 b L1 S1 wc) := hk6
                        have HRC9 : Hid (Ks W0 L1 wc gc (cpc K1) 31) := hc6
                        have HRY9 : Hid (Ks W0 L1 wc gy (acc y) 45) := hy6
                        have HRW9 : Hid (Ks W0 L1 wc gw (tpc TT) 48) := hw6
                        clear hk6 hc6 hy6 hw6 HKX HRC HRY HRW hw1 hz0 htm y3 HEX HCC HTHH HTT HCA HR0 HRR HK HKD
                        have HKX := HKX9
                        have HRC := HRC9
                        have HRY := HRY9
                        have HRW := HRW9
                        clear HKX9 HRC9 HRY9 HRW9
                        --@U4
                        go_upto_region 28 with (first | (refine wpList_load_row (by rfl) _ _ (by rfl) _ (by rfl) 31 _ (0, 0) _ HRC.out.r Tryz.underlying31 (by rfl) (info_cpu _) ?_) | (refine wpList_load_row (by rfl) _ _ (by rfl) _ (by rfl) 45 _ (0, 0) _ HRY.out.r Tryz.underlying45 (by rfl) (info_act _) ?_) | (go_at_call 14; refine (HDC.out _ HKX.out).mono ?_; rintro e w7 ⟨rfl, L2, hp7⟩; have HP7 : Hid (PSt W0.heap.size L1 wc L2 S2 w7) := hp7; clear hp7) | (refine wpList_store_end (by rfl) 52 _ _ (by rfl) (by rfl) w7 (otc (oz cz)) (otc o) (by rfl) (by rfl) (by rfl) (info_out _) (otc_sz _ _) (otc_ones _) ?_))
                        --@T1
                        refine on_P (motive := fun W => Code.wp _ _ _ _ W) (Q := fun W => (Ky W0 b L2 S2 W) ∧ (Ks W0 L2 W gc (cpc K1) 31) ∧ (Ks W0 L2 W gw (tpc (TT)) 48) ∧ (Ks W0 L2 W w7.heap.size (otc o) 52) ∧ (gc < w7.heap.size)) ⟨(HKX.out.step HP7.out).later (below_al _ _), (HRC.out.step HP7.out).later (below_al _ _), (HRW.out.step HP7.out).later (below_al _ _), Ks.new (HKX.out.step HP7.out) _ _, (HRC.out.step HP7.out).r.lt⟩ ?_
                        clear HKX HRC HRY HRW HP7 HDC
                        generalize w7.heap.size = go
                        rintro W8 ⟨h0, h1, h2, h3, h4⟩
                        have HKX8 : Hid (Ky W0 b L2 S2 W8) := h0
                        have HRC8 : Hid (Ks W0 L2 W8 gc (cpc K1) 31) := h1
                        have HRW8 : Hid (Ks W0 L2 W8 gw (tpc (TT)) 48) := h2
                        have HRO : Hid (Ks W0 L2 W8 go (otc o) 52) := h3
                        have HNG : Hid (gc < go) := h4
                        clear h0 h1 h2 h3 h4
                        have HRC := HRC8
                        clear HRC8
                        --@T2
                        have HTO : Hid (∀ j v, (tpc (TT))[j]? = some v → W8.cell? ⟨go, 4 + j, none⟩ = some v) := fun j v hv => otc_trap HRO.out.r j v (by rw [HOT.out]; exact hv)
                        have heq : ∀ W, (Op.equalIn 10000 48 (.agg (tpc (TT))) (.agg (tpc (TT)))).run Tryz.prog W = .ok true W := fun W => eq_trap W (TT)
                        have heg := eqG_trap
                        go_upto_region 30 with (first | (refine wpList_load_agg (by rfl) _ _ (by rfl) go 4 (by rfl) (tpc (TT)) _ HTO.out Tryz.underlying48 (by rfl) (info_trap _) ?_) | (refine wpList_load_row (by rfl) _ _ (by rfl) _ (by rfl) 48 _ (0, 0) _ HRW8.out.r Tryz.underlying48 (by rfl) (info_trap _) ?_))
                        --@T3
                        clear heq heg HTO
                        go_upto_region 10 with (first | (refine wpList_load_agg (by rfl) _ _ (by rfl) go 86 (by rfl) (rsc o.K.rv o.K.ra o.K.rs) _ (otc_res HRO.out.r) Tryz.underlying29 (by rfl) (info_res _ _ _) ?_) | (refine wpList_store_part (by rfl) _ _ _ (by rfl) (by rfl) gc 79 _ (by rfl) (by rfl) (HRC.out.r.there (by rw [cpc_size]; show 79 + 3 ≤ 82; omega)) (info_res _ _ _) (rsc_ones _ _ _) ?_))
                        --@T4
                        refine on_P (motive := fun W => Code.wp _ _ _ _ W) (Q := fun W => Osv W0 b gc K0 W) ⟨_, L2, S2, HKX8.out.lay HRC.out 79 _, HSOK.out, ⟨by have q := HRC.out.r.lay (rsc o.K.rv o.K.ra o.K.rs).toList 79; rw [show (rsc o.K.rv o.K.ra o.K.rs).toList = [.bool o.K.rv, .int .u64 (n64 o.K.ra), .int .i64 o.K.rs] from rfl, cpc_res] at q; exact q, HRC.out.n, HRC.out.ge⟩, HCN.out⟩ ?_
                        clear HKX8 HRC HRW8 HRO HSOK HCN HNG
                        intro W9 hW9
                        have HU9 : Hid (Osv W0 b gc K0 W9) := hW9
                        clear hW9
                        go_wp2
                        go_roundw
                        · exact ⟨j + 1, by omega, by go_num, HU9⟩
                        · simp only [intOf]; omega
          · have h60I : ¬ ((j : Int) < 60) := by omega
            go_wp2
            go_ret
            exact ⟨rfl, b0.out.trans (hk.be.mono b0.out.size)⟩
        · obtain rfl : j = O.length := by omega
          have hltI : ¬ ((O.length : Int) < (O.length : Int)) := by omega
          go_wp2
          go_ret
          exact ⟨rfl, b0.out.trans (hk.be.mono b0.out.size)⟩
end Go.Proofs.YtlhgphokfpnfeaaGreatDoor
