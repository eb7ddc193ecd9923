import Derived.Test.YtlhgphokfpnfeaaGreatDoorK20
namespace Go.Proofs.YtlhgphokfpnfeaaGreatDoor
set_option linter.unusedVariables false
open Go.ChangeShapes Go.WideShapes Go.ChangeAt Go.RowKit Go.Deep
/-- A fetch: the raw instruction, its length, its trap, the bus. -/
structure Ft where
  raw : Int
  n : Int
  t : Tp
  S : St
def FT2 (m1 m2 : Mv) : Ft := if m1.t.is = true then ⟨0, 0, m1.t, m1.S⟩ else if n64 m1.old % 4 = 3 then (if m2.t.is = true then ⟨0, 0, m2.t, m2.S⟩ else ⟨n64 m2.old * 65536 + n64 m1.old, 4, tN, m2.S⟩) else ⟨n64 m1.old, 2, tN, m1.S⟩
def FT (S : St) (K : Cp) (b : Nat) : Ft := FT2 (MV S (wF b K K.pc) 2 none) (MV (MV S (wF b K K.pc) 2 none).S (wF b K (K.pc + 2#64)) 2 none)
set_option maxRecDepth 100000 in
set_option maxHeartbeats 4000000 in
theorem aFetch_c {B : Nat} {L : Lay} {S : St} (w : World) (h : PB B L S w) (hs : Sok S) (hT : Tb w) (hB : 0 < B) (k : Cp) :
    Calls Tryz.prog 26 #[.agg (cpc k), .pointer (some ⟨L.b, 0, none⟩)] w fun e w' => e = .returned (.tuple #[.int .u32 (FT S (PR k) L.b).raw, .int .i64 (FT S (PR k) L.b).n, .agg (tpc (FT S (PR k) L.b).t)]) ∧ ∃ L', PSt B L w L' (FT S (PR k) L.b).S w' := by
  obtain ⟨W0, hW0, r0, r1, b0, s0⟩ := start2 w (cpc k) (tpc tN) 31 48
  have hzt := zero_trap
  have HP0 : Hid (PSt B L w L S W0) := (PSt.refl h).post b0.out
  have hlo : ∀ g, w.heap.size ≤ g → ¬ L.own g := fun g hg e => by have := h.own_hi _ e; omega
  have HO0 : Hid (Own w L W0 w.heap.size (cpc k) 31) := ⟨r0.out, hlo _ (by omega), by omega⟩
  have HO1 : Hid (Own w L W0 (w.heap.size + 1) (tpc tN) 48) := ⟨r1.out, hlo _ (by omega), by omega⟩
  have HPR : Hid (∀ W, Calls Tryz.prog 45 #[.agg (cpc k)] W fun e w' => e = .returned (.agg (cpc (PR k))) ∧ Below W.heap.size W w') := fun W => Pr_c k W
  have HPA : Hid (∀ W, Below w.heap.size w W → Calls Tryz.prog 51 #[.agg (cpc (PR k)), .pointer (some ⟨L.b, 0, none⟩), .int .u64 (n64 (PR k).pc)] W fun e w' => e = .returned (.tuple #[.int .u32 (n64 (MV S (wF L.b (PR k) (PR k).pc) 2 none).old), .agg (tpc (MV S (wF L.b (PR k) (PR k).pc) 2 none).t)]) ∧ ∃ L', PSt B L W L' (MV S (wF L.b (PR k) (PR k).pc) 2 none).S w') := fun W hb => parcel_c W (h.later hb) hs (hT.next hb) hB (PR k) (PR k).pc
  have HPB : Hid (∀ L1 W, PSt B L w L1 (MV S (wF L.b (PR k) (PR k).pc) 2 none).S W → Calls Tryz.prog 51 #[.agg (cpc (PR k)), .pointer (some ⟨L.b, 0, none⟩), .int .u64 (n64 ((PR k).pc + 2#64))] W fun e w' => e = .returned (.tuple #[.int .u32 (n64 (MV (MV S (wF L.b (PR k) (PR k).pc) 2 none).S (wF L.b (PR k) ((PR k).pc + 2#64)) 2 none).old), .agg (tpc (MV (MV S (wF L.b (PR k) (PR k).pc) 2 none).S (wF L.b (PR k) ((PR k).pc + 2#64)) 2 none).t)]) ∧ ∃ L', PSt B L1 W L' (MV (MV S (wF L.b (PR k) (PR k).pc) 2 none).S (wF L.b (PR k) ((PR k).pc + 2#64)) 2 none).S w') := fun L1 W hp => by
    have q := parcel_c W hp.p (MV_ok hs) (hp.tb hT hB h) hB (PR k) ((PR k).pc + 2#64)
    rw [hp.b.1] at q
    exact q
  have hl1 : n64 (MV S (wF L.b (PR k) (PR k).pc) 2 none).old < 65536 := MV_lt hs (by simp [wid4])
  have hl2 : n64 (MV (MV S (wF L.b (PR k) (PR k).pc) 2 none).S (wF L.b (PR k) ((PR k).pc + 2#64)) 2 none).old < 65536 := MV_lt (MV_ok hs) (by simp [wid4])
  have HFT : Hid (FT S (PR k) L.b = FT2 (MV S (wF L.b (PR k) (PR k).pc) 2 none) (MV (MV S (wF L.b (PR k) (PR k).pc) 2 none).S (wF L.b (PR k) ((PR k).pc + 2#64)) 2 none)) := rfl
  obtain ⟨ft, hft⟩ : ∃ ft, ft = FT S (PR k) L.b := ⟨_, rfl⟩
  rw [← hft] at HFT ⊢
  clear hft
  generalize (MV (MV S (wF L.b (PR k) (PR k).pc) 2 none).S (wF L.b (PR k) ((PR k).pc + 2#64)) 2 none) = m2 at HPB hl2 HFT
  generalize (MV S (wF L.b (PR k) (PR k).pc) 2 none) = m1 at HPA HPB hl1 HFT
  generalize PR k = K at HPR HPA HPB
  have HB0 : Hid (Below w.heap.size w W0) := b0
  have HN1 : Hid (0 ≤ n64 m1.old ∧ n64 m1.old < 65536) := ⟨n64_lo _, hl1⟩
  have HN2 : Hid (0 ≤ n64 m2.old ∧ n64 m2.old < 65536) := ⟨n64_lo _, hl2⟩
  have hpc : IntKind.u64.wrap (n64 K.pc + 2) = n64 (K.pc + 2#64) := n64_add K.pc 2#64
  clear h hs hT s0 r0 r1 b0 hl1 hl2
  go_enter Tryz.func26, Tryz.ntmps26
  go_upto_region 1 with fail
  clear hW0
  go_upto_region 2 with (first | (refine wpList_load_row (by rfl) _ _ (by rfl) _ (by rfl) 31 _ (0, 0) _ HO0.out.r Tryz.underlying31 (by rfl) (info_cpu _) ?_) | (go_at_call 45; refine (HPR.out _).mono ?_; rintro e w1 ⟨rfl, hb1⟩; have HB1 : Hid (Below W0.heap.size W0 w1) := hb1; clear hb1) | (refine wpList_store_row (by rfl) _ _ _ (by rfl) (by rfl) _ _ _ (by rfl) (by rfl) (HO0.out.post HB1.out).r (info_cpu _) (by rw [cpc_size, cpc_size]) (cpc_ones _) ?_))
  refine on_P (motive := fun W => Code.wp _ _ _ _ W) (Q := fun W => Own w L W w.heap.size (cpc K) 31 ∧ Own w L W (w.heap.size + 1) (tpc tN) 48 ∧ PSt B L w L S W ∧ Below w.heap.size w W)
    ⟨⟨setRow_heap _ _ _ _ _ _ (HO0.out.post HB1.out).r, HO0.out.n, HO0.out.ge⟩, ⟨(setRow_other _ _ _ _ (by omega)).trans (HO1.out.post HB1.out).r, HO1.out.n, HO1.out.ge⟩, (HP0.out.post HB1.out).row HO0.out.n HO0.out.ge _, below_row (HB0.out.trans (HB1.out.mono HB0.out.size)) (Nat.le_refl _) _⟩ ?_
  clear HO0 HO1 HP0 HB0 HB1 HPR
  rintro W2 ⟨o0, o1, p2, b2⟩
  have HO0 : Hid (Own w L W2 w.heap.size (cpc K) 31) := o0
  have HO1 : Hid (Own w L W2 (w.heap.size + 1) (tpc tN) 48) := o1
  have HP2 : Hid (PSt B L w L S W2) := p2
  have HC : Hid (Calls Tryz.prog 51 #[.agg (cpc K), .pointer (some ⟨L.b, 0, none⟩), .int .u64 (n64 K.pc)] W2 fun e w' => e = .returned (.tuple #[.int .u32 (n64 m1.old), .agg (tpc m1.t)]) ∧ ∃ L', PSt B L W2 L' m1.S w') := HPA.out W2 b2
  have cpx := o0.r.cls.pc
  clear o0 o1 p2 b2 HPA
  go_upto_region 3 with (first | (refine wpList_load_row (by rfl) _ _ (by rfl) _ (by rfl) 31 _ (0, 0) _ HO0.out.r Tryz.underlying31 (by rfl) (info_cpu _) ?_) | (go_at_call 51; refine HC.out.mono ?_; rintro e w3 ⟨rfl, L1, hp3⟩; have HP3 : Hid (PSt B L W2 L1 m1.S w3) := hp3; clear hp3) | (refine wpList_store_new (by rfl) 48 _ _ (by rfl) (by rfl) (tpc tN) (tpc m1.t) (by rfl) (by rfl) (info_trap _) (tpc_sz _ _) (tpc_ones _) ?_))
  refine on_P (motive := fun W => Code.wp _ _ _ _ W) (Q := fun W => Own w L1 W w.heap.size (cpc K) 31 ∧ Own w L1 W (w.heap.size + 1) (tpc tN) 48 ∧ Own w L1 W w3.heap.size (tpc m1.t) 48 ∧ PSt B L w L1 m1.S W) ⟨(HO0.out.bus HP3.out).post (below_al _ _), (HO1.out.bus HP3.out).post (below_al _ _), Own.new (HP2.out.trans HP3.out) _ _, (HP2.out.trans HP3.out).al _⟩ ?_
  have HGT : Hid (w.heap.size + 1 < w3.heap.size) := by have := HP3.out.x.size; have := HO1.out.r.lt; unfold Hid; omega
  clear HO0 HO1 HP2 HP3 HC cpx
  generalize w3.heap.size = gt at HGT ⊢
  rintro W4 ⟨o0, o1, o2, p4⟩
  have HO0 : Hid (Own w L1 W4 w.heap.size (cpc K) 31) := o0
  have HO1 : Hid (Own w L1 W4 (w.heap.size + 1) (tpc tN) 48) := o1
  have HO2 : Hid (Own w L1 W4 gt (tpc m1.t) 48) := o2
  have HP4 : Hid (PSt B L w L1 m1.S W4) := p4
  have ct : W4.cell? ⟨gt, 0, none⟩ = some (.bool m1.t.is) := o2.r.cell 0
  have cpx := o0.r.cls.pc
  clear o0 o1 o2 p4
  obtain ⟨q, hq⟩ : ∃ q, q = m1.t.is := ⟨_, rfl⟩
  rw [← hq] at ct
  have HQ : Hid (m1.t.is = q) := hq.symm
  clear hq
  cases q with
  | true =>
    have HF : Hid (ft = ⟨0, 0, m1.t, m1.S⟩) := by unfold Hid; rw [HFT.out, FT2, if_pos HQ.out]
    clear HFT HPB HN1 HN2 hpc cpx
    go_upto_region 4 with fail
    have hlt : Hid (gt < W4.heap.size) := HO2.out.r.lt
    have HL2 : Hid (∀ j v, (tpc m1.t)[j]? = some v → W4.cell? ⟨gt, 0 + j, none⟩ = some v) := HO2.out.r.agg
    have := later_nonempty W4
    refine wp_region_later_tail (x0 := Later.start W4) 3 (by kernel_rfl) (by kernel_rfl) ?_
    simp only [List.take_succ_cons, List.take_zero, List.drop_succ_cons, List.drop_zero]
    repeat (first | (refine BigFrame.wpQuiet_want (by rfl) fun K hK => ?_; refine quiet_load_agg 48 _ (by rfl) (gt) 0 (by rfl) (tpc m1.t) _ hlt.out HL2.out Tryz.underlying48 (by rfl) (info_trap _) (hK _ ?_); clear hK K; simp only [Act.put, List.setIfInBounds_toArray, List.set_cons_succ, List.set_cons_zero]) | (go_big_quiet_step (fail)))
    refine wpQuiet_nil ?_
    rintro w' ⟨x9, rfl⟩
    have HO9 : Hid (Own w L1 x9.1 (w.heap.size + 1) (tpc tN) 48) := HO1.out.post x9.below
    go_wp2_with (refine wpList_store_row (by rfl) _ _ _ (by rfl) (by rfl) _ _ _ (by rfl) (by rfl) HO9.out.r (info_trap _) (tpc_sz _ _) (tpc_ones _) ?_)
    refine bodyPost_ret (v := .tuple #[.int .u32 0, .int .i64 0, .agg (tpc m1.t)]) (results_ssc Tryz.results26 _ _ (w.heap.size + 1) 48 _ (0, 0) _ _ _ (by rfl) (by rfl) (by rfl) (setRow_heap _ _ _ _ _ _ HO9.out.r) Tryz.underlying48 (by rfl) (info_trap _)) rfl ⟨by rw [HF.out], L1, by rw [HF.out]; exact (HP4.out.post x9.below).row HO9.out.n HO9.out.ge _⟩
  | false =>
    have hand := and3_32 HN1.out.1 HN1.out.2
    by_cases h3 : n64 m1.old % 4 = 3
    · have hne : (n64 m1.old % 4 != 3) = false := by rw [h3]; rfl
      have HC : Hid (Calls Tryz.prog 51 #[.agg (cpc K), .pointer (some ⟨L.b, 0, none⟩), .int .u64 (n64 (K.pc + 2#64))] W4 fun e w' => e = .returned (.tuple #[.int .u32 (n64 m2.old), .agg (tpc m2.t)]) ∧ ∃ L', PSt B L1 W4 L' m2.S w') := HPB.out L1 W4 HP4.out
      have HF0 : Hid (ft = (if m2.t.is = true then ⟨0, 0, m2.t, m2.S⟩ else ⟨n64 m2.old * 65536 + n64 m1.old, 4, tN, m2.S⟩)) := by unfold Hid; rw [HFT.out, FT2, HQ.out, if_neg (by decide), if_pos h3]
      have hor := or_32 HN2.out.1 HN2.out.2 HN1.out.1 HN1.out.2
      have hsh : IntKind.u32.wrap (n64 m2.old * 65536) = n64 m2.old * 65536 := by
        show _ % 4294967296 = _
        have := HN2.out
        omega
      generalize n64 (K.pc + 2#64) = pc2 at hpc HC
      generalize n64 m1.old = lo at *
      generalize n64 m2.old = hi at *
      clear HFT HPB HN1 HN2 h3
      go_upto_region 8 with (first | (refine wpList_load_row (by rfl) _ _ (by rfl) _ (by rfl) 31 _ (0, 0) _ HO0.out.r Tryz.underlying31 (by rfl) (info_cpu _) ?_) | (go_at_call 51; refine HC.out.mono ?_; rintro e w5 ⟨rfl, L2, hp5⟩; have HP5 : Hid (PSt B L1 W4 L2 m2.S w5) := hp5; clear hp5) | (refine wpList_store_row (by rfl) _ _ _ (by rfl) (by rfl) _ _ _ (by rfl) (by rfl) (HO2.out.bus HP5.out).r (info_trap _) (tpc_sz _ _) (tpc_ones _) ?_))
      refine on_P (motive := fun W => Code.wp _ _ _ _ W) (Q := fun W => Own w L2 W (w.heap.size + 1) (tpc tN) 48 ∧ Own w L2 W gt (tpc m2.t) 48 ∧ PSt B L w L2 m2.S W) ⟨⟨(setRow_other _ _ _ _ (by have := HGT.out; omega)).trans (HO1.out.bus HP5.out).r, (HO1.out.bus HP5.out).n, HO1.out.ge⟩, ⟨setRow_heap _ _ _ _ _ _ (HO2.out.bus HP5.out).r, (HO2.out.bus HP5.out).n, HO2.out.ge⟩, (HP4.out.trans HP5.out).row (HO2.out.bus HP5.out).n HO2.out.ge _⟩ ?_
      clear HO0 HO1 HO2 HP4 HP5 HC cpx ct hpc hand hne
      rintro W6 ⟨o1, o2, p4⟩
      have HO1 : Hid (Own w L2 W6 (w.heap.size + 1) (tpc tN) 48) := o1
      have HO2 : Hid (Own w L2 W6 gt (tpc m2.t) 48) := o2
      have HP4 : Hid (PSt B L w L2 m2.S W6) := p4
      have ct : W6.cell? ⟨gt, 0, none⟩ = some (.bool m2.t.is) := o2.r.cell 0
      clear o1 o2 p4
      obtain ⟨q, hq⟩ : ∃ q, q = m2.t.is := ⟨_, rfl⟩
      rw [← hq] at ct HF0
      clear hq
      cases q with
      | true =>
        have HF : Hid (ft = ⟨0, 0, m2.t, m2.S⟩) := by unfold Hid; rw [HF0.out, if_pos rfl]
        clear HF0 hor hsh
        go_upto_region 9 with fail
        have hlt : Hid (gt < W6.heap.size) := HO2.out.r.lt
        have HL2 : Hid (∀ j v, (tpc m2.t)[j]? = some v → W6.cell? ⟨gt, 0 + j, none⟩ = some v) := HO2.out.r.agg
        have := later_nonempty W6
        refine wp_region_later_tail (x0 := Later.start W6) 3 (by kernel_rfl) (by kernel_rfl) ?_
        simp only [List.take_succ_cons, List.take_zero, List.drop_succ_cons, List.drop_zero]
        repeat (first | (refine BigFrame.wpQuiet_want (by rfl) fun K hK => ?_; refine quiet_load_agg 48 _ (by rfl) (gt) 0 (by rfl) (tpc m2.t) _ hlt.out HL2.out Tryz.underlying48 (by rfl) (info_trap _) (hK _ ?_); clear hK K; simp only [Act.put, List.setIfInBounds_toArray, List.set_cons_succ, List.set_cons_zero]) | (go_big_quiet_step (fail)))
        refine wpQuiet_nil ?_
        rintro w' ⟨x9, rfl⟩
        have HO9 : Hid (Own w L2 x9.1 (w.heap.size + 1) (tpc tN) 48) := HO1.out.post x9.below
        go_wp2_with (refine wpList_store_row (by rfl) _ _ _ (by rfl) (by rfl) _ _ _ (by rfl) (by rfl) HO9.out.r (info_trap _) (tpc_sz _ _) (tpc_ones _) ?_)
        refine bodyPost_ret (v := .tuple #[.int .u32 0, .int .i64 0, .agg (tpc m2.t)]) (results_ssc Tryz.results26 _ _ (w.heap.size + 1) 48 _ (0, 0) _ _ _ (by rfl) (by rfl) (by rfl) (setRow_heap _ _ _ _ _ _ HO9.out.r) Tryz.underlying48 (by rfl) (info_trap _)) rfl ⟨by rw [HF.out], L2, by rw [HF.out]; exact (HP4.out.post x9.below).row HO9.out.n HO9.out.ge _⟩
      | false =>
        have HF : Hid (ft = ⟨hi * 65536 + lo, 4, tN, m2.S⟩) := by unfold Hid; rw [HF0.out, if_neg (by decide)]
        clear HF0
        go_wp2_with (first | (refine wpList_build_tab (by rfl) 48 _ (by rfl) (tpc tN) (by kernel_rfl) ?_) | (refine wpList_store_row (by rfl) _ _ _ (by rfl) (by rfl) _ _ _ (by rfl) (by rfl) HO1.out.r (info_trap _) (tpc_sz _ _) (tpc_ones _) ?_))
        refine bodyPost_ret (v := .tuple #[.int .u32 (hi * 65536 + lo), .int .i64 4, .agg (tpc tN)]) (results_ssc Tryz.results26 _ _ (w.heap.size + 1) 48 _ (0, 0) _ _ _ (by rfl) (by rfl) (by rfl) (setRow_heap _ _ _ _ _ _ HO1.out.r) Tryz.underlying48 (by rfl) (info_trap _)) rfl ⟨by rw [HF.out], L2, by rw [HF.out]; exact HP4.out.row HO1.out.n HO1.out.ge _⟩
    · have hne : (n64 m1.old % 4 != 3) = true := by simpa using h3
      have HF : Hid (ft = ⟨n64 m1.old, 2, tN, m1.S⟩) := by unfold Hid; rw [HFT.out, FT2, HQ.out, if_neg (by decide), if_neg h3]
      clear HFT HPB HN1 HN2 hpc cpx
      generalize n64 m1.old = lo at *
      go_wp2_with (first | (refine wpList_build_tab (by rfl) 48 _ (by rfl) (tpc tN) (by kernel_rfl) ?_) | (refine wpList_store_row (by rfl) _ _ _ (by rfl) (by rfl) _ _ _ (by rfl) (by rfl) HO1.out.r (info_trap _) (tpc_sz _ _) (tpc_ones _) ?_))
      refine bodyPost_ret (v := .tuple #[.int .u32 lo, .int .i64 2, .agg (tpc tN)]) (results_ssc Tryz.results26 _ _ (w.heap.size + 1) 48 _ (0, 0) _ _ _ (by rfl) (by rfl) (by rfl) (setRow_heap _ _ _ _ _ _ HO1.out.r) Tryz.underlying48 (by rfl) (info_trap _)) rfl ⟨by rw [HF.out], L1, by rw [HF.out]; exact HP4.out.row HO1.out.n HO1.out.ge _⟩
end Go.Proofs.YtlhgphokfpnfeaaGreatDoor
