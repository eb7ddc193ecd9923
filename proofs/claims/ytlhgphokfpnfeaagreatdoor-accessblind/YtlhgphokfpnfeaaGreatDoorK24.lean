import Derived.Test.YtlhgphokfpnfeaaGreatDoorK23
namespace Go.Proofs.YtlhgphokfpnfeaaGreatDoor
set_option linter.unusedVariables false
open Go.ChangeShapes Go.WideShapes Go.ChangeAt Go.RowKit Go.Deep
set_option maxRecDepth 100000 in
set_option maxHeartbeats 8000000 in
theorem does_A {B : Nat} {L : Lay} {S : St} (w : World) (h : PB B L S w) (hs : Sok S) (hT : Tb w) (hB : 0 < B) (k : Cp) (a : Acd) (h4 : ¬ a.kd = 4) (h5 : ¬ a.kd = 5) (h6 : ¬ a.kd = 6) :
    Calls Tryz.prog 14 #[.agg (cpc k), .pointer (some ⟨L.b, 0, none⟩), .agg (acc a)] w fun e w' => e = .returned (.agg (otc (DO S k a).1)) ∧ ∃ L', PSt B L w L' (DO S k a).2 w' := by
  obtain ⟨W0, hW0, r0, r1, r2, b0, s0⟩ := start3 w (cpc k) (acc a) (otc (oz cz)) 31 45 52
  have hzo := zero_out
  have hzt := zero_trap
  have HP0 : Hid (PSt B L w L S W0) := (PSt.refl h).post b0
  have hlo : ∀ g, w.heap.size ≤ g → ¬ L.own g := fun g hg e => by have := h.own_hi _ e; omega
  have HO0 : Hid (Own w L W0 (w.heap.size) (cpc k) 31) := ⟨r0, hlo _ (by omega), by omega⟩
  have HO1 : Hid (Own w L W0 (w.heap.size + 1) (acc a) 45) := ⟨r1, hlo _ (by omega), by omega⟩
  have HO2 : Hid (Own w L W0 (w.heap.size + 2) (otc (oz cz)) 52) := ⟨r2, hlo _ (by omega), by omega⟩
  have HS0 : Hid (W0.heap.size = w.heap.size + 3) := s0
  clear r0 r1 r2 b0 s0
  go_enter Tryz.func14, Tryz.ntmps14
  go_upto_region 1 with fail
  clear hW0
  go_upto_region 2 with (first | (refine wpList_load_row (by rfl) _ _ (by rfl) _ (by rfl) 31 _ (0, 0) _ HO0.out.r Tryz.underlying31 (by rfl) (info_cpu _) ?_) | (refine wpList_build_tab (by rfl) 52 _ (by rfl) (otc (oz k)) (by kernel_rfl) ?_) | (refine wpList_store_new (by rfl) 52 _ _ (by rfl) (by rfl) (otc (oz cz)) (otc (oz k)) (by rfl) (by rfl) (info_out _) (otc_sz _ _) (otc_ones _) ?_))
  rw [HS0.out]
  refine on_P (motive := fun W => Code.wp _ _ _ _ W) (Q := fun W => Own w L W (w.heap.size) (cpc k) 31 ∧ Own w L W (w.heap.size + 1) (acc a) 45 ∧ Own w L W (w.heap.size + 2) (otc (oz cz)) 52 ∧ Own w L W (w.heap.size + 3) (otc (oz k)) 52 ∧ PSt B L w L S W) ⟨HO0.out.post (below_al _ _), HO1.out.post (below_al _ _), HO2.out.post (below_al _ _), (by have q := Own.new HP0.out (otc (oz k)) 52; rw [HS0.out] at q; exact q), HP0.out.al _⟩ ?_
  clear HO0 HO1 HO2 HP0 HS0
  rintro W1 ⟨o0, o1, o2, o3, p1⟩
  have HO0 : Hid (Own w L W1 (w.heap.size) (cpc k) 31) := o0
  have HO1 : Hid (Own w L W1 (w.heap.size + 1) (acc a) 45) := o1
  have HO2 : Hid (Own w L W1 (w.heap.size + 2) (otc (oz cz)) 52) := o2
  have HO3 : Hid (Own w L W1 (w.heap.size + 3) (otc (oz k)) 52) := o3
  have HP1 : Hid (PSt B L w L S W1) := p1
  have a0 : W1.cell? ⟨w.heap.size + 1, 0, none⟩ = some (.int .i64 a.kd) := o1.r.cell 0
  have a1 : W1.cell? ⟨w.heap.size + 1, 1, none⟩ = some (.int .i64 a.sz) := o1.r.cell 1
  have a2 : W1.cell? ⟨w.heap.size + 1, 2, none⟩ = some (.int .i64 a.op) := o1.r.cell 2
  have a3 : W1.cell? ⟨w.heap.size + 1, 3, none⟩ = some (.int .u64 (n64 a.ad)) := o1.r.cell 3
  have a4 : W1.cell? ⟨w.heap.size + 1, 4, none⟩ = some (.int .u64 (n64 a.v)) := o1.r.cell 4
  clear o0 o1 o2 o3 p1 hlo
  by_cases h1 : a.kd = 1
  · skip
    have e1 : (a.kd == 1) = true := by rw [h1]; rfl
    have HD : Hid (DO S k a = (⟨(FT S (PR { k with pc := a.ad }) 0).raw, 0, (FT S (PR { k with pc := a.ad }) 0).n, false, (FT S (PR { k with pc := a.ad }) 0).t, { k with pc := a.ad }⟩, (FT S (PR { k with pc := a.ad }) 0).S)) := by unfold Hid DO; rw [if_pos h1]
    have HC : Hid (∀ W2, PSt B L w L S W2 → Calls Tryz.prog 26 #[.agg (cpc { k with pc := a.ad }), .pointer (some ⟨L.b, 0, none⟩)] W2 fun e w' => e = .returned (.tuple #[.int .u32 (FT S (PR { k with pc := a.ad }) 0).raw, .int .i64 (FT S (PR { k with pc := a.ad }) 0).n, .agg (tpc (FT S (PR { k with pc := a.ad }) 0).t)]) ∧ ∃ L', PSt B L W2 L' (FT S (PR { k with pc := a.ad }) 0).S w') := fun W2 hp => by
      have q := aFetch_c W2 hp.p hs (hp.tb hT hB h) hB { k with pc := a.ad }
      rw [FT_b] at q
      exact q
    have HR : Hid (IntKind.u64.wrap (FT S (PR { k with pc := a.ad }) 0).raw = (FT S (PR { k with pc := a.ad }) 0).raw) := FT_wrap hs
    generalize (FT S (PR { k with pc := a.ad }) 0) = m at HC HD HR
    have k0 := HO0.out.r.cls.pc
    have kf := HO0.out.r.froz 0
    have HQ : Hid (Row (W1.setCell ⟨w.heap.size, 0, none⟩ (.int .u64 (n64 a.ad))) w.heap.size (cpc { k with pc := a.ad }) 31) := by have q := Row.put (i := 0) HO0.out.r (.int .u64 (n64 a.ad)); rw [cpc_pc] at q; exact q
    clear h hs hT hB
    go_upto_region 5 with fail
    clear k0 kf a0 a1 a2 a3 a4
    refine on_P (motive := fun W => Code.wp _ _ _ _ W) (Q := fun W => Own w L W (w.heap.size) (cpc { k with pc := a.ad }) 31 ∧ Own w L W (w.heap.size + 2) (otc (oz cz)) 52 ∧ PSt B L w L S W) ⟨⟨HQ.out, HO0.out.n, HO0.out.ge⟩, ⟨Row.other HO2.out.r (by omega) _, HO2.out.n, HO2.out.ge⟩, HP1.out.put HO0.out.n HO0.out.ge 0 _⟩ ?_
    clear HO0 HO1 HO2 HO3 HP1 HQ
    rintro W2 ⟨o0, o2, p2⟩
    have HO0 : Hid (Own w L W2 (w.heap.size) (cpc { k with pc := a.ad }) 31) := o0
    have HO2 : Hid (Own w L W2 (w.heap.size + 2) (otc (oz cz)) 52) := o2
    have HP2 : Hid (PSt B L w L S W2) := p2
    clear o0 o2 p2
    go_upto_region 6 with (first | (refine wpList_load_row (by rfl) _ _ (by rfl) _ (by rfl) 31 _ (0, 0) _ HO0.out.r Tryz.underlying31 (by rfl) (info_cpu _) ?_) | (go_at_call 26; refine (HC.out W2 HP2.out).mono ?_; rintro e w3 ⟨rfl, L1, hp3⟩; have HP3 : Hid (PSt B L W2 L1 m.S w3) := hp3; clear hp3) | (refine wpList_store_new (by rfl) 48 _ _ (by rfl) (by rfl) (tpc tN) (tpc m.t) (by rfl) (by rfl) (info_trap _) (tpc_sz _ _) (tpc_ones _) ?_))
    have HGT : Hid (w.heap.size + 2 < w3.heap.size) := by have := HP3.out.x.size; have := HO2.out.r.lt; unfold Hid; omega
    refine on_P (motive := fun W => Code.wp _ _ _ _ W) (Q := fun W => Own w L1 W (w.heap.size) (cpc { k with pc := a.ad }) 31 ∧ Own w L1 W (w.heap.size + 2) (otc (oz cz)) 52 ∧ Own w L1 W (w3.heap.size) (tpc m.t) 48 ∧ PSt B L w L1 m.S W) ⟨(HO0.out.bus HP3.out).post (below_al _ _), (HO2.out.bus HP3.out).post (below_al _ _), Own.new (HP2.out.trans HP3.out) _ _, (HP2.out.trans HP3.out).al _⟩ ?_
    clear HO0 HO2 HP2 HP3 HC
    generalize w3.heap.size = gt at HGT ⊢
    rintro W5 ⟨o0, o2, o3, p2⟩
    have HO0 : Hid (Own w L1 W5 (w.heap.size) (cpc { k with pc := a.ad }) 31) := o0
    have HO2 : Hid (Own w L1 W5 (w.heap.size + 2) (otc (oz cz)) 52) := o2
    have HO3 : Hid (Own w L1 W5 (gt) (tpc m.t) 48) := o3
    have HP5 : Hid (PSt B L w L1 m.S W5) := p2
    clear o0 o2 o3 p2
    have hr := HR.out
    go_wp2_with (first | (refine wpList_load_row (by rfl) _ _ (by rfl) _ (by rfl) 31 _ (0, 0) _ HO0.out.r Tryz.underlying31 (by rfl) (info_cpu _) ?_) | (refine wpList_load_row (by rfl) _ _ (by rfl) _ (by rfl) 48 _ (0, 0) _ HO3.out.r Tryz.underlying48 (by rfl) (info_trap _) ?_) | (refine wpList_build_tab (by rfl) 52 _ (by rfl) (otc ⟨m.raw, 0, m.n, false, m.t, { k with pc := a.ad }⟩) (by kernel_rfl) ?_) | (refine wpList_store_row (by rfl) _ _ _ (by rfl) (by rfl) _ _ _ (by rfl) (by rfl) HO2.out.r (info_out _) (otc_sz _ _) (otc_ones _) ?_))
    refine bodyPost_ret (v := .agg (otc ⟨m.raw, 0, m.n, false, m.t, { k with pc := a.ad }⟩)) (results_cell_row Tryz.results14 _ _ (w.heap.size + 2) 52 _ (0, 0) _ (by rfl) (setRow_heap _ _ _ _ _ _ HO2.out.r) Tryz.underlying52 (by rfl) (info_out _)) rfl ⟨by rw [HD.out], L1, by rw [HD.out]; exact HP5.out.row HO2.out.n HO2.out.ge _⟩
  by_cases h2 : a.kd = 2
  · skip
    have e1 : (a.kd == 1) = false := by rw [beq_eq_false_iff_ne]; exact h1
    have e2 : (a.kd == 2) = true := by rw [h2]; rfl
    have HC : Hid (Calls Tryz.prog 25 #[.agg (cpc k), .pointer (some ⟨L.b, 0, none⟩), .int .u64 (n64 a.ad), .int .i64 a.sz] W1 fun e w' => e = .returned (.tuple #[.int .u64 (n64 (PL S (wL 0 (PR k) a.ad) a.sz none).old), .agg (tpc (PL S (wL 0 (PR k) a.ad) a.sz none).t)]) ∧ ∃ L', PSt B L W1 L' (PL S (wL 0 (PR k) a.ad) a.sz none).S w') := by
      have q := aLoad_c W1 HP1.out.p hs (HP1.out.tb hT hB h) hB k a.ad a.sz
      rw [PL_wL] at q
      exact q
    have HD : Hid (DO S k a = (⟨n64 (PL S (wL 0 (PR k) a.ad) a.sz none).old, 0, 0, false, (PL S (wL 0 (PR k) a.ad) a.sz none).t, k⟩, (PL S (wL 0 (PR k) a.ad) a.sz none).S)) := by unfold Hid DO; rw [if_neg h1, if_pos h2]
    generalize (PL S (wL 0 (PR k) a.ad) a.sz none) = m at HC HD
    clear h hs hT hB
    go_upto_region 19 with (first | (refine wpList_load_row (by rfl) _ _ (by rfl) _ (by rfl) 31 _ (0, 0) _ HO0.out.r Tryz.underlying31 (by rfl) (info_cpu _) ?_) | (go_at_call 25; refine HC.out.mono ?_; rintro e w3 ⟨rfl, L1, hp3⟩; have HP3 : Hid (PSt B L W1 L1 m.S w3) := hp3; clear hp3; have c0 : (w3).cell? ⟨w.heap.size + 3, 0, none⟩ = some (.int .u64 0) := (by have q := (HO3.out.bus HP3.out).r; rw [q.cell, otc_at _ _ (by omega)]; rfl); have f0 : (w3).frozen? ⟨w.heap.size + 3, 0, none⟩ = false := (by have q := (HO3.out.bus HP3.out).r; exact q.froz 0); skip) | (refine wpList_store_part rfl 48 (.tmp 46) (.tmp 44) rfl rfl (w.heap.size + 3) 4 (tpc m.t) (by rfl) (by rfl) (Row.there (Row.put (i := 0) (HO3.out.bus HP3.out).r (.int .u64 (n64 m.old))) (fits4 (set_size (otc_size _) _ _) _)) (info_trap _) (tpc_ones _) ?_))
    refine on_P (motive := fun W => Code.wp _ _ _ _ W) (Q := fun W => Own w L1 W (w.heap.size + 2) (otc (oz cz)) 52 ∧ Own w L1 W (w.heap.size + 3) (otc ⟨n64 m.old, 0, 0, false, m.t, k⟩) 52 ∧ PSt B L w L1 m.S W) ⟨⟨(Row.lays (by omega) (tpc m.t).toList 4 (Row.other (i := 0) (HO2.out.bus HP3.out).r (by omega) (.int .u64 (n64 m.old)))), (HO2.out.bus HP3.out).n, HO2.out.ge⟩, ⟨by have q := (Row.lay (tpc m.t).toList 4 (Row.put (i := 0) (HO3.out.bus HP3.out).r (.int .u64 (n64 m.old)))); rw [otc_A, otc_t] at q; exact q, (HO3.out.bus HP3.out).n, HO3.out.ge⟩, (PSt.lay (HO3.out.bus HP3.out).n (HO3.out.bus HP3.out).ge (tpc m.t).toList 4 (PSt.put (HP1.out.trans HP3.out) (HO3.out.bus HP3.out).n (HO3.out.bus HP3.out).ge 0 (.int .u64 (n64 m.old))))⟩ ?_
    clear HO0 HO1 HO2 HO3 HP1 HP3 HC
    rintro W5 ⟨o2, o3, p2⟩
    have HO2 : Hid (Own w L1 W5 (w.heap.size + 2) (otc (oz cz)) 52) := o2
    have HO3 : Hid (Own w L1 W5 (w.heap.size + 3) (otc ⟨n64 m.old, 0, 0, false, m.t, k⟩) 52) := o3
    have HP5 : Hid (PSt B L w L1 m.S W5) := p2
    clear o2 o3 p2
    go_wp2_with (first | (refine wpList_load_row (by rfl) _ _ (by rfl) _ (by rfl) 52 _ (0, 0) _ HO3.out.r Tryz.underlying52 (by rfl) (info_out _) ?_) | (refine wpList_store_row (by rfl) _ _ _ (by rfl) (by rfl) _ _ _ (by rfl) (by rfl) HO2.out.r (info_out _) (otc_sz _ _) (otc_ones _) ?_))
    refine bodyPost_ret (v := .agg (otc ⟨n64 m.old, 0, 0, false, m.t, k⟩)) (results_cell_row Tryz.results14 _ _ (w.heap.size + 2) 52 _ (0, 0) _ (by rfl) (setRow_heap _ _ _ _ _ _ HO2.out.r) Tryz.underlying52 (by rfl) (info_out _)) rfl ⟨by rw [HD.out], L1, by rw [HD.out]; exact HP5.out.row HO2.out.n HO2.out.ge _⟩
  by_cases h3 : a.kd = 3
  · skip
    have e1 : (a.kd == 1) = false := by rw [beq_eq_false_iff_ne]; exact h1
    have e2 : (a.kd == 2) = false := by rw [beq_eq_false_iff_ne]; exact h2
    have e3 : (a.kd == 3) = true := by rw [h3]; rfl
    have HC : Hid (Calls Tryz.prog 24 #[.agg (cpc k), .pointer (some ⟨L.b, 0, none⟩), .int .u64 (n64 a.ad), .int .i64 a.sz, .int .u64 (n64 a.v)] W1 fun e w' => e = .returned (.tuple #[.agg (cpc (stK (PR k) (PL S (wS 0 (PR k) a.ad) a.sz (some fun _ => a.v)) a.ad a.sz)), .agg (tpc (PL S (wS 0 (PR k) a.ad) a.sz (some fun _ => a.v)).t)]) ∧ ∃ L', PSt B L W1 L' (PL S (wS 0 (PR k) a.ad) a.sz (some fun _ => a.v)).S w') := by
      have q := aStore_c W1 HP1.out.p hs (HP1.out.tb hT hB h) hB k a.ad a.sz a.v
      rw [PL_wS] at q
      exact q
    have HD : Hid (DO S k a = (⟨0, 0, 0, false, (PL S (wS 0 (PR k) a.ad) a.sz (some fun _ => a.v)).t, stK (PR k) (PL S (wS 0 (PR k) a.ad) a.sz (some fun _ => a.v)) a.ad a.sz⟩, (PL S (wS 0 (PR k) a.ad) a.sz (some fun _ => a.v)).S)) := by unfold Hid DO; rw [if_neg h1, if_neg h2, if_pos h3]
    generalize (PL S (wS 0 (PR k) a.ad) a.sz (some fun _ => a.v)) = m at HC HD
    generalize stK (PR k) m a.ad a.sz = K2 at HC HD
    clear h hs hT hB
    go_upto_region 19 with (first | (refine wpList_load_row (by rfl) _ _ (by rfl) _ (by rfl) 31 _ (0, 0) _ HO0.out.r Tryz.underlying31 (by rfl) (info_cpu _) ?_) | (go_at_call 24; refine HC.out.mono ?_; rintro e w3 ⟨rfl, L1, hp3⟩; have HP3 : Hid (PSt B L W1 L1 m.S w3) := hp3; clear hp3; skip) | (refine wpList_store_part rfl 31 (.tmp 61) (.tmp 59) rfl rfl (w.heap.size + 3) 7 (cpc K2) (by rfl) (by rfl) (Row.there (HO3.out.bus HP3.out).r (fits7 (otc_size _) _)) (info_cpu _) (cpc_ones _) ?_; refine on_P (motive := fun W => wpList _ _ _ _ _ W) (Q := fun W => Own w L1 W (w.heap.size + 2) (otc (oz cz)) 52 ∧ Own w L1 W (w.heap.size + 3) (otc ⟨0, 0, 0, false, tN, K2⟩) 52 ∧ PSt B L w L1 m.S W) ⟨⟨(Row.lays (by omega) (cpc K2).toList 7 (HO2.out.bus HP3.out).r), (HO2.out.bus HP3.out).n, HO2.out.ge⟩, ⟨by have q := (Row.lay (cpc K2).toList 7 (HO3.out.bus HP3.out).r); rw [otc_K] at q; exact q, (HO3.out.bus HP3.out).n, HO3.out.ge⟩, (PSt.lay (HO3.out.bus HP3.out).n (HO3.out.bus HP3.out).ge (cpc K2).toList 7 (HP1.out.trans HP3.out))⟩ ?_; rintro W4 ⟨p2, p3, p4⟩; have HO2z : Hid (Own w L1 W4 (w.heap.size + 2) (otc (oz cz)) 52) := p2; have HO3z : Hid (Own w L1 W4 (w.heap.size + 3) (otc ⟨0, 0, 0, false, tN, K2⟩) 52) := p3; have HP4z : Hid (PSt B L w L1 m.S W4) := p4; clear p2 p3 p4) | (refine wpList_store_part rfl 48 (.tmp 62) (.tmp 60) rfl rfl (w.heap.size + 3) 4 (tpc m.t) (by rfl) (by rfl) (Row.there HO3z.out.r (fits4 (otc_size _) _)) (info_trap _) (tpc_ones _) ?_))
    refine on_P (motive := fun W => Code.wp _ _ _ _ W) (Q := fun W => Own w L1 W (w.heap.size + 2) (otc (oz cz)) 52 ∧ Own w L1 W (w.heap.size + 3) (otc ⟨0, 0, 0, false, m.t, K2⟩) 52 ∧ PSt B L w L1 m.S W) ⟨⟨(Row.lays (by omega) (tpc m.t).toList 4 HO2z.out.r), HO2z.out.n, HO2.out.ge⟩, ⟨by have q := (Row.lay (tpc m.t).toList 4 HO3z.out.r); rw [otc_t] at q; exact q, HO3z.out.n, HO3.out.ge⟩, (PSt.lay HO3z.out.n HO3z.out.ge (tpc m.t).toList 4 HP4z.out)⟩ ?_
    clear HO0 HO1 HO2 HO3 HP1 HP3 HC
    rintro W5 ⟨o2, o3, p2⟩
    have HO2 : Hid (Own w L1 W5 (w.heap.size + 2) (otc (oz cz)) 52) := o2
    have HO3 : Hid (Own w L1 W5 (w.heap.size + 3) (otc ⟨0, 0, 0, false, m.t, K2⟩) 52) := o3
    have HP5 : Hid (PSt B L w L1 m.S W5) := p2
    clear o2 o3 p2
    go_wp2_with (first | (refine wpList_load_row (by rfl) _ _ (by rfl) _ (by rfl) 52 _ (0, 0) _ HO3.out.r Tryz.underlying52 (by rfl) (info_out _) ?_) | (refine wpList_store_row (by rfl) _ _ _ (by rfl) (by rfl) _ _ _ (by rfl) (by rfl) HO2.out.r (info_out _) (otc_sz _ _) (otc_ones _) ?_))
    refine bodyPost_ret (v := .agg (otc ⟨0, 0, 0, false, m.t, K2⟩)) (results_cell_row Tryz.results14 _ _ (w.heap.size + 2) 52 _ (0, 0) _ (by rfl) (setRow_heap _ _ _ _ _ _ HO2.out.r) Tryz.underlying52 (by rfl) (info_out _)) rfl ⟨by rw [HD.out], L1, by rw [HD.out]; exact HP5.out.row HO2.out.n HO2.out.ge _⟩
  by_cases h7 : a.kd = 7
  · skip
    have e1 : (a.kd == 1) = false := by rw [beq_eq_false_iff_ne]; exact h1
    have e2 : (a.kd == 2) = false := by rw [beq_eq_false_iff_ne]; exact h2
    have e3 : (a.kd == 3) = false := by rw [beq_eq_false_iff_ne]; exact h3
    have e4 : (a.kd == 4) = false := by rw [beq_eq_false_iff_ne]; exact h4
    have e5 : (a.kd == 5) = false := by rw [beq_eq_false_iff_ne]; exact h5
    have e6 : (a.kd == 6) = false := by rw [beq_eq_false_iff_ne]; exact h6
    have e7 : (a.kd == 7) = true := by rw [h7]; rfl
    have HD : Hid (DO S k a = (oz k, S.beg (n64 a.v % 2 == 1) (decide (n64 a.v % 4 > 1)) false [n64 a.ad % 256])) := by unfold Hid DO; rw [if_neg h1, if_neg h2, if_neg h3, if_neg h4, if_neg h5, if_neg h6, if_pos h7]
    have HWD : Hid (Calls Tryz.prog 19 #[.agg (acc a)] W1 fun e w' => ∃ g, W1.heap.size ≤ g ∧ e = .returned (.agg #[.bool (n64 a.v % 2 == 1), .bool (decide (n64 a.v % 4 > 1)), .bool false, .slice (some ⟨g, 0, none⟩) 1 1]) ∧ Byt w' (.slice (some ⟨g, 0, none⟩) 1 1) [n64 a.ad % 256] ∧ Below W1.heap.size W1 w') := lworld_c a W1
    have HBG : Hid (∀ (W : World) (g : Nat), Below W1.heap.size W1 W → W1.heap.size ≤ g → Byt W (.slice (some ⟨g, 0, none⟩) 1 1) [n64 a.ad % 256] → Calls Tryz.prog 18 #[.pointer (some ⟨L.b, 0, none⟩), .agg #[.bool (n64 a.v % 2 == 1), .bool (decide (n64 a.v % 4 > 1)), .bool false, .slice (some ⟨g, 0, none⟩) 1 1]] W fun e w' => e = .returned (.tuple #[]) ∧ ∃ L', PSt B L W L' (S.beg (n64 a.v % 2 == 1) (decide (n64 a.v % 4 > 1)) false [n64 a.ad % 256]) w') := fun W g hb hg hy => by
      have hnn : ¬ L.own g := fun q => by have := (HP1.out.p).own_hi _ q; omega
      exact Begin_c W (HP1.out.p.later hb) _ _ _ _ [n64 a.ad % 256] hy (by show 1 ≤ 140737488351232; omega) hs.n.2.2.1 (fun g' off n c e => by cases e; exact hnn)
    generalize S.beg (n64 a.v % 2 == 1) (decide (n64 a.v % 4 > 1)) false [n64 a.ad % 256] = T at HD HBG
    generalize (n64 a.v % 2 == 1) = q1 at HWD HBG
    generalize (decide (n64 a.v % 4 > 1)) = q2 at HWD HBG
    clear h hs hT hB
    go_upto_region 19 with (first | (refine wpList_load_row (by rfl) _ _ (by rfl) _ (by rfl) 45 _ (0, 0) _ HO1.out.r Tryz.underlying45 (by rfl) (info_act _) ?_) | (go_at_call 19; refine HWD.out.mono ?_; rintro e w3 ⟨g3, hg3, rfl, hy3, hb3⟩; have HB3 : Hid (Below W1.heap.size W1 w3) := hb3; have HG3 : Hid (W1.heap.size ≤ g3) := hg3; have HY3 : Hid (Byt w3 (.slice (some ⟨g3, 0, none⟩) 1 1) [n64 a.ad % 256]) := hy3; clear hb3 hg3 hy3) | (go_at_call 18; refine (HBG.out w3 g3 HB3.out HG3.out HY3.out).mono ?_; rintro e w4 ⟨rfl, L1, hp4⟩; have HP4 : Hid (PSt B L w3 L1 T w4) := hp4; clear hp4))
    refine on_P (motive := fun W => Code.wp _ _ _ _ W) (Q := fun W => Own w L1 W (w.heap.size + 2) (otc (oz cz)) 52 ∧ Own w L1 W (w.heap.size + 3) (otc (oz k)) 52 ∧ PSt B L w L1 T W) ⟨(HO2.out.post HB3.out).bus HP4.out, (HO3.out.post HB3.out).bus HP4.out, (HP1.out.post HB3.out).trans HP4.out⟩ ?_
    clear HO0 HO1 HO2 HO3 HP1 HB3 HP4 HY3 HG3 HWD HBG a0 a1 a2 a3 a4
    rintro W5 ⟨o2, o3, p2⟩
    have HO2 : Hid (Own w L1 W5 (w.heap.size + 2) (otc (oz cz)) 52) := o2
    have HO3 : Hid (Own w L1 W5 (w.heap.size + 3) (otc (oz k)) 52) := o3
    have HP5 : Hid (PSt B L w L1 T W5) := p2
    clear o2 o3 p2
    go_wp2_with (first | (refine wpList_load_row (by rfl) _ _ (by rfl) _ (by rfl) 52 _ (0, 0) _ HO3.out.r Tryz.underlying52 (by rfl) (info_out _) ?_) | (refine wpList_store_row (by rfl) _ _ _ (by rfl) (by rfl) _ _ _ (by rfl) (by rfl) HO2.out.r (info_out _) (otc_sz _ _) (otc_ones _) ?_))
    refine bodyPost_ret (v := .agg (otc (oz k))) (results_cell_row Tryz.results14 _ _ (w.heap.size + 2) 52 _ (0, 0) _ (by rfl) (setRow_heap _ _ _ _ _ _ HO2.out.r) Tryz.underlying52 (by rfl) (info_out _)) rfl ⟨by rw [HD.out], L1, by rw [HD.out]; exact HP5.out.row HO2.out.n HO2.out.ge _⟩
  have e1 : (a.kd == 1) = false := by rw [beq_eq_false_iff_ne]; exact h1
  have e2 : (a.kd == 2) = false := by rw [beq_eq_false_iff_ne]; exact h2
  have e3 : (a.kd == 3) = false := by rw [beq_eq_false_iff_ne]; exact h3
  have e4 : (a.kd == 4) = false := by rw [beq_eq_false_iff_ne]; exact h4
  have e5 : (a.kd == 5) = false := by rw [beq_eq_false_iff_ne]; exact h5
  have e6 : (a.kd == 6) = false := by rw [beq_eq_false_iff_ne]; exact h6
  have e7 : (a.kd == 7) = false := by rw [beq_eq_false_iff_ne]; exact h7
  have HD : Hid (DO S k a = (oz k, S)) := by unfold Hid DO; rw [if_neg h1, if_neg h2, if_neg h3, if_neg h4, if_neg h5, if_neg h6, if_neg h7]
  clear h hs hT hB
  have HP5 : Hid (PSt B L w L S W1) := HP1
  go_wp2_with (first | (refine wpList_load_row (by rfl) _ _ (by rfl) _ (by rfl) 52 _ (0, 0) _ HO3.out.r Tryz.underlying52 (by rfl) (info_out _) ?_) | (refine wpList_store_row (by rfl) _ _ _ (by rfl) (by rfl) _ _ _ (by rfl) (by rfl) HO2.out.r (info_out _) (otc_sz _ _) (otc_ones _) ?_))
  refine bodyPost_ret (v := .agg (otc (oz k))) (results_cell_row Tryz.results14 _ _ (w.heap.size + 2) 52 _ (0, 0) _ (by rfl) (setRow_heap _ _ _ _ _ _ HO2.out.r) Tryz.underlying52 (by rfl) (info_out _)) rfl ⟨by rw [HD.out], L, by rw [HD.out]; exact HP5.out.row HO2.out.n HO2.out.ge _⟩
end Go.Proofs.YtlhgphokfpnfeaaGreatDoor
