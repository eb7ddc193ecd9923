import Derived.Test.YtlhgphokfpnfeaaGreatDoorK23
namespace Go.Proofs.YtlhgphokfpnfeaaGreatDoor
set_option linter.unusedVariables false
open Go.ChangeShapes Go.WideShapes Go.ChangeAt Go.RowKit Go.Deep
set_option maxRecDepth 100000 in
set_option maxHeartbeats 8000000 in
theorem does_B {B : Nat} {L : Lay} {S : St} (w : World) (h : PB B L S w) (hs : Sok S) (hT : Tb w) (hB : 0 < B) (k : Cp) (a : Acd) (hq : a.kd = 4 ∨ a.kd = 5 ∨ a.kd = 6) :
    Calls Tryz.prog 14 #[.agg (cpc k), .pointer (some ⟨L.b, 0, none⟩), .agg (acc a)] w fun e w' => e = .returned (.agg (otc (DO S k a).1)) ∧ ∃ L', PSt B L w L' (DO S k a).2 w' := by
  obtain ⟨W0, hW0, r0, r1, r2, b0, s0⟩ := start3 w (cpc k) (acc a) (otc (oz cz)) 31 45 52
  have hzo := zero_out
  have hzt := zero_trap
  have HP0 : Hid (PSt B L w L S W0) := (PSt.refl h).post b0
  have hlo : ∀ g, w.heap.size ≤ g → ¬ L.own g := fun g hg e => by have := h.own_hi _ e; omega
  have HO0 : Hid (Own w L W0 (w.heap.size) (cpc k) 31) := ⟨r0, hlo _ (by omega), by omega⟩
  have HO1 : Hid (Own w L W0 (w.heap.size + 1) (acc a) 45) := ⟨r1, hlo _ (by omega), by omega⟩
  have HO2 : Hid (Own w L W0 (w.heap.size + 2) (otc (oz cz)) 52) := ⟨r2, hlo _ (by omega), by omega⟩
  have HS0 : Hid (W0.heap.size = w.heap.size + 3) := s0
  clear r0 r1 r2 b0 s0
  go_enter Tryz.func14, Tryz.ntmps14
  go_upto_region 1 with fail
  clear hW0
  go_upto_region 2 with (first | (refine wpList_load_row (by rfl) _ _ (by rfl) _ (by rfl) 31 _ (0, 0) _ HO0.out.r Tryz.underlying31 (by rfl) (info_cpu _) ?_) | (refine wpList_build_tab (by rfl) 52 _ (by rfl) (otc (oz k)) (by kernel_rfl) ?_) | (refine wpList_store_new (by rfl) 52 _ _ (by rfl) (by rfl) (otc (oz cz)) (otc (oz k)) (by rfl) (by rfl) (info_out _) (otc_sz _ _) (otc_ones _) ?_))
  rw [HS0.out]
  refine on_P (motive := fun W => Code.wp _ _ _ _ W) (Q := fun W => Own w L W (w.heap.size) (cpc k) 31 ∧ Own w L W (w.heap.size + 1) (acc a) 45 ∧ Own w L W (w.heap.size + 2) (otc (oz cz)) 52 ∧ Own w L W (w.heap.size + 3) (otc (oz k)) 52 ∧ PSt B L w L S W) ⟨HO0.out.post (below_al _ _), HO1.out.post (below_al _ _), HO2.out.post (below_al _ _), (by have q := Own.new HP0.out (otc (oz k)) 52; rw [HS0.out] at q; exact q), HP0.out.al _⟩ ?_
  clear HO0 HO1 HO2 HP0 HS0
  rintro W1 ⟨o0, o1, o2, o3, p1⟩
  have HO0 : Hid (Own w L W1 (w.heap.size) (cpc k) 31) := o0
  have HO1 : Hid (Own w L W1 (w.heap.size + 1) (acc a) 45) := o1
  have HO2 : Hid (Own w L W1 (w.heap.size + 2) (otc (oz cz)) 52) := o2
  have HO3 : Hid (Own w L W1 (w.heap.size + 3) (otc (oz k)) 52) := o3
  have HP1 : Hid (PSt B L w L S W1) := p1
  have a0 : W1.cell? ⟨w.heap.size + 1, 0, none⟩ = some (.int .i64 a.kd) := o1.r.cell 0
  have a1 : W1.cell? ⟨w.heap.size + 1, 1, none⟩ = some (.int .i64 a.sz) := o1.r.cell 1
  have a2 : W1.cell? ⟨w.heap.size + 1, 2, none⟩ = some (.int .i64 a.op) := o1.r.cell 2
  have a3 : W1.cell? ⟨w.heap.size + 1, 3, none⟩ = some (.int .u64 (n64 a.ad)) := o1.r.cell 3
  have a4 : W1.cell? ⟨w.heap.size + 1, 4, none⟩ = some (.int .u64 (n64 a.v)) := o1.r.cell 4
  clear o0 o1 o2 o3 p1 hlo
  have h1 : ¬ a.kd = 1 := by omega
  have h2 : ¬ a.kd = 2 := by omega
  have h3 : ¬ a.kd = 3 := by omega
  rcases hq with h4 | h5 | h6
  · skip
    have e1 : (a.kd == 1) = false := by rw [beq_eq_false_iff_ne]; exact h1
    have e2 : (a.kd == 2) = false := by rw [beq_eq_false_iff_ne]; exact h2
    have e3 : (a.kd == 3) = false := by rw [beq_eq_false_iff_ne]; exact h3
    have e4 : (a.kd == 4) = true := by rw [h4]; rfl
    have HC : Hid (Calls Tryz.prog 36 #[.agg (cpc k), .pointer (some ⟨L.b, 0, none⟩), .int .u64 (n64 a.ad), .int .i64 a.sz] W1 fun e w' => e = .returned (.tuple #[.int .u64 (n64 (AT S (wL 0 (PR k) a.ad) a.sz none).old), .agg (cpc (rsK (PR k) (AT S (wL 0 (PR k) a.ad) a.sz none) a.ad a.sz)), .agg (tpc (AT S (wL 0 (PR k) a.ad) a.sz none).t)]) ∧ ∃ L', PSt B L W1 L' (AT S (wL 0 (PR k) a.ad) a.sz none).S w') := by
      have q := aReserve_c W1 HP1.out.p hs (HP1.out.tb hT hB h) hB k a.ad a.sz
      rw [AT_wL] at q
      exact q
    have HD : Hid (DO S k a = (⟨n64 (AT S (wL 0 (PR k) a.ad) a.sz none).old, 0, 0, false, (AT S (wL 0 (PR k) a.ad) a.sz none).t, rsK (PR k) (AT S (wL 0 (PR k) a.ad) a.sz none) a.ad a.sz⟩, (AT S (wL 0 (PR k) a.ad) a.sz none).S)) := by unfold Hid DO; rw [if_neg h1, if_neg h2, if_neg h3, if_pos h4]
    generalize (AT S (wL 0 (PR k) a.ad) a.sz none) = m at HC HD
    generalize rsK (PR k) m a.ad a.sz = K2 at HC HD
    clear h hs hT hB
    go_upto_region 19 with (first | (refine wpList_load_row (by rfl) _ _ (by rfl) _ (by rfl) 31 _ (0, 0) _ HO0.out.r Tryz.underlying31 (by rfl) (info_cpu _) ?_) | (go_at_call 36; refine HC.out.mono ?_; rintro e w3 ⟨rfl, L1, hp3⟩; have HP3 : Hid (PSt B L W1 L1 m.S w3) := hp3; clear hp3; have c0 : (w3).cell? ⟨w.heap.size + 3, 0, none⟩ = some (.int .u64 0) := (by have q := (HO3.out.bus HP3.out).r; rw [q.cell, otc_at _ _ (by omega)]; rfl); have f0 : (w3).frozen? ⟨w.heap.size + 3, 0, none⟩ = false := (by have q := (HO3.out.bus HP3.out).r; exact q.froz 0); skip) | (refine wpList_store_part rfl 31 (.tmp 77) (.tmp 74) rfl rfl (w.heap.size + 3) 7 (cpc K2) (by rfl) (by rfl) (Row.there (Row.put (i := 0) (HO3.out.bus HP3.out).r (.int .u64 (n64 m.old))) (fits7 (set_size (otc_size _) _ _) _)) (info_cpu _) (cpc_ones _) ?_; refine on_P (motive := fun W => wpList _ _ _ _ _ W) (Q := fun W => Own w L1 W (w.heap.size + 2) (otc (oz cz)) 52 ∧ Own w L1 W (w.heap.size + 3) (otc ⟨n64 m.old, 0, 0, false, tN, K2⟩) 52 ∧ PSt B L w L1 m.S W) ⟨⟨(Row.lays (by omega) (cpc K2).toList 7 (Row.other (i := 0) (HO2.out.bus HP3.out).r (by omega) (.int .u64 (n64 m.old)))), (HO2.out.bus HP3.out).n, HO2.out.ge⟩, ⟨by have q := (Row.lay (cpc K2).toList 7 (Row.put (i := 0) (HO3.out.bus HP3.out).r (.int .u64 (n64 m.old)))); rw [otc_A, otc_K] at q; exact q, (HO3.out.bus HP3.out).n, HO3.out.ge⟩, (PSt.lay (HO3.out.bus HP3.out).n (HO3.out.bus HP3.out).ge (cpc K2).toList 7 (PSt.put (HP1.out.trans HP3.out) (HO3.out.bus HP3.out).n (HO3.out.bus HP3.out).ge 0 (.int .u64 (n64 m.old))))⟩ ?_; rintro W4 ⟨p2, p3, p4⟩; have HO2z : Hid (Own w L1 W4 (w.heap.size + 2) (otc (oz cz)) 52) := p2; have HO3z : Hid (Own w L1 W4 (w.heap.size + 3) (otc ⟨n64 m.old, 0, 0, false, tN, K2⟩) 52) := p3; have HP4z : Hid (PSt B L w L1 m.S W4) := p4; clear p2 p3 p4) | (refine wpList_store_part rfl 48 (.tmp 78) (.tmp 75) rfl rfl (w.heap.size + 3) 4 (tpc m.t) (by rfl) (by rfl) (Row.there HO3z.out.r (fits4 (otc_size _) _)) (info_trap _) (tpc_ones _) ?_))
    refine on_P (motive := fun W => Code.wp _ _ _ _ W) (Q := fun W => Own w L1 W (w.heap.size + 2) (otc (oz cz)) 52 ∧ Own w L1 W (w.heap.size + 3) (otc ⟨n64 m.old, 0, 0, false, m.t, K2⟩) 52 ∧ PSt B L w L1 m.S W) ⟨⟨(Row.lays (by omega) (tpc m.t).toList 4 HO2z.out.r), HO2z.out.n, HO2.out.ge⟩, ⟨by have q := (Row.lay (tpc m.t).toList 4 HO3z.out.r); rw [otc_t] at q; exact q, HO3z.out.n, HO3.out.ge⟩, (PSt.lay HO3z.out.n HO3z.out.ge (tpc m.t).toList 4 HP4z.out)⟩ ?_
    clear HO0 HO1 HO2 HO3 HP1 HP3 HC
    rintro W5 ⟨o2, o3, p2⟩
    have HO2 : Hid (Own w L1 W5 (w.heap.size + 2) (otc (oz cz)) 52) := o2
    have HO3 : Hid (Own w L1 W5 (w.heap.size + 3) (otc ⟨n64 m.old, 0, 0, false, m.t, K2⟩) 52) := o3
    have HP5 : Hid (PSt B L w L1 m.S W5) := p2
    clear o2 o3 p2
    go_wp2_with (first | (refine wpList_load_row (by rfl) _ _ (by rfl) _ (by rfl) 52 _ (0, 0) _ HO3.out.r Tryz.underlying52 (by rfl) (info_out _) ?_) | (refine wpList_store_row (by rfl) _ _ _ (by rfl) (by rfl) _ _ _ (by rfl) (by rfl) HO2.out.r (info_out _) (otc_sz _ _) (otc_ones _) ?_))
    refine bodyPost_ret (v := .agg (otc ⟨n64 m.old, 0, 0, false, m.t, K2⟩)) (results_cell_row Tryz.results14 _ _ (w.heap.size + 2) 52 _ (0, 0) _ (by rfl) (setRow_heap _ _ _ _ _ _ HO2.out.r) Tryz.underlying52 (by rfl) (info_out _)) rfl ⟨by rw [HD.out], L1, by rw [HD.out]; exact HP5.out.row HO2.out.n HO2.out.ge _⟩
  · have h4 : ¬ a.kd = 4 := by omega
    have e1 : (a.kd == 1) = false := by rw [beq_eq_false_iff_ne]; exact h1
    have e2 : (a.kd == 2) = false := by rw [beq_eq_false_iff_ne]; exact h2
    have e3 : (a.kd == 3) = false := by rw [beq_eq_false_iff_ne]; exact h3
    have e4 : (a.kd == 4) = false := by rw [beq_eq_false_iff_ne]; exact h4
    have e5 : (a.kd == 5) = true := by rw [h5]; rfl
    have HC : Hid (Calls Tryz.prog 37 #[.agg (cpc k), .pointer (some ⟨L.b, 0, none⟩), .int .u64 (n64 a.ad), .int .i64 a.sz, .int .u64 (n64 a.v)] W1 fun e w' => e = .returned (.tuple #[.bool (!(AT S (wS 0 (PR k) a.ad) a.sz (if hel (PR k) a.ad a.sz = true then some (fun _ => a.v) else none)).t.is && hel (PR k) a.ad a.sz), .agg (cpc (if (AT S (wS 0 (PR k) a.ad) a.sz (if hel (PR k) a.ad a.sz = true then some (fun _ => a.v) else none)).t.is = true then PR k else nores (PR k))), .agg (tpc (AT S (wS 0 (PR k) a.ad) a.sz (if hel (PR k) a.ad a.sz = true then some (fun _ => a.v) else none)).t)]) ∧ ∃ L', PSt B L W1 L' (AT S (wS 0 (PR k) a.ad) a.sz (if hel (PR k) a.ad a.sz = true then some (fun _ => a.v) else none)).S w') := by
      have q := aCond_c W1 HP1.out.p hs (HP1.out.tb hT hB h) hB k a.ad a.sz a.v
      rw [AT_wS] at q
      exact q
    have HD : Hid (DO S k a = (⟨0, 0, 0, !(AT S (wS 0 (PR k) a.ad) a.sz (if hel (PR k) a.ad a.sz = true then some (fun _ => a.v) else none)).t.is && hel (PR k) a.ad a.sz, (AT S (wS 0 (PR k) a.ad) a.sz (if hel (PR k) a.ad a.sz = true then some (fun _ => a.v) else none)).t, if (AT S (wS 0 (PR k) a.ad) a.sz (if hel (PR k) a.ad a.sz = true then some (fun _ => a.v) else none)).t.is = true then PR k else nores (PR k)⟩, (AT S (wS 0 (PR k) a.ad) a.sz (if hel (PR k) a.ad a.sz = true then some (fun _ => a.v) else none)).S)) := by unfold Hid DO; rw [if_neg h1, if_neg h2, if_neg h3, if_neg h4, if_pos h5]
    generalize (AT S (wS 0 (PR k) a.ad) a.sz (if hel (PR k) a.ad a.sz = true then some (fun _ => a.v) else none)) = m at HC HD
    generalize (if m.t.is = true then PR k else nores (PR k)) = K2 at HC HD
    generalize (!m.t.is && hel (PR k) a.ad a.sz) = qk at HC HD
    clear h hs hT hB
    go_upto_region 19 with (first | (refine wpList_load_row (by rfl) _ _ (by rfl) _ (by rfl) 31 _ (0, 0) _ HO0.out.r Tryz.underlying31 (by rfl) (info_cpu _) ?_) | (go_at_call 37; refine HC.out.mono ?_; rintro e w3 ⟨rfl, L1, hp3⟩; have HP3 : Hid (PSt B L W1 L1 m.S w3) := hp3; clear hp3; have c3 : (w3).cell? ⟨w.heap.size + 3, 3, none⟩ = some (.bool false) := (by have q := (HO3.out.bus HP3.out).r; rw [q.cell, otc_at _ _ (by omega)]; rfl); have f3 : (w3).frozen? ⟨w.heap.size + 3, 3, none⟩ = false := (by have q := (HO3.out.bus HP3.out).r; exact q.froz 3); skip) | (refine wpList_store_part rfl 31 (.tmp 95) (.tmp 92) rfl rfl (w.heap.size + 3) 7 (cpc K2) (by rfl) (by rfl) (Row.there (Row.put (i := 3) (HO3.out.bus HP3.out).r (.bool qk)) (fits7 (set_size (otc_size _) _ _) _)) (info_cpu _) (cpc_ones _) ?_; refine on_P (motive := fun W => wpList _ _ _ _ _ W) (Q := fun W => Own w L1 W (w.heap.size + 2) (otc (oz cz)) 52 ∧ Own w L1 W (w.heap.size + 3) (otc ⟨0, 0, 0, qk, tN, K2⟩) 52 ∧ PSt B L w L1 m.S W) ⟨⟨(Row.lays (by omega) (cpc K2).toList 7 (Row.other (i := 3) (HO2.out.bus HP3.out).r (by omega) (.bool qk))), (HO2.out.bus HP3.out).n, HO2.out.ge⟩, ⟨by have q := (Row.lay (cpc K2).toList 7 (Row.put (i := 3) (HO3.out.bus HP3.out).r (.bool qk))); rw [otc_ok, otc_K] at q; exact q, (HO3.out.bus HP3.out).n, HO3.out.ge⟩, (PSt.lay (HO3.out.bus HP3.out).n (HO3.out.bus HP3.out).ge (cpc K2).toList 7 (PSt.put (HP1.out.trans HP3.out) (HO3.out.bus HP3.out).n (HO3.out.bus HP3.out).ge 3 (.bool qk)))⟩ ?_; rintro W4 ⟨p2, p3, p4⟩; have HO2z : Hid (Own w L1 W4 (w.heap.size + 2) (otc (oz cz)) 52) := p2; have HO3z : Hid (Own w L1 W4 (w.heap.size + 3) (otc ⟨0, 0, 0, qk, tN, K2⟩) 52) := p3; have HP4z : Hid (PSt B L w L1 m.S W4) := p4; clear p2 p3 p4) | (refine wpList_store_part rfl 48 (.tmp 96) (.tmp 93) rfl rfl (w.heap.size + 3) 4 (tpc m.t) (by rfl) (by rfl) (Row.there HO3z.out.r (fits4 (otc_size _) _)) (info_trap _) (tpc_ones _) ?_))
    refine on_P (motive := fun W => Code.wp _ _ _ _ W) (Q := fun W => Own w L1 W (w.heap.size + 2) (otc (oz cz)) 52 ∧ Own w L1 W (w.heap.size + 3) (otc ⟨0, 0, 0, qk, m.t, K2⟩) 52 ∧ PSt B L w L1 m.S W) ⟨⟨(Row.lays (by omega) (tpc m.t).toList 4 HO2z.out.r), HO2z.out.n, HO2.out.ge⟩, ⟨by have q := (Row.lay (tpc m.t).toList 4 HO3z.out.r); rw [otc_t] at q; exact q, HO3z.out.n, HO3.out.ge⟩, (PSt.lay HO3z.out.n HO3z.out.ge (tpc m.t).toList 4 HP4z.out)⟩ ?_
    clear HO0 HO1 HO2 HO3 HP1 HP3 HC
    rintro W5 ⟨o2, o3, p2⟩
    have HO2 : Hid (Own w L1 W5 (w.heap.size + 2) (otc (oz cz)) 52) := o2
    have HO3 : Hid (Own w L1 W5 (w.heap.size + 3) (otc ⟨0, 0, 0, qk, m.t, K2⟩) 52) := o3
    have HP5 : Hid (PSt B L w L1 m.S W5) := p2
    clear o2 o3 p2
    go_wp2_with (first | (refine wpList_load_row (by rfl) _ _ (by rfl) _ (by rfl) 52 _ (0, 0) _ HO3.out.r Tryz.underlying52 (by rfl) (info_out _) ?_) | (refine wpList_store_row (by rfl) _ _ _ (by rfl) (by rfl) _ _ _ (by rfl) (by rfl) HO2.out.r (info_out _) (otc_sz _ _) (otc_ones _) ?_))
    refine bodyPost_ret (v := .agg (otc ⟨0, 0, 0, qk, m.t, K2⟩)) (results_cell_row Tryz.results14 _ _ (w.heap.size + 2) 52 _ (0, 0) _ (by rfl) (setRow_heap _ _ _ _ _ _ HO2.out.r) Tryz.underlying52 (by rfl) (info_out _)) rfl ⟨by rw [HD.out], L1, by rw [HD.out]; exact HP5.out.row HO2.out.n HO2.out.ge _⟩
  · have h4 : ¬ a.kd = 4 := by omega
    have h5 : ¬ a.kd = 5 := by omega
    have e1 : (a.kd == 1) = false := by rw [beq_eq_false_iff_ne]; exact h1
    have e2 : (a.kd == 2) = false := by rw [beq_eq_false_iff_ne]; exact h2
    have e3 : (a.kd == 3) = false := by rw [beq_eq_false_iff_ne]; exact h3
    have e4 : (a.kd == 4) = false := by rw [beq_eq_false_iff_ne]; exact h4
    have e5 : (a.kd == 5) = false := by rw [beq_eq_false_iff_ne]; exact h5
    have e6 : (a.kd == 6) = true := by rw [h6]; rfl
    have HC : Hid (Calls Tryz.prog 38 #[.agg (cpc k), .pointer (some ⟨L.b, 0, none⟩), .int .i64 a.op, .int .u64 (n64 a.ad), .int .u64 (n64 a.v)] W1 fun e w' => e = .returned (.tuple #[.int .u64 (n64 (AM S (PR k) 0 a.op a.ad a.v).old), .int .u64 (n64 (AM S (PR k) 0 a.op a.ad a.v).st), .agg (cpc (stK (PR k) (AM S (PR k) 0 a.op a.ad a.v) a.ad (amSz a.op))), .agg (tpc (AM S (PR k) 0 a.op a.ad a.v).t)]) ∧ ∃ L', PSt B L W1 L' (AM S (PR k) 0 a.op a.ad a.v).S w') := by
      have q := aAmo_c W1 HP1.out.p hs (HP1.out.tb hT hB h) hB k a.op a.ad a.v
      rw [AM_b] at q
      exact q
    have HD : Hid (DO S k a = (⟨n64 (AM S (PR k) 0 a.op a.ad a.v).old, n64 (AM S (PR k) 0 a.op a.ad a.v).st, 0, false, (AM S (PR k) 0 a.op a.ad a.v).t, stK (PR k) (AM S (PR k) 0 a.op a.ad a.v) a.ad (amSz a.op)⟩, (AM S (PR k) 0 a.op a.ad a.v).S)) := by unfold Hid DO; rw [if_neg h1, if_neg h2, if_neg h3, if_neg h4, if_neg h5, if_pos h6]
    generalize (AM S (PR k) 0 a.op a.ad a.v) = m at HC HD
    generalize stK (PR k) m a.ad (amSz a.op) = K2 at HC HD
    clear h hs hT hB
    go_upto_region 19 with (first | (refine wpList_load_row (by rfl) _ _ (by rfl) _ (by rfl) 31 _ (0, 0) _ HO0.out.r Tryz.underlying31 (by rfl) (info_cpu _) ?_) | (go_at_call 38; refine HC.out.mono ?_; rintro e w3 ⟨rfl, L1, hp3⟩; have HP3 : Hid (PSt B L W1 L1 m.S w3) := hp3; clear hp3; skip) | (refine wpList_store_u64 rfl (.tmp 113) (.tmp 109) rfl rfl (w.heap.size + 3) 0 (n64 m.old) 0 (by rfl) (by rfl) (by have q := (HO3.out.bus HP3.out).r; rw [q.cell, otc_at _ _ (by omega)]; rfl) ((HO3.out.bus HP3.out).r.froz 0) ?_; refine on_P (motive := fun W => wpList _ _ _ _ _ W) (Q := fun W => Own w L1 W (w.heap.size + 2) (otc (oz cz)) 52 ∧ Own w L1 W (w.heap.size + 3) (otc ⟨n64 m.old, 0, 0, false, tN, k⟩) 52 ∧ PSt B L w L1 m.S W) ⟨⟨Row.other (i := 0) (HO2.out.bus HP3.out).r (by omega) (.int .u64 (n64 m.old)), (HO2.out.bus HP3.out).n, HO2.out.ge⟩, ⟨by have q := Row.put (i := 0) (HO3.out.bus HP3.out).r (.int .u64 (n64 m.old)); rw [otc_A] at q; exact q, (HO3.out.bus HP3.out).n, HO3.out.ge⟩, PSt.put (HP1.out.trans HP3.out) (HO3.out.bus HP3.out).n (HO3.out.bus HP3.out).ge 0 (.int .u64 (n64 m.old))⟩ ?_; rintro W4a ⟨p2, p3, p4⟩; have HO2a : Hid (Own w L1 W4a (w.heap.size + 2) (otc (oz cz)) 52) := p2; have HO3a : Hid (Own w L1 W4a (w.heap.size + 3) (otc ⟨n64 m.old, 0, 0, false, tN, k⟩) 52) := p3; have HP4a : Hid (PSt B L w L1 m.S W4a) := p4; clear p2 p3 p4) | (refine wpList_store_u64 rfl (.tmp 114) (.tmp 110) rfl rfl (w.heap.size + 3) 1 (n64 m.st) 0 (by rfl) (by rfl) (by have q := HO3a.out.r; rw [q.cell, otc_at _ _ (by omega)]; rfl) (HO3a.out.r.froz 1) ?_; refine on_P (motive := fun W => wpList _ _ _ _ _ W) (Q := fun W => Own w L1 W (w.heap.size + 2) (otc (oz cz)) 52 ∧ Own w L1 W (w.heap.size + 3) (otc ⟨n64 m.old, n64 m.st, 0, false, tN, k⟩) 52 ∧ PSt B L w L1 m.S W) ⟨⟨Row.other (i := 1) HO2a.out.r (by omega) (.int .u64 (n64 m.st)), HO2a.out.n, HO2.out.ge⟩, ⟨by have q := Row.put (i := 1) HO3a.out.r (.int .u64 (n64 m.st)); rw [otc_B] at q; exact q, HO3a.out.n, HO3.out.ge⟩, PSt.put HP4a.out HO3a.out.n HO3a.out.ge 1 (.int .u64 (n64 m.st))⟩ ?_; rintro W4b ⟨p2, p3, p4⟩; have HO2b : Hid (Own w L1 W4b (w.heap.size + 2) (otc (oz cz)) 52) := p2; have HO3b : Hid (Own w L1 W4b (w.heap.size + 3) (otc ⟨n64 m.old, n64 m.st, 0, false, tN, k⟩) 52) := p3; have HP4b : Hid (PSt B L w L1 m.S W4b) := p4; clear p2 p3 p4) | (refine wpList_store_part rfl 31 (.tmp 115) (.tmp 111) rfl rfl (w.heap.size + 3) 7 (cpc K2) (by rfl) (by rfl) (Row.there HO3b.out.r (fits7 (otc_size _) _)) (info_cpu _) (cpc_ones _) ?_; refine on_P (motive := fun W => wpList _ _ _ _ _ W) (Q := fun W => Own w L1 W (w.heap.size + 2) (otc (oz cz)) 52 ∧ Own w L1 W (w.heap.size + 3) (otc ⟨n64 m.old, n64 m.st, 0, false, tN, K2⟩) 52 ∧ PSt B L w L1 m.S W) ⟨⟨(Row.lays (by omega) (cpc K2).toList 7 HO2b.out.r), HO2b.out.n, HO2.out.ge⟩, ⟨by have q := (Row.lay (cpc K2).toList 7 HO3b.out.r); rw [otc_K] at q; exact q, HO3b.out.n, HO3.out.ge⟩, (PSt.lay HO3b.out.n HO3b.out.ge (cpc K2).toList 7 HP4b.out)⟩ ?_; rintro W4 ⟨p2, p3, p4⟩; have HO2z : Hid (Own w L1 W4 (w.heap.size + 2) (otc (oz cz)) 52) := p2; have HO3z : Hid (Own w L1 W4 (w.heap.size + 3) (otc ⟨n64 m.old, n64 m.st, 0, false, tN, K2⟩) 52) := p3; have HP4z : Hid (PSt B L w L1 m.S W4) := p4; clear p2 p3 p4) | (refine wpList_store_part rfl 48 (.tmp 116) (.tmp 112) rfl rfl (w.heap.size + 3) 4 (tpc m.t) (by rfl) (by rfl) (Row.there HO3z.out.r (fits4 (otc_size _) _)) (info_trap _) (tpc_ones _) ?_))
    refine on_P (motive := fun W => Code.wp _ _ _ _ W) (Q := fun W => Own w L1 W (w.heap.size + 2) (otc (oz cz)) 52 ∧ Own w L1 W (w.heap.size + 3) (otc ⟨n64 m.old, n64 m.st, 0, false, m.t, K2⟩) 52 ∧ PSt B L w L1 m.S W) ⟨⟨(Row.lays (by omega) (tpc m.t).toList 4 HO2z.out.r), HO2z.out.n, HO2.out.ge⟩, ⟨by have q := (Row.lay (tpc m.t).toList 4 HO3z.out.r); rw [otc_t] at q; exact q, HO3z.out.n, HO3.out.ge⟩, (PSt.lay HO3z.out.n HO3z.out.ge (tpc m.t).toList 4 HP4z.out)⟩ ?_
    clear HO0 HO1 HO2 HO3 HP1 HP3 HC
    rintro W5 ⟨o2, o3, p2⟩
    have HO2 : Hid (Own w L1 W5 (w.heap.size + 2) (otc (oz cz)) 52) := o2
    have HO3 : Hid (Own w L1 W5 (w.heap.size + 3) (otc ⟨n64 m.old, n64 m.st, 0, false, m.t, K2⟩) 52) := o3
    have HP5 : Hid (PSt B L w L1 m.S W5) := p2
    clear o2 o3 p2
    go_wp2_with (first | (refine wpList_load_row (by rfl) _ _ (by rfl) _ (by rfl) 52 _ (0, 0) _ HO3.out.r Tryz.underlying52 (by rfl) (info_out _) ?_) | (refine wpList_store_row (by rfl) _ _ _ (by rfl) (by rfl) _ _ _ (by rfl) (by rfl) HO2.out.r (info_out _) (otc_sz _ _) (otc_ones _) ?_))
    refine bodyPost_ret (v := .agg (otc ⟨n64 m.old, n64 m.st, 0, false, m.t, K2⟩)) (results_cell_row Tryz.results14 _ _ (w.heap.size + 2) 52 _ (0, 0) _ (by rfl) (setRow_heap _ _ _ _ _ _ HO2.out.r) Tryz.underlying52 (by rfl) (info_out _)) rfl ⟨by rw [HD.out], L1, by rw [HD.out]; exact HP5.out.row HO2.out.n HO2.out.ge _⟩
end Go.Proofs.YtlhgphokfpnfeaaGreatDoor
