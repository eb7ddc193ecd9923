import Derived.Test.YtiffkbmppmejhaaGreatDoorK27
namespace Go.Proofs.YtiffkbmppmejhaaGreatDoor
set_option linter.unusedVariables false
set_option maxRecDepth 100000
set_option maxHeartbeats 8000000
open Go.ChangeShapes Go.WideShapes Go.ChangeAt Go.RowKit Go.Deep _root_.Go.Proofs.Tryz
theorem wY {B c : Nat} {S : St} {vr vi vo : Value} (w : World) (h : RB B c S vr vi vo w) (hs : Sok S) (k : Cp) (ad : BitVec 64) (sz : Int) (v : BitVec 64) :
  Calls prog 33 #[.agg (cpc k), .pointer (some ⟨c, 0, none⟩), .int .u64 (n64 ad), .int .i64 sz, .int .u64 (n64 v)] w fun e w' => e = .returned (.tuple #[.agg (cpc (stK (PR k) (PL S (wS 0 (PR k) ad) sz (some fun _ => v)) ad sz)), .agg (tpc (PL S (wS 0 (PR k) ad) sz (some fun _ => v)).t)]) ∧ ∃ ur ui uo, RSt B c vr vi vo w ur ui uo (PL S (wS 0 (PR k) ad) sz (some fun _ => v)).S w' := by
 obtain ⟨W0, hW0, r0, r1, r2, b0, s0⟩ := fQ w (cpc k) (cpc cz) (tpc tN) 31 31 50
 clear s0
 have hzt := bF
 have hzc := dJ
 have HP0 : Hid (RSt B c vr vi vo w vr vi vo S W0) := (RSt.refl h).post b0
 have hlo : ∀ g, w.heap.size ≤ g → ¬ eU c vr vi vo g := fun g hg e => by have := (dT h e).2; omega
 have HO0 : Hid (ROw w c vr vi vo W0 w.heap.size (cpc k) 31) := ⟨r0, hlo _ (by omega), by omega⟩
 have HO1 : Hid (ROw w c vr vi vo W0 (w.heap.size + 1) (cpc cz) 31) := ⟨r1, hlo _ (by omega), by omega⟩
 have HO2 : Hid (ROw w c vr vi vo W0 (w.heap.size + 2) (tpc tN) 50) := ⟨r2, hlo _ (by omega), by omega⟩
 have HPR : Hid (∀ W, Calls prog 54 #[.agg (cpc k)] W fun e w' => e = .returned (.agg (cpc (PR k))) ∧ Below W.heap.size W w') := fun W => oB k W
 have HB0 := hid b0
 have HPC : Hid (∀ W, Calls prog 57 #[.int .u64 (n64 ad), .int .i64 sz, .int .i64 1] W fun e w' => e = .returned (.bool (plc ad sz 1)) ∧ w' = W) := fun W => gI ad sz 1 W
 have HTR : Hid (∀ (ca : Nat) (_ : ca < 100) W, Calls prog 56 #[.int .i64 ca, .int .u64 (n64 ad)] W fun e w' => e = .returned (.agg (tpc (tS ca ad))) ∧ Below W.heap.size W w') := fun ca hc W => fY ca hc ad W
 have HMY : Hid (∀ W, Calls prog 58 #[.agg (cpc (PR k)), .int .u64 (n64 ad), .int .i64 sz, .int .i64 2] W fun e w' => e = .returned (.bool (ckA (PC (PR k).c) (PA (PR k).a) (xE (PR k)) ad sz 2)) ∧ Below W.heap.size W w') := fun W => mR (PR k) (kA k) ad sz 2 W
 have HNO : Hid (plc ad sz 1 = false → (PL S (wS 0 (PR k) ad) sz (some fun _ => v)) = ⟨0#64, 0#64, tS 6 ad, S⟩) := fun q => xV (k := wS 0 (PR k) ad) q
 have HFO : Hid (plc ad sz 1 = true → ¬ (ckA (PC (PR k).c) (PA (PR k).a) (xE (PR k)) ad sz 2 = true ∧ fnd S.ram.length (n64 ad) sz < 6) → (PL S (wS 0 (PR k) ad) sz (some fun _ => v)) = ⟨0#64, 0#64, tS 7 ad, S⟩) := fun q1 q2 => by
  obtain ⟨z, hz, rfl, h4, hm⟩ := cZ q1
  rw [nL hz rfl]
  refine iX (k := wS 0 (PR k) ad) hm (fun q => q2 ⟨q.1, ?_⟩)
  have q3 := q.2
  unfold thr at q3
  simp [wS] at q3
  exact of_decide_eq_true q3
 have HYE : Hid (plc ad sz 1 = true → ckA (PC (PR k).c) (PA (PR k).a) (xE (PR k)) ad sz 2 = true → fnd S.ram.length (n64 ad) sz < 6 → (PL S (wS 0 (PR k) ad) sz (some fun _ => v)).t = tN ∧ (PL S (wS 0 (PR k) ad) sz (some fun _ => v)).S = (S.sto2 (n64 ad) sz (n64 v)).2) := fun q1 q2 q3 => by
  obtain ⟨z, hz, rfl, h4, hm⟩ := cZ q1
  have hf : fbd S (wS 0 (PR k) ad) z = tN := gP (k := wS 0 (PR k) ad) hm ⟨q2, by unfold thr; simp [wS]; exact decide_eq_true q3⟩
  rw [nL hz rfl]
  rw [oG hf]
  refine ⟨rfl, ?_⟩
  have e0 : mvT S (wS 0 (PR k) ad) z = S := by unfold mvT; exact if_pos rfl
  rw [e0]
  show (S.sto2 (n64 ad) (z : Int) (n64 (bD z v))).2 = _
  rw [mV S (n64 ad) z hz v]
 have HSZ : Hid (plc ad sz 1 = true → -9223372036854775808 ≤ sz ∧ sz ≤ 9223372036854775807) := fun q => by
  obtain ⟨z, hz, rfl, _, _⟩ := cZ q
  unfold cC at hz; omega
 have HS8 : Hid (plc ad sz 1 = true → 1 ≤ sz ∧ sz ≤ 8) := fun q => by
  obtain ⟨z, hz, rfl, _, _⟩ := cZ q
  unfold cC at hz; omega
 have HSS := hid hs
 have HSVa : Hid (1 ≤ sz ∧ sz ≤ 8 → ∀ W, Calls prog 62 #[.agg (cpc (PR k)), .int .u64 (n64 ad), .int .i64 sz] W fun e w' => e = .returned (.agg (cpc (bhK (PR k) ad sz))) ∧ Below W.heap.size W w') := fun q W => rK (PR k) (tR k) ad sz q W
 generalize (PL S (wS 0 (PR k) ad) sz (some fun _ => v)) = m at HNO HFO HYE ⊢
 generalize ckA (PC (PR k).c) (PA (PR k).a) (xE (PR k)) ad sz 2 = q1 at HMY HFO HYE
 generalize plc ad sz 1 = q0 at HPC HNO HFO HYE HSZ HS8
 generalize PR k = K at HPR HMY HSVa ⊢
 have HSK : Hid (stK K m ad sz = if m.t.is = true then K else bhK K ad sz) := rfl
 obtain ⟨K2, hK2⟩ : ∃ K2, K2 = stK K m ad sz := ⟨_, rfl⟩
 rw [← hK2] at HSK ⊢
 clear hK2 h hs r0 r1 r2 b0
 go_enter func33, ntmps33
 go_upto_region 1 with fail
 clear hW0
 go_upto_region 2 with (first | (refine wpList_load_row (by rfl) _ _ (by rfl) _ (by rfl) 31 _ (0, 0) _ HO0.out.r underlying31 (by rfl) (aC _) ?_) | (go_at_call 54; refine (HPR.out _).mono ?_; rintro e w1 ⟨rfl, hb1⟩; have HB1 := hid hb1; clear hb1) | (refine wpList_store_row (by rfl) _ _ _ (by rfl) (by rfl) _ _ _ (by rfl) (by rfl) (HO0.out.post HB1.out).r (aC _) (by rw [aD, aD]) (aW _) ?_))
 refine bE (motive := fun W => Code.wp _ _ _ _ W) (Q := fun W => ROw w c vr vi vo W w.heap.size (cpc K) 31 ∧ ROw w c vr vi vo W (w.heap.size + 1) (cpc cz) 31 ∧ ROw w c vr vi vo W (w.heap.size + 2) (tpc tN) 50 ∧ RSt B c vr vi vo w vr vi vo S W ∧ Below w.heap.size w W)
  ⟨⟨setRow_heap _ _ _ _ _ _ (HO0.out.post HB1.out).r, HO0.out.n, HO0.out.ge⟩, ⟨(setRow_other _ _ _ _ (by omega)).trans (HO1.out.post HB1.out).r, HO1.out.n, HO1.out.ge⟩, ⟨(setRow_other _ _ _ _ (by omega)).trans (HO2.out.post HB1.out).r, HO2.out.n, HO2.out.ge⟩, (HP0.out.post HB1.out).row HO0.out.n HO0.out.ge _, bC (HB0.out.trans (HB1.out.mono HB0.out.size)) (Nat.le_refl _) _⟩ ?_
 clear HO0 HO1 HO2 HP0 HB0 HB1 HPR
 rintro W2 ⟨o0, o1, o2, p2, b2⟩
 have HO0 := hid o0
 have HO1 := hid o1
 have HO2 := hid o2
 have HP2 := hid p2
 have HB2 := hid b2
 clear o0 o1 o2 p2 b2
 clear HB2
 cases q0 with
 | false =>
  have HM : Hid (m = ⟨0#64, 0#64, tS 6 ad, S⟩) := HNO.out rfl
  have HK2 : Hid (K2 = K) := by unfold Hid; rw [HSK.out, if_pos (by rw [HM.out]; rfl)]
  have HPz : Hid (RSt B c vr vi vo w vr vi vo S W2) := HP2
  clear HNO HFO HYE HSZ HMY HSK HS8 HSVa
  go_upto_region 3 with (go_at_call 57; refine (HPC.out _).mono ?_; rintro e wl ⟨rfl, hwl⟩; have hwl2 := hwl.symm; subst hwl2)
  have hltC : Hid (w.heap.size < W2.heap.size) := HO0.out.r.lt
  have HLC : Hid (∀ j v, (cpc K)[j]? = some v → W2.cell? ⟨w.heap.size, 0 + j, none⟩ = some v) := HO0.out.r.agg
  have := aY W2
  refine aM (x0 := bV.start W2) 3 (by kernel_rfl) (by kernel_rfl) ?_
  simp only [List.take_succ_cons, List.take_zero, List.drop_succ_cons, List.drop_zero]
  repeat (first | (refine BigFrame.wpQuiet_want (by rfl) fun KK hK => ?_; refine aV 31 _ (by rfl) (w.heap.size) 0 (by rfl) (cpc K) _ hltC.out HLC.out underlying31 (by rfl) (aC _) (hK _ ?_); clear hK KK; simp only [Act.put, List.setIfInBounds_toArray, List.set_cons_succ, List.set_cons_zero]) | (go_big_quiet_step (first | (go_at_call 56; exact bP (HTR.out 6 (by decide) _)))))
  refine wpQuiet_nil ?_
  rintro w' ⟨x9, rfl⟩
  have H91 : Hid (ROw w c vr vi vo x9.1 (w.heap.size + 1) (cpc cz) 31) := HO1.out.post x9.below
  have H92 : Hid (ROw w c vr vi vo x9.1 (w.heap.size + 2) (tpc tN) 50) := HO2.out.post x9.below
  have H93 : Hid (Row (x9.1.setRow (w.heap.size + 1) (cpc K)) (w.heap.size + 2) (tpc tN) 50) := (setRow_other _ _ _ _ (by omega)).trans H92.out.r
  go_wp2_with (first | (refine wpList_store_row (by rfl) _ _ _ (by rfl) (by rfl) _ _ _ (by rfl) (by rfl) H91.out.r (aC _) (by rw [aD, aD]) (aW _) ?_) | (refine wpList_store_row (by rfl) _ _ _ (by rfl) (by rfl) _ _ _ (by rfl) (by rfl) H93.out (aB _) (aT _ _) (aF _) ?_))
  refine bodyPost_ret (v := .tuple #[.agg (cpc K), .agg (tpc (tS 6 ad))]) (eX _ _ (w.heap.size + 1) (w.heap.size + 2) 31 50 _ _ (0, 0) (0, 0) _ _ results33 (by rfl) (by rfl) ((setRow_other _ _ _ _ (by omega)).trans (setRow_heap _ _ _ _ _ _ H91.out.r)) (setRow_heap _ _ _ _ _ _ H93.out) underlying31 (by rfl) (aC _) underlying50 (by rfl) (aB _)) rfl ⟨by rw [HK2.out, HM.out] <;> rfl, vr, vi, vo, by rw [HM.out]; exact ((HPz.out.post x9.below).row H91.out.n H91.out.ge _).row H92.out.n H92.out.ge _⟩
 | true =>
  have HIR : Hid (∀ W, Below W2.heap.size W2 W → Calls prog 59 #[.pointer (some ⟨c, 0, none⟩), .int .u64 (n64 ad), .int .i64 sz, .int .i64 2] W fun e w' => e = .returned (.bool (decide ((1 : Int) ≤ 2 ∧ (2 : Int) ≤ 3) && decide (fnd S.ram.length (n64 ad) sz < 6))) ∧ w' = W) := fun W hb => AU W (HP2.out.r.later hb) HSS.out.n.1 _ sz 2 ⟨bB _, bG _⟩ (HSZ.out rfl)
  rw [show decide ((1 : Int) ≤ 2 ∧ (2 : Int) ≤ 3) = true by decide, Bool.true_and] at HIR
  have HST : Hid (∀ W, Below W2.heap.size W2 W → Calls prog 61 #[.pointer (some ⟨c, 0, none⟩), .int .u64 (n64 ad), .int .i64 sz, .int .u64 (n64 v)] W fun e w' => e = .returned (.bool (S.sto2 (n64 ad) sz (n64 v)).1) ∧ ∃ ur ui uo, RSt B c vr vi vo W ur ui uo (S.sto2 (n64 ad) sz (n64 v)).2 w') := fun W hb => mS W (HP2.out.r.later hb) HSS.out.n.1 _ sz ⟨bB _, bG _⟩ (HSZ.out rfl) HSS.out.st _ ⟨bB _, bG _⟩
  have HSV : Hid (∀ W, Calls prog 62 #[.agg (cpc K), .int .u64 (n64 ad), .int .i64 sz] W fun e w' => e = .returned (.agg (cpc (bhK K ad sz))) ∧ Below W.heap.size W w') := HSVa.out (HS8.out rfl)
  have HF2 : Hid (¬ (q1 = true ∧ fnd S.ram.length (n64 ad) sz < 6) → m = ⟨0#64, 0#64, tS 7 ad, S⟩) := HFO.out rfl
  have HY2 : Hid (q1 = true → fnd S.ram.length (n64 ad) sz < 6 → m.t = tN ∧ m.S = (S.sto2 (n64 ad) sz (n64 v)).2) := HYE.out rfl
  clear HNO HFO HYE HSZ HSS HSVa HS8
  generalize (S.sto2 (n64 ad) sz (n64 v)).1 = vb1 at HST
  generalize (S.sto2 (n64 ad) sz (n64 v)).2 = S1 at HST HY2
  cases q1 with
  | false =>
   have HM : Hid (m = ⟨0#64, 0#64, tS 7 ad, S⟩) := HF2.out (by simp)
   have HK2 : Hid (K2 = K) := by unfold Hid; rw [HSK.out, if_pos (by rw [HM.out]; rfl)]
   clear HF2 HY2 HST HIR HSK
   go_upto_region 5 with (first | (go_at_call 57; refine (HPC.out _).mono ?_; rintro e wl ⟨rfl, hwl⟩; have hwl2 := hwl.symm; subst hwl2) | (refine wpList_load_row (by rfl) _ _ (by rfl) _ (by rfl) 31 _ (0, 0) _ HO0.out.r underlying31 (by rfl) (aC _) ?_) | (go_at_call 58; refine (HMY.out _).mono ?_; rintro e w3 ⟨rfl, hb3⟩; have HB3 := hid hb3; clear hb3))
   refine bE (motive := fun W => Code.wp _ _ _ _ W) (Q := fun W => ROw w c vr vi vo W w.heap.size (cpc K) 31 ∧ ROw w c vr vi vo W (w.heap.size + 1) (cpc cz) 31 ∧ ROw w c vr vi vo W (w.heap.size + 2) (tpc tN) 50 ∧ RSt B c vr vi vo w vr vi vo S W) ⟨HO0.out.post HB3.out, HO1.out.post HB3.out, HO2.out.post HB3.out, HP2.out.post HB3.out⟩ ?_
   clear HO0 HO1 HO2 HP2 HB3
   rintro W3 ⟨o0, o1, o2, p2⟩
   have HO0 := hid o0
   have HO1 := hid o1
   have HO2 := hid o2
   have HPz := hid p2
   clear o0 o1 o2 p2
   have hltC : Hid (w.heap.size < W3.heap.size) := HO0.out.r.lt
   have HLC : Hid (∀ j v, (cpc K)[j]? = some v → W3.cell? ⟨w.heap.size, 0 + j, none⟩ = some v) := HO0.out.r.agg
   have := aY W3
   refine aM (x0 := bV.start W3) 3 (by kernel_rfl) (by kernel_rfl) ?_
   simp only [List.take_succ_cons, List.take_zero, List.drop_succ_cons, List.drop_zero]
   repeat (first | (refine BigFrame.wpQuiet_want (by rfl) fun KK hK => ?_; refine aV 31 _ (by rfl) (w.heap.size) 0 (by rfl) (cpc K) _ hltC.out HLC.out underlying31 (by rfl) (aC _) (hK _ ?_); clear hK KK; simp only [Act.put, List.setIfInBounds_toArray, List.set_cons_succ, List.set_cons_zero]) | (go_big_quiet_step (first | (go_at_call 56; exact bP (HTR.out 7 (by decide) _)))))
   refine wpQuiet_nil ?_
   rintro w' ⟨x9, rfl⟩
   have H91 : Hid (ROw w c vr vi vo x9.1 (w.heap.size + 1) (cpc cz) 31) := HO1.out.post x9.below
   have H92 : Hid (ROw w c vr vi vo x9.1 (w.heap.size + 2) (tpc tN) 50) := HO2.out.post x9.below
   have H93 : Hid (Row (x9.1.setRow (w.heap.size + 1) (cpc K)) (w.heap.size + 2) (tpc tN) 50) := (setRow_other _ _ _ _ (by omega)).trans H92.out.r
   go_wp2_with (first | (refine wpList_store_row (by rfl) _ _ _ (by rfl) (by rfl) _ _ _ (by rfl) (by rfl) H91.out.r (aC _) (by rw [aD, aD]) (aW _) ?_) | (refine wpList_store_row (by rfl) _ _ _ (by rfl) (by rfl) _ _ _ (by rfl) (by rfl) H93.out (aB _) (aT _ _) (aF _) ?_))
   refine bodyPost_ret (v := .tuple #[.agg (cpc K), .agg (tpc (tS 7 ad))]) (eX _ _ (w.heap.size + 1) (w.heap.size + 2) 31 50 _ _ (0, 0) (0, 0) _ _ results33 (by rfl) (by rfl) ((setRow_other _ _ _ _ (by omega)).trans (setRow_heap _ _ _ _ _ _ H91.out.r)) (setRow_heap _ _ _ _ _ _ H93.out) underlying31 (by rfl) (aC _) underlying50 (by rfl) (aB _)) rfl ⟨by rw [HK2.out, HM.out] <;> rfl, vr, vi, vo, by rw [HM.out]; exact ((HPz.out.post x9.below).row H91.out.n H91.out.ge _).row H92.out.n H92.out.ge _⟩
  | true =>
   by_cases hf : fnd S.ram.length (n64 ad) sz < 6
   ·rw [decide_eq_true hf] at HIR
    obtain ⟨e2, e3⟩ := HY2.out rfl hf
    have HT2 := hid e2
    have E3 := hid e3
    have HK2 : Hid (K2 = bhK K ad sz) := by unfold Hid; rw [HSK.out, if_neg (by rw [HT2.out]; decide)]
    clear HF2 HY2 e2 e3 HSK hf
    go_upto_region 7 with (first | (go_at_call 57; refine (HPC.out _).mono ?_; rintro e wl ⟨rfl, hwl⟩; have hwl2 := hwl.symm; subst hwl2) | (refine wpList_load_row (by rfl) _ _ (by rfl) _ (by rfl) 31 _ (0, 0) _ HO0.out.r underlying31 (by rfl) (aC _) ?_) | (go_at_call 58; refine (HMY.out _).mono ?_; rintro e w3 ⟨rfl, hb3⟩; have HB3 := hid hb3; clear hb3) | (go_at_call 59; refine (HIR.out w3 HB3.out).mono ?_; rintro e wl3 ⟨rfl, hwl3⟩; have hwl4 := hwl3.symm; subst hwl4) | (go_at_call 61; refine (HST.out w3 HB3.out).mono ?_; rintro e w5 ⟨rfl, ur, ui, uo, hp5⟩; have HP5 := hid hp5; clear hp5))
    refine bE (motive := fun W => Code.wp _ _ _ _ W) (Q := fun W => ROw w c ur ui uo W w.heap.size (cpc K) 31 ∧ ROw w c ur ui uo W (w.heap.size + 1) (cpc cz) 31 ∧ ROw w c ur ui uo W (w.heap.size + 2) (tpc tN) 50 ∧ RSt B c vr vi vo w ur ui uo S1 W) ⟨(HO0.out.post HB3.out).bus HP5.out, (HO1.out.post HB3.out).bus HP5.out, (HO2.out.post HB3.out).bus HP5.out, (HP2.out.post HB3.out).trans HP5.out⟩ ?_
    clear HO0 HO1 HO2 HP2 HB3 HP5 HST HIR HPC HMY HTR
    rintro W6 ⟨o0, o1, o2, p2⟩
    have HO0 := hid o0
    have HO1 := hid o1
    have HO2 := hid o2
    have HPz := hid p2
    clear o0 o1 o2 p2
    go_wp2_with (first | (refine wpList_load_row (by rfl) _ _ (by rfl) _ (by rfl) 31 _ (0, 0) _ HO0.out.r underlying31 (by rfl) (aC _) ?_) | (go_at_call 62; refine (HSV.out _).mono ?_; rintro e w7 ⟨rfl, hb7⟩; have HB7 := hid hb7; clear hb7) | (refine aH (by rfl) 50 _ (by rfl) (tpc tN) (by kernel_rfl) ?_) | (refine wpList_store_row (by rfl) _ _ _ (by rfl) (by rfl) _ _ _ (by rfl) (by rfl) (HO1.out.post HB7.out).r (aC _) (by rw [aD, aD]) (aW _) ?_) | (refine wpList_store_row (by rfl) _ _ _ (by rfl) (by rfl) _ _ _ (by rfl) (by rfl) ((setRow_other _ _ _ _ (by omega)).trans (HO2.out.post HB7.out).r) (aB _) (aT _ _) (aF _) ?_))
    refine bodyPost_ret (v := .tuple #[.agg (cpc (bhK K ad sz)), .agg (tpc tN)]) (eX _ _ (w.heap.size + 1) (w.heap.size + 2) 31 50 _ _ (0, 0) (0, 0) _ _ results33 (by rfl) (by rfl) ((setRow_other _ _ _ _ (by omega)).trans (setRow_heap _ _ _ _ _ _ (HO1.out.post HB7.out).r)) (setRow_heap _ _ _ _ _ _ ((setRow_other _ _ _ _ (by omega)).trans (HO2.out.post HB7.out).r)) underlying31 (by rfl) (aC _) underlying50 (by rfl) (aB _)) rfl ⟨by rw [HK2.out, HT2.out], ur, ui, uo, by rw [E3.out]; exact ((HPz.out.post HB7.out).row HO1.out.n HO1.out.ge _).row HO2.out.n HO2.out.ge _⟩
   ·rw [decide_eq_false hf] at HIR
    have HM : Hid (m = ⟨0#64, 0#64, tS 7 ad, S⟩) := HF2.out (fun q => hf q.2)
    have HK2 : Hid (K2 = K) := by unfold Hid; rw [HSK.out, if_pos (by rw [HM.out]; rfl)]
    clear HF2 HY2 HST HSK hf
    go_upto_region 5 with (first | (go_at_call 57; refine (HPC.out _).mono ?_; rintro e wl ⟨rfl, hwl⟩; have hwl2 := hwl.symm; subst hwl2) | (refine wpList_load_row (by rfl) _ _ (by rfl) _ (by rfl) 31 _ (0, 0) _ HO0.out.r underlying31 (by rfl) (aC _) ?_) | (go_at_call 58; refine (HMY.out _).mono ?_; rintro e w3 ⟨rfl, hb3⟩; have HB3 := hid hb3; clear hb3) | (go_at_call 59; refine (HIR.out w3 HB3.out).mono ?_; rintro e wl3 ⟨rfl, hwl3⟩; have hwl4 := hwl3.symm; subst hwl4))
    clear HIR
    refine bE (motive := fun W => Code.wp _ _ _ _ W) (Q := fun W => ROw w c vr vi vo W w.heap.size (cpc K) 31 ∧ ROw w c vr vi vo W (w.heap.size + 1) (cpc cz) 31 ∧ ROw w c vr vi vo W (w.heap.size + 2) (tpc tN) 50 ∧ RSt B c vr vi vo w vr vi vo S W) ⟨HO0.out.post HB3.out, HO1.out.post HB3.out, HO2.out.post HB3.out, HP2.out.post HB3.out⟩ ?_
    clear HO0 HO1 HO2 HP2 HB3
    rintro W3 ⟨o0, o1, o2, p2⟩
    have HO0 := hid o0
    have HO1 := hid o1
    have HO2 := hid o2
    have HPz := hid p2
    clear o0 o1 o2 p2
    have hltC : Hid (w.heap.size < W3.heap.size) := HO0.out.r.lt
    have HLC : Hid (∀ j v, (cpc K)[j]? = some v → W3.cell? ⟨w.heap.size, 0 + j, none⟩ = some v) := HO0.out.r.agg
    have := aY W3
    refine aM (x0 := bV.start W3) 3 (by kernel_rfl) (by kernel_rfl) ?_
    simp only [List.take_succ_cons, List.take_zero, List.drop_succ_cons, List.drop_zero]
    repeat (first | (refine BigFrame.wpQuiet_want (by rfl) fun KK hK => ?_; refine aV 31 _ (by rfl) (w.heap.size) 0 (by rfl) (cpc K) _ hltC.out HLC.out underlying31 (by rfl) (aC _) (hK _ ?_); clear hK KK; simp only [Act.put, List.setIfInBounds_toArray, List.set_cons_succ, List.set_cons_zero]) | (go_big_quiet_step (first | (go_at_call 56; exact bP (HTR.out 7 (by decide) _)))))
    refine wpQuiet_nil ?_
    rintro w' ⟨x9, rfl⟩
    have H91 : Hid (ROw w c vr vi vo x9.1 (w.heap.size + 1) (cpc cz) 31) := HO1.out.post x9.below
    have H92 : Hid (ROw w c vr vi vo x9.1 (w.heap.size + 2) (tpc tN) 50) := HO2.out.post x9.below
    have H93 : Hid (Row (x9.1.setRow (w.heap.size + 1) (cpc K)) (w.heap.size + 2) (tpc tN) 50) := (setRow_other _ _ _ _ (by omega)).trans H92.out.r
    go_wp2_with (first | (refine wpList_store_row (by rfl) _ _ _ (by rfl) (by rfl) _ _ _ (by rfl) (by rfl) H91.out.r (aC _) (by rw [aD, aD]) (aW _) ?_) | (refine wpList_store_row (by rfl) _ _ _ (by rfl) (by rfl) _ _ _ (by rfl) (by rfl) H93.out (aB _) (aT _ _) (aF _) ?_))
    refine bodyPost_ret (v := .tuple #[.agg (cpc K), .agg (tpc (tS 7 ad))]) (eX _ _ (w.heap.size + 1) (w.heap.size + 2) 31 50 _ _ (0, 0) (0, 0) _ _ results33 (by rfl) (by rfl) ((setRow_other _ _ _ _ (by omega)).trans (setRow_heap _ _ _ _ _ _ H91.out.r)) (setRow_heap _ _ _ _ _ _ H93.out) underlying31 (by rfl) (aC _) underlying50 (by rfl) (aB _)) rfl ⟨by rw [HK2.out, HM.out] <;> rfl, vr, vi, vo, by rw [HM.out]; exact ((HPz.out.post x9.below).row H91.out.n H91.out.ge _).row H92.out.n H92.out.ge _⟩
end Go.Proofs.YtiffkbmppmejhaaGreatDoor
