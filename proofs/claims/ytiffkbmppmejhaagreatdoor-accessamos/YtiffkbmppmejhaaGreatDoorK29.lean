import Derived.Test.YtiffkbmppmejhaaGreatDoorK27
namespace Go.Proofs.YtiffkbmppmejhaaGreatDoor
set_option linter.unusedVariables false
set_option maxRecDepth 100000
set_option maxHeartbeats 8000000
open Go.ChangeShapes Go.WideShapes Go.ChangeAt Go.RowKit Go.Deep _root_.Go.Proofs.Tryz
def wA (b : Nat) (K : Cp) (ad : BitVec 64) : Wy := { wS b K ad with r := 3 }
theorem NI (op : Int) (h : dA op ≠ 0) (x y : BitVec 64) (w : World) : Calls prog 65 #[.int .i64 op, .int .u64 (n64 x), .int .u64 (n64 y)] w fun e w' => e = .returned (.tuple #[.int .u64 (n64 (amV op x y)), .bool true]) ∧ Below w.heap.size w w' := by
 unfold dA at h
 by_cases h1 : 77 ≤ op ∧ op ≤ 85
 ·have q := rN (op - 77).toNat (by omega) op (by omega) x y w
  rw [MH _ (by omega)] at q
  unfold amV
  rw [if_pos h1.2]
  exact q
 ·rw [if_neg h1] at h
  by_cases h2 : 88 ≤ op ∧ op ≤ 96
  ·have q := rM (op - 88).toNat (by omega) op (by omega) x y w
   rw [MG _ (by omega)] at q
   unfold amV
   rw [if_neg (by omega)]
   exact q
  ·rw [if_neg h2] at h; exact absurd rfl h
theorem DC (op : Int) : dA op = 0 ∨ dA op = 4 ∨ dA op = 8 := by
 unfold dA
 repeat' split
 ·exact .inr (.inl rfl)
 ·exact .inr (.inr rfl)
 ·exact .inl rfl
theorem NM (v : BitVec 64) (sz : Int) (h : sz = 4 ∨ sz = 8) (w : World) : Calls prog 66 #[.int .u64 (n64 v), .int .i64 sz] w fun e w' => e = .returned (.int .u64 (n64 (bD sz.toNat v))) ∧ Below w.heap.size w w' := by
 rcases h with rfl | rfl
 ·exact (NK v w).mono fun e w' q => ⟨q.1, by rw [q.2]; exact Below.refl _ _⟩
 ·exact (NL v w).mono fun e w' q => ⟨q.1, by rw [q.2]; exact Below.refl _ _⟩
theorem FV {B c : Nat} {S : St} {vr vi vo : Value} (w : World) (h : RB B c S vr vi vo w) (hs : Sok S) (k : Cp) (op : Int) (ad v : BitVec 64) :
  Calls prog 36 #[.agg (cpc k), .pointer (some ⟨c, 0, none⟩), .int .i64 op, .int .u64 (n64 ad), .int .u64 (n64 v)] w fun e w' => e = .returned (.tuple #[.int .u64 (n64 (AM S (PR k) 0 op ad v).old), .int .u64 (n64 (AM S (PR k) 0 op ad v).st), .agg (cpc (stK (PR k) (AM S (PR k) 0 op ad v) ad (dA op))), .agg (tpc (AM S (PR k) 0 op ad v).t)]) ∧ ∃ ur ui uo, RSt B c vr vi vo w ur ui uo (AM S (PR k) 0 op ad v).S w' := by
 obtain ⟨W0, hW0, r0, r1, r2, b0, s0⟩ := fQ w (cpc k) (cpc cz) (tpc tN) 31 31 50
 clear s0
 have hzt := bF
 have hzc := dJ
 have HP0 : Hid (RSt B c vr vi vo w vr vi vo S W0) := (RSt.refl h).post b0
 have hlo : ∀ g, w.heap.size ≤ g → ¬ eU c vr vi vo g := fun g hg e => by have := (dT h e).2; omega
 have HO0 : Hid (ROw w c vr vi vo W0 w.heap.size (cpc k) 31) := ⟨r0, hlo _ (by omega), by omega⟩
 have HO1 : Hid (ROw w c vr vi vo W0 (w.heap.size + 1) (cpc cz) 31) := ⟨r1, hlo _ (by omega), by omega⟩
 have HO2 : Hid (ROw w c vr vi vo W0 (w.heap.size + 2) (tpc tN) 50) := ⟨r2, hlo _ (by omega), by omega⟩
 have HPR : Hid (∀ W, Calls prog 54 #[.agg (cpc k)] W fun e w' => e = .returned (.agg (cpc (PR k))) ∧ Below W.heap.size W w') := fun W => oB k W
 have HB0 := hid b0
 have HAS : Hid (∀ W, Calls prog 64 #[.int .i64 op] W fun e w' => e = .returned (.int .i64 (dA op)) ∧ Below W.heap.size W w') := fun W => hJ op W
 have HTZ : Hid (∀ W, Calls prog 56 #[.int .i64 2, .int .u64 0] W fun e w' => e = .returned (.agg (tpc (tS 2 0#64))) ∧ Below W.heap.size W w') := fun W => fY 2 (by decide) 0#64 W
 have HAMa : Hid (dA op ≠ 0 → ∀ x W, Calls prog 65 #[.int .i64 op, .int .u64 (n64 x), .int .u64 (n64 v)] W fun e w' => e = .returned (.tuple #[.int .u64 (n64 (amV op x v)), .bool true]) ∧ Below W.heap.size W w') := fun q x W => NI op q x v W
 have HM0 : Hid (AM S (PR k) 0 op ad v = if dA op = 0 then ⟨0#64, 0#64, tS 2 0#64, S⟩ else AT S (wA 0 (PR k) ad) (dA op) (some fun x => amV op x v)) := rfl
 have h48 := DC op
 generalize dA op = sz at HAS HAMa HM0 h48 ⊢
 have HPC : Hid (∀ W, Calls prog 57 #[.int .u64 (n64 ad), .int .i64 sz, .int .i64 4] W fun e w' => e = .returned (.bool (plc ad sz 4)) ∧ w' = W) := fun W => gI ad sz 4 W
 have HTR : Hid (∀ (ca : Nat) (_ : ca < 100) W, Calls prog 56 #[.int .i64 ca, .int .u64 (n64 ad)] W fun e w' => e = .returned (.agg (tpc (tS ca ad))) ∧ Below W.heap.size W w') := fun ca hc W => fY ca hc ad W
 have HMY : Hid (∀ W, Calls prog 58 #[.agg (cpc (PR k)), .int .u64 (n64 ad), .int .i64 sz, .int .i64 3] W fun e w' => e = .returned (.bool (ckA (PC (PR k).c) (PA (PR k).a) (xE (PR k)) ad sz 3)) ∧ Below W.heap.size W w') := fun W => mR (PR k) (kA k) ad sz 3 W
 have HNO : Hid (plc ad sz 4 = false → (AT S (wA 0 (PR k) ad) sz (some fun x => amV op x v)) = ⟨0#64, 0#64, tS 6 ad, S⟩) := fun q => xS (k := (wA 0 (PR k) ad)) q
 have HFO : Hid (plc ad sz 4 = true → ¬ (ckA (PC (PR k).c) (PA (PR k).a) (xE (PR k)) ad sz 3 = true ∧ (decide (1 ≤ sz) && hld S.ram.length (n64 ad) sz) = true) → (AT S (wA 0 (PR k) ad) sz (some fun x => amV op x v)) = ⟨0#64, 0#64, tS 7 ad, S⟩) := fun q1 q2 => by
  obtain ⟨z, hz, rfl, h4, hm⟩ := cZ q1
  rw [nK hz rfl (by omega)]
  exact iX (k := { (wA 0 (PR k) ad) with ra := true }) hm q2
 have HYE : Hid (plc ad sz 4 = true → ckA (PC (PR k).c) (PA (PR k).a) (xE (PR k)) ad sz 3 = true → (decide (1 ≤ sz) && hld S.ram.length (n64 ad) sz) = true → n64 (AT S (wA 0 (PR k) ad) sz (some fun x => amV op x v)).old = (S.ld (n64 ad) sz).1.1 ∧ (AT S (wA 0 (PR k) ad) sz (some fun x => amV op x v)).t = tN ∧ (AT S (wA 0 (PR k) ad) sz (some fun x => amV op x v)).st = bD sz.toNat (amV op (AT S (wA 0 (PR k) ad) sz (some fun x => amV op x v)).old v) ∧ (AT S (wA 0 (PR k) ad) sz (some fun x => amV op x v)).S = ((S.ld (n64 ad) sz).2.sto2 (n64 ad) sz (n64 (amV op (AT S (wA 0 (PR k) ad) sz (some fun x => amV op x v)).old v))).2) := fun q1 q2 q3 => by
  obtain ⟨z, hz, rfl, h4, hm⟩ := cZ q1
  have hf : fbd S { (wA 0 (PR k) ad) with ra := true } z = tN := gP (k := { (wA 0 (PR k) ad) with ra := true }) hm ⟨q2, q3⟩
  rw [nK hz rfl (by omega)]
  have ht := (bU (k := { wA 0 (PR k) ad with ra := true }) hz (by rw [hf]; rfl)).1
  rw [oG hf]
  refine ⟨gF (k := { wA 0 (PR k) ad with ra := true }) hs hz ht (by show ¬ ((3 : Int) = 2); decide), rfl, by rw [Int.toNat_natCast], ?_⟩
  have e0 : mvT S { wA 0 (PR k) ad with ra := true } z = (S.ld (n64 ad) z).2 := by unfold mvT; exact if_neg (by show ¬ ((3 : Int) = 2); decide)
  rw [e0]
  show ((S.ld (n64 ad) (z : Int)).2.sto2 (n64 ad) (z : Int) (n64 (bD z (amV op (mvB S { wA 0 (PR k) ad with ra := true } z) v)))).2 = _
  rw [mV _ (n64 ad) z hz]
 have HSZ : Hid (plc ad sz 4 = true → -9223372036854775808 ≤ sz ∧ sz ≤ 9223372036854775807) := fun q => by
  obtain ⟨z, hz, rfl, _, _⟩ := cZ q
  unfold cC at hz; omega
 have HS8 : Hid (plc ad sz 4 = true → 1 ≤ sz ∧ sz ≤ 8) := fun q => by
  obtain ⟨z, hz, rfl, _, _⟩ := cZ q
  unfold cC at hz; omega
 have HSS := hid hs
 have HSVa : Hid (1 ≤ sz ∧ sz ≤ 8 → ∀ W, Calls prog 62 #[.agg (cpc (PR k)), .int .u64 (n64 ad), .int .i64 sz] W fun e w' => e = .returned (.agg (cpc (bhK (PR k) ad sz))) ∧ Below W.heap.size W w') := fun q W => rK (PR k) (tR k) ad sz q W
 generalize AM S (PR k) 0 op ad v = m at HM0 ⊢
 generalize (AT S (wA 0 (PR k) ad) sz (some fun x => amV op x v)) = mm at HNO HFO HYE HM0
 generalize ckA (PC (PR k).c) (PA (PR k).a) (xE (PR k)) ad sz 3 = q1 at HMY HFO HYE
 generalize plc ad sz 4 = q0 at HPC HNO HFO HYE HSZ HS8
 generalize PR k = K at HPR HMY HSVa ⊢
 have HSK : Hid (stK K m ad sz = if m.t.is = true then K else bhK K ad sz) := rfl
 obtain ⟨K2, hK2⟩ : ∃ K2, K2 = stK K m ad sz := ⟨_, rfl⟩
 rw [← hK2] at HSK ⊢
 clear hK2 h hs r0 r1 r2 b0
 go_enter func36, ntmps36
 go_upto_region 1 with fail
 clear hW0
 go_upto_region 2 with (first | (refine wpList_load_row (by rfl) _ _ (by rfl) _ (by rfl) 31 _ (0, 0) _ HO0.out.r underlying31 (by rfl) (aC _) ?_) | (go_at_call 54; refine (HPR.out _).mono ?_; rintro e w1 ⟨rfl, hb1⟩; have HB1 := hid hb1; clear hb1) | (refine wpList_store_row (by rfl) _ _ _ (by rfl) (by rfl) _ _ _ (by rfl) (by rfl) (HO0.out.post HB1.out).r (aC _) (by rw [aD, aD]) (aW _) ?_))
 refine bE (motive := fun W => Code.wp _ _ _ _ W) (Q := fun W => ROw w c vr vi vo W w.heap.size (cpc K) 31 ∧ ROw w c vr vi vo W (w.heap.size + 1) (cpc cz) 31 ∧ ROw w c vr vi vo W (w.heap.size + 2) (tpc tN) 50 ∧ RSt B c vr vi vo w vr vi vo S W ∧ Below w.heap.size w W)
  ⟨⟨setRow_heap _ _ _ _ _ _ (HO0.out.post HB1.out).r, HO0.out.n, HO0.out.ge⟩, ⟨(setRow_other _ _ _ _ (by omega)).trans (HO1.out.post HB1.out).r, HO1.out.n, HO1.out.ge⟩, ⟨(setRow_other _ _ _ _ (by omega)).trans (HO2.out.post HB1.out).r, HO2.out.n, HO2.out.ge⟩, (HP0.out.post HB1.out).row HO0.out.n HO0.out.ge _, bC (HB0.out.trans (HB1.out.mono HB0.out.size)) (Nat.le_refl _) _⟩ ?_
 clear HO0 HO1 HO2 HP0 HB0 HB1 HPR
 rintro W1 ⟨o0, o1, o2, p2, b2⟩
 have HO0 := hid o0
 have HO1 := hid o1
 have HO2 := hid o2
 have HP2 := hid p2
 have HB2 := hid b2
 clear o0 o1 o2 p2 b2
 clear HB2
 go_upto_region 3 with (go_at_call 64; refine (HAS.out _).mono ?_; rintro e w2 ⟨rfl, hb2⟩; have HB2 := hid hb2; clear hb2)
 refine bE (motive := fun W => Code.wp _ _ _ _ W) (Q := fun W => ROw w c vr vi vo W w.heap.size (cpc K) 31 ∧ ROw w c vr vi vo W (w.heap.size + 1) (cpc cz) 31 ∧ ROw w c vr vi vo W (w.heap.size + 2) (tpc tN) 50 ∧ RSt B c vr vi vo w vr vi vo S W) ⟨HO0.out.post HB2.out, HO1.out.post HB2.out, HO2.out.post HB2.out, HP2.out.post HB2.out⟩ ?_
 clear HO0 HO1 HO2 HP2 HB2 HAS
 rintro W2 ⟨o0, o1, o2, p2⟩
 have HO0 := hid o0
 have HO1 := hid o1
 have HO2 := hid o2
 have HP2 := hid p2
 clear o0 o1 o2 p2
 by_cases hz0 : sz = 0
 ·have HM : Hid (m = ⟨0#64, 0#64, tS 2 0#64, S⟩) := by unfold Hid; rw [HM0.out, if_pos hz0]
  have HK2 : Hid (K2 = K) := by unfold Hid; rw [HSK.out, if_pos (by rw [HM.out]; rfl)]
  have HPz : Hid (RSt B c vr vi vo w vr vi vo S W2) := HP2
  clear HNO HFO HYE HSZ HMY HSK HS8 HSVa HAMa HM0 HPC HTR h48
  have hzb : (sz == 0) = true := by rw [hz0]; rfl
  go_upto_region 4 with fail
  clear hz0 hzb
  have hltC : Hid (w.heap.size < W2.heap.size) := HO0.out.r.lt
  have HLC : Hid (∀ j v, (cpc K)[j]? = some v → W2.cell? ⟨w.heap.size, 0 + j, none⟩ = some v) := HO0.out.r.agg
  have := aY W2
  refine aM (x0 := bV.start W2) 4 (by kernel_rfl) (by kernel_rfl) ?_
  simp only [List.take_succ_cons, List.take_zero, List.drop_succ_cons, List.drop_zero]
  repeat (first | (refine BigFrame.wpQuiet_want (by rfl) fun KK hK => ?_; refine aV 31 _ (by rfl) (w.heap.size) 0 (by rfl) (cpc K) _ hltC.out HLC.out underlying31 (by rfl) (aC _) (hK _ ?_); clear hK KK; simp only [Act.put, List.setIfInBounds_toArray, List.set_cons_succ, List.set_cons_zero]) | (go_big_quiet_step (first | (go_at_call 56; exact bP (HTZ.out _)))))
  refine wpQuiet_nil ?_
  rintro w' ⟨x9, rfl⟩
  have H91 : Hid (ROw w c vr vi vo x9.1 (w.heap.size + 1) (cpc cz) 31) := HO1.out.post x9.below
  have H92 : Hid (ROw w c vr vi vo x9.1 (w.heap.size + 2) (tpc tN) 50) := HO2.out.post x9.below
  have H93 : Hid (Row (x9.1.setRow (w.heap.size + 1) (cpc K)) (w.heap.size + 2) (tpc tN) 50) := (setRow_other _ _ _ _ (by omega)).trans H92.out.r
  go_wp2_with (first | (refine wpList_store_row (by rfl) _ _ _ (by rfl) (by rfl) _ _ _ (by rfl) (by rfl) H91.out.r (aC _) (by rw [aD, aD]) (aW _) ?_) | (refine wpList_store_row (by rfl) _ _ _ (by rfl) (by rfl) _ _ _ (by rfl) (by rfl) H93.out (aB _) (aT _ _) (aF _) ?_))
  refine bodyPost_ret (v := .tuple #[.int .u64 0, .int .u64 0, .agg (cpc K), .agg (tpc (tS 2 0#64))]) (dF _ _ (w.heap.size + 1) (w.heap.size + 2) 31 50 _ _ (0, 0) (0, 0) _ _ _ _ results36 (by rfl) (by rfl) (by rfl) (by rfl) ((setRow_other _ _ _ _ (by omega)).trans (setRow_heap _ _ _ _ _ _ H91.out.r)) (setRow_heap _ _ _ _ _ _ H93.out) underlying31 (by rfl) (aC _) underlying50 (by rfl) (aB _)) rfl ⟨by rw [HK2.out, HM.out] <;> rfl, vr, vi, vo, by rw [HM.out]; exact ((HPz.out.post x9.below).row H91.out.n H91.out.ge _).row H92.out.n H92.out.ge _⟩
 have hzb : (sz == 0) = false := by rw [beq_eq_false_iff_ne]; exact hz0
 have hzc : sz = 4 ∨ sz = 8 := by omega
 have HMm : Hid (m = mm) := by unfold Hid; rw [HM0.out, if_neg hz0]
 have HAM : Hid (∀ x W, Calls prog 65 #[.int .i64 op, .int .u64 (n64 x), .int .u64 (n64 v)] W fun e w' => e = .returned (.tuple #[.int .u64 (n64 (amV op x v)), .bool true]) ∧ Below W.heap.size W w') := HAMa.out hz0
 have HLW : Hid (∀ x W, Calls prog 66 #[.int .u64 (n64 x), .int .i64 sz] W fun e w' => e = .returned (.int .u64 (n64 (bD sz.toNat x))) ∧ Below W.heap.size W w') := fun x W => NM x sz hzc W
 rw [← HMm.out] at HNO HFO HYE
 clear HMm HM0 h48 hzc HAMa HTZ mm hz0
 cases q0 with
 | false =>
  have HM : Hid (m = ⟨0#64, 0#64, tS 6 ad, S⟩) := HNO.out rfl
  have HK2 : Hid (K2 = K) := by unfold Hid; rw [HSK.out, if_pos (by rw [HM.out]; rfl)]
  have HPz : Hid (RSt B c vr vi vo w vr vi vo S W2) := HP2
  clear HNO HFO HYE HSZ HMY HSK HS8 HSVa HAM HLW
  go_upto_region 6 with (go_at_call 57; refine (HPC.out _).mono ?_; rintro e wl ⟨rfl, hwl⟩; have hwl2 := hwl.symm; subst hwl2)
  have hltC : Hid (w.heap.size < W2.heap.size) := HO0.out.r.lt
  have HLC : Hid (∀ j v, (cpc K)[j]? = some v → W2.cell? ⟨w.heap.size, 0 + j, none⟩ = some v) := HO0.out.r.agg
  have := aY W2
  refine aM (x0 := bV.start W2) 5 (by kernel_rfl) (by kernel_rfl) ?_
  simp only [List.take_succ_cons, List.take_zero, List.drop_succ_cons, List.drop_zero]
  repeat (first | (refine BigFrame.wpQuiet_want (by rfl) fun KK hK => ?_; refine aV 31 _ (by rfl) (w.heap.size) 0 (by rfl) (cpc K) _ hltC.out HLC.out underlying31 (by rfl) (aC _) (hK _ ?_); clear hK KK; simp only [Act.put, List.setIfInBounds_toArray, List.set_cons_succ, List.set_cons_zero]) | (go_big_quiet_step (first | (go_at_call 56; exact bP (HTR.out 6 (by decide) _)))))
  refine wpQuiet_nil ?_
  rintro w' ⟨x9, rfl⟩
  have H91 : Hid (ROw w c vr vi vo x9.1 (w.heap.size + 1) (cpc cz) 31) := HO1.out.post x9.below
  have H92 : Hid (ROw w c vr vi vo x9.1 (w.heap.size + 2) (tpc tN) 50) := HO2.out.post x9.below
  have H93 : Hid (Row (x9.1.setRow (w.heap.size + 1) (cpc K)) (w.heap.size + 2) (tpc tN) 50) := (setRow_other _ _ _ _ (by omega)).trans H92.out.r
  go_wp2_with (first | (refine wpList_store_row (by rfl) _ _ _ (by rfl) (by rfl) _ _ _ (by rfl) (by rfl) H91.out.r (aC _) (by rw [aD, aD]) (aW _) ?_) | (refine wpList_store_row (by rfl) _ _ _ (by rfl) (by rfl) _ _ _ (by rfl) (by rfl) H93.out (aB _) (aT _ _) (aF _) ?_))
  refine bodyPost_ret (v := .tuple #[.int .u64 0, .int .u64 0, .agg (cpc K), .agg (tpc (tS 6 ad))]) (dF _ _ (w.heap.size + 1) (w.heap.size + 2) 31 50 _ _ (0, 0) (0, 0) _ _ _ _ results36 (by rfl) (by rfl) (by rfl) (by rfl) ((setRow_other _ _ _ _ (by omega)).trans (setRow_heap _ _ _ _ _ _ H91.out.r)) (setRow_heap _ _ _ _ _ _ H93.out) underlying31 (by rfl) (aC _) underlying50 (by rfl) (aB _)) rfl ⟨by rw [HK2.out, HM.out] <;> rfl, vr, vi, vo, by rw [HM.out]; exact ((HPz.out.post x9.below).row H91.out.n H91.out.ge _).row H92.out.n H92.out.ge _⟩
 | true =>
  have HIR : Hid (∀ W, Below W2.heap.size W2 W → Calls prog 63 #[.pointer (some ⟨c, 0, none⟩), .int .u64 (n64 ad), .int .i64 sz] W fun e w' => e = .returned (.bool (decide (1 ≤ sz) && hld S.ram.length (n64 ad) sz)) ∧ w' = W) := fun W hb => iG W (HP2.out.r.later hb) HSS.out.n.1 _ sz ⟨bB _, bG _⟩ (HSZ.out rfl)
  have HLDa : Hid (∀ W, Below W2.heap.size W2 W → Calls prog 60 #[.pointer (some ⟨c, 0, none⟩), .int .u64 (n64 ad), .int .i64 sz] W fun e w' => e = .returned (.tuple #[.int .u64 (S.ld (n64 ad) sz).1.1, .bool (S.ld (n64 ad) sz).1.2]) ∧ ∃ ur ui uo, RSt B c vr vi vo W ur ui uo (S.ld (n64 ad) sz).2 w') := fun W hb => lR W (HP2.out.r.later hb) HSS.out.n.1 _ sz ⟨bB _, bG _⟩ (HSZ.out rfl) HSS.out.st HSS.out.n.2.2.1
  have HST : Hid (∀ (ur ui uo : Value) (W : World), RB B c (S.ld (n64 ad) sz).2 ur ui uo W → Calls prog 61 #[.pointer (some ⟨c, 0, none⟩), .int .u64 (n64 ad), .int .i64 sz, .int .u64 (n64 (amV op m.old v))] W fun e w' => e = .returned (.bool ((S.ld (n64 ad) sz).2.sto2 (n64 ad) sz (n64 (amV op m.old v))).1) ∧ ∃ xr xi xo, RSt B c ur ui uo W xr xi xo ((S.ld (n64 ad) sz).2.sto2 (n64 ad) sz (n64 (amV op m.old v))).2 w') := fun ur ui uo W hr => mS W hr (HSS.out.ld (n64 ad) sz).n.1 _ sz ⟨bB _, bG _⟩ (HSZ.out rfl) (HSS.out.ld (n64 ad) sz).st _ ⟨bB _, bG _⟩
  have HSV : Hid (∀ W, Calls prog 62 #[.agg (cpc K), .int .u64 (n64 ad), .int .i64 sz] W fun e w' => e = .returned (.agg (cpc (bhK K ad sz))) ∧ Below W.heap.size W w') := HSVa.out (HS8.out rfl)
  have HF2 : Hid (¬ (q1 = true ∧ (decide (1 ≤ sz) && hld S.ram.length (n64 ad) sz) = true) → m = ⟨0#64, 0#64, tS 7 ad, S⟩) := HFO.out rfl
  have HY2 : Hid (q1 = true → (decide (1 ≤ sz) && hld S.ram.length (n64 ad) sz) = true → n64 m.old = (S.ld (n64 ad) sz).1.1 ∧ m.t = tN ∧ m.st = bD sz.toNat (amV op m.old v) ∧ m.S = ((S.ld (n64 ad) sz).2.sto2 (n64 ad) sz (n64 (amV op m.old v))).2) := HYE.out rfl
  clear HNO HFO HYE HSZ HSS HSVa HS8
  generalize (decide (1 ≤ sz) && hld S.ram.length (n64 ad) sz) = q2 at HIR HF2 HY2
  generalize ((S.ld (n64 ad) sz).2.sto2 (n64 ad) sz (n64 (amV op m.old v))).1 = vb2 at HST
  generalize ((S.ld (n64 ad) sz).2.sto2 (n64 ad) sz (n64 (amV op m.old v))).2 = S2 at HST HY2
  generalize (S.ld (n64 ad) sz).1.1 = vo1 at HLDa HY2
  generalize (S.ld (n64 ad) sz).1.2 = vb1 at HLDa
  generalize (S.ld (n64 ad) sz).2 = S1 at HLDa HST
  cases q1 with
  | false =>
   have HM : Hid (m = ⟨0#64, 0#64, tS 7 ad, S⟩) := HF2.out (by simp)
   have HK2 : Hid (K2 = K) := by unfold Hid; rw [HSK.out, if_pos (by rw [HM.out]; rfl)]
   clear HF2 HY2 HST HIR HSK HAM HLW HLDa HSV
   go_upto_region 8 with (first | (go_at_call 57; refine (HPC.out _).mono ?_; rintro e wl ⟨rfl, hwl⟩; have hwl2 := hwl.symm; subst hwl2) | (refine wpList_load_row (by rfl) _ _ (by rfl) _ (by rfl) 31 _ (0, 0) _ HO0.out.r underlying31 (by rfl) (aC _) ?_) | (go_at_call 58; refine (HMY.out _).mono ?_; rintro e w3 ⟨rfl, hb3⟩; have HB3 := hid hb3; clear hb3))
   refine bE (motive := fun W => Code.wp _ _ _ _ W) (Q := fun W => ROw w c vr vi vo W w.heap.size (cpc K) 31 ∧ ROw w c vr vi vo W (w.heap.size + 1) (cpc cz) 31 ∧ ROw w c vr vi vo W (w.heap.size + 2) (tpc tN) 50 ∧ RSt B c vr vi vo w vr vi vo S W) ⟨HO0.out.post HB3.out, HO1.out.post HB3.out, HO2.out.post HB3.out, HP2.out.post HB3.out⟩ ?_
   clear HO0 HO1 HO2 HP2 HB3
   rintro W3 ⟨o0, o1, o2, p2⟩
   have HO0 := hid o0
   have HO1 := hid o1
   have HO2 := hid o2
   have HPz := hid p2
   clear o0 o1 o2 p2
   have hltC : Hid (w.heap.size < W3.heap.size) := HO0.out.r.lt
   have HLC : Hid (∀ j v, (cpc K)[j]? = some v → W3.cell? ⟨w.heap.size, 0 + j, none⟩ = some v) := HO0.out.r.agg
   have := aY W3
   refine aM (x0 := bV.start W3) 5 (by kernel_rfl) (by kernel_rfl) ?_
   simp only [List.take_succ_cons, List.take_zero, List.drop_succ_cons, List.drop_zero]
   repeat (first | (refine BigFrame.wpQuiet_want (by rfl) fun KK hK => ?_; refine aV 31 _ (by rfl) (w.heap.size) 0 (by rfl) (cpc K) _ hltC.out HLC.out underlying31 (by rfl) (aC _) (hK _ ?_); clear hK KK; simp only [Act.put, List.setIfInBounds_toArray, List.set_cons_succ, List.set_cons_zero]) | (go_big_quiet_step (first | (go_at_call 56; exact bP (HTR.out 7 (by decide) _)))))
   refine wpQuiet_nil ?_
   rintro w' ⟨x9, rfl⟩
   have H91 : Hid (ROw w c vr vi vo x9.1 (w.heap.size + 1) (cpc cz) 31) := HO1.out.post x9.below
   have H92 : Hid (ROw w c vr vi vo x9.1 (w.heap.size + 2) (tpc tN) 50) := HO2.out.post x9.below
   have H93 : Hid (Row (x9.1.setRow (w.heap.size + 1) (cpc K)) (w.heap.size + 2) (tpc tN) 50) := (setRow_other _ _ _ _ (by omega)).trans H92.out.r
   go_wp2_with (first | (refine wpList_store_row (by rfl) _ _ _ (by rfl) (by rfl) _ _ _ (by rfl) (by rfl) H91.out.r (aC _) (by rw [aD, aD]) (aW _) ?_) | (refine wpList_store_row (by rfl) _ _ _ (by rfl) (by rfl) _ _ _ (by rfl) (by rfl) H93.out (aB _) (aT _ _) (aF _) ?_))
   refine bodyPost_ret (v := .tuple #[.int .u64 0, .int .u64 0, .agg (cpc K), .agg (tpc (tS 7 ad))]) (dF _ _ (w.heap.size + 1) (w.heap.size + 2) 31 50 _ _ (0, 0) (0, 0) _ _ _ _ results36 (by rfl) (by rfl) (by rfl) (by rfl) ((setRow_other _ _ _ _ (by omega)).trans (setRow_heap _ _ _ _ _ _ H91.out.r)) (setRow_heap _ _ _ _ _ _ H93.out) underlying31 (by rfl) (aC _) underlying50 (by rfl) (aB _)) rfl ⟨by rw [HK2.out, HM.out] <;> rfl, vr, vi, vo, by rw [HM.out]; exact ((HPz.out.post x9.below).row H91.out.n H91.out.ge _).row H92.out.n H92.out.ge _⟩
  | true =>
   cases q2 with
   | false =>
    have HM : Hid (m = ⟨0#64, 0#64, tS 7 ad, S⟩) := HF2.out (by simp)
    have HK2 : Hid (K2 = K) := by unfold Hid; rw [HSK.out, if_pos (by rw [HM.out]; rfl)]
    clear HF2 HY2 HST HSK HAM HLW HLDa HSV
    go_upto_region 8 with (first | (go_at_call 57; refine (HPC.out _).mono ?_; rintro e wl ⟨rfl, hwl⟩; have hwl2 := hwl.symm; subst hwl2) | (refine wpList_load_row (by rfl) _ _ (by rfl) _ (by rfl) 31 _ (0, 0) _ HO0.out.r underlying31 (by rfl) (aC _) ?_) | (go_at_call 58; refine (HMY.out _).mono ?_; rintro e w3 ⟨rfl, hb3⟩; have HB3 := hid hb3; clear hb3) | (go_at_call 63; refine (HIR.out w3 HB3.out).mono ?_; rintro e wl3 ⟨rfl, hwl3⟩; have hwl4 := hwl3.symm; subst hwl4))
    clear HIR
    refine bE (motive := fun W => Code.wp _ _ _ _ W) (Q := fun W => ROw w c vr vi vo W w.heap.size (cpc K) 31 ∧ ROw w c vr vi vo W (w.heap.size + 1) (cpc cz) 31 ∧ ROw w c vr vi vo W (w.heap.size + 2) (tpc tN) 50 ∧ RSt B c vr vi vo w vr vi vo S W) ⟨HO0.out.post HB3.out, HO1.out.post HB3.out, HO2.out.post HB3.out, HP2.out.post HB3.out⟩ ?_
    clear HO0 HO1 HO2 HP2 HB3
    rintro W3 ⟨o0, o1, o2, p2⟩
    have HO0 := hid o0
    have HO1 := hid o1
    have HO2 := hid o2
    have HPz := hid p2
    clear o0 o1 o2 p2
    have hltC : Hid (w.heap.size < W3.heap.size) := HO0.out.r.lt
    have HLC : Hid (∀ j v, (cpc K)[j]? = some v → W3.cell? ⟨w.heap.size, 0 + j, none⟩ = some v) := HO0.out.r.agg
    have := aY W3
    refine aM (x0 := bV.start W3) 5 (by kernel_rfl) (by kernel_rfl) ?_
    simp only [List.take_succ_cons, List.take_zero, List.drop_succ_cons, List.drop_zero]
    repeat (first | (refine BigFrame.wpQuiet_want (by rfl) fun KK hK => ?_; refine aV 31 _ (by rfl) (w.heap.size) 0 (by rfl) (cpc K) _ hltC.out HLC.out underlying31 (by rfl) (aC _) (hK _ ?_); clear hK KK; simp only [Act.put, List.setIfInBounds_toArray, List.set_cons_succ, List.set_cons_zero]) | (go_big_quiet_step (first | (go_at_call 56; exact bP (HTR.out 7 (by decide) _)))))
    refine wpQuiet_nil ?_
    rintro w' ⟨x9, rfl⟩
    have H91 : Hid (ROw w c vr vi vo x9.1 (w.heap.size + 1) (cpc cz) 31) := HO1.out.post x9.below
    have H92 : Hid (ROw w c vr vi vo x9.1 (w.heap.size + 2) (tpc tN) 50) := HO2.out.post x9.below
    have H93 : Hid (Row (x9.1.setRow (w.heap.size + 1) (cpc K)) (w.heap.size + 2) (tpc tN) 50) := (setRow_other _ _ _ _ (by omega)).trans H92.out.r
    go_wp2_with (first | (refine wpList_store_row (by rfl) _ _ _ (by rfl) (by rfl) _ _ _ (by rfl) (by rfl) H91.out.r (aC _) (by rw [aD, aD]) (aW _) ?_) | (refine wpList_store_row (by rfl) _ _ _ (by rfl) (by rfl) _ _ _ (by rfl) (by rfl) H93.out (aB _) (aT _ _) (aF _) ?_))
    refine bodyPost_ret (v := .tuple #[.int .u64 0, .int .u64 0, .agg (cpc K), .agg (tpc (tS 7 ad))]) (dF _ _ (w.heap.size + 1) (w.heap.size + 2) 31 50 _ _ (0, 0) (0, 0) _ _ _ _ results36 (by rfl) (by rfl) (by rfl) (by rfl) ((setRow_other _ _ _ _ (by omega)).trans (setRow_heap _ _ _ _ _ _ H91.out.r)) (setRow_heap _ _ _ _ _ _ H93.out) underlying31 (by rfl) (aC _) underlying50 (by rfl) (aB _)) rfl ⟨by rw [HK2.out, HM.out] <;> rfl, vr, vi, vo, by rw [HM.out]; exact ((HPz.out.post x9.below).row H91.out.n H91.out.ge _).row H92.out.n H92.out.ge _⟩
   | true =>
    obtain ⟨e1, e2, e4, e3⟩ := HY2.out rfl rfl
    have HLD : Hid (∀ W, Below W2.heap.size W2 W → Calls prog 60 #[.pointer (some ⟨c, 0, none⟩), .int .u64 (n64 ad), .int .i64 sz] W fun e w' => e = .returned (.tuple #[.int .u64 (n64 m.old), .bool vb1]) ∧ ∃ ur ui uo, RSt B c vr vi vo W ur ui uo S1 w') := by rw [e1]; exact HLDa
    have HT2 := hid e2
    have E4 := hid e4
    have E3 := hid e3
    have HK2 : Hid (K2 = bhK K ad sz) := by unfold Hid; rw [HSK.out, if_neg (by rw [HT2.out]; decide)]
    clear HF2 HY2 e1 e2 e3 e4 HSK HLDa
    obtain ⟨MD, hMD⟩ : ∃ MD, MD = amV op m.old v := ⟨_, rfl⟩
    have HAM2 : Hid (∀ W, Calls prog 65 #[.int .i64 op, .int .u64 (n64 m.old), .int .u64 (n64 v)] W fun e w' => e = .returned (.tuple #[.int .u64 (n64 MD), .bool true]) ∧ Below W.heap.size W w') := by rw [hMD]; exact HAM.out m.old
    rw [← hMD] at E4 HST
    clear hMD HAM
    go_upto_region 12 with (first | (go_at_call 57; refine (HPC.out _).mono ?_; rintro e wl ⟨rfl, hwl⟩; have hwl2 := hwl.symm; subst hwl2) | (refine wpList_load_row (by rfl) _ _ (by rfl) _ (by rfl) 31 _ (0, 0) _ HO0.out.r underlying31 (by rfl) (aC _) ?_) | (go_at_call 58; refine (HMY.out _).mono ?_; rintro e w3 ⟨rfl, hb3⟩; have HB3 := hid hb3; clear hb3) | (go_at_call 63; refine (HIR.out w3 HB3.out).mono ?_; rintro e wl3 ⟨rfl, hwl3⟩; have hwl4 := hwl3.symm; subst hwl4) | (go_at_call 60; refine (HLD.out w3 HB3.out).mono ?_; rintro e w5 ⟨rfl, ur, ui, uo, hp5⟩; have HP5 := hid hp5; clear hp5) | (go_at_call 65; refine (HAM2.out _).mono ?_; rintro e w6 ⟨rfl, hb6⟩; have HB6 := hid hb6; clear hb6) | (go_at_call 61; refine (HST.out ur ui uo w6 (HP5.out.r.later HB6.out)).mono ?_; rintro e w7 ⟨rfl, xr, xi, xo, hp7⟩; have HP7 := hid hp7; clear hp7))
    refine bE (motive := fun W => Code.wp _ _ _ _ W) (Q := fun W => ROw w c xr xi xo W w.heap.size (cpc K) 31 ∧ ROw w c xr xi xo W (w.heap.size + 1) (cpc cz) 31 ∧ ROw w c xr xi xo W (w.heap.size + 2) (tpc tN) 50 ∧ RSt B c vr vi vo w xr xi xo S2 W) ⟨(((HO0.out.post HB3.out).bus HP5.out).post HB6.out).bus HP7.out, (((HO1.out.post HB3.out).bus HP5.out).post HB6.out).bus HP7.out, (((HO2.out.post HB3.out).bus HP5.out).post HB6.out).bus HP7.out, (((HP2.out.post HB3.out).trans HP5.out).post HB6.out).trans HP7.out⟩ ?_
    clear HO0 HO1 HO2 HP2 HB3 HP5 HST HIR HPC HMY HTR HLD HAM2 HP7 HB6
    rintro W6 ⟨o0, o1, o2, p2⟩
    have HO0 := hid o0
    have HO1 := hid o1
    have HO2 := hid o2
    have HPz := hid p2
    clear o0 o1 o2 p2
    have hrw : Hid (∀ w9, Exc (fun j => j = w.heap.size + 1 ∨ j = w.heap.size + 2) W6 w9 → Row w9 w.heap.size (cpc K) 31) := fun w9 hx => (hx.block _ HO0.out.r.lt (fun e => by rcases e with e | e <;> omega)).trans HO0.out.r
    have hS0 : Exc (fun j => j = w.heap.size + 1 ∨ j = w.heap.size + 2) W6 W6.drew := ⟨rfl, rfl, rfl, Nat.le_refl _, fun _ _ _ => rfl⟩
    have hB0 : Below W6.heap.size W6 W6.drew := (Below.refl _ _).drew
    refine wp_region_held (S := fun w' => Exc (fun j => j = w.heap.size + 1 ∨ j = w.heap.size + 2) W6 w') (by kernel_rfl) ?_
    change wpAnyH _ _ _ _ _ _ _ _ W6.drew
    refine aE 0 (some 68) (v := .int .u64 (n64 m.old)) rfl (by kernel_rfl) (by kernel_rfl) (by kernel_rfl) (by kernel_rfl) (fun _ _ _ h => h) (Or.inl ⟨by rfl, fun w9 hSw => by go_simp⟩) hS0 ?_
    try simp only [Act.put, List.setIfInBounds_toArray, List.set_cons_zero, List.set_cons_succ]
    refine aE 1 (some 69) (v := .int .u64 (n64 MD)) rfl (by kernel_rfl) (by kernel_rfl) (by kernel_rfl) (by kernel_rfl) (fun _ _ _ h => h) (Or.inl ⟨by rfl, fun w9 hSw => by go_simp⟩) hS0 ?_
    try simp only [Act.put, List.setIfInBounds_toArray, List.set_cons_zero, List.set_cons_succ]
    refine aE 2 (some 70) (v := .int .i64 sz) rfl (by kernel_rfl) (by kernel_rfl) (by kernel_rfl) (by kernel_rfl) (fun _ _ _ h => h) (Or.inl ⟨by rfl, fun w9 hSw => by go_simp⟩) hS0 ?_
    try simp only [Act.put, List.setIfInBounds_toArray, List.set_cons_zero, List.set_cons_succ]
    refine aE 4 (some 72) (v := .agg (cpc K)) rfl (by kernel_rfl) (by kernel_rfl) (by kernel_rfl) (by kernel_rfl) (fun _ _ _ h => h) (Or.inl ⟨by rfl, fun w9 hSw => ?_⟩) hS0 ?_
    ·have q := bM (P := prog) 31 w.heap.size (cpc K) _ w9 (hrw.out w9 hSw) underlying31 (by rfl) (aC _)
     unfold execOp
     exact q
    try simp only [Act.put, List.setIfInBounds_toArray, List.set_cons_zero, List.set_cons_succ]
    refine aE 5 (some 73) (v := .int .u64 (n64 ad)) rfl (by kernel_rfl) (by kernel_rfl) (by kernel_rfl) (by kernel_rfl) (fun _ _ _ h => h) (Or.inl ⟨by rfl, fun w9 hSw => by go_simp⟩) hS0 ?_
    try simp only [Act.put, List.setIfInBounds_toArray, List.set_cons_zero, List.set_cons_succ]
    refine aE 6 (some 74) (v := .int .i64 sz) rfl (by kernel_rfl) (by kernel_rfl) (by kernel_rfl) (by kernel_rfl) (fun _ _ _ h => h) (Or.inl ⟨by rfl, fun w9 hSw => by go_simp⟩) hS0 ?_
    try simp only [Act.put, List.setIfInBounds_toArray, List.set_cons_zero, List.set_cons_succ]
    refine aE 8 (some 76) (v := .agg (tpc tN)) rfl (by kernel_rfl) (by kernel_rfl) (by kernel_rfl) (by kernel_rfl) (fun _ _ _ h => h) (Or.inl ⟨by rfl, fun w9 hSw => dO 50 _ (by rfl) (tpc tN) (by kernel_rfl) w9⟩) hS0 ?_
    try simp only [Act.put, List.setIfInBounds_toArray, List.set_cons_zero, List.set_cons_succ]
    refine wpAnyH_ready (rs := [3]) (by kernel_rfl) (by simp) ?_
    refine AllReadyH.cons (o := _) rfl (fun KK hKK => ?_) AllReadyH.nil
    rw [if_pos (by rfl)]
    go_simp
    go_at_call 66
    refine (HLW.out _ _).mono ?_
    rintro e w3 ⟨rfl, hb⟩
    have hB3 : Below W6.heap.size W6 w3 := hB0.trans (hb.mono hB0.size)
    have hS3 : Exc (fun j => j = w.heap.size + 1 ∨ j = w.heap.size + 2) W6 w3 := hS0.trans (Exc.of_below hb rfl)
    clear hb
    refine hKK.out _ _ hS3 (fun _ => ?_)
    try simp only [Act.put, List.setIfInBounds_toArray, List.set_cons_zero, List.set_cons_succ]
    refine wpAnyH_ready (rs := [7]) (by kernel_rfl) (by simp) ?_
    refine AllReadyH.cons (o := _) rfl (fun KL hKL => ?_) AllReadyH.nil
    rw [if_pos (by rfl)]
    go_simp
    go_at_call 62
    refine (HSV.out _).mono ?_
    rintro e w4 ⟨rfl, hb⟩
    have hB4 : Below W6.heap.size W6 w4 := hB3.trans (hb.mono hB3.size)
    have hS4 : Exc (fun j => j = w.heap.size + 1 ∨ j = w.heap.size + 2) W6 w4 := hS3.trans (Exc.of_below hb rfl)
    clear hb
    refine hKL.out _ _ hS4 (fun _ => ?_)
    try simp only [Act.put, List.setIfInBounds_toArray, List.set_cons_zero, List.set_cons_succ]
    refine aE 9 (some 10) (v := .int .u64 (n64 m.old)) rfl (by kernel_rfl) (by kernel_rfl) (by kernel_rfl) (by kernel_rfl) (fun _ _ _ h => h) (Or.inl ⟨by rfl, fun w9 hSw => by go_simp⟩) hS4 ?_
    try simp only [Act.put, List.setIfInBounds_toArray, List.set_cons_zero, List.set_cons_succ]
    refine aE 10 (some 11) (v := .int .u64 (n64 (bD sz.toNat MD))) rfl (by kernel_rfl) (by kernel_rfl) (by kernel_rfl) (by kernel_rfl) (fun _ _ _ h => h) (Or.inl ⟨by rfl, fun w9 hSw => by go_simp⟩) hS4 ?_
    try simp only [Act.put, List.setIfInBounds_toArray, List.set_cons_zero, List.set_cons_succ]
    have H1 : Row w4 (w.heap.size + 1) (cpc cz) 31 := (HO1.out.post hB4).r
    have H2 : Row (w4.setRow (w.heap.size + 1) (cpc (bhK K ad sz))) (w.heap.size + 2) (tpc tN) 50 := (setRow_other _ _ _ _ (by omega)).trans (HO2.out.post hB4).r
    have hS5 : Exc (fun j => j = w.heap.size + 1 ∨ j = w.heap.size + 2) W6 (w4.setRow (w.heap.size + 1) (cpc (bhK K ad sz))) := hS4.trans ⟨rfl, rfl, rfl, by simp, fun k hk hn => setRow_other _ _ _ _ (fun e => hn (.inl e))⟩
    have hS6 : Exc (fun j => j = w.heap.size + 1 ∨ j = w.heap.size + 2) W6 ((w4.setRow (w.heap.size + 1) (cpc (bhK K ad sz))).setRow (w.heap.size + 2) (tpc tN)) := hS5.trans ⟨rfl, rfl, rfl, by simp, fun k hk hn => setRow_other _ _ _ _ (fun e => hn (.inr e))⟩
    refine aN 11 31 (.tmp 12) (.tmp 75) (by kernel_rfl) (by kernel_rfl) (w.heap.size + 1) (cpc cz) (cpc (bhK K ad sz)) (by rfl) (by rfl) H1 (aC _) (by rw [aD, aD]) (aW _) hS5 ?_
    try simp only [Act.put, List.setIfInBounds_toArray, List.set_cons_zero, List.set_cons_succ]
    refine aN 12 50 (.tmp 13) (.tmp 76) (by kernel_rfl) (by kernel_rfl) (w.heap.size + 2) (tpc tN) (tpc tN) (by rfl) (by rfl) H2 (aB _) (aT _ _) (aF _) hS6 ?_
    try simp only [Act.put, List.setIfInBounds_toArray, List.set_cons_zero, List.set_cons_succ]
    refine wpAnyH_done (by kernel_rfl) ?_ _
    go_wp2_with fail
    refine bodyPost_ret (v := .tuple #[.int .u64 (n64 m.old), .int .u64 (n64 (bD sz.toNat MD)), .agg (cpc (bhK K ad sz)), .agg (tpc tN)]) (dF _ _ (w.heap.size + 1) (w.heap.size + 2) 31 50 _ _ (0, 0) (0, 0) _ _ _ _ results36 (by rfl) (by rfl) (by rfl) (by rfl) ((setRow_other _ _ _ _ (by omega)).trans (setRow_heap _ _ _ _ _ _ H1)) (setRow_heap _ _ _ _ _ _ H2) underlying31 (by rfl) (aC _) underlying50 (by rfl) (aB _)) rfl ⟨by rw [HK2.out, HT2.out, E4.out], xr, xi, xo, by rw [E3.out]; exact ((HPz.out.post hB4).row HO1.out.n HO1.out.ge _).row HO2.out.n HO2.out.ge _⟩
end Go.Proofs.YtiffkbmppmejhaaGreatDoor
