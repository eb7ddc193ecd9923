import Derived.Test.YtiffkbmppmejhaaGreatDoorK27
namespace Go.Proofs.YtiffkbmppmejhaaGreatDoor
set_option linter.unusedVariables false
set_option maxRecDepth 100000
set_option maxHeartbeats 8000000
open Go.ChangeShapes Go.WideShapes Go.ChangeAt Go.RowKit Go.Deep _root_.Go.Proofs.Tryz
theorem lD {s : Int} (h0 : 0 ≤ s) (h1 : s ≤ 18446744073709551615) : IntKind.u64.wrap s = s := by
 unfold IntKind.wrap
 simp [IntKind.bits, IntKind.signed]
 omega
theorem lC {s : Int} (h0 : 0 ≤ s) (h1 : s ≤ 4294967295) : IntKind.u32.wrap s = s := by
 unfold IntKind.wrap
 simp [IntKind.bits, IntKind.signed]
 omega
theorem EG {S : St} {a z : Int} (h : fnd S.ram.length a z = 0) : (S.ld a z).1.2 = true := by simp only [St.ld, h]
theorem oA {B c : Nat} {S : St} {vr vi vo : Value} (w : World) (h : RB B c S vr vi vo w) (hs : Sok S) (K : Cp) (ad : BitVec 64) (ha : n64 ad % 2 = 0) :
  Calls prog 55 #[.agg (cpc K), .pointer (some ⟨c, 0, none⟩), .int .u64 (n64 ad)] w fun e w' => e = .returned (.tuple #[.int .u64 (n64 (MV S (wF 0 K ad) 2 none).old), .bool (!(MV S (wF 0 K ad) 2 none).t.is)]) ∧ ∃ ur ui uo, RSt B c vr vi vo w ur ui uo (MV S (wF 0 K ad) 2 none).S w' := by
 obtain ⟨W0, hW0, r0, b0, s0⟩ := cO w (cpc K) 31
 have HP0 : Hid (RSt B c vr vi vo w vr vi vo S W0) := (RSt.refl h).post b0.out
 have HFO : Hid (¬ (ckA (PC K.c) (PA K.a) K.md ad 2 4 = true ∧ (decide ((1 : Int) ≤ 2) && hld S.ram.length (n64 ad) 2) = true) → (MV S (wF 0 K ad) 2 none) = ⟨0#64, 0#64, tS 1 ad, S⟩) := fun q => iX (k := wF 0 K ad) ha q
 have HYE : Hid (ckA (PC K.c) (PA K.a) K.md ad 2 4 = true → (decide ((1 : Int) ≤ 2) && hld S.ram.length (n64 ad) 2) = true → n64 (MV S (wF 0 K ad) 2 none).old = (S.ld (n64 ad) 2).1.1 ∧ (MV S (wF 0 K ad) 2 none).t = tN ∧ (MV S (wF 0 K ad) 2 none).S = (S.ld (n64 ad) 2).2 ∧ (S.ld (n64 ad) 2).1.2 = true) := fun q2 q3 => by
  have hz : cC 2 := by simp [cC]
  have hf : fbd S (wF 0 K ad) 2 = tN := gP (k := wF 0 K ad) ha ⟨q2, q3⟩
  have ht := bU (k := wF 0 K ad) hz (by rw [hf]; rfl)
  rw [jF hf]
  exact ⟨gF (k := wF 0 K ad) hs hz ht.1 (by simp [wF]), rfl, by show mvT S (wF 0 K ad) 2 = _; unfold mvT; rw [if_neg (by simp [wF])]; rfl, EG (ht.2.1 rfl)⟩
 have HCK : Hid (∀ W, Calls prog 83 #[.agg (pc K.c K.a), .int .i64 K.md, .int .u64 (n64 ad), .int .i64 2, .int .i64 4] W fun e w' => e = .returned (.bool (ckA (PC K.c) (PA K.a) K.md ad 2 4)) ∧ Below W.heap.size W w') := fun W => rJ K.c K.a K.md ad 2 4 W
 have HIR : Hid (∀ W, Below W0.heap.size W0 W → Calls prog 63 #[.pointer (some ⟨c, 0, none⟩), .int .u64 (n64 ad), .int .i64 2] W fun e w' => e = .returned (.bool (decide ((1 : Int) ≤ 2) && hld S.ram.length (n64 ad) 2)) ∧ w' = W) := fun W hb => iG W (HP0.out.r.later hb) hs.n.1 _ 2 ⟨bB _, bG _⟩ (by decide)
 have HLDa : Hid (∀ W, Below W0.heap.size W0 W → Calls prog 60 #[.pointer (some ⟨c, 0, none⟩), .int .u64 (n64 ad), .int .i64 2] W fun e w' => e = .returned (.tuple #[.int .u64 (S.ld (n64 ad) 2).1.1, .bool (S.ld (n64 ad) 2).1.2]) ∧ ∃ ur ui uo, RSt B c vr vi vo W ur ui uo (S.ld (n64 ad) 2).2 w') := fun W hb => lR W (HP0.out.r.later hb) hs.n.1 _ 2 ⟨bB _, bG _⟩ (by decide) hs.st hs.n.2.2.1
 have HL1 : Hid (∀ j v, (pc K.c K.a)[j]? = some v → W0.cell? ⟨w.heap.size, 47 + j, none⟩ = some v) := r0.out.pmp
 have cm := r0.out.cls.md
 generalize (MV S (wF 0 K ad) 2 none) = m at HFO HYE ⊢
 generalize ckA (PC K.c) (PA K.a) K.md ad 2 4 = q1 at HFO HYE HCK
 generalize (decide ((1 : Int) ≤ 2) && hld S.ram.length (n64 ad) 2) = q2 at HFO HYE HIR
 generalize (S.ld (n64 ad) 2).1.1 = vo1 at HLDa HYE
 generalize (S.ld (n64 ad) 2).1.2 = vb1 at HLDa HYE
 generalize (S.ld (n64 ad) 2).2 = S1 at HLDa HYE
 clear h hs s0 ha
 go_enter func55, ntmps55
 go_upto_region 1 with fail
 clear hW0 r0
 cases q1 with
 | false =>
  have HM : Hid (m = ⟨0#64, 0#64, tS 1 ad, S⟩) := HFO.out (by simp)
  clear HFO HYE HIR HLDa
  go_wp2_with (first | (refine bA (by rfl) _ _ (by rfl) w.heap.size 47 (by rfl) (pc K.c K.a) _ HL1.out underlying27 (by rfl) (cH _ _) ?_) | (go_at_call 83; refine (HCK.out _).mono ?_; rintro e w2 ⟨rfl, hb2⟩; have HB2 := hid hb2; clear hb2))
  go_ret2
  exact ⟨by rw [HM.out]; rfl, vr, vi, vo, by rw [HM.out]; exact HP0.out.post HB2.out⟩
 | true =>
  cases q2 with
  | false =>
   have HM : Hid (m = ⟨0#64, 0#64, tS 1 ad, S⟩) := HFO.out (by simp)
   clear HFO HYE HLDa
   go_wp2_with (first | (refine bA (by rfl) _ _ (by rfl) w.heap.size 47 (by rfl) (pc K.c K.a) _ HL1.out underlying27 (by rfl) (cH _ _) ?_) | (go_at_call 83; refine (HCK.out _).mono ?_; rintro e w2 ⟨rfl, hb2⟩; have HB2 := hid hb2; clear hb2) | (go_at_call 63; refine (HIR.out w2 HB2.out).mono ?_; rintro e wl3 ⟨rfl, hwl3⟩; have hwl4 := hwl3.symm; subst hwl4))
   go_ret2
   exact ⟨by rw [HM.out]; rfl, vr, vi, vo, by rw [HM.out]; exact HP0.out.post HB2.out⟩
  | true =>
   obtain ⟨e1, e2, e3, e4⟩ := HYE.out rfl rfl
   subst e4
   have HLD : Hid (∀ W, Below W0.heap.size W0 W → Calls prog 60 #[.pointer (some ⟨c, 0, none⟩), .int .u64 (n64 ad), .int .i64 2] W fun e w' => e = .returned (.tuple #[.int .u64 vo1, .bool true]) ∧ ∃ ur ui uo, RSt B c vr vi vo W ur ui uo S1 w') := HLDa
   have E1 := hid e1
   have E2 := hid e2
   have E3 := hid e3
   clear HFO HYE HLDa e1 e2 e3
   go_wp2_with (first | (refine bA (by rfl) _ _ (by rfl) w.heap.size 47 (by rfl) (pc K.c K.a) _ HL1.out underlying27 (by rfl) (cH _ _) ?_) | (go_at_call 83; refine (HCK.out _).mono ?_; rintro e w2 ⟨rfl, hb2⟩; have HB2 := hid hb2; clear hb2) | (go_at_call 63; refine (HIR.out w2 HB2.out).mono ?_; rintro e wl3 ⟨rfl, hwl3⟩; have hwl4 := hwl3.symm; subst hwl4) | (go_at_call 60; refine (HLD.out w2 HB2.out).mono ?_; rintro e w5 ⟨rfl, ur, ui, uo, hp5⟩; have HP5 := hid hp5; clear hp5))
   go_ret2
   exact ⟨by rw [E1.out, E2.out]; rfl, ur, ui, uo, by rw [E3.out]; exact (HP0.out.post HB2.out).trans HP5.out⟩
theorem gK (k : Cp) : n64 (PR k).pc % 2 = 0 ∧ n64 ((PR k).pc + 2#64) % 2 = 0 := by
 have e : (PR k).pc = k.pc &&& ~~~1#64 := rfl
 have h1 : (PR k).pc.toNat % 2 = 0 := by
  have q : (PR k).pc.getLsbD 0 = false := by rw [e]; simp
  rw [BitVec.getLsbD, Nat.testBit_zero] at q
  have := of_decide_eq_false q
  omega
 unfold n64
 rw [BitVec.toNat_add]
 constructor
 ·omega
 ·show (((PR k).pc.toNat + 2) % 18446744073709551616 : Nat) % (2 : Int) = 0
  omega
theorem DF (x : BitVec 64) : bits .and .u64 (n64 x) 3 = n64 x % 4 := by
 have q : bits .and .u64 (n64 x) 3 = n64 (x &&& 3#64) := bY x 3#64
 rw [q]
 unfold n64
 rw [BitVec.toNat_and]
 have e : x.toNat &&& (3#64).toNat = x.toNat % 4 := Nat.and_two_pow_sub_one_eq_mod x.toNat 2
 rw [e]
 omega
theorem tP {S : St} {K : Cp} {ad : BitVec 64} (ha : n64 ad % 2 = 0) (h : (MV S (wF 0 K ad) 2 none).t.is = true) : MV S (wF 0 K ad) 2 none = ⟨0#64, 0#64, tS 1 ad, S⟩ := by
 by_cases q : ckA (PC K.c) (PA K.a) K.md ad 2 4 = true ∧ (decide ((1 : Int) ≤ 2) && hld S.ram.length (n64 ad) 2) = true
 ·rw [jF (gP (k := wF 0 K ad) ha q)] at h
  cases h
 ·exact iX (k := wF 0 K ad) ha q
theorem wX {B c : Nat} {S : St} {vr vi vo : Value} (w : World) (h : RB B c S vr vi vo w) (hs : Sok S) (k : Cp) :
  Calls prog 31 #[.agg (cpc k), .pointer (some ⟨c, 0, none⟩)] w fun e w' => e = .returned (.tuple #[.int .u32 (FT S (PR k) 0).raw, .int .i64 (FT S (PR k) 0).n, .agg (tpc (FT S (PR k) 0).t)]) ∧ ∃ ur ui uo, RSt B c vr vi vo w ur ui uo (FT S (PR k) 0).S w' := by
 obtain ⟨W0, hW0, r0, r1, b0, s0⟩ := cJ w (cpc k) (tpc tN) 31 50
 have hzt := bF
 have HP0 : Hid (RSt B c vr vi vo w vr vi vo S W0) := (RSt.refl h).post b0.out
 have hlo : ∀ g, w.heap.size ≤ g → ¬ eU c vr vi vo g := fun g hg e => by have := (dT h e).2; omega
 have HO0 : Hid (ROw w c vr vi vo W0 w.heap.size (cpc k) 31) := ⟨r0.out, hlo _ (by omega), by omega⟩
 have HO1 : Hid (ROw w c vr vi vo W0 (w.heap.size + 1) (tpc tN) 50) := ⟨r1.out, hlo _ (by omega), by omega⟩
 have HPR : Hid (∀ W, Calls prog 54 #[.agg (cpc k)] W fun e w' => e = .returned (.agg (cpc (PR k))) ∧ Below W.heap.size W w') := fun W => oB k W
 have HPA : Hid (∀ W, RB B c S vr vi vo W → Calls prog 55 #[.agg (cpc (PR k)), .pointer (some ⟨c, 0, none⟩), .int .u64 (n64 (PR k).pc)] W fun e w' => e = .returned (.tuple #[.int .u64 (n64 (MV S (wF 0 (PR k) (PR k).pc) 2 none).old), .bool (!(MV S (wF 0 (PR k) (PR k).pc) 2 none).t.is)]) ∧ ∃ ur ui uo, RSt B c vr vi vo W ur ui uo (MV S (wF 0 (PR k) (PR k).pc) 2 none).S w') := fun W hr => oA W hr hs (PR k) (PR k).pc (gK k).1
 have HPB : Hid (∀ ur ui uo W, RB B c (MV S (wF 0 (PR k) (PR k).pc) 2 none).S ur ui uo W → Calls prog 55 #[.agg (cpc (PR k)), .pointer (some ⟨c, 0, none⟩), .int .u64 (n64 ((PR k).pc + 2#64))] W fun e w' => e = .returned (.tuple #[.int .u64 (n64 (MV (MV S (wF 0 (PR k) (PR k).pc) 2 none).S (wF 0 (PR k) ((PR k).pc + 2#64)) 2 none).old), .bool (!(MV (MV S (wF 0 (PR k) (PR k).pc) 2 none).S (wF 0 (PR k) ((PR k).pc + 2#64)) 2 none).t.is)]) ∧ ∃ xr xi xo, RSt B c ur ui uo W xr xi xo (MV (MV S (wF 0 (PR k) (PR k).pc) 2 none).S (wF 0 (PR k) ((PR k).pc + 2#64)) 2 none).S w') := fun ur ui uo W hr => oA W hr (jG hs) (PR k) ((PR k).pc + 2#64) (gK k).2
 have HT1 : Hid (∀ W, Calls prog 56 #[.int .i64 1, .int .u64 (n64 (PR k).pc)] W fun e w' => e = .returned (.agg (tpc (tS 1 (PR k).pc))) ∧ Below W.heap.size W w') := fun W => fY 1 (by decide) (PR k).pc W
 have HT3 : Hid (∀ W, Calls prog 56 #[.int .i64 1, .int .u64 (n64 ((PR k).pc + 2#64))] W fun e w' => e = .returned (.agg (tpc (tS 1 ((PR k).pc + 2#64)))) ∧ Below W.heap.size W w') := fun W => fY 1 (by decide) ((PR k).pc + 2#64) W
 have HM1 : Hid ((MV S (wF 0 (PR k) (PR k).pc) 2 none).t.is = true → (MV S (wF 0 (PR k) (PR k).pc) 2 none).t = tS 1 (PR k).pc) := fun q => by rw [tP (gK k).1 q]
 have HM2 : Hid ((MV (MV S (wF 0 (PR k) (PR k).pc) 2 none).S (wF 0 (PR k) ((PR k).pc + 2#64)) 2 none).t.is = true → (MV (MV S (wF 0 (PR k) (PR k).pc) 2 none).S (wF 0 (PR k) ((PR k).pc + 2#64)) 2 none).t = tS 1 ((PR k).pc + 2#64)) := fun q => by rw [tP (gK k).2 q]
 have hl1 : n64 (MV S (wF 0 (PR k) (PR k).pc) 2 none).old < 65536 := lV hs (by simp [cC])
 have hl2 : n64 (MV (MV S (wF 0 (PR k) (PR k).pc) 2 none).S (wF 0 (PR k) ((PR k).pc + 2#64)) 2 none).old < 65536 := lV (jG hs) (by simp [cC])
 have HFT : Hid (FT S (PR k) 0 = FT2 (MV S (wF 0 (PR k) (PR k).pc) 2 none) (MV (MV S (wF 0 (PR k) (PR k).pc) 2 none).S (wF 0 (PR k) ((PR k).pc + 2#64)) 2 none)) := rfl
 obtain ⟨ft, hft⟩ : ∃ ft, ft = FT S (PR k) 0 := ⟨_, rfl⟩
 rw [← hft] at HFT ⊢
 clear hft
 generalize (MV (MV S (wF 0 (PR k) (PR k).pc) 2 none).S (wF 0 (PR k) ((PR k).pc + 2#64)) 2 none) = m2 at HPB hl2 HFT HM2
 generalize (MV S (wF 0 (PR k) (PR k).pc) 2 none) = m1 at HPA HPB hl1 HFT HM1
 generalize PR k = K at HPR HPA HPB HT1 HT3 HM1 HM2
 have HN1 : Hid (0 ≤ n64 m1.old ∧ n64 m1.old < 65536) := ⟨bB _, hl1⟩
 have HN2 : Hid (0 ≤ n64 m2.old ∧ n64 m2.old < 65536) := ⟨bB _, hl2⟩
 have hpc : IntKind.u64.wrap (n64 K.pc + 2) = n64 (K.pc + 2#64) := eZ K.pc 2#64
 have ea3 := DF m1.old
 clear h hs s0 r0 r1 b0 hl1 hl2
 go_enter func31, ntmps31
 go_upto_region 1 with fail
 clear hW0
 go_upto_region 2 with (first | (refine wpList_load_row (by rfl) _ _ (by rfl) _ (by rfl) 31 _ (0, 0) _ HO0.out.r underlying31 (by rfl) (aC _) ?_) | (go_at_call 54; refine (HPR.out _).mono ?_; rintro e w1 ⟨rfl, hb1⟩; have HB1 := hid hb1; clear hb1) | (refine wpList_store_row (by rfl) _ _ _ (by rfl) (by rfl) _ _ _ (by rfl) (by rfl) (HO0.out.post HB1.out).r (aC _) (by rw [aD, aD]) (aW _) ?_))
 refine bE (motive := fun W => Code.wp _ _ _ _ W) (Q := fun W => ROw w c vr vi vo W w.heap.size (cpc K) 31 ∧ ROw w c vr vi vo W (w.heap.size + 1) (tpc tN) 50 ∧ RSt B c vr vi vo w vr vi vo S W)
  ⟨⟨setRow_heap _ _ _ _ _ _ (HO0.out.post HB1.out).r, HO0.out.n, HO0.out.ge⟩, ⟨(setRow_other _ _ _ _ (by omega)).trans (HO1.out.post HB1.out).r, HO1.out.n, HO1.out.ge⟩, (HP0.out.post HB1.out).row HO0.out.n HO0.out.ge _⟩ ?_
 clear HO0 HO1 HP0 HB1 HPR
 rintro W2 ⟨o0, o1, p2⟩
 have HO0 := hid o0
 have HO1 := hid o1
 have HP2 := hid p2
 have cpx := o0.r.cls.pc
 clear o0 o1 p2
 have HC : Hid (Calls prog 55 #[.agg (cpc K), .pointer (some ⟨c, 0, none⟩), .int .u64 (n64 K.pc)] W2 fun e w' => e = .returned (.tuple #[.int .u64 (n64 m1.old), .bool (!m1.t.is)]) ∧ ∃ ur ui uo, RSt B c vr vi vo W2 ur ui uo m1.S w') := HPA.out W2 HP2.out.r
 clear HPA
 go_upto_region 3 with (first | (refine wpList_load_row (by rfl) _ _ (by rfl) _ (by rfl) 31 _ (0, 0) _ HO0.out.r underlying31 (by rfl) (aC _) ?_) | (go_at_call 55; refine HC.out.mono ?_; rintro e w3 ⟨rfl, ur, ui, uo, hp3⟩; have HP3 := hid hp3; clear hp3))
 refine bE (motive := fun W => Code.wp _ _ _ _ W) (Q := fun W => ROw w c ur ui uo W w.heap.size (cpc K) 31 ∧ ROw w c ur ui uo W (w.heap.size + 1) (tpc tN) 50 ∧ RSt B c vr vi vo w ur ui uo m1.S W) ⟨HO0.out.bus HP3.out, HO1.out.bus HP3.out, HP2.out.trans HP3.out⟩ ?_
 clear HO0 HO1 HP2 HP3 HC cpx
 rintro W4 ⟨o0, o1, p2⟩
 have HO0 := hid o0
 have HO1 := hid o1
 have HP4 := hid p2
 have cpx := o0.r.cls.pc
 clear o0 o1 p2
 obtain ⟨q, hq⟩ : ∃ q, q = m1.t.is := ⟨_, rfl⟩
 rw [← hq]
 have HQ : Hid (m1.t.is = q) := hq.symm
 clear hq
 cases q with
 | true =>
  have HT : Hid (m1.t = tS 1 K.pc) := HM1.out HQ.out
  have HF : Hid (ft = ⟨0, 0, tS 1 K.pc, m1.S⟩) := by unfold Hid; rw [HFT.out, FT2, if_pos HQ.out, HT.out]
  clear HFT HPB HN1 HN2 hpc ea3 HM1 HM2 HT3
  go_wp2_with (first | (go_at_call 56; refine (HT1.out _).mono ?_; rintro e w9 ⟨rfl, hb9⟩; have HB9 := hid hb9; clear hb9) | (refine wpList_store_row (by rfl) _ _ _ (by rfl) (by rfl) _ _ _ (by rfl) (by rfl) (HO1.out.post HB9.out).r (aB _) (aT _ _) (aF _) ?_))
  refine bodyPost_ret (v := .tuple #[.int .u32 (0), .int .i64 0, .agg (tpc (tS 1 K.pc))]) (aX results31 _ _ (w.heap.size + 1) 50 _ (0, 0) _ _ _ (by rfl) (by rfl) (by rfl) (setRow_heap _ _ _ _ _ _ (HO1.out.post HB9.out).r) underlying50 (by rfl) (aB _)) rfl ⟨by rw [HF.out], ur, ui, uo, by rw [HF.out]; exact (HP4.out.post HB9.out).row HO1.out.n HO1.out.ge _⟩
 | false =>
  by_cases h3 : n64 m1.old % 4 = 3
  ·rw [h3] at ea3
   have HC : Hid (Calls prog 55 #[.agg (cpc K), .pointer (some ⟨c, 0, none⟩), .int .u64 (n64 (K.pc + 2#64))] W4 fun e w' => e = .returned (.tuple #[.int .u64 (n64 m2.old), .bool (!m2.t.is)]) ∧ ∃ xr xi xo, RSt B c ur ui uo W4 xr xi xo m2.S w') := HPB.out ur ui uo W4 HP4.out.r
   have HFa : Hid (ft = if m2.t.is = true then ⟨0, 0, m2.t, m2.S⟩ else ⟨n64 m2.old * 65536 + n64 m1.old, 4, tN, m2.S⟩) := by unfold Hid; rw [HFT.out, FT2, if_neg (by rw [HQ.out]; decide), if_pos h3]
   clear HFT HPB HM1 HT1
   go_upto_region 8 with (first | (refine wpList_load_row (by rfl) _ _ (by rfl) _ (by rfl) 31 _ (0, 0) _ HO0.out.r underlying31 (by rfl) (aC _) ?_) | (go_at_call 55; refine HC.out.mono ?_; rintro e w5 ⟨rfl, xr, xi, xo, hp5⟩; have HP5 := hid hp5; clear hp5))
   refine bE (motive := fun W => Code.wp _ _ _ _ W) (Q := fun W => ROw w c xr xi xo W w.heap.size (cpc K) 31 ∧ ROw w c xr xi xo W (w.heap.size + 1) (tpc tN) 50 ∧ RSt B c vr vi vo w xr xi xo m2.S W) ⟨HO0.out.bus HP5.out, HO1.out.bus HP5.out, HP4.out.trans HP5.out⟩ ?_
   clear HO0 HO1 HP4 HP5 HC cpx ea3
   rintro W6 ⟨o0, o1, p2⟩
   have HO0 := hid o0
   have HO1 := hid o1
   have HP6 := hid p2
   have cpx := o0.r.cls.pc
   clear o0 o1 p2
   obtain ⟨q, hq⟩ : ∃ q, q = m2.t.is := ⟨_, rfl⟩
   rw [← hq]
   have HQ2 : Hid (m2.t.is = q) := hq.symm
   clear hq
   cases q with
   | true =>
    have HT : Hid (m2.t = tS 1 (K.pc + 2#64)) := HM2.out HQ2.out
    have HF : Hid (ft = ⟨0, 0, tS 1 (K.pc + 2#64), m2.S⟩) := by unfold Hid; rw [HFa.out, if_pos HQ2.out, HT.out]
    clear HFa HN1 HN2 HM2
    go_wp2_with (first | (go_at_call 56; refine (HT3.out _).mono ?_; rintro e w9 ⟨rfl, hb9⟩; have HB9 := hid hb9; clear hb9) | (refine wpList_store_row (by rfl) _ _ _ (by rfl) (by rfl) _ _ _ (by rfl) (by rfl) (HO1.out.post HB9.out).r (aB _) (aT _ _) (aF _) ?_))
    refine bodyPost_ret (v := .tuple #[.int .u32 (0), .int .i64 0, .agg (tpc (tS 1 (K.pc + 2#64)))]) (aX results31 _ _ (w.heap.size + 1) 50 _ (0, 0) _ _ _ (by rfl) (by rfl) (by rfl) (setRow_heap _ _ _ _ _ _ (HO1.out.post HB9.out).r) underlying50 (by rfl) (aB _)) rfl ⟨by rw [HF.out], xr, xi, xo, by rw [HF.out]; exact (HP6.out.post HB9.out).row HO1.out.n HO1.out.ge _⟩
   | false =>
    have HF : Hid (ft = ⟨n64 m2.old * 65536 + n64 m1.old, 4, tN, m2.S⟩) := by unfold Hid; rw [HFa.out, if_neg (by rw [HQ2.out]; decide)]
    clear HFa HM2 HT3 hpc cpx
    have s1 : IntKind.u64.wrap (n64 m2.old * 65536) = n64 m2.old * 65536 := lD (by have := HN2.out; omega) (by have := HN2.out; omega)
    have s2 : IntKind.u64.wrap (n64 m2.old * 65536 + n64 m1.old) = n64 m2.old * 65536 + n64 m1.old := lD (by have := HN2.out; have := HN1.out; omega) (by have := HN2.out; have := HN1.out; omega)
    have s3 : IntKind.u32.wrap (n64 m2.old * 65536 + n64 m1.old) = n64 m2.old * 65536 + n64 m1.old := lC (by have := HN2.out; have := HN1.out; omega) (by have := HN2.out; have := HN1.out; omega)
    --@CUT1
    go_wp2_with (first | (refine aH (by rfl) 50 _ (by rfl) (tpc tN) (by kernel_rfl) ?_) | (refine wpList_store_row (by rfl) _ _ _ (by rfl) (by rfl) _ _ _ (by rfl) (by rfl) HO1.out.r (aB _) (aT _ _) (aF _) ?_))
    refine bodyPost_ret (v := .tuple #[.int .u32 (n64 m2.old * 65536 + n64 m1.old), .int .i64 4, .agg (tpc (tN))]) (aX results31 _ _ (w.heap.size + 1) 50 _ (0, 0) _ _ _ (by rfl) (by rfl) (by rfl) (setRow_heap _ _ _ _ _ _ HO1.out.r) underlying50 (by rfl) (aB _)) rfl ⟨by rw [HF.out], xr, xi, xo, by rw [HF.out]; exact HP6.out.row HO1.out.n HO1.out.ge _⟩
  ·have HF : Hid (ft = ⟨n64 m1.old, 2, tN, m1.S⟩) := by unfold Hid; rw [HFT.out, FT2, if_neg (by rw [HQ.out]; decide), if_neg h3]
   clear HFT HPB HM1 HT1 HM2 HT3 hpc cpx
   have hne : (n64 m1.old % 4 != 3) = true := by rw [bne_iff_ne]; exact h3
   have s3 : IntKind.u32.wrap (n64 m1.old) = n64 m1.old := lC (by have := HN1.out; omega) (by have := HN1.out; omega)
   go_wp2_with (first | (refine aH (by rfl) 50 _ (by rfl) (tpc tN) (by kernel_rfl) ?_) | (refine wpList_store_row (by rfl) _ _ _ (by rfl) (by rfl) _ _ _ (by rfl) (by rfl) HO1.out.r (aB _) (aT _ _) (aF _) ?_))
   refine bodyPost_ret (v := .tuple #[.int .u32 (n64 m1.old), .int .i64 2, .agg (tpc (tN))]) (aX results31 _ _ (w.heap.size + 1) 50 _ (0, 0) _ _ _ (by rfl) (by rfl) (by rfl) (setRow_heap _ _ _ _ _ _ HO1.out.r) underlying50 (by rfl) (aB _)) rfl ⟨by rw [HF.out], ur, ui, uo, by rw [HF.out]; exact HP4.out.row HO1.out.n HO1.out.ge _⟩
theorem AW {B c : Nat} {S : St} {vr vi vo : Value} (w : World) (h : RB B c S vr vi vo w) (hs : Sok S) (k : Cp) (ad : BitVec 64) (sz : Int) (v : BitVec 64) :
  Calls prog 35 #[.agg (cpc k), .pointer (some ⟨c, 0, none⟩), .int .u64 (n64 ad), .int .i64 sz, .int .u64 (n64 v)] w fun e w' => e = .returned (.tuple #[.bool (!(AT S (wS 0 (PR k) ad) sz (if hel (PR k) ad sz = true then some (fun _ => v) else none)).t.is && hel (PR k) ad sz), .agg (cpc (if (AT S (wS 0 (PR k) ad) sz (if hel (PR k) ad sz = true then some (fun _ => v) else none)).t.is = true then PR k else nores (PR k))), .agg (tpc (AT S (wS 0 (PR k) ad) sz (if hel (PR k) ad sz = true then some (fun _ => v) else none)).t)]) ∧ ∃ ur ui uo, RSt B c vr vi vo w ur ui uo (AT S (wS 0 (PR k) ad) sz (if hel (PR k) ad sz = true then some (fun _ => v) else none)).S w' := by
 obtain ⟨W0, hW0, r0, r1, r2, b0, s0⟩ := fQ w (cpc k) (cpc cz) (tpc tN) 31 31 50
 clear s0
 have hzt := bF
 have hzc := dJ
 have HP0 : Hid (RSt B c vr vi vo w vr vi vo S W0) := (RSt.refl h).post b0
 have hlo : ∀ g, w.heap.size ≤ g → ¬ eU c vr vi vo g := fun g hg e => by have := (dT h e).2; omega
 have HO0 : Hid (ROw w c vr vi vo W0 w.heap.size (cpc k) 31) := ⟨r0, hlo _ (by omega), by omega⟩
 have HO1 : Hid (ROw w c vr vi vo W0 (w.heap.size + 1) (cpc cz) 31) := ⟨r1, hlo _ (by omega), by omega⟩
 have HO2 : Hid (ROw w c vr vi vo W0 (w.heap.size + 2) (tpc tN) 50) := ⟨r2, hlo _ (by omega), by omega⟩
 have HPR : Hid (∀ W, Calls prog 54 #[.agg (cpc k)] W fun e w' => e = .returned (.agg (cpc (PR k))) ∧ Below W.heap.size W w') := fun W => oB k W
 have HB0 := hid b0
 have HPC : Hid (∀ W, Calls prog 57 #[.int .u64 (n64 ad), .int .i64 sz, .int .i64 4] W fun e w' => e = .returned (.bool (plc ad sz 4)) ∧ w' = W) := fun W => gI ad sz 4 W
 have HTR : Hid (∀ (ca : Nat) (_ : ca < 100) W, Calls prog 56 #[.int .i64 ca, .int .u64 (n64 ad)] W fun e w' => e = .returned (.agg (tpc (tS ca ad))) ∧ Below W.heap.size W w') := fun ca hc W => fY ca hc ad W
 have HMY : Hid (∀ W, Calls prog 58 #[.agg (cpc (PR k)), .int .u64 (n64 ad), .int .i64 sz, .int .i64 2] W fun e w' => e = .returned (.bool (ckA (PC (PR k).c) (PA (PR k).a) (xE (PR k)) ad sz 2)) ∧ Below W.heap.size W w') := fun W => mR (PR k) (kA k) ad sz 2 W
 have HNO : Hid (plc ad sz 4 = false → (AT S (wS 0 (PR k) ad) sz (if hel (PR k) ad sz = true then some (fun _ => v) else none)) = ⟨0#64, 0#64, tS 6 ad, S⟩) := fun q => xS (k := wS 0 (PR k) ad) q
 have HFO : Hid (plc ad sz 4 = true → ¬ (ckA (PC (PR k).c) (PA (PR k).a) (xE (PR k)) ad sz 2 = true ∧ (decide (1 ≤ sz) && hld S.ram.length (n64 ad) sz) = true) → (AT S (wS 0 (PR k) ad) sz (if hel (PR k) ad sz = true then some (fun _ => v) else none)) = ⟨0#64, 0#64, tS 7 ad, S⟩) := fun q1 q2 => by
  obtain ⟨z, hz, rfl, h4, hm⟩ := cZ q1
  rw [nK hz rfl (by omega)]
  exact iX (k := { wS 0 (PR k) ad with ra := true }) hm q2
 have HYE : Hid (plc ad sz 4 = true → ckA (PC (PR k).c) (PA (PR k).a) (xE (PR k)) ad sz 2 = true → (decide (1 ≤ sz) && hld S.ram.length (n64 ad) sz) = true → (AT S (wS 0 (PR k) ad) sz (if hel (PR k) ad sz = true then some (fun _ => v) else none)).t = tN ∧ (AT S (wS 0 (PR k) ad) sz (if hel (PR k) ad sz = true then some (fun _ => v) else none)).S = if hel (PR k) ad sz = true then (S.sto2 (n64 ad) sz (n64 v)).2 else S) := fun q1 q2 q3 => by
  obtain ⟨z, hz, rfl, h4, hm⟩ := cZ q1
  have hf : fbd S { wS 0 (PR k) ad with ra := true } z = tN := gP (k := { wS 0 (PR k) ad with ra := true }) hm ⟨q2, q3⟩
  rw [nK hz rfl (by omega)]
  cases hh : hel (PR k) ad (z : Int) with
  | false =>
   rw [if_neg (by decide), if_neg (by decide), jF hf]
   exact ⟨rfl, by show mvT S { wS 0 (PR k) ad with ra := true } z = _; unfold mvT; exact if_pos rfl⟩
  | true =>
   rw [if_pos rfl, if_pos rfl, oG hf]
   refine ⟨rfl, ?_⟩
   have e0 : mvT S { wS 0 (PR k) ad with ra := true } z = S := by unfold mvT; exact if_pos rfl
   rw [e0]
   show (S.sto2 (n64 ad) (z : Int) (n64 (bD z v))).2 = _
   rw [mV S (n64 ad) z hz v]
 have HSZ : Hid (plc ad sz 4 = true → -9223372036854775808 ≤ sz ∧ sz ≤ 9223372036854775807) := fun q => by
  obtain ⟨z, hz, rfl, _, _⟩ := cZ q
  unfold cC at hz; omega
 have HS8 : Hid (plc ad sz 4 = true → 1 ≤ sz ∧ sz ≤ 8) := fun q => by
  obtain ⟨z, hz, rfl, _, _⟩ := cZ q
  unfold cC at hz; omega
 have HSS := hid hs
 have HHL : Hid (hel (PR k) ad sz = ((PR k).rv && (decide ((PR k).ra = ad) && decide ((PR k).rs = sz)))) := rfl
 generalize (AT S (wS 0 (PR k) ad) sz (if hel (PR k) ad sz = true then some (fun _ => v) else none)) = m at HNO HFO HYE ⊢
 generalize ckA (PC (PR k).c) (PA (PR k).a) (xE (PR k)) ad sz 2 = q1 at HMY HFO HYE
 generalize plc ad sz 4 = q0 at HPC HNO HFO HYE HSZ HS8
 generalize hel (PR k) ad sz = HL at HYE HHL ⊢
 generalize PR k = K at HPR HMY HHL ⊢
 obtain ⟨K2, hK2⟩ : ∃ K2, K2 = (if m.t.is = true then K else nores K) := ⟨_, rfl⟩
 have HSK : Hid (K2 = if m.t.is = true then K else nores K) := hK2
 rw [← hK2]
 clear hK2 h hs r0 r1 r2 b0 HS8
 go_enter func35, ntmps35
 go_upto_region 1 with fail
 clear hW0
 go_upto_region 2 with (first | (refine wpList_load_row (by rfl) _ _ (by rfl) _ (by rfl) 31 _ (0, 0) _ HO0.out.r underlying31 (by rfl) (aC _) ?_) | (go_at_call 54; refine (HPR.out _).mono ?_; rintro e w1 ⟨rfl, hb1⟩; have HB1 := hid hb1; clear hb1) | (refine wpList_store_row (by rfl) _ _ _ (by rfl) (by rfl) _ _ _ (by rfl) (by rfl) (HO0.out.post HB1.out).r (aC _) (by rw [aD, aD]) (aW _) ?_))
 refine bE (motive := fun W => Code.wp _ _ _ _ W) (Q := fun W => ROw w c vr vi vo W w.heap.size (cpc K) 31 ∧ ROw w c vr vi vo W (w.heap.size + 1) (cpc cz) 31 ∧ ROw w c vr vi vo W (w.heap.size + 2) (tpc tN) 50 ∧ RSt B c vr vi vo w vr vi vo S W ∧ Below w.heap.size w W)
  ⟨⟨setRow_heap _ _ _ _ _ _ (HO0.out.post HB1.out).r, HO0.out.n, HO0.out.ge⟩, ⟨(setRow_other _ _ _ _ (by omega)).trans (HO1.out.post HB1.out).r, HO1.out.n, HO1.out.ge⟩, ⟨(setRow_other _ _ _ _ (by omega)).trans (HO2.out.post HB1.out).r, HO2.out.n, HO2.out.ge⟩, (HP0.out.post HB1.out).row HO0.out.n HO0.out.ge _, bC (HB0.out.trans (HB1.out.mono HB0.out.size)) (Nat.le_refl _) _⟩ ?_
 clear HO0 HO1 HO2 HP0 HB0 HB1 HPR
 rintro W2 ⟨o0, o1, o2, p2, b2⟩
 have HO0 := hid o0
 have HO1 := hid o1
 have HO2 := hid o2
 have HP2 := hid p2
 have HB2 := hid b2
 clear o0 o1 o2 p2 b2
 clear HB2
 cases q0 with
 | false =>
  have HM : Hid (m = ⟨0#64, 0#64, tS 6 ad, S⟩) := HNO.out rfl
  have HK2 : Hid (K2 = K) := by unfold Hid; rw [HSK.out, if_pos (by rw [HM.out]; rfl)]
  have HPz : Hid (RSt B c vr vi vo w vr vi vo S W2) := HP2
  clear HNO HFO HYE HSZ HMY HSK HHL
  go_upto_region 3 with (go_at_call 57; refine (HPC.out _).mono ?_; rintro e wl ⟨rfl, hwl⟩; have hwl2 := hwl.symm; subst hwl2)
  have hltC : Hid (w.heap.size < W2.heap.size) := HO0.out.r.lt
  have HLC : Hid (∀ j v, (cpc K)[j]? = some v → W2.cell? ⟨w.heap.size, 0 + j, none⟩ = some v) := HO0.out.r.agg
  have := aY W2
  refine aM (x0 := bV.start W2) 4 (by kernel_rfl) (by kernel_rfl) ?_
  simp only [List.take_succ_cons, List.take_zero, List.drop_succ_cons, List.drop_zero]
  repeat (first | (refine BigFrame.wpQuiet_want (by rfl) fun KK hK => ?_; refine aV 31 _ (by rfl) (w.heap.size) 0 (by rfl) (cpc K) _ hltC.out HLC.out underlying31 (by rfl) (aC _) (hK _ ?_); clear hK KK; simp only [Act.put, List.setIfInBounds_toArray, List.set_cons_succ, List.set_cons_zero]) | (go_big_quiet_step (first | (go_at_call 56; exact bP (HTR.out 6 (by decide) _)))))
  refine wpQuiet_nil ?_
  rintro w' ⟨x9, rfl⟩
  have H91 : Hid (ROw w c vr vi vo x9.1 (w.heap.size + 1) (cpc cz) 31) := HO1.out.post x9.below
  have H92 : Hid (ROw w c vr vi vo x9.1 (w.heap.size + 2) (tpc tN) 50) := HO2.out.post x9.below
  have H93 : Hid (Row (x9.1.setRow (w.heap.size + 1) (cpc K)) (w.heap.size + 2) (tpc tN) 50) := (setRow_other _ _ _ _ (by omega)).trans H92.out.r
  go_wp2_with (first | (refine wpList_store_row (by rfl) _ _ _ (by rfl) (by rfl) _ _ _ (by rfl) (by rfl) H91.out.r (aC _) (by rw [aD, aD]) (aW _) ?_) | (refine wpList_store_row (by rfl) _ _ _ (by rfl) (by rfl) _ _ _ (by rfl) (by rfl) H93.out (aB _) (aT _ _) (aF _) ?_))
  refine bodyPost_ret (v := .tuple #[.bool false, .agg (cpc K), .agg (tpc (tS 6 ad))]) (bW _ _ (w.heap.size + 1) (w.heap.size + 2) 31 50 _ _ (0, 0) (0, 0) _ _ _ results35 (by rfl) (by rfl) (by rfl) ((setRow_other _ _ _ _ (by omega)).trans (setRow_heap _ _ _ _ _ _ H91.out.r)) (setRow_heap _ _ _ _ _ _ H93.out) underlying31 (by rfl) (aC _) underlying50 (by rfl) (aB _)) rfl ⟨by rw [HK2.out, HM.out] <;> rfl, vr, vi, vo, by rw [HM.out]; exact ((HPz.out.post x9.below).row H91.out.n H91.out.ge _).row H92.out.n H92.out.ge _⟩
 | true =>
  have HIR : Hid (∀ W, Below W2.heap.size W2 W → Calls prog 63 #[.pointer (some ⟨c, 0, none⟩), .int .u64 (n64 ad), .int .i64 sz] W fun e w' => e = .returned (.bool (decide (1 ≤ sz) && hld S.ram.length (n64 ad) sz)) ∧ w' = W) := fun W hb => iG W (HP2.out.r.later hb) HSS.out.n.1 _ sz ⟨bB _, bG _⟩ (HSZ.out rfl)
  have HST : Hid (∀ W, Below W2.heap.size W2 W → Calls prog 61 #[.pointer (some ⟨c, 0, none⟩), .int .u64 (n64 ad), .int .i64 sz, .int .u64 (n64 v)] W fun e w' => e = .returned (.bool (S.sto2 (n64 ad) sz (n64 v)).1) ∧ ∃ ur ui uo, RSt B c vr vi vo W ur ui uo (S.sto2 (n64 ad) sz (n64 v)).2 w') := fun W hb => mS W (HP2.out.r.later hb) HSS.out.n.1 _ sz ⟨bB _, bG _⟩ (HSZ.out rfl) HSS.out.st _ ⟨bB _, bG _⟩
  have HF2 : Hid (¬ (q1 = true ∧ (decide (1 ≤ sz) && hld S.ram.length (n64 ad) sz) = true) → m = ⟨0#64, 0#64, tS 7 ad, S⟩) := HFO.out rfl
  have HY2 : Hid (q1 = true → (decide (1 ≤ sz) && hld S.ram.length (n64 ad) sz) = true → m.t = tN ∧ m.S = if HL = true then (S.sto2 (n64 ad) sz (n64 v)).2 else S) := HYE.out rfl
  clear HNO HFO HYE HSZ HSS
  generalize (decide (1 ≤ sz) && hld S.ram.length (n64 ad) sz) = q2 at HIR HF2 HY2
  generalize (S.sto2 (n64 ad) sz (n64 v)).1 = vb1 at HST
  generalize (S.sto2 (n64 ad) sz (n64 v)).2 = S1 at HST HY2
  cases q1 with
  | false =>
   have HM : Hid (m = ⟨0#64, 0#64, tS 7 ad, S⟩) := HF2.out (by simp)
   have HK2 : Hid (K2 = K) := by unfold Hid; rw [HSK.out, if_pos (by rw [HM.out]; rfl)]
   clear HF2 HY2 HST HIR HSK HHL
   go_upto_region 5 with (first | (go_at_call 57; refine (HPC.out _).mono ?_; rintro e wl ⟨rfl, hwl⟩; have hwl2 := hwl.symm; subst hwl2) | (refine wpList_load_row (by rfl) _ _ (by rfl) _ (by rfl) 31 _ (0, 0) _ HO0.out.r underlying31 (by rfl) (aC _) ?_) | (go_at_call 58; refine (HMY.out _).mono ?_; rintro e w3 ⟨rfl, hb3⟩; have HB3 := hid hb3; clear hb3))
   refine bE (motive := fun W => Code.wp _ _ _ _ W) (Q := fun W => ROw w c vr vi vo W w.heap.size (cpc K) 31 ∧ ROw w c vr vi vo W (w.heap.size + 1) (cpc cz) 31 ∧ ROw w c vr vi vo W (w.heap.size + 2) (tpc tN) 50 ∧ RSt B c vr vi vo w vr vi vo S W) ⟨HO0.out.post HB3.out, HO1.out.post HB3.out, HO2.out.post HB3.out, HP2.out.post HB3.out⟩ ?_
   clear HO0 HO1 HO2 HP2 HB3
   rintro W3 ⟨o0, o1, o2, p2⟩
   have HO0 := hid o0
   have HO1 := hid o1
   have HO2 := hid o2
   have HPz := hid p2
   clear o0 o1 o2 p2
   have hltC : Hid (w.heap.size < W3.heap.size) := HO0.out.r.lt
   have HLC : Hid (∀ j v, (cpc K)[j]? = some v → W3.cell? ⟨w.heap.size, 0 + j, none⟩ = some v) := HO0.out.r.agg
   have := aY W3
   refine aM (x0 := bV.start W3) 4 (by kernel_rfl) (by kernel_rfl) ?_
   simp only [List.take_succ_cons, List.take_zero, List.drop_succ_cons, List.drop_zero]
   repeat (first | (refine BigFrame.wpQuiet_want (by rfl) fun KK hK => ?_; refine aV 31 _ (by rfl) (w.heap.size) 0 (by rfl) (cpc K) _ hltC.out HLC.out underlying31 (by rfl) (aC _) (hK _ ?_); clear hK KK; simp only [Act.put, List.setIfInBounds_toArray, List.set_cons_succ, List.set_cons_zero]) | (go_big_quiet_step (first | (go_at_call 56; exact bP (HTR.out 7 (by decide) _)))))
   refine wpQuiet_nil ?_
   rintro w' ⟨x9, rfl⟩
   have H91 : Hid (ROw w c vr vi vo x9.1 (w.heap.size + 1) (cpc cz) 31) := HO1.out.post x9.below
   have H92 : Hid (ROw w c vr vi vo x9.1 (w.heap.size + 2) (tpc tN) 50) := HO2.out.post x9.below
   have H93 : Hid (Row (x9.1.setRow (w.heap.size + 1) (cpc K)) (w.heap.size + 2) (tpc tN) 50) := (setRow_other _ _ _ _ (by omega)).trans H92.out.r
   go_wp2_with (first | (refine wpList_store_row (by rfl) _ _ _ (by rfl) (by rfl) _ _ _ (by rfl) (by rfl) H91.out.r (aC _) (by rw [aD, aD]) (aW _) ?_) | (refine wpList_store_row (by rfl) _ _ _ (by rfl) (by rfl) _ _ _ (by rfl) (by rfl) H93.out (aB _) (aT _ _) (aF _) ?_))
   refine bodyPost_ret (v := .tuple #[.bool false, .agg (cpc K), .agg (tpc (tS 7 ad))]) (bW _ _ (w.heap.size + 1) (w.heap.size + 2) 31 50 _ _ (0, 0) (0, 0) _ _ _ results35 (by rfl) (by rfl) (by rfl) ((setRow_other _ _ _ _ (by omega)).trans (setRow_heap _ _ _ _ _ _ H91.out.r)) (setRow_heap _ _ _ _ _ _ H93.out) underlying31 (by rfl) (aC _) underlying50 (by rfl) (aB _)) rfl ⟨by rw [HK2.out, HM.out] <;> rfl, vr, vi, vo, by rw [HM.out]; exact ((HPz.out.post x9.below).row H91.out.n H91.out.ge _).row H92.out.n H92.out.ge _⟩
  | true =>
   cases q2 with
   | false =>
    have HM : Hid (m = ⟨0#64, 0#64, tS 7 ad, S⟩) := HF2.out (by simp)
    have HK2 : Hid (K2 = K) := by unfold Hid; rw [HSK.out, if_pos (by rw [HM.out]; rfl)]
    clear HF2 HY2 HST HSK HHL
    go_upto_region 5 with (first | (go_at_call 57; refine (HPC.out _).mono ?_; rintro e wl ⟨rfl, hwl⟩; have hwl2 := hwl.symm; subst hwl2) | (refine wpList_load_row (by rfl) _ _ (by rfl) _ (by rfl) 31 _ (0, 0) _ HO0.out.r underlying31 (by rfl) (aC _) ?_) | (go_at_call 58; refine (HMY.out _).mono ?_; rintro e w3 ⟨rfl, hb3⟩; have HB3 := hid hb3; clear hb3) | (go_at_call 63; refine (HIR.out w3 HB3.out).mono ?_; rintro e wl3 ⟨rfl, hwl3⟩; have hwl4 := hwl3.symm; subst hwl4))
    clear HIR
    refine bE (motive := fun W => Code.wp _ _ _ _ W) (Q := fun W => ROw w c vr vi vo W w.heap.size (cpc K) 31 ∧ ROw w c vr vi vo W (w.heap.size + 1) (cpc cz) 31 ∧ ROw w c vr vi vo W (w.heap.size + 2) (tpc tN) 50 ∧ RSt B c vr vi vo w vr vi vo S W) ⟨HO0.out.post HB3.out, HO1.out.post HB3.out, HO2.out.post HB3.out, HP2.out.post HB3.out⟩ ?_
    clear HO0 HO1 HO2 HP2 HB3
    rintro W3 ⟨o0, o1, o2, p2⟩
    have HO0 := hid o0
    have HO1 := hid o1
    have HO2 := hid o2
    have HPz := hid p2
    clear o0 o1 o2 p2
    have hltC : Hid (w.heap.size < W3.heap.size) := HO0.out.r.lt
    have HLC : Hid (∀ j v, (cpc K)[j]? = some v → W3.cell? ⟨w.heap.size, 0 + j, none⟩ = some v) := HO0.out.r.agg
    have := aY W3
    refine aM (x0 := bV.start W3) 4 (by kernel_rfl) (by kernel_rfl) ?_
    simp only [List.take_succ_cons, List.take_zero, List.drop_succ_cons, List.drop_zero]
    repeat (first | (refine BigFrame.wpQuiet_want (by rfl) fun KK hK => ?_; refine aV 31 _ (by rfl) (w.heap.size) 0 (by rfl) (cpc K) _ hltC.out HLC.out underlying31 (by rfl) (aC _) (hK _ ?_); clear hK KK; simp only [Act.put, List.setIfInBounds_toArray, List.set_cons_succ, List.set_cons_zero]) | (go_big_quiet_step (first | (go_at_call 56; exact bP (HTR.out 7 (by decide) _)))))
    refine wpQuiet_nil ?_
    rintro w' ⟨x9, rfl⟩
    have H91 : Hid (ROw w c vr vi vo x9.1 (w.heap.size + 1) (cpc cz) 31) := HO1.out.post x9.below
    have H92 : Hid (ROw w c vr vi vo x9.1 (w.heap.size + 2) (tpc tN) 50) := HO2.out.post x9.below
    have H93 : Hid (Row (x9.1.setRow (w.heap.size + 1) (cpc K)) (w.heap.size + 2) (tpc tN) 50) := (setRow_other _ _ _ _ (by omega)).trans H92.out.r
    go_wp2_with (first | (refine wpList_store_row (by rfl) _ _ _ (by rfl) (by rfl) _ _ _ (by rfl) (by rfl) H91.out.r (aC _) (by rw [aD, aD]) (aW _) ?_) | (refine wpList_store_row (by rfl) _ _ _ (by rfl) (by rfl) _ _ _ (by rfl) (by rfl) H93.out (aB _) (aT _ _) (aF _) ?_))
    refine bodyPost_ret (v := .tuple #[.bool false, .agg (cpc K), .agg (tpc (tS 7 ad))]) (bW _ _ (w.heap.size + 1) (w.heap.size + 2) 31 50 _ _ (0, 0) (0, 0) _ _ _ results35 (by rfl) (by rfl) (by rfl) ((setRow_other _ _ _ _ (by omega)).trans (setRow_heap _ _ _ _ _ _ H91.out.r)) (setRow_heap _ _ _ _ _ _ H93.out) underlying31 (by rfl) (aC _) underlying50 (by rfl) (aB _)) rfl ⟨by rw [HK2.out, HM.out] <;> rfl, vr, vi, vo, by rw [HM.out]; exact ((HPz.out.post x9.below).row H91.out.n H91.out.ge _).row H92.out.n H92.out.ge _⟩
   | true =>
    obtain ⟨e2, e3⟩ := HY2.out rfl rfl
    have HT2 := hid e2
    have E3a := hid e3
    have HK2 : Hid (K2 = nores K) := by unfold Hid; rw [HSK.out, if_neg (by rw [HT2.out]; decide)]
    clear HF2 HY2 e2 e3 HSK
    go_upto_region 6 with (first | (go_at_call 57; refine (HPC.out _).mono ?_; rintro e wl ⟨rfl, hwl⟩; have hwl2 := hwl.symm; subst hwl2) | (refine wpList_load_row (by rfl) _ _ (by rfl) _ (by rfl) 31 _ (0, 0) _ HO0.out.r underlying31 (by rfl) (aC _) ?_) | (go_at_call 58; refine (HMY.out _).mono ?_; rintro e w3 ⟨rfl, hb3⟩; have HB3 := hid hb3; clear hb3) | (go_at_call 63; refine (HIR.out w3 HB3.out).mono ?_; rintro e wl3 ⟨rfl, hwl3⟩; have hwl4 := hwl3.symm; subst hwl4))
    clear HIR HPC HMY HTR
    have HSTw : Hid (∀ W, Below W2.heap.size W2 W → Calls prog 61 #[.pointer (some ⟨c, 0, none⟩), .int .u64 (n64 ad), .int .i64 sz, .int .u64 (n64 v)] W fun e w' => e = .returned (.bool vb1) ∧ ∃ ur ui uo, RSt B c vr vi vo W ur ui uo S1 w') := HST
    refine bE (motive := fun W => Code.wp _ _ _ _ W) (Q := fun W => (ROw w c vr vi vo W w.heap.size (cpc K) 31 ∧ ROw w c vr vi vo W (w.heap.size + 1) (cpc cz) 31 ∧ ROw w c vr vi vo W (w.heap.size + 2) (tpc tN) 50 ∧ RSt B c vr vi vo w vr vi vo S W) ∧ Below W2.heap.size W2 W) ⟨⟨HO0.out.post HB3.out, HO1.out.post HB3.out, HO2.out.post HB3.out, HP2.out.post HB3.out⟩, HB3.out⟩ ?_
    clear HO0 HO1 HO2 HP2 HB3 HST
    rintro W3 ⟨⟨o0, o1, o2, p2⟩, hb3⟩
    have HO0 := hid o0
    have HO1 := hid o1
    have HO2 := hid o2
    have HPz := hid p2
    have HST : Hid (Calls prog 61 #[.pointer (some ⟨c, 0, none⟩), .int .u64 (n64 ad), .int .i64 sz, .int .u64 (n64 v)] W3 fun e w' => e = .returned (.bool vb1) ∧ ∃ ur ui uo, RSt B c vr vi vo W3 ur ui uo S1 w') := HSTw.out W3 hb3
    clear o0 o1 o2 p2 hb3 HSTw
    have cv : W3.cell? ⟨w.heap.size, 79, none⟩ = some (.bool K.rv) := HO0.out.r.res 0 _ rfl
    have ca : W3.cell? ⟨w.heap.size, 80, none⟩ = some (.int .u64 (n64 K.ra)) := HO0.out.r.res 1 _ rfl
    have cs : W3.cell? ⟨w.heap.size, 81, none⟩ = some (.int .i64 K.rs) := HO0.out.r.res 2 _ rfl
    by_cases hH : K.rv = true ∧ K.ra = ad ∧ K.rs = sz
    ·obtain ⟨hv, h2, h3⟩ := hH
     rw [hv] at cv
     have en : (n64 K.ra == n64 ad) = true := by rw [h2]; simp
     have es : (K.rs == sz) = true := by rw [h3]; simp
     have HEL : Hid (HL = true) := by unfold Hid; rw [HHL.out, hv, decide_eq_true h2, decide_eq_true h3]; rfl
     have E3 : Hid (m.S = S1) := by unfold Hid; rw [E3a.out, HEL.out, if_pos rfl]
     clear E3a HHL hv
     go_upto_region 9 with (go_at_call 61; refine HST.out.mono ?_; rintro e w5 ⟨rfl, ur, ui, uo, hp5⟩; have HP5 := hid hp5; clear hp5)
     clear cv ca cs en es h2 h3 HST
     refine bE (motive := fun W => Code.wp _ _ _ _ W) (Q := fun W => ROw w c ur ui uo W w.heap.size (cpc K) 31 ∧ ROw w c ur ui uo W (w.heap.size + 1) (cpc cz) 31 ∧ ROw w c ur ui uo W (w.heap.size + 2) (tpc tN) 50 ∧ RSt B c vr vi vo w ur ui uo S1 W) ⟨HO0.out.bus HP5.out, HO1.out.bus HP5.out, HO2.out.bus HP5.out, HPz.out.trans HP5.out⟩ ?_
     clear HO0 HO1 HO2 HPz HP5
     rintro W6 ⟨o0, o1, o2, p2⟩
     have HO0 := hid o0
     have HO1 := hid o1
     have HO2 := hid o2
     have HPz := hid p2
     clear o0 o1 o2 p2
     have HTH : Hid (W6.there w.heap.size 79 (rsc false 0#64 0).size) := HO0.out.r.there (by rw [aD]; show 79 + 3 ≤ 82; omega)
     go_upto_region 10 with (first | (refine aH (by rfl) 29 _ (by rfl) (rsc false 0#64 0) (by kernel_rfl) ?_) | (refine aL (by rfl) _ _ _ (by rfl) (by rfl) w.heap.size 79 _ (by rfl) (by rfl) HTH.out (bO _ _ _) (dG _ _ _) ?_))
     refine bE (motive := fun W => Code.wp _ _ _ _ W) (Q := fun W => ROw w c ur ui uo W w.heap.size (cpc (nores K)) 31 ∧ ROw w c ur ui uo W (w.heap.size + 1) (cpc cz) 31 ∧ ROw w c ur ui uo W (w.heap.size + 2) (tpc tN) 50 ∧ RSt B c vr vi vo w ur ui uo m.S W) ⟨⟨by have q := HO0.out.r.lay (rsc false 0#64 0).toList 79; rw [show (rsc false 0#64 0).toList = [.bool false, .int .u64 (n64 0#64), .int .i64 0] from rfl, eN] at q; exact q, HO0.out.n, HO0.out.ge⟩, ⟨HO1.out.r.lays (by omega) _ _, HO1.out.n, HO1.out.ge⟩, ⟨HO2.out.r.lays (by omega) _ _, HO2.out.n, HO2.out.ge⟩, RSt.lay HO0.out.n HO0.out.ge _ _ (by rw [E3.out]; exact HPz.out)⟩ ?_
     clear HO0 HO1 HO2 HPz HTH
     rintro W8 ⟨o0, o1, o2, p2⟩
     have HO0 := hid o0
     have HO1 := hid o1
     have HO2 := hid o2
     have HP4 := hid p2
     clear o0 o1 o2 p2
     have hrw : Hid (∀ w9, Exc (fun j => j = w.heap.size + 1 ∨ j = w.heap.size + 2) W8 w9 → Row w9 w.heap.size (cpc (nores K)) 31 ∧ True) := fun w9 hx => ⟨(hx.block _ HO0.out.r.lt (fun e => by rcases e with e | e <;> omega)).trans HO0.out.r, trivial⟩
     have hS0 : Exc (fun j => j = w.heap.size + 1 ∨ j = w.heap.size + 2) W8 W8.drew := ⟨rfl, rfl, rfl, Nat.le_refl _, fun _ _ _ => rfl⟩
     have H1 : Row W8.drew (w.heap.size + 1) (cpc cz) 31 := HO1.out.r
     have H2 : Row (W8.drew.setRow (w.heap.size + 1) (cpc (nores K))) (w.heap.size + 2) (tpc tN) 50 := (setRow_other _ _ _ _ (by omega)).trans HO2.out.r
     have hS1 : Exc (fun j => j = w.heap.size + 1 ∨ j = w.heap.size + 2) W8 (W8.drew.setRow (w.heap.size + 1) (cpc (nores K))) := ⟨rfl, rfl, rfl, by simp, fun k hk hn => setRow_other _ _ _ _ (fun e => hn (.inl e))⟩
     have hS2 : Exc (fun j => j = w.heap.size + 1 ∨ j = w.heap.size + 2) W8 ((W8.drew.setRow (w.heap.size + 1) (cpc (nores K))).setRow (w.heap.size + 2) (tpc m.t)) := ⟨rfl, rfl, rfl, by simp, fun k hk hn => (setRow_other _ _ _ _ (fun e => hn (.inr e))).trans (setRow_other _ _ _ _ (fun e => hn (.inl e)))⟩
     have HP9 : Hid (RSt B c vr vi vo w ur ui uo m.S ((W8.drew.setRow (w.heap.size + 1) (cpc (nores K))).setRow (w.heap.size + 2) (tpc m.t))) := ((HP4.out.post (Below.refl _ _).drew).row HO1.out.n HO1.out.ge _).row HO2.out.n HO2.out.ge _
     have HR1 : Hid (Row ((W8.drew.setRow (w.heap.size + 1) (cpc (nores K))).setRow (w.heap.size + 2) (tpc m.t)) (w.heap.size + 1) (cpc (nores K)) 31) := (setRow_other _ _ _ _ (by omega)).trans (setRow_heap _ _ _ _ _ _ H1)
     have HR2 : Hid (Row ((W8.drew.setRow (w.heap.size + 1) (cpc (nores K))).setRow (w.heap.size + 2) (tpc m.t)) (w.heap.size + 2) (tpc m.t) 50) := setRow_heap _ _ _ _ _ _ H2
     refine wp_region_held (S := fun w' => Exc (fun j => j = w.heap.size + 1 ∨ j = w.heap.size + 2) W8 w') (by kernel_rfl) ?_
     change wpAnyH _ _ _ _ _ _ _ _ W8.drew
     refine aE 0 (some 63) (v := .bool true) rfl (by kernel_rfl) (by kernel_rfl) (by kernel_rfl) (by kernel_rfl) (fun _ _ _ h => h) (Or.inl ⟨by rfl, fun w9 hSw => by go_simp⟩) hS0 ?_
     try simp only [Act.put, List.setIfInBounds_toArray, List.set_cons_zero, List.set_cons_succ]
     refine aE 1 (some 64) (v := .agg (cpc (nores K))) rfl (by kernel_rfl) (by kernel_rfl) (by kernel_rfl) (by kernel_rfl) (fun _ _ _ h => h) (Or.inl ⟨by rfl, fun w9 hSw => ?_⟩) hS0 ?_
     ·have q := bM (P := prog) 31 (w.heap.size) (cpc (nores K)) _ w9 (hrw.out w9 hSw).1 underlying31 (by rfl) (aC _)
      unfold execOp
      exact q
     try simp only [Act.put, List.setIfInBounds_toArray, List.set_cons_zero, List.set_cons_succ]
     refine aE 2 (some 65) (v := .agg (tpc m.t)) rfl (by kernel_rfl) (by kernel_rfl) (by kernel_rfl) (by kernel_rfl) (fun _ _ _ h => h) (Or.inl ⟨by rfl, fun w9 hSw => by rw [HT2.out]; exact dO 50 _ (by rfl) (tpc tN) (by kernel_rfl) w9⟩) hS0 ?_
     try simp only [Act.put, List.setIfInBounds_toArray, List.set_cons_zero, List.set_cons_succ]
     refine aE 3 (some 10) (v := .bool true) rfl (by kernel_rfl) (by kernel_rfl) (by kernel_rfl) (by kernel_rfl) (fun _ _ _ h => h) (Or.inl ⟨by rfl, fun w9 hSw => by go_simp⟩) hS0 ?_
     try simp only [Act.put, List.setIfInBounds_toArray, List.set_cons_zero, List.set_cons_succ]
     refine aN 4 31 (.tmp 11) (.tmp 64) (by kernel_rfl) (by kernel_rfl) (w.heap.size + 1) (cpc cz) (cpc (nores K)) (by rfl) (by rfl) H1 (aC _) (by rw [aD, aD]) (aW _) hS1 ?_
     try simp only [Act.put, List.setIfInBounds_toArray, List.set_cons_zero, List.set_cons_succ]
     refine aN 5 50 (.tmp 12) (.tmp 65) (by kernel_rfl) (by kernel_rfl) (w.heap.size + 2) (tpc tN) (tpc m.t) (by rfl) (by rfl) H2 (aB _) (aT _ _) (aF _) hS2 ?_
     try simp only [Act.put, List.setIfInBounds_toArray, List.set_cons_zero, List.set_cons_succ]
     refine wpAnyH_done (by kernel_rfl) ?_ _
     go_wp2_with fail
     refine bodyPost_ret (v := .tuple #[.bool true, .agg (cpc (nores K)), .agg (tpc m.t)]) (bW _ _ (w.heap.size + 1) (w.heap.size + 2) 31 50 _ _ (0, 0) (0, 0) _ _ _ results35 (by rfl) (by rfl) (by rfl) HR1.out HR2.out underlying31 (by rfl) (aC _) underlying50 (by rfl) (aB _)) rfl ⟨by rw [HK2.out, HT2.out, HEL.out]; rfl, ur, ui, uo, HP9.out⟩
    ·have HEL : Hid (HL = false) := by
      unfold Hid
      rw [HHL.out]
      cases hv : K.rv with
      | false => rfl
      | true =>
       by_cases h2 : K.ra = ad
       ·by_cases h3 : K.rs = sz
        ·exact absurd ⟨hv, h2, h3⟩ hH
        ·rw [decide_eq_false h3, Bool.and_false, Bool.and_false]
       ·rw [decide_eq_false h2, Bool.false_and, Bool.and_false]
     have E3 : Hid (m.S = S) := by unfold Hid; rw [E3a.out, HEL.out, if_neg (by decide)]
     have hW : K.rv = false ∨ (K.rv = true ∧ (n64 K.ra == n64 ad) = false) ∨ (K.rv = true ∧ (n64 K.ra == n64 ad) = true ∧ (K.rs == sz) = false) := by
      cases hv : K.rv with
      | false => exact .inl rfl
      | true =>
       by_cases h2 : K.ra = ad
       ·refine .inr (.inr ⟨rfl, by rw [h2]; simp, ?_⟩)
        rw [beq_eq_false_iff_ne]
        exact fun h3 => hH ⟨hv, h2, h3⟩
       ·refine .inr (.inl ⟨rfl, ?_⟩)
        rw [beq_eq_false_iff_ne]
        exact fun e => h2 (bR.1 e)
     clear E3a HHL HST hH
     rcases hW with hv | ⟨hv, en⟩ | ⟨hv, en, es⟩
     all_goals rw [hv] at cv
     all_goals clear hv
     all_goals go_upto_region 9 with fail
     all_goals (
      clear cv ca cs
      have HTH : Hid (W3.there w.heap.size 79 (rsc false 0#64 0).size) := HO0.out.r.there (by rw [aD]; show 79 + 3 ≤ 82; omega)
      go_upto_region 10 with (first | (refine aH (by rfl) 29 _ (by rfl) (rsc false 0#64 0) (by kernel_rfl) ?_) | (refine aL (by rfl) _ _ _ (by rfl) (by rfl) w.heap.size 79 _ (by rfl) (by rfl) HTH.out (bO _ _ _) (dG _ _ _) ?_))
      refine bE (motive := fun W => Code.wp _ _ _ _ W) (Q := fun W => ROw w c vr vi vo W w.heap.size (cpc (nores K)) 31 ∧ ROw w c vr vi vo W (w.heap.size + 1) (cpc cz) 31 ∧ ROw w c vr vi vo W (w.heap.size + 2) (tpc tN) 50 ∧ RSt B c vr vi vo w vr vi vo m.S W) ⟨⟨by have q := HO0.out.r.lay (rsc false 0#64 0).toList 79; rw [show (rsc false 0#64 0).toList = [.bool false, .int .u64 (n64 0#64), .int .i64 0] from rfl, eN] at q; exact q, HO0.out.n, HO0.out.ge⟩, ⟨HO1.out.r.lays (by omega) _ _, HO1.out.n, HO1.out.ge⟩, ⟨HO2.out.r.lays (by omega) _ _, HO2.out.n, HO2.out.ge⟩, RSt.lay HO0.out.n HO0.out.ge _ _ (by rw [E3.out]; exact HPz.out)⟩ ?_
      clear HO0 HO1 HO2 HPz HTH
      rintro W8 ⟨o0, o1, o2, p2⟩
      have HO0 := hid o0
      have HO1 := hid o1
      have HO2 := hid o2
      have HP4 := hid p2
      clear o0 o1 o2 p2
      have hrw : Hid (∀ w9, Exc (fun j => j = w.heap.size + 1 ∨ j = w.heap.size + 2) W8 w9 → Row w9 w.heap.size (cpc (nores K)) 31 ∧ True) := fun w9 hx => ⟨(hx.block _ HO0.out.r.lt (fun e => by rcases e with e | e <;> omega)).trans HO0.out.r, trivial⟩
      have hS0 : Exc (fun j => j = w.heap.size + 1 ∨ j = w.heap.size + 2) W8 W8.drew := ⟨rfl, rfl, rfl, Nat.le_refl _, fun _ _ _ => rfl⟩
      have H1 : Row W8.drew (w.heap.size + 1) (cpc cz) 31 := HO1.out.r
      have H2 : Row (W8.drew.setRow (w.heap.size + 1) (cpc (nores K))) (w.heap.size + 2) (tpc tN) 50 := (setRow_other _ _ _ _ (by omega)).trans HO2.out.r
      have hS1 : Exc (fun j => j = w.heap.size + 1 ∨ j = w.heap.size + 2) W8 (W8.drew.setRow (w.heap.size + 1) (cpc (nores K))) := ⟨rfl, rfl, rfl, by simp, fun k hk hn => setRow_other _ _ _ _ (fun e => hn (.inl e))⟩
      have hS2 : Exc (fun j => j = w.heap.size + 1 ∨ j = w.heap.size + 2) W8 ((W8.drew.setRow (w.heap.size + 1) (cpc (nores K))).setRow (w.heap.size + 2) (tpc m.t)) := ⟨rfl, rfl, rfl, by simp, fun k hk hn => (setRow_other _ _ _ _ (fun e => hn (.inr e))).trans (setRow_other _ _ _ _ (fun e => hn (.inl e)))⟩
      have HP9 : Hid (RSt B c vr vi vo w vr vi vo m.S ((W8.drew.setRow (w.heap.size + 1) (cpc (nores K))).setRow (w.heap.size + 2) (tpc m.t))) := ((HP4.out.post (Below.refl _ _).drew).row HO1.out.n HO1.out.ge _).row HO2.out.n HO2.out.ge _
      have HR1 : Hid (Row ((W8.drew.setRow (w.heap.size + 1) (cpc (nores K))).setRow (w.heap.size + 2) (tpc m.t)) (w.heap.size + 1) (cpc (nores K)) 31) := (setRow_other _ _ _ _ (by omega)).trans (setRow_heap _ _ _ _ _ _ H1)
      have HR2 : Hid (Row ((W8.drew.setRow (w.heap.size + 1) (cpc (nores K))).setRow (w.heap.size + 2) (tpc m.t)) (w.heap.size + 2) (tpc m.t) 50) := setRow_heap _ _ _ _ _ _ H2
      refine wp_region_held (S := fun w' => Exc (fun j => j = w.heap.size + 1 ∨ j = w.heap.size + 2) W8 w') (by kernel_rfl) ?_
      change wpAnyH _ _ _ _ _ _ _ _ W8.drew
      refine aE 0 (some 63) (v := .bool false) rfl (by kernel_rfl) (by kernel_rfl) (by kernel_rfl) (by kernel_rfl) (fun _ _ _ h => h) (Or.inl ⟨by rfl, fun w9 hSw => by go_simp⟩) hS0 ?_
      try simp only [Act.put, List.setIfInBounds_toArray, List.set_cons_zero, List.set_cons_succ]
      refine aE 1 (some 64) (v := .agg (cpc (nores K))) rfl (by kernel_rfl) (by kernel_rfl) (by kernel_rfl) (by kernel_rfl) (fun _ _ _ h => h) (Or.inl ⟨by rfl, fun w9 hSw => ?_⟩) hS0 ?_
      ·have q := bM (P := prog) 31 (w.heap.size) (cpc (nores K)) _ w9 (hrw.out w9 hSw).1 underlying31 (by rfl) (aC _)
       unfold execOp
       exact q
      try simp only [Act.put, List.setIfInBounds_toArray, List.set_cons_zero, List.set_cons_succ]
      refine aE 2 (some 65) (v := .agg (tpc m.t)) rfl (by kernel_rfl) (by kernel_rfl) (by kernel_rfl) (by kernel_rfl) (fun _ _ _ h => h) (Or.inl ⟨by rfl, fun w9 hSw => by rw [HT2.out]; exact dO 50 _ (by rfl) (tpc tN) (by kernel_rfl) w9⟩) hS0 ?_
      try simp only [Act.put, List.setIfInBounds_toArray, List.set_cons_zero, List.set_cons_succ]
      refine aE 3 (some 10) (v := .bool false) rfl (by kernel_rfl) (by kernel_rfl) (by kernel_rfl) (by kernel_rfl) (fun _ _ _ h => h) (Or.inl ⟨by rfl, fun w9 hSw => by go_simp⟩) hS0 ?_
      try simp only [Act.put, List.setIfInBounds_toArray, List.set_cons_zero, List.set_cons_succ]
      refine aN 4 31 (.tmp 11) (.tmp 64) (by kernel_rfl) (by kernel_rfl) (w.heap.size + 1) (cpc cz) (cpc (nores K)) (by rfl) (by rfl) H1 (aC _) (by rw [aD, aD]) (aW _) hS1 ?_
      try simp only [Act.put, List.setIfInBounds_toArray, List.set_cons_zero, List.set_cons_succ]
      refine aN 5 50 (.tmp 12) (.tmp 65) (by kernel_rfl) (by kernel_rfl) (w.heap.size + 2) (tpc tN) (tpc m.t) (by rfl) (by rfl) H2 (aB _) (aT _ _) (aF _) hS2 ?_
      try simp only [Act.put, List.setIfInBounds_toArray, List.set_cons_zero, List.set_cons_succ]
      refine wpAnyH_done (by kernel_rfl) ?_ _
      go_wp2_with fail
      refine bodyPost_ret (v := .tuple #[.bool false, .agg (cpc (nores K)), .agg (tpc m.t)]) (bW _ _ (w.heap.size + 1) (w.heap.size + 2) 31 50 _ _ (0, 0) (0, 0) _ _ _ results35 (by rfl) (by rfl) (by rfl) HR1.out HR2.out underlying31 (by rfl) (aC _) underlying50 (by rfl) (aB _)) rfl ⟨by rw [HK2.out, HT2.out, HEL.out]; rfl, vr, vi, vo, HP9.out⟩)
end Go.Proofs.YtiffkbmppmejhaaGreatDoor
