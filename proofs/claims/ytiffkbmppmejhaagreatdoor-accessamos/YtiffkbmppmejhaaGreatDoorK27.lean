import Derived.Test.YtiffkbmppmejhaaGreatDoorK17
import Derived.Test.YtiffkbmppmejhaaGreatDoorK26
namespace Go.Proofs.YtiffkbmppmejhaaGreatDoor
set_option linter.unusedVariables false
set_option maxRecDepth 100000
set_option maxHeartbeats 8000000
open Go.ChangeShapes Go.WideShapes Go.ChangeAt Go.RowKit Go.Deep _root_.Go.Proofs.Tryz
theorem m17 : ∀ i, i < 64 → (131072#64).getLsbD i = decide (i = 17) := by decide
theorem m1b : ∀ i, i < 64 → (1#64).getLsbD i = decide (i = 0) := by decide
theorem RP (v : BitVec 64) : v &&& 131072#64 = if v.getLsbD 17 = true then 131072#64 else 0#64 := by
 apply BitVec.eq_of_getLsbD_eq
 intro i hi
 rw [BitVec.getLsbD_and, m17 i hi]
 by_cases h : i = 17
 ·subst h
  cases e : v.getLsbD 17
  ·rw [if_neg (by decide)]; simp
  ·rw [if_pos rfl, m17 17 (by decide)]; simp
 ·split
  ·rw [m17 i hi]; simp [h]
  ·simp [h]
theorem TI (v : BitVec 64) : v >>> 17 &&& 1#64 = if v.getLsbD 17 = true then 1#64 else 0#64 := by
 apply BitVec.eq_of_getLsbD_eq
 intro i hi
 rw [BitVec.getLsbD_and, BitVec.getLsbD_ushiftRight, m1b i hi]
 by_cases h : i = 0
 ·subst h
  cases e : v.getLsbD 17
  ·rw [if_neg (by decide)]; simp
  ·rw [if_pos rfl, m1b 0 (by decide)]; simp
 ·split
  ·rw [m1b i hi]; simp [h]
  ·simp [h]
theorem ES (v : BitVec 64) : (n64 (v >>> 17 &&& 1#64) == 1) = decide ((v &&& 131072#64) ≠ 0#64) := by
 rw [RP, TI]
 cases v.getLsbD 17 <;> decide
theorem NJ (K : Cp) (hm : K.md = 0 ∨ K.md = 3) (w : World) : Calls prog 84 #[.agg (cpc K)] w fun e w' => e = .returned (.int .i64 (xE K)) ∧ Below w.heap.size w w' := by
 obtain ⟨W0, hW0, r0, b0, s0⟩ := cO w (cpc K) 31
 have Km := r0.out.cls.md
 have K0 := r0.out.cls.s0
 have e1 : n64 (K.s 0) / (131072 : Int) = n64 (K.s 0 >>> 17) := gR _ 17
 have e2 : bits .and .u64 (n64 (K.s 0 >>> 17)) 1 = n64 (K.s 0 >>> 17 &&& 1#64) := bY _ 1#64
 have e3 := ES (K.s 0)
 have e4 : n64 (K.s 0) / (2048 : Int) = n64 (K.s 0 >>> 11) := gR _ 11
 have e5 : bits .and .u64 (n64 (K.s 0 >>> 11)) 3 = n64 (bfB (K.s 0)) := bY _ 3#64
 have e6 : wrap64 (n64 (bfB (K.s 0))) = n64 (bfB (K.s 0)) := by
  have h1 := IU (K.s 0)
  have h0 := bB (bfB (K.s 0))
  rw [lB]
  exact Int.bmod_eq_of_le (by omega) (by omega)
 have HX : Hid (xE K = if K.md = 3 ∧ (K.s 0 &&& 131072#64) ≠ 0#64 then n64 (bfB (K.s 0)) else K.md) := rfl
 obtain ⟨x, hx⟩ : ∃ x, x = xE K := ⟨_, rfl⟩
 rw [← hx] at HX ⊢
 clear hx s0
 generalize n64 (bfB (K.s 0)) = y at e5 e6 HX
 generalize n64 (K.s 0 >>> 11) = y1 at e4 e5
 go_enter func84, ntmps84
 go_upto_region 1 with fail
 clear hW0
 rcases hm with h1 | h1
 ·rw [if_neg (fun q => by rw [h1] at q; exact absurd q.1 (by decide)), h1] at HX
  rw [h1] at Km
  clear h1 e3
  go_wp2
  go_ret
  exact ⟨by rw [HX.out]; rfl, b0.out⟩
 ·by_cases hc : (K.s 0 &&& 131072#64) = 0#64
  ·rw [decide_eq_false (fun q => q hc)] at e3
   rw [if_neg (fun q => q.2 hc), h1] at HX
   rw [h1] at Km
   generalize n64 (K.s 0 >>> 17 &&& 1#64) = y3 at e2 e3
   generalize n64 (K.s 0 >>> 17) = y2 at e1 e2
   clear h1 hc
   go_wp2
   go_ret
   exact ⟨by rw [HX.out]; rfl, b0.out⟩
  ·rw [decide_eq_true hc] at e3
   rw [if_pos ⟨h1, hc⟩] at HX
   rw [h1] at Km
   generalize n64 (K.s 0 >>> 17 &&& 1#64) = y3 at e2 e3
   generalize n64 (K.s 0 >>> 17) = y2 at e1 e2
   clear h1 hc
   go_wp2
   go_ret
   exact ⟨by rw [HX.out]; show Ending.returned (.int .i64 (wrap64 y)) = _; rw [e6], b0.out⟩
theorem fY (ca : Nat) (hc : ca < 100) (ad : BitVec 64) (w : World) : Calls prog 56 #[.int .i64 ca, .int .u64 (n64 ad)] w fun e w' => e = .returned (.agg (tpc (tS ca ad))) ∧ Below w.heap.size w w' := by
 obtain ⟨W0, hW0, r0, b0, s0⟩ := cO w (tpc tN) 50
 have hz := bF
 have e1 : IntKind.u64.wrap (ca : Int) = (ca : Int) := aU (by omega) (by omega)
 clear s0
 go_enter func56, ntmps56
 go_upto_region 1 with fail
 clear hW0
 go_wp2_with (first | (refine aH (by rfl) 50 _ (by rfl) (tpc (tS ca ad)) (by kernel_rfl) ?_) | (refine wpList_store_row (by rfl) _ _ _ (by rfl) (by rfl) _ _ _ (by rfl) (by rfl) r0.out (aB _) (aT _ _) (aF _) ?_))
 refine bodyPost_ret (v := .agg (tpc (tS ca ad))) (results_cell_row results56 _ _ w.heap.size 50 _ (0, 0) _ (by rfl) (setRow_heap _ _ _ _ _ _ r0.out) underlying50 (by rfl) (aB _)) rfl ⟨rfl, bC b0.out (Nat.le_refl _) _⟩
def plc (ad : BitVec 64) (sz least : Int) : Bool := (sz == 1 || sz == 2 || sz == 4 || sz == 8) && (decide (least ≤ sz) && (n64 ad % sz == 0))
theorem gI (ad : BitVec 64) (sz least : Int) (w : World) : Calls prog 57 #[.int .u64 (n64 ad), .int .i64 sz, .int .i64 least] w fun e w' => e = .returned (.bool (plc ad sz least)) ∧ w' = w := by
 obtain ⟨b, hb⟩ : ∃ b, b = plc ad sz least := ⟨_, rfl⟩
 have HE : Hid (b = ((sz == 1 || sz == 2 || sz == 4 || sz == 8) && (decide (least ≤ sz) && (n64 ad % sz == 0)))) := hb
 rw [← hb]
 clear hb
 have ht : ∀ z : Int, (n64 ad).tmod z = n64 ad % z := fun z => Int.tmod_eq_emod_of_nonneg (bB _)
 by_cases hw : sz = 1 ∨ sz = 2 ∨ sz = 4 ∨ sz = 8
 ·by_cases hl : least ≤ sz
  ·have HE2 : Hid (b = (n64 ad % sz == 0)) := by unfold Hid; rw [HE.out, decide_eq_true hl]; rcases hw with e | e | e | e <;> subst e <;> simp
   clear HE
   rcases hw with e | e | e | e
   ·subst e
    have ht2 := ht 1
    rw [Int.emod_one] at HE2
    clear ht
    go_enter func57, ntmps57
    go_wp2
    go_ret
    exact ⟨by rw [HE2.out]; rfl, rfl⟩
   ·subst e
    have ht2 := ht 2
    generalize n64 ad % 2 = y at ht2 HE2
    clear ht
    go_enter func57, ntmps57
    go_wp2
    go_ret
    exact ⟨by rw [HE2.out]; rfl, rfl⟩
   ·subst e
    have ht2 := ht 4
    generalize n64 ad % 4 = y at ht2 HE2
    clear ht
    go_enter func57, ntmps57
    go_wp2
    go_ret
    exact ⟨by rw [HE2.out]; rfl, rfl⟩
   ·subst e
    have ht2 := ht 8
    generalize n64 ad % 8 = y at ht2 HE2
    clear ht
    go_enter func57, ntmps57
    go_wp2
    go_ret
    exact ⟨by rw [HE2.out]; rfl, rfl⟩
  ·have HE2 : Hid (b = false) := by unfold Hid; rw [HE.out, decide_eq_false hl]; simp
   clear HE
   rcases hw with e | e | e | e
   ·subst e
    go_enter func57, ntmps57
    go_wp2
    go_ret
    exact ⟨by rw [HE2.out]; rfl, rfl⟩
   ·subst e
    go_enter func57, ntmps57
    go_wp2
    go_ret
    exact ⟨by rw [HE2.out]; rfl, rfl⟩
   ·subst e
    go_enter func57, ntmps57
    go_wp2
    go_ret
    exact ⟨by rw [HE2.out]; rfl, rfl⟩
   ·subst e
    go_enter func57, ntmps57
    go_wp2
    go_ret
    exact ⟨by rw [HE2.out]; rfl, rfl⟩
 ·have h1 : (sz != 1) = true := by simp; omega
  have h2 : (sz != 2) = true := by simp; omega
  have h4 : (sz != 4) = true := by simp; omega
  have h8 : (sz != 8) = true := by simp; omega
  have HE2 : Hid (b = false) := by unfold Hid; rw [HE.out]; simp; intro q; omega
  clear HE hw
  go_enter func57, ntmps57
  go_wp2
  go_ret
  exact ⟨by rw [HE2.out]; rfl, rfl⟩
theorem mR (K : Cp) (hm : K.md = 0 ∨ K.md = 3) (ad : BitVec 64) (sz b : Int) (w : World) : Calls prog 58 #[.agg (cpc K), .int .u64 (n64 ad), .int .i64 sz, .int .i64 b] w fun e w' => e = .returned (.bool (ckA (PC K.c) (PA K.a) (xE K) ad sz b)) ∧ Below w.heap.size w w' := by
 obtain ⟨W0, hW0, r0, b0, s0⟩ := cO w (cpc K) 31
 have hlt : Hid (w.heap.size < W0.heap.size) := by unfold Hid; omega
 have HE : Hid (∀ W, Calls prog 84 #[.agg (cpc K)] W fun e w' => e = .returned (.int .i64 (xE K)) ∧ Below W.heap.size W w') := fun W => NJ K hm W
 have HC : Hid (∀ W, Calls prog 83 #[.agg (pc K.c K.a), .int .i64 (xE K), .int .u64 (n64 ad), .int .i64 sz, .int .i64 b] W fun e w' => e = .returned (.bool (ckA (PC K.c) (PA K.a) (xE K) ad sz b)) ∧ Below W.heap.size W w') := fun W => rJ K.c K.a (xE K) ad sz b W
 generalize ckA (PC K.c) (PA K.a) (xE K) ad sz b = x at HC ⊢
 generalize xE K = m at HE HC
 have HL1 : Hid (∀ j v, (pc K.c K.a)[j]? = some v → W0.cell? ⟨w.heap.size, 47 + j, none⟩ = some v) := r0.out.pmp
 have HL2 : Hid (∀ j v, (cpc K)[j]? = some v → W0.cell? ⟨w.heap.size, 0 + j, none⟩ = some v) := r0.out.agg
 clear s0 hm
 go_enter func58, ntmps58
 go_upto_region 1 with fail
 clear hW0 r0
 have := aY W0
 refine lI (x0 := bV.start W0) (by kernel_rfl) (by kernel_rfl) ?_
 repeat (first | (refine BigFrame.wpQuiet_want (by rfl) fun KK hK => ?_; refine aV 27 _ (by rfl) w.heap.size 47 (by rfl) (pc K.c K.a) _ hlt.out HL1.out underlying27 (by rfl) (cH _ _) (hK _ ?_); clear hK KK; simp only [Act.put, List.setIfInBounds_toArray, List.set_cons_succ, List.set_cons_zero]) | (refine BigFrame.wpQuiet_want (by rfl) fun KK hK => ?_; refine aV 31 _ (by rfl) w.heap.size 0 (by rfl) (cpc K) _ hlt.out HL2.out underlying31 (by rfl) (aC _) (hK _ ?_); clear hK KK; simp only [Act.put, List.setIfInBounds_toArray, List.set_cons_succ, List.set_cons_zero]) | (go_big_quiet_step (first | (go_at_call 84; exact bP (HE.out _)) | (go_at_call 83; exact bP (HC.out _)))))
 refine wpQuiet_nil ?_
 rintro w' ⟨x9, rfl⟩
 go_wp2
 go_ret
 exact ⟨rfl, b0.out.trans (x9.below.mono b0.out.size)⟩
theorem NK (v : BitVec 64) (w : World) : Calls prog 66 #[.int .u64 (n64 v), .int .i64 4] w fun e w' => e = .returned (.int .u64 (n64 (bD 4 v))) ∧ w' = w := by
 have ht : (n64 v).tmod 4294967296 = n64 (bD 4 v) := by
  rw [Int.tmod_eq_emod_of_nonneg (bB _), dP v (by decide)]
  rfl
 generalize n64 (bD 4 v) = y at ht ⊢
 go_enter func66, ntmps66
 go_wp2
 go_ret
 exact ⟨rfl, rfl⟩
theorem NL (v : BitVec 64) (w : World) : Calls prog 66 #[.int .u64 (n64 v), .int .i64 8] w fun e w' => e = .returned (.int .u64 (n64 (bD 8 v))) ∧ w' = w := by
 rw [kF]
 go_enter func66, ntmps66
 go_wp2
 go_ret
 exact ⟨rfl, rfl⟩
theorem nL {S : St} {k : Wy} {sz : Int} {z : Nat} {f : Option (BitVec 64 → BitVec 64)} (hz : cC z) (e : sz = z) : PL S k sz f = MV S k z f := by
 subst e
 rcases hz with rfl | rfl | rfl | rfl
 ·rfl
 ·rfl
 ·rfl
 ·rfl
theorem cZ {ad : BitVec 64} {sz least : Int} (h : plc ad sz least = true) : ∃ z : Nat, cC z ∧ sz = z ∧ least ≤ z ∧ n64 ad % (z : Int) = 0 := by
 unfold plc at h
 simp only [Bool.and_eq_true, Bool.or_eq_true, beq_iff_eq, decide_eq_true_eq] at h
 obtain ⟨h1, h2, h3⟩ := h
 refine ⟨sz.toNat, ?_, by omega, by omega, ?_⟩
 ·unfold cC; omega
 ·rw [show ((sz.toNat : Nat) : Int) = sz by omega]; exact h3
theorem NF {ad : BitVec 64} {sz least : Int} (h : plc ad sz least = false) : (¬ (sz = 1 ∨ sz = 2 ∨ sz = 4 ∨ sz = 8)) ∨ sz < least ∨ n64 ad % sz ≠ 0 := by
 by_cases h1 : sz = 1 ∨ sz = 2 ∨ sz = 4 ∨ sz = 8
 ·by_cases h2 : least ≤ sz
  ·by_cases h3 : n64 ad % sz = 0
   ·exfalso
    unfold plc at h
    rw [decide_eq_true h2, h3] at h
    rcases h1 with e | e | e | e <;> subst e <;> simp at h
   ·exact .inr (.inr h3)
  ·exact .inr (.inl (by omega))
 ·exact .inl h1
theorem JG {S : St} {k : Wy} {z : Nat} {f : Option (BitVec 64 → BitVec 64)} (h : ¬ n64 k.ad % (z : Int) = 0) : MV S k z f = ⟨0#64, 0#64, tS k.mi k.ad, S⟩ := by
 have e : fbd S k z = tS k.mi k.ad := by unfold fbd; rw [if_neg h]
 cases f with
 | none => simp only [MV, e]; rfl
 | some f => simp only [MV, e]; rfl
theorem iX {S : St} {k : Wy} {z : Nat} {f : Option (BitVec 64 → BitVec 64)} (h : n64 k.ad % (z : Int) = 0) (h2 : ¬ (ckA (PC k.c) (PA k.a) k.m k.ad z k.r = true ∧ thr S k.ra k.r k.ad z = true)) : MV S k z f = ⟨0#64, 0#64, tS k.fa k.ad, S⟩ := by
 have e : fbd S k z = tS k.fa k.ad := by unfold fbd; rw [if_pos h, if_neg h2]
 cases f with
 | none => simp only [MV, e]; rfl
 | some f => simp only [MV, e]; rfl
theorem gP {S : St} {k : Wy} {z : Nat} (h : n64 k.ad % (z : Int) = 0) (h2 : ckA (PC k.c) (PA k.a) k.m k.ad z k.r = true ∧ thr S k.ra k.r k.ad z = true) : fbd S k z = tN := by unfold fbd; rw [if_pos h, if_pos h2]
theorem jF {S : St} {k : Wy} {z : Nat} (h : fbd S k z = tN) : MV S k z none = ⟨mvB S k z, 0#64, tN, mvT S k z⟩ := by simp only [MV, h]; rfl
theorem oG {S : St} {k : Wy} {z : Nat} {f : BitVec 64 → BitVec 64} (h : fbd S k z = tN) : MV S k z (some f) = ⟨mvB S k z, bD z (f (mvB S k z)), tN, ((mvT S k z).sto2 (n64 k.ad) z (n64 (bD z (f (mvB S k z))))).2⟩ := by simp only [MV, h]; rfl
theorem xV {S : St} {k : Wy} {sz : Int} {f : Option (BitVec 64 → BitVec 64)} (h : plc k.ad sz 1 = false) : PL S k sz f = ⟨0#64, 0#64, tS k.mi k.ad, S⟩ := by
 by_cases hw : sz = 1 ∨ sz = 2 ∨ sz = 4 ∨ sz = 8
 ·have hm : ¬ n64 k.ad % ((sz.toNat : Nat) : Int) = 0 := by
   rw [show ((sz.toNat : Nat) : Int) = sz by omega]
   rcases NF h with q | q | q
   ·exact absurd hw q
   ·omega
   ·exact q
  rw [nL (z := sz.toNat) (by unfold cC; omega) (by omega), JG hm]
 ·unfold PL
  rw [if_neg (by omega), if_neg (by omega), if_neg (by omega), if_neg (by omega)]
theorem xS {S : St} {k : Wy} {sz : Int} {f : Option (BitVec 64 → BitVec 64)} (h : plc k.ad sz 4 = false) : AT S k sz f = ⟨0#64, 0#64, tS k.mi k.ad, S⟩ := by
 unfold AT
 by_cases hw : sz = 4 ∨ sz = 8
 ·rw [if_pos hw]
  refine xV (k := { k with ra := true }) ?_
  unfold plc at h ⊢
  rcases hw with e | e <;> subst e <;> simpa using h
 ·rw [if_neg hw]
theorem nK {S : St} {k : Wy} {sz : Int} {z : Nat} {f : Option (BitVec 64 → BitVec 64)} (hz : cC z) (e : sz = z) (h4 : 4 ≤ z) : AT S k sz f = MV S { k with ra := true } z f := by
 unfold AT
 rw [if_pos (by unfold cC at hz; omega)]
 exact nL hz e
theorem FN (N z : Nat) : ptL (N % 256 ^ z) z = ptL N z := by
 unfold ptL
 apply List.map_congr_left
 intro j hj
 have hj : j < z := List.mem_range.1 hj
 have e : N % 256 ^ z / 256 ^ j % 256 = N / 256 ^ j % 256 := by
  obtain ⟨d, rfl⟩ : ∃ d, z = j + (d + 1) := ⟨z - j - 1, by omega⟩
  rw [Nat.pow_add, Nat.mod_mul_right_div_self, Nat.pow_succ, Nat.mul_comm (256 ^ d), Nat.mod_mul_right_mod]
 rw [e]
theorem RW {n : Nat} {a z : Int} (h : fnd n a z = 4) : mE a z = true := by
 unfold fnd at h
 repeat' split at h
 all_goals first | assumption | omega
theorem RX {n : Nat} {a z : Int} (h : fnd n a z = 5) : nG a z = true := by
 unfold fnd at h
 repeat' split at h
 all_goals first | assumption | omega
theorem uG (base a : Int) (z : Nat) (v : BitVec 64) (N : Int) (h : ((z : Int) = 8 ∧ a = base) ∨ ((z : Int) = 4 ∧ a = base) ∨ ((z : Int) = 4 ∧ a = base + 4)) : iR N base a z (n64 (bD z v)) = iR N base a z (n64 v) := by
 by_cases h8 : z = 8
 ·subst h8; rw [kF]
 ·have z4 : z = 4 := by omega
  subst z4
  have q : n64 (bD 4 v) = n64 v % 4294967296 := dP v (by decide)
  unfold iR
  simp only [show ¬ ((4 : Nat) : Int) = 8 by decide, if_false, q, show n64 v % 4294967296 % 4294967296 = n64 v % 4294967296 by omega]
theorem EM (z : Nat) (v : BitVec 64) : (n64 (bD z v)).toNat = (n64 v).toNat % 256 ^ z := by
 unfold n64 bD
 rw [BitVec.toNat_ofNat, Nat.mod_eq_of_lt (Nat.lt_of_le_of_lt (Nat.mod_le _ _) v.isLt)]
 rfl
theorem mV (S : St) (a : Int) (z : Nat) (hz : cC z) (v : BitVec 64) : S.sto2 a z (n64 (bD z v)) = S.sto2 a z (n64 v) := by
 have h8 : z ≤ 8 := by unfold cC at hz; omega
 rcases fI S.ram.length a z with e | e | e | e | e | e | e
 ·simp only [St.sto2, e, St.put]
  rw [EM z v]
  rw [show (z : Int).toNat = z by omega, FN]
 ·have hu := nQ e
  have z1 : z = 1 := by unfold eA at hu; simp at hu; omega
  subst z1
  have q : n64 (bD 1 v) = n64 v % 256 := dP v (by decide)
  simp only [St.sto2, e]
  obtain ⟨r, hr, _, er⟩ := gC hu
  rw [er, q]
  have h0 := bB v
  rcases dV hr with rfl | rfl | rfl | rfl | rfl | rfl | rfl | rfl
  ·simp only [St.tak]; rw [show n64 v % 256 % 256 = n64 v % 256 by omega]
  ·simp only [St.tak]; rw [show n64 v % 256 % 16 = n64 v % 16 by omega]
  ·simp only [St.tak]; rw [show n64 v % 256 / 2 % 2 = n64 v / 2 % 2 by omega]
  ·simp only [St.tak]; rw [show n64 v % 256 % 256 = n64 v % 256 by omega]
  ·simp only [St.tak]; rw [show n64 v % 256 % 32 = n64 v % 32 by omega]
  ·rfl
  ·rfl
  ·simp only [St.tak]; rw [show n64 v % 256 % 256 = n64 v % 256 by omega]
 ·simp only [St.sto2, e]
  rw [uG 33603576 a z v S.time (eW (uH e))]
 ·simp only [St.sto2, e]
  rw [uG 33570816 a z v S.cmp (eW (uI e))]
 ·have z4 : z = 4 := by have q := RW e; unfold mE at q; simp at q; omega
  subst z4
  have q : n64 (bD 4 v) = n64 v % 4294967296 := dP v (by decide)
  simp only [St.sto2, e]
  rw [q, show n64 v % 4294967296 % 2 = n64 v % 2 by omega]
 ·have z4 : z = 4 := by have q := RX e; unfold nG at q; simp at q; omega
  subst z4
  have q : n64 (bD 4 v) = n64 v % 4294967296 := dP v (by decide)
  simp only [St.sto2, e, St.fin]
  rw [q, show n64 v % 4294967296 % 65536 = n64 v % 65536 by omega, show n64 v % 4294967296 / 65536 % 65536 = n64 v / 65536 % 65536 by omega]
 ·simp only [St.sto2, e]
structure ROw (w : World) (c : Nat) (vr vi vo : Value) (W : World) (g : Nat) (cs : Array Value) (t : TypeId) : Prop where
 r : Row W g cs t
 n : ¬ eU c vr vi vo g
 ge : w.heap.size ≤ g
section
variable {w W W' : World} {B c : Nat} {vr vi vo ur ui uo : Value} {S S1 : St} {g : Nat} {cs : Array Value} {t : TypeId}
theorem ROw.post (h : ROw w c vr vi vo W g cs t) (hb : Below W.heap.size W W') : ROw w c vr vi vo W' g cs t := ⟨h.r.later hb h.r.lt, h.n, h.ge⟩
theorem ROw.bus (h : ROw w c vr vi vo W g cs t) (hs : RSt B c vr vi vo W ur ui uo S1 W') : ROw w c ur ui uo W' g cs t :=
 ⟨(hs.x.block g h.r.lt h.n).trans h.r, fun e => by rcases hs.o g e with q | q; exact h.n q; have := h.r.lt; omega, h.ge⟩
theorem ROw.new (hp : RSt B c vr vi vo w ur ui uo S1 W) (cs : Array Value) (t : TypeId) : ROw w c ur ui uo (W.alloc (.cells cs t)) W.heap.size cs t :=
 ⟨Row.new W cs t, fun e => by have := (dT hp.r e).2; omega, hp.x.size⟩
theorem RSt.al (hp : RSt B c vr vi vo w ur ui uo S1 W) (o : Obj) : RSt B c vr vi vo w ur ui uo S1 (W.alloc o) := hp.post (aI W o)
theorem RSt.put (hp : RSt B c vr vi vo w ur ui uo S1 W) (hn : ¬ eU c ur ui uo g) (hg : w.heap.size ≤ g) (i : Nat) (v : Value) : RSt B c vr vi vo w ur ui uo S1 (W.setCell ⟨g, i, none⟩ v) where
 r := hp.r.exo (G := fun k => k = g) ⟨rfl, rfl, rfl, by simp, fun k hk hne => heap_setCell_other W _ k v hne⟩ (fun k hk e => hn (e ▸ hk))
 x := ⟨hp.x.os, hp.x.tape, hp.x.output, by simpa using hp.x.size, fun k hk hne => (heap_setCell_other W _ k v (by show k ≠ g; omega)).trans (hp.x.block k hk hne)⟩
 o := hp.o
theorem RSt.row (hp : RSt B c vr vi vo w ur ui uo S1 W) (hn : ¬ eU c ur ui uo g) (hg : w.heap.size ≤ g) (cs : Array Value) : RSt B c vr vi vo w ur ui uo S1 (W.setRow g cs) where
 r := hp.r.exo (G := fun k => k = g) ⟨rfl, rfl, rfl, by simp, fun k hk hne => setRow_other _ _ _ _ hne⟩ (fun k hk e => hn (e ▸ hk))
 x := ⟨hp.x.os, hp.x.tape, hp.x.output, by simpa using hp.x.size, fun k hk hne => (setRow_other _ _ _ _ (by omega)).trans (hp.x.block k hk hne)⟩
 o := hp.o
theorem RSt.refl {w : World} (h : RB B c S vr vi vo w) : RSt B c vr vi vo w vr vi vo S w := RSt.quiet h (Below.refl _ _)
end
def BA (K : Cp) : Prop := (K.rv = false ∧ K.ra = 0#64 ∧ K.rs = 0) ∨ (K.rv = true ∧ (K.rs = 4 ∨ K.rs = 8))
theorem tR (k : Cp) : BA (PR k) := by
 have e1 : (PR k).rv = rok k.rv k.ra k.rs := rfl
 have e2 : (PR k).ra = if rok k.rv k.ra k.rs = true then k.ra else 0#64 := rfl
 have e3 : (PR k).rs = if rok k.rv k.ra k.rs = true then k.rs else 0 := rfl
 unfold BA
 rw [e1, e2, e3]
 cases h : rok k.rv k.ra k.rs with
 | false => exact .inl ⟨rfl, by rw [if_neg (by decide)], by rw [if_neg (by decide)]⟩
 | true =>
  refine .inr ⟨rfl, ?_⟩
  rw [if_pos rfl]
  unfold rok at h
  simp only [Bool.and_eq_true, Bool.or_eq_true, beq_iff_eq] at h
  rcases h.2 with q | q
  ·exact .inl q.1
  ·exact .inr q.1
def sP (K : Cp) (ad : BitVec 64) (sz : Int) : Prop := K.rv = true ∧ ∃ i j : Nat, (i : Int) < K.rs ∧ (j : Int) < sz ∧ n64 (K.ra + BitVec.ofNat 64 i) = n64 (ad + BitVec.ofNat 64 j)
theorem dR {s : Int} (h0 : 0 ≤ s) (h1 : s ≤ 8) : IntKind.u64.wrap s = s := by
 unfold IntKind.wrap
 simp [IntKind.bits, IntKind.signed]
 omega
theorem MO {K : Cp} {ad : BitVec 64} {sz : Int} (h : sP K ad sz) (h0 : K.rs ≤ 8) (h1 : sz ≤ 8) : bh K.ra ad K.rs sz = true := by
 obtain ⟨_, i, j, hi, hj, e⟩ := h
 unfold bh
 rw [dR (by omega) h0, dR (by omega) h1]
 unfold n64 at e ⊢
 rw [Bool.or_eq_true, decide_eq_true_eq, decide_eq_true_eq]
 have ea := ad.isLt
 have er := K.ra.isLt
 have e' : ((K.ra.toNat + i % 18446744073709551616) % 18446744073709551616) = ((ad.toNat + j % 18446744073709551616) % 18446744073709551616) := by
  have q := Int.ofNat_inj.1 e
  simpa [BitVec.toNat_add, BitVec.toNat_ofNat] using q
 have s1 : (ad - K.ra).toNat = (18446744073709551616 - K.ra.toNat + ad.toNat) % 18446744073709551616 := by rw [BitVec.toNat_sub]
 have s2 : (K.ra - ad).toNat = (18446744073709551616 - ad.toNat + K.ra.toNat) % 18446744073709551616 := by rw [BitVec.toNat_sub]
 rw [s1, s2]
 omega
theorem JL {K : Cp} {ad : BitVec 64} {sz : Int} (hv : K.rv = true) (h : bh K.ra ad K.rs sz = true) (h0 : 1 ≤ K.rs ∧ K.rs ≤ 8) (h1 : 1 ≤ sz ∧ sz ≤ 8) : sP K ad sz := by
 unfold bh at h
 rw [dR (by omega) h0.2, dR (by omega) h1.2, Bool.or_eq_true, decide_eq_true_eq, decide_eq_true_eq] at h
 have s1 : (ad - K.ra).toNat = (18446744073709551616 - K.ra.toNat + ad.toNat) % 18446744073709551616 := by rw [BitVec.toNat_sub]
 have s2 : (K.ra - ad).toNat = (18446744073709551616 - ad.toNat + K.ra.toNat) % 18446744073709551616 := by rw [BitVec.toNat_sub]
 have ea := ad.isLt
 have er := K.ra.isLt
 rcases h with h | h
 ·refine ⟨hv, (ad - K.ra).toNat, 0, h, by omega, ?_⟩
  rw [BitVec.ofNat_toNat, BitVec.setWidth_eq]
  congr 1
  rw [BitVec.add_comm, BitVec.sub_add_cancel]
  simp
 ·refine ⟨hv, 0, (K.ra - ad).toNat, by omega, h, ?_⟩
  rw [BitVec.ofNat_toNat, BitVec.setWidth_eq]
  congr 1
  rw [BitVec.add_comm ad, BitVec.sub_add_cancel]
  simp
theorem zU {K : Cp} (h : K.rv = false ∧ K.ra = 0#64 ∧ K.rs = 0) : nores K = K := by
 obtain ⟨pc, x, md, wt, s, c, a, rv, ra, rs⟩ := K
 simp only at h
 obtain ⟨h1, h2, h3⟩ := h
 subst h1 h2 h3
 rfl
theorem DL {K : Cp} {ad : BitVec 64} {sz : Int} (hk : BA K) (h1 : 1 ≤ sz ∧ sz ≤ 8) (h : sP K ad sz) : bhK K ad sz = nores K := by
 unfold bhK
 rw [if_pos (MO h (by rcases hk with q | q <;> omega) h1.2)]
theorem DK {K : Cp} {ad : BitVec 64} {sz : Int} (hk : BA K) (h1 : 1 ≤ sz ∧ sz ≤ 8) (h : ¬ sP K ad sz) : bhK K ad sz = K := by
 unfold bhK
 rcases hk with q | q
 ·rw [zU q]; split <;> rfl
 ·rw [if_neg (fun e => h (JL q.1 e (by omega) h1))]
theorem AX {B c : Nat} {S : St} {vr vi vo : Value} (w : World) (h : RB B c S vr vi vo w) (hs : Sok S) (k : Cp) (ad : BitVec 64) (sz : Int) :
  Calls prog 32 #[.agg (cpc k), .pointer (some ⟨c, 0, none⟩), .int .u64 (n64 ad), .int .i64 sz] w fun e w' => e = .returned (.tuple #[.int .u64 (n64 (PL S (wL 0 (PR k) ad) sz none).old), .agg (tpc (PL S (wL 0 (PR k) ad) sz none).t)]) ∧ ∃ ur ui uo, RSt B c vr vi vo w ur ui uo (PL S (wL 0 (PR k) ad) sz none).S w' := by
 obtain ⟨W0, hW0, r0, r1, b0, s0⟩ := cJ w (cpc k) (tpc tN) 31 50
 have hzt := bF
 have HP0 : Hid (RSt B c vr vi vo w vr vi vo S W0) := (RSt.refl h).post b0.out
 have hlo : ∀ g, w.heap.size ≤ g → ¬ eU c vr vi vo g := fun g hg e => by have := (dT h e).2; omega
 have HO0 : Hid (ROw w c vr vi vo W0 w.heap.size (cpc k) 31) := ⟨r0.out, hlo _ (by omega), by omega⟩
 have HO1 : Hid (ROw w c vr vi vo W0 (w.heap.size + 1) (tpc tN) 50) := ⟨r1.out, hlo _ (by omega), by omega⟩
 have HPR : Hid (∀ W, Calls prog 54 #[.agg (cpc k)] W fun e w' => e = .returned (.agg (cpc (PR k))) ∧ Below W.heap.size W w') := fun W => oB k W
 have HPC : Hid (∀ W, Calls prog 57 #[.int .u64 (n64 ad), .int .i64 sz, .int .i64 1] W fun e w' => e = .returned (.bool (plc ad sz 1)) ∧ w' = W) := fun W => gI ad sz 1 W
 have HTR : Hid (∀ (ca : Nat) (_ : ca < 100) W, Calls prog 56 #[.int .i64 ca, .int .u64 (n64 ad)] W fun e w' => e = .returned (.agg (tpc (tS ca ad))) ∧ Below W.heap.size W w') := fun ca hc W => fY ca hc ad W
 have HMY : Hid (∀ W, Calls prog 58 #[.agg (cpc (PR k)), .int .u64 (n64 ad), .int .i64 sz, .int .i64 1] W fun e w' => e = .returned (.bool (ckA (PC (PR k).c) (PA (PR k).a) (xE (PR k)) ad sz 1)) ∧ Below W.heap.size W w') := fun W => mR (PR k) (kA k) ad sz 1 W
 have HNO : Hid (plc ad sz 1 = false → (PL S (wL 0 (PR k) ad) sz none) = ⟨0#64, 0#64, tS 4 ad, S⟩) := fun q => xV (k := wL 0 (PR k) ad) q
 have HFO : Hid (plc ad sz 1 = true → ¬ (ckA (PC (PR k).c) (PA (PR k).a) (xE (PR k)) ad sz 1 = true ∧ fnd S.ram.length (n64 ad) sz < 6) → (PL S (wL 0 (PR k) ad) sz none) = ⟨0#64, 0#64, tS 5 ad, S⟩) := fun q1 q2 => by
  obtain ⟨z, hz, rfl, _, hm⟩ := cZ q1
  rw [nL hz rfl]
  refine iX (k := wL 0 (PR k) ad) hm (fun q => q2 ⟨q.1, ?_⟩)
  have q3 := q.2
  unfold thr at q3
  simp [wL] at q3
  exact of_decide_eq_true q3
 have HYE : Hid (plc ad sz 1 = true → ckA (PC (PR k).c) (PA (PR k).a) (xE (PR k)) ad sz 1 = true → fnd S.ram.length (n64 ad) sz < 6 → n64 (PL S (wL 0 (PR k) ad) sz none).old = (S.ld (n64 ad) sz).1.1 ∧ (PL S (wL 0 (PR k) ad) sz none).t = tN ∧ (PL S (wL 0 (PR k) ad) sz none).S = (S.ld (n64 ad) sz).2) := fun q1 q2 q3 => by
  obtain ⟨z, hz, rfl, _, hm⟩ := cZ q1
  have hf : fbd S (wL 0 (PR k) ad) z = tN := gP (k := wL 0 (PR k) ad) hm ⟨q2, by unfold thr; simp [wL]; exact decide_eq_true q3⟩
  rw [nL hz rfl, jF hf]
  exact ⟨gF (k := wL 0 (PR k) ad) hs hz q3 (by simp [wL]), rfl, by show mvT S (wL 0 (PR k) ad) z = _; unfold mvT; rw [if_neg (by simp [wL])]; rfl⟩
 have HSZ : Hid (plc ad sz 1 = true → -9223372036854775808 ≤ sz ∧ sz ≤ 9223372036854775807) := fun q => by
  obtain ⟨z, hz, rfl, _, _⟩ := cZ q
  unfold cC at hz; omega
 have HSS := hid hs
 have HB0 : Hid (Below w.heap.size w W0) := b0
 generalize (PL S (wL 0 (PR k) ad) sz none) = m at HNO HFO HYE ⊢
 generalize ckA (PC (PR k).c) (PA (PR k).a) (xE (PR k)) ad sz 1 = q1 at HMY HFO HYE
 generalize plc ad sz 1 = q0 at HPC HNO HFO HYE HSZ
 generalize PR k = K at HPR HMY
 clear h hs s0 r0 r1 b0
 go_enter func32, ntmps32
 go_upto_region 1 with fail
 clear hW0
 go_upto_region 2 with (first | (refine wpList_load_row (by rfl) _ _ (by rfl) _ (by rfl) 31 _ (0, 0) _ HO0.out.r underlying31 (by rfl) (aC _) ?_) | (go_at_call 54; refine (HPR.out _).mono ?_; rintro e w1 ⟨rfl, hb1⟩; have HB1 := hid hb1; clear hb1) | (refine wpList_store_row (by rfl) _ _ _ (by rfl) (by rfl) _ _ _ (by rfl) (by rfl) (HO0.out.post HB1.out).r (aC _) (by rw [aD, aD]) (aW _) ?_))
 refine bE (motive := fun W => Code.wp _ _ _ _ W) (Q := fun W => ROw w c vr vi vo W w.heap.size (cpc K) 31 ∧ ROw w c vr vi vo W (w.heap.size + 1) (tpc tN) 50 ∧ RSt B c vr vi vo w vr vi vo S W)
  ⟨⟨setRow_heap _ _ _ _ _ _ (HO0.out.post HB1.out).r, HO0.out.n, HO0.out.ge⟩, ⟨(setRow_other _ _ _ _ (by omega)).trans (HO1.out.post HB1.out).r, HO1.out.n, HO1.out.ge⟩, (HP0.out.post HB1.out).row HO0.out.n HO0.out.ge _⟩ ?_
 clear HO0 HO1 HP0 HB0 HB1 HPR
 rintro W2 ⟨o0, o1, p2⟩
 have HO0 := hid o0
 have HO1 := hid o1
 have HP2 := hid p2
 clear o0 o1 p2
 cases q0 with
 | false =>
  have HM : Hid (m = ⟨0#64, 0#64, tS 4 ad, S⟩) := HNO.out rfl
  clear HNO HFO HYE HSZ HMY
  go_wp2_with (first | (go_at_call 57; refine (HPC.out _).mono ?_; rintro e wl ⟨rfl, hwl⟩; have hwl2 := hwl.symm; subst hwl2) | (go_at_call 56; refine (HTR.out 4 (by decide) _).mono ?_; rintro e w9 ⟨rfl, hb9⟩; have HB9 := hid hb9; clear hb9) | (refine wpList_store_row (by rfl) _ _ _ (by rfl) (by rfl) _ _ _ (by rfl) (by rfl) (HO1.out.post HB9.out).r (aB _) (aT _ _) (aF _) ?_))
  refine bodyPost_ret (v := .tuple #[.int .u64 (0), .agg (tpc (tS 4 ad))]) (eY results32 _ _ (w.heap.size + 1) 50 _ (0, 0) _ _ (by rfl) (by rfl) (setRow_heap _ _ _ _ _ _ (HO1.out.post HB9.out).r) underlying50 (by rfl) (aB _)) rfl ⟨by rw [HM.out]; rfl, vr, vi, vo, by rw [HM.out]; exact (HP2.out.post HB9.out).row HO1.out.n HO1.out.ge _⟩
 | true =>
  have HCA : Hid (∀ W, Below W2.heap.size W2 W → Calls prog 59 #[.pointer (some ⟨c, 0, none⟩), .int .u64 (n64 ad), .int .i64 sz, .int .i64 1] W fun e w' => e = .returned (.bool (decide ((1 : Int) ≤ 1 ∧ (1 : Int) ≤ 3) && decide (fnd S.ram.length (n64 ad) sz < 6))) ∧ w' = W) := fun W hb => AU W (HP2.out.r.later hb) HSS.out.n.1 _ sz 1 ⟨bB _, bG _⟩ (HSZ.out rfl)
  rw [show decide ((1 : Int) ≤ 1 ∧ (1 : Int) ≤ 3) = true by decide, Bool.true_and] at HCA
  have HLD : Hid (∀ W, Below W2.heap.size W2 W → Calls prog 60 #[.pointer (some ⟨c, 0, none⟩), .int .u64 (n64 ad), .int .i64 sz] W fun e w' => e = .returned (.tuple #[.int .u64 (S.ld (n64 ad) sz).1.1, .bool (S.ld (n64 ad) sz).1.2]) ∧ ∃ ur ui uo, RSt B c vr vi vo W ur ui uo (S.ld (n64 ad) sz).2 w') := fun W hb => lR W (HP2.out.r.later hb) HSS.out.n.1 _ sz ⟨bB _, bG _⟩ (HSZ.out rfl) HSS.out.st HSS.out.n.2.2.1
  have HCK : Hid (∀ W, Calls prog 58 #[.agg (cpc K), .int .u64 (n64 ad), .int .i64 sz, .int .i64 1] W fun e w' => e = .returned (.bool q1) ∧ Below W.heap.size W w') := HMY
  have HF2 : Hid (¬ (q1 = true ∧ fnd S.ram.length (n64 ad) sz < 6) → m = ⟨0#64, 0#64, tS 5 ad, S⟩) := HFO.out rfl
  have HY2 : Hid (q1 = true → fnd S.ram.length (n64 ad) sz < 6 → n64 m.old = (S.ld (n64 ad) sz).1.1 ∧ m.t = tN ∧ m.S = (S.ld (n64 ad) sz).2) := HYE.out rfl
  clear HNO HFO HYE HSZ HMY HSS
  generalize (S.ld (n64 ad) sz).1.1 = vo1 at HLD HY2
  generalize (S.ld (n64 ad) sz).1.2 = vb1 at HLD
  generalize (S.ld (n64 ad) sz).2 = S1 at HLD HY2
  cases q1 with
  | false =>
   have HM : Hid (m = ⟨0#64, 0#64, tS 5 ad, S⟩) := HF2.out (by simp)
   clear HF2 HY2 HLD HCA
   go_wp2_with (first | (go_at_call 57; refine (HPC.out _).mono ?_; rintro e wl ⟨rfl, hwl⟩; have hwl2 := hwl.symm; subst hwl2) | (refine wpList_load_row (by rfl) _ _ (by rfl) _ (by rfl) 31 _ (0, 0) _ HO0.out.r underlying31 (by rfl) (aC _) ?_) | (go_at_call 58; refine (HCK.out _).mono ?_; rintro e w3 ⟨rfl, hb3⟩; have HB3 := hid hb3; clear hb3) | (go_at_call 56; refine (HTR.out 5 (by decide) _).mono ?_; rintro e w9 ⟨rfl, hb9⟩; have HB9 := hid hb9; clear hb9) | (refine wpList_store_row (by rfl) _ _ _ (by rfl) (by rfl) _ _ _ (by rfl) (by rfl) ((HO1.out.post HB3.out).post HB9.out).r (aB _) (aT _ _) (aF _) ?_))
   refine bodyPost_ret (v := .tuple #[.int .u64 (0), .agg (tpc (tS 5 ad))]) (eY results32 _ _ (w.heap.size + 1) 50 _ (0, 0) _ _ (by rfl) (by rfl) (setRow_heap _ _ _ _ _ _ ((HO1.out.post HB3.out).post HB9.out).r) underlying50 (by rfl) (aB _)) rfl ⟨by rw [HM.out]; rfl, vr, vi, vo, by rw [HM.out]; exact ((HP2.out.post HB3.out).post HB9.out).row HO1.out.n HO1.out.ge _⟩
  | true =>
   by_cases hf : fnd S.ram.length (n64 ad) sz < 6
   ·rw [decide_eq_true hf] at HCA
    obtain ⟨e1, e2, e3⟩ := HY2.out rfl hf
    have E1 := hid e1
    have E2 := hid e2
    have E3 := hid e3
    clear HF2 HY2 e1 e2 e3 hf
    go_wp2_with (first | (go_at_call 57; refine (HPC.out _).mono ?_; rintro e wl ⟨rfl, hwl⟩; have hwl2 := hwl.symm; subst hwl2) | (refine wpList_load_row (by rfl) _ _ (by rfl) _ (by rfl) 31 _ (0, 0) _ HO0.out.r underlying31 (by rfl) (aC _) ?_) | (go_at_call 58; refine (HCK.out _).mono ?_; rintro e w3 ⟨rfl, hb3⟩; have HB3 := hid hb3; clear hb3) | (go_at_call 59; refine (HCA.out w3 HB3.out).mono ?_; rintro e wl3 ⟨rfl, hwl3⟩; have hwl4 := hwl3.symm; subst hwl4) | (go_at_call 60; refine (HLD.out w3 HB3.out).mono ?_; rintro e w5 ⟨rfl, ur, ui, uo, hp5⟩; have HP5 := hid hp5; clear hp5) | (refine aH (by rfl) 50 _ (by rfl) (tpc tN) (by kernel_rfl) ?_) | (refine wpList_store_row (by rfl) _ _ _ (by rfl) (by rfl) _ _ _ (by rfl) (by rfl) ((HO1.out.post HB3.out).bus HP5.out).r (aB _) (aT _ _) (aF _) ?_))
    refine bodyPost_ret (v := .tuple #[.int .u64 (vo1), .agg (tpc (tN))]) (eY results32 _ _ (w.heap.size + 1) 50 _ (0, 0) _ _ (by rfl) (by rfl) (setRow_heap _ _ _ _ _ _ ((HO1.out.post HB3.out).bus HP5.out).r) underlying50 (by rfl) (aB _)) rfl ⟨by rw [E1.out, E2.out], ur, ui, uo, by rw [E3.out]; exact ((HP2.out.post HB3.out).trans HP5.out).row ((HO1.out.post HB3.out).bus HP5.out).n HO1.out.ge _⟩
   ·rw [decide_eq_false hf] at HCA
    have HM : Hid (m = ⟨0#64, 0#64, tS 5 ad, S⟩) := HF2.out (fun q => hf q.2)
    clear HF2 HY2 HLD hf
    go_wp2_with (first | (go_at_call 57; refine (HPC.out _).mono ?_; rintro e wl ⟨rfl, hwl⟩; have hwl2 := hwl.symm; subst hwl2) | (refine wpList_load_row (by rfl) _ _ (by rfl) _ (by rfl) 31 _ (0, 0) _ HO0.out.r underlying31 (by rfl) (aC _) ?_) | (go_at_call 58; refine (HCK.out _).mono ?_; rintro e w3 ⟨rfl, hb3⟩; have HB3 := hid hb3; clear hb3) | (go_at_call 59; refine (HCA.out w3 HB3.out).mono ?_; rintro e wl3 ⟨rfl, hwl3⟩; have hwl4 := hwl3.symm; subst hwl4) | (go_at_call 56; refine (HTR.out 5 (by decide) _).mono ?_; rintro e w9 ⟨rfl, hb9⟩; have HB9 := hid hb9; clear hb9) | (refine wpList_store_row (by rfl) _ _ _ (by rfl) (by rfl) _ _ _ (by rfl) (by rfl) ((HO1.out.post HB3.out).post HB9.out).r (aB _) (aT _ _) (aF _) ?_))
    refine bodyPost_ret (v := .tuple #[.int .u64 (0), .agg (tpc (tS 5 ad))]) (eY results32 _ _ (w.heap.size + 1) 50 _ (0, 0) _ _ (by rfl) (by rfl) (setRow_heap _ _ _ _ _ _ ((HO1.out.post HB3.out).post HB9.out).r) underlying50 (by rfl) (aB _)) rfl ⟨by rw [HM.out]; rfl, vr, vi, vo, by rw [HM.out]; exact ((HP2.out.post HB3.out).post HB9.out).row HO1.out.n HO1.out.ge _⟩
theorem RSt.lay {B c : Nat} {vr vi vo ur ui uo : Value} {S1 : St} {w : World} {g : Nat} (hn : ¬ eU c ur ui uo g) (hg : w.heap.size ≤ g) : ∀ (l : List Value) (o : Nat) {W : World}, RSt B c vr vi vo w ur ui uo S1 W → RSt B c vr vi vo w ur ui uo S1 (W.setCells g o l)
 | [], _, _, h => h
 | v :: r, o, _, h => by rw [World.setCells]; exact RSt.lay hn hg r (o + 1) (h.put hn hg o v)
theorem rO {B c : Nat} {S : St} {vr vi vo : Value} (w : World) (h : RB B c S vr vi vo w) (hs : Sok S) (k : Cp) (ad : BitVec 64) (sz : Int) :
  Calls prog 34 #[.agg (cpc k), .pointer (some ⟨c, 0, none⟩), .int .u64 (n64 ad), .int .i64 sz] w fun e w' => e = .returned (.tuple #[.int .u64 (n64 (AT S (wL 0 (PR k) ad) sz none).old), .agg (cpc (rsK (PR k) (AT S (wL 0 (PR k) ad) sz none) ad sz)), .agg (tpc (AT S (wL 0 (PR k) ad) sz none).t)]) ∧ ∃ ur ui uo, RSt B c vr vi vo w ur ui uo (AT S (wL 0 (PR k) ad) sz none).S w' := by
 obtain ⟨W0, hW0, r0, r1, r2, b0, s0⟩ := fQ w (cpc k) (cpc cz) (tpc tN) 31 31 50
 clear s0
 have hzt := bF
 have hzc := dJ
 have HP0 : Hid (RSt B c vr vi vo w vr vi vo S W0) := (RSt.refl h).post b0
 have hlo : ∀ g, w.heap.size ≤ g → ¬ eU c vr vi vo g := fun g hg e => by have := (dT h e).2; omega
 have HO0 : Hid (ROw w c vr vi vo W0 w.heap.size (cpc k) 31) := ⟨r0, hlo _ (by omega), by omega⟩
 have HO1 : Hid (ROw w c vr vi vo W0 (w.heap.size + 1) (cpc cz) 31) := ⟨r1, hlo _ (by omega), by omega⟩
 have HO2 : Hid (ROw w c vr vi vo W0 (w.heap.size + 2) (tpc tN) 50) := ⟨r2, hlo _ (by omega), by omega⟩
 have HPR : Hid (∀ W, Calls prog 54 #[.agg (cpc k)] W fun e w' => e = .returned (.agg (cpc (PR k))) ∧ Below W.heap.size W w') := fun W => oB k W
 have HB0 := hid b0
 have HPC : Hid (∀ W, Calls prog 57 #[.int .u64 (n64 ad), .int .i64 sz, .int .i64 4] W fun e w' => e = .returned (.bool (plc ad sz 4)) ∧ w' = W) := fun W => gI ad sz 4 W
 have HTR : Hid (∀ (ca : Nat) (_ : ca < 100) W, Calls prog 56 #[.int .i64 ca, .int .u64 (n64 ad)] W fun e w' => e = .returned (.agg (tpc (tS ca ad))) ∧ Below W.heap.size W w') := fun ca hc W => fY ca hc ad W
 have HMY : Hid (∀ W, Calls prog 58 #[.agg (cpc (PR k)), .int .u64 (n64 ad), .int .i64 sz, .int .i64 1] W fun e w' => e = .returned (.bool (ckA (PC (PR k).c) (PA (PR k).a) (xE (PR k)) ad sz 1)) ∧ Below W.heap.size W w') := fun W => mR (PR k) (kA k) ad sz 1 W
 have HNO : Hid (plc ad sz 4 = false → (AT S (wL 0 (PR k) ad) sz none) = ⟨0#64, 0#64, tS 4 ad, S⟩) := fun q => xS (k := wL 0 (PR k) ad) q
 have HFO : Hid (plc ad sz 4 = true → ¬ (ckA (PC (PR k).c) (PA (PR k).a) (xE (PR k)) ad sz 1 = true ∧ (decide (1 ≤ sz) && hld S.ram.length (n64 ad) sz) = true) → (AT S (wL 0 (PR k) ad) sz none) = ⟨0#64, 0#64, tS 5 ad, S⟩) := fun q1 q2 => by
  obtain ⟨z, hz, rfl, h4, hm⟩ := cZ q1
  rw [nK hz rfl (by omega)]
  exact iX (k := { wL 0 (PR k) ad with ra := true }) hm q2
 have HYE : Hid (plc ad sz 4 = true → ckA (PC (PR k).c) (PA (PR k).a) (xE (PR k)) ad sz 1 = true → (decide (1 ≤ sz) && hld S.ram.length (n64 ad) sz) = true → n64 (AT S (wL 0 (PR k) ad) sz none).old = (S.ld (n64 ad) sz).1.1 ∧ (AT S (wL 0 (PR k) ad) sz none).t = tN ∧ (AT S (wL 0 (PR k) ad) sz none).S = (S.ld (n64 ad) sz).2) := fun q1 q2 q3 => by
  obtain ⟨z, hz, rfl, h4, hm⟩ := cZ q1
  have hf : fbd S { wL 0 (PR k) ad with ra := true } z = tN := gP (k := { wL 0 (PR k) ad with ra := true }) hm ⟨q2, q3⟩
  have ht := (bU (k := { wL 0 (PR k) ad with ra := true }) hz (by rw [hf]; rfl)).1
  rw [nK hz rfl (by omega), jF hf]
  exact ⟨gF (k := { wL 0 (PR k) ad with ra := true }) hs hz ht (by simp [wL]), rfl, by show mvT S { wL 0 (PR k) ad with ra := true } z = _; unfold mvT; rw [if_neg (by simp [wL])]; rfl⟩
 have HSZ : Hid (plc ad sz 4 = true → -9223372036854775808 ≤ sz ∧ sz ≤ 9223372036854775807) := fun q => by
  obtain ⟨z, hz, rfl, _, _⟩ := cZ q
  unfold cC at hz; omega
 have HSS := hid hs
 generalize (AT S (wL 0 (PR k) ad) sz none) = m at HNO HFO HYE ⊢
 generalize ckA (PC (PR k).c) (PA (PR k).a) (xE (PR k)) ad sz 1 = q1 at HMY HFO HYE
 generalize plc ad sz 4 = q0 at HPC HNO HFO HYE HSZ
 generalize PR k = K at HPR HMY ⊢
 have HSK : Hid (rsK K m ad sz = if m.t.is = true then K else { K with rv := true, ra := ad, rs := sz }) := rfl
 obtain ⟨K2, hK2⟩ : ∃ K2, K2 = rsK K m ad sz := ⟨_, rfl⟩
 rw [← hK2] at HSK ⊢
 clear hK2 h hs r0 r1 r2 b0
 go_enter func34, ntmps34
 go_upto_region 1 with fail
 clear hW0
 go_upto_region 2 with (first | (refine wpList_load_row (by rfl) _ _ (by rfl) _ (by rfl) 31 _ (0, 0) _ HO0.out.r underlying31 (by rfl) (aC _) ?_) | (go_at_call 54; refine (HPR.out _).mono ?_; rintro e w1 ⟨rfl, hb1⟩; have HB1 := hid hb1; clear hb1) | (refine wpList_store_row (by rfl) _ _ _ (by rfl) (by rfl) _ _ _ (by rfl) (by rfl) (HO0.out.post HB1.out).r (aC _) (by rw [aD, aD]) (aW _) ?_))
 refine bE (motive := fun W => Code.wp _ _ _ _ W) (Q := fun W => ROw w c vr vi vo W w.heap.size (cpc K) 31 ∧ ROw w c vr vi vo W (w.heap.size + 1) (cpc cz) 31 ∧ ROw w c vr vi vo W (w.heap.size + 2) (tpc tN) 50 ∧ RSt B c vr vi vo w vr vi vo S W ∧ Below w.heap.size w W)
  ⟨⟨setRow_heap _ _ _ _ _ _ (HO0.out.post HB1.out).r, HO0.out.n, HO0.out.ge⟩, ⟨(setRow_other _ _ _ _ (by omega)).trans (HO1.out.post HB1.out).r, HO1.out.n, HO1.out.ge⟩, ⟨(setRow_other _ _ _ _ (by omega)).trans (HO2.out.post HB1.out).r, HO2.out.n, HO2.out.ge⟩, (HP0.out.post HB1.out).row HO0.out.n HO0.out.ge _, bC (HB0.out.trans (HB1.out.mono HB0.out.size)) (Nat.le_refl _) _⟩ ?_
 clear HO0 HO1 HO2 HP0 HB0 HB1 HPR
 rintro W2 ⟨o0, o1, o2, p2, b2⟩
 have HO0 := hid o0
 have HO1 := hid o1
 have HO2 := hid o2
 have HP2 := hid p2
 have HB2 := hid b2
 clear o0 o1 o2 p2 b2
 clear HB2
 cases q0 with
 | false =>
  have HM : Hid (m = ⟨0#64, 0#64, tS 4 ad, S⟩) := HNO.out rfl
  have HK2 : Hid (K2 = K) := by unfold Hid; rw [HSK.out, if_pos (by rw [HM.out]; rfl)]
  have HPz : Hid (RSt B c vr vi vo w vr vi vo S W2) := HP2
  clear HNO HFO HYE HSZ HMY HSK
  go_upto_region 3 with (go_at_call 57; refine (HPC.out _).mono ?_; rintro e wl ⟨rfl, hwl⟩; have hwl2 := hwl.symm; subst hwl2)
  have hltC : Hid (w.heap.size < W2.heap.size) := HO0.out.r.lt
  have HLC : Hid (∀ j v, (cpc K)[j]? = some v → W2.cell? ⟨w.heap.size, 0 + j, none⟩ = some v) := HO0.out.r.agg
  have := aY W2
  refine aM (x0 := bV.start W2) 4 (by kernel_rfl) (by kernel_rfl) ?_
  simp only [List.take_succ_cons, List.take_zero, List.drop_succ_cons, List.drop_zero]
  repeat (first | (refine BigFrame.wpQuiet_want (by rfl) fun KK hK => ?_; refine aV 31 _ (by rfl) (w.heap.size) 0 (by rfl) (cpc K) _ hltC.out HLC.out underlying31 (by rfl) (aC _) (hK _ ?_); clear hK KK; simp only [Act.put, List.setIfInBounds_toArray, List.set_cons_succ, List.set_cons_zero]) | (go_big_quiet_step (first | (go_at_call 56; exact bP (HTR.out 4 (by decide) _)))))
  refine wpQuiet_nil ?_
  rintro w' ⟨x9, rfl⟩
  have H91 : Hid (ROw w c vr vi vo x9.1 (w.heap.size + 1) (cpc cz) 31) := HO1.out.post x9.below
  have H92 : Hid (ROw w c vr vi vo x9.1 (w.heap.size + 2) (tpc tN) 50) := HO2.out.post x9.below
  have H93 : Hid (Row (x9.1.setRow (w.heap.size + 1) (cpc K)) (w.heap.size + 2) (tpc tN) 50) := (setRow_other _ _ _ _ (by omega)).trans H92.out.r
  go_wp2_with (first | (refine wpList_store_row (by rfl) _ _ _ (by rfl) (by rfl) _ _ _ (by rfl) (by rfl) H91.out.r (aC _) (by rw [aD, aD]) (aW _) ?_) | (refine wpList_store_row (by rfl) _ _ _ (by rfl) (by rfl) _ _ _ (by rfl) (by rfl) H93.out (aB _) (aT _ _) (aF _) ?_))
  refine bodyPost_ret (v := .tuple #[.int .u64 0, .agg (cpc K), .agg (tpc (tS 4 ad))]) (bW _ _ (w.heap.size + 1) (w.heap.size + 2) 31 50 _ _ (0, 0) (0, 0) _ _ _ results34 (by rfl) (by rfl) (by rfl) ((setRow_other _ _ _ _ (by omega)).trans (setRow_heap _ _ _ _ _ _ H91.out.r)) (setRow_heap _ _ _ _ _ _ H93.out) underlying31 (by rfl) (aC _) underlying50 (by rfl) (aB _)) rfl ⟨by rw [HK2.out, HM.out]; rfl, vr, vi, vo, by rw [HM.out]; exact ((HPz.out.post x9.below).row H91.out.n H91.out.ge _).row H92.out.n H92.out.ge _⟩
 | true =>
  have HIR : Hid (∀ W, Below W2.heap.size W2 W → Calls prog 63 #[.pointer (some ⟨c, 0, none⟩), .int .u64 (n64 ad), .int .i64 sz] W fun e w' => e = .returned (.bool (decide (1 ≤ sz) && hld S.ram.length (n64 ad) sz)) ∧ w' = W) := fun W hb => iG W (HP2.out.r.later hb) HSS.out.n.1 _ sz ⟨bB _, bG _⟩ (HSZ.out rfl)
  have HLD : Hid (∀ W, Below W2.heap.size W2 W → Calls prog 60 #[.pointer (some ⟨c, 0, none⟩), .int .u64 (n64 ad), .int .i64 sz] W fun e w' => e = .returned (.tuple #[.int .u64 (S.ld (n64 ad) sz).1.1, .bool (S.ld (n64 ad) sz).1.2]) ∧ ∃ ur ui uo, RSt B c vr vi vo W ur ui uo (S.ld (n64 ad) sz).2 w') := fun W hb => lR W (HP2.out.r.later hb) HSS.out.n.1 _ sz ⟨bB _, bG _⟩ (HSZ.out rfl) HSS.out.st HSS.out.n.2.2.1
  have HF2 : Hid (¬ (q1 = true ∧ (decide (1 ≤ sz) && hld S.ram.length (n64 ad) sz) = true) → m = ⟨0#64, 0#64, tS 5 ad, S⟩) := HFO.out rfl
  have HY2 : Hid (q1 = true → (decide (1 ≤ sz) && hld S.ram.length (n64 ad) sz) = true → n64 m.old = (S.ld (n64 ad) sz).1.1 ∧ m.t = tN ∧ m.S = (S.ld (n64 ad) sz).2) := HYE.out rfl
  clear HNO HFO HYE HSZ HSS
  generalize (decide (1 ≤ sz) && hld S.ram.length (n64 ad) sz) = q2 at HIR HF2 HY2
  generalize (S.ld (n64 ad) sz).1.1 = vo1 at HLD HY2
  generalize (S.ld (n64 ad) sz).1.2 = vb1 at HLD
  generalize (S.ld (n64 ad) sz).2 = S1 at HLD HY2
  cases q1 with
  | false =>
   have HM : Hid (m = ⟨0#64, 0#64, tS 5 ad, S⟩) := HF2.out (by simp)
   have HK2 : Hid (K2 = K) := by unfold Hid; rw [HSK.out, if_pos (by rw [HM.out]; rfl)]
   clear HF2 HY2 HLD HIR HSK
   go_upto_region 5 with (first | (go_at_call 57; refine (HPC.out _).mono ?_; rintro e wl ⟨rfl, hwl⟩; have hwl2 := hwl.symm; subst hwl2) | (refine wpList_load_row (by rfl) _ _ (by rfl) _ (by rfl) 31 _ (0, 0) _ HO0.out.r underlying31 (by rfl) (aC _) ?_) | (go_at_call 58; refine (HMY.out _).mono ?_; rintro e w3 ⟨rfl, hb3⟩; have HB3 := hid hb3; clear hb3))
   refine bE (motive := fun W => Code.wp _ _ _ _ W) (Q := fun W => ROw w c vr vi vo W w.heap.size (cpc K) 31 ∧ ROw w c vr vi vo W (w.heap.size + 1) (cpc cz) 31 ∧ ROw w c vr vi vo W (w.heap.size + 2) (tpc tN) 50 ∧ RSt B c vr vi vo w vr vi vo S W) ⟨HO0.out.post HB3.out, HO1.out.post HB3.out, HO2.out.post HB3.out, HP2.out.post HB3.out⟩ ?_
   clear HO0 HO1 HO2 HP2 HB3
   rintro W3 ⟨o0, o1, o2, p2⟩
   have HO0 := hid o0
   have HO1 := hid o1
   have HO2 := hid o2
   have HPz := hid p2
   clear o0 o1 o2 p2
   have hltC : Hid (w.heap.size < W3.heap.size) := HO0.out.r.lt
   have HLC : Hid (∀ j v, (cpc K)[j]? = some v → W3.cell? ⟨w.heap.size, 0 + j, none⟩ = some v) := HO0.out.r.agg
   have := aY W3
   refine aM (x0 := bV.start W3) 4 (by kernel_rfl) (by kernel_rfl) ?_
   simp only [List.take_succ_cons, List.take_zero, List.drop_succ_cons, List.drop_zero]
   repeat (first | (refine BigFrame.wpQuiet_want (by rfl) fun KK hK => ?_; refine aV 31 _ (by rfl) (w.heap.size) 0 (by rfl) (cpc K) _ hltC.out HLC.out underlying31 (by rfl) (aC _) (hK _ ?_); clear hK KK; simp only [Act.put, List.setIfInBounds_toArray, List.set_cons_succ, List.set_cons_zero]) | (go_big_quiet_step (first | (go_at_call 56; exact bP (HTR.out 5 (by decide) _)))))
   refine wpQuiet_nil ?_
   rintro w' ⟨x9, rfl⟩
   have H91 : Hid (ROw w c vr vi vo x9.1 (w.heap.size + 1) (cpc cz) 31) := HO1.out.post x9.below
   have H92 : Hid (ROw w c vr vi vo x9.1 (w.heap.size + 2) (tpc tN) 50) := HO2.out.post x9.below
   have H93 : Hid (Row (x9.1.setRow (w.heap.size + 1) (cpc K)) (w.heap.size + 2) (tpc tN) 50) := (setRow_other _ _ _ _ (by omega)).trans H92.out.r
   go_wp2_with (first | (refine wpList_store_row (by rfl) _ _ _ (by rfl) (by rfl) _ _ _ (by rfl) (by rfl) H91.out.r (aC _) (by rw [aD, aD]) (aW _) ?_) | (refine wpList_store_row (by rfl) _ _ _ (by rfl) (by rfl) _ _ _ (by rfl) (by rfl) H93.out (aB _) (aT _ _) (aF _) ?_))
   refine bodyPost_ret (v := .tuple #[.int .u64 0, .agg (cpc K), .agg (tpc (tS 5 ad))]) (bW _ _ (w.heap.size + 1) (w.heap.size + 2) 31 50 _ _ (0, 0) (0, 0) _ _ _ results34 (by rfl) (by rfl) (by rfl) ((setRow_other _ _ _ _ (by omega)).trans (setRow_heap _ _ _ _ _ _ H91.out.r)) (setRow_heap _ _ _ _ _ _ H93.out) underlying31 (by rfl) (aC _) underlying50 (by rfl) (aB _)) rfl ⟨by rw [HK2.out, HM.out]; rfl, vr, vi, vo, by rw [HM.out]; exact ((HPz.out.post x9.below).row H91.out.n H91.out.ge _).row H92.out.n H92.out.ge _⟩
  | true =>
   cases q2 with
   | false =>
    have HM : Hid (m = ⟨0#64, 0#64, tS 5 ad, S⟩) := HF2.out (by simp)
    have HK2 : Hid (K2 = K) := by unfold Hid; rw [HSK.out, if_pos (by rw [HM.out]; rfl)]
    clear HF2 HY2 HLD HSK
    go_upto_region 5 with (first | (go_at_call 57; refine (HPC.out _).mono ?_; rintro e wl ⟨rfl, hwl⟩; have hwl2 := hwl.symm; subst hwl2) | (refine wpList_load_row (by rfl) _ _ (by rfl) _ (by rfl) 31 _ (0, 0) _ HO0.out.r underlying31 (by rfl) (aC _) ?_) | (go_at_call 58; refine (HMY.out _).mono ?_; rintro e w3 ⟨rfl, hb3⟩; have HB3 := hid hb3; clear hb3) | (go_at_call 63; refine (HIR.out w3 HB3.out).mono ?_; rintro e wl3 ⟨rfl, hwl3⟩; have hwl4 := hwl3.symm; subst hwl4))
    clear HIR
    refine bE (motive := fun W => Code.wp _ _ _ _ W) (Q := fun W => ROw w c vr vi vo W w.heap.size (cpc K) 31 ∧ ROw w c vr vi vo W (w.heap.size + 1) (cpc cz) 31 ∧ ROw w c vr vi vo W (w.heap.size + 2) (tpc tN) 50 ∧ RSt B c vr vi vo w vr vi vo S W) ⟨HO0.out.post HB3.out, HO1.out.post HB3.out, HO2.out.post HB3.out, HP2.out.post HB3.out⟩ ?_
    clear HO0 HO1 HO2 HP2 HB3
    rintro W3 ⟨o0, o1, o2, p2⟩
    have HO0 := hid o0
    have HO1 := hid o1
    have HO2 := hid o2
    have HPz := hid p2
    clear o0 o1 o2 p2
    have hltC : Hid (w.heap.size < W3.heap.size) := HO0.out.r.lt
    have HLC : Hid (∀ j v, (cpc K)[j]? = some v → W3.cell? ⟨w.heap.size, 0 + j, none⟩ = some v) := HO0.out.r.agg
    have := aY W3
    refine aM (x0 := bV.start W3) 4 (by kernel_rfl) (by kernel_rfl) ?_
    simp only [List.take_succ_cons, List.take_zero, List.drop_succ_cons, List.drop_zero]
    repeat (first | (refine BigFrame.wpQuiet_want (by rfl) fun KK hK => ?_; refine aV 31 _ (by rfl) (w.heap.size) 0 (by rfl) (cpc K) _ hltC.out HLC.out underlying31 (by rfl) (aC _) (hK _ ?_); clear hK KK; simp only [Act.put, List.setIfInBounds_toArray, List.set_cons_succ, List.set_cons_zero]) | (go_big_quiet_step (first | (go_at_call 56; exact bP (HTR.out 5 (by decide) _)))))
    refine wpQuiet_nil ?_
    rintro w' ⟨x9, rfl⟩
    have H91 : Hid (ROw w c vr vi vo x9.1 (w.heap.size + 1) (cpc cz) 31) := HO1.out.post x9.below
    have H92 : Hid (ROw w c vr vi vo x9.1 (w.heap.size + 2) (tpc tN) 50) := HO2.out.post x9.below
    have H93 : Hid (Row (x9.1.setRow (w.heap.size + 1) (cpc K)) (w.heap.size + 2) (tpc tN) 50) := (setRow_other _ _ _ _ (by omega)).trans H92.out.r
    go_wp2_with (first | (refine wpList_store_row (by rfl) _ _ _ (by rfl) (by rfl) _ _ _ (by rfl) (by rfl) H91.out.r (aC _) (by rw [aD, aD]) (aW _) ?_) | (refine wpList_store_row (by rfl) _ _ _ (by rfl) (by rfl) _ _ _ (by rfl) (by rfl) H93.out (aB _) (aT _ _) (aF _) ?_))
    refine bodyPost_ret (v := .tuple #[.int .u64 0, .agg (cpc K), .agg (tpc (tS 5 ad))]) (bW _ _ (w.heap.size + 1) (w.heap.size + 2) 31 50 _ _ (0, 0) (0, 0) _ _ _ results34 (by rfl) (by rfl) (by rfl) ((setRow_other _ _ _ _ (by omega)).trans (setRow_heap _ _ _ _ _ _ H91.out.r)) (setRow_heap _ _ _ _ _ _ H93.out) underlying31 (by rfl) (aC _) underlying50 (by rfl) (aB _)) rfl ⟨by rw [HK2.out, HM.out]; rfl, vr, vi, vo, by rw [HM.out]; exact ((HPz.out.post x9.below).row H91.out.n H91.out.ge _).row H92.out.n H92.out.ge _⟩
   | true =>
    obtain ⟨e1, e2, e3⟩ := HY2.out rfl rfl
    have E1 := hid e1
    have HT2 := hid e2
    have E3 := hid e3
    have HK2 : Hid (K2 = { K with rv := true, ra := ad, rs := sz }) := by unfold Hid; rw [HSK.out, if_neg (by rw [HT2.out]; decide)]
    clear HF2 HY2 e1 e2 e3 HSK
    go_upto_region 7 with (first | (go_at_call 57; refine (HPC.out _).mono ?_; rintro e wl ⟨rfl, hwl⟩; have hwl2 := hwl.symm; subst hwl2) | (refine wpList_load_row (by rfl) _ _ (by rfl) _ (by rfl) 31 _ (0, 0) _ HO0.out.r underlying31 (by rfl) (aC _) ?_) | (go_at_call 58; refine (HMY.out _).mono ?_; rintro e w3 ⟨rfl, hb3⟩; have HB3 := hid hb3; clear hb3) | (go_at_call 63; refine (HIR.out w3 HB3.out).mono ?_; rintro e wl3 ⟨rfl, hwl3⟩; have hwl4 := hwl3.symm; subst hwl4) | (go_at_call 60; refine (HLD.out w3 HB3.out).mono ?_; rintro e w5 ⟨rfl, ur, ui, uo, hp5⟩; have HP5 := hid hp5; clear hp5))
    refine bE (motive := fun W => Code.wp _ _ _ _ W) (Q := fun W => ROw w c ur ui uo W w.heap.size (cpc K) 31 ∧ ROw w c ur ui uo W (w.heap.size + 1) (cpc cz) 31 ∧ ROw w c ur ui uo W (w.heap.size + 2) (tpc tN) 50 ∧ RSt B c vr vi vo w ur ui uo m.S W) ⟨(HO0.out.post HB3.out).bus HP5.out, (HO1.out.post HB3.out).bus HP5.out, (HO2.out.post HB3.out).bus HP5.out, by rw [E3.out]; exact (HP2.out.post HB3.out).trans HP5.out⟩ ?_
    clear HO0 HO1 HO2 HP2 HB3 HP5 HLD HIR
    rintro W6 ⟨o0, o1, o2, p4⟩
    have HTH : Hid (W6.there w.heap.size 79 (rsc true ad sz).size) := o0.r.there (by rw [aD]; show 79 + 3 ≤ 82; omega)
    go_upto_region 8 with (first | (refine aH (by rfl) 29 _ (by rfl) (rsc true ad sz) (by kernel_rfl) ?_) | (refine aL (by rfl) _ _ _ (by rfl) (by rfl) w.heap.size 79 _ (by rfl) (by rfl) HTH.out (bO _ _ _) (dG _ _ _) ?_))
    refine bE (motive := fun W => Code.wp _ _ _ _ W) (Q := fun W => ROw w c ur ui uo W w.heap.size (cpc { K with rv := true, ra := ad, rs := sz }) 31 ∧ ROw w c ur ui uo W (w.heap.size + 1) (cpc cz) 31 ∧ ROw w c ur ui uo W (w.heap.size + 2) (tpc tN) 50 ∧ RSt B c vr vi vo w ur ui uo m.S W) ⟨⟨by have q := o0.r.lay (rsc true ad sz).toList 79; rw [show (rsc true ad sz).toList = [.bool true, .int .u64 (n64 ad), .int .i64 sz] from rfl, eN] at q; exact q, o0.n, o0.ge⟩, ⟨o1.r.lays (by omega) _ _, o1.n, o1.ge⟩, ⟨o2.r.lays (by omega) _ _, o2.n, o2.ge⟩, RSt.lay o0.n o0.ge _ _ p4⟩ ?_
    clear o0 o1 o2 p4 HTH
    rintro W8 ⟨o0, o1, o2, p4⟩
    have HO0 := hid o0
    have HO1 := hid o1
    have HO2 := hid o2
    have HP4 := hid p4
    clear o0 o1 o2 p4
    have hrw : Hid (∀ w9, Exc (fun j => j = w.heap.size + 1 ∨ j = w.heap.size + 2) W8 w9 → Row w9 w.heap.size (cpc { K with rv := true, ra := ad, rs := sz }) 31 ∧ True) := fun w9 hx => ⟨(hx.block _ HO0.out.r.lt (fun e => by rcases e with e | e <;> omega)).trans HO0.out.r, trivial⟩
    have hS0 : Exc (fun j => j = w.heap.size + 1 ∨ j = w.heap.size + 2) W8 W8.drew := ⟨rfl, rfl, rfl, Nat.le_refl _, fun _ _ _ => rfl⟩
    have H1 : Row W8.drew (w.heap.size + 1) (cpc cz) 31 := HO1.out.r
    have H2 : Row (W8.drew.setRow (w.heap.size + 1) (cpc { K with rv := true, ra := ad, rs := sz })) (w.heap.size + 2) (tpc tN) 50 := (setRow_other _ _ _ _ (by omega)).trans HO2.out.r
    have hS1 : Exc (fun j => j = w.heap.size + 1 ∨ j = w.heap.size + 2) W8 (W8.drew.setRow (w.heap.size + 1) (cpc { K with rv := true, ra := ad, rs := sz })) := ⟨rfl, rfl, rfl, by simp, fun k hk hn => setRow_other _ _ _ _ (fun e => hn (.inl e))⟩
    have hS2 : Exc (fun j => j = w.heap.size + 1 ∨ j = w.heap.size + 2) W8 ((W8.drew.setRow (w.heap.size + 1) (cpc { K with rv := true, ra := ad, rs := sz })).setRow (w.heap.size + 2) (tpc m.t)) := ⟨rfl, rfl, rfl, by simp, fun k hk hn => (setRow_other _ _ _ _ (fun e => hn (.inr e))).trans (setRow_other _ _ _ _ (fun e => hn (.inl e)))⟩
    have HP9 : Hid (RSt B c vr vi vo w ur ui uo m.S ((W8.drew.setRow (w.heap.size + 1) (cpc { K with rv := true, ra := ad, rs := sz })).setRow (w.heap.size + 2) (tpc m.t))) := ((HP4.out.post (Below.refl _ _).drew).row HO1.out.n HO1.out.ge _).row HO2.out.n HO2.out.ge _
    have HR1 : Hid (Row ((W8.drew.setRow (w.heap.size + 1) (cpc { K with rv := true, ra := ad, rs := sz })).setRow (w.heap.size + 2) (tpc m.t)) (w.heap.size + 1) (cpc { K with rv := true, ra := ad, rs := sz }) 31) := (setRow_other _ _ _ _ (by omega)).trans (setRow_heap _ _ _ _ _ _ H1)
    have HR2 : Hid (Row ((W8.drew.setRow (w.heap.size + 1) (cpc { K with rv := true, ra := ad, rs := sz })).setRow (w.heap.size + 2) (tpc m.t)) (w.heap.size + 2) (tpc m.t) 50) := setRow_heap _ _ _ _ _ _ H2
    refine wp_region_held (S := fun w' => Exc (fun j => j = w.heap.size + 1 ∨ j = w.heap.size + 2) W8 w') (by kernel_rfl) ?_
    change wpAnyH _ _ _ _ _ _ _ _ W8.drew
    refine aE 0 (some 48) (v := .int .u64 vo1) rfl (by kernel_rfl) (by kernel_rfl) (by kernel_rfl) (by kernel_rfl) (fun _ _ _ h => h) (Or.inl ⟨by rfl, fun w9 hSw => by go_simp⟩) hS0 ?_
    try simp only [Act.put, List.setIfInBounds_toArray, List.set_cons_zero, List.set_cons_succ]
    refine aE 1 (some 49) (v := .agg (cpc { K with rv := true, ra := ad, rs := sz })) rfl (by kernel_rfl) (by kernel_rfl) (by kernel_rfl) (by kernel_rfl) (fun _ _ _ h => h) (Or.inl ⟨by rfl, fun w9 hSw => ?_⟩) hS0 ?_
    ·have q := bM (P := prog) 31 (w.heap.size) (cpc { K with rv := true, ra := ad, rs := sz }) _ w9 (hrw.out w9 hSw).1 underlying31 (by rfl) (aC _)
     unfold execOp
     exact q
    try simp only [Act.put, List.setIfInBounds_toArray, List.set_cons_zero, List.set_cons_succ]
    refine aE 2 (some 50) (v := .agg (tpc m.t)) rfl (by kernel_rfl) (by kernel_rfl) (by kernel_rfl) (by kernel_rfl) (fun _ _ _ h => h) (Or.inl ⟨by rfl, fun w9 hSw => by rw [HT2.out]; exact dO 50 _ (by rfl) (tpc tN) (by kernel_rfl) w9⟩) hS0 ?_
    try simp only [Act.put, List.setIfInBounds_toArray, List.set_cons_zero, List.set_cons_succ]
    refine aE 3 (some 8) (v := .int .u64 vo1) rfl (by kernel_rfl) (by kernel_rfl) (by kernel_rfl) (by kernel_rfl) (fun _ _ _ h => h) (Or.inl ⟨by rfl, fun w9 hSw => by go_simp⟩) hS0 ?_
    try simp only [Act.put, List.setIfInBounds_toArray, List.set_cons_zero, List.set_cons_succ]
    refine aN 4 31 (.tmp 9) (.tmp 49) (by kernel_rfl) (by kernel_rfl) (w.heap.size + 1) (cpc cz) (cpc { K with rv := true, ra := ad, rs := sz }) (by rfl) (by rfl) H1 (aC _) (by rw [aD, aD]) (aW _) hS1 ?_
    try simp only [Act.put, List.setIfInBounds_toArray, List.set_cons_zero, List.set_cons_succ]
    refine aN 5 50 (.tmp 10) (.tmp 50) (by kernel_rfl) (by kernel_rfl) (w.heap.size + 2) (tpc tN) (tpc m.t) (by rfl) (by rfl) H2 (aB _) (aT _ _) (aF _) hS2 ?_
    try simp only [Act.put, List.setIfInBounds_toArray, List.set_cons_zero, List.set_cons_succ]
    refine wpAnyH_done (by kernel_rfl) ?_ _
    go_wp2_with fail
    refine bodyPost_ret (v := .tuple #[.int .u64 vo1, .agg (cpc { K with rv := true, ra := ad, rs := sz }), .agg (tpc m.t)]) (bW _ _ (w.heap.size + 1) (w.heap.size + 2) 31 50 _ _ (0, 0) (0, 0) _ _ _ results34 (by rfl) (by rfl) (by rfl) HR1.out HR2.out underlying31 (by rfl) (aC _) underlying50 (by rfl) (aB _)) rfl ⟨by rw [HK2.out, E1.out], ur, ui, uo, HP9.out⟩
theorem tL (a : Nat) (h : a ≤ 8) : IntKind.u64.wrap (a : Int) = n64 (BitVec.ofNat 64 a) := by
 rw [dR (by omega) (by omega)]
 unfold n64
 rw [BitVec.toNat_ofNat, Nat.mod_eq_of_lt (by omega)]
theorem AP (K : Cp) (h0 : 0 ≤ K.rs ∧ K.rs ≤ 8) (ad : BitVec 64) (sz : Int) (hsz : 0 ≤ sz ∧ sz ≤ 8) (b : Bool) (hb : b = true ↔ sP K ad sz) (w : World) :
  Calls prog 90 #[.agg (rsc K.rv K.ra K.rs), .int .u64 (n64 ad), .int .i64 sz] w fun e w' => e = .returned (.bool b) ∧ Below w.heap.size w w' := by
 obtain ⟨W0, hW0, r0, b0, s0⟩ := cO w (rsc K.rv K.ra K.rs) 29
 have c0 : W0.cell? ⟨w.heap.size, 0, none⟩ = some (.bool K.rv) := r0.out.cell 0
 have c1 : W0.cell? ⟨w.heap.size, 1, none⟩ = some (.int .u64 (n64 K.ra)) := r0.out.cell 1
 have c2 : W0.cell? ⟨w.heap.size, 2, none⟩ = some (.int .i64 K.rs) := r0.out.cell 2
 have HY : Hid (∀ i j : Nat, K.rv = true → (i : Int) < K.rs → (j : Int) < sz → n64 (K.ra + BitVec.ofNat 64 i) = n64 (ad + BitVec.ofNat 64 j) → b = true) := fun i j hv hi hj e => hb.2 ⟨hv, i, j, hi, hj, e⟩
 have HN : Hid ((∀ i j : Nat, (i : Int) < K.rs → (j : Int) < sz → ¬ (K.rv = true ∧ n64 (K.ra + BitVec.ofNat 64 i) = n64 (ad + BitVec.ofNat 64 j))) → b = false) := fun q => by
  cases hbb : b with
  | false => rfl
  | true =>
   obtain ⟨hv, i, j, hi, hj, e⟩ := hb.1 hbb
   exact absurd ⟨hv, e⟩ (q i j hi hj)
 have HW : Hid (∀ a : Nat, a ≤ 8 → IntKind.u64.wrap (a : Int) = n64 (BitVec.ofNat 64 a)) := tL
 have HA1 : Hid (∀ a : Nat, IntKind.u64.wrap (n64 K.ra + n64 (BitVec.ofNat 64 a)) = n64 (K.ra + BitVec.ofNat 64 a)) := fun a => eZ _ _
 have HA2 : Hid (∀ a : Nat, IntKind.u64.wrap (n64 ad + n64 (BitVec.ofNat 64 a)) = n64 (ad + BitVec.ofNat 64 a)) := fun a => eZ _ _
 clear hb s0
 obtain ⟨R, hR⟩ : ∃ R, R = K.rs := ⟨_, rfl⟩
 rw [← hR] at h0 c2 HY HN
 clear hR
 go_enter func90, ntmps90
 go_upto_region 1 with fail
 clear hW0
 go_wp2
 go_loopw [7] (fun x wr => ∃ a : Nat, (a : Int) ≤ R ∧ x = .int .i64 a ∧ wr = W0 ∧ Hid (∀ i j : Nat, i < a → (j : Int) < sz → ¬ (K.rv = true ∧ n64 (K.ra + BitVec.ofNat 64 i) = n64 (ad + BitVec.ofNat 64 j)))) (fun x _ => R.toNat - (intOf x).toNat)
 case atStart => exact ⟨0, by omega, rfl, rfl, fun i j hi => absurd hi (Nat.not_lt_zero _)⟩
 case round =>
  obtain ⟨a, ha, rfl, hwr, HP⟩ := hrel
  subst hwr
  by_cases hlt : (a : Int) < R
  ·go_wp2
   go_loopw [8] (fun y wx => ∃ d : Nat, (d : Int) ≤ sz ∧ y = .int .i64 d ∧ wx = wr ∧ Hid (∀ j : Nat, j < d → ¬ (K.rv = true ∧ n64 (K.ra + BitVec.ofNat 64 a) = n64 (ad + BitVec.ofNat 64 j)))) (fun y _ => sz.toNat - (intOf y).toNat)
   case atStart => exact ⟨0, by omega, rfl, rfl, fun j hj => absurd hj (Nat.not_lt_zero _)⟩
   case round =>
    obtain ⟨d, hd, rfl, hwx, HQ⟩ := hrel
    subst hwx
    by_cases hlt2 : (d : Int) < sz
    ·have w1 := HW.out a (by omega)
     have w2 := HW.out d (by omega)
     have g1 := HA1.out a
     have g2 := HA2.out d
     by_cases hv : K.rv = true
     ·rw [hv] at c0
      by_cases he : n64 (K.ra + BitVec.ofNat 64 a) = n64 (ad + BitVec.ofNat 64 d)
      ·have HB : Hid (b = true) := HY.out a d hv hlt hlt2 he
       rw [he] at g1
       go_wp2
       go_ret
       exact ⟨by rw [HB.out]; rfl, b0.out⟩
      ·have HNX : Hid (∀ j : Nat, j < d + 1 → ¬ (K.rv = true ∧ n64 (K.ra + BitVec.ofNat 64 a) = n64 (ad + BitVec.ofNat 64 j))) := fun j hj q => by
        by_cases e : j = d
        ·subst e; exact he q.2
        ·exact HQ.out j (by omega) q
       have eb : (n64 (K.ra + BitVec.ofNat 64 a) == n64 (ad + BitVec.ofNat 64 d)) = false := by rw [beq_eq_false_iff_ne]; exact he
       go_wp2
       go_roundw
       ·exact ⟨d + 1, by omega, by go_num, trivial, HNX.out⟩
       ·simp only [intOf]; omega
     ·have hvf : K.rv = false := by simpa using hv
      have HNX : Hid (∀ j : Nat, j < d + 1 → ¬ (K.rv = true ∧ n64 (K.ra + BitVec.ofNat 64 a) = n64 (ad + BitVec.ofNat 64 j))) := fun j hj q => hv q.1
      rw [hvf] at c0
      go_wp2
      go_roundw
      ·exact ⟨d + 1, by omega, by go_num, trivial, HNX.out⟩
      ·simp only [intOf]; omega
    ·have HNX : Hid (∀ i j : Nat, i < a + 1 → (j : Int) < sz → ¬ (K.rv = true ∧ n64 (K.ra + BitVec.ofNat 64 i) = n64 (ad + BitVec.ofNat 64 j))) := fun i j hi hj q => by
      by_cases e : i = a
      ·subst e; exact HQ.out j (by omega) q
      ·exact HP.out i j (by omega) hj q
     go_wp2
     go_roundw
     ·exact ⟨a + 1, by omega, by go_num, trivial, HNX.out⟩
     ·simp only [intOf]; omega
  ·have HB : Hid (b = false) := HN.out fun i j hi hj => HP.out i j (by omega) hj
   go_wp2
   go_ret
   exact ⟨by rw [HB.out]; rfl, b0.out⟩
theorem rK (K : Cp) (hk : BA K) (ad : BitVec 64) (sz : Int) (hz : 1 ≤ sz ∧ sz ≤ 8) (w : World) :
  Calls prog 62 #[.agg (cpc K), .int .u64 (n64 ad), .int .i64 sz] w fun e w' => e = .returned (.agg (cpc (bhK K ad sz))) ∧ Below w.heap.size w w' := by
 obtain ⟨W0, hW0, r0, r1, b0, s0⟩ := cJ w (cpc K) (cpc cz) 31 31
 have hzc := dJ
 have hrs : 0 ≤ K.rs ∧ K.rs ≤ 8 := by rcases hk with q | q <;> omega
 have HMT : Hid (∀ (b : Bool), (b = true ↔ sP K ad sz) → ∀ W, Calls prog 90 #[.agg (rsc K.rv K.ra K.rs), .int .u64 (n64 ad), .int .i64 sz] W fun e w' => e = .returned (.bool b) ∧ Below W.heap.size W w') := fun b hb W => AP K hrs ad sz ⟨by omega, hz.2⟩ b hb W
 have HR : Hid (∀ j v, (rsc K.rv K.ra K.rs)[j]? = some v → W0.cell? ⟨w.heap.size, 79 + j, none⟩ = some v) := r0.out.res
 clear s0
 by_cases hm : sP K ad sz
 ·have HE : Hid (bhK K ad sz = nores K) := DL hk hz hm
  have HM2 : Hid (∀ W, Calls prog 90 #[.agg (rsc K.rv K.ra K.rs), .int .u64 (n64 ad), .int .i64 sz] W fun e w' => e = .returned (.bool true) ∧ Below W.heap.size W w') := HMT.out true ⟨fun _ => hm, fun _ => rfl⟩
  clear HMT hk hrs hz hm
  go_enter func62, ntmps62
  go_upto_region 1 with fail
  clear hW0
  go_upto_region 3 with (first | (refine bA (by rfl) _ _ (by rfl) w.heap.size 79 (by rfl) (rsc K.rv K.ra K.rs) _ HR.out underlying29 (by rfl) (bO _ _ _) ?_) | (go_at_call 90; refine (HM2.out _).mono ?_; rintro e w1 ⟨rfl, hb1⟩; have HB1 := hid hb1; clear hb1) | (refine aH (by rfl) 29 _ (by rfl) (rsc false 0#64 0) (by kernel_rfl) ?_) | (refine aL (by rfl) _ _ _ (by rfl) (by rfl) w.heap.size 79 _ (by rfl) (by rfl) ((r0.out.later HB1.out r0.out.lt).there (by rw [aD]; show 79 + 3 ≤ 82; omega)) (bO _ _ _) (dG _ _ _) ?_))
  refine bE (motive := fun W => Code.wp _ _ _ _ W) (Q := fun W => Row W w.heap.size (cpc (nores K)) 31 ∧ Row W (w.heap.size + 1) (cpc cz) 31 ∧ Below w.heap.size w W) ⟨by have q := (r0.out.later HB1.out r0.out.lt).lay (rsc false 0#64 0).toList 79; rw [show (rsc false 0#64 0).toList = [.bool false, .int .u64 (n64 0#64), .int .i64 0] from rfl, eN] at q; exact q, (r1.out.later HB1.out r1.out.lt).lays (by omega) _ _, eH (B := w.heap.size) (g := w.heap.size) (a := w) (Nat.le_refl _) (rsc false 0#64 0).toList 79 (w := w1) (b0.out.trans (HB1.out.mono b0.out.size))⟩ ?_
  clear r0 r1 b0 HB1 HR HM2
  rintro W3 ⟨q0, q1, q2⟩
  have R0 := hid q0
  have R1 := hid q1
  have BB := hid q2
  clear q0 q1 q2
  go_wp2_with (first | (refine wpList_load_row (by rfl) _ _ (by rfl) _ (by rfl) 31 _ (0, 0) _ R0.out underlying31 (by rfl) (aC _) ?_) | (refine wpList_store_row (by rfl) _ _ _ (by rfl) (by rfl) _ _ _ (by rfl) (by rfl) R1.out (aC _) (by rw [aD, aD]) (aW _) ?_))
  refine bodyPost_ret (v := .agg (cpc (nores K))) (results_cell_row results62 _ _ (w.heap.size + 1) 31 _ (0, 0) _ (by rfl) (setRow_heap _ _ _ _ _ _ R1.out) underlying31 (by rfl) (aC _)) rfl ⟨by rw [HE.out], bC BB.out (by omega) _⟩
 ·have HE : Hid (bhK K ad sz = K) := DK hk hz hm
  have HM2 : Hid (∀ W, Calls prog 90 #[.agg (rsc K.rv K.ra K.rs), .int .u64 (n64 ad), .int .i64 sz] W fun e w' => e = .returned (.bool false) ∧ Below W.heap.size W w') := HMT.out false ⟨fun q => (by cases q), fun q => absurd q hm⟩
  clear HMT hk hrs hz hm
  go_enter func62, ntmps62
  go_upto_region 1 with fail
  clear hW0
  go_wp2_with (first | (refine bA (by rfl) _ _ (by rfl) w.heap.size 79 (by rfl) (rsc K.rv K.ra K.rs) _ HR.out underlying29 (by rfl) (bO _ _ _) ?_) | (go_at_call 90; refine (HM2.out _).mono ?_; rintro e w1 ⟨rfl, hb1⟩; have HB1 := hid hb1; clear hb1) | (refine wpList_load_row (by rfl) _ _ (by rfl) _ (by rfl) 31 _ (0, 0) _ (r0.out.later HB1.out r0.out.lt) underlying31 (by rfl) (aC _) ?_) | (refine wpList_store_row (by rfl) _ _ _ (by rfl) (by rfl) _ _ _ (by rfl) (by rfl) (r1.out.later HB1.out r1.out.lt) (aC _) (by rw [aD, aD]) (aW _) ?_))
  refine bodyPost_ret (v := .agg (cpc K)) (results_cell_row results62 _ _ (w.heap.size + 1) 31 _ (0, 0) _ (by rfl) (setRow_heap _ _ _ _ _ _ (r1.out.later HB1.out r1.out.lt)) underlying31 (by rfl) (aC _)) rfl ⟨by rw [HE.out], bC (b0.out.trans (HB1.out.mono b0.out.size)) (by omega) _⟩
end Go.Proofs.YtiffkbmppmejhaaGreatDoor
