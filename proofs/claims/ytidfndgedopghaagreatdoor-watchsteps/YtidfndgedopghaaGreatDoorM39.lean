/-
  Os.
-/
import Derived.Test.YtidfndgedopghaaGreatDoorM38
import Derived.Test.YtidfndgedopghaaGreatDoorM20
namespace Go.Proofs.YtidfndgedopghaaGreatDoor
set_option linter.unusedVariables false
set_option maxRecDepth 100000
set_option maxHeartbeats 4000000
open Go.ChangeShapes Go.WideShapes Go.ChangeAt Go.RowKit Go.Deep
set_option maxHeartbeats 16000000 in
theorem r8_c (b : Cp) (B : St) (br bi bo : Value) (a : Cp) (A : St) (ar ai ao : Value) (K : Cp) (tk ex so : Bool) (vi : Value) (r : Rw) (w : World) : Calls Tryz.prog 109 #[.agg (ssc b B br bi bo a A ar ai ao K tk ex so vi r)] w fun e w' => e = .returned (.bool (klB b.c b.a a.c a.a)) ∧ Below w.heap.size w w' := by
  obtain ⟨W0, hW0, r0, b0, s0⟩ := start1 w (ssc b B br bi bo a A ar ai ao K tk ex so vi r) 79
  have BB := Hid.mkU b0.out
  clear s0 b0
  have HM : Hid (klB b.c b.a a.c a.a = (List.range 16).all fun i => !klF b.c b.a a.c a.a i) := rfl
  generalize klB b.c b.a a.c a.a = Z at HM ⊢
  go_enter Tryz.func109, Tryz.ntmps109
  go_upto_region 1 with fail
  clear hW0
  have HR := Hid.mkU r0.out
  have HB := Hid.mkU BB.out
  clear r0 BB
  go_wp2
  go_loopw [3] (fun i wr => ∃ k : Nat, k ≤ 16 ∧ i = .int .i64 k ∧ Hid (∀ j, j < k → klF b.c b.a a.c a.a j = false) ∧ Hid (Row wr w.heap.size (ssc b B br bi bo a A ar ai ao K tk ex so vi r) 79) ∧ Hid (Below w.heap.size w wr)) (fun i _ => 16 - (intOf i).toNat)
  case atStart => exact ⟨0, Nat.zero_le _, rfl, fun j hj => absurd hj (Nat.not_lt_zero _), HR, HB⟩
  case round =>
    clear HR HB
    obtain ⟨k, hk, rfl, hf, h0, hb⟩ := hrel
    by_cases hlt : k < 16
    · have hlt2 : (k : Int) < 16 := by omega
      have hk0 : (0 : Int) ≤ (k : Int) := by omega
      have HH : Hid (∀ W, Calls Tryz.prog 148 #[.agg (pc b.c b.a), .int .i64 k] W fun e w' => e = .returned (.tuple #[.bool (cL (PC b.c) k), .bool (aL (PC b.c) k)]) ∧ Below W.heap.size W w') := fun W => rLocked_c b.c b.a k W
      have HK : Hid (klF b.c b.a a.c a.a k = ((cL (PC b.c) k && (n8 (a.c k) != n8 (b.c k))) || (aL (PC b.c) k && (n64 (a.a k) != n64 (b.a k))))) := rfl
      have HG : Hid (klF b.c b.a a.c a.a k = true → Z = false) := fun h => HM.out.trans (all_hit hlt (by rw [h]; rfl))
      have HF0 : Hid (klF b.c b.a a.c a.a k = false → ∀ j, j < k + 1 → klF b.c b.a a.c a.a j = false) := fun h j hj => by
        by_cases e : j = k
        · rw [e]; exact h
        · exact hf.out j (by omega)
      have C5 : Hid (∀ j v, (pc b.c b.a)[j]? = some v → wr.cell? ⟨w.heap.size, 47 + j, none⟩ = some v) := (fun j v hv => (h0.out.cell (47 + j)).trans (ssc_bp _ _ _ _ _ _ _ _ _ _ _ _ _ _ _ _ j v hv))
      go_upto_region 5 with (first | (refine wpList_load_agg (by rfl) 28 _ (by rfl) w.heap.size 47 (by rfl) (pc b.c b.a) _ C5.out Tryz.underlying28 (by rfl) (info_pmpU _ _) ?_) | (go_at_call 148; refine (HH.out _).mono ?_; rintro e w1 ⟨rfl, hb1⟩; have HB1 : Hid (Below wr.heap.size wr w1) := hb1; clear hb1))
      have R0 := Hid.mkU (h0.out.later HB1.out h0.out.lt)
      have BW : Hid (Below w.heap.size w w1) := hb.out.trans (HB1.out.mono hb.out.size)
      have d0 : w1.cell? ⟨w.heap.size, 47 + k, none⟩ = some (.int .u8 (n8 (b.c k))) := (R0.out.cell (47 + k)).trans (ssc_bp _ _ _ _ _ _ _ _ _ _ _ _ _ _ _ _ k _ (by rw [pc_at b.c b.a k (by omega)]; unfold pcell; rw [if_pos hlt]))
      have d1 : w1.cell? ⟨w.heap.size, 144 + k, none⟩ = some (.int .u8 (n8 (a.c k))) := (R0.out.cell (144 + k)).trans (ssc_ap _ _ _ _ _ _ _ _ _ _ _ _ _ _ _ _ k _ (by rw [pc_at a.c a.a k (by omega)]; unfold pcell; rw [if_pos hlt]))
      have e0 : w1.cell? ⟨w.heap.size, 63 + k, none⟩ = some (.int .u64 (n64 (b.a k))) := (R0.out.cell (63 + k)).trans (by rw [show 63 + k = 47 + (16 + k) by omega]; exact (ssc_bp _ _ _ _ _ _ _ _ _ _ _ _ _ _ _ _ (16 + k) _ (by rw [pc_at b.c b.a (16 + k) (by omega)]; unfold pcell; rw [if_neg (by omega), Nat.add_sub_cancel_left])))
      have e1 : w1.cell? ⟨w.heap.size, 160 + k, none⟩ = some (.int .u64 (n64 (a.a k))) := (R0.out.cell (160 + k)).trans (by rw [show 160 + k = 144 + (16 + k) by omega]; exact (ssc_ap _ _ _ _ _ _ _ _ _ _ _ _ _ _ _ _ (16 + k) _ (by rw [pc_at a.c a.a (16 + k) (by omega)]; unfold pcell; rw [if_neg (by omega), Nat.add_sub_cancel_left])))
      generalize cL (PC b.c) k = z1 at *
      generalize aL (PC b.c) k = z2 at *
      generalize n8 (b.c k) = x0 at *
      generalize n8 (a.c k) = x1 at *
      generalize n64 (b.a k) = y0 at *
      generalize n64 (a.a k) = y1 at *
      generalize klF b.c b.a a.c a.a k = F at HK HG HF0
      clear h0 C5 HH hf
      cases z1
      focus
        cases z2
        focus
          have HQ : Hid (F = false) := (by unfold Hid; first | (rw [HK.out]; done) | (rw [HK.out]; rfl))
          clear HK
          have MY : Hid True := trivial
        rotate_left 1
        focus
          cases q1 : (y1 != y0)
          focus
            have HQ : Hid (F = false) := (by unfold Hid; first | (rw [HK.out, q1]; done) | (rw [HK.out, q1]; rfl))
            clear HK
            have MY : Hid True := trivial
          rotate_left 1
          focus
            have HQ : Hid (F = true) := (by unfold Hid; first | (rw [HK.out, q1]; done) | (rw [HK.out, q1]; rfl))
            clear HK
            have MX : Hid True := trivial
          rotate_left 1
        rotate_left 2
      rotate_left 3
      focus
        cases q2 : (x1 != x0)
        focus
          cases z2
          focus
            have HQ : Hid (F = false) := (by unfold Hid; first | (rw [HK.out, q2]; done) | (rw [HK.out, q2]; rfl))
            clear HK
            have MY : Hid True := trivial
          rotate_left 1
          focus
            cases q3 : (y1 != y0)
            focus
              have HQ : Hid (F = false) := (by unfold Hid; first | (rw [HK.out, q2, q3]; done) | (rw [HK.out, q2, q3]; rfl))
              clear HK
              have MY : Hid True := trivial
            rotate_left 1
            focus
              have HQ : Hid (F = true) := (by unfold Hid; first | (rw [HK.out, q2, q3]; done) | (rw [HK.out, q2, q3]; rfl))
              clear HK
              have MX : Hid True := trivial
            rotate_left 1
          rotate_left 2
        rotate_left 3
        focus
          have HQ : Hid (F = true) := (by unfold Hid; first | (rw [HK.out, q2]; done) | (rw [HK.out, q2]; rfl))
          clear HK
          have MX : Hid True := trivial
        rotate_left 1
      rotate_left 4
      all_goals
        (go_quiet (fail))
        first | (have := MX; (have HV := Hid.mkU (HG.out HQ.out)); (clear HG HF0 HM); (go_wp2); (go_ret); (exact ⟨by rw [HV.out]; first | done | rfl, below_drewU BW.out _⟩)) | skip
      all_goals
        have := MY
        have HF := Hid.mkU (HF0.out HQ.out)
        clear HG HF0 HQ
        go_wp2
        go_roundw
        case rel => exact ⟨k + 1, by omega, by go_num, HF, R0.out.later (below_drewU (Below.refl _ _) _) R0.out.lt, below_drewU BW.out _⟩
        case measure => simp [intOf]; omega
    · obtain rfl : k = 16 := by omega
      have HV : Hid (Z = true) := HM.out.trans (all_none (fun j hj => by rw [hf.out j hj]; rfl))
      clear hf HM
      go_wp2
      go_ret
      exact ⟨by rw [HV.out]; first | done | rfl, hb.out⟩
def r5B (b : Cp) (B A : St) : Bool := (b.md != 0) || swB (gn2 b) B.ram A.ram
set_option maxHeartbeats 16000000 in
theorem r5_c (b : Cp) (B : St) (br bi bo : Value) (a : Cp) (A : St) (ar ai ao : Value) (K : Cp) (tk ex so : Bool) (vi : Value) (r : Rw) (w : World) (hA : Bs A ar ai ao w) (hB : Bs B br bi bo w) (dB : Bd B) (hlen : A.ram.length = B.ram.length) : Calls Tryz.prog 107 #[.agg (ssc b B br bi bo a A ar ai ao K tk ex so vi r)] w fun e w' => e = .returned (.bool (r5B b B A)) ∧ Below w.heap.size w w' := by
  obtain ⟨W0, hW0, r0, b0, s0⟩ := start1 w (ssc b B br bi bo a A ar ai ao K tk ex so vi r) 79
  have BB := Hid.mkU b0.out
  clear s0 b0
  have HLN := Hid.mkU hlen
  obtain ⟨xa, ca, har, ha1, -, hra⟩ := hA.r
  obtain ⟨xb, cb, hbr, hb1, -, hrb⟩ := hB.r
  have HRA := Hid.mkU hra
  have HRB := Hid.mkU hrb
  have HAR := Hid.mkU har
  have HBR := Hid.mkU hbr
  have HDB := Hid.mkU dB.r
  clear hlen hra hrb har hbr hA hB dB ha1 hb1
  have HM : Hid (r5B b B A = ((b.md != 0) || swB (gn2 b) B.ram A.ram)) := rfl
  have HSH : Hid (∀ k, k < B.ram.length → ((A.ram.getD k 0 == B.ram.getD k 0) || gr2 b (BitVec.ofNat 64 (2147483648 + k))) = false → swB (gn2 b) B.ram A.ram = false) := fun k h1 h2 => all_hit h1 (by unfold gn2; rw [Bool.not_not]; exact h2)
  have HSN : Hid ((∀ k, k < B.ram.length → ((A.ram.getD k 0 == B.ram.getD k 0) || gr2 b (BitVec.ofNat 64 (2147483648 + k))) = true) → swB (gn2 b) B.ram A.ram = true) := fun h => all_none (fun k hk => by unfold gn2; rw [Bool.not_not]; exact h k hk)
  generalize r5B b B A = Z at HM ⊢
  generalize swB (gn2 b) B.ram A.ram = zs at *
  go_enter Tryz.func107, Tryz.ntmps107
  go_upto_region 1 with fail
  clear hW0
  have e_b_md : W0.cell? ⟨w.heap.size, 33, none⟩ = some (.int .i64 b.md) := (r0.out.cell 33).trans (ssc_bc _ _ _ _ _ _ _ _ _ _ _ _ _ _ _ _ 33 _ (cpc_at _ 33 (by omega)))
  cases q0 : (b.md != 0)
  rotate_left 1
  focus
    have HV : Hid (Z = true) := (by unfold Hid; rw [HM.out, q0]; rfl)
    clear HM
    go_wp2
    go_ret
    exact ⟨by rw [HV.out]; first | done | rfl, BB.out⟩
  have HZ : Hid (Z = zs) := (by unfold Hid; rw [HM.out, q0]; rfl)
  clear HM
  have HC0 : Hid (∀ W, Below W0.heap.size W0 W → W.cell? ⟨w.heap.size, 179, none⟩ = some (.slice xa B.ram.length ca)) := fun W h => by
    have c : W.cell? ⟨w.heap.size, 179, none⟩ = some ar := ((r0.out.later h r0.out.lt).cell 179).trans (ssc_as _ _ _ _ _ _ _ _ _ _ _ _ _ _ _ _ 0 _ rfl)
    rw [HAR.out, HLN.out] at c
    exact c
  have HC1 : Hid (∀ W, Below W0.heap.size W0 W → W.cell? ⟨w.heap.size, 82, none⟩ = some (.slice xb B.ram.length cb)) := fun W h => by
    have c : W.cell? ⟨w.heap.size, 82, none⟩ = some br := ((r0.out.later h r0.out.lt).cell 82).trans (ssc_bs _ _ _ _ _ _ _ _ _ _ _ _ _ _ _ _ 0 _ rfl)
    rw [HBR.out] at c
    exact c
  clear HAR HBR
  go_upto_region 4 with fail
  go_wp2
  go_loopw [3] (fun i wr => ∃ k : Nat, k ≤ B.ram.length ∧ i = .int .i64 k ∧ Hid (∀ j, j < k → ((A.ram.getD j 0 == B.ram.getD j 0) || gr2 b (BitVec.ofNat 64 (2147483648 + j))) = true) ∧ Hid (Below W0.heap.size W0 wr)) (fun i _ => B.ram.length - (intOf i).toNat)
  case atStart => exact ⟨0, Nat.zero_le _, rfl, fun j hj => absurd hj (Nat.not_lt_zero _), Below.refl _ _⟩
  case round =>
    obtain ⟨k, hk, rfl, hf, hb⟩ := hrel
    have e1 := HC1.out wr hb.out
    have HBW := Hid.mkU (BB.out.trans (hb.out.mono BB.out.size))
    by_cases hlt : k < B.ram.length
    · have hlt2 : (k : Int) < (B.ram.length : Int) := by omega
      have d0 : ∀ x : Later wr, x.1.cell? ⟨w.heap.size, 179, none⟩ = some (.slice xa B.ram.length ca) := fun x => HC0.out x.1 (hb.out.trans (x.2.mono hb.out.size))
      have d1 : ∀ x : Later wr, x.1.cell? ⟨w.heap.size, 82, none⟩ = some (.slice xb B.ram.length cb) := fun x => HC1.out x.1 (hb.out.trans (x.2.mono hb.out.size))
      obtain ⟨gv, ov, hxb, hgv, hcv⟩ := HRB.out (by intro e; rw [e] at hlt; simp at hlt)
      obtain ⟨gu, ou, hxa, hgu, hcu⟩ := HRA.out (by intro e; have h0 : A.ram.length = 0 := by rw [e]; rfl
                                                    have := HLN.out; omega)
      subst hxa hxb
      have HWW := Hid.mkU (BB.out.trans (hb.out.mono BB.out.size))
      have hku : ∀ x : Later wr, x.1.cell? ⟨gu, ou + k, none⟩ = some (.int .u8 (A.ram.getD k 0)) := fun x => ((HWW.out.trans (x.2.mono HWW.out.size)).cell hgu).trans (hcu k (by have := HLN.out; omega))
      have hkv : ∀ x : Later wr, x.1.cell? ⟨gv, ov + k, none⟩ = some (.int .u8 (B.ram.getD k 0)) := fun x => ((HWW.out.trans (x.2.mono HWW.out.size)).cell hgv).trans (hcv k hlt)
      have had := ram_at k (by have := HDB.out; omega)
      have hcw : IntKind.u64.wrap (k : Int) = (k : Int) := by show (k : Int) % 18446744073709551616 = _; have := HDB.out; omega
      have r0w := Hid.mkU (r0.out.later hb.out r0.out.lt)
      have HC : Hid (∀ x : Later wr, Calls Tryz.prog 29 #[.agg (pc b.c b.a), .int .u64 (n64 (BitVec.ofNat 64 (2147483648 + k))), .int .i64 2] x.1 fun e w' => e = .returned (.bool (gr2 b (BitVec.ofNat 64 (2147483648 + k)))) ∧ Below x.1.heap.size x.1 w') := fun x => rGranted_c b.c b.a (BitVec.ofNat 64 (2147483648 + k)) 2 x.1
      have HT : Hid (((A.ram.getD k 0 == B.ram.getD k 0) || gr2 b (BitVec.ofNat 64 (2147483648 + k))) = true → ∀ j, j < k + 1 → ((A.ram.getD j 0 == B.ram.getD j 0) || gr2 b (BitVec.ofNat 64 (2147483648 + j))) = true) := fun hq j hj => by
        by_cases e : j = k
        · rw [e]; exact hq
        · exact hf.out j (by omega)
      have HZZ : Hid (((A.ram.getD k 0 == B.ram.getD k 0) || gr2 b (BitVec.ofNat 64 (2147483648 + k))) = false → Z = false) := fun hq => HZ.out.trans (HSH.out k hlt hq)
      have hne := later_nonempty wr
      have hL2 := HDB.out
      clear hf hcu hcv HRA HRB HSH HSN HC0 HC1 HZ HDB
      generalize gr2 b (BitVec.ofNat 64 (2147483648 + k)) = q at *
      generalize n64 (BitVec.ofNat 64 (2147483648 + k)) = y at *
      generalize hx : A.ram.getD k 0 = x at *
      generalize hzz : B.ram.getD k 0 = z at *
      clear hx hzz
      go_upto_region 6 with fail
      have HBX : Hid (∀ v : Bool, (x != z) = v → (x == z) = !v) := fun v h => by rw [← h]; unfold bne; rw [Bool.not_not]
      cases h1 : (x != z)
      focus
        have HF := Hid.mkU (HT.out (by rw [HBX.out _ h1]; rfl))
        have MY : Hid True := trivial
      rotate_left 1
      focus
        cases q
        focus
          have HV := Hid.mkU (HZZ.out (by rw [HBX.out _ h1]; rfl))
          have MX : Hid True := trivial
        rotate_left 1
        focus
          have HF := Hid.mkU (HT.out (by rw [HBX.out _ h1]; rfl))
          have MY : Hid True := trivial
        rotate_left 1
      all_goals
        clear HT HZZ HBX
        refine wp_region_later (x0 := Later.start wr) (by kernel_rfl) (by kernel_rfl) ?_
        iterate 19 (go_big_quiet_step (fail))
        (first | (go_big_quiet_want; refine quiet_load_agg 28 _ (by rfl) (w.heap.size) 47 (by rfl) (pc b.c b.a) _ r0w.out.lt (fun j v hv => (r0w.out.cell (47 + j)).trans (ssc_bp _ _ _ _ _ _ _ _ _ _ _ _ _ _ _ _ j v hv)) Tryz.underlying28 (by rfl) (info_pmpU _ _) ?_; simp only [Act.put, List.setIfInBounds_toArray, List.set_cons_succ, List.set_cons_zero]; go_big_quiet_on) | (go_big_quiet_step (fail)))
        iterate 3 (go_big_quiet_step (fail))
        (go_big_quiet_step ((go_at_call 29; exact calls_later (HC.out _))))
        iterate 2 (go_big_quiet_step (fail))
        refine wpQuiet_nil ?_
        rintro _ ⟨yr, rfl⟩
        first | (have := MX; (go_wp2); (go_ret); (exact ⟨by rw [HV.out]; first | done | rfl, HBW.out.trans (yr.2.mono HBW.out.size)⟩)) | skip
      all_goals
        have := MY
        have HB2 := Hid.mkU (hb.out.trans (yr.2.mono hb.out.size))
        clear hku hkv d0 d1
        go_wp2
        go_roundw
        case rel => exact ⟨k + 1, by omega, by go_num, HF, HB2⟩
        case measure => simp [intOf]; omega
    · have hge : ¬ ((k : Int) < (B.ram.length : Int)) := by omega
      have HV : Hid (Z = true) := HZ.out.trans (HSN.out (fun j hj => hf.out j (by omega)))
      clear HSH HSN hf HZ
      go_wp2
      go_ret
      exact ⟨by rw [HV.out]; first | done | rfl, HBW.out⟩
def r17B (B A : St) (r : Rw) : Bool := (((!(decide (A.out.length < B.out.length))) && (bsB (A.out.take B.out.length) B.out)) && (((((bits .and .i64 r.mem 2 == 0) || (n64 r.ad != 268435456)) || (r.sz != 1)) && ((A.out.length : Int) == (B.out.length : Int))) || ((!(((bits .and .i64 r.mem 2 == 0) || (n64 r.ad != 268435456)) || (r.sz != 1))) && (((A.out.length : Int) == (B.out.length : Int)) || (((A.out.length : Int) == (B.out.length : Int) + 1) && (A.out.getD B.out.length 0 == n64 r.dat))))))
set_option maxHeartbeats 16000000 in
theorem r17_c (b : Cp) (B : St) (br bi bo : Value) (a : Cp) (A : St) (ar ai ao : Value) (K : Cp) (tk ex so : Bool) (vi : Value) (r : Rw) (w : World) (hA : Bs A ar ai ao w) (hB : Bs B br bi bo w) (dB : Bd B) (hAll : AllB A.out) : Calls Tryz.prog 117 #[.agg (ssc b B br bi bo a A ar ai ao K tk ex so vi r)] w fun e w' => e = .returned (.bool (r17B B A r)) ∧ Below w.heap.size w w' := by
  obtain ⟨W0, hW0, r0, b0, s0⟩ := start1 w (ssc b B br bi bo a A ar ai ao K tk ex so vi r) 79
  have BB := Hid.mkU b0.out
  clear s0 b0
  obtain ⟨xa, ca, hao, ha1, ha2, hra⟩ := hA.o
  obtain ⟨xb, cb, hbo, hb1, hb2, hrb⟩ := hB.o
  have HBS : Hid (decide (A.out.length < B.out.length) = false → ∀ x : Later W0, Calls Tryz.prog 56 #[.slice xa B.out.length ca, .slice xb B.out.length cb] x.1 fun e w' => e = .returned (.bool (bsB (A.out.take B.out.length) B.out)) ∧ Below x.1.heap.size x.1 w') := fun h x => by
    have hle := of_decide_eq_false h
    have hAo : Byt w (.slice xa A.out.length ca) A.out := by rw [← hao]; exact hA.o
    have hBo : Byt w (.slice xb B.out.length cb) B.out := by rw [← hbo]; exact hB.o
    have hbx := BB.out.trans (x.2.mono BB.out.size)
    exact rbytes_c _ _ _ _ x.1 ((hAo.takeU (by omega)).later hbx rfl) (hBo.later hbx rfl) (by rw [List.length_take]; have := dB.o; omega) dB.o
  have HCX : Hid (decide (A.out.length < B.out.length) = false → B.out.length ≤ ca ∧ (B.out.length : Int) ≤ (ca : Int)) := fun h => by have := of_decide_eq_false h; omega
  have HX : Hid (((A.out.length : Int) == (B.out.length : Int) + 1) = true → ∃ gv ov, xa = some ⟨gv, ov, none⟩ ∧ (∀ x : Later W0, x.1.cell? ⟨gv, ov + B.out.length, none⟩ = some (.int .u8 (A.out.getD B.out.length 0))) ∧ (B.out.length : Int) < (A.out.length : Int)) := fun h => by
    have hl : (A.out.length : Int) = (B.out.length : Int) + 1 := by simpa using h
    obtain ⟨gv, ov, e, hg, hc⟩ := hra (by intro e; rw [e] at hl; simp at hl; omega)
    exact ⟨gv, ov, e, fun x => ((BB.out.trans (x.2.mono BB.out.size)).cell hg).trans (hc _ (by omega)), by omega⟩
  have hcvt : IntKind.u64.wrap (A.out.getD B.out.length 0) = A.out.getD B.out.length 0 := by
    have hb8 : 0 ≤ A.out.getD B.out.length 0 ∧ A.out.getD B.out.length 0 ≤ 255 := by
      by_cases h : B.out.length < A.out.length
      · exact hAll _ (by rw [List.getD_eq_getElem?_getD, List.getElem?_eq_getElem h]; exact List.getElem_mem _)
      · rw [List.getD_eq_getElem?_getD, List.getElem?_eq_none (by omega)]; exact ⟨by decide, by decide⟩
    show _ % 18446744073709551616 = _
    omega
  have c_A_o : ∀ x : Later W0, x.1.cell? ⟨w.heap.size, 191, none⟩ = some (.slice xa A.out.length ca) := fun x => by
    have c : x.1.cell? ⟨w.heap.size, 191, none⟩ = some ao := ((lrow r0.out x).cell 191).trans (ssc_as _ _ _ _ _ _ _ _ _ _ _ _ _ _ _ _ 12 _ rfl)
    rw [hao] at c
    exact c
  have c_B_o : ∀ x : Later W0, x.1.cell? ⟨w.heap.size, 94, none⟩ = some (.slice xb B.out.length cb) := fun x => by
    have c : x.1.cell? ⟨w.heap.size, 94, none⟩ = some bo := ((lrow r0.out x).cell 94).trans (ssc_bs _ _ _ _ _ _ _ _ _ _ _ _ _ _ _ _ 12 _ rfl)
    rw [hbo] at c
    exact c
  have f_A_o : W0.cell? ⟨w.heap.size, 191, none⟩ = some (.slice xa A.out.length ca) := c_A_o (Later.start W0)
  have f_B_o : W0.cell? ⟨w.heap.size, 94, none⟩ = some (.slice xb B.out.length cb) := c_B_o (Later.start W0)
  have HDI : Hid (decide ((A.out.length : Int) < (B.out.length : Int)) = decide (A.out.length < B.out.length)) := by unfold Hid; rw [decide_eq_decide]; omega
  have hNB := dB.o
  clear hao hbo hra hrb hA hB dB hAll ha1 ha2 hb1 hb2 c_A_o c_B_o
  have HM : Hid (r17B B A r = (((!(decide (A.out.length < B.out.length))) && (bsB (A.out.take B.out.length) B.out)) && (((((bits .and .i64 r.mem 2 == 0) || (n64 r.ad != 268435456)) || (r.sz != 1)) && ((A.out.length : Int) == (B.out.length : Int))) || ((!(((bits .and .i64 r.mem 2 == 0) || (n64 r.ad != 268435456)) || (r.sz != 1))) && (((A.out.length : Int) == (B.out.length : Int)) || (((A.out.length : Int) == (B.out.length : Int) + 1) && (A.out.getD B.out.length 0 == n64 r.dat))))))) := rfl
  generalize r17B B A r = Z at HM ⊢
  generalize bsB (A.out.take B.out.length) B.out = zp at *
  generalize A.out.getD B.out.length 0 = x at *
  generalize A.out.length = NA at *
  generalize B.out.length = NB at *
  go_enter Tryz.func117, Tryz.ntmps117
  go_upto_region 1 with fail
  clear hW0
  have hne := later_nonempty W0
  have c_r_mem : ∀ x : Later W0, x.1.cell? ⟨w.heap.size, 290, none⟩ = some (.int .i64 r.mem) := fun x => ((lrow r0.out x).cell 290).trans (ssc_r _ _ _ _ _ _ _ _ _ _ _ _ _ _ _ _ 10 _ rfl)
  have c_r_ad : ∀ x : Later W0, x.1.cell? ⟨w.heap.size, 291, none⟩ = some (.int .u64 (n64 r.ad)) := fun x => ((lrow r0.out x).cell 291).trans (ssc_r _ _ _ _ _ _ _ _ _ _ _ _ _ _ _ _ 11 _ rfl)
  have c_r_sz : ∀ x : Later W0, x.1.cell? ⟨w.heap.size, 292, none⟩ = some (.int .i64 r.sz) := fun x => ((lrow r0.out x).cell 292).trans (ssc_r _ _ _ _ _ _ _ _ _ _ _ _ _ _ _ _ 12 _ rfl)
  have c_r_dat : ∀ x : Later W0, x.1.cell? ⟨w.heap.size, 293, none⟩ = some (.int .u64 (n64 r.dat)) := fun x => ((lrow r0.out x).cell 293).trans (ssc_r _ _ _ _ _ _ _ _ _ _ _ _ _ _ _ _ 13 _ rfl)
  cases q1 : (decide (NA < NB))
  focus
    cases zp
    focus
      have HV : Hid (Z = false) := (by unfold Hid; first | (rw [HM.out, q1]; done) | (rw [HM.out, q1]; rfl))
      clear HM
      have M1 : Hid True := trivial
    rotate_left 1
    focus
      cases q2 : (bits .and .i64 r.mem 2 == 0)
      focus
        cases q3 : (n64 r.ad != 268435456)
        focus
          cases q4 : (r.sz != 1)
          focus
            cases q5 : ((NA : Int) == (NB : Int))
            focus
              cases q6 : ((NA : Int) == (NB : Int) + 1)
              focus
                have HV : Hid (Z = false) := (by unfold Hid; first | (rw [HM.out, q1, q2, q3, q4, q5, q6]; done) | (rw [HM.out, q1, q2, q3, q4, q5, q6]; rfl))
                clear HM
                have M2 : Hid True := trivial
              rotate_left 1
              focus
                cases q7 : (x == n64 r.dat)
                focus
                  have HV : Hid (Z = false) := (by unfold Hid; first | (rw [HM.out, q1, q2, q3, q4, q5, q6, q7]; done) | (rw [HM.out, q1, q2, q3, q4, q5, q6, q7]; rfl))
                  clear HM
                  have M3 : Hid True := trivial
                rotate_left 1
                focus
                  have HV : Hid (Z = true) := (by unfold Hid; first | (rw [HM.out, q1, q2, q3, q4, q5, q6, q7]; done) | (rw [HM.out, q1, q2, q3, q4, q5, q6, q7]; rfl))
                  clear HM
                  have M3 : Hid True := trivial
                rotate_left 1
              rotate_left 2
            rotate_left 3
            focus
              have HV : Hid (Z = true) := (by unfold Hid; first | (rw [HM.out, q1, q2, q3, q4, q5]; done) | (rw [HM.out, q1, q2, q3, q4, q5]; rfl))
              clear HM
              have M2 : Hid True := trivial
            rotate_left 1
          rotate_left 4
          focus
            cases q8 : ((NA : Int) == (NB : Int))
            focus
              have HV : Hid (Z = false) := (by unfold Hid; first | (rw [HM.out, q1, q2, q3, q4, q8]; done) | (rw [HM.out, q1, q2, q3, q4, q8]; rfl))
              clear HM
              have M1 : Hid True := trivial
            rotate_left 1
            focus
              have HV : Hid (Z = true) := (by unfold Hid; first | (rw [HM.out, q1, q2, q3, q4, q8]; done) | (rw [HM.out, q1, q2, q3, q4, q8]; rfl))
              clear HM
              have M1 : Hid True := trivial
            rotate_left 1
          rotate_left 2
        rotate_left 6
        focus
          cases q9 : ((NA : Int) == (NB : Int))
          focus
            have HV : Hid (Z = false) := (by unfold Hid; first | (rw [HM.out, q1, q2, q3, q9]; done) | (rw [HM.out, q1, q2, q3, q9]; rfl))
            clear HM
            have M1 : Hid True := trivial
          rotate_left 1
          focus
            have HV : Hid (Z = true) := (by unfold Hid; first | (rw [HM.out, q1, q2, q3, q9]; done) | (rw [HM.out, q1, q2, q3, q9]; rfl))
            clear HM
            have M1 : Hid True := trivial
          rotate_left 1
        rotate_left 2
      rotate_left 8
      focus
        cases q10 : ((NA : Int) == (NB : Int))
        focus
          have HV : Hid (Z = false) := (by unfold Hid; first | (rw [HM.out, q1, q2, q10]; done) | (rw [HM.out, q1, q2, q10]; rfl))
          clear HM
          have M1 : Hid True := trivial
        rotate_left 1
        focus
          have HV : Hid (Z = true) := (by unfold Hid; first | (rw [HM.out, q1, q2, q10]; done) | (rw [HM.out, q1, q2, q10]; rfl))
          clear HM
          have M1 : Hid True := trivial
        rotate_left 1
      rotate_left 2
    rotate_left 10
  rotate_left 11
  focus
    have HV : Hid (Z = false) := (by unfold Hid; first | (rw [HM.out, q1]; done) | (rw [HM.out, q1]; rfl))
    clear HM
    have M0 : Hid True := trivial
  rotate_left 1
  all_goals
    have hdi := HDI.out
    rw [q1] at hdi
    go_upto_region 3 with fail
    first | (have := M0; (clear HBS HX HCX); (refine wp_region_plain (x0 := Later.start W0) ?_); ((go_big_quiet_step (fail))); ((go_big_quiet_step (rfl))); ((go_big_quiet_step (fail))); ((go_big_quiet_step (rfl))); (iterate 4 (go_big_quiet_step (fail))); ((go_big_quiet_step (rfl))); (iterate 2 (go_big_quiet_step (fail))); ((go_big_quiet_step ((go_at_call 56; exact calls_later (HBS.out _))))); (iterate 2 (go_big_quiet_step (fail))); (refine wpQuiet_nil ?_); (rintro _ ⟨yq, rfl⟩); (go_wp2); (go_ret); (exact ⟨by rw [HV.out]; first | done | rfl, BB.out.trans (yq.2.mono BB.out.size)⟩)) | skip
  all_goals
    have HBL := Hid.mkU (HBS.out q1)
    obtain ⟨hc1, hc2⟩ := HCX.out q1
    clear HBS HCX
    refine wp_region_plain (x0 := Later.start W0) ?_
    (go_big_quiet_step (fail))
    (go_big_quiet_step (rfl))
    (go_big_quiet_step (fail))
    (go_big_quiet_step (rfl))
    iterate 4 (go_big_quiet_step (fail))
    (go_big_quiet_step (rfl))
    iterate 2 (go_big_quiet_step (fail))
    (go_big_quiet_step ((go_at_call 56; exact calls_later (HBL.out _))))
    iterate 2 (go_big_quiet_step (fail))
    refine wpQuiet_nil ?_
    rintro _ ⟨yq, rfl⟩
    have d_r_mem := c_r_mem yq
    have d_r_ad := c_r_ad yq
    have d_r_sz := c_r_sz yq
    first | (have := M1; (go_wp2); (go_ret); (exact ⟨by rw [HV.out]; first | done | rfl, BB.out.trans (yq.2.mono BB.out.size)⟩)) | skip
  all_goals
    first | (have := M2; ((go_upto_region 7 with fail)); (refine wp_region_later (x0 := yq) (by kernel_rfl) (by kernel_rfl) ?_); ((go_big_quiet_step (fail))); ((go_big_quiet_step (rfl))); ((go_big_quiet_step (fail))); ((go_big_quiet_step (rfl))); (iterate 3 (go_big_quiet_step (fail))); ((go_big_quiet_step (rfl))); ((go_big_quiet_step (fail))); ((go_big_quiet_step (rfl))); (iterate 5 (go_big_quiet_step (fail))); ((go_big_quiet_step (rfl))); (iterate 10 (go_big_quiet_step (fail))); (refine wpQuiet_nil ?_); (rintro _ ⟨yp, rfl⟩); (go_wp2); (go_ret); (exact ⟨by rw [HV.out]; first | done | rfl, BB.out.trans (yp.2.mono BB.out.size)⟩)) | skip
  all_goals
    obtain ⟨gv, ov, hxa, hcell, hix⟩ := HX.out (by assumption)
    subst hxa
    clear HX
    (go_upto_region 7 with fail)
    refine wp_region_later (x0 := yq) (by kernel_rfl) (by kernel_rfl) ?_
    (go_big_quiet_step (fail))
    (go_big_quiet_step (rfl))
    (go_big_quiet_step (fail))
    (go_big_quiet_step (rfl))
    iterate 3 (go_big_quiet_step (fail))
    (go_big_quiet_step (rfl))
    (go_big_quiet_step (fail))
    (go_big_quiet_step (rfl))
    iterate 5 (go_big_quiet_step (fail))
    (go_big_quiet_step (rfl))
    iterate 10 (go_big_quiet_step (fail))
    refine wpQuiet_nil ?_
    rintro _ ⟨yp, rfl⟩
    go_wp2
    go_ret
    exact ⟨by rw [HV.out]; first | done | rfl, BB.out.trans (yp.2.mono BB.out.size)⟩
end Go.Proofs.YtidfndgedopghaaGreatDoor
