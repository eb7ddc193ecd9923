/-
  Ot.
-/
import Derived.Test.YtidfndgedopghaaGreatDoorM39
namespace Go.Proofs.YtidfndgedopghaaGreatDoor
set_option linter.unusedVariables false
set_option maxRecDepth 100000
set_option maxHeartbeats 4000000
open Go.ChangeShapes Go.WideShapes Go.ChangeAt Go.RowKit Go.Deep
def insB (r : Rw) (n : Nat) : Bool := (decide (2147483648 ≤ n64 r.ad) && decide (n64 r.ad ≤ n64 (BitVec.ofNat 64 (2147483648 + n)))) && decide (IntKind.u64.wrap (szV r) ≤ n64 ((BitVec.ofNat 64 (2147483648 + n)) - r.ad))
def r6F (B A : St) (r : Rw) (k : Nat) : Bool := ((((bits .and .i64 r.mem 2 != 0) && (inB r (BitVec.ofNat 64 (2147483648 + k)))) && ((!(insB r B.ram.length)) || (!(A.ram.getD k 0 != byI r.dat ((BitVec.ofNat 64 (2147483648 + k)) - r.ad).toNat)))) || ((!((bits .and .i64 r.mem 2 != 0) && (inB r (BitVec.ofNat 64 (2147483648 + k))))) && (!(A.ram.getD k 0 != B.ram.getD k 0))))
def r6B (B A : St) (r : Rw) : Bool := (List.range B.ram.length).all (r6F B A r)
theorem szV_le (r : Rw) : 0 ≤ szV r ∧ szV r ≤ 8 := by
  unfold szV
  split
  · omega
  · split
    · omega
    · split
      · omega
      · rename_i h1 h2 h3
        simp at h2 h3
        omega
theorem szV_wrap (r : Rw) : IntKind.u64.wrap (szV r) = szV r := by
  have h := szV_le r
  show szV r % 18446744073709551616 = _
  omega
theorem inB_lt (r : Rw) (t : BitVec 64) (h : inB r t = true) : (t - r.ad).toNat < 8 := by
  unfold inB at h
  simp only [Bool.and_eq_true, decide_eq_true_eq] at h
  have h2 := h.2
  rw [szV_wrap] at h2
  have h3 := (szV_le r).2
  unfold n64 at h2
  omega
set_option maxHeartbeats 24000000 in
theorem r6_c (b : Cp) (B : St) (br bi bo : Value) (a : Cp) (A : St) (ar ai ao : Value) (K : Cp) (tk ex so : Bool) (vi : Value) (r : Rw) (w : World) (hA : Bs A ar ai ao w) (hB : Bs B br bi bo w) (dB : Bd B) (hlen : A.ram.length = B.ram.length) : Calls Tryz.prog 108 #[.agg (ssc b B br bi bo a A ar ai ao K tk ex so vi r)] w fun e w' => e = .returned (.bool (r6B B A r)) ∧ Below w.heap.size w w' := by
  obtain ⟨W0, hW0, r0, b0, s0⟩ := start1 w (ssc b B br bi bo a A ar ai ao K tk ex so vi r) 79
  have BB := Hid.mkU b0.out
  clear s0 b0
  have HLN := Hid.mkU hlen
  obtain ⟨xa, ca, har, ha1, -, hra⟩ := hA.r
  obtain ⟨xb, cb, hbr, hb1, -, hrb⟩ := hB.r
  have HRA := Hid.mkU hra
  have HRB := Hid.mkU hrb
  have HC0 : Hid (∀ W, Below W0.heap.size W0 W → W.cell? ⟨w.heap.size, 179, none⟩ = some (.slice xa B.ram.length ca)) := fun W h => by
    have c : W.cell? ⟨w.heap.size, 179, none⟩ = some ar := ((r0.out.later h r0.out.lt).cell 179).trans (ssc_as _ _ _ _ _ _ _ _ _ _ _ _ _ _ _ _ 0 _ rfl)
    rw [har, hlen] at c
    exact c
  have HC1 : Hid (∀ W, Below W0.heap.size W0 W → W.cell? ⟨w.heap.size, 82, none⟩ = some (.slice xb B.ram.length cb)) := fun W h => by
    have c : W.cell? ⟨w.heap.size, 82, none⟩ = some br := ((r0.out.later h r0.out.lt).cell 82).trans (ssc_bs _ _ _ _ _ _ _ _ _ _ _ _ _ _ _ _ 0 _ rfl)
    rw [hbr] at c
    exact c
  have hN := dB.r
  clear hlen hra hrb har hbr hA hB dB ha1 hb1
  have HM : Hid (r6B B A r = (List.range B.ram.length).all (r6F B A r)) := rfl
  have HINS : Hid (insB r B.ram.length = ((decide (2147483648 ≤ n64 r.ad) && decide (n64 r.ad ≤ n64 (BitVec.ofNat 64 (2147483648 + B.ram.length)))) && decide (IntKind.u64.wrap (szV r) ≤ n64 ((BitVec.ofNat 64 (2147483648 + B.ram.length)) - r.ad)))) := rfl
  have hen := ram_at B.ram.length hN
  have hsu : IntKind.u64.wrap (n64 (BitVec.ofNat 64 (2147483648 + B.ram.length)) - n64 r.ad) = n64 ((BitVec.ofNat 64 (2147483648 + B.ram.length)) - r.ad) := n64_sub _ _
  have HSH : Hid (∀ k, k < B.ram.length → r6F B A r k = false → r6B B A r = false) := fun k h1 h2 => all_hit h1 h2
  have HSN : Hid ((∀ k, k < B.ram.length → r6F B A r k = true) → r6B B A r = true) := fun h => all_none h
  have HSZ : Hid (∀ W, Calls Tryz.prog 146 #[.agg (ssc b B br bi bo a A ar ai ao K tk ex so vi r)] W fun e w' => e = .returned (.int .i64 (szV r)) ∧ Below W.heap.size W w') := fun W => sSz_c b B br bi bo a A ar ai ao K tk ex so vi r W
  have HIN : Hid (∀ t W, Calls Tryz.prog 147 #[.agg (ssc b B br bi bo a A ar ai ao K tk ex so vi r), .int .u64 (n64 t)] W fun e w' => e = .returned (.bool (inB r t)) ∧ Below W.heap.size W w') := fun t W => sIn_c b B br bi bo a A ar ai ao K tk ex so vi r t W
  generalize r6B B A r = Z at *
  clear HM
  go_enter Tryz.func108, Tryz.ntmps108
  go_upto_region 1 with fail
  clear hW0
  have f_B : W0.cell? ⟨w.heap.size, 82, none⟩ = some (.slice xb B.ram.length cb) := HC1.out W0 (Below.refl _ _)
  have f_mem : W0.cell? ⟨w.heap.size, 290, none⟩ = some (.int .i64 r.mem) := (r0.out.cell 290).trans (ssc_r _ _ _ _ _ _ _ _ _ _ _ _ _ _ _ _ 10 _ rfl)
  have hcN : IntKind.u64.wrap (B.ram.length : Int) = (B.ram.length : Int) := by show (B.ram.length : Int) % 18446744073709551616 = _; omega
  have HK : Hid (∀ k, r6F B A r k = ((((bits .and .i64 r.mem 2 != 0) && (inB r (BitVec.ofNat 64 (2147483648 + k)))) && ((!(insB r B.ram.length)) || (!(A.ram.getD k 0 != byI r.dat ((BitVec.ofNat 64 (2147483648 + k)) - r.ad).toNat)))) || ((!((bits .and .i64 r.mem 2 != 0) && (inB r (BitVec.ofNat 64 (2147483648 + k))))) && (!(A.ram.getD k 0 != B.ram.getD k 0))))) := fun k => rfl
  generalize hst : (bits .and .i64 r.mem 2 != 0) = st at HK
  generalize insB r B.ram.length = ins at *
  generalize n64 ((BitVec.ofNat 64 (2147483648 + B.ram.length)) - r.ad) = ye at *
  generalize n64 (BitVec.ofNat 64 (2147483648 + B.ram.length)) = en at *
  generalize hsw : IntKind.u64.wrap (szV r) = sz at *
  go_upto_region 4 with fail
  clear f_mem hst hen hcN
  have hne := later_nonempty W0
  refine wp_region_plain (x0 := Later.start W0) ?_
  (first | (go_big_quiet_want; refine quiet_load_agg 79 _ (by rfl) (w.heap.size) 0 (by rfl) (ssc b B br bi bo a A ar ai ao K tk ex so vi r) _ r0.out.lt (lrow_cells r0.out) Tryz.underlying79 (by rfl) (info_ss ..) ?_; simp only [Act.put, List.setIfInBounds_toArray, List.set_cons_succ, List.set_cons_zero]; go_big_quiet_on) | (go_big_quiet_step (fail)))
  (go_big_quiet_step ((go_at_call 146; exact calls_later (HSZ.out _))))
  iterate 2 (go_big_quiet_step (fail))
  refine wpQuiet_nil ?_
  rintro _ ⟨yq, rfl⟩
  go_upto_region 5 with fail
  refine on_W (motive := fun W => Code.wp _ _ _ _ W) (Q := fun W => Below W0.heap.size W0 W) yq.2 ?_
  clear hne f_B
  rintro W1 hW1
  have HW1 := Hid.mkU hW1
  have f_ad : W1.cell? ⟨w.heap.size, 291, none⟩ = some (.int .u64 (n64 r.ad)) := ((r0.out.later hW1 r0.out.lt).cell 291).trans (ssc_r _ _ _ _ _ _ _ _ _ _ _ _ _ _ _ _ 11 _ rfl)
  clear hW1 yq
  go_cut [7] from 26 to 45 (fun v wx => v = .bool ins ∧ wx = W1)
  case first =>
    clear HC0 HC1 HRA HRB HSH HSN HIN HK HSZ
    cases q1 : (decide (2147483648 ≤ n64 r.ad))
    focus
      have HV : Hid (ins = false) := (by unfold Hid; first | (rw [HINS.out, q1]; done) | (rw [HINS.out, q1]; rfl))
      clear HINS
    rotate_left 1
    focus
      cases q2 : (decide (n64 r.ad ≤ en))
      focus
        have HV : Hid (ins = false) := (by unfold Hid; first | (rw [HINS.out, q1, q2]; done) | (rw [HINS.out, q1, q2]; rfl))
        clear HINS
      rotate_left 1
      focus
        cases q3 : (decide (sz ≤ ye))
        focus
          have HV : Hid (ins = false) := (by unfold Hid; first | (rw [HINS.out, q1, q2, q3]; done) | (rw [HINS.out, q1, q2, q3]; rfl))
          clear HINS
        rotate_left 1
        focus
          have HV : Hid (ins = true) := (by unfold Hid; first | (rw [HINS.out, q1, q2, q3]; done) | (rw [HINS.out, q1, q2, q3]; rfl))
          clear HINS
        rotate_left 1
      rotate_left 2
    rotate_left 3
    all_goals
      go_wp2
      go_meet
      exact ⟨by rw [HV.out]; first | done | rfl, rfl⟩
  case rest =>
    obtain ⟨rfl, hwc⟩ := hcut
    have hwd := hwc.symm
    subst hwd
    clear hwc hsw HINS f_ad hsu
    go_wp2
    go_loopw [8] (fun i wr => ∃ k : Nat, k ≤ B.ram.length ∧ i = .int .i64 k ∧ Hid (∀ j, j < k → r6F B A r j = true) ∧ Hid (Below W1.heap.size W1 wr)) (fun i _ => B.ram.length - (intOf i).toNat)
    case atStart => exact ⟨0, Nat.zero_le _, rfl, fun j hj => absurd hj (Nat.not_lt_zero _), Below.refl _ _⟩
    case round =>
      obtain ⟨k, hk, rfl, hf, hb0⟩ := hrel
      have hbz1 := Hid.mkU hb0.out
      have hb := Hid.mkU (HW1.out.trans (hb0.out.mono HW1.out.size))
      have HBW := Hid.mkU (BB.out.trans (hb.out.mono BB.out.size))
      by_cases hlt : k < B.ram.length
      · have hlt2 : (k : Int) < (B.ram.length : Int) := by omega
        have d0 : ∀ x : Later wr, x.1.cell? ⟨w.heap.size, 179, none⟩ = some (.slice xa B.ram.length ca) := fun x => HC0.out x.1 (hb.out.trans (x.2.mono hb.out.size))
        have d1 : ∀ x : Later wr, x.1.cell? ⟨w.heap.size, 82, none⟩ = some (.slice xb B.ram.length cb) := fun x => HC1.out x.1 (hb.out.trans (x.2.mono hb.out.size))
        obtain ⟨gv, ov, hxb, hgv, hcv⟩ := HRB.out (by intro e; rw [e] at hlt; simp at hlt)
        obtain ⟨gu, ou, hxa, hgu, hcu⟩ := HRA.out (by intro e; have h0 : A.ram.length = 0 := by rw [e]; rfl
                                                      have := HLN.out; omega)
        subst hxa hxb
        have hku : ∀ x : Later wr, x.1.cell? ⟨gu, ou + k, none⟩ = some (.int .u8 (A.ram.getD k 0)) := fun x => ((HBW.out.trans (x.2.mono HBW.out.size)).cell hgu).trans (hcu k (by have := HLN.out; omega))
        have hkv : ∀ x : Later wr, x.1.cell? ⟨gv, ov + k, none⟩ = some (.int .u8 (B.ram.getD k 0)) := fun x => ((HBW.out.trans (x.2.mono HBW.out.size)).cell hgv).trans (hcv k hlt)
        have had := ram_at k (by omega)
        have hcw : IntKind.u64.wrap (k : Int) = (k : Int) := by show (k : Int) % 18446744073709551616 = _; omega
        have r0w := Hid.mkU (r0.out.later hb.out r0.out.lt)
        have HC : Hid (∀ x : Later wr, Calls Tryz.prog 147 #[.agg (ssc b B br bi bo a A ar ai ao K tk ex so vi r), .int .u64 (n64 (BitVec.ofNat 64 (2147483648 + k)))] x.1 fun e w' => e = .returned (.bool (inB r (BitVec.ofNat 64 (2147483648 + k)))) ∧ Below x.1.heap.size x.1 w') := fun x => HIN.out (BitVec.ofNat 64 (2147483648 + k)) x.1
        have HK := Hid.mkU (HK.out k)
        have HT : Hid (r6F B A r k = true → ∀ j, j < k + 1 → r6F B A r j = true) := fun hq j hj => by
          by_cases e : j = k
          · rw [e]; exact hq
          · exact hf.out j (by omega)
        have HZZ : Hid (r6F B A r k = false → Z = false) := fun hq => HSH.out k hlt hq
        have hsb : IntKind.u64.wrap (n64 (BitVec.ofNat 64 (2147483648 + k)) - n64 r.ad) = ((((BitVec.ofNat 64 (2147483648 + k)) - r.ad).toNat : Nat) : Int) := (n64_sub _ _).trans rfl
        have H8 : Hid (inB r (BitVec.ofNat 64 (2147483648 + k)) = true → ((BitVec.ofNat 64 (2147483648 + k)) - r.ad).toNat < 8) := inB_lt r _
        have hby : IntKind.u8.wrap (n64 r.dat / 2 ^ (8 * ((BitVec.ofNat 64 (2147483648 + k)) - r.ad).toNat)) = byI r.dat ((BitVec.ofNat 64 (2147483648 + k)) - r.ad).toNat := rfl
        have c_r_ad : ∀ x : Later wr, x.1.cell? ⟨w.heap.size, 291, none⟩ = some (.int .u64 (n64 r.ad)) := fun x => ((lrow r0w.out x).cell 291).trans (ssc_r _ _ _ _ _ _ _ _ _ _ _ _ _ _ _ _ 11 _ rfl)
        have c_r_dat : ∀ x : Later wr, x.1.cell? ⟨w.heap.size, 293, none⟩ = some (.int .u64 (n64 r.dat)) := fun x => ((lrow r0w.out x).cell 293).trans (ssc_r _ _ _ _ _ _ _ _ _ _ _ _ _ _ _ _ 13 _ rfl)
        have hne := later_nonempty wr
        clear hf hcu hcv HRA HRB HSH HSN HC0 HC1 HIN HSZ hb0 r0
        generalize r6F B A r k = F at *
        generalize byI r.dat ((BitVec.ofNat 64 (2147483648 + k)) - r.ad).toNat = bz at *
        generalize ((BitVec.ofNat 64 (2147483648 + k)) - r.ad).toNat = m at *
        generalize inB r (BitVec.ofNat 64 (2147483648 + k)) = q at *
        generalize n64 (BitVec.ofNat 64 (2147483648 + k)) = y at *
        generalize hx : A.ram.getD k 0 = x at *
        generalize hzz : B.ram.getD k 0 = z at *
        clear hx hzz
        go_upto_region 10 with fail
        cases st
        focus
          cases q1 : (x != z)
          focus
            have HQ : Hid (F = true) := (by unfold Hid; first | (rw [HK.out, q1]; done) | (rw [HK.out, q1]; rfl))
            clear HK
            have P1Y : Hid True := trivial
          rotate_left 1
          focus
            have HQ : Hid (F = false) := (by unfold Hid; first | (rw [HK.out, q1]; done) | (rw [HK.out, q1]; rfl))
            clear HK
            have P1X : Hid True := trivial
          rotate_left 1
        rotate_left 2
        focus
          cases q
          focus
            cases q2 : (x != z)
            focus
              have HQ : Hid (F = true) := (by unfold Hid; first | (rw [HK.out, q2]; done) | (rw [HK.out, q2]; rfl))
              clear HK
              have P1Y : Hid True := trivial
            rotate_left 1
            focus
              have HQ : Hid (F = false) := (by unfold Hid; first | (rw [HK.out, q2]; done) | (rw [HK.out, q2]; rfl))
              clear HK
              have P1X : Hid True := trivial
            rotate_left 1
          rotate_left 2
          focus
            cases ins
            focus
              have HQ : Hid (F = true) := (by unfold Hid; first | (rw [HK.out]; done) | (rw [HK.out]; rfl))
              clear HK
              have P2Y : Hid True := trivial
            rotate_left 1
            focus
              cases q3 : (x != bz)
              focus
                have HQ : Hid (F = true) := (by unfold Hid; first | (rw [HK.out, q3]; done) | (rw [HK.out, q3]; rfl))
                clear HK
                have P2Y : Hid True := trivial
              rotate_left 1
              focus
                have HQ : Hid (F = false) := (by unfold Hid; first | (rw [HK.out, q3]; done) | (rw [HK.out, q3]; rfl))
                clear HK
                have P2X : Hid True := trivial
              rotate_left 1
            rotate_left 2
          rotate_left 3
        rotate_left 5
        all_goals
          refine wp_region_plain (x0 := Later.start wr) ?_
          iterate 3 (go_big_quiet_step (fail))
          (first | (go_big_quiet_want; refine quiet_load_agg 79 _ (by rfl) (w.heap.size) 0 (by rfl) (ssc b B br bi bo a A ar ai ao K tk ex so vi r) _ r0w.out.lt (lrow_cells r0w.out) Tryz.underlying79 (by rfl) (info_ss ..) ?_; simp only [Act.put, List.setIfInBounds_toArray, List.set_cons_succ, List.set_cons_zero]; go_big_quiet_on) | (go_big_quiet_step (fail)))
          (go_big_quiet_step (fail))
          (go_big_quiet_step ((go_at_call 147; exact calls_later (HC.out _))))
          iterate 2 (go_big_quiet_step (fail))
          refine wpQuiet_nil ?_
          rintro _ ⟨yq, rfl⟩
          have H8b : Hid (m < 8 → IntKind.u64.wrap (8 * (m : Int)) = ((8 * m : Nat) : Int) ∧ ((8 * m : Nat) : Int) < 64) := fun h => by
            refine ⟨?_, by omega⟩
            show (8 * (m : Int)) % 18446744073709551616 = _
            omega
        all_goals
          first | (have := P1X; (clear H8 H8b hby); ((go_upto_region 11 with fail)); (refine wp_region_later (x0 := yq) (by kernel_rfl) (by kernel_rfl) ?_); (iterate 15 (go_big_quiet_step (fail))); (refine wpQuiet_nil ?_); (rintro _ ⟨yr, rfl⟩)) | (have := P1Y; (clear H8 H8b hby); ((go_upto_region 11 with fail)); (refine wp_region_later (x0 := yq) (by kernel_rfl) (by kernel_rfl) ?_); (iterate 15 (go_big_quiet_step (fail))); (refine wpQuiet_nil ?_); (rintro _ ⟨yr, rfl⟩)) | skip
        all_goals
          first | (have := P2X; ((have h8 := H8b.out (H8.out rfl))); ((obtain ⟨hmul, h64⟩ := h8)); ((clear H8 H8b)); ((generalize 8 * m = m8 at *)); ((go_upto_region 13 with fail)); (refine wp_region_later (x0 := yq) (by kernel_rfl) (by kernel_rfl) ?_); (iterate 22 (go_big_quiet_step (fail))); (refine wpQuiet_nil ?_); (rintro _ ⟨yr, rfl⟩)) | (have := P2Y; ((have h8 := H8b.out (H8.out rfl))); ((obtain ⟨hmul, h64⟩ := h8)); ((clear H8 H8b)); ((generalize 8 * m = m8 at *)); ((go_upto_region 13 with fail)); (refine wp_region_later (x0 := yq) (by kernel_rfl) (by kernel_rfl) ?_); (iterate 22 (go_big_quiet_step (fail))); (refine wpQuiet_nil ?_); (rintro _ ⟨yr, rfl⟩)) | skip
        all_goals
          first | (have := P1X; (have HV := Hid.mkU (HZZ.out HQ.out)); (clear HT HZZ HQ); (go_wp2); (go_ret); (exact ⟨by rw [HV.out]; first | done | rfl, HBW.out.trans (yr.2.mono HBW.out.size)⟩)) | (have := P2X; (have HV := Hid.mkU (HZZ.out HQ.out)); (clear HT HZZ HQ); (go_wp2); (go_ret); (exact ⟨by rw [HV.out]; first | done | rfl, HBW.out.trans (yr.2.mono HBW.out.size)⟩)) | skip
        all_goals
          have HF := Hid.mkU (HT.out HQ.out)
          have HB2 : Hid (Below W1.heap.size W1 yr.1) := (by exact hbz1.out.trans (yr.2.mono hbz1.out.size))
          clear hku hkv d0 d1 HT HZZ HQ
          go_wp2
          go_roundw
          case rel => exact ⟨k + 1, by omega, by go_num, HF, HB2⟩
          case measure => simp [intOf]; omega
      · have hge : ¬ ((k : Int) < (B.ram.length : Int)) := by omega
        have HV : Hid (Z = true) := HSN.out (fun j hj => hf.out j (by omega))
        clear HSH HSN hf
        go_wp2
        go_ret
        exact ⟨by rw [HV.out]; first | done | rfl, HBW.out⟩
end Go.Proofs.YtidfndgedopghaaGreatDoor
