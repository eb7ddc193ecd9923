/-
  Of.
-/
import Derived.Test.YtidfndgedopghaaGreatDoorM29
namespace Go.Proofs.YtidfndgedopghaaGreatDoor
set_option linter.unusedVariables false
set_option maxRecDepth 100000
set_option maxHeartbeats 4000000
open Go.ChangeShapes Go.WideShapes Go.ChangeAt Go.RowKit Go.Deep
theorem str_inj : ∀ (l m : List Int), AllB l → AllB m → (strOfNums l).toList = (strOfNums m).toList → l = m := by
  intro l m hl hm h
  have h1 : l.map (fun x => UInt8.ofNat x.toNat) = m.map (fun x => UInt8.ofNat x.toNat) := by
    have e : ∀ k : List Int, (strOfNums k).data.toList = k.map (fun x => UInt8.ofNat x.toNat) := fun k => by unfold strOfNums; simp
    rw [← e l, ← e m]
    rw [ByteArray.toList_eq, ByteArray.toList_eq] at h
    exact h
  have hlen : l.length = m.length := by have := congrArg List.length h1; simpa using this
  apply List.ext_getElem hlen
  intro i h2 h3
  have h4 : (l.map (fun x => UInt8.ofNat x.toNat))[i]? = (m.map (fun x => UInt8.ofNat x.toNat))[i]? := by rw [h1]
  rw [List.getElem?_map, List.getElem?_map, List.getElem?_eq_getElem h2, List.getElem?_eq_getElem h3] at h4
  simp only [Option.map_some, Option.some.injEq] at h4
  have b1 := hl _ (List.getElem_mem h2)
  have b2 := hm _ (List.getElem_mem h3)
  have h5 := congrArg UInt8.toNat h4
  simp only [UInt8.toNat_ofNat'] at h5
  omega
theorem beB_iff (l m : List Int) (hl : AllB l) (hm : AllB m) : beB l m = decide (l = m) := by
  unfold beB
  by_cases h : l = m
  · subst h; simp
  · rw [decide_eq_false h]
    rw [beq_eq_false_iff_ne]
    exact fun e => h (str_inj l m hl hm e)
def bsB (l m : List Int) : Bool := decide (l = m)
theorem bsB_hit (l m : List Int) (k : Nat) (h : l.getD k 0 ≠ m.getD k 0) : bsB l m = false := decide_eq_false (fun e => h (by rw [e]))
theorem bsB_all (l m : List Int) (hl : l.length = m.length) (h : ∀ j, j < l.length → l.getD j 0 = m.getD j 0) : bsB l m = true := decide_eq_true (by
  apply List.ext_getElem hl
  intro i h1 h2
  have := h i h1
  simpa [h1, h2] using this)
set_option maxHeartbeats 4000000 in
theorem rbytes_c (l m : List Int) (u v : Value) (w : World) (hu : Byt w u l) (hv : Byt w v m) (hL : l.length ≤ 140737488351232) (hM : m.length ≤ 140737488351232) : Calls Tryz.prog 56 #[u, v] w fun e w' => e = .returned (.bool (bsB l m)) ∧ Below w.heap.size w w' := by
  obtain ⟨au, cu, rfl, _, _, hu2⟩ := hu
  obtain ⟨av, cv, rfl, _, _, hv2⟩ := hv
  have HU := Hid.mkU hu2
  have HVV := Hid.mkU hv2
  clear hu2 hv2
  by_cases hlen : l.length = m.length
  · have HH : Hid (∀ k, l.getD k 0 ≠ m.getD k 0 → bsB l m = false) := fun k h => bsB_hit l m k h
    have HAL : Hid ((∀ j, j < l.length → l.getD j 0 = m.getD j 0) → bsB l m = true) := fun h => bsB_all l m hlen h
    have HL := Hid.mkU hlen
    have q1 : ((l.length : Int) != (m.length : Int)) = false := by rw [bne_eq_false_iff_eq]; omega
    clear hlen
    generalize bsB l m = Z at *
    go_enter Tryz.func56, Tryz.ntmps56
    go_wp2
    go_loopw [5] (fun i wr => ∃ k : Nat, k ≤ l.length ∧ i = .int .i64 k ∧ Hid (∀ j, j < k → l.getD j 0 = m.getD j 0) ∧ Hid (Below w.heap.size w wr)) (fun i _ => l.length - (intOf i).toNat)
    case atStart => exact ⟨0, Nat.zero_le _, rfl, fun j hj => absurd hj (Nat.not_lt_zero _), Below.refl _ _⟩
    case round =>
      obtain ⟨k, hk, rfl, hf, hb⟩ := hrel
      by_cases hlt : k < l.length
      · have hlt2 : (k : Int) < (l.length : Int) := by omega
        have hltA : (k : Int) < (m.length : Int) := by have := HL.out; omega
        obtain ⟨gu, ou, rfl, hgu, hcu⟩ := HU.out (by intro e; rw [e] at hlt; simp at hlt)
        obtain ⟨gv, ov, rfl, hgv, hcv⟩ := HVV.out (by intro e; have h0 : m.length = 0 := by rw [e]; rfl
                                                      have := HL.out; omega)
        have hku : ∀ x : Later wr, x.1.cell? ⟨gu, ou + k, none⟩ = some (.int .u8 (l.getD k 0)) := fun x => ((hb.out.trans (x.2.mono hb.out.size)).cell hgu).trans (hcu k hlt)
        have hkv : ∀ x : Later wr, x.1.cell? ⟨gv, ov + k, none⟩ = some (.int .u8 (m.getD k 0)) := fun x => ((hb.out.trans (x.2.mono hb.out.size)).cell hgv).trans (hcv k (by have := HL.out; omega))
        have HZ : Hid (l.getD k 0 ≠ m.getD k 0 → Z = false) := HH.out k
        have HF : Hid (l.getD k 0 = m.getD k 0 → ∀ j, j < k + 1 → l.getD j 0 = m.getD j 0) := fun h j hj => by
          by_cases e : j = k
          · rw [e]; exact h
          · exact hf.out j (by omega)
        have hne := later_nonempty wr
        clear hf hcu hcv HH HAL HU HVV
        generalize l.getD k 0 = x at *
        generalize m.getD k 0 = y at *
        cases q2 : (x != y) with
        | true =>
          have HV := Hid.mkU (HZ.out (by simpa using q2))
          clear HZ HF
          go_upto_region 6 with fail
          refine wp_region_later (x0 := Later.start wr) (by kernel_rfl) (by kernel_rfl) ?_
          iterate 9 (go_big_quiet_step (fail))
          refine wpQuiet_nil ?_
          rintro _ ⟨yq, rfl⟩
          go_wp2
          go_ret
          exact ⟨by rw [HV.out]; first | done | rfl, hb.out.trans (yq.2.mono hb.out.size)⟩
        | false =>
          have HV := Hid.mkU (HF.out (by simpa using q2))
          clear HZ HF
          go_upto_region 6 with fail
          refine wp_region_later (x0 := Later.start wr) (by kernel_rfl) (by kernel_rfl) ?_
          iterate 9 (go_big_quiet_step (fail))
          refine wpQuiet_nil ?_
          rintro _ ⟨yq, rfl⟩
          have HB2 := Hid.mkU (hb.out.trans (yq.2.mono hb.out.size))
          go_wp2
          go_roundw
          case rel => exact ⟨k + 1, by omega, by go_num, HV, HB2⟩
          case measure => simp [intOf]; omega
      · have hge : ¬ ((k : Int) < (l.length : Int)) := by omega
        have HV := Hid.mkU (HAL.out (fun j hj => hf.out j (by omega)))
        clear HH HAL hf
        go_wp2
        go_ret
        exact ⟨by rw [HV.out]; first | done | rfl, hb.out⟩
  · have q1 : ((l.length : Int) != (m.length : Int)) = true := by rw [bne_iff_ne]; omega
    have HV : Hid (bsB l m = false) := decide_eq_false (fun e => hlen (by rw [e]))
    clear hlen
    generalize bsB l m = Z at *
    go_enter Tryz.func56, Tryz.ntmps56
    go_wp2
    go_ret
    exact ⟨by rw [HV.out]; first | done | rfl, Below.refl _ _⟩
def rd1 (A B : St) : Bool := (((((A.msip != B.msip) || (A.cmp != B.cmp)) || (A.time != B.time)) || (!(A.ext == B.ext))) || (!(A.soft == B.soft)))
def rd2 (A B : St) : Bool := (((((A.ier != B.ier) || (A.lcr != B.lcr)) || (A.mcr != B.mcr)) || (A.scr != B.scr)) || (!(A.ov == B.ov)))
def rd3 (A B : St) : Bool := ((((bsB A.inp B.inp) && (bsB A.out B.out)) && (A.off == B.off)) && (A.code == B.code))
def rdB (A B : St) : Bool := if rd1 A B then false else if rd2 A B then false else rd3 A B
set_option linter.unusedSimpArgs false in
theorem rd_eq (A B : St) (h1 : AllB A.inp) (h2 : AllB B.inp) (h3 : AllB A.out) (h4 : AllB B.out) : rdB A B = dvB A B := by
  unfold rdB rd1 rd2 rd3 dvB tmB cnB
  rw [beB_iff _ _ h1 h2, beB_iff _ _ h3 h4]
  unfold bsB bne
  cases (A.msip == B.msip) <;> cases (A.cmp == B.cmp) <;> cases (A.time == B.time) <;> simp only [Bool.not_true, Bool.not_false, Bool.or_true, Bool.true_or, Bool.or_false, Bool.false_or, Bool.and_true, Bool.true_and, Bool.and_false, Bool.false_and, if_true, if_false, Bool.false_eq_true]
  cases (A.ext == B.ext) <;> cases (A.soft == B.soft) <;> simp only [Bool.not_true, Bool.not_false, Bool.or_true, Bool.true_or, Bool.or_false, Bool.false_or, Bool.and_true, Bool.true_and, Bool.and_false, Bool.false_and, if_true, if_false, Bool.false_eq_true]
  cases (A.ier == B.ier) <;> cases (A.lcr == B.lcr) <;> cases (A.mcr == B.mcr) <;> cases (A.scr == B.scr) <;> cases (A.ov == B.ov) <;> simp only [Bool.not_true, Bool.not_false, Bool.or_true, Bool.true_or, Bool.or_false, Bool.false_or, Bool.and_true, Bool.true_and, Bool.and_false, Bool.false_and, if_true, if_false, Bool.false_eq_true]
set_option maxHeartbeats 16000000 in
theorem rdev_c (A B : St) (ar ai ao br bi bo : Value) (w : World) (hA : Bs A ar ai ao w) (hB : Bs B br bi bo w) (l1 : A.inp.length ≤ 140737488351232) (l2 : B.inp.length ≤ 140737488351232) (l3 : A.out.length ≤ 140737488351232) (l4 : B.out.length ≤ 140737488351232) : Calls Tryz.prog 28 #[.agg (stc A ar ai ao), .agg (stc B br bi bo)] w fun e w' => e = .returned (.bool (rdB A B)) ∧ Below w.heap.size w w' := by
  obtain ⟨W0, hW0, r0, r1, b0, s0⟩ := start2 w (stc A ar ai ao) (stc B br bi bo) 44 44
  have BB := Hid.mkU b0.out
  have HA := Hid.mkU (hA.later b0.out)
  have HB := Hid.mkU (hB.later b0.out)
  have HI : Hid (∀ x : Later W0, Calls Tryz.prog 56 #[ai, bi] x.1 fun e w' => e = .returned (.bool (bsB A.inp B.inp)) ∧ Below x.1.heap.size x.1 w') := fun x => rbytes_c _ _ _ _ _ (HA.out.later x.2).i (HB.out.later x.2).i l1 l2
  have HO : Hid (∀ x : Later W0, Calls Tryz.prog 56 #[ao, bo] x.1 fun e w' => e = .returned (.bool (bsB A.out B.out)) ∧ Below x.1.heap.size x.1 w') := fun x => rbytes_c _ _ _ _ _ (HA.out.later x.2).o (HB.out.later x.2).o l3 l4
  clear hA hB l1 l2 l3 l4 s0 b0 HA HB
  have a_msip : W0.cell? ⟨w.heap.size, 1, none⟩ = some (.int .u32 A.msip) := r0.out.cell 1
  have a_cmp : W0.cell? ⟨w.heap.size, 2, none⟩ = some (.int .u64 A.cmp) := r0.out.cell 2
  have a_time : W0.cell? ⟨w.heap.size, 3, none⟩ = some (.int .u64 A.time) := r0.out.cell 3
  have a_ext : W0.cell? ⟨w.heap.size, 4, none⟩ = some (.bool A.ext) := r0.out.cell 4
  have a_soft : W0.cell? ⟨w.heap.size, 5, none⟩ = some (.bool A.soft) := r0.out.cell 5
  have a_ier : W0.cell? ⟨w.heap.size, 6, none⟩ = some (.int .u8 A.ier) := r0.out.cell 6
  have a_lcr : W0.cell? ⟨w.heap.size, 7, none⟩ = some (.int .u8 A.lcr) := r0.out.cell 7
  have a_mcr : W0.cell? ⟨w.heap.size, 8, none⟩ = some (.int .u8 A.mcr) := r0.out.cell 8
  have a_scr : W0.cell? ⟨w.heap.size, 9, none⟩ = some (.int .u8 A.scr) := r0.out.cell 9
  have a_ov : W0.cell? ⟨w.heap.size, 10, none⟩ = some (.bool A.ov) := r0.out.cell 10
  have a_i : W0.cell? ⟨w.heap.size, 11, none⟩ = some (ai) := r0.out.cell 11
  have a_o : W0.cell? ⟨w.heap.size, 12, none⟩ = some (ao) := r0.out.cell 12
  have a_off : W0.cell? ⟨w.heap.size, 13, none⟩ = some (.int .i64 A.off) := r0.out.cell 13
  have a_code : W0.cell? ⟨w.heap.size, 14, none⟩ = some (.int .i64 A.code) := r0.out.cell 14
  have b_msip : W0.cell? ⟨w.heap.size + 1, 1, none⟩ = some (.int .u32 B.msip) := r1.out.cell 1
  have b_cmp : W0.cell? ⟨w.heap.size + 1, 2, none⟩ = some (.int .u64 B.cmp) := r1.out.cell 2
  have b_time : W0.cell? ⟨w.heap.size + 1, 3, none⟩ = some (.int .u64 B.time) := r1.out.cell 3
  have b_ext : W0.cell? ⟨w.heap.size + 1, 4, none⟩ = some (.bool B.ext) := r1.out.cell 4
  have b_soft : W0.cell? ⟨w.heap.size + 1, 5, none⟩ = some (.bool B.soft) := r1.out.cell 5
  have b_ier : W0.cell? ⟨w.heap.size + 1, 6, none⟩ = some (.int .u8 B.ier) := r1.out.cell 6
  have b_lcr : W0.cell? ⟨w.heap.size + 1, 7, none⟩ = some (.int .u8 B.lcr) := r1.out.cell 7
  have b_mcr : W0.cell? ⟨w.heap.size + 1, 8, none⟩ = some (.int .u8 B.mcr) := r1.out.cell 8
  have b_scr : W0.cell? ⟨w.heap.size + 1, 9, none⟩ = some (.int .u8 B.scr) := r1.out.cell 9
  have b_ov : W0.cell? ⟨w.heap.size + 1, 10, none⟩ = some (.bool B.ov) := r1.out.cell 10
  have b_i : W0.cell? ⟨w.heap.size + 1, 11, none⟩ = some (bi) := r1.out.cell 11
  have b_o : W0.cell? ⟨w.heap.size + 1, 12, none⟩ = some (bo) := r1.out.cell 12
  have b_off : W0.cell? ⟨w.heap.size + 1, 13, none⟩ = some (.int .i64 B.off) := r1.out.cell 13
  have b_code : W0.cell? ⟨w.heap.size + 1, 14, none⟩ = some (.int .i64 B.code) := r1.out.cell 14
  have HR : Hid (rdB A B = if rd1 A B then false else if rd2 A B then false else rd3 A B) := rfl
  generalize rdB A B = ZZ at HR ⊢
  go_enter Tryz.func28, Tryz.ntmps28
  go_upto_region 1 with fail
  clear hW0
  go_cut [37] from 5 to 36 (fun v wx => v = .bool (rd1 A B) ∧ wx = W0)
  case first =>
    have HM : Hid (rd1 A B = (((((A.msip != B.msip) || (A.cmp != B.cmp)) || (A.time != B.time)) || (!(A.ext == B.ext))) || (!(A.soft == B.soft)))) := rfl
    cases q1 : (A.msip != B.msip) with
    | true =>
      have HV : Hid (rd1 A B = true) := (by unfold Hid; rw [HM.out]; first | (simp only [q1]; done) | (simp only [q1]; rfl) | rfl)
      clear HM
      go_wp2
      go_meet
      exact ⟨by rw [HV.out]; first | done | rfl, rfl⟩
    | false =>
      cases q2 : (A.cmp != B.cmp) with
      | true =>
        have HV : Hid (rd1 A B = true) := (by unfold Hid; rw [HM.out]; first | (simp only [q1, q2]; done) | (simp only [q1, q2]; rfl) | rfl)
        clear HM
        go_wp2
        go_meet
        exact ⟨by rw [HV.out]; first | done | rfl, rfl⟩
      | false =>
        cases q3 : (A.time != B.time) with
        | true =>
          have HV : Hid (rd1 A B = true) := (by unfold Hid; rw [HM.out]; first | (simp only [q1, q2, q3]; done) | (simp only [q1, q2, q3]; rfl) | rfl)
          clear HM
          go_wp2
          go_meet
          exact ⟨by rw [HV.out]; first | done | rfl, rfl⟩
        | false =>
          cases q4 : (A.ext == B.ext) with
          | true =>
            cases q5 : (A.soft == B.soft) with
            | true =>
              have HV : Hid (rd1 A B = false) := (by unfold Hid; rw [HM.out]; first | (simp only [q1, q2, q3, q4, q5]; done) | (simp only [q1, q2, q3, q4, q5]; rfl) | rfl)
              clear HM
              go_wp2
              go_meet
              exact ⟨by rw [HV.out]; first | done | rfl, rfl⟩
            | false =>
              have HV : Hid (rd1 A B = true) := (by unfold Hid; rw [HM.out]; first | (simp only [q1, q2, q3, q4, q5]; done) | (simp only [q1, q2, q3, q4, q5]; rfl) | rfl)
              clear HM
              go_wp2
              go_meet
              exact ⟨by rw [HV.out]; first | done | rfl, rfl⟩
          | false =>
            have HV : Hid (rd1 A B = true) := (by unfold Hid; rw [HM.out]; first | (simp only [q1, q2, q3, q4]; done) | (simp only [q1, q2, q3, q4]; rfl) | rfl)
            clear HM
            go_wp2
            go_meet
            exact ⟨by rw [HV.out]; first | done | rfl, rfl⟩
  case rest =>
    obtain ⟨rfl, hwc⟩ := hcut
    have hwd := hwc.symm
    subst hwd
    clear hwc
    generalize rd1 A B = q1 at *
    cases q1 with
    | true =>
      go_wp2
      go_ret
      exact ⟨by rw [HR.out]; first | done | rfl, BB.out⟩
    | false =>
      go_upto_region 3 with fail
      go_cut [70] from 38 to 69 (fun v wx => v = .bool (rd2 A B) ∧ wx = W0)
      case first =>
        have HM : Hid (rd2 A B = (((((A.ier != B.ier) || (A.lcr != B.lcr)) || (A.mcr != B.mcr)) || (A.scr != B.scr)) || (!(A.ov == B.ov)))) := rfl
        cases q1 : (A.ier != B.ier) with
        | true =>
          have HV : Hid (rd2 A B = true) := (by unfold Hid; rw [HM.out]; first | (simp only [q1]; done) | (simp only [q1]; rfl) | rfl)
          clear HM
          go_wp2
          go_meet
          exact ⟨by rw [HV.out]; first | done | rfl, rfl⟩
        | false =>
          cases q2 : (A.lcr != B.lcr) with
          | true =>
            have HV : Hid (rd2 A B = true) := (by unfold Hid; rw [HM.out]; first | (simp only [q1, q2]; done) | (simp only [q1, q2]; rfl) | rfl)
            clear HM
            go_wp2
            go_meet
            exact ⟨by rw [HV.out]; first | done | rfl, rfl⟩
          | false =>
            cases q3 : (A.mcr != B.mcr) with
            | true =>
              have HV : Hid (rd2 A B = true) := (by unfold Hid; rw [HM.out]; first | (simp only [q1, q2, q3]; done) | (simp only [q1, q2, q3]; rfl) | rfl)
              clear HM
              go_wp2
              go_meet
              exact ⟨by rw [HV.out]; first | done | rfl, rfl⟩
            | false =>
              cases q4 : (A.scr != B.scr) with
              | true =>
                have HV : Hid (rd2 A B = true) := (by unfold Hid; rw [HM.out]; first | (simp only [q1, q2, q3, q4]; done) | (simp only [q1, q2, q3, q4]; rfl) | rfl)
                clear HM
                go_wp2
                go_meet
                exact ⟨by rw [HV.out]; first | done | rfl, rfl⟩
              | false =>
                cases q5 : (A.ov == B.ov) with
                | true =>
                  have HV : Hid (rd2 A B = false) := (by unfold Hid; rw [HM.out]; first | (simp only [q1, q2, q3, q4, q5]; done) | (simp only [q1, q2, q3, q4, q5]; rfl) | rfl)
                  clear HM
                  go_wp2
                  go_meet
                  exact ⟨by rw [HV.out]; first | done | rfl, rfl⟩
                | false =>
                  have HV : Hid (rd2 A B = true) := (by unfold Hid; rw [HM.out]; first | (simp only [q1, q2, q3, q4, q5]; done) | (simp only [q1, q2, q3, q4, q5]; rfl) | rfl)
                  clear HM
                  go_wp2
                  go_meet
                  exact ⟨by rw [HV.out]; first | done | rfl, rfl⟩
      case rest =>
        obtain ⟨rfl, hwc⟩ := hcut
        have hwd := hwc.symm
        subst hwd
        clear hwc
        generalize rd2 A B = q2 at *
        cases q2 with
        | true =>
          go_wp2
          go_ret
          exact ⟨by rw [HR.out]; first | done | rfl, BB.out⟩
        | false =>
          go_upto_region 5 with fail
          have HM : Hid (rd3 A B = ((((bsB A.inp B.inp) && (bsB A.out B.out)) && (A.off == B.off)) && (A.code == B.code))) := rfl
          have HZ : Hid (ZZ = rd3 A B) := by unfold Hid; rw [HR.out]; rfl
          clear HR
          clear a_msip b_msip a_cmp b_cmp a_time b_time a_ext b_ext a_soft b_soft a_ier b_ier a_lcr b_lcr a_mcr b_mcr a_scr b_scr a_ov b_ov a_i b_i a_o b_o a_off b_off a_code b_code 
          have a_i : ∀ x : Later W0, x.1.cell? ⟨w.heap.size, 11, none⟩ = some (ai) := fun x => (lrow r0.out x).cell 11
          have a_o : ∀ x : Later W0, x.1.cell? ⟨w.heap.size, 12, none⟩ = some (ao) := fun x => (lrow r0.out x).cell 12
          have a_off : ∀ x : Later W0, x.1.cell? ⟨w.heap.size, 13, none⟩ = some (.int .i64 A.off) := fun x => (lrow r0.out x).cell 13
          have a_code : ∀ x : Later W0, x.1.cell? ⟨w.heap.size, 14, none⟩ = some (.int .i64 A.code) := fun x => (lrow r0.out x).cell 14
          have b_i : ∀ x : Later W0, x.1.cell? ⟨w.heap.size + 1, 11, none⟩ = some (bi) := fun x => (lrow r1.out x).cell 11
          have b_o : ∀ x : Later W0, x.1.cell? ⟨w.heap.size + 1, 12, none⟩ = some (bo) := fun x => (lrow r1.out x).cell 12
          have b_off : ∀ x : Later W0, x.1.cell? ⟨w.heap.size + 1, 13, none⟩ = some (.int .i64 B.off) := fun x => (lrow r1.out x).cell 13
          have b_code : ∀ x : Later W0, x.1.cell? ⟨w.heap.size + 1, 14, none⟩ = some (.int .i64 B.code) := fun x => (lrow r1.out x).cell 14
          have hne := later_nonempty W0
          generalize bsB A.inp B.inp = z1 at *
          generalize bsB A.out B.out = z2 at *
          cases z1 with
          | true =>
            cases z2 with
            | true =>
              cases q1 : (A.off == B.off) with
              | true =>
                cases q2 : (A.code == B.code) with
                | true =>
                  have HV : Hid (ZZ = true) := (by unfold Hid; rw [HZ.out, HM.out]; first | (simp only [q1, q2]; done) | (simp only [q1, q2]; rfl) | rfl)
                  clear HM HZ
                  refine wp_region_plain (x0 := Later.start W0) ?_
                  (go_big_quiet_step (fail))
                  (go_big_quiet_step (fail))
                  (go_big_quiet_step (fail))
                  (go_big_quiet_step (fail))
                  (go_big_quiet_step ((go_at_call 56; exact calls_later (HI.out _))))
                  (go_big_quiet_step (fail))
                  (go_big_quiet_step (fail))
                  (go_big_quiet_step (fail))
                  (go_big_quiet_step (fail))
                  (go_big_quiet_step (fail))
                  (go_big_quiet_step ((go_at_call 56; exact calls_later (HO.out _))))
                  (go_big_quiet_step (fail))
                  (go_big_quiet_step (fail))
                  (go_big_quiet_step (fail))
                  (go_big_quiet_step (fail))
                  (go_big_quiet_step (fail))
                  (go_big_quiet_step (fail))
                  (go_big_quiet_step (fail))
                  (go_big_quiet_step (fail))
                  (go_big_quiet_step (fail))
                  (go_big_quiet_step (fail))
                  (go_big_quiet_step (fail))
                  (go_big_quiet_step (fail))
                  (go_big_quiet_step (fail))
                  (go_big_quiet_step (fail))
                  (go_big_quiet_step (fail))
                  (go_big_quiet_step (fail))
                  refine wpQuiet_nil ?_
                  rintro _ ⟨yq, rfl⟩
                  go_wp2
                  go_ret
                  exact ⟨by rw [HV.out]; first | done | rfl, BB.out.trans (yq.2.mono BB.out.size)⟩
                | false =>
                  have HV : Hid (ZZ = false) := (by unfold Hid; rw [HZ.out, HM.out]; first | (simp only [q1, q2]; done) | (simp only [q1, q2]; rfl) | rfl)
                  clear HM HZ
                  refine wp_region_plain (x0 := Later.start W0) ?_
                  (go_big_quiet_step (fail))
                  (go_big_quiet_step (fail))
                  (go_big_quiet_step (fail))
                  (go_big_quiet_step (fail))
                  (go_big_quiet_step ((go_at_call 56; exact calls_later (HI.out _))))
                  (go_big_quiet_step (fail))
                  (go_big_quiet_step (fail))
                  (go_big_quiet_step (fail))
                  (go_big_quiet_step (fail))
                  (go_big_quiet_step (fail))
                  (go_big_quiet_step ((go_at_call 56; exact calls_later (HO.out _))))
                  (go_big_quiet_step (fail))
                  (go_big_quiet_step (fail))
                  (go_big_quiet_step (fail))
                  (go_big_quiet_step (fail))
                  (go_big_quiet_step (fail))
                  (go_big_quiet_step (fail))
                  (go_big_quiet_step (fail))
                  (go_big_quiet_step (fail))
                  (go_big_quiet_step (fail))
                  (go_big_quiet_step (fail))
                  (go_big_quiet_step (fail))
                  (go_big_quiet_step (fail))
                  (go_big_quiet_step (fail))
                  (go_big_quiet_step (fail))
                  (go_big_quiet_step (fail))
                  (go_big_quiet_step (fail))
                  refine wpQuiet_nil ?_
                  rintro _ ⟨yq, rfl⟩
                  go_wp2
                  go_ret
                  exact ⟨by rw [HV.out]; first | done | rfl, BB.out.trans (yq.2.mono BB.out.size)⟩
              | false =>
                have HV : Hid (ZZ = false) := (by unfold Hid; rw [HZ.out, HM.out]; first | (simp only [q1]; done) | (simp only [q1]; rfl) | rfl)
                clear HM HZ
                refine wp_region_plain (x0 := Later.start W0) ?_
                (go_big_quiet_step (fail))
                (go_big_quiet_step (fail))
                (go_big_quiet_step (fail))
                (go_big_quiet_step (fail))
                (go_big_quiet_step ((go_at_call 56; exact calls_later (HI.out _))))
                (go_big_quiet_step (fail))
                (go_big_quiet_step (fail))
                (go_big_quiet_step (fail))
                (go_big_quiet_step (fail))
                (go_big_quiet_step (fail))
                (go_big_quiet_step ((go_at_call 56; exact calls_later (HO.out _))))
                (go_big_quiet_step (fail))
                (go_big_quiet_step (fail))
                (go_big_quiet_step (fail))
                (go_big_quiet_step (fail))
                (go_big_quiet_step (fail))
                (go_big_quiet_step (fail))
                (go_big_quiet_step (fail))
                (go_big_quiet_step (fail))
                (go_big_quiet_step (fail))
                (go_big_quiet_step (fail))
                (go_big_quiet_step (fail))
                (go_big_quiet_step (fail))
                (go_big_quiet_step (fail))
                (go_big_quiet_step (fail))
                (go_big_quiet_step (fail))
                (go_big_quiet_step (fail))
                refine wpQuiet_nil ?_
                rintro _ ⟨yq, rfl⟩
                go_wp2
                go_ret
                exact ⟨by rw [HV.out]; first | done | rfl, BB.out.trans (yq.2.mono BB.out.size)⟩
            | false =>
              have HV : Hid (ZZ = false) := (by unfold Hid; rw [HZ.out, HM.out]; first | (simp only []; done) | (simp only []; rfl) | rfl)
              clear HM HZ
              refine wp_region_plain (x0 := Later.start W0) ?_
              (go_big_quiet_step (fail))
              (go_big_quiet_step (fail))
              (go_big_quiet_step (fail))
              (go_big_quiet_step (fail))
              (go_big_quiet_step ((go_at_call 56; exact calls_later (HI.out _))))
              (go_big_quiet_step (fail))
              (go_big_quiet_step (fail))
              (go_big_quiet_step (fail))
              (go_big_quiet_step (fail))
              (go_big_quiet_step (fail))
              (go_big_quiet_step ((go_at_call 56; exact calls_later (HO.out _))))
              (go_big_quiet_step (fail))
              (go_big_quiet_step (fail))
              (go_big_quiet_step (fail))
              (go_big_quiet_step (fail))
              (go_big_quiet_step (fail))
              (go_big_quiet_step (fail))
              (go_big_quiet_step (fail))
              (go_big_quiet_step (fail))
              (go_big_quiet_step (fail))
              (go_big_quiet_step (fail))
              (go_big_quiet_step (fail))
              (go_big_quiet_step (fail))
              (go_big_quiet_step (fail))
              (go_big_quiet_step (fail))
              (go_big_quiet_step (fail))
              (go_big_quiet_step (fail))
              refine wpQuiet_nil ?_
              rintro _ ⟨yq, rfl⟩
              go_wp2
              go_ret
              exact ⟨by rw [HV.out]; first | done | rfl, BB.out.trans (yq.2.mono BB.out.size)⟩
          | false =>
            have HV : Hid (ZZ = false) := (by unfold Hid; rw [HZ.out, HM.out]; first | (simp only []; done) | (simp only []; rfl) | rfl)
            clear HM HZ
            refine wp_region_plain (x0 := Later.start W0) ?_
            (go_big_quiet_step (fail))
            (go_big_quiet_step (fail))
            (go_big_quiet_step (fail))
            (go_big_quiet_step (fail))
            (go_big_quiet_step ((go_at_call 56; exact calls_later (HI.out _))))
            (go_big_quiet_step (fail))
            (go_big_quiet_step (fail))
            (go_big_quiet_step (fail))
            (go_big_quiet_step (fail))
            (go_big_quiet_step (fail))
            (go_big_quiet_step ((go_at_call 56; exact calls_later (HO.out _))))
            (go_big_quiet_step (fail))
            (go_big_quiet_step (fail))
            (go_big_quiet_step (fail))
            (go_big_quiet_step (fail))
            (go_big_quiet_step (fail))
            (go_big_quiet_step (fail))
            (go_big_quiet_step (fail))
            (go_big_quiet_step (fail))
            (go_big_quiet_step (fail))
            (go_big_quiet_step (fail))
            (go_big_quiet_step (fail))
            (go_big_quiet_step (fail))
            (go_big_quiet_step (fail))
            (go_big_quiet_step (fail))
            (go_big_quiet_step (fail))
            (go_big_quiet_step (fail))
            refine wpQuiet_nil ?_
            rintro _ ⟨yq, rfl⟩
            go_wp2
            go_ret
            exact ⟨by rw [HV.out]; first | done | rfl, BB.out.trans (yq.2.mono BB.out.size)⟩
end Go.Proofs.YtidfndgedopghaaGreatDoor
