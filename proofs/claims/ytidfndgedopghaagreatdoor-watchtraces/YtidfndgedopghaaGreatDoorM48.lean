/-
  Uu Oa.
-/
import Derived.Test.YtidfndgedopghaaGreatDoorM47
import Derived.Maps.AppendAt
import Derived.Laws.AppendOwnNone
namespace Go.Proofs.YtidfndgedopghaaGreatDoor
set_option linter.unusedVariables false
set_option maxRecDepth 100000
set_option maxHeartbeats 4000000
open Go.ChangeShapes Go.WideShapes Go.ChangeAt Go.RowKit Go.Deep
theorem rwN_congr {p q : Nat → Bool} (n k : Nat) (h : ∀ i, k ≤ i → i < k + n → p i = q i) : rwN p n k = rwN q n k := by
  induction n generalizing k with
  | zero => rfl
  | succ n ih =>
    unfold rwN
    rw [h k (Nat.le_refl _) (by omega), ih (k + 1) (fun i h1 h2 => h i (by omega) (by omega))]
theorem kp3 (l : List Rw) (i : Nat) (hi : i < l.length) (h : ∀ j, j < i → kpB l 3 j = true) : kpB l 3 i = krB l 3 i := by
  have key : (cnK l i 5 == 0) = (((i : Int) == 0) || ((l.getD (i - 1) rz).kd != 5)) := by
    cases i with
    | zero => rw [cnK_zero]; rfl
    | succ m =>
      have hs := cnK_succ l m (by omega) 5
      have hp := h m (by omega)
      have hb := cnK_bd l m 5
      have e0 : (((m + 1 : Nat) : Int) == 0) = false := by rw [beq_eq_false_iff_ne]; omega
      rw [e0, Bool.false_or, Nat.add_sub_cancel]
      by_cases hk : (l.getD m rz).kd = 5
      · rw [if_pos hk.symm, hk] at hs
        rw [hs, hk]
        show (cnK l m 5 + 1 == 0) = false
        rw [beq_eq_false_iff_ne]; omega
      · rw [if_neg (fun e => hk e.symm)] at hs
        have hk2 : ((l.getD m rz).kd == 5) = false := by rw [beq_eq_false_iff_ne]; exact hk
        have hz : cnK l m 5 == 0 := by
          have : ((cnK l m 5 == 0) || (((l.getD m rz).kd == 5) && syB (l.getD m rz))) = true := hp
          rw [hk2] at this; simpa using this
        rw [hs, hz]
        unfold bne; rw [hk2]; rfl
  show ((cnK l i 5 == 0) || (((l.getD i rz).kd == 5) && syB (l.getD i rz))) = _
  rw [key]
  show _ = ((((i : Int) == 0) || ((l.getD (i - 1) rz).kd != 5)) || ((((l.getD i rz).kd == 5) && (n64 (l.getD i rz).nx == n64 (l.getD i rz).pc)) && ((l.getD i rz).nm == (l.getD i rz).md)))
  unfold syB
  rw [Bool.and_assoc]
theorem rw3 (l : List Rw) : ∀ (n k : Nat), k + n ≤ l.length → (∀ j, j < k → kpB l 3 j = true) → rwN (kpB l 3) n k = rwN (krB l 3) n k
  | 0, _, _, _ => rfl
  | n + 1, k, hk, h => by
    unfold rwN
    have e := kp3 l k (by omega) h
    rw [← e]
    cases hq : kpB l 3 k with
    | false => rfl
    | true =>
      rw [if_pos rfl, if_pos rfl]
      exact rw3 l n (k + 1) (by omega) (fun j hj => by
        by_cases e : j = k
        · rw [e]; exact hq
        · exact h j (by omega))
theorem rw_all (l : List Rw) (k : Nat) : rwN (kpB l k) l.length 0 = rwN (krB l k) l.length 0 := by
  match k with
  | 0 => exact rwN_congr _ _ (fun i _ _ => rfl)
  | 1 => exact rwN_congr _ _ (fun i _ _ => rfl)
  | 2 => exact rwN_congr _ _ (fun i _ _ => (rf_eq _).symm)
  | 3 => exact rw3 l l.length 0 (by omega) (fun j hj => absurd hj (Nat.not_lt_zero _))
  | k + 4 => exact rwN_congr _ _ (fun i _ _ => (rm_eq _).symm)
theorem trK_congr (P Q : Nat → Nat → Bool) (n : Nat) (h : ∀ k, rwN (P k) n 0 = rwN (Q k) n 0) : ∀ (m k : Nat), trK P n m k = trK Q n m k
  | 0, _ => rfl
  | m + 1, k => by unfold trK; rw [h k, trK_congr P Q n h m (k + 1)]
theorem tr_eq (l : List Rw) (e : Bool) : trV (kpB l) l.length e = trV (krB l) l.length e := by
  unfold trV; rw [trK_congr _ _ _ (rw_all l)]
theorem rkeeps_c (l : List Rw) (v : Value) (K : Cp) (f c : Int) (u : Value) (j k : Nat) (w : World) (hv : Rws w v l) (hj : j < l.length) (hL : l.length ≤ 140737488351232) (hk : k < 5) : Calls Tryz.prog 19 #[.agg (trc v K f c u), .int .i64 ((k : Int) + 1), .int .i64 j] w fun e w' => e = .returned (.bool (krB l k j)) ∧ Below w.heap.size w w' := by
  have h5 := cases5 hk
  rcases h5 with rfl | rfl | rfl | rfl | rfl
  · exact kR1_c l v K f c u j w hv hj hL
  · exact kR2_c l v K f c u j w hv hj hL
  · exact kR3_c l v K f c u j w hv hj hL
  · exact kR4_c l v K f c u j w hv hj hL
  · exact kR5_c l v K f c u j w hv hj hL
set_option maxHeartbeats 8000000 in
theorem rtrace_c (l : List Rw) (v : Value) (K : Cp) (f c : Int) (u : Value) (w : World) (hv : Rws w v l) (hL : l.length ≤ 140737488351232) : Calls Tryz.prog 8 #[.agg (trc v K f c u)] w fun e w' => e = .returned (.tuple #[.int .i64 (trV (krB l) l.length (enV l K)).1, .int .i64 (trV (krB l) l.length (enV l K)).2]) ∧ Below w.heap.size w w' := by
  obtain ⟨W0, hW0, r0, b0, s0⟩ := start1 w (trc v K f c u) 35
  have HK : Hid (∀ (j k : Nat) (W : World), Below w.heap.size w W → j < l.length → k < 5 → Calls Tryz.prog 19 #[.agg (trc v K f c u), .int .i64 ((k : Int) + 1), .int .i64 j] W fun e w' => e = .returned (.bool (krB l k j)) ∧ Below W.heap.size W w') := fun j k W hb h1 h2 => rkeeps_c l v K f c u j k W (hv.later hb) h1 hL h2
  have HHIT : Hid (∀ (k j : Nat), k < 5 → j < l.length → (∀ q, q < k → ∀ x, x < l.length → krB l q x = true) → (∀ x, x < j → krB l k x = true) → krB l k j = false → trV (krB l) l.length (enV l K) = ((k : Int) + 1, (j : Int))) := fun k j h1 h2 h3 h4 h5 => by
    unfold trV
    rw [trK_hit (krB l) l.length 5 0 k j (Nat.zero_le _) (by omega) (fun q _ hq => h3 q hq) h2 h4 h5]; rfl
  have HNO : Hid ((∀ q, q < 5 → ∀ x, x < l.length → krB l q x = true) → trV (krB l) l.length (enV l K) = if enV l K then (0, 0) else (6, (l.length : Int))) := fun h => by
    unfold trV
    rw [trK_none (krB l) l.length 5 0 (fun q _ hq => h q (by omega))]; rfl
  have HB0 := Hid.mkU b0.out
  have HCK : Hid (∀ W, Row W w.heap.size (trc v K f c u) 35 → ∀ j x, (cpc K)[j]? = some x → W.cell? ⟨w.heap.size, 1 + j, none⟩ = some x) := fun W h j x hx => (h.cell (1 + j)).trans (trc_c _ _ _ _ _ j x hx)
  have Hci : Hid ((Tryz.prog.info? 35).map (·.size) = some (trc v K f c u).size) := info_tr ..
  have Hcs : Hid ((trc v K f c u)[0]? = some v) := trc_v ..
  obtain ⟨a, cap, rfl, -, -, hrow⟩ := hv
  have HR : Hid (l ≠ [] → ∃ g off, a = some ⟨g, off, none⟩ ∧ g < w.heap.size ∧ ∀ j, j < l.length → ∀ i v, (rwc (l.getD j rz))[i]? = some v → w.cell? ⟨g, off + j * 16 + i, none⟩ = some v) := hrow
  clear hrow b0 s0
  generalize trV (krB l) l.length (enV l K) = Z at *
  generalize trc (.slice a l.length cap) K f c u = cs at *
  go_enter Tryz.func8, Tryz.ntmps8
  go_upto_region 1 with fail
  clear hW0
  go_wp2
  go_loopw [4] (fun i wr => ∃ k : Nat, k ≤ 5 ∧ i = .int .i64 ((k : Int) + 1) ∧ Hid (∀ q, q < k → ∀ x, x < l.length → krB l q x = true) ∧ Hid (Row wr w.heap.size cs 35) ∧ Hid (Below w.heap.size w wr)) (fun i _ => 6 - (intOf i).toNat)
  case atStart => exact ⟨0, by omega, rfl, fun q hq => absurd hq (Nat.not_lt_zero _), r0, HB0⟩
  case round =>
    obtain ⟨k, hk, rfl, hf, hr, hb⟩ := hrel
    clear r0 HB0
    by_cases hlt : k < 5
    · have hlt2 : (k : Int) + 1 ≤ 5 := by omega
      have HH : Hid (∀ (j : Nat), j < l.length → (∀ x, x < j → krB l k x = true) → krB l k j = false → Z = ((k : Int) + 1, (j : Int))) := fun j h1 h2 h3 => HHIT.out k j hlt h1 hf.out h2 h3
      have HF : Hid ((∀ x, x < l.length → krB l k x = true) → ∀ q, q < k + 1 → ∀ x, x < l.length → krB l q x = true) := fun h q hq => by
        by_cases e : q = k
        · rw [e]; exact h
        · exact hf.out q (by omega)
      have HC : Hid (∀ (j : Nat) (W : World), Below w.heap.size w W → j < l.length → Calls Tryz.prog 19 #[.agg cs, .int .i64 ((k : Int) + 1), .int .i64 j] W fun e w' => e = .returned (.bool (krB l k j)) ∧ Below W.heap.size W w') := fun j W h1 h2 => HK.out j k W h1 h2 hlt
      clear HHIT HNO HK hf
      generalize krB l k = p at *
      go_wp2
      --@I
      go_loopw [5] (fun i wr => ∃ j : Nat, j ≤ l.length ∧ i = .int .i64 j ∧ Hid (∀ x, x < j → p x = true) ∧ Hid (Row wr w.heap.size cs 35) ∧ Hid (Below w.heap.size w wr)) (fun i _ => l.length - (intOf i).toNat)
      case atStart => exact ⟨0, Nat.zero_le _, rfl, fun x hx => absurd hx (Nat.not_lt_zero _), hr, hb⟩
      case round =>
        clear hr hb
        obtain ⟨j, hj, rfl, hf, hr, hb⟩ := hrel
        have c0 : wr.cell? ⟨w.heap.size, 0, none⟩ = some (.slice a l.length cap) := (hr.out.cell 0).trans Hcs.out
        by_cases hlj : j < l.length
        · have hlj2 : (j : Int) < (l.length : Int) := by omega
          have HCJ := Hid.mkU (HC.out j wr hb.out hlj)
          have HHJ := Hid.mkU (HH.out j hlj hf.out)
          have HFJ : Hid (p j = true → ∀ x, x < j + 1 → p x = true) := fun h x hx => by
            by_cases e : x = j
            · rw [e]; exact h
            · exact hf.out x (by omega)
          generalize p j = q at *
          clear hf
          cases q with
          | false =>
            have HV := Hid.mkU (HHJ.out rfl)
            clear HHJ HFJ
            go_wp2_with (first | (refine wpList_load_row (by rfl) _ _ (by rfl) _ (by rfl) 35 _ (0, 0) _ hr.out Tryz.underlying35 (by rfl) Hci.out ?_) | (go_at_call 19; refine HCJ.out.mono ?_; rintro e w5 ⟨rfl, hb5⟩; have HB5 := Hid.mkU (hb.out.trans (hb5.mono hb.out.size)); have HR5 := Hid.mkU (hr.out.later hb5 hr.out.lt); clear hb5))
            go_ret2
            exact ⟨by rw [HV.out]; rfl, HB5.out⟩
          | true =>
            have HV := Hid.mkU (HFJ.out rfl)
            clear HHJ HFJ
            go_wp2_with (first | (refine wpList_load_row (by rfl) _ _ (by rfl) _ (by rfl) 35 _ (0, 0) _ hr.out Tryz.underlying35 (by rfl) Hci.out ?_) | (go_at_call 19; refine HCJ.out.mono ?_; rintro e w5 ⟨rfl, hb5⟩; have HB5 := Hid.mkU (hb.out.trans (hb5.mono hb.out.size)); have HR5 := Hid.mkU (hr.out.later hb5 hr.out.lt); clear hb5))
            go_roundw
            case rel => exact ⟨j + 1, by omega, by go_num, HV, HR5, HB5⟩
            case measure => simp [intOf]; omega
        · have HV := Hid.mkU (HF.out (fun x hx => hf.out x (by omega)))
          have hge : ¬ ((j : Int) < (l.length : Int)) := by omega
          clear hf HF HH HC
          go_wp2
          go_roundw
          case rel => exact ⟨k + 1, by omega, by go_num, HV, hr, hb⟩
          case measure => simp [intOf]; omega
    · have HV := Hid.mkU (HNO.out (fun q hq => hf.out q (by omega)))
      have hge : ¬ ((k : Int) + 1 ≤ 5) := by omega
      have c0 : wr.cell? ⟨w.heap.size, 0, none⟩ = some (.slice a l.length cap) := (hr.out.cell 0).trans Hcs.out
      have CK := Hid.mkU (HCK.out wr hr.out)
      have hzc := zero_cpu
      clear HK HHIT HNO hf
      --@E
      go_upto_region 10 with fail
      go_upto_region 11 with (first | (refine wpList_load_agg (by rfl) 32 _ (by rfl) w.heap.size 1 (by rfl) (cpc K) _ CK.out Tryz.underlying32 (by rfl) (info_cpuU _) ?_) | (go_at_call 20; refine (rPr_c K _).mono ?_; rintro e w5 ⟨rfl, hb5⟩; have HB5 := Hid.mkU hb5; clear hb5) | (refine wpList_store_new (by rfl) 32 _ _ (by rfl) (by rfl) (cpc cz) (cpc (PR K)) (by rfl) (by rfl) (info_cpuU _) (by rw [cpc_size, cpc_size]) (cpc_ones _) ?_))
      refine on_W (motive := fun W => Code.wp _ _ _ _ W) (Q := fun W => Row W w.heap.size cs 35 ∧ Row W w5.heap.size (cpc (PR K)) 32 ∧ Below w.heap.size w W) ⟨(hr.out.later HB5.out hr.out.lt).old (hr.out.later HB5.out hr.out.lt).lt _, Row.new _ _ _, hb.out.trans ((HB5.out.trans ((below_al _ _).mono HB5.out.size)).mono hb.out.size)⟩ ?_
      generalize w5.heap.size = gp at *
      clear hr hb HB5 CK c0 hzc
      rintro W6 ⟨q0, q1, q2⟩
      have r0 := Hid.mkU q0
      have r1 := Hid.mkU q1
      have BB := Hid.mkU q2
      clear q0 q1 q2
      have hne := later_nonempty W6
      have c0 : ∀ x : Later W6, x.1.cell? ⟨w.heap.size, 0, none⟩ = some (.slice a l.length cap) := fun x => ((lrow r0.out x).cell 0).trans Hcs.out
      have c1 : ∀ x : Later W6, x.1.cell? ⟨gp, 0, none⟩ = some (.int .u64 (n64 (PR K).pc)) := fun x => ((lrow r1.out x).cell 0).trans (cpc_at _ 0 (by omega))
      have c2 : ∀ x : Later W6, x.1.cell? ⟨gp, 33, none⟩ = some (.int .i64 (PR K).md) := fun x => ((lrow r1.out x).cell 33).trans (cpc_at _ 33 (by omega))
      have HE : Hid (enV l K = (((l.length : Int) == 0) || ((n64 (l.getD (l.length - 1) rz).nx == n64 (PR K).pc) && ((l.getD (l.length - 1) rz).nm == (PR K).md)))) := rfl
      cases hz : ((l.length : Int) == 0) with
      | true =>
        have hz0 : decide (0 < (l.length : Int)) = false := by rw [beq_iff_eq] at hz; rw [decide_eq_false_iff_not]; omega
        have hz1 : decide (0 < l.length) = false := by rw [beq_iff_eq] at hz; rw [decide_eq_false_iff_not]; omega
        have HW : Hid (Z = (0, 0)) := by unfold Hid; rw [HV.out, HE.out, hz]; rfl
        clear HV HE
        refine wp_region_later (x0 := Later.start W6) (by kernel_rfl) (by kernel_rfl) ?_
        iterate 26 (go_big_quiet_step (fail))
        refine wpQuiet_nil ?_
        rintro _ ⟨yq, rfl⟩
        go_wp2
        go_ret2
        exact ⟨by rw [HW.out]; rfl, BB.out.trans (yq.2.mono BB.out.size)⟩
      | false =>
        have hn : l ≠ [] := by intro e; rw [e] at hz; exact absurd hz (by decide)
        obtain ⟨g, off, har, hg, hc⟩ := HR.out hn
        subst har
        have hn1 : 1 ≤ l.length := by
          rcases Nat.eq_zero_or_pos l.length with e | e
          · exact absurd (List.eq_nil_of_length_eq_zero e) hn
          · exact e
        have D : Hid (∀ x : Later W6, ∀ i v, (rwc (l.getD (l.length - 1) rz))[i]? = some v → x.1.cell? ⟨g, off + (l.length - 1) * 16 + i, none⟩ = some v) := fun x i v hv => ((BB.out.trans (x.2.mono BB.out.size)).cell hg).trans (hc (l.length - 1) (by omega) i v hv)
        generalize l.getD (l.length - 1) rz = r at *
        clear hc HR hn
        generalize hN : l.length = N at *
        have hk0 : 0 ≤ (N : Int) - 1 := by omega
        have hk2 : (N : Int) - 1 < (N : Int) := by omega
        have hkn : ((N : Int) - 1).toNat = N - 1 := by omega
        have hpos : decide (0 < (N : Int)) = true := decide_eq_true (by omega)
        have hpos2 : decide (0 < N) = true := decide_eq_true (by omega)
        have d1 : ∀ x : Later W6, x.1.cell? ⟨g, off + (N - 1) * 16 + 14, none⟩ = some (.int .u64 (n64 r.nx)) := fun x => D.out x 14 _ rfl
        have d2 : ∀ x : Later W6, x.1.cell? ⟨g, off + (N - 1) * 16 + 15, none⟩ = some (.int .i64 r.nm) := fun x => D.out x 15 _ rfl
        clear hN D
        generalize n64 r.nx = x1 at *
        generalize n64 (PR K).pc = y1 at *
        generalize r.nm = x2 at *
        generalize (PR K).md = y2 at *
        cases q1 : (x1 == y1) with
        | false =>
          have q2 : (x1 != y1) = true := by unfold bne; rw [q1]; rfl
          have HW : Hid (Z = (6, (N : Int))) := by unfold Hid; rw [HV.out, HE.out, hz, q1]; rfl
          clear HV HE
          refine wp_region_later (x0 := Later.start W6) (by kernel_rfl) (by kernel_rfl) ?_
          iterate 26 (go_big_quiet_step (fail))
          refine wpQuiet_nil ?_
          rintro _ ⟨yq, rfl⟩
          go_wp2
          go_ret2
          exact ⟨by rw [HW.out]; rfl, BB.out.trans (yq.2.mono BB.out.size)⟩
        | true =>
          have q2 : (x1 != y1) = false := by unfold bne; rw [q1]; rfl
          cases q3 : (x2 == y2) with
          | false =>
            have q4 : (x2 != y2) = true := by unfold bne; rw [q3]; rfl
            have HW : Hid (Z = (6, (N : Int))) := by unfold Hid; rw [HV.out, HE.out, hz, q1, q3]; rfl
            clear HV HE
            refine wp_region_later (x0 := Later.start W6) (by kernel_rfl) (by kernel_rfl) ?_
            iterate 26 (go_big_quiet_step (fail))
            refine wpQuiet_nil ?_
            rintro _ ⟨yq, rfl⟩
            go_wp2
            go_ret2
            exact ⟨by rw [HW.out]; rfl, BB.out.trans (yq.2.mono BB.out.size)⟩
          | true =>
            have q4 : (x2 != y2) = false := by unfold bne; rw [q3]; rfl
            have HW : Hid (Z = (0, 0)) := by unfold Hid; rw [HV.out, HE.out, hz, q1, q3]; rfl
            clear HV HE
            refine wp_region_later (x0 := Later.start W6) (by kernel_rfl) (by kernel_rfl) ?_
            iterate 26 (go_big_quiet_step (fail))
            refine wpQuiet_nil ?_
            rintro _ ⟨yq, rfl⟩
            go_wp2
            go_ret2
            exact ⟨by rw [HW.out]; rfl, BB.out.trans (yq.2.mono BB.out.size)⟩
end Go.Proofs.YtidfndgedopghaaGreatDoor
namespace Go.Proofs.YtidfndgedopghaaGreatDoor
set_option linter.unusedVariables false
set_option maxRecDepth 100000
set_option maxHeartbeats 4000000
open Go.ChangeShapes Go.WideShapes Go.ChangeAt Go.RowKit Go.Deep
def zeroRw : Value := .agg (rwc rz)
theorem infoRw : (Tryz.prog.info? 52).map (fun i => (i.zero, i.size, i.bytes)) = some (some zeroRw, 16, 128) := by kernel_rfl
def rwL : List Rw → List Value
  | [] => []
  | x :: xs => (rwc x).toList ++ rwL xs
theorem rwT_len (x : Rw) : (rwc x).toList.length = 16 := rfl
theorem rwL_len (O : List Rw) : (rwL O).length = O.length * 16 := by
  induction O with
  | nil => rfl
  | cons x xs ih => simp only [rwL, List.length_append, ih, rwT_len, List.length_cons]; omega
theorem rwL_get (O : List Rw) : ∀ j, j < O.length → ∀ c, c < 16 → (rwL O)[j * 16 + c]? = (rwc (O.getD j rz))[c]? := by
  induction O with
  | nil => intro j hj; simp at hj
  | cons x xs ih =>
    intro j hj c hc
    have hl := rwT_len x
    cases j with
    | zero =>
      simp only [rwL, Nat.zero_mul, Nat.zero_add, List.getD_cons_zero]
      rw [List.getElem?_append_left (by omega), Array.getElem?_toList]
    | succ j =>
      simp only [rwL, List.getD_cons_succ]
      rw [List.getElem?_append_right (by omega), hl, show (j + 1) * 16 + c - 16 = j * 16 + c by omega]
      exact ih j (by simpa using hj) c hc
theorem rwL_one (O : List Rw) : ∀ u ∈ rwL O, u.oneCell' = true := by
  induction O with
  | nil => intro u hu; cases hu
  | cons x xs ih =>
    intro u hu
    rcases List.mem_append.1 hu with h | h
    · have q := rwc_ones x
      rw [Array.all_toList.symm, List.all_eq_true] at q
      exact q u h
    · exact ih u h
theorem own_rws {w : World} {B : Nat} {v : Value} {O : List Rw} (h : w.ownsRow B 52 16 v O.length (rwL O)) : Rws w v O := by
  obtain ⟨hl, h | ⟨g, cap, cur, rfl, _, hg, hc, _, hcs, ht⟩⟩ := h
  · obtain ⟨rfl, h0⟩ := h
    have : O = [] := List.eq_nil_of_length_eq_zero h0
    subst this
    exact ⟨none, 0, rfl, Nat.le_refl _, fun _ => rfl, fun hn => absurd rfl hn⟩
  · refine ⟨some ⟨g, 0, none⟩, cap, rfl, hc, (fun e => by cases e), fun _ => ⟨g, 0, rfl, (Array.getElem?_eq_some_iff.1 hg).1, fun j hj c v hv => ?_⟩⟩
    have hc9 : c < 16 := (Array.getElem?_eq_some_iff.1 hv).1
    rw [cell_of_row w g (0 + j * 16 + c) _ _ _ hg, ← hv, ← rwL_get O j hj c hc9, ← ht, List.getElem?_take_of_lt (by omega), Nat.zero_add, ← Array.getElem?_toList]
theorem appRw {ops : Array Oper} {rest : List Oper} {o : Oper} {a : Act} {w : World} {Q : Exit → Act → World → Prop} (hgd : o.guard = none) (s x : Operand) (ho : o.op = .call { callee := .builtin .append, args := #[s, x], argTypes := #[22, 22] })
    (u : Value) (l : List Rw) (hs : a.eval s = .slice none 0 0) (hx : a.eval x = u) (hu : Rws w u l) (hl : l.length * 128 ≤ 140737488355328)
    (h : ∀ v' w', w'.ownsRow w.heap.size 52 16 v' l.length (rwL l) → Below w.heap.size w w' → wpList Tryz.prog ops Q rest (a.put o.dst v') w') :
    wpList Tryz.prog ops Q (o :: rest) a w := by
  obtain ⟨i0, hi, hz0, hz1, hz2⟩ := info_parts infoRw
  obtain ⟨ao, cap, rfl, h1, h1', h2⟩ := hu
  have hown : w.ownsRow w.heap.size 52 16 (.slice none 0 0) 0 (rwL []) := World.ownsRow_nil _ _ _ _
  cases ao with
  | none =>
    have hc := h1' rfl
    have hl0 : l = [] := List.eq_nil_of_length_eq_zero (by omega)
    subst hl0; subst hc
    refine wpList_append_own_none hgd s x 22 ho w.heap.size 52 i0 16 Tryz.underlying22 hi (.slice none 0 0) 0 (rwL []) hs hown hx ?_
    exact h _ _ hown (Below.refl _ _)
  | some ad =>
    refine wpList_append_own_at _ hgd s x 22 ho w.heap.size 52 i0 zeroRw 16 128 Tryz.underlying22 hi hz0 hz1 hz2 rfl (by decide) (.slice none 0 0) 0 (rwL []) hs hown ad l.length cap (rwL l) hx (rwL_len l) ?_ (rwL_one l) (by unfold maxLen; omega) (by omega) (Nat.le_refl _) ?_
    · intro j w2 hj
      have hjl : j < l.length * 16 := by have := (List.getElem?_eq_some_iff.1 hj).1; rw [rwL_len] at this; exact this
      obtain ⟨g, off, he, h3, h4⟩ := h2 (by intro e; rw [e] at hjl; simp at hjl)
      cases he
      have e1 : j = j / 16 * 16 + j % 16 := by omega
      have q2 := rwL_get l (j / 16) (by omega) (j % 16) (by omega)
      rw [← e1, hj] at q2
      have q1 := h4 (j / 16) (by omega) (j % 16) _ q2.symm
      rw [addAt]
      rw [show off + j = off + j / 16 * 16 + j % 16 by omega]
      exact q1
    · intro v' w' g1 g2 g3 g4
      refine h v' w' ?_ ((Below.refl _ _).grown g2 (Nat.le_refl _) (fun k hk => by cases hk))
      simpa [rwL] using g1
def trz : Array Value := trc (.slice none 0 0) cz 0 0 (.slice none 0 0)
theorem zero_tr (w : World) : (zeroValue 35).run Tryz.prog w = .ok (.agg trz) w := by kernel_rfl
theorem trc_ones (v : Value) (K : Cp) (f c : Int) (u : Value) (hv : v.oneCell' = true) (hu : u.oneCell' = true) : (trc v K f c u).all (·.oneCell') = true := by
  have h1 : (#[v] : Array Value).all (·.oneCell') = true := by simpa using hv
  have h2 : (#[.int .i64 f, .int .i64 c, u] : Array Value).all (·.oneCell') = true := by simpa [Value.oneCell'] using hu
  unfold trc
  rw [Array.all_append, Array.all_append, h1, h2, cpc_ones]
  rfl
theorem trc_setv (v v' : Value) (K : Cp) (f c : Int) (u : Value) : (trc v K f c u).setIfInBounds 0 v' = trc v' K f c u := by
  unfold trc
  rw [Array.setIfInBounds_append_left (by show 0 < 1; omega)]
  rfl
theorem trc_setu (v : Value) (K : Cp) (f c : Int) (u u' : Value) : (trc v K f c u).setIfInBounds 85 u' = trc v K f c u' := by
  unfold trc
  have h := cpc_size K
  generalize cpc K = X at *
  rw [show 85 = 1 + (82 + 2) from rfl, set_app #[v] _ 1 _ _ rfl, set_app X _ 82 _ _ h]
  rfl
end Go.Proofs.YtidfndgedopghaaGreatDoor
