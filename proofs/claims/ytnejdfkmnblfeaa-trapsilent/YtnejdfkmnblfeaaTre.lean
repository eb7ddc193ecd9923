/-
  Pending of the reference.
-/
import Derived.Test.YtnejdfkmnblfeaaTrd
namespace Go.Proofs.Ytnejdfkmnblfeaa
set_option linter.unusedVariables false
open Go.ChangeShapes Go.WideShapes Go.ChangeAt Go.RowKit Go.Deep
/-- The order of the interrupts. -/
def ord (i : Nat) : Nat := [11, 3, 7].getD i 0
theorem ord_lt (i : Nat) : ord i < 64 := by
  unfold ord
  match i with
  | 0 => decide
  | 1 => decide
  | 2 => decide
  | i + 3 => simp
/-- Is that one up and enabled? -/
def pdN (K : Cp) (mip : BitVec 64) (n : Nat) : Bool := mip.getLsbD n && (K.s 2).getLsbD n
/-- From the i-th on. -/
def pdF (K : Cp) (mip : BitVec 64) (i : Nat) : Int × Bool :=
  if i ≤ 0 ∧ pdN K mip 11 = true then (11, true) else if i ≤ 1 ∧ pdN K mip 3 = true then (3, true) else if i ≤ 2 ∧ pdN K mip 7 = true then (7, true) else (0, false)
/-- What is pending. -/
def PD (k : Cp) (mip : BitVec 64) : Int × Bool := if (PR k).md = 3 ∧ ((PR k).s 0).getLsbD 3 = false then (0, false) else pdF (PR k) mip 0
theorem pdF_hit (K : Cp) (mip : BitVec 64) (i : Nat) (hi : i < 3) (h : pdN K mip (ord i) = true) : pdF K mip i = ((ord i : Int), true) := by
  match i, hi with
  | 0, _ => have h : pdN K mip 11 = true := h; simp [pdF, h]; rfl
  | 1, _ => have h : pdN K mip 3 = true := h; simp [pdF, h]; rfl
  | 2, _ => have h : pdN K mip 7 = true := h; simp [pdF, h]; rfl
theorem pdF_miss (K : Cp) (mip : BitVec 64) (i : Nat) (hi : i < 3) (h : pdN K mip (ord i) = false) : pdF K mip i = pdF K mip (i + 1) := by
  match i, hi with
  | 0, _ => have h : pdN K mip 11 = false := h; simp [pdF, h]
  | 1, _ => have h : pdN K mip 3 = false := h; simp [pdF, h]
  | 2, _ => have h : pdN K mip 7 = false := h; simp [pdF, h]
theorem pdF_end (K : Cp) (mip : BitVec 64) : pdF K mip 3 = (0, false) := by simp [pdF]
set_option maxRecDepth 100000 in
set_option maxHeartbeats 2000000 in
theorem rPending_c (k : Cp) (mip : BitVec 64) (w : World) : Calls Try.prog 10 #[.agg (cpc k), .int .u64 (n64 mip)] w fun e w' => e = .returned (.tuple #[.int .i64 (PD k mip).1, .bool (PD k mip).2]) ∧ Below w.heap.size w w' := by
  obtain ⟨W0, hW0, r0, b0, s0⟩ := start1 w (cpc k) 31
  have HS : Hid (W0.heap.size = w.heap.size + 1) := s0
  clear s0
  have HP : Hid (∀ W, Calls Try.prog 20 #[.agg (cpc k)] W fun e w' => e = .returned (.agg (cpc (PR k))) ∧ Below W.heap.size W w') := fun W => rPr_c k W
  have HM := PR_md k
  obtain ⟨K, hK⟩ : ∃ K, K = PR k := ⟨_, rfl⟩
  rw [← hK] at HP HM
  have HK : Hid (K = PR k) := hK
  clear hK
  go_enter Try.func10, Try.ntmps10
  go_upto_region 1 with fail
  clear hW0
  go_upto_region 2 with (first | (refine wpList_load_row (by rfl) _ _ (by rfl) _ (by rfl) 31 _ (0, 0) _ r0.out Try.underlying31 (by rfl) (info_cpu _) ?_) | (go_at_call 20; refine (HP.out _).mono ?_; rintro e w1 ⟨rfl, hb1⟩; have HB1 : Hid (Below W0.heap.size W0 w1) := hb1; clear hb1) | (refine wpList_store_row (by rfl) _ _ _ (by rfl) (by rfl) _ _ _ (by rfl) (by rfl) (r0.out.later HB1.out (by rw [HS.out]; omega)) (info_cpu _) (by rw [cpc_size, cpc_size]) (cpc_ones _) ?_))
  refine go_on1 (motive := fun W => Code.wp _ _ _ _ W) (a := w) (B := w.heap.size) (n := w1.heap.size) (show Row _ w.heap.size (cpc K) 31 from setRow_heap _ _ _ _ _ _ (r0.out.later HB1.out (by rw [HS.out]; omega))) (below_row (b0.out.trans (HB1.out.mono b0.out.size)) (Nat.le_refl _) _) (by simp) ?_
  clear r0 b0 HS HB1 HP
  intro W2 q0 c0 t0
  have R0 : Hid (Row W2 w.heap.size (cpc K) 31) := q0
  have BB : Hid (Below w.heap.size w W2) := c0
  have Km := q0.cls.md
  have K0 := q0.cls.s0
  have f0 := q0.froz
  clear q0 c0 t0
  have HB : Hid (∀ W, Calls Try.prog 21 #[.int .u64 (n64 (K.s 0)), .int .i64 3] W fun e w' => e = .returned (.bool ((K.s 0).getLsbD 3)) ∧ w' = W) := rbit_c (K.s 0) 3 (by decide)
  by_cases h0 : K.md = 3 ∧ (K.s 0).getLsbD 3 = false
  · have HA : Hid (PD k mip = (0, false)) := by unfold Hid PD; rw [← HK.out, if_pos h0]
    rw [h0.2] at HB
    rw [h0.1] at Km
    clear h0 HM HK
    go_wp2_with (go_at_call 21; refine (HB.out _).mono ?_; rintro e wb ⟨rfl, hwb⟩; have hwb2 := hwb.symm; subst hwb2)
    go_ret2
    exact ⟨by rw [HA.out]; rfl, BB.out⟩
  · have HA : Hid (PD k mip = pdF K mip 0) := by unfold Hid PD; rw [← HK.out, if_neg h0]
    have hcase : (K.md == 3) = false ∨ (K.s 0).getLsbD 3 = true := by
      rcases HM with h | h
      · left; rw [h]; rfl
      · right
        cases hb : (K.s 0).getLsbD 3 with
        | true => rfl
        | false => exact absurd ⟨h, hb⟩ h0
    clear h0 HM HK
    obtain ⟨b, hb⟩ : ∃ b, b = (K.s 0).getLsbD 3 := ⟨_, rfl⟩
    rw [← hb] at HB hcase
    clear hb
    have K2 := R0.out.cls.s2
    obtain ⟨m9, hm9⟩ : ∃ m9, m9 = K.md := ⟨_, rfl⟩
    rw [← hm9] at Km hcase
    clear hm9
    have HT : Hid (∀ W6 : World, W2.alloc (.cells #[.int .i64 11, .int .i64 3, .int .i64 7] 3) = W6 → Row W6 W2.heap.size #[.int .i64 11, .int .i64 3, .int .i64 7] 3 ∧ Row W6 w.heap.size (cpc K) 31 ∧ Below w.heap.size w W6) := fun W6 h => by rw [← h]; exact ⟨Row.new _ _ _, R0.out.old R0.out.lt _, BB.out.alloc BB.out.size _⟩
    clear R0 BB
    rcases hcase with hc | hc
    · go_upto_region 6 with (go_at_call 21; refine (HB.out _).mono ?_; rintro e wb ⟨rfl, hwb⟩; have hwb2 := hwb.symm; subst hwb2)
      all_goals (
        refine go_onP (motive := fun W => Code.wp _ _ _ _ W) (Q := fun W => Row W W2.heap.size #[.int .i64 11, .int .i64 3, .int .i64 7] 3 ∧ Row W w.heap.size (cpc K) 31 ∧ Below w.heap.size w W) (HT.out _ rfl) ?_
        rintro W6 ⟨q1, q2, q3⟩
        have RS : Hid (Row W6 W2.heap.size #[.int .i64 11, .int .i64 3, .int .i64 7] 3) := q1
        have BB : Hid (Below w.heap.size w W6) := q3
        have KM : W6.cell? ⟨w.heap.size, 37, none⟩ = some (.int .u64 (n64 (K.s 2))) := q2.cls.s2
        clear q1 q2 q3 HT Km K0 K2 f0 HB
        generalize W2.heap.size = gs at *
        go_wp2
        go_loopw [8] (fun x wr => ∃ i : Nat, i ≤ 3 ∧ x = .int .i64 i ∧ Hid (pdF K mip 0 = pdF K mip i) ∧ wr = W6) (fun x _ => 3 - (intOf x).toNat)
        case atStart => exact ⟨0, by omega, rfl, rfl, rfl⟩
        case round =>
          obtain ⟨i, hi, rfl, hp, hwr⟩ := hrel
          subst hwr
          by_cases hlt : i < 3
          · have hlt2 : (i : Int) < 3 := by omega
            have ci : wr.cell? ⟨gs, i, none⟩ = some (.int .i64 ((ord i : Nat) : Int)) := by
              rw [RS.out.cell]
              match i, hlt with
              | 0, _ => rfl
              | 1, _ => rfl
              | 2, _ => rfl
            have B1 : Hid (∀ W, Calls Try.prog 21 #[.int .u64 (n64 mip), .int .i64 ((ord i : Nat) : Int)] W fun e w' => e = .returned (.bool (mip.getLsbD (ord i))) ∧ w' = W) := rbit_c mip (ord i) (ord_lt i)
            have B2 : Hid (∀ W, Calls Try.prog 21 #[.int .u64 (n64 (K.s 2)), .int .i64 ((ord i : Nat) : Int)] W fun e w' => e = .returned (.bool ((K.s 2).getLsbD (ord i))) ∧ w' = W) := rbit_c (K.s 2) (ord i) (ord_lt i)
            cases hpd : pdN K mip (ord i) with
            | true =>
              have HV : Hid (PD k mip = (((ord i : Nat) : Int), true)) := HA.out.trans (hp.out.trans (pdF_hit K mip i hlt hpd))
              unfold pdN at hpd
              rw [Bool.and_eq_true] at hpd
              rw [hpd.1] at B1
              rw [hpd.2] at B2
              clear hpd
              generalize ((ord i : Nat) : Int) = z at ci B1 B2 HV
              go_upto_region 11 with (go_at_call 21; refine (B1.out _).mono ?_; rintro e wb ⟨rfl, hwb⟩; have hwb2 := hwb.symm; subst hwb2)
              go_wp2_with (go_at_call 21; refine (B2.out _).mono ?_; rintro e wb ⟨rfl, hwb⟩; have hwb2 := hwb.symm; subst hwb2)
              go_ret2
              exact ⟨by rw [HV.out]; rfl, BB.out⟩
            | false =>
              have HN : Hid (pdF K mip 0 = pdF K mip (i + 1)) := hp.out.trans (pdF_miss K mip i hlt hpd)
              unfold pdN at hpd
              generalize ((ord i : Nat) : Int) = z at ci B1 B2
              generalize mip.getLsbD (ord i) = c1 at B1 hpd
              generalize (K.s 2).getLsbD (ord i) = c2 at B2 hpd
              go_upto_region 11 with (go_at_call 21; refine (B1.out _).mono ?_; rintro e wb ⟨rfl, hwb⟩; have hwb2 := hwb.symm; subst hwb2)
              cases c1 with
              | true =>
                have hc2 : c2 = false := by simpa using hpd
                subst hc2
                clear hpd
                go_wp2_with (go_at_call 21; refine (B2.out _).mono ?_; rintro e wb ⟨rfl, hwb⟩; have hwb2 := hwb.symm; subst hwb2)
                go_roundw
                case rel => exact ⟨i + 1, hlt, by go_num, HN, trivial⟩
                case measure => simp [intOf]; omega
              | false =>
                clear hpd
                go_wp2_with (go_at_call 21; refine (B2.out _).mono ?_; rintro e wb ⟨rfl, hwb⟩; have hwb2 := hwb.symm; subst hwb2)
                go_roundw
                case rel => exact ⟨i + 1, hlt, by go_num, HN, trivial⟩
                case measure => simp [intOf]; omega
          · obtain rfl : i = 3 := by omega
            rw [show ((3 : Nat) : Int) = (3 : Int) from rfl]
            have HV : Hid (PD k mip = (0, false)) := HA.out.trans (hp.out.trans (pdF_end K mip))
            go_wp2
            go_ret2
            exact ⟨by rw [HV.out]; rfl, BB.out⟩)
    · subst hc
      go_upto_region 6 with (go_at_call 21; refine (HB.out _).mono ?_; rintro e wb ⟨rfl, hwb⟩; have hwb2 := hwb.symm; subst hwb2)
      all_goals (
        refine go_onP (motive := fun W => Code.wp _ _ _ _ W) (Q := fun W => Row W W2.heap.size #[.int .i64 11, .int .i64 3, .int .i64 7] 3 ∧ Row W w.heap.size (cpc K) 31 ∧ Below w.heap.size w W) (HT.out _ rfl) ?_
        rintro W6 ⟨q1, q2, q3⟩
        have RS : Hid (Row W6 W2.heap.size #[.int .i64 11, .int .i64 3, .int .i64 7] 3) := q1
        have BB : Hid (Below w.heap.size w W6) := q3
        have KM : W6.cell? ⟨w.heap.size, 37, none⟩ = some (.int .u64 (n64 (K.s 2))) := q2.cls.s2
        clear q1 q2 q3 HT Km K0 K2 f0 HB
        generalize W2.heap.size = gs at *
        go_wp2
        go_loopw [8] (fun x wr => ∃ i : Nat, i ≤ 3 ∧ x = .int .i64 i ∧ Hid (pdF K mip 0 = pdF K mip i) ∧ wr = W6) (fun x _ => 3 - (intOf x).toNat)
        case atStart => exact ⟨0, by omega, rfl, rfl, rfl⟩
        case round =>
          obtain ⟨i, hi, rfl, hp, hwr⟩ := hrel
          subst hwr
          by_cases hlt : i < 3
          · have hlt2 : (i : Int) < 3 := by omega
            have ci : wr.cell? ⟨gs, i, none⟩ = some (.int .i64 ((ord i : Nat) : Int)) := by
              rw [RS.out.cell]
              match i, hlt with
              | 0, _ => rfl
              | 1, _ => rfl
              | 2, _ => rfl
            have B1 : Hid (∀ W, Calls Try.prog 21 #[.int .u64 (n64 mip), .int .i64 ((ord i : Nat) : Int)] W fun e w' => e = .returned (.bool (mip.getLsbD (ord i))) ∧ w' = W) := rbit_c mip (ord i) (ord_lt i)
            have B2 : Hid (∀ W, Calls Try.prog 21 #[.int .u64 (n64 (K.s 2)), .int .i64 ((ord i : Nat) : Int)] W fun e w' => e = .returned (.bool ((K.s 2).getLsbD (ord i))) ∧ w' = W) := rbit_c (K.s 2) (ord i) (ord_lt i)
            cases hpd : pdN K mip (ord i) with
            | true =>
              have HV : Hid (PD k mip = (((ord i : Nat) : Int), true)) := HA.out.trans (hp.out.trans (pdF_hit K mip i hlt hpd))
              unfold pdN at hpd
              rw [Bool.and_eq_true] at hpd
              rw [hpd.1] at B1
              rw [hpd.2] at B2
              clear hpd
              generalize ((ord i : Nat) : Int) = z at ci B1 B2 HV
              go_upto_region 11 with (go_at_call 21; refine (B1.out _).mono ?_; rintro e wb ⟨rfl, hwb⟩; have hwb2 := hwb.symm; subst hwb2)
              go_wp2_with (go_at_call 21; refine (B2.out _).mono ?_; rintro e wb ⟨rfl, hwb⟩; have hwb2 := hwb.symm; subst hwb2)
              go_ret2
              exact ⟨by rw [HV.out]; rfl, BB.out⟩
            | false =>
              have HN : Hid (pdF K mip 0 = pdF K mip (i + 1)) := hp.out.trans (pdF_miss K mip i hlt hpd)
              unfold pdN at hpd
              generalize ((ord i : Nat) : Int) = z at ci B1 B2
              generalize mip.getLsbD (ord i) = c1 at B1 hpd
              generalize (K.s 2).getLsbD (ord i) = c2 at B2 hpd
              go_upto_region 11 with (go_at_call 21; refine (B1.out _).mono ?_; rintro e wb ⟨rfl, hwb⟩; have hwb2 := hwb.symm; subst hwb2)
              cases c1 with
              | true =>
                have hc2 : c2 = false := by simpa using hpd
                subst hc2
                clear hpd
                go_wp2_with (go_at_call 21; refine (B2.out _).mono ?_; rintro e wb ⟨rfl, hwb⟩; have hwb2 := hwb.symm; subst hwb2)
                go_roundw
                case rel => exact ⟨i + 1, hlt, by go_num, HN, trivial⟩
                case measure => simp [intOf]; omega
              | false =>
                clear hpd
                go_wp2_with (go_at_call 21; refine (B2.out _).mono ?_; rintro e wb ⟨rfl, hwb⟩; have hwb2 := hwb.symm; subst hwb2)
                go_roundw
                case rel => exact ⟨i + 1, hlt, by go_num, HN, trivial⟩
                case measure => simp [intOf]; omega
          · obtain rfl : i = 3 := by omega
            rw [show ((3 : Nat) : Int) = (3 : Int) from rfl]
            have HV : Hid (PD k mip = (0, false)) := HA.out.trans (hp.out.trans (pdF_end K mip))
            go_wp2
            go_ret2
            exact ⟨by rw [HV.out]; rfl, BB.out⟩)
end Go.Proofs.Ytnejdfkmnblfeaa
