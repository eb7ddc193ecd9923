/-
  Ui Tsz.
-/
import Derived.Test.YtidfndgedopghaaGreatDoorM19
import Derived.Test.YtidfndgedopghaaGreatDoorM16
namespace Go.Proofs.YtidfndgedopghaaGreatDoor
set_option linter.unusedVariables false
set_option maxRecDepth 100000
set_option maxHeartbeats 4000000
open Go.ChangeShapes Go.WideShapes Go.ChangeAt Go.RowKit Go.Deep
theorem below_drewU {B : Nat} {w w' : World} (h : Below B w w') (n : Nat) : Below B w (w'.drewN n) := ⟨h.os, h.tape, h.output, h.size, h.block⟩
def klF (c : Nat → BitVec 8) (a : Nat → BitVec 64) (c' : Nat → BitVec 8) (a' : Nat → BitVec 64) (i : Nat) : Bool := (cL (PC c) i && (n8 (c' i) != n8 (c i))) || (aL (PC c) i && (n64 (a' i) != n64 (a i)))
def klB (c : Nat → BitVec 8) (a : Nat → BitVec 64) (c' : Nat → BitVec 8) (a' : Nat → BitVec 64) : Bool := (List.range 16).all fun i => !klF c a c' a' i
set_option maxHeartbeats 4000000 in
theorem uKl_c (c : Nat → BitVec 8) (a : Nat → BitVec 64) (c' : Nat → BitVec 8) (a' : Nat → BitVec 64) (w : World) : Calls Tryz.prog 75 #[.agg (pc c a), .agg (pc c' a')] w fun e w' => e = .returned (.bool (klB c a c' a')) ∧ Below w.heap.size w w' := by
  obtain ⟨W0, hW0, r0, r1, b0, s0⟩ := start2 w (pc c a) (pc c' a') 28 28
  have HM : Hid (klB c a c' a' = (List.range 16).all fun i => !klF c a c' a' i) := rfl
  generalize klB c a c' a' = Z at HM ⊢
  have HR := Hid.mkU r0.out
  have HS := Hid.mkU r1.out
  have HB := Hid.mkU b0.out
  clear r0 r1 b0 s0
  go_enter Tryz.func75, Tryz.ntmps75
  go_upto_region 1 with fail
  clear hW0
  go_wp2
  go_loopw [8] (fun i wr => ∃ k : Nat, k ≤ 16 ∧ i = .int .i64 k ∧ Hid (∀ j, j < k → klF c a c' a' j = false) ∧ Hid (Row wr w.heap.size (pc c a) 28) ∧ Hid (Row wr (w.heap.size + 1) (pc c' a') 28) ∧ Hid (Below w.heap.size w wr)) (fun i _ => 16 - (intOf i).toNat)
  case atStart => exact ⟨0, Nat.zero_le _, rfl, fun j hj => absurd hj (Nat.not_lt_zero _), HR, HS, HB⟩
  case round =>
    clear HR HS HB
    obtain ⟨k, hk, rfl, hf, h0, h1, hb⟩ := hrel
    by_cases hlt : k < 16
    · have hlt2 : (k : Int) < 16 := by omega
      have hk0 : (0 : Int) ≤ (k : Int) := by omega
      have HH : Hid (∀ W, Calls Tryz.prog 136 #[.agg (pc c a), .int .i64 k] W fun e w' => e = .returned (.tuple #[.bool (cL (PC c) k), .bool (aL (PC c) k)]) ∧ Below W.heap.size W w') := fun W => Locked_c c a k W
      have HK : Hid (klF c a c' a' k = ((cL (PC c) k && (n8 (c' k) != n8 (c k))) || (aL (PC c) k && (n64 (a' k) != n64 (a k))))) := rfl
      have HC0 : Hid ((pc c a)[k]? = some (.int .u8 (n8 (c k)))) := by unfold Hid; rw [pc_at c a k (by omega)]; unfold pcell; rw [if_pos hlt]
      have HC1 : Hid ((pc c' a')[k]? = some (.int .u8 (n8 (c' k)))) := by unfold Hid; rw [pc_at c' a' k (by omega)]; unfold pcell; rw [if_pos hlt]
      have HA0 : Hid ((pc c a)[16 + k]? = some (.int .u64 (n64 (a k)))) := by unfold Hid; rw [pc_at c a (16 + k) (by omega)]; unfold pcell; rw [if_neg (by omega), Nat.add_sub_cancel_left]
      have HA1 : Hid ((pc c' a')[16 + k]? = some (.int .u64 (n64 (a' k)))) := by unfold Hid; rw [pc_at c' a' (16 + k) (by omega)]; unfold pcell; rw [if_neg (by omega), Nat.add_sub_cancel_left]
      generalize cL (PC c) k = z1 at HH HK
      generalize aL (PC c) k = z2 at HH HK
      generalize n8 (c k) = x0 at HK HC0
      generalize n8 (c' k) = x1 at HK HC1
      generalize n64 (a k) = y0 at HK HA0
      generalize n64 (a' k) = y1 at HK HA1
      --@K1
      go_upto_region 5 with (first | (refine wpList_load_row (by rfl) _ _ (by rfl) _ (by rfl) 28 _ (0, 0) _ h0.out Tryz.underlying28 (by rfl) (info_pmpU _ _) ?_) | (go_at_call 136; refine (HH.out _).mono ?_; rintro e w1 ⟨rfl, hb1⟩; have HB1 := Hid.mkU hb1; clear hb1))
      have R0 := Hid.mkU (h0.out.later HB1.out h0.out.lt)
      have R1 := Hid.mkU (h1.out.later HB1.out h1.out.lt)
      have BW : Hid (Below w.heap.size w w1) := hb.out.trans (HB1.out.mono hb.out.size)
      have d0 : w1.cell? ⟨w.heap.size, k, none⟩ = some (.int .u8 x0) := (R0.out.cell k).trans HC0.out
      have d1 : w1.cell? ⟨w.heap.size + 1, k, none⟩ = some (.int .u8 x1) := (R1.out.cell k).trans HC1.out
      have e0 : w1.cell? ⟨w.heap.size, 16 + k, none⟩ = some (.int .u64 y0) := (R0.out.cell (16 + k)).trans HA0.out
      have e1 : w1.cell? ⟨w.heap.size + 1, 16 + k, none⟩ = some (.int .u64 y1) := (R1.out.cell (16 + k)).trans HA1.out
      clear h0 h1 HC0 HC1 HA0 HA1 HH
      --@K2
      cases z1 with
      | true =>
        cases q1 : (x1 != x0) with
        | true =>
          have HV : Hid (Z = false) := HM.out.trans (all_hit hlt (by rw [HK.out]; first | rfl | (rw [q1]; rfl) | (simp [q1])))
          clear HM HK hf
          go_quiet (fail)
          go_wp2
          go_ret
          exact ⟨by rw [HV.out]; first | done | rfl, below_drewU BW.out _⟩
        | false =>
          cases z2 with
          | true =>
            cases q2 : (y1 != y0) with
            | true =>
              have HV : Hid (Z = false) := HM.out.trans (all_hit hlt (by rw [HK.out]; first | rfl | (rw [q1, q2]; rfl) | (simp [q1, q2])))
              clear HM HK hf
              go_quiet (fail)
              go_wp2
              go_ret
              exact ⟨by rw [HV.out]; first | done | rfl, below_drewU BW.out _⟩
            | false =>
              have HF : Hid (∀ j, j < k + 1 → klF c a c' a' j = false) := fun j hj => by
                by_cases e : j = k
                · rw [e, HK.out]; first | rfl | (rw [q1, q2]; rfl) | (simp [q1, q2])
                · exact hf.out j (by omega)
              clear HK hf
              go_quiet (fail)
              go_wp2
              go_roundw
              case rel => exact ⟨k + 1, by omega, by go_num, HF, R0.out.later (below_drewU (Below.refl _ _) _) R0.out.lt, R1.out.later (below_drewU (Below.refl _ _) _) R1.out.lt, below_drewU BW.out _⟩
              case measure => simp [intOf]; omega
          | false =>
            have HF : Hid (∀ j, j < k + 1 → klF c a c' a' j = false) := fun j hj => by
              by_cases e : j = k
              · rw [e, HK.out]; first | rfl | (rw [q1]; rfl) | (simp [q1])
              · exact hf.out j (by omega)
            clear HK hf
            go_quiet (fail)
            go_wp2
            go_roundw
            case rel => exact ⟨k + 1, by omega, by go_num, HF, R0.out.later (below_drewU (Below.refl _ _) _) R0.out.lt, R1.out.later (below_drewU (Below.refl _ _) _) R1.out.lt, below_drewU BW.out _⟩
            case measure => simp [intOf]; omega
      | false =>
        cases z2 with
        | true =>
          cases q3 : (y1 != y0) with
          | true =>
            have HV : Hid (Z = false) := HM.out.trans (all_hit hlt (by rw [HK.out]; first | rfl | (rw [q3]; rfl) | (simp [q3])))
            clear HM HK hf
            go_quiet (fail)
            go_wp2
            go_ret
            exact ⟨by rw [HV.out]; first | done | rfl, below_drewU BW.out _⟩
          | false =>
            have HF : Hid (∀ j, j < k + 1 → klF c a c' a' j = false) := fun j hj => by
              by_cases e : j = k
              · rw [e, HK.out]; first | rfl | (rw [q3]; rfl) | (simp [q3])
              · exact hf.out j (by omega)
            clear HK hf
            go_quiet (fail)
            go_wp2
            go_roundw
            case rel => exact ⟨k + 1, by omega, by go_num, HF, R0.out.later (below_drewU (Below.refl _ _) _) R0.out.lt, R1.out.later (below_drewU (Below.refl _ _) _) R1.out.lt, below_drewU BW.out _⟩
            case measure => simp [intOf]; omega
        | false =>
          have HF : Hid (∀ j, j < k + 1 → klF c a c' a' j = false) := fun j hj => by
            by_cases e : j = k
            · rw [e, HK.out]; rfl
            · exact hf.out j (by omega)
          clear HK hf
          go_quiet (fail)
          go_wp2
          go_roundw
          case rel => exact ⟨k + 1, by omega, by go_num, HF, R0.out.later (below_drewU (Below.refl _ _) _) R0.out.lt, R1.out.later (below_drewU (Below.refl _ _) _) R1.out.lt, below_drewU BW.out _⟩
          case measure => simp [intOf]; omega
    · obtain rfl : k = 16 := by omega
      have HV : Hid (Z = true) := HM.out.trans (all_none fun j hj => by rw [hf.out j hj]; rfl)
      clear hf HM
      rw [show ((16 : Nat) : Int) = (16 : Int) from rfl]
      go_wp2
      go_ret
      exact ⟨by rw [HV.out]; first | done | rfl, hb.out⟩
end Go.Proofs.YtidfndgedopghaaGreatDoor
namespace Go.Proofs.YtidfndgedopghaaGreatDoor
set_option linter.unusedVariables false
open Go.ChangeShapes Go.WideShapes Go.ChangeAt Go.RowKit Go.Deep
theorem pr_eq {K k : Cp} (h : K = PR k) : (K.s 0).getLsbD 11 = (K.s 0).getLsbD 12 := by rw [h]; exact pr_1112 k
set_option maxRecDepth 100000 in
set_option maxHeartbeats 1000000 in
theorem Effective_c : TEf := fun k w => by
  obtain ⟨W0, hW0, r0, b0, s0⟩ := start1 w (cpc k) 32
  have HS : Hid (W0.heap.size = w.heap.size + 1) := s0
  clear s0
  have HP : Hid (∀ W, Calls Tryz.prog 23 #[.agg (cpc k)] W fun e w' => e = .returned (.agg (cpc (PR k))) ∧ Below W.heap.size W w') := fun W => Pr_c k W
  have HM := PR_md k
  obtain ⟨K, hK⟩ : ∃ K, K = PR k := ⟨_, rfl⟩
  rw [← hK] at HP HM
  have HK : Hid (K = PR k) := hK
  clear hK
  go_enter Tryz.func101, Tryz.ntmps101
  go_upto_region 1 with fail
  clear hW0
  go_upto_region 2 with (first | (refine wpList_load_row (by rfl) _ _ (by rfl) _ (by rfl) 32 _ (0, 0) _ r0.out Tryz.underlying32 (by rfl) (info_cpu _) ?_) | (go_at_call 23; refine (HP.out _).mono ?_; rintro e w1 ⟨rfl, hb1⟩; have HB1 : Hid (Below W0.heap.size W0 w1) := hb1; clear hb1) | (refine wpList_store_row (by rfl) _ _ _ (by rfl) (by rfl) _ _ _ (by rfl) (by rfl) (r0.out.later HB1.out (by rw [HS.out]; omega)) (info_cpu _) (by rw [cpc_size, cpc_size]) (cpc_ones _) ?_))
  refine go_on1 (motive := fun W => Code.wp _ _ _ _ W) (a := w) (B := w.heap.size) (n := w1.heap.size) (show Row _ w.heap.size (cpc K) 32 from setRow_heap _ _ _ _ _ _ (r0.out.later HB1.out (by rw [HS.out]; omega))) (below_row (b0.out.trans (HB1.out.mono b0.out.size)) (Nat.le_refl _) _) (by simp) ?_
  clear r0 b0 HS HB1 HP
  intro W2 q0 c0 t0
  have R0 : Hid (Row W2 w.heap.size (cpc K) 32) := q0
  have BB : Hid (Below w.heap.size w W2) := c0
  have Km := q0.cls.md
  have K0 := q0.cls.s0
  have f0 := q0.froz
  clear q0 c0 t0
  have HF : Hid (∀ W, Calls Tryz.prog 143 #[.int .u64 (n64 (K.s 0))] W fun e w' => e = .returned (.int .i64 (mpB (K.s 0))) ∧ w' = W) := fun W => by have q := before_c (K.s 0) W; rw [bf_mp _ (pr_eq HK.out)] at q; exact q
  have b0 : bits .and .u64 (n64 (K.s 0)) 131072 = n64 (K.s 0 &&& 131072#64) := n64_and _ 131072#64
  have b1 : (n64 (K.s 0 &&& 131072#64) != 0) = (K.s 0).getLsbD 17 := bit_ne (K.s 0) 17 (by decide)
  obtain ⟨b, hb⟩ : ∃ b, b = (K.s 0).getLsbD 17 := ⟨_, rfl⟩
  rw [← hb] at b1
  have Eb : Hid (b = (K.s 0).getLsbD 17) := hb
  clear hb
  generalize n64 (K.s 0 &&& 131072#64) = y0 at b0 b1
  rcases HM with h1 | h1
  · have HA : Hid (EF k = 0) := by unfold Hid EF; rw [← HK.out, if_neg (by rw [h1]; simp), h1]
    rw [h1] at Km
    clear h1 HK
    go_wp2
    go_ret
    exact ⟨by rw [HA.out]; rfl, BB.out⟩
  · rw [h1] at Km
    cases b with
    | true =>
      have HA : Hid (EF k = mpB (K.s 0)) := by unfold Hid EF; rw [← HK.out, if_pos ⟨h1, Eb.out.symm⟩]
      clear h1 HK Eb
      generalize mpB (K.s 0) = z at HF HA
      go_wp2_with (go_at_call 143; refine (HF.out _).mono ?_; rintro e wb ⟨rfl, hwb⟩; have hwb2 := hwb.symm; subst hwb2)
      go_ret
      exact ⟨by rw [HA.out]; rfl, BB.out⟩
    | false =>
      have HA : Hid (EF k = 3) := by unfold Hid EF; rw [← HK.out, if_neg (by rw [← Eb.out]; simp), h1]
      clear h1 HK Eb
      go_wp2
      go_ret
      exact ⟨by rw [HA.out]; rfl, BB.out⟩
end Go.Proofs.YtidfndgedopghaaGreatDoor
