/-
  PmpRuns.
-/
import Derived.Test.YtckgjfkodgeagacDoorPsk
import Derived.Test.YtckgjfkodgeagacDoorPby
import Derived.Test.YtckgjfkodgeagacDoorPbc
import Derived.Test.YtckgjfkodgeagacDoorPrn
import Derived.Test.YtckgjfkodgeagacDoorPcd
import Derived.SizedLaws
import Derived.ShutString
import Derived.ChangeOld
namespace Go.Proofs.YtckgjfkodgeagacDoor
set_option linter.unusedVariables false
open Go.ChangeShapes Go.WideShapes Go.ChangeAt Go.RowKit Go.Deep
theorem tb_later {W : World} (h : Tb W) (x : Later W) : Tb x.1 := h.next x.below
theorem askc_ones (c : Nat → BitVec 8) (a : Nat → BitVec 64) (i : Int) (v : BitVec 64) (m : Int) (ad : BitVec 64) (s b : Int) : (askc c a i v m ad s b).all (·.oneCell') = true := by
  unfold askc
  rw [Array.all_append, pc_ones, Bool.true_and]
  simp [Value.oneCell']
set_option maxRecDepth 100000 in
set_option maxHeartbeats 16000000 in
theorem runs_walk (c : Nat → BitVec 8) (a : Nat → BitVec 64) (i : Int) (v : BitVec 64) (m : Int) (ad : BitVec 64) (s b : Int) (vO : Value) (O : List Wri) (w : World) (hT : Tb w) (hO : Wris w vO O) (hlen : O.length * 24 ≤ 140737488351232) :
    Calls Tryd.prog 3 #[.agg (runc c a i v m ad s b vO)] w fun e w' => e = .returned (.bool true) ∧ Below w.heap.size w w' := by
  obtain ⟨W0, hW0, r0, b0, s0⟩ := start1 w (runc c a i v m ad s b vO) 31
  have HS : Hid (W0.heap.size = w.heap.size + 1) := s0
  obtain ⟨sa, cap, rfl, hcap, hsl⟩ := hO
  have AX : Hid (∀ W, Below W0.heap.size W0 W → Tb W ∧ (∀ j u, (pc c a)[j]? = some u → W.cell? ⟨w.heap.size, 0 + j, none⟩ = some u) ∧ (∀ j u, (askc c a i v m ad s b)[j]? = some u → W.cell? ⟨w.heap.size, 0 + j, none⟩ = some u) ∧ W.cell? ⟨w.heap.size, 38, none⟩ = some (.slice sa O.length cap) ∧ Below w.heap.size w W) := fun W hb => by
    have hh := r0.out.later hb (by rw [s0]; omega)
    have hw : Below w.heap.size w W := b0.out.trans (hb.mono (by rw [s0]; omega))
    exact ⟨hT.next hw, runc_pmp c a i v m ad s b _ hh, (runc_ask c a i v m ad s b _ hh).1, (runc_ask c a i v m ad s b _ hh).2, hw⟩
  have HSL : Hid (O ≠ [] → ∃ g off, sa = some ⟨g, off, none⟩ ∧ g < w.heap.size ∧ ∀ j, j < O.length → ∀ c, c < 3 → w.cell? ⟨g, off + j * 3 + c, none⟩ = (wriv (O.getD j wri0))[c]?) := hsl
  have HLN : Hid (O.length * 24 ≤ 140737488351232) := hlen
  clear s0 hT hsl hlen
  have B0 : Hid (Below W0.heap.size W0 W0) := Below.refl _ _
  have L0 : Hid (∀ j u, (pc c a)[j]? = some u → W0.cell? ⟨w.heap.size, 0 + j, none⟩ = some u) := (AX.out W0 B0.out).2.1
  go_enter Tryd.func3, Tryd.ntmps3
  go_upto_region 1 with fail
  clear hW0 r0
  go_upto_region 2 with (first | (refine wpList_load_agg (by rfl) _ _ (by rfl) w.heap.size 0 (by rfl) (pc c a) _ L0.out Tryd.underlying26 (by rfl) (by rw [pc_size]; kernel_rfl) ?_) | (refine wpList_store_new (by rfl) _ _ _ (by rfl) (by rfl) _ _ (by rfl) (by rfl) (by rw [pc_size]; kernel_rfl) (by rw [pc_size]; rfl) (pc_ones _ _) ?_))
  obtain ⟨W1, hW1, q0, q1, q2⟩ := start1 W0 (pc c a) 26
  rw [hW1]
  have L1 : Hid (∀ j u, (pc c a)[j]? = some u → W1.cell? ⟨w.heap.size, 0 + j, none⟩ = some u) := (AX.out W1 q1.out).2.1
  have Q2 : Hid (W1.heap.size = W0.heap.size + 1) := q2
  clear hW1 L0 q2
  go_upto_region 3 with (first | (refine wpList_load_agg (by rfl) _ _ (by rfl) w.heap.size 0 (by rfl) (pc c a) _ L1.out Tryd.underlying26 (by rfl) (by rw [pc_size]; kernel_rfl) ?_) | (refine wpList_store_new (by rfl) _ _ _ (by rfl) (by rfl) _ _ (by rfl) (by rfl) (by rw [pc_size]; kernel_rfl) (by rw [pc_size]; rfl) (pc_ones _ _) ?_))
  obtain ⟨W2, hW2, q3, q4, q5⟩ := start1 W1 (pc c a) 26
  rw [hW2]
  have q0' : Hid (Row W2 W0.heap.size (pc c a) 26) := q0.out.later q4.out (by rw [Q2.out]; omega)
  have q6 : Hid (Below W0.heap.size W0 W2) := q1.out.trans (q4.out.mono (by rw [Q2.out]; omega))
  have HPQ : Hid (W0.heap.size ≤ W0.heap.size ∧ W0.heap.size ≤ W1.heap.size ∧ W0.heap.size ≠ W1.heap.size) := ⟨Nat.le_refl _, by rw [Q2.out]; omega, by rw [Q2.out]; omega⟩
  clear hW2 L1 q5 q4 Q2 q1 q0
  generalize W1.heap.size = gq at *
  obtain ⟨gp, hgp⟩ : ∃ gp, gp = W0.heap.size := ⟨_, rfl⟩
  have HPQ : Hid (W0.heap.size ≤ gp ∧ W0.heap.size ≤ gq ∧ gp ≠ gq) := by rw [hgp]; exact HPQ
  rw [← hgp]
  rw [← hgp] at q0'
  clear hgp
  go_wp2
  go_loopw [5] (fun x wr => ∃ j : Nat, j ≤ O.length ∧ x = .int .i64 j ∧ ∃ (C : Nat → BitVec 8) (A : Nat → BitVec 64), Hid (Row wr gp (pc C A) 26) ∧ Hid (Row wr gq (pc C A) 26) ∧ Hid (Below W0.heap.size W0 wr)) (fun x _ => O.length - (intOf x).toNat)
  case atStart => exact ⟨0, Nat.zero_le _, rfl, c, a, q0', q3, q6⟩
  case round =>
    clear q0' q3 q6
    obtain ⟨j, hj, rfl, C, A, g0, g1, gb⟩ := hrel
    have k38 := (AX.out wr gb.out).2.2.2.1
    have lp0 := g0.out.lt
    have lq0 := g1.out.lt
    have hL := HLN.out
    by_cases hlt : j < O.length
    · obtain ⟨gw, off, rfl, hgw, hcl⟩ := HSL.out (by intro e; rw [e] at hlt; simp at hlt)
      have hlt2 : (j : Int) < O.length := by omega
      have hlw : gw < W0.heap.size := by rw [HS.out]; omega
      have cw : ∀ q, q < 3 → wr.cell? ⟨gw, off + j * 3 + q, none⟩ = (wriv (O.getD j wri0))[q]? := fun q hq => ((AX.out wr gb.out).2.2.2.2.cell (p := ⟨gw, off + j * 3 + q, none⟩) hgw).trans (hcl j hlt q hq)
      obtain ⟨X, hX⟩ : ∃ X, X = O.getD j wri0 := ⟨_, rfl⟩
      rw [← hX] at cw
      clear hX hcl
      obtain ⟨wd, wi, wv⟩ := X
      have w0 : wr.cell? ⟨gw, off + j * 3, none⟩ = some (.bool wd) := cw 0 (by omega)
      have w1 : wr.cell? ⟨gw, off + j * 3 + 1, none⟩ = some (.int .i64 wi) := cw 1 (by omega)
      have w2 : wr.cell? ⟨gw, off + j * 3 + 2, none⟩ = some (.int .u64 (n64 wv)) := cw 2 (by omega)
      clear cw
      cases wd with
      | true =>
        go_upto_region 8 with fail
        obtain ⟨W1, hW1, rx, bx, sx⟩ := start1 wr #[Value.bool true, .int .i64 wi, .int .u64 (n64 wv)] 33
        rw [hW1]
        have B1 : Hid (Below W0.heap.size W0 W1) := gb.out.trans (bx.out.mono gb.out.size)
        have RP1 : Hid (Row W1 gp (pc C A) 26) := g0.out.later bx.out lp0
        have RQ1 : Hid (Row W1 gq (pc C A) 26) := g1.out.later bx.out lq0
        have x1 : W1.cell? ⟨wr.heap.size, 1, none⟩ = some (.int .i64 wi) := rx.out.cell 1
        have x2 : W1.cell? ⟨wr.heap.size, 2, none⟩ = some (.int .u64 (n64 wv)) := rx.out.cell 2
        have HX : Hid (wr.heap.size < W1.heap.size ∧ gp < wr.heap.size ∧ gq < wr.heap.size) := ⟨by omega, lp0, lq0⟩
        clear hW1 bx sx rx
        generalize wr.heap.size = gx at *
        have HA : Hid (∀ W, Calls Tryd.prog 4 #[.agg (pc C A), .int .i64 wi, .int .u64 (n64 wv)] W fun e w' => e = .returned (.agg (pc (PC C) (sA (PC C) (PA A) wi wv))) ∧ Below W.heap.size W w') := fun W => SetAddr_c C A wi wv W
        have HB : Hid (∀ W, Calls Tryd.prog 5 #[.agg (pc C A), .int .i64 wi, .int .u64 (n64 wv)] W fun e w' => e = .returned (.agg (pc (PC C) (sA (PC C) (PA A) wi wv))) ∧ Below W.heap.size W w') := fun W => rSetAddr_c C A wi wv W
        go_upto_region 9 with (first | (refine wpList_load_rowG (by rfl) _ _ (by rfl) _ (by rfl) 26 _ (0, 0) _ RP1.out Tryd.underlying26 (by rfl) (by rw [pc_size]; kernel_rfl) ?_) | (go_at_call 4; refine (HA.out _).mono ?_; rintro e w2 ⟨rfl, hb⟩; have D2 : Hid (Below W1.heap.size W1 w2) := hb; clear hb) | (refine wpList_store_row (by rfl) _ _ _ (by rfl) (by rfl) _ _ _ (by rfl) (by rfl) (RP1.out.later D2.out (by have := HX.out; omega)) (by rw [pc_size]; kernel_rfl) (by rw [pc_size, pc_size]) (pc_ones _ _) ?_))
        obtain ⟨W2, hW2⟩ : ∃ W2, W2 = w2.setRow gp (pc (PC C) (sA (PC C) (PA A) wi wv)) := ⟨_, rfl⟩
        rw [← hW2]
        have RP2 : Hid (Row W2 gp (pc (PC C) (sA (PC C) (PA A) wi wv)) 26) := by rw [hW2]; exact setRow_heap _ _ _ _ _ _ (RP1.out.later D2.out (by have := HX.out; omega))
        have RQ2 : Hid (Row W2 gq (pc C A) 26) := by rw [hW2]; exact (setRow_other _ _ _ _ (by have := HPQ.out; omega)).trans (RQ1.out.later D2.out (by have := HX.out; omega))
        have y1 : W2.cell? ⟨gx, 1, none⟩ = some (.int .i64 wi) := by rw [hW2, cell_setRow_other _ _ _ _ (by show gx ≠ gp; have := HX.out; omega)]; exact (D2.out.cell (p := ⟨gx, 1, none⟩) HX.out.1).trans x1
        have y2 : W2.cell? ⟨gx, 2, none⟩ = some (.int .u64 (n64 wv)) := by rw [hW2, cell_setRow_other _ _ _ _ (by show gx ≠ gp; have := HX.out; omega)]; exact (D2.out.cell (p := ⟨gx, 2, none⟩) HX.out.1).trans x2
        have B2 : Hid (Below W0.heap.size W0 W2) := by rw [hW2]; exact below_row (B1.out.trans (D2.out.mono B1.out.size)) HPQ.out.1 _
        have s2 : Hid (gq < W2.heap.size ∧ gp < W2.heap.size) := ⟨RQ2.out.lt, RP2.out.lt⟩
        clear hW2 D2 RP1 RQ1 x1 x2 B1
        go_wp2_with (first | (refine wpList_load_rowG (by rfl) _ _ (by rfl) _ (by rfl) 26 _ (0, 0) _ RQ2.out Tryd.underlying26 (by rfl) (by rw [pc_size]; kernel_rfl) ?_) | (go_at_call 5; refine (HB.out _).mono ?_; rintro e w3 ⟨rfl, hb⟩; have D3 : Hid (Below W2.heap.size W2 w3) := hb; clear hb) | (refine wpList_store_row (by rfl) _ _ _ (by rfl) (by rfl) _ _ _ (by rfl) (by rfl) (RQ2.out.later D3.out s2.out.1) (by rw [pc_size]; kernel_rfl) (by rw [pc_size, pc_size]) (pc_ones _ _) ?_))
        obtain ⟨W3, hW3⟩ : ∃ W3, W3 = w3.setRow gq (pc (PC C) (sA (PC C) (PA A) wi wv)) := ⟨_, rfl⟩
        rw [← hW3]
        have RQ3 : Hid (Row W3 gq (pc (PC C) (sA (PC C) (PA A) wi wv)) 26) := by rw [hW3]; exact setRow_heap _ _ _ _ _ _ (RQ2.out.later D3.out s2.out.1)
        have RP3 : Hid (Row W3 gp (pc (PC C) (sA (PC C) (PA A) wi wv)) 26) := by rw [hW3]; exact (setRow_other _ _ _ _ (by have := HPQ.out; omega)).trans (RP2.out.later D3.out s2.out.2)
        have B3 : Hid (Below W0.heap.size W0 W3) := by rw [hW3]; exact below_row (B2.out.trans (D3.out.mono B2.out.size)) HPQ.out.2.1 _
        clear hW3 D3 RP2 RQ2 y1 y2 B2 s2 HA HB
        generalize PC C = C' at *
        generalize sA C' (PA A) wi wv = A' at *
        have HC0 : Hid (∀ W, Calls Tryd.prog 8 #[.agg (pc C' A'), .int .i64 0] W fun e w' => e = .returned (.int .u64 (cfgR (PC C') 0)) ∧ Below W.heap.size W w') := fun W => Cfg_c C' A' 0 W
        have HC2 : Hid (∀ W, Calls Tryd.prog 8 #[.agg (pc C' A'), .int .i64 2] W fun e w' => e = .returned (.int .u64 (cfgR (PC C') 2)) ∧ Below W.heap.size W w') := fun W => Cfg_c C' A' 2 W
        have HD0 : Hid (∀ W, Calls Tryd.prog 9 #[.agg (pc C' A'), .int .i64 0] W fun e w' => e = .returned (.int .u64 (cfgR (PC C') 0)) ∧ Below W.heap.size W w') := fun W => rCfg_c C' A' 0 W
        have HD2 : Hid (∀ W, Calls Tryd.prog 9 #[.agg (pc C' A'), .int .i64 2] W fun e w' => e = .returned (.int .u64 (cfgR (PC C') 2)) ∧ Below W.heap.size W w') := fun W => rCfg_c C' A' 2 W
        have HK1 : Hid (∀ W, Tb W → Calls Tryd.prog 10 #[.agg (pc C' A'), .int .i64 m, .int .u64 (n64 ad), .int .i64 s, .int .i64 b] W fun e w' => e = .returned (.bool (ckA (PC C') (PA A') m ad s b)) ∧ Below W.heap.size W w') := fun W h => Check_c C' A' m ad s b W h
        have HK2 : Hid (∀ W, Calls Tryd.prog 11 #[.agg (pc C' A'), .int .i64 m, .int .u64 (n64 ad), .int .i64 s, .int .i64 b] W fun e w' => e = .returned (.bool (ckA (PC C') (PA A') m ad s b)) ∧ Below W.heap.size W w') := fun W => rCheck_c C' A' m ad s b W
        have heq : ∀ W, (Op.equalIn 10000 26 (.agg (pc C' A')) (.agg (pc C' A'))).run Tryd.prog W = .ok true W := fun W => eq_pc W _ _
        generalize cfgR (PC C') 0 = z0 at HC0 HD0
        generalize cfgR (PC C') 2 = z2 at HC2 HD2
        generalize ckA (PC C') (PA A') m ad s b = zk at HK1 HK2
        obtain ⟨P, hP⟩ : ∃ P, P = pc C' A' := ⟨_, rfl⟩
        have HPE : Hid (P = pc C' A') := hP
        have HSZ : Hid (P.size = 32) := by unfold Hid; rw [hP]; exact pc_size _ _
        rw [← hP] at HC0 HC2 HD0 HD2 HK1 HK2 heq RP3 RQ3
        rw [← hP]
        clear hP
        have QP : Hid (∀ j u, P[j]? = some u → W3.cell? ⟨gp, 0 + j, none⟩ = some u) := fun j u hu => by rw [Nat.zero_add, RP3.out.cell]; exact hu
        have QQ : Hid (∀ j u, P[j]? = some u → W3.cell? ⟨gq, 0 + j, none⟩ = some u) := fun j u hu => by rw [Nat.zero_add, RQ3.out.cell]; exact hu
        have lp := RP3.out.lt
        have lq := RQ3.out.lt
        have n1 := later_nonempty W3
        have bz0 : (z0 != z0) = false := by simp
        have bz2 : (z2 != z2) = false := by simp
        refine wp_region_later (x0 := Later.start W3) (by kernel_rfl) (by kernel_rfl) ?_
        iterate 11 (first | (refine BigFrame.wpQuiet_want (by rfl) fun K hK => ?_; refine quiet_load_agg 26 _ (by rfl) gp 0 (by rfl) P _ lp QP.out Tryd.underlying26 (by rfl) (by rw [HSZ.out]; kernel_rfl) (hK _ ?_); clear hK K; simp only [Act.put, List.setIfInBounds_toArray, List.set_cons_succ, List.set_cons_zero]) | (refine BigFrame.wpQuiet_want (by rfl) fun K hK => ?_; refine quiet_load_agg 26 _ (by rfl) gq 0 (by rfl) P _ lq QQ.out Tryd.underlying26 (by rfl) (by rw [HSZ.out]; kernel_rfl) (hK _ ?_); clear hK K; simp only [Act.put, List.setIfInBounds_toArray, List.set_cons_succ, List.set_cons_zero]) | (go_big_quiet_step (first | (go_at_call 8; exact calls_later (HC0.out _)) | (go_at_call 9; exact calls_later (HD0.out _)))))
        repeat (first | (refine BigFrame.wpQuiet_want (by rfl) fun K hK => ?_; refine quiet_load_agg 26 _ (by rfl) gp 0 (by rfl) P _ lp QP.out Tryd.underlying26 (by rfl) (by rw [HSZ.out]; kernel_rfl) (hK _ ?_); clear hK K; simp only [Act.put, List.setIfInBounds_toArray, List.set_cons_succ, List.set_cons_zero]) | (refine BigFrame.wpQuiet_want (by rfl) fun K hK => ?_; refine quiet_load_agg 26 _ (by rfl) gq 0 (by rfl) P _ lq QQ.out Tryd.underlying26 (by rfl) (by rw [HSZ.out]; kernel_rfl) (hK _ ?_); clear hK K; simp only [Act.put, List.setIfInBounds_toArray, List.set_cons_succ, List.set_cons_zero]) | (go_big_quiet_step (first | (go_at_call 8; exact calls_later (HC2.out _)) | (go_at_call 9; exact calls_later (HD2.out _)))))
        refine wpQuiet_nil ?_
        rintro w' ⟨x9, rfl⟩
        obtain ⟨W4, hW4⟩ : ∃ W4, W4 = x9.1 := ⟨_, rfl⟩
        rw [← hW4]
        have B4 : Hid (Below W3.heap.size W3 W4) := by rw [hW4]; exact x9.below
        have B4' : Hid (Below W0.heap.size W0 W4) := B3.out.trans (B4.out.mono B3.out.size)
        have RP4 : Hid (Row W4 gp P 26) := RP3.out.later B4.out lp
        have RQ4 : Hid (Row W4 gq P 26) := RQ3.out.later B4.out lq
        have AK4 : Hid (∀ j u, (askc c a i v m ad s b)[j]? = some u → W4.cell? ⟨w.heap.size, 0 + j, none⟩ = some u) := (AX.out W4 B4'.out).2.2.1
        clear hW4 x9 QP QQ n1 heq HC0 HC2 HD0 HD2
        go_upto_region 15 with (first | (refine wpList_load_agg (by rfl) _ _ (by rfl) w.heap.size 0 (by rfl) (askc c a i v m ad s b) _ AK4.out Tryd.underlying28 (by rfl) (by rw [askc_size]; kernel_rfl) ?_) | (refine wpList_store_new (by rfl) _ _ _ (by rfl) (by rfl) _ _ (by rfl) (by rfl) (by rw [askc_size]; kernel_rfl) (by rw [askc_size]; rfl) (askc_ones _ _ _ _ _ _ _ _) ?_))
        obtain ⟨W6, hW6, r6, b6, s6⟩ := start1 W4 (askc c a i v m ad s b) 28
        rw [hW6]
        have lp4 := RP4.out.lt
        have lq4 := RQ4.out.lt
        have B6 : Hid (Below W0.heap.size W0 W6) := B4'.out.trans (b6.out.mono B4'.out.size)
        have RP6 : Hid (Row W6 gp P 26) := RP4.out.later b6.out lp4
        have RQ6 : Hid (Row W6 gq P 26) := RQ4.out.later b6.out lq4
        have g6 : W4.heap.size < W6.heap.size := by rw [s6]; omega
        have T6 : Hid (Tb W6) := (AX.out W6 B6.out).1
        obtain ⟨_, _, e34, e35, e36, e37⟩ := askc_rest c a i v m ad s b r6.out
        have l34 := later_at g6 e34
        have l35 := later_at g6 e35
        have l36 := later_at g6 e36
        have l37 := later_at g6 e37
        have lp6 := RP6.out.lt
        have lq6 := RQ6.out.lt
        have QP : Hid (∀ j u, P[j]? = some u → W6.cell? ⟨gp, 0 + j, none⟩ = some u) := fun j u hu => by rw [Nat.zero_add, RP6.out.cell]; exact hu
        have QQ : Hid (∀ j u, P[j]? = some u → W6.cell? ⟨gq, 0 + j, none⟩ = some u) := fun j u hu => by rw [Nat.zero_add, RQ6.out.cell]; exact hu
        have n2 := later_nonempty W6
        have bzk : (zk != zk) = false := by simp
        clear hW6 s6 b6 e34 e35 e36 e37 r6
        refine wp_region_later (x0 := Later.start W6) (by kernel_rfl) (by kernel_rfl) ?_
        repeat (first | (refine BigFrame.wpQuiet_want (by rfl) fun K hK => ?_; refine quiet_load_agg 26 _ (by rfl) gp 0 (by rfl) P _ lp6 QP.out Tryd.underlying26 (by rfl) (by rw [HSZ.out]; kernel_rfl) (hK _ ?_); clear hK K; simp only [Act.put, List.setIfInBounds_toArray, List.set_cons_succ, List.set_cons_zero]) | (refine BigFrame.wpQuiet_want (by rfl) fun K hK => ?_; refine quiet_load_agg 26 _ (by rfl) gq 0 (by rfl) P _ lq6 QQ.out Tryd.underlying26 (by rfl) (by rw [HSZ.out]; kernel_rfl) (hK _ ?_); clear hK K; simp only [Act.put, List.setIfInBounds_toArray, List.set_cons_succ, List.set_cons_zero]) | (go_big_quiet_step (first | (go_at_call 10; exact calls_later (HK1.out _ (tb_later T6.out _))) | (go_at_call 11; exact calls_later (HK2.out _)))))
        refine wpQuiet_nil ?_
        rintro w' ⟨x9, rfl⟩
        obtain ⟨W7, hW7⟩ : ∃ W7, W7 = x9.1 := ⟨_, rfl⟩
        rw [← hW7]
        have B7 : Hid (Below W6.heap.size W6 W7) := by rw [hW7]; exact x9.below
        have RP7 : Hid (Row W7 gp (pc C' A') 26) := by rw [← HPE.out]; exact RP6.out.later B7.out lp6
        have RQ7 : Hid (Row W7 gq (pc C' A') 26) := by rw [← HPE.out]; exact RQ6.out.later B7.out lq6
        clear hW7 x9 n2
        go_wp2
        go_roundw
        case rel => exact ⟨j + 1, hlt, by go_num, C', A', RP7, RQ7, B6.out.trans (B7.out.mono B6.out.size)⟩
        case measure => simp [intOf]; omega
      | false =>
        go_upto_region 10 with fail
        obtain ⟨W1, hW1, rx, bx, sx⟩ := start1 wr #[Value.bool false, .int .i64 wi, .int .u64 (n64 wv)] 33
        rw [hW1]
        have B1 : Hid (Below W0.heap.size W0 W1) := gb.out.trans (bx.out.mono gb.out.size)
        have RP1 : Hid (Row W1 gp (pc C A) 26) := g0.out.later bx.out lp0
        have RQ1 : Hid (Row W1 gq (pc C A) 26) := g1.out.later bx.out lq0
        have x1 : W1.cell? ⟨wr.heap.size, 1, none⟩ = some (.int .i64 wi) := rx.out.cell 1
        have x2 : W1.cell? ⟨wr.heap.size, 2, none⟩ = some (.int .u64 (n64 wv)) := rx.out.cell 2
        have HX : Hid (wr.heap.size < W1.heap.size ∧ gp < wr.heap.size ∧ gq < wr.heap.size) := ⟨by omega, lp0, lq0⟩
        clear hW1 bx sx rx
        generalize wr.heap.size = gx at *
        have HA : Hid (∀ W, Calls Tryd.prog 6 #[.agg (pc C A), .int .i64 wi, .int .u64 (n64 wv)] W fun e w' => e = .returned (.agg (pc (sR (PC C) wi wv) (PA A))) ∧ Below W.heap.size W w') := fun W => SetCfg_c C A wi wv W
        have HB : Hid (∀ W, Calls Tryd.prog 7 #[.agg (pc C A), .int .i64 wi, .int .u64 (n64 wv)] W fun e w' => e = .returned (.agg (pc (sR (PC C) wi wv) (PA A))) ∧ Below W.heap.size W w') := fun W => rSetCfg_c C A wi wv W
        go_upto_region 11 with (first | (refine wpList_load_rowG (by rfl) _ _ (by rfl) _ (by rfl) 26 _ (0, 0) _ RP1.out Tryd.underlying26 (by rfl) (by rw [pc_size]; kernel_rfl) ?_) | (go_at_call 6; refine (HA.out _).mono ?_; rintro e w2 ⟨rfl, hb⟩; have D2 : Hid (Below W1.heap.size W1 w2) := hb; clear hb) | (refine wpList_store_row (by rfl) _ _ _ (by rfl) (by rfl) _ _ _ (by rfl) (by rfl) (RP1.out.later D2.out (by have := HX.out; omega)) (by rw [pc_size]; kernel_rfl) (by rw [pc_size, pc_size]) (pc_ones _ _) ?_))
        obtain ⟨W2, hW2⟩ : ∃ W2, W2 = w2.setRow gp (pc (sR (PC C) wi wv) (PA A)) := ⟨_, rfl⟩
        rw [← hW2]
        have RP2 : Hid (Row W2 gp (pc (sR (PC C) wi wv) (PA A)) 26) := by rw [hW2]; exact setRow_heap _ _ _ _ _ _ (RP1.out.later D2.out (by have := HX.out; omega))
        have RQ2 : Hid (Row W2 gq (pc C A) 26) := by rw [hW2]; exact (setRow_other _ _ _ _ (by have := HPQ.out; omega)).trans (RQ1.out.later D2.out (by have := HX.out; omega))
        have y1 : W2.cell? ⟨gx, 1, none⟩ = some (.int .i64 wi) := by rw [hW2, cell_setRow_other _ _ _ _ (by show gx ≠ gp; have := HX.out; omega)]; exact (D2.out.cell (p := ⟨gx, 1, none⟩) HX.out.1).trans x1
        have y2 : W2.cell? ⟨gx, 2, none⟩ = some (.int .u64 (n64 wv)) := by rw [hW2, cell_setRow_other _ _ _ _ (by show gx ≠ gp; have := HX.out; omega)]; exact (D2.out.cell (p := ⟨gx, 2, none⟩) HX.out.1).trans x2
        have B2 : Hid (Below W0.heap.size W0 W2) := by rw [hW2]; exact below_row (B1.out.trans (D2.out.mono B1.out.size)) HPQ.out.1 _
        have s2 : Hid (gq < W2.heap.size ∧ gp < W2.heap.size) := ⟨RQ2.out.lt, RP2.out.lt⟩
        clear hW2 D2 RP1 RQ1 x1 x2 B1
        go_wp2_with (first | (refine wpList_load_rowG (by rfl) _ _ (by rfl) _ (by rfl) 26 _ (0, 0) _ RQ2.out Tryd.underlying26 (by rfl) (by rw [pc_size]; kernel_rfl) ?_) | (go_at_call 7; refine (HB.out _).mono ?_; rintro e w3 ⟨rfl, hb⟩; have D3 : Hid (Below W2.heap.size W2 w3) := hb; clear hb) | (refine wpList_store_row (by rfl) _ _ _ (by rfl) (by rfl) _ _ _ (by rfl) (by rfl) (RQ2.out.later D3.out s2.out.1) (by rw [pc_size]; kernel_rfl) (by rw [pc_size, pc_size]) (pc_ones _ _) ?_))
        obtain ⟨W3, hW3⟩ : ∃ W3, W3 = w3.setRow gq (pc (sR (PC C) wi wv) (PA A)) := ⟨_, rfl⟩
        rw [← hW3]
        have RQ3 : Hid (Row W3 gq (pc (sR (PC C) wi wv) (PA A)) 26) := by rw [hW3]; exact setRow_heap _ _ _ _ _ _ (RQ2.out.later D3.out s2.out.1)
        have RP3 : Hid (Row W3 gp (pc (sR (PC C) wi wv) (PA A)) 26) := by rw [hW3]; exact (setRow_other _ _ _ _ (by have := HPQ.out; omega)).trans (RP2.out.later D3.out s2.out.2)
        have B3 : Hid (Below W0.heap.size W0 W3) := by rw [hW3]; exact below_row (B2.out.trans (D3.out.mono B2.out.size)) HPQ.out.2.1 _
        clear hW3 D3 RP2 RQ2 y1 y2 B2 s2 HA HB
        generalize sR (PC C) wi wv = C' at *
        generalize PA A = A' at *
        have HC0 : Hid (∀ W, Calls Tryd.prog 8 #[.agg (pc C' A'), .int .i64 0] W fun e w' => e = .returned (.int .u64 (cfgR (PC C') 0)) ∧ Below W.heap.size W w') := fun W => Cfg_c C' A' 0 W
        have HC2 : Hid (∀ W, Calls Tryd.prog 8 #[.agg (pc C' A'), .int .i64 2] W fun e w' => e = .returned (.int .u64 (cfgR (PC C') 2)) ∧ Below W.heap.size W w') := fun W => Cfg_c C' A' 2 W
        have HD0 : Hid (∀ W, Calls Tryd.prog 9 #[.agg (pc C' A'), .int .i64 0] W fun e w' => e = .returned (.int .u64 (cfgR (PC C') 0)) ∧ Below W.heap.size W w') := fun W => rCfg_c C' A' 0 W
        have HD2 : Hid (∀ W, Calls Tryd.prog 9 #[.agg (pc C' A'), .int .i64 2] W fun e w' => e = .returned (.int .u64 (cfgR (PC C') 2)) ∧ Below W.heap.size W w') := fun W => rCfg_c C' A' 2 W
        have HK1 : Hid (∀ W, Tb W → Calls Tryd.prog 10 #[.agg (pc C' A'), .int .i64 m, .int .u64 (n64 ad), .int .i64 s, .int .i64 b] W fun e w' => e = .returned (.bool (ckA (PC C') (PA A') m ad s b)) ∧ Below W.heap.size W w') := fun W h => Check_c C' A' m ad s b W h
        have HK2 : Hid (∀ W, Calls Tryd.prog 11 #[.agg (pc C' A'), .int .i64 m, .int .u64 (n64 ad), .int .i64 s, .int .i64 b] W fun e w' => e = .returned (.bool (ckA (PC C') (PA A') m ad s b)) ∧ Below W.heap.size W w') := fun W => rCheck_c C' A' m ad s b W
        have heq : ∀ W, (Op.equalIn 10000 26 (.agg (pc C' A')) (.agg (pc C' A'))).run Tryd.prog W = .ok true W := fun W => eq_pc W _ _
        generalize cfgR (PC C') 0 = z0 at HC0 HD0
        generalize cfgR (PC C') 2 = z2 at HC2 HD2
        generalize ckA (PC C') (PA A') m ad s b = zk at HK1 HK2
        obtain ⟨P, hP⟩ : ∃ P, P = pc C' A' := ⟨_, rfl⟩
        have HPE : Hid (P = pc C' A') := hP
        have HSZ : Hid (P.size = 32) := by unfold Hid; rw [hP]; exact pc_size _ _
        rw [← hP] at HC0 HC2 HD0 HD2 HK1 HK2 heq RP3 RQ3
        rw [← hP]
        clear hP
        have QP : Hid (∀ j u, P[j]? = some u → W3.cell? ⟨gp, 0 + j, none⟩ = some u) := fun j u hu => by rw [Nat.zero_add, RP3.out.cell]; exact hu
        have QQ : Hid (∀ j u, P[j]? = some u → W3.cell? ⟨gq, 0 + j, none⟩ = some u) := fun j u hu => by rw [Nat.zero_add, RQ3.out.cell]; exact hu
        have lp := RP3.out.lt
        have lq := RQ3.out.lt
        have n1 := later_nonempty W3
        have bz0 : (z0 != z0) = false := by simp
        have bz2 : (z2 != z2) = false := by simp
        refine wp_region_later (x0 := Later.start W3) (by kernel_rfl) (by kernel_rfl) ?_
        iterate 11 (first | (refine BigFrame.wpQuiet_want (by rfl) fun K hK => ?_; refine quiet_load_agg 26 _ (by rfl) gp 0 (by rfl) P _ lp QP.out Tryd.underlying26 (by rfl) (by rw [HSZ.out]; kernel_rfl) (hK _ ?_); clear hK K; simp only [Act.put, List.setIfInBounds_toArray, List.set_cons_succ, List.set_cons_zero]) | (refine BigFrame.wpQuiet_want (by rfl) fun K hK => ?_; refine quiet_load_agg 26 _ (by rfl) gq 0 (by rfl) P _ lq QQ.out Tryd.underlying26 (by rfl) (by rw [HSZ.out]; kernel_rfl) (hK _ ?_); clear hK K; simp only [Act.put, List.setIfInBounds_toArray, List.set_cons_succ, List.set_cons_zero]) | (go_big_quiet_step (first | (go_at_call 8; exact calls_later (HC0.out _)) | (go_at_call 9; exact calls_later (HD0.out _)))))
        repeat (first | (refine BigFrame.wpQuiet_want (by rfl) fun K hK => ?_; refine quiet_load_agg 26 _ (by rfl) gp 0 (by rfl) P _ lp QP.out Tryd.underlying26 (by rfl) (by rw [HSZ.out]; kernel_rfl) (hK _ ?_); clear hK K; simp only [Act.put, List.setIfInBounds_toArray, List.set_cons_succ, List.set_cons_zero]) | (refine BigFrame.wpQuiet_want (by rfl) fun K hK => ?_; refine quiet_load_agg 26 _ (by rfl) gq 0 (by rfl) P _ lq QQ.out Tryd.underlying26 (by rfl) (by rw [HSZ.out]; kernel_rfl) (hK _ ?_); clear hK K; simp only [Act.put, List.setIfInBounds_toArray, List.set_cons_succ, List.set_cons_zero]) | (go_big_quiet_step (first | (go_at_call 8; exact calls_later (HC2.out _)) | (go_at_call 9; exact calls_later (HD2.out _)))))
        refine wpQuiet_nil ?_
        rintro w' ⟨x9, rfl⟩
        obtain ⟨W4, hW4⟩ : ∃ W4, W4 = x9.1 := ⟨_, rfl⟩
        rw [← hW4]
        have B4 : Hid (Below W3.heap.size W3 W4) := by rw [hW4]; exact x9.below
        have B4' : Hid (Below W0.heap.size W0 W4) := B3.out.trans (B4.out.mono B3.out.size)
        have RP4 : Hid (Row W4 gp P 26) := RP3.out.later B4.out lp
        have RQ4 : Hid (Row W4 gq P 26) := RQ3.out.later B4.out lq
        have AK4 : Hid (∀ j u, (askc c a i v m ad s b)[j]? = some u → W4.cell? ⟨w.heap.size, 0 + j, none⟩ = some u) := (AX.out W4 B4'.out).2.2.1
        clear hW4 x9 QP QQ n1 heq HC0 HC2 HD0 HD2
        go_upto_region 15 with (first | (refine wpList_load_agg (by rfl) _ _ (by rfl) w.heap.size 0 (by rfl) (askc c a i v m ad s b) _ AK4.out Tryd.underlying28 (by rfl) (by rw [askc_size]; kernel_rfl) ?_) | (refine wpList_store_new (by rfl) _ _ _ (by rfl) (by rfl) _ _ (by rfl) (by rfl) (by rw [askc_size]; kernel_rfl) (by rw [askc_size]; rfl) (askc_ones _ _ _ _ _ _ _ _) ?_))
        obtain ⟨W6, hW6, r6, b6, s6⟩ := start1 W4 (askc c a i v m ad s b) 28
        rw [hW6]
        have lp4 := RP4.out.lt
        have lq4 := RQ4.out.lt
        have B6 : Hid (Below W0.heap.size W0 W6) := B4'.out.trans (b6.out.mono B4'.out.size)
        have RP6 : Hid (Row W6 gp P 26) := RP4.out.later b6.out lp4
        have RQ6 : Hid (Row W6 gq P 26) := RQ4.out.later b6.out lq4
        have g6 : W4.heap.size < W6.heap.size := by rw [s6]; omega
        have T6 : Hid (Tb W6) := (AX.out W6 B6.out).1
        obtain ⟨_, _, e34, e35, e36, e37⟩ := askc_rest c a i v m ad s b r6.out
        have l34 := later_at g6 e34
        have l35 := later_at g6 e35
        have l36 := later_at g6 e36
        have l37 := later_at g6 e37
        have lp6 := RP6.out.lt
        have lq6 := RQ6.out.lt
        have QP : Hid (∀ j u, P[j]? = some u → W6.cell? ⟨gp, 0 + j, none⟩ = some u) := fun j u hu => by rw [Nat.zero_add, RP6.out.cell]; exact hu
        have QQ : Hid (∀ j u, P[j]? = some u → W6.cell? ⟨gq, 0 + j, none⟩ = some u) := fun j u hu => by rw [Nat.zero_add, RQ6.out.cell]; exact hu
        have n2 := later_nonempty W6
        have bzk : (zk != zk) = false := by simp
        clear hW6 s6 b6 e34 e35 e36 e37 r6
        refine wp_region_later (x0 := Later.start W6) (by kernel_rfl) (by kernel_rfl) ?_
        repeat (first | (refine BigFrame.wpQuiet_want (by rfl) fun K hK => ?_; refine quiet_load_agg 26 _ (by rfl) gp 0 (by rfl) P _ lp6 QP.out Tryd.underlying26 (by rfl) (by rw [HSZ.out]; kernel_rfl) (hK _ ?_); clear hK K; simp only [Act.put, List.setIfInBounds_toArray, List.set_cons_succ, List.set_cons_zero]) | (refine BigFrame.wpQuiet_want (by rfl) fun K hK => ?_; refine quiet_load_agg 26 _ (by rfl) gq 0 (by rfl) P _ lq6 QQ.out Tryd.underlying26 (by rfl) (by rw [HSZ.out]; kernel_rfl) (hK _ ?_); clear hK K; simp only [Act.put, List.setIfInBounds_toArray, List.set_cons_succ, List.set_cons_zero]) | (go_big_quiet_step (first | (go_at_call 10; exact calls_later (HK1.out _ (tb_later T6.out _))) | (go_at_call 11; exact calls_later (HK2.out _)))))
        refine wpQuiet_nil ?_
        rintro w' ⟨x9, rfl⟩
        obtain ⟨W7, hW7⟩ : ∃ W7, W7 = x9.1 := ⟨_, rfl⟩
        rw [← hW7]
        have B7 : Hid (Below W6.heap.size W6 W7) := by rw [hW7]; exact x9.below
        have RP7 : Hid (Row W7 gp (pc C' A') 26) := by rw [← HPE.out]; exact RP6.out.later B7.out lp6
        have RQ7 : Hid (Row W7 gq (pc C' A') 26) := by rw [← HPE.out]; exact RQ6.out.later B7.out lq6
        clear hW7 x9 n2
        go_wp2
        go_roundw
        case rel => exact ⟨j + 1, hlt, by go_num, C', A', RP7, RQ7, B6.out.trans (B7.out.mono B6.out.size)⟩
        case measure => simp [intOf]; omega
    · obtain rfl : j = O.length := by omega
      go_wp2
      go_ret
      exact ⟨rfl, (AX.out wr gb.out).2.2.2.2⟩
end Go.Proofs.YtckgjfkodgeagacDoor
namespace Go.Proofs.YtckgjfkodgeagacDoor.pmpRuns
set_option linter.unusedVariables false
open Go.ChangeShapes Go.WideShapes Go.ChangeAt Go.RowKit Go.Deep Go.Lib Go.Shelf
theorem own : ownKnob Tryd.prog.godebug = none := by kernel_rfl
theorem laidOut : laidOutB Tryd.prog = true := by kernel_rfl
set_option maxRecDepth 100000 in
set_option maxHeartbeats 2000000 in
theorem lifted (os : Os) (started : os.Started) (H : Type) (enc : TypeId × Value → H) :
    ReturnsInHanded {} Tryd.checked os 3 .any (fun w args => (Rows.pmpRunsSpec.pre enc Tryd.prog Tryd.f3 [] false w args ∧ laidMetH Tryd.prog Rows.pmpRunsRow.laid w) ∧ sizedMet enc Tryd.prog Tryd.f3 (OpenSpec.ofChange Rows.pmpRunsSpec) false w args)
      (Rows.pmpRunsSpec.post enc Tryd.prog Tryd.f3 false true false false) := by
  refine returnsInHanded_of_change_and (C := Tryd.checked) (X := fun w _ => laidMetH Tryd.prog Rows.pmpRunsRow.laid w) (fun _ _ _ hh h => h.of_heap hh) own started (by kernel_rfl) Tryd.func3
    (ChangeSpec.witness_shaped (enc := enc) (C := Tryd.checked) (os := os) (X := fun w _ => laidMetH Tryd.prog Rows.pmpRunsRow.laid w) false (World.laidAll Tryd.prog os Rows.pmpRunsRow.laid) #[.agg (runc (fun _ => 0#8) (fun _ => 0#64) 0 0#64 0 0#64 0 0 (.slice none 0 0))] 8 (World.laidAll_os _ _ _)
      (World.shaped_of_ZipB (by kernel_rfl) (by kernel_rfl)) (by kernel_rfl) (by kernel_rfl) (by kernel_rfl)
      (by rw [MakeChecks.laidMetH_plain _ _ _ (by kernel_rfl)]; exact laidMet_laidAll _ (by kernel_rfl) (by kernel_rfl))) ?_
  intro W base args ds gs before hval0 hW _ hz0 hL _
  have hval : ∀ (j : Nat) t v, Tryd.f3.params[j]? = some t → args[j]? = some v → Value.okWide Tryd.prog W .any base t v := hval0
  have hW' := hW
  obtain ⟨p, q, hA0, hV, rfl, _, _⟩ := hW
  have hA : DataW.TrodAll enc Tryd.prog W 0 (fun _ => true) true Tryd.f3.params.toList args.toList ds p := hA0
  have hz1 : (DataW.weightsEach Tryd.prog (Tryd.f3.params.toList ++ Rows.pmpRunsSpec.plain.varTypes Tryd.prog) (ds ++ gs)).all (· ≤ reachBytes) = true := hz0
  rw [Tryd.params3] at hA hval hz1
  obtain ⟨v0, d0, rfl, rfl, h0⟩ := trodAll_one hA
  obtain ⟨rfl, rfl⟩ := trodVars_none hV
  have k0 := h0
  have lt0 : ∀ x ∈ p, x.block < W.heap.size := by obtain ⟨m, hm⟩ := k0; exact DataW.trod_lt m _ _ _ hm
  obtain ⟨cs, rfl, _⟩ := okWide_struct Tryd.underlying31 (hval 0 31 v0 rfl rfl)
  obtain ⟨fuel, hf⟩ := h0
  obtain ⟨c, a, i, v, m, ad, s, b, vO, O, hcs, hO, hok, hol⟩ := open_run hf (fun n hn => by
    have := List.all_eq_true.1 hz1 n (DataW.weights_mem_each (j := 0) (t := 31) (d := d0) rfl rfl n hn)
    simpa using this)
  have hcs' : cs = runc c a i v m ad s b vO := by
    cases cs
    simpa [Value.cells] using congrArg List.toArray hcs
  subst hcs'
  rw [MakeChecks.laidMetH_plain _ _ _ (by kernel_rfl)] at hL
  have hT : Tb W := tb_of_reads (Lib.laidMet.reads hL (.head _))
  clear hA0 hval0 hz0
  refine (runs_walk c a i v m ad s b vO O W hT hO hol).mono fun e W' ⟨he, bel⟩ => ?_
  subst he
  exact ⟨_, rfl, _, _, _, [], _, [], hW', trodAll_mk1 (shut_bool Tryd.underlying4 _), trodAll_mk1 (Below.trod laidOut (by kernel_rfl) (of_decide_eq_true (by kernel_rfl)) k0 bel lt0), rfl, bel.frame _, fun h => by cases h⟩
theorem over : Rows.pmpRunsRow.holds Tryd.pinned (OpenSpec.ofChange Rows.pmpRunsSpec) :=
  OpenClaim.holds_of_wide 3 Tryd.f3 rfl rfl rfl rfl rfl rfl rfl ⟨rfl, rfl, rfl, rfl, rfl⟩ rfl rfl rfl rfl rfl (by kernel_rfl) Tryd.func3 (by kernel_rfl)
    (of_decide_eq_true (by kernel_rfl)) (by unfold Func.isWrapper; first | (rw [if_pos (by decide +kernel)]; kernel_rfl) | (rw [if_neg (by decide +kernel)]; exact ⟨rfl, rfl⟩))
    (fun os started H enc _ => lifted os started H enc)
theorem card : Rows.PmpRunsCardSaid :=
  Claim7.holds_tied_plain_at .later [] [.data] true (true, "d43da81f7881f6c8dafbfecf60bb4722ce67fd005adbe738d31c86918e43e903") false over (fun _ h => by cases h) (by kernel_rfl) (fun _ h => by cases h) pmpRuns_row_tie rfl ⟨rfl, rfl⟩ (by kernel_rfl) rfl
    (fun f fn hf hfn => by
      obtain rfl : f = 3 := Option.some.inj ((show Tryd.prog.funcNamed "anvil/anvillaw04.PmpRuns" = some 3 by kernel_rfl).symm.trans hf) |>.symm
      obtain rfl : fn = Tryd.f3 := (Option.some.inj (Tryd.func3.symm.trans hfn)).symm
      exact ⟨by kernel_rfl, fun j t ht => by
        rw [Tryd.params3] at ht
        have hm : t ∈ [31] := by simpa using Array.mem_of_getElem? ht
        have hall : ([31].all fun u => !Tryd.prog.wantsStandIn u) = true := by kernel_rfl
        exact (show Tryd.prog.wantsStandIn t = false by simpa using List.all_eq_true.1 hall t hm)⟩)
    (by kernel_rfl)
end Go.Proofs.YtckgjfkodgeagacDoor.pmpRuns
namespace Go.Proofs.YtckgjfkodgeagacDoor
theorem pmpRuns_holds : Rows.PmpRunsCardSaid := pmpRuns.card
end Go.Proofs.YtckgjfkodgeagacDoor
