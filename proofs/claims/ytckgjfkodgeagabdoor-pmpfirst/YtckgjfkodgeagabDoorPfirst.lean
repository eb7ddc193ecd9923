/-
  PmpFirst.
-/
import Derived.Test.YtckgjfkodgeagabDoorPmb
import Derived.Test.YtckgjfkodgeagabDoorPli
import Derived.Test.YtckgjfkodgeagabDoorPak
import Derived.Test.YtckgjfkodgeagabDoorPcd
import Derived.ShutString
import Derived.ChangeOld
namespace Go.Proofs.YtckgjfkodgeagabDoor
set_option linter.unusedVariables false
open Go.ChangeShapes Go.WideShapes Go.ChangeAt Go.RowKit Go.Deep
theorem wpList_load_aggG {P : Program} {ops : Array Oper} {rest : List Oper} {o : Oper} {a : Act} {w : World} {Q : Exit → Act → World → Prop} (hw : Region.wanted o (yielded ops a.tmps) = true) (ty : TypeId) (x : Operand) (ho : o.op = .load ty x)
    (g off : Nat) (hx : a.eval x = .pointer (some ⟨g, off, none⟩)) (cs : Array Value) (d : TypeDesc) (hc : ∀ j v, cs[j]? = some v → w.cell? ⟨g, off + j, none⟩ = some v)
    (hu : P.underlying ty = some d) (hd : (match d with | .struct _ | .array _ _ => true | _ => false) = true) (hi : (P.info? ty).map (·.size) = some cs.size)
    (h : wpList P ops Q rest (a.put o.dst (.agg cs)) w) : wpList P ops Q (o :: rest) a w :=
  BigFrame.wpList_want hw fun _ hK => by
    unfold Oper.wp execOp
    simp only [ho, hx, Instr.loadAt, Instr.sureAddr, Sem.run_bind, Sem.run_pure, Result.andThen_ok, run_load_agg w ty g off cs d hc hu hd hi]
    exact hK _ _ h
set_option maxRecDepth 100000 in
set_option maxHeartbeats 16000000 in
theorem first_walk (c : Nat → BitVec 8) (a : Nat → BitVec 64) (i : Int) (v : BitVec 64) (m : Int) (ad : BitVec 64) (s b : Int) (w : World) (hT : Tb w) :
    Calls Tryd.prog 4 #[.agg (askc c a i v m ad s b)] w fun e w' => e = .returned (.bool true) ∧ Below w.heap.size w w' := by
  obtain ⟨W0, hW0, r0, b0, s0⟩ := start1 w (askc c a i v m ad s b) 28
  have HS : Hid (W0.heap.size = w.heap.size + 1) := s0
  have HT : Hid (Tb W0) := hT.next b0.out
  clear s0 hT
  have AX : Hid (∀ W, Below W0.heap.size W0 W → (∀ j u, (pc c a)[j]? = some u → W.cell? ⟨w.heap.size, 0 + j, none⟩ = some u) ∧ Tb W ∧ W.cell? ⟨w.heap.size, 33, none⟩ = some (.int .u64 (n64 v)) ∧ W.cell? ⟨w.heap.size, 34, none⟩ = some (.int .i64 m) ∧ W.cell? ⟨w.heap.size, 35, none⟩ = some (.int .u64 (n64 ad)) ∧ W.cell? ⟨w.heap.size, 36, none⟩ = some (.int .i64 s) ∧ W.cell? ⟨w.heap.size, 37, none⟩ = some (.int .i64 b) ∧ W.cell? ⟨w.heap.size, 32, none⟩ = some (.int .i64 i)) := fun W hb => by
    have hh := r0.out.later hb (by rw [HS.out]; omega)
    obtain ⟨x2, x3, x4, x5, x6, x7⟩ := askc_rest c a i v m ad s b hh
    exact ⟨askc_pmp c a i v m ad s b hh, HT.out.next hb, x3, x4, x5, x6, x7, x2⟩
  have B0 : Hid (Below W0.heap.size W0 W0) := Below.refl _ _
  have BW : Hid (∀ W, Below W0.heap.size W0 W → Below w.heap.size w W) := fun W hb => b0.out.trans (hb.mono (by rw [HS.out]; omega))
  have hL : Hid (∀ W : World, Tb W → Calls Tryd.prog 8 #[] W fun e w' => e = .returned (.bool true) ∧ Below W.heap.size W w') := fun W h => live_c W h
  have hP : Hid (∀ W : World, Calls Tryd.prog 9 #[.agg (pc c a)] W fun e w' => e = .returned (.agg (pc (PC c) (PA a))) ∧ Below W.heap.size W w') := fun W => Proper_c c a W
  have hMt : Hid (∀ (W : World), Tb W → Calls Tryd.prog 13 #[.agg (pc (PC c) (PA a)), .int .u64 (n64 ad), .int .i64 s] W fun e w' => e = .returned (.tuple #[.int .i64 (mA (PC c) (PA a) ad s).1, .bool (mA (PC c) (PA a) ad s).2]) ∧ Below W.heap.size W w') := fun W h => by
    have := Match_c (PC c) (PA a) ad s W h
    rw [PC_twice', PA_twice'] at this
    exact this
  have hCk : Hid (∀ (W : World), Tb W → Calls Tryd.prog 14 #[.agg (pc (PC c) (PA a)), .int .i64 m, .int .u64 (n64 ad), .int .i64 s, .int .i64 b] W fun e w' => e = .returned (.bool (ckA (PC c) (PA a) m ad s b)) ∧ Below W.heap.size W w') := fun W h => by
    have := Check_c (PC c) (PA a) m ad s b W h
    rw [PC_twice', PA_twice'] at this
    exact this
  go_enter Tryd.func4, Tryd.ntmps4
  go_upto_region 1 with fail
  clear hW0
  go_upto_region 4 with (first | (refine wpList_load_aggG (by rfl) _ _ (by rfl) w.heap.size 0 (by rfl) (pc c a) _ L_w1.out Tryd.underlying26 (by rfl) (by rw [pc_size]; kernel_rfl) ?_) | (go_at_call 8; refine (hL.out _ HT.out).mono ?_; rintro e w1 ⟨rfl, hb⟩; have B_w1 : Hid (Below W0.heap.size W0 w1) := B0.out.trans (hb.mono B0.out.size); have L_w1 : Hid (∀ j u, (pc c a)[j]? = some u → w1.cell? ⟨w.heap.size, 0 + j, none⟩ = some u) := (AX.out w1 B_w1.out).1; obtain ⟨_, _, k33_w1, k34_w1, k35_w1, k36_w1, k37_w1, k32_w1⟩ := AX.out w1 B_w1.out; clear hb) | (go_at_call 9; refine (hP.out _).mono ?_; rintro e w2 ⟨rfl, hb⟩; have B_w2 : Hid (Below W0.heap.size W0 w2) := B_w1.out.trans (hb.mono B_w1.out.size); clear hb) | (refine wpList_store_new (by rfl) _ _ _ (by rfl) (by rfl) _ _ (by rfl) (by rfl) (by rw [pc_size]; kernel_rfl) (by rw [pc_size]; rfl) (pc_ones _ _) ?_))
  obtain ⟨W3, hW3, r3, b3, s3⟩ := start1 w2 (pc (PC c) (PA a)) 26
  rw [hW3]
  have hA3 : ∀ W, Below W3.heap.size W3 W → Row W w2.heap.size (pc (PC c) (PA a)) 26 ∧ Tb W ∧ W.cell? ⟨w.heap.size, 33, none⟩ = some (.int .u64 (n64 v)) ∧ W.cell? ⟨w.heap.size, 34, none⟩ = some (.int .i64 m) ∧ W.cell? ⟨w.heap.size, 35, none⟩ = some (.int .u64 (n64 ad)) ∧ W.cell? ⟨w.heap.size, 36, none⟩ = some (.int .i64 s) ∧ W.cell? ⟨w.heap.size, 37, none⟩ = some (.int .i64 b) ∧ W.cell? ⟨w.heap.size, 32, none⟩ = some (.int .i64 i) := fun W hb => by
    have hW : Below W0.heap.size W0 W := B_w2.out.trans ((b3.out.trans (hb.mono (by rw [s3]; omega))).mono B_w2.out.size)
    obtain ⟨_, x1, x2, x3, x4, x5, x6, x7⟩ := AX.out W hW
    exact ⟨r3.out.later hb (by rw [s3]; omega), x1, x2, x3, x4, x5, x6, x7⟩
  have hBW : ∀ W, Below W3.heap.size W3 W → Below w.heap.size w W := fun W hb => BW.out W (B_w2.out.trans ((b3.out.trans (hb.mono (by rw [s3]; omega))).mono B_w2.out.size))
  have hge : w.heap.size < w2.heap.size ∧ W3.heap.size = w2.heap.size + 1 := ⟨by have := B_w2.out.size; rw [HS.out] at this; omega, s3⟩
  clear k32_w1 k33_w1 k34_w1 k35_w1 k36_w1 k37_w1
  clear hW3 b3 s3 AX BW L_w1 B_w1 B_w2 B0 HT r0 b0 HS
  generalize w2.heap.size = gp at *
  have A3 : Hid (∀ W, Below W3.heap.size W3 W → Row W gp (pc (PC c) (PA a)) 26 ∧ Tb W ∧ W.cell? ⟨w.heap.size, 33, none⟩ = some (.int .u64 (n64 v)) ∧ W.cell? ⟨w.heap.size, 34, none⟩ = some (.int .i64 m) ∧ W.cell? ⟨w.heap.size, 35, none⟩ = some (.int .u64 (n64 ad)) ∧ W.cell? ⟨w.heap.size, 36, none⟩ = some (.int .i64 s) ∧ W.cell? ⟨w.heap.size, 37, none⟩ = some (.int .i64 b) ∧ W.cell? ⟨w.heap.size, 32, none⟩ = some (.int .i64 i)) := hA3
  have BW3 : Hid (∀ W, Below W3.heap.size W3 W → Below w.heap.size w W) := hBW
  have HGE : Hid (w.heap.size < gp ∧ W3.heap.size = gp + 1) := hge
  have B3 : Hid (Below W3.heap.size W3 W3) := Below.refl _ _
  have P_W3 : Hid (Row W3 gp (pc (PC c) (PA a)) 26) := (A3.out W3 B3.out).1
  obtain ⟨_, _, k33_W3, k34_W3, k35_W3, k36_W3, k37_W3, k32_W3⟩ := A3.out W3 B3.out
  clear hA3 hBW hge r3
  rcases mA_cases (PC c) (PA a) ad s with hm | ⟨n, k, q, rfl, hn1, hn8, hk, hm⟩
  · rw [hm] at hMt
    have HNC : Hid (ckA (PC c) (PA a) m ad s b = true → m = 3) := fun h => none_ck hm h
    generalize ckA (PC c) (PA a) m ad s b = ok at hCk HNC
    clear hm
    cases ok with
    | false =>
      go_wp2_with (first | (refine wpList_load_rowG (by rfl) _ _ (by rfl) _ (by rfl) 26 _ (0, 0) _ P_W3.out Tryd.underlying26 (by rfl) (by rw [pc_size]; kernel_rfl) ?_) | (refine wpList_load_rowG (by rfl) _ _ (by rfl) _ (by rfl) 26 _ (0, 0) _ P_w4.out Tryd.underlying26 (by rfl) (by rw [pc_size]; kernel_rfl) ?_) | (go_at_call 13; refine (hMt.out _ (A3.out _ B3.out).2.1).mono ?_; rintro e w4 ⟨rfl, hb⟩; have B_w4 : Hid (Below W3.heap.size W3 w4) := B3.out.trans (hb.mono B3.out.size); have P_w4 : Hid (Row w4 gp (pc (PC c) (PA a)) 26) := (A3.out w4 B_w4.out).1; obtain ⟨_, _, k33_w4, k34_w4, k35_w4, k36_w4, k37_w4, k32_w4⟩ := A3.out w4 B_w4.out; clear hb) | (go_at_call 14; refine (hCk.out _ (A3.out _ B_w4.out).2.1).mono ?_; rintro e w5 ⟨rfl, hb⟩; have B_w5 : Hid (Below W3.heap.size W3 w5) := B_w4.out.trans (hb.mono B_w4.out.size); have P_w5 : Hid (Row w5 gp (pc (PC c) (PA a)) 26) := (A3.out w5 B_w5.out).1; obtain ⟨_, _, k33_w5, k34_w5, k35_w5, k36_w5, k37_w5, k32_w5⟩ := A3.out w5 B_w5.out; clear hb))
      go_ret
      exact ⟨rfl, BW3.out _ B_w5.out⟩
    | true =>
      have e9 := HNC.out rfl
      subst e9
      go_wp2_with (first | (refine wpList_load_rowG (by rfl) _ _ (by rfl) _ (by rfl) 26 _ (0, 0) _ P_W3.out Tryd.underlying26 (by rfl) (by rw [pc_size]; kernel_rfl) ?_) | (refine wpList_load_rowG (by rfl) _ _ (by rfl) _ (by rfl) 26 _ (0, 0) _ P_w4.out Tryd.underlying26 (by rfl) (by rw [pc_size]; kernel_rfl) ?_) | (go_at_call 13; refine (hMt.out _ (A3.out _ B3.out).2.1).mono ?_; rintro e w4 ⟨rfl, hb⟩; have B_w4 : Hid (Below W3.heap.size W3 w4) := B3.out.trans (hb.mono B3.out.size); have P_w4 : Hid (Row w4 gp (pc (PC c) (PA a)) 26) := (A3.out w4 B_w4.out).1; obtain ⟨_, _, k33_w4, k34_w4, k35_w4, k36_w4, k37_w4, k32_w4⟩ := A3.out w4 B_w4.out; clear hb) | (go_at_call 14; refine (hCk.out _ (A3.out _ B_w4.out).2.1).mono ?_; rintro e w5 ⟨rfl, hb⟩; have B_w5 : Hid (Below W3.heap.size W3 w5) := B_w4.out.trans (hb.mono B_w4.out.size); have P_w5 : Hid (Row w5 gp (pc (PC c) (PA a)) 26) := (A3.out w5 B_w5.out).1; obtain ⟨_, _, k33_w5, k34_w5, k35_w5, k36_w5, k37_w5, k32_w5⟩ := A3.out w5 B_w5.out; clear hb))
      go_ret
      exact ⟨rfl, BW3.out _ B_w5.out⟩
  · rw [mA_in _ _ _ _ hn1 hn8, hm] at hMt
    have HMT : Hid (MT (hn (PC c) (PA a) ad n) n = ((k : Int), q)) := hm
    have HQC : Hid (q = false → ckA (PC c) (PA a) m ad n b = false) := fun e => by subst e; exact part_ck HMT.out
    have hM2 : Hid (∀ (W : World), Tb W → Calls Tryd.prog 13 #[.agg (pc (cuC (PC c) k 16) (cuA (PA a) k 16 v)), .int .u64 (n64 ad), .int .i64 n] W fun e w' => e = .returned (.tuple #[.int .i64 k, .bool q]) ∧ Below W.heap.size W w') := fun W h => by
      have := Match_c (cuC (PC c) k 16) (cuA (PA a) k 16 v) ad n W h
      rw [mA_in _ _ _ _ hn1 hn8, MT_cu 16 v HMT.out] at this
      exact this
    have hC2 : Hid (∀ (W : World), Tb W → Calls Tryd.prog 14 #[.agg (pc (cuC (PC c) k 16) (cuA (PA a) k 16 v)), .int .i64 m, .int .u64 (n64 ad), .int .i64 n, .int .i64 b] W fun e w' => e = .returned (.bool (ckA (PC c) (PA a) m ad n b)) ∧ Below W.heap.size W w') := fun W h => by
      have := Check_c (cuC (PC c) k 16) (cuA (PA a) k 16 v) m ad n b W h
      rw [ckA_cu 16 v m b HMT.out] at this
      exact this
    generalize ckA (PC c) (PA a) m ad n b = ok at hCk hC2 HQC
    have hk2 : (k : Int) < 16 := by omega
    have hk0 : decide ((k : Int) < 0) = false := decide_eq_false (by omega)
    have hk15 : decide ((15 : Int) < k) = false := decide_eq_false (by omega)
    have HK : Hid (k < 16) := hk
    have HN : Hid (1 ≤ n ∧ n ≤ 8) := ⟨hn1, hn8⟩
    clear hm hk hn1 hn8
    go_upto_region 9 with (first | (refine wpList_load_rowG (by rfl) _ _ (by rfl) _ (by rfl) 26 _ (0, 0) _ P_W3.out Tryd.underlying26 (by rfl) (by rw [pc_size]; kernel_rfl) ?_) | (refine wpList_load_rowG (by rfl) _ _ (by rfl) _ (by rfl) 26 _ (0, 0) _ P_w4.out Tryd.underlying26 (by rfl) (by rw [pc_size]; kernel_rfl) ?_) | (refine wpList_load_rowG (by rfl) _ _ (by rfl) _ (by rfl) 26 _ (0, 0) _ P_w5.out Tryd.underlying26 (by rfl) (by rw [pc_size]; kernel_rfl) ?_) | (go_at_call 13; refine (hMt.out _ (A3.out _ B3.out).2.1).mono ?_; rintro e w4 ⟨rfl, hb⟩; have B_w4 : Hid (Below W3.heap.size W3 w4) := B3.out.trans (hb.mono B3.out.size); have P_w4 : Hid (Row w4 gp (pc (PC c) (PA a)) 26) := (A3.out w4 B_w4.out).1; obtain ⟨_, _, k33_w4, k34_w4, k35_w4, k36_w4, k37_w4, k32_w4⟩ := A3.out w4 B_w4.out; clear hb) | (go_at_call 14; refine (hCk.out _ (A3.out _ B_w4.out).2.1).mono ?_; rintro e w5 ⟨rfl, hb⟩; have B_w5 : Hid (Below W3.heap.size W3 w5) := B_w4.out.trans (hb.mono B_w4.out.size); have P_w5 : Hid (Row w5 gp (pc (PC c) (PA a)) 26) := (A3.out w5 B_w5.out).1; obtain ⟨_, _, k33_w5, k34_w5, k35_w5, k36_w5, k37_w5, k32_w5⟩ := A3.out w5 B_w5.out; clear hb) | (refine wpList_store_new (by rfl) _ _ _ (by rfl) (by rfl) _ _ (by rfl) (by rfl) (by rw [pc_size]; kernel_rfl) (by rw [pc_size]; rfl) (pc_ones _ _) ?_))
    obtain ⟨W6, hW6, r6, b6, s6⟩ := start1 w5 (pc (PC c) (PA a)) 26
    rw [hW6]
    have B6 : Hid (Below W3.heap.size W3 W6) := B_w5.out.trans (b6.out.mono B_w5.out.size)
    have HG6 : Hid (W3.heap.size ≤ w5.heap.size) := B_w5.out.size
    clear k32_w4 k33_w4 k34_w4 k35_w4 k36_w4 k37_w4 k32_w5 k33_w5 k34_w5 k35_w5 k36_w5 k37_w5 k32_W3 k33_W3 k34_W3 k35_W3 k36_W3 k37_W3
    clear hW6 b6 s6 B_w5 P_w5 B_w4 P_w4 P_W3
    generalize w5.heap.size = gq at *
    go_wp2
    have HQ0 : Hid (Row W6 gq (pc (cuC (PC c) k (k + 1)) (cuA (PA a) k (k + 1) v)) 26) := by rw [cuC_start, cuA_start]; exact r6
    go_loopw [8] (fun x wr => ∃ t : Nat, k + 1 ≤ t ∧ t ≤ 16 ∧ x = .int .i64 t ∧ Hid (Row wr gq (pc (cuC (PC c) k t) (cuA (PA a) k t v)) 26) ∧ Hid (Below W3.heap.size W3 wr)) (fun x _ => 16 - (intOf x).toNat)
    case atStart => exact ⟨k + 1, Nat.le_refl _, HK.out, by go_num, HQ0, B6⟩
    case round =>
      clear HQ0 B6 r6
      obtain ⟨t, ht1, ht2, rfl, g0, gb⟩ := hrel
      obtain ⟨_, _, k33, k34, k35, k36, k37, k32⟩ := A3.out wr gb.out
      by_cases hlt : t < 16
      · have hlt2 : (t : Int) < 16 := by omega
        have d0 : ∃ u, wr.cell? ⟨gq, t, none⟩ = some u := ⟨_, by rw [g0.out.cell, pc_at _ _ _ (by omega)]⟩
        have d1 : ∃ u, wr.cell? ⟨gq, 16 + t, none⟩ = some u := ⟨_, by rw [g0.out.cell, pc_at _ _ _ (by omega)]⟩
        obtain ⟨u0, d0⟩ := d0
        obtain ⟨u1, d1⟩ := d1
        have f0 := g0.out.froz t
        have f1 := g0.out.froz (16 + t)
        have ne1 : ¬ 16 + t = t := by omega
        have ne2 : ¬ t = 16 + t := by omega
        have hgw : ¬ w.heap.size = gq := by have := HG6.out; have := HGE.out; omega
        have hgw2 : ¬ gq = w.heap.size := by have := HG6.out; have := HGE.out; omega
        go_wp2
        go_roundw
        case rel =>
          refine ⟨t + 1, by omega, by omega, by go_num, ?_, below_put (below_put gb.out HG6.out _) HG6.out _⟩
          have h := Row.put (i := 16 + t) (Row.put (i := t) g0.out (.int .u8 (n8 0#8))) (.int .u64 (n64 v))
          rw [pc_cfg _ _ _ _ hlt, pc_addr _ _ _ _ hlt, cuC_succ _ _ _ (by omega), cuA_succ _ _ _ _ (by omega)] at h
          exact h
        case measure => simp [intOf]; omega
      · obtain rfl : t = 16 := by omega
        have e16 : ((16 : Nat) : Int) = 16 := rfl
        rw [e16]
        clear ht1 ht2 hlt e16
        have glt := g0.out.lt
        have bne1 : ((k : Int) != (k : Int)) = false := by simp
        have bne2 : (q != q) = false := by simp
        have bne3 : (ok != ok) = false := by simp
        go_wp2_with (first | (refine wpList_load_rowG (by rfl) _ _ (by rfl) _ (by rfl) 26 _ (0, 0) _ g0.out Tryd.underlying26 (by rfl) (by rw [pc_size]; kernel_rfl) ?_) | (refine wpList_load_rowG (by rfl) _ _ (by rfl) _ (by rfl) 26 _ (0, 0) _ Q_w7.out Tryd.underlying26 (by rfl) (by rw [pc_size]; kernel_rfl) ?_) | (go_at_call 13; refine (hM2.out _ (A3.out _ gb.out).2.1).mono ?_; rintro e w7 ⟨rfl, hb⟩; have B_w7 : Hid (Below W3.heap.size W3 w7) := gb.out.trans (hb.mono gb.out.size); have P_w7 : Hid (Row w7 gp (pc (PC c) (PA a)) 26) := (A3.out w7 B_w7.out).1; obtain ⟨_, _, k33_w7, k34_w7, k35_w7, k36_w7, k37_w7, k32_w7⟩ := A3.out w7 B_w7.out; have Q_w7 : Hid (Row w7 gq (pc (cuC (PC c) k 16) (cuA (PA a) k 16 v)) 26) := g0.out.later hb glt; clear hb) | (go_at_call 14; refine (hC2.out _ (A3.out _ B_w7.out).2.1).mono ?_; rintro e w8 ⟨rfl, hb⟩; have B_w8 : Hid (Below W3.heap.size W3 w8) := B_w7.out.trans (hb.mono B_w7.out.size); have P_w8 : Hid (Row w8 gp (pc (PC c) (PA a)) 26) := (A3.out w8 B_w8.out).1; obtain ⟨_, _, k33_w8, k34_w8, k35_w8, k36_w8, k37_w8, k32_w8⟩ := A3.out w8 B_w8.out; clear hb))
        go_loopw [11] (fun x wr => ∃ t : Nat, t ≤ k ∧ x = .int .i64 t ∧ Hid (Below W3.heap.size W3 wr)) (fun x _ => k - (intOf x).toNat)
        case atStart => exact ⟨0, by omega, rfl, B_w8⟩
        case round =>
          clear k32_w7 k33_w7 k34_w7 k35_w7 k36_w7 k37_w7 k32_w8 k33_w8 k34_w8 k35_w8 k36_w8 k37_w8
          clear k32 k33 k34 k35 k36 k37
          obtain ⟨t, ht, rfl, gt⟩ := hrel
          by_cases hlt : t < k
          · have hlt2 : (t : Int) < k := by omega
            have hk16 := HK.out
            have HSp : Hid (∀ W, Tb W → Calls Tryd.prog 15 #[.agg (pc (PC c) (PA a)), .int .i64 t] W fun e w' => e = .returned (.tuple #[.int .u64 (n64 (sF (spn (PC c) (PA a) t))), .int .u64 (n64 (sL (spn (PC c) (PA a) t))), .bool (spn (PC c) (PA a) t).isSome]) ∧ Below W.heap.size W w') := fun W h => by
              have := Span_c (PC c) (PA a) t W h
              rw [PC_twice', PA_twice', spI_in _ _ _ (by omega)] at this
              exact this
            have HZ : Hid (∀ j, j < n → hdB (PC c) (PA a) t (ad + BitVec.ofNat 64 j) = false) := fun j hj => hn_none ((MT_some HMT.out).2.1 t hlt) j hj
            have HD : Hid (∀ x, hdB (PC c) (PA a) t x = match spn (PC c) (PA a) t with | none => false | some (f, l) => inR f l x) := fun x => rfl
            go_wp2
            go_loopw [12] (fun y wq => ∃ j : Nat, j ≤ n ∧ y = .int .i64 j ∧ Hid (Below W3.heap.size W3 wq)) (fun y _ => n - (intOf y).toNat)
            case atStart => exact ⟨0, by omega, rfl, gt⟩
            case round =>
              obtain ⟨j, hj, rfl, gj⟩ := hrel
              obtain ⟨_, _, k33, k34, k35, k36, k37, k32⟩ := A3.out wr gj.out
              have PJ : Hid (Row wr gp (pc (PC c) (PA a)) 26) := (A3.out wr gj.out).1
              have TJ : Hid (Tb wr) := (A3.out wr gj.out).2.1
              by_cases hjl : j < n
              · have hn8 := HN.out.2
                have hj2 : (j : Int) < n := by omega
                have hj8 : (j : Int) < 8 := by omega
                have HA := ad_add ad j (by omega)
                have hz := HZ.out j hjl
                rw [HD.out] at hz
                generalize ad + BitVec.ofNat 64 j = x at HA hz
                cases hX : spn (PC c) (PA a) t with
                | none =>
                  rw [hX] at HSp
                  have HS2 : Hid (∀ W, Tb W → Calls Tryd.prog 15 #[.agg (pc (PC c) (PA a)), .int .i64 t] W fun e w' => e = .returned (.tuple #[.int .u64 0, .int .u64 0, .bool false]) ∧ Below W.heap.size W w') := HSp
                  clear hz hX HSp
                  go_wp2_with (first | (refine wpList_load_rowG (by rfl) _ _ (by rfl) _ (by rfl) 26 _ (0, 0) _ PJ.out Tryd.underlying26 (by rfl) (by rw [pc_size]; kernel_rfl) ?_) | (go_at_call 15; refine (HS2.out _ TJ.out).mono ?_; rintro e w9 ⟨rfl, hb⟩; have B_w9 : Hid (Below W3.heap.size W3 w9) := gj.out.trans (hb.mono gj.out.size); have P_w9 : Hid (Row w9 gp (pc (PC c) (PA a)) 26) := (A3.out w9 B_w9.out).1; obtain ⟨_, _, k33_w9, k34_w9, k35_w9, k36_w9, k37_w9, k32_w9⟩ := A3.out w9 B_w9.out; clear hb))
                  go_roundw
                  case rel => exact ⟨j + 1, by omega, by go_num, B_w9⟩
                  case measure => simp [intOf]; omega
                | some fl =>
                  obtain ⟨f, l⟩ := fl
                  rw [hX] at HSp hz
                  have HS2 : Hid (∀ W, Tb W → Calls Tryd.prog 15 #[.agg (pc (PC c) (PA a)), .int .i64 t] W fun e w' => e = .returned (.tuple #[.int .u64 (n64 f), .int .u64 (n64 l), .bool true]) ∧ Below W.heap.size W w') := HSp
                  have hz2 : (decide (n64 f ≤ n64 x) && decide (n64 x ≤ n64 l)) = false := hz
                  clear hX HSp hz
                  by_cases h1 : n64 f ≤ n64 x
                  · have h2 : ¬ n64 x ≤ n64 l := by
                      intro h2
                      rw [decide_eq_true h1, decide_eq_true h2] at hz2
                      cases hz2
                    clear hz2
                    go_wp2_with (first | (refine wpList_load_rowG (by rfl) _ _ (by rfl) _ (by rfl) 26 _ (0, 0) _ PJ.out Tryd.underlying26 (by rfl) (by rw [pc_size]; kernel_rfl) ?_) | (go_at_call 15; refine (HS2.out _ TJ.out).mono ?_; rintro e w9 ⟨rfl, hb⟩; have B_w9 : Hid (Below W3.heap.size W3 w9) := gj.out.trans (hb.mono gj.out.size); have P_w9 : Hid (Row w9 gp (pc (PC c) (PA a)) 26) := (A3.out w9 B_w9.out).1; obtain ⟨_, _, k33_w9, k34_w9, k35_w9, k36_w9, k37_w9, k32_w9⟩ := A3.out w9 B_w9.out; clear hb))
                    go_roundw
                    case rel => exact ⟨j + 1, by omega, by go_num, B_w9⟩
                    case measure => simp [intOf]; omega
                  · clear hz2
                    go_wp2_with (first | (refine wpList_load_rowG (by rfl) _ _ (by rfl) _ (by rfl) 26 _ (0, 0) _ PJ.out Tryd.underlying26 (by rfl) (by rw [pc_size]; kernel_rfl) ?_) | (go_at_call 15; refine (HS2.out _ TJ.out).mono ?_; rintro e w9 ⟨rfl, hb⟩; have B_w9 : Hid (Below W3.heap.size W3 w9) := gj.out.trans (hb.mono gj.out.size); have P_w9 : Hid (Row w9 gp (pc (PC c) (PA a)) 26) := (A3.out w9 B_w9.out).1; obtain ⟨_, _, k33_w9, k34_w9, k35_w9, k36_w9, k37_w9, k32_w9⟩ := A3.out w9 B_w9.out; clear hb))
                    go_roundw
                    case rel => exact ⟨j + 1, by omega, by go_num, B_w9⟩
                    case measure => simp [intOf]; omega
              · obtain rfl : j = n := by omega
                go_wp2
                go_roundw
                case rel => exact ⟨t + 1, by omega, by go_num, gj⟩
                case measure => simp [intOf]; omega
          · obtain rfl : t = k := by omega
            cases q with
            | true =>
              go_wp2
              go_ret
              exact ⟨rfl, BW3.out _ gt.out⟩
            | false =>
              have e9 := HQC.out rfl
              subst e9
              go_wp2
              go_ret
              exact ⟨rfl, BW3.out _ gt.out⟩
end Go.Proofs.YtckgjfkodgeagabDoor
namespace Go.Proofs.YtckgjfkodgeagabDoor.pmpFirst
set_option linter.unusedVariables false
open Go.ChangeShapes Go.WideShapes Go.ChangeAt Go.RowKit Go.Deep Go.Lib Go.Shelf
theorem own : ownKnob Tryd.prog.godebug = none := by kernel_rfl
theorem laidOut : laidOutB Tryd.prog = true := by kernel_rfl
set_option maxRecDepth 100000 in
set_option maxHeartbeats 2000000 in
theorem lifted (os : Os) (started : os.Started) (H : Type) (enc : TypeId × Value → H) :
    ReturnsInHanded {} Tryd.checked os 4 .any (fun w args => (Rows.pmpFirstSpec.pre enc Tryd.prog Tryd.f4 [] false w args ∧ laidMetH Tryd.prog Rows.pmpFirstRow.laid w) ∧ sizedMet enc Tryd.prog Tryd.f4 (OpenSpec.ofChange Rows.pmpFirstSpec) false w args)
      (Rows.pmpFirstSpec.post enc Tryd.prog Tryd.f4 false true false false) := by
  refine returnsInHanded_of_change_and (C := Tryd.checked) (X := fun w _ => laidMetH Tryd.prog Rows.pmpFirstRow.laid w) (fun _ _ _ hh h => h.of_heap hh) own started (by kernel_rfl) Tryd.func4
    (ChangeSpec.witness_shaped (enc := enc) (C := Tryd.checked) (os := os) (X := fun w _ => laidMetH Tryd.prog Rows.pmpFirstRow.laid w) false (World.laidAll Tryd.prog os Rows.pmpFirstRow.laid) #[.agg (askc (fun _ => 0#8) (fun _ => 0#64) 0 0#64 0 0#64 0 0)] 8 (World.laidAll_os _ _ _)
      (World.shaped_of_ZipB (by kernel_rfl) (by kernel_rfl)) (by kernel_rfl) (by kernel_rfl) (by kernel_rfl)
      (by rw [MakeChecks.laidMetH_plain _ _ _ (by kernel_rfl)]; exact laidMet_laidAll _ (by kernel_rfl) (by kernel_rfl))) ?_
  intro W base args ds gs before hval0 hW _ hz0 hL _
  have hval : ∀ (j : Nat) t v, Tryd.f4.params[j]? = some t → args[j]? = some v → Value.okWide Tryd.prog W .any base t v := hval0
  have hW' := hW
  obtain ⟨p, q, hA0, hV, rfl, _, _⟩ := hW
  have hA : DataW.TrodAll enc Tryd.prog W 0 (fun _ => true) true Tryd.f4.params.toList args.toList ds p := hA0
  rw [Tryd.params4] at hA hval
  obtain ⟨v0, d0, rfl, rfl, h0⟩ := trodAll_one hA
  obtain ⟨rfl, rfl⟩ := trodVars_none hV
  have k0 := h0
  have lt0 : ∀ x ∈ p, x.block < W.heap.size := by obtain ⟨m, hm⟩ := k0; exact DataW.trod_lt m _ _ _ hm
  obtain ⟨cs, rfl, _⟩ := okWide_struct Tryd.underlying28 (hval 0 28 v0 rfl rfl)
  obtain ⟨fuel, hf⟩ := h0
  obtain ⟨c, a, i, v, m, ad, s, b, hcs, bi, bm, bs, bb⟩ := open_ask Tryd.underlying28 (by kernel_rfl) ⟨rfl, rfl⟩ ⟨rfl, rfl⟩ ⟨rfl, rfl⟩ ⟨rfl, rfl⟩ ⟨rfl, rfl⟩ ⟨rfl, rfl⟩ ⟨rfl, rfl⟩ hf
  have hcs' : cs = askc c a i v m ad s b := by
    cases cs
    simpa [Value.cells] using congrArg List.toArray hcs
  subst hcs'
  rw [MakeChecks.laidMetH_plain _ _ _ (by kernel_rfl)] at hL
  have hT : Tb W := tb_of_reads (Lib.laidMet.reads hL (.head _))
  clear hA0 hval0 hz0
  refine (first_walk c a i v m ad s b W hT).mono fun e W' ⟨he, bel⟩ => ?_
  subst he
  exact ⟨_, rfl, _, _, _, [], _, [], hW', trodAll_mk1 (shut_bool Tryd.underlying4 _), trodAll_mk1 (Below.trod laidOut (by kernel_rfl) (of_decide_eq_true (by kernel_rfl)) k0 bel lt0), rfl, bel.frame _, fun h => by cases h⟩
theorem over : Rows.pmpFirstRow.holds Tryd.pinned (OpenSpec.ofChange Rows.pmpFirstSpec) :=
  OpenClaim.holds_of_wide 4 Tryd.f4 rfl rfl rfl rfl rfl rfl rfl ⟨rfl, rfl, rfl, rfl, rfl⟩ rfl rfl rfl rfl rfl (by kernel_rfl) Tryd.func4 (by kernel_rfl)
    (of_decide_eq_true (by kernel_rfl)) (by unfold Func.isWrapper; first | (rw [if_pos (by decide +kernel)]; kernel_rfl) | (rw [if_neg (by decide +kernel)]; exact ⟨rfl, rfl⟩))
    (fun os started H enc _ => lifted os started H enc)
theorem card : Rows.PmpFirstCardSaid :=
  Claim7.holds_tied_plain_at .later [] [.data] true (true, "1c4384b49c5e3182a4a4b6f33867ae6d37786a646ecd3ed390c16602ca81cfd3") false over (fun _ h => by cases h) (by kernel_rfl) (fun _ h => by cases h) pmpFirst_row_tie rfl ⟨rfl, rfl⟩ (by kernel_rfl) rfl
    (fun f fn hf hfn => by
      obtain rfl : f = 4 := Option.some.inj ((show Tryd.prog.funcNamed "anvil/anvillaw04.PmpFirst" = some 4 by kernel_rfl).symm.trans hf) |>.symm
      obtain rfl : fn = Tryd.f4 := (Option.some.inj (Tryd.func4.symm.trans hfn)).symm
      exact ⟨by kernel_rfl, fun j t ht => by
        rw [Tryd.params4] at ht
        have hm : t ∈ [28] := by simpa using Array.mem_of_getElem? ht
        have hall : ([28].all fun u => !Tryd.prog.wantsStandIn u) = true := by kernel_rfl
        exact (show Tryd.prog.wantsStandIn t = false by simpa using List.all_eq_true.1 hall t hm)⟩)
    (by kernel_rfl)
end Go.Proofs.YtckgjfkodgeagabDoor.pmpFirst
namespace Go.Proofs.YtckgjfkodgeagabDoor
theorem pmpFirst_holds : Rows.PmpFirstCardSaid := pmpFirst.card
end Go.Proofs.YtckgjfkodgeagabDoor
