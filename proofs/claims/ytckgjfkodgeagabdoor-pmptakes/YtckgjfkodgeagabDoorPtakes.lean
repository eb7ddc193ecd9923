/-
  PmpTakes.
-/
import Derived.Test.YtckgjfkodgeagabDoorPma
import Derived.Test.YtckgjfkodgeagabDoorPli
import Derived.Test.YtckgjfkodgeagabDoorPak
import Derived.Test.YtckgjfkodgeagabDoorPcd
import Derived.ShutString
import Derived.ChangeOld
namespace Go.Proofs.YtckgjfkodgeagabDoor
set_option linter.unusedVariables false
open Go.ChangeShapes Go.WideShapes Go.ChangeAt Go.RowKit Go.Deep
theorem wpList_load_aggG {P : Program} {ops : Array Oper} {rest : List Oper} {o : Oper} {a : Act} {w : World} {Q : Exit → Act → World → Prop} (hw : Region.wanted o (yielded ops a.tmps) = true) (ty : TypeId) (x : Operand) (ho : o.op = .load ty x)
    (g off : Nat) (hx : a.eval x = .pointer (some ⟨g, off, none⟩)) (cs : Array Value) (d : TypeDesc) (hc : ∀ j v, cs[j]? = some v → w.cell? ⟨g, off + j, none⟩ = some v)
    (hu : P.underlying ty = some d) (hd : (match d with | .struct _ | .array _ _ => true | _ => false) = true) (hi : (P.info? ty).map (·.size) = some cs.size)
    (h : wpList P ops Q rest (a.put o.dst (.agg cs)) w) : wpList P ops Q (o :: rest) a w :=
  BigFrame.wpList_want hw fun _ hK => by
    unfold Oper.wp execOp
    simp only [ho, hx, Instr.loadAt, Instr.sureAddr, Sem.run_bind, Sem.run_pure, Result.andThen_ok, run_load_agg w ty g off cs d hc hu hd hi]
    exact hK _ _ h
/-- Sixteen Addrs. -/
def ad16 (a : Nat → BitVec 64) : Array Value := Array.ofFn (n := 16) fun j => .int .u64 (n64 (a j.val))
theorem ad16_size (a : Nat → BitVec 64) : (ad16 a).size = 16 := by simp [ad16]
theorem ad16_get (a : Nat → BitVec 64) (j : Nat) (h : j < 16) : (ad16 a)[j]? = some (.int .u64 (n64 (a j))) := by simp [ad16, h]
theorem ad16_at {c : Nat → BitVec 8} {a : Nat → BitVec 64} {w : World} {g : Nat} {T : TypeId} (h : Row w g (pc c a) T) : ∀ j u, (ad16 a)[j]? = some u → w.cell? ⟨g, 16 + j, none⟩ = some u := fun j u hu => by
  have hj : j < 16 := by
    by_cases hj : j < 16
    · exact hj
    · rw [Array.getElem?_eq_none (by rw [ad16_size]; omega)] at hu; cases hu
  rw [prow_addr h j hj, ← ad16_get a j hj]; exact hu
theorem eq_ad16 (w : World) (a : Nat → BitVec 64) : (Op.equalIn 10000 24 (.agg (ad16 a)) (.agg (ad16 a))).run Tryd.prog w = .ok true w := eq_addrs w 9998 _ (fun i hi => ⟨_, ad16_get a i hi⟩)
theorem pcl_even157 (x : BitVec 8) (h : x &&& 1#8 = 0#8) : pcl x = x &&& 159#8 &&& 157#8 := by
  unfold pcl; rw [if_pos h, BitVec.and_assoc]; rfl
theorem pad_shift (v : BitVec 64) : IntKind.u64.wrap (n64 v * 1024) / (1024 : Int) = n64 (pad v) := by
  have h1 : IntKind.u64.wrap (n64 v * 1024) = n64 (v <<< 10) := n64_shl v 10
  rw [h1]
  have h2 : n64 (v <<< 10) / (1024 : Int) = n64 ((v <<< 10) >>> 10) := n64_shr (v <<< 10) 10
  rw [h2]
  congr 1
  unfold pad
  apply BitVec.eq_of_getLsbD_eq
  intro i hi
  rw [BitVec.getLsbD_ushiftRight, BitVec.getLsbD_shiftLeft, BitVec.getLsbD_and]
  have hm : (18014398509481983#64 : BitVec 64).getLsbD i = decide (i < 54) := by
    have : ∀ i, i < 64 → (18014398509481983#64 : BitVec 64).getLsbD i = decide (i < 54) := by decide +kernel
    exact this i hi
  rw [hm]
  by_cases h : i < 54
  · simp [h, show 10 + i < 64 by omega]
  · simp [h, show ¬ 10 + i < 64 by omega]
theorem byte159 (v : BitVec 64) (j : Nat) : IntKind.u8.wrap (bits .and .u64 (n64 v / 2 ^ (8 * j)) 159) = n8 (bty v j &&& 159#8) := by
  have e : bits .and .u64 (n64 v / 2 ^ (8 * j)) 159 = n64 ((v >>> (8 * j)) &&& 159#64) := by rw [n64_shr]; exact n64_and (v >>> (8 * j)) 159#64
  rw [e, wrap_n8]
  congr 1
  unfold bty
  apply BitVec.eq_of_toNat_eq
  rw [BitVec.toNat_ofInt]
  unfold n64
  rw [BitVec.toNat_and, BitVec.toNat_and, BitVec.toNat_setWidth, show (159#64 : BitVec 64).toNat = 159 from rfl, show (159#8 : BitVec 8).toNat = 159 from rfl]
  have h := Nat.and_mod_two_pow (a := (v >>> (8 * j)).toNat) (b := 159) (n := 8)
  rw [show (159 : Nat) % 2 ^ 8 = 159 from rfl] at h
  rw [← h]
  omega
set_option maxRecDepth 100000 in
set_option maxHeartbeats 16000000 in
theorem takes_walk (c : Nat → BitVec 8) (a : Nat → BitVec 64) (i : Int) (v : BitVec 64) (m : Int) (ad : BitVec 64) (s b : Int) (w : World) (hT : Tb w) :
    Calls Tryd.prog 3 #[.agg (askc c a i v m ad s b)] w fun e w' => e = .returned (.bool true) ∧ Below w.heap.size w w' := by
  obtain ⟨W0, hW0, r0, b0, s0⟩ := start1 w (askc c a i v m ad s b) 28
  have HS : Hid (W0.heap.size = w.heap.size + 1) := s0
  have HT : Hid (Tb W0) := hT.next b0.out
  clear s0 hT
  have AX : Hid (∀ W, Below W0.heap.size W0 W → (∀ j u, (pc c a)[j]? = some u → W.cell? ⟨w.heap.size, 0 + j, none⟩ = some u) ∧ Tb W ∧ W.cell? ⟨w.heap.size, 33, none⟩ = some (.int .u64 (n64 v)) ∧ W.cell? ⟨w.heap.size, 34, none⟩ = some (.int .i64 m) ∧ W.cell? ⟨w.heap.size, 35, none⟩ = some (.int .u64 (n64 ad)) ∧ W.cell? ⟨w.heap.size, 36, none⟩ = some (.int .i64 s) ∧ W.cell? ⟨w.heap.size, 37, none⟩ = some (.int .i64 b) ∧ W.cell? ⟨w.heap.size, 32, none⟩ = some (.int .i64 i)) := fun W hb => by
    have hh := r0.out.later hb (by rw [HS.out]; omega)
    obtain ⟨x2, x3, x4, x5, x6, x7⟩ := askc_rest c a i v m ad s b hh
    exact ⟨askc_pmp c a i v m ad s b hh, HT.out.next hb, x3, x4, x5, x6, x7, x2⟩
  have B0 : Hid (Below W0.heap.size W0 W0) := Below.refl _ _
  have BW : Hid (∀ W, Below W0.heap.size W0 W → Below w.heap.size w W) := fun W hb => b0.out.trans (hb.mono (by rw [HS.out]; omega))
  have hL : Hid (∀ W : World, Tb W → Calls Tryd.prog 8 #[] W fun e w' => e = .returned (.bool true) ∧ Below W.heap.size W w') := fun W h => live_c W h
  have hP : Hid (∀ W : World, Calls Tryd.prog 9 #[.agg (pc c a)] W fun e w' => e = .returned (.agg (pc (PC c) (PA a))) ∧ Below W.heap.size W w') := fun W => Proper_c c a W
  go_enter Tryd.func3, Tryd.ntmps3
  go_upto_region 1 with fail
  clear hW0
  go_upto_region 4 with (first | (refine wpList_load_aggG (by rfl) _ _ (by rfl) w.heap.size 0 (by rfl) (pc c a) _ L_w1.out Tryd.underlying26 (by rfl) (by rw [pc_size]; kernel_rfl) ?_) | (go_at_call 8; refine (hL.out _ HT.out).mono ?_; rintro e w1 ⟨rfl, hb⟩; have B_w1 : Hid (Below W0.heap.size W0 w1) := B0.out.trans (hb.mono B0.out.size); have L_w1 : Hid (∀ j u, (pc c a)[j]? = some u → w1.cell? ⟨w.heap.size, 0 + j, none⟩ = some u) := (AX.out w1 B_w1.out).1; obtain ⟨_, _, k33_w1, k34_w1, k35_w1, k36_w1, k37_w1, k32_w1⟩ := AX.out w1 B_w1.out; clear hb) | (go_at_call 9; refine (hP.out _).mono ?_; rintro e w2 ⟨rfl, hb⟩; have B_w2 : Hid (Below W0.heap.size W0 w2) := B_w1.out.trans (hb.mono B_w1.out.size); clear hb) | (refine wpList_store_new (by rfl) _ _ _ (by rfl) (by rfl) _ _ (by rfl) (by rfl) (by rw [pc_size]; kernel_rfl) (by rw [pc_size]; rfl) (pc_ones _ _) ?_))
  obtain ⟨W3, hW3, r3, b3, s3⟩ := start1 w2 (pc (PC c) (PA a)) 26
  rw [hW3]
  have hA3 : ∀ W, Below W3.heap.size W3 W → Row W w2.heap.size (pc (PC c) (PA a)) 26 ∧ Tb W ∧ W.cell? ⟨w.heap.size, 33, none⟩ = some (.int .u64 (n64 v)) ∧ W.cell? ⟨w.heap.size, 34, none⟩ = some (.int .i64 m) ∧ W.cell? ⟨w.heap.size, 35, none⟩ = some (.int .u64 (n64 ad)) ∧ W.cell? ⟨w.heap.size, 36, none⟩ = some (.int .i64 s) ∧ W.cell? ⟨w.heap.size, 37, none⟩ = some (.int .i64 b) ∧ W.cell? ⟨w.heap.size, 32, none⟩ = some (.int .i64 i) := fun W hb => by
    have hW : Below W0.heap.size W0 W := B_w2.out.trans ((b3.out.trans (hb.mono (by rw [s3]; omega))).mono B_w2.out.size)
    obtain ⟨_, x1, x2, x3, x4, x5, x6, x7⟩ := AX.out W hW
    exact ⟨r3.out.later hb (by rw [s3]; omega), x1, x2, x3, x4, x5, x6, x7⟩
  have hBW : ∀ W, Below W3.heap.size W3 W → Below w.heap.size w W := fun W hb => BW.out W (B_w2.out.trans ((b3.out.trans (hb.mono (by rw [s3]; omega))).mono B_w2.out.size))
  have hge : w.heap.size < w2.heap.size ∧ W3.heap.size = w2.heap.size + 1 := ⟨by have := B_w2.out.size; rw [HS.out] at this; omega, s3⟩
  clear k32_w1 k33_w1 k34_w1 k35_w1 k36_w1 k37_w1
  clear hW3 b3 s3 AX BW L_w1 B_w1 B_w2 B0 HT r0 b0 HS
  generalize w2.heap.size = gp at *
  have A3 : Hid (∀ W, Below W3.heap.size W3 W → Row W gp (pc (PC c) (PA a)) 26 ∧ Tb W ∧ W.cell? ⟨w.heap.size, 33, none⟩ = some (.int .u64 (n64 v)) ∧ W.cell? ⟨w.heap.size, 34, none⟩ = some (.int .i64 m) ∧ W.cell? ⟨w.heap.size, 35, none⟩ = some (.int .u64 (n64 ad)) ∧ W.cell? ⟨w.heap.size, 36, none⟩ = some (.int .i64 s) ∧ W.cell? ⟨w.heap.size, 37, none⟩ = some (.int .i64 b) ∧ W.cell? ⟨w.heap.size, 32, none⟩ = some (.int .i64 i)) := hA3
  have BW3 : Hid (∀ W, Below W3.heap.size W3 W → Below w.heap.size w W) := hBW
  have HGE : Hid (w.heap.size < gp ∧ W3.heap.size = gp + 1) := hge
  have B3 : Hid (Below W3.heap.size W3 W3) := Below.refl _ _
  have P_W3 : Hid (Row W3 gp (pc (PC c) (PA a)) 26) := (A3.out W3 B3.out).1
  obtain ⟨_, _, k33_W3, k34_W3, k35_W3, k36_W3, k37_W3, k32_W3⟩ := A3.out W3 B3.out
  clear hA3 hBW hge r3
  by_cases hr : 0 ≤ i ∧ i < 16
  · obtain ⟨k, rfl⟩ : ∃ k : Nat, i = k := ⟨i.toNat, by omega⟩
    have hk : k < 16 := by omega
    have hk2 : (k : Int) < 16 := by omega
    obtain ⟨A', hA'⟩ : ∃ A', A' = sA (PC c) (PA a) k v := ⟨_, rfl⟩
    have HA' : Hid (A' = sA (PC c) (PA a) k v) := hA'
    have hSA : Hid (∀ W, Calls Tryd.prog 11 #[.agg (pc (PC c) (PA a)), .int .i64 k, .int .u64 (n64 v)] W fun e w' => e = .returned (.agg (pc (PC c) A')) ∧ Below W.heap.size W w') := fun W => by
      have := SetAddr_c (PC c) (PA a) k v W
      rw [PC_twice', PA_twice', ← hA'] at this
      exact this
    have hLk : Hid (∀ W, Calls Tryd.prog 10 #[.agg (pc (PC c) (PA a)), .int .i64 k] W fun e w' => e = .returned (.tuple #[.bool (cL (PC c) k), .bool (aL (PC c) k)]) ∧ Below W.heap.size W w') := fun W => by
      have := Locked_c (PC c) (PA a) k W
      rw [PC_twice'] at this
      exact this
    generalize cL (PC c) k = zc at hLk
    have heqA : ∀ W, (Op.equalIn 10000 26 (.agg (pc (PC c) A')) (.agg (pc (PC c) A'))).run Tryd.prog W = .ok true W := fun W => eq_pc W _ _
    have hpp : IntKind.u64.wrap (n64 v * 1024) / (1024 : Int) = n64 (pad v) := pad_shift v
    clear hA' hr
    cases hno : aL (PC c) k with
    | true =>
      have e9 : A' = PA a := by rw [HA'.out, sA, if_pos hno]
      subst e9
      rw [hno] at hLk
      clear hno HA'
      go_wp2_with (first | (refine wpList_load_rowG (by rfl) _ _ (by rfl) _ (by rfl) 26 _ (0, 0) _ P_W3.out Tryd.underlying26 (by rfl) (by rw [pc_size]; kernel_rfl) ?_) | (refine wpList_load_rowG (by rfl) _ _ (by rfl) _ (by rfl) 26 _ (0, 0) _ P_w4.out Tryd.underlying26 (by rfl) (by rw [pc_size]; kernel_rfl) ?_) | (go_at_call 10; refine (hLk.out _).mono ?_; rintro e w4 ⟨rfl, hb⟩; have B_w4 : Hid (Below W3.heap.size W3 w4) := B3.out.trans (hb.mono B3.out.size); have P_w4 : Hid (Row w4 gp (pc (PC c) (PA a)) 26) := (A3.out w4 B_w4.out).1; obtain ⟨_, _, k33_w4, k34_w4, k35_w4, k36_w4, k37_w4, k32_w4⟩ := A3.out w4 B_w4.out; clear hb) | (refine wpList_store_new (by rfl) _ _ _ (by rfl) (by rfl) _ _ (by rfl) (by rfl) (by rw [pc_size]; kernel_rfl) (by rw [pc_size]; rfl) (pc_ones _ _) ?_))
      obtain ⟨W5, hW5, r5, b5, s5⟩ := start1 w4 (pc (PC c) (PA a)) 26
      rw [hW5]
      have B5 : Hid (Below W3.heap.size W3 W5) := B_w4.out.trans (b5.out.mono B_w4.out.size)
      clear hW5 b5 s5
      clear k32_w4 k33_w4 k34_w4 k35_w4 k36_w4 k37_w4
      generalize w4.heap.size = gw at *
      have lgw := r5.out.lt
      obtain ⟨_, _, h33, h34, h35, h36, h37, h32⟩ := A3.out W5 B5.out
      have HP5 : Hid (Row W5 gp (pc (PC c) (PA a)) 26) := (A3.out W5 B5.out).1
      have lp5 := HP5.out.lt
      have lw5 : w.heap.size < W5.heap.size := by have := HGE.out; omega
      have j32 := later_at lw5 h32
      have j33 := later_at lw5 h33
      have QP : Hid (∀ j u, (pc (PC c) (PA a))[j]? = some u → W5.cell? ⟨gp, 0 + j, none⟩ = some u) := fun j u hu => by rw [Nat.zero_add, HP5.out.cell]; exact hu
      have QW : Hid (∀ j u, (pc (PC c) (PA a))[j]? = some u → W5.cell? ⟨gw, 0 + j, none⟩ = some u) := fun j u hu => by rw [Nat.zero_add, r5.out.cell]; exact hu
      have nn := later_nonempty W5
      refine wp_region_later (x0 := Later.start W5) (by kernel_rfl) (by kernel_rfl) ?_
      repeat (first | (refine BigFrame.wpQuiet_want (by rfl) fun K hK => ?_; refine quiet_load_agg 26 _ (by rfl) gp 0 (by rfl) _ _ lp5 QP.out Tryd.underlying26 (by rfl) (by rw [pc_size]; kernel_rfl) (hK _ ?_); clear hK K; simp only [Act.put, List.setIfInBounds_toArray, List.set_cons_succ, List.set_cons_zero]) | (refine BigFrame.wpQuiet_want (by rfl) fun K hK => ?_; refine quiet_load_agg 26 _ (by rfl) gw 0 (by rfl) _ _ lgw QW.out Tryd.underlying26 (by rfl) (by rw [pc_size]; kernel_rfl) (hK _ ?_); clear hK K; simp only [Act.put, List.setIfInBounds_toArray, List.set_cons_succ, List.set_cons_zero]) | (go_big_quiet_step ((go_at_call 11; exact calls_later (hSA.out _)))))
      refine wpQuiet_nil ?_
      rintro w' ⟨x9, rfl⟩
      obtain ⟨W6, hW6⟩ : ∃ W6, W6 = x9.1 := ⟨_, rfl⟩
      rw [← hW6]
      have B6 : Hid (Below W3.heap.size W3 W6) := by rw [hW6]; exact B5.out.trans (x9.below.mono B5.out.size)
      clear hW6 x9 nn QP QW j32 j33 lw5 lp5 HP5 h32 h33 h34 h35 h36 h37 lgw r5 hSA heqA hLk
      clear B5
      obtain ⟨_, _, e33, e34, e35, e36, e37, e32⟩ := A3.out W6 B6.out
      have HPx : Hid (Row W6 gp (pc (PC c) (PA a)) 26) := (A3.out W6 B6.out).1
      by_cases h0 : k = 0
      · subst h0
        have hSC : Hid (∀ W, Calls Tryd.prog 12 #[.agg (pc (PC c) (PA a)), .int .i64 0, .int .u64 (n64 v)] W fun e w' => e = .returned (.agg (pc (sC (PC c) 0 v) (PA a))) ∧ Below W.heap.size W w') := fun W => by
          have := SetCfg_c (PC c) (PA a) 0 v W
          rw [PC_twice', PA_twice'] at this
          exact this
        have ez : ((0 : Nat) : Int) = 0 := rfl
        rw [ez] at e32 ⊢
        go_upto_region 14 with (first | (refine wpList_load_rowG (by rfl) _ _ (by rfl) _ (by rfl) 26 _ (0, 0) _ HPx.out Tryd.underlying26 (by rfl) (by rw [pc_size]; kernel_rfl) ?_) | (go_at_call 12; refine (hSC.out _).mono ?_; rintro e w7 ⟨rfl, hb⟩; have B7 : Hid (Below W3.heap.size W3 w7) := B6.out.trans (hb.mono B6.out.size); clear hb) | (refine wpList_store_new (by rfl) _ _ _ (by rfl) (by rfl) _ _ (by rfl) (by rfl) (by rw [pc_size]; kernel_rfl) (by rw [pc_size]; rfl) (pc_ones _ _) ?_))
        obtain ⟨Wq, hWq, rq, bq, sq⟩ := start1 w7 (pc (sC (PC c) 0 v) (PA a)) 26
        rw [hWq]
        have B8 : Hid (Below W3.heap.size W3 Wq) := B7.out.trans (bq.out.mono B7.out.size)
        clear hWq bq sq
        generalize w7.heap.size = gq at *
        have RPq : Hid (Row Wq gp (pc (PC c) (PA a)) 26) := (A3.out Wq B8.out).1
        have X1 : Hid (∀ j u, (ad16 (PA a))[j]? = some u → Wq.cell? ⟨gq, 16 + j, none⟩ = some u) := ad16_at rq.out
        have X2 : Hid (∀ j u, (ad16 (PA a))[j]? = some u → Wq.cell? ⟨gp, 16 + j, none⟩ = some u) := ad16_at RPq.out
        have X3 : Hid ((ad16 (PA a)).size = 16) := ad16_size _
        have heq : ∀ W, (Op.equalIn 10000 24 (.agg (ad16 (PA a))) (.agg (ad16 (PA a)))).run Tryd.prog W = .ok true W := fun W => eq_ad16 W _
        generalize ad16 (PA a) = D at X1 X2 X3 heq
        go_wp2_with (first | (refine wpList_load_agg (by rfl) _ _ (by rfl) gq 16 (by rfl) D _ X1.out Tryd.underlying24 (by rfl) (by rw [X3.out]; kernel_rfl) ?_) | (refine wpList_load_agg (by rfl) _ _ (by rfl) gp 16 (by rfl) D _ X2.out Tryd.underlying24 (by rfl) (by rw [X3.out]; kernel_rfl) ?_))
        go_loopw [8] (fun x wr => ∃ t : Nat, t ≤ 16 ∧ x = .int .i64 t ∧ Hid (Row wr gq (pc (sC (PC c) 0 v) (PA a)) 26) ∧ Hid (Below W3.heap.size W3 wr)) (fun x _ => 16 - (intOf x).toNat)
        case atStart => exact ⟨0, by omega, rfl, rq, B8⟩
        case round =>
          clear X1 X2 X3 heq rq B8 RPq
          obtain ⟨t, ht, rfl, g0, gb⟩ := hrel
          obtain ⟨gpr, _, k33, k34, k35, k36, k37, k32⟩ := A3.out wr gb.out
          by_cases hlt : t < 16
          · have hlt2 : (t : Int) < 16 := by omega
            have c0 := prow_cfg gpr t hlt
            have c1 := prow_cfg g0.out t hlt
            obtain ⟨j, hj⟩ : ∃ j : Nat, j = t % 8 := ⟨_, rfl⟩
            obtain ⟨d, hd⟩ : ∃ d : Nat, d = t / 8 := ⟨_, rfl⟩
            have hj8 : (j : Int) < 8 := by omega
            have tm : (t : Int).tmod 8 = (j : Int) := by rw [Int.tmod_eq_emod_of_nonneg (by omega), hj]; omega
            have tm2 : (t : Int) % 8 = (j : Int) := by rw [hj]; omega
            have td : (t : Int).tdiv 8 = (d : Int) := by rw [Int.tdiv_eq_ediv_of_nonneg (by omega), hd]; omega
            have td2 : (t : Int) / 8 = (d : Int) := by rw [hd]; omega
            have by1 := byte159 v j
            have by2 : bits .and .u8 (n8 (bty v j &&& 159#8)) 1 = n8 (bty v j &&& 1#8) := by rw [← odd_159 (bty v j)]; exact n8_and _ 1#8
            have hlk := n8_div128 (PC c t)
            have hlk2 := lk_shr (PC c t)
            have SC : Hid (sC (PC c) 0 v t = if lk (PC c t) = false ∧ d = 0 then pcl (bty v j) else PC c t) := by
              unfold Hid sC
              by_cases q : lk (PC c t) = false ∧ d = 0
              · rw [if_pos q, if_pos ⟨by omega, by omega, q.1⟩, show t - 0 = j by omega]
              · rw [if_neg q, if_neg (fun z => q ⟨z.2.2, by omega⟩)]
            clear gpr hj hd
            have EV : Hid (bty v j &&& 1#8 = 0#8 → bits .and .u8 (n8 (bty v j &&& 159#8)) 157 = n8 (pcl (bty v j))) := fun h => by
              rw [pcl_even157 _ h]; exact n8_and _ 157#8
            have OD : Hid (¬ bty v j &&& 1#8 = 0#8 → bty v j &&& 159#8 = pcl (bty v j)) := fun h => (pcl_odd _ h).symm
            by_cases hev : bty v j &&& 1#8 = 0#8
            · have ev1 : (n8 (bty v j &&& 1#8) == 0) = true := by rw [hev]; rfl
              have ev2 := EV.out hev
              clear EV OD hev
              generalize bty v j &&& 1#8 = y1 at by2 ev1
              generalize bty v j &&& 159#8 = y2 at by1 by2 ev2
              generalize pcl (bty v j) = y3 at ev2 SC
              cases hl : lk (PC c t) with
              | true =>
                rw [hl] at hlk2
                rw [SC.out, if_neg (by rw [hl]; simp)] at c1
                clear SC hl
                generalize PC c t >>> 7 = z at hlk hlk2
                generalize PC c t = x at hlk c0 c1
                go_wp2
                go_quiet (fail)
                go_wp2
                go_roundw
                case rel => exact ⟨t + 1, by omega, by go_num, g0, below_drewN gb.out _⟩
                case measure => simp [intOf]; omega
              | false =>
                rw [hl] at hlk2
                by_cases hd : d = 0
                · rw [SC.out, if_pos ⟨hl, hd⟩] at c1
                  subst hd
                  clear SC hl
                  generalize PC c t >>> 7 = z at hlk hlk2
                  generalize PC c t = x at hlk c0
                  go_wp2
                  go_quiet (fail)
                  go_wp2
                  go_roundw
                  case rel => exact ⟨t + 1, by omega, by go_num, g0, below_drewN gb.out _⟩
                  case measure => simp [intOf]; omega
                · rw [SC.out, if_neg (fun q => hd q.2)] at c1
                  have hd2 : ((d : Int) != 0) = true := by rw [bne_iff_ne]; omega
                  clear SC hl
                  generalize PC c t >>> 7 = z at hlk hlk2
                  generalize PC c t = x at hlk c0 c1
                  go_wp2
                  go_quiet (fail)
                  go_wp2
                  go_roundw
                  case rel => exact ⟨t + 1, by omega, by go_num, g0, below_drewN gb.out _⟩
                  case measure => simp [intOf]; omega
            · have ev1 : (n8 (bty v j &&& 1#8) == 0) = false := by rw [n8_eq0]; simpa using hev
              have od := OD.out hev
              clear EV OD hev
              generalize bty v j &&& 1#8 = y1 at by2 ev1
              rw [od] at by1 by2
              generalize pcl (bty v j) = y3 at by1 by2 SC
              clear od
              cases hl : lk (PC c t) with
              | true =>
                rw [hl] at hlk2
                rw [SC.out, if_neg (by rw [hl]; simp)] at c1
                clear SC hl
                generalize PC c t >>> 7 = z at hlk hlk2
                generalize PC c t = x at hlk c0 c1
                go_wp2
                go_quiet (fail)
                go_wp2
                go_roundw
                case rel => exact ⟨t + 1, by omega, by go_num, g0, below_drewN gb.out _⟩
                case measure => simp [intOf]; omega
              | false =>
                rw [hl] at hlk2
                by_cases hd : d = 0
                · rw [SC.out, if_pos ⟨hl, hd⟩] at c1
                  subst hd
                  clear SC hl
                  generalize PC c t >>> 7 = z at hlk hlk2
                  generalize PC c t = x at hlk c0
                  go_wp2
                  go_quiet (fail)
                  go_wp2
                  go_roundw
                  case rel => exact ⟨t + 1, by omega, by go_num, g0, below_drewN gb.out _⟩
                  case measure => simp [intOf]; omega
                · rw [SC.out, if_neg (fun q => hd q.2)] at c1
                  have hd2 : ((d : Int) != 0) = true := by rw [bne_iff_ne]; omega
                  clear SC hl
                  generalize PC c t >>> 7 = z at hlk hlk2
                  generalize PC c t = x at hlk c0 c1
                  go_wp2
                  go_quiet (fail)
                  go_wp2
                  go_roundw
                  case rel => exact ⟨t + 1, by omega, by go_num, g0, below_drewN gb.out _⟩
                  case measure => simp [intOf]; omega
          · obtain rfl : t = 16 := by omega
            have e16 : ((16 : Nat) : Int) = 16 := rfl
            rw [e16]
            clear ht hlt e16
            go_wp2
            go_ret
            exact ⟨rfl, BW3.out _ gb.out⟩
      · by_cases h2 : k = 2
        · subst h2
          have hSC : Hid (∀ W, Calls Tryd.prog 12 #[.agg (pc (PC c) (PA a)), .int .i64 2, .int .u64 (n64 v)] W fun e w' => e = .returned (.agg (pc (sC (PC c) 8 v) (PA a))) ∧ Below W.heap.size W w') := fun W => by
            have := SetCfg_c (PC c) (PA a) 2 v W
            rw [PC_twice', PA_twice'] at this
            exact this
          have ez : ((2 : Nat) : Int) = 2 := rfl
          rw [ez] at e32 ⊢
          go_upto_region 14 with (first | (refine wpList_load_rowG (by rfl) _ _ (by rfl) _ (by rfl) 26 _ (0, 0) _ HPx.out Tryd.underlying26 (by rfl) (by rw [pc_size]; kernel_rfl) ?_) | (go_at_call 12; refine (hSC.out _).mono ?_; rintro e w7 ⟨rfl, hb⟩; have B7 : Hid (Below W3.heap.size W3 w7) := B6.out.trans (hb.mono B6.out.size); clear hb) | (refine wpList_store_new (by rfl) _ _ _ (by rfl) (by rfl) _ _ (by rfl) (by rfl) (by rw [pc_size]; kernel_rfl) (by rw [pc_size]; rfl) (pc_ones _ _) ?_))
          obtain ⟨Wq, hWq, rq, bq, sq⟩ := start1 w7 (pc (sC (PC c) 8 v) (PA a)) 26
          rw [hWq]
          have B8 : Hid (Below W3.heap.size W3 Wq) := B7.out.trans (bq.out.mono B7.out.size)
          clear hWq bq sq
          generalize w7.heap.size = gq at *
          have RPq : Hid (Row Wq gp (pc (PC c) (PA a)) 26) := (A3.out Wq B8.out).1
          have X1 : Hid (∀ j u, (ad16 (PA a))[j]? = some u → Wq.cell? ⟨gq, 16 + j, none⟩ = some u) := ad16_at rq.out
          have X2 : Hid (∀ j u, (ad16 (PA a))[j]? = some u → Wq.cell? ⟨gp, 16 + j, none⟩ = some u) := ad16_at RPq.out
          have X3 : Hid ((ad16 (PA a)).size = 16) := ad16_size _
          have heq : ∀ W, (Op.equalIn 10000 24 (.agg (ad16 (PA a))) (.agg (ad16 (PA a)))).run Tryd.prog W = .ok true W := fun W => eq_ad16 W _
          generalize ad16 (PA a) = D at X1 X2 X3 heq
          go_wp2_with (first | (refine wpList_load_agg (by rfl) _ _ (by rfl) gq 16 (by rfl) D _ X1.out Tryd.underlying24 (by rfl) (by rw [X3.out]; kernel_rfl) ?_) | (refine wpList_load_agg (by rfl) _ _ (by rfl) gp 16 (by rfl) D _ X2.out Tryd.underlying24 (by rfl) (by rw [X3.out]; kernel_rfl) ?_))
          go_loopw [8] (fun x wr => ∃ t : Nat, t ≤ 16 ∧ x = .int .i64 t ∧ Hid (Row wr gq (pc (sC (PC c) 8 v) (PA a)) 26) ∧ Hid (Below W3.heap.size W3 wr)) (fun x _ => 16 - (intOf x).toNat)
          case atStart => exact ⟨0, by omega, rfl, rq, B8⟩
          case round =>
            clear X1 X2 X3 heq rq B8 RPq
            obtain ⟨t, ht, rfl, g0, gb⟩ := hrel
            obtain ⟨gpr, _, k33, k34, k35, k36, k37, k32⟩ := A3.out wr gb.out
            by_cases hlt : t < 16
            · have hlt2 : (t : Int) < 16 := by omega
              have c0 := prow_cfg gpr t hlt
              have c1 := prow_cfg g0.out t hlt
              obtain ⟨j, hj⟩ : ∃ j : Nat, j = t % 8 := ⟨_, rfl⟩
              obtain ⟨d, hd⟩ : ∃ d : Nat, d = t / 8 := ⟨_, rfl⟩
              have hj8 : (j : Int) < 8 := by omega
              have tm : (t : Int).tmod 8 = (j : Int) := by rw [Int.tmod_eq_emod_of_nonneg (by omega), hj]; omega
              have tm2 : (t : Int) % 8 = (j : Int) := by rw [hj]; omega
              have td : (t : Int).tdiv 8 = (d : Int) := by rw [Int.tdiv_eq_ediv_of_nonneg (by omega), hd]; omega
              have td2 : (t : Int) / 8 = (d : Int) := by rw [hd]; omega
              have by1 := byte159 v j
              have by2 : bits .and .u8 (n8 (bty v j &&& 159#8)) 1 = n8 (bty v j &&& 1#8) := by rw [← odd_159 (bty v j)]; exact n8_and _ 1#8
              have hlk := n8_div128 (PC c t)
              have hlk2 := lk_shr (PC c t)
              have SC : Hid (sC (PC c) 8 v t = if lk (PC c t) = false ∧ d = 1 then pcl (bty v j) else PC c t) := by
                unfold Hid sC
                by_cases q : lk (PC c t) = false ∧ d = 1
                · rw [if_pos q, if_pos ⟨by omega, by omega, q.1⟩, show t - 8 = j by omega]
                · rw [if_neg q, if_neg (fun z => q ⟨z.2.2, by omega⟩)]
              clear gpr hj hd
              have EV : Hid (bty v j &&& 1#8 = 0#8 → bits .and .u8 (n8 (bty v j &&& 159#8)) 157 = n8 (pcl (bty v j))) := fun h => by
                rw [pcl_even157 _ h]; exact n8_and _ 157#8
              have OD : Hid (¬ bty v j &&& 1#8 = 0#8 → bty v j &&& 159#8 = pcl (bty v j)) := fun h => (pcl_odd _ h).symm
              by_cases hev : bty v j &&& 1#8 = 0#8
              · have ev1 : (n8 (bty v j &&& 1#8) == 0) = true := by rw [hev]; rfl
                have ev2 := EV.out hev
                clear EV OD hev
                generalize bty v j &&& 1#8 = y1 at by2 ev1
                generalize bty v j &&& 159#8 = y2 at by1 by2 ev2
                generalize pcl (bty v j) = y3 at ev2 SC
                cases hl : lk (PC c t) with
                | true =>
                  rw [hl] at hlk2
                  rw [SC.out, if_neg (by rw [hl]; simp)] at c1
                  clear SC hl
                  generalize PC c t >>> 7 = z at hlk hlk2
                  generalize PC c t = x at hlk c0 c1
                  go_wp2
                  go_quiet (fail)
                  go_wp2
                  go_roundw
                  case rel => exact ⟨t + 1, by omega, by go_num, g0, below_drewN gb.out _⟩
                  case measure => simp [intOf]; omega
                | false =>
                  rw [hl] at hlk2
                  by_cases hd : d = 1
                  · rw [SC.out, if_pos ⟨hl, hd⟩] at c1
                    subst hd
                    clear SC hl
                    generalize PC c t >>> 7 = z at hlk hlk2
                    generalize PC c t = x at hlk c0
                    go_wp2
                    go_quiet (fail)
                    go_wp2
                    go_roundw
                    case rel => exact ⟨t + 1, by omega, by go_num, g0, below_drewN gb.out _⟩
                    case measure => simp [intOf]; omega
                  · rw [SC.out, if_neg (fun q => hd q.2)] at c1
                    have hd2 : ((d : Int) != 1) = true := by rw [bne_iff_ne]; omega
                    clear SC hl
                    generalize PC c t >>> 7 = z at hlk hlk2
                    generalize PC c t = x at hlk c0 c1
                    go_wp2
                    go_quiet (fail)
                    go_wp2
                    go_roundw
                    case rel => exact ⟨t + 1, by omega, by go_num, g0, below_drewN gb.out _⟩
                    case measure => simp [intOf]; omega
              · have ev1 : (n8 (bty v j &&& 1#8) == 0) = false := by rw [n8_eq0]; simpa using hev
                have od := OD.out hev
                clear EV OD hev
                generalize bty v j &&& 1#8 = y1 at by2 ev1
                rw [od] at by1 by2
                generalize pcl (bty v j) = y3 at by1 by2 SC
                clear od
                cases hl : lk (PC c t) with
                | true =>
                  rw [hl] at hlk2
                  rw [SC.out, if_neg (by rw [hl]; simp)] at c1
                  clear SC hl
                  generalize PC c t >>> 7 = z at hlk hlk2
                  generalize PC c t = x at hlk c0 c1
                  go_wp2
                  go_quiet (fail)
                  go_wp2
                  go_roundw
                  case rel => exact ⟨t + 1, by omega, by go_num, g0, below_drewN gb.out _⟩
                  case measure => simp [intOf]; omega
                | false =>
                  rw [hl] at hlk2
                  by_cases hd : d = 1
                  · rw [SC.out, if_pos ⟨hl, hd⟩] at c1
                    subst hd
                    clear SC hl
                    generalize PC c t >>> 7 = z at hlk hlk2
                    generalize PC c t = x at hlk c0
                    go_wp2
                    go_quiet (fail)
                    go_wp2
                    go_roundw
                    case rel => exact ⟨t + 1, by omega, by go_num, g0, below_drewN gb.out _⟩
                    case measure => simp [intOf]; omega
                  · rw [SC.out, if_neg (fun q => hd q.2)] at c1
                    have hd2 : ((d : Int) != 1) = true := by rw [bne_iff_ne]; omega
                    clear SC hl
                    generalize PC c t >>> 7 = z at hlk hlk2
                    generalize PC c t = x at hlk c0 c1
                    go_wp2
                    go_quiet (fail)
                    go_wp2
                    go_roundw
                    case rel => exact ⟨t + 1, by omega, by go_num, g0, below_drewN gb.out _⟩
                    case measure => simp [intOf]; omega
            · obtain rfl : t = 16 := by omega
              have e16 : ((16 : Nat) : Int) = 16 := rfl
              rw [e16]
              clear ht hlt e16
              go_wp2
              go_ret
              exact ⟨rfl, BW3.out _ gb.out⟩
        · have n0 : ((k : Int) != 0) = true := by rw [bne_iff_ne]; omega
          have n2 : ((k : Int) != 2) = true := by rw [bne_iff_ne]; omega
          have hSC : Hid (∀ W, Calls Tryd.prog 12 #[.agg (pc (PC c) (PA a)), .int .i64 k, .int .u64 (n64 v)] W fun e w' => e = .returned (.agg (pc (PC c) (PA a))) ∧ Below W.heap.size W w') := fun W => by
            have := SetCfg_c (PC c) (PA a) k v W
            rw [PC_twice', PA_twice', sR, if_neg (by omega), if_neg (by omega)] at this
            exact this
          have heqP : ∀ W, (Op.equalIn 10000 26 (.agg (pc (PC c) (PA a))) (.agg (pc (PC c) (PA a)))).run Tryd.prog W = .ok true W := fun W => eq_pc W _ _
          clear HPx e32 e33 e34 e35 e36 e37
          obtain ⟨_, _, f33, f34, f35, f36, f37, f32⟩ := A3.out W6 B6.out
          have HPx : Hid (Row W6 gp (pc (PC c) (PA a)) 26) := (A3.out W6 B6.out).1
          have lpx := HPx.out.lt
          have lwx : w.heap.size < W6.heap.size := by have := HGE.out; omega
          have l32 := later_at lwx f32
          have l33 := later_at lwx f33
          have QP : Hid (∀ j u, (pc (PC c) (PA a))[j]? = some u → W6.cell? ⟨gp, 0 + j, none⟩ = some u) := fun j u hu => by rw [Nat.zero_add, HPx.out.cell]; exact hu
          have nn := later_nonempty W6
          go_wp2
          refine wp_region_later (x0 := Later.start W6) (by kernel_rfl) (by kernel_rfl) ?_
          repeat (first | (refine BigFrame.wpQuiet_want (by rfl) fun K hK => ?_; refine quiet_load_agg 26 _ (by rfl) gp 0 (by rfl) _ _ lpx QP.out Tryd.underlying26 (by rfl) (by rw [pc_size]; kernel_rfl) (hK _ ?_); clear hK K; simp only [Act.put, List.setIfInBounds_toArray, List.set_cons_succ, List.set_cons_zero]) | (go_big_quiet_step ((go_at_call 12; exact calls_later (hSC.out _)))))
          refine wpQuiet_nil ?_
          rintro w' ⟨x9, rfl⟩
          go_wp2
          go_ret
          exact ⟨rfl, BW3.out _ (B6.out.trans (x9.below.mono B6.out.size))⟩
    | false =>
      have e9 : A' = upd (PA a) k (pad v) := by rw [HA'.out, sA, if_neg (by rw [hno]; simp)]; rfl
      have HE9 : Hid (pc (PC c) A' = (pc (PC c) (PA a)).setIfInBounds (16 + k) (.int .u64 (n64 (pad v)))) := by rw [pc_addr _ _ _ _ hk, e9]; rfl
      rw [hno] at hLk
      clear hno HA' e9
      go_upto_region 7 with (first | (refine wpList_load_rowG (by rfl) _ _ (by rfl) _ (by rfl) 26 _ (0, 0) _ P_W3.out Tryd.underlying26 (by rfl) (by rw [pc_size]; kernel_rfl) ?_) | (refine wpList_load_rowG (by rfl) _ _ (by rfl) _ (by rfl) 26 _ (0, 0) _ P_w4.out Tryd.underlying26 (by rfl) (by rw [pc_size]; kernel_rfl) ?_) | (go_at_call 10; refine (hLk.out _).mono ?_; rintro e w4 ⟨rfl, hb⟩; have B_w4 : Hid (Below W3.heap.size W3 w4) := B3.out.trans (hb.mono B3.out.size); have P_w4 : Hid (Row w4 gp (pc (PC c) (PA a)) 26) := (A3.out w4 B_w4.out).1; obtain ⟨_, _, k33_w4, k34_w4, k35_w4, k36_w4, k37_w4, k32_w4⟩ := A3.out w4 B_w4.out; clear hb) | (refine wpList_store_new (by rfl) _ _ _ (by rfl) (by rfl) _ _ (by rfl) (by rfl) (by rw [pc_size]; kernel_rfl) (by rw [pc_size]; rfl) (pc_ones _ _) ?_))
      obtain ⟨W4, hW4, r4, b4, s4⟩ := start1 w4 (pc (PC c) (PA a)) 26
      rw [hW4]
      have B4 : Hid (Below W3.heap.size W3 W4) := B_w4.out.trans (b4.out.mono B_w4.out.size)
      have HGW : Hid (W3.heap.size ≤ w4.heap.size) := B_w4.out.size
      clear hW4 b4 s4
      clear k32_w4 k33_w4 k34_w4 k35_w4 k36_w4 k37_w4
      generalize w4.heap.size = gw at *
      obtain ⟨_, _, m33, m34, m35, m36, m37, m32⟩ := A3.out W4 B4.out
      have c4 := prow_addr r4.out k hk
      have f4 := r4.out.froz (16 + k)
      go_wp2
      obtain ⟨W5, hW5⟩ : ∃ W5, W5 = W4.setCell ⟨gw, 16 + k, none⟩ (.int .u64 (n64 (pad v))) := ⟨_, rfl⟩
      rw [← hW5]
      have r5 : Hid (Row W5 gw (pc (PC c) A') 26) := by rw [hW5, HE9.out]; exact Row.put r4.out _
      have B5 : Hid (Below W3.heap.size W3 W5) := by rw [hW5]; exact below_put B4.out HGW.out _
      clear hW5 r4 B4 HE9 m32 m33 m34 m35 m36 m37 c4 f4
      have lgw := r5.out.lt
      obtain ⟨_, _, h33, h34, h35, h36, h37, h32⟩ := A3.out W5 B5.out
      have HP5 : Hid (Row W5 gp (pc (PC c) (PA a)) 26) := (A3.out W5 B5.out).1
      have lp5 := HP5.out.lt
      have lw5 : w.heap.size < W5.heap.size := by have := HGE.out; omega
      have j32 := later_at lw5 h32
      have j33 := later_at lw5 h33
      have QP : Hid (∀ j u, (pc (PC c) (PA a))[j]? = some u → W5.cell? ⟨gp, 0 + j, none⟩ = some u) := fun j u hu => by rw [Nat.zero_add, HP5.out.cell]; exact hu
      have QW : Hid (∀ j u, (pc (PC c) A')[j]? = some u → W5.cell? ⟨gw, 0 + j, none⟩ = some u) := fun j u hu => by rw [Nat.zero_add, r5.out.cell]; exact hu
      have nn := later_nonempty W5
      refine wp_region_later (x0 := Later.start W5) (by kernel_rfl) (by kernel_rfl) ?_
      repeat (first | (refine BigFrame.wpQuiet_want (by rfl) fun K hK => ?_; refine quiet_load_agg 26 _ (by rfl) gp 0 (by rfl) _ _ lp5 QP.out Tryd.underlying26 (by rfl) (by rw [pc_size]; kernel_rfl) (hK _ ?_); clear hK K; simp only [Act.put, List.setIfInBounds_toArray, List.set_cons_succ, List.set_cons_zero]) | (refine BigFrame.wpQuiet_want (by rfl) fun K hK => ?_; refine quiet_load_agg 26 _ (by rfl) gw 0 (by rfl) _ _ lgw QW.out Tryd.underlying26 (by rfl) (by rw [pc_size]; kernel_rfl) (hK _ ?_); clear hK K; simp only [Act.put, List.setIfInBounds_toArray, List.set_cons_succ, List.set_cons_zero]) | (go_big_quiet_step ((go_at_call 11; exact calls_later (hSA.out _)))))
      refine wpQuiet_nil ?_
      rintro w' ⟨x9, rfl⟩
      obtain ⟨W6, hW6⟩ : ∃ W6, W6 = x9.1 := ⟨_, rfl⟩
      rw [← hW6]
      have B6 : Hid (Below W3.heap.size W3 W6) := by rw [hW6]; exact B5.out.trans (x9.below.mono B5.out.size)
      clear hW6 x9 nn QP QW j32 j33 lw5 lp5 HP5 h32 h33 h34 h35 h36 h37 lgw r5 hSA heqA hLk
      clear B5
      obtain ⟨_, _, e33, e34, e35, e36, e37, e32⟩ := A3.out W6 B6.out
      have HPx : Hid (Row W6 gp (pc (PC c) (PA a)) 26) := (A3.out W6 B6.out).1
      by_cases h0 : k = 0
      · subst h0
        have hSC : Hid (∀ W, Calls Tryd.prog 12 #[.agg (pc (PC c) (PA a)), .int .i64 0, .int .u64 (n64 v)] W fun e w' => e = .returned (.agg (pc (sC (PC c) 0 v) (PA a))) ∧ Below W.heap.size W w') := fun W => by
          have := SetCfg_c (PC c) (PA a) 0 v W
          rw [PC_twice', PA_twice'] at this
          exact this
        have ez : ((0 : Nat) : Int) = 0 := rfl
        rw [ez] at e32 ⊢
        go_upto_region 14 with (first | (refine wpList_load_rowG (by rfl) _ _ (by rfl) _ (by rfl) 26 _ (0, 0) _ HPx.out Tryd.underlying26 (by rfl) (by rw [pc_size]; kernel_rfl) ?_) | (go_at_call 12; refine (hSC.out _).mono ?_; rintro e w7 ⟨rfl, hb⟩; have B7 : Hid (Below W3.heap.size W3 w7) := B6.out.trans (hb.mono B6.out.size); clear hb) | (refine wpList_store_new (by rfl) _ _ _ (by rfl) (by rfl) _ _ (by rfl) (by rfl) (by rw [pc_size]; kernel_rfl) (by rw [pc_size]; rfl) (pc_ones _ _) ?_))
        obtain ⟨Wq, hWq, rq, bq, sq⟩ := start1 w7 (pc (sC (PC c) 0 v) (PA a)) 26
        rw [hWq]
        have B8 : Hid (Below W3.heap.size W3 Wq) := B7.out.trans (bq.out.mono B7.out.size)
        clear hWq bq sq
        generalize w7.heap.size = gq at *
        have RPq : Hid (Row Wq gp (pc (PC c) (PA a)) 26) := (A3.out Wq B8.out).1
        have X1 : Hid (∀ j u, (ad16 (PA a))[j]? = some u → Wq.cell? ⟨gq, 16 + j, none⟩ = some u) := ad16_at rq.out
        have X2 : Hid (∀ j u, (ad16 (PA a))[j]? = some u → Wq.cell? ⟨gp, 16 + j, none⟩ = some u) := ad16_at RPq.out
        have X3 : Hid ((ad16 (PA a)).size = 16) := ad16_size _
        have heq : ∀ W, (Op.equalIn 10000 24 (.agg (ad16 (PA a))) (.agg (ad16 (PA a)))).run Tryd.prog W = .ok true W := fun W => eq_ad16 W _
        generalize ad16 (PA a) = D at X1 X2 X3 heq
        go_wp2_with (first | (refine wpList_load_agg (by rfl) _ _ (by rfl) gq 16 (by rfl) D _ X1.out Tryd.underlying24 (by rfl) (by rw [X3.out]; kernel_rfl) ?_) | (refine wpList_load_agg (by rfl) _ _ (by rfl) gp 16 (by rfl) D _ X2.out Tryd.underlying24 (by rfl) (by rw [X3.out]; kernel_rfl) ?_))
        go_loopw [8] (fun x wr => ∃ t : Nat, t ≤ 16 ∧ x = .int .i64 t ∧ Hid (Row wr gq (pc (sC (PC c) 0 v) (PA a)) 26) ∧ Hid (Below W3.heap.size W3 wr)) (fun x _ => 16 - (intOf x).toNat)
        case atStart => exact ⟨0, by omega, rfl, rq, B8⟩
        case round =>
          clear X1 X2 X3 heq rq B8 RPq
          obtain ⟨t, ht, rfl, g0, gb⟩ := hrel
          obtain ⟨gpr, _, k33, k34, k35, k36, k37, k32⟩ := A3.out wr gb.out
          by_cases hlt : t < 16
          · have hlt2 : (t : Int) < 16 := by omega
            have c0 := prow_cfg gpr t hlt
            have c1 := prow_cfg g0.out t hlt
            obtain ⟨j, hj⟩ : ∃ j : Nat, j = t % 8 := ⟨_, rfl⟩
            obtain ⟨d, hd⟩ : ∃ d : Nat, d = t / 8 := ⟨_, rfl⟩
            have hj8 : (j : Int) < 8 := by omega
            have tm : (t : Int).tmod 8 = (j : Int) := by rw [Int.tmod_eq_emod_of_nonneg (by omega), hj]; omega
            have tm2 : (t : Int) % 8 = (j : Int) := by rw [hj]; omega
            have td : (t : Int).tdiv 8 = (d : Int) := by rw [Int.tdiv_eq_ediv_of_nonneg (by omega), hd]; omega
            have td2 : (t : Int) / 8 = (d : Int) := by rw [hd]; omega
            have by1 := byte159 v j
            have by2 : bits .and .u8 (n8 (bty v j &&& 159#8)) 1 = n8 (bty v j &&& 1#8) := by rw [← odd_159 (bty v j)]; exact n8_and _ 1#8
            have hlk := n8_div128 (PC c t)
            have hlk2 := lk_shr (PC c t)
            have SC : Hid (sC (PC c) 0 v t = if lk (PC c t) = false ∧ d = 0 then pcl (bty v j) else PC c t) := by
              unfold Hid sC
              by_cases q : lk (PC c t) = false ∧ d = 0
              · rw [if_pos q, if_pos ⟨by omega, by omega, q.1⟩, show t - 0 = j by omega]
              · rw [if_neg q, if_neg (fun z => q ⟨z.2.2, by omega⟩)]
            clear gpr hj hd
            have EV : Hid (bty v j &&& 1#8 = 0#8 → bits .and .u8 (n8 (bty v j &&& 159#8)) 157 = n8 (pcl (bty v j))) := fun h => by
              rw [pcl_even157 _ h]; exact n8_and _ 157#8
            have OD : Hid (¬ bty v j &&& 1#8 = 0#8 → bty v j &&& 159#8 = pcl (bty v j)) := fun h => (pcl_odd _ h).symm
            by_cases hev : bty v j &&& 1#8 = 0#8
            · have ev1 : (n8 (bty v j &&& 1#8) == 0) = true := by rw [hev]; rfl
              have ev2 := EV.out hev
              clear EV OD hev
              generalize bty v j &&& 1#8 = y1 at by2 ev1
              generalize bty v j &&& 159#8 = y2 at by1 by2 ev2
              generalize pcl (bty v j) = y3 at ev2 SC
              cases hl : lk (PC c t) with
              | true =>
                rw [hl] at hlk2
                rw [SC.out, if_neg (by rw [hl]; simp)] at c1
                clear SC hl
                generalize PC c t >>> 7 = z at hlk hlk2
                generalize PC c t = x at hlk c0 c1
                go_wp2
                go_quiet (fail)
                go_wp2
                go_roundw
                case rel => exact ⟨t + 1, by omega, by go_num, g0, below_drewN gb.out _⟩
                case measure => simp [intOf]; omega
              | false =>
                rw [hl] at hlk2
                by_cases hd : d = 0
                · rw [SC.out, if_pos ⟨hl, hd⟩] at c1
                  subst hd
                  clear SC hl
                  generalize PC c t >>> 7 = z at hlk hlk2
                  generalize PC c t = x at hlk c0
                  go_wp2
                  go_quiet (fail)
                  go_wp2
                  go_roundw
                  case rel => exact ⟨t + 1, by omega, by go_num, g0, below_drewN gb.out _⟩
                  case measure => simp [intOf]; omega
                · rw [SC.out, if_neg (fun q => hd q.2)] at c1
                  have hd2 : ((d : Int) != 0) = true := by rw [bne_iff_ne]; omega
                  clear SC hl
                  generalize PC c t >>> 7 = z at hlk hlk2
                  generalize PC c t = x at hlk c0 c1
                  go_wp2
                  go_quiet (fail)
                  go_wp2
                  go_roundw
                  case rel => exact ⟨t + 1, by omega, by go_num, g0, below_drewN gb.out _⟩
                  case measure => simp [intOf]; omega
            · have ev1 : (n8 (bty v j &&& 1#8) == 0) = false := by rw [n8_eq0]; simpa using hev
              have od := OD.out hev
              clear EV OD hev
              generalize bty v j &&& 1#8 = y1 at by2 ev1
              rw [od] at by1 by2
              generalize pcl (bty v j) = y3 at by1 by2 SC
              clear od
              cases hl : lk (PC c t) with
              | true =>
                rw [hl] at hlk2
                rw [SC.out, if_neg (by rw [hl]; simp)] at c1
                clear SC hl
                generalize PC c t >>> 7 = z at hlk hlk2
                generalize PC c t = x at hlk c0 c1
                go_wp2
                go_quiet (fail)
                go_wp2
                go_roundw
                case rel => exact ⟨t + 1, by omega, by go_num, g0, below_drewN gb.out _⟩
                case measure => simp [intOf]; omega
              | false =>
                rw [hl] at hlk2
                by_cases hd : d = 0
                · rw [SC.out, if_pos ⟨hl, hd⟩] at c1
                  subst hd
                  clear SC hl
                  generalize PC c t >>> 7 = z at hlk hlk2
                  generalize PC c t = x at hlk c0
                  go_wp2
                  go_quiet (fail)
                  go_wp2
                  go_roundw
                  case rel => exact ⟨t + 1, by omega, by go_num, g0, below_drewN gb.out _⟩
                  case measure => simp [intOf]; omega
                · rw [SC.out, if_neg (fun q => hd q.2)] at c1
                  have hd2 : ((d : Int) != 0) = true := by rw [bne_iff_ne]; omega
                  clear SC hl
                  generalize PC c t >>> 7 = z at hlk hlk2
                  generalize PC c t = x at hlk c0 c1
                  go_wp2
                  go_quiet (fail)
                  go_wp2
                  go_roundw
                  case rel => exact ⟨t + 1, by omega, by go_num, g0, below_drewN gb.out _⟩
                  case measure => simp [intOf]; omega
          · obtain rfl : t = 16 := by omega
            have e16 : ((16 : Nat) : Int) = 16 := rfl
            rw [e16]
            clear ht hlt e16
            go_wp2
            go_ret
            exact ⟨rfl, BW3.out _ gb.out⟩
      · by_cases h2 : k = 2
        · subst h2
          have hSC : Hid (∀ W, Calls Tryd.prog 12 #[.agg (pc (PC c) (PA a)), .int .i64 2, .int .u64 (n64 v)] W fun e w' => e = .returned (.agg (pc (sC (PC c) 8 v) (PA a))) ∧ Below W.heap.size W w') := fun W => by
            have := SetCfg_c (PC c) (PA a) 2 v W
            rw [PC_twice', PA_twice'] at this
            exact this
          have ez : ((2 : Nat) : Int) = 2 := rfl
          rw [ez] at e32 ⊢
          go_upto_region 14 with (first | (refine wpList_load_rowG (by rfl) _ _ (by rfl) _ (by rfl) 26 _ (0, 0) _ HPx.out Tryd.underlying26 (by rfl) (by rw [pc_size]; kernel_rfl) ?_) | (go_at_call 12; refine (hSC.out _).mono ?_; rintro e w7 ⟨rfl, hb⟩; have B7 : Hid (Below W3.heap.size W3 w7) := B6.out.trans (hb.mono B6.out.size); clear hb) | (refine wpList_store_new (by rfl) _ _ _ (by rfl) (by rfl) _ _ (by rfl) (by rfl) (by rw [pc_size]; kernel_rfl) (by rw [pc_size]; rfl) (pc_ones _ _) ?_))
          obtain ⟨Wq, hWq, rq, bq, sq⟩ := start1 w7 (pc (sC (PC c) 8 v) (PA a)) 26
          rw [hWq]
          have B8 : Hid (Below W3.heap.size W3 Wq) := B7.out.trans (bq.out.mono B7.out.size)
          clear hWq bq sq
          generalize w7.heap.size = gq at *
          have RPq : Hid (Row Wq gp (pc (PC c) (PA a)) 26) := (A3.out Wq B8.out).1
          have X1 : Hid (∀ j u, (ad16 (PA a))[j]? = some u → Wq.cell? ⟨gq, 16 + j, none⟩ = some u) := ad16_at rq.out
          have X2 : Hid (∀ j u, (ad16 (PA a))[j]? = some u → Wq.cell? ⟨gp, 16 + j, none⟩ = some u) := ad16_at RPq.out
          have X3 : Hid ((ad16 (PA a)).size = 16) := ad16_size _
          have heq : ∀ W, (Op.equalIn 10000 24 (.agg (ad16 (PA a))) (.agg (ad16 (PA a)))).run Tryd.prog W = .ok true W := fun W => eq_ad16 W _
          generalize ad16 (PA a) = D at X1 X2 X3 heq
          go_wp2_with (first | (refine wpList_load_agg (by rfl) _ _ (by rfl) gq 16 (by rfl) D _ X1.out Tryd.underlying24 (by rfl) (by rw [X3.out]; kernel_rfl) ?_) | (refine wpList_load_agg (by rfl) _ _ (by rfl) gp 16 (by rfl) D _ X2.out Tryd.underlying24 (by rfl) (by rw [X3.out]; kernel_rfl) ?_))
          go_loopw [8] (fun x wr => ∃ t : Nat, t ≤ 16 ∧ x = .int .i64 t ∧ Hid (Row wr gq (pc (sC (PC c) 8 v) (PA a)) 26) ∧ Hid (Below W3.heap.size W3 wr)) (fun x _ => 16 - (intOf x).toNat)
          case atStart => exact ⟨0, by omega, rfl, rq, B8⟩
          case round =>
            clear X1 X2 X3 heq rq B8 RPq
            obtain ⟨t, ht, rfl, g0, gb⟩ := hrel
            obtain ⟨gpr, _, k33, k34, k35, k36, k37, k32⟩ := A3.out wr gb.out
            by_cases hlt : t < 16
            · have hlt2 : (t : Int) < 16 := by omega
              have c0 := prow_cfg gpr t hlt
              have c1 := prow_cfg g0.out t hlt
              obtain ⟨j, hj⟩ : ∃ j : Nat, j = t % 8 := ⟨_, rfl⟩
              obtain ⟨d, hd⟩ : ∃ d : Nat, d = t / 8 := ⟨_, rfl⟩
              have hj8 : (j : Int) < 8 := by omega
              have tm : (t : Int).tmod 8 = (j : Int) := by rw [Int.tmod_eq_emod_of_nonneg (by omega), hj]; omega
              have tm2 : (t : Int) % 8 = (j : Int) := by rw [hj]; omega
              have td : (t : Int).tdiv 8 = (d : Int) := by rw [Int.tdiv_eq_ediv_of_nonneg (by omega), hd]; omega
              have td2 : (t : Int) / 8 = (d : Int) := by rw [hd]; omega
              have by1 := byte159 v j
              have by2 : bits .and .u8 (n8 (bty v j &&& 159#8)) 1 = n8 (bty v j &&& 1#8) := by rw [← odd_159 (bty v j)]; exact n8_and _ 1#8
              have hlk := n8_div128 (PC c t)
              have hlk2 := lk_shr (PC c t)
              have SC : Hid (sC (PC c) 8 v t = if lk (PC c t) = false ∧ d = 1 then pcl (bty v j) else PC c t) := by
                unfold Hid sC
                by_cases q : lk (PC c t) = false ∧ d = 1
                · rw [if_pos q, if_pos ⟨by omega, by omega, q.1⟩, show t - 8 = j by omega]
                · rw [if_neg q, if_neg (fun z => q ⟨z.2.2, by omega⟩)]
              clear gpr hj hd
              have EV : Hid (bty v j &&& 1#8 = 0#8 → bits .and .u8 (n8 (bty v j &&& 159#8)) 157 = n8 (pcl (bty v j))) := fun h => by
                rw [pcl_even157 _ h]; exact n8_and _ 157#8
              have OD : Hid (¬ bty v j &&& 1#8 = 0#8 → bty v j &&& 159#8 = pcl (bty v j)) := fun h => (pcl_odd _ h).symm
              by_cases hev : bty v j &&& 1#8 = 0#8
              · have ev1 : (n8 (bty v j &&& 1#8) == 0) = true := by rw [hev]; rfl
                have ev2 := EV.out hev
                clear EV OD hev
                generalize bty v j &&& 1#8 = y1 at by2 ev1
                generalize bty v j &&& 159#8 = y2 at by1 by2 ev2
                generalize pcl (bty v j) = y3 at ev2 SC
                cases hl : lk (PC c t) with
                | true =>
                  rw [hl] at hlk2
                  rw [SC.out, if_neg (by rw [hl]; simp)] at c1
                  clear SC hl
                  generalize PC c t >>> 7 = z at hlk hlk2
                  generalize PC c t = x at hlk c0 c1
                  go_wp2
                  go_quiet (fail)
                  go_wp2
                  go_roundw
                  case rel => exact ⟨t + 1, by omega, by go_num, g0, below_drewN gb.out _⟩
                  case measure => simp [intOf]; omega
                | false =>
                  rw [hl] at hlk2
                  by_cases hd : d = 1
                  · rw [SC.out, if_pos ⟨hl, hd⟩] at c1
                    subst hd
                    clear SC hl
                    generalize PC c t >>> 7 = z at hlk hlk2
                    generalize PC c t = x at hlk c0
                    go_wp2
                    go_quiet (fail)
                    go_wp2
                    go_roundw
                    case rel => exact ⟨t + 1, by omega, by go_num, g0, below_drewN gb.out _⟩
                    case measure => simp [intOf]; omega
                  · rw [SC.out, if_neg (fun q => hd q.2)] at c1
                    have hd2 : ((d : Int) != 1) = true := by rw [bne_iff_ne]; omega
                    clear SC hl
                    generalize PC c t >>> 7 = z at hlk hlk2
                    generalize PC c t = x at hlk c0 c1
                    go_wp2
                    go_quiet (fail)
                    go_wp2
                    go_roundw
                    case rel => exact ⟨t + 1, by omega, by go_num, g0, below_drewN gb.out _⟩
                    case measure => simp [intOf]; omega
              · have ev1 : (n8 (bty v j &&& 1#8) == 0) = false := by rw [n8_eq0]; simpa using hev
                have od := OD.out hev
                clear EV OD hev
                generalize bty v j &&& 1#8 = y1 at by2 ev1
                rw [od] at by1 by2
                generalize pcl (bty v j) = y3 at by1 by2 SC
                clear od
                cases hl : lk (PC c t) with
                | true =>
                  rw [hl] at hlk2
                  rw [SC.out, if_neg (by rw [hl]; simp)] at c1
                  clear SC hl
                  generalize PC c t >>> 7 = z at hlk hlk2
                  generalize PC c t = x at hlk c0 c1
                  go_wp2
                  go_quiet (fail)
                  go_wp2
                  go_roundw
                  case rel => exact ⟨t + 1, by omega, by go_num, g0, below_drewN gb.out _⟩
                  case measure => simp [intOf]; omega
                | false =>
                  rw [hl] at hlk2
                  by_cases hd : d = 1
                  · rw [SC.out, if_pos ⟨hl, hd⟩] at c1
                    subst hd
                    clear SC hl
                    generalize PC c t >>> 7 = z at hlk hlk2
                    generalize PC c t = x at hlk c0
                    go_wp2
                    go_quiet (fail)
                    go_wp2
                    go_roundw
                    case rel => exact ⟨t + 1, by omega, by go_num, g0, below_drewN gb.out _⟩
                    case measure => simp [intOf]; omega
                  · rw [SC.out, if_neg (fun q => hd q.2)] at c1
                    have hd2 : ((d : Int) != 1) = true := by rw [bne_iff_ne]; omega
                    clear SC hl
                    generalize PC c t >>> 7 = z at hlk hlk2
                    generalize PC c t = x at hlk c0 c1
                    go_wp2
                    go_quiet (fail)
                    go_wp2
                    go_roundw
                    case rel => exact ⟨t + 1, by omega, by go_num, g0, below_drewN gb.out _⟩
                    case measure => simp [intOf]; omega
            · obtain rfl : t = 16 := by omega
              have e16 : ((16 : Nat) : Int) = 16 := rfl
              rw [e16]
              clear ht hlt e16
              go_wp2
              go_ret
              exact ⟨rfl, BW3.out _ gb.out⟩
        · have n0 : ((k : Int) != 0) = true := by rw [bne_iff_ne]; omega
          have n2 : ((k : Int) != 2) = true := by rw [bne_iff_ne]; omega
          have hSC : Hid (∀ W, Calls Tryd.prog 12 #[.agg (pc (PC c) (PA a)), .int .i64 k, .int .u64 (n64 v)] W fun e w' => e = .returned (.agg (pc (PC c) (PA a))) ∧ Below W.heap.size W w') := fun W => by
            have := SetCfg_c (PC c) (PA a) k v W
            rw [PC_twice', PA_twice', sR, if_neg (by omega), if_neg (by omega)] at this
            exact this
          have heqP : ∀ W, (Op.equalIn 10000 26 (.agg (pc (PC c) (PA a))) (.agg (pc (PC c) (PA a)))).run Tryd.prog W = .ok true W := fun W => eq_pc W _ _
          clear HPx e32 e33 e34 e35 e36 e37
          obtain ⟨_, _, f33, f34, f35, f36, f37, f32⟩ := A3.out W6 B6.out
          have HPx : Hid (Row W6 gp (pc (PC c) (PA a)) 26) := (A3.out W6 B6.out).1
          have lpx := HPx.out.lt
          have lwx : w.heap.size < W6.heap.size := by have := HGE.out; omega
          have l32 := later_at lwx f32
          have l33 := later_at lwx f33
          have QP : Hid (∀ j u, (pc (PC c) (PA a))[j]? = some u → W6.cell? ⟨gp, 0 + j, none⟩ = some u) := fun j u hu => by rw [Nat.zero_add, HPx.out.cell]; exact hu
          have nn := later_nonempty W6
          go_wp2
          refine wp_region_later (x0 := Later.start W6) (by kernel_rfl) (by kernel_rfl) ?_
          repeat (first | (refine BigFrame.wpQuiet_want (by rfl) fun K hK => ?_; refine quiet_load_agg 26 _ (by rfl) gp 0 (by rfl) _ _ lpx QP.out Tryd.underlying26 (by rfl) (by rw [pc_size]; kernel_rfl) (hK _ ?_); clear hK K; simp only [Act.put, List.setIfInBounds_toArray, List.set_cons_succ, List.set_cons_zero]) | (go_big_quiet_step ((go_at_call 12; exact calls_later (hSC.out _)))))
          refine wpQuiet_nil ?_
          rintro w' ⟨x9, rfl⟩
          go_wp2
          go_ret
          exact ⟨rfl, BW3.out _ (B6.out.trans (x9.below.mono B6.out.size))⟩
  · have n0 : (i != 0) = true := by rw [bne_iff_ne]; omega
    have n2 : (i != 2) = true := by rw [bne_iff_ne]; omega
    have hSC : Hid (∀ W, Calls Tryd.prog 12 #[.agg (pc (PC c) (PA a)), .int .i64 i, .int .u64 (n64 v)] W fun e w' => e = .returned (.agg (pc (PC c) (PA a))) ∧ Below W.heap.size W w') := fun W => by
      have := SetCfg_c (PC c) (PA a) i v W
      rw [PC_twice', PA_twice', sR, if_neg (by omega), if_neg (by omega)] at this
      exact this
    have heqP : ∀ W, (Op.equalIn 10000 26 (.agg (pc (PC c) (PA a))) (.agg (pc (PC c) (PA a)))).run Tryd.prog W = .ok true W := fun W => eq_pc W _ _
    clear k32_W3 k33_W3 k34_W3 k35_W3 k36_W3 k37_W3
    by_cases h0 : 0 ≤ i
    · have h16 : ¬ i < 16 := by omega
      clear hr
      obtain ⟨_, _, f33, f34, f35, f36, f37, f32⟩ := A3.out W3 B3.out
      have HPx : Hid (Row W3 gp (pc (PC c) (PA a)) 26) := (A3.out W3 B3.out).1
      have lpx := HPx.out.lt
      have lwx : w.heap.size < W3.heap.size := by have := HGE.out; omega
      have l32 := later_at lwx f32
      have l33 := later_at lwx f33
      have QP : Hid (∀ j u, (pc (PC c) (PA a))[j]? = some u → W3.cell? ⟨gp, 0 + j, none⟩ = some u) := fun j u hu => by rw [Nat.zero_add, HPx.out.cell]; exact hu
      have nn := later_nonempty W3
      go_wp2
      refine wp_region_later (x0 := Later.start W3) (by kernel_rfl) (by kernel_rfl) ?_
      repeat (first | (refine BigFrame.wpQuiet_want (by rfl) fun K hK => ?_; refine quiet_load_agg 26 _ (by rfl) gp 0 (by rfl) _ _ lpx QP.out Tryd.underlying26 (by rfl) (by rw [pc_size]; kernel_rfl) (hK _ ?_); clear hK K; simp only [Act.put, List.setIfInBounds_toArray, List.set_cons_succ, List.set_cons_zero]) | (go_big_quiet_step ((go_at_call 12; exact calls_later (hSC.out _)))))
      refine wpQuiet_nil ?_
      rintro w' ⟨x9, rfl⟩
      go_wp2
      go_ret
      exact ⟨rfl, BW3.out _ (B3.out.trans (x9.below.mono B3.out.size))⟩
    · clear hr
      obtain ⟨_, _, f33, f34, f35, f36, f37, f32⟩ := A3.out W3 B3.out
      have HPx : Hid (Row W3 gp (pc (PC c) (PA a)) 26) := (A3.out W3 B3.out).1
      have lpx := HPx.out.lt
      have lwx : w.heap.size < W3.heap.size := by have := HGE.out; omega
      have l32 := later_at lwx f32
      have l33 := later_at lwx f33
      have QP : Hid (∀ j u, (pc (PC c) (PA a))[j]? = some u → W3.cell? ⟨gp, 0 + j, none⟩ = some u) := fun j u hu => by rw [Nat.zero_add, HPx.out.cell]; exact hu
      have nn := later_nonempty W3
      go_wp2
      refine wp_region_later (x0 := Later.start W3) (by kernel_rfl) (by kernel_rfl) ?_
      repeat (first | (refine BigFrame.wpQuiet_want (by rfl) fun K hK => ?_; refine quiet_load_agg 26 _ (by rfl) gp 0 (by rfl) _ _ lpx QP.out Tryd.underlying26 (by rfl) (by rw [pc_size]; kernel_rfl) (hK _ ?_); clear hK K; simp only [Act.put, List.setIfInBounds_toArray, List.set_cons_succ, List.set_cons_zero]) | (go_big_quiet_step ((go_at_call 12; exact calls_later (hSC.out _)))))
      refine wpQuiet_nil ?_
      rintro w' ⟨x9, rfl⟩
      go_wp2
      go_ret
      exact ⟨rfl, BW3.out _ (B3.out.trans (x9.below.mono B3.out.size))⟩
end Go.Proofs.YtckgjfkodgeagabDoor
namespace Go.Proofs.YtckgjfkodgeagabDoor.pmpTakes
set_option linter.unusedVariables false
open Go.ChangeShapes Go.WideShapes Go.ChangeAt Go.RowKit Go.Deep Go.Lib Go.Shelf
theorem own : ownKnob Tryd.prog.godebug = none := by kernel_rfl
theorem laidOut : laidOutB Tryd.prog = true := by kernel_rfl
set_option maxRecDepth 100000 in
set_option maxHeartbeats 2000000 in
theorem lifted (os : Os) (started : os.Started) (H : Type) (enc : TypeId × Value → H) :
    ReturnsInHanded {} Tryd.checked os 3 .any (fun w args => (Rows.pmpTakesSpec.pre enc Tryd.prog Tryd.f3 [] false w args ∧ laidMetH Tryd.prog Rows.pmpTakesRow.laid w) ∧ sizedMet enc Tryd.prog Tryd.f3 (OpenSpec.ofChange Rows.pmpTakesSpec) false w args)
      (Rows.pmpTakesSpec.post enc Tryd.prog Tryd.f3 false true false false) := by
  refine returnsInHanded_of_change_and (C := Tryd.checked) (X := fun w _ => laidMetH Tryd.prog Rows.pmpTakesRow.laid w) (fun _ _ _ hh h => h.of_heap hh) own started (by kernel_rfl) Tryd.func3
    (ChangeSpec.witness_shaped (enc := enc) (C := Tryd.checked) (os := os) (X := fun w _ => laidMetH Tryd.prog Rows.pmpTakesRow.laid w) false (World.laidAll Tryd.prog os Rows.pmpTakesRow.laid) #[.agg (askc (fun _ => 0#8) (fun _ => 0#64) 0 0#64 0 0#64 0 0)] 8 (World.laidAll_os _ _ _)
      (World.shaped_of_ZipB (by kernel_rfl) (by kernel_rfl)) (by kernel_rfl) (by kernel_rfl) (by kernel_rfl)
      (by rw [MakeChecks.laidMetH_plain _ _ _ (by kernel_rfl)]; exact laidMet_laidAll _ (by kernel_rfl) (by kernel_rfl))) ?_
  intro W base args ds gs before hval0 hW _ hz0 hL _
  have hval : ∀ (j : Nat) t v, Tryd.f3.params[j]? = some t → args[j]? = some v → Value.okWide Tryd.prog W .any base t v := hval0
  have hW' := hW
  obtain ⟨p, q, hA0, hV, rfl, _, _⟩ := hW
  have hA : DataW.TrodAll enc Tryd.prog W 0 (fun _ => true) true Tryd.f3.params.toList args.toList ds p := hA0
  rw [Tryd.params3] at hA hval
  obtain ⟨v0, d0, rfl, rfl, h0⟩ := trodAll_one hA
  obtain ⟨rfl, rfl⟩ := trodVars_none hV
  have k0 := h0
  have lt0 : ∀ x ∈ p, x.block < W.heap.size := by obtain ⟨m, hm⟩ := k0; exact DataW.trod_lt m _ _ _ hm
  obtain ⟨cs, rfl, _⟩ := okWide_struct Tryd.underlying28 (hval 0 28 v0 rfl rfl)
  obtain ⟨fuel, hf⟩ := h0
  obtain ⟨c, a, i, v, m, ad, s, b, hcs, bi, bm, bs, bb⟩ := open_ask Tryd.underlying28 (by kernel_rfl) ⟨rfl, rfl⟩ ⟨rfl, rfl⟩ ⟨rfl, rfl⟩ ⟨rfl, rfl⟩ ⟨rfl, rfl⟩ ⟨rfl, rfl⟩ ⟨rfl, rfl⟩ hf
  have hcs' : cs = askc c a i v m ad s b := by
    cases cs
    simpa [Value.cells] using congrArg List.toArray hcs
  subst hcs'
  rw [MakeChecks.laidMetH_plain _ _ _ (by kernel_rfl)] at hL
  have hT : Tb W := tb_of_reads (Lib.laidMet.reads hL (.head _))
  clear hA0 hval0 hz0
  refine (takes_walk c a i v m ad s b W hT).mono fun e W' ⟨he, bel⟩ => ?_
  subst he
  exact ⟨_, rfl, _, _, _, [], _, [], hW', trodAll_mk1 (shut_bool Tryd.underlying4 _), trodAll_mk1 (Below.trod laidOut (by kernel_rfl) (of_decide_eq_true (by kernel_rfl)) k0 bel lt0), rfl, bel.frame _, fun h => by cases h⟩
theorem over : Rows.pmpTakesRow.holds Tryd.pinned (OpenSpec.ofChange Rows.pmpTakesSpec) :=
  OpenClaim.holds_of_wide 3 Tryd.f3 rfl rfl rfl rfl rfl rfl rfl ⟨rfl, rfl, rfl, rfl, rfl⟩ rfl rfl rfl rfl rfl (by kernel_rfl) Tryd.func3 (by kernel_rfl)
    (of_decide_eq_true (by kernel_rfl)) (by unfold Func.isWrapper; first | (rw [if_pos (by decide +kernel)]; kernel_rfl) | (rw [if_neg (by decide +kernel)]; exact ⟨rfl, rfl⟩))
    (fun os started H enc _ => lifted os started H enc)
theorem card : Rows.PmpTakesCardSaid :=
  Claim7.holds_tied_plain_at .later [] [.data] true (true, "1c4384b49c5e3182a4a4b6f33867ae6d37786a646ecd3ed390c16602ca81cfd3") false over (fun _ h => by cases h) (by kernel_rfl) (fun _ h => by cases h) pmpTakes_row_tie rfl ⟨rfl, rfl⟩ (by kernel_rfl) rfl
    (fun f fn hf hfn => by
      obtain rfl : f = 3 := Option.some.inj ((show Tryd.prog.funcNamed "anvil/anvillaw04.PmpTakes" = some 3 by kernel_rfl).symm.trans hf) |>.symm
      obtain rfl : fn = Tryd.f3 := (Option.some.inj (Tryd.func3.symm.trans hfn)).symm
      exact ⟨by kernel_rfl, fun j t ht => by
        rw [Tryd.params3] at ht
        have hm : t ∈ [28] := by simpa using Array.mem_of_getElem? ht
        have hall : ([28].all fun u => !Tryd.prog.wantsStandIn u) = true := by kernel_rfl
        exact (show Tryd.prog.wantsStandIn t = false by simpa using List.all_eq_true.1 hall t hm)⟩)
    (by kernel_rfl)
end Go.Proofs.YtckgjfkodgeagabDoor.pmpTakes
namespace Go.Proofs.YtckgjfkodgeagabDoor
theorem pmpTakes_holds : Rows.PmpTakesCardSaid := pmpTakes.card
end Go.Proofs.YtckgjfkodgeagabDoor
