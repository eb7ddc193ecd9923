/-
  PmpBytes.
-/
import Derived.Test.YtckgjfkodgeagabDoorPma
import Derived.Test.YtckgjfkodgeagabDoorPli
import Derived.Test.YtckgjfkodgeagabDoorPak
import Derived.Test.YtckgjfkodgeagabDoorPcd
import Derived.ShutString
import Derived.ChangeOld
namespace Go.Proofs.YtckgjfkodgeagabDoor
set_option linter.unusedVariables false
open Go.ChangeShapes Go.WideShapes Go.ChangeAt Go.RowKit Go.Deep
theorem wpList_load_aggG {P : Program} {ops : Array Oper} {rest : List Oper} {o : Oper} {a : Act} {w : World} {Q : Exit → Act → World → Prop} (hw : Region.wanted o (yielded ops a.tmps) = true) (ty : TypeId) (x : Operand) (ho : o.op = .load ty x)
    (g off : Nat) (hx : a.eval x = .pointer (some ⟨g, off, none⟩)) (cs : Array Value) (d : TypeDesc) (hc : ∀ j v, cs[j]? = some v → w.cell? ⟨g, off + j, none⟩ = some v)
    (hu : P.underlying ty = some d) (hd : (match d with | .struct _ | .array _ _ => true | _ => false) = true) (hi : (P.info? ty).map (·.size) = some cs.size)
    (h : wpList P ops Q rest (a.put o.dst (.agg cs)) w) : wpList P ops Q (o :: rest) a w :=
  BigFrame.wpList_want hw fun _ hK => by
    unfold Oper.wp execOp
    simp only [ho, hx, Instr.loadAt, Instr.sureAddr, Sem.run_bind, Sem.run_pure, Result.andThen_ok, run_load_agg w ty g off cs d hc hu hd hi]
    exact hK _ _ h
set_option maxRecDepth 100000 in
set_option maxHeartbeats 2000000 in
theorem bytes_walk (c : Nat → BitVec 8) (a : Nat → BitVec 64) (i : Int) (v : BitVec 64) (m : Int) (ad : BitVec 64) (s b : Int) (w : World) (hT : Tb w) :
    Calls Tryd.prog 5 #[.agg (askc c a i v m ad s b)] w fun e w' => e = .returned (.bool true) ∧ Below w.heap.size w w' := by
  obtain ⟨W0, hW0, r0, b0, s0⟩ := start1 w (askc c a i v m ad s b) 28
  have HS : Hid (W0.heap.size = w.heap.size + 1) := s0
  have HT : Hid (Tb W0) := hT.next b0.out
  clear s0 hT
  have AX : Hid (∀ W, Below W0.heap.size W0 W → (∀ j u, (pc c a)[j]? = some u → W.cell? ⟨w.heap.size, 0 + j, none⟩ = some u) ∧ Tb W ∧ W.cell? ⟨w.heap.size, 33, none⟩ = some (.int .u64 (n64 v)) ∧ W.cell? ⟨w.heap.size, 34, none⟩ = some (.int .i64 m) ∧ W.cell? ⟨w.heap.size, 35, none⟩ = some (.int .u64 (n64 ad)) ∧ W.cell? ⟨w.heap.size, 36, none⟩ = some (.int .i64 s) ∧ W.cell? ⟨w.heap.size, 37, none⟩ = some (.int .i64 b) ∧ W.cell? ⟨w.heap.size, 32, none⟩ = some (.int .i64 i)) := fun W hb => by
    have hh := r0.out.later hb (by rw [HS.out]; omega)
    obtain ⟨x2, x3, x4, x5, x6, x7⟩ := askc_rest c a i v m ad s b hh
    exact ⟨askc_pmp c a i v m ad s b hh, HT.out.next hb, x3, x4, x5, x6, x7, x2⟩
  have B0 : Hid (Below W0.heap.size W0 W0) := Below.refl _ _
  have BW : Hid (∀ W, Below W0.heap.size W0 W → Below w.heap.size w W) := fun W hb => b0.out.trans (hb.mono (by rw [HS.out]; omega))
  have hC : Hid (∀ (W : World) (m' : Int) (ad' : BitVec 64) (s' b' : Int), Tb W → Calls Tryd.prog 14 #[.agg (pc c a), .int .i64 m', .int .u64 (n64 ad'), .int .i64 s', .int .i64 b'] W fun e w' => e = .returned (.bool (ckA (PC c) (PA a) m' ad' s' b')) ∧ Below W.heap.size W w') := fun W m' ad' s' b' h => Check_c c a m' ad' s' b' W h
  have hL : Hid (∀ W : World, Tb W → Calls Tryd.prog 8 #[] W fun e w' => e = .returned (.bool true) ∧ Below W.heap.size W w') := fun W h => live_c W h
  cases hU : ckA (PC c) (PA a) 0 ad s b with
  | false =>
    have hC0 : Hid (∀ W, Tb W → Calls Tryd.prog 14 #[.agg (pc c a), .int .i64 0, .int .u64 (n64 ad), .int .i64 s, .int .i64 b] W fun e w' => e = .returned (.bool false) ∧ Below W.heap.size W w') := fun W h => by
      have := hC.out W 0 ad s b h
      rw [hU] at this
      exact this
    clear hU
    go_enter Tryd.func5, Tryd.ntmps5
    go_upto_region 1 with fail
    clear hW0
    go_wp2_with (first | (refine wpList_load_aggG (by rfl) _ _ (by rfl) w.heap.size 0 (by rfl) (pc c a) _ L_w1.out Tryd.underlying26 (by rfl) (by rw [pc_size]; kernel_rfl) ?_) | (go_at_call 8; refine (hL.out _ HT.out).mono ?_; rintro e w1 ⟨rfl, hb⟩; have B_w1 : Hid (Below W0.heap.size W0 w1) := B0.out.trans (hb.mono B0.out.size); have L_w1 : Hid (∀ j u, (pc c a)[j]? = some u → w1.cell? ⟨w.heap.size, 0 + j, none⟩ = some u) := (AX.out w1 B_w1.out).1; obtain ⟨_, _, k33_w1, k34_w1, k35_w1, k36_w1, k37_w1, k32_w1⟩ := AX.out w1 B_w1.out; clear hb) | (go_at_call 14; refine (hC0.out _ (AX.out _ B_w1.out).2.1).mono ?_; rintro e w2 ⟨rfl, hb⟩; have B_w2 : Hid (Below W0.heap.size W0 w2) := B_w1.out.trans (hb.mono B_w1.out.size); have L_w2 : Hid (∀ j u, (pc c a)[j]? = some u → w2.cell? ⟨w.heap.size, 0 + j, none⟩ = some u) := (AX.out w2 B_w2.out).1; obtain ⟨_, _, k33_w2, k34_w2, k35_w2, k36_w2, k37_w2, k32_w2⟩ := AX.out w2 B_w2.out; clear hb))
    go_ret
    exact ⟨rfl, BW.out _ B_w2.out⟩
  | true =>
    have hok := ckA_ok hU
    obtain ⟨n, rfl⟩ : ∃ n : Nat, s = n := ⟨s.toNat, by have := hok.2.1; omega⟩
    have hn1 : decide ((n : Int) < 1) = false := decide_eq_false (by have := hok.2.1; omega)
    have hn8 : decide ((8 : Int) < n) = false := decide_eq_false (by have := hok.2.1; omega)
    have hC0 : Hid (∀ W, Tb W → Calls Tryd.prog 14 #[.agg (pc c a), .int .i64 0, .int .u64 (n64 ad), .int .i64 n, .int .i64 b] W fun e w' => e = .returned (.bool true) ∧ Below W.heap.size W w') := fun W h => by
      have := hC.out W 0 ad n b h
      rw [hU] at this
      exact this
    have hC3 : Hid (∀ W, Tb W → Calls Tryd.prog 14 #[.agg (pc c a), .int .i64 3, .int .u64 (n64 ad), .int .i64 n, .int .i64 b] W fun e w' => e = .returned (.bool true) ∧ Below W.heap.size W w') := fun W h => by
      have := hC.out W 3 ad n b h
      rw [passes_M hU] at this
      exact this
    have hCb : Hid (∀ (j : Nat), j < n → ∀ W, Tb W → Calls Tryd.prog 14 #[.agg (pc c a), .int .i64 0, .int .u64 (n64 (ad + BitVec.ofNat 64 j)), .int .i64 1, .int .i64 b] W fun e w' => e = .returned (.bool true) ∧ Below W.heap.size W w') := fun j hj W h => by
      have := hC.out W 0 (ad + BitVec.ofNat 64 j) 1 b h
      rw [(passes_byte hU j hj).1] at this
      exact this
    have hGb : Hid (∀ (j : Nat), j < n → ∀ t ∈ [(1 : Int), 2, 4], (bits .and .i64 b t != 0) = true → ∀ W, Tb W → Calls Tryd.prog 16 #[.agg (pc c a), .int .u64 (n64 (ad + BitVec.ofNat 64 j)), .int .i64 t] W fun e w' => e = .returned (.bool true) ∧ Below W.heap.size W w') := fun j hj t ht hbt W h => by
      have := Granted_c c a (ad + BitVec.ofNat 64 j) t W h
      rw [(passes_byte hU j hj).2 t ht hbt] at this
      exact this
    have HN8 : Hid (n ≤ 8) := by have := hok.2.1; unfold Hid; omega
    clear hU hok
    have F1 : Hid True := trivial
    go_enter Tryd.func5, Tryd.ntmps5
    go_upto_region 1 with fail
    clear hW0
    go_wp2_with (first | (refine wpList_load_aggG (by rfl) _ _ (by rfl) w.heap.size 0 (by rfl) (pc c a) _ L_w2.out Tryd.underlying26 (by rfl) (by rw [pc_size]; kernel_rfl) ?_) | (refine wpList_load_aggG (by rfl) _ _ (by rfl) w.heap.size 0 (by rfl) (pc c a) _ L_w1.out Tryd.underlying26 (by rfl) (by rw [pc_size]; kernel_rfl) ?_) | (go_at_call 8; refine (hL.out _ HT.out).mono ?_; rintro e w1 ⟨rfl, hb⟩; have B_w1 : Hid (Below W0.heap.size W0 w1) := B0.out.trans (hb.mono B0.out.size); have L_w1 : Hid (∀ j u, (pc c a)[j]? = some u → w1.cell? ⟨w.heap.size, 0 + j, none⟩ = some u) := (AX.out w1 B_w1.out).1; obtain ⟨_, _, k33_w1, k34_w1, k35_w1, k36_w1, k37_w1, k32_w1⟩ := AX.out w1 B_w1.out; clear hb) | (clear F1; (go_at_call 14; refine (hC0.out _ (AX.out _ B_w1.out).2.1).mono ?_; rintro e w2 ⟨rfl, hb⟩; have B_w2 : Hid (Below W0.heap.size W0 w2) := B_w1.out.trans (hb.mono B_w1.out.size); have L_w2 : Hid (∀ j u, (pc c a)[j]? = some u → w2.cell? ⟨w.heap.size, 0 + j, none⟩ = some u) := (AX.out w2 B_w2.out).1; obtain ⟨_, _, k33_w2, k34_w2, k35_w2, k36_w2, k37_w2, k32_w2⟩ := AX.out w2 B_w2.out; clear hb)) | (go_at_call 14; refine (hC3.out _ (AX.out _ B_w2.out).2.1).mono ?_; rintro e w3 ⟨rfl, hb⟩; have B_w3 : Hid (Below W0.heap.size W0 w3) := B_w2.out.trans (hb.mono B_w2.out.size); have L_w3 : Hid (∀ j u, (pc c a)[j]? = some u → w3.cell? ⟨w.heap.size, 0 + j, none⟩ = some u) := (AX.out w3 B_w3.out).1; obtain ⟨_, _, k33_w3, k34_w3, k35_w3, k36_w3, k37_w3, k32_w3⟩ := AX.out w3 B_w3.out; clear hb))
    go_loopw [3] (fun x wr => ∃ j : Nat, j ≤ n ∧ x = .int .i64 j ∧ Hid (Below W0.heap.size W0 wr)) (fun x _ => n - (intOf x).toNat)
    case atStart => exact ⟨0, by omega, rfl, B_w3⟩
    case round =>
      clear k33_w1 k34_w1 k35_w1 k36_w1 k37_w1 k32_w1 k33_w2 k34_w2 k35_w2 k36_w2 k37_w2 k32_w2 k33_w3 k34_w3 k35_w3 k36_w3 k37_w3 k32_w3
      obtain ⟨j, hj, rfl, gb⟩ := hrel
      obtain ⟨_, _, k33, k34, k35, k36, k37, k32⟩ := AX.out wr gb.out
      have L0 : Hid (∀ j u, (pc c a)[j]? = some u → wr.cell? ⟨w.heap.size, 0 + j, none⟩ = some u) := (AX.out wr gb.out).1
      have T0 : Hid (Tb wr) := (AX.out wr gb.out).2.1
      by_cases hlt : j < n
      · have hlt2 : (j : Int) < n := by omega
        have hj8 : (j : Int) < 8 := by have := HN8.out; omega
        have HA := ad_add ad j (by have := HN8.out; omega)
        have HCB := hCb.out j hlt
        have HGB := hGb.out j hlt
        have HCB' : Hid (∀ W, Tb W → Calls Tryd.prog 14 #[.agg (pc c a), .int .i64 0, .int .u64 (n64 (ad + BitVec.ofNat 64 j)), .int .i64 1, .int .i64 b] W fun e w' => e = .returned (.bool true) ∧ Below W.heap.size W w') := HCB
        have HGB' : Hid (∀ t ∈ [(1 : Int), 2, 4], (bits .and .i64 b t != 0) = true → ∀ W, Tb W → Calls Tryd.prog 16 #[.agg (pc c a), .int .u64 (n64 (ad + BitVec.ofNat 64 j)), .int .i64 t] W fun e w' => e = .returned (.bool true) ∧ Below W.heap.size W w') := HGB
        clear HCB HGB
        generalize ad + BitVec.ofNat 64 j = x at HA HCB' HGB'
        go_wp2_with (first | (refine wpList_load_aggG (by rfl) _ _ (by rfl) w.heap.size 0 (by rfl) (pc c a) _ L0.out Tryd.underlying26 (by rfl) (by rw [pc_size]; kernel_rfl) ?_) | (go_at_call 14; refine (HCB'.out _ T0.out).mono ?_; rintro e w4 ⟨rfl, hb⟩; have B_w4 : Hid (Below W0.heap.size W0 w4) := gb.out.trans (hb.mono gb.out.size); have L_w4 : Hid (∀ j u, (pc c a)[j]? = some u → w4.cell? ⟨w.heap.size, 0 + j, none⟩ = some u) := (AX.out w4 B_w4.out).1; obtain ⟨_, _, k33_w4, k34_w4, k35_w4, k36_w4, k37_w4, k32_w4⟩ := AX.out w4 B_w4.out; clear hb))
        go_loopw [5] (fun y wq => ∃ t : Nat, t ≤ 3 ∧ y = .int .i64 ((2 ^ t : Nat) : Int) ∧ Hid (Below W0.heap.size W0 wq)) (fun y _ => 8 - (intOf y).toNat)
        case atStart => exact ⟨0, by omega, rfl, B_w4⟩
        case round =>
          clear k33_w4 k34_w4 k35_w4 k36_w4 k37_w4 k32_w4
          obtain ⟨t, ht, rfl, gq⟩ := hrel
          obtain ⟨_, _, q33, q34, q35, q36, q37, q32⟩ := AX.out wr gq.out
          have L1 : Hid (∀ j u, (pc c a)[j]? = some u → wr.cell? ⟨w.heap.size, 0 + j, none⟩ = some u) := (AX.out wr gq.out).1
          have T1 : Hid (Tb wr) := (AX.out wr gq.out).2.1
          by_cases h3 : t < 3
          · obtain ⟨z, hz⟩ : ∃ z : Int, z = ((2 ^ t : Nat) : Int) := ⟨_, rfl⟩
            have hz9 : z ∈ [(1 : Int), 2, 4] ∧ ((2 ^ (t + 1) : Nat) : Int) = 2 * z := by
              subst hz
              match t, h3 with
              | 0, _ => exact ⟨by decide, rfl⟩
              | 1, _ => exact ⟨by decide, rfl⟩
              | 2, _ => exact ⟨by decide, rfl⟩
            have HZ : Hid (z ∈ [(1 : Int), 2, 4] ∧ ((2 ^ (t + 1) : Nat) : Int) = 2 * z) := hz9
            have z1 : 1 ≤ z := by have := hz9.1; simp at this; omega
            have z4 : z ≤ 4 := by have := hz9.1; simp at this; omega
            rw [← hz]
            clear hz hz9
            by_cases hbt : (bits .and .i64 b z != 0) = true
            · have HG2 : Hid (∀ W, Tb W → Calls Tryd.prog 16 #[.agg (pc c a), .int .u64 (n64 x), .int .i64 z] W fun e w' => e = .returned (.bool true) ∧ Below W.heap.size W w') := HGB'.out z HZ.out.1 hbt
              go_wp2_with (first | (refine wpList_load_aggG (by rfl) _ _ (by rfl) w.heap.size 0 (by rfl) (pc c a) _ L1.out Tryd.underlying26 (by rfl) (by rw [pc_size]; kernel_rfl) ?_) | (go_at_call 16; refine (HG2.out _ T1.out).mono ?_; rintro e w6 ⟨rfl, hb⟩; have B_w6 : Hid (Below W0.heap.size W0 w6) := gq.out.trans (hb.mono gq.out.size); have L_w6 : Hid (∀ j u, (pc c a)[j]? = some u → w6.cell? ⟨w.heap.size, 0 + j, none⟩ = some u) := (AX.out w6 B_w6.out).1; obtain ⟨_, _, k33_w6, k34_w6, k35_w6, k36_w6, k37_w6, k32_w6⟩ := AX.out w6 B_w6.out; clear hb))
              go_roundw
              case rel => exact ⟨t + 1, by omega, by rw [HZ.out.2], B_w6⟩
              case measure => simp [intOf]; omega
            · have hbf : (bits .and .i64 b z != 0) = false := by simpa using hbt
              clear hbt
              go_wp2
              go_roundw
              case rel => exact ⟨t + 1, by omega, by rw [HZ.out.2], gq⟩
              case measure => simp [intOf]; omega
          · obtain rfl : t = 3 := by omega
            have e8 : ((2 ^ 3 : Nat) : Int) = 8 := rfl
            rw [e8]
            clear e8 h3 ht
            go_wp2
            go_roundw
            case rel => exact ⟨j + 1, by omega, by go_num, gq⟩
            case measure => simp [intOf]; omega
      · obtain rfl : j = n := by omega
        go_wp2
        go_ret
        exact ⟨rfl, BW.out _ gb.out⟩
end Go.Proofs.YtckgjfkodgeagabDoor
namespace Go.Proofs.YtckgjfkodgeagabDoor.pmpBytes
set_option linter.unusedVariables false
open Go.ChangeShapes Go.WideShapes Go.ChangeAt Go.RowKit Go.Deep Go.Lib Go.Shelf
theorem own : ownKnob Tryd.prog.godebug = none := by kernel_rfl
theorem laidOut : laidOutB Tryd.prog = true := by kernel_rfl
set_option maxRecDepth 100000 in
set_option maxHeartbeats 2000000 in
theorem lifted (os : Os) (started : os.Started) (H : Type) (enc : TypeId × Value → H) :
    ReturnsInHanded {} Tryd.checked os 5 .any (fun w args => (Rows.pmpBytesSpec.pre enc Tryd.prog Tryd.f5 [] false w args ∧ laidMetH Tryd.prog Rows.pmpBytesRow.laid w) ∧ sizedMet enc Tryd.prog Tryd.f5 (OpenSpec.ofChange Rows.pmpBytesSpec) false w args)
      (Rows.pmpBytesSpec.post enc Tryd.prog Tryd.f5 false true false false) := by
  refine returnsInHanded_of_change_and (C := Tryd.checked) (X := fun w _ => laidMetH Tryd.prog Rows.pmpBytesRow.laid w) (fun _ _ _ hh h => h.of_heap hh) own started (by kernel_rfl) Tryd.func5
    (ChangeSpec.witness_shaped (enc := enc) (C := Tryd.checked) (os := os) (X := fun w _ => laidMetH Tryd.prog Rows.pmpBytesRow.laid w) false (World.laidAll Tryd.prog os Rows.pmpBytesRow.laid) #[.agg (askc (fun _ => 0#8) (fun _ => 0#64) 0 0#64 0 0#64 0 0)] 8 (World.laidAll_os _ _ _)
      (World.shaped_of_ZipB (by kernel_rfl) (by kernel_rfl)) (by kernel_rfl) (by kernel_rfl) (by kernel_rfl)
      (by rw [MakeChecks.laidMetH_plain _ _ _ (by kernel_rfl)]; exact laidMet_laidAll _ (by kernel_rfl) (by kernel_rfl))) ?_
  intro W base args ds gs before hval0 hW _ hz0 hL _
  have hval : ∀ (j : Nat) t v, Tryd.f5.params[j]? = some t → args[j]? = some v → Value.okWide Tryd.prog W .any base t v := hval0
  have hW' := hW
  obtain ⟨p, q, hA0, hV, rfl, _, _⟩ := hW
  have hA : DataW.TrodAll enc Tryd.prog W 0 (fun _ => true) true Tryd.f5.params.toList args.toList ds p := hA0
  rw [Tryd.params5] at hA hval
  obtain ⟨v0, d0, rfl, rfl, h0⟩ := trodAll_one hA
  obtain ⟨rfl, rfl⟩ := trodVars_none hV
  have k0 := h0
  have lt0 : ∀ x ∈ p, x.block < W.heap.size := by obtain ⟨m, hm⟩ := k0; exact DataW.trod_lt m _ _ _ hm
  obtain ⟨cs, rfl, _⟩ := okWide_struct Tryd.underlying28 (hval 0 28 v0 rfl rfl)
  obtain ⟨fuel, hf⟩ := h0
  obtain ⟨c, a, i, v, m, ad, s, b, hcs, bi, bm, bs, bb⟩ := open_ask Tryd.underlying28 (by kernel_rfl) ⟨rfl, rfl⟩ ⟨rfl, rfl⟩ ⟨rfl, rfl⟩ ⟨rfl, rfl⟩ ⟨rfl, rfl⟩ ⟨rfl, rfl⟩ ⟨rfl, rfl⟩ hf
  have hcs' : cs = askc c a i v m ad s b := by
    cases cs
    simpa [Value.cells] using congrArg List.toArray hcs
  subst hcs'
  rw [MakeChecks.laidMetH_plain _ _ _ (by kernel_rfl)] at hL
  have hT : Tb W := tb_of_reads (Lib.laidMet.reads hL (.head _))
  clear hA0 hval0 hz0
  refine (bytes_walk c a i v m ad s b W hT).mono fun e W' ⟨he, bel⟩ => ?_
  subst he
  exact ⟨_, rfl, _, _, _, [], _, [], hW', trodAll_mk1 (shut_bool Tryd.underlying4 _), trodAll_mk1 (Below.trod laidOut (by kernel_rfl) (of_decide_eq_true (by kernel_rfl)) k0 bel lt0), rfl, bel.frame _, fun h => by cases h⟩
theorem over : Rows.pmpBytesRow.holds Tryd.pinned (OpenSpec.ofChange Rows.pmpBytesSpec) :=
  OpenClaim.holds_of_wide 5 Tryd.f5 rfl rfl rfl rfl rfl rfl rfl ⟨rfl, rfl, rfl, rfl, rfl⟩ rfl rfl rfl rfl rfl (by kernel_rfl) Tryd.func5 (by kernel_rfl)
    (of_decide_eq_true (by kernel_rfl)) (by unfold Func.isWrapper; first | (rw [if_pos (by decide +kernel)]; kernel_rfl) | (rw [if_neg (by decide +kernel)]; exact ⟨rfl, rfl⟩))
    (fun os started H enc _ => lifted os started H enc)
theorem card : Rows.PmpBytesCardSaid :=
  Claim7.holds_tied_plain_at .later [] [.data] true (true, "1c4384b49c5e3182a4a4b6f33867ae6d37786a646ecd3ed390c16602ca81cfd3") false over (fun _ h => by cases h) (by kernel_rfl) (fun _ h => by cases h) pmpBytes_row_tie rfl ⟨rfl, rfl⟩ (by kernel_rfl) rfl
    (fun f fn hf hfn => by
      obtain rfl : f = 5 := Option.some.inj ((show Tryd.prog.funcNamed "anvil/anvillaw04.PmpBytes" = some 5 by kernel_rfl).symm.trans hf) |>.symm
      obtain rfl : fn = Tryd.f5 := (Option.some.inj (Tryd.func5.symm.trans hfn)).symm
      exact ⟨by kernel_rfl, fun j t ht => by
        rw [Tryd.params5] at ht
        have hm : t ∈ [28] := by simpa using Array.mem_of_getElem? ht
        have hall : ([28].all fun u => !Tryd.prog.wantsStandIn u) = true := by kernel_rfl
        exact (show Tryd.prog.wantsStandIn t = false by simpa using List.all_eq_true.1 hall t hm)⟩)
    (by kernel_rfl)
end Go.Proofs.YtckgjfkodgeagabDoor.pmpBytes
namespace Go.Proofs.YtckgjfkodgeagabDoor
theorem pmpBytes_holds : Rows.PmpBytesCardSaid := pmpBytes.card
end Go.Proofs.YtckgjfkodgeagabDoor
