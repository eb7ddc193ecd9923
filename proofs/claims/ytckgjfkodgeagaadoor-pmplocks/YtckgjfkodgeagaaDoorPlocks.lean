/-
  PmpLocks.
-/
import Derived.Test.YtckgjfkodgeagaaDoorPmc
import Derived.Test.YtckgjfkodgeagaaDoorPli
import Derived.Test.YtckgjfkodgeagaaDoorPrn
import Derived.Test.YtckgjfkodgeagaaDoorPcd
import Derived.SizedLaws
import Derived.ShutString
import Derived.ChangeOld
namespace Go.Proofs.YtckgjfkodgeagaaDoor
set_option linter.unusedVariables false
open Go.ChangeShapes Go.WideShapes Go.ChangeAt Go.RowKit Go.Deep
theorem wpList_load_aggG {P : Program} {ops : Array Oper} {rest : List Oper} {o : Oper} {a : Act} {w : World} {Q : Exit → Act → World → Prop} (hw : Region.wanted o (yielded ops a.tmps) = true) (ty : TypeId) (x : Operand) (ho : o.op = .load ty x)
    (g off : Nat) (hx : a.eval x = .pointer (some ⟨g, off, none⟩)) (cs : Array Value) (d : TypeDesc) (hc : ∀ j v, cs[j]? = some v → w.cell? ⟨g, off + j, none⟩ = some v)
    (hu : P.underlying ty = some d) (hd : (match d with | .struct _ | .array _ _ => true | _ => false) = true) (hi : (P.info? ty).map (·.size) = some cs.size)
    (h : wpList P ops Q rest (a.put o.dst (.agg cs)) w) : wpList P ops Q (o :: rest) a w :=
  BigFrame.wpList_want hw fun _ hK => by
    unfold Oper.wp execOp
    simp only [ho, hx, Instr.loadAt, Instr.sureAddr, Sem.run_bind, Sem.run_pure, Result.andThen_ok, run_load_agg w ty g off cs d hc hu hd hi]
    exact hK _ _ h
theorem tb_later {W : World} (h : Tb W) (x : Later W) : Tb x.1 := h.next x.below
theorem lk_shr0 : ∀ x : BitVec 8, (n8 (x >>> 7) == 0) = !lk x := by decide +kernel
theorem PC_sC {C : Nat → BitVec 8} (f : Nat) (v : BitVec 64) (h : PC C = C) : PC (sC C f v) = sC C f v := by
  funext j; show pcl (sC C f v j) = sC C f v j
  unfold sC; split
  · exact pcl_twice' _
  · exact congrFun h j
theorem PC_sR {C : Nat → BitVec 8} {i : Int} {v : BitVec 64} (h : PC C = C) : PC (sR C i v) = sR C i v := by
  unfold sR; split
  · exact PC_sC _ _ h
  · split
    · exact PC_sC _ _ h
    · exact h
theorem PA_sA {C : Nat → BitVec 8} {A : Nat → BitVec 64} {i : Int} {v : BitVec 64} (h : PA A = A) : PA (sA C A i v) = sA C A i v := by
  unfold sA; split
  · exact h
  · funext j; show pad (upd A i.toNat (pad v) j) = upd A i.toNat (pad v) j
    unfold upd; split
    · unfold pad; rw [BitVec.and_assoc, BitVec.and_self]
    · exact congrFun h j
theorem askc_ones (c : Nat → BitVec 8) (a : Nat → BitVec 64) (i : Int) (v : BitVec 64) (m : Int) (ad : BitVec 64) (s b : Int) : (askc c a i v m ad s b).all (·.oneCell') = true := by
  unfold askc
  rw [Array.all_append, pc_ones, Bool.true_and]
  simp [Value.oneCell']
set_option maxRecDepth 100000 in
set_option maxHeartbeats 16000000 in
theorem locks_walk (c : Nat → BitVec 8) (a : Nat → BitVec 64) (i : Int) (v : BitVec 64) (m : Int) (ad : BitVec 64) (s b : Int) (vO : Value) (O : List Wri) (w : World) (hT : Tb w) (hO : Wris w vO O) (hlen : O.length * 24 ≤ 140737488351232) :
    Calls Tryd.prog 6 #[.agg (runc c a i v m ad s b vO)] w fun e w' => e = .returned (.bool true) ∧ Below w.heap.size w w' := by
  obtain ⟨W0, hW0, r0, b0, s0⟩ := start1 w (runc c a i v m ad s b vO) 37
  have HS : Hid (W0.heap.size = w.heap.size + 1) := s0
  obtain ⟨sa, cap, rfl, hcap, hsl⟩ := hO
  have AX : Hid (∀ W, Below W0.heap.size W0 W → Tb W ∧ (∀ j u, (pc c a)[j]? = some u → W.cell? ⟨w.heap.size, 0 + j, none⟩ = some u) ∧ (∀ j u, (askc c a i v m ad s b)[j]? = some u → W.cell? ⟨w.heap.size, 0 + j, none⟩ = some u) ∧ W.cell? ⟨w.heap.size, 38, none⟩ = some (.slice sa O.length cap) ∧ Below w.heap.size w W) := fun W hb => by
    have hh := r0.out.later hb (by rw [s0]; omega)
    have hw : Below w.heap.size w W := b0.out.trans (hb.mono (by rw [s0]; omega))
    exact ⟨hT.next hw, runc_pmp c a i v m ad s b _ hh, (runc_ask c a i v m ad s b _ hh).1, (runc_ask c a i v m ad s b _ hh).2, hw⟩
  have HSL : Hid (O ≠ [] → ∃ g off, sa = some ⟨g, off, none⟩ ∧ g < w.heap.size ∧ ∀ j, j < O.length → ∀ c, c < 3 → w.cell? ⟨g, off + j * 3 + c, none⟩ = (wriv (O.getD j wri0))[c]?) := hsl
  have HLN : Hid (O.length * 24 ≤ 140737488351232) := hlen
  have HT : Hid (Tb W0) := hT.next b0.out
  clear s0 hT hsl hlen
  have B0 : Hid (Below W0.heap.size W0 W0) := Below.refl _ _
  have hL : Hid (∀ W : World, Tb W → Calls Tryd.prog 13 #[] W fun e w' => e = .returned (.bool true) ∧ Below W.heap.size W w') := fun W h => live_c W h
  have hP : Hid (∀ W : World, Calls Tryd.prog 14 #[.agg (pc c a)] W fun e w' => e = .returned (.agg (pc (PC c) (PA a))) ∧ Below W.heap.size W w') := fun W => Proper_c c a W
  go_enter Tryd.func6, Tryd.ntmps6
  go_upto_region 1 with fail
  clear hW0 r0
  go_upto_region 4 with (first | (refine wpList_load_agg (by rfl) _ _ (by rfl) w.heap.size 0 (by rfl) (pc c a) _ L1.out Tryd.underlying26 (by rfl) (by rw [pc_size]; kernel_rfl) ?_) | (go_at_call 13; refine (hL.out _ HT.out).mono ?_; rintro e w1 ⟨rfl, hb⟩; have B1 : Hid (Below W0.heap.size W0 w1) := hb; have L1 : Hid (∀ j u, (pc c a)[j]? = some u → w1.cell? ⟨w.heap.size, 0 + j, none⟩ = some u) := (AX.out w1 hb).2.1; clear hb) | (go_at_call 14; refine (hP.out _).mono ?_; rintro e w2 ⟨rfl, hb⟩; have B2 : Hid (Below W0.heap.size W0 w2) := B1.out.trans (hb.mono B1.out.size); clear hb) | (refine wpList_store_new (by rfl) _ _ _ (by rfl) (by rfl) _ _ (by rfl) (by rfl) (by rw [pc_size]; kernel_rfl) (by rw [pc_size]; rfl) (pc_ones _ _) ?_))
  obtain ⟨W3, hW3, r3, b3, s3⟩ := start1 w2 (pc (PC c) (PA a)) 26
  rw [hW3]
  have HS3 : Hid (W3.heap.size = w2.heap.size + 1) := s3
  have B3 : Hid (Below W0.heap.size W0 W3) := B2.out.trans (b3.out.mono B2.out.size)
  have K3 : Hid (∀ j u, (askc c a i v m ad s b)[j]? = some u → W3.cell? ⟨w.heap.size, 0 + j, none⟩ = some u) := (AX.out W3 B3.out).2.2.1
  clear hW3 s3
  go_upto_region 5 with (first | (refine wpList_load_agg (by rfl) _ _ (by rfl) w.heap.size 0 (by rfl) (askc c a i v m ad s b) _ K3.out Tryd.underlying28 (by rfl) (by rw [askc_size]; kernel_rfl) ?_) | (refine wpList_store_new (by rfl) _ _ _ (by rfl) (by rfl) _ _ (by rfl) (by rfl) (by rw [askc_size]; kernel_rfl) (by rw [askc_size]; rfl) (askc_ones _ _ _ _ _ _ _ _) ?_))
  obtain ⟨W4, hW4, r4, b4, s4⟩ := start1 W3 (askc c a i v m ad s b) 28
  rw [hW4]
  have R4 : Hid (Row W4 w2.heap.size (pc (PC c) (PA a)) 26) := r3.out.later b4.out (by rw [HS3.out]; omega)
  have B4 : Hid (Below W0.heap.size W0 W4) := B3.out.trans (b4.out.mono B3.out.size)
  have HG : Hid (W0.heap.size ≤ w2.heap.size ∧ w2.heap.size < W3.heap.size) := ⟨B2.out.size, by rw [HS3.out]; omega⟩
  clear hW4 s4 b4 r3 b3 K3 B3 B2 B1 L1 HS3 b0
  generalize w2.heap.size = gp at *
  generalize W3.heap.size = ga at *
  go_wp2
  go_loopw [5] (fun x wr => ∃ j : Nat, j ≤ O.length ∧ x = .int .i64 j ∧ ∃ (C : Nat → BitVec 8) (A : Nat → BitVec 64), Hid (PC C = C ∧ PA A = A) ∧ Hid (Row wr gp (pc C A) 26) ∧ Hid (Row wr ga (askc c a i v m ad s b) 28) ∧ Hid (Below W0.heap.size W0 wr)) (fun x _ => O.length - (intOf x).toNat)
  case atStart => exact ⟨0, Nat.zero_le _, rfl, PC c, PA a, ⟨PC_twice' c, PA_twice' a⟩, R4, r4, B4⟩
  case round =>
    clear R4 r4 B4
    obtain ⟨j, hj, rfl, C, A, hCA, g0, g1, gb⟩ := hrel
    have k38 := (AX.out wr gb.out).2.2.2.1
    have lp0 := g0.out.lt
    have la0 := g1.out.lt
    have hL2 := HLN.out
    by_cases hlt : j < O.length
    · obtain ⟨gw, off, rfl, hgw, hcl⟩ := HSL.out (by intro e; rw [e] at hlt; simp at hlt)
      have hlt2 : (j : Int) < O.length := by omega
      have cw : ∀ q, q < 3 → wr.cell? ⟨gw, off + j * 3 + q, none⟩ = (wriv (O.getD j wri0))[q]? := fun q hq => ((AX.out wr gb.out).2.2.2.2.cell (p := ⟨gw, off + j * 3 + q, none⟩) hgw).trans (hcl j hlt q hq)
      obtain ⟨X, hX⟩ : ∃ X, X = O.getD j wri0 := ⟨_, rfl⟩
      rw [← hX] at cw
      clear hX hcl
      obtain ⟨wd, wi, wv⟩ := X
      have w0 : wr.cell? ⟨gw, off + j * 3, none⟩ = some (.bool wd) := cw 0 (by omega)
      have w1 : wr.cell? ⟨gw, off + j * 3 + 1, none⟩ = some (.int .i64 wi) := cw 1 (by omega)
      have w2 : wr.cell? ⟨gw, off + j * 3 + 2, none⟩ = some (.int .u64 (n64 wv)) := cw 2 (by omega)
      clear cw
      go_upto_region 9 with fail
      obtain ⟨W1, hW1, rx, bx, sx⟩ := start1 wr #[Value.bool wd, .int .i64 wi, .int .u64 (n64 wv)] 41
      rw [hW1]
      have E1 : Hid (Below W0.heap.size W0 W1) := gb.out.trans (bx.out.mono gb.out.size)
      have RP1 : Hid (Row W1 gp (pc C A) 26) := g0.out.later bx.out lp0
      have RA1 : Hid (Row W1 ga (askc c a i v m ad s b) 28) := g1.out.later bx.out la0
      have HX : Hid (wr.heap.size < W1.heap.size ∧ gp < wr.heap.size ∧ ga < wr.heap.size ∧ W0.heap.size ≤ wr.heap.size) := ⟨by omega, lp0, la0, gb.out.size⟩
      have RX1 : Hid (Row W1 wr.heap.size #[Value.bool wd, .int .i64 wi, .int .u64 (n64 wv)] 41) := rx
      clear hW1 bx sx rx w0 w1 w2 k38 g0 g1 gb lp0 la0
      generalize wr.heap.size = gx at *
      go_upto_region 10 with (first | (refine wpList_load_rowG (by rfl) _ _ (by rfl) _ (by rfl) 26 _ (0, 0) _ RP1.out Tryd.underlying26 (by rfl) (by rw [pc_size]; kernel_rfl) ?_) | (refine wpList_store_new (by rfl) _ _ _ (by rfl) (by rfl) _ _ (by rfl) (by rfl) (by rw [pc_size]; kernel_rfl) (by rw [pc_size]; rfl) (pc_ones _ _) ?_))
      obtain ⟨W2, hW2, rq, bq, sq⟩ := start1 W1 (pc C A) 26
      rw [hW2]
      have E2 : Hid (Below W0.heap.size W0 W2) := E1.out.trans (bq.out.mono E1.out.size)
      have RP2 : Hid (Row W2 gp (pc C A) 26) := RP1.out.later bq.out (by have := HX.out; omega)
      have RA2 : Hid (Row W2 ga (askc c a i v m ad s b) 28) := RA1.out.later bq.out (by have := HX.out; omega)
      have RX2 : Hid (Row W2 gx #[Value.bool wd, .int .i64 wi, .int .u64 (n64 wv)] 41) := RX1.out.later bq.out HX.out.1
      have HQ : Hid (gx < W1.heap.size ∧ gp < gx ∧ ga < gx ∧ W0.heap.size ≤ gx ∧ W2.heap.size = W1.heap.size + 1) := ⟨HX.out.1, HX.out.2.1, HX.out.2.2.1, HX.out.2.2.2, sq⟩
      have x0 : W2.cell? ⟨gx, 0, none⟩ = some (.bool wd) := RX2.out.cell 0
      have x1 : W2.cell? ⟨gx, 1, none⟩ = some (.int .i64 wi) := RX2.out.cell 1
      have x2 : W2.cell? ⟨gx, 2, none⟩ = some (.int .u64 (n64 wv)) := RX2.out.cell 2
      clear hW2 bq sq RP1 RA1 RX1 E1 HX
      generalize W1.heap.size = gq at *
      obtain ⟨C', A', hW, hPr, HSet⟩ : ∃ (C' : Nat → BitVec 8) (A' : Nat → BitVec 64), Wr C A C' A' ∧ (PC C' = C' ∧ PA A' = A') ∧ (if wd = true then ∀ W, Calls Tryd.prog 15 #[.agg (pc C A), .int .i64 wi, .int .u64 (n64 wv)] W fun e w' => e = .returned (.agg (pc C' A')) ∧ Below W.heap.size W w' else ∀ W, Calls Tryd.prog 16 #[.agg (pc C A), .int .i64 wi, .int .u64 (n64 wv)] W fun e w' => e = .returned (.agg (pc C' A')) ∧ Below W.heap.size W w') := by
        cases wd with
        | true => exact ⟨C, sA C A wi wv, Wr.addr C A wi wv, ⟨hCA.out.1, PA_sA hCA.out.2⟩, by
            rw [if_pos rfl]; intro W
            have := SetAddr_c C A wi wv W
            rw [hCA.out.1, hCA.out.2] at this
            exact this⟩
        | false => exact ⟨sR C wi wv, A, Wr.cfg C A wi wv, ⟨PC_sR hCA.out.1, hCA.out.2⟩, by
            rw [if_neg (by simp)]; intro W
            have := SetCfg_c C A wi wv W
            rw [hCA.out.1, hCA.out.2] at this
            exact this⟩
      have HW : Hid (Wr C A C' A') := hW
      have HPr : Hid (PC C' = C' ∧ PA A' = A') := hPr
      clear hW hPr
      have HST : Hid (∀ W, Below W2.heap.size W2 W → Row W gq (pc C A) 26) := fun W hb => rq.out.later hb (by have := HQ.out; omega)
      cases wd with
      | true =>
        rw [if_pos rfl] at HSet
        have HSE : Hid (∀ W, Calls Tryd.prog 15 #[.agg (pc C A), .int .i64 wi, .int .u64 (n64 wv)] W fun e w' => e = .returned (.agg (pc C' A')) ∧ Below W.heap.size W w') := HSet
        clear HSet
        go_upto_region 13 with (first | (refine wpList_load_rowG (by rfl) _ _ (by rfl) _ (by rfl) 26 _ (0, 0) _ RP2.out Tryd.underlying26 (by rfl) (by rw [pc_size]; kernel_rfl) ?_) | (go_at_call 15; refine (HSE.out _).mono ?_; rintro e w3 ⟨rfl, hb⟩; have D3 : Hid (Below W2.heap.size W2 w3) := hb; clear hb) | (refine wpList_store_row (by rfl) _ _ _ (by rfl) (by rfl) _ _ _ (by rfl) (by rfl) (HST.out _ D3.out) (by rw [pc_size]; kernel_rfl) (by rw [pc_size, pc_size]) (pc_ones _ _) ?_))
        obtain ⟨W5, hW5⟩ : ∃ W5, W5 = w3.setRow gq (pc C' A') := ⟨_, rfl⟩
        rw [← hW5]
        have RQ5 : Hid (Row W5 gq (pc C' A') 26) := by rw [hW5]; exact setRow_heap _ _ _ _ _ _ (HST.out _ D3.out)
        have RP5 : Hid (Row W5 gp (pc C A) 26) := by rw [hW5]; exact (setRow_other _ _ _ _ (by have := HQ.out; omega)).trans (RP2.out.later D3.out (by have := HQ.out; omega))
        have RA5 : Hid (Row W5 ga (askc c a i v m ad s b) 28) := by rw [hW5]; exact (setRow_other _ _ _ _ (by have := HQ.out; omega)).trans (RA2.out.later D3.out (by have := HQ.out; omega))
        have E5 : Hid (Below W0.heap.size W0 W5) := by rw [hW5]; exact below_row (E2.out.trans (D3.out.mono E2.out.size)) (by have := HQ.out; omega) _
        clear hW5 D3 HST HSE RP2 RA2 RX2 E2 x0 x1 x2
        go_wp2
        go_loopw [8] (fun x wr => ∃ t : Nat, t ≤ 16 ∧ x = .int .i64 t ∧ Hid (Row wr gp (pc C A) 26) ∧ Hid (Row wr gq (pc C' A') 26) ∧ Hid (Row wr ga (askc c a i v m ad s b) 28) ∧ Hid (Below W0.heap.size W0 wr)) (fun x _ => 16 - (intOf x).toNat)
        case atStart => exact ⟨0, by omega, rfl, RP5, RQ5, RA5, E5⟩
        case round =>
          clear RP5 RQ5 RA5 E5
          obtain ⟨t, ht, rfl, RP6, RQ6, RA6, E6⟩ := hrel
          by_cases htl : t < 16
          · have htl2 : (t : Int) < 16 := by omega
            have c0 := prow_cfg RP6.out t htl
            have a0 := prow_addr RP6.out t htl
            have cq := prow_cfg RQ6.out t htl
            have aq := prow_addr RQ6.out t htl
            have hlk := n8_div128 (C t)
            have hlk2 := lk_shr0 (C t)
            have hkd := n8_div8 (C t)
            have hkd2 : bits .and .u8 (n8 (C t >>> 3)) 3 = n8 (kd (C t)) := n8_and (C t >>> 3) 3#8
            cases hl : lk (C t) with
            | false =>
              rw [hl] at hlk2
              generalize C t >>> 7 = z at hlk hlk2
              clear hl hkd hkd2 a0 aq cq
              go_wp2
              go_roundw
              case rel => exact ⟨t + 1, by omega, by go_num, RP6, RQ6, RA6, E6⟩
              case measure => simp [intOf]; omega
            | true =>
              rw [hl] at hlk2
              rw [HW.out.c t hl] at cq
              rw [HW.out.a t hl] at aq
              generalize C t >>> 7 = z at hlk hlk2
              generalize C t >>> 3 = z3 at hkd hkd2
              cases t with
              | zero =>
                have ez : ((0 : Nat) : Int) = 0 := rfl
                rw [ez]
                clear hl hkd hkd2 htl2
                generalize C 0 = x at *
                go_wp2
                go_quiet (fail)
                go_wp2
                go_roundw
                case rel => exact ⟨1, by omega, by go_num, RP6, RQ6, RA6, below_drewN E6.out _⟩
                case measure => simp [intOf]
              | succ u =>
                have ap := prow_addr RP6.out u (by omega)
                have aqp := prow_addr RQ6.out u (by omega)
                have eu : ((u + 1 : Nat) : Int) = (u : Int) + 1 := by omega
                have hu1 : (u : Int) + 1 < 16 := by omega
                have hu2 : (0 : Int) < (u : Int) + 1 := by omega
                rw [eu]
                by_cases hd : kd (C (u + 1)) = 1#8
                · rw [HW.out.p u (by omega) hl hd] at aqp
                  have hd1 : (n8 (kd (C (u + 1))) == 1) = true := by rw [hd]; rfl
                  clear hl hd eu htl2
                  generalize kd (C (u + 1)) = zk at hkd2 hd1
                  generalize C (u + 1) = x at *
                  go_wp2
                  go_quiet (fail)
                  go_wp2
                  go_roundw
                  case rel => exact ⟨u + 1 + 1, by omega, by go_num, RP6, RQ6, RA6, below_drewN E6.out _⟩
                  case measure => simp [intOf]; omega
                · have hd1 : (n8 (kd (C (u + 1))) == 1) = false := by
                    have : ¬ n8 (kd (C (u + 1))) = 1 := fun q => hd (n8_inj.1 (q.trans rfl))
                    rw [beq_eq_false_iff_ne]; exact this
                  clear hl hd eu htl2
                  generalize kd (C (u + 1)) = zk at hkd2 hd1
                  generalize C (u + 1) = x at *
                  go_wp2
                  go_quiet (fail)
                  go_wp2
                  go_roundw
                  case rel => exact ⟨u + 1 + 1, by omega, by go_num, RP6, RQ6, RA6, below_drewN E6.out _⟩
                  case measure => simp [intOf]; omega
          · obtain rfl : t = 16 := by omega
            have e16 : ((16 : Nat) : Int) = 16 := rfl
            rw [e16]
            clear ht htl e16
            obtain ⟨_, _, _, q35, q36, _⟩ := askc_rest c a i v m ad s b RA6.out
            have lp6 := RP6.out.lt
            have lq6 := RQ6.out.lt
            have la6 := RA6.out.lt
            have HM1 : Hid (∀ W, Tb W → Calls Tryd.prog 9 #[.agg (pc C A), .int .u64 (n64 ad), .int .i64 s] W fun e w' => e = .returned (.tuple #[.int .i64 (mA C A ad s).1, .bool (mA C A ad s).2]) ∧ Below W.heap.size W w') := fun W h => by
              have := Match_c C A ad s W h
              rw [hCA.out.1, hCA.out.2] at this
              exact this
            have HM2 : Hid (∀ W, Tb W → Calls Tryd.prog 9 #[.agg (pc C' A'), .int .u64 (n64 ad), .int .i64 s] W fun e w' => e = .returned (.tuple #[.int .i64 (mA C' A' ad s).1, .bool (mA C' A' ad s).2]) ∧ Below W.heap.size W w') := fun W h => by
              have := Match_c C' A' ad s W h
              rw [HPr.out.1, HPr.out.2] at this
              exact this
            have AY : Hid (∀ W, Below wr.heap.size wr W → Row W gp (pc C A) 26 ∧ Row W gq (pc C' A') 26 ∧ Row W ga (askc c a i v m ad s b) 28 ∧ Below W0.heap.size W0 W ∧ Tb W) := fun W hb => ⟨RP6.out.later hb lp6, RQ6.out.later hb lq6, RA6.out.later hb la6, E6.out.trans (hb.mono E6.out.size), (AX.out W (E6.out.trans (hb.mono E6.out.size))).1⟩
            have T6 : Hid (Tb wr) := (AX.out wr E6.out).1
            have FL : Hid True := trivial
            go_upto_region 21 with (first | (refine wpList_load_rowG (by rfl) _ _ (by rfl) _ (by rfl) 26 _ (0, 0) _ RP6.out Tryd.underlying26 (by rfl) (by rw [pc_size]; kernel_rfl) ?_) | (refine wpList_load_rowG (by rfl) _ _ (by rfl) _ (by rfl) 26 _ (0, 0) _ Y2.out Tryd.underlying26 (by rfl) (by rw [pc_size]; kernel_rfl) ?_) | (clear FL; (go_at_call 9; refine (HM1.out _ T6.out).mono ?_; rintro e w5 ⟨rfl, hb⟩; have D5 : Hid (Below wr.heap.size wr w5) := hb; have Y2 : Hid (Row w5 gq (pc C' A') 26) := (AY.out w5 hb).2.1; obtain ⟨_, _, _, u35, u36, _⟩ := askc_rest c a i v m ad s b (AY.out w5 hb).2.2.1; clear hb)) | (go_at_call 9; refine (HM2.out _ (AY.out _ D5.out).2.2.2.2).mono ?_; rintro e w6 ⟨rfl, hb⟩; have D6 : Hid (Below wr.heap.size wr w6) := D5.out.trans (hb.mono D5.out.size); clear hb))
            have RP7 : Hid (Row w6 gp (pc C A) 26) := (AY.out w6 D6.out).1
            have RQ7 : Hid (Row w6 gq (pc C' A') 26) := (AY.out w6 D6.out).2.1
            have RA7 : Hid (Row w6 ga (askc c a i v m ad s b) 28) := (AY.out w6 D6.out).2.2.1
            have E7 : Hid (Below W0.heap.size W0 w6) := (AY.out w6 D6.out).2.2.2.1
            have T7 : Hid (Tb w6) := (AY.out w6 D6.out).2.2.2.2
            clear u35 u36 q35 q36 D5 D6 Y2 HM1 HM2 AY T6 lp6 lq6 la6 RP6 RQ6 RA6 E6
            rcases mA_cases C A ad s with hm | ⟨n1, k, q, hs1, _, _, hk, hm0⟩
            · rw [hm]
              generalize (mA C' A' ad s).1 = f1
              generalize (mA C' A' ad s).2 = f2
              clear hm
              go_wp2_with (first | (refine wpList_load_rowG (by rfl) _ _ (by rfl) _ (by rfl) 26 _ (0, 0) _ RQ7.out Tryd.underlying26 (by rfl) (by rw [pc_size]; kernel_rfl) ?_) | (refine wpList_store_row (by rfl) _ _ _ (by rfl) (by rfl) _ _ _ (by rfl) (by rfl) (RP7.out) (by rw [pc_size]; kernel_rfl) (by rw [pc_size, pc_size]) (pc_ones _ _) ?_))
              go_roundw
              case rel => exact ⟨j + 1, hlt, by go_num, C', A', HPr, setRow_heap _ _ _ _ _ _ RP7.out, (setRow_other _ _ _ _ (by have := HQ.out; have := HG.out; omega)).trans RA7.out, below_row E7.out HG.out.1 _⟩
              case measure => simp [intOf]; omega
            · have hm : mA C A ad s = ((k : Int), q) := by rw [hs1, mA_in _ _ _ _ (by omega) (by omega)]; exact hm0
              rw [hm]
              have hk2 : (k : Int) < 16 := by omega
              have c0 := prow_cfg RP7.out k hk
              have hlk := n8_div128 (C k)
              have hlk2 := lk_shr (C k)
              clear hm0 hs1
              cases hl : lk (C k) with
              | false =>
                rw [hl] at hlk2
                generalize (mA C' A' ad s).1 = f1
                generalize (mA C' A' ad s).2 = f2
                generalize C k >>> 7 = z at hlk hlk2
                clear hl hm
                go_wp2_with (first | (refine wpList_load_rowG (by rfl) _ _ (by rfl) _ (by rfl) 26 _ (0, 0) _ RQ7.out Tryd.underlying26 (by rfl) (by rw [pc_size]; kernel_rfl) ?_) | (refine wpList_store_row (by rfl) _ _ _ (by rfl) (by rfl) _ _ _ (by rfl) (by rfl) (RP7.out) (by rw [pc_size]; kernel_rfl) (by rw [pc_size, pc_size]) (pc_ones _ _) ?_))
                go_roundw
                case rel => exact ⟨j + 1, hlt, by go_num, C', A', HPr, setRow_heap _ _ _ _ _ _ RP7.out, (setRow_other _ _ _ _ (by have := HQ.out; have := HG.out; omega)).trans RA7.out, below_row E7.out HG.out.1 _⟩
                case measure => simp [intOf]; omega
              | true =>
                rw [hl] at hlk2
                obtain ⟨n, q', hm', hle, hsame⟩ := HW.out.match hm hl
                rw [hm']
                generalize C k >>> 7 = z at hlk hlk2
                have h1 : decide ((k : Int) < (n : Int)) = false := decide_eq_false (by omega)
                have h2 : decide ((n : Int) < 0) = false := decide_eq_false (by omega)
                have HSM : Hid (n = k → q' = q ∧ ∀ m b, ckA C' A' m ad s b = ckA C A m ad s b) := hsame
                clear hl hm hm' hsame
                by_cases hnk : n = k
                · obtain ⟨rfl, hck⟩ := HSM.out hnk
                  subst hnk
                  have hq : (q' != q') = false := by simp
                  have hkk : ((n : Int) == (n : Int)) = true := by simp
                  have HK1 : Hid (∀ W, Tb W → Calls Tryd.prog 17 #[.agg (pc C A), .int .i64 m, .int .u64 (n64 ad), .int .i64 s, .int .i64 b] W fun e w' => e = .returned (.bool (ckA C A m ad s b)) ∧ Below W.heap.size W w') := fun W h => by
                    have := Check_c C A m ad s b W h
                    rw [hCA.out.1, hCA.out.2] at this
                    exact this
                  have HK2 : Hid (∀ W, Tb W → Calls Tryd.prog 17 #[.agg (pc C' A'), .int .i64 m, .int .u64 (n64 ad), .int .i64 s, .int .i64 b] W fun e w' => e = .returned (.bool (ckA C A m ad s b)) ∧ Below W.heap.size W w') := fun W h => by
                    have := Check_c C' A' m ad s b W h
                    rw [HPr.out.1, HPr.out.2, hck] at this
                    exact this
                  generalize ckA C A m ad s b = zc at HK1 HK2
                  have hzc : (zc != zc) = false := by simp
                  clear hck HSM
                  go_wp2
                  obtain ⟨_, _, v34, v35, v36, v37⟩ := askc_rest c a i v m ad s b RA7.out
                  have la7 := RA7.out.lt
                  have lp7 := RP7.out.lt
                  have lq7 := RQ7.out.lt
                  have l34 := later_at la7 v34
                  have l35 := later_at la7 v35
                  have l36 := later_at la7 v36
                  have l37 := later_at la7 v37
                  have QP : Hid (∀ j u, (pc C A)[j]? = some u → w6.cell? ⟨gp, 0 + j, none⟩ = some u) := fun j u hu => by rw [Nat.zero_add, RP7.out.cell]; exact hu
                  have QQ : Hid (∀ j u, (pc C' A')[j]? = some u → w6.cell? ⟨gq, 0 + j, none⟩ = some u) := fun j u hu => by rw [Nat.zero_add, RQ7.out.cell]; exact hu
                  have nn := later_nonempty w6
                  clear v34 v35 v36 v37
                  refine wp_region_later (x0 := Later.start w6) (by kernel_rfl) (by kernel_rfl) ?_
                  iterate 14 (first | (refine BigFrame.wpQuiet_want (by rfl) fun K hK => ?_; refine quiet_load_agg 26 _ (by rfl) gp 0 (by rfl) (pc C A) _ lp7 QP.out Tryd.underlying26 (by rfl) (by rw [pc_size]; kernel_rfl) (hK _ ?_); clear hK K; simp only [Act.put, List.setIfInBounds_toArray, List.set_cons_succ, List.set_cons_zero]) | (refine BigFrame.wpQuiet_want (by rfl) fun K hK => ?_; refine quiet_load_agg 26 _ (by rfl) gq 0 (by rfl) (pc C' A') _ lq7 QQ.out Tryd.underlying26 (by rfl) (by rw [pc_size]; kernel_rfl) (hK _ ?_); clear hK K; simp only [Act.put, List.setIfInBounds_toArray, List.set_cons_succ, List.set_cons_zero]) | (go_big_quiet_step ((go_at_call 17; exact calls_later (HK1.out _ (tb_later T7.out _))))))
                  repeat (first | (refine BigFrame.wpQuiet_want (by rfl) fun K hK => ?_; refine quiet_load_agg 26 _ (by rfl) gp 0 (by rfl) (pc C A) _ lp7 QP.out Tryd.underlying26 (by rfl) (by rw [pc_size]; kernel_rfl) (hK _ ?_); clear hK K; simp only [Act.put, List.setIfInBounds_toArray, List.set_cons_succ, List.set_cons_zero]) | (refine BigFrame.wpQuiet_want (by rfl) fun K hK => ?_; refine quiet_load_agg 26 _ (by rfl) gq 0 (by rfl) (pc C' A') _ lq7 QQ.out Tryd.underlying26 (by rfl) (by rw [pc_size]; kernel_rfl) (hK _ ?_); clear hK K; simp only [Act.put, List.setIfInBounds_toArray, List.set_cons_succ, List.set_cons_zero]) | (go_big_quiet_step ((go_at_call 17; exact calls_later (HK2.out _ (tb_later T7.out _))))))
                  refine wpQuiet_nil ?_
                  rintro w' ⟨x9, rfl⟩
                  obtain ⟨W8, hW8⟩ : ∃ W8, W8 = x9.1 := ⟨_, rfl⟩
                  rw [← hW8]
                  have D8 : Hid (Below w6.heap.size w6 W8) := by rw [hW8]; exact x9.below
                  have RP8 : Hid (Row W8 gp (pc C A) 26) := RP7.out.later D8.out lp7
                  have RQ8 : Hid (Row W8 gq (pc C' A') 26) := RQ7.out.later D8.out lq7
                  have RA8 : Hid (Row W8 ga (askc c a i v m ad s b) 28) := RA7.out.later D8.out la7
                  have E8 : Hid (Below W0.heap.size W0 W8) := E7.out.trans (D8.out.mono E7.out.size)
                  clear hW8 x9 nn QP QQ l34 l35 l36 l37
                  go_wp2_with (first | (refine wpList_load_rowG (by rfl) _ _ (by rfl) _ (by rfl) 26 _ (0, 0) _ RQ8.out Tryd.underlying26 (by rfl) (by rw [pc_size]; kernel_rfl) ?_) | (refine wpList_store_row (by rfl) _ _ _ (by rfl) (by rfl) _ _ _ (by rfl) (by rfl) (RP8.out) (by rw [pc_size]; kernel_rfl) (by rw [pc_size, pc_size]) (pc_ones _ _) ?_))
                  go_roundw
                  case rel => exact ⟨j + 1, hlt, by go_num, C', A', HPr, setRow_heap _ _ _ _ _ _ RP8.out, (setRow_other _ _ _ _ (by have := HQ.out; have := HG.out; omega)).trans RA8.out, below_row E8.out HG.out.1 _⟩
                  case measure => simp [intOf]; omega
                · have hkk : ((n : Int) == (k : Int)) = false := by rw [beq_eq_false_iff_ne]; omega
                  go_wp2
                  go_quiet (fail)
                  have RP8 : Hid (Row (w6.drewN nq) gp (pc C A) 26) := RP7
                  have RQ8 : Hid (Row (w6.drewN nq) gq (pc C' A') 26) := RQ7
                  have RA8 : Hid (Row (w6.drewN nq) ga (askc c a i v m ad s b) 28) := RA7
                  have E8 : Hid (Below W0.heap.size W0 (w6.drewN nq)) := below_drewN E7.out _
                  go_wp2_with (first | (refine wpList_load_rowG (by rfl) _ _ (by rfl) _ (by rfl) 26 _ (0, 0) _ RQ8.out Tryd.underlying26 (by rfl) (by rw [pc_size]; kernel_rfl) ?_) | (refine wpList_store_row (by rfl) _ _ _ (by rfl) (by rfl) _ _ _ (by rfl) (by rfl) (RP8.out) (by rw [pc_size]; kernel_rfl) (by rw [pc_size, pc_size]) (pc_ones _ _) ?_))
                  go_roundw
                  case rel => exact ⟨j + 1, hlt, by go_num, C', A', HPr, setRow_heap _ _ _ _ _ _ RP8.out, (setRow_other _ _ _ _ (by have := HQ.out; have := HG.out; omega)).trans RA8.out, below_row E8.out HG.out.1 _⟩
                  case measure => simp [intOf]; omega
      | false =>
        rw [if_neg (by simp)] at HSet
        have HSE : Hid (∀ W, Calls Tryd.prog 16 #[.agg (pc C A), .int .i64 wi, .int .u64 (n64 wv)] W fun e w' => e = .returned (.agg (pc C' A')) ∧ Below W.heap.size W w') := HSet
        clear HSet
        go_upto_region 13 with (first | (refine wpList_load_rowG (by rfl) _ _ (by rfl) _ (by rfl) 26 _ (0, 0) _ RP2.out Tryd.underlying26 (by rfl) (by rw [pc_size]; kernel_rfl) ?_) | (go_at_call 16; refine (HSE.out _).mono ?_; rintro e w3 ⟨rfl, hb⟩; have D3 : Hid (Below W2.heap.size W2 w3) := hb; clear hb) | (refine wpList_store_row (by rfl) _ _ _ (by rfl) (by rfl) _ _ _ (by rfl) (by rfl) (HST.out _ D3.out) (by rw [pc_size]; kernel_rfl) (by rw [pc_size, pc_size]) (pc_ones _ _) ?_))
        obtain ⟨W5, hW5⟩ : ∃ W5, W5 = w3.setRow gq (pc C' A') := ⟨_, rfl⟩
        rw [← hW5]
        have RQ5 : Hid (Row W5 gq (pc C' A') 26) := by rw [hW5]; exact setRow_heap _ _ _ _ _ _ (HST.out _ D3.out)
        have RP5 : Hid (Row W5 gp (pc C A) 26) := by rw [hW5]; exact (setRow_other _ _ _ _ (by have := HQ.out; omega)).trans (RP2.out.later D3.out (by have := HQ.out; omega))
        have RA5 : Hid (Row W5 ga (askc c a i v m ad s b) 28) := by rw [hW5]; exact (setRow_other _ _ _ _ (by have := HQ.out; omega)).trans (RA2.out.later D3.out (by have := HQ.out; omega))
        have E5 : Hid (Below W0.heap.size W0 W5) := by rw [hW5]; exact below_row (E2.out.trans (D3.out.mono E2.out.size)) (by have := HQ.out; omega) _
        clear hW5 D3 HST HSE RP2 RA2 RX2 E2 x0 x1 x2
        go_wp2
        go_loopw [8] (fun x wr => ∃ t : Nat, t ≤ 16 ∧ x = .int .i64 t ∧ Hid (Row wr gp (pc C A) 26) ∧ Hid (Row wr gq (pc C' A') 26) ∧ Hid (Row wr ga (askc c a i v m ad s b) 28) ∧ Hid (Below W0.heap.size W0 wr)) (fun x _ => 16 - (intOf x).toNat)
        case atStart => exact ⟨0, by omega, rfl, RP5, RQ5, RA5, E5⟩
        case round =>
          clear RP5 RQ5 RA5 E5
          obtain ⟨t, ht, rfl, RP6, RQ6, RA6, E6⟩ := hrel
          by_cases htl : t < 16
          · have htl2 : (t : Int) < 16 := by omega
            have c0 := prow_cfg RP6.out t htl
            have a0 := prow_addr RP6.out t htl
            have cq := prow_cfg RQ6.out t htl
            have aq := prow_addr RQ6.out t htl
            have hlk := n8_div128 (C t)
            have hlk2 := lk_shr0 (C t)
            have hkd := n8_div8 (C t)
            have hkd2 : bits .and .u8 (n8 (C t >>> 3)) 3 = n8 (kd (C t)) := n8_and (C t >>> 3) 3#8
            cases hl : lk (C t) with
            | false =>
              rw [hl] at hlk2
              generalize C t >>> 7 = z at hlk hlk2
              clear hl hkd hkd2 a0 aq cq
              go_wp2
              go_roundw
              case rel => exact ⟨t + 1, by omega, by go_num, RP6, RQ6, RA6, E6⟩
              case measure => simp [intOf]; omega
            | true =>
              rw [hl] at hlk2
              rw [HW.out.c t hl] at cq
              rw [HW.out.a t hl] at aq
              generalize C t >>> 7 = z at hlk hlk2
              generalize C t >>> 3 = z3 at hkd hkd2
              cases t with
              | zero =>
                have ez : ((0 : Nat) : Int) = 0 := rfl
                rw [ez]
                clear hl hkd hkd2 htl2
                generalize C 0 = x at *
                go_wp2
                go_quiet (fail)
                go_wp2
                go_roundw
                case rel => exact ⟨1, by omega, by go_num, RP6, RQ6, RA6, below_drewN E6.out _⟩
                case measure => simp [intOf]
              | succ u =>
                have ap := prow_addr RP6.out u (by omega)
                have aqp := prow_addr RQ6.out u (by omega)
                have eu : ((u + 1 : Nat) : Int) = (u : Int) + 1 := by omega
                have hu1 : (u : Int) + 1 < 16 := by omega
                have hu2 : (0 : Int) < (u : Int) + 1 := by omega
                rw [eu]
                by_cases hd : kd (C (u + 1)) = 1#8
                · rw [HW.out.p u (by omega) hl hd] at aqp
                  have hd1 : (n8 (kd (C (u + 1))) == 1) = true := by rw [hd]; rfl
                  clear hl hd eu htl2
                  generalize kd (C (u + 1)) = zk at hkd2 hd1
                  generalize C (u + 1) = x at *
                  go_wp2
                  go_quiet (fail)
                  go_wp2
                  go_roundw
                  case rel => exact ⟨u + 1 + 1, by omega, by go_num, RP6, RQ6, RA6, below_drewN E6.out _⟩
                  case measure => simp [intOf]; omega
                · have hd1 : (n8 (kd (C (u + 1))) == 1) = false := by
                    have : ¬ n8 (kd (C (u + 1))) = 1 := fun q => hd (n8_inj.1 (q.trans rfl))
                    rw [beq_eq_false_iff_ne]; exact this
                  clear hl hd eu htl2
                  generalize kd (C (u + 1)) = zk at hkd2 hd1
                  generalize C (u + 1) = x at *
                  go_wp2
                  go_quiet (fail)
                  go_wp2
                  go_roundw
                  case rel => exact ⟨u + 1 + 1, by omega, by go_num, RP6, RQ6, RA6, below_drewN E6.out _⟩
                  case measure => simp [intOf]; omega
          · obtain rfl : t = 16 := by omega
            have e16 : ((16 : Nat) : Int) = 16 := rfl
            rw [e16]
            clear ht htl e16
            obtain ⟨_, _, _, q35, q36, _⟩ := askc_rest c a i v m ad s b RA6.out
            have lp6 := RP6.out.lt
            have lq6 := RQ6.out.lt
            have la6 := RA6.out.lt
            have HM1 : Hid (∀ W, Tb W → Calls Tryd.prog 9 #[.agg (pc C A), .int .u64 (n64 ad), .int .i64 s] W fun e w' => e = .returned (.tuple #[.int .i64 (mA C A ad s).1, .bool (mA C A ad s).2]) ∧ Below W.heap.size W w') := fun W h => by
              have := Match_c C A ad s W h
              rw [hCA.out.1, hCA.out.2] at this
              exact this
            have HM2 : Hid (∀ W, Tb W → Calls Tryd.prog 9 #[.agg (pc C' A'), .int .u64 (n64 ad), .int .i64 s] W fun e w' => e = .returned (.tuple #[.int .i64 (mA C' A' ad s).1, .bool (mA C' A' ad s).2]) ∧ Below W.heap.size W w') := fun W h => by
              have := Match_c C' A' ad s W h
              rw [HPr.out.1, HPr.out.2] at this
              exact this
            have AY : Hid (∀ W, Below wr.heap.size wr W → Row W gp (pc C A) 26 ∧ Row W gq (pc C' A') 26 ∧ Row W ga (askc c a i v m ad s b) 28 ∧ Below W0.heap.size W0 W ∧ Tb W) := fun W hb => ⟨RP6.out.later hb lp6, RQ6.out.later hb lq6, RA6.out.later hb la6, E6.out.trans (hb.mono E6.out.size), (AX.out W (E6.out.trans (hb.mono E6.out.size))).1⟩
            have T6 : Hid (Tb wr) := (AX.out wr E6.out).1
            have FL : Hid True := trivial
            go_upto_region 21 with (first | (refine wpList_load_rowG (by rfl) _ _ (by rfl) _ (by rfl) 26 _ (0, 0) _ RP6.out Tryd.underlying26 (by rfl) (by rw [pc_size]; kernel_rfl) ?_) | (refine wpList_load_rowG (by rfl) _ _ (by rfl) _ (by rfl) 26 _ (0, 0) _ Y2.out Tryd.underlying26 (by rfl) (by rw [pc_size]; kernel_rfl) ?_) | (clear FL; (go_at_call 9; refine (HM1.out _ T6.out).mono ?_; rintro e w5 ⟨rfl, hb⟩; have D5 : Hid (Below wr.heap.size wr w5) := hb; have Y2 : Hid (Row w5 gq (pc C' A') 26) := (AY.out w5 hb).2.1; obtain ⟨_, _, _, u35, u36, _⟩ := askc_rest c a i v m ad s b (AY.out w5 hb).2.2.1; clear hb)) | (go_at_call 9; refine (HM2.out _ (AY.out _ D5.out).2.2.2.2).mono ?_; rintro e w6 ⟨rfl, hb⟩; have D6 : Hid (Below wr.heap.size wr w6) := D5.out.trans (hb.mono D5.out.size); clear hb))
            have RP7 : Hid (Row w6 gp (pc C A) 26) := (AY.out w6 D6.out).1
            have RQ7 : Hid (Row w6 gq (pc C' A') 26) := (AY.out w6 D6.out).2.1
            have RA7 : Hid (Row w6 ga (askc c a i v m ad s b) 28) := (AY.out w6 D6.out).2.2.1
            have E7 : Hid (Below W0.heap.size W0 w6) := (AY.out w6 D6.out).2.2.2.1
            have T7 : Hid (Tb w6) := (AY.out w6 D6.out).2.2.2.2
            clear u35 u36 q35 q36 D5 D6 Y2 HM1 HM2 AY T6 lp6 lq6 la6 RP6 RQ6 RA6 E6
            rcases mA_cases C A ad s with hm | ⟨n1, k, q, hs1, _, _, hk, hm0⟩
            · rw [hm]
              generalize (mA C' A' ad s).1 = f1
              generalize (mA C' A' ad s).2 = f2
              clear hm
              go_wp2_with (first | (refine wpList_load_rowG (by rfl) _ _ (by rfl) _ (by rfl) 26 _ (0, 0) _ RQ7.out Tryd.underlying26 (by rfl) (by rw [pc_size]; kernel_rfl) ?_) | (refine wpList_store_row (by rfl) _ _ _ (by rfl) (by rfl) _ _ _ (by rfl) (by rfl) (RP7.out) (by rw [pc_size]; kernel_rfl) (by rw [pc_size, pc_size]) (pc_ones _ _) ?_))
              go_roundw
              case rel => exact ⟨j + 1, hlt, by go_num, C', A', HPr, setRow_heap _ _ _ _ _ _ RP7.out, (setRow_other _ _ _ _ (by have := HQ.out; have := HG.out; omega)).trans RA7.out, below_row E7.out HG.out.1 _⟩
              case measure => simp [intOf]; omega
            · have hm : mA C A ad s = ((k : Int), q) := by rw [hs1, mA_in _ _ _ _ (by omega) (by omega)]; exact hm0
              rw [hm]
              have hk2 : (k : Int) < 16 := by omega
              have c0 := prow_cfg RP7.out k hk
              have hlk := n8_div128 (C k)
              have hlk2 := lk_shr (C k)
              clear hm0 hs1
              cases hl : lk (C k) with
              | false =>
                rw [hl] at hlk2
                generalize (mA C' A' ad s).1 = f1
                generalize (mA C' A' ad s).2 = f2
                generalize C k >>> 7 = z at hlk hlk2
                clear hl hm
                go_wp2_with (first | (refine wpList_load_rowG (by rfl) _ _ (by rfl) _ (by rfl) 26 _ (0, 0) _ RQ7.out Tryd.underlying26 (by rfl) (by rw [pc_size]; kernel_rfl) ?_) | (refine wpList_store_row (by rfl) _ _ _ (by rfl) (by rfl) _ _ _ (by rfl) (by rfl) (RP7.out) (by rw [pc_size]; kernel_rfl) (by rw [pc_size, pc_size]) (pc_ones _ _) ?_))
                go_roundw
                case rel => exact ⟨j + 1, hlt, by go_num, C', A', HPr, setRow_heap _ _ _ _ _ _ RP7.out, (setRow_other _ _ _ _ (by have := HQ.out; have := HG.out; omega)).trans RA7.out, below_row E7.out HG.out.1 _⟩
                case measure => simp [intOf]; omega
              | true =>
                rw [hl] at hlk2
                obtain ⟨n, q', hm', hle, hsame⟩ := HW.out.match hm hl
                rw [hm']
                generalize C k >>> 7 = z at hlk hlk2
                have h1 : decide ((k : Int) < (n : Int)) = false := decide_eq_false (by omega)
                have h2 : decide ((n : Int) < 0) = false := decide_eq_false (by omega)
                have HSM : Hid (n = k → q' = q ∧ ∀ m b, ckA C' A' m ad s b = ckA C A m ad s b) := hsame
                clear hl hm hm' hsame
                by_cases hnk : n = k
                · obtain ⟨rfl, hck⟩ := HSM.out hnk
                  subst hnk
                  have hq : (q' != q') = false := by simp
                  have hkk : ((n : Int) == (n : Int)) = true := by simp
                  have HK1 : Hid (∀ W, Tb W → Calls Tryd.prog 17 #[.agg (pc C A), .int .i64 m, .int .u64 (n64 ad), .int .i64 s, .int .i64 b] W fun e w' => e = .returned (.bool (ckA C A m ad s b)) ∧ Below W.heap.size W w') := fun W h => by
                    have := Check_c C A m ad s b W h
                    rw [hCA.out.1, hCA.out.2] at this
                    exact this
                  have HK2 : Hid (∀ W, Tb W → Calls Tryd.prog 17 #[.agg (pc C' A'), .int .i64 m, .int .u64 (n64 ad), .int .i64 s, .int .i64 b] W fun e w' => e = .returned (.bool (ckA C A m ad s b)) ∧ Below W.heap.size W w') := fun W h => by
                    have := Check_c C' A' m ad s b W h
                    rw [HPr.out.1, HPr.out.2, hck] at this
                    exact this
                  generalize ckA C A m ad s b = zc at HK1 HK2
                  have hzc : (zc != zc) = false := by simp
                  clear hck HSM
                  go_wp2
                  obtain ⟨_, _, v34, v35, v36, v37⟩ := askc_rest c a i v m ad s b RA7.out
                  have la7 := RA7.out.lt
                  have lp7 := RP7.out.lt
                  have lq7 := RQ7.out.lt
                  have l34 := later_at la7 v34
                  have l35 := later_at la7 v35
                  have l36 := later_at la7 v36
                  have l37 := later_at la7 v37
                  have QP : Hid (∀ j u, (pc C A)[j]? = some u → w6.cell? ⟨gp, 0 + j, none⟩ = some u) := fun j u hu => by rw [Nat.zero_add, RP7.out.cell]; exact hu
                  have QQ : Hid (∀ j u, (pc C' A')[j]? = some u → w6.cell? ⟨gq, 0 + j, none⟩ = some u) := fun j u hu => by rw [Nat.zero_add, RQ7.out.cell]; exact hu
                  have nn := later_nonempty w6
                  clear v34 v35 v36 v37
                  refine wp_region_later (x0 := Later.start w6) (by kernel_rfl) (by kernel_rfl) ?_
                  iterate 14 (first | (refine BigFrame.wpQuiet_want (by rfl) fun K hK => ?_; refine quiet_load_agg 26 _ (by rfl) gp 0 (by rfl) (pc C A) _ lp7 QP.out Tryd.underlying26 (by rfl) (by rw [pc_size]; kernel_rfl) (hK _ ?_); clear hK K; simp only [Act.put, List.setIfInBounds_toArray, List.set_cons_succ, List.set_cons_zero]) | (refine BigFrame.wpQuiet_want (by rfl) fun K hK => ?_; refine quiet_load_agg 26 _ (by rfl) gq 0 (by rfl) (pc C' A') _ lq7 QQ.out Tryd.underlying26 (by rfl) (by rw [pc_size]; kernel_rfl) (hK _ ?_); clear hK K; simp only [Act.put, List.setIfInBounds_toArray, List.set_cons_succ, List.set_cons_zero]) | (go_big_quiet_step ((go_at_call 17; exact calls_later (HK1.out _ (tb_later T7.out _))))))
                  repeat (first | (refine BigFrame.wpQuiet_want (by rfl) fun K hK => ?_; refine quiet_load_agg 26 _ (by rfl) gp 0 (by rfl) (pc C A) _ lp7 QP.out Tryd.underlying26 (by rfl) (by rw [pc_size]; kernel_rfl) (hK _ ?_); clear hK K; simp only [Act.put, List.setIfInBounds_toArray, List.set_cons_succ, List.set_cons_zero]) | (refine BigFrame.wpQuiet_want (by rfl) fun K hK => ?_; refine quiet_load_agg 26 _ (by rfl) gq 0 (by rfl) (pc C' A') _ lq7 QQ.out Tryd.underlying26 (by rfl) (by rw [pc_size]; kernel_rfl) (hK _ ?_); clear hK K; simp only [Act.put, List.setIfInBounds_toArray, List.set_cons_succ, List.set_cons_zero]) | (go_big_quiet_step ((go_at_call 17; exact calls_later (HK2.out _ (tb_later T7.out _))))))
                  refine wpQuiet_nil ?_
                  rintro w' ⟨x9, rfl⟩
                  obtain ⟨W8, hW8⟩ : ∃ W8, W8 = x9.1 := ⟨_, rfl⟩
                  rw [← hW8]
                  have D8 : Hid (Below w6.heap.size w6 W8) := by rw [hW8]; exact x9.below
                  have RP8 : Hid (Row W8 gp (pc C A) 26) := RP7.out.later D8.out lp7
                  have RQ8 : Hid (Row W8 gq (pc C' A') 26) := RQ7.out.later D8.out lq7
                  have RA8 : Hid (Row W8 ga (askc c a i v m ad s b) 28) := RA7.out.later D8.out la7
                  have E8 : Hid (Below W0.heap.size W0 W8) := E7.out.trans (D8.out.mono E7.out.size)
                  clear hW8 x9 nn QP QQ l34 l35 l36 l37
                  go_wp2_with (first | (refine wpList_load_rowG (by rfl) _ _ (by rfl) _ (by rfl) 26 _ (0, 0) _ RQ8.out Tryd.underlying26 (by rfl) (by rw [pc_size]; kernel_rfl) ?_) | (refine wpList_store_row (by rfl) _ _ _ (by rfl) (by rfl) _ _ _ (by rfl) (by rfl) (RP8.out) (by rw [pc_size]; kernel_rfl) (by rw [pc_size, pc_size]) (pc_ones _ _) ?_))
                  go_roundw
                  case rel => exact ⟨j + 1, hlt, by go_num, C', A', HPr, setRow_heap _ _ _ _ _ _ RP8.out, (setRow_other _ _ _ _ (by have := HQ.out; have := HG.out; omega)).trans RA8.out, below_row E8.out HG.out.1 _⟩
                  case measure => simp [intOf]; omega
                · have hkk : ((n : Int) == (k : Int)) = false := by rw [beq_eq_false_iff_ne]; omega
                  go_wp2
                  go_quiet (fail)
                  have RP8 : Hid (Row (w6.drewN nq) gp (pc C A) 26) := RP7
                  have RQ8 : Hid (Row (w6.drewN nq) gq (pc C' A') 26) := RQ7
                  have RA8 : Hid (Row (w6.drewN nq) ga (askc c a i v m ad s b) 28) := RA7
                  have E8 : Hid (Below W0.heap.size W0 (w6.drewN nq)) := below_drewN E7.out _
                  go_wp2_with (first | (refine wpList_load_rowG (by rfl) _ _ (by rfl) _ (by rfl) 26 _ (0, 0) _ RQ8.out Tryd.underlying26 (by rfl) (by rw [pc_size]; kernel_rfl) ?_) | (refine wpList_store_row (by rfl) _ _ _ (by rfl) (by rfl) _ _ _ (by rfl) (by rfl) (RP8.out) (by rw [pc_size]; kernel_rfl) (by rw [pc_size, pc_size]) (pc_ones _ _) ?_))
                  go_roundw
                  case rel => exact ⟨j + 1, hlt, by go_num, C', A', HPr, setRow_heap _ _ _ _ _ _ RP8.out, (setRow_other _ _ _ _ (by have := HQ.out; have := HG.out; omega)).trans RA8.out, below_row E8.out HG.out.1 _⟩
                  case measure => simp [intOf]; omega
    · obtain rfl : j = O.length := by omega
      go_wp2
      go_ret
      exact ⟨rfl, (AX.out wr gb.out).2.2.2.2⟩
end Go.Proofs.YtckgjfkodgeagaaDoor
namespace Go.Proofs.YtckgjfkodgeagaaDoor.pmpLocks
set_option linter.unusedVariables false
open Go.ChangeShapes Go.WideShapes Go.ChangeAt Go.RowKit Go.Deep Go.Lib Go.Shelf
theorem own : ownKnob Tryd.prog.godebug = none := by kernel_rfl
theorem laidOut : laidOutB Tryd.prog = true := by kernel_rfl
set_option maxRecDepth 100000 in
set_option maxHeartbeats 2000000 in
theorem lifted (os : Os) (started : os.Started) (H : Type) (enc : TypeId × Value → H) :
    ReturnsInHanded {} Tryd.checked os 6 .any (fun w args => (Rows.pmpLocksSpec.pre enc Tryd.prog Tryd.f6 [] false w args ∧ laidMetH Tryd.prog Rows.pmpLocksRow.laid w) ∧ sizedMet enc Tryd.prog Tryd.f6 (OpenSpec.ofChange Rows.pmpLocksSpec) false w args)
      (Rows.pmpLocksSpec.post enc Tryd.prog Tryd.f6 false true false false) := by
  refine returnsInHanded_of_change_and (C := Tryd.checked) (X := fun w _ => laidMetH Tryd.prog Rows.pmpLocksRow.laid w) (fun _ _ _ hh h => h.of_heap hh) own started (by kernel_rfl) Tryd.func6
    (ChangeSpec.witness_shaped (enc := enc) (C := Tryd.checked) (os := os) (X := fun w _ => laidMetH Tryd.prog Rows.pmpLocksRow.laid w) false (World.laidAll Tryd.prog os Rows.pmpLocksRow.laid) #[.agg (runc (fun _ => 0#8) (fun _ => 0#64) 0 0#64 0 0#64 0 0 (.slice none 0 0))] 8 (World.laidAll_os _ _ _)
      (World.shaped_of_ZipB (by kernel_rfl) (by kernel_rfl)) (by kernel_rfl) (by kernel_rfl) (by kernel_rfl)
      (by rw [MakeChecks.laidMetH_plain _ _ _ (by kernel_rfl)]; exact laidMet_laidAll _ (by kernel_rfl) (by kernel_rfl))) ?_
  intro W base args ds gs before hval0 hW _ hz0 hL _
  have hval : ∀ (j : Nat) t v, Tryd.f6.params[j]? = some t → args[j]? = some v → Value.okWide Tryd.prog W .any base t v := hval0
  have hW' := hW
  obtain ⟨p, q, hA0, hV, rfl, _, _⟩ := hW
  have hA : DataW.TrodAll enc Tryd.prog W 0 (fun _ => true) true Tryd.f6.params.toList args.toList ds p := hA0
  have hz1 : (DataW.weightsEach Tryd.prog (Tryd.f6.params.toList ++ Rows.pmpLocksSpec.plain.varTypes Tryd.prog) (ds ++ gs)).all (· ≤ reachBytes) = true := hz0
  rw [Tryd.params6] at hA hval hz1
  obtain ⟨v0, d0, rfl, rfl, h0⟩ := trodAll_one hA
  obtain ⟨rfl, rfl⟩ := trodVars_none hV
  have k0 := h0
  have lt0 : ∀ x ∈ p, x.block < W.heap.size := by obtain ⟨m, hm⟩ := k0; exact DataW.trod_lt m _ _ _ hm
  obtain ⟨cs, rfl, _⟩ := okWide_struct Tryd.underlying37 (hval 0 37 v0 rfl rfl)
  obtain ⟨fuel, hf⟩ := h0
  obtain ⟨c, a, i, v, m, ad, s, b, vO, O, hcs, hO, hok, hol⟩ := open_run hf (fun n hn => by
    have := List.all_eq_true.1 hz1 n (DataW.weights_mem_each (j := 0) (t := 37) (d := d0) rfl rfl n hn)
    simpa using this)
  have hcs' : cs = runc c a i v m ad s b vO := by
    cases cs
    simpa [Value.cells] using congrArg List.toArray hcs
  subst hcs'
  rw [MakeChecks.laidMetH_plain _ _ _ (by kernel_rfl)] at hL
  have hT : Tb W := tb_of_reads (Lib.laidMet.reads hL (.head _))
  clear hA0 hval0 hz0
  refine (locks_walk c a i v m ad s b vO O W hT hO hol).mono fun e W' ⟨he, bel⟩ => ?_
  subst he
  exact ⟨_, rfl, _, _, _, [], _, [], hW', trodAll_mk1 (shut_bool Tryd.underlying4 _), trodAll_mk1 (Below.trod laidOut (by kernel_rfl) (of_decide_eq_true (by kernel_rfl)) k0 bel lt0), rfl, bel.frame _, fun h => by cases h⟩
theorem over : Rows.pmpLocksRow.holds Tryd.pinned (OpenSpec.ofChange Rows.pmpLocksSpec) :=
  OpenClaim.holds_of_wide 6 Tryd.f6 rfl rfl rfl rfl rfl rfl rfl ⟨rfl, rfl, rfl, rfl, rfl⟩ rfl rfl rfl rfl rfl (by kernel_rfl) Tryd.func6 (by kernel_rfl)
    (of_decide_eq_true (by kernel_rfl)) (by unfold Func.isWrapper; first | (rw [if_pos (by decide +kernel)]; kernel_rfl) | (rw [if_neg (by decide +kernel)]; exact ⟨rfl, rfl⟩))
    (fun os started H enc _ => lifted os started H enc)
theorem card : Rows.PmpLocksCardSaid :=
  Claim7.holds_tied_plain_at .later [] [.data] true (true, "9495a876eed6a9c5fdb7fcabbf3562b26aecd038efd1b984106a430613d54f38") false over (fun _ h => by cases h) (by kernel_rfl) (fun _ h => by cases h) pmpLocks_row_tie rfl ⟨rfl, rfl⟩ (by kernel_rfl) rfl
    (fun f fn hf hfn => by
      obtain rfl : f = 6 := Option.some.inj ((show Tryd.prog.funcNamed "anvil/anvillaw04.PmpLocks" = some 6 by kernel_rfl).symm.trans hf) |>.symm
      obtain rfl : fn = Tryd.f6 := (Option.some.inj (Tryd.func6.symm.trans hfn)).symm
      exact ⟨by kernel_rfl, fun j t ht => by
        rw [Tryd.params6] at ht
        have hm : t ∈ [37] := by simpa using Array.mem_of_getElem? ht
        have hall : ([37].all fun u => !Tryd.prog.wantsStandIn u) = true := by kernel_rfl
        exact (show Tryd.prog.wantsStandIn t = false by simpa using List.all_eq_true.1 hall t hm)⟩)
    (by kernel_rfl)
end Go.Proofs.YtckgjfkodgeagaaDoor.pmpLocks
namespace Go.Proofs.YtckgjfkodgeagaaDoor
theorem pmpLocks_holds : Rows.PmpLocksCardSaid := pmpLocks.card
end Go.Proofs.YtckgjfkodgeagaaDoor
