/-
  Layer 17 (gdb): the reference's Pack.
-/
import Derived.Test.YtfenllkkbgkdnaaGe
namespace Go.Proofs.Ytfenllkkbgkdnaa
set_option linter.unusedVariables false
set_option maxRecDepth 100000
open Go.ChangeShapes Go.WideShapes Go.ChangeAt Go.RowKit Go.Deep
set_option maxHeartbeats 4000000 in
theorem packet_c (l : List Int) (a : Option Addr) (c : Nat) (w : World) (hv : Byt w (.slice a l.length c) l) (hall : AllB l) (hl : l.length ≤ 1000) :
    Calls Try.prog 8 #[.slice a l.length c] w fun e w' => ∃ u, e = .returned u ∧ Owb w.heap.size w' u ([36] ++ escL l ++ [35] ++ hexL [smN (escL l)]) ∧ Fr w.heap.size w w' := by
  obtain ⟨a', cap, ev, hc, _, hr⟩ := hv
  simp only [Value.slice.injEq] at ev
  obtain ⟨rfl, -, rfl⟩ := ev
  have HR : Hid (l ≠ [] → ∃ g off, a = some ⟨g, off, none⟩ ∧ g < w.heap.size ∧ ∀ j, j < l.length → w.cell? ⟨g, off + j, none⟩ = some (.int .u8 (l.getD j 0))) := hr
  obtain ⟨B, hB⟩ : ∃ B, B = w.heap.size := ⟨_, rfl⟩
  have HBE := Hid.mk' hB
  have HEA := Hid.mk' (escL_all hall)
  rw [← hB]
  clear hr hB hall
  go_enter Try.func8, Try.ntmps8
  go_wp2
  go_loopw [3, 4] (fun x i wr => ∃ k : Nat, k ≤ l.length ∧ i = .int .i64 k ∧ Hid (Owb B wr x (escL (l.take k))) ∧ Hid (Fr B w wr)) (fun _ i _ => l.length - (intOf i).toNat)
  case atStart => exact ⟨0, Nat.zero_le _, rfl, owb_nil _ _, Fr.refl _ _⟩
  case round =>
    obtain ⟨k, hk, rfl, hown, hfr⟩ := hrel
    by_cases hlt : k < l.length
    · obtain ⟨gl, off, rfl, hgl, hcell⟩ := HR.out (by intro e; rw [e] at hlt; simp at hlt)
      have hlt2 : (k : Int) < (l.length : Int) := by omega
      have HCX : Hid (∀ W, Fr B w W → W.cell? ⟨gl, off + k, none⟩ = some (.int .u8 (l.getD k 0))) := fun W h => (h.b.cell (by rw [HBE.out]; exact hgl)).trans (hcell k hlt)
      have hce := HCX.out wr hfr.out
      have HT : Hid (escL (l.take (k + 1)) = escL (l.take k) ++ esc1 (l.getD k 0)) := escL_take hlt
      have HLN : Hid ((escL (l.take k)).length ≤ 2000) := by have := escL_len (l.take k); rw [List.length_take] at this; unfold Hid; omega
      obtain ⟨c, hcc⟩ : ∃ c, c = l.getD k 0 := ⟨_, rfl⟩
      rw [← hcc] at hce HT HCX
      obtain ⟨L, hL⟩ : ∃ L, L = escL (l.take k) := ⟨_, rfl⟩
      rw [← hL] at HT HLN hown
      have HBS : Hid (B ≤ wr.heap.size) := (by unfold Hid; rw [HBE.out]; exact hfr.out.b.size)
      have HSP := Hid.mk' (fun W => rspc_c c W)
      clear hcell hcc hL HR
      by_cases q0 : c = 36
      · subst q0
        rw [show spc 36 = true from rfl] at HSP
        go_wp2_with (first | (go_at_call 9; refine (HSP.out wr).mono ?_; rintro e w5 ⟨rfl, hw5⟩; have hw6 := hw5.symm; subst hw6) | (at_builtin; refine appN (by rfl) _ _ (by rfl) B _ L [125] (by rfl) hown.out _ 1 (by rfl) (by rfl) (by simp) (by have := HLN.out; simp; omega) HBS.out ?_; intro v1 w1 ho1 hf1; have HO1 := Hid.mk' ho1; have HF1 := Hid.mk' hf1; have hc1 := HCX.out w1 (hfr.out.trans hf1); have HBS1 : Hid (B ≤ w1.heap.size) := Nat.le_trans HBS.out hf1.b.size; clear ho1 hf1 HBS) | (at_builtin; refine appN (by rfl) _ _ (by rfl) B _ (L ++ [125]) [4] (by rfl) HO1.out _ 1 (by rfl) (by rfl) (by simp) (by have := HLN.out; simp; omega) HBS1.out ?_; intro v2 w2 ho2 hf2; rw [List.append_assoc] at ho2; replace hf2 := HF1.out.trans hf2))
        have HO : Hid (Owb B w2 v2 (escL (l.take (k + 1)))) := (by unfold Hid; rw [HT.out]; exact ho2)
        have HF := Hid.mk' (hfr.out.trans hf2)
        clear ho2 hf2 hown hfr
        go_roundw
        case rel => exact ⟨k + 1, by omega, by go_num, HO, HF⟩
        case measure => simp [intOf]; omega
      have r0 : (c == 36) = false := by simp [q0]
      by_cases q1 : c = 35
      · subst q1
        rw [show spc 35 = true from rfl] at HSP
        go_wp2_with (first | (go_at_call 9; refine (HSP.out wr).mono ?_; rintro e w5 ⟨rfl, hw5⟩; have hw6 := hw5.symm; subst hw6) | (at_builtin; refine appN (by rfl) _ _ (by rfl) B _ L [125] (by rfl) hown.out _ 1 (by rfl) (by rfl) (by simp) (by have := HLN.out; simp; omega) HBS.out ?_; intro v1 w1 ho1 hf1; have HO1 := Hid.mk' ho1; have HF1 := Hid.mk' hf1; have hc1 := HCX.out w1 (hfr.out.trans hf1); have HBS1 : Hid (B ≤ w1.heap.size) := Nat.le_trans HBS.out hf1.b.size; clear ho1 hf1 HBS) | (at_builtin; refine appN (by rfl) _ _ (by rfl) B _ (L ++ [125]) [3] (by rfl) HO1.out _ 1 (by rfl) (by rfl) (by simp) (by have := HLN.out; simp; omega) HBS1.out ?_; intro v2 w2 ho2 hf2; rw [List.append_assoc] at ho2; replace hf2 := HF1.out.trans hf2))
        have HO : Hid (Owb B w2 v2 (escL (l.take (k + 1)))) := (by unfold Hid; rw [HT.out]; exact ho2)
        have HF := Hid.mk' (hfr.out.trans hf2)
        clear ho2 hf2 hown hfr
        go_roundw
        case rel => exact ⟨k + 1, by omega, by go_num, HO, HF⟩
        case measure => simp [intOf]; omega
      have r1 : (c == 35) = false := by simp [q1]
      by_cases q2 : c = 125
      · subst q2
        rw [show spc 125 = true from rfl] at HSP
        go_wp2_with (first | (go_at_call 9; refine (HSP.out wr).mono ?_; rintro e w5 ⟨rfl, hw5⟩; have hw6 := hw5.symm; subst hw6) | (at_builtin; refine appN (by rfl) _ _ (by rfl) B _ L [125] (by rfl) hown.out _ 1 (by rfl) (by rfl) (by simp) (by have := HLN.out; simp; omega) HBS.out ?_; intro v1 w1 ho1 hf1; have HO1 := Hid.mk' ho1; have HF1 := Hid.mk' hf1; have hc1 := HCX.out w1 (hfr.out.trans hf1); have HBS1 : Hid (B ≤ w1.heap.size) := Nat.le_trans HBS.out hf1.b.size; clear ho1 hf1 HBS) | (at_builtin; refine appN (by rfl) _ _ (by rfl) B _ (L ++ [125]) [93] (by rfl) HO1.out _ 1 (by rfl) (by rfl) (by simp) (by have := HLN.out; simp; omega) HBS1.out ?_; intro v2 w2 ho2 hf2; rw [List.append_assoc] at ho2; replace hf2 := HF1.out.trans hf2))
        have HO : Hid (Owb B w2 v2 (escL (l.take (k + 1)))) := (by unfold Hid; rw [HT.out]; exact ho2)
        have HF := Hid.mk' (hfr.out.trans hf2)
        clear ho2 hf2 hown hfr
        go_roundw
        case rel => exact ⟨k + 1, by omega, by go_num, HO, HF⟩
        case measure => simp [intOf]; omega
      have r2 : (c == 125) = false := by simp [q2]
      by_cases q3 : c = 42
      · subst q3
        rw [show spc 42 = true from rfl] at HSP
        go_wp2_with (first | (go_at_call 9; refine (HSP.out wr).mono ?_; rintro e w5 ⟨rfl, hw5⟩; have hw6 := hw5.symm; subst hw6) | (at_builtin; refine appN (by rfl) _ _ (by rfl) B _ L [125] (by rfl) hown.out _ 1 (by rfl) (by rfl) (by simp) (by have := HLN.out; simp; omega) HBS.out ?_; intro v1 w1 ho1 hf1; have HO1 := Hid.mk' ho1; have HF1 := Hid.mk' hf1; have hc1 := HCX.out w1 (hfr.out.trans hf1); have HBS1 : Hid (B ≤ w1.heap.size) := Nat.le_trans HBS.out hf1.b.size; clear ho1 hf1 HBS) | (at_builtin; refine appN (by rfl) _ _ (by rfl) B _ (L ++ [125]) [10] (by rfl) HO1.out _ 1 (by rfl) (by rfl) (by simp) (by have := HLN.out; simp; omega) HBS1.out ?_; intro v2 w2 ho2 hf2; rw [List.append_assoc] at ho2; replace hf2 := HF1.out.trans hf2))
        have HO : Hid (Owb B w2 v2 (escL (l.take (k + 1)))) := (by unfold Hid; rw [HT.out]; exact ho2)
        have HF := Hid.mk' (hfr.out.trans hf2)
        clear ho2 hf2 hown hfr
        go_roundw
        case rel => exact ⟨k + 1, by omega, by go_num, HO, HF⟩
        case measure => simp [intOf]; omega
      have r3 : (c == 42) = false := by simp [q3]
      have hsf : spc c = false := (by unfold spc; rw [r0, r1, r2, r3]; rfl)
      have HE1 : Hid (esc1 c = [c]) := (by unfold Hid esc1; rw [hsf]; rfl)
      rw [hsf] at HSP
      clear hsf
      go_wp2_with (first | (go_at_call 9; refine (HSP.out wr).mono ?_; rintro e w5 ⟨rfl, hw5⟩; have hw6 := hw5.symm; subst hw6) | (at_builtin; refine appN (by rfl) _ _ (by rfl) B _ L [c] (by rfl) hown.out _ 1 (by rfl) (by rfl) (by simp) (by have := HLN.out; simp; omega) HBS.out ?_; intro v2 w2 ho2 hf2))
      have HO : Hid (Owb B w2 v2 (escL (l.take (k + 1)))) := (by unfold Hid; rw [HT.out, HE1.out]; exact ho2)
      have HF := Hid.mk' (hfr.out.trans hf2)
      clear ho2 hf2 hown hfr
      go_roundw
      case rel => exact ⟨k + 1, by omega, by go_num, HO, HF⟩
      case measure => simp [intOf]; omega
    · have hkn : k = l.length := by omega
      have hz : ¬ (k : Int) < (l.length : Int) := by omega
      have HO : Hid (Owb B wr u3 (escL l)) := (by have q := hown.out; rw [hkn, List.take_length] at q; exact q)
      have HLN : Hid ((escL l).length ≤ 2000) := (by have := escL_len l; unfold Hid; omega)
      have HBS : Hid (B ≤ wr.heap.size) := (by unfold Hid; rw [HBE.out]; exact hfr.out.b.size)
      obtain ⟨E, hE⟩ : ∃ E, E = escL l := ⟨_, rfl⟩
      rw [← hE] at HO HLN HEA
      have HEE := Hid.mk' hE
      clear hE
      obtain ⟨N, hN, hN2⟩ : ∃ N : Nat, smN E = (N : Int) ∧ N < 256 := ⟨(smN E).toNat, by have := smN_bd E; omega, by have := smN_bd E; omega⟩
      have HN1 := Hid.mk' (owb_new wr [36] 1 rfl (by omega))
      have HOA : Hid (Owb B (wr.alloc (.cells #[.int .u8 36] 5)) u3 E) := World.ownsRow.alloc HO.out _
      have HFA : Hid (Fr B w (wr.alloc (.cells #[.int .u8 36] 5))) := hfr.out.alloc HBS.out _
      have HSZ : Hid (wr.heap.size ≤ (wr.alloc (.cells #[.int .u8 36] 5)).heap.size) := (below_al wr _).size
      have HOL : Hid (∀ g, u3.ownBlock = some g → g < wr.heap.size) := fun g hg => (World.ownsRow.lt HO.out g hg).2
      obtain ⟨ab, cb, eb, hcb⟩ := (Byt.of_own HO.out).len
      subst eb
      have HHX : Hid (hexL [smN E] = hex1 (N : Int)) := (by unfold Hid hexL; rw [hN]; simp)
      have HDA : Hid (AllB (hex1 (N : Int))) := (by have q := hexL_all (l := [smN E]) (fun x hx => by simp at hx; rw [hx]; exact smN_bd E); rw [HHX.out] at q; exact q)
      have HDL : Hid ((hex1 (N : Int)).length = 2) := rfl
      have HDG := Hid.mk' (fun W => dgt_c N hN2 W)
      have HSM : Hid (∀ W, Byt W (.slice ab E.length cb) E → Calls Try.prog 11 #[.slice ab E.length cb] W fun e w' => e = .returned (.int .i64 (N : Int)) ∧ w' = W) := fun W h => by rw [← hN]; exact rsum_c E _ W h HEA.out (by have := HLN.out; omega)
      have hNI : (N : Int) < 256 := by omega
      have HEL : Hid (([36] ++ E).length ≤ 2001 ∧ E.length ≤ 2000) := (by have := HLN.out; unfold Hid; rw [List.length_append]; simp; omega)
      generalize hex1 (N : Int) = D at *
      obtain ⟨m, hm⟩ : ∃ m, m = E.length := ⟨_, rfl⟩
      rw [← hm] at HSM HO HOA HOL hcb ⊢
      have HM := Hid.mk' hm
      obtain ⟨C, hC⟩ : ∃ C, C = wr.heap.size := ⟨_, rfl⟩
      rw [← hC] at HN1 HSZ HOL
      have HC := Hid.mk' hC
      clear hkn hlt hown HLN hN hN2 hm
      go_upto_region 11 with fail
      rw [← hC]
      clear hC
      refine on_W (motive := fun W => Code.wp _ _ _ _ W) (Q := fun W => Owb C W (.slice (some ⟨C, 0, none⟩) 1 1) [36] ∧ Owb B W (.slice ab m cb) E ∧ Fr B w W ∧ C ≤ W.heap.size) ⟨HN1.out, HOA.out, HFA.out, HSZ.out⟩ ?_
      clear HN1 HOA HFA HSZ HO hfr
      rintro V1 ⟨p1, p2, p3, p4⟩
      have HP1 := Hid.mk' p1
      have HE1 := Hid.mk' p2
      have HF1 := Hid.mk' p3
      have HS1 := Hid.mk' p4
      have HBC : Hid (B ≤ C) := (by unfold Hid; rw [HC.out]; exact HBS.out)
      clear p1 p2 p3 p4 HC HBS
      generalize Value.slice (some ⟨C, 0, none⟩) 1 1 = v1 at *
      go_upto_region 12 with (at_builtin; refine appY (by rfl) _ _ (by rfl) C _ _ [36] E (by rfl) HP1.out (by rfl) (Byt.of_own HE1.out) (by have := HEL.out.2; simp; omega) HS1.out ?_; intro v2 V2 ho2 hf2; have HP2 := Hid.mk' ho2; have HF2 := Hid.mk' hf2; clear ho2 hf2)
      have HE2 : Hid (Owb B V2 (.slice ab m cb) E) := own_exc HE1.out (S := fun k => C ≤ k) ⟨HF2.out.b.os, HF2.out.b.tape, HF2.out.b.output, HF2.out.b.size, fun i hi hs => HF2.out.b.block i (by omega)⟩ (fun k hk => by have := HOL.out k hk; omega)
      have HS2 : Hid (C ≤ V2.heap.size) := Nat.le_trans HS1.out HF2.out.b.size
      have HG2 : Hid (Fr B w V2) := HF1.out.trans ⟨HF2.out.b.mono HBC.out, HF2.out.k⟩
      clear HP1 HE1 HF1 HS1 HF2
      generalize hL : [36] ++ E = L at *
      go_upto_region 13 with (at_builtin; refine appN (by rfl) _ _ (by rfl) C _ L [35] (by rfl) HP2.out _ 1 (by rfl) (by rfl) (by simp) (by have := HEL.out.1; simp; omega) HS2.out ?_; intro v3 V3 ho3 hf3; have HP3 := Hid.mk' ho3; have HF3 := Hid.mk' hf3; clear ho3 hf3)
      have HE3 : Hid (Owb B V3 (.slice ab m cb) E) := own_exc HE2.out (S := fun k => C ≤ k) ⟨HF3.out.b.os, HF3.out.b.tape, HF3.out.b.output, HF3.out.b.size, fun i hi hs => HF3.out.b.block i (by omega)⟩ (fun k hk => by have := HOL.out k hk; omega)
      have HS3 : Hid (C ≤ V3.heap.size) := Nat.le_trans HS2.out HF3.out.b.size
      have HG3 : Hid (Fr B w V3) := HG2.out.trans ⟨HF3.out.b.mono HBC.out, HF3.out.k⟩
      clear HP2 HE2 HG2 HS2 HF3
      go_wp2_with (first | (go_at_call 11; refine (HSM.out V3 (Byt.of_own HE3.out)).mono ?_; rintro e w5 ⟨rfl, hw5⟩; have hw6 := hw5.symm; subst hw6) | (go_at_call 10; refine (HDG.out _).mono ?_; rintro e V4 ⟨rfl, hb4⟩; have HB4 := Hid.mk' hb4; clear hb4; have HP4 := Hid.mk' (own_later HP3.out HB4.out rfl); have HS4 : Hid (C ≤ V4.heap.size) := Nat.le_trans HS3.out HB4.out.size; have HG4 : Hid (Fr B w V4) := HG3.out.trans (Fr.of HB4.out (Nat.le_trans HBC.out HS3.out))) | (at_builtin; refine appT (by rfl) _ _ (by rfl) C _ (L ++ [35]) D (by rfl) HP4.out (by rfl) HDA.out (by have := HEL.out.1; have := HDL.out; simp; omega) HS4.out ?_; intro v5 V5 ho5 hf5; have HP5 := Hid.mk' ho5; have HG5 : Hid (Fr B w V5) := HG4.out.trans ⟨hf5.b.mono HBC.out, hf5.k⟩; clear ho5 hf5))
      go_ret
      rw [← HEE.out, HHX.out]
      subst hL
      exact ⟨v5, rfl, own_le HP5.out HBC.out, HG5.out⟩
set_option maxHeartbeats 4000000 in
theorem rpack_c (l : List Int) (a : Option Addr) (c : Nat) (w : World) (hv : Byt w (.slice a l.length c) l) (hall : AllB l) :
    Calls Try.prog 5 #[.slice a l.length c] w fun e w' => ∃ u, e = .returned (.tuple #[u, .int .i64 (pkE l)]) ∧ Owb w.heap.size w' u (pkB l) ∧ Fr w.heap.size w w' := by
  by_cases hl : 1000 < l.length
  · have HE : Hid (pkE l = 3) := (by unfold Hid pkE; rw [if_pos hl])
    have HB : Hid (pkB l = []) := (by unfold Hid pkB; rw [if_pos hl])
    have h1 : (1000 : Int) < (l.length : Int) := by omega
    clear hl hv
    go_enter Try.func5, Try.ntmps5
    go_wp2
    go_ret2
    exact ⟨.slice none 0 0, by rw [HE.out]; rfl, by rw [HB.out]; exact owb_nil _ _, Fr.refl _ _⟩
  · have HE : Hid (pkE l = 0) := (by unfold Hid pkE; rw [if_neg hl])
    have HB : Hid (pkB l = [36] ++ escL l ++ [35] ++ hexL [smN (escL l)]) := (by unfold Hid pkB; rw [if_neg hl])
    have h1 : ¬ (1000 : Int) < (l.length : Int) := by omega
    have HP := Hid.mk' (packet_c l a c w hv hall (by omega))
    rw [← HB.out] at HP
    generalize l.length = n at *
    clear hl hv HB
    go_enter Try.func5, Try.ntmps5
    go_wp2_with (go_at_call 8; refine HP.out.mono ?_; rintro e W1 ⟨u, rfl, ho, hf⟩; have HO := Hid.mk' ho; have HF := Hid.mk' hf; clear ho hf)
    go_ret2
    exact ⟨u, by rw [HE.out]; rfl, HO.out, HF.out⟩
end Go.Proofs.Ytfenllkkbgkdnaa
