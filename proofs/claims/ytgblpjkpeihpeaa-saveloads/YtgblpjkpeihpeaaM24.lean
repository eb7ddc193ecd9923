/-
  Kf Jx.
-/
import Derived.Test.YtgblpjkpeihpeaaM23
import Derived.Test.YtgblpjkpeihpeaaM19
import Derived.Test.YtgblpjkpeihpeaaM13
namespace Go.Proofs.Ytgblpjkpeihpeaa
set_option linter.unusedVariables false
set_option maxRecDepth 100000
open Go.ChangeShapes Go.WideShapes Go.ChangeAt Go.RowKit Go.Deep
theorem ram_short {L : List Int} {q : Nat} {b : Bool} (e : bd b L (q + 4) = true) : bd b L q = true ∨ ramR L q = none := by
  cases h : bd b L q with
  | true => exact .inl rfl
  | false => right; unfold ramR; rw [if_pos (bd_split e h)]
set_option maxHeartbeats 4000000 in
theorem rram_c {B : Nat} {w : World} {g : Nat} {L : List Int} {q : Nat} {b : Bool} (h : Rrd B w g L q b) :
    Calls Try.prog 39 #[.pointer (some ⟨g, 0, none⟩)] w fun e w' => RamP (fun W q b => Rrd B W g L q b) L q b g w e w' := by
  have HN := Hid.mk' (rnum_c h 4 (by omega))
  have hgl : g < w.heap.size := h.lt
  have hbg := h.bg
  clear h
  go_enter Try.func39, Try.ntmps39
  go_upto_region 2 with (go_at_call 60; refine HN.out.mono ?_; rintro e w1 ⟨N, rfl, h1, h2, h3, h4⟩; have H2 := Hid.mk' h2; have H3 := Hid.mk' h3; have H4 := Hid.mk' h4; have hb : (N : Int) < 4294967296 := (by omega); clear h1 h2 h3 h4; unfold u64V)
  obtain ⟨_, _, a, c', p, hrr, _⟩ := H3.out
  have c2 := hrr.cell 2
  have f2 := hrr.froz 2
  clear hrr
  have HBAD : Hid ((bd b L q = true ∨ ramR L q = none) → RamP (fun W q b => Rrd B W g L q b) L q b g w (.returned (.slice none 0 0)) (w1.setCell ⟨g, 2, none⟩ (.bool true))) := fun hr => ⟨[], none, 0, 0, q + 4, true, rfl, ⟨Byt.nil _, fun k hk => by cases hk⟩, rfl, Nat.zero_le _, (fun e => by unfold bd at e; simp at e), (fun _ => hr), H3.out.set (by unfold bd; rfl), H4.out.set g 2 _ rfl⟩
  cases hb4 : bd b L (q + 4) with
  | true =>
    rw [hb4] at c2
    have HR := Hid.mk' (HBAD.out (ram_short hb4))
    clear hb4 HBAD
    go_wp2
    go_ret
    exact HR.out
  | false =>
    rw [hb4] at c2
    clear hb4
    cases hok : ramOk N with
    | false =>
      have HR := Hid.mk' (HBAD.out (ram_bad H2.out hok))
      clear HBAD
      by_cases h8 : (N : Int) < 8
      · clear hok
        go_wp2
        go_ret
        exact HR.out
      by_cases h6 : 65536 < (N : Int)
      · clear hok
        go_wp2
        go_ret
        exact HR.out
      have h7 : ¬ (N : Int).tmod 8 = 0 := by
        intro e
        rw [Int.tmod_eq_emod_of_nonneg (by omega)] at e
        unfold ramOk at hok
        simp at hok
        omega
      have h7b : ((N : Int).tmod 8 == 0) = false := by simpa using h7
      have h7c : ((N : Int) % 8 == 0) = false := by
        rw [Int.tmod_eq_emod_of_nonneg (by omega)] at h7b; exact h7b
      have h7d : ¬ (N : Int) % 8 = 0 := by simpa using h7c
      clear hok hb
      go_wp2
      go_ret
      exact HR.out
    | true =>
      obtain ⟨hN8, hN6⟩ := ramOk_le hok
      have h8 : ¬ (N : Int) < 8 := by omega
      have h6 : ¬ 65536 < (N : Int) := by omega
      have h7 : (N : Int).tmod 8 = 0 := by
        rw [Int.tmod_eq_emod_of_nonneg (by omega)]
        unfold ramOk at hok
        simp at hok
        omega
      have HST := Hid.mk' (Pgs.start H2.out hok)
      obtain ⟨i0, hi, hz0, hz1, hz2⟩ := info_parts info5
      have HI : Hid (Try.prog.info? 5 = some i0) := hi
      have HZ0 : Hid (i0.zero = some (.int .u8 0)) := hz0
      have HZ1 : Hid (i0.size = 1) := hz1
      have HZ2 : Hid (i0.bytes = 1) := hz2
      have HN6 := Hid.mk' hN6
      have HN8 := Hid.mk' hN8
      clear hi hz0 hz1 hz2 hok hb HBAD hN8 hN6
      go_upto_region 6 with (at_make; refine wpList_make_full _ (by rfl) _ _ 32 (by rfl) w1.heap.size 5 i0 (.int .u8 0) 1 Try.underlying32 HI.out HZ0.out HZ1.out _ _ _ _ N (by rfl) (by rfl) (by have := HN6.out; omega) (by have := HN6.out; omega) (by have := HN6.out; rw [HZ2.out]; omega) (by have := HN6.out; unfold maxLen; omega) (Nat.le_refl _) ?_; intro w2 hown hgrow)
      have hrow : Row w2 w1.heap.size (bv (List.replicate N 0)).toArray 5 := by
        have h := hown
        rw [show (Value.int .u8 0).cells = #[Value.int .u8 0] from rfl, made_bv] at h
        exact row_own (by simp) h
      have hbl : Below w1.heap.size w1 w2 := (Below.refl _ _).grown hgrow (Nat.le_refl _) (fun k hk => by cases hk)
      obtain ⟨gr, hgr⟩ : ∃ gr, gr = w1.heap.size := ⟨_, rfl⟩
      rw [← hgr] at hrow ⊢
      have hgg : g < gr := by have := H4.out.size; omega
      have hne : gr ≠ g := by omega
      have hgw : w.heap.size ≤ gr := by rw [hgr]; exact H4.out.size
      have HRW := Hid.mk' hrow
      have HP2 := Hid.mk' (H3.out.later hbl)
      have HX2 : Hid (Exc (· = g) w w2) := H4.out.trans (Exc.of_below hbl rfl)
      have HBK : Hid (∀ i, i < pgN N → ∀ W, Calls Try.prog 55 #[.slice (some ⟨gr, 0, none⟩) N N, .int .i64 (i : Int)] W fun e w' => e = .returned (.slice (some ⟨gr, 256 * i, none⟩) (pgE N i - 256 * i) (N - 256 * i)) ∧ w' = W) := fun i hi W => by
        have q := rpage_c (some ⟨gr, 0, none⟩) N N i (Nat.le_refl _) HN6.out hi W
        have e : cad (some ⟨gr, 0, none⟩) (256 * i) N = some ⟨gr, 256 * i, none⟩ := by
          unfold cad
          rw [if_neg (by have := pgN_lt hi; omega)]
          simp [addAt]
        rw [e] at q; exact q
      have HPC := Hid.mk' (fun W => rpages_c N HN6.out W)
      have hM : Hid (pgN N ≤ 256) := by have := HN6.out; unfold Hid pgN; omega
      clear hown hgrow hrow hbl hgr H2 H3 H4 HN c2 f2 h8 h6 h7
      go_wp2
      go_loopw [5] (fun s wr => ∃ (q' : Nat) (b' : Bool) (least : Nat) (mem : List Int), s = .int .i64 (least : Nat) ∧ Hid (least ≤ 256) ∧ Hid (mem.length = N) ∧ Hid (bd b' L q' = false → ∃ fuel, Pgs L q b N q' b' least mem fuel) ∧ Hid (bd b' L q' = true → bd b L q = true ∨ ramR L q = none) ∧ Hid (Rrd B wr g L q' b') ∧ Hid (Row wr gr (bv mem).toArray 5) ∧ Hid (Exc (· = g) w wr)) (fun s _ => 257 - (intOf s).toNat)
      case atStart => exact ⟨q + 4, b, 0, _, rfl, Nat.zero_le _, by unfold Hid; simp, (fun _ => ⟨_, HST.out⟩), HST.out.no, HP2, HRW, HX2⟩
      case round =>
        obtain ⟨q', b', least, mem, rfl, hle, hml, hpy, hpn, hpr, hro, hex⟩ := hrel
        clear HST HP2 HRW HX2
        have HEND : Hid (∀ (W : World) (qf : Nat) (bf : Bool), Row W gr (bv mem).toArray 5 → Rrd B W g L qf bf → Exc (· = g) w W → (bd bf L qf = false → bd b L q = false ∧ ramR L q = some (mem, qf)) → (bd bf L qf = true → bd b L q = true ∨ ramR L q = none) → RamP (fun W q b => Rrd B W g L q b) L q b g w (.returned (.slice (some ⟨gr, 0, none⟩) N N)) W) := fun W qf bf h1 h2 h3 h4 h5 => by
          have hf : Fsh 0 W (.slice (some ⟨gr, 0, none⟩) mem.length mem.length) mem := ⟨gr, rfl, Nat.zero_le _, h1⟩
          rw [hml.out] at hf
          exact ⟨mem, _, _, _, qf, bf, rfl, ⟨hf.byt, fun k hk => by simp [Value.ownBlock] at hk; omega⟩, hml.out.symm, by rw [hml.out]; exact HN6.out, h4, h5, h2, h3⟩
        obtain ⟨_, _, a1, c1, p1, hrr, _⟩ := hpr.out
        have c2 := hrr.cell 2
        have f2 := hrr.froz 2
        clear hrr
        cases hbb : bd b' L q' with
        | true =>
          rw [hbb] at c2
          have HR := Hid.mk' (HEND.out _ _ _ hro.out hpr.out hex.out (fun e => by rw [hbb] at e; cases e) hpn.out)
          clear hbb HEND
          go_wp2
          go_ret
          exact HR.out
        | false =>
          rw [hbb] at c2
          obtain ⟨fuel, hpg⟩ := hpy.out hbb
          have HPG := Hid.mk' hpg
          have HN2 := Hid.mk' (rnum_c hpr.out 2 (by omega))
          clear hbb hpg hpy hpn
          go_upto_region 9 with (go_at_call 60; refine HN2.out.mono ?_; rintro e w3 ⟨N2, rfl, h1, h2, h3, h4⟩; have H2 := Hid.mk' h2; have H3 := Hid.mk' h3; have H4 := Hid.mk' h4; have hb2 : (N2 : Int) < 65536 := (by omega); clear h1 h2 h3 h4; unfold u64V)
          have HRO := Hid.mk' (show Row w3 gr (bv mem).toArray 5 from (H4.out.block gr hro.out.lt hne).trans hro.out)
          have HEX := Hid.mk' (hex.out.trans H4.out)
          obtain ⟨_, _, a3, c3, p3, hrr, _⟩ := H3.out
          have d2 := hrr.cell 2
          have e2 := hrr.froz 2
          clear hrr c2 f2 HN2 H4 hro hex hpr
          by_cases h6 : N2 = 65535
          · have HR := Hid.mk' (HEND.out _ _ _ HRO.out H3.out HEX.out (fun e => HPG.out.fin e (by rw [← H2.out e]; exact h6)) (fun e => HPG.out.short e))
            have h62 : (N2 : Int) = 65535 := by omega
            rw [h62]
            clear h6 h62 HEND
            go_wp2
            go_ret
            exact HR.out
          · have h64 : ((N2 : Int) == 65535) = false := by simp; omega
            have HBADR : Hid (N2 < least ∨ pgN N ≤ N2 → RamP (fun W q b => Rrd B W g L q b) L q b g w (.returned (.slice (some ⟨gr, 0, none⟩) N N)) (w3.setCell ⟨g, 2, none⟩ (.bool true))) := fun ho => HEND.out _ (q' + 2) true (HRO.out.other hne _) (H3.out.set (b' := true) (q' := q' + 2) (by unfold bd; rfl)) (HEX.out.set g 2 _ rfl) (fun e => by unfold bd at e; simp at e) (fun _ => by
              cases e : bd b' L (q' + 2) with
              | true => exact HPG.out.short e
              | false => exact .inr (HPG.out.out e (by rw [← H2.out e]; exact h6) (by rw [← H2.out e]; exact ho)))
            by_cases hlo : N2 < least
            · have HR := Hid.mk' (HBADR.out (.inl hlo))
              have hlo2 : (N2 : Int) < (least : Int) := by omega
              clear h6 hlo HBADR HEND
              go_wp2
              go_ret
              exact HR.out
            · have hlo2 : ¬ (N2 : Int) < (least : Int) := by omega
              have hlo3 : decide ((N2 : Int) < (least : Int)) = false := by simp [hlo2]
              by_cases hhi : pgN N ≤ N2
              · have HR := Hid.mk' (HBADR.out (.inr hhi))
                have hhi2 : ((pgN N : Nat) : Int) ≤ (N2 : Int) := by omega
                clear h6 hlo hhi HBADR HEND
                go_wp2_with (go_at_call 54; refine (HPC.out _).mono ?_; rintro e w5 ⟨rfl, hw5⟩; have hw6 := hw5.symm; subst hw6)
                go_ret
                exact HR.out
              · have hhi1 : N2 < pgN N := by omega
                have hhi2 : ¬ ((pgN N : Nat) : Int) ≤ (N2 : Int) := by omega
                have hlt := pgN_lt hhi1
                have hpe : Hid (256 * N2 + (pgE N N2 - 256 * N2) ≤ mem.length ∧ 0 < pgE N N2 - 256 * N2 ∧ pgE N N2 - 256 * N2 ≤ 256) := by
                  unfold Hid; rw [hml.out]; unfold pgE; omega
                have HNX : Hid (bd b' L (q' + 2) = false → ∀ M' : List Int, M'.length = pgE N N2 - 256 * N2 → (bd (b' || blk ((L.drop (q' + 2)).take (pgE N N2 - 256 * N2))) L (q' + 2 + (pgE N N2 - 256 * N2)) = false → M' = (L.drop (q' + 2)).take (pgE N N2 - 256 * N2)) → Pgs L q b N (q' + 2 + (pgE N N2 - 256 * N2)) (b' || blk ((L.drop (q' + 2)).take (pgE N N2 - 256 * N2))) (N2 + 1) (put_at mem (256 * N2) M') (fuel - 1)) := fun hbb M' hM hg => HPG.out.next hbb (by rw [← H2.out hbb]; exact h6) N2 (H2.out hbb) (by omega) hhi1 M' hM hg
                have HSH := Hid.mk' (fun e => HPG.out.short e)
                have HTK := Hid.mk' (take_c H3.out (pgE N N2 - 256 * N2) (by have := hpe.out; omega))
                have HPV := Hid.mk' (HBK.out N2 hhi1 w3)
                have hmes : N2 + 1 ≤ 256 := by have := hM.out; omega
                have HLO : Hid (least ≤ N2) := (by unfold Hid; omega)
                have HME := Hid.mk' hmes
                obtain ⟨pl, hpl⟩ : ∃ pl, pl = pgE N N2 - 256 * N2 := ⟨_, rfl⟩
                obtain ⟨pp, hpp⟩ : ∃ pp, pp = 256 * N2 := ⟨_, rfl⟩
                rw [← hpl] at HTK HPV HNX hpe
                rw [← hpp] at HPV HNX hpe
                clear h6 hlo hhi hhi1 hlt hpl hpp HBADR HEND hmes hb2 H2 HPG
                go_upto_region 14 with (first | (go_at_call 54; refine (HPC.out _).mono ?_; rintro e w5 ⟨rfl, hw5⟩; have hw6 := hw5.symm; subst hw6) | (go_at_call 55; refine HPV.out.mono ?_; rintro e w5 ⟨rfl, hw5⟩; have hw6 := hw5.symm; subst hw6))
                have hgr3 : gr < w3.heap.size := HRO.out.lt
                have HG3 := Hid.mk' hgr3
                clear hgr3 d2 e2 hlo2 hlo3 hhi2 h64
                go_upto_region 15 with (go_at_call 63; refine HTK.out.mono ?_; rintro e w4 ⟨u, M', rfl, hcut, hlen, hall, hgood, hprd, hexc⟩; obtain ⟨xa, xn, xc, rfl⟩ := hcut.1.sl; have HC := Hid.mk' hcut; have HL := Hid.mk' hlen; have HA := Hid.mk' hall; have HG := Hid.mk' hgood; have HP := Hid.mk' hprd; have HX := Hid.mk' hexc; clear hcut hlen hall hgood hprd hexc)
                have HRO4 : Hid (Row w4 gr (bv mem).toArray 5) := (HX.out.block gr HRO.out.lt hne).trans HRO.out
                go_upto_region 16 with (refine wpList_copy_b (by rfl) _ _ (by rfl) gr pp pl (N - pp) (some ⟨gr, pp, none⟩) _ mem M' (by rfl) (by rfl) HRO4.out HC.out.1 (fun _ => rfl) (by have := HL.out; omega) (by have := HL.out; have := hpe.out.1; omega) ?_; intro w5 hr5 hx5; have HR5 := Hid.mk' hr5; have HX5 := Hid.mk' hx5; clear hr5 hx5)
                have HBY5 : Hid (Byt w5 (.slice xa xn xc) M') := HC.out.1.exc HX5.out (fun k off n' c' e hk => by
                  have hk2 : k = gr := hk
                  have := HG3.out
                  rcases HC.out.2 k (by rw [e]; rfl) with h | h <;> omega)
                have HBL := Hid.mk' (rblank_c M' _ w5 HBY5.out (by have := HL.out; have := hpe.out.2.2; omega))
                have HP5 := Hid.mk' (HP.out.exc HX5.out (fun e => hne e.symm) (fun k hk e => by have e2 : k = gr := e; omega))
                have HX6 : Hid (Exc (· = g) w w5) := ⟨HX5.out.os.trans (HEX.out.trans HX.out).os, HX5.out.tape.trans (HEX.out.trans HX.out).tape, HX5.out.output.trans (HEX.out.trans HX.out).output, Nat.le_trans (HEX.out.trans HX.out).size HX5.out.size, fun k hk hn => (HX5.out.block k (Nat.lt_of_lt_of_le hk (HEX.out.trans HX.out).size) (fun e => by have e2 : k = gr := e; omega)).trans ((HEX.out.trans HX.out).block k hk hn)⟩
                go_upto_region 17 with (go_at_call 56; refine HBL.out.mono ?_; rintro e w6 ⟨rfl, hw6⟩; have hw7 := hw6.symm; subst hw7)
                have HLN : Hid ((put_at mem pp M').length = N) := (by have h1 := HL.out; have h2 := hpe.out.1; unfold Hid; rw [← hml.out]; unfold put_at; simp; omega)
                have HG2 : Hid (bd (b' || blk ((L.drop (q' + 2)).take pl)) L (q' + 2 + pl) = false → M' = (L.drop (q' + 2)).take pl) := fun e => HG.out (bd_mono (b' := b' || blk ((L.drop (q' + 2)).take pl)) (fun h => by simp [h]) (Nat.le_refl _) e)
                have HPY : Hid (bd (b' || blk ((L.drop (q' + 2)).take pl)) L (q' + 2 + pl) = false → ∃ fuel, Pgs L q b N (q' + 2 + pl) (b' || blk ((L.drop (q' + 2)).take pl)) (N2 + 1) (put_at mem pp M') fuel) := fun e => ⟨_, HNX.out (bd_mono (b' := b' || blk ((L.drop (q' + 2)).take pl)) (fun h => by simp [h]) (by omega) e) M' HL.out HG2.out⟩
                have HPN : Hid (bd (b' || blk ((L.drop (q' + 2)).take pl)) L (q' + 2 + pl) = true → bd b L q = true ∨ ramR L q = none) := fun e => by
                  cases hbb : bd b' L (q' + 2) with
                  | true => exact HSH.out hbb
                  | false => exact (HNX.out hbb M' HL.out HG2.out).no e
                cases hk : blk M' with
                | true =>
                  have HBT : Hid (bd (b' || blk ((L.drop (q' + 2)).take pl)) L (q' + 2 + pl) = true) := (by
                    unfold Hid
                    rw [bd_more]
                    cases e : bd b' L (q' + 2 + pl) with
                    | true => rfl
                    | false => rw [← HG.out e, hk]; rfl)
                  obtain ⟨_, _, a5, c5, p5, hrr, _⟩ := HP5.out
                  have d2 := hrr.cell 2
                  have e2 := hrr.froz 2
                  clear hrr hk
                  go_wp2
                  go_roundw
                  case rel =>
                    refine ⟨q' + 2 + pl, b' || blk ((L.drop (q' + 2)).take pl), N2 + 1, put_at mem pp M', (by rw [wrap_up (Nat.le_trans HME.out (by omega))]), HME.out, HLN, HPY, HPN, HP5.out.set HBT.out, Row.other HR5.out hne _, HX6.out.set g 2 _ rfl⟩
                  case measure => exact meas_up (Nat.le_trans HME.out (by omega)) HLO.out
                | false =>
                  have HBE : Hid (bd (b' || blk ((L.drop (q' + 2)).take pl)) L (q' + 2 + pl) = bd b' L (q' + 2 + pl)) := (by
                    unfold Hid
                    rw [bd_more]
                    cases e : bd b' L (q' + 2 + pl) with
                    | true => rfl
                    | false => rw [← HG.out e, hk]; rfl)
                  clear hk
                  go_wp2
                  go_roundw
                  case rel =>
                    refine ⟨q' + 2 + pl, b' || blk ((L.drop (q' + 2)).take pl), N2 + 1, put_at mem pp M', (by rw [wrap_up (Nat.le_trans HME.out (by omega))]), HME.out, HLN, HPY, HPN, HP5.out.turn HBE.out, HR5, HX6⟩
                  case measure => exact meas_up (Nat.le_trans HME.out (by omega)) HLO.out
end Go.Proofs.Ytgblpjkpeihpeaa
namespace Go.Proofs.Ytgblpjkpeihpeaa
set_option linter.unusedVariables false
set_option maxRecDepth 100000
open Go.ChangeShapes Go.WideShapes Go.ChangeAt Go.RowKit Go.Deep
section
variable {P : Program} {ops : Array Oper} {Q : Exit → Act → World → Prop}
structure Onc (ops : Array Oper) (need : Nat → List Nat) (val : Nat → Value) (ci fin : Nat) (C : Value → World → Prop) (W : World) (a0 : Act) (listed : Array Bool) (a : Act) (w : World) : Prop where
  size : listed.size = ops.size
  tsz : a.tmps.size = a0.tmps.size
  dfr : a.defers = a0.defers
  old : ∀ k, apartB ops k = true → a.eval (.tmp k) = a0.eval (.tmp k)
  cl : ∀ j, listed.getD j false = true → ∀ k ∈ need j, listed.getD k false = true
  fact : ∀ j, j ≠ ci → j ≠ fin → listed.getD j false = true → leftBy ops a j = val j
  nf : listed.getD fin false = false
  bef : listed.getD ci false = false → w = W.drew
  aft : listed.getD ci false = true → C (leftBy ops a ci) w
theorem wp_region_one {id : Nat} (hm : P.follows .mixedOrders = true) (ci fin : Nat) (need : Nat → List Nat) (val : Nat → Value) (C : Value → World → Prop) (W : World) (a0 : Act) (hB : bagB ops need a0.tmps.size = true) (hflt : fin < ops.size) (hcis : ci < ops.size) (hcf : ci ≠ fin)
    (hfin : ∀ k, k < ops.size → k ≠ fin → k ∈ need fin) (hdst : ∀ (i : Nat) (o : Oper), ops[i]? = some o → o.dst ≠ none ∧ o.guard = none)
    (hpure : ∀ i o, ops[i]? = some o → i ≠ ci → i ≠ fin → ∀ a w, (∀ k, apartB ops k = true → a.eval (.tmp k) = a0.eval (.tmp k)) → (∀ k ∈ need i, k ≠ ci → leftBy ops a k = val k) → ci ∉ need i → (execOp a.eval o).run P w = .ok (.value (val i)) w)
    (hnci : ∀ i, i < ops.size → i ≠ fin → ci ∉ need i) (f : FuncId) (args : Array Value)
    (hcall : ∀ o, ops[ci]? = some o → ∀ a, (∀ k, apartB ops k = true → a.eval (.tmp k) = a0.eval (.tmp k)) → (∀ k ∈ need ci, leftBy ops a k = val k) → (execOp a.eval o).run P W.drew = .ok (.enter f args) W.drew)
    (hc : Calls P f args W.drew fun e w' => ∃ u, e = .returned u ∧ C u w')
    (hend : ∀ o, ops[fin]? = some o → ∀ a w u, (∀ k, apartB ops k = true → a.eval (.tmp k) = a0.eval (.tmp k)) → (∀ j, j < ops.size → j ≠ ci → j ≠ fin → leftBy ops a j = val j) → leftBy ops a ci = u → C u w →
      ∃ v w', (execOp a.eval o).run P w = .ok (.value v) w' ∧ Q .normal (putAll (fun j => if j = fin then v else if j = ci then u else val j) ops.toList 0 a0) w') :
    (Code.region id ops true).wp P Q a0 W := by
  refine wp_region_any hm ?_
  have hdone : ∀ (listed : Array Bool) a w, Onc ops need val ci fin C W a0 listed a w → Region.ready .any ops listed ≠ [] := fun listed a w h hr => by
    have := bag_all hB h.size hr fin hflt
    rw [h.nf] at this; cases this
  have main : ∀ (fuel : Nat) (listed : Array Bool) a w, listed.toList.count false ≤ fuel → (Onc ops need val ci fin C W a0 listed a w ∨ (Region.ready .any ops listed = [] ∧ Q .normal a w)) → wpAny P .any ops Q fuel listed a w := by
    intro fuel
    induction fuel with
    | zero =>
      intro listed a w hcn h
      rcases h with h | ⟨hr, hq⟩
      · exfalso
        refine hdone listed a w h (List.eq_nil_iff_forall_not_mem.2 fun j hj => ?_)
        obtain ⟨h0, o, ho, _⟩ := mem_ready.1 hj
        have hjl : j < listed.size := by rw [h.size]; exact (Array.getElem?_eq_some_iff.1 ho).1
        have : false ∈ listed.toList := by
          simp [hjl] at h0
          rw [← h0]; simp
        have := List.count_pos_iff.2 this
        omega
      · exact ⟨hr, hq⟩
    | succ fuel ih =>
      intro listed a w hcn h
      rcases h with h | ⟨hr, hq⟩
      · refine ⟨fun hr => absurd hr (hdone listed a w h), fun i hi => ?_⟩
        obtain ⟨h0, o, ho, hall⟩ := mem_ready.1 hi
        have hok := bagB_spec hB ho
        have hio : i < ops.size := (Array.getElem?_eq_some_iff.1 ho).1
        have hjl : i < listed.size := by rw [h.size]; exact hio
        have hinot : listed.getD i false = false := by simp [hjl] at h0 ⊢; exact h0
        have hneed : ∀ k ∈ need i, listed.getD k false = true := fun k hk => by
          obtain ⟨e, he, hbe, h1 | h1⟩ := hok.need k hk
          · rw [← h1]; exact hall e he hbe
          · exact h.cl e.on (hall e he hbe) k h1
        have hlt : ∀ k, listed.getD k false = true → k < ops.size := fun k hk => by
          rcases Nat.lt_or_ge k listed.size with h' | h'
          · rw [← h.size]; exact h'
          · simp [Array.getElem?_eq_none h'] at hk
        have hcnt : (listed.setIfInBounds i true).toList.count false ≤ fuel := by
          have h1 : listed.toList[i]'(by simpa using hjl) = false := by simp [hjl] at h0; simpa using h0
          rw [Array.toList_setIfInBounds, List.count_set (by simpa using hjl), h1]
          have h2 : 0 < listed.toList.count false := List.count_pos_iff.2 (by rw [← h1]; simp)
          simp only [beq_self_eq_true, if_true, show (true == false) = false from rfl, Bool.false_eq_true, if_false]
          omega
        obtain ⟨hd0, hg0⟩ := hdst i o ho
        obtain ⟨d, hd⟩ : ∃ d, o.dst = some d := by
          cases e : o.dst with
          | none => exact absurd e hd0
          | some d => exact ⟨d, rfl⟩
        obtain ⟨_, hdn, hdis⟩ := hok.dst d hd
        have hsame : ∀ v, leftBy ops (a.put o.dst v) i = v := fun v => by
          unfold leftBy; rw [slotOf_eq ho hd, hd]; exact eval_put_same (by rw [h.tsz]; exact hdn)
        have hkeep : ∀ v k, k < ops.size → k ≠ i → leftBy ops (a.put o.dst v) k = leftBy ops a k := fun v k hkl hki => by
          have hok2 : ops[k]? = some ops[k] := Array.getElem?_eq_getElem hkl
          have hne := hdis k _ hok2 hki
          unfold leftBy
          rw [hd]
          refine Act.eval_put fun x hx => ?_
          cases hx
          intro e
          cases hd' : (ops[k]).dst with
          | none => exact absurd hd' (hdst k _ hok2).1
          | some d' =>
            rw [slotOf_eq hok2 hd'] at e
            cases e
            exact hne hd'
        have hold : ∀ v k, apartB ops k = true → (a.put o.dst v).eval (.tmp k) = a0.eval (.tmp k) := fun v k hk => by
          rw [← h.old k hk]
          refine Act.eval_put fun x hx e => ?_
          cases e
          have := List.all_eq_true.1 hk o (by have := Array.mem_of_getElem? ho; simpa using this)
          simp [hx] at this
        have hwas : ∀ j, (listed.setIfInBounds i true).getD j false = true → j = i ∨ listed.getD j false = true := fun j hj => by
          by_cases e : i = j
          · exact .inl e.symm
          · rw [getD_set_ne false e] at hj; exact .inr hj
        have hcl : ∀ j, (listed.setIfInBounds i true).getD j false = true → ∀ k ∈ need j, (listed.setIfInBounds i true).getD k false = true := fun j hj k hk => by
          rcases hwas j hj with e | e
          · rw [e] at hk; exact getD_set_true (hneed k hk)
          · exact getD_set_true (h.cl j e k hk)
        by_cases hif : i = fin
        · subst hif
          have hlall : ∀ k, k < ops.size → k ≠ i → listed.getD k false = true := fun k hk hne => hneed k (hfin k hk hne)
          · have hcall2 := h.aft (hlall ci hcis hcf)
            obtain ⟨v, w', hr, hq⟩ := hend o ho a w _ h.old (fun j hj h1 h2 => h.fact j h1 h2 (hlall j hj h2)) rfl hcall2
            refine wpOp_plain ho hg0 ?_
            unfold Oper.wp
            rw [hr]
            refine ih _ _ _ hcnt (.inr ⟨?_, ?_⟩)
            · refine List.eq_nil_iff_forall_not_mem.2 fun j hj => ?_
              obtain ⟨h0', o', ho', _⟩ := mem_ready.1 hj
              have hj' : j < ops.size := (Array.getElem?_eq_some_iff.1 ho').1
              have hjl' : j < listed.size := by rw [h.size]; exact hj'
              by_cases e : i = j
              · subst e; simp [hjl] at h0'
              · rw [getD_set_ne true e] at h0'
                have := hlall j hj' (Ne.symm e)
                simp [hjl'] at h0' this
                rw [h0'] at this; cases this
            · rw [act_putAll (a := a.put o.dst v) hB (fun i o ho => (hdst i o ho).1) (by rw [put_size]; exact h.tsz) (by rw [put_defers]; exact h.dfr) (hold v)]
              have hfe : ∀ (l : List Oper) (n : Nat) (b : Act), n + l.length = ops.size → putAll (leftBy ops (a.put o.dst v)) l n b = putAll (fun j => if j = i then v else if j = ci then leftBy ops a ci else val j) l n b := by
                intro l
                induction l with
                | nil => intro n b _; rfl
                | cons x r ihl =>
                  intro n b hn
                  rw [putAll, putAll, ihl (n + 1) _ (by simp at hn; omega)]
                  have hnl : n < ops.size := by simp at hn; omega
                  congr 2
                  by_cases e : n = i
                  · rw [if_pos e, e]; exact hsame v
                  · rw [if_neg e, hkeep v n hnl e]
                    by_cases e2 : n = ci
                    · rw [if_pos e2, e2]
                    · rw [if_neg e2]; exact h.fact n e2 e (hlall n hnl e)
              rw [hfe _ 0 _ (by simp)]
              exact hq
        · by_cases hic : i = ci
          · subst hic
            have hw := h.bef hinot
            subst hw
            refine wpOp_plain ho hg0 ?_
            unfold Oper.wp
            rw [hcall o ho a h.old (fun k hk => by
              have hkl := hneed k hk
              have hki : k ≠ i := fun e => by rw [e, hinot] at hkl; cases hkl
              have hkf : k ≠ fin := fun e => by rw [e, h.nf] at hkl; cases hkl
              exact h.fact k hki hkf hkl)]
            refine Calls.mono hc ?_
            rintro e w' ⟨u, rfl, hC⟩
            refine ih _ _ _ hcnt (.inl ⟨by rw [Array.size_setIfInBounds]; exact h.size, by rw [put_size]; exact h.tsz, by rw [put_defers]; exact h.dfr, hold u, hcl, fun j h1 h2 hj => ?_, by rw [getD_set_ne false hif]; exact h.nf, fun e => ?_, fun _ => by rw [hsame]; exact hC⟩)
            · rcases hwas j hj with e | e
              · exact absurd e h1
              · rw [hkeep u j (hlt j e) h1]; exact h.fact j h1 h2 e
            · simp [hjl] at e
          · refine wpOp_plain ho hg0 ?_
            unfold Oper.wp
            rw [hpure i o ho hic hif a w h.old (fun k hk hkc => by
              have hkl := hneed k hk
              have hkf : k ≠ fin := fun e => by rw [e, h.nf] at hkl; cases hkl
              exact h.fact k hkc hkf hkl) (hnci i hio hif)]
            refine ih _ _ _ hcnt (.inl ⟨by rw [Array.size_setIfInBounds]; exact h.size, by rw [put_size]; exact h.tsz, by rw [put_defers]; exact h.dfr, hold _, hcl, fun j h1 h2 hj => ?_, by rw [getD_set_ne false hif]; exact h.nf, fun e => h.bef (by rw [getD_set_ne false hic] at e; exact e), fun e => ?_⟩)
            · rcases hwas j hj with e | e
              · rw [e]; exact hsame _
              · by_cases q : j = i
                · rw [q]; exact hsame _
                · rw [hkeep _ j (hlt j e) q]; exact h.fact j h1 h2 e
            · rw [getD_set_ne false hic] at e
              rw [hkeep _ ci (hlt ci e) (Ne.symm hic)]
              exact h.aft e
      · exact ⟨fun _ => hq, fun i hi => by rw [hr] at hi; cases hi⟩
  have hrep : ∀ j, (Array.replicate ops.size false).getD j false = false := fun j => by
    simp [Array.getElem?_replicate]; split <;> rfl
  refine main _ _ _ _ (by simp) (.inl ⟨by simp, rfl, rfl, fun _ _ => rfl, fun j hj => ?_, fun j _ _ hj => ?_, hrep fin, fun _ => rfl, fun e => ?_⟩)
  · rw [hrep] at hj; cases hj
  · rw [hrep] at hj; cases hj
  · rw [hrep] at e; cases e
end
end Go.Proofs.Ytgblpjkpeihpeaa
