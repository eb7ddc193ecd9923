/-
  Jh Ji.
-/
import Derived.Test.YtgblpjkpeihpeaaM18
namespace Go.Proofs.Ytgblpjkpeihpeaa
set_option linter.unusedVariables false
set_option maxRecDepth 100000
open Go.ChangeShapes Go.WideShapes Go.ChangeAt Go.RowKit Go.Deep
def RamP (P : World → Nat → Bool → Prop) (L : List Int) (q : Nat) (b : Bool) (g : Nat) (w : World) (e : Ending) (w' : World) : Prop :=
  ∃ (r : List Int) (a : Option Addr) (n c qf : Nat) (bf : Bool), e = .returned (.slice a n c) ∧ (Byt w' (.slice a n c) r ∧ ∀ k, (Value.slice a n c).ownBlock = some k → w.heap.size ≤ k) ∧ n = r.length ∧ r.length ≤ 65536 ∧
    (bd bf L qf = false → bd b L q = false ∧ ramR L q = some (r, qf)) ∧ (bd bf L qf = true → bd b L q = true ∨ ramR L q = none) ∧ P w' qf bf ∧ Exc (· = g) w w'
theorem validRam_c (N : Nat) (hN : N < 4294967296) (w : World) : Calls Try.prog 77 #[.int .u64 (N : Int)] w fun e w' => e = .returned (.bool (ramOk N)) ∧ w' = w := by
  unfold ramOk
  by_cases h1 : 8 ≤ (N : Int)
  · by_cases h2 : (N : Int) ≤ 65536
    · by_cases h3 : (N : Int) % 8 = 0
      · have e : (decide (8 ≤ (N : Int)) && decide ((N : Int) ≤ 65536) && ((N : Int) % 8 == 0)) = true := by simp [h1, h2, h3]
        rw [e]
        have h4 : (N : Int).tmod 8 = 0 := by rw [Int.tmod_eq_emod_of_nonneg (by omega)]; exact h3
        clear e
        go_enter Try.func77, Try.ntmps77
        go_wp2
        go_ret
        exact ⟨rfl, rfl⟩
      · have e : (decide (8 ≤ (N : Int)) && decide ((N : Int) ≤ 65536) && ((N : Int) % 8 == 0)) = false := by simp [h3]
        rw [e]
        have h4 : ¬ (N : Int).tmod 8 = 0 := by rw [Int.tmod_eq_emod_of_nonneg (by omega)]; exact h3
        have h5 : ((N : Int) % 8 == 0) = false := by simpa using h3
        clear e
        go_enter Try.func77, Try.ntmps77
        go_wp2
        go_ret
        exact ⟨by first | rfl | simp [h3, h5], rfl⟩
    · have e : (decide (8 ≤ (N : Int)) && decide ((N : Int) ≤ 65536) && ((N : Int) % 8 == 0)) = false := by simp [h2]
      rw [e]
      have h2' : decide ((N : Int) ≤ 65536) = false := by simp [h2]
      clear e
      go_enter Try.func77, Try.ntmps77
      go_wp2
      go_ret
      exact ⟨rfl, rfl⟩
  · have e : (decide (8 ≤ (N : Int)) && decide ((N : Int) ≤ 65536) && ((N : Int) % 8 == 0)) = false := by simp [h1]
    rw [e]
    have h1' : decide (8 ≤ (N : Int)) = false := by simp [h1]
    clear e
    go_enter Try.func77, Try.ntmps77
    go_wp2
    go_ret
    exact ⟨rfl, rfl⟩
/-- The state of the pages' reading. -/
structure Pgs (L : List Int) (q : Nat) (b : Bool) (n q' : Nat) (b' : Bool) (least : Nat) (mem : List Int) (fuel : Nat) : Prop where
  len : mem.length = n
  lp : least ≤ pgN n
  fu : pgN n + 1 ≤ fuel + least
  yes : bd b' L q' = false → bd b L q = false ∧ rdP L n fuel q' least mem = ramR L q
  no : bd b' L q' = true → bd b L q = true ∨ ramR L q = none
theorem rdP_eq (L : List Int) (n fuel q least : Nat) (mem : List Int) : rdP L n (fuel + 1) q least mem = (if L.length < q + 2 then none else if nv L q 2 = 65535 then some (mem, q + 2) else
      if nv L q 2 < least ∨ pgN n ≤ nv L q 2 then none
      else if L.length < q + 2 + (pgE n (nv L q 2) - 256 * nv L q 2) then none
      else if blk ((L.drop (q + 2)).take (pgE n (nv L q 2) - 256 * nv L q 2)) then none
      else rdP L n fuel (q + 2 + (pgE n (nv L q 2) - 256 * nv L q 2)) (nv L q 2 + 1) (put_at mem (256 * nv L q 2) ((L.drop (q + 2)).take (pgE n (nv L q 2) - 256 * nv L q 2)))) := by rw [rdP]
theorem bd_split {b : Bool} {L : List Int} {q q' : Nat} (h : bd b L q' = true) (h2 : bd b L q = false) : L.length < q' := by
  unfold bd at *
  simp only [Bool.or_eq_false_iff, decide_eq_false_iff_not, Bool.or_eq_true, decide_eq_true_eq] at *
  rcases h with h | h
  · rw [h2.1] at h; cases h
  · exact h
/-- It ends early. -/
theorem Pgs.short {L : List Int} {q : Nat} {b : Bool} {n q' : Nat} {b' : Bool} {least : Nat} {mem : List Int} {fuel : Nat} (h : Pgs L q b n q' b' least mem fuel) (hb : bd b' L (q' + 2) = true) : bd b L q = true ∨ ramR L q = none := by
  cases e : bd b' L q' with
  | true => exact h.no e
  | false =>
    obtain ⟨h1, h2⟩ := h.yes e
    have hl := bd_split hb e
    obtain ⟨f, hf⟩ : ∃ f, fuel = f + 1 := ⟨fuel - 1, by have := h.fu; have := h.lp; omega⟩
    rw [hf, rdP_eq, if_pos hl] at h2
    exact .inr h2.symm
theorem Pgs.fin {L : List Int} {q : Nat} {b : Bool} {n q' : Nat} {b' : Bool} {least : Nat} {mem : List Int} {fuel : Nat} (h : Pgs L q b n q' b' least mem fuel) (hb : bd b' L (q' + 2) = false) (hn : nv L q' 2 = 65535) : bd b L q = false ∧ ramR L q = some (mem, q' + 2) := by
  obtain ⟨h1, h2⟩ := h.yes (bd_q (by omega) hb)
  have hl := bd_len hb
  obtain ⟨f, hf⟩ : ∃ f, fuel = f + 1 := ⟨fuel - 1, by have := h.fu; have := h.lp; omega⟩
  rw [hf, rdP_eq, if_neg (by omega), if_pos hn] at h2
  exact ⟨h1, h2.symm⟩
theorem Pgs.out {L : List Int} {q : Nat} {b : Bool} {n q' : Nat} {b' : Bool} {least : Nat} {mem : List Int} {fuel : Nat} (h : Pgs L q b n q' b' least mem fuel) (hb : bd b' L (q' + 2) = false) (hn : nv L q' 2 ≠ 65535) (ho : nv L q' 2 < least ∨ pgN n ≤ nv L q' 2) : ramR L q = none := by
  obtain ⟨h1, h2⟩ := h.yes (bd_q (by omega) hb)
  have hl := bd_len hb
  obtain ⟨f, hf⟩ : ∃ f, fuel = f + 1 := ⟨fuel - 1, by have := h.fu; have := h.lp; omega⟩
  rw [hf, rdP_eq, if_neg (by omega), if_neg hn, if_pos ho] at h2
  exact h2.symm
theorem Pgs.next {L : List Int} {q : Nat} {b : Bool} {n q' : Nat} {b' : Bool} {least : Nat} {mem : List Int} {fuel : Nat} (h : Pgs L q b n q' b' least mem fuel) (hb : bd b' L (q' + 2) = false) (hn : nv L q' 2 ≠ 65535) (i : Nat) (hi : i = nv L q' 2) (h1 : least ≤ i) (h2 : i < pgN n) (M' : List Int) (hM : M'.length = pgE n i - 256 * i)
    (hg : bd (b' || blk ((L.drop (q' + 2)).take (pgE n i - 256 * i))) L (q' + 2 + (pgE n i - 256 * i)) = false → M' = (L.drop (q' + 2)).take (pgE n i - 256 * i)) :
    Pgs L q b n (q' + 2 + (pgE n i - 256 * i)) (b' || blk ((L.drop (q' + 2)).take (pgE n i - 256 * i))) (i + 1) (put_at mem (256 * i) M') (fuel - 1) := by
  obtain ⟨k1, k2⟩ := h.yes (bd_q (by omega) hb)
  have hl := bd_len hb
  obtain ⟨f, hf⟩ : ∃ f, fuel = f + 1 := ⟨fuel - 1, by have := h.fu; have := h.lp; omega⟩
  have hlt := pgN_lt h2
  have hlen : 256 * i + M'.length ≤ mem.length := by rw [hM, h.len]; unfold pgE; omega
  rw [hf, rdP_eq, if_neg (by omega), if_neg hn, if_neg (by omega), ← hi] at k2
  refine ⟨by rw [put_at_length _ _ _ hlen]; exact h.len, by omega, by have := h.fu; omega, fun e => ⟨k1, ?_⟩, fun e => .inr ?_⟩
  · have e1 := bd_or e
    have e2 := bd_len e
    rw [if_neg (by omega), e1.2] at k2
    rw [hg e, hf, Nat.add_sub_cancel, ← k2]
    simp
  · rw [← k2]
    rw [bd_more] at e
    by_cases hs : L.length < q' + 2 + (pgE n i - 256 * i)
    · rw [if_pos hs]
    · rw [if_neg hs]
      have hbf : bd b' L (q' + 2 + (pgE n i - 256 * i)) = false := by
        cases q : bd b' L (q' + 2 + (pgE n i - 256 * i)) with
        | false => rfl
        | true => exact absurd (bd_split q hb) hs
      rw [hbf, Bool.false_or] at e
      rw [e]; simp
end Go.Proofs.Ytgblpjkpeihpeaa
namespace Go.Proofs.Ytgblpjkpeihpeaa
set_option linter.unusedVariables false
set_option maxRecDepth 100000
open Go.ChangeShapes Go.WideShapes Go.ChangeAt Go.RowKit Go.Deep
theorem Pgs.start {L : List Int} {q : Nat} {b : Bool} {N : Nat} (hN : bd b L (q + 4) = false → N = nv L q 4) (hok : ramOk N = true) : Pgs L q b N (q + 4) b 0 (List.replicate N 0) (pgN N + 1) := by
  refine ⟨by simp, Nat.zero_le _, by omega, fun e => ⟨bd_q (by omega) e, ?_⟩, fun e => ?_⟩
  · have hl := bd_len e
    unfold ramR
    rw [if_neg (by omega), ← hN e, hok]
    rfl
  · cases h : bd b L q with
    | true => exact .inl rfl
    | false => right; unfold ramR; rw [if_pos (bd_split e h)]
theorem ram_bad {L : List Int} {q : Nat} {b : Bool} {N : Nat} (hN : bd b L (q + 4) = false → N = nv L q 4) (hok : ramOk N = false) : bd b L q = true ∨ ramR L q = none := by
  cases e : bd b L (q + 4) with
  | true =>
    cases h : bd b L q with
    | true => exact .inl rfl
    | false => right; unfold ramR; rw [if_pos (bd_split e h)]
  | false =>
    right
    have hl := bd_len e
    unfold ramR
    rw [if_neg (by omega), ← hN e, hok]
    rfl
theorem wrap_up {n : Nat} (h : n + 1 ≤ 257) : wrap64 ((n : Int) + 1) = ((n + 1 : Nat) : Int) := by
  unfold wrap64; omega
theorem meas_up {n k : Nat} (h : n + 1 ≤ 257) (hk : k ≤ n) : 257 - (intOf (.int .i64 (wrap64 ((n : Int) + 1)))).toNat < 257 - (intOf (.int .i64 (k : Int))).toNat := by
  rw [wrap_up h]
  have e1 : (intOf (.int .i64 ((n + 1 : Nat) : Int))).toNat = n + 1 := Int.toNat_natCast _
  have e2 : (intOf (.int .i64 ((k : Nat) : Int))).toNat = k := Int.toNat_natCast _
  rw [e1, e2]; omega
theorem ramOk_le {N : Nat} (h : ramOk N = true) : 8 ≤ N ∧ N ≤ 65536 := by
  unfold ramOk at h
  simp only [Bool.and_eq_true, decide_eq_true_eq] at h
  omega
set_option maxHeartbeats 8000000 in
theorem pram_c {B : Nat} {w : World} {g : Nat} {L : List Int} {q : Nat} {b : Bool} (h : Prd B w g L q b) :
    Calls Try.prog 59 #[.pointer (some ⟨g, 0, none⟩)] w fun e w' => RamP (fun W q b => Prd B W g L q b) L q b g w e w' := by
  have HN := Hid.mk' (number_c h 4 (by omega))
  have hgl : g < w.heap.size := h.lt
  have hbg := h.bg
  have HVR := Hid.mk' (fun N hN W => validRam_c N hN W)
  clear h
  go_enter Try.func59, Try.ntmps59
  go_upto_region 2 with (go_at_call 75; refine HN.out.mono ?_; rintro e w1 ⟨N, rfl, h1, h2, h3, h4⟩; have H2 := Hid.mk' h2; have H3 := Hid.mk' h3; have H4 := Hid.mk' h4; have hb : (N : Int) < 4294967296 := (by omega); have hbn : N < 4294967296 := (by omega); clear h1 h2 h3 h4; unfold u64V)
  cases hok : ramOk N with
  | false =>
    have HR := Hid.mk' (ram_bad H2.out hok)
    have HVV := Hid.mk' (HVR.out N hbn w1)
    rw [hok] at HVV
    obtain ⟨_, a, n, c', M, hrr, _⟩ := H3.out
    have c1 := hrr.cell 1
    have f1 := hrr.froz 1
    generalize bd b L (q + 4) = bb at c1
    clear hrr hok
    go_wp2_with (go_at_call 77; refine HVV.out.mono ?_; rintro e w5 ⟨rfl, hw5⟩; have hw6 := hw5.symm; subst hw6)
    go_ret
    exact ⟨[], none, 0, 0, q + 4, true, rfl, ⟨Byt.nil _, fun k hk => by cases hk⟩, rfl, Nat.zero_le _, (fun e => by unfold bd at e; simp at e), (fun _ => HR.out), H3.out.set (by unfold bd; rfl), H4.out.set g 1 _ rfl⟩
  | true =>
    have HVV := Hid.mk' (HVR.out N hbn w1)
    rw [hok] at HVV
    obtain ⟨hN8, hN6⟩ := ramOk_le hok
    have HST := Hid.mk' (Pgs.start H2.out hok)
    obtain ⟨i0, hi, hz0, hz1, hz2⟩ := info_parts info5
    have HI : Hid (Try.prog.info? 5 = some i0) := hi
    have HZ0 : Hid (i0.zero = some (.int .u8 0)) := hz0
    have HZ1 : Hid (i0.size = 1) := hz1
    have HZ2 : Hid (i0.bytes = 1) := hz2
    clear hi hz0 hz1 hz2 hok
    go_upto_region 6 with (first | (go_at_call 77; refine HVV.out.mono ?_; rintro e w5 ⟨rfl, hw5⟩; have hw6 := hw5.symm; subst hw6) | (at_make; refine wpList_make_full _ (by rfl) _ _ 32 (by rfl) w1.heap.size 5 i0 (.int .u8 0) 1 Try.underlying32 HI.out HZ0.out HZ1.out _ _ _ _ N (by rfl) (by rfl) (by omega) (by omega) (by rw [HZ2.out]; omega) (by unfold maxLen; omega) (Nat.le_refl _) ?_; intro w2 hown hgrow))
    have hrow : Row w2 w1.heap.size (bv (List.replicate N 0)).toArray 5 := by
      have h := hown
      rw [show (Value.int .u8 0).cells = #[Value.int .u8 0] from rfl, made_bv] at h
      exact row_own (by simp) h
    have hbl : Below w1.heap.size w1 w2 := (Below.refl _ _).grown hgrow (Nat.le_refl _) (fun k hk => by cases hk)
    obtain ⟨gr, hgr⟩ : ∃ gr, gr = w1.heap.size := ⟨_, rfl⟩
    rw [← hgr] at hrow ⊢
    have hgg : g < gr := by have := H4.out.size; omega
    have hne : gr ≠ g := by omega
    have hgw : w.heap.size ≤ gr := by rw [hgr]; exact H4.out.size
    have HRW := Hid.mk' hrow
    have HP2 := Hid.mk' (H3.out.later hbl)
    have HX2 : Hid (Exc (· = g) w w2) := H4.out.trans (Exc.of_below hbl rfl)
    have HBK : Hid (∀ i, i < pgN N → ∀ W, Calls Try.prog 48 #[.slice (some ⟨gr, 0, none⟩) N N, .int .i64 (i : Int)] W fun e w' => e = .returned (.slice (some ⟨gr, 256 * i, none⟩) (pgE N i - 256 * i) (pgE N i - 256 * i)) ∧ w' = W) := fun i hi W => by
      have q := spage_c (some ⟨gr, 0, none⟩) N N i (Nat.le_refl _) hN6 hi W
      have e : cad (some ⟨gr, 0, none⟩) (256 * i) (pgE N i) = some ⟨gr, 256 * i, none⟩ := by
        unfold cad
        rw [if_neg (by have := pgN_lt hi; unfold pgE; omega)]
        simp [addAt]
      rw [e] at q; exact q
    have HPC := Hid.mk' (fun W => spages_c N hN6 W)
    have hM : Hid (pgN N ≤ 256) := by unfold Hid pgN; omega
    clear hown hgrow hrow hbl hgr H2 H3 H4 HVR HVV HN
    go_wp2
    go_loopw [5] (fun s wr => ∃ (q' : Nat) (b' : Bool) (least : Nat) (mem : List Int) (fuel : Nat), s = .int .i64 (least : Nat) ∧ Hid (Pgs L q b N q' b' least mem fuel) ∧ Hid (Prd B wr g L q' b') ∧ Hid (Row wr gr (bv mem).toArray 5) ∧ Hid (Exc (· = g) w wr)) (fun s _ => 257 - (intOf s).toNat)
    case atStart => exact ⟨q + 4, b, 0, _, _, rfl, HST, HP2, HRW, HX2⟩
    case round =>
      obtain ⟨q', b', least, mem, fuel, rfl, hpg, hpr, hro, hex⟩ := hrel
      clear HST HP2 HRW HX2
      have hml : Hid (mem.length = N) := hpg.out.len
      have hlp : least ≤ 256 := Nat.le_trans hpg.out.lp hM.out
      have HN2 := Hid.mk' (number_c hpr.out 2 (by omega))
      have HEND : Hid (∀ (W : World) (qf : Nat) (bf : Bool), Row W gr (bv mem).toArray 5 → Prd B W g L qf bf → Exc (· = g) w W → (bd bf L qf = false → bd b L q = false ∧ ramR L q = some (mem, qf)) → (bd bf L qf = true → bd b L q = true ∨ ramR L q = none) → RamP (fun W q b => Prd B W g L q b) L q b g w (.returned (.slice (some ⟨gr, 0, none⟩) N N)) W) := fun W qf bf h1 h2 h3 h4 h5 => by
        have hf : Fsh 0 W (.slice (some ⟨gr, 0, none⟩) mem.length mem.length) mem := ⟨gr, rfl, Nat.zero_le _, h1⟩
        rw [hml.out] at hf
        exact ⟨mem, _, _, _, qf, bf, rfl, ⟨hf.byt, fun k hk => by simp [Value.ownBlock] at hk; omega⟩, hml.out.symm, by rw [hml.out]; exact hN6, h4, h5, h2, h3⟩
      go_upto_region 8 with (go_at_call 75; refine HN2.out.mono ?_; rintro e w3 ⟨N2, rfl, h1, h2, h3, h4⟩; have H2 := Hid.mk' h2; have H3 := Hid.mk' h3; have H4 := Hid.mk' h4; have hb2 : (N2 : Int) < 65536 := (by omega); clear h1 h2 h3 h4; unfold u64V)
      have HRO := Hid.mk' (show Row w3 gr (bv mem).toArray 5 from (H4.out.block gr hro.out.lt hne).trans hro.out)
      have HEX := Hid.mk' (hex.out.trans H4.out)
      obtain ⟨_, a, n, c', M, hrr, _⟩ := H3.out
      have c1 := hrr.cell 1
      have f1 := hrr.froz 1
      clear hrr hro hex HN2 H4
      cases hbb : bd b' L (q' + 2) with
      | true =>
        rw [hbb] at c1
        have HSH := Hid.mk' (hpg.out.short hbb)
        have HBB := Hid.mk' hbb
        clear hbb
        by_cases h6 : N2 = 65535
        · have h62 : (N2 : Int) = 65535 := by omega
          rw [h62]
          clear h6 h62
          go_wp2
          go_ret
          exact HEND.out _ _ _ HRO.out H3.out HEX.out (fun e => by rw [HBB.out] at e; cases e) (fun _ => HSH.out)
        · have h62 : ¬ (N2 : Int) = 65535 := by omega
          have h63 : decide ((N2 : Int) = 65535) = false := by simp [h62]
          clear h6
          go_wp2
          go_ret
          exact HEND.out _ _ _ HRO.out H3.out HEX.out (fun e => by rw [HBB.out] at e; cases e) (fun _ => HSH.out)
      | false =>
        rw [hbb] at c1
        have hnv := H2.out hbb
        by_cases h6 : N2 = 65535
        · have HFI := Hid.mk' (hpg.out.fin hbb (by rw [← hnv]; exact h6))
          have HBB := Hid.mk' hbb
          have h62 : (N2 : Int) = 65535 := by omega
          rw [h62]
          clear h6 h62 hbb hnv
          go_wp2
          go_ret
          exact HEND.out _ _ _ HRO.out H3.out HEX.out (fun _ => HFI.out) (fun e => by rw [HBB.out] at e; cases e)
        · have h64 : ((N2 : Int) == 65535) = false := by simp; omega
          have HBB := Hid.mk' hbb
          by_cases hlo : N2 < least
          · have HOU := Hid.mk' (hpg.out.out hbb (by rw [← hnv]; exact h6) (by rw [← hnv]; exact .inl hlo))
            have hlo2 : (N2 : Int) < (least : Int) := by omega
            clear h6 hbb hnv hlo
            go_wp2
            go_ret
            exact HEND.out _ _ true (HRO.out.other hne _) (H3.out.set (b' := true) (q' := q' + 2) (by unfold bd; rfl)) (HEX.out.set g 1 _ rfl) (fun e => by unfold bd at e; simp at e) (fun _ => .inr HOU.out)
          · have hlo2 : ¬ (N2 : Int) < (least : Int) := by omega
            have hlo3 : decide ((N2 : Int) < (least : Int)) = false := by simp [hlo2]
            by_cases hhi : pgN N ≤ N2
            · have HOU := Hid.mk' (hpg.out.out hbb (by rw [← hnv]; exact h6) (by rw [← hnv]; exact .inr hhi))
              have hhi2 : ((pgN N : Nat) : Int) ≤ (N2 : Int) := by omega
              clear h6 hbb hnv hlo hhi
              go_wp2_with (go_at_call 47; refine (HPC.out _).mono ?_; rintro e w5 ⟨rfl, hw5⟩; have hw6 := hw5.symm; subst hw6)
              go_ret
              exact HEND.out _ _ true (HRO.out.other hne _) (H3.out.set (b' := true) (q' := q' + 2) (by unfold bd; rfl)) (HEX.out.set g 1 _ rfl) (fun e => by unfold bd at e; simp at e) (fun _ => .inr HOU.out)
            · have hhi1 : N2 < pgN N := by omega
              have hhi2 : ¬ ((pgN N : Nat) : Int) ≤ (N2 : Int) := by omega
              have hlt := pgN_lt hhi1
              have hpe : Hid (256 * N2 + (pgE N N2 - 256 * N2) ≤ mem.length ∧ 0 < pgE N N2 - 256 * N2 ∧ pgE N N2 - 256 * N2 ≤ 256) := by
                unfold Hid; rw [hml.out]; unfold pgE; omega
              have HNX := Hid.mk' (fun M' hM hg => hpg.out.next hbb (by rw [← hnv]; exact h6) N2 hnv (by omega) hhi1 M' hM hg)
              have HPM := Hid.mk' (ppage_c H3.out gr mem HRO.out (Ne.symm hne) (by omega) (256 * N2) (pgE N N2 - 256 * N2) hpe.out.1 hpe.out.2.1 hpe.out.2.2)
              have HPV := Hid.mk' (HBK.out N2 hhi1 w3)
              have hM2 := hM.out
              have hmes : N2 + 1 ≤ 257 := by omega
              obtain ⟨pl, hpl⟩ : ∃ pl, pl = pgE N N2 - 256 * N2 := ⟨_, rfl⟩
              obtain ⟨pp, hpp⟩ : ∃ pp, pp = 256 * N2 := ⟨_, rfl⟩
              rw [← hpp] at HPV HPM
              rw [hpp, ← hpl, ← hpp] at HPV HPM
              rw [← hpl] at HNX
              have HPP := Hid.mk' hpp
              have hlo4 : least ≤ N2 := by omega
              have hhi3 : decide (((pgN N : Nat) : Int) ≤ (N2 : Int)) = false := by simp [hhi2]
              have HLO := Hid.mk' hlo4
              have HME := Hid.mk' hmes
              clear h6 hbb hnv hlo hhi hhi1 hlt hpl hpp hpe hM2 hlo4 hmes hlp hb2 hN8 hN6
              clear hb hbn
              go_wp2_with (first | (go_at_call 47; refine (HPC.out _).mono ?_; rintro e w5 ⟨rfl, hw5⟩; have hw6 := hw5.symm; subst hw6) | (go_at_call 48; refine HPV.out.mono ?_; rintro e w5 ⟨rfl, hw5⟩; have hw6 := hw5.symm; subst hw6) | (go_at_call 78; refine HPM.out.mono ?_; rintro e w6 ⟨M', rfl, k1, k2, k3, k4, k5, k6⟩; have K1 := Hid.mk' k1; have K3 := Hid.mk' k3; have K4 := Hid.mk' k4; have K5 := Hid.mk' k5; have K6 := Hid.mk' k6; clear k1 k2 k3 k4 k5 k6))
              go_roundw
              case rel =>
                have x6 : Exc (· = g) w w6 := ⟨K6.out.os.trans HEX.out.os, K6.out.tape.trans HEX.out.tape, K6.out.output.trans HEX.out.output, Nat.le_trans HEX.out.size K6.out.size, fun k hk hn => (K6.out.block k (Nat.lt_of_lt_of_le hk HEX.out.size) (fun e => by rcases e with e | e; exact hn e; omega)).trans (HEX.out.block k hk hn)⟩
                refine ⟨q' + 2 + pl, _, N2 + 1, put_at mem pp M', fuel - 1, (by rw [wrap_up HME.out]), ?_, K5, K3, x6⟩
                have := HNX.out M' K1.out K4.out
                rw [← HPP.out] at this
                exact this
              case measure => exact meas_up HME.out HLO.out
end Go.Proofs.Ytgblpjkpeihpeaa
