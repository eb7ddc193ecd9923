/-
  Kl.
-/
import Derived.Test.YtgblpjkpeihpeaaM31
import Derived.Test.YtgblpjkpeihpeaaM32
namespace Go.Proofs.Ytgblpjkpeihpeaa
set_option linter.unusedVariables false
set_option maxRecDepth 100000
open Go.ChangeShapes Go.WideShapes Go.ChangeAt Go.RowKit Go.Deep
set_option maxHeartbeats 8000000 in
theorem saveLoads_c (l : List Int) (a : Option Addr) (c : Nat) (w : World) (hb : Byt w (.slice a l.length c) l) (hall : AllB l) (hl : l.length ≤ 140737488351232) :
    Calls Try.prog 5 #[.slice a l.length c] w fun e w' => e = .returned (.bool true) ∧ Below w.heap.size w w' := by
  have hz := zero_wh
  have HSL : Hid (∀ W, Below w.heap.size w W → Byt W (.slice a l.length c) l) := fun W h => hb.later h rfl
  have HLO := Hid.mk' (loose_c l (.slice a l.length c) w hb hl)
  have HPL : Hid (∀ ad cp W, Byt W (.slice ad l.length cp) l → Calls Try.prog 16 #[.slice ad l.length cp] W fun e w' => LoadP l W e w') := fun ad cp W h => pload_c h (by omega) hall
  have HRL : Hid (∀ W, Below w.heap.size w W → Calls Try.prog 17 #[.slice a l.length c] W fun e w' => LoadP l W e w') := fun W h => rload_c (hb.later h rfl) (by omega) hall
  obtain ⟨n, hn⟩ : ∃ n, n = l.length := ⟨_, rfl⟩
  have HN := Hid.mk' hn
  have HLO2 : Hid (Calls Try.prog 10 #[.slice a n c] w fun e w' => ∃ gr cp, e = .returned (.slice (some ⟨gr, 0, none⟩) (n + 64) cp) ∧ w'.ownsRow w.heap.size 5 1 (.slice (some ⟨gr, 0, none⟩) (n + 64) cp) (n + 64) (bv (l ++ mks 64)) ∧ Below w.heap.size w w') := by
    have q := HLO.out
    rw [← hn] at q
    refine q.mono ?_
    rintro e w' ⟨u, rfl, ho, hb⟩
    have hl : (l ++ mks 64).length = n + 64 := by rw [List.length_append, mks_length, hn]
    unfold Owb at ho
    rw [hl] at ho
    obtain ⟨gr, cp, rfl⟩ := Go.Joins.ownsRow_form ho (by omega)
    exact ⟨gr, cp, rfl, ho, hb⟩
  unfold LoadP at HPL HRL
  rw [← hn] at HSL HPL HRL hl ⊢
  generalize (ldV l).1 = K at *
  generalize (ldV l).2 = S at *
  generalize ldE l = E at *
  clear hn hb hall HLO
  go_enter Try.func5, Try.ntmps5
  go_upto_region 2 with (go_at_call 10; refine HLO2.out.mono ?_; rintro e W3 ⟨gr, cp, rfl, ho3, hb3⟩; have HO3 := Hid.mk' ho3; have HB3 := Hid.mk' hb3; clear ho3 hb3)
  clear HLO2
  have hlm : Hid ((l ++ mks 64).length = n + 64) := by unfold Hid; rw [List.length_append, mks_length, ← HN.out]
  have HBY := Hid.mk' (Byt.of_own HO3.out)
  have hgr : Hid (w.heap.size ≤ gr ∧ gr < W3.heap.size) := World.ownsRow.lt HO3.out gr rfl
  have hcp : Hid (n + 64 ≤ cp) := by
    obtain ⟨_, _, e, h1, _⟩ := HBY.out
    simp only [Value.slice.injEq] at e
    have := hlm.out
    unfold Hid; omega
  have hsl := sl_h W3 (some ⟨gr, 0, none⟩) (n + 64) cp n (by have := hcp.out; omega)
  have HCUT : Hid (Byt W3 (.slice (if cp = 0 then some ⟨gr, 0, none⟩ else (some ⟨gr, 0, none⟩ : Option Addr).map (fun x => x.add 0)) n cp) l) := by
    have q := HBY.out.cut 0 n cp (Nat.zero_le _) (by have := hcp.out; omega) (Nat.le_refl _) (by have := hlm.out; omega)
    rw [List.drop_zero, Nat.sub_zero, Nat.sub_zero, HN.out, List.take_append_of_le_length (Nat.le_refl _), List.take_length, ← HN.out] at q
    exact q
  obtain ⟨ad, had⟩ : ∃ ad, ad = (if cp = 0 then some ⟨gr, 0, none⟩ else (some ⟨gr, 0, none⟩ : Option Addr).map (fun x => x.add 0)) := ⟨_, rfl⟩
  rw [← had] at hsl HCUT
  clear had
  have HL1 := Hid.mk' (HPL.out ad cp W3 HCUT.out)
  clear HPL HCUT HBY
  go_upto_region 3 with (first | (go_at_call 16; refine HL1.out.mono ?_; rintro e W4 ⟨a0, a1, a2, nA0, nA1, nA2, cA0, cA1, cA2, rfl, hbs, how, hbl⟩; have HBSA := Hid.mk' hbs; have HOWA := Hid.mk' how; have HBLA := Hid.mk' hbl; clear hbs how hbl; have HIXA := Hid.mk' (info_wh K S (.slice a0 nA0 cA0) (.slice a1 nA1 cA1) (.slice a2 nA2 cA2)); have HOXA := Hid.mk' (whc_ones K S a0 a1 a2 nA0 nA1 nA2 cA0 cA1 cA2); have HZXA := Hid.mk' (whz_size K S (.slice a0 nA0 cA0) (.slice a1 nA1 cA1) (.slice a2 nA2 cA2)); obtain ⟨cs, hcs⟩ : ∃ cs, cs = whc K S (.slice a0 nA0 cA0) (.slice a1 nA1 cA1) (.slice a2 nA2 cA2) := ⟨_, rfl⟩; rw [← hcs] at HIXA HOXA HZXA ⊢; have HCSA := Hid.mk' hcs; clear hcs) | (refine store_endK (by rfl) 37 _ _ (by rfl) (by rfl) W4 whz cs (by rfl) (by rfl) (by rfl) HIXA.out HZXA.out HOXA.out ?_))
  clear HL1 hsl
  obtain ⟨gx, hgx⟩ : ∃ gx, gx = W4.heap.size := ⟨_, rfl⟩
  have b34 : Below W3.heap.size W3 (W4.alloc (.cells cs 37)) := HBLA.out.trans ((below_al _ _).mono HBLA.out.size)
  have k34 : W3.heap.size ≤ gx := by rw [hgx]; exact HBLA.out.size
  rw [← hgx]
  refine on_W (motive := fun W => Code.wp _ _ _ _ W) (Q := fun W => Row W gx cs 37 ∧ Bs S (.slice a0 nA0 cA0) (.slice a1 nA1 cA1) (.slice a2 nA2 cA2) W ∧ W.ownsRow w.heap.size 5 1 (.slice (some ⟨gr, 0, none⟩) (n + 64) cp) (n + 64) (bv (l ++ mks 64)) ∧ Below w.heap.size w W)
    ⟨by rw [hgx]; exact Row.new _ _ _, HBSA.out.later (below_al _ _), own_later HO3.out b34 rfl, HB3.out.trans (b34.mono HB3.out.size)⟩ ?_
  clear hgx b34 HBSA HBLA HO3 HB3
  rintro V5 ⟨p1, p2, p3, p4⟩
  have HX5 := Hid.mk' p1
  have HS5 := Hid.mk' p2
  have HO5 := Hid.mk' p3
  have HB5 := Hid.mk' p4
  clear p1 p2 p3 p4
  have HL2 := Hid.mk' (HRL.out V5 HB5.out)
  clear HRL
  go_upto_region 4 with (first | (go_at_call 17; refine HL2.out.mono ?_; rintro e W6 ⟨b0, b1, b2, nB0, nB1, nB2, cB0, cB1, cB2, rfl, hbs, how, hbl⟩; have HBSB := Hid.mk' hbs; have HOWB := Hid.mk' how; have HBLB := Hid.mk' hbl; clear hbs how hbl; have HIXB := Hid.mk' (info_wh K S (.slice b0 nB0 cB0) (.slice b1 nB1 cB1) (.slice b2 nB2 cB2)); have HOXB := Hid.mk' (whc_ones K S b0 b1 b2 nB0 nB1 nB2 cB0 cB1 cB2); have HZXB := Hid.mk' (whz_size K S (.slice b0 nB0 cB0) (.slice b1 nB1 cB1) (.slice b2 nB2 cB2)); obtain ⟨ds, hds⟩ : ∃ ds, ds = whc K S (.slice b0 nB0 cB0) (.slice b1 nB1 cB1) (.slice b2 nB2 cB2) := ⟨_, rfl⟩; rw [← hds] at HIXB HOXB HZXB ⊢; have HCSB := Hid.mk' hds; clear hds) | (refine store_endK (by rfl) 37 _ _ (by rfl) (by rfl) W6 whz ds (by rfl) (by rfl) (by rfl) HIXB.out HZXB.out HOXB.out ?_))
  clear HL2 hz
  obtain ⟨gy, hgy⟩ : ∃ gy, gy = W6.heap.size := ⟨_, rfl⟩
  have b56 : Below V5.heap.size V5 (W6.alloc (.cells ds 37)) := HBLB.out.trans ((below_al _ _).mono HBLB.out.size)
  have k56 : gx < gy := by rw [hgy]; exact Nat.lt_of_lt_of_le HX5.out.lt HBLB.out.size
  have k35 : gr < V5.heap.size := by have := HX5.out.lt; have := hgr.out.2; omega
  rw [← hgy]
  refine on_W (motive := fun W => Code.wp _ _ _ _ W) (Q := fun W => Row W gx cs 37 ∧ Row W gy ds 37 ∧ Bs S (.slice a0 nA0 cA0) (.slice a1 nA1 cA1) (.slice a2 nA2 cA2) W ∧ Bs S (.slice b0 nB0 cB0) (.slice b1 nB1 cB1) (.slice b2 nB2 cB2) W ∧ W.ownsRow w.heap.size 5 1 (.slice (some ⟨gr, 0, none⟩) (n + 64) cp) (n + 64) (bv (l ++ mks 64)) ∧ Below w.heap.size w W)
    ⟨HX5.out.later b56 HX5.out.lt, by rw [hgy]; exact Row.new _ _ _, HS5.out.later b56, HBSB.out.later (below_al _ _), own_later HO5.out b56 rfl, HB5.out.trans (b56.mono HB5.out.size)⟩ ?_
  clear hgy b56 HBSB HBLB HO5 HB5 HX5 HS5
  rintro V7 ⟨p1, p2, p3, p4, p5, p6⟩
  have HX7 := Hid.mk' p1
  have HY7 := Hid.mk' p2
  have HS7 := Hid.mk' p3
  have HT7 := Hid.mk' p4
  have HO7 := Hid.mk' p5
  have HB7 := Hid.mk' p6
  clear p1 p2 p3 p4 p5 p6
  have HKP := Hid.mk' (kept_t l (.slice (some ⟨gr, 0, none⟩) (n + 64) cp) (.slice a n c) V7 (Byt.of_own HO7.out) (HSL.out V7 HB7.out) (by rw [← HN.out]; exact hl))
  have HNM := Hid.mk' (hnum_c E V7)
  go_upto_region 6 with (first | (go_at_call 6; refine HNM.out.mono ?_; rintro e w5 ⟨rfl, hw5⟩; have hw6 := hw5.symm; subst hw6) | (go_at_call 14; refine HKP.out.mono ?_; rintro e w5 ⟨rfl, hw5⟩; have hw6 := hw5.symm; subst hw6))
  have HCU : Hid (∃ cur : Array Value, V7.heap[gr]? = some (.cells cur 5 (0, 0)) ∧ n + 64 ≤ cur.size) := by
    rcases HO7.out.2 with ⟨h', _⟩ | ⟨g', cap', cur, h', h1, h2, h3, h4, h5, h6⟩
    · simp at h'
    · simp only [Value.slice.injEq, Option.some.injEq, Addr.mk.injEq] at h'
      exact ⟨cur, by rw [h'.1.1]; exact h2, by omega⟩
  clear HNM HKP HO7
  go_wp2
  go_loopw [8] (fun i wr => ∃ k : Nat, k ≤ n + 64 ∧ i = .int .i64 k ∧ Hid (∃ cur : Array Value, wr.heap[gr]? = some (.cells cur 5 (0, 0)) ∧ n + 64 ≤ cur.size) ∧ Hid (Exc (· = gr) V7 wr)) (fun i _ => n + 64 - (intOf i).toNat)
  case atStart => exact ⟨0, Nat.zero_le _, rfl, HCU, Exc.refl _ _⟩
  case round =>
    obtain ⟨k, hk, rfl, hcu, hx⟩ := hrel
    clear HCU
    by_cases hlt : k < n + 64
    · have hlt2 : (k : Int) < (n : Int) + 64 := by omega
      obtain ⟨cur, hcur, hsz⟩ := hcu.out
      have hrow : Row wr gr cur 5 := hcur
      obtain ⟨y, hy⟩ : ∃ y, cur[k]? = some y := ⟨_, Array.getElem?_eq_getElem (by omega)⟩
      have hce : wr.cell? ⟨gr, k, none⟩ = some y := (hrow.cell k).trans hy
      have hfr := hrow.froz k
      have HRW := Hid.mk' hrow
      have HSZ := Hid.mk' hsz
      clear hcur hrow hsz hy hcu
      have hkb : (k : Int) < 140737488355328 := by omega
      go_wp2
      go_roundw
      case rel => exact ⟨k + 1, by omega, by go_num, ⟨_, HRW.out.put (i := k) _, by rw [Array.size_setIfInBounds]; exact HSZ.out⟩, hx.out.set gr k _ rfl⟩
      case measure => simp [intOf]; omega
    · have hkn : k = n + 64 := by omega
      have hz : ¬ (k : Int) < (n : Int) + 64 := by omega
      have hg3 := hgr.out.2
      have HX9 : Hid (Row wr gx cs 37) := (hx.out.block gx HX7.out.lt (fun e => by have e2 : gx = gr := e; omega)).trans HX7.out
      have HY9 : Hid (Row wr gy ds 37) := (hx.out.block gy HY7.out.lt (fun e => by have e2 : gy = gr := e; omega)).trans HY7.out
      have HAL : Hid (Calls Try.prog 15 #[.agg cs, .agg ds] wr fun e w' => e = .returned (.bool true) ∧ Below wr.heap.size wr w') := by
        unfold Hid
        rw [HCSA.out, HCSB.out]
        exact alike_t K S _ _ _ _ _ _ wr ⟨HS7.out.r.exc hx.out (fun g off n c e hg => by have := HOWA.out.1 g (by rw [e]; rfl); have hg2 : g = gr := hg; omega), HS7.out.i.exc hx.out (fun g off n c e hg => by have := HOWA.out.2.1 g (by rw [e]; rfl); have hg2 : g = gr := hg; omega), HS7.out.o.exc hx.out (fun g off n c e hg => by have := HOWA.out.2.2 g (by rw [e]; rfl); have hg2 : g = gr := hg; omega)⟩ ⟨HT7.out.r.exc hx.out (fun g off n c e hg => by have := HOWB.out.1 g (by rw [e]; rfl); have hg2 : g = gr := hg; omega), HT7.out.i.exc hx.out (fun g off n c e hg => by have := HOWB.out.2.1 g (by rw [e]; rfl); have hg2 : g = gr := hg; omega), HT7.out.o.exc hx.out (fun g off n c e hg => by have := HOWB.out.2.2 g (by rw [e]; rfl); have hg2 : g = gr := hg; omega)⟩
      have HBE : Hid (Below w.heap.size w wr) := HB7.out.trans (hx.out.below HB7.out.size (fun k hk => by have e2 : k = gr := hk; have := hgr.out.1; omega))
      clear hkn hlt HX7 HY7 HS7 HT7 HB7 hcu hx
      go_wp2_with (first | (refine wpList_load_row (by rfl) _ _ (by rfl) _ (by rfl) 37 _ (0, 0) _ HX9.out Try.underlying37 (by rfl) HIXA.out ?_) | (refine wpList_load_row (by rfl) _ _ (by rfl) _ (by rfl) 37 _ (0, 0) _ HY9.out Try.underlying37 (by rfl) HIXB.out ?_) | (go_at_call 15; refine HAL.out.mono ?_; rintro e W9 ⟨rfl, hb9⟩; have HB9 := Hid.mk' hb9; clear hb9))
      go_ret
      exact ⟨rfl, HBE.out.trans (HB9.out.mono HBE.out.size)⟩
end Go.Proofs.Ytgblpjkpeihpeaa
