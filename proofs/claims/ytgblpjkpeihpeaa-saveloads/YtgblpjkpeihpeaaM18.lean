/-
  Jb Jc Jd Jg.
-/
import Derived.Test.YtgblpjkpeihpeaaM17
namespace Go.Proofs.Ytgblpjkpeihpeaa
set_option linter.unusedVariables false
set_option maxRecDepth 100000
open Go.ChangeShapes Go.WideShapes Go.ChangeAt Go.RowKit Go.Deep
/-- What a number's reading answers, as a value made of it. -/
def NumP (mk : Nat → Value) (B : Nat) (w : World) (g : Nat) (L : List Int) (q : Nat) (b : Bool) (n : Nat) (e : Ending) (w' : World) : Prop :=
  ∃ N : Nat, e = .returned (mk N) ∧ N < 256 ^ n ∧ (bd b L (q + n) = false → N = nv L q n) ∧ Prd B w' g L (q + n) b ∧ Exc (· = g) w w'
def u64V (N : Nat) : Value := .int .u64 (N : Int)
def u8V (N : Nat) : Value := .int .u8 (N : Int)
theorem tk_cut {M' L : List Int} {q n : Nat} (h8 : n ≤ 8) (hl : M'.length = n) (e : M' = (L.drop q).take n) : tk M' = nv L q n := by
  unfold tk nv
  rw [hl, Nat.min_eq_left h8, e, tkN_take _ _ _ (Nat.le_refl _)]
theorem tk_lt8 {M' : List Int} {n : Nat} (h8 : n ≤ 8) (hl : M'.length = n) (h : AllB M') : tk M' < 256 ^ n := by
  unfold tk
  rw [hl, Nat.min_eq_left h8]; exact tkN_lt h n
set_option maxHeartbeats 1000000 in
theorem number_c {B : Nat} {w : World} {g : Nat} {L : List Int} {q : Nat} {b : Bool} (h : Prd B w g L q b) (n : Nat) (h8 : n ≤ 8) :
    Calls Try.prog 75 #[.pointer (some ⟨g, 0, none⟩), .int .i64 (n : Int)] w fun e w' => NumP u64V B w g L q b n e w' := by
  have HS := Hid.mk' (sect_c h n (by omega))
  have HT : Hid (∀ l v W, AllB l → l.length ≤ 8 → Byt W v l → Calls Try.prog 35 #[v] W fun e w' => e = .returned (.int .u64 ((tk l : Nat) : Int)) ∧ w' = W) := fun l v W h1 h2 h3 => take_short h1 h2 (by omega) v W h3
  clear h
  go_enter Try.func75, Try.ntmps75
  go_wp2_with (first | (go_at_call 74; refine HS.out.mono ?_; rintro e w1 ⟨u, M', rfl, hcut, hlen, hall, hgood, hprd, hexc⟩; obtain ⟨xa, xn, xc, rfl⟩ := hcut.1.sl; have HC := Hid.mk' hcut; have HL := Hid.mk' hlen; have HA := Hid.mk' hall; have HG := Hid.mk' hgood; have HP := Hid.mk' hprd; have HX := Hid.mk' hexc; clear hcut hlen hall hgood hprd hexc) | (go_at_call 35; refine (HT.out M' _ w1 HA.out (by have := HL.out; omega) HC.out.1).mono ?_; rintro e w5 ⟨rfl, hw5⟩; have hw6 := hw5.symm; subst hw6))
  go_ret
  exact ⟨tk M', rfl, tk_lt8 h8 HL.out HA.out, fun e => tk_cut h8 HL.out (HG.out e), HP.out, HX.out⟩
theorem double_c {B : Nat} {w : World} {g : Nat} {L : List Int} {q : Nat} {b : Bool} (h : Prd B w g L q b) :
    Calls Try.prog 71 #[.pointer (some ⟨g, 0, none⟩)] w fun e w' => NumP u64V B w g L q b 8 e w' := by
  have HN := Hid.mk' (number_c h 8 (by omega))
  clear h
  go_enter Try.func71, Try.ntmps71
  go_wp2_with (go_at_call 75; refine HN.out.mono ?_; rintro e w1 ⟨N, rfl, h1, h2, h3, h4⟩; have H1 := Hid.mk' h1; have H2 := Hid.mk' h2; have H3 := Hid.mk' h3; have H4 := Hid.mk' h4; clear h1 h2 h3 h4)
  go_ret
  exact ⟨N, rfl, H1.out, H2.out, H3.out, H4.out⟩
theorem single_c {B : Nat} {w : World} {g : Nat} {L : List Int} {q : Nat} {b : Bool} (h : Prd B w g L q b) :
    Calls Try.prog 72 #[.pointer (some ⟨g, 0, none⟩)] w fun e w' => NumP u8V B w g L q b 1 e w' := by
  have HN := Hid.mk' (number_c h 1 (by omega))
  clear h
  go_enter Try.func72, Try.ntmps72
  go_wp2_with (go_at_call 75; refine HN.out.mono ?_; rintro e w1 ⟨N, rfl, h1, h2, h3, h4⟩; have H1 := Hid.mk' h1; have H2 := Hid.mk' h2; have H3 := Hid.mk' h3; have H4 := Hid.mk' h4; have hb : (N : Int) < 256 := (by omega); clear h1 h2 h3 h4; unfold u64V)
  go_ret
  exact ⟨N, by unfold u8V; first | rfl | (congr 2; omega), H1.out, H2.out, H3.out, H4.out⟩
/-- A flag's answer. -/
def FlgP (B : Nat) (w : World) (g : Nat) (L : List Int) (q : Nat) (b : Bool) (e : Ending) (w' : World) : Prop :=
  ∃ f : Bool, e = .returned (.bool f) ∧ (bd (b || decide (1 < nv L q 1)) L (q + 1) = false → f = (nv L q 1 == 1)) ∧ Prd B w' g L (q + 1) (b || decide (1 < nv L q 1)) ∧ Exc (· = g) w w'
theorem bd_more (b c : Bool) (L : List Int) (q : Nat) : bd (b || c) L q = (bd b L q || c) := by unfold bd; cases b <;> cases c <;> simp
/-- The reader with a fault more, or with none. -/
theorem Prd.turn {B : Nat} {w : World} {g : Nat} {L : List Int} {q : Nat} {b c : Bool} (h : Prd B w g L q b) (hc : bd (b || c) L q = bd b L q) : Prd B w g L q (b || c) := by
  obtain ⟨hbg, a, n, c', M, h1, h2, h3, h4, h5, h6, h7⟩ := h
  exact ⟨hbg, a, n, c', M, by rw [hc]; exact h1, h2, h3, h4, h5, h6, fun e => h7 (by rw [hc] at e; exact e)⟩
theorem Prd.set {B : Nat} {w : World} {g : Nat} {L : List Int} {q : Nat} {b b' : Bool} {q' : Nat} (h : Prd B w g L q b) (hc : bd b' L q' = true) : Prd B (w.setCell ⟨g, 1, none⟩ (.bool true)) g L q' b' := by
  obtain ⟨hbg, a, n, c', M, h1, h2, h3, h4, h5, h6, h7⟩ := h
  refine ⟨hbg, a, n, c', M, ?_, h2, h3.exc ((Exc.refl (· = g) w).set g 1 _ rfl) (fun k off n' c' e => by have := h6 k (by rw [e]; rfl); intro q2; have q3 : k = g := q2; omega), h4, h5, h6, fun e => by rw [hc] at e; cases e⟩
  rw [hc]; exact h1.put (i := 1) (.bool true)
set_option maxHeartbeats 1000000 in
theorem pflag_c {B : Nat} {w : World} {g : Nat} {L : List Int} {q : Nat} {b : Bool} (h : Prd B w g L q b) :
    Calls Try.prog 73 #[.pointer (some ⟨g, 0, none⟩)] w fun e w' => FlgP B w g L q b e w' := by
  have HN := Hid.mk' (single_c h)
  clear h
  go_enter Try.func73, Try.ntmps73
  go_upto_region 2 with (go_at_call 72; refine HN.out.mono ?_; rintro e w1 ⟨N, rfl, h1, h2, h3, h4⟩; have H1 := Hid.mk' h1; have H2 := Hid.mk' h2; have H3 := Hid.mk' h3; have H4 := Hid.mk' h4; have hb : (N : Int) < 256 := (by omega); clear h1 h2 h3 h4; unfold u8V)
  by_cases hN : 1 < N
  · have hN2 : (1 : Int) < (N : Int) := by omega
    have HBT : Hid (bd (b || decide (1 < nv L q 1)) L (q + 1) = true) := by
      unfold Hid
      rw [bd_more]
      cases e : bd b L (q + 1) with
      | true => rfl
      | false => rw [← H2.out e]; simp [hN]
    have hne : ¬ (N : Int) = 1 := by omega
    obtain ⟨_, a, n, c', M, hr, _⟩ := H3.out
    have c1 := hr.cell 1
    have f1 := hr.froz 1
    generalize bd b L (q + 1) = bb at *
    clear hr hN
    go_wp2
    go_ret
    exact ⟨_, rfl, (fun e => by rw [HBT.out] at e; cases e), H3.out.set HBT.out, H4.out.set g 1 _ rfl⟩
  · have hN2 : ¬ (1 : Int) < (N : Int) := by omega
    have HBE : Hid (bd (b || decide (1 < nv L q 1)) L (q + 1) = bd b L (q + 1)) := by
      unfold Hid
      rw [bd_more]
      cases e : bd b L (q + 1) with
      | true => rfl
      | false => rw [← H2.out e]; simp [hN]
    clear hN
    go_wp2
    go_ret
    refine ⟨_, rfl, (fun e => ?_), H3.out.turn HBE.out, H4.out⟩
    rw [HBE.out] at e
    have := H2.out e
    rw [← this]
    by_cases h1 : N = 1
    · subst h1; rfl
    · have e1 : (N == 1) = false := by simpa using h1
      rw [e1]
      simp
      omega
end Go.Proofs.Ytgblpjkpeihpeaa
namespace Go.Proofs.Ytgblpjkpeihpeaa
set_option linter.unusedVariables false
set_option maxRecDepth 100000
open Go.ChangeShapes Go.WideShapes Go.ChangeAt Go.RowKit Go.Deep
/-- A list's answer: new bytes. -/
def LstP (B : Nat) (w : World) (g : Nat) (L : List Int) (q : Nat) (b : Bool) (size most : Nat) (e : Ending) (w' : World) : Prop :=
  ∃ u M', e = .returned u ∧ (Byt w' u M' ∧ ∀ k, u.ownBlock = some k → w.heap.size ≤ k) ∧ M'.length ≤ most ∧ AllB M' ∧ (bd (b || decide (most < nv L q size)) L (q + size + nv L q size) = false → M' = (L.drop (q + size)).take (nv L q size)) ∧
    Prd B w' g L (q + size + nv L q size) (b || decide (most < nv L q size)) ∧ Exc (· = g) w w'
theorem Exc.fresh {g g2 : Nat} {w w1 w2 : World} (h : Exc (· = g) w w1) (h2 : Exc (· = g2) w1 w2) (hg : w.heap.size ≤ g2) : Exc (· = g) w w2 :=
  ⟨h2.os.trans h.os, h2.tape.trans h.tape, h2.output.trans h.output, Nat.le_trans h.size h2.size, fun k hk hn => (h2.block k (Nat.lt_of_lt_of_le hk h.size) (fun e => by have e2 : k = g2 := e; omega)).trans (h.block k hk hn)⟩
theorem put_all (n : Nat) (M : List Int) (h : M.length = n) : put_at (List.replicate n 0) 0 M = M := by
  unfold put_at; simp; omega
set_option maxHeartbeats 4000000 in
theorem plist_c {B : Nat} {w : World} {g : Nat} {L : List Int} {q : Nat} {b : Bool} (h : Prd B w g L q b) (size most : Nat) (hs : size ≤ 2) (hm : most ≤ 65536) :
    Calls Try.prog 76 #[.pointer (some ⟨g, 0, none⟩), .int .i64 (size : Int), .int .i64 (most : Int)] w fun e w' => LstP B w g L q b size most e w' := by
  have HN := Hid.mk' (number_c h size (by omega))
  have hbg : B ≤ g := h.bg
  have hpw : 256 ^ size ≤ 65536 := by
    match size, hs with
    | 0, _ => decide
    | 1, _ => decide
    | 2, _ => decide
  clear h
  go_enter Try.func76, Try.ntmps76
  go_upto_region 2 with (go_at_call 75; refine HN.out.mono ?_; rintro e w1 ⟨N, rfl, h1, h2, h3, h4⟩; have H2 := Hid.mk' h2; have H3 := Hid.mk' h3; have H4 := Hid.mk' h4; have hb : (N : Int) < 65536 := (by omega); clear h1 h2 h3 h4; unfold u64V)
  by_cases hN : most < N
  · have hN2 : (most : Int) < (N : Int) := by omega
    have HBT : Hid (bd (b || decide (most < nv L q size)) L (q + size + nv L q size) = true) := by
      unfold Hid
      cases e : bd b L (q + size) with
      | true => rw [bd_more, bd_of e (by omega)]; rfl
      | false => rw [bd_more, ← H2.out e]; simp [hN]
    obtain ⟨_, a, n, c', M, hr, _⟩ := H3.out
    have c1 := hr.cell 1
    have f1 := hr.froz 1
    generalize bd b L (q + size) = bb at *
    clear hr hN hpw
    go_wp2
    go_ret
    exact ⟨_, [], rfl, ⟨Byt.nil _, fun k hk => by cases hk⟩, Nat.zero_le _, (fun x hx => by cases hx), (fun e => by rw [HBT.out] at e; cases e), H3.out.set HBT.out, H4.out.set g 1 _ rfl⟩
  · have hN2 : ¬ (most : Int) < (N : Int) := by omega
    obtain ⟨i0, hi, hz0, hz1, hz2⟩ := info_parts info5
    have HI : Hid (Try.prog.info? 5 = some i0) := hi
    have HZ0 : Hid (i0.zero = some (.int .u8 0)) := hz0
    have HZ1 : Hid (i0.size = 1) := hz1
    have HZ2 : Hid (i0.bytes = 1) := hz2
    clear hi hz0 hz1 hz2 hpw
    go_upto_region 6 with (at_make; refine wpList_make_full _ (by rfl) _ _ 32 (by rfl) w1.heap.size 5 i0 (.int .u8 0) 1 Try.underlying32 HI.out HZ0.out HZ1.out _ _ _ _ N (by rfl) (by rfl) (by omega) (by omega) (by rw [HZ2.out]; omega) (by unfold maxLen; omega) (Nat.le_refl _) ?_; intro w2 hown hgrow)
    have hrow : Row w2 w1.heap.size (bv (List.replicate N 0)).toArray 5 := by
      have h := hown
      rw [show (Value.int .u8 0).cells = #[Value.int .u8 0] from rfl, made_bv] at h
      exact row_own (by simp) h
    have hbl : Below w1.heap.size w1 w2 := (Below.refl _ _).grown hgrow (Nat.le_refl _) (fun k hk => by cases hk)
    obtain ⟨g2, hg2⟩ : ∃ g2, g2 = w1.heap.size := ⟨_, rfl⟩
    rw [← hg2] at hrow ⊢
    have hgl : g < w1.heap.size := by obtain ⟨_, a, n, c', M, hr, _⟩ := H3.out; exact hr.lt
    have hgg : g < g2 := by omega
    have hne : g2 ≠ g := by omega
    have HRW := Hid.mk' hrow
    have HP2 := Hid.mk' (H3.out.later hbl)
    have HX2 : Hid (Exc (· = g) w w2) := H4.out.trans (Exc.of_below hbl rfl)
    have hg2w : w.heap.size ≤ g2 := by rw [hg2]; exact H4.out.size
    have HBE : Hid (bd b L (q + size) = false → N = nv L q size) := H2.out
    clear hown hgrow hrow hbl hg2 hgl H2 H3 H4
    have HSC := Hid.mk' (sect_c HP2.out N (by omega))
    go_wp2_with (first | (go_at_call 74; refine HSC.out.mono ?_; rintro e w3 ⟨u, M', rfl, hcut, hlen, hall, hgood, hprd, hexc⟩; obtain ⟨xa, xn, xc, rfl⟩ := hcut.1.sl; have HC := Hid.mk' hcut; have HL := Hid.mk' hlen; have HA := Hid.mk' hall; have HG := Hid.mk' hgood; have HP := Hid.mk' hprd; have HX := Hid.mk' hexc; clear hcut hlen hall hgood hprd hexc; have HRW3 : Hid (Row w3 g2 (bv (List.replicate N 0)).toArray 5) := (HX.out.block g2 HRW.out.lt hne).trans HRW.out) | (refine wpList_copy_b (by rfl) _ _ (by rfl) g2 0 N N (some ⟨g2, 0, none⟩) _ (List.replicate N 0) M' (by rfl) (by rfl) HRW3.out HC.out.1 (fun _ => rfl) (by have := HL.out; omega) (by have := HL.out; simp; omega) ?_; intro w4 hr4 hx4; rw [put_all _ _ HL.out] at hr4; rw [HL.out]; have HR4 := Hid.mk' hr4; have HX4 := Hid.mk' hx4; clear hr4 hx4))
    go_ret
    have e3 : Exc (· = g) w w3 := HX2.out.trans HX.out
    have hprd4 := HP.out.exc HX4.out (fun e => hne e.symm) (fun k hk e => by have e2 : k = g2 := e; omega)
    have hq : bd (b || decide (most < nv L q size)) L (q + size + nv L q size) = bd b L (q + size + N) := by
      cases e : bd b L (q + size) with
      | true => rw [bd_more, bd_of e (by omega), bd_of e (by omega)]; rfl
      | false => rw [bd_more, ← HBE.out e]; simp [hN]
    refine ⟨_, M', rfl, ⟨?_, fun k hk => by simp [Value.ownBlock] at hk; omega⟩, by rw [HL.out]; omega, HA.out, (fun e => ?_), ?_, e3.fresh HX4.out hg2w⟩
    · have := (show Fsh 0 w4 (.slice (some ⟨g2, 0, none⟩) M'.length M'.length) M' from ⟨g2, rfl, Nat.zero_le _, HR4.out⟩).byt
      rw [HL.out] at this
      exact this
    · rw [hq] at e
      rw [HG.out e, HBE.out (bd_q (by omega) e)]
    · obtain ⟨hbg2, a, n, c', M, h1, h2, h3, h4, h5, h6, h7⟩ := hprd4
      refine ⟨hbg2, a, n, c', M, by rw [hq]; exact h1, h2, h3, h4, h5, h6, fun e => ?_⟩
      rw [hq] at e
      rw [h7 e, HBE.out (bd_q (by omega) e)]
end Go.Proofs.Ytgblpjkpeihpeaa
namespace Go.Proofs.Ytgblpjkpeihpeaa
set_option linter.unusedVariables false
set_option maxRecDepth 100000
open Go.ChangeShapes Go.WideShapes Go.ChangeAt Go.RowKit Go.Deep
def w64 (N : Nat) : BitVec 64 := BitVec.ofNat 64 N
theorem w64_int {N : Nat} (h : N < 18446744073709551616) : ((N : Nat) : Int) = n64 (w64 N) := nat64 h
/-- The Cpu that stands at q. -/
def cpuN (L : List Int) (q : Nat) : Cp :=
  { pc := w64 (nv L q 8), x := fun i => w64 (nv L (q + 8 + 8 * i) 8), md := (nv L (q + 264) 1 : Nat), wt := nv L (q + 265) 1 == 1, s := fun i => w64 (nv L (q + 266 + 8 * i) 8),
    c := fun i => BitVec.ofNat 8 (nv L (q + 362 + i) 1), a := fun i => w64 (nv L (q + 378 + 8 * i) 8), rv := nv L (q + 506) 1 == 1, ra := w64 (nv L (q + 507) 8), rs := (nv L (q + 515) 1 : Nat) }
/-- The faults of its flags. -/
def cpuF (L : List Int) (q : Nat) (b : Bool) : Bool := (b || decide (1 < nv L (q + 265) 1)) || decide (1 < nv L (q + 506) 1)
theorem cpc_c (k : Cp) (i : Nat) (h : i < 16) (v : BitVec 8) : (cpc k).setIfInBounds (47 + i) (.int .u8 (n8 v)) = cpc { k with c := upd k.c i v } := by
  refine cpc_set (by omega) ?_ ?_
  · rw [cpcell_p _ _ (by omega)]; unfold pcell; rw [if_pos h]; simp [upd]
  · intro j hj hne
    unfold cpcell
    split; rfl
    split; rfl
    split; rfl
    split; rfl
    split; rfl
    split
    · unfold pcell
      split
      · have : j - 47 ≠ i := by omega
        simp [upd, this]
      · rfl
    · rfl
theorem cpc_a (k : Cp) (i : Nat) (h : i < 16) (v : BitVec 64) : (cpc k).setIfInBounds (63 + i) (.int .u64 (n64 v)) = cpc { k with a := upd k.a i v } := by
  refine cpc_set (by omega) ?_ ?_
  · rw [show 63 + i = 47 + (16 + i) by omega, cpcell_p _ _ (by omega)]; unfold pcell; rw [if_neg (by omega), Nat.add_sub_cancel_left]; simp [upd]
  · intro j hj hne
    unfold cpcell
    split; rfl
    split; rfl
    split; rfl
    split; rfl
    split; rfl
    split
    · unfold pcell
      split
      · rfl
      · have : j - 47 - 16 ≠ i := by omega
        simp [upd, this]
    · rfl
/-- Sixteen bytes laid into the entries. -/
theorem cpc_cfg (k : Cp) (M : List Int) (hM : M.length = 16) (ha : AllB M) : ((cpc k).toList.take 47 ++ (bv M ++ (cpc k).toList.drop (47 + (bv M).length))).toArray = cpc { k with c := fun i => BitVec.ofNat 8 (M.getD i 0).toNat } := by
  have hb : (bv M).length = 16 := by simp [bv, hM]
  have ht : ((cpc k).toList.take 47).length = 47 := by rw [List.length_take, Array.length_toList, cpc_size]; rfl
  apply Array.ext_getElem?
  intro j
  rw [List.getElem?_toArray]
  by_cases hj : j < 82
  · rw [cpc_at _ _ hj]
    by_cases h1 : j < 47
    · rw [List.getElem?_append_left (by rw [ht]; exact h1), List.getElem?_take_of_lt h1, Array.getElem?_toList, cpc_at _ _ hj]
      refine congrArg some ?_
      unfold cpcell
      split; rfl
      split; rfl
      split; rfl
      split; rfl
      rfl
    · rw [List.getElem?_append_right (by rw [ht]; omega), ht]
      by_cases h2 : j < 63
      · rw [List.getElem?_append_left (by rw [hb]; omega), bv_get _ _ (by rw [hM]; omega), show j = 47 + (j - 47) by omega, cpcell_p _ _ (by omega), Nat.add_sub_cancel_left]
        unfold pcell
        rw [if_pos (by omega)]
        have hq := getD_byte ha (j - 47)
        refine congrArg (fun z => some (Value.int .u8 z)) ?_
        unfold n8
        rw [BitVec.toNat_ofNat, Nat.mod_eq_of_lt (by omega)]
        omega
      · rw [List.getElem?_append_right (by rw [hb]; omega), hb, List.getElem?_drop, Array.getElem?_toList, show 47 + 16 + (j - 47 - 16) = j by omega, cpc_at _ _ hj]
        refine congrArg some ?_
        unfold cpcell
        split; rfl
        split; rfl
        split; rfl
        split; rfl
        split
        · unfold pcell
          rw [if_neg (by omega), if_neg (by omega)]
        · rfl
  · rw [List.getElem?_eq_none (by simp only [List.length_append, ht, hb, List.length_drop, Array.length_toList, cpc_size]; omega), Array.getElem?_eq_none (by rw [cpc_size]; omega)]
theorem Prd.lt {B : Nat} {w : World} {g : Nat} {L : List Int} {q : Nat} {b : Bool} (h : Prd B w g L q b) : g < w.heap.size := by
  obtain ⟨_, a, n, c', M, hr, _⟩ := h; exact hr.lt
theorem Exc.put {g g1 j : Nat} {w W : World} (h : Exc (· = g) w W) (hg : w.heap.size ≤ g1) (v : Value) : Exc (· = g) w (W.setCell ⟨g1, j, none⟩ v) := h.fresh ((Exc.refl (· = g1) W).set g1 j v rfl) hg
theorem Prd.put {B g g1 j : Nat} {w : World} {L : List Int} {q : Nat} {b : Bool} (h : Prd B w g L q b) (hne : g ≠ g1) (hB : B ≤ g1) (v : Value) : Prd B (w.setCell ⟨g1, j, none⟩ v) g L q b :=
  h.exc ((Exc.refl (· = g1) w).set g1 j v rfl) (fun e => hne e) (fun k hk e => by have e2 : k = g1 := e; omega)
/-- The bytes of the entries. -/
theorem nv_one {L : List Int} {q i : Nat} (h : AllB L) (hq : q + i < L.length) : nv L (q + i) 1 = (L.getD (q + i) 0).toNat := by
  unfold nv
  simp [tkN, List.getElem?_drop]
def CpuP (P : World → Prop) (L : List Int) (q : Nat) (b : Bool) (g : Nat) (w : World) (e : Ending) (w' : World) : Prop :=
  ∃ K : Cp, e = .returned (.agg (cpc K)) ∧ (bd (cpuF L q b) L (q + 516) = false → cpc K = cpc (cpuN L q)) ∧ 0 ≤ K.md ∧ K.md ≤ 255 ∧ 0 ≤ K.rs ∧ K.rs ≤ 255 ∧ P w' ∧ Exc (· = g) w w'
end Go.Proofs.Ytgblpjkpeihpeaa
namespace Go.Proofs.Ytgblpjkpeihpeaa
set_option linter.unusedVariables false
set_option maxRecDepth 100000
open Go.ChangeShapes Go.WideShapes Go.ChangeAt Go.RowKit Go.Deep
/-- The pages that stand at q, put into a RAM of n bytes: that RAM, and where they end. -/
def rdP (L : List Int) (n : Nat) : Nat → Nat → Nat → List Int → Option (List Int × Nat)
  | fuel, q, least, mem =>
    if L.length < q + 2 then none else if nv L q 2 = 65535 then some (mem, q + 2) else
    match fuel with
    | 0 => none
    | fuel + 1 =>
      if nv L q 2 < least ∨ pgN n ≤ nv L q 2 then none
      else if L.length < q + 2 + (pgE n (nv L q 2) - 256 * nv L q 2) then none
      else if blk ((L.drop (q + 2)).take (pgE n (nv L q 2) - 256 * nv L q 2)) then none
      else rdP L n fuel (q + 2 + (pgE n (nv L q 2) - 256 * nv L q 2)) (nv L q 2 + 1) (put_at mem (256 * nv L q 2) ((L.drop (q + 2)).take (pgE n (nv L q 2) - 256 * nv L q 2)))
def ramV (n : Nat) : Bool := ramOk n
/-- The RAM that stands at q. -/
def ramR (L : List Int) (q : Nat) : Option (List Int × Nat) := if L.length < q + 4 then none else if ramOk (nv L q 4) then rdP L (nv L q 4) (pgN (nv L q 4) + 1) (q + 4) 0 (List.replicate (nv L q 4) 0) else none
/-- What page leaves. -/
def PgeP (P : World → Nat → Bool → Prop) (gr : Nat) (mem : List Int) (p pl : Nat) (L : List Int) (q : Nat) (b : Bool) (g : Nat) (w : World) (e : Ending) (w' : World) : Prop :=
  ∃ M' : List Int, e = .returned (.tuple #[]) ∧ M'.length = pl ∧ AllB M' ∧ Row w' gr (bv (put_at mem p M')).toArray 5 ∧ (bd (b || blk ((L.drop q).take pl)) L (q + pl) = false → M' = (L.drop q).take pl) ∧ P w' (q + pl) (b || blk ((L.drop q).take pl)) ∧ Exc (fun k => k = g ∨ k = gr) w w'
theorem Prd.turn' {B : Nat} {w : World} {g : Nat} {L : List Int} {q : Nat} {b b' : Bool} (h : Prd B w g L q b) (hc : bd b' L q = bd b L q) : Prd B w g L q b' := by
  obtain ⟨hbg, a, n, c', M, h1, h2, h3, h4, h5, h6, h7⟩ := h
  exact ⟨hbg, a, n, c', M, by rw [hc]; exact h1, h2, h3, h4, h5, h6, fun e => h7 (by rw [hc] at e; exact e)⟩
theorem take_put (mem : List Int) (p : Nat) (M : List Int) (h : p + M.length ≤ mem.length) : ((put_at mem p M).drop p).take M.length = M := by
  unfold put_at
  rw [List.drop_append, List.drop_of_length_le (by rw [List.length_take]; omega), List.nil_append, List.length_take, Nat.min_eq_left (by omega), Nat.sub_self, List.drop_zero, List.take_append_of_le_length (Nat.le_refl _), List.take_length]
set_option maxHeartbeats 4000000 in
theorem ppage_c {B : Nat} {w : World} {g : Nat} {L : List Int} {q : Nat} {b : Bool} (h : Prd B w g L q b) (gr : Nat) (mem : List Int) (hr : Row w gr (bv mem).toArray 5) (hgr : g ≠ gr) (hBr : B ≤ gr) (p pl : Nat) (hpl : p + pl ≤ mem.length) (hp0 : 0 < pl) (hp2 : pl ≤ 256) :
    Calls Try.prog 78 #[.pointer (some ⟨g, 0, none⟩), .slice (some ⟨gr, p, none⟩) pl pl] w fun e w' => PgeP (fun W q b => Prd B W g L q b) gr mem p pl L q b g w e w' := by
  have HSC := Hid.mk' (sect_c h pl (by omega))
  have HR := Hid.mk' hr
  have HBK : Hid (∀ l v W, Byt W v l → l.length ≤ 140737488355328 → Calls Try.prog 49 #[v] W fun e w' => e = .returned (.bool (blk l)) ∧ w' = W) := fun l v W h1 h2 => sblank_c l v W h1 h2
  have hne : gr ≠ g := Ne.symm hgr
  clear h hr
  go_enter Try.func78, Try.ntmps78
  go_upto_region 1 with (first | (go_at_call 74; refine HSC.out.mono ?_; rintro e w1 ⟨u, M', rfl, hcut, hlen, hall, hgood, hprd, hexc⟩; obtain ⟨xa, xn, xc, rfl⟩ := hcut.1.sl; have HC := Hid.mk' hcut; have HL := Hid.mk' hlen; have HA := Hid.mk' hall; have HG := Hid.mk' hgood; have HP := Hid.mk' hprd; have HX := Hid.mk' hexc; clear hcut hlen hall hgood hprd hexc; have HR1 : Hid (Row w1 gr (bv mem).toArray 5) := (HX.out.block gr HR.out.lt hne).trans HR.out) | (refine wpList_copy_b (by rfl) _ _ (by rfl) gr p pl pl (some ⟨gr, p, none⟩) _ mem M' (by rfl) (by rfl) HR1.out HC.out.1 (fun _ => rfl) (by have := HL.out; omega) (by have := HL.out; omega) ?_; intro w4 hr4 hx4; rw [HL.out]; have HR4 := Hid.mk' hr4; have HX4 := Hid.mk' hx4; clear hr4 hx4))
  have HP4 : Hid (Prd B w4 g L (q + pl) b) := HP.out.exc HX4.out (fun e => hgr e) (fun k hk e => by have e2 : k = gr := e; omega)
  have HBY : Hid (Byt w4 (.slice (some ⟨gr, p, none⟩) pl pl) M') := by
    have hl := HL.out
    have hput := put_at_length mem p M' (by omega)
    have q0 := (show Fsh 0 w4 (.slice (some ⟨gr, 0, none⟩) (put_at mem p M').length (put_at mem p M').length) (put_at mem p M') from ⟨gr, rfl, Nat.zero_le _, HR4.out⟩).byt
    have q1 := q0.cut p (p + pl) (p + pl) (by omega) (Nat.le_refl _) (by rw [hput]; exact hpl) (by rw [hput]; exact hpl)
    rw [if_neg (by omega), Nat.add_sub_cancel_left, ← hl, take_put mem p M' (by omega), hl] at q1
    unfold Hid
    simpa [addAt] using q1
  have HX5 : Hid (Exc (fun k => k = g ∨ k = gr) w w4) := (HX.out.mono (fun k hk => .inl hk)).trans (HX4.out.mono (fun k hk => .inr hk))
  have HBV := Hid.mk' (HBK.out M' _ w4 HBY.out (by have := HL.out; omega))
  have HBE : Hid (bd (b || blk ((L.drop q).take pl)) L (q + pl) = (bd b L (q + pl) || blk M')) := by
    unfold Hid
    rw [bd_more]
    cases e : bd b L (q + pl) with
    | true => rfl
    | false => rw [HG.out e]
  cases hbl : blk M' with
  | true =>
    rw [hbl] at HBV HBE
    have HBT : Hid (bd (b || blk ((L.drop q).take pl)) L (q + pl) = true) := by unfold Hid; rw [HBE.out]; cases bd b L (q + pl) <;> rfl
    obtain ⟨_, a, n, c', M, hrr, _⟩ := HP4.out
    have c1 := hrr.cell 1
    have f1 := hrr.froz 1
    generalize bd b L (q + pl) = bb at *
    clear hrr hbl
    go_wp2_with (go_at_call 49; refine HBV.out.mono ?_; rintro e w5 ⟨rfl, hw5⟩; have hw6 := hw5.symm; subst hw6)
    first | (refine bodyPost_ret (results_none rfl _ _ _) rfl ?_) | (refine bodyPost_end (results_none rfl _ _ _) rfl ?_)
    exact ⟨M', rfl, HL.out, HA.out, HR4.out.other hne _, (fun e => by rw [HBT.out] at e; cases e), HP4.out.set HBT.out, HX5.out.set g 1 _ (.inl rfl)⟩
  | false =>
    rw [hbl] at HBV HBE
    clear hbl
    go_wp2_with (go_at_call 49; refine HBV.out.mono ?_; rintro e w5 ⟨rfl, hw5⟩; have hw6 := hw5.symm; subst hw6)
    first | (refine bodyPost_ret (results_none rfl _ _ _) rfl ?_) | (refine bodyPost_end (results_none rfl _ _ _) rfl ?_)
    have e2 : bd (b || blk ((L.drop q).take pl)) L (q + pl) = bd b L (q + pl) := by rw [HBE.out, Bool.or_false]
    exact ⟨M', rfl, HL.out, HA.out, HR4.out, (fun e => HG.out (by rw [e2] at e; exact e)), HP4.out.turn' e2, HX5.out⟩
end Go.Proofs.Ytgblpjkpeihpeaa
