/-
  Layer 17 (gdb): what Pack makes is what Unpack takes.
-/
import Derived.Test.YtfenllkkbgkdnaaDoorGm
namespace Go.Proofs.YtfenllkkbgkdnaaDoor
set_option linter.unusedVariables false
set_option maxRecDepth 100000
open Go.ChangeShapes Go.WideShapes Go.ChangeAt Go.RowKit Go.Deep
theorem xv_xr : xv 4 = 36 ∧ xv 3 = 35 ∧ xv 93 = 125 ∧ xv 10 = 42 := by decide +kernel
theorem st_esc1 (c : Int) (o : List Int) : (esc1 c).foldl stp (false, o) = (false, o ++ [c]) := by
  obtain ⟨x1, x2, x3, x4⟩ := xv_xr
  unfold esc1
  cases h : spc c with
  | true =>
    unfold spc at h
    simp at h
    rcases h with ((rfl | rfl) | rfl) | rfl
    · show (false, o ++ [xv 4]) = _; rw [x1]
    · show (false, o ++ [xv 3]) = _; rw [x2]
    · show (false, o ++ [xv 93]) = _; rw [x3]
    · show (false, o ++ [xv 10]) = _; rw [x4]
  | false =>
    have hc : c ≠ 125 := by rintro rfl; cases h
    show stp (false, o) c = _
    unfold stp
    rw [if_neg (by simp), if_neg hc]
theorem st_escs : ∀ (l o : List Int), (escL l).foldl stp (false, o) = (false, o ++ l)
  | [], o => by simp [escL]
  | c :: r, o => by
    have e : escL (c :: r) = esc1 c ++ escL r := by simp [escL]
    rw [e, List.foldl_append, st_esc1, st_escs r, List.append_assoc]
    rfl
theorem stF_esc (l : List Int) : stF (escL l) = (false, l) := by unfold stF; rw [st_escs]; rfl
theorem esc_marks {l : List Int} : ∀ z ∈ escL l, z ≠ 36 ∧ z ≠ 35 := fun z hz => by
  simp only [escL, List.mem_flatMap] at hz
  obtain ⟨c, _, hz⟩ := hz
  unfold esc1 at hz
  cases h : spc c with
  | true =>
    rw [h] at hz
    unfold xr at hz
    simp at hz
    rcases hz with rfl | rfl
    · omega
    · split <;> (try split) <;> (try split) <;> omega
  | false =>
    rw [h] at hz
    simp at hz
    subst hz
    constructor <;> (rintro rfl; cases h)
theorem hv_hd {d : Int} (h0 : 0 ≤ d) (h1 : d ≤ 15) : hv (hd1 d) = d := by
  unfold hd1 hv
  by_cases h : d < 10
  · rw [if_pos h, if_pos (by omega)]; omega
  · rw [if_neg h, if_neg (by omega), if_pos (by omega)]; omega
theorem hd_bd {d : Int} (h0 : 0 ≤ d) (h1 : d ≤ 15) : 0 ≤ hd1 d ∧ hd1 d ≤ 255 := by unfold hd1; split <;> omega
/-- What Pack makes of a body. -/
def pk (E : List Int) (s : Int) : List Int := [36] ++ E ++ [35] ++ hexL [s]
theorem pk_len (E : List Int) (s : Int) : (pk E s).length = E.length + 4 := by unfold pk; rw [List.length_append, List.length_append, List.length_append, hexL_len]; simp; omega
theorem pk_get (E : List Int) (s : Int) : (pk E s).getD 0 0 = 36 ∧ (pk E s).getD (E.length + 1) 0 = 35 ∧ (pk E s).getD (E.length + 2) 0 = hd1 (s / 16) ∧ (pk E s).getD (E.length + 3) 0 = hd1 (s % 16) ∧ ∀ j, j < E.length → (pk E s).getD (j + 1) 0 = E.getD j 0 := by
  have e : pk E s = 36 :: (E ++ [35, hd1 (s / 16), hd1 (s % 16)]) := by simp [pk, hexL, hex1]
  rw [e]
  refine ⟨rfl, ?_, ?_, ?_, fun j hj => ?_⟩
  · simp [List.getD]
  · simp [List.getD]
  · simp [List.getD]
  · simp [List.getD, List.getElem?_append_left hj]
theorem pk_bdy (E : List Int) (s : Int) : bdy (pk E s) = E := by
  unfold bdy
  rw [pk_len]
  have e : pk E s = 36 :: (E ++ [35, hd1 (s / 16), hd1 (s % 16)]) := by simp [pk, hexL, hex1]
  rw [e, show E.length + 4 - 4 = E.length by omega]
  simp
theorem pk_dg (E : List Int) (s : Int) : dgA (pk E s) = hd1 (s / 16) ∧ dgB (pk E s) = hd1 (s % 16) := by
  obtain ⟨_, _, h3, h4, _⟩ := pk_get E s
  unfold dgA dgB
  rw [pk_len, show E.length + 4 - 2 = E.length + 2 by omega, show E.length + 4 - 1 = E.length + 3 by omega]
  exact ⟨h3, h4⟩
theorem pk_ok (s : Int) (h0 : 0 ≤ s) (h1 : s ≤ 255) : okD (hd1 (s / 16)) (hd1 (s % 16)) = true ∧ valD (hd1 (s / 16)) (hd1 (s % 16)) = s := by
  have a := hv_hd (d := s / 16) (by omega) (by omega)
  have b := hv_hd (d := s % 16) (by omega) (by omega)
  have o : okD (hd1 (s / 16)) (hd1 (s % 16)) = true := by unfold okD; rw [a, b]; simp; omega
  refine ⟨o, ?_⟩
  unfold valD
  rw [o, if_pos rfl, a, b]
  omega
theorem pk_mkd (E : List Int) (s : Int) : mkd (pk E s) = true := by
  obtain ⟨h1, h2, _⟩ := pk_get E s
  unfold mkd
  rw [pk_len, show E.length + 4 - 3 = E.length + 1 by omega, h1, h2]
  simp
theorem pk_isP {E : List Int} {s : Int} (h0 : 0 ≤ s) (h1 : s ≤ 255) (hE : ∀ z ∈ E, z ≠ 36 ∧ z ≠ 35) : isP (pk E s) = true := by
  have k : ∀ c : Int, (∀ z ∈ E, z ≠ c) → E.contains c = false := fun c hc => by
    rw [Bool.eq_false_iff]
    intro h
    rw [List.contains_iff_mem] at h
    exact hc c h rfl
  unfold isP frm
  rw [pk_mkd, pk_bdy, k 36 (fun z hz => (hE z hz).1), k 35 (fun z hz => (hE z hz).2), (pk_dg E s).1, (pk_dg E s).2, (pk_ok s h0 h1).1]
  rfl
theorem pkB_pk {l : List Int} (hl : l.length ≤ 1000) : pkB l = pk (escL l) (smN (escL l)) := by unfold pkB pk; rw [if_neg (by omega)]
theorem back {l : List Int} (hl : l.length ≤ 1000) : upE (pkB l) = 0 ∧ upB (pkB l) = l := by
  obtain ⟨s0, s1⟩ := smN_bd (escL l)
  rw [pkB_pk hl]
  have h2 : valD (dgA (pk (escL l) (smN (escL l)))) (dgB (pk (escL l) (smN (escL l)))) = smN (bdy (pk (escL l) (smN (escL l)))) := by
    rw [(pk_dg _ _).1, (pk_dg _ _).2, (pk_ok _ s0 s1).2, pk_bdy]
  obtain ⟨a, b⟩ := up_go (pk_isP s0 s1 esc_marks) h2
  rw [a, b, pk_bdy]
  unfold plE plB
  rw [stF_esc]
  simp
  omega
theorem pk_all {l : List Int} (hall : AllB l) : AllB (pkB l) := by
  unfold pkB
  split
  · intro x hx; cases hx
  · intro x hx
    simp only [List.mem_append] at hx
    rcases hx with ((hx | hx) | hx) | hx
    · simp at hx; omega
    · exact escL_all hall x hx
    · simp at hx; omega
    · exact hexL_all (l := [smN (escL l)]) (fun z hz => by simp at hz; rw [hz]; exact smN_bd _) x hx
set_option maxHeartbeats 4000000 in
theorem gdbBack_c (l : List Int) (a : Option Addr) (c : Nat) (w : World) (hv : Byt w (.slice a l.length c) l) (hall : AllB l) (hl : l.length ≤ 140737488351232) (hE : Es w) :
    Calls Tryd.prog 3 #[.slice a l.length c] w fun e w' => e = .returned (.bool true) ∧ Below w.heap.size w w' := by
  have HV : Hid (∀ W, Below w.heap.size w W → Byt W (.slice a l.length c) l) := fun W h => hv.later h rfl
  have HP : Hid (∀ a c W, Byt W (.slice a l.length c) l → Calls Tryd.prog 6 #[.slice a l.length c] W fun e w' => ∃ u, e = .returned (.tuple #[u, .int .i64 (pkE l)]) ∧ Owb W.heap.size w' u (pkB l) ∧ Fr W.heap.size W w') := fun a c W h => pack_c l a c W h hall
  have HQ : Hid (∀ a c W, Below w.heap.size w W → Byt W (.slice a (pkB l).length c) (pkB l) → (pkB l).length ≤ 140737488355328 → Calls Tryd.prog 7 #[.slice a (pkB l).length c] W fun e w' => ∃ u, e = .returned (.tuple #[u, .int .i64 (upE (pkB l))]) ∧ Byt w' u (upB (pkB l)) ∧ Below W.heap.size W w') := fun a c W hb h h2 => unp_c (pkB l) a c W h (pk_all hall) h2 (hE.later hb)
  have HY := Hid.mk' hv
  by_cases hlo : 1000 < l.length
  · have HE0 : Hid (pkE l = 3) := (by unfold Hid pkE; rw [if_pos hlo])
    have HR0 : Hid ((pkB l).length = 0) := (by unfold Hid pkB; rw [if_pos hlo]; rfl)
    rw [HE0.out] at HP
    have hlo2 : (1000 : Int) < (l.length : Int) := by omega
    generalize pkB l = R at *
    obtain ⟨n, hn⟩ : ∃ n, n = l.length := ⟨_, rfl⟩
    rw [← hn] at HV HP HY hl hlo2 ⊢
    have HN := Hid.mk' hn
    clear hn hv hE hlo HQ HE0
    go_enter Tryd.func3, Tryd.ntmps3
    go_wp2_with (first | (at_builtin; refine appY (by rfl) _ _ (by rfl) w.heap.size _ _ [] l (by rfl) (owb_nil _ _) (by rfl) HY.out (by rw [← HN.out]; simp; omega) (Nat.le_refl _) ?_; intro u W1 ho hf; have HO := Hid.mk' ho; have HF := Hid.mk' hf; clear ho hf; obtain ⟨au, cu, eu, hcu⟩ := (Byt.of_own HO.out).len; rw [List.nil_append, ← HN.out] at eu; subst eu; have HU : Hid (Byt W1 (.slice au n cu) l) := Byt.of_own HO.out; have HB1 := Hid.mk' HF.out.b; clear HO HF hcu) | (go_at_call 6; refine (HP.out _ _ W1 HU.out).mono ?_; rintro e W2 ⟨b1, rfl, ho, hf⟩; obtain ⟨ab, cb, eb⟩ := lenv ho; rw [HR0.out] at eb; subst eb; have HF1 := Hid.mk' hf; clear ho hf))
    go_ret
    exact ⟨rfl, HB1.out.trans (HF1.out.b.mono HB1.out.size)⟩
  · have HE0 : Hid (pkE l = 0) := (by unfold Hid pkE; rw [if_neg hlo])
    obtain ⟨k1, k2⟩ := back (l := l) (by omega)
    have HR0 : Hid ((pkB l).length ≤ 3000 ∧ l.length + 4 ≤ (pkB l).length) := (by have := escL_len l; have := escL_ge l; rw [pkB_pk (by omega), pk_len]; unfold Hid; omega)
    rw [HE0.out] at HP
    rw [k1, k2] at HQ
    have hlo2 : decide ((1000 : Int) < (l.length : Int)) = false := by simp; omega
    generalize pkB l = R at *
    obtain ⟨n, hn⟩ : ∃ n, n = l.length := ⟨_, rfl⟩
    rw [← hn] at HV HP HY hl hlo2 HR0 ⊢
    have HN := Hid.mk' hn
    obtain ⟨r, hr⟩ : ∃ r, r = R.length := ⟨_, rfl⟩
    rw [← hr] at HQ HR0
    have HRR := Hid.mk' hr
    have hge : (n : Int) + 4 ≤ (r : Int) := by have := HR0.out.2; omega
    have hgd : decide ((n : Int) + 4 ≤ (r : Int)) = true := by simp; exact hge
    have hnb : (n : Int) ≤ 1000 := by have := HR0.out; have := of_decide_eq_false hlo2; omega
    clear hn hv hE hlo HE0 hr k1 k2 hge
    go_enter Tryd.func3, Tryd.ntmps3
    go_upto_region 2 with (first | (at_builtin; refine appY (by rfl) _ _ (by rfl) w.heap.size _ _ [] l (by rfl) (owb_nil _ _) (by rfl) HY.out (by rw [← HN.out]; simp; omega) (Nat.le_refl _) ?_; intro u W1 ho hf; have HO := Hid.mk' ho; have HF := Hid.mk' hf; clear ho hf; obtain ⟨au, cu, eu, hcu⟩ := (Byt.of_own HO.out).len; rw [List.nil_append, ← HN.out] at eu; subst eu; have HU : Hid (Byt W1 (.slice au n cu) l) := Byt.of_own HO.out; have HB1 := Hid.mk' HF.out.b; clear HO HF hcu) | (go_at_call 6; refine (HP.out _ _ W1 HU.out).mono ?_; rintro e W2 ⟨b1, rfl, ho, hf⟩; obtain ⟨ab, cb, eb⟩ := lenv ho; rw [← HRR.out] at eb; subst eb; have HO1 := Hid.mk' (Byt.of_own ho); have HF1 := Hid.mk' hf; clear ho hf))
    have HB2 : Hid (Below w.heap.size w W2) := HB1.out.trans (HF1.out.b.mono HB1.out.size)
    have HQX := Hid.mk' (HQ.out ab cb W2 HB2.out HO1.out (by have := HR0.out.1; omega))
    clear HQ HF1 HU HP HY
    go_upto_region 5 with (go_at_call 7; refine HQX.out.mono ?_; rintro e W3 ⟨q, rfl, ho, hf⟩; have HO2 := Hid.mk' ho; have HF2 := Hid.mk' hf; clear ho hf)
    have HB3 : Hid (Below w.heap.size w W3) := HB2.out.trans (HF2.out.mono HB2.out.size)
    have h1 := HO2.out.conv
    have h2 := (HV.out W3 HB3.out).conv
    generalize strOfNums l = s2 at *
    clear HO2 HF2 HV HQX HO1 hlo2
    go_wp2
    go_ret
    exact ⟨rfl, HB3.out⟩
end Go.Proofs.YtfenllkkbgkdnaaDoor
