/-
  Gd.
-/
import Derived.Test.YtfenllkkbgkdnaaDoorGc
namespace Go.Proofs.YtfenllkkbgkdnaaDoor
set_option linter.unusedVariables false
set_option maxRecDepth 100000
open Go.ChangeShapes Go.WideShapes Go.ChangeAt Go.RowKit Go.Deep
theorem owb_new (w : World) (m : List Int) (n : Nat) (hn : n = m.length) (h : n ≤ 1000) : Owb w.heap.size (w.alloc (.cells (bv m).toArray 5)) (.slice (some ⟨w.heap.size, 0, none⟩) n n) m := by
  subst hn
  exact ⟨by simp [bv], .inr ⟨w.heap.size, m.length, (bv m).toArray, rfl, Nat.le_refl _, heap_alloc_new w _, Nat.le_refl _, by unfold maxLen; omega, by simp [bv], by rw [Nat.mul_one, List.toList_toArray]; exact List.take_of_length_le (by simp [bv])⟩⟩
/-- Two lists of one's own, apart. -/
structure Two (B C : Nat) (w : World) (v u : Value) (l m : List Int) : Prop where
  a : Owb B w v l
  b : Owb C w u m
  n : ∀ g, u.ownBlock = some g → v.ownBlock ≠ some g
theorem Two.step {B C : Nat} {w w' : World} {v v' u : Value} {l l' m : List Int} (h : Two B C w v u l m) (ha : Owb B w' v' l') (hx : Exc (fun k => v.ownBlock = some k) w w') (hl : v'.ownBlock = v.ownBlock ∨ ∀ k, v'.ownBlock = some k → w.heap.size ≤ k) : Two B C w' v' u l' m := by
  refine ⟨ha, own_exc h.b hx (fun k hk => h.n k hk), fun g hg e => ?_⟩
  rcases hl with q | q
  · rw [q] at e; exact h.n g hg e
  · have h1 := q g e
    have h2 := (World.ownsRow.lt h.b g hg).2
    omega
set_option maxHeartbeats 4000000 in
theorem pack_no (l : List Int) (a : Option Addr) (c : Nat) (w : World) (hl : 1000 < l.length) :
    Calls Tryd.prog 6 #[.slice a l.length c] w fun e w' => ∃ u, e = .returned (.tuple #[u, .int .i64 (pkE l)]) ∧ Owb w.heap.size w' u (pkB l) ∧ Fr w.heap.size w w' := by
  have HE : Hid (pkE l = 3) := (by unfold Hid pkE; rw [if_pos hl])
  have HB : Hid (pkB l = []) := (by unfold Hid pkB; rw [if_pos hl])
  have h1 : (1000 : Int) < (l.length : Int) := by omega
  clear hl
  go_enter Tryd.func6, Tryd.ntmps6
  go_wp2
  go_ret2
  exact ⟨.slice none 0 0, by rw [HE.out]; rfl, by rw [HB.out]; exact owb_nil _ _, Fr.refl _ _⟩
set_option maxHeartbeats 4000000 in
theorem pack_yes (l : List Int) (a : Option Addr) (c : Nat) (w : World) (hv : Byt w (.slice a l.length c) l) (hall : AllB l) (hl : l.length ≤ 1000) :
    Calls Tryd.prog 6 #[.slice a l.length c] w fun e w' => ∃ u, e = .returned (.tuple #[u, .int .i64 (pkE l)]) ∧ Owb w.heap.size w' u (pkB l) ∧ Fr w.heap.size w w' := by
  have HE : Hid (pkE l = 0) := (by unfold Hid pkE; rw [if_neg (by omega)])
  have HB : Hid (pkB l = [36] ++ escL l ++ [35] ++ hexL [smN (escL l)]) := (by unfold Hid pkB; rw [if_neg (by omega)])
  have HV := Hid.mk' hv
  have h1 : ¬ (1000 : Int) < (l.length : Int) := by omega
  have HLN : Hid ((escL l).length ≤ 2000) := (by have := escL_len l; unfold Hid; omega)
  have HEA := Hid.mk' (escL_all hall)
  have HES : Hid (∀ W, Byt W (.slice a l.length c) l → Calls Tryd.prog 9 #[.slice a l.length c] W fun e w' => ∃ u, e = .returned u ∧ Owb W.heap.size w' u (escL l) ∧ Fr W.heap.size W w') := fun W h => esc_c l _ W h hl
  obtain ⟨B, hB⟩ : ∃ B, B = w.heap.size := ⟨_, rfl⟩
  have HBE := Hid.mk' hB
  generalize escL l = E at *
  generalize l.length = n at *
  clear hv hall hl
  have HN1 := Hid.mk' (owb_new w [36] 1 rfl (by omega))
  have HV1 := Hid.mk' (HV.out.later (below_al w (.cells #[.int .u8 36] 5)) rfl)
  go_enter Tryd.func6, Tryd.ntmps6
  go_upto_region 6 with (go_at_call 9; refine (HES.out _ HV1.out).mono ?_; rintro e W1 ⟨u, rfl, ho1, hf1⟩; have HO1 := Hid.mk' ho1; have HF1 := Hid.mk' hf1; clear ho1 hf1; obtain ⟨au, cu, eu, hcu⟩ := (Byt.of_own HO1.out).len; subst eu)
  have HF0 : Hid (Fr B w W1) := (by unfold Hid; rw [hB]; exact (Fr.of (below_al w _) (Nat.le_refl _)).trans ⟨HF1.out.b.mono (below_al w _).size, HF1.out.k⟩)
  have HT0 : Hid (Two B (w.alloc (.cells #[.int .u8 36] 5)).heap.size W1 (.slice (some ⟨w.heap.size, 0, none⟩) 1 1) (.slice au E.length cu) ([36] ++ E.take 0) E) := (by
    refine ⟨?_, HO1.out, fun g hg e => ?_⟩
    · rw [hB, List.take_zero, List.append_nil]; exact own_later HN1.out HF1.out.b rfl
    · have h2 := (World.ownsRow.lt HO1.out g hg).1
      simp [Value.ownBlock] at e h2
      omega)
  clear HV1 HV HES HN1 HF1 HO1
  have HC0 : Hid (B ≤ (w.alloc (.cells #[.int .u8 36] 5)).heap.size) := (by unfold Hid; rw [hB]; exact (below_al w _).size)
  generalize (w.alloc (.cells #[.int .u8 36] 5)).heap.size = C at *
  obtain ⟨m, hm⟩ : ∃ m, m = E.length := ⟨_, rfl⟩
  have HM := Hid.mk' hm
  rw [← hm] at HT0 HLN ⊢
  rw [← hB] at HT0 ⊢
  generalize Value.slice (some ⟨B, 0, none⟩) 1 1 = v0 at *
  clear hB hm
  go_wp2
  go_loopw [4, 5, 15] (fun x s i wr => ∃ k : Nat, k ≤ m ∧ i = .int .i64 k ∧ s = .int .u8 (smN (E.take k)) ∧ Hid (Two B C wr x (.slice au m cu) ([36] ++ E.take k) E) ∧ Hid (Fr B w wr)) (fun _ _ i _ => m - (intOf i).toNat)
  case atStart => exact ⟨0, Nat.zero_le _, rfl, rfl, HT0, HF0⟩
  case round =>
    obtain ⟨k, hk, rfl, rfl, htw, hfr⟩ := hrel
    by_cases hlt : k < m
    · have hlE : k < E.length := by rw [← HM.out]; exact hlt
      obtain ⟨a', c', e', h1', _, hcl⟩ := Byt.of_own htw.out.b
      obtain ⟨gl, off, rfl, hgl, hcell⟩ := hcl (by intro e; rw [e] at hlE; simp at hlE)
      simp only [Value.slice.injEq] at e'
      obtain ⟨rfl, -, rfl⟩ := e'
      have hlt2 : (k : Int) < (m : Int) := by omega
      have hkb : (k : Int) < 2001 := by have := HLN.out; omega
      have hce : wr.cell? ⟨gl, off + k, none⟩ = some (.int .u8 (E.getD k 0)) := hcell k hlE
      have HT : Hid (E.take (k + 1) = E.take k ++ [E.getD k 0]) := take_succ' hlE
      have HS : Hid (smN (E.take (k + 1)) = (smN (E.take k) + E.getD k 0) % 256) := smN_take hlE
      have HLK : Hid (([36] ++ E.take k).length ≤ 2001) := (by have := HLN.out; unfold Hid; rw [List.length_append, List.length_take]; simp; omega)
      have HBS : Hid (B ≤ wr.heap.size) := (by unfold Hid; rw [HBE.out]; exact hfr.out.b.size)
      obtain ⟨sb0, sb1⟩ := smN_bd (E.take k)
      obtain ⟨cb0, cb1⟩ : 0 ≤ E.getD k 0 ∧ E.getD k 0 ≤ 255 := HEA.out _ (by rw [List.getD_eq_getElem?_getD, List.getElem?_eq_getElem hlE]; simp)
      generalize smN (E.take k) = s at *
      generalize E.getD k 0 = c at *
      generalize hL : [36] ++ E.take k = L at *
      have HLL := Hid.mk' hL
      clear hcell hcl hL h1'
      go_wp2_with (at_builtin; refine appP (by rfl) _ _ (by rfl) B _ L [c] (by rfl) htw.out.a _ 1 (by rfl) (by rfl) (by simp) (by have := HLK.out; simp; omega) HBS.out ?_; intro v' w1 ho1 hf1 hx1 hl1; have HTW := Hid.mk' (htw.out.step ho1 hx1 hl1); have HFR := Hid.mk' (hfr.out.trans hf1); clear ho1 hf1 hx1 hl1)
      go_roundw
      case rel => exact ⟨k + 1, by omega, by go_num, by rw [HS.out], by unfold Hid; rw [HT.out, ← List.append_assoc, HLL.out]; exact HTW.out, HFR⟩
      case measure => simp [intOf]; omega
    · have hkn : k = m := by omega
      have hz : ¬ (k : Int) < (m : Int) := by omega
      have HT1 : Hid (Owb B wr u4 ([36] ++ E)) := (by have q := htw.out.a; rw [hkn, HM.out, List.take_length] at q; exact q)
      have HSE : Hid (smN (E.take k) = smN E) := (by unfold Hid; rw [hkn, HM.out, List.take_length])
      rw [HSE.out]
      have HBS : Hid (B ≤ wr.heap.size) := (by unfold Hid; rw [HBE.out]; exact hfr.out.b.size)
      have HL1 : Hid (([36] ++ E).length ≤ 2001) := (by have := HLN.out; have := HM.out; unfold Hid; rw [List.length_append]; simp; omega)
      obtain ⟨sb0, sb1⟩ := smN_bd E
      have HSA : Hid (AllB [smN E]) := fun x hx => by simp at hx; rw [hx]; omega
      generalize hL : [36] ++ E = L at *
      generalize smN E = s at *
      clear hkn hlt htw HSE hL HEA
      go_upto_region 12 with (at_builtin; refine appN (by rfl) _ _ (by rfl) B _ L [35] (by rfl) HT1.out _ 1 (by rfl) (by rfl) (by simp) (by have := HL1.out; simp; omega) HBS.out ?_; intro v' w1 ho1 hf1; have HO2 := Hid.mk' ho1; have HF2 := Hid.mk' (hfr.out.trans hf1); clear ho1 hf1)
      have HB1 : Hid (B ≤ w1.heap.size) := (by unfold Hid; rw [HBE.out]; exact HF2.out.b.size)
      have HN2 := Hid.mk' (Byt.of_own (owb_new w1 [s] 1 rfl (by omega)))
      have HDG := Hid.mk' (digits_c [s] _ _ HN2.out HSA.out (by simp))
      have HLD : Hid ((hexL [s]).length = 2) := hexL_len [s]
      have HDA := Hid.mk' (hexL_all HSA.out)
      have HO3 := Hid.mk' (World.ownsRow.alloc HO2.out (.cells #[.int .u8 s] 5))
      generalize hexL [s] = D at *
      go_wp2_with (first | (go_at_call 10; refine HDG.out.mono ?_; rintro e w3 ⟨rfl, hf3⟩; have HF3 := Hid.mk' hf3; clear hf3; have HO4 := Hid.mk' (own_later HO3.out HF3.out.b rfl); have HF4 : Hid (Fr B w w3) := HF2.out.trans ((Fr.of (below_al w1 (.cells #[.int .u8 s] 5)) HB1.out).trans ⟨HF3.out.b.mono (Nat.le_trans HB1.out (below_al w1 _).size), HF3.out.k⟩); have HB4 : Hid (B ≤ w3.heap.size) := (by unfold Hid; rw [HBE.out]; exact HF4.out.b.size)) | (at_builtin; refine appT (by rfl) _ _ (by rfl) B _ (L ++ [35]) D (by rfl) HO4.out (by rfl) HDA.out (by have := HL1.out; have := HLD.out; simp; omega) HB4.out ?_; intro v5 w5 ho5 hf5; have HO5 := Hid.mk' ho5; have HF5 := Hid.mk' (HF4.out.trans hf5); clear ho5 hf5))
      go_ret2
      rw [← HBE.out]
      exact ⟨v5, by rw [HE.out]; rfl, by rw [HB.out]; exact HO5.out, HF5.out⟩
theorem pack_c (l : List Int) (a : Option Addr) (c : Nat) (w : World) (hv : Byt w (.slice a l.length c) l) (hall : AllB l) :
    Calls Tryd.prog 6 #[.slice a l.length c] w fun e w' => ∃ u, e = .returned (.tuple #[u, .int .i64 (pkE l)]) ∧ Owb w.heap.size w' u (pkB l) ∧ Fr w.heap.size w w' := by
  by_cases h : 1000 < l.length
  · exact pack_no l a c w h
  · exact pack_yes l a c w hv hall (by omega)
end Go.Proofs.YtfenllkkbgkdnaaDoor
