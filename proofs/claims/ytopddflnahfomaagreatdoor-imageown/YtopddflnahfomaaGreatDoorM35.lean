/-
  Iwq.
-/
import Derived.Test.YtopddflnahfomaaGreatDoorM33
import Derived.Test.YtopddflnahfomaaGreatDoorM34
namespace Go.Proofs.YtopddflnahfomaaGreatDoor
set_option linter.unusedVariables false
open Go.ChangeShapes Go.WideShapes Go.ChangeAt Go.RowKit Go.Deep
theorem Sub.zero {T : Nat → Int} {pos m : Nat} (h : Sub T pos (zs m)) (i : Nat) (h1 : pos ≤ i) (h2 : i < pos + m) : T i = 0 := by
  have e := h (i - pos) (by rw [zs_length]; omega)
  rw [zs_get, show pos + (i - pos) = i by omega] at e
  exact e
theorem ptL_zero (m : Nat) : ptL 0 m = zs m := by
  unfold ptL zs
  apply List.ext_getElem?
  intro i
  by_cases h : i < m
  · rw [List.getElem?_map, List.getElem?_range h, List.getElem?_replicate, if_pos h]
    simp
  · rw [List.getElem?_eq_none (by simp; omega), List.getElem?_eq_none (by simp; omega)]
theorem secL_zero : secL 0 0 0 0 0 0 0 0 = zs 64 := by decide +kernel
theorem head_eq (E se ml c t : Nat) : headR E se ml c t = headL E se ml c t := by
  have e : idL = sb idT ++ zs 9 := by decide +kernel
  simp only [headR, headL, nbs, e, List.append_assoc, List.append_nil]
/-- A part's bytes. -/
theorem sub_da {T : Nat → Int} {L : List Sg} {D : Nat → List Int} (hD : ∀ j, j < L.length → (D j).length = (sg L j).n) (k : Nat) (hk : k ≤ L.length) (h : Sub T (64 + 56 * L.length) (daL L D k)) (j : Nat) (hj : j < k) : Sub T (plc L j) (D j) := by
  induction k with
  | zero => omega
  | succ k ih =>
    have e : daL L D (k + 1) = daL L D k ++ if 0 < (sg L k).n then zs (al (sk L k) - sk L k) ++ D k else [] := rfl
    rw [e] at h
    by_cases c : j = k
    · subst c
      have hl := hD j (by omega)
      by_cases hn : 0 < (sg L j).n
      · rw [if_pos hn] at h
        have h1 := h.right.right
        rw [daL_length hD j (by omega), zs_length] at h1
        have h2 := al_lo (sk L j)
        exact h1.at (by unfold plc; rw [if_pos hn]; omega)
      · have : D j = [] := List.eq_nil_of_length_eq_zero (by omega)
        rw [this]
        exact Sub.nil
    · exact ih (by omega) h.left (by omega)
/-- Between the parts' bytes there is nothing. -/
theorem gap_da {T : Nat → Int} {L : List Sg} {D : Nat → List Int} (hD : ∀ j, j < L.length → (D j).length = (sg L j).n) (k : Nat) (hk : k ≤ L.length) (h : Sub T (64 + 56 * L.length) (daL L D k)) (i : Nat) (h1 : 64 + 56 * L.length ≤ i) (h2 : i < sk L k) (h3 : ¬ DS L k i) : T i = 0 := by
  induction k with
  | zero => have : sk L 0 = 64 + 56 * L.length := rfl; omega
  | succ k ih =>
    have e : daL L D (k + 1) = daL L D k ++ if 0 < (sg L k).n then zs (al (sk L k) - sk L k) ++ D k else [] := rfl
    have e2 : sk L (k + 1) = if 0 < (sg L k).n then al (sk L k) + (sg L k).n else sk L k := rfl
    rw [e] at h
    rw [e2] at h2
    have h4 := fun q => h3 ((DS_succ L k i).2 q)
    by_cases c : i < sk L k
    · exact ih (by omega) h.left c (fun q => h4 (.inl q))
    · by_cases hn : 0 < (sg L k).n
      · rw [if_pos hn] at h h2
        have h5 := al_lo (sk L k)
        have hz := h.right.left
        rw [daL_length hD k (by omega)] at hz
        by_cases c2 : i < al (sk L k)
        · exact hz.zero i (by omega) (by omega)
        · exact absurd (Or.inr (by unfold plc; rw [if_pos hn]; omega)) h4
      · rw [if_neg hn] at h2
        omega
theorem plc_le (L : List Sg) (m j : Nat) (hj : j < m) : plc L j + (sg L j).n ≤ sk L m := by
  have e2 : sk L (j + 1) = if 0 < (sg L j).n then al (sk L j) + (sg L j).n else sk L j := rfl
  have h := sk_mono L (show j + 1 ≤ m by omega)
  rw [e2] at h
  unfold plc
  split
  · rename_i c; rw [if_pos c] at h; exact h
  · omega
theorem sk_lo (L : List Sg) (k : Nat) : 64 + 56 * L.length ≤ sk L k := sk_mono L (Nat.zero_le k)
/-- The file of an image without names. -/
def flZ (E : Nat) (L : List Sg) (D : Nat → List Int) : List Int := headL E 0 L.length 0 0 ++ (hdL L L.length ++ daL L D L.length)
/-- The file of an image with names. -/
def flA (E : Nat) (L : List Sg) (N : List Sy) (D : Nat → List Int) : List Int := headL E (szz L N - 256) L.length 4 3 ++ (hdL L L.length ++ (daL L D L.length ++ (zs (tabAt L - sk L L.length) ++ symL (tabAt L) N)))
theorem flZ_length {E : Nat} {L : List Sg} {D : Nat → List Int} (hD : ∀ j, j < L.length → (D j).length = (sg L j).n) : (flZ E L D).length = sk L L.length := by
  have h := daL_length hD L.length (Nat.le_refl _)
  simp only [flZ, List.length_append, headL_length, hdL_length]
  omega
/-- Where the names' things stand. -/
structure LyA (T : Nat → Int) (E : Nat) (L : List Sg) (N : List Sy) (D : Nat → List Int) (tb tx ow se : Nat) : Prop where
  head : Sub T 0 (headR E se L.length 4 3)
  hd : Sub T 64 (hdL L L.length)
  da : Sub T (64 + 56 * L.length) (daL L D L.length)
  z1 : Sub T (sk L L.length) (zs (tb - sk L L.length))
  z2 : Sub T tb (zs 24)
  tab : Sub T (tb + 24) (tbL N N.length)
  txt : Sub T tx (txL N N.length)
  own : Sub T ow (sb ownT)
  z3 : Sub T (ow + 27) (zs (se - (ow + 27)))
  z4 : Sub T se (zs 64)
  sec : Sub T (se + 64) (secR tb (24 + 24 * N.length) tx (1 + nk N N.length) ow)
theorem lay_a {T : Nat → Int} {E : Nat} {L : List Sg} {N : List Sy} {D : Nat → List Int} (hD : ∀ j, j < L.length → (D j).length = (sg L j).n) (hn0 : 0 < N.length) (h : Sub T 0 (flA E L N D)) (tb tx ow se : Nat) (h1 : tb = tabAt L) (h2 : tx = tabAt L + 24 + 24 * N.length) (h3 : ow = tabAt L + 24 + 24 * N.length + 1 + nk N N.length) (h4 : se = al (tabAt L + 24 + 24 * N.length + 1 + nk N N.length + 27)) : LyA T E L N D tb tx ow se := by
  have hz : szz L N = al (tabAt L + 24 + 24 * N.length + 1 + nk N N.length + 27) + 256 := by unfold szz; rw [if_neg (by omega)]
  have hs : szz L N - 256 = se := by omega
  have hl := daL_length hD L.length (Nat.le_refl _)
  have ht := al_lo (sk L L.length)
  have ha := al_lo (ow + 27)
  have et : tabAt L = al (sk L L.length) := rfl
  unfold flA at h
  rw [hs] at h
  have q1 := h.left
  have h := h.right
  rw [headL_length] at h
  have q2 := h.left
  have h := h.right
  rw [hdL_length] at h
  have h := h.at (show 0 + 64 + 56 * L.length = 64 + 56 * L.length by omega)
  have q3 := h.left
  have h := h.right.at hl
  have q4 := h.left
  have h := h.right.at (show sk L L.length + (zs (tabAt L - sk L L.length)).length = tabAt L by rw [zs_length]; omega)
  unfold symL at h
  have q5 := h.left
  have h := h.right.at (show tabAt L + (ptL 0 24).length = tabAt L + 24 by rw [ptL_length])
  have q6 := h.left
  have h := h.right.at (show tabAt L + 24 + (tbL N N.length).length = tx by rw [tbL_length]; omega)
  have q7 := h.left
  have h := h.right.at (show tx + (txL N N.length).length = ow by rw [txL_length]; omega)
  have q8 := h.left
  have h := h.right.at (show ow + (sb ownT).length = ow + 27 by rw [sb_length, ownT_size])
  rw [show tabAt L + 24 + 24 * N.length + 1 + nk N N.length + 27 = ow + 27 by omega] at h h4
  have q9 := h.left
  have h := h.right.at (show ow + 27 + (zs (al (ow + 27) - (ow + 27))).length = se by rw [zs_length]; omega)
  have q10 := h.left
  have h := h.right.at (show se + (secL 0 0 0 0 0 0 0 0).length = se + 64 by rw [secL_length])
  rw [secL_zero] at q10
  rw [ptL_zero] at q5
  rw [show tabAt L + 24 + 24 * N.length + 1 + nk N N.length = ow by omega, show tabAt L + 24 + 24 * N.length = tx by omega, ← h1] at h
  exact ⟨by rw [head_eq]; exact q1, q2, q3, by rw [h1]; exact q4, by rw [h1]; exact q5, by rw [h1]; exact q6, q7, q8, by rw [h4]; exact q9, q10, by rw [secR_eq]; exact h⟩
theorem flA_length {E : Nat} {L : List Sg} {N : List Sy} {D : Nat → List Int} (hD : ∀ j, j < L.length → (D j).length = (sg L j).n) (hn0 : 0 < N.length) : (flA E L N D).length = szz L N := by
  have hz : szz L N = al (tabAt L + 24 + 24 * N.length + 1 + nk N N.length + 27) + 256 := by unfold szz; rw [if_neg (by omega)]
  have h := daL_length hD L.length (Nat.le_refl _)
  have ht := al_lo (sk L L.length)
  have et : tabAt L = al (sk L L.length) := rfl
  have ha := al_lo (tabAt L + 24 + 24 * N.length + 1 + nk N N.length + 27)
  rw [hz]
  simp only [flA, symL, List.length_append, headL_length, hdL_length, zs_length, ptL_length, tbL_length, txL_length, sb_length, ownT_size, secL_length]
  omega
/-- What was not written is 0. -/
theorem LyA.rest {T : Nat → Int} {E : Nat} {L : List Sg} {N : List Sy} {D : Nat → List Int} {tb tx ow se : Nat} (h : LyA T E L N D tb tx ow se) (hD : ∀ j, j < L.length → (D j).length = (sg L j).n) (h1 : tb = tabAt L) (h2 : tx = tb + 24 + 24 * N.length) (h3 : ow = tx + 1 + nk N N.length) (h4 : se = al (ow + 27)) (i : Nat) (hi : i < se + 256)
    (n1 : ¬ i < 64) (n2 : ¬ (64 ≤ i ∧ i < 64 + 56 * L.length)) (n3 : ¬ DS L L.length i) (n4 : ¬ (tx + 1 ≤ i ∧ i < tx + 1 + nk N N.length)) (n5 : ¬ (tb + 24 ≤ i ∧ i < tb + 24 + 24 * N.length)) (n6 : ¬ (ow ≤ i ∧ i < ow + 27)) (n7 : ¬ (se + 64 ≤ i ∧ i < se + 256)) : T i = 0 := by
  have ht := al_lo (sk L L.length)
  have et : tabAt L = al (sk L L.length) := rfl
  have ha := al_lo (ow + 27)
  have hs := sk_lo L L.length
  by_cases c1 : i < sk L L.length
  · exact gap_da hD L.length (Nat.le_refl _) h.da i (by omega) c1 n3
  by_cases c2 : i < tb
  · exact h.z1.zero i (by omega) (by omega)
  by_cases c3 : i < tb + 24
  · exact h.z2.zero i (by omega) (by omega)
  by_cases c4 : i = tx
  · subst c4
    have e := h.txt 0 (by rw [txL_length]; omega)
    rw [Nat.add_zero] at e
    rw [e, List.getD_eq_getElem?_getD, ← List.head?_eq_getElem?, txL_head]
    rfl
  by_cases c5 : i < se
  · exact h.z3.zero i (by omega) (by omega)
  exact h.z4.zero i (by omega) (by omega)
end Go.Proofs.YtopddflnahfomaaGreatDoor
