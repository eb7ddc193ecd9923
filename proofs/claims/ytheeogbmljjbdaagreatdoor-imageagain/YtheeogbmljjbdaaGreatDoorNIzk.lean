/-
  No proper beginning of a file that Write made is read, without memory.
-/
import Derived.Test.YtheeogbmljjbdaaGreatDoorN41
namespace Go.Proofs.YtheeogbmljjbdaaGreatDoor
set_option linter.unusedVariables false
set_option maxRecDepth 100000
open Go.ChangeShapes Go.WideShapes Go.ChangeAt Go.RowKit Go.Deep
theorem take_getD (b : List Int) (n i : Nat) (h : i < n) : (b.take n).getD i 0 = b.getD i 0 := by
  rw [List.getD_eq_getElem?_getD, List.getD_eq_getElem?_getD, List.getElem?_take_of_lt h]
/-- What no fault says. -/
theorem rdF_no {b : List Int} (h : rdF b = none) : ¬ 200000 < b.length ∧ idF b 7 0 = none ∧ hdF b = none ∧ paF b = none ∧ (nsR b).2 = none := by
  by_cases h0 : 200000 < b.length
  · rw [rdF_long h0] at h; cases h
  cases h1 : idF b 7 0 with
  | some F => rw [rdF_id h0 h1] at h; cases h
  | none =>
    cases h2 : hdF b with
    | some F => rw [rdF_hd h0 h1 h2] at h; cases h
    | none =>
      cases h3 : paF b with
      | some F => rw [rdF_pa h0 h1 h2 h3] at h; cases h
      | none => rw [rdF_ns h0 h1 h2 h3] at h; exact ⟨h0, rfl, rfl, rfl, h⟩
theorem paF_no {b : List Int} (h : paF b = none) : phF b = none ∧ (prL b (vl b 32 8) (vl b 56 2)).2 = none := by
  unfold paF at h
  cases h1 : phF b with
  | some F => rw [h1] at h; simp at h
  | none => rw [h1] at h; exact ⟨rfl, by simpa using h⟩
theorem phF_no {b : List Int} (h : phF b = none) : ¬ (vl b 56 2 ≠ 0 ∧ vl b 54 2 ≠ 56) ∧ vl b 56 2 ≤ 16 ∧ room b (vl b 32 8) (56 * vl b 56 2) := by
  unfold phF at h
  by_cases h1 : vl b 56 2 ≠ 0 ∧ vl b 54 2 ≠ 56
  · rw [if_pos h1] at h; cases h
  rw [if_neg h1] at h
  by_cases h2 : 16 < vl b 56 2
  · rw [if_pos h2] at h; cases h
  rw [if_neg h2] at h
  by_cases h3 : ¬ room b (vl b 32 8) (56 * vl b 56 2)
  · rw [if_pos h3] at h; cases h
  exact ⟨h1, by omega, Decidable.of_not_not h3⟩
/-- Where there is no fault up to a header, there was none ahead of it. -/
theorem prL_back {b : List Int} {P i : Nat} (h : (prL b P (i + 1)).2 = none) : (prL b P i).2 = none ∧ (isPt b (P + 56 * i) → ptF b (P + 56 * i) = none ∧ ¬ (prL b P i).1.any (mtB (ptAt b (P + 56 * i))) = true) := by
  rw [prL_succ] at h
  unfold prS at h
  by_cases h1 : (prL b P i).2.isSome = true
  · rw [if_pos h1] at h; rw [h] at h1; cases h1
  rw [if_neg h1] at h
  have h0 : (prL b P i).2 = none := by simpa using h1
  refine ⟨h0, fun hp => ?_⟩
  rw [if_pos hp] at h
  by_cases h2 : (ptF b (P + 56 * i)).isSome = true
  · rw [if_pos h2] at h
    have h : ptF b (P + 56 * i) = none := h
    rw [h] at h2; cases h2
  rw [if_neg h2] at h
  refine ⟨by simpa using h2, fun h3 => ?_⟩
  rw [if_pos h3] at h
  cases h
theorem prL_none {b : List Int} {P : Nat} : ∀ i, (prL b P i).2 = none → ∀ j, j < i → isPt b (P + 56 * j) → ptF b (P + 56 * j) = none
  | 0, _, j, hj, _ => absurd hj (Nat.not_lt_zero _)
  | i + 1, h, j, hj, hp => by
    have q := prL_back h
    by_cases e : j = i
    · subst e; exact (q.2 hp).1
    · exact prL_none i q.1 j (by omega) hp
theorem sk_last (L : List Sg) : ∀ k, 64 + 56 * L.length < sk L k → ∃ j, j < k ∧ 0 < (sg L j).n ∧ plc L j + (sg L j).n = sk L k
  | 0, h => absurd h (Nat.lt_irrefl _)
  | k + 1, h => by
    have e : sk L (k + 1) = if 0 < (sg L k).n then al (sk L k) + (sg L k).n else sk L k := rfl
    by_cases c : 0 < (sg L k).n
    · exact ⟨k, by omega, c, by rw [e, if_pos c]; unfold plc; rw [if_pos c]⟩
    · rw [if_neg c] at e
      obtain ⟨j, h1, h2, h3⟩ := sk_last L k (by rw [← e]; exact h)
      exact ⟨j, by omega, h2, by rw [e]; exact h3⟩
theorem rd_cut {b : List Int} {E : BitVec 64} {L : List Sg} {N : List Sy} {D : Nat → List Int} (h : Nd b E.toNat L N D) (hc : ck E L N = 0) (hne : L.length + N.length ≠ 0) {n : Nat} (hn : n < b.length) : ∃ F, rdF (b.take n) = some F := by
  cases hr : rdF (b.take n) with
  | some F => exact ⟨F, rfl⟩
  | none =>
    exfalso
    obtain ⟨_, hL, _, hp, _, _⟩ := ck_all hc
    obtain ⟨_, _, h1, h2, h3⟩ := rdF_no hr
    have hl : (b.take n).length = n := by rw [List.length_take]; omega
    have h64 := hd_len h1
    rw [hl] at h64
    have hd := h.hd.cong (b' := b.take n) (fun i hi => take_getD b n i (by omega))
    obtain ⟨h4, h5⟩ := paF_no h2
    have h6 := (phF_no h4).2.2
    rw [hd.f32, hd.f56] at h6
    have h7 : 64 + 56 * L.length ≤ n := by have := h6.1; have := h6.2; rw [hl] at *; omega
    rw [hd.f32, hd.f56] at h5
    by_cases hN : N.length = 0
    · have hz : szz L N = sk L L.length := by unfold szz; rw [if_pos hN]
      have hlen := h.len
      obtain ⟨j, hj, hjn, hjp⟩ := sk_last L L.length (by omega)
      have hph := (h.ph j hj).cong (b' := b.take n) (fun i q1 q2 _ => take_getD b n i (by omega))
      have q := prL_none L.length h5 j hj (pt_is hph (pf_ok (hp j hj)))
      unfold ptF at q
      rw [hph.f4, hph.f40, hph.f32, hph.f8] at q
      have hpo := pf_ok (hp j hj)
      have f1 := (fw_le hpo.f).1
      have f2 := hpo.n
      rw [if_neg (by omega), if_neg (by omega), if_pos ?_] at q
      · cases q
      · intro r
        have r1 := r.1
        have r2 := r.2
        rw [hl] at r1 r2
        omega
    · rw [if_neg hN, if_neg hN] at hd
      have hz : szz L N = al (tabAt L + 24 + 24 * N.length + 1 + nk N N.length + 27) + 256 := by unfold szz; rw [if_neg hN]
      have ha := al_lo (tabAt L + 24 + 24 * N.length + 1 + nk N N.length + 27)
      have hlen := h.len
      unfold nsR nsQ at h3
      rw [hd.f60, hd.f40, hd.f58, if_neg (by omega), if_neg (by decide), if_pos ?_] at h3
      · cases h3
      · intro r
        have r1 := r.1
        have r2 := r.2
        rw [hl] at r1 r2
        omega
end Go.Proofs.YtheeogbmljjbdaaGreatDoor
