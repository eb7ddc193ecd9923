/-
  Irv.
-/
import Derived.Test.YtopddflnahfomaaGreatDoorM03
namespace Go.Proofs.YtopddflnahfomaaGreatDoor
set_option linter.unusedVariables false
open Go.ChangeShapes Go.WideShapes Go.ChangeAt Go.RowKit Go.Deep
/-- A part's address. -/
def adr (x : Pt) : Nat := (BitVec.ofNat 64 x.a).toNat
/-- Parts by rising address. -/
def srt (l : List Pt) : List Pt := l.mergeSort (fun x y => decide (adr x ≤ adr y))
theorem prL_succ (b : List Int) (P i : Nat) : prL b P (i + 1) = prS b (P + 56 * i) (prL b P i) := rfl
theorem prL_zero (b : List Int) (P : Nat) : prL b P 0 = ([], none) := rfl
theorem prL_pass {b : List Int} {P i : Nat} {l : List Pt} (h : prL b P i = (l, none)) (hn : ¬ isPt b (P + 56 * i)) : prL b P (i + 1) = (l, none) := by
  rw [prL_succ, h]; unfold prS; rw [if_neg (by simp), if_neg hn]
theorem prL_own {b : List Int} {P i : Nat} {l : List Pt} {F : Nat × Nat} (h : prL b P i = (l, none)) (hn : isPt b (P + 56 * i)) (hf : ptF b (P + 56 * i) = some F) : prL b P (i + 1) = (l, some F) := by
  rw [prL_succ, h]; unfold prS; rw [if_neg (by simp), if_pos hn, hf, if_pos (by rfl)]
theorem prL_meet {b : List Int} {P i : Nat} {l : List Pt} (h : prL b P i = (l, none)) (hn : isPt b (P + 56 * i)) (hf : ptF b (P + 56 * i) = none) (hm : l.any (mtB (ptAt b (P + 56 * i))) = true) : prL b P (i + 1) = (l, some (P + 56 * i + 24, 24)) := by
  rw [prL_succ, h]; unfold prS; rw [if_neg (by simp), if_pos hn, hf, if_neg (by simp), if_pos hm]
theorem prL_add {b : List Int} {P i : Nat} {l : List Pt} (h : prL b P i = (l, none)) (hn : isPt b (P + 56 * i)) (hf : ptF b (P + 56 * i) = none) (hm : ¬ l.any (mtB (ptAt b (P + 56 * i))) = true) : prL b P (i + 1) = (l ++ [ptAt b (P + 56 * i)], none) := by
  rw [prL_succ, h]; unfold prS; rw [if_neg (by simp), if_pos hn, hf, if_neg (by simp), if_neg hm]
/-- A fault stays. -/
theorem prL_stop {b : List Int} {P i : Nat} {l : List Pt} {F : Nat × Nat} (h : prL b P i = (l, some F)) : ∀ n, i ≤ n → prL b P n = (l, some F) := by
  intro n hn
  induction n with
  | zero =>
    obtain rfl : i = 0 := by omega
    exact h
  | succ n ih =>
    by_cases e : i = n + 1
    · rw [← e]; exact h
    · rw [prL_succ, ih (by omega)]; unfold prS; rw [if_pos (by rfl)]
theorem prL_len (b : List Int) (P : Nat) : ∀ i, (prL b P i).1.length ≤ i
  | 0 => by rw [prL_zero]; simp
  | i + 1 => by
    have ih := prL_len b P i
    obtain ⟨l, f, hf⟩ : ∃ l f, prL b P i = (l, f) := ⟨_, _, rfl⟩
    rw [hf] at ih
    cases f with
    | some F => rw [prL_stop hf _ (Nat.le_succ _)]; exact Nat.le_succ_of_le ih
    | none =>
      by_cases h1 : isPt b (P + 56 * i)
      · cases h2 : ptF b (P + 56 * i) with
        | some F => rw [prL_own hf h1 h2]; exact Nat.le_succ_of_le ih
        | none =>
          by_cases h3 : l.any (mtB (ptAt b (P + 56 * i))) = true
          · rw [prL_meet hf h1 h2 h3]; exact Nat.le_succ_of_le ih
          · rw [prL_add hf h1 h2 h3]; simp; exact ih
      · rw [prL_pass hf h1]; exact Nat.le_succ_of_le ih
/-- A part that is kept: it does not pass the end. -/
def fits (x : Pt) : Prop := ¬ (BitVec.ofNat 64 x.a + (BitVec.ofNat 64 x.s - 1#64)).toNat < (BitVec.ofNat 64 x.a).toNat
theorem fits_of {b : List Int} {h : Nat} (hf : ptF b h = none) : fits (ptAt b h) := by
  unfold ptF at hf
  unfold fits ptAt
  intro q
  by_cases h1 : 7 < vl b (h + 4) 4
  · rw [if_pos h1] at hf; cases hf
  · rw [if_neg h1] at hf
    by_cases h2 : vl b (h + 40) 8 < vl b (h + 32) 8
    · rw [if_pos h2] at hf; cases hf
    · rw [if_neg h2] at hf
      by_cases h3 : ¬ room b (vl b (h + 8) 8) (vl b (h + 32) 8)
      · rw [if_pos h3] at hf; cases hf
      · rw [if_neg h3, if_pos q] at hf; cases hf
theorem mt_adr {x y : Pt} (hx : fits x) (hy : fits y) (h : mtB x y = false) : adr x ≠ adr y := by
  intro e
  unfold mtB meetB at h
  unfold adr at e
  unfold fits at hx hy
  have e2 : BitVec.ofNat 64 x.a = BitVec.ofNat 64 y.a := BitVec.eq_of_toNat_eq e
  rw [e2] at h hx
  have h1 : decide (n64 (BitVec.ofNat 64 y.a) ≤ n64 (BitVec.ofNat 64 y.a + (BitVec.ofNat 64 y.s - 1#64))) = true := by
    apply decide_eq_true; unfold n64; omega
  have h2 : decide (n64 (BitVec.ofNat 64 y.a) ≤ n64 (BitVec.ofNat 64 y.a + (BitVec.ofNat 64 x.s - 1#64))) = true := by
    apply decide_eq_true; unfold n64; omega
  rw [h1, h2] at h
  cases h
/-- The parts that are kept fit, and no two have one address. -/
theorem prL_apart (b : List Int) (P : Nat) : ∀ i, (∀ x ∈ (prL b P i).1, fits x) ∧ (prL b P i).1.Pairwise (fun x y => adr x ≠ adr y)
  | 0 => by rw [prL_zero]; simp
  | i + 1 => by
    have ih := prL_apart b P i
    obtain ⟨l, f, hf⟩ : ∃ l f, prL b P i = (l, f) := ⟨_, _, rfl⟩
    rw [hf] at ih
    cases f with
    | some F => rw [prL_stop hf _ (Nat.le_succ _)]; exact ih
    | none =>
      by_cases h1 : isPt b (P + 56 * i)
      · cases h2 : ptF b (P + 56 * i) with
        | some F => rw [prL_own hf h1 h2]; exact ih
        | none =>
          by_cases h3 : l.any (mtB (ptAt b (P + 56 * i))) = true
          · rw [prL_meet hf h1 h2 h3]; exact ih
          · rw [prL_add hf h1 h2 h3]
            refine ⟨fun x hx => ?_, ?_⟩
            · rcases List.mem_append.1 hx with q | q
              · exact ih.1 x q
              · rw [List.mem_singleton.1 q]; exact fits_of h2
            · refine List.pairwise_append.2 ⟨ih.2, List.pairwise_singleton _ _, fun x hx y hy => ?_⟩
              rw [List.mem_singleton.1 hy]
              refine (mt_adr (fits_of h2) (ih.1 x hx) ?_).symm
              rw [List.any_eq_true] at h3
              cases e : mtB (ptAt b (P + 56 * i)) x with
              | false => rfl
              | true => exact absurd ⟨x, hx, e⟩ h3
      · rw [prL_pass hf h1]; exact ih
/-- There is one order by rising address. -/
theorem srt_unique {l l' : List Pt} (hd : l.Pairwise (fun x y => adr x ≠ adr y)) (hp : l'.Perm l) (hs : l'.Pairwise (fun x y => adr x ≤ adr y)) : l' = srt l := by
  have inj : ∀ a b : Pt, a ∈ l → b ∈ l → adr a = adr b → a = b := by
    intro a b ha hb e
    obtain ⟨i, hi, rfl⟩ := List.getElem_of_mem ha
    obtain ⟨j, hj, rfl⟩ := List.getElem_of_mem hb
    rw [List.pairwise_iff_getElem] at hd
    rcases Nat.lt_trichotomy i j with q | q | q
    · exact absurd e (hd i j hi hj q)
    · subst q; rfl
    · exact absurd e.symm (hd j i hj hi q)
  refine List.Perm.eq_of_pairwise (le := fun x y => adr x ≤ adr y) (fun a b ha hb h1 h2 => inj a b (hp.mem_iff.1 ha) ((List.mergeSort_perm _ _).mem_iff.1 hb) (Nat.le_antisymm h1 h2)) hs ?_ (hp.trans (List.mergeSort_perm _ _).symm)
  have q := List.pairwise_mergeSort (le := fun x y : Pt => decide (adr x ≤ adr y)) (fun a b c h1 h2 => by simp at *; omega) (fun a b => by simp; omega) l
  exact q.imp (fun h => by simpa using h)
end Go.Proofs.YtopddflnahfomaaGreatDoor
