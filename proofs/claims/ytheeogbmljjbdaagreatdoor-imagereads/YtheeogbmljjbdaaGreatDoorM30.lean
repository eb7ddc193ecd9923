/-
  Ixw.
-/
import Derived.Test.YtheeogbmljjbdaaGreatDoorM22
import Derived.Test.YtheeogbmljjbdaaGreatDoorM27
namespace Go.Proofs.YtheeogbmljjbdaaGreatDoor
set_option linter.unusedVariables false
open Go.ChangeShapes Go.WideShapes Go.ChangeAt Go.RowKit Go.Deep
def Wy (f : Flt) : Prop := ∀ F, f = some F → F.2 ≠ 0
theorem wy_none : Wy none := fun F h => by cases h
theorem wy_some {a n : Nat} (h : n ≠ 0) : Wy (some (a, n)) := fun F e => by cases e; exact h
theorem wy_ite {c : Prop} [Decidable c] {x y : Flt} (hx : Wy x) (hy : Wy y) : Wy (if c then x else y) := by split <;> assumption
theorem wy_or {x y : Flt} (hx : Wy x) (hy : Wy y) : Wy (x.or y) := by
  cases x with
  | none => exact hy
  | some F => exact hx
theorem wy_id (b : List Int) : ∀ r i, Wy (idF b r i)
  | 0, _ => wy_none
  | r + 1, i => by
    rw [idF]
    exact wy_ite (wy_some (by decide)) (wy_ite (wy_some (by decide)) (wy_id b r (i + 1)))
theorem wy_hd (b : List Int) : Wy (hdF b) := by
  unfold hdF
  exact wy_ite (wy_some (by decide)) (wy_ite (wy_some (by decide)) (wy_ite (wy_some (by decide)) (wy_ite (wy_some (by decide)) (wy_ite (wy_some (by decide)) (wy_ite (wy_some (by decide)) (wy_ite (wy_some (by decide)) wy_none))))))
theorem wy_ph (b : List Int) : Wy (phF b) := by
  unfold phF
  exact wy_ite (wy_some (by decide)) (wy_ite (wy_some (by decide)) (wy_ite (wy_some (by decide)) wy_none))
theorem wy_pt (b : List Int) (h : Nat) : Wy (ptF b h) := by
  unfold ptF
  exact wy_ite (wy_some (by decide)) (wy_ite (wy_some (by decide)) (wy_ite (wy_some (by decide)) (wy_ite (wy_some (by decide)) wy_none)))
theorem wy_pr (b : List Int) (P : Nat) : ∀ i, Wy (prL b P i).2
  | 0 => by rw [prL_zero]; exact wy_none
  | i + 1 => by
    have ih := wy_pr b P i
    obtain ⟨l, f, hf⟩ : ∃ l f, prL b P i = (l, f) := ⟨_, _, rfl⟩
    rw [hf] at ih
    cases f with
    | some F => rw [prL_stop hf _ (Nat.le_succ _)]; exact ih
    | none =>
      by_cases h1 : isPt b (P + 56 * i)
      · cases h2 : ptF b (P + 56 * i) with
        | some F => rw [prL_own hf h1 h2, ← h2]; exact wy_pt b _
        | none =>
          by_cases h3 : l.any (mtB (ptAt b (P + 56 * i))) = true
          · rw [prL_meet hf h1 h2 h3]; exact wy_some (by decide)
          · rw [prL_add hf h1 h2 h3]; exact wy_none
      · rw [prL_pass hf h1]; exact wy_none
theorem wy_pa (b : List Int) : Wy (paF b) := by
  unfold paF
  exact wy_ite (wy_ph b) (wy_pr b _ _)
theorem wy_tx (b : List Int) (P K H : Nat) : Wy (txF b P K H) := by
  unfold txF
  exact wy_ite (wy_some (by decide)) (wy_ite (wy_some (by decide)) (wy_ite (wy_some (by decide)) wy_none))
theorem wy_tb (b : List Int) (P K H : Nat) : Wy (tbF b P K H) := by
  unfold tbF
  exact wy_ite (wy_some (by decide)) (wy_ite (wy_some (by decide)) (wy_ite (wy_some (by decide)) (wy_tx b P K H)))
theorem wy_nm (b T : List Int) (A : Nat) : ∀ i, Wy (nmL b T A i).2
  | 0 => wy_none
  | i + 1 => by
    have ih := wy_nm b T A i
    obtain ⟨l, f, hf⟩ : ∃ l f, nmL b T A i = (l, f) := ⟨_, _, rfl⟩
    rw [hf] at ih
    cases f with
    | some F => rw [nmL_stop hf _ (Nat.le_succ _)]; exact ih
    | none =>
      cases he : enE b T (A + 24 * (i + 1)) with
      | none => rw [nmL_bad hf he]; exact wy_some (by decide)
      | some o =>
        cases o with
        | none => rw [nmL_pass hf he]; exact wy_none
        | some x =>
          cases ha : l.any (eqS x) with
          | true => rw [nmL_had hf he ha]; exact wy_none
          | false =>
            by_cases hm : l.length = 400
            · rw [nmL_many hf he ha hm]; exact wy_some (by decide)
            · rw [nmL_add hf he ha hm]; exact wy_none
theorem wy_tn (b : List Int) (P K H : Nat) : Wy (tnR b P K H).2 := by
  cases h : tbF b P K H with
  | some F => rw [tnR_bad h, ← h]; exact wy_tb b P K H
  | none => rw [tnR_go h]; exact wy_nm _ _ _ _
theorem wy_ns (b : List Int) : Wy (nsR b).2 := by
  unfold nsR
  generalize vl b 60 2 = K
  generalize vl b 40 8 = P
  generalize vl b 58 2 = Z
  by_cases h1 : K = 0 ∨ P = 0
  · rw [nsQ_no h1]; exact wy_none
  · by_cases h2 : Z ≠ 64
    · rw [nsQ_head h1 h2]; exact wy_some (by decide)
    · by_cases h3 : ¬ room b P (64 * K)
      · rw [nsQ_room h1 h2 h3]; exact wy_some (by decide)
      · cases h4 : frT b P K 0 with
        | none => rw [nsQ_none h1 h2 h3 h4]; exact wy_none
        | some i => rw [nsQ_some h1 h2 h3 h4]; exact wy_tn _ _ _ _
theorem wy_he (b : List Int) : Wy (heF b) := by
  unfold heF
  exact wy_or (wy_id b _ _) (wy_or (wy_hd b) (wy_ph b))
theorem wy_rd (b : List Int) : Wy (rdF b) := by
  unfold rdF
  exact wy_ite (wy_some (by decide)) (wy_or (wy_id b _ _) (wy_or (wy_hd b) (wy_or (wy_pa b) (wy_ns b))))
end Go.Proofs.YtheeogbmljjbdaaGreatDoor
