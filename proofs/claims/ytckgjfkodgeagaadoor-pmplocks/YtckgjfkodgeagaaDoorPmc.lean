/-
  Locks hold: facts on numbers.
-/
import Derived.Test.YtckgjfkodgeagaaDoorPmb
import Derived.Test.YtckgjfkodgeagaaDoorPbx
namespace Go.Proofs.YtckgjfkodgeagaaDoor
set_option linter.unusedVariables false
open Go.ChangeShapes Go.WideShapes Go.ChangeAt Go.RowKit Go.Deep
theorem sC_lock {C : Nat → BitVec 8} {k : Nat} (f : Nat) (v : BitVec 64) (h : lk (C k) = true) : sC C f v k = C k := by
  unfold sC; rw [if_neg (by rw [h]; simp)]
theorem sR_lock {C : Nat → BitVec 8} {k : Nat} (i : Int) (v : BitVec 64) (h : lk (C k) = true) : sR C i v k = C k := by
  unfold sR
  split
  · exact sC_lock _ _ h
  · split
    · exact sC_lock _ _ h
    · rfl
theorem sA_lock {C : Nat → BitVec 8} {A : Nat → BitVec 64} {k : Nat} (i : Int) (v : BitVec 64) (h : lk (C k) = true) : sA C A i v k = A k := by
  unfold sA
  split
  · rfl
  · rename_i hn
    have hf : aL C i = false := by simpa using hn
    obtain ⟨h0, h1⟩ := aL_false hf
    obtain ⟨j, rfl⟩ : ∃ j : Nat, i = j := ⟨i.toNat, by omega⟩
    rw [aL_in _ _ (by omega)] at hf
    unfold upd
    split
    · rename_i e
      have e' : k = j := by simpa using e
      subst e'
      rw [h] at hf; simp at hf
    · rfl
theorem sA_prev {C : Nat → BitVec 8} {A : Nat → BitVec 64} {k : Nat} (i : Int) (v : BitVec 64) (h : lk (C (k + 1)) = true) (hd : kd (C (k + 1)) = 1#8) (hk : k < 15) : sA C A i v k = A k := by
  unfold sA
  split
  · rfl
  · rename_i hn
    have hf : aL C i = false := by simpa using hn
    obtain ⟨h0, h1⟩ := aL_false hf
    obtain ⟨j, rfl⟩ : ∃ j : Nat, i = j := ⟨i.toNat, by omega⟩
    rw [aL_in _ _ (by omega)] at hf
    unfold upd
    split
    · rename_i e
      have e' : k = j := by simpa using e
      subst e'
      have : nx C k = true := by unfold nx; simp [hk, h, hd]
      rw [this] at hf; simp at hf
    · rfl
/-- One write leaves these of those. -/
structure Wr (C : Nat → BitVec 8) (A : Nat → BitVec 64) (C' : Nat → BitVec 8) (A' : Nat → BitVec 64) : Prop where
  c : ∀ k, lk (C k) = true → C' k = C k
  a : ∀ k, lk (C k) = true → A' k = A k
  p : ∀ k, k < 15 → lk (C (k + 1)) = true → kd (C (k + 1)) = 1#8 → A' k = A k
theorem Wr.cfg (C : Nat → BitVec 8) (A : Nat → BitVec 64) (i : Int) (v : BitVec 64) : Wr C A (sR C i v) A := ⟨fun _ h => sR_lock i v h, fun _ _ => rfl, fun _ _ _ _ => rfl⟩
theorem Wr.addr (C : Nat → BitVec 8) (A : Nat → BitVec 64) (i : Int) (v : BitVec 64) : Wr C A C (sA C A i v) := ⟨fun _ _ => rfl, fun _ h => sA_lock i v h, fun _ hk h hd => sA_prev i v h hd hk⟩
theorem Wr.spn {C C' : Nat → BitVec 8} {A A' : Nat → BitVec 64} (h : Wr C A C' A') {k : Nat} (hk : k < 16) (hl : lk (C k) = true) : Go.Proofs.YtckgjfkodgeagaaDoor.spn C' A' k = Go.Proofs.YtckgjfkodgeagaaDoor.spn C A k := by
  unfold Go.Proofs.YtckgjfkodgeagaaDoor.spn
  rw [h.c k hl, h.a k hl]
  by_cases hd : kd (C k) = 1#8
  · rw [if_pos hd, if_pos hd]
    have : frm A' k = frm A k := by
      unfold frm
      split
      · rfl
      · obtain ⟨j, rfl⟩ : ∃ j, k = j + 1 := ⟨k - 1, by omega⟩
        exact h.p j (by omega) hl hd
    rw [this]
  · rw [if_neg hd, if_neg hd]
/-- What a locked entry decides, a lower one alone may take away. -/
theorem Wr.match {C C' : Nat → BitVec 8} {A A' : Nat → BitVec 64} (h : Wr C A C' A') {ad : BitVec 64} {s : Int} {k : Nat} {q : Bool} (e : mA C A ad s = ((k : Int), q)) (hl : lk (C k) = true) :
    ∃ (n : Nat) (q' : Bool), mA C' A' ad s = ((n : Int), q') ∧ n ≤ k ∧ (n = k → q' = q ∧ ∀ m b, ckA C' A' m ad s b = ckA C A m ad s b) := by
  by_cases hs : 1 ≤ s ∧ s ≤ 8
  · obtain ⟨t, rfl⟩ : ∃ t : Nat, s = t := ⟨s.toNat, by omega⟩
    rw [mA_in _ _ _ _ (by omega) (by omega)] at e
    obtain ⟨hk, h0, h1, h2⟩ := MT_some e
    have hh : hn C' A' ad t k = hn C A ad t k := hn_congr ad t (h.spn hk hl)
    rw [mA_in _ _ _ _ (by omega) (by omega)]
    rcases MT_cases (hn C' A' ad t) t with e' | ⟨n, q', hn', e'⟩
    · have := MT_no (s := t) (by rw [e'] : (MT (hn C' A' ad t) t).1 = -1) k hk
      omega
    · obtain ⟨_, g0, g1, g2⟩ := MT_some e'
      have hle : n ≤ k := by
        apply Nat.le_of_not_lt
        intro hlt
        have := g0 k hlt
        omega
      refine ⟨n, q', e', hle, fun en => ?_⟩
      subst en
      have hq : q' = q := by rw [g2, h2, hh]
      refine ⟨hq, fun m b => ?_⟩
      subst hq
      by_cases hok : ckOk m t b
      · rw [ckA_yes _ _ _ _ _ _ hok, ckA_yes _ _ _ _ _ _ hok, e', e]
        unfold ckM
        simp only [Int.toNat_natCast, h.c n hl]
      · rw [ckA_no _ _ _ _ _ _ hok, ckA_no _ _ _ _ _ _ hok]
  · rw [mA_out _ _ _ _ hs] at e
    simp only [Prod.mk.injEq] at e
    omega
end Go.Proofs.YtckgjfkodgeagaaDoor
