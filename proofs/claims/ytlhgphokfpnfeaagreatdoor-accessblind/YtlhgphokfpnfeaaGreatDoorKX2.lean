import Derived.Test.YtlhgphokfpnfeaaGreatDoorK13
import Derived.Test.YtlhgphokfpnfeaaGreatDoorKX1
namespace Go.Proofs.YtlhgphokfpnfeaaGreatDoor
set_option linter.unusedVariables false
open Go.ChangeShapes Go.WideShapes Go.ChangeAt Go.RowKit Go.Deep
theorem mtF_some (h : Nat → Nat) (s : Nat) (k : Nat) (q : Bool) : ∀ n i, mtF h s n i = ((k : Int), q) → i ≤ k ∧ k < i + n ∧ (∀ j, i ≤ j → j < k → h j = 0) ∧ 0 < h k ∧ q = ((h k : Int) == (s : Int))
  | 0, i, e => by
    simp only [mtF, Prod.mk.injEq] at e
    omega
  | n + 1, i, e => by
    by_cases hi : 0 < h i
    · rw [mtF_hit h s n i hi] at e
      simp only [Prod.mk.injEq] at e
      obtain ⟨e1, e2⟩ := e
      obtain rfl : i = k := by omega
      exact ⟨Nat.le_refl _, by omega, fun j h1 h2 => by omega, hi, e2.symm⟩
    · rw [mtF_miss h s n i hi] at e
      obtain ⟨g1, g2, g3, g4, g5⟩ := mtF_some h s k q n (i + 1) e
      refine ⟨by omega, by omega, fun j h1 h2 => ?_, g4, g5⟩
      by_cases e : j = i
      · subst e; omega
      · exact g3 j (by omega) h2
theorem mtF_at (h : Nat → Nat) (s : Nat) (k : Nat) (hk : 0 < h k) : ∀ n i, i ≤ k → k < i + n → (∀ j, i ≤ j → j < k → h j = 0) → mtF h s n i = ((k : Int), (h k : Int) == (s : Int))
  | 0, i, h1, h2, _ => by omega
  | n + 1, i, h1, h2, h3 => by
    by_cases e : i = k
    · subst e; exact mtF_hit h s n i hk
    · rw [mtF_miss h s n i (by rw [h3 i (Nat.le_refl _) (by omega)]; omega)]
      exact mtF_at h s k hk n (i + 1) (by omega) (by omega) (fun j g1 g2 => h3 j (by omega) g2)
theorem mtF_none (h : Nat → Nat) (s : Nat) : ∀ n i, (∀ j, i ≤ j → j < i + n → h j = 0) → mtF h s n i = (-1, false)
  | 0, i, _ => rfl
  | n + 1, i, h3 => by
    rw [mtF_miss h s n i (by rw [h3 i (Nat.le_refl _) (by omega)]; omega)]
    exact mtF_none h s n (i + 1) (fun j g1 g2 => h3 j (by omega) (by omega))
theorem mtF_no (h : Nat → Nat) (s : Nat) : ∀ n i, (mtF h s n i).1 = -1 → ∀ j, i ≤ j → j < i + n → h j = 0
  | 0, i, _, j, h1, h2 => by omega
  | n + 1, i, e, j, h1, h2 => by
    by_cases hi : 0 < h i
    · rw [mtF_hit h s n i hi] at e
      simp only at e
      omega
    · rw [mtF_miss h s n i hi] at e
      by_cases q : j = i
      · subst q; omega
      · exact mtF_no h s n (i + 1) e j (by omega) (by omega)
theorem MT_some {h : Nat → Nat} {s k : Nat} {q : Bool} (e : MT h s = ((k : Int), q)) : k < 16 ∧ (∀ j, j < k → h j = 0) ∧ 0 < h k ∧ q = ((h k : Int) == (s : Int)) := by
  obtain ⟨_, g2, g3, g4, g5⟩ := mtF_some h s k q 16 0 e
  exact ⟨by omega, fun j hj => g3 j (by omega) hj, g4, g5⟩
theorem MT_at {h : Nat → Nat} {k : Nat} (s : Nat) (hk : k < 16) (h0 : ∀ j, j < k → h j = 0) (h1 : 0 < h k) : MT h s = ((k : Int), (h k : Int) == (s : Int)) := mtF_at h s k h1 16 0 (by omega) (by omega) (fun j _ hj => h0 j hj)
theorem MT_none {h : Nat → Nat} (s : Nat) (h0 : ∀ j, j < 16 → h j = 0) : MT h s = (-1, false) := mtF_none h s 16 0 (fun j _ hj => h0 j (by omega))
theorem MT_no {h : Nat → Nat} {s : Nat} (e : (MT h s).1 = -1) : ∀ j, j < 16 → h j = 0 := fun j hj => mtF_no h s 16 0 e j (by omega) (by omega)
theorem hn_none {c : Nat → BitVec 8} {a : Nat → BitVec 64} {ad : BitVec 64} {k : Nat} : ∀ {s : Nat}, hn c a ad s k = 0 → ∀ j, j < s → hdB c a k (ad + BitVec.ofNat 64 j) = false
  | 0, _, j, hj => by omega
  | s + 1, e, j, hj => by
    rw [hn_succ] at e
    by_cases q : j = s
    · subst q
      by_cases v : hdB c a k (ad + BitVec.ofNat 64 j) = true
      · rw [if_pos v] at e; omega
      · simpa using v
    · exact hn_none (s := s) (by omega) j (by omega)
theorem hn_all {c : Nat → BitVec 8} {a : Nat → BitVec 64} {ad : BitVec 64} {k : Nat} : ∀ {s : Nat}, hn c a ad s k = s → ∀ j, j < s → hdB c a k (ad + BitVec.ofNat 64 j) = true
  | 0, _, j, hj => by omega
  | s + 1, e, j, hj => by
    have hle := hn_le c a ad s k
    rw [hn_succ] at e
    by_cases q : j = s
    · subst q
      by_cases v : hdB c a k (ad + BitVec.ofNat 64 j) = true
      · exact v
      · rw [if_neg v] at e; omega
    · exact hn_all (s := s) (by split at e <;> omega) j (by omega)
theorem hn_one (c : Nat → BitVec 8) (a : Nat → BitVec 64) (x : BitVec 64) (k : Nat) : hn c a x 1 k = if hdB c a k x = true then 1 else 0 := by
  have : x + BitVec.ofNat 64 0 = x := by simp
  rw [hn_succ, hn_zero, this, Nat.zero_add]
/-- What is held whole is held byte by byte. -/
theorem MT_byte {c : Nat → BitVec 8} {a : Nat → BitVec 64} {ad : BitVec 64} {s k : Nat} (e : MT (hn c a ad s) s = ((k : Int), true)) (j : Nat) (hj : j < s) : MT (hn c a (ad + BitVec.ofNat 64 j) 1) 1 = ((k : Int), true) := by
  obtain ⟨hk, h0, h1, h2⟩ := MT_some e
  have hs : hn c a ad s k = s := by
    have := h2.symm
    rw [beq_iff_eq] at this
    omega
  have hv := hn_all hs j hj
  have h9 : hn c a (ad + BitVec.ofNat 64 j) 1 k = 1 := by rw [hn_one, if_pos hv]
  rw [MT_at 1 hk (fun i hi => by rw [hn_one, if_neg (by rw [hn_none (h0 i hi) j hj]; simp)]) (by omega), h9]
  rfl
theorem bit_of : ∀ x : BitVec 8, ∀ b ∈ [(1 : Int), 2, 3, 4, 5, 6, 7], ∀ t ∈ [(1 : Int), 2, 4], (bits .and .i64 (n8 (rts x)) b == b) = true → (bits .and .i64 b t != 0) = true → (bits .and .i64 (n8 (rts x)) t != 0) = true := by decide +kernel
theorem ckA_ok {c : Nat → BitVec 8} {a : Nat → BitVec 64} {m : Int} {ad : BitVec 64} {s b : Int} (h : ckA c a m ad s b = true) : ckOk m s b := by
  by_cases q : ckOk m s b
  · exact q
  · rw [ckA_no _ _ _ _ _ _ q] at h; cases h
/-- What passes in U. -/
theorem passes_U {c : Nat → BitVec 8} {a : Nat → BitVec 64} {ad : BitVec 64} {s : Nat} {b : Int} (h : ckA c a 0 ad s b = true) : ∃ k : Nat, MT (hn c a ad s) s = ((k : Int), true) ∧ (bits .and .i64 (n8 (rts (c k))) b == b) = true := by
  have hok := ckA_ok h
  rw [ckA_yes _ _ _ _ _ _ hok] at h
  rcases MT_cases (hn c a ad s) s with e | ⟨k, q, hk, e⟩
  · rw [e, ckM_none] at h; simp at h
  · rw [e] at h
    cases q with
    | false => rw [ckM_part] at h; cases h
    | true => exact ⟨k, e, by rw [ckM_asked _ _ _ _ (.inl rfl)] at h; exact h⟩
theorem passes_M {c : Nat → BitVec 8} {a : Nat → BitVec 64} {ad : BitVec 64} {s : Nat} {b : Int} (h : ckA c a 0 ad s b = true) : ckA c a 3 ad s b = true := by
  have hok := ckA_ok h
  obtain ⟨k, e, hb⟩ := passes_U h
  rw [ckA_yes _ _ _ _ _ _ ⟨.inr rfl, hok.2⟩, e]
  by_cases hl : lk (c k) = true
  · rw [ckM_asked _ _ _ _ (.inr hl)]; exact hb
  · rw [ckM_free _ _ _ _ (by simp [hl])]
theorem passes_byte {c : Nat → BitVec 8} {a : Nat → BitVec 64} {ad : BitVec 64} {s : Nat} {b : Int} (h : ckA c a 0 ad s b = true) (j : Nat) (hj : j < s) : ckA c a 0 (ad + BitVec.ofNat 64 j) 1 b = true ∧ ∀ t ∈ [(1 : Int), 2, 4], (bits .and .i64 b t != 0) = true → grA c a (ad + BitVec.ofNat 64 j) t = true := by
  have hok := ckA_ok h
  obtain ⟨k, e, hb⟩ := passes_U h
  have e1 := MT_byte e j hj
  have hb7 := hok.2.2
  constructor
  · have := ckA_yes c a 0 (ad + BitVec.ofNat 64 j) 1 b ⟨.inl rfl, by omega, hb7⟩
    rw [e1, ckM_asked _ _ _ _ (.inl rfl)] at this
    exact this.trans hb
  · intro t ht hbt
    unfold grA
    rw [e1, if_neg (by show ¬ (k : Int) < 0; omega)]
    exact bit_of (c k) b (by simp; omega) t ht hb hbt
end Go.Proofs.YtlhgphokfpnfeaaGreatDoor
