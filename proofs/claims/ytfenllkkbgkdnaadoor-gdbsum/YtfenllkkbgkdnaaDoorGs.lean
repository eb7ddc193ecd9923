/-
  Layer 17 (gdb): GdbSum.
-/
import Derived.Test.YtfenllkkbgkdnaaDoorGr
namespace Go.Proofs.YtfenllkkbgkdnaaDoor
set_option linter.unusedVariables false
set_option maxRecDepth 100000
open Go.ChangeShapes Go.WideShapes Go.ChangeAt Go.RowKit Go.Deep
def pq (E : List Int) (x y : Int) : List Int := 36 :: (E ++ [35, x, y])
theorem pk_pq (E : List Int) (s : Int) : pk E s = pq E (hd1 (s / 16)) (hd1 (s % 16)) := by simp [pk, pq, hexL, hex1]
theorem pq_len (E : List Int) (x y : Int) : (pq E x y).length = E.length + 4 := by simp [pq]
theorem pq_get (E : List Int) (x y : Int) : (pq E x y).getD (E.length + 1) 0 = 35 ∧ (pq E x y).getD (E.length + 2) 0 = x ∧ (pq E x y).getD (E.length + 3) 0 = y ∧ ∀ j, j < E.length → (pq E x y).getD (j + 1) 0 = E.getD j 0 := by
  unfold pq
  refine ⟨?_, ?_, ?_, fun j hj => ?_⟩
  · simp [List.getD]
  · simp [List.getD]
  · simp [List.getD]
  · simp [List.getD, List.getElem?_append_left hj]
theorem pq_bdy (E : List Int) (x y : Int) : bdy (pq E x y) = E := by
  unfold bdy
  rw [pq_len, show E.length + 4 - 4 = E.length by omega]
  simp [pq]
theorem pq_dg (E : List Int) (x y : Int) : dgA (pq E x y) = x ∧ dgB (pq E x y) = y := by
  obtain ⟨_, h3, h4, _⟩ := pq_get E x y
  unfold dgA dgB
  rw [pq_len, show E.length + 4 - 2 = E.length + 2 by omega, show E.length + 4 - 1 = E.length + 3 by omega]
  exact ⟨h3, h4⟩
theorem pq_set (E : List Int) (x y C : Int) : (∀ j, j < E.length → (pq E x y).set (j + 1) C = pq (E.set j C) x y) ∧ (pq E x y).set (E.length + 2) C = pq E C y ∧ (pq E x y).set (E.length + 3) C = pq E x C := by
  unfold pq
  refine ⟨fun j hj => ?_, ?_, ?_⟩
  · rw [List.set_cons_succ, List.set_append_left _ _ hj]
  · rw [List.set_cons_succ, List.set_append_right _ _ (by omega), show E.length + 1 - E.length = 1 by omega]; rfl
  · rw [List.set_cons_succ, List.set_append_right _ _ (by omega), show E.length + 2 - E.length = 2 by omega]; rfl
theorem sum_set : ∀ (E : List Int) (j : Nat) (C : Int), j < E.length → (E.set j C).sum = E.sum - E.getD j 0 + C
  | [], j, C, h => by simp at h
  | c :: r, 0, C, h => by simp; omega
  | c :: r, j + 1, C, h => by
    have := sum_set r j C (by simpa using h)
    simp at this ⊢
    omega
def orP (c : Int) : Bool := if 0 ≤ hv c then decide (bits .or .u8 c 32 = if hv c < 10 then hv c + 48 else hv c + 87) else true
theorem or_all : ∀ c : Fin 256, orP (c.val : Int) = true := by decide +kernel
theorem or_hv {c : Int} (h0 : 0 ≤ c) (h1 : c ≤ 255) (h : 0 ≤ hv c) : bits .or .u8 c 32 = if hv c < 10 then hv c + 48 else hv c + 87 := by
  have q := or_all ⟨c.toNat, by omega⟩
  rw [show ((⟨c.toNat, by omega⟩ : Fin 256).val : Int) = c from by simp; omega] at q
  unfold orP at q
  rw [if_pos h] at q
  simpa using q
theorem isP_ok {l : List Int} (h : isP l = true) : 0 ≤ hv (dgA l) ∧ 0 ≤ hv (dgB l) := by
  unfold isP at h
  have h2 : okD (dgA l) (dgB l) = true := by revert h; cases okD (dgA l) (dgB l) <;> simp
  unfold okD at h2
  simpa using h2
theorem sum_bad {l : List Int} (hl : l.length ≤ 1000) (hall : AllB l) {k : Nat} {C : Int} (hC : 0 ≤ C ∧ C ≤ 255) (hk1 : 1 ≤ k) (hk2 : k < (pkB l).length) (h35 : (pkB l).getD k 0 ≠ 35) (hne : C ≠ (pkB l).getD k 0)
    (hdig : (pkB l).length - 2 ≤ k → bits .or .u8 C 32 ≠ bits .or .u8 ((pkB l).getD k 0) 32) : upE ((pkB l).set k C) ≠ 0 ∧ upB ((pkB l).set k C) = [] := by
  obtain ⟨s0, s1⟩ := smN_bd (escL l)
  have hEA := escL_all hall
  rw [pkB_pk hl, pk_pq] at *
  generalize hs : smN (escL l) = s at *
  generalize escL l = E at *
  obtain ⟨g1, g2, g3, g4⟩ := pq_get E (hd1 (s / 16)) (hd1 (s % 16))
  obtain ⟨t1, t2, t3⟩ := pq_set E (hd1 (s / 16)) (hd1 (s % 16)) C
  have a := hv_hd (d := s / 16) (by omega) (by omega)
  have b := hv_hd (d := s % 16) (by omega) (by omega)
  have a' := hd_bd (d := s / 16) (by omega) (by omega)
  have b' := hd_bd (d := s % 16) (by omega) (by omega)
  rw [pq_len] at hk2 hdig
  have key : isP ((pq E (hd1 (s / 16)) (hd1 (s % 16))).set k C) = true → ¬ valD (dgA ((pq E (hd1 (s / 16)) (hd1 (s % 16))).set k C)) (dgB ((pq E (hd1 (s / 16)) (hd1 (s % 16))).set k C)) = smN (bdy ((pq E (hd1 (s / 16)) (hd1 (s % 16))).set k C)) := by
    intro hp
    obtain ⟨o1, o2⟩ := isP_ok hp
    have hvd : valD (dgA ((pq E (hd1 (s / 16)) (hd1 (s % 16))).set k C)) (dgB ((pq E (hd1 (s / 16)) (hd1 (s % 16))).set k C)) = hv (dgA ((pq E (hd1 (s / 16)) (hd1 (s % 16))).set k C)) * 16 + hv (dgB ((pq E (hd1 (s / 16)) (hd1 (s % 16))).set k C)) := by
      unfold valD okD; simp [o1, o2]
    rw [hvd]
    rcases (show k ≤ E.length ∨ k = E.length + 1 ∨ k = E.length + 2 ∨ k = E.length + 3 by omega) with h | h | h | h
    · obtain ⟨j, rfl⟩ : ∃ j, k = j + 1 := ⟨k - 1, by omega⟩
      have hj : j < E.length := by omega
      rw [g4 j hj] at hne
      have hm := hEA (E.getD j 0) (by rw [List.getD_eq_getElem?_getD, List.getElem?_eq_getElem hj]; simp)
      rw [t1 j hj, (pq_dg _ _ _).1, (pq_dg _ _ _).2, pq_bdy, a, b]
      unfold smN at hs ⊢
      rw [sum_set E j C hj]
      omega
    · subst h
      exact absurd g1 h35
    · subst h
      have hd := hdig (by omega)
      rw [g2] at hd
      rw [t2, (pq_dg _ _ _).1] at o1
      rw [t2, (pq_dg _ _ _).1, (pq_dg _ _ _).2, pq_bdy, b, hs]
      intro e
      have e2 : hv C = s / 16 := by omega
      apply hd
      rw [or_hv hC.1 hC.2 o1, or_hv a'.1 a'.2 (by rw [a]; omega), e2, a]
    · subst h
      have hd := hdig (by omega)
      rw [g3] at hd
      rw [t3, (pq_dg _ _ _).2] at o2
      rw [t3, (pq_dg _ _ _).1, (pq_dg _ _ _).2, pq_bdy, a, hs]
      intro e
      have e2 : hv C = s % 16 := by omega
      apply hd
      rw [or_hv hC.1 hC.2 o2, or_hv b'.1 b'.2 (by rw [b]; omega), e2, b]
  cases hp : isP ((pq E (hd1 (s / 16)) (hd1 (s % 16))).set k C) with
  | false => obtain ⟨q1, q2⟩ := up_no hp; rw [q1, q2]; exact ⟨by omega, rfl⟩
  | true => obtain ⟨q1, q2⟩ := up_sum hp (key hp); rw [q1, q2]; exact ⟨by omega, rfl⟩
/-- A byte of a list of one's own written. -/
theorem byt_set {B : Nat} {w : World} {g r cb k : Nat} {R : List Int} (ho : Owb B w (.slice (some ⟨g, 0, none⟩) r cb) R) (hr : r = R.length) (hk : k < r) (C : Int) :
    w.cell? ⟨g, k, none⟩ = some (.int .u8 (R.getD k 0)) ∧ w.frozen? ⟨g, k, none⟩ = false ∧ Byt (w.setCell ⟨g, k, none⟩ (.int .u8 C)) (.slice (some ⟨g, 0, none⟩) r cb) (R.set k C) := by
  subst hr
  have hy := Byt.of_own ho
  rcases ho.2 with ⟨h', _⟩ | ⟨g', cap', cur, h', h1, h2, h3, h4, h5, h6⟩
  · simp at h'
  · simp only [Value.slice.injEq, Option.some.injEq, Addr.mk.injEq] at h'
    obtain ⟨⟨rfl, -⟩, -, rfl⟩ := h'
    have hrow : Row w g cur 5 := h2
    have hc : ∀ j, j < R.length → cur[j]? = some (.int .u8 (R.getD j 0)) := fun j hj => by
      have e := congrArg (fun q => q[j]?) h6
      simp only [Nat.mul_one] at e
      rw [bv_get _ _ hj, List.getElem?_take_of_lt hj, Array.getElem?_toList] at e
      exact e
    refine ⟨(hrow.cell k).trans (hc k hk), hrow.froz k, ?_⟩
    have hput := hrow.put (i := k) (.int .u8 C)
    refine ⟨_, cb, by rw [List.length_set], by rw [List.length_set]; exact h3, (fun e => by cases e), fun _ => ⟨g, 0, rfl, hput.lt, fun j hj => ?_⟩⟩
    rw [List.length_set] at hj
    rw [Nat.zero_add, hput.cell, Array.getElem?_setIfInBounds]
    by_cases e : k = j
    · subst e
      rw [if_pos rfl, if_pos (by have := (Array.getElem?_eq_some_iff.1 (hc k hk)).1; exact this)]
      simp [hj]
    · rw [if_neg e, hc j hj]
      simp [List.getD, List.getElem?_set_ne e]
end Go.Proofs.YtfenllkkbgkdnaaDoor
