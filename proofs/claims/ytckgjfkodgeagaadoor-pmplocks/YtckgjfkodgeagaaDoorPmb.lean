/-
  Entries behind the one that decides do not count: facts on numbers.
-/
import Derived.Test.YtckgjfkodgeagaaDoorPma
namespace Go.Proofs.YtckgjfkodgeagaaDoor
set_option linter.unusedVariables false
open Go.ChangeShapes Go.WideShapes Go.ChangeAt Go.RowKit Go.Deep
theorem spn_congr {c c' : Nat → BitVec 8} {a a' : Nat → BitVec 64} {j : Nat} (h1 : c j = c' j) (h2 : a j = a' j) (h3 : frm a j = frm a' j) : spn c a j = spn c' a' j := by
  unfold spn; rw [h1, h2, h3]
theorem hn_congr {c c' : Nat → BitVec 8} {a a' : Nat → BitVec 64} {j : Nat} (ad : BitVec 64) (s : Nat) (h : spn c a j = spn c' a' j) : hn c a ad s j = hn c' a' ad s j := by
  unfold hn; rw [h]
/-- Entries k + 1 to t - 1 taken away. -/
def cuC (c : Nat → BitVec 8) (k t : Nat) : Nat → BitVec 8 := fun j => if k < j ∧ j < t then 0#8 else c j
def cuA (a : Nat → BitVec 64) (k t : Nat) (v : BitVec 64) : Nat → BitVec 64 := fun j => if k < j ∧ j < t then v else a j
theorem cuC_start (c : Nat → BitVec 8) (k : Nat) : cuC c k (k + 1) = c := by funext j; unfold cuC; rw [if_neg (by omega)]
theorem cuA_start (a : Nat → BitVec 64) (k : Nat) (v : BitVec 64) : cuA a k (k + 1) v = a := by funext j; unfold cuA; rw [if_neg (by omega)]
theorem cuC_succ (c : Nat → BitVec 8) (k t : Nat) (h : k < t) : upd (cuC c k t) t 0#8 = cuC c k (t + 1) := by
  funext j; unfold upd cuC
  by_cases e : j = t
  · subst e; rw [if_pos rfl, if_pos (by omega)]
  · rw [if_neg e]
    by_cases q : k < j ∧ j < t
    · rw [if_pos q, if_pos (by omega)]
    · rw [if_neg q, if_neg (by omega)]
theorem cuA_succ (a : Nat → BitVec 64) (k t : Nat) (v : BitVec 64) (h : k < t) : upd (cuA a k t v) t v = cuA a k (t + 1) v := by
  funext j; unfold upd cuA
  by_cases e : j = t
  · subst e; rw [if_pos rfl, if_pos (by omega)]
  · rw [if_neg e]
    by_cases q : k < j ∧ j < t
    · rw [if_pos q, if_pos (by omega)]
    · rw [if_neg q, if_neg (by omega)]
theorem PC_cu (c : Nat → BitVec 8) (k t : Nat) : PC (cuC (PC c) k t) = cuC (PC c) k t := by
  funext j; show pcl (cuC (PC c) k t j) = cuC (PC c) k t j
  unfold cuC; split
  · rfl
  · exact pcl_twice' (c j)
theorem PA_cu (a : Nat → BitVec 64) (k t : Nat) (v : BitVec 64) (j : Nat) (h : j ≤ k) : PA (cuA (PA a) k t v) j = PA a j := by
  show pad (cuA (PA a) k t v j) = PA a j
  unfold cuA; rw [if_neg (by omega)]
  exact congrFun (PA_twice' a) j
theorem spn_cu (c : Nat → BitVec 8) (a : Nat → BitVec 64) (k t : Nat) (v : BitVec 64) (j : Nat) (h : j ≤ k) : spn (PC (cuC (PC c) k t)) (PA (cuA (PA a) k t v)) j = spn (PC c) (PA a) j := by
  refine spn_congr ?_ (PA_cu a k t v j h) ?_
  · rw [PC_cu]; unfold cuC; rw [if_neg (by omega)]
  · unfold frm
    split
    · rfl
    · exact PA_cu a k t v (j - 1) (by omega)
theorem MT_cu {c : Nat → BitVec 8} {a : Nat → BitVec 64} {ad : BitVec 64} {s k : Nat} {q : Bool} (t : Nat) (v : BitVec 64) (e : MT (hn (PC c) (PA a) ad s) s = ((k : Int), q)) : MT (hn (PC (cuC (PC c) k t)) (PA (cuA (PA a) k t v)) ad s) s = ((k : Int), q) := by
  obtain ⟨hk, h0, h1, h2⟩ := MT_some e
  have hh : ∀ j, j ≤ k → hn (PC (cuC (PC c) k t)) (PA (cuA (PA a) k t v)) ad s j = hn (PC c) (PA a) ad s j := fun j hj => hn_congr ad s (spn_cu c a k t v j hj)
  rw [MT_at s hk (fun j hj => by rw [hh j (by omega)]; exact h0 j hj) (by rw [hh k (Nat.le_refl _)]; exact h1), hh k (Nat.le_refl _), h2]
theorem ckA_cu {c : Nat → BitVec 8} {a : Nat → BitVec 64} {ad : BitVec 64} {s k : Nat} {q : Bool} (t : Nat) (v : BitVec 64) (m b : Int) (e : MT (hn (PC c) (PA a) ad s) s = ((k : Int), q)) : ckA (PC (cuC (PC c) k t)) (PA (cuA (PA a) k t v)) m ad s b = ckA (PC c) (PA a) m ad s b := by
  by_cases h : ckOk m s b
  · rw [ckA_yes _ _ _ _ _ _ h, ckA_yes _ _ _ _ _ _ h, MT_cu t v e, e]
    have hc : PC (cuC (PC c) k t) k = PC c k := by rw [PC_cu]; unfold cuC; rw [if_neg (by omega)]
    unfold ckM
    simp only [Int.toNat_natCast, hc]
  · rw [ckA_no _ _ _ _ _ _ h, ckA_no _ _ _ _ _ _ h]
theorem mA_cases (c : Nat → BitVec 8) (a : Nat → BitVec 64) (ad : BitVec 64) (s : Int) : mA c a ad s = (-1, false) ∨ ∃ (n k : Nat) (q : Bool), s = n ∧ 1 ≤ n ∧ n ≤ 8 ∧ k < 16 ∧ MT (hn c a ad n) n = ((k : Int), q) := by
  by_cases h : 1 ≤ s ∧ s ≤ 8
  · obtain ⟨n, rfl⟩ : ∃ n : Nat, s = n := ⟨s.toNat, by omega⟩
    rw [mA_in _ _ _ _ (by omega) (by omega)]
    rcases MT_cases (hn c a ad n) n with e | ⟨k, q, hk, e⟩
    · exact .inl e
    · exact .inr ⟨n, k, q, rfl, by omega, by omega, hk, e⟩
  · exact .inl (mA_out _ _ _ _ h)
theorem none_ck {c : Nat → BitVec 8} {a : Nat → BitVec 64} {m : Int} {ad : BitVec 64} {s b : Int} (e : mA c a ad s = (-1, false)) (h : ckA c a m ad s b = true) : m = 3 := by
  have hok := ckA_ok h
  obtain ⟨n, rfl⟩ : ∃ n : Nat, s = n := ⟨s.toNat, by have := hok.2.1; omega⟩
  rw [mA_in _ _ _ _ (by have := hok.2.1; omega) (by have := hok.2.1; omega)] at e
  rw [ckA_yes _ _ _ _ _ _ hok, e, ckM_none] at h
  simpa using h
theorem part_ck {c : Nat → BitVec 8} {a : Nat → BitVec 64} {m : Int} {ad : BitVec 64} {s k : Nat} {b : Int} (e : MT (hn c a ad s) s = ((k : Int), false)) : ckA c a m ad s b = false := by
  by_cases h : ckOk m s b
  · rw [ckA_yes _ _ _ _ _ _ h, e, ckM_part]
  · exact ckA_no _ _ _ _ _ _ h
end Go.Proofs.YtckgjfkodgeagaaDoor
