import Derived.Test.YtlhgphokfpnfeaaGreatDoorKX7
namespace Go.Proofs.YtlhgphokfpnfeaaGreatDoor
set_option linter.unusedVariables false
open Go.ChangeShapes Go.WideShapes Go.ChangeAt Go.RowKit Go.Deep
/-- What an access comes to on both states. -/
def Bth (K : Cp) (m n : Mv) : Prop := ∃ l, n = { m with S := rmS m.S l } ∧ Ag K m.S l
section
variable {K : Cp} {S : St} {l : List Int}
theorem bad_bth (h : Ag K S l) (t : Tp) : Bth K ⟨0#64, 0#64, t, S⟩ ⟨0#64, 0#64, t, rmS S l⟩ := ⟨l, rfl, h⟩
theorem PL_bth (h : Ag K S l) {k : Wy} (he : k.c = PC K.c ∧ k.a = PA K.a ∧ k.m = 0) (hr : k.r = 1 ∨ k.r = 2 ∨ k.r = 3 ∨ k.r = 4) (sz : Int) (f : Option (BitVec 64 → BitVec 64)) : Bth K (PL S k sz f) (PL (rmS S l) k sz f) := by
  unfold PL
  by_cases h1 : sz = 1
  · rw [if_pos h1, if_pos h1]; exact MV_ag h (by simp [wid4]) he hr f
  rw [if_neg h1, if_neg h1]
  by_cases h2 : sz = 2
  · rw [if_pos h2, if_pos h2]; exact MV_ag h (by simp [wid4]) he hr f
  rw [if_neg h2, if_neg h2]
  by_cases h4 : sz = 4
  · rw [if_pos h4, if_pos h4]; exact MV_ag h (by simp [wid4]) he hr f
  rw [if_neg h4, if_neg h4]
  by_cases h8 : sz = 8
  · rw [if_pos h8, if_pos h8]; exact MV_ag h (by simp [wid4]) he hr f
  rw [if_neg h8, if_neg h8]
  exact bad_bth h _
theorem AT_bth (h : Ag K S l) {k : Wy} (he : k.c = PC K.c ∧ k.a = PA K.a ∧ k.m = 0) (hr : k.r = 1 ∨ k.r = 2 ∨ k.r = 3 ∨ k.r = 4) (sz : Int) (f : Option (BitVec 64 → BitVec 64)) : Bth K (AT S k sz f) (AT (rmS S l) k sz f) := by
  unfold AT
  by_cases h4 : sz = 4 ∨ sz = 8
  · rw [if_pos h4, if_pos h4]; exact PL_bth (k := { k with ra := true }) h he hr sz f
  · rw [if_neg h4, if_neg h4]; exact bad_bth h _
theorem AM_bth (h : Ag K S l) (he : ∀ ad, (wS 0 (PR K) ad).c = PC K.c ∧ (wS 0 (PR K) ad).a = PA K.a ∧ (wS 0 (PR K) ad).m = 0) (op : Int) (ad v : BitVec 64) : Bth K (AM S (PR K) 0 op ad v) (AM (rmS S l) (PR K) 0 op ad v) := by
  unfold AM
  by_cases h0 : amSz op = 0
  · rw [if_pos h0, if_pos h0]; exact bad_bth h _
  · rw [if_neg h0, if_neg h0]; exact AT_bth (k := { wS 0 (PR K) ad with r := 3 }) h (he ad) (.inr (.inr (.inl rfl))) _ _
theorem FT_bth (h : Ag K S l) (P : Cp) (hc : P.c = PC K.c ∧ P.a = PA K.a ∧ P.md = 0) : ∃ l', FT (rmS S l) P 0 = { FT S P 0 with S := rmS (FT S P 0).S l' } ∧ Ag K (FT S P 0).S l' := by
  obtain ⟨l1, e1, h1⟩ := MV_ag (k := wF 0 P P.pc) (z := 2) h (by simp [wid4]) ⟨hc.1, hc.2.1, hc.2.2⟩ (.inr (.inr (.inr rfl))) none
  obtain ⟨l2, e2, h2⟩ := MV_ag (k := wF 0 P (P.pc + 2#64)) (z := 2) h1 (by simp [wid4]) ⟨hc.1, hc.2.1, hc.2.2⟩ (.inr (.inr (.inr rfl))) none
  unfold FT
  rw [e1]
  show ∃ l', FT2 { MV S (wF 0 P P.pc) 2 none with S := rmS (MV S (wF 0 P P.pc) 2 none).S l1 } (MV (rmS (MV S (wF 0 P P.pc) 2 none).S l1) (wF 0 P (P.pc + 2#64)) 2 none) = _ ∧ _
  rw [e2]
  generalize MV S (wF 0 P P.pc) 2 none = m1 at h1 h2
  generalize MV m1.S (wF 0 P (P.pc + 2#64)) 2 none = m2 at h2
  unfold FT2
  by_cases q1 : m1.t.is = true
  · simp only [if_pos q1]; exact ⟨l1, rfl, h1⟩
  · simp only [if_neg q1]
    by_cases q2 : n64 m1.old % 4 = 3
    · simp only [if_pos q2]
      by_cases q3 : m2.t.is = true
      · simp only [if_pos q3]; exact ⟨l2, rfl, h2⟩
      · simp only [if_neg q3]; exact ⟨l2, rfl, h2⟩
    · simp only [if_neg q2]; exact ⟨l1, rfl, h1⟩
theorem rm_beg (S : St) (l : List Int) (t e s : Bool) (i : List Int) : (rmS S l).beg t e s i = rmS (S.beg t e s i) l ∧ (S.beg t e s i).ram = S.ram := by
  unfold St.beg
  by_cases h : S.off = 0
  · have h' : (rmS S l).off = 0 := h
    rw [if_pos h, if_pos h']
    exact ⟨rfl, rfl⟩
  · have h' : ¬ (rmS S l).off = 0 := h
    rw [if_neg h, if_neg h']
    exact ⟨rfl, rfl⟩
/-- Every act. -/
theorem DO_ag (h : Ag K S l) (hp : PR K = K) (hm : K.md = 0) (y : Acd) : ∃ l', (DO (rmS S l) K y).1 = (DO S K y).1 ∧ (DO (rmS S l) K y).2 = rmS (DO S K y).2 l' ∧ Ag K (DO S K y).2 l' := by
  have hx : xE (PR K) = 0 := by rw [hp]; unfold xE; rw [if_neg (by omega), hm]
  have hL : ∀ ad, (wL 0 (PR K) ad).c = PC K.c ∧ (wL 0 (PR K) ad).a = PA K.a ∧ (wL 0 (PR K) ad).m = 0 := fun ad => ⟨rfl, rfl, hx⟩
  have hS : ∀ ad, (wS 0 (PR K) ad).c = PC K.c ∧ (wS 0 (PR K) ad).a = PA K.a ∧ (wS 0 (PR K) ad).m = 0 := fun ad => ⟨rfl, rfl, hx⟩
  unfold DO
  by_cases h1 : y.kd = 1
  · rw [if_pos h1, if_pos h1]
    obtain ⟨l', e, ha⟩ := FT_bth h (PR { K with pc := y.ad }) ⟨rfl, rfl, (by show (if K.md = 3 then (3 : Int) else 0) = 0; rw [if_neg (by omega)])⟩
    rw [e]
    exact ⟨l', rfl, rfl, ha⟩
  rw [if_neg h1, if_neg h1]
  by_cases h2 : y.kd = 2
  · rw [if_pos h2, if_pos h2]
    obtain ⟨l', e, ha⟩ := PL_bth h (hL y.ad) (.inl rfl) y.sz none
    rw [e]
    exact ⟨l', rfl, rfl, ha⟩
  rw [if_neg h2, if_neg h2]
  by_cases h3 : y.kd = 3
  · rw [if_pos h3, if_pos h3]
    obtain ⟨l', e, ha⟩ := PL_bth h (hS y.ad) (.inr (.inl rfl)) y.sz (some fun _ => y.v)
    rw [e]
    exact ⟨l', rfl, rfl, ha⟩
  rw [if_neg h3, if_neg h3]
  by_cases h4 : y.kd = 4
  · rw [if_pos h4, if_pos h4]
    obtain ⟨l', e, ha⟩ := AT_bth h (hL y.ad) (.inl rfl) y.sz none
    rw [e]
    exact ⟨l', rfl, rfl, ha⟩
  rw [if_neg h4, if_neg h4]
  by_cases h5 : y.kd = 5
  · rw [if_pos h5, if_pos h5]
    obtain ⟨l', e, ha⟩ := AT_bth h (hS y.ad) (.inr (.inl rfl)) y.sz (if hel (PR K) y.ad y.sz = true then some (fun _ => y.v) else none)
    rw [e]
    exact ⟨l', rfl, rfl, ha⟩
  rw [if_neg h5, if_neg h5]
  by_cases h6 : y.kd = 6
  · rw [if_pos h6, if_pos h6]
    obtain ⟨l', e, ha⟩ := AM_bth h hS y.op y.ad y.v
    rw [e]
    exact ⟨l', rfl, rfl, ha⟩
  rw [if_neg h6, if_neg h6]
  by_cases h7 : y.kd = 7
  · rw [if_pos h7, if_pos h7]
    have q := rm_beg S l (n64 y.v % 2 == 1) (decide (n64 y.v % 4 > 1)) false [n64 y.ad % 256]
    exact ⟨l, rfl, q.1, h.ram q.2⟩
  rw [if_neg h7, if_neg h7]
  exact ⟨l, rfl, rfl, h⟩
/-- What the law makes of RAM: a byte that is granted neither R nor X may be another. -/
theorem Ag.of (h1 : l.length = S.ram.length) (h2 : ∀ j, j < S.ram.length → grA (PC K.c) (PA K.a) (2147483648#64 + BitVec.ofNat 64 j) 5 = true → l.getD j 0 = S.ram.getD j 0) : Ag K S l := ⟨h1, h2⟩
end
end Go.Proofs.YtlhgphokfpnfeaaGreatDoor
