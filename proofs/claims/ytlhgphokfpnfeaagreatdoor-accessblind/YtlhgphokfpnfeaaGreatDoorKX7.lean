import Derived.Test.YtlhgphokfpnfeaaGreatDoorKX3
import Derived.Test.YtlhgphokfpnfeaaGreatDoorKX1
import Derived.Test.YtlhgphokfpnfeaaGreatDoorKX6
namespace Go.Proofs.YtlhgphokfpnfeaaGreatDoor
set_option linter.unusedVariables false
open Go.ChangeShapes Go.WideShapes Go.ChangeAt Go.RowKit Go.Deep
/-- A state with other bytes in its RAM. -/
def rmS (S : St) (l : List Int) : St := { S with ram := l }
/-- The same but for bytes that are granted neither R nor X. -/
structure Ag (K : Cp) (S : St) (l : List Int) : Prop where
  len : l.length = S.ram.length
  at' : ∀ j, j < S.ram.length → grA (PC K.c) (PA K.a) (2147483648#64 + BitVec.ofNat 64 j) 5 = true → l.getD j 0 = S.ram.getD j 0
theorem rm_tel (S : St) (l : List Int) (r : Nat) : (rmS S l).tel r = ((S.tel r).1, rmS (S.tel r).2 l) := by
  unfold St.tel
  split
  · show (match S.inp with | [] => (0, rmS S l) | x :: xs => (x, { rmS S l with inp := xs })) = _
    cases S.inp <;> rfl
  all_goals rfl
theorem rm_tak (S : St) (l : List Int) (r : Nat) (v : Int) : (rmS S l).tak r v = rmS (S.tak r v) l := by
  unfold St.tak
  split
  · unfold St.sen
    show (if S.out.length < 4096 then _ else _) = _
    by_cases h : S.out.length < 4096
    · rw [if_pos h, if_pos h]; rfl
    · rw [if_neg h, if_neg h]
  · rfl
  · by_cases h : v / 2 % 2 = 1
    · rw [if_pos h, if_pos h]; rfl
    · rw [if_neg h, if_neg h]
  all_goals rfl
theorem rm_fin (S : St) (l : List Int) (v : Int) : (rmS S l).fin v = rmS (S.fin v) l := by
  unfold St.fin
  show (if S.off = 0 then _ else _) = _
  by_cases h : S.off = 0
  · rw [if_pos h, if_pos h]
    by_cases h1 : v % 65536 = 21845
    · rw [if_pos h1, if_pos h1]; rfl
    · rw [if_neg h1, if_neg h1]
      by_cases h2 : v % 65536 = 13107
      · rw [if_pos h2, if_pos h2]; rfl
      · rw [if_neg h2, if_neg h2]
  · rw [if_neg h, if_neg h]
/-- A load that meets no RAM. -/
theorem rm_ld {K : Cp} {S : St} {l : List Int} (h : Ag K S l) {a z : Int} (hf : ¬ fnd S.ram.length a z = 0) : ((rmS S l).ld a z).1 = (S.ld a z).1 ∧ ((rmS S l).ld a z).2 = rmS (S.ld a z).2 l := by
  have e : fnd (rmS S l).ram.length a z = fnd S.ram.length a z := by show fnd l.length a z = _; rw [h.len]
  rcases fnd_cases S.ram.length a z with q | q | q | q | q | q | q
  · exact absurd q hf
  · simp only [St.ld, e, q, rm_tel]; exact ⟨trivial, trivial⟩
  all_goals
    simp only [St.ld, e, q]
    exact ⟨(by first | trivial | rfl), (by first | trivial | rfl)⟩
theorem ld_ram (S : St) (a z : Int) : (S.ld a z).2.ram = S.ram := (ld_q S a z).1
theorem Ag.ram {K : Cp} {S T : St} {l : List Int} (h : Ag K S l) (e : T.ram = S.ram) : Ag K T l := ⟨by rw [e]; exact h.len, by rw [e]; exact h.at'⟩
/-- A load of RAM all of whose bytes are granted. -/
theorem rm_ld0 {K : Cp} {S : St} {l : List Int} (h : Ag K S l) {ad : BitVec 64} {z : Nat} (hz : 0 < z) (hf : fnd S.ram.length (n64 ad) z = 0) (hg : gtA K ad z 5) : ((rmS S l).ld (n64 ad) z).1 = (S.ld (n64 ad) z).1 ∧ ((rmS S l).ld (n64 ad) z).2 = rmS (S.ld (n64 ad) z).2 l := by
  have e : fnd (rmS S l).ram.length (n64 ad) z = fnd S.ram.length (n64 ad) z := by show fnd l.length _ _ = _; rw [h.len]
  have hi := hasM_in (fnd_0 hf) (by omega)
  have hl : (l.drop (n64 ad - 2147483648).toNat).take (z : Int).toNat = (S.ram.drop (n64 ad - 2147483648).toNat).take (z : Int).toNat := by
    apply List.ext_getElem?
    intro i
    by_cases hi2 : i < z
    · rw [List.getElem?_take_of_lt (by omega), List.getElem?_take_of_lt (by omega), List.getElem?_drop, List.getElem?_drop]
      have g := hg i hi2
      have eb : ad + BitVec.ofNat 64 i = 2147483648#64 + BitVec.ofNat 64 ((n64 ad - 2147483648).toNat + i) := by
        apply BitVec.eq_of_toNat_eq
        rw [BitVec.toNat_add, BitVec.toNat_add, BitVec.toNat_ofNat, BitVec.toNat_ofNat]
        unfold n64 at hi ⊢
        have := ad.isLt
        simp only [BitVec.toNat_ofNat]
        omega
      rw [eb] at g
      have q := h.at' ((n64 ad - 2147483648).toNat + i) (by omega) g
      rw [List.getD_eq_getElem?_getD, List.getD_eq_getElem?_getD] at q
      have h1 : (n64 ad - 2147483648).toNat + i < l.length := by rw [h.len]; omega
      have h2 : (n64 ad - 2147483648).toNat + i < S.ram.length := by omega
      rw [List.getElem?_eq_getElem h1, List.getElem?_eq_getElem h2] at q ⊢
      simp only [Option.getD_some] at q
      rw [q]
    · rw [List.getElem?_eq_none (by rw [List.length_take]; omega), List.getElem?_eq_none (by rw [List.length_take]; omega)]
  simp only [St.ld, e, hf]
  refine ⟨?_, (by first | trivial | rfl)⟩
  show (((tk ((l.drop (n64 ad - 2147483648).toNat).take (z : Int).toNat) : Nat) : Int), true) = _
  rw [hl]
/-- A store. -/
theorem rm_sto {K : Cp} {S : St} {l : List Int} (h : Ag K S l) (a : Int) (z : Nat) (hz : 0 < z) (v : Int) : ∃ l', ((rmS S l).sto2 a z v).2 = rmS (S.sto2 a z v).2 l' ∧ Ag K (S.sto2 a z v).2 l' := by
  have e : fnd (rmS S l).ram.length a z = fnd S.ram.length a z := by show fnd l.length a z = _; rw [h.len]
  rcases fnd_cases S.ram.length a z with q | q | q | q | q | q | q
  · have hi := hasM_in (fnd_0 q) (by omega)
    refine ⟨splice l (a - 2147483648).toNat (ptL v.toNat (z : Int).toNat), ?_, ?_⟩
    · simp only [St.sto2, e, q] <;> rfl
    · have e2 := sto2_put v q
      have hl1 : (a - 2147483648).toNat + (ptL v.toNat (z : Int).toNat).length ≤ l.length := by rw [ptL_length, h.len]; omega
      have hl2 : (a - 2147483648).toNat + (ptL v.toNat (z : Int).toNat).length ≤ S.ram.length := by rw [ptL_length]; omega
      have er : (S.sto2 a z v).2.ram = splice S.ram (a - 2147483648).toNat (ptL v.toNat (z : Int).toNat) := by rw [e2]; rfl
      refine ⟨by rw [er, splice_len _ _ _ hl1, splice_len _ _ _ hl2]; exact h.len, fun j hj hg => ?_⟩
      rw [er, splice_len _ _ _ hl2] at hj
      rw [er, List.getD_eq_getElem?_getD, List.getD_eq_getElem?_getD, splice_get _ _ _ hl1 j, splice_get _ _ _ hl2 j]
      by_cases c : (a - 2147483648).toNat ≤ j ∧ j < (a - 2147483648).toNat + (ptL v.toNat (z : Int).toNat).length
      · rw [if_pos c, if_pos c]
      · rw [if_neg c, if_neg c]
        have := h.at' j hj hg
        rw [List.getD_eq_getElem?_getD, List.getD_eq_getElem?_getD] at this
        exact this
  · refine ⟨l, ?_, h.ram (sto2_ram v (by omega))⟩
    simp only [St.sto2, e, q]; exact rm_tak _ _ _ _
  · refine ⟨l, ?_, h.ram (sto2_ram v (by omega))⟩
    simp only [St.sto2, e, q] <;> rfl
  · refine ⟨l, ?_, h.ram (sto2_ram v (by omega))⟩
    simp only [St.sto2, e, q] <;> rfl
  · refine ⟨l, ?_, h.ram (sto2_ram v (by omega))⟩
    simp only [St.sto2, e, q] <;> rfl
  · refine ⟨l, ?_, h.ram (sto2_ram v (by omega))⟩
    simp only [St.sto2, e, q]; exact rm_fin _ _ _
  · refine ⟨l, ?_, h.ram (sto2_ram v (by omega))⟩
    simp only [St.sto2, e, q] <;> rfl
theorem rm_fbd {K : Cp} {S : St} {l : List Int} (h : Ag K S l) (k : Wy) (z : Nat) : fbd (rmS S l) k z = fbd S k z := by
  have e : (rmS S l).ram.length = S.ram.length := h.len
  unfold fbd thr
  rw [e]
/-- R or X: one of them is enough. -/
theorem gt_5 {K : Cp} {ad : BitVec 64} {z : Nat} {t : Int} (ht : t = 1 ∨ t = 4) (h : gtA K ad z t) : gtA K ad z 5 := fun i hi => by
  have q := h i hi
  unfold grA at q ⊢
  by_cases c : (MT (hn (PC K.c) (PA K.a) (ad + BitVec.ofNat 64 i) 1) 1).1 < 0
  · rw [if_pos c] at q; cases q
  · rw [if_neg c] at q ⊢
    have key : ∀ x : BitVec 8, ∀ t ∈ [(1 : Int), 4], (bits .and .i64 (n8 (rts x)) t != 0) = true → (bits .and .i64 (n8 (rts x)) 5 != 0) = true := by decide +kernel
    exact key _ t (by rcases ht with rfl | rfl <;> simp) q
/-- One access. -/
theorem MV_ag {K : Cp} {S : St} {l : List Int} (h : Ag K S l) {k : Wy} {z : Nat} (hz : wid4 z) (he : k.c = PC K.c ∧ k.a = PA K.a ∧ k.m = 0) (hr : k.r = 1 ∨ k.r = 2 ∨ k.r = 3 ∨ k.r = 4) (f : Option (BitVec 64 → BitVec 64)) :
    ∃ l', MV (rmS S l) k z f = { MV S k z f with S := rmS (MV S k z f).S l' } ∧ Ag K (MV S k z f).S l' := by
  have hz0 : 0 < z := by rcases hz with rfl | rfl | rfl | rfl <;> decide
  by_cases ht : (fbd S k z).is = true
  · have ht2 : (fbd (rmS S l) k z).is = true := by rw [rm_fbd h]; exact ht
    refine ⟨l, ?_, ?_⟩
    · cases f with
      | none => simp only [MV]; rw [if_pos ht, if_pos ht2, rm_fbd h]
      | some f => simp only [MV]; rw [if_pos ht, if_pos ht2, rm_fbd h]
    · cases f with
      | none => simp only [MV]; rw [if_pos ht]; exact h
      | some f => simp only [MV]; rw [if_pos ht]; exact h
  · have e := fbd_tN ht
    have e2 : fbd (rmS S l) k z = tN := by rw [rm_fbd h]; exact e
    have hld : mvB (rmS S l) k z = mvB S k z ∧ mvT (rmS S l) k z = rmS (mvT S k z) l := by
      unfold mvB mvT
      by_cases h2 : k.r = 2
      · rw [if_pos h2, if_pos h2, if_pos h2, if_pos h2]; exact ⟨rfl, rfl⟩
      · rw [if_neg h2, if_neg h2, if_neg h2, if_neg h2]
        have q : ((rmS S l).ld (n64 k.ad) z).1 = (S.ld (n64 k.ad) z).1 ∧ ((rmS S l).ld (n64 k.ad) z).2 = rmS (S.ld (n64 k.ad) z).2 l := by
          by_cases hf : fnd S.ram.length (n64 k.ad) z = 0
          · refine rm_ld0 h hz0 hf ?_
            rcases hr with q | q | q | q
            · exact gt_5 (.inl rfl) (fbd_gt he e 1 (by simp) (by rw [q]; decide))
            · exact absurd q h2
            · exact gt_5 (.inl rfl) (fbd_gt he e 1 (by simp) (by rw [q]; decide))
            · exact gt_5 (.inr rfl) (fbd_gt he e 4 (by simp) (by rw [q]; decide))
          · exact rm_ld h hf
        rw [q.1, q.2]
        exact ⟨rfl, rfl⟩
    have hT : Ag K (mvT S k z) l := by
      unfold mvT
      split
      · exact h
      · exact h.ram (ld_ram _ _ _)
    cases f with
    | none =>
      rw [MV_none e, MV_none e2, hld.1, hld.2]
      exact ⟨l, rfl, hT⟩
    | some f =>
      obtain ⟨l', e3, h3⟩ := rm_sto hT (n64 k.ad) z hz0 (n64 (lowB z (f (mvB S k z))))
      rw [MV_some e, MV_some e2, hld.1, hld.2]
      refine ⟨l', ?_, h3⟩
      rw [e3]
end Go.Proofs.YtlhgphokfpnfeaaGreatDoor
