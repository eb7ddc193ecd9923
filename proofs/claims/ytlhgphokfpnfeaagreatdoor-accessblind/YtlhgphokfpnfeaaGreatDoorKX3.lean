import Derived.Test.YtlhgphokfpnfeaaGreatDoorK28
import Derived.Test.YtlhgphokfpnfeaaGreatDoorKX2
import Derived.Test.YtlhgphokfpnfeaaGreatDoorK07
import Derived.Test.YtlhgphokfpnfeaaGreatDoorKX1
namespace Go.Proofs.YtlhgphokfpnfeaaGreatDoor
set_option linter.unusedVariables false
open Go.ChangeShapes Go.WideShapes Go.ChangeAt Go.RowKit Go.Deep
/-- A state but for RAM, the console's input and what is told of it. -/
def quS (S : St) : St := { S with ram := [], inp := [], ov := false }
theorem tel_q (S : St) (r : Nat) : (S.tel r).2.ram = S.ram ∧ quS (S.tel r).2 = quS S := by
  unfold St.tel
  split
  · split <;> exact ⟨rfl, rfl⟩
  all_goals exact ⟨rfl, rfl⟩
theorem ld_q (S : St) (a z : Int) : (S.ld a z).2.ram = S.ram ∧ quS (S.ld a z).2 = quS S := by
  unfold St.ld
  split
  case h_2 => exact tel_q _ _
  all_goals exact ⟨rfl, rfl⟩
theorem tak_ram (S : St) (r : Nat) (v : Int) : (S.tak r v).ram = S.ram := by
  unfold St.tak
  split
  · unfold St.sen; split <;> rfl
  · rfl
  · split <;> rfl
  all_goals rfl
theorem fin_ram (S : St) (v : Int) : (S.fin v).ram = S.ram := by
  unfold St.fin
  split
  · split
    · rfl
    · split <;> rfl
  · rfl
theorem sto2_ram {S : St} {a z : Int} (v : Int) (h : ¬ fnd S.ram.length a z = 0) : (S.sto2 a z v).2.ram = S.ram := by
  unfold St.sto2
  split
  · rename_i q; exact absurd q h
  · exact tak_ram _ _ _
  · rfl
  · rfl
  · rfl
  · exact fin_ram _ _
  · rfl
theorem sto2_put {S : St} {a z : Int} (v : Int) (h : fnd S.ram.length a z = 0) : (S.sto2 a z v).2 = S.put (a - 2147483648).toNat z.toNat v.toNat := by
  simp only [St.sto2, h]
theorem fbd_ok {S : St} {k : Wy} {z : Nat} (h : fbd S k z = tN) : n64 k.ad % (z : Int) = 0 ∧ ckA (PC k.c) (PA k.a) k.m k.ad z k.r = true ∧ thr S k.ra k.r k.ad z = true := by
  unfold fbd at h
  by_cases h1 : n64 k.ad % (z : Int) = 0
  · rw [if_pos h1] at h
    by_cases h2 : ckA (PC k.c) (PA k.a) k.m k.ad z k.r = true ∧ thr S k.ra k.r k.ad z = true
    · exact ⟨h1, h2.1, h2.2⟩
    · rw [if_neg h2] at h; cases h
  · rw [if_neg h1] at h; cases h
/-- Each byte has the bit. -/
def gtA (K : Cp) (ad : BitVec 64) (z : Nat) (b : Int) : Prop := ∀ i, i < z → grA (PC K.c) (PA K.a) (ad + BitVec.ofNat 64 i) b = true
theorem fbd_gt {S : St} {K : Cp} {k : Wy} {z : Nat} (hk : k.c = PC K.c ∧ k.a = PA K.a ∧ k.m = 0) (h : fbd S k z = tN) (t : Int) (ht : t ∈ [(1 : Int), 2, 4]) (hb : (bits .and .i64 k.r t != 0) = true) : gtA K k.ad z t := fun i hi => by
  have q := (fbd_ok h).2.1
  rw [hk.1, hk.2.1, hk.2.2, PC_PC, PA_PA] at q
  exact (passes_byte q i hi).2 t ht hb
/-- What an act in U leaves of the bus. -/
structure GrW (K : Cp) (S T : St) (y : Acd) : Prop where
  len : T.ram.length = S.ram.length
  at' : ∀ j, j < S.ram.length → T.ram.getD j 0 ≠ S.ram.getD j 0 → grA (PC K.c) (PA K.a) (2147483648#64 + BitVec.ofNat 64 j) 2 = true
  ch : T ≠ S → ∃ z : Nat, wid4 z ∧ wdt y = z ∧ (gtA K y.ad z 2 ∨ (y.kd = 2 ∧ gtA K y.ad z 1 ∧ quS T = quS S))
theorem GrW.same {K : Cp} {S T : St} {y : Acd} (h : T = S) : GrW K S T y := by
  subst h
  exact ⟨rfl, fun j _ h => absurd rfl h, fun h => absurd rfl h⟩
theorem GrW.load {K : Cp} {S : St} {y : Acd} {z : Nat} (hk : y.kd = 2) (hz : wid4 z) (hw : wdt y = z) (hg : gtA K y.ad z 1) (a x : Int) : GrW K S (S.ld a x).2 y := by
  have q := ld_q S a x
  exact ⟨by rw [q.1], fun j _ h => absurd (by rw [q.1]) h, fun _ => ⟨z, hz, hw, .inr ⟨hk, hg, q.2⟩⟩⟩
theorem hasM_in {n : Nat} {a z : Int} (h : hasM n a z = true) (hz : 0 < z) : 2147483648 ≤ a ∧ (a - 2147483648) + z ≤ n := by
  unfold hasM hld at h
  simp only [Bool.and_eq_true, decide_eq_true_eq] at h
  omega
theorem fnd_0 {n : Nat} {a z : Int} (h : fnd n a z = 0) : hasM n a z = true := by
  unfold fnd at h
  by_cases q : hasM n a z = true
  · exact q
  · rw [if_neg q] at h
    repeat' split at h
    all_goals exfalso; omega
theorem GrW.store {K : Cp} {S : St} {y : Acd} {z : Nat} (hz : wid4 z) (hw : wdt y = z) (hg : gtA K y.ad z 2) (v : Int) : GrW K S (S.sto2 (n64 y.ad) z v).2 y := by
  have hz0 : 0 < z := by rcases hz with rfl | rfl | rfl | rfl <;> decide
  by_cases hf : fnd S.ram.length (n64 y.ad) z = 0
  · have hi := hasM_in (fnd_0 hf) (by omega)
    have e := sto2_put v hf
    have hl : (n64 y.ad - 2147483648).toNat + (ptL v.toNat (z : Int).toNat).length ≤ S.ram.length := by rw [ptL_length]; omega
    refine ⟨?_, fun j hj hne => ?_, fun _ => ⟨z, hz, hw, .inl hg⟩⟩
    · rw [e]; exact splice_len _ _ _ hl
    · have eg : (S.sto2 (n64 y.ad) z v).2.ram[j]? = if (n64 y.ad - 2147483648).toNat ≤ j ∧ j < (n64 y.ad - 2147483648).toNat + (ptL v.toNat (z : Int).toNat).length then (ptL v.toNat (z : Int).toNat)[j - (n64 y.ad - 2147483648).toNat]? else S.ram[j]? := by
        rw [e]; exact splice_get _ _ _ hl j
      by_cases q : (n64 y.ad - 2147483648).toNat ≤ j ∧ j < (n64 y.ad - 2147483648).toNat + (ptL v.toNat (z : Int).toNat).length
      · rw [ptL_length] at q
        have g := hg (j - (n64 y.ad - 2147483648).toNat) (by omega)
        have eb : y.ad + BitVec.ofNat 64 (j - (n64 y.ad - 2147483648).toNat) = 2147483648#64 + BitVec.ofNat 64 j := by
          apply BitVec.eq_of_toNat_eq
          rw [BitVec.toNat_add, BitVec.toNat_add, BitVec.toNat_ofNat, BitVec.toNat_ofNat]
          unfold n64 at hi q ⊢
          have := y.ad.isLt
          simp only [BitVec.toNat_ofNat]
          omega
        rw [eb] at g
        exact g
      · rw [if_neg q] at eg
        exact absurd (by rw [List.getD_eq_getElem?_getD, List.getD_eq_getElem?_getD, eg]) hne
  · have e := sto2_ram v hf
    exact ⟨by rw [e], fun j _ h => absurd (by rw [e]) h, fun _ => ⟨z, hz, hw, .inl hg⟩⟩
theorem MV_grL {S : St} {K : Cp} {y : Acd} {z : Nat} (hz : wid4 z) (hw : wdt y = z) (hk : y.kd = 2) (k : Wy) (he : k.c = PC K.c ∧ k.a = PA K.a ∧ k.m = 0) (had : k.ad = y.ad) (hr : k.r = 1) : GrW K S (MV S k z none).S y := by
  by_cases ht : (fbd S k z).is = true
  · exact GrW.same (by simp only [MV]; rw [if_pos ht])
  · have e := fbd_tN ht
    rw [MV_none e]
    have hg := fbd_gt he e 1 (by simp) (by rw [hr]; decide)
    rw [had] at hg
    show GrW K S (mvT S k z) y
    unfold mvT
    rw [if_neg (by omega)]
    exact GrW.load hk hz hw hg _ _
theorem MV_grS {S : St} {K : Cp} {y : Acd} {z : Nat} (hz : wid4 z) (hw : wdt y = z) (k : Wy) (he : k.c = PC K.c ∧ k.a = PA K.a ∧ k.m = 0) (had : k.ad = y.ad) (hr : k.r = 2 ∨ (k.r = 3 ∧ k.ra = true)) (f : BitVec 64 → BitVec 64) : GrW K S (MV S k z (some f)).S y := by
  by_cases ht : (fbd S k z).is = true
  · exact GrW.same (by simp only [MV]; rw [if_pos ht])
  · have e := fbd_tN ht
    rw [MV_some e]
    have hg := fbd_gt he e 2 (by simp) (by rcases hr with q | q; rw [q]; decide; rw [q.1]; decide)
    rw [had] at hg
    have hm : mvT S k z = S := by
      unfold mvT
      split
      · rfl
      · rename_i q2
        rcases hr with q | q
        · exact absurd q q2
        · have q3 := (fbd_there (k := k) hz (by simpa using ht)).2.1 q.2
          simp only [St.ld, q3]
    show GrW K S (((mvT S k z).sto2 (n64 k.ad) z _).2) y
    rw [hm, had]
    exact GrW.store hz hw hg _
theorem AT_gr {S : St} {K : Cp} {y : Acd} {sz : Int} (hw : wdt y = sz) (k : Wy) (he : k.c = PC K.c ∧ k.a = PA K.a ∧ k.m = 0) (had : k.ad = y.ad) (hr : k.r = 2 ∨ k.r = 3) (f : BitVec 64 → BitVec 64) : GrW K S (AT S k sz (some f)).S y := by
  by_cases hz : sz = 4 ∨ sz = 8
  · obtain ⟨z, hz4, ez⟩ : ∃ z : Nat, (z = 4 ∨ z = 8) ∧ sz = z := ⟨sz.toNat, by omega, by omega⟩
    rw [AT_at (z := z) (by unfold wid4; omega) ez (by omega)]
    exact MV_grS (by unfold wid4; omega) (hw.trans ez) { k with ra := true } he had (by rcases hr with q | q; exact .inl q; exact .inr ⟨q, rfl⟩) f
  · exact GrW.same (by unfold AT; rw [if_neg hz])
theorem DO_gr {S : St} {K : Cp} {y : Acd} (hp : PR K = K) (hm : K.md = 0) (h7 : ¬ y.kd = 7) : GrW K S (DO S K y).2 y := by
  have hx : xE (PR K) = 0 := by rw [hp]; unfold xE; rw [if_neg (by omega), hm]
  have hL : ∀ ad, (wL 0 (PR K) ad).c = PC K.c ∧ (wL 0 (PR K) ad).a = PA K.a ∧ (wL 0 (PR K) ad).m = 0 := fun ad => ⟨rfl, rfl, hx⟩
  have hS : ∀ ad, (wS 0 (PR K) ad).c = PC K.c ∧ (wS 0 (PR K) ad).a = PA K.a ∧ (wS 0 (PR K) ad).m = 0 := fun ad => ⟨rfl, rfl, hx⟩
  unfold DO
  by_cases h1 : y.kd = 1
  · rw [if_pos h1]; exact GrW.same (FT_S _ _ _)
  rw [if_neg h1]
  by_cases h2 : y.kd = 2
  · rw [if_pos h2]
    have hw : wdt y = y.sz := by unfold wdt; rw [if_neg (by omega)]
    show GrW K S (PL S (wL 0 (PR K) y.ad) y.sz none).S y
    by_cases hz : y.sz = 1 ∨ y.sz = 2 ∨ y.sz = 4 ∨ y.sz = 8
    · obtain ⟨z, hz4, ez⟩ : ∃ z : Nat, wid4 z ∧ y.sz = z := ⟨y.sz.toNat, by unfold wid4; omega, by omega⟩
      rw [PL_at hz4 ez]
      exact MV_grL hz4 (hw.trans ez) h2 _ (hL _) rfl rfl
    · exact GrW.same (by unfold PL; rw [if_neg (by omega), if_neg (by omega), if_neg (by omega), if_neg (by omega)])
  rw [if_neg h2]
  by_cases h3 : y.kd = 3
  · rw [if_pos h3]
    have hw : wdt y = y.sz := by unfold wdt; rw [if_neg (by omega)]
    show GrW K S (PL S (wS 0 (PR K) y.ad) y.sz (some fun _ => y.v)).S y
    by_cases hz : y.sz = 1 ∨ y.sz = 2 ∨ y.sz = 4 ∨ y.sz = 8
    · obtain ⟨z, hz4, ez⟩ : ∃ z : Nat, wid4 z ∧ y.sz = z := ⟨y.sz.toNat, by unfold wid4; omega, by omega⟩
      rw [PL_at hz4 ez]
      exact MV_grS hz4 (hw.trans ez) _ (hS _) rfl (.inl rfl) _
    · exact GrW.same (by unfold PL; rw [if_neg (by omega), if_neg (by omega), if_neg (by omega), if_neg (by omega)])
  rw [if_neg h3]
  by_cases h4 : y.kd = 4
  · rw [if_pos h4]
    show GrW K S (AT S (wL 0 (PR K) y.ad) y.sz none).S y
    by_cases hz : y.sz = 4 ∨ y.sz = 8
    · obtain ⟨z, hz4, ez⟩ : ∃ z : Nat, (z = 4 ∨ z = 8) ∧ y.sz = z := ⟨y.sz.toNat, by omega, by omega⟩
      rw [AT_at (z := z) (by unfold wid4; omega) ez (by omega)]
      exact GrW.same (MV_ram (by unfold wid4; omega) rfl)
    · exact GrW.same (by unfold AT; rw [if_neg hz])
  rw [if_neg h4]
  by_cases h5 : y.kd = 5
  · rw [if_pos h5]
    have hw : wdt y = y.sz := by unfold wdt; rw [if_neg (by omega)]
    show GrW K S (AT S (wS 0 (PR K) y.ad) y.sz (if hel (PR K) y.ad y.sz = true then some (fun _ => y.v) else none)).S y
    split
    · exact AT_gr hw _ (hS _) rfl (.inl rfl) _
    · by_cases hz : y.sz = 4 ∨ y.sz = 8
      · obtain ⟨z, hz4, ez⟩ : ∃ z : Nat, (z = 4 ∨ z = 8) ∧ y.sz = z := ⟨y.sz.toNat, by omega, by omega⟩
        rw [AT_at (z := z) (by unfold wid4; omega) ez (by omega)]
        exact GrW.same (MV_ram (by unfold wid4; omega) rfl)
      · exact GrW.same (by unfold AT; rw [if_neg hz])
  rw [if_neg h5]
  by_cases h6 : y.kd = 6
  · rw [if_pos h6]
    show GrW K S (AM S (PR K) 0 y.op y.ad y.v).S y
    unfold AM
    split
    · exact GrW.same rfl
    · rename_i hz
      have hw : wdt y = amSz y.op := by
        unfold wdt amSz at *
        rw [if_pos h6]
        by_cases q1 : 77 ≤ y.op ∧ y.op ≤ 85
        · rw [if_pos q1, if_neg (by omega)]
        · rw [if_neg q1] at hz ⊢
          by_cases q2 : 88 ≤ y.op ∧ y.op ≤ 96
          · rw [if_pos q2, if_pos (by omega)]
          · rw [if_neg q2] at hz; exact absurd rfl hz
      exact AT_gr hw { wS 0 (PR K) y.ad with r := 3 } (hS y.ad) rfl (.inr rfl) _
  rw [if_neg h6, if_neg h7]
  exact GrW.same rfl
end Go.Proofs.YtlhgphokfpnfeaaGreatDoor
