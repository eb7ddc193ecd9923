/-
  Locks: cfgLocked, addrLocked, Locked; SetAddr, SetCfg, Cfg of the program and of the reference.
-/
import Derived.Test.YtnnkeodiacdmaaaPop
namespace Go.Proofs.Ytnnkeodiacdmaaa
set_option linter.unusedVariables false
open Go.ChangeShapes Go.WideShapes Go.ChangeAt Go.RowKit Go.Deep
/-- Whether the Cfg, the Addr takes no write. -/
def cL (c : Nat → BitVec 8) (i : Int) : Bool := if 0 ≤ i ∧ i < 16 then lk (c i.toNat) else true
def nx (c : Nat → BitVec 8) (k : Nat) : Bool := decide (k < 15) && lk (c (k + 1)) && decide (kd (c (k + 1)) = 1#8)
def aL (c : Nat → BitVec 8) (i : Int) : Bool := if 0 ≤ i ∧ i < 16 then (lk (c i.toNat) || nx c i.toNat) else true
theorem cL_in (c : Nat → BitVec 8) (k : Nat) (h : k < 16) : cL c k = lk (c k) := by unfold cL; rw [if_pos (by omega)]; simp
theorem cL_out (c : Nat → BitVec 8) (i : Int) (h : ¬ (0 ≤ i ∧ i < 16)) : cL c i = true := by unfold cL; rw [if_neg h]
theorem aL_in (c : Nat → BitVec 8) (k : Nat) (h : k < 16) : aL c k = (lk (c k) || nx c k) := by unfold aL; rw [if_pos (by omega)]; simp
theorem aL_out (c : Nat → BitVec 8) (i : Int) (h : ¬ (0 ≤ i ∧ i < 16)) : aL c i = true := by unfold aL; rw [if_neg h]
theorem row_cfg {w : World} {g : Nat} {c : Nat → BitVec 8} {a : Nat → BitVec 64} {t : TypeId} (h : Row w g (ec c a) t) (k : Nat) (hk : k < 16) : w.cell? ⟨g, k * 2, none⟩ = some (.int .u8 (n8 (c k))) := by
  rw [h.cell, ec_at _ _ _ (by omega), ecell, if_pos (by omega), Nat.mul_div_cancel _ (by omega)]
theorem row_addr {w : World} {g : Nat} {c : Nat → BitVec 8} {a : Nat → BitVec 64} {t : TypeId} (h : Row w g (ec c a) t) (k : Nat) (hk : k < 16) : w.cell? ⟨g, k * 2 + 1, none⟩ = some (.int .u64 (n64 (a k))) := by
  rw [h.cell, ec_at _ _ _ (by omega), ecell, if_neg (by omega), show (k * 2 + 1) / 2 = k by omega]
theorem prow_cfg {w : World} {g : Nat} {c : Nat → BitVec 8} {a : Nat → BitVec 64} {t : TypeId} (h : Row w g (pc c a) t) (k : Nat) (hk : k < 16) : w.cell? ⟨g, k, none⟩ = some (.int .u8 (n8 (c k))) := by
  rw [h.cell, pc_at _ _ _ (by omega), pcell, if_pos hk]
theorem prow_addr {w : World} {g : Nat} {c : Nat → BitVec 8} {a : Nat → BitVec 64} {t : TypeId} (h : Row w g (pc c a) t) (k : Nat) (hk : k < 16) : w.cell? ⟨g, 16 + k, none⟩ = some (.int .u64 (n64 (a k))) := by
  rw [h.cell, pc_at _ _ _ (by omega), pcell, if_neg (by omega), Nat.add_sub_cancel_left]
set_option maxRecDepth 100000 in
set_option maxHeartbeats 1000000 in
theorem cfgLocked_c (c : Nat → BitVec 8) (a : Nat → BitVec 64) (g : Nat) (i : Int) (w : World) (hg : Row w g (ec c a) 71) :
    Calls Try.prog 60 #[.pointer (some ⟨g, 0, none⟩), .int .i64 i] w fun e w' => e = .returned (.bool (cL c i)) ∧ Below w.heap.size w w' := by
  have hE := isEntry_c i w
  by_cases h : 0 ≤ i ∧ i < 16
  · obtain ⟨k, rfl⟩ : ∃ k : Nat, i = k := ⟨i.toNat, by omega⟩
    have hk : k < 16 := by omega
    have hk2 : (k : Int) < 16 := by omega
    rw [decide_eq_true h] at hE
    rw [cL_in c k hk]
    have c0 := row_cfg hg k hk
    have c1 := row_addr hg k hk
    have hB := elocked_c (c k) (.int .u64 (n64 (a k))) w
    generalize lk (c k) = r at hB ⊢
    have HE : Hid (Calls Try.prog 62 #[.int .i64 k] w fun e w' => e = .returned (.bool true) ∧ w' = w) := hE
    have HB : Hid (Calls Try.prog 63 #[.agg #[.int .u8 (n8 (c k)), .int .u64 (n64 (a k))]] w fun e w' => e = .returned (.bool r) ∧ Below w.heap.size w w') := hB
    clear hE hB hg h
    go_enter Try.func60, Try.ntmps60
    go_wp2_with (first | (go_at_call 62; refine HE.out.mono ?_; rintro e w1 ⟨rfl, hw⟩; have hw2 := hw.symm; subst hw2) | (go_at_call 63; refine HB.out.mono ?_; rintro e w1 ⟨rfl, hb⟩))
    go_ret
    exact ⟨rfl, hb⟩
  · rw [decide_eq_false h] at hE
    rw [cL_out c i h]
    have HE : Hid (Calls Try.prog 62 #[.int .i64 i] w fun e w' => e = .returned (.bool false) ∧ w' = w) := hE
    clear hE hg h
    go_enter Try.func60, Try.ntmps60
    go_wp2_with (go_at_call 62; refine HE.out.mono ?_; rintro e w1 ⟨rfl, hw⟩; have hw2 := hw.symm; subst hw2)
    go_ret
    exact ⟨rfl, Below.refl _ _⟩
set_option maxRecDepth 100000 in
set_option maxHeartbeats 1000000 in
theorem addrLocked_c (c : Nat → BitVec 8) (a : Nat → BitVec 64) (g : Nat) (i : Int) (w : World) (hg : Row w g (ec c a) 71) :
    Calls Try.prog 61 #[.pointer (some ⟨g, 0, none⟩), .int .i64 i] w fun e w' => e = .returned (.bool (aL c i)) ∧ Below w.heap.size w w' := by
  have hE := cfgLocked_c c a g i w hg
  by_cases h : 0 ≤ i ∧ i < 16
  · obtain ⟨k, rfl⟩ : ∃ k : Nat, i = k := ⟨i.toNat, by omega⟩
    have hk : k < 16 := by omega
    have hk2 : (k : Int) < 16 := by omega
    rw [cL_in c k hk] at hE
    rw [aL_in c k hk]
    have HG : Hid (Row w g (ec c a) 71) := hg
    have hlg := hg.lt
    clear h hg
    cases hl : lk (c k) with
    | true =>
      rw [hl] at hE
      simp only [Bool.true_or]
      have HE : Hid (Calls Try.prog 60 #[.pointer (some ⟨g, 0, none⟩), .int .i64 k] w fun e w' => e = .returned (.bool true) ∧ Below w.heap.size w w') := hE
      clear hE hl
      go_enter Try.func61, Try.ntmps61
      go_wp2_with (go_at_call 60; refine HE.out.mono ?_; rintro e w1 ⟨rfl, hb⟩)
      go_ret
      exact ⟨rfl, hb⟩
    | false =>
      rw [hl] at hE
      simp only [Bool.false_or]
      have HE : Hid (Calls Try.prog 60 #[.pointer (some ⟨g, 0, none⟩), .int .i64 k] w fun e w' => e = .returned (.bool false) ∧ Below w.heap.size w w') := hE
      clear hE hl
      by_cases hk15 : k < 15
      · have hk3 : (k : Int) + 1 < 16 := by omega
        have c0 := row_cfg HG.out (k + 1) (by omega)
        have c1 := row_addr HG.out (k + 1) (by omega)
        have HC0 : Hid (∀ w1, Below w.heap.size w w1 → w1.cell? ⟨g, (k + 1) * 2, none⟩ = some (.int .u8 (n8 (c (k + 1))))) := fun w1 hb => (hb.cell (p := ⟨g, (k + 1) * 2, none⟩) hlg).trans c0
        have HC1 : Hid (∀ w1, Below w.heap.size w w1 → w1.cell? ⟨g, (k + 1) * 2 + 1, none⟩ = some (.int .u64 (n64 (a (k + 1))))) := fun w1 hb => (hb.cell (p := ⟨g, (k + 1) * 2 + 1, none⟩) hlg).trans c1
        clear c0 c1
        have hq : nx c k = (lk (c (k + 1)) && decide (kd (c (k + 1)) = 1#8)) := by unfold nx; simp [hk15]
        rw [hq]
        have HL : Hid (∀ w1, Calls Try.prog 63 #[.agg #[.int .u8 (n8 (c (k + 1))), .int .u64 (n64 (a (k + 1)))]] w1 fun e w' => e = .returned (.bool (lk (c (k + 1)))) ∧ Below w1.heap.size w1 w') := fun w1 => elocked_c _ _ w1
        have HK : Hid (∀ w1, Calls Try.prog 64 #[.agg #[.int .u8 (n8 (c (k + 1))), .int .u64 (n64 (a (k + 1)))]] w1 fun e w' => e = .returned (.int .u8 (n8 (kd (c (k + 1))))) ∧ Below w1.heap.size w1 w') := fun w1 => ekind_c _ _ w1
        clear hq
        cases hl2 : lk (c (k + 1)) with
        | false =>
          rw [hl2] at HL
          simp only [Bool.false_and]
          clear hl2
          go_enter Try.func61, Try.ntmps61
          go_wp2_with (first | (go_at_call 60; refine HE.out.mono ?_; rintro e w1 ⟨rfl, hb⟩; have HB1 : Hid (Below w.heap.size w w1) := hb; clear hb; have d0 := HC0.out w1 HB1.out; have d1 := HC1.out w1 HB1.out) | (go_at_call 63; refine (HL.out _).mono ?_; rintro e w2 ⟨rfl, hb⟩; have HB2 : Hid (Below w1.heap.size w1 w2) := hb; clear hb))
          go_ret
          exact ⟨rfl, HB1.out.trans (HB2.out.mono HB1.out.size)⟩
        | true =>
          rw [hl2] at HL
          simp only [Bool.true_and]
          clear hl2
          have HQ : Hid ((n8 (kd (c (k + 1))) == 1) = decide (kd (c (k + 1)) = 1#8)) := by
            by_cases e1 : kd (c (k + 1)) = 1#8
            · rw [e1]; rfl
            · have : ¬ n8 (kd (c (k + 1))) = 1 := fun q => e1 (n8_inj.1 (q.trans rfl))
              unfold Hid; simp [this, e1]
          generalize decide (kd (c (k + 1)) = 1#8) = q at HQ ⊢
          generalize kd (c (k + 1)) = z at HQ HK
          have hq2 := HQ.out
          go_enter Try.func61, Try.ntmps61
          go_wp2_with (first | (go_at_call 60; refine HE.out.mono ?_; rintro e w1 ⟨rfl, hb⟩; have HB1 : Hid (Below w.heap.size w w1) := hb; clear hb; have d0 := HC0.out w1 HB1.out; have d1 := HC1.out w1 HB1.out) | (go_at_call 63; refine (HL.out _).mono ?_; rintro e w2 ⟨rfl, hb⟩; have HB2 : Hid (Below w.heap.size w w2) := HB1.out.trans (hb.mono HB1.out.size); clear hb; have d2 := HC0.out w2 HB2.out; have d3 := HC1.out w2 HB2.out) | (go_at_call 64; refine (HK.out _).mono ?_; rintro e w3 ⟨rfl, hb⟩; have HB3 : Hid (Below w.heap.size w w3) := HB2.out.trans (hb.mono HB2.out.size); clear hb))
          go_ret
          exact ⟨by simp_all, HB3.out⟩
      · have hk3 : ¬ (k : Int) + 1 < 16 := by omega
        have hq : nx c k = false := by unfold nx; simp [hk15]
        rw [hq]
        clear hq
        obtain rfl : k = 15 := by omega
        have e15 : ((15 : Nat) : Int) = 15 := rfl
        rw [e15] at HE ⊢
        clear hk hk2 hk3 hk15
        go_enter Try.func61, Try.ntmps61
        go_wp2_with (go_at_call 60; refine HE.out.mono ?_; rintro e w1 ⟨rfl, hb⟩)
        go_ret
        exact ⟨rfl, hb⟩
  · rw [cL_out c i h] at hE
    rw [aL_out c i h]
    have HE : Hid (Calls Try.prog 60 #[.pointer (some ⟨g, 0, none⟩), .int .i64 i] w fun e w' => e = .returned (.bool true) ∧ Below w.heap.size w w') := hE
    clear hE hg h
    go_enter Try.func61, Try.ntmps61
    go_wp2_with (go_at_call 60; refine HE.out.mono ?_; rintro e w1 ⟨rfl, hb⟩)
    go_ret
    exact ⟨rfl, hb⟩
end Go.Proofs.Ytnnkeodiacdmaaa
