/-
  Tmf Tpa.
-/
import Derived.Test.YtidfndgedopghaaGreatDoorQ26
import Derived.Test.YtidfndgedopghaaGreatDoorQ20
namespace Go.Proofs.YtidfndgedopghaaGreatDoor
set_option linter.unusedVariables false
open Go.ChangeShapes Go.WideShapes Go.ChangeAt Go.RowKit Go.Deep
theorem mq_bits (w : BitVec 64) (h : w.getLsbD 11 = w.getLsbD 12) : ¬ mq w := by
  have h0 : (w >>> 11 &&& 3#64).getLsbD 0 = w.getLsbD 11 := by rw [BitVec.getLsbD_and, BitVec.getLsbD_ushiftRight]; simp
  have h1 : (w >>> 11 &&& 3#64).getLsbD 1 = w.getLsbD 12 := by
    rw [BitVec.getLsbD_and, BitVec.getLsbD_ushiftRight, show (3#64).getLsbD 1 = true by decide, Bool.and_true]
  unfold mq
  rintro (e | e)
  · rw [e] at h0 h1
    rw [← h0, ← h1] at h
    revert h; decide
  · rw [e] at h0 h1
    rw [← h0, ← h1] at h
    revert h; decide
theorem mq_bits2 (w : BitVec 64) (h : ¬ mq w) : w.getLsbD 11 = w.getLsbD 12 := by
  have h0 : (w >>> 11 &&& 3#64).getLsbD 0 = w.getLsbD 11 := by rw [BitVec.getLsbD_and, BitVec.getLsbD_ushiftRight]; simp
  have h1 : (w >>> 11 &&& 3#64).getLsbD 1 = w.getLsbD 12 := by
    rw [BitVec.getLsbD_and, BitVec.getLsbD_ushiftRight, show (3#64).getLsbD 1 = true by decide, Bool.and_true]
  rw [← h0, ← h1]
  unfold mq at h
  rcases four (and3_le (w >>> 11)) with e | e | e | e
  · rw [e]; decide
  · exact absurd (Or.inl e) h
  · exact absurd (Or.inr e) h
  · rw [e]; decide
theorem stB_not (x : BitVec 64) : ¬ mq (stB x) := by
  have e : stB x >>> 11 &&& 3#64 = (stB x &&& 2234504#64) >>> 11 &&& 3#64 := (mask6144 _).symm
  unfold mq
  rw [e, stB_and]
  by_cases h : mq (x &&& 2234504#64)
  · rw [if_pos h]
    exact mq_no x
  · rw [if_neg h]
    exact h
theorem st_mask : ∀ i, i < 64 → (i = 3 ∨ i = 7 ∨ i = 11 ∨ i = 12 ∨ i = 17 ∨ i = 21) → (2234504#64).getLsbD i = true ∧ (8589934592#64).getLsbD i = false := by decide
/-- A word that differs from a proper mstatus in its free bits alone, MPP a mode, is a proper mstatus. -/
theorem stB_fix {v w : BitVec 64} (hv : stB v = v) (hq : ¬ mq w) (h : ∀ i, i < 64 → ¬ (i = 3 ∨ i = 7 ∨ i = 11 ∨ i = 12 ∨ i = 17 ∨ i = 21) → w.getLsbD i = v.getLsbD i) : stB w = w := by
  have hvq : ¬ mq v := by rw [← hv]; exact stB_not v
  rw [stB_alt, if_neg hvq] at hv
  rw [stB_alt, if_neg hq]
  apply BitVec.eq_of_getLsbD_eq
  intro i hi
  rw [BitVec.getLsbD_or, BitVec.getLsbD_and]
  by_cases hs : i = 3 ∨ i = 7 ∨ i = 11 ∨ i = 12 ∨ i = 17 ∨ i = 21
  · obtain ⟨h1, h2⟩ := st_mask i hi hs
    rw [h1, h2]; simp
  · have e := congrArg (fun z : BitVec 64 => z.getLsbD i) hv
    simp only [BitVec.getLsbD_or, BitVec.getLsbD_and] at e
    rw [h i hi hs]
    exact e
theorem wB_bit (v : BitVec 64) (m : Int) (i : Nat) (hi : i < 64) : (wB v m).getLsbD i = if i = 11 ∨ i = 12 then (m == 3) else v.getLsbD i := by
  unfold wB
  rw [sB_bit _ 12 i (by decide) hi, sB_bit _ 11 i (by decide) hi]
  by_cases h1 : i = 12
  · rw [if_pos h1, if_pos (Or.inr h1)]
  · rw [if_neg h1]
    by_cases h2 : i = 11
    · rw [if_pos h2, if_pos (Or.inl h2)]
    · rw [if_neg h2, if_neg (fun h => h.elim h2 h1)]
theorem enS_bit (v : BitVec 64) (m : Int) (i : Nat) (hi : i < 64) : (enS v m).getLsbD i = if i = 11 ∨ i = 12 then (m == 3) else if i = 3 then false else if i = 7 then v.getLsbD 3 else v.getLsbD i := by
  unfold enS
  rw [wB_bit _ _ i hi, sB_bit _ 3 i (by decide) hi, sB_bit _ 7 i (by decide) hi]
theorem enS_pr {v : BitVec 64} (hv : stB v = v) (m : Int) : stB (enS v m) = enS v m := by
  refine stB_fix hv (mq_bits _ ?_) (fun i hi hn => ?_)
  · rw [enS_bit _ _ 11 (by decide), enS_bit _ _ 12 (by decide), if_pos (Or.inl rfl), if_pos (Or.inr rfl)]
  · rw [enS_bit _ _ i hi, if_neg (by omega), if_neg (by omega), if_neg (by omega)]
theorem rtS_bit (v : BitVec 64) (i : Nat) (hi : i < 64) : (rtS v).getLsbD i = if i = 17 ∧ mpB v = 0 then false else if i = 11 ∨ i = 12 then false else if i = 7 then true else if i = 3 then v.getLsbD 7 else v.getLsbD i := by
  unfold rtS
  by_cases h : mpB v = 0
  · rw [if_pos h, sB_bit _ 17 i (by decide) hi, wB_bit _ _ i hi, sB_bit _ 7 i (by decide) hi, sB_bit _ 3 i (by decide) hi]
    by_cases h17 : i = 17
    · rw [if_pos h17, if_pos ⟨h17, h⟩]
    · rw [if_neg h17, if_neg (show ¬ (i = 17 ∧ mpB v = 0) from fun q => h17 q.1)]
      rfl
  · rw [if_neg h, wB_bit _ _ i hi, sB_bit _ 7 i (by decide) hi, sB_bit _ 3 i (by decide) hi, if_neg (show ¬ (i = 17 ∧ mpB v = 0) from fun q => h q.2)]
    rfl
theorem rtS_pr {v : BitVec 64} (hv : stB v = v) : stB (rtS v) = rtS v := by
  refine stB_fix hv (mq_bits _ ?_) (fun i hi hn => ?_)
  · rw [rtS_bit _ 11 (by decide), rtS_bit _ 12 (by decide)]; simp
  · rw [rtS_bit _ i hi, if_neg (by omega), if_neg (by omega), if_neg (by omega), if_neg (by omega)]
/-- Even words. -/
theorem even_of {x : BitVec 64} (h : x.getLsbD 0 = false) : x &&& ~~~1#64 = x := by
  apply BitVec.eq_of_getLsbD_eq
  intro i hi
  rw [BitVec.getLsbD_and, BitVec.getLsbD_not]
  by_cases e : i = 0
  · subst e; rw [h]; rfl
  · have : (1#64).getLsbD i = false := by
      rw [BitVec.getLsbD_one]; simp [e]
    rw [this]; simp [hi]
theorem even_nat {x : BitVec 64} (h : x.toNat % 2 = 0) : x &&& ~~~1#64 = x := by
  refine even_of ?_
  rw [BitVec.getLsbD, Nat.testBit_zero, h]; rfl
theorem hbs_four (tv : BitVec 64) : (hbs tv).toNat % 4 = 0 := by
  have h2 : (tv % 4#64).toNat ≤ tv.toNat := by rw [BitVec.toNat_umod]; exact Nat.mod_le _ _
  unfold hbs
  rw [BitVec.toNat_sub_of_le (by rw [BitVec.le_def]; exact h2), BitVec.toNat_umod]
  have : (4#64).toNat = 4 := rfl
  rw [this]
  omega
theorem hdl_even (tv cause : BitVec 64) : hdl tv cause &&& ~~~1#64 = hdl tv cause := by
  refine even_nat ?_
  have h4 := hbs_four tv
  unfold hdl
  split
  · rw [BitVec.toNat_add, BitVec.toNat_mul]
    have : (4#64).toNat = 4 := rfl
    rw [this]
    omega
  · omega
theorem PR_x0 (k : Cp) : upd (PR k).x 0 0#64 = (PR k).x := upd_tw k.x 0 0#64
theorem pr_s0 (k : Cp) : stB ((PR k).s 0) = (PR k).s 0 := stB_stB (k.s 0)
theorem EN_pr (k : Cp) (cause tval : BitVec 64) : PR (ENc k cause tval) = ENc k cause tval := by
  have e : PR (ENc k cause tval) = { PR (PR k) with pc := hdl ((PR k).s 1) cause &&& ~~~1#64, md := 3, wt := false, s := prS (upd (upd (upd (upd (PR k).s 7 (PR k).pc) 8 cause) 9 tval) 0 (enS ((PR k).s 0) (PR k).md)), rv := false, ra := 0#64, rs := 0 } := rfl
  have hs : prS (upd (upd (upd (upd (PR k).s 7 (PR k).pc) 8 cause) 9 tval) 0 (enS ((PR k).s 0) (PR k).md)) = upd (upd (upd (upd (PR k).s 7 (PR k).pc) 8 cause) 9 tval) 0 (enS ((PR k).s 0) (PR k).md) := by
    have h0 := prS_prS k.s
    funext j
    match j with
    | 0 => exact enS_pr (pr_s0 k) _
    | 1 => exact congrFun h0 1
    | 2 => exact congrFun h0 2
    | 3 => exact congrFun h0 3
    | 4 => exact congrFun h0 4
    | 5 => exact congrFun h0 5
    | 6 => rfl
    | 7 => exact and_tw k.pc (~~~1#64)
    | j + 8 => rfl
  rw [e, PR_PR, hdl_even, hs]
  rfl
theorem RT_pr (k : Cp) : PR (RTc k) = RTc k := by
  unfold RTc
  split
  · have e : PR { PR k with pc := (PR k).s 7, md := mpB ((PR k).s 0), s := upd (PR k).s 0 (rtS ((PR k).s 0)), rv := false, ra := 0#64, rs := 0 } = { PR (PR k) with pc := (PR k).s 7 &&& ~~~1#64, md := if mpB ((PR k).s 0) = 3 then 3 else 0, s := prS (upd (PR k).s 0 (rtS ((PR k).s 0))), rv := false, ra := 0#64, rs := 0 } := rfl
    have hs : prS (upd (PR k).s 0 (rtS ((PR k).s 0))) = upd (PR k).s 0 (rtS ((PR k).s 0)) := by
      have h0 := prS_prS k.s
      funext j
      match j with
      | 0 => exact rtS_pr (pr_s0 k)
      | 1 => exact congrFun h0 1
      | 2 => exact congrFun h0 2
      | 3 => exact congrFun h0 3
      | 4 => exact congrFun h0 4
      | 5 => exact congrFun h0 5
      | 6 => rfl
      | 7 => exact congrFun h0 7
      | j + 8 => rfl
    have hp : (PR k).s 7 &&& ~~~1#64 = (PR k).s 7 := and_tw (k.s 7) (~~~1#64)
    have hm : (if mpB ((PR k).s 0) = 3 then (3 : Int) else 0) = mpB ((PR k).s 0) := by
      rcases mpB_is ((PR k).s 0) with h | h <;> rw [h] <;> rfl
    rw [e, PR_PR, hs, hp, hm]
  · exact PR_PR k
theorem WT_pr (k : Cp) : PR (WTc k) = WTc k := by
  unfold WTc
  split
  · exact PR_PR k
  · have e : PR { PR k with wt := true } = { PR (PR k) with wt := true } := rfl
    rw [e, PR_PR]
/-- A Cpu is taken as Proper makes it. -/
theorem EN_PR (k : Cp) (cause tval : BitVec 64) : ENc (PR k) cause tval = ENc k cause tval := by unfold ENc; rw [PR_PR]
theorem RT_PR (k : Cp) : RTc (PR k) = RTc k ∧ RTk (PR k) = RTk k := by unfold RTc RTk; rw [PR_PR]; exact ⟨rfl, rfl⟩
theorem WT_PR (k : Cp) : WTc (PR k) = WTc k ∧ WTk (PR k) = WTk k := by unfold WTc WTk; rw [PR_PR]; exact ⟨rfl, rfl⟩
theorem EF_PR (k : Cp) : EF (PR k) = EF k := by unfold EF; rw [PR_PR]
theorem PD_PR (k : Cp) (mip : BitVec 64) : PD (PR k) mip = PD k mip := by unfold PD; rw [PR_PR]
end Go.Proofs.YtidfndgedopghaaGreatDoor
namespace Go.Proofs.YtidfndgedopghaaGreatDoor
set_option linter.unusedVariables false
open Go.ChangeShapes Go.WideShapes Go.ChangeAt Go.RowKit Go.Deep
theorem and_tp (v : BitVec 64) (n : Nat) (hn : n < 64) : v &&& tp n = if v.getLsbD n then tp n else 0#64 := by
  apply BitVec.eq_of_getLsbD_eq
  intro i hi
  rw [BitVec.getLsbD_and, tp_bit n i hn hi]
  by_cases h : i = n
  · subst h
    cases hv : v.getLsbD i
    · simp
    · simp [tp_bit i i hi hi]
  · cases hv : v.getLsbD n
    · simp [h]
    · simp [h, tp_bit n i hn hi]
theorem tp_pos (n : Nat) (hn : n < 64) : n64 (tp n) ≠ 0 := by
  intro h
  have h0 := n64_zero h
  have h1 := tp_bit n n hn hn
  rw [h0] at h1
  simp at h1
/-- Is a bit set? -/
theorem bit_ne (v : BitVec 64) (n : Nat) (hn : n < 64) : (n64 (v &&& tp n) != 0) = v.getLsbD n := by
  rw [and_tp v n hn]
  cases v.getLsbD n
  · rfl
  · rw [if_pos rfl]; simpa using tp_pos n hn
theorem bit_eq (v : BitVec 64) (n : Nat) (hn : n < 64) : (n64 (v &&& tp n) == 0) = !v.getLsbD n := by
  rw [← bit_ne v n hn, bne, Bool.not_not]
theorem m6144 : ∀ i, i < 64 → (6144#64).getLsbD i = (decide (i = 11) || decide (i = 12)) := by decide
/-- A word with MPP a mode. -/
theorem wB_0 (v : BitVec 64) : v &&& ~~~6144#64 ||| 0#64 <<< 11 &&& 6144#64 = wB v 0 := by
  rw [show (0#64 <<< 11 &&& 6144#64 : BitVec 64) = 0#64 by decide]
  apply BitVec.eq_of_getLsbD_eq
  intro i hi
  rw [wB_bit v 0 i hi, BitVec.getLsbD_or, BitVec.getLsbD_and, BitVec.getLsbD_not, m6144 i hi]
  by_cases h1 : i = 11
  · simp [h1]
  · by_cases h2 : i = 12
    · simp [h2]
    · simp [h1, h2, hi]
theorem wB_3 (v : BitVec 64) : v &&& ~~~6144#64 ||| 3#64 <<< 11 &&& 6144#64 = wB v 3 := by
  rw [show (3#64 <<< 11 &&& 6144#64 : BitVec 64) = 6144#64 by decide]
  apply BitVec.eq_of_getLsbD_eq
  intro i hi
  rw [wB_bit v 3 i hi, BitVec.getLsbD_or, BitVec.getLsbD_and, BitVec.getLsbD_not, m6144 i hi]
  by_cases h1 : i = 11
  · simp [h1]
  · by_cases h2 : i = 12
    · simp [h2]
    · simp [h1, h2, hi]
/-- MPP of a proper mstatus is a mode. -/
theorem bf_mp (v : BitVec 64) (h : v.getLsbD 11 = v.getLsbD 12) : n64 (bfB v) = mpB v := by
  have h0 : (v >>> 11 &&& 3#64).getLsbD 0 = v.getLsbD 11 := by rw [BitVec.getLsbD_and, BitVec.getLsbD_ushiftRight]; simp
  have h1 : (v >>> 11 &&& 3#64).getLsbD 1 = v.getLsbD 12 := by
    rw [BitVec.getLsbD_and, BitVec.getLsbD_ushiftRight, show (3#64).getLsbD 1 = true by decide, Bool.and_true]
  unfold mpB bfB
  rw [← h0, ← h1] at h
  rw [← h0]
  rcases four (and3_le (v >>> 11)) with e | e | e | e
  · rw [e]; decide
  · rw [e] at h; exact absurd h (by decide)
  · rw [e] at h; exact absurd h (by decide)
  · rw [e]; decide
theorem pr_1112 (k : Cp) : ((PR k).s 0).getLsbD 11 = ((PR k).s 0).getLsbD 12 := mq_bits2 _ (by rw [← pr_s0]; exact stB_not _)
/-- mstatus behind a return, as the program makes it. -/
theorem rtS_0 (v : BitVec 64) (h : mpB v = 0) : wB (sB (sB (sB v 17 false) 3 (v.getLsbD 7)) 7 true) 0 = rtS v := by
  apply BitVec.eq_of_getLsbD_eq
  intro i hi
  rw [rtS_bit v i hi, wB_bit _ _ i hi, sB_bit _ 7 i (by decide) hi, sB_bit _ 3 i (by decide) hi, sB_bit _ 17 i (by decide) hi]
  by_cases h17 : i = 17
  · subst h17; simp [h]
  · simp [h17]
theorem rtS_3 (v : BitVec 64) (h : mpB v = 3) : wB (sB (sB v 3 (v.getLsbD 7)) 7 true) 0 = rtS v := by
  unfold rtS
  rw [if_neg (by rw [h]; decide)]
/-- The handler's base. -/
theorem hbs_and (tv : BitVec 64) : tv &&& ~~~3#64 = hbs tv := by
  have e : tv % 4#64 = tv &&& 3#64 := by
    apply BitVec.eq_of_toNat_eq
    rw [BitVec.toNat_umod, BitVec.toNat_and, show (3#64).toNat = 2 ^ 2 - 1 from rfl, Nat.and_two_pow_sub_one_eq_mod]
    rfl
  have s : (tv &&& ~~~3#64) + (tv &&& 3#64) = tv := by
    rw [BitVec.add_eq_or_of_and_eq_zero]
    · apply BitVec.eq_of_getLsbD_eq
      intro i hi
      simp only [BitVec.getLsbD_or, BitVec.getLsbD_and, BitVec.getLsbD_not]
      cases tv.getLsbD i <;> cases (3#64).getLsbD i <;> simp [hi]
    · apply BitVec.eq_of_getLsbD_eq
      intro i hi
      simp only [BitVec.getLsbD_and, BitVec.getLsbD_not, BitVec.getLsbD_zero]
      cases tv.getLsbD i <;> cases (3#64).getLsbD i <;> simp
  unfold hbs
  rw [e]
  calc tv &&& ~~~3#64 = (tv &&& ~~~3#64) + (tv &&& 3#64) - (tv &&& 3#64) := by rw [BitVec.add_sub_cancel]
    _ = tv - (tv &&& 3#64) := by rw [s]
theorem withB_c (v : BitVec 64) (m : Int) (hm : m = 0 ∨ m = 3) (w : World) : Calls Tryz.prog 163 #[.int .u64 (n64 v), .int .i64 m] w fun e w' => e = .returned (.int .u64 (n64 (wB v m))) ∧ w' = w := by
  rcases hm with rfl | rfl
  · have h := withBefore_c v 0#64 (by decide) w
    rw [wB_0] at h; exact h
  · have h := withBefore_c v 3#64 (by decide) w
    rw [wB_3] at h; exact h
/-- The first of the lines that are up. -/
def fsB (c11 c3 c7 : Bool) (i : Nat) : Int × Bool :=
  if i ≤ 0 ∧ c11 = true then (11, true) else if i ≤ 1 ∧ c3 = true then (3, true) else if i ≤ 2 ∧ c7 = true then (7, true) else (0, false)
theorem fsB_0t : ∀ c3 c7, fsB true c3 c7 0 = (11, true) := by decide
theorem fsB_0f : ∀ c3 c7, fsB false c3 c7 0 = fsB false c3 c7 1 := by decide
theorem fsB_1t : ∀ c11 c7, fsB c11 true c7 1 = (3, true) := by decide
theorem fsB_1f : ∀ c11 c7, fsB c11 false c7 1 = fsB c11 false c7 2 := by decide
theorem fsB_2t : ∀ c11 c3, fsB c11 c3 true 2 = (7, true) := by decide
theorem fsB_2f : ∀ c11 c3, fsB c11 c3 false 2 = fsB c11 c3 false 3 := by decide
theorem fsB_3 : ∀ c11 c3 c7, fsB c11 c3 c7 3 = (0, false) := by decide
def fsN (b : BitVec 64) (i : Nat) : Int × Bool := fsB (b.getLsbD 11) (b.getLsbD 3) (b.getLsbD 7) i
theorem fs_pd (K : Cp) (mip : BitVec 64) : fsN (mip &&& K.s 2) 0 = pdF K mip 0 := by
  unfold fsN fsB pdF pdN
  rw [BitVec.getLsbD_and, BitVec.getLsbD_and, BitVec.getLsbD_and]
theorem bit_sh (b : BitVec 64) (n : Nat) : (n64 (b >>> n &&& 1#64) != 0) = b.getLsbD n := by
  have h := n64_odd b n
  have e : n64 (b >>> n &&& 1#64) = n64 (b >>> n) % 2 := by
    unfold n64
    rw [BitVec.toNat_and, show (1#64).toNat = 2 ^ 1 - 1 from rfl, Nat.and_two_pow_sub_one_eq_mod]
    rfl
  rw [e, ← h]
  have := n64_lo (b >>> n)
  rw [Bool.eq_iff_iff]
  simp only [bne_iff_ne, ne_eq, beq_iff_eq]
  omega
end Go.Proofs.YtidfndgedopghaaGreatDoor
