/-
  What trap answers is proper: without memory.
-/
import Derived.Test.YtnejdfkmnblfeaaTre
import Derived.Test.YtnejdfkmnblfeaaCsa
namespace Go.Proofs.Ytnejdfkmnblfeaa
set_option linter.unusedVariables false
open Go.ChangeShapes Go.WideShapes Go.ChangeAt Go.RowKit Go.Deep
theorem mq_bits (w : BitVec 64) (h : w.getLsbD 11 = w.getLsbD 12) : ¬ mq w := by
  have h0 : (w >>> 11 &&& 3#64).getLsbD 0 = w.getLsbD 11 := by rw [BitVec.getLsbD_and, BitVec.getLsbD_ushiftRight]; simp
  have h1 : (w >>> 11 &&& 3#64).getLsbD 1 = w.getLsbD 12 := by
    rw [BitVec.getLsbD_and, BitVec.getLsbD_ushiftRight, show (3#64).getLsbD 1 = true by decide, Bool.and_true]
  unfold mq
  rintro (e | e)
  · rw [e] at h0 h1
    rw [← h0, ← h1] at h
    revert h; decide
  · rw [e] at h0 h1
    rw [← h0, ← h1] at h
    revert h; decide
theorem mq_bits2 (w : BitVec 64) (h : ¬ mq w) : w.getLsbD 11 = w.getLsbD 12 := by
  have h0 : (w >>> 11 &&& 3#64).getLsbD 0 = w.getLsbD 11 := by rw [BitVec.getLsbD_and, BitVec.getLsbD_ushiftRight]; simp
  have h1 : (w >>> 11 &&& 3#64).getLsbD 1 = w.getLsbD 12 := by
    rw [BitVec.getLsbD_and, BitVec.getLsbD_ushiftRight, show (3#64).getLsbD 1 = true by decide, Bool.and_true]
  rw [← h0, ← h1]
  unfold mq at h
  rcases four (and3_le (w >>> 11)) with e | e | e | e
  · rw [e]; decide
  · exact absurd (Or.inl e) h
  · exact absurd (Or.inr e) h
  · rw [e]; decide
theorem stB_not (x : BitVec 64) : ¬ mq (stB x) := by
  have e : stB x >>> 11 &&& 3#64 = (stB x &&& 2234504#64) >>> 11 &&& 3#64 := (mask6144 _).symm
  unfold mq
  rw [e, stB_and]
  by_cases h : mq (x &&& 2234504#64)
  · rw [if_pos h]
    exact mq_no x
  · rw [if_neg h]
    exact h
theorem st_mask : ∀ i, i < 64 → (i = 3 ∨ i = 7 ∨ i = 11 ∨ i = 12 ∨ i = 17 ∨ i = 21) → (2234504#64).getLsbD i = true ∧ (8589934592#64).getLsbD i = false := by decide
/-- A word that differs from a proper mstatus in its free bits alone, MPP a mode, is a proper mstatus. -/
theorem stB_fix {v w : BitVec 64} (hv : stB v = v) (hq : ¬ mq w) (h : ∀ i, i < 64 → ¬ (i = 3 ∨ i = 7 ∨ i = 11 ∨ i = 12 ∨ i = 17 ∨ i = 21) → w.getLsbD i = v.getLsbD i) : stB w = w := by
  have hvq : ¬ mq v := by rw [← hv]; exact stB_not v
  rw [stB_alt, if_neg hvq] at hv
  rw [stB_alt, if_neg hq]
  apply BitVec.eq_of_getLsbD_eq
  intro i hi
  rw [BitVec.getLsbD_or, BitVec.getLsbD_and]
  by_cases hs : i = 3 ∨ i = 7 ∨ i = 11 ∨ i = 12 ∨ i = 17 ∨ i = 21
  · obtain ⟨h1, h2⟩ := st_mask i hi hs
    rw [h1, h2]; simp
  · have e := congrArg (fun z : BitVec 64 => z.getLsbD i) hv
    simp only [BitVec.getLsbD_or, BitVec.getLsbD_and] at e
    rw [h i hi hs]
    exact e
theorem wB_bit (v : BitVec 64) (m : Int) (i : Nat) (hi : i < 64) : (wB v m).getLsbD i = if i = 11 ∨ i = 12 then (m == 3) else v.getLsbD i := by
  unfold wB
  rw [sB_bit _ 12 i (by decide) hi, sB_bit _ 11 i (by decide) hi]
  by_cases h1 : i = 12
  · rw [if_pos h1, if_pos (Or.inr h1)]
  · rw [if_neg h1]
    by_cases h2 : i = 11
    · rw [if_pos h2, if_pos (Or.inl h2)]
    · rw [if_neg h2, if_neg (fun h => h.elim h2 h1)]
theorem enS_bit (v : BitVec 64) (m : Int) (i : Nat) (hi : i < 64) : (enS v m).getLsbD i = if i = 11 ∨ i = 12 then (m == 3) else if i = 3 then false else if i = 7 then v.getLsbD 3 else v.getLsbD i := by
  unfold enS
  rw [wB_bit _ _ i hi, sB_bit _ 3 i (by decide) hi, sB_bit _ 7 i (by decide) hi]
theorem enS_pr {v : BitVec 64} (hv : stB v = v) (m : Int) : stB (enS v m) = enS v m := by
  refine stB_fix hv (mq_bits _ ?_) (fun i hi hn => ?_)
  · rw [enS_bit _ _ 11 (by decide), enS_bit _ _ 12 (by decide), if_pos (Or.inl rfl), if_pos (Or.inr rfl)]
  · rw [enS_bit _ _ i hi, if_neg (by omega), if_neg (by omega), if_neg (by omega)]
theorem rtS_bit (v : BitVec 64) (i : Nat) (hi : i < 64) : (rtS v).getLsbD i = if i = 17 ∧ mpB v = 0 then false else if i = 11 ∨ i = 12 then false else if i = 7 then true else if i = 3 then v.getLsbD 7 else v.getLsbD i := by
  unfold rtS
  by_cases h : mpB v = 0
  · rw [if_pos h, sB_bit _ 17 i (by decide) hi, wB_bit _ _ i hi, sB_bit _ 7 i (by decide) hi, sB_bit _ 3 i (by decide) hi]
    by_cases h17 : i = 17
    · rw [if_pos h17, if_pos ⟨h17, h⟩]
    · rw [if_neg h17, if_neg (show ¬ (i = 17 ∧ mpB v = 0) from fun q => h17 q.1)]
      rfl
  · rw [if_neg h, wB_bit _ _ i hi, sB_bit _ 7 i (by decide) hi, sB_bit _ 3 i (by decide) hi, if_neg (show ¬ (i = 17 ∧ mpB v = 0) from fun q => h q.2)]
    rfl
theorem rtS_pr {v : BitVec 64} (hv : stB v = v) : stB (rtS v) = rtS v := by
  refine stB_fix hv (mq_bits _ ?_) (fun i hi hn => ?_)
  · rw [rtS_bit _ 11 (by decide), rtS_bit _ 12 (by decide)]; simp
  · rw [rtS_bit _ i hi, if_neg (by omega), if_neg (by omega), if_neg (by omega), if_neg (by omega)]
/-- Even words. -/
theorem even_of {x : BitVec 64} (h : x.getLsbD 0 = false) : x &&& ~~~1#64 = x := by
  apply BitVec.eq_of_getLsbD_eq
  intro i hi
  rw [BitVec.getLsbD_and, BitVec.getLsbD_not]
  by_cases e : i = 0
  · subst e; rw [h]; rfl
  · have : (1#64).getLsbD i = false := by
      rw [BitVec.getLsbD_one]; simp [e]
    rw [this]; simp [hi]
theorem even_nat {x : BitVec 64} (h : x.toNat % 2 = 0) : x &&& ~~~1#64 = x := by
  refine even_of ?_
  rw [BitVec.getLsbD, Nat.testBit_zero, h]; rfl
theorem hbs_four (tv : BitVec 64) : (hbs tv).toNat % 4 = 0 := by
  have h2 : (tv % 4#64).toNat ≤ tv.toNat := by rw [BitVec.toNat_umod]; exact Nat.mod_le _ _
  unfold hbs
  rw [BitVec.toNat_sub_of_le (by rw [BitVec.le_def]; exact h2), BitVec.toNat_umod]
  have : (4#64).toNat = 4 := rfl
  rw [this]
  omega
theorem hdl_even (tv cause : BitVec 64) : hdl tv cause &&& ~~~1#64 = hdl tv cause := by
  refine even_nat ?_
  have h4 := hbs_four tv
  unfold hdl
  split
  · rw [BitVec.toNat_add, BitVec.toNat_mul]
    have : (4#64).toNat = 4 := rfl
    rw [this]
    omega
  · omega
theorem PR_x0 (k : Cp) : upd (PR k).x 0 0#64 = (PR k).x := upd_tw k.x 0 0#64
theorem pr_s0 (k : Cp) : stB ((PR k).s 0) = (PR k).s 0 := stB_stB (k.s 0)
theorem EN_pr (k : Cp) (cause tval : BitVec 64) : PR (ENc k cause tval) = ENc k cause tval := by
  have e : PR (ENc k cause tval) = { PR (PR k) with pc := hdl ((PR k).s 1) cause &&& ~~~1#64, md := 3, wt := false, s := prS (upd (upd (upd (upd (PR k).s 7 (PR k).pc) 8 cause) 9 tval) 0 (enS ((PR k).s 0) (PR k).md)), rv := false, ra := 0#64, rs := 0 } := rfl
  have hs : prS (upd (upd (upd (upd (PR k).s 7 (PR k).pc) 8 cause) 9 tval) 0 (enS ((PR k).s 0) (PR k).md)) = upd (upd (upd (upd (PR k).s 7 (PR k).pc) 8 cause) 9 tval) 0 (enS ((PR k).s 0) (PR k).md) := by
    have h0 := prS_prS k.s
    funext j
    match j with
    | 0 => exact enS_pr (pr_s0 k) _
    | 1 => exact congrFun h0 1
    | 2 => exact congrFun h0 2
    | 3 => exact congrFun h0 3
    | 4 => exact congrFun h0 4
    | 5 => exact congrFun h0 5
    | 6 => rfl
    | 7 => exact and_tw k.pc (~~~1#64)
    | j + 8 => rfl
  rw [e, PR_PR, hdl_even, hs]
  rfl
theorem RT_pr (k : Cp) : PR (RTc k) = RTc k := by
  unfold RTc
  split
  · have e : PR { PR k with pc := (PR k).s 7, md := mpB ((PR k).s 0), s := upd (PR k).s 0 (rtS ((PR k).s 0)), rv := false, ra := 0#64, rs := 0 } = { PR (PR k) with pc := (PR k).s 7 &&& ~~~1#64, md := if mpB ((PR k).s 0) = 3 then 3 else 0, s := prS (upd (PR k).s 0 (rtS ((PR k).s 0))), rv := false, ra := 0#64, rs := 0 } := rfl
    have hs : prS (upd (PR k).s 0 (rtS ((PR k).s 0))) = upd (PR k).s 0 (rtS ((PR k).s 0)) := by
      have h0 := prS_prS k.s
      funext j
      match j with
      | 0 => exact rtS_pr (pr_s0 k)
      | 1 => exact congrFun h0 1
      | 2 => exact congrFun h0 2
      | 3 => exact congrFun h0 3
      | 4 => exact congrFun h0 4
      | 5 => exact congrFun h0 5
      | 6 => rfl
      | 7 => exact congrFun h0 7
      | j + 8 => rfl
    have hp : (PR k).s 7 &&& ~~~1#64 = (PR k).s 7 := and_tw (k.s 7) (~~~1#64)
    have hm : (if mpB ((PR k).s 0) = 3 then (3 : Int) else 0) = mpB ((PR k).s 0) := by
      rcases mpB_is ((PR k).s 0) with h | h <;> rw [h] <;> rfl
    rw [e, PR_PR, hs, hp, hm]
  · exact PR_PR k
theorem WT_pr (k : Cp) : PR (WTc k) = WTc k := by
  unfold WTc
  split
  · exact PR_PR k
  · have e : PR { PR k with wt := true } = { PR (PR k) with wt := true } := rfl
    rw [e, PR_PR]
/-- A Cpu is taken as Proper makes it. -/
theorem EN_PR (k : Cp) (cause tval : BitVec 64) : ENc (PR k) cause tval = ENc k cause tval := by unfold ENc; rw [PR_PR]
theorem RT_PR (k : Cp) : RTc (PR k) = RTc k ∧ RTk (PR k) = RTk k := by unfold RTc RTk; rw [PR_PR]; exact ⟨rfl, rfl⟩
theorem WT_PR (k : Cp) : WTc (PR k) = WTc k ∧ WTk (PR k) = WTk k := by unfold WTc WTk; rw [PR_PR]; exact ⟨rfl, rfl⟩
theorem EF_PR (k : Cp) : EF (PR k) = EF k := by unfold EF; rw [PR_PR]
theorem PD_PR (k : Cp) (mip : BitVec 64) : PD (PR k) mip = PD k mip := by unfold PD; rw [PR_PR]
end Go.Proofs.Ytnejdfkmnblfeaa
