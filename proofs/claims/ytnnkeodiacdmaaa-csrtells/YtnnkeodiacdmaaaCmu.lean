/-
  Two Cpus in M of which every number tells the same are the same.
-/
import Derived.Test.YtnnkeodiacdmaaaCmk
namespace Go.Proofs.Ytnnkeodiacdmaaa
set_option linter.unusedVariables false
open Go.ChangeShapes Go.WideShapes Go.ChangeAt Go.RowKit Go.Deep
/-- The numbers that are looked at. -/
def Vn (n : Int) : Prop := (768 ≤ n ∧ n < 960) ∨ (2816 ≤ n ∧ n < 2848) ∨ (3072 ≤ n ∧ n < 3104)
theorem RD_M {k : Cp} (hk : PR k = k) (hm : k.md = 3) (m t : BitVec 64) (n : Int) : RD k m t n = if EX n then TO k m t n else 0 := by
  unfold RD RK
  rw [hk, hm]
  cases EX n <;> simp
theorem tells_same {a b : Cp} (h : cpc a = cpc b) (m t : BitVec 64) (n : Int) : TO a m t n = TO b m t n := by
  have e := Alk.of h
  refine TO_same m t n (fun hs => e.s _ hs) (fun _ => ?_) (fun _ => ?_) (fun hn => e.a _ (by omega))
  · exact cfgR_0 (fun j hj => by show pcl _ = pcl _; rw [e.c j (by omega)])
  · exact cfgR_2 (fun j hj => by show pcl _ = pcl _; rw [e.c (8 + j) (by omega)])
theorem cfg_back {c c' : Nat → BitVec 8} (f : Nat) (h : cfgV c f = cfgV c' f) (j : Nat) (hj : j < 8) : c (f + j) = c' (f + j) := by
  rw [cfgB_n, cfgB_n] at h
  have h2 := n64_inj.1 h
  rw [← cfgB_b c f j hj, ← cfgB_b c' f j hj, h2]
theorem cfgR_V0 (c : Nat → BitVec 8) : cfgR c 0 = cfgV c 0 := by unfold cfgR; rw [if_pos rfl]
theorem cfgR_V2 (c : Nat → BitVec 8) : cfgR c 2 = cfgV c 8 := by unfold cfgR; rw [if_neg (by decide), if_pos rfl]
theorem tells_all {a b : Cp} (ha : PR a = a) (hb : PR b = b) (hs : Sta b a) (m t : BitVec 64) (h : ∀ n, Vn n → EX n = true → TO a m t n = TO b m t n) : cpc a = cpc b := by
  have ca : PC a.c = a.c := pr_c ha
  have cb : PC b.c = b.c := pr_c hb
  have h768 := h 768 (by unfold Vn; omega) (by decide)
  rw [TO_768, TO_768] at h768
  have h773 := h 773 (by unfold Vn; omega) (by decide)
  rw [TO_773, TO_773] at h773
  have h772 := h 772 (by unfold Vn; omega) (by decide)
  rw [TO_772, TO_772] at h772
  have h774 := h 774 (by unfold Vn; omega) (by decide)
  rw [TO_774, TO_774] at h774
  have h800 := h 800 (by unfold Vn; omega) (by decide)
  rw [TO_800, TO_800] at h800
  have h778 := h 778 (by unfold Vn; omega) (by decide)
  rw [TO_778, TO_778] at h778
  have h832 := h 832 (by unfold Vn; omega) (by decide)
  rw [TO_832, TO_832] at h832
  have h833 := h 833 (by unfold Vn; omega) (by decide)
  rw [TO_833, TO_833] at h833
  have h834 := h 834 (by unfold Vn; omega) (by decide)
  rw [TO_834, TO_834] at h834
  have h835 := h 835 (by unfold Vn; omega) (by decide)
  rw [TO_835, TO_835] at h835
  have h2816 := h 2816 (by unfold Vn; omega) (by decide)
  rw [TO_2816, TO_2816] at h2816
  have h2818 := h 2818 (by unfold Vn; omega) (by decide)
  rw [TO_2818, TO_2818] at h2818
  have h928 := h 928 (by unfold Vn; omega) (by decide)
  rw [TO_928, TO_928, ca, cb, cfgR_V0, cfgR_V0] at h928
  have h930 := h 930 (by unfold Vn; omega) (by decide)
  rw [TO_930, TO_930, ca, cb, cfgR_V2, cfgR_V2] at h930
  refine Alk.cells ⟨hs.pc.symm, fun j _ => by rw [hs.x], hs.md.symm, hs.wt.symm, fun j hj => ?_, fun j hj => ?_, fun j hj => ?_, hs.rv.symm, hs.ra.symm, hs.rs.symm⟩
  · match j, hj with
    | 0, _ => exact n64_inj.1 h768
    | 1, _ => exact n64_inj.1 h773
    | 2, _ => exact n64_inj.1 h772
    | 3, _ => exact n64_inj.1 h774
    | 4, _ => exact n64_inj.1 h800
    | 5, _ => exact n64_inj.1 h778
    | 6, _ => exact n64_inj.1 h832
    | 7, _ => exact n64_inj.1 h833
    | 8, _ => exact n64_inj.1 h834
    | 9, _ => exact n64_inj.1 h835
    | 10, _ => exact n64_inj.1 h2816
    | 11, _ => exact n64_inj.1 h2818
    | j + 12, hj => exact absurd hj (by omega)
  · by_cases h8 : j < 8
    · have := cfg_back 0 h928 j h8
      rwa [Nat.zero_add] at this
    · have := cfg_back 8 h930 (j - 8) (by omega)
      rwa [show 8 + (j - 8) = j by omega] at this
  · have q := h (944 + (j : Int)) (by unfold Vn; omega) (by simp only [EX, wi, Bool.or_eq_true, Bool.and_eq_true, decide_eq_true_iff]; omega)
    rw [TO_in _ _ _ _ (by omega), TO_in _ _ _ _ (by omega), show (944 + (j : Int) - 944).toNat = j by omega] at q
    exact n64_inj.1 q
/-- A Cpu in M. -/
def cMd (k : Cp) : Cp := { PR k with md := 3 }
theorem cMd_pr (k : Cp) : PR (cMd k) = cMd k := by
  have e : PR (cMd k) = { PR (PR k) with md := 3 } := by
    unfold cMd
    rfl
  rw [e, PR_PR]
  rfl
end Go.Proofs.Ytnnkeodiacdmaaa
