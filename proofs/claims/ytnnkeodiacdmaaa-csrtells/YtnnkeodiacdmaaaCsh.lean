/-
  What each number's register does.
-/
import Derived.Test.YtnnkeodiacdmaaaCsg
import Derived.Test.YtnnkeodiacdmaaaCmt
namespace Go.Proofs.Ytnnkeodiacdmaaa
set_option linter.unusedVariables false
set_option maxRecDepth 100000
open Go.ChangeShapes Go.WideShapes Go.ChangeAt Go.RowKit Go.Deep
theorem prS_one {s s' : Nat → BitVec 64} {j : Nat} (h : s j = s' j) : prS s j = prS s' j := by
  match j, h with
  | 0, h => show stB _ = stB _; rw [h]
  | 1, h => show _ &&& _ = _ &&& _; rw [h]
  | 2, h => show _ &&& _ = _ &&& _; rw [h]
  | 3, h => show _ &&& _ = _ &&& _; rw [h]
  | 4, h => show _ &&& _ = _ &&& _; rw [h]
  | 5, h => show _ &&& _ = _ &&& _; rw [h]
  | 6, h => exact h
  | 7, h => show _ &&& _ = _ &&& _; rw [h]
  | j + 8, h => exact h
theorem PR_s {k : Cp} (hk : PR k = k) (i : Nat) (v : BitVec 64) : PR { k with s := upd k.s i v } = { k with s := upd k.s i (prS (upd k.s i v) i) } := by
  have e : PR { k with s := upd k.s i v } = { PR k with s := prS (upd k.s i v) } := rfl
  have es : prS k.s = k.s := congrArg Cp.s hk
  have q : prS (upd k.s i v) = upd k.s i (prS (upd k.s i v) i) := by
    funext j
    by_cases h : j = i
    · subst h; simp [upd]
    · rw [show upd k.s i (prS (upd k.s i v) i) j = k.s j by simp [upd, h], prS_one (show upd k.s i v j = k.s j by simp [upd, h]), es]
  rw [e, hk, ← q]
theorem PC_sR (c : Nat → BitVec 8) (i : Int) (v : BitVec 64) : PC (sR (PC c) i v) = sR (PC c) i v := by
  have q : ∀ f, PC (sC (PC c) f v) = sC (PC c) f v := fun f => by
    funext j
    show pcl (sC (PC c) f v j) = _
    unfold sC
    split
    · exact pcl_pcl _
    · exact pcl_pcl _
  unfold sR
  split
  · exact q 0
  split
  · exact q 8
  · exact PC_PC c
theorem PA_sA (c : Nat → BitVec 8) (a : Nat → BitVec 64) (i : Int) (v : BitVec 64) : PA (sA c (PA a) i v) = sA c (PA a) i v := by
  unfold sA
  split
  · exact PA_PA a
  · funext j
    show pad (upd _ _ _ j) = _
    unfold upd
    split
    · exact and_tw _ _
    · exact and_tw _ _
theorem PR_c {k : Cp} (hk : PR k = k) (i : Int) (v : BitVec 64) : PR { k with c := sR (PC k.c) i v, a := PA k.a } = { k with c := sR (PC k.c) i v, a := PA k.a } := by
  have e : PR { k with c := sR (PC k.c) i v, a := PA k.a } = { PR k with c := PC (sR (PC k.c) i v), a := PA (PA k.a) } := rfl
  rw [e, hk, PC_sR, PA_PA]
theorem PR_a {k : Cp} (hk : PR k = k) (i : Int) (v : BitVec 64) : PR { k with c := PC k.c, a := sA (PC k.c) (PA k.a) i v } = { k with c := PC k.c, a := sA (PC k.c) (PA k.a) i v } := by
  have e : PR { k with c := PC k.c, a := sA (PC k.c) (PA k.a) i v } = { PR k with c := PC (PC k.c), a := PA (sA (PC k.c) (PA k.a) i v) } := rfl
  rw [e, hk, PC_PC, PA_sA]
theorem and_ones (v : BitVec 64) : v &&& 18446744073709551615#64 = v := by
  rw [show (18446744073709551615#64) = BitVec.allOnes 64 by decide, BitVec.and_allOnes]
/-- A register that is there: how it is read, what a write leaves. -/
def Rgd (g : Nat) (k : Cp) (m t : BitVec 64) (n : Int) : Prop :=
  ∃ (r q : Nat) (x : Value), RT g k m t n = some (rgv r q x) ∧ (∀ w, (callFunc r #[x]).run Try.prog w = .ok (.enter r #[x]) w) ∧ (∀ v w, (callFunc q #[x, v]).run Try.prog w = .ok (.enter q #[x, v]) w) ∧
    (∀ W, Sr W g k m t → Calls Try.prog r #[x] W fun e w' => e = .returned (.int .u64 (TO k m t n)) ∧ Below W.heap.size W w') ∧
    (∀ v W, Sr W g k m t → Calls Try.prog q #[x, .int .u64 (n64 v)] W fun e w' => e = .returned (.tuple #[]) ∧ Sr w' g (PR (KW k n v)) m t ∧ Below g W w')
theorem rgd_772 (g : Nat) (k : Cp) (m t : BitVec 64) (hk : PR k = k) : Rgd g k m t 772 := by
  refine ⟨49, 50, .agg #[.pointer (some ⟨g, 37, none⟩), .int .u64 (n64 2184#64)], by rfl, fun w => by rfl, fun v w => by rfl, fun W h => ?_, fun v W h => ?_⟩
  · exact wordRead_c g 37 _ _ W h.lt (h.s 2 (by omega))
  · refine (wordWrite_c g 2 (by omega) 2184#64 v k m t W h).mono fun e w' ⟨h1, h2, h3⟩ => ⟨h1, ?_, h3⟩
    rw [show PR (KW k 772 v) = _ from PR_s hk 2 v]
    exact h2
theorem rgd_773 (g : Nat) (k : Cp) (m t : BitVec 64) (hk : PR k = k) : Rgd g k m t 773 := by
  refine ⟨49, 50, .agg #[.pointer (some ⟨g, 36, none⟩), .int .u64 (n64 (~~~2#64))], by rfl, fun w => by rfl, fun v w => by rfl, fun W h => ?_, fun v W h => ?_⟩
  · exact wordRead_c g 36 _ _ W h.lt (h.s 1 (by omega))
  · refine (wordWrite_c g 1 (by omega) (~~~2#64) v k m t W h).mono fun e w' ⟨h1, h2, h3⟩ => ⟨h1, ?_, h3⟩
    rw [show PR (KW k 773 v) = _ from PR_s hk 1 v]
    exact h2
theorem rgd_774 (g : Nat) (k : Cp) (m t : BitVec 64) (hk : PR k = k) : Rgd g k m t 774 := by
  refine ⟨49, 50, .agg #[.pointer (some ⟨g, 38, none⟩), .int .u64 (n64 7#64)], by rfl, fun w => by rfl, fun v w => by rfl, fun W h => ?_, fun v W h => ?_⟩
  · exact wordRead_c g 38 _ _ W h.lt (h.s 3 (by omega))
  · refine (wordWrite_c g 3 (by omega) 7#64 v k m t W h).mono fun e w' ⟨h1, h2, h3⟩ => ⟨h1, ?_, h3⟩
    rw [show PR (KW k 774 v) = _ from PR_s hk 3 v]
    exact h2
theorem rgd_778 (g : Nat) (k : Cp) (m t : BitVec 64) (hk : PR k = k) : Rgd g k m t 778 := by
  refine ⟨49, 50, .agg #[.pointer (some ⟨g, 40, none⟩), .int .u64 (n64 1#64)], by rfl, fun w => by rfl, fun v w => by rfl, fun W h => ?_, fun v W h => ?_⟩
  · exact wordRead_c g 40 _ _ W h.lt (h.s 5 (by omega))
  · refine (wordWrite_c g 5 (by omega) 1#64 v k m t W h).mono fun e w' ⟨h1, h2, h3⟩ => ⟨h1, ?_, h3⟩
    rw [show PR (KW k 778 v) = _ from PR_s hk 5 v]
    exact h2
theorem rgd_800 (g : Nat) (k : Cp) (m t : BitVec 64) (hk : PR k = k) : Rgd g k m t 800 := by
  refine ⟨49, 50, .agg #[.pointer (some ⟨g, 39, none⟩), .int .u64 (n64 5#64)], by rfl, fun w => by rfl, fun v w => by rfl, fun W h => ?_, fun v W h => ?_⟩
  · exact wordRead_c g 39 _ _ W h.lt (h.s 4 (by omega))
  · refine (wordWrite_c g 4 (by omega) 5#64 v k m t W h).mono fun e w' ⟨h1, h2, h3⟩ => ⟨h1, ?_, h3⟩
    rw [show PR (KW k 800 v) = _ from PR_s hk 4 v]
    exact h2
theorem rgd_832 (g : Nat) (k : Cp) (m t : BitVec 64) (hk : PR k = k) : Rgd g k m t 832 := by
  refine ⟨49, 50, .agg #[.pointer (some ⟨g, 41, none⟩), .int .u64 (n64 18446744073709551615#64)], by rfl, fun w => by rfl, fun v w => by rfl, fun W h => ?_, fun v W h => ?_⟩
  · exact wordRead_c g 41 _ _ W h.lt (h.s 6 (by omega))
  · refine (wordWrite_c g 6 (by omega) 18446744073709551615#64 v k m t W h).mono fun e w' ⟨h1, h2, h3⟩ => ⟨h1, ?_, h3⟩
    rw [show PR (KW k 832 v) = _ from PR_s hk 6 v]
    rw [and_ones] at h2; exact h2
theorem rgd_833 (g : Nat) (k : Cp) (m t : BitVec 64) (hk : PR k = k) : Rgd g k m t 833 := by
  refine ⟨49, 50, .agg #[.pointer (some ⟨g, 42, none⟩), .int .u64 (n64 (~~~1#64))], by rfl, fun w => by rfl, fun v w => by rfl, fun W h => ?_, fun v W h => ?_⟩
  · exact wordRead_c g 42 _ _ W h.lt (h.s 7 (by omega))
  · refine (wordWrite_c g 7 (by omega) (~~~1#64) v k m t W h).mono fun e w' ⟨h1, h2, h3⟩ => ⟨h1, ?_, h3⟩
    rw [show PR (KW k 833 v) = _ from PR_s hk 7 v]
    exact h2
theorem rgd_834 (g : Nat) (k : Cp) (m t : BitVec 64) (hk : PR k = k) : Rgd g k m t 834 := by
  refine ⟨49, 50, .agg #[.pointer (some ⟨g, 43, none⟩), .int .u64 (n64 18446744073709551615#64)], by rfl, fun w => by rfl, fun v w => by rfl, fun W h => ?_, fun v W h => ?_⟩
  · exact wordRead_c g 43 _ _ W h.lt (h.s 8 (by omega))
  · refine (wordWrite_c g 8 (by omega) 18446744073709551615#64 v k m t W h).mono fun e w' ⟨h1, h2, h3⟩ => ⟨h1, ?_, h3⟩
    rw [show PR (KW k 834 v) = _ from PR_s hk 8 v]
    rw [and_ones] at h2; exact h2
theorem rgd_835 (g : Nat) (k : Cp) (m t : BitVec 64) (hk : PR k = k) : Rgd g k m t 835 := by
  refine ⟨49, 50, .agg #[.pointer (some ⟨g, 44, none⟩), .int .u64 (n64 18446744073709551615#64)], by rfl, fun w => by rfl, fun v w => by rfl, fun W h => ?_, fun v W h => ?_⟩
  · exact wordRead_c g 44 _ _ W h.lt (h.s 9 (by omega))
  · refine (wordWrite_c g 9 (by omega) 18446744073709551615#64 v k m t W h).mono fun e w' ⟨h1, h2, h3⟩ => ⟨h1, ?_, h3⟩
    rw [show PR (KW k 835 v) = _ from PR_s hk 9 v]
    rw [and_ones] at h2; exact h2
theorem rgd_2816 (g : Nat) (k : Cp) (m t : BitVec 64) (hk : PR k = k) : Rgd g k m t 2816 := by
  refine ⟨49, 50, .agg #[.pointer (some ⟨g, 45, none⟩), .int .u64 (n64 18446744073709551615#64)], by rfl, fun w => by rfl, fun v w => by rfl, fun W h => ?_, fun v W h => ?_⟩
  · exact wordRead_c g 45 _ _ W h.lt (h.s 10 (by omega))
  · refine (wordWrite_c g 10 (by omega) 18446744073709551615#64 v k m t W h).mono fun e w' ⟨h1, h2, h3⟩ => ⟨h1, ?_, h3⟩
    rw [show PR (KW k 2816 v) = _ from PR_s hk 10 v]
    rw [and_ones] at h2; exact h2
theorem rgd_2818 (g : Nat) (k : Cp) (m t : BitVec 64) (hk : PR k = k) : Rgd g k m t 2818 := by
  refine ⟨49, 50, .agg #[.pointer (some ⟨g, 46, none⟩), .int .u64 (n64 18446744073709551615#64)], by rfl, fun w => by rfl, fun v w => by rfl, fun W h => ?_, fun v W h => ?_⟩
  · exact wordRead_c g 46 _ _ W h.lt (h.s 11 (by omega))
  · refine (wordWrite_c g 11 (by omega) 18446744073709551615#64 v k m t W h).mono fun e w' ⟨h1, h2, h3⟩ => ⟨h1, ?_, h3⟩
    rw [show PR (KW k 2818 v) = _ from PR_s hk 11 v]
    rw [and_ones] at h2; exact h2
theorem rgd_768 (g : Nat) (k : Cp) (m t : BitVec 64) (hk : PR k = k) : Rgd g k m t 768 := by
  refine ⟨45, 46, .agg #[.pointer (some ⟨g, 35, none⟩)], by rfl, fun w => by rfl, fun v w => by rfl, fun W h => ?_, fun v W h => ?_⟩
  · exact statusRead_c g 35 0 _ W h.lt (h.s 0 (by omega))
  · refine (statusWrite_c g v k m t W h).mono fun e w' ⟨h1, h2, h3⟩ => ⟨h1, ?_, h3⟩
    rw [show PR (KW k 768 v) = _ from PR_s hk 0 (stW (k.s 0) v)]
    exact h2
theorem rgd_928 (g : Nat) (k : Cp) (m t : BitVec 64) (hk : PR k = k) : Rgd g k m t 928 := by
  refine ⟨51, 52, .agg #[.pointer (some ⟨g, 47, none⟩), .int .i64 0], by rfl, fun w => by rfl, fun v w => by rfl, fun W h => ?_, fun v W h => ?_⟩
  · have e : TO k m t 928 = cfgR (PC k.c) 0 := by
      unfold TO
      repeat rw [if_neg (by omega)]
      rw [if_pos rfl]
    rw [e]
    exact configRead_c g 0 k m t W h
  · have e : KW k 928 v = { k with c := sR (PC k.c) 0 v, a := PA k.a } := by
      unfold KW
      repeat rw [if_neg (by omega)]
      rw [if_pos rfl]
    rw [e, PR_c hk]
    exact configWrite_c g 0 v k m t W h
theorem rgd_930 (g : Nat) (k : Cp) (m t : BitVec 64) (hk : PR k = k) : Rgd g k m t 930 := by
  refine ⟨51, 52, .agg #[.pointer (some ⟨g, 47, none⟩), .int .i64 2], by rfl, fun w => by rfl, fun v w => by rfl, fun W h => ?_, fun v W h => ?_⟩
  · have e : TO k m t 930 = cfgR (PC k.c) 2 := by
      unfold TO
      repeat rw [if_neg (by omega)]
      rw [if_pos rfl]
    rw [e]
    exact configRead_c g 2 k m t W h
  · have e : KW k 930 v = { k with c := sR (PC k.c) 2 v, a := PA k.a } := by
      unfold KW
      repeat rw [if_neg (by omega)]
      rw [if_pos rfl]
    rw [e, PR_c hk]
    exact configWrite_c g 2 v k m t W h
theorem told_rgd {g : Nat} {k : Cp} {m t : BitVec 64} {n : Int} (hk : PR k = k) (z : Int) (hr : RT g k m t n = some (rgv 47 48 (.int .u64 z))) (ht : TO k m t n = z) (hw : ∀ v, KW k n v = k) : Rgd g k m t n := by
  refine ⟨47, 48, .int .u64 z, hr, fun w => by rfl, fun v w => by rfl, fun W h => ?_, fun v W h => ?_⟩
  · rw [ht]; exact toldRead_c z W
  · rw [hw v, hk]
    exact (toldWrite_c z (n64 v) W).mono fun e w' ⟨h1, h2⟩ => ⟨h1, h.later h2 h.lt, h2.mono (Nat.le_of_lt h.lt)⟩
theorem rgd_769 (g : Nat) (k : Cp) (m t : BitVec 64) (hk : PR k = k) : Rgd g k m t 769 := told_rgd hk 9223372036855828741 (by rfl) (by rfl) (fun v => by rfl)
theorem rgd_836 (g : Nat) (k : Cp) (m t : BitVec 64) (hk : PR k = k) : Rgd g k m t 836 := told_rgd hk (n64 (m &&& 2184#64)) (by rfl) (by rfl) (fun v => by rfl)
theorem rgd_3859 (g : Nat) (k : Cp) (m t : BitVec 64) (hk : PR k = k) : Rgd g k m t 3859 := told_rgd hk 1 (by rfl) (by rfl) (fun v => by rfl)
theorem rgd_3072 (g : Nat) (k : Cp) (m t : BitVec 64) (hk : PR k = k) : Rgd g k m t 3072 := told_rgd hk (n64 (k.s 10)) (by rfl) (by rfl) (fun v => by rfl)
theorem rgd_3073 (g : Nat) (k : Cp) (m t : BitVec 64) (hk : PR k = k) : Rgd g k m t 3073 := told_rgd hk (n64 t) (by rfl) (by rfl) (fun v => by rfl)
theorem rgd_3074 (g : Nat) (k : Cp) (m t : BitVec 64) (hk : PR k = k) : Rgd g k m t 3074 := told_rgd hk (n64 (k.s 11)) (by rfl) (by rfl) (fun v => by rfl)
/-- A number whose register is 0 always. -/
def isIdle (n : Int) : Prop := (803 ≤ n ∧ n ≤ 831) ∨ (2819 ≤ n ∧ n ≤ 2847) ∨ (3075 ≤ n ∧ n ≤ 3103) ∨ n = 3857 ∨ n = 3858 ∨ n = 3860 ∨ n = 3861
theorem RT_idle (g : Nat) (k : Cp) (m t : BitVec 64) {n : Int} (h : isIdle n) : RT g k m t n = some idl := by
  unfold isIdle at h
  unfold RT TI
  unfold tset
  split
  · rfl
  split
  · rfl
  split
  · rfl
  split
  · rfl
  unfold tidl
  rw [if_pos (by omega)]
theorem rgd_idle (g : Nat) (k : Cp) (m t : BitVec 64) (hk : PR k = k) {n : Int} (h : isIdle n) : Rgd g k m t n := by
  refine told_rgd hk 0 (RT_idle g k m t h) ?_ (fun v => ?_)
  · unfold isIdle at h
    unfold TO
    repeat rw [if_neg (by omega)]
  · unfold isIdle at h
    unfold KW
    repeat rw [if_neg (by omega)]
theorem RT_in (g : Nat) (k : Cp) (m t : BitVec 64) (j : Nat) (hj : j < 16) : RT g k m t (944 + (j : Int)) = some (rgv 53 54 (.agg #[.pointer (some ⟨g, 47, none⟩), .int .i64 (j : Int)])) := by
  unfold RT TI TC TP tidl tadr tset
  try dsimp only
  repeat rw [if_neg (by omega)]
  rw [if_pos (by omega), show (944 + (j : Int) - 944) = (j : Int) by omega]
theorem rgd_in (g : Nat) (k : Cp) (m t : BitVec 64) (hk : PR k = k) (j : Nat) (hj : j < 16) : Rgd g k m t (944 + (j : Int)) := by
  refine ⟨53, 54, .agg #[.pointer (some ⟨g, 47, none⟩), .int .i64 (j : Int)], RT_in g k m t j hj, fun w => by rfl, fun v w => by rfl, fun W h => ?_, fun v W h => ?_⟩
  · have e : TO k m t (944 + (j : Int)) = n64 (k.a j) := by
      unfold TO
      repeat rw [if_neg (by omega)]
      rw [if_pos (by omega), show (944 + (j : Int) - 944).toNat = j by omega]
    rw [e]
    exact addressRead_c g j hj k m t W h
  · have e : KW k (944 + (j : Int)) v = { k with c := PC k.c, a := sA (PC k.c) (PA k.a) (j : Int) v } := by
      unfold KW
      repeat rw [if_neg (by omega)]
      rw [if_pos (by omega), show (944 + (j : Int) - 944) = (j : Int) by omega]
    rw [e, PR_a hk]
    exact addressWrite_c g j v k m t W h
theorem rgd_all (g : Nat) (k : Cp) (m t : BitVec 64) (hk : PR k = k) (n : Int) (hx : EX n = true) : Rgd g k m t n := by
  by_cases q768 : n = 768
  · subst q768; exact rgd_768 g k m t hk
  by_cases q769 : n = 769
  · subst q769; exact rgd_769 g k m t hk
  by_cases q772 : n = 772
  · subst q772; exact rgd_772 g k m t hk
  by_cases q773 : n = 773
  · subst q773; exact rgd_773 g k m t hk
  by_cases q774 : n = 774
  · subst q774; exact rgd_774 g k m t hk
  by_cases q778 : n = 778
  · subst q778; exact rgd_778 g k m t hk
  by_cases q800 : n = 800
  · subst q800; exact rgd_800 g k m t hk
  by_cases q832 : n = 832
  · subst q832; exact rgd_832 g k m t hk
  by_cases q833 : n = 833
  · subst q833; exact rgd_833 g k m t hk
  by_cases q834 : n = 834
  · subst q834; exact rgd_834 g k m t hk
  by_cases q835 : n = 835
  · subst q835; exact rgd_835 g k m t hk
  by_cases q836 : n = 836
  · subst q836; exact rgd_836 g k m t hk
  by_cases q928 : n = 928
  · subst q928; exact rgd_928 g k m t hk
  by_cases q930 : n = 930
  · subst q930; exact rgd_930 g k m t hk
  by_cases q2816 : n = 2816
  · subst q2816; exact rgd_2816 g k m t hk
  by_cases q2818 : n = 2818
  · subst q2818; exact rgd_2818 g k m t hk
  by_cases q3072 : n = 3072
  · subst q3072; exact rgd_3072 g k m t hk
  by_cases q3073 : n = 3073
  · subst q3073; exact rgd_3073 g k m t hk
  by_cases q3074 : n = 3074
  · subst q3074; exact rgd_3074 g k m t hk
  by_cases q3859 : n = 3859
  · subst q3859; exact rgd_3859 g k m t hk
  by_cases q : 944 ≤ n ∧ n ≤ 959
  · rw [show n = 944 + ((n - 944).toNat : Int) by omega]; exact rgd_in g k m t hk _ (by omega)
  refine rgd_idle g k m t hk ?_
  unfold isIdle
  simp only [EX, wi, Bool.or_eq_true, Bool.and_eq_true, decide_eq_true_iff] at hx
  omega
theorem RT_there (g : Nat) (k : Cp) (m t : BitVec 64) (n : Int) (hx : EX n = true) : ∃ r q x, RT g k m t n = some (rgv r q x) := by
  by_cases q768 : n = 768
  · subst q768; exact ⟨_, _, _, by rfl⟩
  by_cases q769 : n = 769
  · subst q769; exact ⟨_, _, _, by rfl⟩
  by_cases q772 : n = 772
  · subst q772; exact ⟨_, _, _, by rfl⟩
  by_cases q773 : n = 773
  · subst q773; exact ⟨_, _, _, by rfl⟩
  by_cases q774 : n = 774
  · subst q774; exact ⟨_, _, _, by rfl⟩
  by_cases q778 : n = 778
  · subst q778; exact ⟨_, _, _, by rfl⟩
  by_cases q800 : n = 800
  · subst q800; exact ⟨_, _, _, by rfl⟩
  by_cases q832 : n = 832
  · subst q832; exact ⟨_, _, _, by rfl⟩
  by_cases q833 : n = 833
  · subst q833; exact ⟨_, _, _, by rfl⟩
  by_cases q834 : n = 834
  · subst q834; exact ⟨_, _, _, by rfl⟩
  by_cases q835 : n = 835
  · subst q835; exact ⟨_, _, _, by rfl⟩
  by_cases q836 : n = 836
  · subst q836; exact ⟨_, _, _, by rfl⟩
  by_cases q928 : n = 928
  · subst q928; exact ⟨_, _, _, by rfl⟩
  by_cases q930 : n = 930
  · subst q930; exact ⟨_, _, _, by rfl⟩
  by_cases q2816 : n = 2816
  · subst q2816; exact ⟨_, _, _, by rfl⟩
  by_cases q2818 : n = 2818
  · subst q2818; exact ⟨_, _, _, by rfl⟩
  by_cases q3072 : n = 3072
  · subst q3072; exact ⟨_, _, _, by rfl⟩
  by_cases q3073 : n = 3073
  · subst q3073; exact ⟨_, _, _, by rfl⟩
  by_cases q3074 : n = 3074
  · subst q3074; exact ⟨_, _, _, by rfl⟩
  by_cases q3859 : n = 3859
  · subst q3859; exact ⟨_, _, _, by rfl⟩
  by_cases q : 944 ≤ n ∧ n ≤ 959
  · rw [show n = 944 + ((n - 944).toNat : Int) by omega]; exact ⟨_, _, _, RT_in g k m t _ (by omega)⟩
  refine ⟨_, _, _, RT_idle g k m t ?_⟩
  unfold isIdle
  simp only [EX, wi, Bool.or_eq_true, Bool.and_eq_true, decide_eq_true_iff] at hx
  omega
theorem RT_none (g : Nat) (k : Cp) (m t : BitVec 64) (n : Int) (hx : EX n = false) : RT g k m t n = none := by
  simp only [EX, wi, Bool.or_eq_false_iff, Bool.and_eq_false_iff, decide_eq_false_iff_not] at hx
  unfold RT TI TC TP TM tidl tadr tset
  try dsimp only
  repeat rw [if_neg (by omega)]
end Go.Proofs.Ytnnkeodiacdmaaa
