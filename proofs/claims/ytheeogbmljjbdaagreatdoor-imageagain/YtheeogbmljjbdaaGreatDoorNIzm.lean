/-
  What Read gives can be written, or is too long: without memory.
-/
import Derived.Test.YtheeogbmljjbdaaGreatDoorNIzk
namespace Go.Proofs.YtheeogbmljjbdaaGreatDoor
set_option linter.unusedVariables false
set_option maxRecDepth 100000
open Go.ChangeShapes Go.WideShapes Go.ChangeAt Go.RowKit Go.Deep
theorem ff_zero {f : Nat → Int} : ∀ n i, (∀ j, i ≤ j → j < i + n → f j = 0) → ff f n i = 0
  | 0, _, _ => rfl
  | n + 1, i, h => by
    have h0 := h i (Nat.le_refl _) (by omega)
    have ih := ff_zero n (i + 1) (fun j h1 h2 => h j (by omega) (by omega))
    unfold ff
    simp [h0, ih]
/-- What is known of a part of a file without fault. -/
structure PtO (x : Pt) : Prop where
  s0 : x.s ≠ 0
  s64 : x.s < 18446744073709551616
  f : x.f ≤ 7
  n : x.n ≤ x.s
  fit : fits x
theorem ptF_no {b : List Int} {h : Nat} (hB : AllB b) (hp : isPt b h) (hf : ptF b h = none) : PtO (ptAt b h) := by
  unfold ptF at hf
  by_cases h1 : 7 < vl b (h + 4) 4
  · rw [if_pos h1] at hf; cases hf
  rw [if_neg h1] at hf
  by_cases h2 : vl b (h + 40) 8 < vl b (h + 32) 8
  · rw [if_pos h2] at hf; cases hf
  rw [if_neg h2] at hf
  by_cases h3 : ¬ room b (vl b (h + 8) 8) (vl b (h + 32) 8)
  · rw [if_pos h3] at hf; cases hf
  rw [if_neg h3] at hf
  by_cases h4 : (BitVec.ofNat 64 (vl b (h + 24) 8) + (BitVec.ofNat 64 (vl b (h + 40) 8) - 1#64)).toNat < (BitVec.ofNat 64 (vl b (h + 24) 8)).toNat
  · rw [if_pos h4] at hf; cases hf
  refine ⟨fun e => hp.2 ⟨e, ?_⟩, vl_lt8 hB _ 8 (by omega), ?_, ?_, h4⟩
  · have e : vl b (h + 40) 8 = 0 := e
    omega
  · show fwN (vl b (h + 4) 4) ≤ 7
    unfold fwN
    omega
  · show vl b (h + 32) 8 ≤ vl b (h + 40) 8
    omega
theorem prL_ok {b : List Int} (hB : AllB b) (P : Nat) : ∀ i, (prL b P i).2 = none → (∀ x ∈ (prL b P i).1, PtO x) ∧ (prL b P i).1.Pairwise (fun x y => mtB y x = false)
  | 0, _ => by rw [prL_zero]; simp
  | i + 1, h => by
    obtain ⟨h0, h1⟩ := prL_back h
    have ih := prL_ok hB P i h0
    obtain ⟨l, f, hf⟩ : ∃ l f, prL b P i = (l, f) := ⟨_, _, rfl⟩
    rw [hf] at h0 h1 ih
    obtain rfl : f = none := h0
    by_cases hp : isPt b (P + 56 * i)
    · obtain ⟨h2, h3⟩ := h1 hp
      rw [prL_add hf hp h2 h3]
      refine ⟨fun x hx => ?_, ?_⟩
      · rcases List.mem_append.1 hx with q | q
        · exact ih.1 x q
        · rw [List.mem_singleton.1 q]; exact ptF_no hB hp h2
      · rw [List.pairwise_append]
        refine ⟨ih.2, List.pairwise_singleton _ _, fun x hx y hy => ?_⟩
        rw [List.mem_singleton.1 hy]
        cases e : mtB (ptAt b (P + 56 * i)) x with
        | false => rfl
        | true => exact absurd (List.any_eq_true.2 ⟨x, hx, e⟩) h3
    · rw [prL_pass hf hp]; exact ih
theorem mtB_symm (x y : Pt) : mtB x y = mtB y x := by
  unfold mtB meetB
  exact Bool.and_comm _ _
theorem srt_pair (l : List Pt) : (srt l).Pairwise (fun x y => adr x ≤ adr y) := by
  have q := List.pairwise_mergeSort (le := fun x y : Pt => decide (adr x ≤ adr y)) (fun a b c h1 h2 => by simp only [decide_eq_true_eq] at *; omega) (fun a b => by simp only [Bool.or_eq_true, decide_eq_true_eq]; omega) l
  exact q.imp (fun h => by simpa using h)
theorem paL_ok {b : List Int} (hB : AllB b) (h : paF b = none) : (∀ x ∈ paL b, PtO x) ∧ (paL b).Pairwise (fun x y => adr x ≤ adr y ∧ mtB y x = false) := by
  obtain ⟨_, h2⟩ := paF_no h
  obtain ⟨h3, h4⟩ := prL_ok hB _ _ h2
  have hp : (paL b).Perm (prL b (vl b 32 8) (vl b 56 2)).1 := List.mergeSort_perm _ _
  refine ⟨fun x hx => h3 x (hp.mem_iff.1 hx), (srt_pair _).and ?_⟩
  exact (hp.pairwise_iff (R := fun x y => mtB y x = false) (fun {x y} e => by rw [mtB_symm]; exact e)).2 h4
theorem getD_mem {l : List Pt} {j : Nat} (h : j < l.length) : l.getD j ptz ∈ l := by
  rw [List.getD_eq_getElem?_getD, List.getElem?_eq_getElem h]
  exact List.getElem_mem h
theorem pf_all {b : List Int} (hB : AllB b) (h : paF b = none) {B : Nat} {w : World} {L : List Sg} (hd : Dts b B w L (paL b)) : ∀ j, j < L.length → pf L j = 0 := by
  obtain ⟨h1, h2⟩ := paL_ok hB h
  have hl := hd.len
  intro j hj
  have q := hd.at j hj
  have o := h1 _ (getD_mem (by omega : j < (paL b).length))
  generalize hy : (paL b).getD j ptz = y at *
  have hls : lastB (sg L j) = BitVec.ofNat 64 y.a + (BitVec.ofNat 64 y.s - 1#64) := by unfold lastB; rw [q.1, q.2.1]
  have hss : (BitVec.ofNat 64 y.s).toNat = y.s := by rw [BitVec.toNat_ofNat, Nat.mod_eq_of_lt o.s64]
  have hfit := o.fit
  unfold fits at hfit
  unfold pf
  rw [if_neg, if_neg]
  · rintro ⟨h0, hle⟩
    have p := hd.at (j - 1) (by omega)
    have ox := h1 _ (getD_mem (by omega : j - 1 < (paL b).length))
    have hpw := (List.pairwise_iff_getElem.1 h2) (j - 1) j (by omega) (by omega) (by omega)
    have e1 : (paL b)[j - 1]'(by omega) = (paL b).getD (j - 1) ptz := by rw [List.getD_eq_getElem?_getD, List.getElem?_eq_getElem (by omega)]; rfl
    have e2 : (paL b)[j]'(by omega) = y := by rw [← hy, List.getD_eq_getElem?_getD, List.getElem?_eq_getElem (by omega)]; rfl
    rw [e1, e2] at hpw
    generalize (paL b).getD (j - 1) ptz = x at *
    have hlx : lastB (sg L (j - 1)) = BitVec.ofNat 64 x.a + (BitVec.ofNat 64 x.s - 1#64) := by unfold lastB; rw [p.1, p.2.1]
    rw [hlx, q.1] at hle
    have ha := hpw.1
    have hm := hpw.2
    unfold adr at ha
    unfold mtB meetB n64 at hm
    rw [Bool.and_eq_false_iff] at hm
    rcases hm with hm | hm
    · have := of_decide_eq_false hm; omega
    · have := of_decide_eq_false hm; omega
  · rw [hls, q.1, q.2.1, hss, q.2.2.1, own_n q.2.2.2]
    have h3 := o.n
    have h4 := o.f
    have h5 := o.s0
    rintro (e | e | e | e | e)
    · have := congrArg BitVec.toNat e
      rw [hss] at this
      exact h5 this
    · omega
    · omega
    · omega
    · exact hfit e
/-- The names of a file. -/
theorem enE_nm {b T : List Int} {y : Nat} {x : Sy} (h : enE b T y = some (some x)) : nm x.s = true := by
  unfold enE at h
  split at h
  · cases h
  split at h
  · cases h
  rename_i h1 h2
  cases h
  show nm (strOfNums (txT T (vl b y 4))) = true
  cases e : nm (strOfNums (txT T (vl b y 4))) with
  | true => rfl
  | false => exact absurd (.inr (.inr (.inr e))) h2
theorem nmL_nm (b T : List Int) (A : Nat) : ∀ i, ∀ x ∈ (nmL b T A i).1, nm x.s = true
  | 0 => by intro x hx; simp [nmL] at hx
  | i + 1 => by
    have ih := nmL_nm b T A i
    obtain ⟨l, f, hf⟩ : ∃ l f, nmL b T A i = (l, f) := ⟨_, _, rfl⟩
    rw [hf] at ih
    cases f with
    | some F => rw [nmL_stop hf _ (Nat.le_succ _)]; exact ih
    | none =>
      cases he : enE b T (A + 24 * (i + 1)) with
      | none => rw [nmL_bad hf he]; exact ih
      | some o =>
        cases o with
        | none => rw [nmL_pass hf he]; exact ih
        | some x =>
          cases ha : l.any (eqS x) with
          | true => rw [nmL_had hf he ha]; exact ih
          | false =>
            by_cases hm : l.length = 400
            · rw [nmL_many hf he ha hm]; exact ih
            · rw [nmL_add hf he ha hm]
              intro y hy
              rcases List.mem_append.1 hy with q | q
              · exact ih y q
              · rw [List.mem_singleton.1 q]; exact enE_nm he
theorem nsR_ok (b : List Int) : (nsR b).1.Nodup ∧ ∀ x ∈ (nsR b).1, nm x.s = true := by
  have nil : ([] : List Sy).Nodup ∧ ∀ x ∈ ([] : List Sy), nm x.s = true := ⟨List.nodup_nil, fun x hx => by cases hx⟩
  unfold nsR nsQ
  split
  · exact nil
  split
  · exact nil
  split
  · exact nil
  cases hf : frT b (vl b 40 8) (vl b 60 2) 0 with
  | none => rw [Option.elim_none]; exact nil
  | some i =>
    rw [Option.elim_some]
    unfold tnR
    split
    · exact nil
    · exact ⟨nmL_apart _ _ _ _, nmL_nm _ _ _ _⟩
theorem nf_all {l : List Sy} (hn : l.Nodup) (hm : ∀ x ∈ l, nm x.s = true) : ∀ j, j < (nSrt l).length → nf (nSrt l) j = 0 := by
  have hp : (nSrt l).Perm l := List.mergeSort_perm _ _
  have hs := nSrt_pair l
  have hd : (nSrt l).Nodup := hp.nodup_iff.2 hn
  intro j hj
  have hnm : nm (sy (nSrt l) j).s = true := hm _ (hp.mem_iff.1 (by rw [sy_getZ _ j hj]; exact List.getElem_mem hj))
  unfold nf
  rw [if_neg (by rw [hnm]; simp), if_neg]
  rintro ⟨h0, h1⟩
  have h2 := (List.pairwise_iff_getElem.1 hs) (j - 1) j (by omega) hj (by omega)
  have h3 := (List.pairwise_iff_getElem.1 hd) (j - 1) j (by omega) hj (by omega)
  rw [← sy_getZ _ (j - 1) (by omega), ← sy_getZ _ j hj] at h2 h3
  exact h3 (ahS_anti h1 h2)
theorem hdF_even {b : List Int} (h : hdF b = none) : vl b 24 8 % 2 = 0 := by
  unfold hdF at h
  by_cases h1 : b.length < 64
  · rw [if_pos h1] at h; cases h
  rw [if_neg h1] at h
  by_cases h2 : vl b 16 2 ≠ 2
  · rw [if_pos h2] at h; cases h
  rw [if_neg h2] at h
  by_cases h3 : vl b 18 2 ≠ 243
  · rw [if_pos h3] at h; cases h
  rw [if_neg h3] at h
  by_cases h4 : vl b 20 4 ≠ 1
  · rw [if_pos h4] at h; cases h
  rw [if_neg h4] at h
  by_cases h5 : vl b 24 8 % 2 = 1
  · rw [if_pos h5] at h; cases h
  omega
/-- WHAT READ GIVES CAN BE WRITTEN, OR IS TOO LONG. -/
theorem ck_rd {b : List Int} (hB : AllB b) (h : rdF b = none) {B : Nat} {w : World} {L : List Sg} (hd : Dts b B w L (paL b)) (E : BitVec 64) (hE : E.toNat = vl b 24 8) : (ck E L (nSrt (nsR b).1) = 0 ∨ ck E L (nSrt (nsR b).1) = 3) ∧ L.length ≤ 16 ∧ (nSrt (nsR b).1).length ≤ 400 := by
  obtain ⟨h0, _, h1, h2, _⟩ := rdF_no h
  have e1 := hdF_even h1
  have hL : L.length ≤ 16 := by
    have q1 := hd.len
    have q2 : (paL b).length = (prL b (vl b 32 8) (vl b 56 2)).1.length := (List.mergeSort_perm _ _).length_eq
    have q3 := prL_len b (vl b 32 8) (vl b 56 2)
    have q4 := (phF_no (paF_no h2).1).2.1
    omega
  have hN : (nSrt (nsR b).1).length ≤ 400 := by
    rw [nSrt_len]
    exact nsR_len b
  refine ⟨?_, hL, hN⟩
  obtain ⟨n1, n2⟩ := nsR_ok b
  unfold ck
  rw [if_neg (by omega), if_neg (by omega), if_neg (by rw [ff_zero _ _ (fun j _ hj => pf_all hB h2 hd j (by omega))]; exact fun q => q rfl), if_neg (by rw [ff_zero _ _ (fun j _ hj => nf_all n1 n2 j (by omega))]; exact fun q => q rfl)]
  by_cases hz : 200000 < szz L (nSrt (nsR b).1)
  · rw [if_pos hz]; exact .inr rfl
  · rw [if_neg hz]; exact .inl rfl
end Go.Proofs.YtheeogbmljjbdaaGreatDoor
