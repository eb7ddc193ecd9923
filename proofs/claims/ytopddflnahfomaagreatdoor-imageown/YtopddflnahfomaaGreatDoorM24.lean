/-
  Ixb Ixf Ixg.
-/
import Derived.Test.YtopddflnahfomaaGreatDoorM23
import Derived.BigQuiet
import Derived.Test.YtopddflnahfomaaGreatDoorM22
namespace Go.Proofs.YtopddflnahfomaaGreatDoor
set_option linter.unusedVariables false
set_option maxRecDepth 100000
open Go.ChangeShapes Go.WideShapes Go.ChangeAt Go.RowKit Go.Deep
theorem sg_get {L : List Sg} {j : Nat} (h : j < L.length) : sg L j = L[j] := by unfold sg; simp [h]
theorem sg_mem {L : List Sg} {j : Nat} (h : j < L.length) : sg L j ∈ L := by rw [sg_get h]; exact List.getElem_mem h
/-- A part that may come next behind the first k. -/
abbrev fr (L S : List Sg) (k j : Nat) : Prop := k = 0 ∨ (sg S (k - 1)).a.toNat < (sg L j).a.toNat
theorem rise_lt {S : List Sg} (hs : S.Pairwise (fun x y => x.a.toNat < y.a.toNat)) {i j : Nat} (hj : j < S.length) (h : i < j) : (sg S i).a.toNat < (sg S j).a.toNat := by
  rw [sg_get hj, sg_get (show i < S.length by omega)]
  exact List.pairwise_iff_getElem.1 hs i j _ _ h
theorem rise_next {L S : List Sg} (hp : S.Perm L) (hs : S.Pairwise (fun x y => x.a.toNat < y.a.toNat)) {k t : Nat} (hk : k < S.length) (ht : t < L.length) (hf : fr L S k t) (hm : ∀ j, j < L.length → fr L S k j → (sg L t).a.toNat ≤ (sg L j).a.toNat) : sg L t = sg S k := by
  obtain ⟨m, hm1, hm2⟩ := List.getElem_of_mem (hp.mem_iff.2 (sg_mem ht))
  obtain ⟨j, hj1, hj2⟩ := List.getElem_of_mem (hp.mem_iff.1 (sg_mem hk))
  rw [← sg_get hm1] at hm2
  rw [← sg_get hj1] at hj2
  have h1 : k ≤ m := by
    rcases Nat.lt_or_ge m k with q | q
    · rcases hf with h | h
      · omega
      · rw [← hm2] at h
        rcases Nat.lt_or_ge m (k - 1) with r | r
        · have := rise_lt hs (show k - 1 < S.length by omega) r; omega
        · have e : m = k - 1 := by omega
          rw [e] at h; omega
    · exact q
  have h2 : fr L S k j := by
    rcases Nat.eq_zero_or_pos k with q | q
    · exact .inl q
    · right; rw [hj2]; exact rise_lt hs hk (by omega)
  have h3 := hm j hj1 h2
  rw [hj2, ← hm2] at h3
  rcases Nat.lt_or_ge k m with q | q
  · have := rise_lt hs hm1 q; omega
  · rw [← hm2]; rw [show m = k by omega]
theorem rise_has {L S : List Sg} (hp : S.Perm L) (hs : S.Pairwise (fun x y => x.a.toNat < y.a.toNat)) {k : Nat} (hk : k < S.length) : ∃ j, j < L.length ∧ fr L S k j := by
  obtain ⟨j, hj1, hj2⟩ := List.getElem_of_mem (hp.mem_iff.1 (sg_mem hk))
  rw [← sg_get hj1] at hj2
  refine ⟨j, hj1, ?_⟩
  rcases Nat.eq_zero_or_pos k with q | q
  · exact .inl q
  · right; rw [hj2]; exact rise_lt hs hk (by omega)
/-- The best of the first i. -/
def Bst (L S : List Sg) (k i : Nat) (t : Int) : Prop :=
  (t = -1 ∧ ∀ j, j < i → ¬ fr L S k j) ∨ (∃ t' : Nat, t = (t' : Int) ∧ t' < i ∧ fr L S k t' ∧ ∀ j, j < i → fr L S k j → (sg L t').a.toNat ≤ (sg L j).a.toNat)
theorem bst_zero (L S : List Sg) (k : Nat) : Bst L S k 0 (-1) := .inl ⟨rfl, fun j h => by omega⟩
theorem bst_skip {L S : List Sg} {k i : Nat} {t : Int} (h : Bst L S k i t) (hn : ¬ fr L S k i) : Bst L S k (i + 1) t := by
  rcases h with ⟨h1, h2⟩ | ⟨t', h1, h2, h3, h4⟩
  · refine .inl ⟨h1, fun j hj => ?_⟩
    by_cases e : j = i
    · rw [e]; exact hn
    · exact h2 j (by omega)
  · refine .inr ⟨t', h1, by omega, h3, fun j hj hf => ?_⟩
    by_cases e : j = i
    · rw [e] at hf; exact absurd hf hn
    · exact h4 j (by omega) hf
theorem bst_first {L S : List Sg} {k i : Nat} (h : Bst L S k i (-1)) (hf : fr L S k i) : Bst L S k (i + 1) (i : Int) := by
  rcases h with ⟨h1, h2⟩ | ⟨t', h1, _⟩
  · refine .inr ⟨i, rfl, by omega, hf, fun j hj hj2 => ?_⟩
    by_cases e : j = i
    · rw [e]; exact Nat.le_refl _
    · exact absurd hj2 (h2 j (by omega))
  · omega
theorem bst_less {L S : List Sg} {k i t : Nat} (h : Bst L S k i (t : Int)) (hf : fr L S k i) (hl : (sg L i).a.toNat < (sg L t).a.toNat) : Bst L S k (i + 1) (i : Int) := by
  rcases h with ⟨h1, h2⟩ | ⟨t', h1, h2, h3, h4⟩
  · omega
  · obtain rfl : t' = t := by omega
    refine .inr ⟨i, rfl, by omega, hf, fun j hj hj2 => ?_⟩
    by_cases e : j = i
    · rw [e]; exact Nat.le_refl _
    · have := h4 j (by omega) hj2; omega
theorem bst_keep {L S : List Sg} {k i t : Nat} (h : Bst L S k i (t : Int)) (hl : ¬ (sg L i).a.toNat < (sg L t).a.toNat) : Bst L S k (i + 1) (t : Int) := by
  rcases h with ⟨h1, h2⟩ | ⟨t', h1, h2, h3, h4⟩
  · omega
  · obtain rfl : t' = t := by omega
    refine .inr ⟨t', rfl, by omega, h3, fun j hj hj2 => ?_⟩
    by_cases e : j = i
    · rw [e]; omega
    · exact h4 j (by omega) hj2
theorem bst_end {L S : List Sg} {k : Nat} {t : Int} (hp : S.Perm L) (hs : S.Pairwise (fun x y => x.a.toNat < y.a.toNat)) (hk : k < S.length) (h : Bst L S k L.length t) : ∃ t' : Nat, t = (t' : Int) ∧ t' < L.length ∧ sg L t' = sg S k := by
  rcases h with ⟨h1, h2⟩ | ⟨t', h1, h2, h3, h4⟩
  · obtain ⟨j, hj, hf⟩ := rise_has hp hs hk
    exact absurd hf (h2 j hj)
  · exact ⟨t', h1, h2, rise_next hp hs hk h2 h3 h4⟩
theorem bst_at {L S : List Sg} {k i : Nat} {t : Int} (h : Bst L S k i t) : t = -1 ∨ ∃ t' : Nat, t = (t' : Int) ∧ t' < i := by
  rcases h with ⟨h1, _⟩ | ⟨t', h1, h2, _⟩
  · exact .inl h1
  · exact .inr ⟨t', h1, h2⟩
/-- Parts by rising address. -/
def sgS (L : List Sg) : List Sg := L.mergeSort (fun x y => decide (x.a.toNat ≤ y.a.toNat))
theorem sgS_perm (L : List Sg) : (sgS L).Perm L := List.mergeSort_perm _ _
theorem sgS_rise {L : List Sg} (hd : L.Pairwise (fun x y => x.a.toNat ≠ y.a.toNat)) : (sgS L).Pairwise (fun x y => x.a.toNat < y.a.toNat) := by
  have h1 : (sgS L).Pairwise (fun x y => x.a.toNat ≤ y.a.toNat) := by
    have q := List.pairwise_mergeSort (le := fun x y : Sg => decide (x.a.toNat ≤ y.a.toNat)) (fun a b c h1 h2 => by simp at *; omega) (fun a b => by simp; omega) L
    exact q.imp (fun h => by simpa using h)
  have h2 : (sgS L).Pairwise (fun x y => x.a.toNat ≠ y.a.toNat) := (List.Perm.pairwise_iff (fun {x y} h => Ne.symm h) (sgS_perm L)).2 hd
  exact (h1.and h2).imp (fun {x y} h => by have := h.1; have := h.2; omega)
theorem take_snoc {S : List Sg} {k : Nat} (hk : k < S.length) : S.take k ++ [sg S k] = S.take (k + 1) := by
  rw [sg_get hk, List.take_succ_eq_append_getElem hk]
theorem sg_take {S : List Sg} {k j : Nat} (h : j < k) : sg (S.take k) j = sg S j := by
  unfold sg; rw [List.getD_eq_getElem?_getD, List.getD_eq_getElem?_getD, List.getElem?_take_of_lt h]
end Go.Proofs.YtopddflnahfomaaGreatDoor
namespace Go.Proofs.YtopddflnahfomaaGreatDoor
set_option linter.unusedVariables false
set_option maxRecDepth 100000
open Go.ChangeShapes Go.WideShapes Go.ChangeAt Go.RowKit Go.Deep
theorem sy_get {L : List Sy} {j : Nat} (h : j < L.length) : sy L j = L[j] := by unfold sy; simp [h]
theorem syl_set : ∀ (M : List Sy) (k : Nat) (y : Sy), syl (M.set k y) = ((syl M).set (k * 2) (.string y.s)).set (k * 2 + 1) (.int .u64 (n64 y.v))
  | [], k, y => by simp [syl]
  | m :: M, 0, y => by simp [syl, syv]
  | m :: M, k + 1, y => by
    have ih := syl_set M k y
    have e : (k + 1) * 2 = k * 2 + 1 + 1 := by omega
    have e1 : ∀ (m : Sy) (R : List Sy), syl (m :: R) = .string m.s :: .int .u64 (n64 m.v) :: syl R := fun m R => by simp [syl, syv]
    rw [List.set_cons_succ, e1, e1, e]
    simp only [List.set_cons_succ]
    rw [ih]
/-- One cell of a row of the call's own is written. -/
theorem own_set1 {w : World} {B e size g n cap : Nat} {xs : List Value} (h : w.ownsRow B e size (.slice (some ⟨g, 0, none⟩) n cap) n xs) (j : Nat) (hj : j < n * size) (u : Value) : (w.setCell ⟨g, j, none⟩ u).ownsRow B e size (.slice (some ⟨g, 0, none⟩) n cap) n (xs.set j u) := by
  refine ⟨by rw [List.length_set]; exact h.1, ?_⟩
  rcases h.2 with ⟨h', _⟩ | ⟨g', cap', cur, h', h1, h2, h3, h4, h5, h6⟩
  · cases h'
  · cases h'
    refine .inr ⟨g, cap, cur.setIfInBounds j u, rfl, h1, heap_setCell_same w g j cur e u h2, h3, h4, by rw [Array.size_setIfInBounds]; exact h5, ?_⟩
    rw [Array.toList_setIfInBounds, ← h6, List.take_set]
theorem own_setS {w : World} {B g n cap : Nat} {M : List Sy} (h : w.ownsRow B 45 2 (.slice (some ⟨g, 0, none⟩) n cap) n (syl M)) (k : Nat) (hk : k < n) (y : Sy) : ((w.setCell ⟨g, k * 2, none⟩ (.string y.s)).setCell ⟨g, k * 2 + 1, none⟩ (.int .u64 (n64 y.v))).ownsRow B 45 2 (.slice (some ⟨g, 0, none⟩) n cap) n (syl (M.set k y)) := by
  rw [syl_set]
  exact own_set1 (own_set1 h (k * 2) (by omega) _) (k * 2 + 1) (by omega) _
theorem own_cellsS {w : World} {B g n cap : Nat} {M : List Sy} (h : w.ownsRow B 45 2 (.slice (some ⟨g, 0, none⟩) n cap) n (syl M)) (hn : M.length = n) (j : Nat) (hj : j < n) : w.cell? ⟨g, j * 2, none⟩ = some (.string (sy M j).s) ∧ w.cell? ⟨g, j * 2 + 1, none⟩ = some (.int .u64 (n64 (sy M j).v)) := by
  have k : ∀ c, c < 2 → w.cell? ⟨g, j * 2 + c, none⟩ = (syv (sy M j))[c]? := fun c hc => by
    rw [h.cellAt (j * 2 + c) (by omega)]; exact syl_get M j c (by omega) hc
  exact ⟨k 0 (by omega), k 1 (by omega)⟩
theorem own_frozenS {w : World} {B e size g n cap : Nat} {xs : List Value} (h : w.ownsRow B e size (.slice (some ⟨g, 0, none⟩) n cap) n xs) (j : Nat) : w.frozen? ⟨g, j, none⟩ = false := by
  rcases h.2 with ⟨h', _⟩ | ⟨g', cap', cur, h', h1, h2, _⟩
  · cases h'
  · cases h'; exact frozen_of_row w g j _ _ h2
theorem own_lenS {w : World} {B n : Nat} {v : Value} {M : List Sy} (h : w.ownsRow B 45 2 v n (syl M)) : M.length = n := by
  have q := h.1
  rw [syl_length] at q
  omega
theorem ins_at {S : List Sy} {k : Nat} {z x : Sy} (hk : k ≤ S.length) : (S.take k ++ z :: S.drop k).set k x = S.take k ++ x :: S.drop k := by
  have e : (S.take k).length = k := by rw [List.length_take]; omega
  rw [List.set_append_right _ _ (by omega), e, Nat.sub_self]
  rfl
theorem ins_sy {S : List Sy} {k q : Nat} {z : Sy} (hk : k ≤ S.length) (hq : q < k) : sy (S.take k ++ z :: S.drop k) q = sy S q := by
  have e : (S.take k).length = k := by rw [List.length_take]; omega
  unfold sy
  rw [List.getD_eq_getElem?_getD, List.getD_eq_getElem?_getD, List.getElem?_append_left (by omega), List.getElem?_take_of_lt hq]
theorem ins_shift {S : List Sy} {k q : Nat} {z : Sy} (hk : k ≤ S.length) (hq : k = q + 1) : (S.take k ++ z :: S.drop k).set k (sy S q) = S.take q ++ sy S q :: S.drop q := by
  rw [ins_at hk]
  subst hq
  have h1 : q < S.length := by omega
  have h2 : S.drop q = S[q] :: S.drop (q + 1) := List.drop_eq_getElem_cons h1
  rw [List.take_succ_eq_append_getElem h1, sy_get h1, h2, List.append_assoc]
  rfl
theorem ins_len {S : List Sy} {k : Nat} {z : Sy} (hk : k ≤ S.length) : (S.take k ++ z :: S.drop k).length = S.length + 1 := by
  rw [List.length_append, List.length_take, List.length_cons, List.length_drop]; omega
theorem ahS_asym {x y : Sy} (h : ahS x y = true) : ahS y x = false := by
  rcases ahS_total y x with q | q
  · exact q
  · rw [h] at q; cases q
theorem sy_memS {S : List Sy} {j : Nat} (h : j < S.length) : sy S j ∈ S := by rw [sy_get h]; exact List.getElem_mem h
/-- A name put in at its place. -/
theorem ins_sorted {S : List Sy} {k : Nat} {x : Sy} (hs : S.Pairwise (fun x y => ahS y x = false)) (hk : k ≤ S.length) (hlo : k = 0 ∨ ahS x (sy S (k - 1)) = false) (hhi : ∀ j, k ≤ j → j < S.length → ahS x (sy S j) = true) : (S.take k ++ x :: S.drop k).Pairwise (fun x y => ahS y x = false) := by
  have hs2 := List.pairwise_iff_getElem.1 hs
  refine List.pairwise_append.2 ⟨hs.sublist (List.take_sublist _ _), List.pairwise_cons.2 ⟨fun y hy => ?_, hs.sublist (List.drop_sublist _ _)⟩, fun a ha y hy => ?_⟩
  · obtain ⟨j, hj, rfl⟩ := List.getElem_of_mem hy
    rw [List.length_drop] at hj
    rw [List.getElem_drop]
    have := hhi (k + j) (by omega) (by omega)
    rw [sy_get (by omega)] at this
    exact ahS_asym this
  · obtain ⟨i, hi, rfl⟩ := List.getElem_of_mem ha
    rw [List.length_take] at hi
    rw [List.getElem_take]
    have hx : ahS x S[i] = false := by
      rcases hlo with h | h
      · omega
      · rw [sy_get (by omega)] at h
        by_cases e : i = k - 1
        · subst e; exact h
        · exact ahS_trans (hs2 i (k - 1) (by omega) (by omega) (by omega)) h
    rcases List.mem_cons.1 hy with rfl | hy
    · exact hx
    · obtain ⟨j, hj, rfl⟩ := List.getElem_of_mem hy
      rw [List.length_drop] at hj
      rw [List.getElem_drop]
      exact hs2 i (k + j) (by omega) (by omega) (by omega)
theorem ins_perm {S N : List Sy} {k i : Nat} (hp : S.Perm (N.take i)) (hi : i < N.length) : (S.take k ++ sy N i :: S.drop k).Perm (N.take (i + 1)) := by
  rw [List.take_succ_eq_append_getElem hi, sy_get hi]
  refine (List.perm_middle).trans ?_
  rw [List.take_append_drop]
  exact (List.Perm.cons _ hp).trans (List.perm_append_comm (l₁ := [N[i]]) (l₂ := N.take i))
end Go.Proofs.YtopddflnahfomaaGreatDoor
namespace Go.Proofs.YtopddflnahfomaaGreatDoor
set_option linter.unusedVariables false
set_option maxRecDepth 100000
open Go.ChangeShapes Go.WideShapes Go.ChangeAt Go.RowKit Go.Deep
theorem he_none {b : List Int} (h : heF b = none) : idF b 7 0 = none ∧ hdF b = none ∧ phF b = none := by
  unfold heF at h
  cases h1 : idF b 7 0 with
  | some F => rw [h1] at h; cases h
  | none =>
    cases h2 : hdF b with
    | some F => rw [h1, h2] at h; cases h
    | none =>
      cases h3 : phF b with
      | some F => rw [h1, h2, h3] at h; cases h
      | none => exact ⟨rfl, rfl, rfl⟩
theorem rd_he {b : List Int} {F : Nat × Nat} (hl : ¬ 200000 < b.length) (h : heF b = some F) : rdF b = some F := by
  unfold heF at h
  cases h1 : idF b 7 0 with
  | some G => rw [h1] at h; rw [rdF_id hl h1]; exact h
  | none =>
    cases h2 : hdF b with
    | some G => rw [h1, h2] at h; rw [rdF_hd hl h1 h2]; exact h
    | none =>
      cases h3 : phF b with
      | some G =>
        rw [h1, h2, h3] at h
        rw [rdF_pa hl h1 h2 (by unfold paF; rw [h3, if_pos (by rfl)])]; exact h
      | none => rw [h1, h2, h3] at h; cases h
theorem pa_pr {b : List Int} (h : phF b = none) : paF b = (prL b (vl b 32 8) (vl b 56 2)).2 := by
  unfold paF; rw [h, if_neg (by simp)]
theorem Dts.back {b : List Int} {B : Nat} {w : World} {L : List Sg} {l : List Pt} (h : Dts b B w L l) : ∀ x ∈ L, ∃ p ∈ l, x.a.toNat = adr p := by
  induction h with
  | nil => intro p hp; cases hp
  | @cons x q L l h1 _ _ ih =>
    intro y hy
    rcases List.mem_cons.1 hy with rfl | hy
    · exact ⟨q, List.mem_cons_self, by rw [h1.1]; rfl⟩
    · obtain ⟨p, hp, e⟩ := ih y hy; exact ⟨p, List.mem_cons_of_mem _ hp, e⟩
theorem Dts.apart {b : List Int} {B : Nat} {w : World} {L : List Sg} {l : List Pt} (h : Dts b B w L l) (hd : l.Pairwise (fun x y => adr x ≠ adr y)) : L.Pairwise (fun x y => x.a.toNat ≠ y.a.toNat) := by
  induction h with
  | nil => exact .nil
  | @cons x q L l h1 h2 _ ih =>
    rw [List.pairwise_cons] at hd ⊢
    refine ⟨fun y hy => ?_, ih hd.2⟩
    obtain ⟨p, hp, e⟩ := h2.back y hy
    have := hd.1 p hp
    rw [e, h1.1]; exact this
/-- What Read of the reference answers. -/
def RfP (b : List Int) (w : World) (e : Ending) (w' : World) : Prop :=
  (rdF b = none ∧ ∃ u v L, e = .returned (.tuple #[.agg #[.int .u64 ((vl b 24 8 : Nat) : Int), u, v], .agg #[.int .i64 0, .int .i64 0, .int .i64 0]]) ∧ ImO b w.heap.size w' u v L ∧ Below w.heap.size w w')
  ∨ (∃ F, rdF b = some F ∧ e = .returned (.tuple #[.agg #[.int .u64 0, .slice none 0 0, .slice none 0 0], .agg #[.int .i64 0, .int .i64 F.1, .int .i64 F.2]]) ∧ Below w.heap.size w w')
end Go.Proofs.YtopddflnahfomaaGreatDoor
