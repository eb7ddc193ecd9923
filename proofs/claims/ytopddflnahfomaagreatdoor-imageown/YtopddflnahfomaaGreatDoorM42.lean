/-
  Izg Ize.
-/
import Derived.Test.YtopddflnahfomaaGreatDoorM41
import Derived.Test.YtopddflnahfomaaGreatDoorM40
import Derived.Deep.RegionWith
namespace Go.Proofs.YtopddflnahfomaaGreatDoor
set_option linter.unusedVariables false
set_option maxRecDepth 100000
open Go.ChangeShapes Go.WideShapes Go.ChangeAt Go.RowKit Go.Deep
/-- What Check has looked at. -/
theorem ck_all {E : BitVec 64} {L : List Sg} {N : List Sy} (h : ck E L N = 0) : E.toNat % 2 = 0 ∧ L.length ≤ 16 ∧ N.length ≤ 400 ∧ (∀ j, j < L.length → pf L j = 0) ∧ (∀ j, j < N.length → nf N j = 0) ∧ szz L N ≤ 200000 := by
  unfold ck at h
  by_cases h1 : E.toNat % 2 = 1
  · rw [if_pos h1] at h; omega
  rw [if_neg h1] at h
  by_cases h2 : 16 < L.length ∨ 400 < N.length
  · rw [if_pos h2] at h; omega
  rw [if_neg h2] at h
  by_cases h3 : ff (pf L) L.length 0 ≠ 0
  · rw [if_pos h3] at h; exact absurd h h3
  rw [if_neg h3] at h
  by_cases h4 : ff (nf N) N.length 0 ≠ 0
  · rw [if_pos h4] at h; exact absurd h h4
  rw [if_neg h4] at h
  by_cases h5 : 200000 < szz L N
  · rw [if_pos h5] at h; omega
  exact ⟨by omega, by omega, by omega, fun j hj => ff_all L.length 0 (by omega) j (Nat.zero_le _) (by omega), fun j hj => ff_all N.length 0 (by omega) j (Nat.zero_le _) (by omega), by omega⟩
structure PfO (L : List Sg) (j : Nat) : Prop where
  s0 : (sg L j).s ≠ 0#64
  f : 0 ≤ (sg L j).f ∧ (sg L j).f ≤ 7
  n : (sg L j).n ≤ (sg L j).s.toNat
  l : (sg L j).a.toNat ≤ (lastB (sg L j)).toNat
  up : 0 < j → (lastB (sg L (j - 1))).toNat < (sg L j).a.toNat
theorem pf_ok {L : List Sg} {j : Nat} (h : pf L j = 0) : PfO L j := by
  unfold pf at h
  by_cases h1 : (sg L j).s = 0#64 ∨ (sg L j).f < 0 ∨ 7 < (sg L j).f ∨ (sg L j).s.toNat < (sg L j).n ∨ (lastB (sg L j)).toNat < (sg L j).a.toNat
  · rw [if_pos h1] at h; omega
  rw [if_neg h1] at h
  by_cases h2 : 0 < j ∧ (sg L j).a.toNat ≤ (lastB (sg L (j - 1))).toNat
  · rw [if_pos h2] at h; omega
  simp only [not_or] at h1
  exact ⟨h1.1, by omega, by omega, by omega, fun hj => by omega⟩
theorem pf_rise {L : List Sg} (h : ∀ j, j < L.length → PfO L j) : ∀ i j, j < i → i < L.length → (lastB (sg L j)).toNat < (sg L i).a.toNat := by
  intro i
  induction i with
  | zero => intro j hj; omega
  | succ i ih =>
    intro j hj hi
    have h1 := (h (i + 1) hi).up (by omega)
    rw [Nat.add_sub_cancel] at h1
    by_cases e : j = i
    · subst e; exact h1
    · have h2 := ih j (by omega) (by omega)
      have h3 := (h i (by omega)).l
      omega
/-- A part as its file tells it. -/
def ptS (L : List Sg) (j : Nat) : Pt := ⟨(sg L j).a.toNat, (sg L j).s.toNat, (sg L j).f.toNat, plc L j, (sg L j).n⟩
def ptsL (L : List Sg) (i : Nat) : List Pt := (List.range i).map (ptS L)
theorem ptsL_succ (L : List Sg) (i : Nat) : ptsL L (i + 1) = ptsL L i ++ [ptS L i] := by simp [ptsL, List.range_succ]
theorem ofN (x : BitVec 64) : BitVec.ofNat 64 x.toNat = x := by apply BitVec.eq_of_toNat_eq; rw [BitVec.toNat_ofNat, Nat.mod_eq_of_lt x.isLt]
theorem pt_at {b : List Int} {L : List Sg} {j : Nat} (h : Ph b (64 + 56 * j) (sg L j) (plc L j)) (hf : 0 ≤ (sg L j).f ∧ (sg L j).f ≤ 7) : ptAt b (64 + 56 * j) = ptS L j := by
  unfold ptAt ptS
  rw [h.f24, h.f40, h.f4, h.f8, h.f32, show fwN (fw (sg L j).f) = (sg L j).f.toNat by have := (fw_le hf).2; omega]
theorem pt_no {b : List Int} {L : List Sg} {j : Nat} (h : Ph b (64 + 56 * j) (sg L j) (plc L j)) (hp : PfO L j) (hr : plc L j + (sg L j).n ≤ b.length) : ptF b (64 + 56 * j) = none := by
  have h1 := (fw_le hp.f).1
  have h2 := hp.n
  have h3 := hp.l
  unfold ptF
  rw [h.f4, h.f40, h.f32, h.f8, h.f24, ofN, ofN, if_neg (by omega), if_neg (by omega), if_neg, if_neg]
  · have e : lastB (sg L j) = (sg L j).a + ((sg L j).s - 1#64) := rfl
    rw [← e]; omega
  · intro q; exact q ⟨by omega, by omega⟩
theorem pt_is {b : List Int} {L : List Sg} {j : Nat} (h : Ph b (64 + 56 * j) (sg L j) (plc L j)) (hp : PfO L j) : isPt b (64 + 56 * j) := by
  refine ⟨h.f0, fun q => hp.s0 ?_⟩
  rw [h.f40] at q
  exact BitVec.eq_of_toNat_eq q.1
theorem pt_apart {L : List Sg} (h : ∀ j, j < L.length → PfO L j) {i j : Nat} (hj : j < i) (hi : i < L.length) : mtB (ptS L i) (ptS L j) = false := by
  have h1 := pf_rise h i j hj hi
  unfold mtB meetB
  have e : lastB (sg L j) = (sg L j).a + ((sg L j).s - 1#64) := rfl
  simp only [ptS, ofN]
  rw [← e, decide_eq_false (by unfold n64; omega)]
  rfl
/-- The parts. -/
theorem pr_all {b : List Int} {L : List Sg} (hph : ∀ j, j < L.length → Ph b (64 + 56 * j) (sg L j) (plc L j)) (hp : ∀ j, j < L.length → PfO L j) (hr : ∀ j, j < L.length → plc L j + (sg L j).n ≤ b.length) : ∀ i, i ≤ L.length → prL b 64 i = (ptsL L i, none)
  | 0, _ => rfl
  | i + 1, hi => by
    have ih := pr_all hph hp hr i (by omega)
    rw [prL_add ih (pt_is (hph i (by omega)) (hp i (by omega))) (pt_no (hph i (by omega)) (hp i (by omega)) (hr i (by omega))) ?_, pt_at (hph i (by omega)) (hp i (by omega)).f, ptsL_succ]
    rw [pt_at (hph i (by omega)) (hp i (by omega)).f]
    intro q
    obtain ⟨x, hx, hm⟩ := List.any_eq_true.1 q
    obtain ⟨j, hj, rfl⟩ := List.mem_map.1 hx
    rw [pt_apart hp (List.mem_range.1 hj) (by omega)] at hm
    cases hm
theorem adr_S (L : List Sg) (j : Nat) : adr (ptS L j) = (sg L j).a.toNat := by unfold adr; simp only [ptS, ofN]
theorem pts_rise {L : List Sg} (hp : ∀ j, j < L.length → PfO L j) : (ptsL L L.length).Pairwise (fun x y => adr x < adr y) := by
  unfold ptsL
  rw [List.pairwise_map]
  refine (List.pairwise_lt_range).imp_of_mem ?_
  intro i j hi hj hij
  rw [adr_S, adr_S]
  have h1 := pf_rise hp j i hij (List.mem_range.1 hj)
  have h2 := (hp i (List.mem_range.1 hi)).l
  omega
theorem pts_srt {L : List Sg} (hp : ∀ j, j < L.length → PfO L j) : srt (ptsL L L.length) = ptsL L L.length :=
  (srt_unique ((pts_rise hp).imp fun h => Nat.ne_of_lt h) (List.Perm.refl _) ((pts_rise hp).imp fun h => Nat.le_of_lt h)).symm
/-- No byte of a name is 0. -/
theorem dec_nz (s : ByteArray) (pos i : Nat) (h1 : pos < i) (h2 : i < pos + (Utf8.decode s pos).2) : s.get! i ≠ 0 := by
  intro e
  obtain ⟨k, rfl⟩ : ∃ k, i = pos + k := ⟨i - pos, by omega⟩
  have ez : (s.get! (pos + k)).toNat = 0 := by rw [e]; rfl
  unfold Utf8.decode at h2
  dsimp only at h2
  split at h2
  · dsimp only at h2; omega
  split at h2
  · rename_i c
    simp only [Bool.and_eq_true, decide_eq_true_eq, beq_iff_eq] at c
    split at h2
    · dsimp only at h2
      obtain rfl : k = 1 := by omega
      omega
    · dsimp only at h2; omega
  split at h2
  · rename_i c
    simp only [Bool.and_eq_true, decide_eq_true_eq, beq_iff_eq] at c
    split at h2
    · dsimp only at h2
      have : k = 1 ∨ k = 2 := by omega
      rcases this with rfl | rfl <;> omega
    · dsimp only at h2; omega
  split at h2
  · rename_i c
    simp only [Bool.and_eq_true, decide_eq_true_eq, beq_iff_eq] at c
    split at h2
    · dsimp only at h2
      have : k = 1 ∨ k = 2 ∨ k = 3 := by omega
      rcases this with rfl | rfl | rfl <;> omega
    · dsimp only at h2; omega
  · dsimp only at h2; omega
theorem dec_zero (s : ByteArray) (pos : Nat) (h : s.get! pos = 0) : Utf8.decode s pos = (0, 1) := by
  have e : (s.get! (pos + 0)).toNat = 0 := by rw [Nat.add_zero, h]; rfl
  unfold Utf8.decode
  dsimp only
  rw [if_pos (by omega), e]
theorem let_zero : Lib.isLetterU ((0 : Nat) : Int) = false := by decide
theorem okr_nz (s : ByteArray) (pos : Nat) (h : okr s pos = true) : s.get! pos ≠ 0 := by
  intro e
  unfold okr at h
  rw [dec_zero s pos e] at h
  dsimp only at h
  rw [let_zero, show rk false ((0 : Nat) : Int) = false from by decide] at h
  cases h
theorem ok_nz (s : ByteArray) : ∀ f pos, s.size ≤ pos + f → okFrom s f pos = true → ∀ i, pos ≤ i → i < s.size → s.get! i ≠ 0
  | 0, pos, hf, _, i, h1, h2 => by omega
  | f + 1, pos, hf, h, i, h1, h2 => by
    unfold okFrom at h
    rw [if_pos (by omega), Bool.and_eq_true] at h
    have hw := Lib.decode_width_pos s pos (by omega)
    by_cases c : i = pos
    · subst c; exact okr_nz s i h.1
    · by_cases c2 : i < pos + (Utf8.decode s pos).2
      · exact dec_nz s pos i (by omega) c2
      · exact ok_nz s f _ (by omega) h.2 i (by omega) h2
theorem nm_nz {s : ByteArray} (h : nm s = true) : ∀ x ∈ s.data.toList, x ≠ 0 := by
  unfold nm at h
  simp only [Bool.and_eq_true] at h
  intro x hx
  obtain ⟨i, hi, rfl⟩ := List.getElem_of_mem hx
  have hi' : i < s.size := by simpa using hi
  have q := ok_nz s s.size 0 (by omega) h.2.1 i (Nat.zero_le _) hi'
  intro e
  apply q
  rw [← e]
  show s.data[i]! = _
  simp only [Array.getElem_toList]
  exact getElem!_pos s.data i hi'
theorem ix_zero (r : List UInt8) : ∀ l : List UInt8, (∀ x ∈ l, x ≠ 0) → Lib.indexByte (l ++ 0 :: r) 0 = l.length
  | [], _ => by simp [Lib.indexByte]
  | x :: l, h => by
    have ih := ix_zero r l (fun y hy => h y (List.mem_cons_of_mem _ hy))
    have hx := h x (List.mem_cons_self ..)
    rw [List.cons_append, Lib.indexByte, ih, if_neg (by simpa using hx), if_neg (by rw [beq_iff_eq]; omega), List.length_cons]
    omega
theorem bytes_sb (s : ByteArray) : Lib.bytesOf (sb s) = s.data.toList := by
  unfold Lib.bytesOf sb
  rw [List.map_map]
  conv => rhs; rw [← List.map_id s.data.toList]
  apply List.map_congr_left
  intro x _
  simp
theorem fz_name {s : ByteArray} (h : nm s = true) (r : List Int) : fz (sb s ++ 0 :: r) = s.size := by
  unfold fz
  have e : Lib.bytesOf (sb s ++ 0 :: r) = s.data.toList ++ 0 :: Lib.bytesOf r := by
    rw [← bytes_sb s]; unfold Lib.bytesOf; simp
  rw [e, ix_zero _ _ (nm_nz h)]
  simp
theorem str_sb (s : ByteArray) : strOfNums (sb s) = s := by
  have e := bytes_sb s
  unfold Lib.bytesOf at e
  unfold strOfNums
  rw [e]
theorem tx_drop (N : List Sy) (i : Nat) : ∀ k, i < k → ∃ r, (txL N k).drop (1 + nk N i) = sb (sy N i).s ++ 0 :: r
  | 0, h => by omega
  | k + 1, h => by
    rw [txL]
    by_cases c : i = k
    · subst c
      exact ⟨[], by rw [List.drop_append_of_le_length (by rw [txL_length]; exact Nat.le_refl _), List.drop_eq_nil_of_le (by rw [txL_length]; exact Nat.le_refl _)]; rfl⟩
    · obtain ⟨r, hr⟩ := tx_drop N i k (by omega)
      have := nk_mono N (show i ≤ k by omega)
      exact ⟨r ++ (sb (sy N k).s ++ [0]), by rw [List.drop_append_of_le_length (by rw [txL_length]; omega), hr, List.append_assoc, List.cons_append]⟩
theorem nf_ok {N : List Sy} {j : Nat} (h : nf N j = 0) : nm (sy N j).s = true ∧ (0 < j → ahS (sy N (j - 1)) (sy N j) = true) := by
  unfold nf at h
  by_cases h1 : nm (sy N j).s = false
  · rw [if_pos h1] at h; omega
  rw [if_neg h1] at h
  by_cases h2 : 0 < j ∧ ahead (sy N (j - 1)).s (sy N (j - 1)).v (sy N j).s (sy N j).v = false
  · rw [if_pos h2] at h; omega
  refine ⟨by simpa using h1, fun hj => ?_⟩
  unfold ahS
  cases e : ahead (sy N (j - 1)).s (sy N (j - 1)).v (sy N j).s (sy N j).v with
  | true => rfl
  | false => exact absurd ⟨hj, e⟩ h2
theorem ahS_lt {x y z : Sy} (h1 : ahS x y = true) (h2 : ahS y z = true) : ahS x z = true := by
  rw [ahS_iff] at *
  rcases h1 with h1 | ⟨h1, g1⟩ <;> rcases h2 with h2 | ⟨h2, g2⟩
  · left; omega
  · left; omega
  · left; omega
  · exact .inr ⟨by omega, List.lt_trans g1 g2⟩
theorem ahS_not {x y : Sy} (h : ahS x y = true) : ahS y x = false := by
  rw [ahS_iff] at h
  rw [ahS_no]
  rcases h with h | ⟨h, g⟩
  · exact .inl h
  · exact .inr ⟨h.symm, fun q => List.lt_irrefl _ (List.lt_trans g q)⟩
theorem nf_rise {N : List Sy} (h : ∀ j, j < N.length → nf N j = 0) : ∀ i j, j < i → i < N.length → ahS (sy N j) (sy N i) = true := by
  intro i
  induction i with
  | zero => intro j hj; omega
  | succ i ih =>
    intro j hj hi
    have h1 := (nf_ok (h (i + 1) hi)).2 (by omega)
    rw [Nat.add_sub_cancel] at h1
    by_cases e : j = i
    · subst e; exact h1
    · exact ahS_lt (ih j (by omega) (by omega)) h1
theorem sy_getZ (N : List Sy) (j : Nat) (h : j < N.length) : sy N j = N[j] := by
  unfold sy; rw [List.getD_eq_getElem?_getD, List.getElem?_eq_getElem h]; rfl
theorem nf_srt {N : List Sy} (h : ∀ j, j < N.length → nf N j = 0) : nSrt N = N := by
  refine (nSrt_unique (List.Perm.refl N) ?_).symm
  rw [List.pairwise_iff_getElem]
  intro i j hi hj hij
  have q := nf_rise h j i hij hj
  rw [sy_getZ N i hi, sy_getZ N j hj] at q
  exact ahS_not q
/-- An entry. -/
theorem en_all {b : List Int} {N : List Sy} {y i : Nat} (h : En b y (1 + nk N i) (sy N i)) (hi : i < N.length) (hn : nm (sy N i).s = true) : enE b (txL N N.length) y = some (some (sy N i)) := by
  obtain ⟨r, hr⟩ := tx_drop N i N.length hi
  have hl : ¬ (txL N N.length).length ≤ 1 + nk N i := by
    rw [txL_length]
    have h1 := nk_mono N (show i + 1 ≤ N.length by omega)
    have e : nk N (i + 1) = nk N i + ((sy N i).s.size + 1) := rfl
    omega
  have ef := fz_name hn r
  have et : txT (txL N N.length) (1 + nk N i) = sb (sy N i).s := by
    unfold txT
    rw [hr, ef, Int.toNat_natCast, ← sb_length, List.take_left']
    rfl
  unfold enE
  rw [h.f0, h.f4, h.f6, h.f8, et, str_sb, hn, if_neg, if_neg, ofN]
  · rintro (q | q | q | q)
    · exact absurd q (by decide)
    · exact absurd q (by decide)
    · exact absurd q (by decide)
    · exact absurd q (by decide)
  · rintro (q | q)
    · exact hl q
    · rw [hr, ef] at q; omega
theorem nm_all {b : List Int} {N : List Sy} {A : Nat} (hN : N.length ≤ 400) (he : ∀ j, j < N.length → En b (A + 24 * (j + 1)) (1 + nk N j) (sy N j)) (hf : ∀ j, j < N.length → nf N j = 0) : ∀ i, i ≤ N.length → nmL b (txL N N.length) A i = (N.take i, none)
  | 0, _ => by simp [nmL]
  | i + 1, hi => by
    have ih := nm_all hN he hf i (by omega)
    rw [nmL_add ih (en_all (he i (by omega)) (by omega) (nf_ok (hf i (by omega))).1) ?_ (by rw [List.length_take]; omega)]
    · rw [List.take_add_one, List.getElem?_eq_getElem (by omega), sy_getZ N i (by omega)]
      rfl
    · rw [List.any_eq_false]
      intro x hx q
      obtain ⟨j, hj, rfl⟩ := List.getElem_of_mem hx
      rw [List.length_take] at hj
      rw [List.getElem_take] at q
      have e := eqS_iff.1 q
      have h1 := nf_rise hf i j (by omega) (by omega)
      rw [sy_getZ N j (by omega), ← e] at h1
      have h2 := ahS_not h1
      rw [h1] at h2
      cases h2
theorem id_none {b : List Int} (hm : ∀ i, i < 7 → b.getD i 0 = magL.getD i 0) (hl : 64 ≤ b.length) : ∀ r i, i + r ≤ 7 → idF b r i = none
  | 0, i, _ => rfl
  | r + 1, i, h => by
    unfold idF
    rw [if_neg (by omega), if_neg (by rw [hm i (by omega)]; exact fun q => q rfl)]
    exact id_none hm hl r (i + 1) (by omega)
theorem hd_none {b : List Int} {E se m c : Nat} (h : Hds b E se m c) (hl : 64 ≤ b.length) (hE : E % 2 = 0) : hdF b = none := by
  unfold hdF
  rw [h.f16, h.f18, h.f20, h.f24, h.f48, h.f52, if_neg (by omega), if_neg (by decide), if_neg (by decide), if_neg (by decide), if_neg (by omega), if_neg (by decide), if_neg (by decide)]
theorem ph_none {b : List Int} {E se m c : Nat} (h : Hds b E se m c) (hl : 64 + 56 * m ≤ b.length) (hm : m ≤ 16) : phF b = none := by
  unfold phF
  rw [h.f56, h.f54, h.f32, if_neg (fun q => q.2 rfl), if_neg (by omega), if_neg]
  intro q; exact q ⟨by omega, by omega⟩
/-- The names. -/
theorem Nd.names {b : List Int} {E : Nat} {L : List Sg} {N : List Sy} {D : Nat → List Int} (h : Nd b E L N D) (hN : N.length ≤ 400) (hf : ∀ j, j < N.length → nf N j = 0) : nsR b = (N, none) := by
  have hhd := h.hd
  by_cases hn0 : N.length = 0
  · rw [if_pos hn0, if_pos hn0] at hhd
    have e : N = [] := List.eq_nil_of_length_eq_zero hn0
    unfold nsR nsQ
    rw [hhd.f60, if_pos (.inl rfl), e]
  · rw [if_neg hn0, if_neg hn0] at hhd
    have hz2 : szz L N = al (tabAt L + 24 + 24 * N.length + 1 + nk N N.length + 27) + 256 := by unfold szz; rw [if_neg hn0]
    have ha := al_lo (tabAt L + 24 + 24 * N.length + 1 + nk N N.length + 27)
    have hse := h.se (by omega)
    have htx := h.tx (by omega)
    have hlen := h.len
    have hen := h.en
    obtain ⟨P, hP⟩ : ∃ P, P = szz L N - 256 := ⟨_, rfl⟩
    rw [← hP] at hhd hse
    have hPl : P + 256 = b.length := by omega
    have hPt : tabAt L + 24 + 24 * N.length + 1 + nk N N.length + 27 ≤ P := by omega
    have a0 : vl b (P + 64 * 0 + 4) 4 = 0 := by rw [show P + 64 * 0 + 4 = P + 4 by omega]; exact hse.k0
    have a1 : vl b (P + 64 * (0 + 1) + 4) 4 = 2 := by rw [show P + 64 * (0 + 1) + 4 = P + 68 by omega]; exact hse.k1
    have a2 : vl b (P + 64 * 1 + 24) 8 = tabAt L := by rw [show P + 64 * 1 + 24 = P + 88 by omega]; exact hse.a1
    have a3 : vl b (P + 64 * 1 + 32) 8 = 24 + 24 * N.length := by rw [show P + 64 * 1 + 32 = P + 96 by omega]; exact hse.z1
    have a4 : vl b (P + 64 * 1 + 40) 4 = 2 := by rw [show P + 64 * 1 + 40 = P + 104 by omega]; exact hse.n1
    have a5 : vl b (P + 64 * 1 + 56) 8 = 24 := by rw [show P + 64 * 1 + 56 = P + 120 by omega]; exact hse.e1
    have a6 : vl b (P + 64 * 2 + 4) 4 = 3 := by rw [show P + 64 * 2 + 4 = P + 132 by omega]; exact hse.k2
    have a7 : vl b (P + 64 * 2 + 24) 8 = tabAt L + 24 + 24 * N.length := by rw [show P + 64 * 2 + 24 = P + 152 by omega]; exact hse.a2
    have a8 : vl b (P + 64 * 2 + 32) 8 = 1 + nk N N.length := by rw [show P + 64 * 2 + 32 = P + 160 by omega]; exact hse.z2
    have hfr : frT b P 4 0 = some 1 := by
      unfold frT
      rw [a0, if_neg (by decide)]
      unfold frT
      rw [a1, if_pos rfl]
    have htf : txF b P 4 (P + 64 * 1) = none := by
      unfold txF
      rw [a4, a6, a7, a8, if_neg (by decide), if_neg (by decide), if_neg]
      intro q; exact q ⟨by omega, by omega⟩
    have htb : tbF b P 4 (P + 64 * 1) = none := by
      unfold tbF
      rw [a5, a3, a2, htf, if_neg (by decide), if_neg (by omega), if_neg]
      intro q; exact q ⟨by omega, by omega⟩
    have hTx : txB b P (P + 64 * 1) = txL N N.length := by
      unfold txB
      rw [a4, a7, a8]; exact htx
    have htn : tnR b P 4 (P + 64 * 1) = (N, none) := by
      unfold tnR
      rw [htb, hTx, a2, a3, if_neg (by simp), show (24 + 24 * N.length) / 24 - 1 = N.length by omega, nm_all hN hen hf N.length (Nat.le_refl _), List.take_length]
    unfold nsR nsQ
    rw [hhd.f60, hhd.f40, hhd.f58, if_neg (by omega), if_neg (by decide), if_neg (by intro q; exact q ⟨by omega, by omega⟩), hfr, Option.elim_some, htn]
/-- WHAT READ SAYS OF A FILE THAT WRITE MADE. -/
theorem nd_rd {b : List Int} {E : BitVec 64} {L : List Sg} {N : List Sy} {D : Nat → List Int} (h : Nd b E.toNat L N D) (hc : ck E L N = 0) : rdF b = none ∧ vl b 24 8 = E.toNat ∧ paL b = ptsL L L.length ∧ nSrt (nsR b).1 = N := by
  obtain ⟨hE, hL, hN, hp, hf, hz⟩ := ck_all hc
  have hs := szz_lo L N
  have hlo := sk_lo L L.length
  have hlen := h.len
  have hpo : ∀ j, j < L.length → PfO L j := fun j hj => pf_ok (hp j hj)
  have hpr : prL b 64 L.length = (ptsL L L.length, none) := pr_all h.ph hpo (fun j hj => by have := plc_le L L.length j hj; omega) L.length (Nat.le_refl _)
  have hph := ph_none h.hd (by omega) hL
  have hns := h.names hN hf
  refine ⟨?_, h.hd.f24, ?_, ?_⟩
  · rw [rdF_ns (by omega) (id_none h.hd.mg (by omega) 7 0 (by omega)) (hd_none h.hd (by omega) hE) ?_, hns]
    unfold paF
    rw [hph, h.hd.f32, h.hd.f56, hpr]
    rfl
  · unfold paL
    rw [h.hd.f32, h.hd.f56, hpr]
    exact pts_srt hpo
  · rw [hns]; exact nf_srt hf
end Go.Proofs.YtopddflnahfomaaGreatDoor
namespace Go.Proofs.YtopddflnahfomaaGreatDoor
set_option linter.unusedVariables false
set_option maxRecDepth 100000
open Go.ChangeShapes Go.WideShapes Go.ChangeAt Go.RowKit Go.Deep
set_option maxHeartbeats 8000000 in
theorem first_c (w : World) (hT : Tabs w) (hE : EtW w) :
    Calls Tryz.prog 4 #[] w fun e w' => e = .returned (.bool true) ∧ Below w.heap.size w w' := by
  have HTB : Hid (∀ w', Below w.heap.size w w' → Tabs w') := fun w' hb => hT.below hb rfl
  have HET : Hid (∀ w', Below w.heap.size w w' → EtW w') := fun w' hb => hE.below hb rfl
  have cSa : Hid (∀ wx, Calls Tryz.prog 5 #[] wx fun e w' => ∃ xs1 xs2 xs3 xn1 xn2 xn3 m c, e = .returned (.agg #[.int .u64 (n64 2147483648#64), .slice xs1 xs2 xs3, .slice xn1 xn2 xn3]) ∧ Img w' (.slice xs1 xs2 xs3) (.slice xn1 xn2 xn3) (smL m c) smN ∧ Dta w' (smL m c) smD ∧ Below wx.heap.size wx w') := fun wx => (sample_c wx).mono fun e w' ⟨vs, vn, m, c, he, hi, hd, hb⟩ => by
    obtain ⟨a1, a2, rfl, _⟩ := hi.segs
    obtain ⟨b1, b2, rfl, _⟩ := hi.syms
    exact ⟨_, _, _, _, _, _, m, c, he, hi, hd, hb⟩
  have cWr : Hid (∀ wx vs vn m c, Below w.heap.size w wx → Img wx vs vn (smL m c) smN → Dta wx (smL m c) smD → Calls Tryz.prog 6 #[.agg #[.int .u64 (n64 2147483648#64), vs, vn]] wx fun e w' => ∃ a cap, e = .returned (.tuple #[.slice a 472 cap, .int .i64 0]) ∧ Byt w' (.slice a 472 cap) smB ∧ Below wx.heap.size wx w') := fun wx vs vn m c hx hi hd => sm_write wx vs vn m c hi hd (HTB.out _ hx)
  have cRd : Hid (∀ wx vb, Below w.heap.size w wx → Byt wx vb smB → Calls Tryz.prog 9 #[vb] wx fun e w' => ∃ um un uc vm vn vc L, e = .returned (.tuple #[.agg #[.int .u64 (n64 2147483648#64), .slice um un uc, .slice vm vn vc], .nilIface]) ∧ ImO smB wx.heap.size w' (.slice um un uc) (.slice vm vn vc) L ∧ Below wx.heap.size wx w') := fun wx vb hx hv => (sm_read wx vb hv (HTB.out _ hx) (HET.out _ hx)).mono fun e w' ⟨u, v, L, he, hi, hb⟩ => by
    obtain ⟨um, un, uc, rfl⟩ := own_slice hi.segs
    obtain ⟨vm, vn, vc, rfl⟩ := own_slice hi.syms
    exact ⟨_, _, _, _, _, _, L, he, hi, hb⟩
  have cRn : Hid (∀ wx, Below w.heap.size w wx → Calls Tryz.prog 9 #[.slice none 0 0] wx fun e w' => ∃ g, e = .returned (.tuple #[.agg #[.int .u64 0, .slice none 0 0, .slice none 0 0], .iface 65 (.pointer (some ⟨g, 0, none⟩))]) ∧ Below wx.heap.size wx w') := fun wx hx => nil_read wx (HTB.out _ hx) (HET.out _ hx)
  have cAl : Hid (∀ wx B u v vs vn L m c, ImO smB B wx u v L → Img wx vs vn (smL m c) smN → Dta wx (smL m c) smD → Calls Tryz.prog 10 #[.agg #[.int .u64 (n64 2147483648#64), u, v], .agg #[.int .u64 (n64 2147483648#64), vs, vn]] wx fun e w' => e = .returned (.bool true) ∧ Below wx.heap.size wx w') := fun wx B u v vs vn L m c h hi hd => sm_alike h m c hi hd
  have hnum : Hid (∀ W, Calls Tryz.prog 8 #[.int .i64 0] W fun e w' => e = .returned (.int .i64 0) ∧ w' = W) := fun W => num_c _ W
  generalize n64 2147483648#64 = EN at cSa cWr cRd cAl
  clear hT hE
  go_enter Tryz.func4, Tryz.ntmps4
  go_upto_region 2 with (first | (go_at_call 5; refine (cSa.out _).mono ?_; rintro e w1 ⟨xs1, xs2, xs3, xn1, xn2, xn3, m, c, rfl, q1, q2, q3⟩; have HI1 := Hid.mkI q1; have HD1 := Hid.mkI q2; have H1 := Hid.mkI q3; clear q1 q2 q3) | (go_at_call 6; refine (cWr.out _ _ _ _ _ H1.out HI1.out HD1.out).mono ?_; rintro e w2 ⟨a, cap, rfl, q1, q2⟩; have HY2 := Hid.mkI q1; have H2 : Hid (Below w.heap.size w w2) := H1.out.trans (q2.mono H1.out.size); clear q1 q2))
  clear cWr HI1 HD1
  --@M0
  go_upto_region 4 with (go_at_call 8; refine (hnum.out _).mono ?_; rintro e wz ⟨rfl, hwz⟩; rw [hwz]; clear hwz)
  --@M1
  go_upto_region 5 with (go_at_call 9; refine (cRd.out _ _ H2.out HY2.out).mono ?_; rintro e w3 ⟨um, un, uc, vm, vn, vc, L, rfl, q1, q2⟩; have HI3 := Hid.mkI q1; have B3 := Hid.mkI q2; have H3 : Hid (Below w.heap.size w w3) := H2.out.trans (q2.mono H2.out.size); clear q1 q2)
  --@M2
  refine on_w (motive := fun W => Code.wp _ _ _ _ W) (Q := fun W => W.heap[w3.heap.size]? = some (.cells #[.int .u64 EN, .slice um un uc, .slice vm vn vc] 26 (0, 0)) ∧ Below w3.heap.size w3 W) ⟨heap_alloc_new w3 _, below_al _⟩ ?_
  generalize hgA : w3.heap.size = gA
  rintro W4 ⟨s1, s2⟩
  have RA := Hid.mkI s1
  have HI4 : Hid (ImO smB w2.heap.size W4 (.slice um un uc) (.slice vm vn vc) L) := HI3.out.below (by rw [hgA]; exact s2)
  have H4 : Hid (Below w.heap.size w W4) := H3.out.trans (s2.mono (by rw [← hgA]; exact H3.out.size))
  clear s1 s2 hgA HI3
  go_upto_region 6 with (go_at_call 9; refine (cRn.out _ H4.out).mono ?_; rintro e w5 ⟨gf, rfl, q2⟩; have B5 := Hid.mkI q2; clear q2)
  --@M3
  refine on_w (motive := fun W => Code.wp _ _ _ _ W) (Q := fun W => Below w5.heap.size w5 W) (below_al _) ?_
  intro W6 s1
  have B46 : Hid (Below W4.heap.size W4 W6) := B5.out.trans (s1.mono B5.out.size)
  have RA6 : Hid (∀ W, Below W6.heap.size W6 W → W.heap[gA]? = some (.cells #[.int .u64 EN, .slice um un uc, .slice vm vn vc] 26 (0, 0))) := fun W hb => (((B46.out.trans (hb.mono B46.out.size))).block gA (heap_lt RA.out)).trans RA.out
  have HI6 : Hid (∀ W, Below W6.heap.size W6 W → ImO smB w2.heap.size W (.slice um un uc) (.slice vm vn vc) L) := fun W hb => HI4.out.below (B46.out.trans (hb.mono B46.out.size))
  have H6 : Hid (∀ W, Below W6.heap.size W6 W → Below w.heap.size w W) := fun W hb => H4.out.trans ((B46.out.trans (hb.mono B46.out.size)).mono H4.out.size)
  have hnil : ∀ w : World, (binOp .eql 36 .nilIface .nilIface).run Tryz.prog w = .ok (.bool true) w := fun w => by kernel_rfl
  have heg : ∀ (w : World), (eqGuard .eql 36 (.tmp 29) (.const .nilIface) .nilIface .nilIface).run Tryz.prog w = .ok () w := fun w => by kernel_rfl
  have hnf : ∀ w : World, (binOp .neq 36 (.iface 65 (.pointer (some ⟨gf, 0, none⟩))) .nilIface).run Tryz.prog w = .ok (.bool true) w := fun w => by kernel_rfl
  have hnfg : ∀ (w : World), (eqGuard .neq 36 (.tmp 32) (.const .nilIface) (.iface 65 (.pointer (some ⟨gf, 0, none⟩))) .nilIface).run Tryz.prog w = .ok () w := fun w => by kernel_rfl
  have BD : Hid (Below W6.heap.size W6 W6.drew) := Below.drew (Below.refl _ _)
  have r0 := RA6.out _ BD.out
  have a0 := cell_of_row _ gA 0 _ _ _ r0
  have a1 := cell_of_row _ gA 1 _ _ _ r0
  have a2 := cell_of_row _ gA 2 _ _ _ r0
  clear r0 s1 RA HI4 B5 H4 HTB HET cRd cRn hnum B46 H3 H2 HY2 B3
  --@M4
  go_region_with (first | (go_at_call 5; refine (cSa.out _).mono ?_; rintro e w7 ⟨xs1, xs2, xs3, xn1, xn2, xn3, m, c, rfl, q1, q2, q3⟩; have HI7 := Hid.mkI q1; have HD7 := Hid.mkI q2; have B7 : Hid (Below W6.heap.size W6 w7) := BD.out.trans (q3.mono BD.out.size); have r0 := RA6.out _ B7.out; have b0 := cell_of_row _ gA 0 _ _ _ r0; have b1 := cell_of_row _ gA 1 _ _ _ r0; have b2 := cell_of_row _ gA 2 _ _ _ r0; clear q1 q2 q3 r0) | (go_at_call 10; refine (cAl.out _ _ _ _ _ _ _ _ _ (HI6.out _ B7.out) HI7.out HD7.out).mono ?_; rintro e w8 ⟨rfl, q1⟩; have B8 : Hid (Below W6.heap.size W6 w8) := B7.out.trans (q1.mono B7.out.size); clear q1))
  all_goals
    go_wp2_with fail
    go_ret
    exact ⟨rfl, H6.out _ B8.out⟩
end Go.Proofs.YtopddflnahfomaaGreatDoor
