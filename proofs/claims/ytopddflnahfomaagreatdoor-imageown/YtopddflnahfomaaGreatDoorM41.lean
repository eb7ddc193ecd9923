/-
  Izf.
-/
import Derived.Test.YtopddflnahfomaaGreatDoorM40
namespace Go.Proofs.YtopddflnahfomaaGreatDoor
set_option linter.unusedVariables false
set_option maxRecDepth 100000
open Go.ChangeShapes Go.WideShapes Go.ChangeAt Go.RowKit Go.Deep
/-- The bytes from p on, k of them, are the number X. -/
theorem vl_sub {b : List Int} {p k X : Nat} (h : Sub (fun i => b.getD i 0) p (ptL X k)) (hX : X < 256 ^ k) : vl b p k = X := by
  have q : ∀ j, j ≤ k → tkN (b.drop p) j = X % 256 ^ j := by
    intro j
    induction j with
    | zero => intro _; simp [tkN, Nat.mod_one]
    | succ j ih =>
      intro hj
      have e : b.getD (p + j) 0 = _ := h j (by rw [ptL_length]; omega)
      rw [ptL_get _ _ _ (by omega)] at e
      rw [tkN, ih (by omega), drop_getD, e, Int.toNat_natCast, Nat.mod_pow_succ, Nat.mul_comm (256 ^ j)]
  unfold vl
  rw [q k (Nat.le_refl _), Nat.mod_eq_of_lt hX]
theorem vl_cong {b c : List Int} {p k : Nat} (h : ∀ i, p ≤ i → i < p + k → c.getD i 0 = b.getD i 0) : vl c p k = vl b p k := by
  have q : ∀ j, j ≤ k → tkN (c.drop p) j = tkN (b.drop p) j := by
    intro j
    induction j with
    | zero => intro _; rfl
    | succ j ih => intro hj; rw [tkN, tkN, ih (by omega), drop_getD, drop_getD, h _ (by omega) (by omega)]
  exact q k (Nat.le_refl _)
/-- What stands from a place on. -/
theorem cut_sub {b l : List Int} {p : Nat} (h : Sub (fun i => b.getD i 0) p l) (hl : p + l.length ≤ b.length ∨ l = []) : (b.drop p).take l.length = l := by
  rcases hl with hl | rfl
  · apply List.ext_getElem
    · rw [List.length_take, List.length_drop]; omega
    · intro i h1 h2
      have e : b.getD (p + i) 0 = l.getD i 0 := h i h2
      rw [List.getElem_take, List.getElem_drop]
      rw [List.getD_eq_getElem?_getD, List.getD_eq_getElem?_getD, List.getElem?_eq_getElem (by omega), List.getElem?_eq_getElem h2] at e
      exact e
  · rfl
theorem sub_self (b : List Int) : Sub (fun i => b.getD i 0) 0 b := fun i _ => by rw [Nat.zero_add]
/-- The head's fields. -/
structure Hds (b : List Int) (E se m c : Nat) : Prop where
  mg : ∀ i, i < 7 → b.getD i 0 = magL.getD i 0
  f16 : vl b 16 2 = 2
  f18 : vl b 18 2 = 243
  f20 : vl b 20 4 = 1
  f24 : vl b 24 8 = E
  f32 : vl b 32 8 = 64
  f40 : vl b 40 8 = se
  f48 : vl b 48 4 = 1
  f52 : vl b 52 2 = 64
  f54 : vl b 54 2 = 56
  f56 : vl b 56 2 = m
  f58 : vl b 58 2 = 64
  f60 : vl b 60 2 = c
theorem Hds.cong {b b' : List Int} {E se m c : Nat} (h : Hds b E se m c) (k : ∀ i, i < 7 ∨ (16 ≤ i ∧ i < 62) → b'.getD i 0 = b.getD i 0) : Hds b' E se m c :=
  ⟨fun i hi => (k i (.inl hi)).trans (h.mg i hi), (vl_cong fun i h1 h2 => k i (.inr (by omega))).trans h.f16, (vl_cong fun i h1 h2 => k i (.inr (by omega))).trans h.f18, (vl_cong fun i h1 h2 => k i (.inr (by omega))).trans h.f20, (vl_cong fun i h1 h2 => k i (.inr (by omega))).trans h.f24, (vl_cong fun i h1 h2 => k i (.inr (by omega))).trans h.f32, (vl_cong fun i h1 h2 => k i (.inr (by omega))).trans h.f40, (vl_cong fun i h1 h2 => k i (.inr (by omega))).trans h.f48, (vl_cong fun i h1 h2 => k i (.inr (by omega))).trans h.f52, (vl_cong fun i h1 h2 => k i (.inr (by omega))).trans h.f54, (vl_cong fun i h1 h2 => k i (.inr (by omega))).trans h.f56, (vl_cong fun i h1 h2 => k i (.inr (by omega))).trans h.f58, (vl_cong fun i h1 h2 => k i (.inr (by omega))).trans h.f60⟩
theorem Sub.next {T : Nat → Int} {pos q X k : Nat} {l : List Int} (h : Sub T pos (ptL X k ++ l)) (e : pos + k = q) : Sub T q l := (h.right).at (by rw [ptL_length]; exact e)
theorem hds_of {b : List Int} {E se m c t : Nat} (h : Sub (fun i => b.getD i 0) 0 (headL E se m c t)) (hE : E < 256 ^ 8) (hs : se < 256 ^ 8) (hm : m < 256 ^ 2) (hc : c < 256 ^ 2) : Hds b E se m c := by
  unfold headL at h
  have h0 := h.left
  have h := h.right.at (show 0 + idL.length = 16 from rfl)
  have q16 := h.left
  have h := h.next (q := 18) rfl
  have q18 := h.left
  have h := h.next (q := 20) rfl
  have q20 := h.left
  have h := h.next (q := 24) rfl
  have q24 := h.left
  have h := h.next (q := 32) rfl
  have q32 := h.left
  have h := h.next (q := 40) rfl
  have q40 := h.left
  have h := h.next (q := 48) rfl
  have q48 := h.left
  have h := h.next (q := 52) rfl
  have q52 := h.left
  have h := h.next (q := 54) rfl
  have q54 := h.left
  have h := h.next (q := 56) rfl
  have q56 := h.left
  have h := h.next (q := 58) rfl
  have q58 := h.left
  have h := h.next (q := 60) rfl
  have q60 := h.left
  refine ⟨fun i hi => ?_, vl_sub q16 (by decide), vl_sub q18 (by decide), vl_sub q20 (by decide), vl_sub q24 hE, vl_sub q32 (by decide), vl_sub q40 hs, vl_sub q48 (by decide), vl_sub q52 (by decide), vl_sub q54 (by decide), vl_sub q56 hm, vl_sub q58 (by decide), vl_sub q60 hc⟩
  have e : b.getD (0 + i) 0 = idL.getD i 0 := h0 i (by show i < 16; omega)
  rw [Nat.zero_add] at e
  rw [e]
  have : i = 0 ∨ i = 1 ∨ i = 2 ∨ i = 3 ∨ i = 4 ∨ i = 5 ∨ i = 6 := by omega
  rcases this with rfl | rfl | rfl | rfl | rfl | rfl | rfl <;> rfl
/-- A program header's fields that count. -/
structure Ph (b : List Int) (h : Nat) (x : Sg) (p : Nat) : Prop where
  f0 : vl b h 4 = 1
  f4 : vl b (h + 4) 4 = fw x.f
  f8 : vl b (h + 8) 8 = p
  f24 : vl b (h + 24) 8 = x.a.toNat
  f32 : vl b (h + 32) 8 = x.n
  f40 : vl b (h + 40) 8 = x.s.toNat
theorem Ph.cong {b b' : List Int} {h : Nat} {x : Sg} {p : Nat} (q : Ph b h x p) (k : ∀ i, h ≤ i → i < h + 48 → ¬ (h + 16 ≤ i ∧ i < h + 24) → b'.getD i 0 = b.getD i 0) : Ph b' h x p :=
  ⟨(vl_cong fun i h1 h2 => k i (by omega) (by omega) (by omega)).trans q.f0, (vl_cong fun i h1 h2 => k i (by omega) (by omega) (by omega)).trans q.f4, (vl_cong fun i h1 h2 => k i (by omega) (by omega) (by omega)).trans q.f8, (vl_cong fun i h1 h2 => k i (by omega) (by omega) (by omega)).trans q.f24, (vl_cong fun i h1 h2 => k i (by omega) (by omega) (by omega)).trans q.f32, (vl_cong fun i h1 h2 => k i (by omega) (by omega) (by omega)).trans q.f40⟩
theorem fw_le {f : Int} (h : 0 ≤ f ∧ f ≤ 7) : fw f ≤ 7 ∧ ((fwN (fw f) : Nat) : Int) = f := by
  have : f = 0 ∨ f = 1 ∨ f = 2 ∨ f = 3 ∨ f = 4 ∨ f = 5 ∨ f = 6 ∨ f = 7 := by omega
  rcases this with rfl | rfl | rfl | rfl | rfl | rfl | rfl | rfl <;> decide
theorem ph_of {b : List Int} {h : Nat} {x : Sg} {p : Nat} (q : Sub (fun i => b.getD i 0) h (phL x p)) (hf : 0 ≤ x.f ∧ x.f ≤ 7) (hp : p < 256 ^ 8) (hn : x.n < 256 ^ 8) : Ph b h x p := by
  unfold phL at q
  have q0 := q.left
  have q := q.next (q := h + 4) rfl
  have q4 := q.left
  have q := q.next (q := h + 8) (by omega)
  have q8 := q.left
  have q := q.next (q := h + 16) (by omega)
  have q := q.next (q := h + 24) (by omega)
  have q24 := q.left
  have q := q.next (q := h + 32) (by omega)
  have q32 := q.left
  have q := q.next (q := h + 40) (by omega)
  have q40 := q.left
  exact ⟨vl_sub q0 (by decide), vl_sub q4 (Nat.lt_of_le_of_lt (fw_le hf).1 (by decide)), vl_sub q8 hp, vl_sub q24 x.a.isLt, vl_sub q32 hn, vl_sub q40 x.s.isLt⟩
theorem sub_hdZ {T : Nat → Int} {L : List Sg} {pos : Nat} : ∀ (k : Nat), Sub T pos (hdL L k) → ∀ j, j < k → Sub T (pos + 56 * j) (phL (sg L j) (plc L j))
  | 0, _, j, hj => absurd hj (Nat.not_lt_zero _)
  | k + 1, h, j, hj => by
    rw [hdL] at h
    by_cases c : j = k
    · subst c; exact h.right.at (by rw [hdL_length])
    · exact sub_hdZ k h.left j (by omega)
/-- The sections' fields that count. -/
structure Ses (b : List Int) (tb l1 tx l2 se : Nat) : Prop where
  k0 : vl b (se + 4) 4 = 0
  k1 : vl b (se + 68) 4 = 2
  a1 : vl b (se + 88) 8 = tb
  z1 : vl b (se + 96) 8 = l1
  n1 : vl b (se + 104) 4 = 2
  e1 : vl b (se + 120) 8 = 24
  k2 : vl b (se + 132) 4 = 3
  a2 : vl b (se + 152) 8 = tx
  z2 : vl b (se + 160) 8 = l2
theorem Ses.cong {b b' : List Int} {tb l1 tx l2 se : Nat} (h : Ses b tb l1 tx l2 se) (k : ∀ i, se ≤ i → b'.getD i 0 = b.getD i 0) : Ses b' tb l1 tx l2 se :=
  ⟨(vl_cong fun i h1 h2 => k i (by omega)).trans h.k0, (vl_cong fun i h1 h2 => k i (by omega)).trans h.k1, (vl_cong fun i h1 h2 => k i (by omega)).trans h.a1, (vl_cong fun i h1 h2 => k i (by omega)).trans h.z1, (vl_cong fun i h1 h2 => k i (by omega)).trans h.n1, (vl_cong fun i h1 h2 => k i (by omega)).trans h.e1, (vl_cong fun i h1 h2 => k i (by omega)).trans h.k2, (vl_cong fun i h1 h2 => k i (by omega)).trans h.a2, (vl_cong fun i h1 h2 => k i (by omega)).trans h.z2⟩
theorem ses_of {b : List Int} {tb l1 tx l2 ow se : Nat} (h0 : Sub (fun i => b.getD i 0) se (zs 64)) (h : Sub (fun i => b.getD i 0) (se + 64) (secR tb l1 tx l2 ow)) (h1 : tb < 256 ^ 8) (h2 : l1 < 256 ^ 8) (h3 : tx < 256 ^ 8) (h4 : l2 < 256 ^ 8) : Ses b tb l1 tx l2 se := by
  rw [secR_eq] at h
  have hA := h.left
  have hB := (h.right.at (show se + 64 + (secL 1 2 tb l1 2 1 8 24).length = se + 128 by rw [secL_length])).left
  unfold secL at hA hB
  have z : Sub (fun i => b.getD i 0) (se + 4) (ptL 0 4) := fun i hi => by
    have hi : i < 4 := by rw [ptL_length] at hi; exact hi
    have e := h0.zero (se + 4 + i) (by omega) (by omega)
    rw [ptL_zero, zs_get]; exact e
  have hA := hA.next (q := se + 68) (by omega)
  have a4 := hA.left
  have hA := hA.next (q := se + 72) (by omega)
  have hA := hA.next (q := se + 80) (by omega)
  have hA := hA.next (q := se + 88) (by omega)
  have a24 := hA.left
  have hA := hA.next (q := se + 96) (by omega)
  have a32 := hA.left
  have hA := hA.next (q := se + 104) (by omega)
  have a40 := hA.left
  have hA := hA.next (q := se + 108) (by omega)
  have hA := hA.next (q := se + 112) (by omega)
  have hA := hA.next (q := se + 120) (by omega)
  have hB := hB.next (q := se + 132) (by omega)
  have b4 := hB.left
  have hB := hB.next (q := se + 136) (by omega)
  have hB := hB.next (q := se + 144) (by omega)
  have hB := hB.next (q := se + 152) (by omega)
  have b24 := hB.left
  have hB := hB.next (q := se + 160) (by omega)
  have b32 := hB.left
  exact ⟨vl_sub z (by decide), vl_sub a4 (by decide), vl_sub a24 h1, vl_sub a32 h2, vl_sub a40 (by decide), vl_sub hA (by decide), vl_sub b4 (by decide), vl_sub b24 h3, vl_sub b32 h4⟩
/-- An entry's fields that count. -/
structure En (b : List Int) (y o : Nat) (x : Sy) : Prop where
  f0 : vl b y 4 = o
  f4 : b.getD (y + 4) 0 = 16
  f6 : vl b (y + 6) 2 = 65521
  f8 : vl b (y + 8) 8 = x.v.toNat
theorem En.cong {b b' : List Int} {y o : Nat} {x : Sy} (h : En b y o x) (k : ∀ i, y ≤ i → b'.getD i 0 = b.getD i 0) : En b' y o x :=
  ⟨(vl_cong fun i h1 h2 => k i (by omega)).trans h.f0, (k _ (by omega)).trans h.f4, (vl_cong fun i h1 h2 => k i (by omega)).trans h.f6, (vl_cong fun i h1 h2 => k i (by omega)).trans h.f8⟩
theorem en_of {b : List Int} {y o : Nat} {x : Sy} (q : Sub (fun i => b.getD i 0) y (entL o x)) (ho : o < 256 ^ 4) : En b y o x := by
  unfold entL at q
  have q0 := q.left
  have q := q.next (q := y + 4) rfl
  have q4 := q.left
  have q := q.next (q := y + 6) (by omega)
  have q6 := q.left
  have q := q.next (q := y + 8) (by omega)
  have q8 := q.left
  exact ⟨vl_sub q0 ho, q4 0 (by rw [ptL_length]; omega), vl_sub q6 (by decide), vl_sub q8 x.v.isLt⟩
theorem sub_tbZ {T : Nat → Int} {N : List Sy} {pos : Nat} : ∀ (k : Nat), Sub T pos (tbL N k) → ∀ j, j < k → Sub T (pos + 24 * j) (entL (1 + nk N j) (sy N j))
  | 0, _, j, hj => absurd hj (Nat.not_lt_zero _)
  | k + 1, h, j, hj => by
    rw [tbL] at h
    by_cases c : j = k
    · subst c; exact h.right.at (by rw [tbL_length])
    · exact sub_tbZ k h.left j (by omega)
/-- All that is looked at in the file of an image. -/
structure Nd (b : List Int) (E : Nat) (L : List Sg) (N : List Sy) (D : Nat → List Int) : Prop where
  len : b.length = szz L N
  hd : Hds b E (if N.length = 0 then 0 else szz L N - 256) L.length (if N.length = 0 then 0 else 4)
  ph : ∀ j, j < L.length → Ph b (64 + 56 * j) (sg L j) (plc L j)
  da : ∀ j, j < L.length → (b.drop (plc L j)).take (sg L j).n = D j
  se : 0 < N.length → Ses b (tabAt L) (24 + 24 * N.length) (tabAt L + 24 + 24 * N.length) (1 + nk N N.length) (szz L N - 256)
  en : ∀ j, j < N.length → En b (tabAt L + 24 * (j + 1)) (1 + nk N j) (sy N j)
  tx : 0 < N.length → (b.drop (tabAt L + 24 + 24 * N.length)).take (1 + nk N N.length) = txL N N.length
theorem szz_lo (L : List Sg) (N : List Sy) : sk L L.length ≤ szz L N := by
  unfold szz
  split
  · exact Nat.le_refl _
  · have ht := al_lo (sk L L.length)
    have et : tabAt L = al (sk L L.length) := rfl
    have ha := al_lo (tabAt L + 24 + 24 * N.length + 1 + nk N N.length + 27)
    omega
theorem nd_fl {E : BitVec 64} {L : List Sg} {N : List Sy} {D : Nat → List Int} (hD : ∀ j, j < L.length → (D j).length = (sg L j).n) (hL : L.length ≤ 16) (hN : N.length ≤ 400) (hz : szz L N ≤ 200000) (hf : ∀ j, j < L.length → 0 ≤ (sg L j).f ∧ (sg L j).f ≤ 7) : Nd (fl E.toNat L N D) E.toNat L N D := by
  have hs := szz_lo L N
  have hp : ∀ j, j < L.length → plc L j + (sg L j).n ≤ sk L L.length := fun j hj => plc_le L L.length j hj
  have hpd : ∀ b : List Int, b.length = szz L N → Sub (fun i => b.getD i 0) (64 + 56 * L.length) (daL L D L.length) → ∀ j, j < L.length → (b.drop (plc L j)).take (sg L j).n = D j := fun b hb h j hj => by
    have q := cut_sub (sub_da hD L.length (Nat.le_refl _) h j hj) (.inl (by rw [hD j hj, hb]; have := hp j hj; omega))
    rw [hD j hj] at q
    exact q
  by_cases hn0 : N.length = 0
  · have e : fl E.toNat L N D = flZ E.toNat L D := by unfold fl; rw [if_pos hn0]
    rw [e]
    have hl : (flZ E.toNat L D).length = szz L N := by rw [flZ_length hD]; unfold szz; rw [if_pos hn0]
    have hS := sub_self (flZ E.toNat L D)
    generalize hb : flZ E.toNat L D = b at hl hS ⊢
    have hS0 := hS
    rw [← hb] at hS0
    generalize hT : (fun i => (flZ E.toNat L D).getD i 0) = T at hS0
    have hT2 : (fun i => b.getD i 0) = T := by rw [← hT, hb]
    rw [hT2] at hS
    rw [← hb] at hS
    unfold flZ at hS
    have h1 := hS.left
    have h2 := hS.right.at (show 0 + (headL E.toNat 0 L.length 0 0).length = 64 by rw [headL_length])
    have h3 := h2.right.at (show 64 + (hdL L L.length).length = 64 + 56 * L.length by rw [hdL_length])
    rw [← hT2] at h1 h2 h3
    refine ⟨hl, ?_, fun j hj => ?_, hpd b hl h3, fun h => absurd hn0 (by omega), fun j hj => absurd hn0 (by omega), fun h => absurd hn0 (by omega)⟩
    · rw [if_pos hn0, if_pos hn0]
      exact hds_of h1 E.isLt (by decide) (by omega) (by decide)
    · have := hp j hj
      exact ph_of (sub_hdZ _ h2.left j hj) (hf j hj) (by omega) (by omega)
  · have e : fl E.toNat L N D = flA E.toNat L N D := by unfold fl; rw [if_neg hn0]
    rw [e]
    have hl : (flA E.toNat L N D).length = szz L N := flA_length hD (by omega)
    have ly := lay_a hD (by omega) (sub_self (flA E.toNat L N D)) (tabAt L) (tabAt L + 24 + 24 * N.length) (tabAt L + 24 + 24 * N.length + 1 + nk N N.length) (al (tabAt L + 24 + 24 * N.length + 1 + nk N N.length + 27)) rfl rfl rfl rfl
    have hz2 : szz L N = al (tabAt L + 24 + 24 * N.length + 1 + nk N N.length + 27) + 256 := by unfold szz; rw [if_neg hn0]
    have ha := al_lo (tabAt L + 24 + 24 * N.length + 1 + nk N N.length + 27)
    have hse : szz L N - 256 = al (tabAt L + 24 + 24 * N.length + 1 + nk N N.length + 27) := by omega
    generalize flA E.toNat L N D = b at *
    refine ⟨hl, ?_, fun j hj => ?_, hpd b hl ly.da, fun _ => ?_, fun j hj => ?_, fun _ => ?_⟩
    · rw [if_neg hn0, if_neg hn0, hse]
      have h1 := ly.head
      rw [head_eq] at h1
      exact hds_of h1 E.isLt (by omega) (by omega) (by decide)
    · have := hp j hj
      exact ph_of (sub_hdZ _ ly.hd j hj) (hf j hj) (by omega) (by omega)
    · rw [hse]
      exact ses_of ly.z4 ly.sec (by omega) (by omega) (by omega) (by omega)
    · have hm := nk_mono N (show j ≤ N.length by omega)
      exact en_of ((sub_tbZ _ ly.tab j hj).at (by omega)) (by omega)
    · have q := cut_sub ly.txt (.inl (by rw [txL_length, hl]; omega))
      rw [txL_length] at q
      exact q
theorem getD_set_ne (b : List Int) (k i : Nat) (v : Int) (h : i ≠ k) : (b.set k v).getD i 0 = b.getD i 0 := by
  rw [List.getD_eq_getElem?_getD, List.getD_eq_getElem?_getD, List.getElem?_set_ne (by omega)]
/-- A byte that does not count is written. -/
theorem Nd.set {b : List Int} {E : Nat} {L : List Sg} {N : List Sy} {D : Nat → List Int} (h : Nd b E L N D) (k : Nat) (v : Int) (hk : k < 64 + 56 * L.length) (hf : (7 ≤ k ∧ k ≤ 15) ∨ k = 62 ∨ k = 63 ∨ (64 ≤ k ∧ ((16 ≤ (k - 64) % 56 ∧ (k - 64) % 56 < 24) ∨ 48 ≤ (k - 64) % 56))) : Nd (b.set k v) E L N D := by
  have hlo := sk_lo L L.length
  have ht := al_lo (sk L L.length)
  have et : tabAt L = al (sk L L.length) := rfl
  have hb := szz_lo L N
  refine ⟨by rw [List.length_set]; exact h.len, h.hd.cong fun i hi => getD_set_ne _ _ _ _ (by omega), fun j hj => (h.ph j hj).cong fun i h1 h2 h3 => getD_set_ne _ _ _ _ (by intro e; subst e; omega), fun j hj => ?_, fun hn => (h.se hn).cong fun i hi => getD_set_ne _ _ _ _ ?_, fun j hj => (h.en j hj).cong fun i hi => getD_set_ne _ _ _ _ (by omega), fun hn => ?_⟩
  · by_cases hn : 0 < (sg L j).n
    · rw [List.drop_set_of_lt, h.da j hj]
      have e : plc L j = al (sk L j) := by unfold plc; rw [if_pos hn]
      have h1 := sk_lo L j
      have h2 := al_lo (sk L j)
      omega
    · have e : (sg L j).n = 0 := by omega
      have q := h.da j hj
      rw [e, List.take_zero] at q ⊢
      exact q
  · have hz2 : szz L N = al (tabAt L + 24 + 24 * N.length + 1 + nk N N.length + 27) + 256 := by unfold szz; rw [if_neg (by omega)]
    have ha := al_lo (tabAt L + 24 + 24 * N.length + 1 + nk N N.length + 27)
    omega
  · rw [List.drop_set_of_lt (by omega)]; exact h.tx hn
end Go.Proofs.YtopddflnahfomaaGreatDoor
