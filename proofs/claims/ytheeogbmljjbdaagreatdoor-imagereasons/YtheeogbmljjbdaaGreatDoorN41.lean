/-
  Izd Izf Izg.
-/
import Derived.Test.YtheeogbmljjbdaaGreatDoorN40
namespace Go.Proofs.YtheeogbmljjbdaaGreatDoor
set_option linter.unusedVariables false
set_option maxRecDepth 100000
open Go.ChangeShapes Go.WideShapes Go.ChangeAt Go.RowKit Go.Deep
theorem sm_slice {w : World} {v : Value} (h : Byt w v smB) : ∃ a cap, v = .slice a 472 cap := by
  obtain ⟨a, cap, e, _⟩ := h
  exact ⟨a, cap, by rw [e, sm_len]⟩
/-- What Write makes of the sample. -/
theorem sm_write (w : World) (vs vn : Value) (m : Option Addr) (c : Nat) (hi : Img w vs vn (smL m c) smN) (hd : Dta w (smL m c) smD) (hT : Tabs w) :
    Calls Tryz.prog 12 #[.agg #[.int .u64 (n64 2147483648#64), vs, vn]] w fun e w' => ∃ a cap, e = .returned (.tuple #[.slice a 472 cap, .int .i64 0]) ∧ Byt w' (.slice a 472 cap) smB ∧ Below w.heap.size w w' := by
  refine (pwrite 2147483648#64 vs vn (smL m c) smN smD (by show 1 ≤ _; omega) (by show 1 ≤ _; omega) w hi hd hT 0 (sm_ck m c).symm).mono ?_
  rintro e w' ⟨v, rfl, hv, _, hb⟩
  rw [sm_ans] at hv
  obtain ⟨a, cap, rfl⟩ := sm_slice hv
  exact ⟨a, cap, rfl, hv, hb⟩
/-- What Read makes of its file. -/
theorem sm_read (w : World) (vb : Value) (hv : Byt w vb smB) (hT : Tabs w) (hE : EtW w) :
    Calls Tryz.prog 14 #[vb] w fun e w' => ∃ u v L, e = .returned (.tuple #[.agg #[.int .u64 (n64 2147483648#64), u, v], .nilIface]) ∧ ImO smB w.heap.size w' u v L ∧ Below w.heap.size w w' := by
  refine (read_c sm_all (by rw [sm_len]; omega) vb w hv hT hE).mono ?_
  rintro e w' (⟨_, u, v, L, rfl, h, hb⟩ | ⟨F, g, hF, _⟩)
  · exact ⟨u, v, L, by rw [sm_en]; rfl, h, hb⟩
  · rw [sm_rd] at hF; cases hF
theorem nil_read (w : World) (hT : Tabs w) (hE : EtW w) :
    Calls Tryz.prog 14 #[.slice none 0 0] w fun e w' => ∃ g, e = .returned (.tuple #[.agg #[.int .u64 0, .slice none 0 0, .slice none 0 0], .iface 79 (.pointer (some ⟨g, 0, none⟩))]) ∧ Below w.heap.size w w' := by
  refine (read_c (b := []) (fun x hx => by simp at hx) (by simp) _ w (Byt.nil w) hT hE).mono ?_
  rintro e w' (⟨h, _⟩ | ⟨F, g, hF, rfl, _, _, hb⟩)
  · obtain ⟨F, hF⟩ := nil_rd; rw [hF] at h; cases h
  · exact ⟨g, rfl, hb⟩
end Go.Proofs.YtheeogbmljjbdaaGreatDoor
namespace Go.Proofs.YtheeogbmljjbdaaGreatDoor
set_option linter.unusedVariables false
set_option maxRecDepth 100000
open Go.ChangeShapes Go.WideShapes Go.ChangeAt Go.RowKit Go.Deep
/-- The bytes from p on, k of them, are the number X. -/
theorem vl_sub {b : List Int} {p k X : Nat} (h : Sub (fun i => b.getD i 0) p (ptL X k)) (hX : X < 256 ^ k) : vl b p k = X := by
  have q : ∀ j, j ≤ k → tkN (b.drop p) j = X % 256 ^ j := by
    intro j
    induction j with
    | zero => intro _; simp [tkN, Nat.mod_one]
    | succ j ih =>
      intro hj
      have e : b.getD (p + j) 0 = _ := h j (by rw [ptL_length]; omega)
      rw [ptL_get _ _ _ (by omega)] at e
      rw [tkN, ih (by omega), drop_getD, e, Int.toNat_natCast, Nat.mod_pow_succ, Nat.mul_comm (256 ^ j)]
  unfold vl
  rw [q k (Nat.le_refl _), Nat.mod_eq_of_lt hX]
theorem vl_cong {b c : List Int} {p k : Nat} (h : ∀ i, p ≤ i → i < p + k → c.getD i 0 = b.getD i 0) : vl c p k = vl b p k := by
  have q : ∀ j, j ≤ k → tkN (c.drop p) j = tkN (b.drop p) j := by
    intro j
    induction j with
    | zero => intro _; rfl
    | succ j ih => intro hj; rw [tkN, tkN, ih (by omega), drop_getD, drop_getD, h _ (by omega) (by omega)]
  exact q k (Nat.le_refl _)
/-- What stands from a place on. -/
theorem cut_sub {b l : List Int} {p : Nat} (h : Sub (fun i => b.getD i 0) p l) (hl : p + l.length ≤ b.length ∨ l = []) : (b.drop p).take l.length = l := by
  rcases hl with hl | rfl
  · apply List.ext_getElem
    · rw [List.length_take, List.length_drop]; omega
    · intro i h1 h2
      have e : b.getD (p + i) 0 = l.getD i 0 := h i h2
      rw [List.getElem_take, List.getElem_drop]
      rw [List.getD_eq_getElem?_getD, List.getD_eq_getElem?_getD, List.getElem?_eq_getElem (by omega), List.getElem?_eq_getElem h2] at e
      exact e
  · rfl
theorem sub_self (b : List Int) : Sub (fun i => b.getD i 0) 0 b := fun i _ => by rw [Nat.zero_add]
/-- The head's fields. -/
structure Hds (b : List Int) (E se m c : Nat) : Prop where
  mg : ∀ i, i < 7 → b.getD i 0 = magL.getD i 0
  f16 : vl b 16 2 = 2
  f18 : vl b 18 2 = 243
  f20 : vl b 20 4 = 1
  f24 : vl b 24 8 = E
  f32 : vl b 32 8 = 64
  f40 : vl b 40 8 = se
  f48 : vl b 48 4 = 1
  f52 : vl b 52 2 = 64
  f54 : vl b 54 2 = 56
  f56 : vl b 56 2 = m
  f58 : vl b 58 2 = 64
  f60 : vl b 60 2 = c
theorem Hds.cong {b b' : List Int} {E se m c : Nat} (h : Hds b E se m c) (k : ∀ i, i < 7 ∨ (16 ≤ i ∧ i < 62) → b'.getD i 0 = b.getD i 0) : Hds b' E se m c :=
  ⟨fun i hi => (k i (.inl hi)).trans (h.mg i hi), (vl_cong fun i h1 h2 => k i (.inr (by omega))).trans h.f16, (vl_cong fun i h1 h2 => k i (.inr (by omega))).trans h.f18, (vl_cong fun i h1 h2 => k i (.inr (by omega))).trans h.f20, (vl_cong fun i h1 h2 => k i (.inr (by omega))).trans h.f24, (vl_cong fun i h1 h2 => k i (.inr (by omega))).trans h.f32, (vl_cong fun i h1 h2 => k i (.inr (by omega))).trans h.f40, (vl_cong fun i h1 h2 => k i (.inr (by omega))).trans h.f48, (vl_cong fun i h1 h2 => k i (.inr (by omega))).trans h.f52, (vl_cong fun i h1 h2 => k i (.inr (by omega))).trans h.f54, (vl_cong fun i h1 h2 => k i (.inr (by omega))).trans h.f56, (vl_cong fun i h1 h2 => k i (.inr (by omega))).trans h.f58, (vl_cong fun i h1 h2 => k i (.inr (by omega))).trans h.f60⟩
theorem Sub.next {T : Nat → Int} {pos q X k : Nat} {l : List Int} (h : Sub T pos (ptL X k ++ l)) (e : pos + k = q) : Sub T q l := (h.right).at (by rw [ptL_length]; exact e)
theorem hds_of {b : List Int} {E se m c t : Nat} (h : Sub (fun i => b.getD i 0) 0 (headL E se m c t)) (hE : E < 256 ^ 8) (hs : se < 256 ^ 8) (hm : m < 256 ^ 2) (hc : c < 256 ^ 2) : Hds b E se m c := by
  unfold headL at h
  have h0 := h.left
  have h := h.right.at (show 0 + idL.length = 16 from rfl)
  have q16 := h.left
  have h := h.next (q := 18) rfl
  have q18 := h.left
  have h := h.next (q := 20) rfl
  have q20 := h.left
  have h := h.next (q := 24) rfl
  have q24 := h.left
  have h := h.next (q := 32) rfl
  have q32 := h.left
  have h := h.next (q := 40) rfl
  have q40 := h.left
  have h := h.next (q := 48) rfl
  have q48 := h.left
  have h := h.next (q := 52) rfl
  have q52 := h.left
  have h := h.next (q := 54) rfl
  have q54 := h.left
  have h := h.next (q := 56) rfl
  have q56 := h.left
  have h := h.next (q := 58) rfl
  have q58 := h.left
  have h := h.next (q := 60) rfl
  have q60 := h.left
  refine ⟨fun i hi => ?_, vl_sub q16 (by decide), vl_sub q18 (by decide), vl_sub q20 (by decide), vl_sub q24 hE, vl_sub q32 (by decide), vl_sub q40 hs, vl_sub q48 (by decide), vl_sub q52 (by decide), vl_sub q54 (by decide), vl_sub q56 hm, vl_sub q58 (by decide), vl_sub q60 hc⟩
  have e : b.getD (0 + i) 0 = idL.getD i 0 := h0 i (by show i < 16; omega)
  rw [Nat.zero_add] at e
  rw [e]
  have : i = 0 ∨ i = 1 ∨ i = 2 ∨ i = 3 ∨ i = 4 ∨ i = 5 ∨ i = 6 := by omega
  rcases this with rfl | rfl | rfl | rfl | rfl | rfl | rfl <;> rfl
/-- A program header's fields that count. -/
structure Ph (b : List Int) (h : Nat) (x : Sg) (p : Nat) : Prop where
  f0 : vl b h 4 = 1
  f4 : vl b (h + 4) 4 = fw x.f
  f8 : vl b (h + 8) 8 = p
  f24 : vl b (h + 24) 8 = x.a.toNat
  f32 : vl b (h + 32) 8 = x.n
  f40 : vl b (h + 40) 8 = x.s.toNat
theorem Ph.cong {b b' : List Int} {h : Nat} {x : Sg} {p : Nat} (q : Ph b h x p) (k : ∀ i, h ≤ i → i < h + 48 → ¬ (h + 16 ≤ i ∧ i < h + 24) → b'.getD i 0 = b.getD i 0) : Ph b' h x p :=
  ⟨(vl_cong fun i h1 h2 => k i (by omega) (by omega) (by omega)).trans q.f0, (vl_cong fun i h1 h2 => k i (by omega) (by omega) (by omega)).trans q.f4, (vl_cong fun i h1 h2 => k i (by omega) (by omega) (by omega)).trans q.f8, (vl_cong fun i h1 h2 => k i (by omega) (by omega) (by omega)).trans q.f24, (vl_cong fun i h1 h2 => k i (by omega) (by omega) (by omega)).trans q.f32, (vl_cong fun i h1 h2 => k i (by omega) (by omega) (by omega)).trans q.f40⟩
theorem fw_le {f : Int} (h : 0 ≤ f ∧ f ≤ 7) : fw f ≤ 7 ∧ ((fwN (fw f) : Nat) : Int) = f := by
  have : f = 0 ∨ f = 1 ∨ f = 2 ∨ f = 3 ∨ f = 4 ∨ f = 5 ∨ f = 6 ∨ f = 7 := by omega
  rcases this with rfl | rfl | rfl | rfl | rfl | rfl | rfl | rfl <;> decide
theorem ph_of {b : List Int} {h : Nat} {x : Sg} {p : Nat} (q : Sub (fun i => b.getD i 0) h (phL x p)) (hf : 0 ≤ x.f ∧ x.f ≤ 7) (hp : p < 256 ^ 8) (hn : x.n < 256 ^ 8) : Ph b h x p := by
  unfold phL at q
  have q0 := q.left
  have q := q.next (q := h + 4) rfl
  have q4 := q.left
  have q := q.next (q := h + 8) (by omega)
  have q8 := q.left
  have q := q.next (q := h + 16) (by omega)
  have q := q.next (q := h + 24) (by omega)
  have q24 := q.left
  have q := q.next (q := h + 32) (by omega)
  have q32 := q.left
  have q := q.next (q := h + 40) (by omega)
  have q40 := q.left
  exact ⟨vl_sub q0 (by decide), vl_sub q4 (Nat.lt_of_le_of_lt (fw_le hf).1 (by decide)), vl_sub q8 hp, vl_sub q24 x.a.isLt, vl_sub q32 hn, vl_sub q40 x.s.isLt⟩
theorem sub_hdZ {T : Nat → Int} {L : List Sg} {pos : Nat} : ∀ (k : Nat), Sub T pos (hdL L k) → ∀ j, j < k → Sub T (pos + 56 * j) (phL (sg L j) (plc L j))
  | 0, _, j, hj => absurd hj (Nat.not_lt_zero _)
  | k + 1, h, j, hj => by
    rw [hdL] at h
    by_cases c : j = k
    · subst c; exact h.right.at (by rw [hdL_length])
    · exact sub_hdZ k h.left j (by omega)
/-- The sections' fields that count. -/
structure Ses (b : List Int) (tb l1 tx l2 se : Nat) : Prop where
  k0 : vl b (se + 4) 4 = 0
  k1 : vl b (se + 68) 4 = 2
  a1 : vl b (se + 88) 8 = tb
  z1 : vl b (se + 96) 8 = l1
  n1 : vl b (se + 104) 4 = 2
  e1 : vl b (se + 120) 8 = 24
  k2 : vl b (se + 132) 4 = 3
  a2 : vl b (se + 152) 8 = tx
  z2 : vl b (se + 160) 8 = l2
theorem Ses.cong {b b' : List Int} {tb l1 tx l2 se : Nat} (h : Ses b tb l1 tx l2 se) (k : ∀ i, se ≤ i → b'.getD i 0 = b.getD i 0) : Ses b' tb l1 tx l2 se :=
  ⟨(vl_cong fun i h1 h2 => k i (by omega)).trans h.k0, (vl_cong fun i h1 h2 => k i (by omega)).trans h.k1, (vl_cong fun i h1 h2 => k i (by omega)).trans h.a1, (vl_cong fun i h1 h2 => k i (by omega)).trans h.z1, (vl_cong fun i h1 h2 => k i (by omega)).trans h.n1, (vl_cong fun i h1 h2 => k i (by omega)).trans h.e1, (vl_cong fun i h1 h2 => k i (by omega)).trans h.k2, (vl_cong fun i h1 h2 => k i (by omega)).trans h.a2, (vl_cong fun i h1 h2 => k i (by omega)).trans h.z2⟩
theorem ses_of {b : List Int} {tb l1 tx l2 ow se : Nat} (h0 : Sub (fun i => b.getD i 0) se (zs 64)) (h : Sub (fun i => b.getD i 0) (se + 64) (secR tb l1 tx l2 ow)) (h1 : tb < 256 ^ 8) (h2 : l1 < 256 ^ 8) (h3 : tx < 256 ^ 8) (h4 : l2 < 256 ^ 8) : Ses b tb l1 tx l2 se := by
  rw [secR_eq] at h
  have hA := h.left
  have hB := (h.right.at (show se + 64 + (secL 1 2 tb l1 2 1 8 24).length = se + 128 by rw [secL_length])).left
  unfold secL at hA hB
  have z : Sub (fun i => b.getD i 0) (se + 4) (ptL 0 4) := fun i hi => by
    have hi : i < 4 := by rw [ptL_length] at hi; exact hi
    have e := h0.zero (se + 4 + i) (by omega) (by omega)
    rw [ptL_zero, zs_get]; exact e
  have hA := hA.next (q := se + 68) (by omega)
  have a4 := hA.left
  have hA := hA.next (q := se + 72) (by omega)
  have hA := hA.next (q := se + 80) (by omega)
  have hA := hA.next (q := se + 88) (by omega)
  have a24 := hA.left
  have hA := hA.next (q := se + 96) (by omega)
  have a32 := hA.left
  have hA := hA.next (q := se + 104) (by omega)
  have a40 := hA.left
  have hA := hA.next (q := se + 108) (by omega)
  have hA := hA.next (q := se + 112) (by omega)
  have hA := hA.next (q := se + 120) (by omega)
  have hB := hB.next (q := se + 132) (by omega)
  have b4 := hB.left
  have hB := hB.next (q := se + 136) (by omega)
  have hB := hB.next (q := se + 144) (by omega)
  have hB := hB.next (q := se + 152) (by omega)
  have b24 := hB.left
  have hB := hB.next (q := se + 160) (by omega)
  have b32 := hB.left
  exact ⟨vl_sub z (by decide), vl_sub a4 (by decide), vl_sub a24 h1, vl_sub a32 h2, vl_sub a40 (by decide), vl_sub hA (by decide), vl_sub b4 (by decide), vl_sub b24 h3, vl_sub b32 h4⟩
/-- An entry's fields that count. -/
structure En (b : List Int) (y o : Nat) (x : Sy) : Prop where
  f0 : vl b y 4 = o
  f4 : b.getD (y + 4) 0 = 16
  f6 : vl b (y + 6) 2 = 65521
  f8 : vl b (y + 8) 8 = x.v.toNat
theorem En.cong {b b' : List Int} {y o : Nat} {x : Sy} (h : En b y o x) (k : ∀ i, y ≤ i → b'.getD i 0 = b.getD i 0) : En b' y o x :=
  ⟨(vl_cong fun i h1 h2 => k i (by omega)).trans h.f0, (k _ (by omega)).trans h.f4, (vl_cong fun i h1 h2 => k i (by omega)).trans h.f6, (vl_cong fun i h1 h2 => k i (by omega)).trans h.f8⟩
theorem en_of {b : List Int} {y o : Nat} {x : Sy} (q : Sub (fun i => b.getD i 0) y (entL o x)) (ho : o < 256 ^ 4) : En b y o x := by
  unfold entL at q
  have q0 := q.left
  have q := q.next (q := y + 4) rfl
  have q4 := q.left
  have q := q.next (q := y + 6) (by omega)
  have q6 := q.left
  have q := q.next (q := y + 8) (by omega)
  have q8 := q.left
  exact ⟨vl_sub q0 ho, q4 0 (by rw [ptL_length]; omega), vl_sub q6 (by decide), vl_sub q8 x.v.isLt⟩
theorem sub_tbZ {T : Nat → Int} {N : List Sy} {pos : Nat} : ∀ (k : Nat), Sub T pos (tbL N k) → ∀ j, j < k → Sub T (pos + 24 * j) (entL (1 + nk N j) (sy N j))
  | 0, _, j, hj => absurd hj (Nat.not_lt_zero _)
  | k + 1, h, j, hj => by
    rw [tbL] at h
    by_cases c : j = k
    · subst c; exact h.right.at (by rw [tbL_length])
    · exact sub_tbZ k h.left j (by omega)
/-- All that is looked at in the file of an image. -/
structure Nd (b : List Int) (E : Nat) (L : List Sg) (N : List Sy) (D : Nat → List Int) : Prop where
  len : b.length = szz L N
  hd : Hds b E (if N.length = 0 then 0 else szz L N - 256) L.length (if N.length = 0 then 0 else 4)
  ph : ∀ j, j < L.length → Ph b (64 + 56 * j) (sg L j) (plc L j)
  da : ∀ j, j < L.length → (b.drop (plc L j)).take (sg L j).n = D j
  se : 0 < N.length → Ses b (tabAt L) (24 + 24 * N.length) (tabAt L + 24 + 24 * N.length) (1 + nk N N.length) (szz L N - 256)
  en : ∀ j, j < N.length → En b (tabAt L + 24 * (j + 1)) (1 + nk N j) (sy N j)
  tx : 0 < N.length → (b.drop (tabAt L + 24 + 24 * N.length)).take (1 + nk N N.length) = txL N N.length
theorem szz_lo (L : List Sg) (N : List Sy) : sk L L.length ≤ szz L N := by
  unfold szz
  split
  · exact Nat.le_refl _
  · have ht := al_lo (sk L L.length)
    have et : tabAt L = al (sk L L.length) := rfl
    have ha := al_lo (tabAt L + 24 + 24 * N.length + 1 + nk N N.length + 27)
    omega
theorem nd_fl {E : BitVec 64} {L : List Sg} {N : List Sy} {D : Nat → List Int} (hD : ∀ j, j < L.length → (D j).length = (sg L j).n) (hL : L.length ≤ 16) (hN : N.length ≤ 400) (hz : szz L N ≤ 200000) (hf : ∀ j, j < L.length → 0 ≤ (sg L j).f ∧ (sg L j).f ≤ 7) : Nd (fl E.toNat L N D) E.toNat L N D := by
  have hs := szz_lo L N
  have hp : ∀ j, j < L.length → plc L j + (sg L j).n ≤ sk L L.length := fun j hj => plc_le L L.length j hj
  have hpd : ∀ b : List Int, b.length = szz L N → Sub (fun i => b.getD i 0) (64 + 56 * L.length) (daL L D L.length) → ∀ j, j < L.length → (b.drop (plc L j)).take (sg L j).n = D j := fun b hb h j hj => by
    have q := cut_sub (sub_da hD L.length (Nat.le_refl _) h j hj) (.inl (by rw [hD j hj, hb]; have := hp j hj; omega))
    rw [hD j hj] at q
    exact q
  by_cases hn0 : N.length = 0
  · have e : fl E.toNat L N D = flZ E.toNat L D := by unfold fl; rw [if_pos hn0]
    rw [e]
    have hl : (flZ E.toNat L D).length = szz L N := by rw [flZ_length hD]; unfold szz; rw [if_pos hn0]
    have hS := sub_self (flZ E.toNat L D)
    generalize hb : flZ E.toNat L D = b at hl hS ⊢
    have hS0 := hS
    rw [← hb] at hS0
    generalize hT : (fun i => (flZ E.toNat L D).getD i 0) = T at hS0
    have hT2 : (fun i => b.getD i 0) = T := by rw [← hT, hb]
    rw [hT2] at hS
    rw [← hb] at hS
    unfold flZ at hS
    have h1 := hS.left
    have h2 := hS.right.at (show 0 + (headL E.toNat 0 L.length 0 0).length = 64 by rw [headL_length])
    have h3 := h2.right.at (show 64 + (hdL L L.length).length = 64 + 56 * L.length by rw [hdL_length])
    rw [← hT2] at h1 h2 h3
    refine ⟨hl, ?_, fun j hj => ?_, hpd b hl h3, fun h => absurd hn0 (by omega), fun j hj => absurd hn0 (by omega), fun h => absurd hn0 (by omega)⟩
    · rw [if_pos hn0, if_pos hn0]
      exact hds_of h1 E.isLt (by decide) (by omega) (by decide)
    · have := hp j hj
      exact ph_of (sub_hdZ _ h2.left j hj) (hf j hj) (by omega) (by omega)
  · have e : fl E.toNat L N D = flA E.toNat L N D := by unfold fl; rw [if_neg hn0]
    rw [e]
    have hl : (flA E.toNat L N D).length = szz L N := flA_length hD (by omega)
    have ly := lay_a hD (by omega) (sub_self (flA E.toNat L N D)) (tabAt L) (tabAt L + 24 + 24 * N.length) (tabAt L + 24 + 24 * N.length + 1 + nk N N.length) (al (tabAt L + 24 + 24 * N.length + 1 + nk N N.length + 27)) rfl rfl rfl rfl
    have hz2 : szz L N = al (tabAt L + 24 + 24 * N.length + 1 + nk N N.length + 27) + 256 := by unfold szz; rw [if_neg hn0]
    have ha := al_lo (tabAt L + 24 + 24 * N.length + 1 + nk N N.length + 27)
    have hse : szz L N - 256 = al (tabAt L + 24 + 24 * N.length + 1 + nk N N.length + 27) := by omega
    generalize flA E.toNat L N D = b at *
    refine ⟨hl, ?_, fun j hj => ?_, hpd b hl ly.da, fun _ => ?_, fun j hj => ?_, fun _ => ?_⟩
    · rw [if_neg hn0, if_neg hn0, hse]
      have h1 := ly.head
      rw [head_eq] at h1
      exact hds_of h1 E.isLt (by omega) (by omega) (by decide)
    · have := hp j hj
      exact ph_of (sub_hdZ _ ly.hd j hj) (hf j hj) (by omega) (by omega)
    · rw [hse]
      exact ses_of ly.z4 ly.sec (by omega) (by omega) (by omega) (by omega)
    · have hm := nk_mono N (show j ≤ N.length by omega)
      exact en_of ((sub_tbZ _ ly.tab j hj).at (by omega)) (by omega)
    · have q := cut_sub ly.txt (.inl (by rw [txL_length, hl]; omega))
      rw [txL_length] at q
      exact q
theorem getD_set_ne (b : List Int) (k i : Nat) (v : Int) (h : i ≠ k) : (b.set k v).getD i 0 = b.getD i 0 := by
  rw [List.getD_eq_getElem?_getD, List.getD_eq_getElem?_getD, List.getElem?_set_ne (by omega)]
/-- A byte that does not count is written. -/
theorem Nd.set {b : List Int} {E : Nat} {L : List Sg} {N : List Sy} {D : Nat → List Int} (h : Nd b E L N D) (k : Nat) (v : Int) (hk : k < 64 + 56 * L.length) (hf : (7 ≤ k ∧ k ≤ 15) ∨ k = 62 ∨ k = 63 ∨ (64 ≤ k ∧ ((16 ≤ (k - 64) % 56 ∧ (k - 64) % 56 < 24) ∨ 48 ≤ (k - 64) % 56))) : Nd (b.set k v) E L N D := by
  have hlo := sk_lo L L.length
  have ht := al_lo (sk L L.length)
  have et : tabAt L = al (sk L L.length) := rfl
  have hb := szz_lo L N
  refine ⟨by rw [List.length_set]; exact h.len, h.hd.cong fun i hi => getD_set_ne _ _ _ _ (by omega), fun j hj => (h.ph j hj).cong fun i h1 h2 h3 => getD_set_ne _ _ _ _ (by intro e; subst e; omega), fun j hj => ?_, fun hn => (h.se hn).cong fun i hi => getD_set_ne _ _ _ _ ?_, fun j hj => (h.en j hj).cong fun i hi => getD_set_ne _ _ _ _ (by omega), fun hn => ?_⟩
  · by_cases hn : 0 < (sg L j).n
    · rw [List.drop_set_of_lt, h.da j hj]
      have e : plc L j = al (sk L j) := by unfold plc; rw [if_pos hn]
      have h1 := sk_lo L j
      have h2 := al_lo (sk L j)
      omega
    · have e : (sg L j).n = 0 := by omega
      have q := h.da j hj
      rw [e, List.take_zero] at q ⊢
      exact q
  · have hz2 : szz L N = al (tabAt L + 24 + 24 * N.length + 1 + nk N N.length + 27) + 256 := by unfold szz; rw [if_neg (by omega)]
    have ha := al_lo (tabAt L + 24 + 24 * N.length + 1 + nk N N.length + 27)
    omega
  · rw [List.drop_set_of_lt (by omega)]; exact h.tx hn
end Go.Proofs.YtheeogbmljjbdaaGreatDoor
namespace Go.Proofs.YtheeogbmljjbdaaGreatDoor
set_option linter.unusedVariables false
set_option maxRecDepth 100000
open Go.ChangeShapes Go.WideShapes Go.ChangeAt Go.RowKit Go.Deep
/-- What Check has looked at. -/
theorem ck_all {E : BitVec 64} {L : List Sg} {N : List Sy} (h : ck E L N = 0) : E.toNat % 2 = 0 ∧ L.length ≤ 16 ∧ N.length ≤ 400 ∧ (∀ j, j < L.length → pf L j = 0) ∧ (∀ j, j < N.length → nf N j = 0) ∧ szz L N ≤ 200000 := by
  unfold ck at h
  by_cases h1 : E.toNat % 2 = 1
  · rw [if_pos h1] at h; omega
  rw [if_neg h1] at h
  by_cases h2 : 16 < L.length ∨ 400 < N.length
  · rw [if_pos h2] at h; omega
  rw [if_neg h2] at h
  by_cases h3 : ff (pf L) L.length 0 ≠ 0
  · rw [if_pos h3] at h; exact absurd h h3
  rw [if_neg h3] at h
  by_cases h4 : ff (nf N) N.length 0 ≠ 0
  · rw [if_pos h4] at h; exact absurd h h4
  rw [if_neg h4] at h
  by_cases h5 : 200000 < szz L N
  · rw [if_pos h5] at h; omega
  exact ⟨by omega, by omega, by omega, fun j hj => ff_all L.length 0 (by omega) j (Nat.zero_le _) (by omega), fun j hj => ff_all N.length 0 (by omega) j (Nat.zero_le _) (by omega), by omega⟩
structure PfO (L : List Sg) (j : Nat) : Prop where
  s0 : (sg L j).s ≠ 0#64
  f : 0 ≤ (sg L j).f ∧ (sg L j).f ≤ 7
  n : (sg L j).n ≤ (sg L j).s.toNat
  l : (sg L j).a.toNat ≤ (lastB (sg L j)).toNat
  up : 0 < j → (lastB (sg L (j - 1))).toNat < (sg L j).a.toNat
theorem pf_ok {L : List Sg} {j : Nat} (h : pf L j = 0) : PfO L j := by
  unfold pf at h
  by_cases h1 : (sg L j).s = 0#64 ∨ (sg L j).f < 0 ∨ 7 < (sg L j).f ∨ (sg L j).s.toNat < (sg L j).n ∨ (lastB (sg L j)).toNat < (sg L j).a.toNat
  · rw [if_pos h1] at h; omega
  rw [if_neg h1] at h
  by_cases h2 : 0 < j ∧ (sg L j).a.toNat ≤ (lastB (sg L (j - 1))).toNat
  · rw [if_pos h2] at h; omega
  simp only [not_or] at h1
  exact ⟨h1.1, by omega, by omega, by omega, fun hj => by omega⟩
theorem pf_rise {L : List Sg} (h : ∀ j, j < L.length → PfO L j) : ∀ i j, j < i → i < L.length → (lastB (sg L j)).toNat < (sg L i).a.toNat := by
  intro i
  induction i with
  | zero => intro j hj; omega
  | succ i ih =>
    intro j hj hi
    have h1 := (h (i + 1) hi).up (by omega)
    rw [Nat.add_sub_cancel] at h1
    by_cases e : j = i
    · subst e; exact h1
    · have h2 := ih j (by omega) (by omega)
      have h3 := (h i (by omega)).l
      omega
/-- A part as its file tells it. -/
def ptS (L : List Sg) (j : Nat) : Pt := ⟨(sg L j).a.toNat, (sg L j).s.toNat, (sg L j).f.toNat, plc L j, (sg L j).n⟩
def ptsL (L : List Sg) (i : Nat) : List Pt := (List.range i).map (ptS L)
theorem ptsL_succ (L : List Sg) (i : Nat) : ptsL L (i + 1) = ptsL L i ++ [ptS L i] := by simp [ptsL, List.range_succ]
theorem ofN (x : BitVec 64) : BitVec.ofNat 64 x.toNat = x := by apply BitVec.eq_of_toNat_eq; rw [BitVec.toNat_ofNat, Nat.mod_eq_of_lt x.isLt]
theorem pt_at {b : List Int} {L : List Sg} {j : Nat} (h : Ph b (64 + 56 * j) (sg L j) (plc L j)) (hf : 0 ≤ (sg L j).f ∧ (sg L j).f ≤ 7) : ptAt b (64 + 56 * j) = ptS L j := by
  unfold ptAt ptS
  rw [h.f24, h.f40, h.f4, h.f8, h.f32, show fwN (fw (sg L j).f) = (sg L j).f.toNat by have := (fw_le hf).2; omega]
theorem pt_no {b : List Int} {L : List Sg} {j : Nat} (h : Ph b (64 + 56 * j) (sg L j) (plc L j)) (hp : PfO L j) (hr : plc L j + (sg L j).n ≤ b.length) : ptF b (64 + 56 * j) = none := by
  have h1 := (fw_le hp.f).1
  have h2 := hp.n
  have h3 := hp.l
  unfold ptF
  rw [h.f4, h.f40, h.f32, h.f8, h.f24, ofN, ofN, if_neg (by omega), if_neg (by omega), if_neg, if_neg]
  · have e : lastB (sg L j) = (sg L j).a + ((sg L j).s - 1#64) := rfl
    rw [← e]; omega
  · intro q; exact q ⟨by omega, by omega⟩
theorem pt_is {b : List Int} {L : List Sg} {j : Nat} (h : Ph b (64 + 56 * j) (sg L j) (plc L j)) (hp : PfO L j) : isPt b (64 + 56 * j) := by
  refine ⟨h.f0, fun q => hp.s0 ?_⟩
  rw [h.f40] at q
  exact BitVec.eq_of_toNat_eq q.1
theorem pt_apart {L : List Sg} (h : ∀ j, j < L.length → PfO L j) {i j : Nat} (hj : j < i) (hi : i < L.length) : mtB (ptS L i) (ptS L j) = false := by
  have h1 := pf_rise h i j hj hi
  unfold mtB meetB
  have e : lastB (sg L j) = (sg L j).a + ((sg L j).s - 1#64) := rfl
  simp only [ptS, ofN]
  rw [← e, decide_eq_false (by unfold n64; omega)]
  rfl
/-- The parts. -/
theorem pr_all {b : List Int} {L : List Sg} (hph : ∀ j, j < L.length → Ph b (64 + 56 * j) (sg L j) (plc L j)) (hp : ∀ j, j < L.length → PfO L j) (hr : ∀ j, j < L.length → plc L j + (sg L j).n ≤ b.length) : ∀ i, i ≤ L.length → prL b 64 i = (ptsL L i, none)
  | 0, _ => rfl
  | i + 1, hi => by
    have ih := pr_all hph hp hr i (by omega)
    rw [prL_add ih (pt_is (hph i (by omega)) (hp i (by omega))) (pt_no (hph i (by omega)) (hp i (by omega)) (hr i (by omega))) ?_, pt_at (hph i (by omega)) (hp i (by omega)).f, ptsL_succ]
    rw [pt_at (hph i (by omega)) (hp i (by omega)).f]
    intro q
    obtain ⟨x, hx, hm⟩ := List.any_eq_true.1 q
    obtain ⟨j, hj, rfl⟩ := List.mem_map.1 hx
    rw [pt_apart hp (List.mem_range.1 hj) (by omega)] at hm
    cases hm
theorem adr_S (L : List Sg) (j : Nat) : adr (ptS L j) = (sg L j).a.toNat := by unfold adr; simp only [ptS, ofN]
theorem pts_rise {L : List Sg} (hp : ∀ j, j < L.length → PfO L j) : (ptsL L L.length).Pairwise (fun x y => adr x < adr y) := by
  unfold ptsL
  rw [List.pairwise_map]
  refine (List.pairwise_lt_range).imp_of_mem ?_
  intro i j hi hj hij
  rw [adr_S, adr_S]
  have h1 := pf_rise hp j i hij (List.mem_range.1 hj)
  have h2 := (hp i (List.mem_range.1 hi)).l
  omega
theorem pts_srt {L : List Sg} (hp : ∀ j, j < L.length → PfO L j) : srt (ptsL L L.length) = ptsL L L.length :=
  (srt_unique ((pts_rise hp).imp fun h => Nat.ne_of_lt h) (List.Perm.refl _) ((pts_rise hp).imp fun h => Nat.le_of_lt h)).symm
/-- No byte of a name is 0. -/
theorem dec_nz (s : ByteArray) (pos i : Nat) (h1 : pos < i) (h2 : i < pos + (Utf8.decode s pos).2) : s.get! i ≠ 0 := by
  intro e
  obtain ⟨k, rfl⟩ : ∃ k, i = pos + k := ⟨i - pos, by omega⟩
  have ez : (s.get! (pos + k)).toNat = 0 := by rw [e]; rfl
  unfold Utf8.decode at h2
  dsimp only at h2
  split at h2
  · dsimp only at h2; omega
  split at h2
  · rename_i c
    simp only [Bool.and_eq_true, decide_eq_true_eq, beq_iff_eq] at c
    split at h2
    · dsimp only at h2
      obtain rfl : k = 1 := by omega
      omega
    · dsimp only at h2; omega
  split at h2
  · rename_i c
    simp only [Bool.and_eq_true, decide_eq_true_eq, beq_iff_eq] at c
    split at h2
    · dsimp only at h2
      have : k = 1 ∨ k = 2 := by omega
      rcases this with rfl | rfl <;> omega
    · dsimp only at h2; omega
  split at h2
  · rename_i c
    simp only [Bool.and_eq_true, decide_eq_true_eq, beq_iff_eq] at c
    split at h2
    · dsimp only at h2
      have : k = 1 ∨ k = 2 ∨ k = 3 := by omega
      rcases this with rfl | rfl | rfl <;> omega
    · dsimp only at h2; omega
  · dsimp only at h2; omega
theorem dec_zero (s : ByteArray) (pos : Nat) (h : s.get! pos = 0) : Utf8.decode s pos = (0, 1) := by
  have e : (s.get! (pos + 0)).toNat = 0 := by rw [Nat.add_zero, h]; rfl
  unfold Utf8.decode
  dsimp only
  rw [if_pos (by omega), e]
theorem let_zero : Lib.isLetterU ((0 : Nat) : Int) = false := by decide
theorem okr_nz (s : ByteArray) (pos : Nat) (h : okr s pos = true) : s.get! pos ≠ 0 := by
  intro e
  unfold okr at h
  rw [dec_zero s pos e] at h
  dsimp only at h
  rw [let_zero, show rk false ((0 : Nat) : Int) = false from by decide] at h
  cases h
theorem ok_nz (s : ByteArray) : ∀ f pos, s.size ≤ pos + f → okFrom s f pos = true → ∀ i, pos ≤ i → i < s.size → s.get! i ≠ 0
  | 0, pos, hf, _, i, h1, h2 => by omega
  | f + 1, pos, hf, h, i, h1, h2 => by
    unfold okFrom at h
    rw [if_pos (by omega), Bool.and_eq_true] at h
    have hw := Lib.decode_width_pos s pos (by omega)
    by_cases c : i = pos
    · subst c; exact okr_nz s i h.1
    · by_cases c2 : i < pos + (Utf8.decode s pos).2
      · exact dec_nz s pos i (by omega) c2
      · exact ok_nz s f _ (by omega) h.2 i (by omega) h2
theorem nm_nz {s : ByteArray} (h : nm s = true) : ∀ x ∈ s.data.toList, x ≠ 0 := by
  unfold nm at h
  simp only [Bool.and_eq_true] at h
  intro x hx
  obtain ⟨i, hi, rfl⟩ := List.getElem_of_mem hx
  have hi' : i < s.size := by simpa using hi
  have q := ok_nz s s.size 0 (by omega) h.2.1 i (Nat.zero_le _) hi'
  intro e
  apply q
  rw [← e]
  show s.data[i]! = _
  simp only [Array.getElem_toList]
  exact getElem!_pos s.data i hi'
theorem ix_zero (r : List UInt8) : ∀ l : List UInt8, (∀ x ∈ l, x ≠ 0) → Lib.indexByte (l ++ 0 :: r) 0 = l.length
  | [], _ => by simp [Lib.indexByte]
  | x :: l, h => by
    have ih := ix_zero r l (fun y hy => h y (List.mem_cons_of_mem _ hy))
    have hx := h x (List.mem_cons_self ..)
    rw [List.cons_append, Lib.indexByte, ih, if_neg (by simpa using hx), if_neg (by rw [beq_iff_eq]; omega), List.length_cons]
    omega
theorem bytes_sb (s : ByteArray) : Lib.bytesOf (sb s) = s.data.toList := by
  unfold Lib.bytesOf sb
  rw [List.map_map]
  conv => rhs; rw [← List.map_id s.data.toList]
  apply List.map_congr_left
  intro x _
  simp
theorem fz_name {s : ByteArray} (h : nm s = true) (r : List Int) : fz (sb s ++ 0 :: r) = s.size := by
  unfold fz
  have e : Lib.bytesOf (sb s ++ 0 :: r) = s.data.toList ++ 0 :: Lib.bytesOf r := by
    rw [← bytes_sb s]; unfold Lib.bytesOf; simp
  rw [e, ix_zero _ _ (nm_nz h)]
  simp
theorem str_sb (s : ByteArray) : strOfNums (sb s) = s := by
  have e := bytes_sb s
  unfold Lib.bytesOf at e
  unfold strOfNums
  rw [e]
theorem tx_drop (N : List Sy) (i : Nat) : ∀ k, i < k → ∃ r, (txL N k).drop (1 + nk N i) = sb (sy N i).s ++ 0 :: r
  | 0, h => by omega
  | k + 1, h => by
    rw [txL]
    by_cases c : i = k
    · subst c
      exact ⟨[], by rw [List.drop_append_of_le_length (by rw [txL_length]; exact Nat.le_refl _), List.drop_eq_nil_of_le (by rw [txL_length]; exact Nat.le_refl _)]; rfl⟩
    · obtain ⟨r, hr⟩ := tx_drop N i k (by omega)
      have := nk_mono N (show i ≤ k by omega)
      exact ⟨r ++ (sb (sy N k).s ++ [0]), by rw [List.drop_append_of_le_length (by rw [txL_length]; omega), hr, List.append_assoc, List.cons_append]⟩
theorem nf_ok {N : List Sy} {j : Nat} (h : nf N j = 0) : nm (sy N j).s = true ∧ (0 < j → ahS (sy N (j - 1)) (sy N j) = true) := by
  unfold nf at h
  by_cases h1 : nm (sy N j).s = false
  · rw [if_pos h1] at h; omega
  rw [if_neg h1] at h
  by_cases h2 : 0 < j ∧ ahead (sy N (j - 1)).s (sy N (j - 1)).v (sy N j).s (sy N j).v = false
  · rw [if_pos h2] at h; omega
  refine ⟨by simpa using h1, fun hj => ?_⟩
  unfold ahS
  cases e : ahead (sy N (j - 1)).s (sy N (j - 1)).v (sy N j).s (sy N j).v with
  | true => rfl
  | false => exact absurd ⟨hj, e⟩ h2
theorem ahS_lt {x y z : Sy} (h1 : ahS x y = true) (h2 : ahS y z = true) : ahS x z = true := by
  rw [ahS_iff] at *
  rcases h1 with h1 | ⟨h1, g1⟩ <;> rcases h2 with h2 | ⟨h2, g2⟩
  · left; omega
  · left; omega
  · left; omega
  · exact .inr ⟨by omega, List.lt_trans g1 g2⟩
theorem ahS_not {x y : Sy} (h : ahS x y = true) : ahS y x = false := by
  rw [ahS_iff] at h
  rw [ahS_no]
  rcases h with h | ⟨h, g⟩
  · exact .inl h
  · exact .inr ⟨h.symm, fun q => List.lt_irrefl _ (List.lt_trans g q)⟩
theorem nf_rise {N : List Sy} (h : ∀ j, j < N.length → nf N j = 0) : ∀ i j, j < i → i < N.length → ahS (sy N j) (sy N i) = true := by
  intro i
  induction i with
  | zero => intro j hj; omega
  | succ i ih =>
    intro j hj hi
    have h1 := (nf_ok (h (i + 1) hi)).2 (by omega)
    rw [Nat.add_sub_cancel] at h1
    by_cases e : j = i
    · subst e; exact h1
    · exact ahS_lt (ih j (by omega) (by omega)) h1
theorem sy_getZ (N : List Sy) (j : Nat) (h : j < N.length) : sy N j = N[j] := by
  unfold sy; rw [List.getD_eq_getElem?_getD, List.getElem?_eq_getElem h]; rfl
theorem nf_srt {N : List Sy} (h : ∀ j, j < N.length → nf N j = 0) : nSrt N = N := by
  refine (nSrt_unique (List.Perm.refl N) ?_).symm
  rw [List.pairwise_iff_getElem]
  intro i j hi hj hij
  have q := nf_rise h j i hij hj
  rw [sy_getZ N i hi, sy_getZ N j hj] at q
  exact ahS_not q
/-- An entry. -/
theorem en_all {b : List Int} {N : List Sy} {y i : Nat} (h : En b y (1 + nk N i) (sy N i)) (hi : i < N.length) (hn : nm (sy N i).s = true) : enE b (txL N N.length) y = some (some (sy N i)) := by
  obtain ⟨r, hr⟩ := tx_drop N i N.length hi
  have hl : ¬ (txL N N.length).length ≤ 1 + nk N i := by
    rw [txL_length]
    have h1 := nk_mono N (show i + 1 ≤ N.length by omega)
    have e : nk N (i + 1) = nk N i + ((sy N i).s.size + 1) := rfl
    omega
  have ef := fz_name hn r
  have et : txT (txL N N.length) (1 + nk N i) = sb (sy N i).s := by
    unfold txT
    rw [hr, ef, Int.toNat_natCast, ← sb_length, List.take_left']
    rfl
  unfold enE
  rw [h.f0, h.f4, h.f6, h.f8, et, str_sb, hn, if_neg, if_neg, ofN]
  · rintro (q | q | q | q)
    · exact absurd q (by decide)
    · exact absurd q (by decide)
    · exact absurd q (by decide)
    · exact absurd q (by decide)
  · rintro (q | q)
    · exact hl q
    · rw [hr, ef] at q; omega
theorem nm_all {b : List Int} {N : List Sy} {A : Nat} (hN : N.length ≤ 400) (he : ∀ j, j < N.length → En b (A + 24 * (j + 1)) (1 + nk N j) (sy N j)) (hf : ∀ j, j < N.length → nf N j = 0) : ∀ i, i ≤ N.length → nmL b (txL N N.length) A i = (N.take i, none)
  | 0, _ => by simp [nmL]
  | i + 1, hi => by
    have ih := nm_all hN he hf i (by omega)
    rw [nmL_add ih (en_all (he i (by omega)) (by omega) (nf_ok (hf i (by omega))).1) ?_ (by rw [List.length_take]; omega)]
    · rw [List.take_add_one, List.getElem?_eq_getElem (by omega), sy_getZ N i (by omega)]
      rfl
    · rw [List.any_eq_false]
      intro x hx q
      obtain ⟨j, hj, rfl⟩ := List.getElem_of_mem hx
      rw [List.length_take] at hj
      rw [List.getElem_take] at q
      have e := eqS_iff.1 q
      have h1 := nf_rise hf i j (by omega) (by omega)
      rw [sy_getZ N j (by omega), ← e] at h1
      have h2 := ahS_not h1
      rw [h1] at h2
      cases h2
theorem id_none {b : List Int} (hm : ∀ i, i < 7 → b.getD i 0 = magL.getD i 0) (hl : 64 ≤ b.length) : ∀ r i, i + r ≤ 7 → idF b r i = none
  | 0, i, _ => rfl
  | r + 1, i, h => by
    unfold idF
    rw [if_neg (by omega), if_neg (by rw [hm i (by omega)]; exact fun q => q rfl)]
    exact id_none hm hl r (i + 1) (by omega)
theorem hd_none {b : List Int} {E se m c : Nat} (h : Hds b E se m c) (hl : 64 ≤ b.length) (hE : E % 2 = 0) : hdF b = none := by
  unfold hdF
  rw [h.f16, h.f18, h.f20, h.f24, h.f48, h.f52, if_neg (by omega), if_neg (by decide), if_neg (by decide), if_neg (by decide), if_neg (by omega), if_neg (by decide), if_neg (by decide)]
theorem ph_none {b : List Int} {E se m c : Nat} (h : Hds b E se m c) (hl : 64 + 56 * m ≤ b.length) (hm : m ≤ 16) : phF b = none := by
  unfold phF
  rw [h.f56, h.f54, h.f32, if_neg (fun q => q.2 rfl), if_neg (by omega), if_neg]
  intro q; exact q ⟨by omega, by omega⟩
/-- The names. -/
theorem Nd.names {b : List Int} {E : Nat} {L : List Sg} {N : List Sy} {D : Nat → List Int} (h : Nd b E L N D) (hN : N.length ≤ 400) (hf : ∀ j, j < N.length → nf N j = 0) : nsR b = (N, none) := by
  have hhd := h.hd
  by_cases hn0 : N.length = 0
  · rw [if_pos hn0, if_pos hn0] at hhd
    have e : N = [] := List.eq_nil_of_length_eq_zero hn0
    unfold nsR nsQ
    rw [hhd.f60, if_pos (.inl rfl), e]
  · rw [if_neg hn0, if_neg hn0] at hhd
    have hz2 : szz L N = al (tabAt L + 24 + 24 * N.length + 1 + nk N N.length + 27) + 256 := by unfold szz; rw [if_neg hn0]
    have ha := al_lo (tabAt L + 24 + 24 * N.length + 1 + nk N N.length + 27)
    have hse := h.se (by omega)
    have htx := h.tx (by omega)
    have hlen := h.len
    have hen := h.en
    obtain ⟨P, hP⟩ : ∃ P, P = szz L N - 256 := ⟨_, rfl⟩
    rw [← hP] at hhd hse
    have hPl : P + 256 = b.length := by omega
    have hPt : tabAt L + 24 + 24 * N.length + 1 + nk N N.length + 27 ≤ P := by omega
    have a0 : vl b (P + 64 * 0 + 4) 4 = 0 := by rw [show P + 64 * 0 + 4 = P + 4 by omega]; exact hse.k0
    have a1 : vl b (P + 64 * (0 + 1) + 4) 4 = 2 := by rw [show P + 64 * (0 + 1) + 4 = P + 68 by omega]; exact hse.k1
    have a2 : vl b (P + 64 * 1 + 24) 8 = tabAt L := by rw [show P + 64 * 1 + 24 = P + 88 by omega]; exact hse.a1
    have a3 : vl b (P + 64 * 1 + 32) 8 = 24 + 24 * N.length := by rw [show P + 64 * 1 + 32 = P + 96 by omega]; exact hse.z1
    have a4 : vl b (P + 64 * 1 + 40) 4 = 2 := by rw [show P + 64 * 1 + 40 = P + 104 by omega]; exact hse.n1
    have a5 : vl b (P + 64 * 1 + 56) 8 = 24 := by rw [show P + 64 * 1 + 56 = P + 120 by omega]; exact hse.e1
    have a6 : vl b (P + 64 * 2 + 4) 4 = 3 := by rw [show P + 64 * 2 + 4 = P + 132 by omega]; exact hse.k2
    have a7 : vl b (P + 64 * 2 + 24) 8 = tabAt L + 24 + 24 * N.length := by rw [show P + 64 * 2 + 24 = P + 152 by omega]; exact hse.a2
    have a8 : vl b (P + 64 * 2 + 32) 8 = 1 + nk N N.length := by rw [show P + 64 * 2 + 32 = P + 160 by omega]; exact hse.z2
    have hfr : frT b P 4 0 = some 1 := by
      unfold frT
      rw [a0, if_neg (by decide)]
      unfold frT
      rw [a1, if_pos rfl]
    have htf : txF b P 4 (P + 64 * 1) = none := by
      unfold txF
      rw [a4, a6, a7, a8, if_neg (by decide), if_neg (by decide), if_neg]
      intro q; exact q ⟨by omega, by omega⟩
    have htb : tbF b P 4 (P + 64 * 1) = none := by
      unfold tbF
      rw [a5, a3, a2, htf, if_neg (by decide), if_neg (by omega), if_neg]
      intro q; exact q ⟨by omega, by omega⟩
    have hTx : txB b P (P + 64 * 1) = txL N N.length := by
      unfold txB
      rw [a4, a7, a8]; exact htx
    have htn : tnR b P 4 (P + 64 * 1) = (N, none) := by
      unfold tnR
      rw [htb, hTx, a2, a3, if_neg (by simp), show (24 + 24 * N.length) / 24 - 1 = N.length by omega, nm_all hN hen hf N.length (Nat.le_refl _), List.take_length]
    unfold nsR nsQ
    rw [hhd.f60, hhd.f40, hhd.f58, if_neg (by omega), if_neg (by decide), if_neg (by intro q; exact q ⟨by omega, by omega⟩), hfr, Option.elim_some, htn]
/-- WHAT READ SAYS OF A FILE THAT WRITE MADE. -/
theorem nd_rd {b : List Int} {E : BitVec 64} {L : List Sg} {N : List Sy} {D : Nat → List Int} (h : Nd b E.toNat L N D) (hc : ck E L N = 0) : rdF b = none ∧ vl b 24 8 = E.toNat ∧ paL b = ptsL L L.length ∧ nSrt (nsR b).1 = N := by
  obtain ⟨hE, hL, hN, hp, hf, hz⟩ := ck_all hc
  have hs := szz_lo L N
  have hlo := sk_lo L L.length
  have hlen := h.len
  have hpo : ∀ j, j < L.length → PfO L j := fun j hj => pf_ok (hp j hj)
  have hpr : prL b 64 L.length = (ptsL L L.length, none) := pr_all h.ph hpo (fun j hj => by have := plc_le L L.length j hj; omega) L.length (Nat.le_refl _)
  have hph := ph_none h.hd (by omega) hL
  have hns := h.names hN hf
  refine ⟨?_, h.hd.f24, ?_, ?_⟩
  · rw [rdF_ns (by omega) (id_none h.hd.mg (by omega) 7 0 (by omega)) (hd_none h.hd (by omega) hE) ?_, hns]
    unfold paF
    rw [hph, h.hd.f32, h.hd.f56, hpr]
    rfl
  · unfold paL
    rw [h.hd.f32, h.hd.f56, hpr]
    exact pts_srt hpo
  · rw [hns]; exact nf_srt hf
end Go.Proofs.YtheeogbmljjbdaaGreatDoor
