/-
  Itx Ind Ine.
-/
import Derived.Test.YtheeogbmljjbdaaGreatDoorM02
import Derived.Test.YtheeogbmljjbdaaGreatDoorM11
import Derived.Test.YtheeogbmljjbdaaGreatDoorM01
import Derived.WalkSmall
import Derived.Deep.RegionWith
import Derived.StillTailTactics
namespace Go.Proofs.YtheeogbmljjbdaaGreatDoor
set_option linter.unusedVariables false
open Go.ChangeShapes Go.WideShapes Go.ChangeAt Go.RowKit Go.Deep
/-- Parts that differ at most in where their bytes lie. -/
structure Alike (L M : List Sg) : Prop where
  len : M.length = L.length
  a : ∀ j, j < L.length → (sg M j).a = (sg L j).a
  s : ∀ j, j < L.length → (sg M j).s = (sg L j).s
  f : ∀ j, j < L.length → (sg M j).f = (sg L j).f
  n : ∀ j, j < L.length → (sg M j).n = (sg L j).n
/-- The cells of names, one behind the other. -/
def syv (x : Sy) : List Value := [.string x.s, .int .u64 (n64 x.v)]
def syl (N : List Sy) : List Value := N.flatMap syv
theorem syl_length (N : List Sy) : (syl N).length = N.length * 2 := by
  induction N with
  | nil => rfl
  | cons x N ih => simp only [syl, List.flatMap_cons, List.length_append, List.length_cons] at *; rw [ih]; simp [syv]; omega
theorem syl_get (N : List Sy) (j c : Nat) (hj : j < N.length) (hc : c < 2) : (syl N)[j * 2 + c]? = (syv (sy N j))[c]? := by
  induction N generalizing j with
  | nil => simp at hj
  | cons x N ih =>
    have e : syl (x :: N) = syv x ++ syl N := rfl
    rw [e]
    cases j with
    | zero => rw [Nat.zero_mul, Nat.zero_add, List.getElem?_append_left (by simp [syv]; exact hc)]; rfl
    | succ j =>
      rw [List.getElem?_append_right (by simp [syv]; omega), show (j + 1) * 2 + c - (syv x).length = j * 2 + c by simp [syv]; omega, ih j (by simpa using hj)]
      rfl
theorem Sys.of_own {w : World} {B : Nat} {v : Value} {N : List Sy} (h : w.ownsRow B 87 2 v N.length (syl N)) : Sys w v N := by
  rcases Go.Joins.ownsRow_forms h with ⟨rfl, h0⟩ | ⟨g, cap, rfl⟩
  · have hl0 : N = [] := List.eq_nil_of_length_eq_zero h0
    subst hl0
    exact ⟨none, 0, rfl, Nat.le_refl _, fun hn => absurd rfl hn⟩
  · have hcap : N.length ≤ cap := by
      rcases h.2 with ⟨h', _⟩ | ⟨g', cap', cur, h', _, _, hn, _⟩
      · simp at h'
      · simp only [Value.slice.injEq] at h'; obtain ⟨_, _, rfl⟩ := h'; exact hn
    refine ⟨_, cap, rfl, hcap, fun hn => ⟨g, 0, rfl, (h.lt g rfl).2, fun j hj => ?_⟩⟩
    have k : ∀ c, c < 2 → w.cell? ⟨g, j * 2 + c, none⟩ = (syv (sy N j))[c]? := fun c hc => by
      rw [h.cellAt (j * 2 + c) (by omega)]; exact syl_get N j c hj hc
    rw [Nat.zero_add]
    exact ⟨k 0 (by omega), k 1 (by omega)⟩
/-- Names appended to none. -/
theorem appN {ops : Array Oper} {rest : List Oper} {o : Oper} {a : Act} {w : World} {Q : Exit → Act → World → Prop} (hgd : o.guard = none) (s x : Operand) (ho : o.op = .call { callee := .builtin .append, args := #[s, x], argTypes := #[24, 24] })
    (u : Value) (N : List Sy) (hs : a.eval s = .slice none 0 0) (hx : a.eval x = u) (hu : Sys w u N) (hnil : Hid (∀ c k, u = .slice none k c → k = 0 ∧ c = 0)) (hl : N.length * 24 ≤ 140737488355328)
    (h : ∀ ad c' w', Below w.heap.size w w' → w'.ownsRow w.heap.size 87 2 (.slice ad N.length c') N.length (syl N) → wpList Tryz.prog ops Q rest (a.put o.dst (.slice ad N.length c')) w') :
    wpList Tryz.prog ops Q (o :: rest) a w := by
  obtain ⟨i0, hi, hz0, hz1, hz2⟩ := info_parts info51
  obtain ⟨ao, cap, rfl, h1, h2⟩ := hu
  cases ao with
  | none =>
    obtain ⟨hl0, hc0⟩ := hnil.out _ _ rfl
    have hN : N = [] := List.eq_nil_of_length_eq_zero hl0
    subst hN; subst hc0
    have hown := World.ownsRow_nil w w.heap.size 87 2
    refine wpList_append_own_none hgd s x 24 ho w.heap.size 87 i0 2 Tryz.underlying24 hi _ 0 [] hs hown hx ?_
    exact h _ _ _ (Below.refl _ _) hown
  | some ad =>
    refine wpList_append_own _ hgd s x 24 ho w.heap.size 87 i0 (.agg #[.string ⟨#[]⟩, .int .u64 0]) 2 24 Tryz.underlying24 hi hz0 hz1 hz2 rfl (by decide) _ 0 [] hs (World.ownsRow_nil _ _ _ _) ad N.length cap (syl N) hx (syl_length N) ?_ ?_ (by unfold maxLen; omega) (by omega) (Nat.le_refl _) ?_
    · intro j w2 hj
      have hjl : j < N.length * 2 := by have := (List.getElem?_eq_some_iff.1 hj).1; rw [syl_length] at this; exact this
      obtain ⟨g, off, he, h3, h4⟩ := h2 (by intro e; rw [e] at hjl; simp at hjl)
      cases he
      rw [addAt]
      obtain ⟨c0, c1⟩ := h4 (j / 2) (by omega)
      rcases Nat.mod_two_eq_zero_or_one j with hm | hm
      · have ej : j = j / 2 * 2 + 0 := by omega
        rw [ej, syl_get N (j / 2) 0 (by omega) (by omega)] at hj
        have hw2 : w2 = .string (sy N (j / 2)).s := (Option.some.inj hj).symm
        have eo : off + j = off + j / 2 * 2 := by omega
        rw [hw2, eo]; exact c0
      · have ej : j = j / 2 * 2 + 1 := by omega
        rw [ej, syl_get N (j / 2) 1 (by omega) (by omega)] at hj
        have hw2 : w2 = .int .u64 (n64 (sy N (j / 2)).v) := (Option.some.inj hj).symm
        have eo : off + j = off + j / 2 * 2 + 1 := by omega
        rw [hw2, eo]; exact c1
    · intro w2 hw2
      simp only [syl, List.mem_flatMap] at hw2
      obtain ⟨y, _, hy⟩ := hw2
      simp [syv] at hy
      rcases hy with rfl | rfl <;> rfl
    · intro v' w' g1 g2 _
      have hbl : Below w.heap.size w w' := (Below.refl _ _).grown g2 (Nat.le_refl _) (fun k hk => by cases hk)
      have g1' : w'.ownsRow w.heap.size 87 2 v' N.length (syl N) := by simpa using g1
      rcases Go.Joins.ownsRow_forms g1' with ⟨rfl, h0⟩ | ⟨g', c', rfl⟩
      · have := h none 0 w' hbl (by rw [h0] at g1' ⊢; exact g1')
        rw [h0] at this; exact this
      · exact h _ c' w' hbl g1'
/-- Where twin stands behind the first k parts. -/
structure TW (E : BitVec 64) (L : List Sg) (k Pb : Nat) (sv : Value) (w1 wr : World) : Prop where
  blk : wr.heap[Pb]? = some (.cells #[.int .u64 (n64 E), sv, .slice none 0 0] 26 (0, 0))
  own : ∃ M : List Sg, M.length = k ∧ (∀ j, j < k → (sg M j).a = (sg L j).a ∧ (sg M j).s = (sg L j).s ∧ (sg M j).f = (sg L j).f ∧ (sg M j).n = (sg L j).n) ∧ wr.ownsRow (Pb + 1) 61 4 sv M.length (sgl M)
  below : Below Pb w1 wr
end Go.Proofs.YtheeogbmljjbdaaGreatDoor
namespace Go.Proofs.YtheeogbmljjbdaaGreatDoor
set_option linter.unusedVariables false
open Go.ChangeShapes Go.WideShapes Go.ChangeAt Go.RowKit Go.Deep
/-- The order of texts, as Go has it. -/
def lS (s t : ByteArray) : Bool := Op.bytesLess s.toList t.toList
theorem less_tri : ∀ x y : List UInt8, Op.bytesLess x y = (!Op.bytesLess y x && !(y == x))
  | [], [] => rfl
  | [], _ :: _ => rfl
  | _ :: _, [] => rfl
  | a :: x, b :: y => by
    have ih := less_tri x y
    have e0 : ((b :: y) == (a :: x)) = ((b == a) && (y == x)) := rfl
    rw [e0]
    unfold Op.bytesLess
    rcases Nat.lt_trichotomy a.toNat b.toNat with h | h | h
    · have h1 : a < b := UInt8.lt_iff_toNat_lt.2 h
      have h2 : ¬ b < a := fun q => by have := UInt8.lt_iff_toNat_lt.1 q; omega
      have h3 : (b == a) = false := by rw [Bool.eq_false_iff]; intro q; have := eq_of_beq q; rw [this] at h; omega
      simp [h1, h2, h3]
    · have h0 : a = b := UInt8.toNat_inj.1 h
      subst h0
      have h1 : ¬ a < a := fun q => by have := UInt8.lt_iff_toNat_lt.1 q; omega
      simp [h1]
      exact ih
    · have h1 : b < a := UInt8.lt_iff_toNat_lt.2 h
      have h2 : ¬ a < b := fun q => by have := UInt8.lt_iff_toNat_lt.1 q; omega
      have h3 : (a == b) = false := by rw [Bool.eq_false_iff]; intro q; have := eq_of_beq q; rw [this] at h; omega
      simp [h1, h2, h3]
theorem cmpU_c (x y : BitVec 64) (w : World) (z : Int) (hz : Hid (z = if x.toNat < y.toNat then -1 else if y.toNat < x.toNat then 1 else 0)) :
    Calls Tryz.prog 75 #[.int .u64 (n64 x), .int .u64 (n64 y)] w fun e w' => e = .returned (.int .i64 z) ∧ w' = w := by
  have hzz := hz.out
  by_cases h1 : x.toNat < y.toNat
  · rw [if_pos h1] at hzz
    subst hzz
    have g : n64 x < n64 y := by unfold n64; omega
    clear hz h1
    go_enter Tryz.func75, Tryz.ntmps75
    go_wp2
    go_ret
    exact ⟨rfl, rfl⟩
  · rw [if_neg h1] at hzz
    have g : n64 y ≤ n64 x := by unfold n64; omega
    by_cases h2 : y.toNat < x.toNat
    · rw [if_pos h2] at hzz
      subst hzz
      have g2 : n64 y < n64 x := by unfold n64; omega
      clear hz h1 h2 g
      go_enter Tryz.func75, Tryz.ntmps75
      go_wp2
      go_ret
      exact ⟨rfl, rfl⟩
    · rw [if_neg h2] at hzz
      subst hzz
      have g2 : n64 x ≤ n64 y := by unfold n64; omega
      clear hz h1 h2
      go_enter Tryz.func75, Tryz.ntmps75
      go_wp2
      go_ret
      exact ⟨rfl, rfl⟩
theorem cmpS_c (s t : ByteArray) (w : World) (z : Int) (hz : Hid (z = if lS s t then -1 else if s.toList == t.toList then 0 else 1)) :
    Calls Tryz.prog 76 #[.string s, .string t] w fun e w' => e = .returned (.int .i64 z) ∧ w' = w := by
  have hzz := hz.out
  unfold lS at hzz
  cases h1 : Op.bytesLess s.toList t.toList with
  | true =>
    rw [h1] at hzz
    simp only [if_true] at hzz
    subst hzz
    clear hz
    go_enter Tryz.func76, Tryz.ntmps76
    go_wp2
    go_ret
    exact ⟨rfl, rfl⟩
  | false =>
    rw [h1] at hzz
    cases h2 : (s.toList == t.toList) with
    | true =>
      rw [h2] at hzz
      simp only [if_true, Bool.false_eq_true, if_false] at hzz
      subst hzz
      clear hz
      go_enter Tryz.func76, Tryz.ntmps76
      go_wp2
      go_ret
      exact ⟨rfl, rfl⟩
    | false =>
      rw [h2] at hzz
      simp only [Bool.false_eq_true, if_false] at hzz
      subst hzz
      clear hz
      go_enter Tryz.func76, Tryz.ntmps76
      go_wp2
      go_ret
      exact ⟨rfl, rfl⟩
set_option maxHeartbeats 1000000 in
theorem or_c (g : Nat) (a b z : Int) (hz : Hid (z = if a = 0 then b else a)) (w : World) (h0 : w.cell? ⟨g, 0, none⟩ = some (.int .i64 a)) (h1 : w.cell? ⟨g, 1, none⟩ = some (.int .i64 b)) :
    Calls Tryz.prog 74 #[.slice (some ⟨g, 0, none⟩) 2 2] w fun e w' => e = .returned (.int .i64 z) ∧ w' = w := by
  go_enter Tryz.func74, Tryz.ntmps74
  go_wp2
  go_loopw [8] (fun i wr => Hid (i = .int .i64 0 ∨ (i = .int .i64 1 ∧ a = 0) ∨ (i = .int .i64 2 ∧ a = 0 ∧ b = 0)) ∧ wr = w) (fun i _ => 2 - (intOf i).toNat)
  case atStart => exact ⟨.inl rfl, rfl⟩
  case round =>
    obtain ⟨hi, rfl⟩ := hrel
    rcases hi.out with rfl | ⟨rfl, ha⟩ | ⟨rfl, ha, hb⟩
    · clear hi
      by_cases ha : a = 0
      · have HA : Hid (a = 0) := ha
        have ha' : (a != 0) = false := by simp [ha]
        clear ha
        go_wp2
        go_roundw
        case rel => exact ⟨.inr (.inl ⟨rfl, HA.out⟩), trivial⟩
        case measure => simp [intOf]
      · have HA : Hid (z = a) := by unfold Hid; rw [hz.out, if_neg ha]
        have ha' : (a != 0) = true := by simp [ha]
        clear ha
        go_wp2
        go_ret
        exact ⟨by rw [HA.out]; rfl, rfl⟩
    · have HA : Hid (a = 0) := ha
      clear hi ha
      by_cases hb : b = 0
      · have HB : Hid (b = 0) := hb
        have hb' : (b != 0) = false := by simp [hb]
        clear hb
        go_wp2
        go_roundw
        case rel => exact ⟨.inr (.inr ⟨rfl, HA.out, HB.out⟩), trivial⟩
        case measure => simp [intOf]
      · have HB : Hid (z = b) := by unfold Hid; rw [hz.out, if_pos HA.out]
        have hb' : (b != 0) = true := by simp [hb]
        clear hb
        go_wp2
        go_ret
        exact ⟨by rw [HB.out]; rfl, rfl⟩
    · have HB : Hid (z = 0) := by unfold Hid; rw [hz.out, if_pos ha, hb]
      clear hi ha hb
      go_wp2
      go_ret
      exact ⟨by rw [HB.out]; rfl, rfl⟩
/-- A name that stands ahead of another. -/
def ahead (s : ByteArray) (x : BitVec 64) (t : ByteArray) (y : BitVec 64) : Bool := decide (x.toNat < y.toNat) || (decide (x.toNat = y.toNat) && lS s t)
end Go.Proofs.YtheeogbmljjbdaaGreatDoor
namespace Go.Proofs.YtheeogbmljjbdaaGreatDoor
set_option linter.unusedVariables false
open Go.ChangeShapes Go.WideShapes Go.ChangeAt Go.RowKit Go.Deep
/-- What compareNames tells. -/
def cz (s t : ByteArray) (x y : BitVec 64) : Int :=
  if (if x.toNat < y.toNat then (-1 : Int) else if y.toNat < x.toNat then 1 else 0) = 0 then (if lS s t then -1 else if s.toList == t.toList then 0 else 1) else (if x.toNat < y.toNat then (-1 : Int) else if y.toNat < x.toNat then 1 else 0)
theorem or_b (g : Nat) (a b z : Int) (hz : Hid (z = if a = 0 then b else a)) (w : World) (h0 : w.cell? ⟨g, 0, none⟩ = some (.int .i64 a)) (h1 : w.cell? ⟨g, 1, none⟩ = some (.int .i64 b)) :
    Calls Tryz.prog 74 #[.slice (some ⟨g, 0, none⟩) 2 2] w fun e w' => e = .returned (.int .i64 z) ∧ Hid (Below w.heap.size w w') :=
  (or_c g a b z hz w h0 h1).mono fun e w' ⟨h1, h2⟩ => ⟨h1, by rw [h2]; exact Below.refl _ _⟩
set_option maxHeartbeats 2000000 in
set_option maxRecDepth 100000 in
theorem compare_c (s t : ByteArray) (x y : BitVec 64) (w : World) :
    Calls Tryz.prog 45 #[.agg #[.string s, .int .u64 (n64 x)], .agg #[.string t, .int .u64 (n64 y)]] w fun e w' => ∃ z, e = .returned (.int .i64 z) ∧ decide (0 ≤ z) = !ahead s x t y ∧ Hid (z = cz s t x y) ∧ Below w.heap.size w w' := by
  obtain ⟨a, ha⟩ : ∃ a : Int, a = if x.toNat < y.toNat then -1 else if y.toNat < x.toNat then 1 else 0 := ⟨_, rfl⟩
  obtain ⟨b, hb⟩ : ∃ b : Int, b = if lS s t then -1 else if s.toList == t.toList then 0 else 1 := ⟨_, rfl⟩
  obtain ⟨z, hz⟩ : ∃ z : Int, z = if a = 0 then b else a := ⟨_, rfl⟩
  have HA : Hid (a = if x.toNat < y.toNat then -1 else if y.toNat < x.toNat then 1 else 0) := ha
  have HB : Hid (b = if lS s t then -1 else if s.toList == t.toList then 0 else 1) := hb
  have HZ : Hid (z = if a = 0 then b else a) := hz
  have HE : Hid (decide (0 ≤ z) = !ahead s x t y) := by
    unfold Hid ahead
    rw [hz, ha, hb]
    by_cases h1 : x.toNat < y.toNat
    · simp [h1]
    · by_cases h2 : y.toNat < x.toNat
      · have : ¬ x.toNat = y.toNat := by omega
        simp [h1, h2, this]
      · have : x.toNat = y.toNat := by omega
        cases lS s t
        · simp [this]; split <;> simp
        · simp [this]
  have HZC : Hid (z = cz s t x y) := by unfold Hid cz; rw [hz, ha, hb]
  clear ha hb hz
  go_enter Tryz.func45, Tryz.ntmps45
  go_wp2_with fail
  have k0 : ((w.alloc (.cells #[.string s, .int .u64 (n64 x)] 87)).alloc (.cells #[.string t, .int .u64 (n64 y)] 87)).cell? ⟨w.heap.size, 0, none⟩ = some (.string s) := by rw [alloc2_0]; rfl
  have k1 : ((w.alloc (.cells #[.string s, .int .u64 (n64 x)] 87)).alloc (.cells #[.string t, .int .u64 (n64 y)] 87)).cell? ⟨w.heap.size, 1, none⟩ = some (.int .u64 (n64 x)) := by rw [alloc2_0]; rfl
  have k2 : ((w.alloc (.cells #[.string s, .int .u64 (n64 x)] 87)).alloc (.cells #[.string t, .int .u64 (n64 y)] 87)).cell? ⟨w.heap.size + 1, 0, none⟩ = some (.string t) := by rw [alloc2_1]; rfl
  have k3 : ((w.alloc (.cells #[.string s, .int .u64 (n64 x)] 87)).alloc (.cells #[.string t, .int .u64 (n64 y)] 87)).cell? ⟨w.heap.size + 1, 1, none⟩ = some (.int .u64 (n64 y)) := by rw [alloc2_1]; rfl
  have HB2 : Hid (Below w.heap.size w ((w.alloc (.cells #[.string s, .int .u64 (n64 x)] 87)).alloc (.cells #[.string t, .int .u64 (n64 y)] 87))) := ((Below.refl _ _).alloc (Nat.le_refl _) _).alloc (by simp) _
  generalize (w.alloc (.cells #[.string s, .int .u64 (n64 x)] 87)).alloc (.cells #[.string t, .int .u64 (n64 y)] 87) = W2 at *
  refine wp_region_still_tail 10 (by kernel_rfl) (by kernel_rfl) ?_
  change wpStill _ _ W2.drew (fun a' => wpList _ _ _ _ a' W2.drew) _ _
  simp only [List.take_succ_cons, List.take_zero, List.drop_succ_cons, List.drop_zero]
  still_step
  still_step
  still_step
  still_step
  still_call (cmpU_c x y _ a HA)
  still_step
  still_step
  still_step
  still_step
  still_call (cmpS_c s t _ b HB)
  refine wpStill_nil ?_
  go_wp2_with (go_at_call 74; refine (or_b W2.heap.size a b z HZ _ (by simp) (by simp)).mono ?_; rintro e w' ⟨rfl, hbl⟩)
  go_ret
  have h0 := HB2.out.alloc HB2.out.size (.cells #[.int .i64 a, .int .i64 b] 3)
  exact ⟨z, rfl, HE.out, HZC, h0.drew.trans ((show Below _ _ _ from hbl.out).mono (Nat.le_trans HB2.out.size (by simp)))⟩
theorem compare_z (s t : ByteArray) (x y : BitVec 64) (w : World) :
    Calls Tryz.prog 45 #[.agg #[.string s, .int .u64 (n64 x)], .agg #[.string t, .int .u64 (n64 y)]] w fun e w' => e = .returned (.int .i64 (cz s t x y)) ∧ Below w.heap.size w w' := by
  refine (compare_c s t x y w).mono ?_
  rintro e w' ⟨z, rfl, _, h, hb⟩
  exact ⟨by rw [h.out], hb⟩
theorem cz_ahead (s t : ByteArray) (x y : BitVec 64) : decide (0 ≤ cz s t x y) = !ahead s x t y := by
  unfold cz ahead
  by_cases h1 : x.toNat < y.toNat
  · simp [h1]
  · by_cases h2 : y.toNat < x.toNat
    · have : ¬ x.toNat = y.toNat := by omega
      simp [h1, h2, this]
    · have : x.toNat = y.toNat := by omega
      cases lS s t
      · simp [this]; split <;> simp
      · simp [this]
end Go.Proofs.YtheeogbmljjbdaaGreatDoor
