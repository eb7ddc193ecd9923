/-
  Dv.
-/
import Derived.Test.YthmjimmmkoeeoaaDoorM31
namespace Go.Proofs.YthmjimmmkoeeoaaDoor
set_option linter.unusedVariables false
set_option maxRecDepth 100000
open Go.ChangeShapes Go.WideShapes Go.ChangeAt Go.RowKit Go.Deep Go.Shelf
/-- Bytes of the call's own. -/
abbrev OB (B : Nat) (w : World) (v : Value) (l : Tx) : Prop := w.ownsRow B 5 1 v l.length (Lib.byteCells l)
theorem appB {ops : Array Oper} {rest : List Oper} {o : Oper} {a : Act} {w : World} {Q : Exit → Act → World → Prop} (hgd : o.guard = none) (s x : Operand) (ho : o.op = .call { callee := .builtin .append, args := #[s, x], argTypes := #[44, 9] })
    (B : Nat) (v : Value) (l m : Tx) (hs : a.eval s = v) (hp : OB B w v l) (hx : a.eval x = .string (tS m)) (hl : l.length + m.length ≤ 140000000000000) (hB : B ≤ w.heap.size)
    (h : ∀ v' w', OB B w' v' (l ++ m) → Below B w w' → wpList Tryd.prog ops Q rest (a.put o.dst v') w') : wpList Tryd.prog ops Q (o :: rest) a w := by
  obtain ⟨i0, hi, hz0, hz1, hz2⟩ := info_parts info5
  refine Go.Lib.wpList_append_own_string w hgd s x 44 9 ho B 5 i0 Tryd.underlying44 Tryd.underlying9 hi hz0 hz1 hz2 v l.length (Lib.byteCells l) hs hp (tS m) hx (by rw [tS_size]; unfold maxLen; omega) (by rw [tS_size]; omega) hB ?_
  intro v' w' h1 h2 _
  rw [tS_size] at h1
  exact h v' w' (by unfold OB; rw [List.length_append, Lib.byteCells_append]; exact h1) ((Below.refl _ _).grown h2 hB (fun k hk => (hp.lt k hk).1))
theorem appO {ops : Array Oper} {rest : List Oper} {o : Oper} {a : Act} {w : World} {Q : Exit → Act → World → Prop} (hgd : o.guard = none) (s x : Operand) (ho : o.op = .call { callee := .builtin .append, args := #[s, x], argTypes := #[44, 44] })
    (B : Nat) (v : Value) (l : Tx) (hs : a.eval s = v) (hp : OB B w v l) (g : Nat) (hx : a.eval x = .slice (some ⟨g, 0, none⟩) 1 1) (b : UInt8) (hc : w.cell? ⟨g, 0, none⟩ = some (.int .u8 b.toNat)) (hl : l.length + 1 ≤ 140000000000000) (hB : B ≤ w.heap.size)
    (h : ∀ v' w', OB B w' v' (l ++ [b]) → Below B w w' → wpList Tryd.prog ops Q rest (a.put o.dst v') w') : wpList Tryd.prog ops Q (o :: rest) a w := by
  obtain ⟨i0, hi, hz0, hz1, hz2⟩ := info_parts info5
  refine wpList_append_own _ hgd s x 44 ho B 5 i0 (.int .u8 0) 1 1 Tryd.underlying44 hi hz0 hz1 hz2 rfl (by decide) v l.length (Lib.byteCells l) hs hp ⟨g, 0, none⟩ 1 1 [.int .u8 b.toNat] hx rfl ?_ ?_ (by unfold maxLen; omega) (by omega) hB ?_
  · intro j u hj
    match j, hj with
    | 0, hj => cases hj; rw [addAt]; exact hc
  · intro u hu; simp at hu; subst hu; rfl
  · intro v' w' h1 h2 _
    exact h v' w' (by unfold OB; rw [List.length_append, Lib.byteCells_append]; exact h1) ((Below.refl _ _).grown h2 hB (fun k hk => (hp.lt k hk).1))
theorem OB.conv {B : Nat} {w : World} {v : Value} {l : Tx} (h : OB B w v l) : (convert 44 9 v).run Tryd.prog w = .ok (.string (tS l)) w := by
  have e : Lib.byteCells l = bv (l.map fun b => (b.toNat : Int)) := by unfold Lib.byteCells bv; rw [List.map_map]; rfl
  have h2 : w.ownsRow B 5 1 v l.length (bv (l.map fun b => (b.toNat : Int))) := by rw [← e]; exact h
  have := (Byt.of_own h2).conv
  rw [this]
  congr 2
  unfold strOfNums tS
  congr 1
  have q : ∀ l : Tx, l.map ((fun n : Int => UInt8.ofNat n.toNat) ∘ fun b : UInt8 => (b.toNat : Int)) = l := fun l => by
    induction l with
    | nil => rfl
    | cons a r ih => simp only [List.map_cons, ih, Function.comp]; rw [Int.toNat_natCast, UInt8.ofNat_toNat]
  simp [q]
theorem take_line (L : List Tx) (k : Nat) (h : k < L.length) : lnT (L.take (k + 1)) = lnT (L.take k) ++ L.getD k [] ++ [10] := by
  rw [List.take_succ_eq_append_getElem h, lnT_append, lnT_one]; simp [List.getD, h]
theorem lnT_take_le (L : List Tx) (k : Nat) : (lnT (L.take k)).length ≤ (lnT L).length := by
  have : lnT L = lnT (L.take k) ++ lnT (L.drop k) := by rw [← lnT_append, List.take_append_drop]
  rw [this, List.length_append]; omega
set_option maxHeartbeats 4000000 in
theorem rjoin_c (L : List Tx) (u : Value) (B2 : Nat) (w : World) (hu : w.ownsRow B2 9 1 u L.length (stv L)) (hn : L.length ≤ 1000000) (hl : (lnT L).length ≤ 100000000) : Calls Tryd.prog 17 #[u] w fun e w' => e = .returned (.string (tS (lnT L))) ∧ Below w.heap.size w w' := by
  have HC : Hid (∀ k, k < L.length → ∃ g cap, u = .slice (some ⟨g, 0, none⟩) L.length cap ∧ g < w.heap.size ∧ w.cell? ⟨g, k, none⟩ = some (.string (tS (L.getD k [])))) := fun k hk => by
    obtain ⟨g, cap, e, _, hg, hc⟩ := own_slice hu (by intro e; rw [e] at hk; simp at hk)
    refine ⟨g, cap, e, hg, ?_⟩
    have := hc k (L.getD k []) (by simp [List.getD, hk])
    rw [Nat.zero_add] at this; exact this
  have hform : ∃ a c, u = .slice a L.length c := by
    rcases hu.2 with ⟨rfl, h0⟩ | ⟨g, cap, cur, rfl, _⟩
    · exact ⟨none, 0, by rw [h0]⟩
    · exact ⟨_, _, rfl⟩
  obtain ⟨ua, uc, rfl⟩ := hform
  obtain ⟨N, hN⟩ : ∃ N, N = L.length := ⟨_, rfl⟩
  have HN : Hid (N = L.length) := hN
  have HL : Hid ((lnT L).length ≤ 100000000) := hl
  rw [← hN] at hn ⊢
  clear hu hl hN
  go_enter Tryd.func17, Tryd.ntmps17
  go_upto_region 3 with fail
  go_loopw [3, 4] (fun v i wr => ∃ k : Nat, k ≤ N ∧ i = .int .i64 k ∧ Hid (OB w.heap.size wr v (lnT (L.take k))) ∧ Hid (Below w.heap.size w wr)) (fun _ i _ => N - (intOf i).toNat)
  case atStart => exact ⟨0, Nat.zero_le _, rfl, ⟨rfl, .inl ⟨rfl, rfl⟩⟩, Below.refl _ _⟩
  case round =>
    obtain ⟨k, hk, rfl, HO, HB⟩ := hrel
    by_cases hlt : k < N
    · have hltI : (k : Int) < N := by omega
      obtain ⟨g, cap, e1, hg, hck⟩ := HC.out k (by rw [← HN.out]; exact hlt)
      rw [← HN.out] at e1
      cases e1
      have c0 : wr.cell? ⟨g, k, none⟩ = some (.string (tS (L.getD k []))) := (HB.out.cell (p := ⟨g, k, none⟩) hg).trans hck
      have HNX : Hid (lnT (L.take (k + 1)) = lnT (L.take k) ++ L.getD k [] ++ [10]) := take_line L k (by rw [← HN.out]; exact hlt)
      have HLL : Hid ((lnT (L.take k) ++ L.getD k [] ++ [10]).length ≤ 100000000) := by unfold Hid; rw [← HNX.out]; have := lnT_take_le L (k + 1); have := HL.out; omega
      generalize lnT (L.take k) = m at HO HNX HLL
      generalize L.getD k [] = x at c0 HNX HLL
      have HKN : Hid (k + 1 ≤ N) := hlt
      clear hck hg hlt
      go_wp2_with (first
        | (at_builtin; refine appB (by rfl) _ _ (by rfl) w.heap.size _ m x (by rfl) HO.out (by rfl) (by have := HLL.out; simp only [List.length_append] at this; omega) HB.out.size ?_; intro v1 w1 h1 h2; have HO1 : Hid (OB w.heap.size w1 v1 (m ++ x)) := h1; have HB1 : Hid (Below w.heap.size w w1) := HB.out.trans h2; clear h1 h2)
        | (at_builtin; refine appO (by rfl) _ _ (by rfl) w.heap.size _ (m ++ x) (by rfl) (World.ownsRow.alloc HO1.out _) _ (by rfl) 10 (cell_of_row _ w1.heap.size 0 _ _ _ (heap_alloc_new w1 _)) (by have := HLL.out; simp only [List.length_append, List.length_cons, List.length_nil] at *; omega) (by have := HB1.out.size; simp; omega) ?_; intro v2 w2 h1 h2; have HO2 : Hid (OB w.heap.size w2 v2 (m ++ x ++ [10])) := h1; have HB2 : Hid (Below w.heap.size w w2) := (HB1.out.alloc HB1.out.size _).trans h2; clear h1 h2))
      go_roundw
      case rel => exact ⟨k + 1, HKN.out, by go_num, by rw [HNX.out]; exact HO2, HB2⟩
      case measure => have := HKN.out; simp [intOf]; omega
    · have hke : k = N := by omega
      have hcv := HO.out.conv
      rw [hke, HN.out, List.take_length] at hcv
      clear hke
      obtain ⟨s, hs⟩ : ∃ s, s = tS (lnT L) := ⟨_, rfl⟩
      rw [← hs] at hcv
      have HS : Hid (s = tS (lnT L)) := hs
      clear hs
      go_wp2
      go_ret
      exact ⟨by rw [← HS.out]; rfl, HB.out⟩
theorem of8 {m n : Nat} (hm : m < 256) (hn : n < 256) (h : UInt8.ofNat m = UInt8.ofNat n) : m = n := by
  have := congrArg UInt8.toNat h
  rw [UInt8.toNat_ofNat', UInt8.toNat_ofNat'] at this
  omega
theorem hd_inj : ∀ a, a < 16 → ∀ b, b < 16 → hd a = hd b → a = b := by decide
theorem eB_inj (m n : Nat) (hm : m < 256) (hn : n < 256) (s t : Tx) (h : eB (m : Int) ++ s = eB (n : Int) ++ t) : m = n ∧ s = t := by
  have e92 : (92 : UInt8) = UInt8.ofNat 92 := rfl
  have e110 : (110 : UInt8) = UInt8.ofNat 110 := rfl
  have e120 : (120 : UInt8) = UInt8.ofNat 120 := rfl
  have cs : ∀ k : Nat, k < 256 → ((k = 34 ∨ k = 92) ∧ eB (k : Int) = [92, UInt8.ofNat k]) ∨ (k = 10 ∧ eB (k : Int) = [92, 110]) ∨ ((32 ≤ k ∧ k ≤ 126 ∧ k ≠ 92) ∧ eB (k : Int) = [UInt8.ofNat k]) ∨ eB (k : Int) = [92, 120, hd (k / 16), hd (k % 16)] := fun k hk => by
    unfold eB
    by_cases h1 : (k : Int) = 34 ∨ (k : Int) = 92
    · rw [if_pos h1, Int.toNat_natCast]; exact .inl ⟨by omega, rfl⟩
    · rw [if_neg h1]
      by_cases h2 : (k : Int) = 10
      · rw [if_pos h2]; exact .inr (.inl ⟨by omega, rfl⟩)
      · rw [if_neg h2]
        by_cases h3 : 32 ≤ (k : Int) ∧ (k : Int) ≤ 126
        · rw [if_pos h3, Int.toNat_natCast]; exact .inr (.inr (.inl ⟨by omega, rfl⟩))
        · rw [if_neg h3]; exact .inr (.inr (.inr rfl))
  rcases cs m hm with ⟨c1, q1⟩ | ⟨c1, q1⟩ | ⟨c1, q1⟩ | q1 <;> rcases cs n hn with ⟨c2, q2⟩ | ⟨c2, q2⟩ | ⟨c2, q2⟩ | q2 <;> rw [q1, q2] at h <;> simp only [List.cons_append, List.nil_append, List.cons.injEq, true_and] at h
  · exact ⟨of8 hm hn h.1, h.2⟩
  · have := of8 hm (by omega) (h.1.trans e110); omega
  · have := of8 (by omega) hn (e92.symm.trans h.1); omega
  · have := of8 hm (by omega) (h.1.trans e120); omega
  · have := of8 (by omega) hn (e110.symm.trans h.1); omega
  · exact ⟨by omega, h⟩
  · have := of8 (by omega) hn (e92.symm.trans h.1); omega
  · exact absurd h.1 (by decide)
  · have := of8 hm (by omega) (h.1.trans e92); omega
  · have := of8 hm (by omega) (h.1.trans e92); omega
  · exact ⟨of8 hm hn h.1, h.2⟩
  · have := of8 hm (by omega) (h.1.trans e92); omega
  · have := of8 (by omega) hn (e120.symm.trans h.1); omega
  · exact absurd h.1 (by decide)
  · have := of8 (by omega) hn (e92.symm.trans h.1); omega
  · have h1 := hd_inj _ (by omega) _ (by omega) h.1
    have h2 := hd_inj _ (by omega) _ (by omega) h.2.1
    exact ⟨by omega, h.2.2⟩
theorem eB_ne (z : Int) : eB z ≠ [] := by unfold eB; repeat' split
                                          all_goals simp
theorem qB_inj : ∀ (a b : List Int), AllB a → AllB b → qB a = qB b → a = b
  | [], [], _, _, _ => rfl
  | [], z :: b, _, _, h => by
    have : eB z ++ qB b = [] := by simpa [qB] using h.symm
    exact absurd (List.append_eq_nil_iff.1 this).1 (eB_ne z)
  | z :: a, [], _, _, h => by
    have : eB z ++ qB a = [] := by simpa [qB] using h
    exact absurd (List.append_eq_nil_iff.1 this).1 (eB_ne z)
  | y :: a, z :: b, ha, hb, h => by
    obtain ⟨h1, h2⟩ := ha y (by simp)
    obtain ⟨h3, h4⟩ := hb z (by simp)
    obtain ⟨m, rfl⟩ := Int.eq_ofNat_of_zero_le h1
    obtain ⟨n, rfl⟩ := Int.eq_ofNat_of_zero_le h3
    have h5 : eB (m : Int) ++ qB a = eB (n : Int) ++ qB b := by simpa [qB] using h
    obtain ⟨rfl, h6⟩ := eB_inj m n (by omega) (by omega) _ _ h5
    rw [qB_inj a b (fun x hx => ha x (by simp [hx])) (fun x hx => hb x (by simp [hx])) h6]
theorem qT_inj (a b : List Int) (ha : AllB a) (hb : AllB b) (h : qT a = qT b) : a = b := by
  unfold qT at h
  have h1 := List.append_cancel_right h
  exact qB_inj a b ha hb (List.append_cancel_left h1)
set_option maxHeartbeats 4000000 in
theorem wdX_inj (x y : Wd) (ha : AllB x.i) (hb : AllB y.i) (h : wdX x = wdX y) : x = y := by
  obtain ⟨t1, e1, s1, i1⟩ := x
  obtain ⟨t2, e2, s2, i2⟩ := y
  unfold wdX at h
  simp only at h ha hb
  have hi : ∀ q1 q2 : Tx, q1 = (if i1 = [] then ([] : Tx) else [32, 105, 110, 112, 117, 116, 32] ++ qT i1) → q2 = (if i2 = [] then ([] : Tx) else [32, 105, 110, 112, 117, 116, 32] ++ qT i2) → (q1 = [] ∨ ∃ r, q1 = 32 :: 105 :: r) ∧ (q2 = [] ∨ ∃ r, q2 = 32 :: 105 :: r) ∧ (q1 = q2 → i1 = i2) := fun q1 q2 h1 h2 => by
    refine ⟨?_, ?_, ?_⟩
    · rw [h1]; split
      · exact .inl rfl
      · exact .inr ⟨_, rfl⟩
    · rw [h2]; split
      · exact .inl rfl
      · exact .inr ⟨_, rfl⟩
    · rw [h1, h2]; intro e
      by_cases a1 : i1 = [] <;> by_cases a2 : i2 = []
      · rw [a1, a2]
      · rw [if_pos a1, if_neg a2] at e; simp at e
      · rw [if_neg a1, if_pos a2] at e; simp at e
      · rw [if_neg a1, if_neg a2] at e; exact qT_inj _ _ ha hb (List.append_cancel_left e)
  obtain ⟨k1, k2, k3⟩ := hi _ _ rfl rfl
  generalize (if i1 = [] then ([] : Tx) else [32, 105, 110, 112, 117, 116, 32] ++ qT i1) = q1 at h k1 k3
  generalize (if i2 = [] then ([] : Tx) else [32, 105, 110, 112, 117, 116, 32] ++ qT i2) = q2 at h k2 k3
  have key : t1 = t2 ∧ e1 = e2 ∧ s1 = s2 ∧ q1 = q2 := by
    rcases k1 with rfl | ⟨r1, rfl⟩ <;> rcases k2 with rfl | ⟨r2, rfl⟩ <;> cases t1 <;> cases t2 <;> cases e1 <;> cases e2 <;> cases s1 <;> cases s2 <;> simp_all
  obtain ⟨rfl, rfl, rfl, rfl⟩ := key
  rw [k3 rfl]
theorem wdX_eqb (x y : Wd) (ha : AllB x.i) (hb : AllB y.i) : alB x y = true ∨ (alB x y = false ∧ ¬ (tS (wdX y)).toList = (tS (wdX x)).toList ∧ (tS (wdX y) == tS (wdX x)) = false ∧ ¬ tS (wdX y) = tS (wdX x)) := by
  cases h : alB x y
  · refine .inr ⟨rfl, ?_⟩
    have hne : ¬ wdX y = wdX x := fun e => by
      have := alB_iff.2 (wdX_inj x y ha hb e.symm)
      rw [h] at this; cases this
    refine ⟨fun e => hne ?_, ?_, fun e => hne (tS_inj.1 e)⟩
    · rw [Lib.toList_data, Lib.toList_data, tS_list, tS_list] at e; exact e
    · show ((wdX y).toArray == (wdX x).toArray) = false
      rw [beq_eq_false_iff_ne]; exact fun e => hne (by simpa using congrArg Array.toList e)
  · exact .inl rfl
end Go.Proofs.YthmjimmmkoeeoaaDoor
