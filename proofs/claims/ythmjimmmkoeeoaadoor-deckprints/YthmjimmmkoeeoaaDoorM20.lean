/-
  Dj.
-/
import Derived.Test.YthmjimmmkoeeoaaDoorM18
import Derived.Test.YthmjimmmkoeeoaaDoorM19
import Derived.Laws.AppendOwnNone
namespace Go.Proofs.YthmjimmmkoeeoaaDoor
set_option linter.unusedVariables false
set_option maxRecDepth 100000
open Go.ChangeShapes Go.WideShapes Go.ChangeAt Go.RowKit Go.Deep Go.Shelf
/-- Texts, as cells. -/
def stv (L : List Tx) : List Value := L.map fun x => .string (tS x)
theorem stv_length (L : List Tx) : (stv L).length = L.length := by simp [stv]
theorem stv_append (L M : List Tx) : stv (L ++ M) = stv L ++ stv M := by simp [stv]
theorem info_st : (Tryd.prog.info? 9).map (fun i => (i.zero, i.size, i.bytes)) = some (some (.string ⟨#[]⟩), 1, 16) := by kernel_rfl
/-- What is no row of texts stays. -/
def Kst (w w' : World) : Prop := ∀ (k : Nat) (cs : Array Value) (t : TypeId) (z : Nat × Nat), w.heap[k]? = some (.cells cs t z) → t ≠ 9 → w'.heap[k]? = some (.cells cs t z)
theorem Kst.refl (w : World) : Kst w w := fun _ _ _ _ h _ => h
theorem Kst.trans {a b c : World} (h : Kst a b) (k : Kst b c) : Kst a c := fun g cs t z q ht => k g cs t z (h g cs t z q ht) ht
theorem Kst.of_below {w w' : World} (h : Below w.heap.size w w') : Kst w w' := fun g cs t z q _ => by rw [h.block g (Array.getElem?_eq_some_iff.1 q).1]; exact q
/-- Texts appended to a row of the call's own. -/
theorem appW {ops : Array Oper} {rest : List Oper} {o : Oper} {a : Act} {w : World} {Q : Exit → Act → World → Prop} (hgd : o.guard = none) (s x : Operand) (ho : o.op = .call { callee := .builtin .append, args := #[s, x], argTypes := #[50, 50] })
    (B : Nat) (v : Value) (L : List Tx) (hs : a.eval s = v) (hown : w.ownsRow B 9 1 v L.length (stv L)) (M : List Tx) (g off c : Nat) (hx : a.eval x = .slice (some ⟨g, off, none⟩) M.length c)
    (hc : ∀ (j : Nat) (y : Tx), M[j]? = some y → w.cell? ⟨g, off + j, none⟩ = some (.string (tS y))) (hl : L.length + M.length ≤ 1000000) (hB : B ≤ w.heap.size)
    (h : ∀ v' w', w'.ownsRow B 9 1 v' (L ++ M).length (stv (L ++ M)) → Below B w w' → Kst w w' → wpList Tryd.prog ops Q rest (a.put o.dst v') w') : wpList Tryd.prog ops Q (o :: rest) a w := by
  obtain ⟨i0, hi, hz0, hz1, hz2⟩ := info_parts info_st
  refine wpList_append_own _ hgd s x 50 ho B 9 i0 (.string ⟨#[]⟩) 1 16 Tryd.underlying50 hi hz0 hz1 hz2 rfl (by decide) v L.length (stv L) hs hown ⟨g, off, none⟩ M.length c (stv M) hx (by rw [stv_length, Nat.mul_one]) ?_ ?_ (by unfold maxLen; omega) (by omega) hB ?_
  · intro j u hj
    rw [addAt]
    have : (stv M)[j]? = (M[j]?).map fun x => Value.string (tS x) := by simp [stv]
    rw [this] at hj
    obtain ⟨y, hy, rfl⟩ := Option.map_eq_some_iff.1 hj
    exact hc j y hy
  · intro u hu; simp [stv] at hu; obtain ⟨y, _, rfl⟩ := hu; rfl
  · intro v' w' h1 h2 _
    refine h v' w' (by rw [List.length_append, stv_append]; exact h1) ((Below.refl _ _).grown h2 hB (fun k hk => (hown.lt k hk).1)) (fun k cs t z q ht => ?_)
    have hk := (Array.getElem?_eq_some_iff.1 q).1
    by_cases e : v.ownBlock = some k
    · rcases hown.2 with ⟨rfl, _⟩ | ⟨g', cap, cu, rfl, _, h3, _⟩
      · cases e
      · cases e
        rw [h3] at q
        simp only [Option.some.injEq, Obj.cells.injEq] at q
        exact absurd q.2.1.symm ht
    · rw [h2.block k hk (fun q => e q.symm)]
      exact q
theorem own_nilW (w : World) (B : Nat) : w.ownsRow B 9 1 (.slice none 0 0) ([] : List Tx).length (stv []) := ⟨by simp [stv], .inl ⟨rfl, rfl⟩⟩
theorem bs1 (w : World) (a : Tx) : ∀ (j : Nat) (x : Tx), [a][j]? = some x → (w.alloc (.cells #[.string (tS a)] 9)).cell? ⟨w.heap.size, 0 + j, none⟩ = some (.string (tS x)) := fun j x hx =>
  match j, hx with
  | 0, hx => by cases hx; rw [Nat.zero_add]; exact cell_of_row _ w.heap.size 0 _ _ _ (heap_alloc_new w _)
  | j + 1, hx => by simp at hx
theorem ownW_al {w : World} {B : Nat} {v : Value} {L : List Tx} (h : w.ownsRow B 9 1 v L.length (stv L)) (o : Obj) : (w.alloc o).ownsRow B 9 1 v L.length (stv L) := h.alloc o
theorem ownW_later {w w' : World} {B : Nat} {v : Value} {L : List Tx} (h : w.ownsRow B 9 1 v L.length (stv L)) (hb : Below w.heap.size w w') : w'.ownsRow B 9 1 v L.length (stv L) := own_later h hb rfl
def ABC (t e s : Bool) (L : List Tx) : List Tx := (if t then [[116, 105, 99, 107]] else []) ++ (if e then [[101, 120, 116]] else []) ++ (if s then [[115, 111, 102, 116]] else []) ++ L
set_option maxHeartbeats 8000000 in
theorem wdWords_c (t e s : Bool) (i : List Int) (hA : AllB i) (hl : i.length ≤ 1000) (v : Value) (w : World) (hv : Byt w v i) : Calls Tryd.prog 50 #[.agg #[.bool t, .bool e, .bool s, v]] w fun en w' => ∃ u, en = .returned u ∧ w'.ownsRow w.heap.size 9 1 u (wdW ⟨t, e, s, i⟩).length (stv (wdW ⟨t, e, s, i⟩)) ∧ Below w.heap.size w w' := by
  have HV : Hid (∀ w', Below w.heap.size w w' → Byt w' v i) := fun w' hb => hv.later hb rfl
  have HQ : Hid (∀ w', Below w.heap.size w w' → Calls Tryd.prog 67 #[v] w' fun en w'' => en = .returned (.string (tS (qT i))) ∧ Below w'.heap.size w' w'') := fun w' hb => quoted_c hA hl v w' (HV.out w' hb)
  obtain ⟨ad, cap, rfl, hc1, hc2, hc3⟩ := hv
  obtain ⟨W0, hW0, r0, b0, s0⟩ := start1 w #[.bool t, .bool e, .bool s, .slice ad i.length cap] 48
  have k0 := r0.out.cell 0
  have k1 := r0.out.cell 1
  have k2 := r0.out.cell 2
  have k3 := r0.out.cell 3
  have HK : Hid (∀ w', Below (w.heap.size + 1) W0 w' → w'.cell? ⟨w.heap.size, 0, none⟩ = some (.bool t) ∧ w'.cell? ⟨w.heap.size, 1, none⟩ = some (.bool e) ∧ w'.cell? ⟨w.heap.size, 2, none⟩ = some (.bool s) ∧ w'.cell? ⟨w.heap.size, 3, none⟩ = some (.slice ad i.length cap)) := fun w' hb => ⟨(hb.cell (p := ⟨w.heap.size, 0, none⟩) (by simp)).trans k0, (hb.cell (p := ⟨w.heap.size, 1, none⟩) (by simp)).trans k1, (hb.cell (p := ⟨w.heap.size, 2, none⟩) (by simp)).trans k2, (hb.cell (p := ⟨w.heap.size, 3, none⟩) (by simp)).trans k3⟩
  have HW : Hid (W0.ownsRow (w.heap.size + 1) 9 1 (.slice none 0 0) ([] : List Tx).length (stv [])) := own_nilW _ _
  have HB : Hid (Below (w.heap.size + 1) W0 W0) := Below.refl _ _
  have HS : Hid (w.heap.size + 1 ≤ W0.heap.size) := by unfold Hid; omega
  clear k0 k1 k2 k3 s0 hc1 hc2 hc3 HV hA
  have HI : Hid ((i = [] ∧ wdW ⟨t, e, s, i⟩ = ABC t e s []) ∨ (i ≠ [] ∧ wdW ⟨t, e, s, i⟩ = ABC t e s [[105, 110, 112, 117, 116], qT i])) := by
    by_cases h : i = []
    · exact .inl ⟨h, by unfold wdW ABC; simp only [h, if_true]⟩
    · exact .inr ⟨h, by unfold wdW ABC; simp only [if_neg h]⟩
  generalize wdW ⟨t, e, s, i⟩ = R at HI ⊢
  generalize qT i = q at HQ HI
  go_enter Tryd.func50, Tryd.ntmps50
  go_upto_region 2 with fail
  clear hW0
  have K := HK.out _ HB.out
  obtain ⟨k0, k1, k2, k3⟩ := K
  cases t <;> cases e <;> cases s
  · rcases HI.out with ⟨hi, hR⟩ | ⟨hi, hR⟩
    · have HR : Hid (R = ABC false false false []) := hR
      subst hi
      clear HI hR
      go_wp2
      go_ret
      have e : ([] : List Tx) = R := HR.out.symm
      rw [← e]
      exact ⟨_, rfl, own_le HW.out (by omega), b0.out.trans (HB.out.mono (by omega))⟩
    · have HR : Hid (R = ABC false false false [[105, 110, 112, 117, 116], q]) := hR
      have hln : (0 : Int) < (i.length : Int) := by have := List.length_pos_iff.2 hi; omega
      clear HI hR hi
      go_upto_region 9 with fail
      go_upto_region 10 with (first | (go_at_call 67; refine (HQ.out _ (b0.out.trans (HB.out.mono (by omega)))).mono ?_; rintro en w1 ⟨rfl, hb⟩; have HW1 : Hid (w1.ownsRow (w.heap.size + 1) 9 1 (.slice none 0 0) (([] : List Tx)).length (stv (([] : List Tx)))) := ownW_later HW.out hb; have HB1 : Hid (Below (w.heap.size + 1) W0 w1) := HB.out.trans (hb.mono HS.out); have HS1 : Hid (w.heap.size + 1 ≤ w1.heap.size) := Nat.le_trans HS.out hb.size; clear hb) | (at_builtin; refine appW (by rfl) _ _ (by rfl) (w.heap.size + 1) _ (([] : List Tx)) (by rfl) (ownW_al HW1.out _) [[105, 110, 112, 117, 116], q] _ 0 2 (by rfl) (bs2 _ [105, 110, 112, 117, 116] q) (by simp) (by have := HS1.out; simp; omega) ?_; intro v2 w2 h1 h2 h3; have HW2 : Hid (w2.ownsRow (w.heap.size + 1) 9 1 v2 (([] : List Tx) ++ [[105, 110, 112, 117, 116], q]).length (stv (([] : List Tx) ++ [[105, 110, 112, 117, 116], q]))) := h1; have HB2 : Hid (Below (w.heap.size + 1) W0 w2) := (HB1.out.alloc HS1.out _).trans h2; have HS2 : Hid (w.heap.size + 1 ≤ w2.heap.size) := Nat.le_trans HS1.out (Nat.le_trans (by simp) h2.size); obtain ⟨k0, k1, k2, k3⟩ := HK.out w2 HB2.out; clear h1 h2 h3))
      go_wp2
      go_ret
      have e : ([] : List Tx) ++ [[105, 110, 112, 117, 116], q] = R := HR.out.symm
      rw [← e]
      exact ⟨_, rfl, own_le HW2.out (by omega), b0.out.trans (HB2.out.mono (by omega))⟩
  · rcases HI.out with ⟨hi, hR⟩ | ⟨hi, hR⟩
    · have HR : Hid (R = ABC false false true []) := hR
      subst hi
      clear HI hR
      go_upto_region 7 with fail
      go_upto_region 8 with (at_builtin; refine appW (by rfl) _ _ (by rfl) (w.heap.size + 1) _ (([] : List Tx)) (by rfl) (ownW_al HW.out _) [[115, 111, 102, 116]] _ 0 1 (by rfl) (bs1 _ [115, 111, 102, 116]) (by simp) (by have := HS.out; simp; omega) ?_; intro v1 w1 h1 h2 h3; have HW1 : Hid (w1.ownsRow (w.heap.size + 1) 9 1 v1 (([] : List Tx) ++ [[115, 111, 102, 116]]).length (stv (([] : List Tx) ++ [[115, 111, 102, 116]]))) := h1; have HB1 : Hid (Below (w.heap.size + 1) W0 w1) := (HB.out.alloc HS.out _).trans h2; have HS1 : Hid (w.heap.size + 1 ≤ w1.heap.size) := Nat.le_trans HS.out (Nat.le_trans (by simp) h2.size); obtain ⟨k0, k1, k2, k3⟩ := HK.out w1 HB1.out; clear h1 h2 h3)
      go_wp2
      go_ret
      have e : ([] : List Tx) ++ [[115, 111, 102, 116]] = R := HR.out.symm
      rw [← e]
      exact ⟨_, rfl, own_le HW1.out (by omega), b0.out.trans (HB1.out.mono (by omega))⟩
    · have HR : Hid (R = ABC false false true [[105, 110, 112, 117, 116], q]) := hR
      have hln : (0 : Int) < (i.length : Int) := by have := List.length_pos_iff.2 hi; omega
      clear HI hR hi
      go_upto_region 7 with fail
      go_upto_region 8 with (at_builtin; refine appW (by rfl) _ _ (by rfl) (w.heap.size + 1) _ (([] : List Tx)) (by rfl) (ownW_al HW.out _) [[115, 111, 102, 116]] _ 0 1 (by rfl) (bs1 _ [115, 111, 102, 116]) (by simp) (by have := HS.out; simp; omega) ?_; intro v1 w1 h1 h2 h3; have HW1 : Hid (w1.ownsRow (w.heap.size + 1) 9 1 v1 (([] : List Tx) ++ [[115, 111, 102, 116]]).length (stv (([] : List Tx) ++ [[115, 111, 102, 116]]))) := h1; have HB1 : Hid (Below (w.heap.size + 1) W0 w1) := (HB.out.alloc HS.out _).trans h2; have HS1 : Hid (w.heap.size + 1 ≤ w1.heap.size) := Nat.le_trans HS.out (Nat.le_trans (by simp) h2.size); obtain ⟨k0, k1, k2, k3⟩ := HK.out w1 HB1.out; clear h1 h2 h3)
      go_upto_region 9 with fail
      go_upto_region 10 with (first | (go_at_call 67; refine (HQ.out _ (b0.out.trans (HB1.out.mono (by omega)))).mono ?_; rintro en w2 ⟨rfl, hb⟩; have HW2 : Hid (w2.ownsRow (w.heap.size + 1) 9 1 v1 (([] : List Tx) ++ [[115, 111, 102, 116]]).length (stv (([] : List Tx) ++ [[115, 111, 102, 116]]))) := ownW_later HW1.out hb; have HB2 : Hid (Below (w.heap.size + 1) W0 w2) := HB1.out.trans (hb.mono HS1.out); have HS2 : Hid (w.heap.size + 1 ≤ w2.heap.size) := Nat.le_trans HS1.out hb.size; clear hb) | (at_builtin; refine appW (by rfl) _ _ (by rfl) (w.heap.size + 1) _ (([] : List Tx) ++ [[115, 111, 102, 116]]) (by rfl) (ownW_al HW2.out _) [[105, 110, 112, 117, 116], q] _ 0 2 (by rfl) (bs2 _ [105, 110, 112, 117, 116] q) (by simp) (by have := HS2.out; simp; omega) ?_; intro v3 w3 h1 h2 h3; have HW3 : Hid (w3.ownsRow (w.heap.size + 1) 9 1 v3 (([] : List Tx) ++ [[115, 111, 102, 116]] ++ [[105, 110, 112, 117, 116], q]).length (stv (([] : List Tx) ++ [[115, 111, 102, 116]] ++ [[105, 110, 112, 117, 116], q]))) := h1; have HB3 : Hid (Below (w.heap.size + 1) W0 w3) := (HB2.out.alloc HS2.out _).trans h2; have HS3 : Hid (w.heap.size + 1 ≤ w3.heap.size) := Nat.le_trans HS2.out (Nat.le_trans (by simp) h2.size); obtain ⟨k0, k1, k2, k3⟩ := HK.out w3 HB3.out; clear h1 h2 h3))
      go_wp2
      go_ret
      have e : ([] : List Tx) ++ [[115, 111, 102, 116]] ++ [[105, 110, 112, 117, 116], q] = R := HR.out.symm
      rw [← e]
      exact ⟨_, rfl, own_le HW3.out (by omega), b0.out.trans (HB3.out.mono (by omega))⟩
  · rcases HI.out with ⟨hi, hR⟩ | ⟨hi, hR⟩
    · have HR : Hid (R = ABC false true false []) := hR
      subst hi
      clear HI hR
      go_upto_region 5 with fail
      go_upto_region 6 with (at_builtin; refine appW (by rfl) _ _ (by rfl) (w.heap.size + 1) _ (([] : List Tx)) (by rfl) (ownW_al HW.out _) [[101, 120, 116]] _ 0 1 (by rfl) (bs1 _ [101, 120, 116]) (by simp) (by have := HS.out; simp; omega) ?_; intro v1 w1 h1 h2 h3; have HW1 : Hid (w1.ownsRow (w.heap.size + 1) 9 1 v1 (([] : List Tx) ++ [[101, 120, 116]]).length (stv (([] : List Tx) ++ [[101, 120, 116]]))) := h1; have HB1 : Hid (Below (w.heap.size + 1) W0 w1) := (HB.out.alloc HS.out _).trans h2; have HS1 : Hid (w.heap.size + 1 ≤ w1.heap.size) := Nat.le_trans HS.out (Nat.le_trans (by simp) h2.size); obtain ⟨k0, k1, k2, k3⟩ := HK.out w1 HB1.out; clear h1 h2 h3)
      go_wp2
      go_ret
      have e : ([] : List Tx) ++ [[101, 120, 116]] = R := HR.out.symm
      rw [← e]
      exact ⟨_, rfl, own_le HW1.out (by omega), b0.out.trans (HB1.out.mono (by omega))⟩
    · have HR : Hid (R = ABC false true false [[105, 110, 112, 117, 116], q]) := hR
      have hln : (0 : Int) < (i.length : Int) := by have := List.length_pos_iff.2 hi; omega
      clear HI hR hi
      go_upto_region 5 with fail
      go_upto_region 6 with (at_builtin; refine appW (by rfl) _ _ (by rfl) (w.heap.size + 1) _ (([] : List Tx)) (by rfl) (ownW_al HW.out _) [[101, 120, 116]] _ 0 1 (by rfl) (bs1 _ [101, 120, 116]) (by simp) (by have := HS.out; simp; omega) ?_; intro v1 w1 h1 h2 h3; have HW1 : Hid (w1.ownsRow (w.heap.size + 1) 9 1 v1 (([] : List Tx) ++ [[101, 120, 116]]).length (stv (([] : List Tx) ++ [[101, 120, 116]]))) := h1; have HB1 : Hid (Below (w.heap.size + 1) W0 w1) := (HB.out.alloc HS.out _).trans h2; have HS1 : Hid (w.heap.size + 1 ≤ w1.heap.size) := Nat.le_trans HS.out (Nat.le_trans (by simp) h2.size); obtain ⟨k0, k1, k2, k3⟩ := HK.out w1 HB1.out; clear h1 h2 h3)
      go_upto_region 9 with fail
      go_upto_region 10 with (first | (go_at_call 67; refine (HQ.out _ (b0.out.trans (HB1.out.mono (by omega)))).mono ?_; rintro en w2 ⟨rfl, hb⟩; have HW2 : Hid (w2.ownsRow (w.heap.size + 1) 9 1 v1 (([] : List Tx) ++ [[101, 120, 116]]).length (stv (([] : List Tx) ++ [[101, 120, 116]]))) := ownW_later HW1.out hb; have HB2 : Hid (Below (w.heap.size + 1) W0 w2) := HB1.out.trans (hb.mono HS1.out); have HS2 : Hid (w.heap.size + 1 ≤ w2.heap.size) := Nat.le_trans HS1.out hb.size; clear hb) | (at_builtin; refine appW (by rfl) _ _ (by rfl) (w.heap.size + 1) _ (([] : List Tx) ++ [[101, 120, 116]]) (by rfl) (ownW_al HW2.out _) [[105, 110, 112, 117, 116], q] _ 0 2 (by rfl) (bs2 _ [105, 110, 112, 117, 116] q) (by simp) (by have := HS2.out; simp; omega) ?_; intro v3 w3 h1 h2 h3; have HW3 : Hid (w3.ownsRow (w.heap.size + 1) 9 1 v3 (([] : List Tx) ++ [[101, 120, 116]] ++ [[105, 110, 112, 117, 116], q]).length (stv (([] : List Tx) ++ [[101, 120, 116]] ++ [[105, 110, 112, 117, 116], q]))) := h1; have HB3 : Hid (Below (w.heap.size + 1) W0 w3) := (HB2.out.alloc HS2.out _).trans h2; have HS3 : Hid (w.heap.size + 1 ≤ w3.heap.size) := Nat.le_trans HS2.out (Nat.le_trans (by simp) h2.size); obtain ⟨k0, k1, k2, k3⟩ := HK.out w3 HB3.out; clear h1 h2 h3))
      go_wp2
      go_ret
      have e : ([] : List Tx) ++ [[101, 120, 116]] ++ [[105, 110, 112, 117, 116], q] = R := HR.out.symm
      rw [← e]
      exact ⟨_, rfl, own_le HW3.out (by omega), b0.out.trans (HB3.out.mono (by omega))⟩
  · rcases HI.out with ⟨hi, hR⟩ | ⟨hi, hR⟩
    · have HR : Hid (R = ABC false true true []) := hR
      subst hi
      clear HI hR
      go_upto_region 5 with fail
      go_upto_region 6 with (at_builtin; refine appW (by rfl) _ _ (by rfl) (w.heap.size + 1) _ (([] : List Tx)) (by rfl) (ownW_al HW.out _) [[101, 120, 116]] _ 0 1 (by rfl) (bs1 _ [101, 120, 116]) (by simp) (by have := HS.out; simp; omega) ?_; intro v1 w1 h1 h2 h3; have HW1 : Hid (w1.ownsRow (w.heap.size + 1) 9 1 v1 (([] : List Tx) ++ [[101, 120, 116]]).length (stv (([] : List Tx) ++ [[101, 120, 116]]))) := h1; have HB1 : Hid (Below (w.heap.size + 1) W0 w1) := (HB.out.alloc HS.out _).trans h2; have HS1 : Hid (w.heap.size + 1 ≤ w1.heap.size) := Nat.le_trans HS.out (Nat.le_trans (by simp) h2.size); obtain ⟨k0, k1, k2, k3⟩ := HK.out w1 HB1.out; clear h1 h2 h3)
      go_upto_region 7 with fail
      go_upto_region 8 with (at_builtin; refine appW (by rfl) _ _ (by rfl) (w.heap.size + 1) _ (([] : List Tx) ++ [[101, 120, 116]]) (by rfl) (ownW_al HW1.out _) [[115, 111, 102, 116]] _ 0 1 (by rfl) (bs1 _ [115, 111, 102, 116]) (by simp) (by have := HS1.out; simp; omega) ?_; intro v2 w2 h1 h2 h3; have HW2 : Hid (w2.ownsRow (w.heap.size + 1) 9 1 v2 (([] : List Tx) ++ [[101, 120, 116]] ++ [[115, 111, 102, 116]]).length (stv (([] : List Tx) ++ [[101, 120, 116]] ++ [[115, 111, 102, 116]]))) := h1; have HB2 : Hid (Below (w.heap.size + 1) W0 w2) := (HB1.out.alloc HS1.out _).trans h2; have HS2 : Hid (w.heap.size + 1 ≤ w2.heap.size) := Nat.le_trans HS1.out (Nat.le_trans (by simp) h2.size); obtain ⟨k0, k1, k2, k3⟩ := HK.out w2 HB2.out; clear h1 h2 h3)
      go_wp2
      go_ret
      have e : ([] : List Tx) ++ [[101, 120, 116]] ++ [[115, 111, 102, 116]] = R := HR.out.symm
      rw [← e]
      exact ⟨_, rfl, own_le HW2.out (by omega), b0.out.trans (HB2.out.mono (by omega))⟩
    · have HR : Hid (R = ABC false true true [[105, 110, 112, 117, 116], q]) := hR
      have hln : (0 : Int) < (i.length : Int) := by have := List.length_pos_iff.2 hi; omega
      clear HI hR hi
      go_upto_region 5 with fail
      go_upto_region 6 with (at_builtin; refine appW (by rfl) _ _ (by rfl) (w.heap.size + 1) _ (([] : List Tx)) (by rfl) (ownW_al HW.out _) [[101, 120, 116]] _ 0 1 (by rfl) (bs1 _ [101, 120, 116]) (by simp) (by have := HS.out; simp; omega) ?_; intro v1 w1 h1 h2 h3; have HW1 : Hid (w1.ownsRow (w.heap.size + 1) 9 1 v1 (([] : List Tx) ++ [[101, 120, 116]]).length (stv (([] : List Tx) ++ [[101, 120, 116]]))) := h1; have HB1 : Hid (Below (w.heap.size + 1) W0 w1) := (HB.out.alloc HS.out _).trans h2; have HS1 : Hid (w.heap.size + 1 ≤ w1.heap.size) := Nat.le_trans HS.out (Nat.le_trans (by simp) h2.size); obtain ⟨k0, k1, k2, k3⟩ := HK.out w1 HB1.out; clear h1 h2 h3)
      go_upto_region 7 with fail
      go_upto_region 8 with (at_builtin; refine appW (by rfl) _ _ (by rfl) (w.heap.size + 1) _ (([] : List Tx) ++ [[101, 120, 116]]) (by rfl) (ownW_al HW1.out _) [[115, 111, 102, 116]] _ 0 1 (by rfl) (bs1 _ [115, 111, 102, 116]) (by simp) (by have := HS1.out; simp; omega) ?_; intro v2 w2 h1 h2 h3; have HW2 : Hid (w2.ownsRow (w.heap.size + 1) 9 1 v2 (([] : List Tx) ++ [[101, 120, 116]] ++ [[115, 111, 102, 116]]).length (stv (([] : List Tx) ++ [[101, 120, 116]] ++ [[115, 111, 102, 116]]))) := h1; have HB2 : Hid (Below (w.heap.size + 1) W0 w2) := (HB1.out.alloc HS1.out _).trans h2; have HS2 : Hid (w.heap.size + 1 ≤ w2.heap.size) := Nat.le_trans HS1.out (Nat.le_trans (by simp) h2.size); obtain ⟨k0, k1, k2, k3⟩ := HK.out w2 HB2.out; clear h1 h2 h3)
      go_upto_region 9 with fail
      go_upto_region 10 with (first | (go_at_call 67; refine (HQ.out _ (b0.out.trans (HB2.out.mono (by omega)))).mono ?_; rintro en w3 ⟨rfl, hb⟩; have HW3 : Hid (w3.ownsRow (w.heap.size + 1) 9 1 v2 (([] : List Tx) ++ [[101, 120, 116]] ++ [[115, 111, 102, 116]]).length (stv (([] : List Tx) ++ [[101, 120, 116]] ++ [[115, 111, 102, 116]]))) := ownW_later HW2.out hb; have HB3 : Hid (Below (w.heap.size + 1) W0 w3) := HB2.out.trans (hb.mono HS2.out); have HS3 : Hid (w.heap.size + 1 ≤ w3.heap.size) := Nat.le_trans HS2.out hb.size; clear hb) | (at_builtin; refine appW (by rfl) _ _ (by rfl) (w.heap.size + 1) _ (([] : List Tx) ++ [[101, 120, 116]] ++ [[115, 111, 102, 116]]) (by rfl) (ownW_al HW3.out _) [[105, 110, 112, 117, 116], q] _ 0 2 (by rfl) (bs2 _ [105, 110, 112, 117, 116] q) (by simp) (by have := HS3.out; simp; omega) ?_; intro v4 w4 h1 h2 h3; have HW4 : Hid (w4.ownsRow (w.heap.size + 1) 9 1 v4 (([] : List Tx) ++ [[101, 120, 116]] ++ [[115, 111, 102, 116]] ++ [[105, 110, 112, 117, 116], q]).length (stv (([] : List Tx) ++ [[101, 120, 116]] ++ [[115, 111, 102, 116]] ++ [[105, 110, 112, 117, 116], q]))) := h1; have HB4 : Hid (Below (w.heap.size + 1) W0 w4) := (HB3.out.alloc HS3.out _).trans h2; have HS4 : Hid (w.heap.size + 1 ≤ w4.heap.size) := Nat.le_trans HS3.out (Nat.le_trans (by simp) h2.size); obtain ⟨k0, k1, k2, k3⟩ := HK.out w4 HB4.out; clear h1 h2 h3))
      go_wp2
      go_ret
      have e : ([] : List Tx) ++ [[101, 120, 116]] ++ [[115, 111, 102, 116]] ++ [[105, 110, 112, 117, 116], q] = R := HR.out.symm
      rw [← e]
      exact ⟨_, rfl, own_le HW4.out (by omega), b0.out.trans (HB4.out.mono (by omega))⟩
  · rcases HI.out with ⟨hi, hR⟩ | ⟨hi, hR⟩
    · have HR : Hid (R = ABC true false false []) := hR
      subst hi
      clear HI hR
      go_upto_region 3 with fail
      go_upto_region 4 with (at_builtin; refine appW (by rfl) _ _ (by rfl) (w.heap.size + 1) _ (([] : List Tx)) (by rfl) (ownW_al HW.out _) [[116, 105, 99, 107]] _ 0 1 (by rfl) (bs1 _ [116, 105, 99, 107]) (by simp) (by have := HS.out; simp; omega) ?_; intro v1 w1 h1 h2 h3; have HW1 : Hid (w1.ownsRow (w.heap.size + 1) 9 1 v1 (([] : List Tx) ++ [[116, 105, 99, 107]]).length (stv (([] : List Tx) ++ [[116, 105, 99, 107]]))) := h1; have HB1 : Hid (Below (w.heap.size + 1) W0 w1) := (HB.out.alloc HS.out _).trans h2; have HS1 : Hid (w.heap.size + 1 ≤ w1.heap.size) := Nat.le_trans HS.out (Nat.le_trans (by simp) h2.size); obtain ⟨k0, k1, k2, k3⟩ := HK.out w1 HB1.out; clear h1 h2 h3)
      go_wp2
      go_ret
      have e : ([] : List Tx) ++ [[116, 105, 99, 107]] = R := HR.out.symm
      rw [← e]
      exact ⟨_, rfl, own_le HW1.out (by omega), b0.out.trans (HB1.out.mono (by omega))⟩
    · have HR : Hid (R = ABC true false false [[105, 110, 112, 117, 116], q]) := hR
      have hln : (0 : Int) < (i.length : Int) := by have := List.length_pos_iff.2 hi; omega
      clear HI hR hi
      go_upto_region 3 with fail
      go_upto_region 4 with (at_builtin; refine appW (by rfl) _ _ (by rfl) (w.heap.size + 1) _ (([] : List Tx)) (by rfl) (ownW_al HW.out _) [[116, 105, 99, 107]] _ 0 1 (by rfl) (bs1 _ [116, 105, 99, 107]) (by simp) (by have := HS.out; simp; omega) ?_; intro v1 w1 h1 h2 h3; have HW1 : Hid (w1.ownsRow (w.heap.size + 1) 9 1 v1 (([] : List Tx) ++ [[116, 105, 99, 107]]).length (stv (([] : List Tx) ++ [[116, 105, 99, 107]]))) := h1; have HB1 : Hid (Below (w.heap.size + 1) W0 w1) := (HB.out.alloc HS.out _).trans h2; have HS1 : Hid (w.heap.size + 1 ≤ w1.heap.size) := Nat.le_trans HS.out (Nat.le_trans (by simp) h2.size); obtain ⟨k0, k1, k2, k3⟩ := HK.out w1 HB1.out; clear h1 h2 h3)
      go_upto_region 9 with fail
      go_upto_region 10 with (first | (go_at_call 67; refine (HQ.out _ (b0.out.trans (HB1.out.mono (by omega)))).mono ?_; rintro en w2 ⟨rfl, hb⟩; have HW2 : Hid (w2.ownsRow (w.heap.size + 1) 9 1 v1 (([] : List Tx) ++ [[116, 105, 99, 107]]).length (stv (([] : List Tx) ++ [[116, 105, 99, 107]]))) := ownW_later HW1.out hb; have HB2 : Hid (Below (w.heap.size + 1) W0 w2) := HB1.out.trans (hb.mono HS1.out); have HS2 : Hid (w.heap.size + 1 ≤ w2.heap.size) := Nat.le_trans HS1.out hb.size; clear hb) | (at_builtin; refine appW (by rfl) _ _ (by rfl) (w.heap.size + 1) _ (([] : List Tx) ++ [[116, 105, 99, 107]]) (by rfl) (ownW_al HW2.out _) [[105, 110, 112, 117, 116], q] _ 0 2 (by rfl) (bs2 _ [105, 110, 112, 117, 116] q) (by simp) (by have := HS2.out; simp; omega) ?_; intro v3 w3 h1 h2 h3; have HW3 : Hid (w3.ownsRow (w.heap.size + 1) 9 1 v3 (([] : List Tx) ++ [[116, 105, 99, 107]] ++ [[105, 110, 112, 117, 116], q]).length (stv (([] : List Tx) ++ [[116, 105, 99, 107]] ++ [[105, 110, 112, 117, 116], q]))) := h1; have HB3 : Hid (Below (w.heap.size + 1) W0 w3) := (HB2.out.alloc HS2.out _).trans h2; have HS3 : Hid (w.heap.size + 1 ≤ w3.heap.size) := Nat.le_trans HS2.out (Nat.le_trans (by simp) h2.size); obtain ⟨k0, k1, k2, k3⟩ := HK.out w3 HB3.out; clear h1 h2 h3))
      go_wp2
      go_ret
      have e : ([] : List Tx) ++ [[116, 105, 99, 107]] ++ [[105, 110, 112, 117, 116], q] = R := HR.out.symm
      rw [← e]
      exact ⟨_, rfl, own_le HW3.out (by omega), b0.out.trans (HB3.out.mono (by omega))⟩
  · rcases HI.out with ⟨hi, hR⟩ | ⟨hi, hR⟩
    · have HR : Hid (R = ABC true false true []) := hR
      subst hi
      clear HI hR
      go_upto_region 3 with fail
      go_upto_region 4 with (at_builtin; refine appW (by rfl) _ _ (by rfl) (w.heap.size + 1) _ (([] : List Tx)) (by rfl) (ownW_al HW.out _) [[116, 105, 99, 107]] _ 0 1 (by rfl) (bs1 _ [116, 105, 99, 107]) (by simp) (by have := HS.out; simp; omega) ?_; intro v1 w1 h1 h2 h3; have HW1 : Hid (w1.ownsRow (w.heap.size + 1) 9 1 v1 (([] : List Tx) ++ [[116, 105, 99, 107]]).length (stv (([] : List Tx) ++ [[116, 105, 99, 107]]))) := h1; have HB1 : Hid (Below (w.heap.size + 1) W0 w1) := (HB.out.alloc HS.out _).trans h2; have HS1 : Hid (w.heap.size + 1 ≤ w1.heap.size) := Nat.le_trans HS.out (Nat.le_trans (by simp) h2.size); obtain ⟨k0, k1, k2, k3⟩ := HK.out w1 HB1.out; clear h1 h2 h3)
      go_upto_region 7 with fail
      go_upto_region 8 with (at_builtin; refine appW (by rfl) _ _ (by rfl) (w.heap.size + 1) _ (([] : List Tx) ++ [[116, 105, 99, 107]]) (by rfl) (ownW_al HW1.out _) [[115, 111, 102, 116]] _ 0 1 (by rfl) (bs1 _ [115, 111, 102, 116]) (by simp) (by have := HS1.out; simp; omega) ?_; intro v2 w2 h1 h2 h3; have HW2 : Hid (w2.ownsRow (w.heap.size + 1) 9 1 v2 (([] : List Tx) ++ [[116, 105, 99, 107]] ++ [[115, 111, 102, 116]]).length (stv (([] : List Tx) ++ [[116, 105, 99, 107]] ++ [[115, 111, 102, 116]]))) := h1; have HB2 : Hid (Below (w.heap.size + 1) W0 w2) := (HB1.out.alloc HS1.out _).trans h2; have HS2 : Hid (w.heap.size + 1 ≤ w2.heap.size) := Nat.le_trans HS1.out (Nat.le_trans (by simp) h2.size); obtain ⟨k0, k1, k2, k3⟩ := HK.out w2 HB2.out; clear h1 h2 h3)
      go_wp2
      go_ret
      have e : ([] : List Tx) ++ [[116, 105, 99, 107]] ++ [[115, 111, 102, 116]] = R := HR.out.symm
      rw [← e]
      exact ⟨_, rfl, own_le HW2.out (by omega), b0.out.trans (HB2.out.mono (by omega))⟩
    · have HR : Hid (R = ABC true false true [[105, 110, 112, 117, 116], q]) := hR
      have hln : (0 : Int) < (i.length : Int) := by have := List.length_pos_iff.2 hi; omega
      clear HI hR hi
      go_upto_region 3 with fail
      go_upto_region 4 with (at_builtin; refine appW (by rfl) _ _ (by rfl) (w.heap.size + 1) _ (([] : List Tx)) (by rfl) (ownW_al HW.out _) [[116, 105, 99, 107]] _ 0 1 (by rfl) (bs1 _ [116, 105, 99, 107]) (by simp) (by have := HS.out; simp; omega) ?_; intro v1 w1 h1 h2 h3; have HW1 : Hid (w1.ownsRow (w.heap.size + 1) 9 1 v1 (([] : List Tx) ++ [[116, 105, 99, 107]]).length (stv (([] : List Tx) ++ [[116, 105, 99, 107]]))) := h1; have HB1 : Hid (Below (w.heap.size + 1) W0 w1) := (HB.out.alloc HS.out _).trans h2; have HS1 : Hid (w.heap.size + 1 ≤ w1.heap.size) := Nat.le_trans HS.out (Nat.le_trans (by simp) h2.size); obtain ⟨k0, k1, k2, k3⟩ := HK.out w1 HB1.out; clear h1 h2 h3)
      go_upto_region 7 with fail
      go_upto_region 8 with (at_builtin; refine appW (by rfl) _ _ (by rfl) (w.heap.size + 1) _ (([] : List Tx) ++ [[116, 105, 99, 107]]) (by rfl) (ownW_al HW1.out _) [[115, 111, 102, 116]] _ 0 1 (by rfl) (bs1 _ [115, 111, 102, 116]) (by simp) (by have := HS1.out; simp; omega) ?_; intro v2 w2 h1 h2 h3; have HW2 : Hid (w2.ownsRow (w.heap.size + 1) 9 1 v2 (([] : List Tx) ++ [[116, 105, 99, 107]] ++ [[115, 111, 102, 116]]).length (stv (([] : List Tx) ++ [[116, 105, 99, 107]] ++ [[115, 111, 102, 116]]))) := h1; have HB2 : Hid (Below (w.heap.size + 1) W0 w2) := (HB1.out.alloc HS1.out _).trans h2; have HS2 : Hid (w.heap.size + 1 ≤ w2.heap.size) := Nat.le_trans HS1.out (Nat.le_trans (by simp) h2.size); obtain ⟨k0, k1, k2, k3⟩ := HK.out w2 HB2.out; clear h1 h2 h3)
      go_upto_region 9 with fail
      go_upto_region 10 with (first | (go_at_call 67; refine (HQ.out _ (b0.out.trans (HB2.out.mono (by omega)))).mono ?_; rintro en w3 ⟨rfl, hb⟩; have HW3 : Hid (w3.ownsRow (w.heap.size + 1) 9 1 v2 (([] : List Tx) ++ [[116, 105, 99, 107]] ++ [[115, 111, 102, 116]]).length (stv (([] : List Tx) ++ [[116, 105, 99, 107]] ++ [[115, 111, 102, 116]]))) := ownW_later HW2.out hb; have HB3 : Hid (Below (w.heap.size + 1) W0 w3) := HB2.out.trans (hb.mono HS2.out); have HS3 : Hid (w.heap.size + 1 ≤ w3.heap.size) := Nat.le_trans HS2.out hb.size; clear hb) | (at_builtin; refine appW (by rfl) _ _ (by rfl) (w.heap.size + 1) _ (([] : List Tx) ++ [[116, 105, 99, 107]] ++ [[115, 111, 102, 116]]) (by rfl) (ownW_al HW3.out _) [[105, 110, 112, 117, 116], q] _ 0 2 (by rfl) (bs2 _ [105, 110, 112, 117, 116] q) (by simp) (by have := HS3.out; simp; omega) ?_; intro v4 w4 h1 h2 h3; have HW4 : Hid (w4.ownsRow (w.heap.size + 1) 9 1 v4 (([] : List Tx) ++ [[116, 105, 99, 107]] ++ [[115, 111, 102, 116]] ++ [[105, 110, 112, 117, 116], q]).length (stv (([] : List Tx) ++ [[116, 105, 99, 107]] ++ [[115, 111, 102, 116]] ++ [[105, 110, 112, 117, 116], q]))) := h1; have HB4 : Hid (Below (w.heap.size + 1) W0 w4) := (HB3.out.alloc HS3.out _).trans h2; have HS4 : Hid (w.heap.size + 1 ≤ w4.heap.size) := Nat.le_trans HS3.out (Nat.le_trans (by simp) h2.size); obtain ⟨k0, k1, k2, k3⟩ := HK.out w4 HB4.out; clear h1 h2 h3))
      go_wp2
      go_ret
      have e : ([] : List Tx) ++ [[116, 105, 99, 107]] ++ [[115, 111, 102, 116]] ++ [[105, 110, 112, 117, 116], q] = R := HR.out.symm
      rw [← e]
      exact ⟨_, rfl, own_le HW4.out (by omega), b0.out.trans (HB4.out.mono (by omega))⟩
  · rcases HI.out with ⟨hi, hR⟩ | ⟨hi, hR⟩
    · have HR : Hid (R = ABC true true false []) := hR
      subst hi
      clear HI hR
      go_upto_region 3 with fail
      go_upto_region 4 with (at_builtin; refine appW (by rfl) _ _ (by rfl) (w.heap.size + 1) _ (([] : List Tx)) (by rfl) (ownW_al HW.out _) [[116, 105, 99, 107]] _ 0 1 (by rfl) (bs1 _ [116, 105, 99, 107]) (by simp) (by have := HS.out; simp; omega) ?_; intro v1 w1 h1 h2 h3; have HW1 : Hid (w1.ownsRow (w.heap.size + 1) 9 1 v1 (([] : List Tx) ++ [[116, 105, 99, 107]]).length (stv (([] : List Tx) ++ [[116, 105, 99, 107]]))) := h1; have HB1 : Hid (Below (w.heap.size + 1) W0 w1) := (HB.out.alloc HS.out _).trans h2; have HS1 : Hid (w.heap.size + 1 ≤ w1.heap.size) := Nat.le_trans HS.out (Nat.le_trans (by simp) h2.size); obtain ⟨k0, k1, k2, k3⟩ := HK.out w1 HB1.out; clear h1 h2 h3)
      go_upto_region 5 with fail
      go_upto_region 6 with (at_builtin; refine appW (by rfl) _ _ (by rfl) (w.heap.size + 1) _ (([] : List Tx) ++ [[116, 105, 99, 107]]) (by rfl) (ownW_al HW1.out _) [[101, 120, 116]] _ 0 1 (by rfl) (bs1 _ [101, 120, 116]) (by simp) (by have := HS1.out; simp; omega) ?_; intro v2 w2 h1 h2 h3; have HW2 : Hid (w2.ownsRow (w.heap.size + 1) 9 1 v2 (([] : List Tx) ++ [[116, 105, 99, 107]] ++ [[101, 120, 116]]).length (stv (([] : List Tx) ++ [[116, 105, 99, 107]] ++ [[101, 120, 116]]))) := h1; have HB2 : Hid (Below (w.heap.size + 1) W0 w2) := (HB1.out.alloc HS1.out _).trans h2; have HS2 : Hid (w.heap.size + 1 ≤ w2.heap.size) := Nat.le_trans HS1.out (Nat.le_trans (by simp) h2.size); obtain ⟨k0, k1, k2, k3⟩ := HK.out w2 HB2.out; clear h1 h2 h3)
      go_wp2
      go_ret
      have e : ([] : List Tx) ++ [[116, 105, 99, 107]] ++ [[101, 120, 116]] = R := HR.out.symm
      rw [← e]
      exact ⟨_, rfl, own_le HW2.out (by omega), b0.out.trans (HB2.out.mono (by omega))⟩
    · have HR : Hid (R = ABC true true false [[105, 110, 112, 117, 116], q]) := hR
      have hln : (0 : Int) < (i.length : Int) := by have := List.length_pos_iff.2 hi; omega
      clear HI hR hi
      go_upto_region 3 with fail
      go_upto_region 4 with (at_builtin; refine appW (by rfl) _ _ (by rfl) (w.heap.size + 1) _ (([] : List Tx)) (by rfl) (ownW_al HW.out _) [[116, 105, 99, 107]] _ 0 1 (by rfl) (bs1 _ [116, 105, 99, 107]) (by simp) (by have := HS.out; simp; omega) ?_; intro v1 w1 h1 h2 h3; have HW1 : Hid (w1.ownsRow (w.heap.size + 1) 9 1 v1 (([] : List Tx) ++ [[116, 105, 99, 107]]).length (stv (([] : List Tx) ++ [[116, 105, 99, 107]]))) := h1; have HB1 : Hid (Below (w.heap.size + 1) W0 w1) := (HB.out.alloc HS.out _).trans h2; have HS1 : Hid (w.heap.size + 1 ≤ w1.heap.size) := Nat.le_trans HS.out (Nat.le_trans (by simp) h2.size); obtain ⟨k0, k1, k2, k3⟩ := HK.out w1 HB1.out; clear h1 h2 h3)
      go_upto_region 5 with fail
      go_upto_region 6 with (at_builtin; refine appW (by rfl) _ _ (by rfl) (w.heap.size + 1) _ (([] : List Tx) ++ [[116, 105, 99, 107]]) (by rfl) (ownW_al HW1.out _) [[101, 120, 116]] _ 0 1 (by rfl) (bs1 _ [101, 120, 116]) (by simp) (by have := HS1.out; simp; omega) ?_; intro v2 w2 h1 h2 h3; have HW2 : Hid (w2.ownsRow (w.heap.size + 1) 9 1 v2 (([] : List Tx) ++ [[116, 105, 99, 107]] ++ [[101, 120, 116]]).length (stv (([] : List Tx) ++ [[116, 105, 99, 107]] ++ [[101, 120, 116]]))) := h1; have HB2 : Hid (Below (w.heap.size + 1) W0 w2) := (HB1.out.alloc HS1.out _).trans h2; have HS2 : Hid (w.heap.size + 1 ≤ w2.heap.size) := Nat.le_trans HS1.out (Nat.le_trans (by simp) h2.size); obtain ⟨k0, k1, k2, k3⟩ := HK.out w2 HB2.out; clear h1 h2 h3)
      go_upto_region 9 with fail
      go_upto_region 10 with (first | (go_at_call 67; refine (HQ.out _ (b0.out.trans (HB2.out.mono (by omega)))).mono ?_; rintro en w3 ⟨rfl, hb⟩; have HW3 : Hid (w3.ownsRow (w.heap.size + 1) 9 1 v2 (([] : List Tx) ++ [[116, 105, 99, 107]] ++ [[101, 120, 116]]).length (stv (([] : List Tx) ++ [[116, 105, 99, 107]] ++ [[101, 120, 116]]))) := ownW_later HW2.out hb; have HB3 : Hid (Below (w.heap.size + 1) W0 w3) := HB2.out.trans (hb.mono HS2.out); have HS3 : Hid (w.heap.size + 1 ≤ w3.heap.size) := Nat.le_trans HS2.out hb.size; clear hb) | (at_builtin; refine appW (by rfl) _ _ (by rfl) (w.heap.size + 1) _ (([] : List Tx) ++ [[116, 105, 99, 107]] ++ [[101, 120, 116]]) (by rfl) (ownW_al HW3.out _) [[105, 110, 112, 117, 116], q] _ 0 2 (by rfl) (bs2 _ [105, 110, 112, 117, 116] q) (by simp) (by have := HS3.out; simp; omega) ?_; intro v4 w4 h1 h2 h3; have HW4 : Hid (w4.ownsRow (w.heap.size + 1) 9 1 v4 (([] : List Tx) ++ [[116, 105, 99, 107]] ++ [[101, 120, 116]] ++ [[105, 110, 112, 117, 116], q]).length (stv (([] : List Tx) ++ [[116, 105, 99, 107]] ++ [[101, 120, 116]] ++ [[105, 110, 112, 117, 116], q]))) := h1; have HB4 : Hid (Below (w.heap.size + 1) W0 w4) := (HB3.out.alloc HS3.out _).trans h2; have HS4 : Hid (w.heap.size + 1 ≤ w4.heap.size) := Nat.le_trans HS3.out (Nat.le_trans (by simp) h2.size); obtain ⟨k0, k1, k2, k3⟩ := HK.out w4 HB4.out; clear h1 h2 h3))
      go_wp2
      go_ret
      have e : ([] : List Tx) ++ [[116, 105, 99, 107]] ++ [[101, 120, 116]] ++ [[105, 110, 112, 117, 116], q] = R := HR.out.symm
      rw [← e]
      exact ⟨_, rfl, own_le HW4.out (by omega), b0.out.trans (HB4.out.mono (by omega))⟩
  · rcases HI.out with ⟨hi, hR⟩ | ⟨hi, hR⟩
    · have HR : Hid (R = ABC true true true []) := hR
      subst hi
      clear HI hR
      go_upto_region 3 with fail
      go_upto_region 4 with (at_builtin; refine appW (by rfl) _ _ (by rfl) (w.heap.size + 1) _ (([] : List Tx)) (by rfl) (ownW_al HW.out _) [[116, 105, 99, 107]] _ 0 1 (by rfl) (bs1 _ [116, 105, 99, 107]) (by simp) (by have := HS.out; simp; omega) ?_; intro v1 w1 h1 h2 h3; have HW1 : Hid (w1.ownsRow (w.heap.size + 1) 9 1 v1 (([] : List Tx) ++ [[116, 105, 99, 107]]).length (stv (([] : List Tx) ++ [[116, 105, 99, 107]]))) := h1; have HB1 : Hid (Below (w.heap.size + 1) W0 w1) := (HB.out.alloc HS.out _).trans h2; have HS1 : Hid (w.heap.size + 1 ≤ w1.heap.size) := Nat.le_trans HS.out (Nat.le_trans (by simp) h2.size); obtain ⟨k0, k1, k2, k3⟩ := HK.out w1 HB1.out; clear h1 h2 h3)
      go_upto_region 5 with fail
      go_upto_region 6 with (at_builtin; refine appW (by rfl) _ _ (by rfl) (w.heap.size + 1) _ (([] : List Tx) ++ [[116, 105, 99, 107]]) (by rfl) (ownW_al HW1.out _) [[101, 120, 116]] _ 0 1 (by rfl) (bs1 _ [101, 120, 116]) (by simp) (by have := HS1.out; simp; omega) ?_; intro v2 w2 h1 h2 h3; have HW2 : Hid (w2.ownsRow (w.heap.size + 1) 9 1 v2 (([] : List Tx) ++ [[116, 105, 99, 107]] ++ [[101, 120, 116]]).length (stv (([] : List Tx) ++ [[116, 105, 99, 107]] ++ [[101, 120, 116]]))) := h1; have HB2 : Hid (Below (w.heap.size + 1) W0 w2) := (HB1.out.alloc HS1.out _).trans h2; have HS2 : Hid (w.heap.size + 1 ≤ w2.heap.size) := Nat.le_trans HS1.out (Nat.le_trans (by simp) h2.size); obtain ⟨k0, k1, k2, k3⟩ := HK.out w2 HB2.out; clear h1 h2 h3)
      go_upto_region 7 with fail
      go_upto_region 8 with (at_builtin; refine appW (by rfl) _ _ (by rfl) (w.heap.size + 1) _ (([] : List Tx) ++ [[116, 105, 99, 107]] ++ [[101, 120, 116]]) (by rfl) (ownW_al HW2.out _) [[115, 111, 102, 116]] _ 0 1 (by rfl) (bs1 _ [115, 111, 102, 116]) (by simp) (by have := HS2.out; simp; omega) ?_; intro v3 w3 h1 h2 h3; have HW3 : Hid (w3.ownsRow (w.heap.size + 1) 9 1 v3 (([] : List Tx) ++ [[116, 105, 99, 107]] ++ [[101, 120, 116]] ++ [[115, 111, 102, 116]]).length (stv (([] : List Tx) ++ [[116, 105, 99, 107]] ++ [[101, 120, 116]] ++ [[115, 111, 102, 116]]))) := h1; have HB3 : Hid (Below (w.heap.size + 1) W0 w3) := (HB2.out.alloc HS2.out _).trans h2; have HS3 : Hid (w.heap.size + 1 ≤ w3.heap.size) := Nat.le_trans HS2.out (Nat.le_trans (by simp) h2.size); obtain ⟨k0, k1, k2, k3⟩ := HK.out w3 HB3.out; clear h1 h2 h3)
      go_wp2
      go_ret
      have e : ([] : List Tx) ++ [[116, 105, 99, 107]] ++ [[101, 120, 116]] ++ [[115, 111, 102, 116]] = R := HR.out.symm
      rw [← e]
      exact ⟨_, rfl, own_le HW3.out (by omega), b0.out.trans (HB3.out.mono (by omega))⟩
    · have HR : Hid (R = ABC true true true [[105, 110, 112, 117, 116], q]) := hR
      have hln : (0 : Int) < (i.length : Int) := by have := List.length_pos_iff.2 hi; omega
      clear HI hR hi
      go_upto_region 3 with fail
      go_upto_region 4 with (at_builtin; refine appW (by rfl) _ _ (by rfl) (w.heap.size + 1) _ (([] : List Tx)) (by rfl) (ownW_al HW.out _) [[116, 105, 99, 107]] _ 0 1 (by rfl) (bs1 _ [116, 105, 99, 107]) (by simp) (by have := HS.out; simp; omega) ?_; intro v1 w1 h1 h2 h3; have HW1 : Hid (w1.ownsRow (w.heap.size + 1) 9 1 v1 (([] : List Tx) ++ [[116, 105, 99, 107]]).length (stv (([] : List Tx) ++ [[116, 105, 99, 107]]))) := h1; have HB1 : Hid (Below (w.heap.size + 1) W0 w1) := (HB.out.alloc HS.out _).trans h2; have HS1 : Hid (w.heap.size + 1 ≤ w1.heap.size) := Nat.le_trans HS.out (Nat.le_trans (by simp) h2.size); obtain ⟨k0, k1, k2, k3⟩ := HK.out w1 HB1.out; clear h1 h2 h3)
      go_upto_region 5 with fail
      go_upto_region 6 with (at_builtin; refine appW (by rfl) _ _ (by rfl) (w.heap.size + 1) _ (([] : List Tx) ++ [[116, 105, 99, 107]]) (by rfl) (ownW_al HW1.out _) [[101, 120, 116]] _ 0 1 (by rfl) (bs1 _ [101, 120, 116]) (by simp) (by have := HS1.out; simp; omega) ?_; intro v2 w2 h1 h2 h3; have HW2 : Hid (w2.ownsRow (w.heap.size + 1) 9 1 v2 (([] : List Tx) ++ [[116, 105, 99, 107]] ++ [[101, 120, 116]]).length (stv (([] : List Tx) ++ [[116, 105, 99, 107]] ++ [[101, 120, 116]]))) := h1; have HB2 : Hid (Below (w.heap.size + 1) W0 w2) := (HB1.out.alloc HS1.out _).trans h2; have HS2 : Hid (w.heap.size + 1 ≤ w2.heap.size) := Nat.le_trans HS1.out (Nat.le_trans (by simp) h2.size); obtain ⟨k0, k1, k2, k3⟩ := HK.out w2 HB2.out; clear h1 h2 h3)
      go_upto_region 7 with fail
      go_upto_region 8 with (at_builtin; refine appW (by rfl) _ _ (by rfl) (w.heap.size + 1) _ (([] : List Tx) ++ [[116, 105, 99, 107]] ++ [[101, 120, 116]]) (by rfl) (ownW_al HW2.out _) [[115, 111, 102, 116]] _ 0 1 (by rfl) (bs1 _ [115, 111, 102, 116]) (by simp) (by have := HS2.out; simp; omega) ?_; intro v3 w3 h1 h2 h3; have HW3 : Hid (w3.ownsRow (w.heap.size + 1) 9 1 v3 (([] : List Tx) ++ [[116, 105, 99, 107]] ++ [[101, 120, 116]] ++ [[115, 111, 102, 116]]).length (stv (([] : List Tx) ++ [[116, 105, 99, 107]] ++ [[101, 120, 116]] ++ [[115, 111, 102, 116]]))) := h1; have HB3 : Hid (Below (w.heap.size + 1) W0 w3) := (HB2.out.alloc HS2.out _).trans h2; have HS3 : Hid (w.heap.size + 1 ≤ w3.heap.size) := Nat.le_trans HS2.out (Nat.le_trans (by simp) h2.size); obtain ⟨k0, k1, k2, k3⟩ := HK.out w3 HB3.out; clear h1 h2 h3)
      go_upto_region 9 with fail
      go_upto_region 10 with (first | (go_at_call 67; refine (HQ.out _ (b0.out.trans (HB3.out.mono (by omega)))).mono ?_; rintro en w4 ⟨rfl, hb⟩; have HW4 : Hid (w4.ownsRow (w.heap.size + 1) 9 1 v3 (([] : List Tx) ++ [[116, 105, 99, 107]] ++ [[101, 120, 116]] ++ [[115, 111, 102, 116]]).length (stv (([] : List Tx) ++ [[116, 105, 99, 107]] ++ [[101, 120, 116]] ++ [[115, 111, 102, 116]]))) := ownW_later HW3.out hb; have HB4 : Hid (Below (w.heap.size + 1) W0 w4) := HB3.out.trans (hb.mono HS3.out); have HS4 : Hid (w.heap.size + 1 ≤ w4.heap.size) := Nat.le_trans HS3.out hb.size; clear hb) | (at_builtin; refine appW (by rfl) _ _ (by rfl) (w.heap.size + 1) _ (([] : List Tx) ++ [[116, 105, 99, 107]] ++ [[101, 120, 116]] ++ [[115, 111, 102, 116]]) (by rfl) (ownW_al HW4.out _) [[105, 110, 112, 117, 116], q] _ 0 2 (by rfl) (bs2 _ [105, 110, 112, 117, 116] q) (by simp) (by have := HS4.out; simp; omega) ?_; intro v5 w5 h1 h2 h3; have HW5 : Hid (w5.ownsRow (w.heap.size + 1) 9 1 v5 (([] : List Tx) ++ [[116, 105, 99, 107]] ++ [[101, 120, 116]] ++ [[115, 111, 102, 116]] ++ [[105, 110, 112, 117, 116], q]).length (stv (([] : List Tx) ++ [[116, 105, 99, 107]] ++ [[101, 120, 116]] ++ [[115, 111, 102, 116]] ++ [[105, 110, 112, 117, 116], q]))) := h1; have HB5 : Hid (Below (w.heap.size + 1) W0 w5) := (HB4.out.alloc HS4.out _).trans h2; have HS5 : Hid (w.heap.size + 1 ≤ w5.heap.size) := Nat.le_trans HS4.out (Nat.le_trans (by simp) h2.size); obtain ⟨k0, k1, k2, k3⟩ := HK.out w5 HB5.out; clear h1 h2 h3))
      go_wp2
      go_ret
      have e : ([] : List Tx) ++ [[116, 105, 99, 107]] ++ [[101, 120, 116]] ++ [[115, 111, 102, 116]] ++ [[105, 110, 112, 117, 116], q] = R := HR.out.symm
      rw [← e]
      exact ⟨_, rfl, own_le HW5.out (by omega), b0.out.trans (HB5.out.mono (by omega))⟩
end Go.Proofs.YthmjimmmkoeeoaaDoor
