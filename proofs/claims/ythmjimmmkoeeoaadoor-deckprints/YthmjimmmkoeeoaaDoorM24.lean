/-
  Dn.
-/
import Derived.Test.YthmjimmmkoeeoaaDoorM23
namespace Go.Proofs.YthmjimmmkoeeoaaDoor
set_option linter.unusedVariables false
set_option maxRecDepth 100000
open Go.ChangeShapes Go.WideShapes Go.ChangeAt Go.RowKit Go.Deep Go.Shelf
theorem str_inj : ∀ (l m : List Int), AllB l → AllB m → (strOfNums l).toList = (strOfNums m).toList → l = m := by
  intro l m hl hm h
  have h1 : l.map (fun x => UInt8.ofNat x.toNat) = m.map (fun x => UInt8.ofNat x.toNat) := by
    have e : ∀ k : List Int, (strOfNums k).data.toList = k.map (fun x => UInt8.ofNat x.toNat) := fun k => by unfold strOfNums; simp
    rw [← e l, ← e m]
    rw [ByteArray.toList_eq, ByteArray.toList_eq] at h
    exact h
  have hlen : l.length = m.length := by have := congrArg List.length h1; simpa using this
  apply List.ext_getElem hlen
  intro i h2 h3
  have h4 : (l.map (fun x => UInt8.ofNat x.toNat))[i]? = (m.map (fun x => UInt8.ofNat x.toNat))[i]? := by rw [h1]
  rw [List.getElem?_map, List.getElem?_map, List.getElem?_eq_getElem h2, List.getElem?_eq_getElem h3] at h4
  simp only [Option.map_some, Option.some.injEq] at h4
  have b1 := hl _ (List.getElem_mem h2)
  have b2 := hm _ (List.getElem_mem h3)
  have h5 := congrArg UInt8.toNat h4
  simp only [UInt8.toNat_ofNat'] at h5
  omega
def beB (l m : List Int) : Bool := (strOfNums l).toList == (strOfNums m).toList
theorem beB_eq (l m : List Int) (hl : AllB l) (hm : AllB m) : beB l m = (l == m) := by
  unfold beB
  by_cases h : l = m
  · subst h; simp
  · rw [beq_eq_false_iff_ne.2 h, beq_eq_false_iff_ne]
    exact fun e => h (str_inj l m hl hm e)
theorem uBe_c (l m : List Int) (u v : Value) (w : World) (hu : Byt w u l) (hv : Byt w v m) : Calls Tryd.prog 66 #[u, v] w fun e w' => e = .returned (.bool (beB l m)) ∧ w' = w := by
  have k1 := hu.conv
  have k2 := hv.conv
  obtain ⟨x1, y1, e1, _⟩ := hu
  obtain ⟨x2, y2, e2, _⟩ := hv
  unfold beB
  generalize strOfNums l = s at *
  generalize strOfNums m = t at *
  subst e1 e2
  go_enter Tryd.func66, Tryd.ntmps66
  go_wp2
  go_ret
  exact ⟨by first | rfl | (congr 2; rw [Bool.eq_iff_iff]; simp), rfl⟩
set_option maxHeartbeats 4000000 in
theorem alike_c (x y : Wd) (u v : Value) (w : World) (hu : Byt w u x.i) (hv : Byt w v y.i) (hA : AllB x.i) (hB : AllB y.i) : Calls Tryd.prog 49 #[.agg #[.bool x.t, .bool x.e, .bool x.s, u], .agg #[.bool y.t, .bool y.e, .bool y.s, v]] w fun e w' => e = .returned (.bool (alB x y)) ∧ Below w.heap.size w w' := by
  obtain ⟨W0, hW0, r0, r1, b0, s0⟩ := start2 w #[.bool x.t, .bool x.e, .bool x.s, u] #[.bool y.t, .bool y.e, .bool y.s, v] 48 48
  have HE : Hid (Calls Tryd.prog 66 #[u, v] W0 fun e w' => e = .returned (.bool (x.i == y.i)) ∧ w' = W0) := by have := uBe_c _ _ u v W0 (hu.later b0.out rfl) (hv.later b0.out rfl); rw [beB_eq _ _ hA hB] at this; exact this
  have a0 := r0.out.cell 0
  have a1 := r0.out.cell 1
  have a2 := r0.out.cell 2
  have a3 := r0.out.cell 3
  have c0 := r1.out.cell 0
  have c1 := r1.out.cell 1
  have c2 := r1.out.cell 2
  have c3 := r1.out.cell 3
  have HZ : Hid (alB x y = (x.t == y.t && x.e == y.e && x.s == y.s && x.i == y.i)) := rfl
  clear hu hv hA hB s0
  generalize alB x y = Z at HZ ⊢
  generalize (x.i == y.i) = q at HE HZ
  generalize x.t = x1 at *
  generalize y.t = y1 at *
  generalize x.e = x2 at *
  generalize y.e = y2 at *
  generalize x.s = x3 at *
  generalize y.s = y3 at *
  rcases (by cases x1 <;> cases y1 <;> simp : (x1 == y1) = true ∨ (x1 == y1) = false) with h1 | h1
  · rcases (by cases x2 <;> cases y2 <;> simp : (x2 == y2) = true ∨ (x2 == y2) = false) with h2 | h2
    · rcases (by cases x3 <;> cases y3 <;> simp : (x3 == y3) = true ∨ (x3 == y3) = false) with h3 | h3
      · have HR : Hid (Z = q) := by unfold Hid; rw [HZ.out, h1, h2, h3]; simp
        clear HZ
        go_enter Tryd.func49, Tryd.ntmps49
        go_upto_region 1 with fail
        clear hW0
        go_wp2_with (go_at_call 66; refine HE.out.mono ?_; rintro e w1 ⟨rfl, hw⟩; have hw2 := hw.symm; subst hw2)
        go_ret
        exact ⟨by rw [HR.out]; rfl, b0.out⟩
      · have HR : Hid (Z = false) := by unfold Hid; rw [HZ.out, h3]; simp
        clear HZ HE
        go_enter Tryd.func49, Tryd.ntmps49
        go_upto_region 1 with fail
        clear hW0
        go_wp2
        go_ret
        exact ⟨by rw [HR.out]; rfl, b0.out⟩
    · have HR : Hid (Z = false) := by unfold Hid; rw [HZ.out, h2]; simp
      clear HZ HE
      go_enter Tryd.func49, Tryd.ntmps49
      go_upto_region 1 with fail
      clear hW0
      go_wp2
      go_ret
      exact ⟨by rw [HR.out]; rfl, b0.out⟩
  · have HR : Hid (Z = false) := by unfold Hid; rw [HZ.out, h1]; simp
    clear HZ HE
    go_enter Tryd.func49, Tryd.ntmps49
    go_upto_region 1 with fail
    clear hW0
    go_wp2
    go_ret
    exact ⟨by rw [HR.out]; rfl, b0.out⟩
/-- Texts of a row of the call's own, appended to such a row. -/
theorem appW2 {ops : Array Oper} {rest : List Oper} {o : Oper} {a : Act} {w : World} {Q : Exit → Act → World → Prop} (hgd : o.guard = none) (s x : Operand) (ho : o.op = .call { callee := .builtin .append, args := #[s, x], argTypes := #[50, 50] })
    (B : Nat) (v : Value) (L : List Tx) (hs : a.eval s = v) (hown : w.ownsRow B 9 1 v L.length (stv L)) (u : Value) (M : List Tx) (B2 : Nat) (hx : a.eval x = u) (hu : w.ownsRow B2 9 1 u M.length (stv M)) (hl : L.length + M.length ≤ 1000000) (hB : B ≤ w.heap.size)
    (h : ∀ v' w', w'.ownsRow B 9 1 v' (L ++ M).length (stv (L ++ M)) → Below B w w' → Kst w w' → wpList Tryd.prog ops Q rest (a.put o.dst v') w') : wpList Tryd.prog ops Q (o :: rest) a w := by
  rcases Go.Joins.ownsRow_forms hu with ⟨rfl, h0⟩ | ⟨g, cap, rfl⟩
  · obtain ⟨i0, hi, hz0, hz1, hz2⟩ := info_parts info_st
    have hM : M = [] := List.eq_nil_of_length_eq_zero h0
    subst hM
    refine wpList_append_own_none hgd s x 50 ho B 9 i0 1 Tryd.underlying50 hi v L.length (stv L) hs hown hx ?_
    exact h _ _ (by simpa using hown) (Below.refl _ _) (Kst.refl _)
  · refine appW hgd s x ho B v L hs hown M g 0 cap hx (fun j y hj => ?_) hl hB h
    have hjl : j < M.length := (List.getElem?_eq_some_iff.1 hj).1
    rw [Nat.zero_add, hu.cellAt j (by omega)]
    simp [stv, hj]
theorem own_built (w : World) (L : List Tx) (B : Nat) (hB : B ≤ w.heap.size) (hl : L.length ≤ 1000) (cs : Array Value) (hc : cs = (stv L).toArray) : (w.alloc (.cells cs 9)).ownsRow B 9 1 (.slice (some ⟨w.heap.size, 0, none⟩) L.length L.length) L.length (stv L) := by
  subst hc
  refine ⟨by rw [stv_length, Nat.mul_one], .inr ⟨w.heap.size, L.length, _, rfl, hB, heap_alloc_new w _, Nat.le_refl _, by unfold maxLen; omega, by simp [stv_length], by simp [← stv_length L]⟩⟩
theorem own_slice {w : World} {B : Nat} {v : Value} {L : List Tx} (h : w.ownsRow B 9 1 v L.length (stv L)) (hL : L ≠ []) : ∃ g cap, v = .slice (some ⟨g, 0, none⟩) L.length cap ∧ L.length ≤ cap ∧ g < w.heap.size ∧ ∀ (j : Nat) x, L[j]? = some x → w.cell? ⟨g, 0 + j, none⟩ = some (.string (tS x)) := by
  rcases h.2 with ⟨_, h0⟩ | ⟨g, cap, cur, rfl, _, hg, hn, _⟩
  · exact absurd (List.eq_nil_of_length_eq_zero h0) hL
  · refine ⟨g, cap, rfl, hn, (h.lt g rfl).2, fun j x hj => ?_⟩
    have hjl : j < L.length := (List.getElem?_eq_some_iff.1 hj).1
    rw [Nat.zero_add, h.cellAt j (by omega)]
    simp [stv, hj]
theorem jw_step (x : Wd) : jw ([115, 116, 101, 112] :: wdW x) = wdH 1 x := by unfold wdH; rw [jw_tail, wdX_eq, if_pos rfl]
theorem jw_steps (n : Nat) (h : n ≠ 1) (x : Wd) : jw ([115, 116, 101, 112, 115] :: dcL n :: wdW x) = wdH n x := by unfold wdH; rw [jw_tail, List.flatMap_cons, wdX_eq, if_neg h]; simp
theorem wdX_len (x : Wd) (h : x.i.length ≤ 64) : (wdX x).length ≤ 300 := by
  unfold wdX
  have := qT_len x.i
  simp only [List.length_append]
  have h1 : (if x.t = true then ([32, 116, 105, 99, 107] : Tx) else []).length ≤ 5 := by split <;> simp
  have h2 : (if x.e = true then ([32, 101, 120, 116] : Tx) else []).length ≤ 4 := by split <;> simp
  have h3 : (if x.s = true then ([32, 115, 111, 102, 116] : Tx) else []).length ≤ 5 := by split <;> simp
  have h4 : (if x.i = [] then ([] : Tx) else [32, 105, 110, 112, 117, 116, 32] ++ qT x.i).length ≤ 265 := by
    split
    · simp
    · simp only [List.length_append, List.length_cons, List.length_nil]; omega
  omega
theorem wdH_len (n : Nat) (hn : n < 100000) (x : Wd) (h : x.i.length ≤ 64) : (wdH n x).length ≤ 350 := by
  unfold wdH
  have := wdX_len x h
  have := dcL_len n 4 (by omega)
  rw [List.length_append]
  split
  · simp; omega
  · simp only [List.length_append, List.length_cons, List.length_nil]; omega
theorem wdLs_len (n : Nat) : ∀ l : List Wd, l.length ≤ n → l.length ≤ 4000 → (∀ x ∈ l, x.i.length ≤ 64) → (lnT (wdLs l)).length ≤ 351 * l.length := by
  induction n using Nat.strongRecOn with
  | _ n ih =>
    intro l hn hl hi
    cases l with
    | nil => simp [wdLs_nil, lnT]
    | cons x r =>
      rw [wdLs_more, lnT_cons]
      have h1 := runN_le x r
      simp only [List.length_cons] at hn hl
      have h2 := wdH_len (1 + runN x r) (by omega) x (hi x (by simp))
      have h3 := ih (n - 1) (by omega) (r.drop (runN x r)) (by rw [List.length_drop]; omega) (by rw [List.length_drop]; omega) (fun y hy => hi y (by simp [List.mem_of_mem_drop hy]))
      rw [List.length_drop] at h3
      simp only [List.length_append, List.length_cons, List.length_nil]
      omega
theorem runN_hit (x y : Wd) (r : List Wd) (h : alB x y = true) : runN x (y :: r) = runN x r + 1 := by simp [runN, h]
theorem runN_miss (x y : Wd) (r : List Wd) (h : alB x y = false) : runN x (y :: r) = 0 := by simp [runN, h]
theorem drop_at (l : List Wd) (k : Nat) (h : k < l.length) : l.drop k = l.getD k wd0 :: l.drop (k + 1) := by
  rw [List.drop_eq_getElem_cons h]; simp [List.getD, h]
theorem Wds.at {w : World} {v : Value} {l : List Wd} (h : Wds w v l) (k : Nat) (hk : k < l.length) : ∃ g off cap, v = .slice (some ⟨g, off, none⟩) l.length cap ∧ l.length ≤ cap ∧ g < w.heap.size ∧ ∀ j, j < l.length → ∃ u, (∀ i y, (#[.bool (l.getD j wd0).t, .bool (l.getD j wd0).e, .bool (l.getD j wd0).s, u] : Array Value)[i]? = some y → w.cell? ⟨g, off + j * 4 + i, none⟩ = some y) ∧ Byt w u (l.getD j wd0).i ∧ AllB (l.getD j wd0).i := by
  obtain ⟨a, cap, rfl, h1, _, h2⟩ := h
  obtain ⟨g, off, rfl, h3, h4⟩ := h2 (by intro e; rw [e] at hk; simp at hk)
  refine ⟨g, off, cap, rfl, h1, h3, fun j hj => ?_⟩
  obtain ⟨cs, ⟨u, rfl, e1, e2⟩, _, e4⟩ := h4 j hj
  exact ⟨u, e4, e1, e2⟩
theorem Pts.at {w : World} {v : Value} {l : List Pt} (h : Pts w v l) (k : Nat) (hk : k < l.length) : ∃ g off cap, v = .slice (some ⟨g, off, none⟩) l.length cap ∧ l.length ≤ cap ∧ g < w.heap.size ∧ ∀ j, j < l.length → ∃ u, (∀ i y, (#[.int .u64 (n64 (l.getD j pt0).a), .int .u64 (n64 (l.getD j pt0).s), .int .i64 (l.getD j pt0).f, u] : Array Value)[i]? = some y → w.cell? ⟨g, off + j * 4 + i, none⟩ = some y) ∧ Byt w u (l.getD j pt0).d ∧ AllB (l.getD j pt0).d := by
  obtain ⟨a, cap, rfl, h1, _, h2⟩ := h
  obtain ⟨g, off, rfl, h3, h4⟩ := h2 (by intro e; rw [e] at hk; simp at hk)
  refine ⟨g, off, cap, rfl, h1, h3, fun j hj => ?_⟩
  obtain ⟨cs, ⟨u, rfl, e1, e2⟩, _, e4⟩ := h4 j hj
  exact ⟨u, e4, e1, e2⟩
end Go.Proofs.YthmjimmmkoeeoaaDoor
