/-
  The program's pen: text, and put of numbers just laid.
-/
import Derived.Test.YtjjdpfmkbaaapaaDoorIwh
import Derived.Lib.BufferWrite
import Derived.Deep.RegionLaw
namespace Go.Proofs.YtjjdpfmkbaaapaaDoor
set_option linter.unusedVariables false
open Go.ChangeShapes Go.WideShapes Go.ChangeAt Go.RowKit Go.Deep
theorem Fil.row {f n : Nat} {T : Nat → Int} {D : Nat → Prop} {w : World} (h : Fil f n T D w) (pos : Nat) (t : ByteArray) (hn : pos + t.size ≤ n) (hT : ∀ i (hi : i < t.size), T (pos + i) = (t[i]'hi).toNat) :
    ∃ C : Array Value, C.size = n ∧ w.heap[f]? = some (.cells C 5 (0, 0)) ∧ Fil f n T (fun i => D i ∨ (pos ≤ i ∧ i < pos + t.size)) (w.setRow f (C.toList.take pos ++ Go.Lib.byteCells t.data.toList ++ C.toList.drop (pos + t.size)).toArray) := by
  obtain ⟨C, hC, hr, hd⟩ := h
  have hbl : (Go.Lib.byteCells t.data.toList).length = t.size := by
    rw [Go.Lib.byteCells_length]
    exact (Go.Lib.size_eq t).symm
  have htl : (C.toList.take pos).length = pos := by rw [List.length_take, Array.length_toList]; omega
  refine ⟨C, hC, hr, _, ?_, Go.setRow_heap w f C _ _ _ hr, fun i hi => ?_⟩
  · rw [List.size_toArray, List.length_append, List.length_append, hbl, htl, List.length_drop, Array.length_toList]
    omega
  have e1 : i < pos → ((C.toList.take pos ++ Go.Lib.byteCells t.data.toList ++ C.toList.drop (pos + t.size)).toArray)[i]? = C[i]? := fun h => by
    rw [List.getElem?_toArray, List.append_assoc, List.getElem?_append_left (by omega), List.getElem?_take, if_pos h, Array.getElem?_toList]
  have e3 : pos + t.size ≤ i → ((C.toList.take pos ++ Go.Lib.byteCells t.data.toList ++ C.toList.drop (pos + t.size)).toArray)[i]? = C[i]? := fun h => by
    rw [List.getElem?_toArray, List.getElem?_append_right (by rw [List.length_append, htl, hbl]; omega), List.length_append, htl, hbl, List.getElem?_drop, Array.getElem?_toList, show pos + t.size + (i - (pos + t.size)) = i by omega]
  by_cases h1 : i < pos
  · rw [e1 h1]
    exact ⟨fun h => (hd i hi).1 (h.resolve_right (by omega)), fun h => (hd i hi).2 (fun q => h (.inl q))⟩
  by_cases h2 : pos + t.size ≤ i
  · rw [e3 h2]
    exact ⟨fun h => (hd i hi).1 (h.resolve_right (by omega)), fun h => (hd i hi).2 (fun q => h (.inl q))⟩
  refine ⟨fun _ => ?_, fun h => absurd (Or.inr (by omega)) h⟩
  obtain ⟨k, rfl⟩ : ∃ k, i = pos + k := ⟨i - pos, by omega⟩
  have hk : k < t.size := by omega
  rw [List.getElem?_toArray, List.append_assoc, List.getElem?_append_right (by omega), htl, show pos + k - pos = k by omega, List.getElem?_append_left (by omega), hT k hk]
  unfold Go.Lib.byteCells
  have hk2 : k < t.data.toList.length := by rw [← Go.Lib.size_eq]; exact hk
  rw [List.getElem?_map, List.getElem?_eq_getElem hk2]
  rfl
theorem step_text {ops : Array Oper} {o : Oper} {a : Act} {w : World} {K : Act → World → Prop} {Q : Exit → Act → World → Prop} {E : Prop}
    (hg : o.guard = none) (d x : Operand) (hop : o.op = .call { callee := .builtin .copy, args := #[d, x], argTypes := #[28, 9] })
    (p f n pos dl dc : Nat) (T : Nat → Int) (D : Nat → Prop) (t : ByteArray) (hd : a.eval d = .slice (some ⟨f, pos, none⟩) dl dc) (hx : a.eval x = .string t)
    (hp : Pen p f n pos w) (hF : Fil f n T D w) (hpf : ¬ p = f) (hl : t.size ≤ dl) (hn : pos + t.size ≤ n) (hT : ∀ i (hi : i < t.size), T (pos + i) = (t[i]'hi).toNat)
    (hK : ∀ w2, Pen p f n pos w2 → Fil f n T (fun i => D i ∨ (pos ≤ i ∧ i < pos + t.size)) w2 → Kp p f w w2 → K (a.put o.dst (goInt t.size)) w2) :
    if Region.wanted o (yielded ops a.tmps) = true then Oper.wp Tryd.prog o a w K Q else E := by
  obtain ⟨C, hC, hr, hf⟩ := hF.row pos t hn hT
  have hw : Region.wanted o (yielded ops a.tmps) = true := by simp [Region.wanted, hg]
  rw [if_pos hw]
  have hs1 : ((Tryd.prog).info? 5).map (·.size) = some 1 := by kernel_rfl
  have hrun := Go.Lib.run_copy_row_string (P := Tryd.prog) w 28 9 o.type 5 f pos dl dc t C 5 Tryd.underlying28 hs1 hr hl (by omega)
  have hk := hK _ ((Go.setRow_other w f p _ hpf).trans hp) hf ⟨rfl, rfl, rfl, by simp, fun k _ _ h => Go.setRow_other w f k _ h⟩
  generalize (C.toList.take pos ++ Go.Lib.byteCells t.data.toList ++ C.toList.drop (pos + t.size)).toArray = R at hrun hk
  unfold Oper.wp
  simp [execOp, hop, resolve, invoke, builtin, hd, hx, hrun, Result.andThen]
  exact hk
theorem put_v (p f n pos sz m : Nat) (szI : Int) (vs : List (BitVec 64)) (cs : Array Value) (T : Nat → Int) (D : Nat → Prop) (w : World) (hp : Pen p f n pos w) (hF : Fil f n T D w) (hpf : ¬ p = f) (hsz : szI = sz) (hvm : vs.length = m) (hcs : ∀ j, j < m → cs[j]? = some (.int .u64 (n64 (vs.getD j 0)))) (hs : 1 ≤ sz ∧ sz ≤ 8) (hn : pos + sz * m ≤ n) (hnb : n ≤ 1000000) (hm : m ≤ 100)
    (hT : ∀ j, j < m → ∀ i, i < sz → T (pos + sz * j + i) = n64 (vs.getD j 0) / 2 ^ (8 * i) % 256) :
    Calls Tryd.prog 37 #[.pointer (some ⟨p, 0, none⟩), .int .i64 szI, .slice (some ⟨w.heap.size, 0, none⟩) m m] (w.alloc (.cells cs 22)) fun e w' => e = .returned (.tuple #[]) ∧ Pen p f n (pos + sz * m) w' ∧ Fil f n T (fun i => D i ∨ (pos ≤ i ∧ i < pos + sz * m)) w' ∧ Kp p f w w' := by
  subst hvm hsz
  have hpl : p < w.heap.size := (Array.getElem?_eq_some_iff.1 hp).1
  have hfl : f < w.heap.size := by obtain ⟨C, _, hr, _⟩ := hF; exact (Array.getElem?_eq_some_iff.1 hr).1
  have hb : Below w.heap.size w (w.alloc (.cells cs 22)) := (Below.refl _ _).alloc (Nat.le_refl _) _
  have hk : Kp p f w (w.alloc (.cells cs 22)) := ⟨hb.os, hb.tape, hb.output, hb.size, fun k h1 _ _ => hb.5 k h1⟩
  refine (put_c p f n pos w.heap.size sz vs T D (w.alloc (.cells cs 22)) ((hb.5 p hpl).trans hp) (hF.other (hb.5 f hfl)) hpf (by omega) (by omega) (fun j hj => ?_) hs hn hnb hm hT).mono ?_
  · rw [cell_of_row _ w.heap.size j cs _ _ (heap_alloc_new w _)]
    exact hcs j hj
  · rintro e w' ⟨rfl, h1, h2, h3⟩
    exact ⟨rfl, h1, h2, hk.trans h3⟩
set_option maxRecDepth 100000 in
set_option maxHeartbeats 4000000 in
theorem text_c (p f n pos : Nat) (t : ByteArray) (T : Nat → Int) (D : Nat → Prop) (w : World) (hp : Pen p f n pos w) (hF : Fil f n T D w) (hpf : ¬ p = f) (hn : pos + t.size < n) (hnb : n ≤ 1000000) (hT : ∀ i (hi : i < t.size), T (pos + i) = (t[i]'hi).toNat) :
    Calls Tryd.prog 36 #[.pointer (some ⟨p, 0, none⟩), .string t] w fun e w' => e = .returned (.tuple #[]) ∧ Pen p f n (pos + t.size) w' ∧ Fil f n T (fun i => D i ∨ (pos ≤ i ∧ i < pos + t.size)) w' ∧ Kp p f w w' := by
  have HP : Hid (Pen p f n pos w ∧ Fil f n T D w ∧ ¬ p = f) := ⟨hp, hF, hpf⟩
  have HT : Hid (∀ i (hi : i < t.size), T (pos + i) = (t[i]'hi).toNat) := hT
  have c0 := hp.c0
  obtain ⟨c1, f1⟩ := hp.c1
  obtain ⟨m, hm⟩ : ∃ m, m = t.size := ⟨_, rfl⟩
  have HM : Hid (m = t.size) := hm
  have HN : Hid (pos + t.size ≤ n ∧ t.size ≤ n - pos) := ⟨by omega, by omega⟩
  have hI1 : (pos : Int) < n := by omega
  have hI3 : (pos : Int) ≤ n := by omega
  have hI2 : ¬ ((n : Int) = pos) := by omega
  have hI4 : ¬ (n = pos) := by omega
  have hnI : (n : Int) ≤ 1000000 := by omega
  have hmI : (pos : Int) + m < n := by omega
  rw [← hm]
  clear hp hF hT hpf hm hn
  go_enter Tryd.func36, Tryd.ntmps36
  go_region_law (refine step_text rfl (.tmp 16) (.tmp 17) rfl p f n pos (n - pos) (n - pos) T D t (by simp [Act.eval, Act.put]) (by simp [Act.eval, Act.put]) HP.out.1 HP.out.2.1 HP.out.2.2 HN.out.2 HN.out.1 HT.out ?_; intro w2 hp2 hf2 hk2; rw [← HM.out] at hf2; have d0 := hp2.c0; obtain ⟨d1, g1⟩ := hp2.c1; rw [← HM.out])
  all_goals go_wp2
  --@CUT
  all_goals first | go_end0 | refine bodyPost_ret (results_none rfl _ _ _) rfl ?_
  all_goals
    have hwr : IntKind.i64.wrap ((pos : Int) + m) = ((pos + m : Nat) : Int) := by rw [IntKind.wrap_i64]; omega
    rw [hwr]
    exact ⟨rfl, hp2.move, hf2.other (setCell_other w2 p 1 _ f (fun e => HP.out.2.2 e.symm)), Kp.trans (Kp.mk hk2.os hk2.tape hk2.output hk2.size hk2.block) (setCell_kp p f w2 p 1 _ (.inl rfl))⟩
end Go.Proofs.YtjjdpfmkbaaapaaDoor
