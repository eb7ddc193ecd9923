/-
  Iwh Iwi.
-/
import Derived.Test.YtheeogbmljjbdaaGreatDoorN01
import Derived.Deep.RegionHeld3
import Derived.Lib.BufferWrite
import Derived.Deep.RegionLaw
namespace Go.Proofs.YtheeogbmljjbdaaGreatDoor
set_option linter.unusedVariables false
open Go.ChangeShapes Go.WideShapes Go.ChangeAt Go.RowKit Go.Deep
/-- A file of n bytes: those in D are T's, the others 0. -/
def Fil (f n : Nat) (T : Nat → Int) (D : Nat → Prop) (w : World) : Prop :=
  ∃ C : Array Value, C.size = n ∧ w.heap[f]? = some (.cells C 5 (0, 0)) ∧ ∀ i, i < n → (D i → C[i]? = some (.int .u8 (T i))) ∧ (¬ D i → C[i]? = some (.int .u8 0))
theorem Fil.there {f n : Nat} {T : Nat → Int} {D : Nat → Prop} {w : World} (h : Fil f n T D w) (i : Nat) (hi : i < n) : (∃ u, w.cell? ⟨f, i, none⟩ = some u) ∧ w.frozen? ⟨f, i, none⟩ = false := by
  obtain ⟨C, hC, hr, _⟩ := h
  exact ⟨⟨C[i], by rw [cell_of_row w f i _ _ _ hr]; exact Array.getElem?_eq_getElem (by omega)⟩, frozen_of_row w f i _ _ hr⟩
theorem Fil.put {f n : Nat} {T : Nat → Int} {D : Nat → Prop} {w : World} (h : Fil f n T D w) (i : Nat) (hi : i < n) (z : Int) (hz : z = T i) : Fil f n T (fun j => D j ∨ j = i) (w.setCell ⟨f, i, none⟩ (.int .u8 z)) := by
  obtain ⟨C, hC, hr, hd⟩ := h
  refine ⟨C.setIfInBounds i (.int .u8 z), by simpa using hC, ?_, fun j hj => ⟨fun hD => ?_, fun hD => ?_⟩⟩
  · simp [World.setCell, hr, Array.getElem?_modify]
  · by_cases e : j = i
    · subst e
      rw [Array.getElem?_setIfInBounds_self_of_lt (by omega), hz]
    · rw [Array.getElem?_setIfInBounds_ne (by omega)]
      exact (hd j hj).1 (hD.resolve_right e)
  · have e : ¬ j = i := fun e => hD (.inr e)
    rw [Array.getElem?_setIfInBounds_ne (by omega)]
    exact (hd j hj).2 (fun h => hD (.inl h))
theorem Fil.other {f n : Nat} {T : Nat → Int} {D : Nat → Prop} {w w' : World} (h : Fil f n T D w) (he : w'.heap[f]? = w.heap[f]?) : Fil f n T D w' := by
  obtain ⟨C, hC, hr, hd⟩ := h
  exact ⟨C, hC, he.trans hr, hd⟩
theorem Fil.set {f n : Nat} {T : Nat → Int} {D D' : Nat → Prop} {w : World} (h : Fil f n T D w) (he : ∀ i, i < n → (D i ↔ D' i)) : Fil f n T D' w := by
  obtain ⟨C, hC, hr, hd⟩ := h
  exact ⟨C, hC, hr, fun i hi => ⟨fun h => (hd i hi).1 ((he i hi).2 h), fun h => (hd i hi).2 (fun q => h ((he i hi).1 q))⟩⟩
/-- What a call that writes the blocks p and f alone keeps. -/
structure Kp (p f : Nat) (w w' : World) : Prop where
  os : w'.os = w.os
  tape : w'.tape = w.tape
  output : w'.output = w.output
  size : w.heap.size ≤ w'.heap.size
  block : ∀ k, k < w.heap.size → ¬ k = p → ¬ k = f → w'.heap[k]? = w.heap[k]?
theorem setCell_other (w : World) (g i : Nat) (v : Value) (k : Nat) (h : ¬ k = g) : (w.setCell ⟨g, i, none⟩ v).heap[k]? = w.heap[k]? := by
  unfold World.setCell
  simp only
  split
  all_goals first | rfl | (rw [Array.getElem?_modify, if_neg (fun e => h e.symm)])
theorem Kp.drew {p f : Nat} {w w' : World} (h : Kp p f w w') : Kp p f w w'.drew := ⟨h.os, h.tape, h.output, h.size, h.block⟩
theorem Kp.refl (p f : Nat) (w : World) : Kp p f w w := ⟨rfl, rfl, rfl, Nat.le_refl _, fun _ _ _ _ => rfl⟩
theorem Kp.trans {p f : Nat} {w w' w'' : World} (h : Kp p f w w') (k : Kp p f w' w'') : Kp p f w w'' := ⟨k.os.trans h.os, k.tape.trans h.tape, k.output.trans h.output, Nat.le_trans h.size k.size, fun q h1 h2 h3 => (k.block q (Nat.lt_of_lt_of_le h1 h.size) h2 h3).trans (h.block q h1 h2 h3)⟩
theorem Kp.below {p f B : Nat} {w w' : World} (h : Kp p f w w') (hp : B ≤ p) (hf : B ≤ f) (hB : B ≤ w.heap.size) : Below B w w' := ⟨h.os, h.tape, h.output, h.size, fun k hk => h.block k (by omega) (by omega) (by omega)⟩
/-- A pen. -/
def Pen (p f n a : Nat) (w : World) : Prop := w.heap[p]? = some (.cells #[.slice (some ⟨f, 0, none⟩) n n, .int .i64 a] 140 (0, 0))
theorem Pen.c0 {p f n a : Nat} {w : World} (h : Pen p f n a w) : w.cell? ⟨p, 0, none⟩ = some (.slice (some ⟨f, 0, none⟩) n n) := cell_of_row w p 0 _ _ _ h
theorem Pen.c1 {p f n a : Nat} {w : World} (h : Pen p f n a w) : w.cell? ⟨p, 1, none⟩ = some (.int .i64 a) ∧ w.frozen? ⟨p, 1, none⟩ = false := ⟨cell_of_row w p 1 _ _ _ h, frozen_of_row w p 1 _ _ h⟩
theorem Pen.move {p f n a b : Nat} {w : World} (h : Pen p f n a w) : Pen p f n b (w.setCell ⟨p, 1, none⟩ (.int .i64 b)) := by
  unfold Pen at *
  simp [World.setCell, h, Array.getElem?_modify]
/-- While put runs. -/
structure PS (p f n pos g : Nat) (vs : List (BitVec 64)) (T : Nat → Int) (D : Nat → Prop) (w0 : World) (a q : Nat) (w : World) : Prop where
  pen : Pen p f n a w
  fil : Fil f n T (fun i => D i ∨ (pos ≤ i ∧ i < q)) w
  num : ∀ j, j < vs.length → w.cell? ⟨g, j, none⟩ = some (.int .u64 (n64 (vs.getD j 0)))
  kp : Kp p f w0 w
theorem setCell_cell (w : World) (g i : Nat) (v : Value) (k j : Nat) (h : ¬ k = g) : (w.setCell ⟨g, i, none⟩ v).cell? ⟨k, j, none⟩ = w.cell? ⟨k, j, none⟩ := by
  have e := setCell_other w g i v k h
  unfold World.cell?
  simp only [e]
theorem setCell_kp (p f : Nat) (w : World) (g i : Nat) (v : Value) (h : g = p ∨ g = f) : Kp p f w (w.setCell ⟨g, i, none⟩ v) := by
  have hb := Below.setCell (Below.refl 0 w) (p := ⟨g, i, none⟩) (Nat.zero_le _) v
  exact ⟨hb.os, hb.tape, hb.output, hb.size, fun k _ h1 h2 => setCell_other w g i v k (by omega)⟩
theorem PS.byte {p f n pos g : Nat} {vs : List (BitVec 64)} {T : Nat → Int} {D : Nat → Prop} {w0 w : World} {a q : Nat} (h : PS p f n pos g vs T D w0 a q w) (hpf : ¬ p = f) (hgf : ¬ g = f) (hq : pos ≤ q ∧ q < n) (z : Int) (hz : z = T q) : PS p f n pos g vs T D w0 a (q + 1) (w.setCell ⟨f, q, none⟩ (.int .u8 z)).drew := by
  refine ⟨(setCell_other w f q _ p hpf).trans h.pen, ?_, fun j hj => (setCell_cell w f q _ g j hgf).trans (h.num j hj), Kp.drew (h.kp.trans (setCell_kp p f w f q _ (.inr rfl)))⟩
  have h1 := (h.fil.put q hq.2 z hz).set (D' := fun i => D i ∨ (pos ≤ i ∧ i < q + 1)) (fun i _ => by
    constructor
    · rintro ((h | h) | h)
      · exact .inl h
      · exact .inr (by omega)
      · exact .inr (by omega)
    · rintro (h | h)
      · exact .inl (.inl h)
      · by_cases e : i = q
        · exact .inr e
        · exact .inl (.inr (by omega)))
  exact h1
theorem PS.step {p f n pos g : Nat} {vs : List (BitVec 64)} {T : Nat → Int} {D : Nat → Prop} {w0 w : World} {a q b : Nat} (h : PS p f n pos g vs T D w0 a q w) (hpf : ¬ p = f) (hgp : ¬ g = p) : PS p f n pos g vs T D w0 b q (w.setCell ⟨p, 1, none⟩ (.int .i64 b)) :=
  ⟨h.pen.move, h.fil.other (setCell_other w p 1 _ f (fun e => hpf e.symm)), fun j hj => (setCell_cell w p 1 _ g j hgp).trans (h.num j hj), h.kp.trans (setCell_kp p f w p 1 _ (.inl rfl))⟩
set_option maxRecDepth 100000 in
set_option maxHeartbeats 4000000 in
theorem put_c (p f n pos g sz : Nat) (vs : List (BitVec 64)) (T : Nat → Int) (D : Nat → Prop) (w : World) (hp : Pen p f n pos w) (hF : Fil f n T D w) (hpf : ¬ p = f) (hgf : ¬ g = f) (hgp : ¬ g = p) (hg : ∀ j, j < vs.length → w.cell? ⟨g, j, none⟩ = some (.int .u64 (n64 (vs.getD j 0)))) (hs : 1 ≤ sz ∧ sz ≤ 8) (hn : pos + sz * vs.length ≤ n) (hnb : n ≤ 1000000) (hm : vs.length ≤ 100)
    (hT : ∀ j, j < vs.length → ∀ i, i < sz → T (pos + sz * j + i) = n64 (vs.getD j 0) / 2 ^ (8 * i) % 256) :
    Calls Tryz.prog 78 #[.pointer (some ⟨p, 0, none⟩), .int .i64 sz, .slice (some ⟨g, 0, none⟩) vs.length vs.length] w fun e w' => e = .returned (.tuple #[]) ∧ Pen p f n (pos + sz * vs.length) w' ∧ Fil f n T (fun i => D i ∨ (pos ≤ i ∧ i < pos + sz * vs.length)) w' ∧ Kp p f w w' := by
  have HS0 : Hid (PS p f n pos g vs T D w pos pos w) := ⟨hp, hF.set (fun i _ => ⟨.inl, fun h => h.elim id (fun h => by omega)⟩), hg, Kp.refl _ _ _⟩
  obtain ⟨m, hm0⟩ : ∃ m, m = vs.length := ⟨_, rfl⟩
  have HM : Hid (m = vs.length) := hm0
  have HT : Hid (∀ j, j < vs.length → ∀ i, i < sz → T (pos + sz * j + i) = n64 (vs.getD j 0) / 2 ^ (8 * i) % 256) := hT
  rw [← hm0] at hn hm
  rw [← hm0]
  have HNN : Hid (pos + sz * m ≤ n) := hn
  have hnI : (n : Int) ≤ 1000000 := by omega
  have hsI : (sz : Int) ≤ 8 := by omega
  have hmI : (m : Int) ≤ 100 := by omega
  clear hp hF hg hT hm0 hn
  go_enter Tryz.func78, Tryz.ntmps78
  go_wp2
  go_loopw [7, 8, 11] (fun _ _ j wr => ∃ k a : Nat, k ≤ m ∧ j = .int .i64 k ∧ Hid (a = pos + sz * k) ∧ Hid (PS p f n pos g vs T D w a a wr)) (fun _ _ j _ => m - (intOf j).toNat)
  case atStart => exact ⟨0, pos, by omega, rfl, (by unfold Hid; omega), HS0⟩
  case round =>
    obtain ⟨k, a, hk, rfl, ha, hps⟩ := hrel
    clear HS0
    by_cases hlt : k < m
    · as_aux_lemma =>
      have hltI : (k : Int) < m := by omega
      have hnum := hps.out.num k (by rw [← HM.out]; exact hlt)
      have hab : a + sz ≤ n := by
        have h1 := Nat.mul_le_mul_left sz (show k + 1 ≤ m by omega)
        rw [Nat.mul_succ] at h1
        have := HNN.out
        have := ha.out
        omega
      have HTk : Hid (∀ i, i < sz → T (a + i) = n64 (vs.getD k 0) / 2 ^ (8 * i) % 256) := fun i hi => by rw [ha.out]; exact HT.out k (by rw [← HM.out]; exact hlt) i hi
      have HAP : Hid (pos ≤ a) := by unfold Hid; rw [ha.out]; omega
      have HA2 : Hid (a + sz = pos + sz * (k + 1)) := by unfold Hid; rw [ha.out, Nat.mul_succ]; omega
      generalize vs.getD k 0 = v at hnum HTk
      have hlo := n64_lo v
      have hhi := n64_hi v
      have HPS0 : Hid (PS p f n pos g vs T D w a (a + 0) wr) := hps.out
      clear ha
      go_wp2
      go_loopw [8, 16] (fun _ j wx => ∃ i : Nat, i ≤ sz ∧ j = .int .i64 i ∧ Hid (PS p f n pos g vs T D w a (a + i) wx)) (fun _ j _ => sz - (intOf j).toNat)
      case atStart => exact ⟨0, by omega, rfl, HPS0⟩
      case round =>
        obtain ⟨i, hi, rfl, hpi⟩ := hrel
        clear HPS0 hps hnum
        have hp0 := hpi.out.pen.c0
        obtain ⟨hp1, hpfr⟩ := hpi.out.pen.c1
        by_cases hli : i < sz
        · have hliI : (i : Int) < sz := by omega
          obtain ⟨⟨u, hu⟩, hfr⟩ := hpi.out.fil.there (a + i) (by omega)
          have hI1 : (a : Int) + i < n := by omega
          have HNX : Hid (PS p f n pos g vs T D w a (a + i + 1) (wr.setCell ⟨f, a + i, none⟩ (.int .u8 (n64 v / 2 ^ (8 * i) % 256))).drew) := hpi.out.byte hpf hgf (by have := HAP.out; omega) _ (HTk.out i hli).symm
          go_wp2
          go_region
          all_goals go_wp2
          all_goals go_roundw
          · exact ⟨i + 1, by omega, by simp, HNX.out⟩
          · simp only [intOf]; omega
        · obtain rfl : i = sz := by omega
          have hliI : ¬ ((i : Int) < i) := by omega
          have HNX : Hid (PS p f n pos g vs T D w (a + i) (a + i) (wr.setCell ⟨p, 1, none⟩ (.int .i64 ((a + i : Nat) : Int)))) := hpi.out.step hpf hgp
          have hai : (a : Int) + i = ((a + i : Nat) : Int) := by omega
          obtain ⟨a2, ha2⟩ : ∃ a2, a2 = a + i := ⟨_, rfl⟩
          rw [← ha2] at HNX hai HA2
          have ha2b : (a2 : Int) ≤ 1000000 := by omega
          clear ha2
          go_wp2
          --@CUT3
          go_roundw
          · exact ⟨k + 1, a2, by omega, by simp, HA2.out, HNX.out⟩
          · simp only [intOf]; omega
    · obtain rfl : k = m := by omega
      have hltI : ¬ ((k : Int) < k) := by omega
      have HEQ : Hid (a = pos + sz * k) := ha.out
      clear ha
      go_wp2
      --@CUT4
      first | go_end0 | refine bodyPost_ret (results_none rfl _ _ _) rfl ?_
      refine ⟨rfl, ?_, ?_, hps.out.kp⟩
      · rw [← HEQ.out]; exact hps.out.pen
      · rw [← HEQ.out]; exact hps.out.fil
end Go.Proofs.YtheeogbmljjbdaaGreatDoor
namespace Go.Proofs.YtheeogbmljjbdaaGreatDoor
set_option linter.unusedVariables false
open Go.ChangeShapes Go.WideShapes Go.ChangeAt Go.RowKit Go.Deep
theorem Fil.row {f n : Nat} {T : Nat → Int} {D : Nat → Prop} {w : World} (h : Fil f n T D w) (pos : Nat) (t : ByteArray) (hn : pos + t.size ≤ n) (hT : ∀ i (hi : i < t.size), T (pos + i) = (t[i]'hi).toNat) :
    ∃ C : Array Value, C.size = n ∧ w.heap[f]? = some (.cells C 5 (0, 0)) ∧ Fil f n T (fun i => D i ∨ (pos ≤ i ∧ i < pos + t.size)) (w.setRow f (C.toList.take pos ++ Go.Lib.byteCells t.data.toList ++ C.toList.drop (pos + t.size)).toArray) := by
  obtain ⟨C, hC, hr, hd⟩ := h
  have hbl : (Go.Lib.byteCells t.data.toList).length = t.size := by
    rw [Go.Lib.byteCells_length]
    exact (Go.Lib.size_eq t).symm
  have htl : (C.toList.take pos).length = pos := by rw [List.length_take, Array.length_toList]; omega
  refine ⟨C, hC, hr, _, ?_, Go.setRow_heap w f C _ _ _ hr, fun i hi => ?_⟩
  · rw [List.size_toArray, List.length_append, List.length_append, hbl, htl, List.length_drop, Array.length_toList]
    omega
  have e1 : i < pos → ((C.toList.take pos ++ Go.Lib.byteCells t.data.toList ++ C.toList.drop (pos + t.size)).toArray)[i]? = C[i]? := fun h => by
    rw [List.getElem?_toArray, List.append_assoc, List.getElem?_append_left (by omega), List.getElem?_take, if_pos h, Array.getElem?_toList]
  have e3 : pos + t.size ≤ i → ((C.toList.take pos ++ Go.Lib.byteCells t.data.toList ++ C.toList.drop (pos + t.size)).toArray)[i]? = C[i]? := fun h => by
    rw [List.getElem?_toArray, List.getElem?_append_right (by rw [List.length_append, htl, hbl]; omega), List.length_append, htl, hbl, List.getElem?_drop, Array.getElem?_toList, show pos + t.size + (i - (pos + t.size)) = i by omega]
  by_cases h1 : i < pos
  · rw [e1 h1]
    exact ⟨fun h => (hd i hi).1 (h.resolve_right (by omega)), fun h => (hd i hi).2 (fun q => h (.inl q))⟩
  by_cases h2 : pos + t.size ≤ i
  · rw [e3 h2]
    exact ⟨fun h => (hd i hi).1 (h.resolve_right (by omega)), fun h => (hd i hi).2 (fun q => h (.inl q))⟩
  refine ⟨fun _ => ?_, fun h => absurd (Or.inr (by omega)) h⟩
  obtain ⟨k, rfl⟩ : ∃ k, i = pos + k := ⟨i - pos, by omega⟩
  have hk : k < t.size := by omega
  rw [List.getElem?_toArray, List.append_assoc, List.getElem?_append_right (by omega), htl, show pos + k - pos = k by omega, List.getElem?_append_left (by omega), hT k hk]
  unfold Go.Lib.byteCells
  have hk2 : k < t.data.toList.length := by rw [← Go.Lib.size_eq]; exact hk
  rw [List.getElem?_map, List.getElem?_eq_getElem hk2]
  rfl
theorem step_text {ops : Array Oper} {o : Oper} {a : Act} {w : World} {K : Act → World → Prop} {Q : Exit → Act → World → Prop} {E : Prop}
    (hg : o.guard = none) (d x : Operand) (hop : o.op = .call { callee := .builtin .copy, args := #[d, x], argTypes := #[31, 9] })
    (p f n pos dl dc : Nat) (T : Nat → Int) (D : Nat → Prop) (t : ByteArray) (hd : a.eval d = .slice (some ⟨f, pos, none⟩) dl dc) (hx : a.eval x = .string t)
    (hp : Pen p f n pos w) (hF : Fil f n T D w) (hpf : ¬ p = f) (hl : t.size ≤ dl) (hn : pos + t.size ≤ n) (hT : ∀ i (hi : i < t.size), T (pos + i) = (t[i]'hi).toNat)
    (hK : ∀ w2, Pen p f n pos w2 → Fil f n T (fun i => D i ∨ (pos ≤ i ∧ i < pos + t.size)) w2 → Kp p f w w2 → K (a.put o.dst (goInt t.size)) w2) :
    if Region.wanted o (yielded ops a.tmps) = true then Oper.wp Tryz.prog o a w K Q else E := by
  obtain ⟨C, hC, hr, hf⟩ := hF.row pos t hn hT
  have hw : Region.wanted o (yielded ops a.tmps) = true := by simp [Region.wanted, hg]
  rw [if_pos hw]
  have hs1 : ((Tryz.prog).info? 5).map (·.size) = some 1 := by kernel_rfl
  have hrun := Go.Lib.run_copy_row_string (P := Tryz.prog) w 31 9 o.type 5 f pos dl dc t C 5 Tryz.underlying31 hs1 hr hl (by omega)
  have hk := hK _ ((Go.setRow_other w f p _ hpf).trans hp) hf ⟨rfl, rfl, rfl, by simp, fun k _ _ h => Go.setRow_other w f k _ h⟩
  generalize (C.toList.take pos ++ Go.Lib.byteCells t.data.toList ++ C.toList.drop (pos + t.size)).toArray = R at hrun hk
  unfold Oper.wp
  simp [execOp, hop, resolve, invoke, builtin, hd, hx, hrun, Result.andThen]
  exact hk
theorem put_v (p f n pos sz m : Nat) (szI : Int) (vs : List (BitVec 64)) (cs : Array Value) (T : Nat → Int) (D : Nat → Prop) (w : World) (hp : Pen p f n pos w) (hF : Fil f n T D w) (hpf : ¬ p = f) (hsz : szI = sz) (hvm : vs.length = m) (hcs : ∀ j, j < m → cs[j]? = some (.int .u64 (n64 (vs.getD j 0)))) (hs : 1 ≤ sz ∧ sz ≤ 8) (hn : pos + sz * m ≤ n) (hnb : n ≤ 1000000) (hm : m ≤ 100)
    (hT : ∀ j, j < m → ∀ i, i < sz → T (pos + sz * j + i) = n64 (vs.getD j 0) / 2 ^ (8 * i) % 256) :
    Calls Tryz.prog 78 #[.pointer (some ⟨p, 0, none⟩), .int .i64 szI, .slice (some ⟨w.heap.size, 0, none⟩) m m] (w.alloc (.cells cs 22)) fun e w' => e = .returned (.tuple #[]) ∧ Pen p f n (pos + sz * m) w' ∧ Fil f n T (fun i => D i ∨ (pos ≤ i ∧ i < pos + sz * m)) w' ∧ Kp p f w w' := by
  subst hvm hsz
  have hpl : p < w.heap.size := (Array.getElem?_eq_some_iff.1 hp).1
  have hfl : f < w.heap.size := by obtain ⟨C, _, hr, _⟩ := hF; exact (Array.getElem?_eq_some_iff.1 hr).1
  have hb : Below w.heap.size w (w.alloc (.cells cs 22)) := (Below.refl _ _).alloc (Nat.le_refl _) _
  have hk : Kp p f w (w.alloc (.cells cs 22)) := ⟨hb.os, hb.tape, hb.output, hb.size, fun k h1 _ _ => hb.5 k h1⟩
  refine (put_c p f n pos w.heap.size sz vs T D (w.alloc (.cells cs 22)) ((hb.5 p hpl).trans hp) (hF.other (hb.5 f hfl)) hpf (by omega) (by omega) (fun j hj => ?_) hs hn hnb hm hT).mono ?_
  · rw [cell_of_row _ w.heap.size j cs _ _ (heap_alloc_new w _)]
    exact hcs j hj
  · rintro e w' ⟨rfl, h1, h2, h3⟩
    exact ⟨rfl, h1, h2, hk.trans h3⟩
set_option maxRecDepth 100000 in
set_option maxHeartbeats 4000000 in
theorem text_c (p f n pos : Nat) (t : ByteArray) (T : Nat → Int) (D : Nat → Prop) (w : World) (hp : Pen p f n pos w) (hF : Fil f n T D w) (hpf : ¬ p = f) (hn : pos + t.size < n) (hnb : n ≤ 1000000) (hT : ∀ i (hi : i < t.size), T (pos + i) = (t[i]'hi).toNat) :
    Calls Tryz.prog 77 #[.pointer (some ⟨p, 0, none⟩), .string t] w fun e w' => e = .returned (.tuple #[]) ∧ Pen p f n (pos + t.size) w' ∧ Fil f n T (fun i => D i ∨ (pos ≤ i ∧ i < pos + t.size)) w' ∧ Kp p f w w' := by
  have HP : Hid (Pen p f n pos w ∧ Fil f n T D w ∧ ¬ p = f) := ⟨hp, hF, hpf⟩
  have HT : Hid (∀ i (hi : i < t.size), T (pos + i) = (t[i]'hi).toNat) := hT
  have c0 := hp.c0
  obtain ⟨c1, f1⟩ := hp.c1
  obtain ⟨m, hm⟩ : ∃ m, m = t.size := ⟨_, rfl⟩
  have HM : Hid (m = t.size) := hm
  have HN : Hid (pos + t.size ≤ n ∧ t.size ≤ n - pos) := ⟨by omega, by omega⟩
  have hI1 : (pos : Int) < n := by omega
  have hI3 : (pos : Int) ≤ n := by omega
  have hI2 : ¬ ((n : Int) = pos) := by omega
  have hI4 : ¬ (n = pos) := by omega
  have hnI : (n : Int) ≤ 1000000 := by omega
  have hmI : (pos : Int) + m < n := by omega
  rw [← hm]
  clear hp hF hT hpf hm hn
  go_enter Tryz.func77, Tryz.ntmps77
  go_region_law (refine step_text rfl (.tmp 16) (.tmp 17) rfl p f n pos (n - pos) (n - pos) T D t (by simp [Act.eval, Act.put]) (by simp [Act.eval, Act.put]) HP.out.1 HP.out.2.1 HP.out.2.2 HN.out.2 HN.out.1 HT.out ?_; intro w2 hp2 hf2 hk2; rw [← HM.out] at hf2; have d0 := hp2.c0; obtain ⟨d1, g1⟩ := hp2.c1; rw [← HM.out])
  all_goals go_wp2
  --@CUT
  all_goals first | go_end0 | refine bodyPost_ret (results_none rfl _ _ _) rfl ?_
  all_goals
    have hwr : IntKind.i64.wrap ((pos : Int) + m) = ((pos + m : Nat) : Int) := by rw [IntKind.wrap_i64]; omega
    rw [hwr]
    exact ⟨rfl, hp2.move, hf2.other (setCell_other w2 p 1 _ f (fun e => HP.out.2.2 e.symm)), Kp.trans (Kp.mk hk2.os hk2.tape hk2.output hk2.size hk2.block) (setCell_kp p f w2 p 1 _ (.inl rfl))⟩
end Go.Proofs.YtheeogbmljjbdaaGreatDoor
