/-
  Iwi Iwj Ipa Isa Ipb Itw.
-/
import Derived.Test.YtopddflnahfomaaGreatDoorM01
import Derived.Lib.BufferWrite
import Derived.Deep.RegionLaw
import Derived.WalkSmall
import Derived.StillTailTactics
import Derived.Laws.AppendOwnNone
namespace Go.Proofs.YtopddflnahfomaaGreatDoor
set_option linter.unusedVariables false
open Go.ChangeShapes Go.WideShapes Go.ChangeAt Go.RowKit Go.Deep
theorem Fil.row {f n : Nat} {T : Nat → Int} {D : Nat → Prop} {w : World} (h : Fil f n T D w) (pos : Nat) (t : ByteArray) (hn : pos + t.size ≤ n) (hT : ∀ i (hi : i < t.size), T (pos + i) = (t[i]'hi).toNat) :
    ∃ C : Array Value, C.size = n ∧ w.heap[f]? = some (.cells C 5 (0, 0)) ∧ Fil f n T (fun i => D i ∨ (pos ≤ i ∧ i < pos + t.size)) (w.setRow f (C.toList.take pos ++ Go.Lib.byteCells t.data.toList ++ C.toList.drop (pos + t.size)).toArray) := by
  obtain ⟨C, hC, hr, hd⟩ := h
  have hbl : (Go.Lib.byteCells t.data.toList).length = t.size := by
    rw [Go.Lib.byteCells_length]
    exact (Go.Lib.size_eq t).symm
  have htl : (C.toList.take pos).length = pos := by rw [List.length_take, Array.length_toList]; omega
  refine ⟨C, hC, hr, _, ?_, Go.setRow_heap w f C _ _ _ hr, fun i hi => ?_⟩
  · rw [List.size_toArray, List.length_append, List.length_append, hbl, htl, List.length_drop, Array.length_toList]
    omega
  have e1 : i < pos → ((C.toList.take pos ++ Go.Lib.byteCells t.data.toList ++ C.toList.drop (pos + t.size)).toArray)[i]? = C[i]? := fun h => by
    rw [List.getElem?_toArray, List.append_assoc, List.getElem?_append_left (by omega), List.getElem?_take, if_pos h, Array.getElem?_toList]
  have e3 : pos + t.size ≤ i → ((C.toList.take pos ++ Go.Lib.byteCells t.data.toList ++ C.toList.drop (pos + t.size)).toArray)[i]? = C[i]? := fun h => by
    rw [List.getElem?_toArray, List.getElem?_append_right (by rw [List.length_append, htl, hbl]; omega), List.length_append, htl, hbl, List.getElem?_drop, Array.getElem?_toList, show pos + t.size + (i - (pos + t.size)) = i by omega]
  by_cases h1 : i < pos
  · rw [e1 h1]
    exact ⟨fun h => (hd i hi).1 (h.resolve_right (by omega)), fun h => (hd i hi).2 (fun q => h (.inl q))⟩
  by_cases h2 : pos + t.size ≤ i
  · rw [e3 h2]
    exact ⟨fun h => (hd i hi).1 (h.resolve_right (by omega)), fun h => (hd i hi).2 (fun q => h (.inl q))⟩
  refine ⟨fun _ => ?_, fun h => absurd (Or.inr (by omega)) h⟩
  obtain ⟨k, rfl⟩ : ∃ k, i = pos + k := ⟨i - pos, by omega⟩
  have hk : k < t.size := by omega
  rw [List.getElem?_toArray, List.append_assoc, List.getElem?_append_right (by omega), htl, show pos + k - pos = k by omega, List.getElem?_append_left (by omega), hT k hk]
  unfold Go.Lib.byteCells
  have hk2 : k < t.data.toList.length := by rw [← Go.Lib.size_eq]; exact hk
  rw [List.getElem?_map, List.getElem?_eq_getElem hk2]
  rfl
theorem step_text {ops : Array Oper} {o : Oper} {a : Act} {w : World} {K : Act → World → Prop} {Q : Exit → Act → World → Prop} {E : Prop}
    (hg : o.guard = none) (d x : Operand) (hop : o.op = .call { callee := .builtin .copy, args := #[d, x], argTypes := #[29, 9] })
    (p f n pos dl dc : Nat) (T : Nat → Int) (D : Nat → Prop) (t : ByteArray) (hd : a.eval d = .slice (some ⟨f, pos, none⟩) dl dc) (hx : a.eval x = .string t)
    (hp : Pen p f n pos w) (hF : Fil f n T D w) (hpf : ¬ p = f) (hl : t.size ≤ dl) (hn : pos + t.size ≤ n) (hT : ∀ i (hi : i < t.size), T (pos + i) = (t[i]'hi).toNat)
    (hK : ∀ w2, Pen p f n pos w2 → Fil f n T (fun i => D i ∨ (pos ≤ i ∧ i < pos + t.size)) w2 → Kp p f w w2 → K (a.put o.dst (goInt t.size)) w2) :
    if Region.wanted o (yielded ops a.tmps) = true then Oper.wp Tryz.prog o a w K Q else E := by
  obtain ⟨C, hC, hr, hf⟩ := hF.row pos t hn hT
  have hw : Region.wanted o (yielded ops a.tmps) = true := by simp [Region.wanted, hg]
  rw [if_pos hw]
  have hs1 : ((Tryz.prog).info? 5).map (·.size) = some 1 := by kernel_rfl
  have hrun := Go.Lib.run_copy_row_string (P := Tryz.prog) w 29 9 o.type 5 f pos dl dc t C 5 Tryz.underlying29 hs1 hr hl (by omega)
  have hk := hK _ ((Go.setRow_other w f p _ hpf).trans hp) hf ⟨rfl, rfl, rfl, by simp, fun k _ _ h => Go.setRow_other w f k _ h⟩
  generalize (C.toList.take pos ++ Go.Lib.byteCells t.data.toList ++ C.toList.drop (pos + t.size)).toArray = R at hrun hk
  unfold Oper.wp
  simp [execOp, hop, resolve, invoke, builtin, hd, hx, hrun, Result.andThen]
  exact hk
theorem put_v (p f n pos sz m : Nat) (szI : Int) (vs : List (BitVec 64)) (cs : Array Value) (T : Nat → Int) (D : Nat → Prop) (w : World) (hp : Pen p f n pos w) (hF : Fil f n T D w) (hpf : ¬ p = f) (hsz : szI = sz) (hvm : vs.length = m) (hcs : ∀ j, j < m → cs[j]? = some (.int .u64 (n64 (vs.getD j 0)))) (hs : 1 ≤ sz ∧ sz ≤ 8) (hn : pos + sz * m ≤ n) (hnb : n ≤ 1000000) (hm : m ≤ 100)
    (hT : ∀ j, j < m → ∀ i, i < sz → T (pos + sz * j + i) = n64 (vs.getD j 0) / 2 ^ (8 * i) % 256) :
    Calls Tryz.prog 39 #[.pointer (some ⟨p, 0, none⟩), .int .i64 szI, .slice (some ⟨w.heap.size, 0, none⟩) m m] (w.alloc (.cells cs 22)) fun e w' => e = .returned (.tuple #[]) ∧ Pen p f n (pos + sz * m) w' ∧ Fil f n T (fun i => D i ∨ (pos ≤ i ∧ i < pos + sz * m)) w' ∧ Kp p f w w' := by
  subst hvm hsz
  have hpl : p < w.heap.size := (Array.getElem?_eq_some_iff.1 hp).1
  have hfl : f < w.heap.size := by obtain ⟨C, _, hr, _⟩ := hF; exact (Array.getElem?_eq_some_iff.1 hr).1
  have hb : Below w.heap.size w (w.alloc (.cells cs 22)) := (Below.refl _ _).alloc (Nat.le_refl _) _
  have hk : Kp p f w (w.alloc (.cells cs 22)) := ⟨hb.os, hb.tape, hb.output, hb.size, fun k h1 _ _ => hb.5 k h1⟩
  refine (put_c p f n pos w.heap.size sz vs T D (w.alloc (.cells cs 22)) ((hb.5 p hpl).trans hp) (hF.other (hb.5 f hfl)) hpf (by omega) (by omega) (fun j hj => ?_) hs hn hnb hm hT).mono ?_
  · rw [cell_of_row _ w.heap.size j cs _ _ (heap_alloc_new w _)]
    exact hcs j hj
  · rintro e w' ⟨rfl, h1, h2, h3⟩
    exact ⟨rfl, h1, h2, hk.trans h3⟩
set_option maxRecDepth 100000 in
set_option maxHeartbeats 4000000 in
theorem text_c (p f n pos : Nat) (t : ByteArray) (T : Nat → Int) (D : Nat → Prop) (w : World) (hp : Pen p f n pos w) (hF : Fil f n T D w) (hpf : ¬ p = f) (hn : pos + t.size < n) (hnb : n ≤ 1000000) (hT : ∀ i (hi : i < t.size), T (pos + i) = (t[i]'hi).toNat) :
    Calls Tryz.prog 38 #[.pointer (some ⟨p, 0, none⟩), .string t] w fun e w' => e = .returned (.tuple #[]) ∧ Pen p f n (pos + t.size) w' ∧ Fil f n T (fun i => D i ∨ (pos ≤ i ∧ i < pos + t.size)) w' ∧ Kp p f w w' := by
  have HP : Hid (Pen p f n pos w ∧ Fil f n T D w ∧ ¬ p = f) := ⟨hp, hF, hpf⟩
  have HT : Hid (∀ i (hi : i < t.size), T (pos + i) = (t[i]'hi).toNat) := hT
  have c0 := hp.c0
  obtain ⟨c1, f1⟩ := hp.c1
  obtain ⟨m, hm⟩ : ∃ m, m = t.size := ⟨_, rfl⟩
  have HM : Hid (m = t.size) := hm
  have HN : Hid (pos + t.size ≤ n ∧ t.size ≤ n - pos) := ⟨by omega, by omega⟩
  have hI1 : (pos : Int) < n := by omega
  have hI3 : (pos : Int) ≤ n := by omega
  have hI2 : ¬ ((n : Int) = pos) := by omega
  have hI4 : ¬ (n = pos) := by omega
  have hnI : (n : Int) ≤ 1000000 := by omega
  have hmI : (pos : Int) + m < n := by omega
  rw [← hm]
  clear hp hF hT hpf hm hn
  go_enter Tryz.func38, Tryz.ntmps38
  go_region_law (refine step_text rfl (.tmp 16) (.tmp 17) rfl p f n pos (n - pos) (n - pos) T D t (by simp [Act.eval, Act.put]) (by simp [Act.eval, Act.put]) HP.out.1 HP.out.2.1 HP.out.2.2 HN.out.2 HN.out.1 HT.out ?_; intro w2 hp2 hf2 hk2; rw [← HM.out] at hf2; have d0 := hp2.c0; obtain ⟨d1, g1⟩ := hp2.c1; rw [← HM.out])
  all_goals go_wp2
  --@CUT
  all_goals first | go_end0 | refine bodyPost_ret (results_none rfl _ _ _) rfl ?_
  all_goals
    have hwr : IntKind.i64.wrap ((pos : Int) + m) = ((pos + m : Nat) : Int) := by rw [IntKind.wrap_i64]; omega
    rw [hwr]
    exact ⟨rfl, hp2.move, hf2.other (setCell_other w2 p 1 _ f (fun e => HP.out.2.2 e.symm)), Kp.trans (Kp.mk hk2.os hk2.tape hk2.output hk2.size hk2.block) (setCell_kp p f w2 p 1 _ (.inl rfl))⟩
end Go.Proofs.YtopddflnahfomaaGreatDoor
namespace Go.Proofs.YtopddflnahfomaaGreatDoor
set_option linter.unusedVariables false
open Go.ChangeShapes Go.WideShapes Go.ChangeAt Go.RowKit Go.Deep
set_option maxRecDepth 100000 in
set_option maxHeartbeats 400000 in
theorem section_c (p f n pos : Nat) (tx kd : BitVec 64) (fr to : Nat) (T : Nat → Int) (D : Nat → Prop) (w : World) (hp : Pen p f n pos w) (hF : Fil f n T D w) (hpf : ¬ p = f) (hn : pos + 40 ≤ n) (hnb : n ≤ 1000000) (hft : fr ≤ to) (ht : to ≤ 1000000)
    (hT1 : ∀ j, j < 2 → ∀ i, i < 4 → T (pos + 4 * j + i) = n64 ([tx, kd].getD j 0) / 2 ^ (8 * i) % 256)
    (hT2 : ∀ j, j < 4 → ∀ i, i < 8 → T (pos + 8 + 8 * j + i) = n64 ([0, 0, BitVec.ofNat 64 fr, BitVec.ofNat 64 (to - fr)].getD j 0) / 2 ^ (8 * i) % 256) :
    Calls Tryz.prog 41 #[.pointer (some ⟨p, 0, none⟩), .int .u64 (n64 tx), .int .u64 (n64 kd), .int .i64 fr, .int .i64 to] w fun e w' => e = .returned (.tuple #[]) ∧ Pen p f n (pos + 40) w' ∧ Fil f n T (fun i => D i ∨ (pos ≤ i ∧ i < pos + 40)) w' ∧ Kp p f w w' := by
  have HP : Hid (Pen p f n pos w ∧ Fil f n T D w ∧ ¬ p = f) := ⟨hp, hF, hpf⟩
  have HT1 : Hid (∀ j, j < 2 → ∀ i, i < 4 → T (pos + 4 * j + i) = n64 ([tx, kd].getD j 0) / 2 ^ (8 * i) % 256) := hT1
  have HT2 : Hid (∀ j, j < 4 → ∀ i, i < 8 → T (pos + 8 + 8 * j + i) = n64 ([0, 0, BitVec.ofNat 64 fr, BitVec.ofNat 64 (to - fr)].getD j 0) / 2 ^ (8 * i) % 256) := hT2
  have HC1 : Hid (∀ j, j < 2 → (#[Value.int .u64 (n64 tx), Value.int .u64 (n64 kd)] : Array Value)[j]? = some (.int .u64 (n64 ([tx, kd].getD j 0)))) := fun j hj => by
    rcases j with _ | _ | j
    · rfl
    · rfl
    · omega
  have HC2 : Hid (∀ j, j < 4 → (#[Value.int .u64 0, Value.int .u64 0, Value.int .u64 fr, Value.int .u64 ((to : Int) - fr)] : Array Value)[j]? = some (.int .u64 (n64 ([0, 0, BitVec.ofNat 64 fr, BitVec.ofNat 64 (to - fr)].getD j 0)))) := fun j hj => by
    have e1 : n64 (BitVec.ofNat 64 fr) = fr := by unfold n64; rw [BitVec.toNat_ofNat, Nat.mod_eq_of_lt (by omega)]
    have e2 : n64 (BitVec.ofNat 64 (to - fr)) = (to : Int) - fr := by unfold n64; rw [BitVec.toNat_ofNat, Nat.mod_eq_of_lt (by omega)]; omega
    rcases j with _ | _ | _ | _ | j
    · rfl
    · rfl
    · show some (Value.int .u64 (fr : Int)) = some (.int .u64 (n64 (BitVec.ofNat 64 fr)))
      rw [e1]
    · show some (Value.int .u64 ((to : Int) - fr)) = some (.int .u64 (n64 (BitVec.ofNat 64 (to - fr))))
      rw [e2]
    · omega
  have hI1 : (fr : Int) ≤ to := by omega
  have hI2 : (to : Int) ≤ 1000000 := by omega
  clear hp hF hpf hT1 hT2
  go_enter Tryz.func41, Tryz.ntmps41
  go_wp2_with (go_at_call 39; first | (have hpq := hp1; refine (put_v p f n (pos + 8) 8 4 8 [0, 0, BitVec.ofNat 64 fr, BitVec.ofNat 64 (to - fr)] _ T _ w1 hp1 hf1 HP.out.2.2 rfl rfl HC2.out (by omega) (by omega) hnb (by omega) HT2.out).mono ?_; rintro e w2 ⟨rfl, hp2, hf2, hk2⟩) | (refine (put_v p f n pos 4 2 4 [tx, kd] _ T D w HP.out.1 HP.out.2.1 HP.out.2.2 rfl rfl HC1.out (by omega) (by omega) hnb (by omega) HT1.out).mono ?_; rintro e w1 ⟨rfl, hp1, hf1, hk1⟩))
  --@CUT
  first | go_end0 | refine bodyPost_ret (results_none rfl _ _ _) rfl ?_
  refine ⟨rfl, hp2, hf2.set (fun i _ => ?_), hk1.trans hk2⟩
  constructor
  · rintro ((h | h) | h)
    · exact .inl h
    · exact .inr (by omega)
    · exact .inr (by omega)
  · rintro (h | h)
    · exact .inl (.inl h)
    · by_cases e : i < pos + 8
      · exact .inl (.inr (by omega))
      · exact .inr (by omega)
end Go.Proofs.YtopddflnahfomaaGreatDoor
namespace Go.Proofs.YtopddflnahfomaaGreatDoor
set_option linter.unusedVariables false
open Go.ChangeShapes Go.WideShapes Go.ChangeAt Go.RowKit
/-- The first multiple of 8 from a place on. -/
def al (n : Nat) : Nat := (n + 7) / 8 * 8
theorem al_lo (n : Nat) : n ≤ al n := by unfold al; omega
theorem al_hi (n : Nat) : al n ≤ n + 7 := by unfold al; omega
theorem al_end {n m : Nat} (h1 : n ≤ m) (h2 : m ≤ al n) (h : m % 8 = 0) : m = al n := by unfold al at *; omega
theorem al_step {n m : Nat} (h1 : n ≤ m) (h2 : m ≤ al n) (h : m % 8 ≠ 0) : m + 1 ≤ al n := by unfold al at *; omega
set_option maxHeartbeats 1000000 in
theorem aligned_c (n : Nat) (hn : n ≤ 1152921504606846976) (w : World) : Calls Tryz.prog 25 #[.int .i64 (n : Int)] w fun e w' => e = .returned (.int .i64 ((al n : Nat) : Int)) ∧ w' = w := by
  have hq : (((n : Int) + 7) / 8 * 8) = ((al n : Nat) : Int) := by unfold al; omega
  have HQ : Hid ((((n : Int) + 7) / 8 * 8) = ((al n : Nat) : Int)) := hq
  clear hq
  go_enter Tryz.func25, Tryz.ntmps25
  go_wp2
  go_ret
  exact ⟨ret_int HQ.out, rfl⟩
end Go.Proofs.YtopddflnahfomaaGreatDoor
namespace Go.Proofs.YtopddflnahfomaaGreatDoor
set_option linter.unusedVariables false
open Go.ChangeShapes Go.WideShapes Go.ChangeAt Go.RowKit
/-- A part as it lies in memory. -/
structure Sg where
  a : BitVec 64
  s : BitVec 64
  f : Int
  d : Value
  n : Nat
  m : Option Addr
  c : Nat
def sgz : Sg := ⟨0, 0, 0, .slice none 0 0, 0, none, 0⟩
def sg (L : List Sg) (j : Nat) : Sg := L.getD j sgz
def Sgs (w : World) (v : Value) (L : List Sg) : Prop :=
  ∃ ad cap, v = .slice ad L.length cap ∧ L.length ≤ cap ∧ (L ≠ [] → ∃ g off, ad = some ⟨g, off, none⟩ ∧ g < w.heap.size ∧ ∀ j, j < L.length →
    w.cell? ⟨g, off + j * 4, none⟩ = some (.int .u64 (n64 (sg L j).a)) ∧ w.cell? ⟨g, off + j * 4 + 1, none⟩ = some (.int .u64 (n64 (sg L j).s)) ∧ w.cell? ⟨g, off + j * 4 + 2, none⟩ = some (.int .i64 (sg L j).f) ∧ w.cell? ⟨g, off + j * 4 + 3, none⟩ = some (.slice (sg L j).m (sg L j).n (sg L j).c))
theorem Sgs.later {w w' : World} {v : Value} {L : List Sg} (h : Sgs w v L) {B : Nat} (hb : Below B w w') (hB : B = w.heap.size) : Sgs w' v L := by
  obtain ⟨ad, cap, rfl, h1, h2⟩ := h
  refine ⟨ad, cap, rfl, h1, fun hne => ?_⟩
  obtain ⟨g, off, rfl, h3, h4⟩ := h2 hne
  refine ⟨g, off, rfl, Nat.lt_of_lt_of_le h3 hb.size, fun j hj => ?_⟩
  obtain ⟨c0, c1, c2, c3⟩ := h4 j hj
  rw [hb.cell (by rw [hB]; exact h3), hb.cell (by rw [hB]; exact h3), hb.cell (by rw [hB]; exact h3), hb.cell (by rw [hB]; exact h3)]
  exact ⟨c0, c1, c2, c3⟩
/-- A part's last address, as words wrap. -/
def lastB (x : Sg) : BitVec 64 := x.a + (x.s - 1#64)
/-- The first number that is not 0. -/
def ff (f : Nat → Int) : Nat → Nat → Int
  | 0, _ => 0
  | r + 1, i => if f i = 0 then ff f r (i + 1) else f i
theorem ff_end (f : Nat → Int) (r i : Nat) (h : r = 0) : ff f r i = 0 := by subst h; rfl
theorem ff_go {f : Nat → Int} {n i : Nat} (h : i < n) (h0 : f i = 0) : ff f (n - i) i = ff f (n - (i + 1)) (i + 1) := by
  obtain ⟨r, hr⟩ : ∃ r, n - i = r + 1 := ⟨n - i - 1, by omega⟩
  rw [hr, ff, if_pos h0, show n - (i + 1) = r by omega]
theorem ff_hit {f : Nat → Int} {n i : Nat} (h : i < n) (h0 : f i ≠ 0) : ff f (n - i) i = f i := by
  obtain ⟨r, hr⟩ : ∃ r, n - i = r + 1 := ⟨n - i - 1, by omega⟩
  rw [hr, ff, if_neg h0]
/-- A part's own fault. -/
def pf (L : List Sg) (i : Nat) : Int :=
  if (sg L i).s = 0#64 ∨ (sg L i).f < 0 ∨ 7 < (sg L i).f ∨ (sg L i).s.toNat < (sg L i).n ∨ (lastB (sg L i)).toNat < (sg L i).a.toNat then 23
  else if 0 < i ∧ (sg L i).a.toNat ≤ (lastB (sg L (i - 1))).toNat then 24 else 0
theorem n64_one : n64 1#64 = 1 := rfl
theorem lastB_n (x y : BitVec 64) : IntKind.u64.wrap (n64 x + IntKind.u64.wrap (n64 y - 1)) = n64 (x + (y - 1#64)) := by
  rw [← n64_one, n64_sub, n64_add]
theorem passes_n (x y : BitVec 64) : n64 (18446744073709551615#64 - x) < n64 (y - 1#64) ↔ (x + (y - 1#64)).toNat < x.toNat := by
  unfold n64
  generalize y - 1#64 = t
  rw [BitVec.toNat_sub, BitVec.toNat_add]
  have := x.isLt; have := t.isLt
  simp only [BitVec.toNat_ofNat, Nat.reducePow] at *
  omega
set_option maxHeartbeats 1000000 in
theorem last_c (x y : BitVec 64) (f : Int) (d : Value) (hd : d.oneCell' = true) (w : World) :
    Calls Tryz.prog 35 #[.agg #[.int .u64 (n64 x), .int .u64 (n64 y), .int .i64 f, d]] w fun e w' => e = .returned (.int .u64 (n64 (x + (y - 1#64)))) ∧ Below w.heap.size w w' := by
  have H := lastB_n x y
  have HH : Hid (IntKind.u64.wrap (n64 x + IntKind.u64.wrap (n64 y - 1)) = n64 (x + (y - 1#64))) := H
  clear H
  go_enter Tryz.func35, Tryz.ntmps35
  go_wp2
  go_ret
  exact ⟨ret_int HH.out, (Below.refl _ _).alloc (Nat.le_refl _) _⟩
set_option maxHeartbeats 1000000 in
theorem passes_c (x y : BitVec 64) (w : World) (b : Bool) (hb : Hid (b = decide ((x + (y - 1#64)).toNat < x.toNat))) :
    Calls Tryz.prog 34 #[.int .u64 (n64 x), .int .u64 (n64 y)] w fun e w' => e = .returned (.bool b) ∧ w = w' := by
  go_enter Tryz.func34, Tryz.ntmps34
  go_wp2
  go_ret
  refine ⟨?_, rfl⟩
  have e : decide (IntKind.u64.wrap (18446744073709551615 - n64 x) < IntKind.u64.wrap (n64 y - 1)) = b := by
    rw [hb.out, ← n64_one, n64_sub, show (18446744073709551615 : Int) = n64 18446744073709551615#64 from rfl, n64_sub]
    exact decide_eq_decide.2 (passes_n x y)
  rw [← e]; rfl
end Go.Proofs.YtopddflnahfomaaGreatDoor
namespace Go.Proofs.YtopddflnahfomaaGreatDoor
set_option linter.unusedVariables false
open Go.ChangeShapes Go.WideShapes Go.ChangeAt Go.RowKit Go.Deep
/-- A name as it lies in memory. -/
structure Sy where
  s : ByteArray
  v : BitVec 64
def syz : Sy := ⟨⟨#[]⟩, 0⟩
def sy (N : List Sy) (j : Nat) : Sy := N.getD j syz
def Sys (w : World) (v : Value) (N : List Sy) : Prop :=
  ∃ ad cap, v = .slice ad N.length cap ∧ N.length ≤ cap ∧ (N ≠ [] → ∃ g off, ad = some ⟨g, off, none⟩ ∧ g < w.heap.size ∧ ∀ j, j < N.length →
    w.cell? ⟨g, off + j * 2, none⟩ = some (.string (sy N j).s) ∧ w.cell? ⟨g, off + j * 2 + 1, none⟩ = some (.int .u64 (n64 (sy N j).v)))
theorem Sys.later {w w' : World} {v : Value} {N : List Sy} (h : Sys w v N) {B : Nat} (hb : Below B w w') (hB : B = w.heap.size) : Sys w' v N := by
  obtain ⟨ad, cap, rfl, h1, h2⟩ := h
  refine ⟨ad, cap, rfl, h1, fun hne => ?_⟩
  obtain ⟨g, off, rfl, h3, h4⟩ := h2 hne
  refine ⟨g, off, rfl, Nat.lt_of_lt_of_le h3 hb.size, fun j hj => ?_⟩
  obtain ⟨c0, c1⟩ := h4 j hj
  rw [hb.cell (by rw [hB]; exact h3), hb.cell (by rw [hB]; exact h3)]
  exact ⟨c0, c1⟩
/-- Where the file ends behind the first k parts. -/
def sk (L : List Sg) : Nat → Nat
  | 0 => 64 + 56 * L.length
  | k + 1 => if 0 < (sg L k).n then al (sk L k) + (sg L k).n else sk L k
/-- How many bytes the first k texts take. -/
def nk (N : List Sy) : Nat → Nat
  | 0 => 0
  | k + 1 => nk N k + ((sy N k).s.size + 1)
def tabAt (L : List Sg) : Nat := al (sk L L.length)
def szz (L : List Sg) (N : List Sy) : Nat := if N.length = 0 then sk L L.length else al (tabAt L + 24 + 24 * N.length + 1 + nk N N.length + 27) + 256
theorem sk_le {L : List Sg} (M : Nat) (hb : ∀ j, j < L.length → (sg L j).n ≤ M) (k : Nat) : k ≤ L.length → sk L k ≤ 64 + 56 * L.length + k * (M + 8) := by
  induction k with
  | zero =>
    intro _
    have e : sk L 0 = 64 + 56 * L.length := rfl
    rw [e]; omega
  | succ k ih =>
    intro hk
    have ih := ih (by omega)
    have h := hb k (by omega)
    have ha := al_hi (sk L k)
    have e : sk L (k + 1) = if 0 < (sg L k).n then al (sk L k) + (sg L k).n else sk L k := rfl
    rw [e, Nat.add_mul, Nat.one_mul]
    split <;> omega
theorem nk_le {N : List Sy} (M : Nat) (hb : ∀ j, j < N.length → (sy N j).s.size ≤ M) (k : Nat) : k ≤ N.length → nk N k ≤ k * (M + 1) := by
  induction k with
  | zero => intro _; exact Nat.zero_le _
  | succ k ih =>
    intro hk
    have ih := ih (by omega)
    have h := hb k (by omega)
    have e : nk N (k + 1) = nk N k + ((sy N k).s.size + 1) := rfl
    rw [e, Nat.add_mul, Nat.one_mul]
    omega
/-- An image as it is handed over. -/
structure Img (w : World) (vs vn : Value) (L : List Sg) (N : List Sy) : Prop where
  segs : Sgs w vs L
  syms : Sys w vn N
  lens : ∀ j, j < L.length → (sg L j).n ≤ 140737488355328
  texts : ∀ j, j < N.length → (sy N j).s.size ≤ 140737488355328
end Go.Proofs.YtopddflnahfomaaGreatDoor
namespace Go.Proofs.YtopddflnahfomaaGreatDoor
set_option linter.unusedVariables false
open Go.ChangeShapes Go.WideShapes Go.ChangeAt Go.RowKit Go.Deep
theorem info5 : (Tryz.prog.info? 5).map (fun i => (i.zero, i.size, i.bytes)) = some (some (.int .u8 0), 1, 1) := by kernel_rfl
theorem info41 : (Tryz.prog.info? 42).map (fun i => (i.zero, i.size, i.bytes)) = some (some (.agg #[.int .u64 0, .int .u64 0, .int .i64 0, .slice none 0 0]), 4, 48) := by kernel_rfl
theorem info51 : (Tryz.prog.info? 45).map (fun i => (i.zero, i.size, i.bytes)) = some (some (.agg #[.string ⟨#[]⟩, .int .u64 0]), 2, 24) := by kernel_rfl
def bv (l : List Int) : List Value := l.map (Value.int .u8)
theorem bv_get (l : List Int) (k : Nat) (h : k < l.length) : (bv l)[k]? = some (.int .u8 (l.getD k 0)) := by simp [bv, h]
/-- A list of bytes in memory, wherever it lies. -/
def Byt (w : World) (v : Value) (l : List Int) : Prop :=
  ∃ a cap, v = .slice a l.length cap ∧ l.length ≤ cap ∧ (a = none → cap = 0) ∧ (l ≠ [] → ∃ g off, a = some ⟨g, off, none⟩ ∧ g < w.heap.size ∧ ∀ j, j < l.length → w.cell? ⟨g, off + j, none⟩ = some (.int .u8 (l.getD j 0)))
theorem Byt.later {w w' : World} {v : Value} {l : List Int} (h : Byt w v l) {B : Nat} (hb : Below B w w') (hB : B = w.heap.size) : Byt w' v l := by
  obtain ⟨a, cap, rfl, h1, h1', h2⟩ := h
  refine ⟨a, cap, rfl, h1, h1', fun hn => ?_⟩
  obtain ⟨g, off, rfl, h3, h4⟩ := h2 hn
  exact ⟨g, off, rfl, Nat.lt_of_lt_of_le h3 hb.size, fun j hj => by rw [hb.cell (by rw [hB]; exact h3)]; exact h4 j hj⟩
theorem addAt (g off j : Nat) : (⟨g, off, none⟩ : Addr).add j = ⟨g, off + j, none⟩ := by unfold Addr.add; split <;> simp_all
/-- Bytes appended to an empty list that was just made. -/
theorem appD {ops : Array Oper} {rest : List Oper} {o : Oper} {a : Act} {w : World} {Q : Exit → Act → World → Prop} (hgd : o.guard = none) (s x : Operand) (ho : o.op = .call { callee := .builtin .append, args := #[s, x], argTypes := #[29, 29] })
    (h0 : Nat) (u : Value) (l : List Int) (hs : a.eval s = .slice (some ⟨h0, 0, none⟩) 0 0) (hh0 : h0 = w.heap.size) (hx : a.eval x = u) (hu : Byt w u l) (hl : l.length ≤ 140737488355328)
    (h : ∀ g' c' w', Below w.heap.size w w' → w'.ownsRow w.heap.size 5 1 (.slice (some ⟨g', 0, none⟩) l.length c') l.length (bv l) → wpList Tryz.prog ops Q rest (a.put o.dst (.slice (some ⟨g', 0, none⟩) l.length c')) w') :
    wpList Tryz.prog ops Q (o :: rest) a (w.alloc (.cells #[] 5)) := by
  subst hh0
  obtain ⟨i0, hi, hz0, hz1, hz2⟩ := info_parts info5
  have hown : (w.alloc (.cells #[] 5)).ownsRow w.heap.size 5 1 (.slice (some ⟨w.heap.size, 0, none⟩) 0 0) 0 (bv []) := World.ownsRow_made w #[] 0 (Nat.le_refl _) (Nat.zero_le _) rfl
  have hb1 : Below w.heap.size w (w.alloc (.cells #[] 5)) := (Below.refl _ _).alloc (Nat.le_refl _) _
  have hu' := hu.later hb1 rfl
  obtain ⟨ao, cap, rfl, h1, h1', h2⟩ := hu'
  cases ao with
  | none =>
    have hc := h1' rfl
    have hl0 : l = [] := List.eq_nil_of_length_eq_zero (by omega)
    subst hl0; subst hc
    refine wpList_append_own_none hgd s x 29 ho w.heap.size 5 i0 1 Tryz.underlying29 hi _ 0 (bv []) hs hown hx ?_
    exact h _ _ _ hb1 hown
  | some ad =>
    refine wpList_append_own _ hgd s x 29 ho w.heap.size 5 i0 (.int .u8 0) 1 1 Tryz.underlying29 hi hz0 hz1 hz2 rfl (by decide) _ 0 (bv []) hs hown ad l.length cap (bv l) hx (by simp [bv]) ?_ ?_ (by unfold maxLen; omega) (by omega) (by simp) ?_
    · intro j w2 hj
      have hjl : j < l.length := by have := (List.getElem?_eq_some_iff.1 hj).1; simpa [bv] using this
      obtain ⟨g, off, he, h3, h4⟩ := h2 (by intro e; rw [e] at hjl; simp at hjl)
      cases he
      rw [bv_get _ _ hjl] at hj
      cases hj
      rw [addAt]
      exact h4 j hjl
    · intro w2 hw2; simp [bv] at hw2; obtain ⟨q, _, rfl⟩ := hw2; rfl
    · intro v' w' g1 g2 g3
      have hbl : Below w.heap.size w w' := hb1.grown g2 (by simp) (fun k hk => (hown.lt k hk).1)
      have g1' : w'.ownsRow w.heap.size 5 1 v' l.length (bv l) := by simpa [bv] using g1
      rcases Go.Joins.ownsRow_forms g1' with ⟨rfl, _⟩ | ⟨g', c', rfl⟩
      · exact absurd (g3.1 rfl).1 (by simp)
      · exact h g' c' w' hbl g1'
/-- The cells of parts, one behind the other. -/
def sgv (x : Sg) : List Value := [.int .u64 (n64 x.a), .int .u64 (n64 x.s), .int .i64 x.f, .slice x.m x.n x.c]
def sgl (L : List Sg) : List Value := L.flatMap sgv
theorem sgl_length (L : List Sg) : (sgl L).length = L.length * 4 := by
  induction L with
  | nil => rfl
  | cons x L ih => simp only [sgl, List.flatMap_cons, List.length_append, List.length_cons] at *; rw [ih]; simp [sgv]; omega
theorem sgl_get (L : List Sg) (j c : Nat) (hj : j < L.length) (hc : c < 4) : (sgl L)[j * 4 + c]? = (sgv (sg L j))[c]? := by
  induction L generalizing j with
  | nil => simp at hj
  | cons x L ih =>
    have e : sgl (x :: L) = sgv x ++ sgl L := rfl
    rw [e]
    cases j with
    | zero => rw [Nat.zero_mul, Nat.zero_add, List.getElem?_append_left (by simp [sgv]; exact hc)]; rfl
    | succ j =>
      rw [List.getElem?_append_right (by simp [sgv]; omega), show (j + 1) * 4 + c - (sgv x).length = j * 4 + c by simp [sgv]; omega, ih j (by simpa using hj)]
      rfl
theorem sgl_snoc (L : List Sg) (x : Sg) : sgl (L ++ [x]) = sgl L ++ sgv x := by simp [sgl]
/-- A row of parts of the call's own. -/
theorem Sgs.of_own {w : World} {B : Nat} {v : Value} {L : List Sg} (h : w.ownsRow B 42 4 v L.length (sgl L)) : Sgs w v L := by
  rcases Go.Joins.ownsRow_forms h with ⟨rfl, h0⟩ | ⟨g, cap, rfl⟩
  · have hl0 : L = [] := List.eq_nil_of_length_eq_zero h0
    subst hl0
    exact ⟨none, 0, rfl, Nat.le_refl _, fun hn => absurd rfl hn⟩
  · have hcap : L.length ≤ cap := by
      rcases h.2 with ⟨h', _⟩ | ⟨g', cap', cur, h', _, _, hn, _⟩
      · simp at h'
      · simp only [Value.slice.injEq] at h'; obtain ⟨_, _, rfl⟩ := h'; exact hn
    refine ⟨_, cap, rfl, hcap, fun hn => ⟨g, 0, rfl, (h.lt g rfl).2, fun j hj => ?_⟩⟩
    have k : ∀ c, c < 4 → w.cell? ⟨g, j * 4 + c, none⟩ = (sgv (sg L j))[c]? := fun c hc => by
      rw [h.cellAt (j * 4 + c) (by omega)]; exact sgl_get L j c hj hc
    rw [Nat.zero_add]
    exact ⟨k 0 (by omega), k 1 (by omega), k 2 (by omega), k 3 (by omega)⟩
/-- One part appended to a row of the call's own, a struct beside it. -/
theorem appQ {ops : Array Oper} {rest : List Oper} {o : Oper} {a : Act} {w : World} {Q : Exit → Act → World → Prop} (hgd : o.guard = none) (s x : Operand) (ho : o.op = .call { callee := .builtin .append, args := #[s, x], argTypes := #[23, 23] })
    (B Pb : Nat) (cur : Array Value) (v : Value) (L : List Sg) (y : Sg) (hs : a.eval s = v) (hP : w.heap[Pb]? = some (.cells cur 26 (0, 0))) (hPB : Pb < B) (hown : w.ownsRow B 42 4 v L.length (sgl L))
    (h0 : Nat) (hx : a.eval x = .slice (some ⟨h0, 0, none⟩) 1 1) (hh0 : h0 = w.heap.size) (hl : (L.length + 1) * 48 ≤ 140737488355328) (hB : B ≤ w.heap.size)
    (h : ∀ g' c' w', w'.ownsRow B 42 4 (.slice (some ⟨g', 0, none⟩) (L.length + 1) c') (L ++ [y]).length (sgl (L ++ [y])) → w'.heap[Pb]? = some (.cells cur 26 (0, 0)) → w'.cell? ⟨Pb, 1, none⟩ = cur[1]? → w'.frozen? ⟨Pb, 1, none⟩ = false → Below B w w' → wpList Tryz.prog ops Q rest (a.put o.dst (.slice (some ⟨g', 0, none⟩) (L.length + 1) c')) w') :
    wpList Tryz.prog ops Q (o :: rest) a (w.alloc (.cells #[.int .u64 (n64 y.a), .int .u64 (n64 y.s), .int .i64 y.f, .slice y.m y.n y.c] 42)) := by
  subst hh0
  obtain ⟨i0, hi, hz0, hz1, hz2⟩ := info_parts info41
  refine wpList_append_own _ hgd s x 23 ho B 42 i0 (.agg #[.int .u64 0, .int .u64 0, .int .i64 0, .slice none 0 0]) 4 48 Tryz.underlying23 hi hz0 hz1 hz2 rfl (by decide) v L.length (sgl L) hs (hown.alloc _) ⟨w.heap.size, 0, none⟩ 1 1 (sgv y) hx rfl ?_ ?_ (by unfold maxLen; omega) (by omega) (by simp; omega) ?_
  · intro j u hj
    have hj4 : j < 4 := by have := (List.getElem?_eq_some_iff.1 hj).1; simpa [sgv] using this
    rw [addAt, Nat.zero_add, World.cell?_alloc_at _ _ _ _ rfl]
    match j, hj4, hj with
    | 0, _, hj => exact hj
    | 1, _, hj => exact hj
    | 2, _, hj => exact hj
    | 3, _, hj => exact hj
  · intro u hu; simp [sgv] at hu; rcases hu with rfl | rfl | rfl | rfl <;> rfl
  · intro v' w' h1 h2 _
    have hbl : Below B w w' := ((Below.refl _ _).alloc hB _).grown h2 (by simp; omega) (fun k hk => (hown.lt k hk).1)
    have hP' : w'.heap[Pb]? = some (.cells cur 26 (0, 0)) := by rw [hbl.block Pb hPB]; exact hP
    obtain ⟨g', c', rfl⟩ := Go.Joins.ownsRow_form h1 (by omega)
    exact h g' c' w' (by rw [sgl_snoc, List.length_append]; exact h1) hP' (cell_of_row w' Pb 1 cur 26 (0, 0) hP') (frozen_of_row w' Pb 1 cur 26 hP') hbl
end Go.Proofs.YtopddflnahfomaaGreatDoor
