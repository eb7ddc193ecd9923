/-
  mirror; a part's bytes copied into the file.
-/
import Derived.Test.YtjjdpfmkbaaapaaDoorIwn
import Derived.Test.YtjjdpfmkbaaapaaDoorIwe
import Derived.Laws.CopyRow
import Derived.Laws.IdiomCopy
namespace Go.Proofs.YtjjdpfmkbaaapaaDoor
set_option linter.unusedVariables false
open Go.ChangeShapes Go.WideShapes Go.ChangeAt Go.RowKit Go.Deep
theorem mirror_c (z : Int) (h : 0 ≤ z ∧ z ≤ 7) (w : World) : Calls Tryd.prog 38 #[.int .i64 z] w fun e w' => e = .returned (.int .i64 ((fw z : Nat) : Int)) ∧ w' = w := by
  have h8 : z = 0 ∨ z = 1 ∨ z = 2 ∨ z = 3 ∨ z = 4 ∨ z = 5 ∨ z = 6 ∨ z = 7 := by omega
  clear h
  rcases h8 with rfl | rfl | rfl | rfl | rfl | rfl | rfl | rfl
  · go_enter Tryd.func38, Tryd.ntmps38
    go_wp2
    go_ret
    exact ⟨ret_int (by decide +kernel), rfl⟩
  · go_enter Tryd.func38, Tryd.ntmps38
    go_wp2
    go_ret
    exact ⟨ret_int (by decide +kernel), rfl⟩
  · go_enter Tryd.func38, Tryd.ntmps38
    go_wp2
    go_ret
    exact ⟨ret_int (by decide +kernel), rfl⟩
  · go_enter Tryd.func38, Tryd.ntmps38
    go_wp2
    go_ret
    exact ⟨ret_int (by decide +kernel), rfl⟩
  · go_enter Tryd.func38, Tryd.ntmps38
    go_wp2
    go_ret
    exact ⟨ret_int (by decide +kernel), rfl⟩
  · go_enter Tryd.func38, Tryd.ntmps38
    go_wp2
    go_ret
    exact ⟨ret_int (by decide +kernel), rfl⟩
  · go_enter Tryd.func38, Tryd.ntmps38
    go_wp2
    go_ret
    exact ⟨ret_int (by decide +kernel), rfl⟩
  · go_enter Tryd.func38, Tryd.ntmps38
    go_wp2
    go_ret
    exact ⟨ret_int (by decide +kernel), rfl⟩
theorem fw_lt (z : Int) : fw z < 8 := by unfold fw; omega
theorem Fil.rowL {f n : Nat} {T : Nat → Int} {D : Nat → Prop} {w : World} (h : Fil f n T D w) (pos : Nat) (l : List Int) (hn : pos + l.length ≤ n) (hT : Sub T pos l) :
    ∃ C : Array Value, C.size = n ∧ w.heap[f]? = some (.cells C 5 (0, 0)) ∧ Fil f n T (fun i => D i ∨ (pos ≤ i ∧ i < pos + l.length)) (w.setRow f (C.toList.take pos ++ bv l ++ C.toList.drop (pos + (bv l).length)).toArray) := by
  obtain ⟨C, hC, hr, hd⟩ := h
  have hbl : (bv l).length = l.length := by simp [bv]
  have htl : (C.toList.take pos).length = pos := by rw [List.length_take, Array.length_toList]; omega
  refine ⟨C, hC, hr, _, ?_, Go.setRow_heap w f C _ _ _ hr, fun i hi => ?_⟩
  · simp only [List.size_toArray, List.length_append, List.length_drop, Array.length_toList, htl, hbl]
    omega
  rw [hbl]
  have e1 : i < pos → ((C.toList.take pos ++ bv l ++ C.toList.drop (pos + l.length)).toArray)[i]? = C[i]? := fun h => by
    rw [List.getElem?_toArray, List.append_assoc, List.getElem?_append_left (by omega), List.getElem?_take, if_pos h, Array.getElem?_toList]
  have e3 : pos + l.length ≤ i → ((C.toList.take pos ++ bv l ++ C.toList.drop (pos + l.length)).toArray)[i]? = C[i]? := fun h => by
    rw [List.getElem?_toArray, List.getElem?_append_right (by rw [List.length_append, htl, hbl]; omega), List.length_append, htl, hbl, List.getElem?_drop, Array.getElem?_toList, show pos + l.length + (i - (pos + l.length)) = i by omega]
  by_cases h1 : i < pos
  · rw [e1 h1]
    exact ⟨fun h => (hd i hi).1 (h.resolve_right (by omega)), fun h => (hd i hi).2 (fun q => h (.inl q))⟩
  by_cases h2 : pos + l.length ≤ i
  · rw [e3 h2]
    exact ⟨fun h => (hd i hi).1 (h.resolve_right (by omega)), fun h => (hd i hi).2 (fun q => h (.inl q))⟩
  refine ⟨fun _ => ?_, fun h => absurd (Or.inr (by omega)) h⟩
  obtain ⟨k, rfl⟩ : ∃ k, i = pos + k := ⟨i - pos, by omega⟩
  have hk : k < l.length := by omega
  rw [List.getElem?_toArray, List.append_assoc, List.getElem?_append_right (by omega), htl, show pos + k - pos = k by omega, List.getElem?_append_left (by omega), hT k hk, bv_get l k hk]
theorem step_part {ops : Array Oper} {o : Oper} {a : Act} {w : World} {K : Act → World → Prop} {Q : Exit → Act → World → Prop} {E : Prop}
    (hg : o.guard = none) (d x : Operand) (hop : o.op = .call { callee := .builtin .copy, args := #[d, x], argTypes := #[28, 28] })
    (f n pos dl dc : Nat) (T : Nat → Int) (D : Nat → Prop) (v : Value) (l : List Int) (hd : a.eval d = .slice (some ⟨f, pos, none⟩) dl dc) (hx : a.eval x = v) (hv : Byt w v l)
    (hF : Fil f n T D w) (hl : l.length ≤ dl) (hn : pos + l.length ≤ n) (hT : Sub T pos l)
    (hK : ∀ w2, Fil f n T (fun i => D i ∨ (pos ≤ i ∧ i < pos + l.length)) w2 → Kp f f w w2 → K (a.put o.dst (goInt l.length)) w2) :
    if Region.wanted o (yielded ops a.tmps) = true then Oper.wp Tryd.prog o a w K Q else E := by
  have hw : Region.wanted o (yielded ops a.tmps) = true := by simp [Region.wanted, hg]
  rw [if_pos hw]
  have hs1 : ((Tryd.prog).info? 5).map (·.size) = some 1 := by kernel_rfl
  obtain ⟨ad, cap, rfl, hc, hc0, hcell⟩ := hv
  by_cases hnil : l = []
  · subst hnil
    have hrun := Go.run_copy_none (P := Tryd.prog) w 28 28 o.type 5 (some ⟨f, pos, none⟩) ad dl dc 0 cap Tryd.underlying28 hs1 (by simp)
    have hk := hK w (hF.set (fun i _ => ⟨.inl, fun h => h.elim id (fun h => by simp only [List.length_nil] at h; omega)⟩)) (Kp.refl _ _ _)
    unfold Oper.wp
    simp [execOp, hop, resolve, invoke, builtin, hd, hx, hrun, Result.andThen]
    exact hk
  · obtain ⟨g, off, rfl, hgs, hcells⟩ := hcell hnil
    obtain ⟨C, hC, hr, hf⟩ := hF.rowL pos l hn hT
    have hbl : (bv l).length = l.length := by simp [bv]
    have hrun := Go.run_copy_row (P := Tryd.prog) w 28 28 o.type 5 f pos dl dc ⟨g, off, none⟩ l.length cap C 5 (bv l) Tryd.underlying28 hs1 hr (by rw [hbl]; exact (Nat.min_eq_left hl).symm) (fun j v hj => by
      have hjl : j < l.length := by have := (List.getElem?_eq_some_iff.1 hj).1; rw [hbl] at this; exact this
      rw [bv_get l j hjl] at hj
      cases hj
      rw [addAt]
      exact hcells j hjl) (by rw [hbl]; omega) (fun v hv => by simp [bv] at hv; obtain ⟨q, _, rfl⟩ := hv; rfl)
    have hk := hK _ hf ⟨rfl, rfl, rfl, by simp, fun k _ _ h => Go.setRow_other w f k _ h⟩
    generalize (C.toList.take pos ++ bv l ++ C.toList.drop (pos + (bv l).length)).toArray = RR at hrun hk
    rw [hbl] at hrun
    unfold Oper.wp
    simp [execOp, hop, resolve, invoke, builtin, hd, hx, hrun, Result.andThen]
    exact hk
/-- Bytes were copied into the file behind the pen's back. -/
theorem Pn.data {f n : Nat} {T : Nat → Int} {X : List (Nat × Array Value × TypeId)} {w0 : World} {g : Nat} {D E : Nat → Prop} {b a : Nat} {R : List Int} {w w' : World} (h : Pn f n T X w0 g D b a R w) (hf : Fil f n T E w') (hk : Kp f f w w') (D' : Nat → Prop) (hE : ∀ i, i < n → (E i ↔ D' i ∨ (b ≤ i ∧ i < a))) : Pn f n T X w0 g D' b a R w' := by
  refine ⟨fun x hx => ?_, (hk.block _ (Array.getElem?_eq_some_iff.1 h.pen).1 h.gf h.gf).trans h.pen, hf.set hE, h.kp.trans hk, h.gl, h.fl, h.ba, h.rest⟩
  obtain ⟨h1, h2, h3⟩ := h.bx x hx
  exact ⟨h1, h2, (hk.block _ (Array.getElem?_eq_some_iff.1 h3).1 h2 h2).trans h3⟩
theorem sub_hd {T : Nat → Int} {p : Nat} {L : List Sg} {m : Nat} (h : Sub T p (hdL L m)) (k : Nat) (hk : k < m) : Sub T (p + 56 * k) (phL (sg L k) (plc L k)) := by
  induction m with
  | zero => omega
  | succ m ih =>
    by_cases e : k = m
    · subst e; exact h.right.at (by rw [hdL_length])
    · exact ih h.left (by omega)
theorem phL_eq (x : Sg) (p : Nat) : phL x p = nbs 4 [1, fw x.f] ++ (nbs 8 [p, x.a.toNat, x.a.toNat, x.n, x.s.toNat, 1] ++ []) := by
  simp only [phL, nbs, List.append_assoc, List.append_nil]
theorem pls_get (L : List Sg) (m k : Nat) (hk : k < m) : (pls L m)[k]? = some ((plc L k : Nat) : Int) := by
  induction m with
  | zero => omega
  | succ m ih =>
    have e : pls L (m + 1) = pls L m ++ [if 0 < (sg L m).n then ((al (sk L m) : Nat) : Int) else 0] := rfl
    rw [e]
    by_cases h : k = m
    · subst h
      rw [List.getElem?_append_right (by rw [pls_length]; exact Nat.le_refl _), pls_length, Nat.sub_self]
      unfold plc
      split <;> rfl
    · rw [List.getElem?_append_left (by rw [pls_length]; omega)]
      exact ih (by omega)
/-- Which places the first k parts' bytes take. -/
def DS (L : List Sg) (k i : Nat) : Prop := ∃ j, j < k ∧ plc L j ≤ i ∧ i < plc L j + (sg L j).n
theorem DS_succ (L : List Sg) (k i : Nat) : DS L (k + 1) i ↔ DS L k i ∨ (plc L k ≤ i ∧ i < plc L k + (sg L k).n) := by
  constructor
  · rintro ⟨j, hj, h⟩
    by_cases e : j = k
    · subst e; exact .inr h
    · exact .inl ⟨j, by omega, h⟩
  · rintro (⟨j, hj, h⟩ | h)
    · exact ⟨j, by omega, h⟩
    · exact ⟨k, by omega, h⟩
end Go.Proofs.YtjjdpfmkbaaapaaDoor
