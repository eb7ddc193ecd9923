/-
  Izo.
-/
import Derived.Test.YtopddflnahfomaaGreatDoorM46
import Derived.Test.YtopddflnahfomaaGreatDoorM43
import Derived.SizedLaws
namespace Go.Proofs.YtopddflnahfomaaGreatDoor
set_option linter.unusedVariables false
open Go.ChangeShapes Go.WideShapes Go.ChangeAt Go.RowKit Go.Deep
section
variable {H : Type} {enc : TypeId × Value → H} {w : World} {base : Nat} {held : Bool}
theorem cells41 : Tryz.prog.cellsOf 42 = 4 := by kernel_rfl
theorem cells51 : Tryz.prog.cellsOf 45 = 2 := by kernel_rfl
theorem cells22 : Tryz.prog.cellsOf 22 = 1 := by kernel_rfl
theorem cells3 : Tryz.prog.cellsOf 3 = 1 := by kernel_rfl
theorem cells33 : Tryz.prog.cellsOf 29 = 1 := by kernel_rfl
theorem cells9 : Tryz.prog.cellsOf 9 = 1 := by kernel_rfl
theorem cells5 : Tryz.prog.cellsOf 5 = 1 := by kernel_rfl
theorem bytes41 : Tryz.prog.bytesOf 42 = 48 := by kernel_rfl
theorem bytes51 : Tryz.prog.bytesOf 45 = 24 := by kernel_rfl
theorem bytes5 : Tryz.prog.bytesOf 5 = 1 := by kernel_rfl
theorem list4 {α : Type} {l : List α} (h : l.length = 4) : ∃ a b c d, l = [a, b, c, d] := by
  match l, h with
  | [a, b, c, d], _ => exact ⟨a, b, c, d, rfl⟩
theorem list2 {α : Type} {l : List α} (h : l.length = 2) : ∃ a b, l = [a, b] := by
  match l, h with
  | [a, b], _ => exact ⟨a, b, rfl⟩
theorem choose_list {α : Type} (d : α) {P : Nat → α → Prop} (n : Nat) : (∀ i, i < n → ∃ x, P i x) → ∃ L : List α, L.length = n ∧ ∀ i, i < n → P i (L.getD i d) := by
  induction n with
  | zero => intro _; exact ⟨[], rfl, fun i hi => by omega⟩
  | succ n ih =>
    intro h
    obtain ⟨L, hl, hp⟩ := ih (fun i hi => h i (by omega))
    obtain ⟨x, hx⟩ := h n (by omega)
    refine ⟨L ++ [x], by rw [List.length_append, hl]; rfl, fun i hi => ?_⟩
    by_cases e : i = n
    · subst e
      have : (L ++ [x]).getD i d = x := by unfold List.getD; rw [List.getElem?_append_right (by omega), hl, Nat.sub_self]; rfl
      rw [this]; exact hx
    · have : (L ++ [x]).getD i d = L.getD i d := by unfold List.getD; rw [List.getElem?_append_left (by omega)]
      rw [this]; exact hp i (by omega)
theorem weights_all {P : Program} {e : TypeId} : ∀ {ds : List (DataW H)} {i : Nat} {d : DataW H}, ds[i]? = some d → ∀ n ∈ d.weights P e, n ∈ DataW.weightsAll P e ds
  | d0 :: ds, 0, d, hd, n, hn => by
    simp only [List.getElem?_cons_zero, Option.some.injEq] at hd
    subst hd
    simp only [DataW.weightsAll, List.mem_append]
    exact Or.inl hn
  | d0 :: ds, i + 1, d, hd, n, hn => by
    simp only [List.getElem?_cons_succ] at hd
    simp only [DataW.weightsAll, List.mem_append]
    exact Or.inr (weights_all hd n hn)
  | [], i, d, hd, n, hn => by simp at hd
/-- What is known of a part that came in. -/
def SgOk (w : World) (x : Sg) : Prop := x.n ≤ 140737488355328 ∧ ∃ l, l.length = x.n ∧ Byt w (.slice x.m x.n x.c) l ∧ AllB l
theorem open_seg {fuel : Nat} {cs : List Value} {y : DataW H × List MemPlace} (h : DataW.trod enc Tryz.prog w base (fun _ => true) held fuel 42 cs = some y) (hz : ∀ q ∈ y.1.weights Tryz.prog 42, q ≤ reachBytes) :
    ∃ x : Sg, cs = sgv x ∧ SgOk w x := by
  obtain ⟨y0, y1, y2, y3, m, hx, hlen, h0, h1, h2, h3⟩ := Go.Joins.trod_struct4 Tryz.underlying42 h
  rw [cells41] at hlen
  obtain ⟨v0, v1, v2, v3, rfl⟩ := list4 hlen
  simp only [cells22, cells3, cells33] at h0 h1 h2 h3
  obtain ⟨i0, e0, rfl, w0⟩ := DataW.trod_int Tryz.underlying22 h0
  obtain ⟨i1, e1, rfl, w1⟩ := DataW.trod_int Tryz.underlying22 h1
  obtain ⟨i2, e2, rfl, w2⟩ := DataW.trod_int Tryz.underlying3 h2
  simp at e0 e1 e2
  subst e0 e1 e2
  obtain ⟨x0, rfl⟩ := n64_of w0
  obtain ⟨x1, rfl⟩ := n64_of w1
  rcases open_ints Tryz.underlying29 Tryz.underlying5 cells5 h3 with ⟨e3, hy3⟩ | ⟨a, len, cap, zs, e3, _, hl, hm, hzl, hy3, hcell, hwz⟩
  · simp at e3
    subst e3
    exact ⟨⟨x0, x1, i2, .slice none 0 0, 0, none, 0⟩, rfl, Nat.zero_le _, [], rfl, ⟨none, 0, rfl, Nat.le_refl _, fun _ => rfl, fun hn => absurd rfl hn⟩, fun x hx => (by cases hx)⟩
  · simp at e3
    subst e3
    simp only [if_true] at hzl
    have hw : (lits .u8 (zs.take len) : List (DataW H)).length + (lits .u8 (zs.drop len) : List (DataW H)).length ≤ reachBytes := by
      have hmem : ((lits .u8 (zs.take len) : List (DataW H)).length + (lits .u8 (zs.drop len) : List (DataW H)).length) * 1 ∈ y.1.weights Tryz.prog 42 := by
        rw [hx]
        simp only [DataW.weights, Tryz.underlying42]
        refine DataW.weights_mem_each (j := 3) (t := 29) (d := y3.1) rfl rfl _ ?_
        rw [hy3]
        simp [DataW.weights, Tryz.underlying29, bytes5]
      have := hz _ hmem
      omega
    simp [lits, reachBytes] at hw
    have hAB : AllB (zs.take len) := fun z hzm => by
      have := hwz z (List.mem_of_mem_take hzm)
      have hb8 := bounds_u8 this
      omega
    refine ⟨⟨x0, x1, i2, .slice none 0 0, len, some a, cap⟩, rfl, by show len ≤ _; omega, zs.take len, by simp; omega, ⟨some a, cap, by simp; omega, by simp; omega, fun e => (by cases e), fun hne => ?_⟩, hAB⟩
    have hpos : 0 < len := by
      rcases Nat.eq_zero_or_pos len with e | e
      · subst e; simp at hne
      · exact e
    obtain ⟨b, off, spot⟩ := a
    have hc := hcell 0 (by omega)
    have hspot : spot = none := by simpa [Addr.add] using World.cell?_spot hc
    subst hspot
    refine ⟨b, off, rfl, World.block_lt_of_cell? w _ hc, fun j hj => ?_⟩
    have hj' : j < len := by simp at hj; omega
    have hcj := hcell j (by omega)
    rw [addAt] at hcj
    rw [hcj]
    simp [List.getD, hj']
theorem open_sym {fuel : Nat} {cs : List Value} {y : DataW H × List MemPlace} (h : DataW.trod enc Tryz.prog w base (fun _ => true) held fuel 45 cs = some y) (hz : ∀ q ∈ y.1.weights Tryz.prog 45, q ≤ reachBytes) :
    ∃ x : Sy, cs = syv x ∧ x.s.size ≤ 140737488355328 := by
  obtain ⟨y0, y1, m, hx, hlen, h0, h1⟩ := trod_struct2 Tryz.underlying45 h
  rw [cells51] at hlen
  obtain ⟨v0, v1, rfl⟩ := list2 hlen
  simp only [cells22, cells9] at h0 h1
  obtain ⟨s, e0, hy0, w0⟩ := DataW.trod_string Tryz.underlying9 h0
  obtain ⟨i1, e1, rfl, w1⟩ := DataW.trod_int Tryz.underlying22 h1
  simp at e0 e1
  subst e0 e1
  obtain ⟨x1, rfl⟩ := n64_of w1
  refine ⟨⟨s, x1⟩, rfl, ?_⟩
  have hmem : s.data.toList.length ∈ y.1.weights Tryz.prog 45 := by
    rw [hx]
    simp only [DataW.weights, Tryz.underlying45]
    refine DataW.weights_mem_each (j := 0) (t := 9) (d := y0.1) rfl rfl _ ?_
    rw [hy0]
    simp [DataW.weights]
  have := hz _ hmem
  have e : s.size = s.data.toList.length := Lib.size_eq s
  show s.size ≤ _
  rw [e]
  simp only [reachBytes] at this
  omega
theorem open_segs {fuel : Nat} {v : Value} {y : DataW H × List MemPlace} (h : DataW.trod enc Tryz.prog w base (fun _ => true) held fuel 23 [v] = some y) (hz : ∀ q ∈ y.1.weights Tryz.prog 23, q ≤ reachBytes) :
    ∃ L : List Sg, Sgs w v L ∧ (∀ j, j < L.length → SgOk w (sg L j)) ∧ L.length * 48 ≤ 140737488355280 := by
  rcases DataW.trod_slice Tryz.underlying23 h with ⟨e, _⟩ | ⟨a, len, cap, elems, rest, n, _, e, hy, _, hl, hm, hel, hc, _, _⟩
  · simp at e
    subst e
    exact ⟨[], ⟨none, 0, rfl, Nat.le_refl _, fun hn => absurd rfl hn⟩, fun j hj => by simp at hj, by simp⟩
  · simp at e
    subst e
    have hlen : len * 48 ≤ reachBytes := by
      have hmem : (elems.length + rest.length) * 48 ∈ y.1.weights Tryz.prog 23 := by
        rw [hy]; simp [DataW.weights, Tryz.underlying23, bytes41]
      have := hz _ hmem
      omega
    have each : ∀ i, i < len → ∃ x : Sg, (∀ c, c < 4 → w.cell? ((a.add (i * 4)).add c) = (sgv x)[c]?) ∧ SgOk w x := by
      intro i hi
      have hci := hc i hi
      rw [cells41] at hci
      have hei : ∃ z, elems[i]? = some z := ⟨elems[i]'(by omega), List.getElem?_eq_getElem (by omega)⟩
      obtain ⟨z, hzz⟩ := hei
      rw [hzz] at hci
      obtain ⟨cs, hcs, ht⟩ := Option.bind_eq_some_iff.1 hci
      obtain ⟨x, hx, hok⟩ := open_seg ht (fun q hq => hz q (by
        rw [hy]
        simp only [DataW.weights, Tryz.underlying23]
        refine List.mem_cons_of_mem _ (List.mem_append_left _ ?_)
        exact weights_all (i := i) (d := z.1) (by simp [hzz]) q hq))
      obtain ⟨_, _, hcell⟩ := World.cells?_some hcs
      exact ⟨x, fun c hc' => by rw [hcell c hc', hx], hok⟩
    obtain ⟨L, hLl, hLp⟩ := choose_list sgz len each
    subst hLl
    refine ⟨L, ⟨some a, cap, rfl, hl, fun hne => ?_⟩, fun j hj => (hLp j hj).2, by simp only [reachBytes] at hlen; omega⟩
    have hpos : 0 < L.length := List.length_pos_iff.2 hne
    obtain ⟨b, off, spot⟩ := a
    have hc0 := (hLp 0 hpos).1 0 (by omega)
    have hsp : (((⟨b, off, spot⟩ : Addr).add (0 * 4)).add 0).spot = none := World.cell?_spot (v := .int .u64 (n64 (L.getD 0 sgz).a)) hc0
    have hspot : spot = none := by simpa [Addr.add] using hsp
    subst hspot
    have hc0' : w.cell? ⟨b, off, none⟩ = some (.int .u64 (n64 (L.getD 0 sgz).a)) := by
      have := hc0; rw [addAt, addAt] at this; simpa [sgv] using this
    refine ⟨b, off, rfl, World.block_lt_of_cell? w _ hc0', fun j hj => ?_⟩
    have k : ∀ c, c < 4 → w.cell? ⟨b, off + j * 4 + c, none⟩ = (sgv (sg L j))[c]? := fun c hc' => by
      have := (hLp j hj).1 c hc'; rw [addAt, addAt] at this; exact this
    exact ⟨k 0 (by omega), k 1 (by omega), k 2 (by omega), k 3 (by omega)⟩
theorem open_syms {fuel : Nat} {v : Value} {y : DataW H × List MemPlace} (h : DataW.trod enc Tryz.prog w base (fun _ => true) held fuel 24 [v] = some y) (hz : ∀ q ∈ y.1.weights Tryz.prog 24, q ≤ reachBytes) :
    ∃ N : List Sy, Sys w v N ∧ (∀ j, j < N.length → (sy N j).s.size ≤ 140737488355328) ∧ N.length * 24 ≤ 140737488355328 ∧ (∀ c k, v = .slice none k c → k = 0 ∧ c = 0) := by
  rcases DataW.trod_slice Tryz.underlying24 h with ⟨e, _⟩ | ⟨a, len, cap, elems, rest, n, _, e, hy, _, hl, hm, hel, hc, _, _⟩
  · simp at e
    subst e
    exact ⟨[], ⟨none, 0, rfl, Nat.le_refl _, fun hn => absurd rfl hn⟩, fun j hj => by simp at hj, by simp, fun c k hk => by cases hk; exact ⟨rfl, rfl⟩⟩
  · simp at e
    subst e
    have hlen : len * 24 ≤ reachBytes := by
      have hmem : (elems.length + rest.length) * 24 ∈ y.1.weights Tryz.prog 24 := by
        rw [hy]; simp [DataW.weights, Tryz.underlying24, bytes51]
      have := hz _ hmem
      omega
    have each : ∀ i, i < len → ∃ x : Sy, (∀ c, c < 2 → w.cell? ((a.add (i * 2)).add c) = (syv x)[c]?) ∧ x.s.size ≤ 140737488355328 := by
      intro i hi
      have hci := hc i hi
      rw [cells51] at hci
      have hei : ∃ z, elems[i]? = some z := ⟨elems[i]'(by omega), List.getElem?_eq_getElem (by omega)⟩
      obtain ⟨z, hzz⟩ := hei
      rw [hzz] at hci
      obtain ⟨cs, hcs, ht⟩ := Option.bind_eq_some_iff.1 hci
      obtain ⟨x, hx, hok⟩ := open_sym ht (fun q hq => hz q (by
        rw [hy]
        simp only [DataW.weights, Tryz.underlying24]
        refine List.mem_cons_of_mem _ (List.mem_append_left _ ?_)
        exact weights_all (i := i) (d := z.1) (by simp [hzz]) q hq))
      obtain ⟨_, _, hcell⟩ := World.cells?_some hcs
      exact ⟨x, fun c hc' => by rw [hcell c hc', hx], hok⟩
    obtain ⟨N, hNl, hNp⟩ := choose_list syz len each
    subst hNl
    refine ⟨N, ⟨some a, cap, rfl, hl, fun hne => ?_⟩, fun j hj => (hNp j hj).2, by simp only [reachBytes] at hlen; omega, fun c k hk => by cases hk⟩
    have hpos : 0 < N.length := List.length_pos_iff.2 hne
    obtain ⟨b, off, spot⟩ := a
    have hc0 := (hNp 0 hpos).1 0 (by omega)
    have hsp : (((⟨b, off, spot⟩ : Addr).add (0 * 2)).add 0).spot = none := World.cell?_spot (v := .string (N.getD 0 syz).s) hc0
    have hspot : spot = none := by simpa [Addr.add] using hsp
    subst hspot
    have hc0' : w.cell? ⟨b, off, none⟩ = some (.string (N.getD 0 syz).s) := by
      have := hc0; rw [addAt, addAt] at this; simpa [syv] using this
    refine ⟨b, off, rfl, World.block_lt_of_cell? w _ hc0', fun j hj => ?_⟩
    have k : ∀ c, c < 2 → w.cell? ⟨b, off + j * 2 + c, none⟩ = (syv (sy N j))[c]? := fun c hc' => by
      have := (hNp j hj).1 c hc'; rw [addAt, addAt] at this; exact this
    exact ⟨k 0 (by omega), k 1 (by omega)⟩
end
end Go.Proofs.YtopddflnahfomaaGreatDoor
