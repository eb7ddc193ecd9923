/-
  Bya Bpa Bfr Bfs Lck Bst Bsu Bsv.
-/
import Derived.Test.YtidfndgedopghaaGreatDoorM01
import Derived.Laws.AppendOwnNone
import Derived.Laws.BytesArg
import Derived.ArgAppend
import Derived.Lib.OwnKind
import Derived.Lib.SmallJoins
import Derived.Lib.SliceRun
import Derived.Test.YtidfndgedopghaaGreatDoorProg
import Derived.Conc.RwLib
import Derived.Conc.MuData
import Derived.KernelRfl
import Derived.Conc.MuLone
import Derived.Deep.RegionHeld3
namespace Go.Proofs.YtidfndgedopghaaGreatDoor
set_option linter.unusedVariables false
open Go.ChangeShapes Go.WideShapes Go.ChangeAt Go.RowKit Go.Deep
theorem info5 : (Tryz.prog.info? 5).map (fun i => (i.zero, i.size, i.bytes)) = some (some (.int .u8 0), 1, 1) := by kernel_rfl
/-- The bytes as the machine's values. -/
def bv (l : List Int) : List Value := l.map (Value.int .u8)
theorem bv_length (l : List Int) : (bv l).length = l.length := by simp [bv]
theorem bv_set (l : List Int) (k : Nat) (z : Int) : (bv l).set k (.int .u8 z) = bv (l.set k z) := by simp [bv, List.map_set]
theorem bv_get (l : List Int) (k : Nat) (h : k < l.length) : (bv l)[k]? = some (.int .u8 (l.getD k 0)) := by simp [bv, h]
theorem made_bv (n : Nat) : (madeCells #[Value.int .u8 0] (n * 1)).toList = bv (List.replicate n 0) := by
  rw [Nat.mul_one, toList_madeCells_one]; simp [bv]
theorem addAt (g off j : Nat) : (⟨g, off, none⟩ : Addr).add j = ⟨g, off + j, none⟩ := by unfold Addr.add; split <;> simp_all
def AllB (l : List Int) : Prop := ∀ x ∈ l, 0 ≤ x ∧ x ≤ 255
/-- A list of bytes in memory, wherever it lies. -/
def Byt (w : World) (v : Value) (l : List Int) : Prop :=
  ∃ a cap, v = .slice a l.length cap ∧ l.length ≤ cap ∧ (a = none → cap = 0) ∧ (l ≠ [] → ∃ g off, a = some ⟨g, off, none⟩ ∧ g < w.heap.size ∧ ∀ j, j < l.length → w.cell? ⟨g, off + j, none⟩ = some (.int .u8 (l.getD j 0)))
theorem Byt.later {w w' : World} {v : Value} {l : List Int} (h : Byt w v l) {B : Nat} (hb : Below B w w') (hB : B = w.heap.size) : Byt w' v l := by
  obtain ⟨a, cap, rfl, h1, h1', h2⟩ := h
  refine ⟨a, cap, rfl, h1, h1', fun hn => ?_⟩
  obtain ⟨g, off, rfl, h3, h4⟩ := h2 hn
  exact ⟨g, off, rfl, Nat.lt_of_lt_of_le h3 hb.size, fun j hj => by rw [hb.cell (by rw [hB]; exact h3)]; exact h4 j hj⟩
theorem Byt.conv {w : World} {v : Value} {l : List Int} (h : Byt w v l) : (convert 33 9 v).run Tryz.prog w = .ok (.string (strOfNums l)) w := by
  obtain ⟨a, cap, rfl, h1, h1', h2⟩ := h
  by_cases hl : l = []
  · subst hl
    cases a with
    | none => exact run_convert_bytes_nil (P := Tryz.prog) w 33 5 Tryz.underlying33 Tryz.underlying5 _ _ _ Tryz.underlying9
    | some ad =>
      rw [run_convert_bytes_string w 33 9 5 _ _ _ Tryz.underlying33 Tryz.underlying5 Tryz.underlying9]
      exact run_bytesToString w ad 0 cap [] (by have := run_loadCells_list (P := Tryz.prog) w ad [] (fun j v hj => by simp at hj); simpa using this)
  · obtain ⟨g, off, rfl, h3, h4⟩ := h2 hl
    exact run_convert_bytes_arg w 33 5 Tryz.underlying33 Tryz.underlying5 g off l.length cap l rfl h4 _ Tryz.underlying9
theorem Byt.nil (w : World) : Byt w (.slice none 0 0) [] := ⟨none, 0, rfl, Nat.le_refl _, fun _ => rfl, fun hn => absurd rfl hn⟩
theorem Byt.of_own {w : World} {B n : Nat} {v : Value} {l : List Int} (h : w.ownsRow B 5 1 v n (bv l)) : Byt w v l := by
  have hlen := h.1
  rw [bv_length, Nat.mul_one] at hlen
  rcases Go.Joins.ownsRow_forms h with ⟨rfl, h0⟩ | ⟨g, cap, rfl⟩
  · have hl0 : l = [] := List.eq_nil_of_length_eq_zero (by omega)
    subst hl0
    exact Byt.nil w
  · have hcap : n ≤ cap := by
      rcases h.2 with ⟨h', _⟩ | ⟨g', cap', cur, h', _, _, hn, _⟩
      · simp at h'
      · simp only [Value.slice.injEq] at h'; obtain ⟨_, _, rfl⟩ := h'; exact hn
    subst hlen
    exact ⟨some ⟨g, 0, none⟩, cap, rfl, by omega, (fun e => by cases e), fun hne => ⟨g, 0, rfl, (h.lt g rfl).2, fun j hj => by rw [Nat.zero_add, h.cellAt j (by omega), bv_get _ _ hj]⟩⟩
/-- Bytes that lie beside what has turned. -/
theorem Byt.exc {S : Nat → Prop} {w w' : World} {v : Value} {l : List Int} (h : Byt w v l) (he : Exc S w w') (hS : ∀ g off n c, v = .slice (some ⟨g, off, none⟩) n c → ¬ S g) : Byt w' v l := by
  obtain ⟨a, cap, rfl, h1, h1', h2⟩ := h
  refine ⟨a, cap, rfl, h1, h1', fun hn => ?_⟩
  obtain ⟨g, off, rfl, h3, h4⟩ := h2 hn
  exact ⟨g, off, rfl, Nat.lt_of_lt_of_le h3 he.size, fun j hj => by rw [he.cell h3 (hS g off _ _ rfl)]; exact h4 j hj⟩
theorem own_exc {S : Nat → Prop} {w w' : World} {B e size n : Nat} {v : Value} {xs : List Value} (h : w.ownsRow B e size v n xs) (he : Exc S w w') (hS : ∀ k, v.ownBlock = some k → ¬ S k) : w'.ownsRow B e size v n xs := by
  have hl := h.lt
  refine ⟨h.1, ?_⟩
  rcases h.2 with h' | ⟨g, cap, cur, rfl, h1, h2, h3⟩
  · exact .inl h'
  · exact .inr ⟨g, cap, cur, rfl, h1, by rw [he.block g (hl g rfl).2 (hS g rfl)]; exact h2, h3⟩
theorem own_later {w w' : World} {B e size n : Nat} {v : Value} {xs : List Value} (h : w.ownsRow B e size v n xs) {B' : Nat} (hb : Below B' w w') (hB : B' = w.heap.size) : w'.ownsRow B e size v n xs := by
  have hl := h.lt
  refine ⟨h.1, ?_⟩
  rcases h.2 with h' | ⟨g, cap, cur, rfl, h1, h2, h3⟩
  · exact .inl h'
  · exact .inr ⟨g, cap, cur, rfl, h1, by rw [hb.block g (by rw [hB]; exact (hl g rfl).2)]; exact h2, h3⟩
theorem own_le {w : World} {B B' e size n : Nat} {v : Value} {xs : List Value} (h : w.ownsRow B e size v n xs) (hb : B' ≤ B) : w.ownsRow B' e size v n xs := by
  refine ⟨h.1, ?_⟩
  rcases h.2 with h' | ⟨g, cap, cur, rfl, h1, h2, h3⟩
  · exact .inl h'
  · exact .inr ⟨g, cap, cur, rfl, Nat.le_trans hb h1, h2, h3⟩
/-- Bytes appended to a list of the call's own. -/
theorem appL {ops : Array Oper} {rest : List Oper} {o : Oper} {a : Act} {w : World} {Q : Exit → Act → World → Prop} (hgd : o.guard = none) (s x : Operand) (ho : o.op = .call { callee := .builtin .append, args := #[s, x], argTypes := #[33, 33] })
    (B : Nat) (v u : Value) (m l : List Int) (hs : a.eval s = v) (hown : w.ownsRow B 5 1 v m.length (bv m)) (hx : a.eval x = u) (hu : Byt w u l) (hl : m.length + l.length ≤ 140737488355328) (hB : B ≤ w.heap.size)
    (h : ∀ v' w', w'.ownsRow B 5 1 v' (m ++ l).length (bv (m ++ l)) → w.grownBy w' v.ownBlock → wpList Tryz.prog ops Q rest (a.put o.dst v') w') :
    wpList Tryz.prog ops Q (o :: rest) a w := by
  obtain ⟨i0, hi, hz0, hz1, hz2⟩ := info_parts info5
  obtain ⟨ao, cap, rfl, h1, h1', h2⟩ := hu
  cases ao with
  | none =>
    have hc := h1' rfl
    have hl0 : l = [] := List.eq_nil_of_length_eq_zero (by omega)
    subst hl0; subst hc
    refine wpList_append_own_none hgd s x 33 ho B 5 i0 1 Tryz.underlying33 hi v m.length (bv m) hs hown hx ?_
    exact h _ _ (by simpa using hown) (World.grownBy.refl _ _)
  | some ad =>
    refine wpList_append_own _ hgd s x 33 ho B 5 i0 (.int .u8 0) 1 1 Tryz.underlying33 hi hz0 hz1 hz2 rfl (by decide) v m.length (bv m) hs hown ad l.length cap (bv l) hx (by simp [bv]) ?_ ?_ (by unfold maxLen; omega) (by omega) hB ?_
    · intro j w2 hj
      have hjl : j < l.length := by have := (List.getElem?_eq_some_iff.1 hj).1; simpa [bv] using this
      obtain ⟨g, off, he, h3, h4⟩ := h2 (by intro e; rw [e] at hjl; simp at hjl)
      cases he
      rw [bv_get _ _ hjl] at hj
      cases hj
      rw [addAt]
      exact h4 j hjl
    · intro w2 hw2; simp [bv] at hw2; obtain ⟨q, _, rfl⟩ := hw2; rfl
    · intro v' w' g1 g2 g3
      exact h v' w' (by simpa [bv] using g1) g2
end Go.Proofs.YtidfndgedopghaaGreatDoor
namespace Go.Proofs.YtidfndgedopghaaGreatDoor
set_option linter.unusedVariables false
open Go.ChangeShapes Go.WideShapes Go.ChangeAt Go.RowKit Go.Deep
/-- All that a bus keeps. -/
structure St where
  ram : List Int
  msip : Int
  cmp : Int
  time : Int
  ext : Bool
  soft : Bool
  ier : Int
  lcr : Int
  mcr : Int
  scr : Int
  ov : Bool
  inp : List Int
  out : List Int
  off : Int
  code : Int
/-- Its cells, the lists being these values. -/
def stc (S : St) (vr vi vo : Value) : Array Value := #[vr, .int .u32 S.msip, .int .u64 S.cmp, .int .u64 S.time, .bool S.ext, .bool S.soft, .int .u8 S.ier, .int .u8 S.lcr, .int .u8 S.mcr, .int .u8 S.scr, .bool S.ov, vi, vo, .int .i64 S.off, .int .i64 S.code]
def ramOk (n : Nat) : Bool := decide (8 ≤ (n : Int)) && decide ((n : Int) ≤ 65536) && ((n : Int) % 8 == 0)
def powOk (off code : Int) : Bool := if off = 0 ∨ off = 1 then code == 0 else if off = 2 then decide (0 ≤ code) && decide (code ≤ 65535) else false
def St.ok (S : St) : Bool := ramOk S.ram.length && decide (S.msip ≤ 1) && decide (S.ier ≤ 15) && decide (S.mcr ≤ 31) && decide ((S.inp.length : Int) ≤ 64) && decide ((S.out.length : Int) ≤ 4096) && powOk S.off S.code
end Go.Proofs.YtidfndgedopghaaGreatDoor
namespace Go.Proofs.YtidfndgedopghaaGreatDoor
set_option linter.unusedVariables false
open Go.ChangeShapes Go.WideShapes Go.ChangeAt Go.RowKit Go.Deep
/-- What an operation of a region leaves, by what those ahead of it have left. -/
inductive Kd where
  | con (c : Value)
  | own (l : List Int)
  | agg (f : List Value → Array Value)
  | box (f : List Value → Array Value) (t : TypeId)
  | same
  | mem (f : List Value → World → Prop)
def FK (B : Nat) : Kd → List Value → World → Prop
  | .con c, v :: _, _ => v = c
  | .own l, v :: _, w => w.ownsRow B 5 1 v l.length (bv l)
  | .agg f, v :: vs, _ => v = .agg (f vs)
  | .box f t, v :: vs, w => ∃ g, v = .pointer (some ⟨g, 0, none⟩) ∧ B ≤ g ∧ w.heap[g]? = some (.cells (f vs) t (0, 0))
  | .same, v :: vs, _ => v = vs.getD 0 undef
  | .mem f, _ :: vs, w => f vs w
  | _, [], _ => False
theorem FK.mono {B : Nat} {G : Nat → Prop} {k : Kd} {vs : List Value} {w w' : World} (hG : ∀ k, G k → k < B) (hm : ∀ f, k ≠ .mem f) (h : FK B k vs w) (hx : Exk G w w') : FK B k vs w' := by
  have hb := hx.e
  cases vs with
  | nil => cases k <;> exact h
  | cons v vs =>
    cases k with
    | con c => exact h
    | own l => exact own_exc h hb (fun k hk hg => by have := (World.ownsRow.lt h k hk).1; have := hG k hg; omega)
    | agg f => exact h
    | same => exact h
    | mem f => exact absurd rfl (hm f)
    | box f t =>
      obtain ⟨g, h1, h2, h3⟩ := h
      exact ⟨g, h1, h2, by rw [hb.block g (Array.getElem?_eq_some_iff.1 h3).1 (fun hg => by have := hG g hg; omega)]; exact h3⟩
/-- The state in memory, as the program keeps it. -/
def frNeed : Nat → List Nat
  | 1 => [0] | 2 => [1] | 3 => [2] | 4 => [3, 2]
  | 6 => [5] | 8 => [7] | 9 => [6, 8] | 10 => [9]
  | 12 => [11] | 13 => [12] | 14 => [13]
  | 16 => [15] | 17 => [16] | 18 => [17]
  | 20 => [19] | 21 => [20] | 22 => [21]
  | 24 => [23] | 26 => [25] | 28 => [27] | 30 => [29]
  | 32 => [31] | 33 => [32] | 35 => [34] | 36 => [33, 35] | 37 => [36, 33]
  | 39 => [38] | 40 => [39] | 41 => [37, 40, 24, 26, 28, 30] | 42 => [41, 37, 40]
  | 44 => [43] | 46 => [45] | 47 => [4, 10, 14, 18, 22, 42, 44, 46] | 48 => [47, 4, 10, 14, 18, 22, 42] | 49 => [48]
  | _ => []
def frSlot : Nat → Nat
  | 0 => 7  | 1 => 8  | 2 => 9  | 3 => 10  | 4 => 11  | 5 => 12  | 6 => 13  | 7 => 14  | 8 => 15  | 9 => 16  | 10 => 17  | 11 => 18  | 12 => 19  | 13 => 20  | 14 => 21  | 15 => 22  | 16 => 23  | 17 => 24  | 18 => 25  | 19 => 26  | 20 => 27  | 21 => 28  | 22 => 29  | 23 => 30  | 24 => 31  | 25 => 32  | 26 => 33  | 27 => 34  | 28 => 35  | 29 => 36  | 30 => 37  | 31 => 38  | 32 => 39  | 33 => 40  | 34 => 41  | 35 => 42  | 36 => 43  | 37 => 44  | 38 => 45  | 39 => 46  | 40 => 47  | 41 => 48  | 42 => 49  | 43 => 50  | 44 => 51  | 45 => 52  | 46 => 53  | 47 => 54  | 48 => 55  | 49 => 2  | 50 => 3 | _ => 0
def shp (o : Oper) : Option Tmp × Op × Option (Nat × Bool) := (o.dst, o.op, o.guard)
theorem wpOp_plain {P : Program} {ops : Array Oper} {Q : Exit → Act → World → Prop} {i : Nat} {o : Oper} (ho : ops[i]? = some o) (hg : o.guard = none) {K : Act → World → Prop} {a : Act} {w : World} (h : o.wp P a w K Q) : wpOp P ops Q i K a w := by
  unfold wpOp
  simp only [ho]
  rw [if_pos (by simp [Region.wanted, hg])]
  exact .inl h
/-- What is asked behind operation i. -/
def frK (ops : Array Oper) (need : Nat → List Nat) (cs : List Nat) (G : Nat → Prop) (B : Nat) (kd : Nat → Kd) (i : Nat) (o : Oper) (a : Act) (w : World) : Act → World → Prop := fun a' w' => ∃ v, a' = a.put o.dst v ∧ Exk G w w' ∧ (∀ v', o.dst = none ∨ v' = v → FK B (kd i) (v' :: (need i).map (leftBy ops a)) w') ∧ (i ∈ cs → o.dst ≠ none ∧ ∀ g, v.ownBlock = some g → w.heap.size ≤ g)
theorem st_val {P : Program} {ops : Array Oper} {Q : Exit → Act → World → Prop} {need : Nat → List Nat} {cs : List Nat} {G : Nat → Prop} {B : Nat} {kd : Nat → Kd} {i : Nat} {o : Oper} (ho : ops[i]? = some o) {d : Tmp} {op : Op} (hd : shp o = (some d, op, none)) {a : Act} {w w' : World} (v : Value) (hr : (execOp a.eval o).run P w = .ok (.value v) w')
    (hb : Below w.heap.size w w') (hf : FK B (kd i) (v :: (need i).map (leftBy ops a)) w') (hn : i ∉ cs) : wpOp P ops Q i (frK ops need cs G B kd i o a w) a w := by
  refine wpOp_plain ho (congrArg (fun x => x.2.2) hd) ?_
  unfold Oper.wp
  rw [hr]
  refine ⟨v, rfl, Exk.of_below hb rfl, fun v' h => ?_, fun h => absurd h hn⟩
  rcases h with h | h
  · rw [show o.dst = some d from congrArg (fun x => x.1) hd] at h; cases h
  · rw [h]; exact hf
theorem st_call {P : Program} {ops : Array Oper} {Q : Exit → Act → World → Prop} {need : Nat → List Nat} {cs : List Nat} {G : Nat → Prop} {B : Nat} {kd : Nat → Kd} {i : Nat} {o : Oper} (ho : ops[i]? = some o) {d : Tmp} {op : Op} (hd : shp o = (some d, op, none)) {a : Act} {w : World} {f : FuncId} {args : Array Value} (hr : (execOp a.eval o).run P w = .ok (.enter f args) w)
    (hc : Calls P f args w fun e w' => ∃ u, e = .returned u ∧ Below w.heap.size w w' ∧ FK B (kd i) (u :: (need i).map (leftBy ops a)) w' ∧ ∀ g, u.ownBlock = some g → w.heap.size ≤ g) : wpOp P ops Q i (frK ops need cs G B kd i o a w) a w := by
  refine wpOp_plain ho (congrArg (fun x => x.2.2) hd) ?_
  unfold Oper.wp
  rw [hr]
  refine Calls.mono hc ?_
  have hdn : o.dst = some d := congrArg (fun x => x.1) hd
  rintro e w' ⟨u, rfl, h1, h2, h3⟩
  refine ⟨u, rfl, Exk.of_below h1 rfl, fun v' h => ?_, fun _ => ⟨by rw [hdn]; simp, h3⟩⟩
  rcases h with h | h
  · rw [hdn] at h; cases h
  · rw [h]; exact h2
/-- What the region finds: the parameter's box. -/
structure FrIn (S : St) (vr vi vo : Value) (p : Nat) (W : World) : Prop where
  lt : p < W.heap.size
  cell : ∀ j, W.cell? ⟨p, j, none⟩ = (stc S vr vi vo)[j]?
  r : Byt W vr S.ram
  i : Byt W vi S.inp
  o : Byt W vo S.out
  lr : S.ram.length ≤ 140737488355328
  li : S.inp.length ≤ 140737488355328
  lo : S.out.length ≤ 140737488355328
theorem alloc_at (w : World) (o : Obj) : (w.alloc o).heap[w.heap.size]? = some o := by
  show (w.heap.push o)[w.heap.size]? = some o
  simp
theorem own_fresh {w : World} {B n : Nat} {v : Value} {xs : List Value} (h : w.ownsRow B 5 1 v n xs) : ∀ g, v.ownBlock = some g → B ≤ g := fun g hg => (h.lt g hg).1
theorem fr_cell {S : St} {vr vi vo : Value} {p : Nat} {W w : World} (H : FrIn S vr vi vo p W) (hb : Below W.heap.size W w) (j : Nat) : w.cell? ⟨p, j, none⟩ = (stc S vr vi vo)[j]? := by rw [hb.cell H.lt]; exact H.cell j
theorem own_one {w : World} {B n : Nat} {v : Value} {xs : List Value} (h : w.ownsRow B 5 1 v n xs) : ∃ a n' c, v = .slice a n' c := by
  rcases Go.Joins.ownsRow_forms h with ⟨rfl, _⟩ | ⟨g, cap, rfl⟩
  · exact ⟨_, _, _, rfl⟩
  · exact ⟨_, _, _, rfl⟩
end Go.Proofs.YtidfndgedopghaaGreatDoor
namespace Go.Proofs.YtidfndgedopghaaGreatDoor
set_option linter.unusedVariables false
open Go.ChangeShapes Go.WideShapes Go.ChangeAt Go.RowKit Go.Deep
/-- Where a bus of the program lies. -/
structure Lay where
  b : Nat
  m : Nat
  pw : Nat
  sw : Nat
  cm : Nat
  ck : Nat
  u : Nat
  q : Nat
  vr : Value
  vi : Value
  vo : Value
def pt (g : Nat) : Value := .pointer (some ⟨g, 0, none⟩)
end Go.Proofs.YtidfndgedopghaaGreatDoor

namespace Go.Proofs.YtidfndgedopghaaGreatDoor
set_option linter.unusedVariables false
open Go.ChangeShapes Go.WideShapes Go.ChangeAt Go.RowKit Go.Deep Go.MuLone
theorem own_ne_row {w : World} {B n T : Nat} {v : Value} {xs : List Value} {q : Nat} {cs : Array Value} {fr : Nat × Nat} (h : w.ownsRow B 5 1 v n xs) (hq : w.heap[q]? = some (.cells cs T fr)) (hT : T ≠ 5) : ∀ g, v.ownBlock = some g → g ≠ q := by
  intro g hg e
  subst e
  obtain ⟨c, fz, h1⟩ := Go.Lib.ownsRow_kind h g hg
  rw [hq] at h1
  simp at h1
  exact hT h1.2.1
theorem ownBlock_slice {v : Value} {g off n c : Nat} (h : v = .slice (some ⟨g, off, none⟩) n c) : v.ownBlock = some g := by subst h; rfl
/-- The first cell of a row written and written back. -/
theorem below_back {w w1 w2 w3 : World} {q : Nat} {x y : Value} {cs : Array Value} {T : TypeId} (hq : w.heap[q]? = some (.cells cs T (0, 0))) (hx : cs[0]? = some x) (h1 : w1 = w.setCell ⟨q, 0, none⟩ y) (h2 : Below w1.heap.size w1 w2) (h3 : w3 = w2.setCell ⟨q, 0, none⟩ x) : Below w.heap.size w w3 := by
  subst h1 h3
  have hql : q < w.heap.size := (Array.getElem?_eq_some_iff.1 hq).1
  have hsz : (w.setCell ⟨q, 0, none⟩ y).heap.size = w.heap.size := by simp [World.setCell]
  have e1 : (w.setCell ⟨q, 0, none⟩ y).heap[q]? = some (.cells (cs.setIfInBounds 0 y) T (0, 0)) := heap_setCell_same w q 0 cs T y hq
  have e2 : w2.heap[q]? = some (.cells (cs.setIfInBounds 0 y) T (0, 0)) := by rw [h2.block q (by rw [hsz]; exact hql)]; exact e1
  refine ⟨h2.os, h2.tape, h2.output, ?_, fun k hk => ?_⟩
  · have := h2.size; rw [hsz] at this; simpa [World.setCell] using this
  · by_cases e : k = q
    · subst e
      rw [heap_setCell_same w2 k 0 _ T x e2, hq]
      congr 2
      apply Array.ext_getElem?
      intro i
      by_cases hi : i = 0
      · subst hi
        have : 0 < cs.size := (Array.getElem?_eq_some_iff.1 hx).1
        rw [hx]
        simp [this]
      · rw [Array.getElem?_setIfInBounds_ne (by omega), Array.getElem?_setIfInBounds_ne (by omega)]
    · rw [Below.heap_setCell w2 ⟨q, 0, none⟩ x k e, h2.block k (by rw [hsz]; exact hk), Below.heap_setCell w ⟨q, 0, none⟩ y k e]
/-- The cells of a bus. -/
structure PCb (L : Lay) (S : St) (vr vi vo : Value) (w : World) : Prop where
  b0 : w.cell? ⟨L.b, 0, none⟩ = some (.pointer (some ⟨L.m, 0, none⟩))
  b1 : w.cell? ⟨L.b, 1, none⟩ = some (.pointer (some ⟨L.pw, 0, none⟩))
  b2 : w.cell? ⟨L.b, 2, none⟩ = some (.pointer (some ⟨L.sw, 0, none⟩))
  b3 : w.cell? ⟨L.b, 3, none⟩ = some (.pointer (some ⟨L.cm, 0, none⟩))
  b4 : w.cell? ⟨L.b, 4, none⟩ = some (.pointer (some ⟨L.ck, 0, none⟩))
  b5 : w.cell? ⟨L.b, 5, none⟩ = some (.pointer (some ⟨L.u, 0, none⟩))
  b6 : w.cell? ⟨L.b, 6, none⟩ = some (.bool S.ext)
  b7 : w.cell? ⟨L.b, 7, none⟩ = some (.bool S.soft)
  m0 : w.cell? ⟨L.m, 0, none⟩ = some vr
  p0 : w.cell? ⟨L.pw, 0, none⟩ = some (.int .i64 S.off)
  p1 : w.cell? ⟨L.pw, 1, none⟩ = some (.int .i64 S.code)
  s0 : w.cell? ⟨L.sw, 0, none⟩ = some (.int .u32 S.msip)
  c0 : w.cell? ⟨L.cm, 0, none⟩ = some (.int .u64 33570816)
  c1 : w.cell? ⟨L.cm, 1, none⟩ = some (.int .u64 S.cmp)
  k0 : w.cell? ⟨L.ck, 0, none⟩ = some (.int .u64 33603576)
  k1 : w.cell? ⟨L.ck, 1, none⟩ = some (.int .u64 S.time)
  u0 : w.cell? ⟨L.u, 0, none⟩ = some (.int .u8 S.ier)
  u1 : w.cell? ⟨L.u, 1, none⟩ = some (.int .u8 S.lcr)
  u2 : w.cell? ⟨L.u, 2, none⟩ = some (.int .u8 S.mcr)
  u3 : w.cell? ⟨L.u, 3, none⟩ = some (.int .u8 S.scr)
  u4 : w.cell? ⟨L.u, 4, none⟩ = some (.pointer (some ⟨L.q, 0, none⟩))
  u5 : w.cell? ⟨L.u, 5, none⟩ = some vo
  q2 : w.cell? ⟨L.q, 2, none⟩ = some vi
  q3 : w.cell? ⟨L.q, 3, none⟩ = some (.bool S.ov)
/-- A state as new memory. -/
structure Sv (B : Nat) (S : St) (ur ui uo : Value) (w : World) : Prop where
  r : w.ownsRow B 5 1 ur S.ram.length (bv S.ram)
  i : w.ownsRow B 5 1 ui S.inp.length (bv S.inp)
  o : w.ownsRow B 5 1 uo S.out.length (bv S.out)
  ri : ∀ g, ur.ownBlock = some g → ui.ownBlock ≠ some g
  ro : ∀ g, ur.ownBlock = some g → uo.ownBlock ≠ some g
  io : ∀ g, ui.ownBlock = some g → uo.ownBlock ≠ some g
theorem own_apart {w w' : World} {B B' n n' : Nat} {v v' : Value} {xs xs' : List Value} (h : w.ownsRow B 5 1 v n xs) (h' : w'.ownsRow B' 5 1 v' n' xs') (hB : w.heap.size ≤ B') : ∀ g, v.ownBlock = some g → v'.ownBlock ≠ some g := fun g hg hg' => by
  have h1 := (h.lt g hg).2
  have h2 := (h'.lt g hg').1
  omega
theorem stSize : (Tryz.prog.info? 44).map (·.size) = some 15 := by kernel_rfl
theorem stOne (S : St) {ar ai ao : Option Addr} {nr ni no cr ci co : Nat} : (stc S (.slice ar nr cr) (.slice ai ni ci) (.slice ao no co)).all (·.oneCell') = true := by
  unfold stc
  simp [Value.oneCell']
end Go.Proofs.YtidfndgedopghaaGreatDoor
namespace Go.Proofs.YtidfndgedopghaaGreatDoor
set_option linter.unusedVariables false
open Go.ChangeShapes Go.WideShapes Go.ChangeAt Go.RowKit Go.Deep Go.MuLone
def suNeed : Nat → List Nat
  | 1 => [0]
  | 2 => [1]
  | 3 => [2]
  | 4 => [3]
  | 5 => [4]
  | 6 => [5]
  | 7 => [6]
  | 9 => [8]
  | 10 => [9]
  | 11 => [10]
  | 12 => [11]
  | 13 => [12]
  | 14 => [13]
  | 16 => [15]
  | 17 => [16]
  | 18 => [17]
  | 19 => [18]
  | 20 => [19]
  | 21 => [20]
  | 23 => [22]
  | 24 => [23]
  | 25 => [24]
  | 26 => [25]
  | 27 => [26]
  | 28 => [27]
  | 30 => [29]
  | 31 => [30]
  | 32 => [31]
  | 34 => [33]
  | 35 => [34]
  | 36 => [35]
  | 38 => [37]
  | 39 => [38]
  | 40 => [39]
  | 41 => [40]
  | 42 => [41]
  | 43 => [42]
  | 45 => [44]
  | 46 => [45]
  | 47 => [46]
  | 48 => [47]
  | 49 => [48]
  | 50 => [49]
  | 52 => [51]
  | 53 => [52]
  | 54 => [53]
  | 55 => [54]
  | 56 => [55]
  | 57 => [56]
  | 59 => [58]
  | 60 => [59]
  | 61 => [60]
  | 62 => [61]
  | 63 => [62]
  | 64 => [63]
  | 68 => [67]
  | 70 => [69]
  | 71 => [70]
  | 72 => [71]
  | 73 => [72]
  | 74 => [73]
  | 75 => [74]
  | 77 => [76]
  | 78 => [77]
  | 79 => [78]
  | 80 => [79]
  | 81 => [80]
  | 82 => [81]
  | 83 => [7, 68, 14, 21, 28, 32, 36, 43, 50, 57, 64, 65, 66, 75, 82]
  | 84 => [83, 0, 1, 2, 3, 4, 5, 6, 7, 8, 9, 10, 11, 12, 13, 14, 15, 16, 17, 18, 19, 20, 21, 22, 23, 24, 25, 26, 27, 28, 29, 30, 31, 32, 33, 34, 35, 36, 37, 38, 39, 40, 41, 42, 43, 44, 45, 46, 47, 48, 49, 50, 51, 52, 53, 54, 55, 56, 57, 58, 59, 60, 61, 62, 63, 64, 65, 66, 67, 68, 69, 70, 71, 72, 73, 74, 75, 76, 77, 78, 79, 80, 81, 82]
  | _ => []
def suKd (L : Lay) (S : St) (vr ui : Value) (g : Nat) : Nat → Kd
  | 0 => .con (.pointer (some ⟨L.b, 0, none⟩))
  | 1 => .con (.pointer (some ⟨L.b, 0, none⟩))
  | 2 => .con (.pointer (some ⟨L.b, 0, none⟩))
  | 3 => .con (.pointer (some ⟨L.m, 0, none⟩))
  | 4 => .con (.pointer (some ⟨L.m, 0, none⟩))
  | 5 => .con (.pointer (some ⟨L.m, 0, none⟩))
  | 6 => .con (vr)
  | 7 => .own S.ram
  | 8 => .con (.pointer (some ⟨L.b, 0, none⟩))
  | 9 => .con (.pointer (some ⟨L.b, 0, none⟩))
  | 10 => .con (.pointer (some ⟨L.b, 2, none⟩))
  | 11 => .con (.pointer (some ⟨L.sw, 0, none⟩))
  | 12 => .con (.pointer (some ⟨L.sw, 0, none⟩))
  | 13 => .con (.pointer (some ⟨L.sw, 0, none⟩))
  | 14 => .con (.int .u32 S.msip)
  | 15 => .con (.pointer (some ⟨L.b, 0, none⟩))
  | 16 => .con (.pointer (some ⟨L.b, 0, none⟩))
  | 17 => .con (.pointer (some ⟨L.b, 3, none⟩))
  | 18 => .con (.pointer (some ⟨L.cm, 0, none⟩))
  | 19 => .con (.pointer (some ⟨L.cm, 0, none⟩))
  | 20 => .con (.pointer (some ⟨L.cm, 1, none⟩))
  | 21 => .con (.int .u64 S.cmp)
  | 22 => .con (.pointer (some ⟨L.b, 0, none⟩))
  | 23 => .con (.pointer (some ⟨L.b, 0, none⟩))
  | 24 => .con (.pointer (some ⟨L.b, 4, none⟩))
  | 25 => .con (.pointer (some ⟨L.ck, 0, none⟩))
  | 26 => .con (.pointer (some ⟨L.ck, 0, none⟩))
  | 27 => .con (.pointer (some ⟨L.ck, 1, none⟩))
  | 28 => .con (.int .u64 S.time)
  | 29 => .con (.pointer (some ⟨L.b, 0, none⟩))
  | 30 => .con (.pointer (some ⟨L.b, 0, none⟩))
  | 31 => .con (.pointer (some ⟨L.b, 6, none⟩))
  | 32 => .con (.bool S.ext)
  | 33 => .con (.pointer (some ⟨L.b, 0, none⟩))
  | 34 => .con (.pointer (some ⟨L.b, 0, none⟩))
  | 35 => .con (.pointer (some ⟨L.b, 7, none⟩))
  | 36 => .con (.bool S.soft)
  | 37 => .con (.pointer (some ⟨L.b, 0, none⟩))
  | 38 => .con (.pointer (some ⟨L.b, 0, none⟩))
  | 39 => .con (.pointer (some ⟨L.b, 5, none⟩))
  | 40 => .con (.pointer (some ⟨L.u, 0, none⟩))
  | 41 => .con (.pointer (some ⟨L.u, 0, none⟩))
  | 42 => .con (.pointer (some ⟨L.u, 0, none⟩))
  | 43 => .con (.int .u8 S.ier)
  | 44 => .con (.pointer (some ⟨L.b, 0, none⟩))
  | 45 => .con (.pointer (some ⟨L.b, 0, none⟩))
  | 46 => .con (.pointer (some ⟨L.b, 5, none⟩))
  | 47 => .con (.pointer (some ⟨L.u, 0, none⟩))
  | 48 => .con (.pointer (some ⟨L.u, 0, none⟩))
  | 49 => .con (.pointer (some ⟨L.u, 1, none⟩))
  | 50 => .con (.int .u8 S.lcr)
  | 51 => .con (.pointer (some ⟨L.b, 0, none⟩))
  | 52 => .con (.pointer (some ⟨L.b, 0, none⟩))
  | 53 => .con (.pointer (some ⟨L.b, 5, none⟩))
  | 54 => .con (.pointer (some ⟨L.u, 0, none⟩))
  | 55 => .con (.pointer (some ⟨L.u, 0, none⟩))
  | 56 => .con (.pointer (some ⟨L.u, 2, none⟩))
  | 57 => .con (.int .u8 S.mcr)
  | 58 => .con (.pointer (some ⟨L.b, 0, none⟩))
  | 59 => .con (.pointer (some ⟨L.b, 0, none⟩))
  | 60 => .con (.pointer (some ⟨L.b, 5, none⟩))
  | 61 => .con (.pointer (some ⟨L.u, 0, none⟩))
  | 62 => .con (.pointer (some ⟨L.u, 0, none⟩))
  | 63 => .con (.pointer (some ⟨L.u, 3, none⟩))
  | 64 => .con (.int .u8 S.scr)
  | 65 => .con (.bool S.ov)
  | 66 => .con (ui)
  | 67 => .con (.pointer (some ⟨L.b, 0, none⟩))
  | 68 => .own S.out
  | 69 => .con (.pointer (some ⟨L.b, 0, none⟩))
  | 70 => .con (.pointer (some ⟨L.b, 0, none⟩))
  | 71 => .con (.pointer (some ⟨L.b, 1, none⟩))
  | 72 => .con (.pointer (some ⟨L.pw, 0, none⟩))
  | 73 => .con (.pointer (some ⟨L.pw, 0, none⟩))
  | 74 => .con (.pointer (some ⟨L.pw, 0, none⟩))
  | 75 => .con (.int .i64 S.off)
  | 76 => .con (.pointer (some ⟨L.b, 0, none⟩))
  | 77 => .con (.pointer (some ⟨L.b, 0, none⟩))
  | 78 => .con (.pointer (some ⟨L.b, 1, none⟩))
  | 79 => .con (.pointer (some ⟨L.pw, 0, none⟩))
  | 80 => .con (.pointer (some ⟨L.pw, 0, none⟩))
  | 81 => .con (.pointer (some ⟨L.pw, 1, none⟩))
  | 82 => .con (.int .i64 S.code)
  | 83 => .agg (fun vs => #[vs.getD 0 undef, .int .u32 S.msip, .int .u64 S.cmp, .int .u64 S.time, .bool S.ext, .bool S.soft, .int .u8 S.ier, .int .u8 S.lcr, .int .u8 S.mcr, .int .u8 S.scr, .bool S.ov, ui, vs.getD 1 undef, .int .i64 S.off, .int .i64 S.code])
  | 84 => .mem (fun vs w => ∃ cs, vs.getD 0 undef = .agg cs ∧ w.heap[g]? = some (.cells cs 44 (0, 0)))
  | _ => .con undef
def suSlot : Nat → Nat
  | 0 => 16  | 1 => 17  | 2 => 18  | 3 => 19  | 4 => 20  | 5 => 21  | 6 => 22  | 7 => 23  | 8 => 24  | 9 => 25  | 10 => 26  | 11 => 27  | 12 => 28  | 13 => 29  | 14 => 30  | 15 => 31  | 16 => 32  | 17 => 33  | 18 => 34  | 19 => 35  | 20 => 36  | 21 => 37  | 22 => 38  | 23 => 39  | 24 => 40  | 25 => 41  | 26 => 42  | 27 => 43  | 28 => 44  | 29 => 45  | 30 => 46  | 31 => 47  | 32 => 48  | 33 => 49  | 34 => 50  | 35 => 51  | 36 => 52  | 37 => 53  | 38 => 54  | 39 => 55  | 40 => 56  | 41 => 57  | 42 => 58  | 43 => 59  | 44 => 60  | 45 => 61  | 46 => 62  | 47 => 63  | 48 => 64  | 49 => 65  | 50 => 66  | 51 => 67  | 52 => 68  | 53 => 69  | 54 => 70  | 55 => 71  | 56 => 72  | 57 => 73  | 58 => 74  | 59 => 75  | 60 => 76  | 61 => 77  | 62 => 78  | 63 => 79  | 64 => 80  | 65 => 81  | 66 => 82  | 67 => 83  | 68 => 84  | 69 => 85  | 70 => 86  | 71 => 87  | 72 => 88  | 73 => 89  | 74 => 90  | 75 => 91  | 76 => 92  | 77 => 93  | 78 => 94  | 79 => 95  | 80 => 96  | 81 => 97  | 82 => 98  | 83 => 99  | 84 => 0 | _ => 0
theorem setRow_other (w : World) (g : Nat) (cs : Array Value) (k : Nat) (h : ¬ k = g) : (w.setRow g cs).heap[k]? = w.heap[k]? := by
  unfold World.setRow
  rw [Array.getElem?_modify, if_neg (fun e => h e.symm)]
end Go.Proofs.YtidfndgedopghaaGreatDoor
namespace Go.Proofs.YtidfndgedopghaaGreatDoor
set_option linter.unusedVariables false
open Go.ChangeShapes Go.WideShapes Go.ChangeAt Go.RowKit Go.Deep Go.MuLone
theorem su_mem {L : Lay} {S : St} {vr ui : Value} {g : Nat} (j : Nat) (hj : j ≠ 84) : ∀ f, suKd L S vr ui g j ≠ .mem f := by
  intro f
  unfold suKd
  split <;> first | exact absurd rfl hj | simp
theorem su_fin : ∀ k, k < 85 → k ≠ 84 → k ∈ suNeed 84 := by decide
end Go.Proofs.YtidfndgedopghaaGreatDoor
