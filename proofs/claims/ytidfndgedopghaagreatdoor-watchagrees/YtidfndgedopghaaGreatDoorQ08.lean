/-
  Cpa.
-/
import Derived.Test.YtidfndgedopghaaGreatDoorQ07
import Derived.Deep.MidRow
namespace Go.Proofs.YtidfndgedopghaaGreatDoor
set_option linter.unusedVariables false
open Go.ChangeShapes Go.WideShapes Go.ChangeAt Go.RowKit Go.Deep
/-- A Cpu: s: the twelve registers that are kept; c, a: the entries of protection; rv, ra, rs: the reservation. -/
structure Cp where
  pc : BitVec 64
  x : Nat → BitVec 64
  md : Int
  wt : Bool
  s : Nat → BitVec 64
  c : Nat → BitVec 8
  a : Nat → BitVec 64
  rv : Bool
  ra : BitVec 64
  rs : Int
def cpcell (k : Cp) (j : Nat) : Value :=
  if j = 0 then .int .u64 (n64 k.pc) else if j < 33 then .int .u64 (n64 (k.x (j - 1))) else if j = 33 then .int .i64 k.md else if j = 34 then .bool k.wt else if j < 47 then .int .u64 (n64 (k.s (j - 35)))
  else if j < 79 then pcell k.c k.a (j - 47) else if j = 79 then .bool k.rv else if j = 80 then .int .u64 (n64 k.ra) else .int .i64 k.rs
def cpc (k : Cp) : Array Value := Array.ofFn (n := 82) fun j => cpcell k j.val
theorem cpc_size (k : Cp) : (cpc k).size = 82 := by simp [cpc]
theorem cpc_at (k : Cp) (j : Nat) (h : j < 82) : (cpc k)[j]? = some (cpcell k j) := by simp [cpc, h]
theorem pcell_one (c : Nat → BitVec 8) (a : Nat → BitVec 64) (j : Nat) : (pcell c a j).oneCell' = true := by unfold pcell; split <;> rfl
theorem cpcell_one (k : Cp) (j : Nat) : (cpcell k j).oneCell' = true := by
  unfold cpcell
  repeat' split
  all_goals first | rfl | exact pcell_one _ _ _
theorem cpc_ones (k : Cp) : (cpc k).all (·.oneCell') = true := by
  rw [Array.all_eq_true]; intro i hi; simp [cpc]; exact cpcell_one _ _
theorem cpc_congr {k k' : Cp} (h : ∀ j, j < 82 → cpcell k j = cpcell k' j) : cpc k = cpc k' := by
  apply Array.ext_getElem?
  intro j
  by_cases hj : j < 82
  · rw [cpc_at _ _ hj, cpc_at _ _ hj, h j hj]
  · simp [cpc, hj]
theorem cpc_cell {k k' : Cp} (h : cpc k = cpc k') (j : Nat) (hj : j < 82) : cpcell k j = cpcell k' j := by
  have := congrArg (fun z : Array Value => z[j]?) h
  simp only [cpc_at _ _ hj] at this
  exact Option.some.inj this
theorem cpcell_pc (k : Cp) : cpcell k 0 = .int .u64 (n64 k.pc) := rfl
theorem cpcell_x (k : Cp) (i : Nat) (h : i < 32) : cpcell k (1 + i) = .int .u64 (n64 (k.x i)) := by
  unfold cpcell; rw [if_neg (by omega), if_pos (by omega), Nat.add_sub_cancel_left]
theorem cpcell_md (k : Cp) : cpcell k 33 = .int .i64 k.md := rfl
theorem cpcell_wt (k : Cp) : cpcell k 34 = .bool k.wt := rfl
theorem cpcell_s (k : Cp) (i : Nat) (h : i < 12) : cpcell k (35 + i) = .int .u64 (n64 (k.s i)) := by
  unfold cpcell; rw [if_neg (by omega), if_neg (by omega), if_neg (by omega), if_neg (by omega), if_pos (by omega), Nat.add_sub_cancel_left]
theorem cpcell_p (k : Cp) (i : Nat) (h : i < 32) : cpcell k (47 + i) = pcell k.c k.a i := by
  unfold cpcell; rw [if_neg (by omega), if_neg (by omega), if_neg (by omega), if_neg (by omega), if_neg (by omega), if_pos (by omega), Nat.add_sub_cancel_left]
theorem cpcell_rv (k : Cp) : cpcell k 79 = .bool k.rv := rfl
theorem cpcell_ra (k : Cp) : cpcell k 80 = .int .u64 (n64 k.ra) := rfl
theorem cpcell_rs (k : Cp) : cpcell k 81 = .int .i64 k.rs := rfl
/-- Two Cpus that show the same. -/
structure Alk (k k' : Cp) : Prop where
  pc : k.pc = k'.pc
  x : ∀ j, j < 32 → k.x j = k'.x j
  md : k.md = k'.md
  wt : k.wt = k'.wt
  s : ∀ j, j < 12 → k.s j = k'.s j
  c : ∀ j, j < 16 → k.c j = k'.c j
  a : ∀ j, j < 16 → k.a j = k'.a j
  rv : k.rv = k'.rv
  ra : k.ra = k'.ra
  rs : k.rs = k'.rs
theorem Alk.cells {k k' : Cp} (h : Alk k k') : cpc k = cpc k' := by
  refine cpc_congr fun j hj => ?_
  unfold cpcell
  split
  · rw [h.pc]
  split
  · rw [h.x _ (by omega)]
  split
  · rw [h.md]
  split
  · rw [h.wt]
  split
  · rw [h.s _ (by omega)]
  split
  · unfold pcell
    split
    · rw [h.c _ (by omega)]
    · rw [h.a _ (by omega)]
  split
  · rw [h.rv]
  split
  · rw [h.ra]
  · rw [h.rs]
theorem int_inj {k : IntKind} {a b : Int} (h : Value.int k a = Value.int k b) : a = b := by cases h; rfl
theorem bool_inj {a b : Bool} (h : Value.bool a = Value.bool b) : a = b := by cases h; rfl
theorem Alk.of {k k' : Cp} (h : cpc k = cpc k') : Alk k k' where
  pc := n64_inj.1 (int_inj (cpc_cell h 0 (by omega)))
  x := fun j hj => by
    have := cpc_cell h (1 + j) (by omega)
    rw [cpcell_x _ _ hj, cpcell_x _ _ hj] at this
    exact n64_inj.1 (int_inj this)
  md := int_inj (cpc_cell h 33 (by omega))
  wt := bool_inj (cpc_cell h 34 (by omega))
  s := fun j hj => by
    have := cpc_cell h (35 + j) (by omega)
    rw [cpcell_s _ _ hj, cpcell_s _ _ hj] at this
    exact n64_inj.1 (int_inj this)
  c := fun j hj => by
    have := cpc_cell h (47 + j) (by omega)
    rw [cpcell_p _ _ (by omega), cpcell_p _ _ (by omega), pcell, pcell, if_pos hj, if_pos hj] at this
    exact n8_inj.1 (int_inj this)
  a := fun j hj => by
    have := cpc_cell h (47 + (16 + j)) (by omega)
    rw [cpcell_p _ _ (by omega), cpcell_p _ _ (by omega), pcell, pcell, if_neg (by omega), if_neg (by omega), Nat.add_sub_cancel_left] at this
    exact n64_inj.1 (int_inj this)
  rv := bool_inj (cpc_cell h 79 (by omega))
  ra := n64_inj.1 (int_inj (cpc_cell h 80 (by omega)))
  rs := int_inj (cpc_cell h 81 (by omega))
theorem Alk.refl (k : Cp) : Alk k k := ⟨rfl, fun _ _ => rfl, rfl, rfl, fun _ _ => rfl, fun _ _ => rfl, fun _ _ => rfl, rfl, rfl, rfl⟩
/-- One cell turned. -/
theorem cpc_set {k k' : Cp} {i : Nat} {v : Value} (hi : i < 82) (h1 : cpcell k' i = v) (h2 : ∀ j, j < 82 → j ≠ i → cpcell k' j = cpcell k j) : (cpc k).setIfInBounds i v = cpc k' := by
  apply Array.ext_getElem?
  intro j
  rw [Array.getElem?_setIfInBounds]
  by_cases hj : j < 82
  · rw [cpc_at _ _ hj, cpc_at _ _ hj, cpc_size]
    by_cases e : i = j
    · subst e; rw [if_pos rfl, if_pos hi, h1]
    · rw [if_neg e, h2 j hj (fun q => e q.symm)]
  · rw [if_neg (by omega), Array.getElem?_eq_none (by rw [cpc_size]; omega), Array.getElem?_eq_none (by rw [cpc_size]; omega)]
theorem cpc_pc (k : Cp) (v : BitVec 64) : (cpc k).setIfInBounds 0 (.int .u64 (n64 v)) = cpc { k with pc := v } := by
  refine cpc_set (by omega) rfl fun j hj hne => ?_
  unfold cpcell
  repeat' split
  all_goals first | rfl | (exfalso; omega)
theorem cpc_md (k : Cp) (v : Int) : (cpc k).setIfInBounds 33 (.int .i64 v) = cpc { k with md := v } := by
  refine cpc_set (by omega) rfl fun j hj hne => ?_
  unfold cpcell
  repeat' split
  all_goals first | rfl | (exfalso; omega)
theorem cpc_wt (k : Cp) (v : Bool) : (cpc k).setIfInBounds 34 (.bool v) = cpc { k with wt := v } := by
  refine cpc_set (by omega) rfl fun j hj hne => ?_
  unfold cpcell
  repeat' split
  all_goals first | rfl | (exfalso; omega)
theorem cpc_rv (k : Cp) (v : Bool) : (cpc k).setIfInBounds 79 (.bool v) = cpc { k with rv := v } := by
  refine cpc_set (by omega) rfl fun j hj hne => ?_
  unfold cpcell
  repeat' split
  all_goals first | rfl | (exfalso; omega)
theorem cpc_ra (k : Cp) (v : BitVec 64) : (cpc k).setIfInBounds 80 (.int .u64 (n64 v)) = cpc { k with ra := v } := by
  refine cpc_set (by omega) rfl fun j hj hne => ?_
  unfold cpcell
  repeat' split
  all_goals first | rfl | (exfalso; omega)
theorem cpc_rs (k : Cp) (v : Int) : (cpc k).setIfInBounds 81 (.int .i64 v) = cpc { k with rs := v } := by
  refine cpc_set (by omega) rfl fun j hj hne => ?_
  unfold cpcell
  repeat' split
  all_goals first | rfl | (exfalso; omega)
theorem cpc_x (k : Cp) (i : Nat) (h : i < 32) (v : BitVec 64) : (cpc k).setIfInBounds (1 + i) (.int .u64 (n64 v)) = cpc { k with x := upd k.x i v } := by
  refine cpc_set (by omega) ?_ fun j hj hne => ?_
  · rw [cpcell_x _ _ h]; simp [upd]
  unfold cpcell
  repeat' split
  all_goals first | rfl | (exfalso; omega) | (simp only [upd]; rw [if_neg (by omega)])
theorem cpc_s (k : Cp) (i : Nat) (h : i < 12) (v : BitVec 64) : (cpc k).setIfInBounds (35 + i) (.int .u64 (n64 v)) = cpc { k with s := upd k.s i v } := by
  refine cpc_set (by omega) ?_ fun j hj hne => ?_
  · rw [cpcell_s _ _ h]; simp [upd]
  unfold cpcell
  repeat' split
  all_goals first | rfl | (exfalso; omega) | (simp only [upd]; rw [if_neg (by omega)])
/-- A list of cells, laid into a row. -/
def layC (cs : Array Value) (o : Nat) : List Value → Array Value
  | [] => cs
  | v :: r => layC (cs.setIfInBounds o v) (o + 1) r
theorem lay_size (o : Nat) : ∀ (l : List Value) (cs : Array Value), (layC cs o l).size = cs.size := fun l => by
  induction l generalizing o with
  | nil => intro cs; rfl
  | cons v r ih => intro cs; rw [layC, ih]; simp
theorem lay_get : ∀ (l : List Value) (o : Nat) (cs : Array Value) (j : Nat), o + l.length ≤ cs.size → (layC cs o l)[j]? = if o ≤ j ∧ j < o + l.length then l[j - o]? else cs[j]?
  | [], o, cs, j, _ => by rw [layC, if_neg (by simp)]
  | v :: r, o, cs, j, h => by
    simp only [List.length_cons] at h
    rw [layC, lay_get r (o + 1) _ j (by simp; omega)]
    simp only [List.length_cons]
    by_cases h1 : o + 1 ≤ j ∧ j < o + 1 + r.length
    · rw [if_pos h1, if_pos (by omega), show j - o = (j - (o + 1)) + 1 by omega, List.getElem?_cons_succ]
    · rw [if_neg h1, Array.getElem?_setIfInBounds]
      by_cases h2 : o = j
      · subst h2; rw [if_pos rfl, if_pos (by omega), if_pos (by omega), Nat.sub_self]; rfl
      · rw [if_neg h2, if_neg (by omega)]
theorem Row.lay {g : Nat} {t : TypeId} : ∀ (l : List Value) (o : Nat) {w : World} {cs : Array Value}, Row w g cs t → Row (w.setCells g o l) g (layC cs o l) t
  | [], _, _, _, h => h
  | v :: r, o, _, _, h => by
    rw [World.setCells, layC]
    exact Row.lay r (o + 1) (h.put v)
theorem Row.lays {g g' : Nat} {cs : Array Value} {t : TypeId} (hne : g ≠ g') : ∀ (l : List Value) (o : Nat) {w : World}, Row w g cs t → Row (w.setCells g' o l) g cs t
  | [], _, _, h => h
  | v :: r, o, _, h => by
    rw [World.setCells]
    exact Row.lays hne r (o + 1) (h.other hne v)
theorem below_lay {B g : Nat} {a : World} (hg : B ≤ g) : ∀ (l : List Value) (o : Nat) {w : World}, Below B a w → Below B a (w.setCells g o l)
  | [], _, _, h => h
  | v :: r, o, _, h => by
    rw [World.setCells]
    exact below_lay hg r (o + 1) (below_put h hg v)
theorem size_lay (g : Nat) : ∀ (l : List Value) (o : Nat) (w : World), (w.setCells g o l).heap.size = w.heap.size
  | [], _, _ => rfl
  | v :: r, o, w => by
    rw [World.setCells, size_lay g r]; simp
theorem Row.there {w : World} {g : Nat} {cs : Array Value} {t : TypeId} (h : Row w g cs t) {o n : Nat} (hn : o + n ≤ cs.size) : w.there g o n := fun j hj =>
  ⟨by rw [h.cell]; simp; omega, h.froz _⟩
/-- The entries of protection, laid into a Cpu. -/
theorem cpc_pmp (k : Cp) (c : Nat → BitVec 8) (a : Nat → BitVec 64) : layC (cpc k) 47 (pc c a).toList = cpc { k with c := c, a := a } := by
  apply Array.ext_getElem?
  intro j
  have hl : (pc c a).toList.length = 32 := by rw [Array.length_toList, pc_size]
  rw [lay_get _ _ _ _ (by rw [hl, cpc_size]; omega), hl]
  by_cases hj : j < 82
  · by_cases h : 47 ≤ j ∧ j < 47 + 32
    · rw [if_pos h, Array.getElem?_toList, pc_at _ _ _ (by omega), cpc_at _ _ hj, ← cpcell_p { k with c := c, a := a } (j - 47) (by omega), show 47 + (j - 47) = j by omega]
    · rw [if_neg h, cpc_at _ _ hj, cpc_at _ _ hj]
      unfold cpcell
      repeat' split
      all_goals first | rfl | (exfalso; omega)
  · rw [if_neg (by omega), Array.getElem?_eq_none (by rw [cpc_size]; omega), Array.getElem?_eq_none (by rw [cpc_size]; omega)]
/-- A reservation, laid into a Cpu. -/
theorem cpc_res (k : Cp) (v : Bool) (a : BitVec 64) (s : Int) : layC (cpc k) 79 [.bool v, .int .u64 (n64 a), .int .i64 s] = cpc { k with rv := v, ra := a, rs := s } := by
  rw [layC, layC, layC, layC, cpc_rv, cpc_ra, cpc_rs]
/-- A Cpu lies at a place. -/
def At (w : World) (g o : Nat) (k : Cp) : Prop := ∀ j, j < 82 → w.cell? ⟨g, o + j, none⟩ = some (cpcell k j)
theorem Row.cpu {w : World} {g : Nat} {k : Cp} {t : TypeId} (h : Row w g (cpc k) t) : At w g 0 k := fun j hj => by rw [h.cell, Nat.zero_add, cpc_at _ _ hj]
theorem At.agg {w : World} {g o : Nat} {k : Cp} (h : At w g o k) : ∀ j v, (cpc k)[j]? = some v → w.cell? ⟨g, o + j, none⟩ = some v := fun j v hv => by
  by_cases hj : j < 82
  · rw [cpc_at _ _ hj] at hv; rw [h j hj]; exact hv
  · rw [Array.getElem?_eq_none (by rw [cpc_size]; omega)] at hv; cases hv
theorem At.pmp {w : World} {g o : Nat} {k : Cp} (h : At w g o k) : ∀ j v, (pc k.c k.a)[j]? = some v → w.cell? ⟨g, o + 47 + j, none⟩ = some v := fun j v hv => by
  by_cases hj : j < 32
  · rw [pc_at _ _ _ hj, ← cpcell_p k j hj] at hv; rw [Nat.add_assoc, h _ (by omega)]; exact hv
  · rw [Array.getElem?_eq_none (by rw [pc_size]; omega)] at hv; cases hv
/-- The cells of a Cpu that stands alone. -/
structure Cls (w : World) (g : Nat) (k : Cp) : Prop where
  pc : w.cell? ⟨g, 0, none⟩ = some (.int .u64 (n64 k.pc))
  x0 : w.cell? ⟨g, 1, none⟩ = some (.int .u64 (n64 (k.x 0)))
  md : w.cell? ⟨g, 33, none⟩ = some (.int .i64 k.md)
  wt : w.cell? ⟨g, 34, none⟩ = some (.bool k.wt)
  s0 : w.cell? ⟨g, 35, none⟩ = some (.int .u64 (n64 (k.s 0)))
  s1 : w.cell? ⟨g, 36, none⟩ = some (.int .u64 (n64 (k.s 1)))
  s2 : w.cell? ⟨g, 37, none⟩ = some (.int .u64 (n64 (k.s 2)))
  s3 : w.cell? ⟨g, 38, none⟩ = some (.int .u64 (n64 (k.s 3)))
  s4 : w.cell? ⟨g, 39, none⟩ = some (.int .u64 (n64 (k.s 4)))
  s5 : w.cell? ⟨g, 40, none⟩ = some (.int .u64 (n64 (k.s 5)))
  s6 : w.cell? ⟨g, 41, none⟩ = some (.int .u64 (n64 (k.s 6)))
  s7 : w.cell? ⟨g, 42, none⟩ = some (.int .u64 (n64 (k.s 7)))
  s8 : w.cell? ⟨g, 43, none⟩ = some (.int .u64 (n64 (k.s 8)))
  s9 : w.cell? ⟨g, 44, none⟩ = some (.int .u64 (n64 (k.s 9)))
  s10 : w.cell? ⟨g, 45, none⟩ = some (.int .u64 (n64 (k.s 10)))
  s11 : w.cell? ⟨g, 46, none⟩ = some (.int .u64 (n64 (k.s 11)))
  rv : w.cell? ⟨g, 79, none⟩ = some (.bool k.rv)
  ra : w.cell? ⟨g, 80, none⟩ = some (.int .u64 (n64 k.ra))
  rs : w.cell? ⟨g, 81, none⟩ = some (.int .i64 k.rs)
theorem At.cls {w : World} {g : Nat} {k : Cp} (h : At w g 0 k) : Cls w g k where
  pc := by have := h 0 (by omega); rwa [Nat.zero_add] at this
  x0 := by have := h 1 (by omega); rwa [Nat.zero_add] at this
  md := by have := h 33 (by omega); rwa [Nat.zero_add] at this
  wt := by have := h 34 (by omega); rwa [Nat.zero_add] at this
  s0 := by have := h 35 (by omega); rwa [Nat.zero_add] at this
  s1 := by have := h 36 (by omega); rwa [Nat.zero_add] at this
  s2 := by have := h 37 (by omega); rwa [Nat.zero_add] at this
  s3 := by have := h 38 (by omega); rwa [Nat.zero_add] at this
  s4 := by have := h 39 (by omega); rwa [Nat.zero_add] at this
  s5 := by have := h 40 (by omega); rwa [Nat.zero_add] at this
  s6 := by have := h 41 (by omega); rwa [Nat.zero_add] at this
  s7 := by have := h 42 (by omega); rwa [Nat.zero_add] at this
  s8 := by have := h 43 (by omega); rwa [Nat.zero_add] at this
  s9 := by have := h 44 (by omega); rwa [Nat.zero_add] at this
  s10 := by have := h 45 (by omega); rwa [Nat.zero_add] at this
  s11 := by have := h 46 (by omega); rwa [Nat.zero_add] at this
  rv := by have := h 79 (by omega); rwa [Nat.zero_add] at this
  ra := by have := h 80 (by omega); rwa [Nat.zero_add] at this
  rs := by have := h 81 (by omega); rwa [Nat.zero_add] at this
end Go.Proofs.YtidfndgedopghaaGreatDoor
