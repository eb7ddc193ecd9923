import Derived.Test.YtlhgphokfpnfeaaGreatDoorK12
import Derived.Deep.MidRow
import Derived.Deep.Cut
namespace Go.Proofs.YtlhgphokfpnfeaaGreatDoor
set_option linter.unusedVariables false
open Go.ChangeShapes Go.WideShapes Go.ChangeAt Go.RowKit Go.Deep
/-- A Cpu: s: the twelve registers that are kept; c, a: the entries of protection; rv, ra, rs: the reservation. -/
structure Cp where
  pc : BitVec 64
  x : Nat → BitVec 64
  md : Int
  wt : Bool
  s : Nat → BitVec 64
  c : Nat → BitVec 8
  a : Nat → BitVec 64
  rv : Bool
  ra : BitVec 64
  rs : Int
def cpcell (k : Cp) (j : Nat) : Value :=
  if j = 0 then .int .u64 (n64 k.pc) else if j < 33 then .int .u64 (n64 (k.x (j - 1))) else if j = 33 then .int .i64 k.md else if j = 34 then .bool k.wt else if j < 47 then .int .u64 (n64 (k.s (j - 35)))
  else if j < 79 then pcell k.c k.a (j - 47) else if j = 79 then .bool k.rv else if j = 80 then .int .u64 (n64 k.ra) else .int .i64 k.rs
def cpc (k : Cp) : Array Value := Array.ofFn (n := 82) fun j => cpcell k j.val
theorem cpc_size (k : Cp) : (cpc k).size = 82 := by simp [cpc]
theorem cpc_at (k : Cp) (j : Nat) (h : j < 82) : (cpc k)[j]? = some (cpcell k j) := by simp [cpc, h]
theorem pcell_one (c : Nat → BitVec 8) (a : Nat → BitVec 64) (j : Nat) : (pcell c a j).oneCell' = true := by unfold pcell; split <;> rfl
theorem cpcell_one (k : Cp) (j : Nat) : (cpcell k j).oneCell' = true := by
  unfold cpcell
  repeat' split
  all_goals first | rfl | exact pcell_one _ _ _
theorem cpc_ones (k : Cp) : (cpc k).all (·.oneCell') = true := by
  rw [Array.all_eq_true]; intro i hi; simp [cpc]; exact cpcell_one _ _
theorem cpc_congr {k k' : Cp} (h : ∀ j, j < 82 → cpcell k j = cpcell k' j) : cpc k = cpc k' := by
  apply Array.ext_getElem?
  intro j
  by_cases hj : j < 82
  · rw [cpc_at _ _ hj, cpc_at _ _ hj, h j hj]
  · simp [cpc, hj]
theorem cpc_cell {k k' : Cp} (h : cpc k = cpc k') (j : Nat) (hj : j < 82) : cpcell k j = cpcell k' j := by
  have := congrArg (fun z : Array Value => z[j]?) h
  simp only [cpc_at _ _ hj] at this
  exact Option.some.inj this
theorem cpcell_x (k : Cp) (i : Nat) (h : i < 32) : cpcell k (1 + i) = .int .u64 (n64 (k.x i)) := by
  unfold cpcell; rw [if_neg (by omega), if_pos (by omega), Nat.add_sub_cancel_left]
theorem cpcell_s (k : Cp) (i : Nat) (h : i < 12) : cpcell k (35 + i) = .int .u64 (n64 (k.s i)) := by
  unfold cpcell; rw [if_neg (by omega), if_neg (by omega), if_neg (by omega), if_neg (by omega), if_pos (by omega), Nat.add_sub_cancel_left]
theorem cpcell_p (k : Cp) (i : Nat) (h : i < 32) : cpcell k (47 + i) = pcell k.c k.a i := by
  unfold cpcell; rw [if_neg (by omega), if_neg (by omega), if_neg (by omega), if_neg (by omega), if_neg (by omega), if_pos (by omega), Nat.add_sub_cancel_left]
/-- Two Cpus that show the same. -/
structure Alk (k k' : Cp) : Prop where
  pc : k.pc = k'.pc
  x : ∀ j, j < 32 → k.x j = k'.x j
  md : k.md = k'.md
  wt : k.wt = k'.wt
  s : ∀ j, j < 12 → k.s j = k'.s j
  c : ∀ j, j < 16 → k.c j = k'.c j
  a : ∀ j, j < 16 → k.a j = k'.a j
  rv : k.rv = k'.rv
  ra : k.ra = k'.ra
  rs : k.rs = k'.rs
theorem Alk.cells {k k' : Cp} (h : Alk k k') : cpc k = cpc k' := by
  refine cpc_congr fun j hj => ?_
  unfold cpcell
  split
  · rw [h.pc]
  split
  · rw [h.x _ (by omega)]
  split
  · rw [h.md]
  split
  · rw [h.wt]
  split
  · rw [h.s _ (by omega)]
  split
  · unfold pcell
    split
    · rw [h.c _ (by omega)]
    · rw [h.a _ (by omega)]
  split
  · rw [h.rv]
  split
  · rw [h.ra]
  · rw [h.rs]
theorem int_inj {k : IntKind} {a b : Int} (h : Value.int k a = Value.int k b) : a = b := by cases h; rfl
theorem bool_inj {a b : Bool} (h : Value.bool a = Value.bool b) : a = b := by cases h; rfl
theorem Alk.of {k k' : Cp} (h : cpc k = cpc k') : Alk k k' where
  pc := n64_inj.1 (int_inj (cpc_cell h 0 (by omega)))
  x := fun j hj => by
    have := cpc_cell h (1 + j) (by omega)
    rw [cpcell_x _ _ hj, cpcell_x _ _ hj] at this
    exact n64_inj.1 (int_inj this)
  md := int_inj (cpc_cell h 33 (by omega))
  wt := bool_inj (cpc_cell h 34 (by omega))
  s := fun j hj => by
    have := cpc_cell h (35 + j) (by omega)
    rw [cpcell_s _ _ hj, cpcell_s _ _ hj] at this
    exact n64_inj.1 (int_inj this)
  c := fun j hj => by
    have := cpc_cell h (47 + j) (by omega)
    rw [cpcell_p _ _ (by omega), cpcell_p _ _ (by omega), pcell, pcell, if_pos hj, if_pos hj] at this
    exact n8_inj.1 (int_inj this)
  a := fun j hj => by
    have := cpc_cell h (47 + (16 + j)) (by omega)
    rw [cpcell_p _ _ (by omega), cpcell_p _ _ (by omega), pcell, pcell, if_neg (by omega), if_neg (by omega), Nat.add_sub_cancel_left] at this
    exact n64_inj.1 (int_inj this)
  rv := bool_inj (cpc_cell h 79 (by omega))
  ra := n64_inj.1 (int_inj (cpc_cell h 80 (by omega)))
  rs := int_inj (cpc_cell h 81 (by omega))
theorem Alk.refl (k : Cp) : Alk k k := ⟨rfl, fun _ _ => rfl, rfl, rfl, fun _ _ => rfl, fun _ _ => rfl, fun _ _ => rfl, rfl, rfl, rfl⟩
/-- One cell turned. -/
theorem cpc_set {k k' : Cp} {i : Nat} {v : Value} (hi : i < 82) (h1 : cpcell k' i = v) (h2 : ∀ j, j < 82 → j ≠ i → cpcell k' j = cpcell k j) : (cpc k).setIfInBounds i v = cpc k' := by
  apply Array.ext_getElem?
  intro j
  rw [Array.getElem?_setIfInBounds]
  by_cases hj : j < 82
  · rw [cpc_at _ _ hj, cpc_at _ _ hj, cpc_size]
    by_cases e : i = j
    · subst e; rw [if_pos rfl, if_pos hi, h1]
    · rw [if_neg e, h2 j hj (fun q => e q.symm)]
  · rw [if_neg (by omega), Array.getElem?_eq_none (by rw [cpc_size]; omega), Array.getElem?_eq_none (by rw [cpc_size]; omega)]
theorem cpc_pc (k : Cp) (v : BitVec 64) : (cpc k).setIfInBounds 0 (.int .u64 (n64 v)) = cpc { k with pc := v } := by
  refine cpc_set (by omega) rfl fun j hj hne => ?_
  unfold cpcell
  repeat' split
  all_goals first | rfl | (exfalso; omega)
theorem cpc_md (k : Cp) (v : Int) : (cpc k).setIfInBounds 33 (.int .i64 v) = cpc { k with md := v } := by
  refine cpc_set (by omega) rfl fun j hj hne => ?_
  unfold cpcell
  repeat' split
  all_goals first | rfl | (exfalso; omega)
theorem cpc_rv (k : Cp) (v : Bool) : (cpc k).setIfInBounds 79 (.bool v) = cpc { k with rv := v } := by
  refine cpc_set (by omega) rfl fun j hj hne => ?_
  unfold cpcell
  repeat' split
  all_goals first | rfl | (exfalso; omega)
theorem cpc_ra (k : Cp) (v : BitVec 64) : (cpc k).setIfInBounds 80 (.int .u64 (n64 v)) = cpc { k with ra := v } := by
  refine cpc_set (by omega) rfl fun j hj hne => ?_
  unfold cpcell
  repeat' split
  all_goals first | rfl | (exfalso; omega)
theorem cpc_rs (k : Cp) (v : Int) : (cpc k).setIfInBounds 81 (.int .i64 v) = cpc { k with rs := v } := by
  refine cpc_set (by omega) rfl fun j hj hne => ?_
  unfold cpcell
  repeat' split
  all_goals first | rfl | (exfalso; omega)
theorem cpc_x (k : Cp) (i : Nat) (h : i < 32) (v : BitVec 64) : (cpc k).setIfInBounds (1 + i) (.int .u64 (n64 v)) = cpc { k with x := upd k.x i v } := by
  refine cpc_set (by omega) ?_ fun j hj hne => ?_
  · rw [cpcell_x _ _ h]; simp [upd]
  unfold cpcell
  repeat' split
  all_goals first | rfl | (exfalso; omega) | (simp only [upd]; rw [if_neg (by omega)])
theorem cpc_s (k : Cp) (i : Nat) (h : i < 12) (v : BitVec 64) : (cpc k).setIfInBounds (35 + i) (.int .u64 (n64 v)) = cpc { k with s := upd k.s i v } := by
  refine cpc_set (by omega) ?_ fun j hj hne => ?_
  · rw [cpcell_s _ _ h]; simp [upd]
  unfold cpcell
  repeat' split
  all_goals first | rfl | (exfalso; omega) | (simp only [upd]; rw [if_neg (by omega)])
/-- A list of cells, laid into a row. -/
def layC (cs : Array Value) (o : Nat) : List Value → Array Value
  | [] => cs
  | v :: r => layC (cs.setIfInBounds o v) (o + 1) r
theorem lay_size (o : Nat) : ∀ (l : List Value) (cs : Array Value), (layC cs o l).size = cs.size := fun l => by
  induction l generalizing o with
  | nil => intro cs; rfl
  | cons v r ih => intro cs; rw [layC, ih]; simp
theorem lay_get : ∀ (l : List Value) (o : Nat) (cs : Array Value) (j : Nat), o + l.length ≤ cs.size → (layC cs o l)[j]? = if o ≤ j ∧ j < o + l.length then l[j - o]? else cs[j]?
  | [], o, cs, j, _ => by rw [layC, if_neg (by simp)]
  | v :: r, o, cs, j, h => by
    simp only [List.length_cons] at h
    rw [layC, lay_get r (o + 1) _ j (by simp; omega)]
    simp only [List.length_cons]
    by_cases h1 : o + 1 ≤ j ∧ j < o + 1 + r.length
    · rw [if_pos h1, if_pos (by omega), show j - o = (j - (o + 1)) + 1 by omega, List.getElem?_cons_succ]
    · rw [if_neg h1, Array.getElem?_setIfInBounds]
      by_cases h2 : o = j
      · subst h2; rw [if_pos rfl, if_pos (by omega), if_pos (by omega), Nat.sub_self]; rfl
      · rw [if_neg h2, if_neg (by omega)]
theorem Row.lay {g : Nat} {t : TypeId} : ∀ (l : List Value) (o : Nat) {w : World} {cs : Array Value}, Row w g cs t → Row (w.setCells g o l) g (layC cs o l) t
  | [], _, _, _, h => h
  | v :: r, o, _, _, h => by
    rw [World.setCells, layC]
    exact Row.lay r (o + 1) (h.put v)
theorem Row.lays {g g' : Nat} {cs : Array Value} {t : TypeId} (hne : g ≠ g') : ∀ (l : List Value) (o : Nat) {w : World}, Row w g cs t → Row (w.setCells g' o l) g cs t
  | [], _, _, h => h
  | v :: r, o, _, h => by
    rw [World.setCells]
    exact Row.lays hne r (o + 1) (h.other hne v)
theorem below_lay {B g : Nat} {a : World} (hg : B ≤ g) : ∀ (l : List Value) (o : Nat) {w : World}, Below B a w → Below B a (w.setCells g o l)
  | [], _, _, h => h
  | v :: r, o, _, h => by
    rw [World.setCells]
    exact below_lay hg r (o + 1) (below_put h hg v)
theorem size_lay (g : Nat) : ∀ (l : List Value) (o : Nat) (w : World), (w.setCells g o l).heap.size = w.heap.size
  | [], _, _ => rfl
  | v :: r, o, w => by
    rw [World.setCells, size_lay g r]; simp
theorem Row.there {w : World} {g : Nat} {cs : Array Value} {t : TypeId} (h : Row w g cs t) {o n : Nat} (hn : o + n ≤ cs.size) : w.there g o n := fun j hj =>
  ⟨by rw [h.cell]; simp; omega, h.froz _⟩
/-- The entries of protection, laid into a Cpu. -/
theorem cpc_pmp (k : Cp) (c : Nat → BitVec 8) (a : Nat → BitVec 64) : layC (cpc k) 47 (pc c a).toList = cpc { k with c := c, a := a } := by
  apply Array.ext_getElem?
  intro j
  have hl : (pc c a).toList.length = 32 := by rw [Array.length_toList, pc_size]
  rw [lay_get _ _ _ _ (by rw [hl, cpc_size]; omega), hl]
  by_cases hj : j < 82
  · by_cases h : 47 ≤ j ∧ j < 47 + 32
    · rw [if_pos h, Array.getElem?_toList, pc_at _ _ _ (by omega), cpc_at _ _ hj, ← cpcell_p { k with c := c, a := a } (j - 47) (by omega), show 47 + (j - 47) = j by omega]
    · rw [if_neg h, cpc_at _ _ hj, cpc_at _ _ hj]
      unfold cpcell
      repeat' split
      all_goals first | rfl | (exfalso; omega)
  · rw [if_neg (by omega), Array.getElem?_eq_none (by rw [cpc_size]; omega), Array.getElem?_eq_none (by rw [cpc_size]; omega)]
/-- A reservation, laid into a Cpu. -/
theorem cpc_res (k : Cp) (v : Bool) (a : BitVec 64) (s : Int) : layC (cpc k) 79 [.bool v, .int .u64 (n64 a), .int .i64 s] = cpc { k with rv := v, ra := a, rs := s } := by
  rw [layC, layC, layC, layC, cpc_rv, cpc_ra, cpc_rs]
/-- A Cpu lies at a place. -/
def At (w : World) (g o : Nat) (k : Cp) : Prop := ∀ j, j < 82 → w.cell? ⟨g, o + j, none⟩ = some (cpcell k j)
theorem Row.cpu {w : World} {g : Nat} {k : Cp} {t : TypeId} (h : Row w g (cpc k) t) : At w g 0 k := fun j hj => by rw [h.cell, Nat.zero_add, cpc_at _ _ hj]
theorem At.agg {w : World} {g o : Nat} {k : Cp} (h : At w g o k) : ∀ j v, (cpc k)[j]? = some v → w.cell? ⟨g, o + j, none⟩ = some v := fun j v hv => by
  by_cases hj : j < 82
  · rw [cpc_at _ _ hj] at hv; rw [h j hj]; exact hv
  · rw [Array.getElem?_eq_none (by rw [cpc_size]; omega)] at hv; cases hv
theorem At.pmp {w : World} {g o : Nat} {k : Cp} (h : At w g o k) : ∀ j v, (pc k.c k.a)[j]? = some v → w.cell? ⟨g, o + 47 + j, none⟩ = some v := fun j v hv => by
  by_cases hj : j < 32
  · rw [pc_at _ _ _ hj, ← cpcell_p k j hj] at hv; rw [Nat.add_assoc, h _ (by omega)]; exact hv
  · rw [Array.getElem?_eq_none (by rw [pc_size]; omega)] at hv; cases hv
/-- The cells of a Cpu that stands alone. -/
structure Cls (w : World) (g : Nat) (k : Cp) : Prop where
  pc : w.cell? ⟨g, 0, none⟩ = some (.int .u64 (n64 k.pc))
  x0 : w.cell? ⟨g, 1, none⟩ = some (.int .u64 (n64 (k.x 0)))
  md : w.cell? ⟨g, 33, none⟩ = some (.int .i64 k.md)
  wt : w.cell? ⟨g, 34, none⟩ = some (.bool k.wt)
  s0 : w.cell? ⟨g, 35, none⟩ = some (.int .u64 (n64 (k.s 0)))
  s1 : w.cell? ⟨g, 36, none⟩ = some (.int .u64 (n64 (k.s 1)))
  s2 : w.cell? ⟨g, 37, none⟩ = some (.int .u64 (n64 (k.s 2)))
  s3 : w.cell? ⟨g, 38, none⟩ = some (.int .u64 (n64 (k.s 3)))
  s4 : w.cell? ⟨g, 39, none⟩ = some (.int .u64 (n64 (k.s 4)))
  s5 : w.cell? ⟨g, 40, none⟩ = some (.int .u64 (n64 (k.s 5)))
  s6 : w.cell? ⟨g, 41, none⟩ = some (.int .u64 (n64 (k.s 6)))
  s7 : w.cell? ⟨g, 42, none⟩ = some (.int .u64 (n64 (k.s 7)))
  s8 : w.cell? ⟨g, 43, none⟩ = some (.int .u64 (n64 (k.s 8)))
  s9 : w.cell? ⟨g, 44, none⟩ = some (.int .u64 (n64 (k.s 9)))
  s10 : w.cell? ⟨g, 45, none⟩ = some (.int .u64 (n64 (k.s 10)))
  s11 : w.cell? ⟨g, 46, none⟩ = some (.int .u64 (n64 (k.s 11)))
  rv : w.cell? ⟨g, 79, none⟩ = some (.bool k.rv)
  ra : w.cell? ⟨g, 80, none⟩ = some (.int .u64 (n64 k.ra))
  rs : w.cell? ⟨g, 81, none⟩ = some (.int .i64 k.rs)
theorem At.cls {w : World} {g : Nat} {k : Cp} (h : At w g 0 k) : Cls w g k where
  pc := by have := h 0 (by omega); rwa [Nat.zero_add] at this
  x0 := by have := h 1 (by omega); rwa [Nat.zero_add] at this
  md := by have := h 33 (by omega); rwa [Nat.zero_add] at this
  wt := by have := h 34 (by omega); rwa [Nat.zero_add] at this
  s0 := by have := h 35 (by omega); rwa [Nat.zero_add] at this
  s1 := by have := h 36 (by omega); rwa [Nat.zero_add] at this
  s2 := by have := h 37 (by omega); rwa [Nat.zero_add] at this
  s3 := by have := h 38 (by omega); rwa [Nat.zero_add] at this
  s4 := by have := h 39 (by omega); rwa [Nat.zero_add] at this
  s5 := by have := h 40 (by omega); rwa [Nat.zero_add] at this
  s6 := by have := h 41 (by omega); rwa [Nat.zero_add] at this
  s7 := by have := h 42 (by omega); rwa [Nat.zero_add] at this
  s8 := by have := h 43 (by omega); rwa [Nat.zero_add] at this
  s9 := by have := h 44 (by omega); rwa [Nat.zero_add] at this
  s10 := by have := h 45 (by omega); rwa [Nat.zero_add] at this
  s11 := by have := h 46 (by omega); rwa [Nat.zero_add] at this
  rv := by have := h 79 (by omega); rwa [Nat.zero_add] at this
  ra := by have := h 80 (by omega); rwa [Nat.zero_add] at this
  rs := by have := h 81 (by omega); rwa [Nat.zero_add] at this
end Go.Proofs.YtlhgphokfpnfeaaGreatDoor
namespace Go.Proofs.YtlhgphokfpnfeaaGreatDoor
set_option linter.unusedVariables false
open Go.ChangeShapes Go.WideShapes Go.ChangeAt Go.RowKit Go.Deep
/-- A comparison that answers whether p holds. -/
def Cmp (P : Program) (w : World) (d : Nat) (t : TypeId) (a b : Value) (p : Prop) : Prop := ∃ r, (Op.equalIn d t a b).run P w = .ok r w ∧ (r = true ↔ p)
def CmpF (P : Program) (w : World) (d : Nat) (xs ys : Array Value) (fs : List Field) (p : Prop) : Prop := ∃ r, (Op.eqFields d xs ys fs).run P w = .ok r w ∧ (r = true ↔ p)
theorem CmpF.nil {P : Program} {w : World} {d : Nat} {xs ys : Array Value} : CmpF P w d xs ys [] True := ⟨true, by simp [Op.eqFields], by simp⟩
theorem CmpF.cons {P : Program} {w : World} {d : Nat} {xs ys : Array Value} {f : Field} {fs : List Field} {p q : Prop} {a b : Value} (hn : f.name ≠ "_") (ha : (part f.type xs f.offset).run P w = .ok a w) (hb : (part f.type ys f.offset).run P w = .ok b w)
    (h : Cmp P w d f.type a b q) (hs : CmpF P w d xs ys fs p) : CmpF P w d xs ys (f :: fs) (q ∧ p) := by
  obtain ⟨r, hr, hq⟩ := h
  obtain ⟨r', hr', hp⟩ := hs
  cases r with
  | false => exact ⟨false, by simp only [Op.eqFields, hn, ne_eq, not_false_eq_true, if_true, Sem.run_bind, ha, hb, hr, Result.andThen_ok]; simp, by simp at hq; simp [hq]⟩
  | true => exact ⟨r', by simp only [Op.eqFields, hn, ne_eq, not_false_eq_true, if_true, Sem.run_bind, ha, hb, hr, Result.andThen_ok]; simpa using hr', by simp at hq; simp [hq, hp]⟩
theorem Cmp.int {P : Program} {w : World} {d : Nat} {t : TypeId} {k k' : IntKind} {a b : Int} (h : P.underlying t = some (.int k')) : Cmp P w (d + 1) t (.int k a) (.int k b) (a = b) := ⟨_, run_equalIn_int w d t k k' a b h, by simp⟩
theorem Cmp.bool {P : Program} {w : World} {d : Nat} {t : TypeId} {a b : Bool} (h : P.underlying t = some .bool) : Cmp P w (d + 1) t (.bool a) (.bool b) (a = b) := ⟨_, run_equalIn_bool w d t a b h, by simp⟩
theorem Cmp.iff {P : Program} {w : World} {d : Nat} {t : TypeId} {a b : Value} {p q : Prop} (h : Cmp P w d t a b p) (e : p ↔ q) : Cmp P w d t a b q := by
  obtain ⟨r, h1, h2⟩ := h
  exact ⟨r, h1, h2.trans e⟩
theorem cmp_items {P : Program} (w : World) (d : Nat) (e : TypeId) (kk : IntKind) (he : P.underlying e = some (.int kk)) (xs ys : Array Value) (f g : Nat → Int) (k : IntKind) : ∀ is : List Nat, (∀ i ∈ is, (part e xs (i * 1)).run P w = .ok (.int k (f i)) w ∧ (part e ys (i * 1)).run P w = .ok (.int k (g i)) w) →
    ∃ r, (Op.eqItems (d + 1) e 1 xs ys is).run P w = .ok r w ∧ (r = true ↔ ∀ i ∈ is, f i = g i)
  | [], _ => ⟨true, by simp [Op.eqItems], by simp⟩
  | i :: is, h => by
    obtain ⟨hp, hq⟩ := h i (by simp)
    obtain ⟨r, hr, hi⟩ := cmp_items w d e kk he xs ys f g k is (fun j hj => h j (by simp [hj]))
    by_cases e0 : f i = g i
    · refine ⟨r, ?_, ?_⟩
      · simp only [Op.eqItems, Sem.run_bind, hp, hq, Result.andThen_ok, run_equalIn_int w d e k kk _ _ he, e0, beq_self_eq_true, Bool.not_true, Bool.false_eq_true, if_false, hr]
      · rw [hi]; simp [e0]
    · refine ⟨false, ?_, by simp [e0]⟩
      have e1 : (f i == g i) = false := by simpa using e0
      simp only [Op.eqItems, Sem.run_bind, hp, hq, Result.andThen_ok, run_equalIn_int w d e k kk _ _ he, e1, Bool.not_false, if_true, Sem.run_pure]
theorem Cmp.ints {P : Program} {w : World} {d n : Nat} {t e : TypeId} {k kk : IntKind} {xs ys : Array Value} {f g : Nat → Int} (ht : P.underlying t = some (.array n e)) (he : P.underlying e = some (.int kk)) (hc : P.cellsOf e = 1) (hi : (P.info? e).isSome = true) (hp : P.plainKey e = true)
    (hx : ∀ i, i < n → xs[i]? = some (.int k (f i))) (hy : ∀ i, i < n → ys[i]? = some (.int k (g i))) : Cmp P w (d + 2) t (.agg xs) (.agg ys) (∀ i, i < n → f i = g i) := by
  obtain ⟨i0, hi0⟩ := Option.isSome_iff_exists.1 hi
  obtain ⟨r, hr, h⟩ := cmp_items w d e kk he xs ys f g k (List.range n) fun i hi => by
    have := List.mem_range.1 hi
    rw [Nat.mul_one]
    exact ⟨run_part_plain w hp (hx i this), run_part_plain w hp (hy i this)⟩
  refine ⟨r, ?_, ?_⟩
  · rw [run_equalIn_array w (d + 1) xs ys ht hi0, hc]; exact hr
  · rw [h]; simp
theorem Cmp.struct {P : Program} {w : World} {d : Nat} {t : TypeId} {fs : Array Field} {xs ys : Array Value} {p : Prop} (ht : P.underlying t = some (.struct fs)) (hp : P.stoodInHeld t = false) (h : CmpF P w d xs ys fs.toList p) : Cmp P w (d + 1) t (.agg xs) (.agg ys) p := by
  have hf : P.fieldsOf t = fs := by simp [Program.fieldsOf, ht]
  obtain ⟨r, hr, hq⟩ := h
  exact ⟨r, by rw [run_equalIn_struct w d t xs ys (by rw [hf]; exact ht) hp, hf]; exact hr, hq⟩
theorem part_agg {P : Program} {w : World} {t : TypeId} {d : TypeDesc} {n : Nat} {xs : Array Value} {o : Nat} (ht : P.underlying t = some d) (hd : d.isRow = true) (hi : (P.info? t).map (·.size) = some n) : (part t xs o).run P w = .ok (.agg (xs.extract o (o + n))) w := by
  cases hq : P.info? t with
  | none => simp [hq] at hi
  | some i =>
    have hs : i.size = n := by simpa [hq] using hi
    have hagg : (isAgg t).run P w = .ok true w := by
      unfold isAgg
      rw [Sem.run_bind, run_underlying ht w]
      cases d <;> simp_all
    simp [part, Sem.run_bind, hagg, sizeOf, typeInfo, hq, hs]
theorem cpc_xs (k : Cp) (i : Nat) (h : i < 32) : ((cpc k).extract 1 (1 + 32))[i]? = some (.int .u64 (n64 (k.x i))) := by
  rw [Array.getElem?_extract, if_pos (by rw [cpc_size]; omega), cpc_at _ _ (by omega), cpcell_x _ _ h]
theorem cpc_ps (k : Cp) : (cpc k).extract 47 (47 + 32) = pc k.c k.a := by
  apply Array.ext_getElem?
  intro j
  rw [Array.getElem?_extract]
  by_cases h : j < 32
  · rw [if_pos (by rw [cpc_size]; omega), cpc_at _ _ (by omega), cpcell_p _ _ h, pc_at _ _ _ h]
  · rw [if_neg (by rw [cpc_size]; omega), Array.getElem?_eq_none (by rw [pc_size]; omega)]
theorem cpc_rs3 (k : Cp) : (cpc k).extract 79 (79 + 3) = #[.bool k.rv, .int .u64 (n64 k.ra), .int .i64 k.rs] := by
  apply Array.ext_getElem?
  intro j
  rw [Array.getElem?_extract]
  match j with
  | 0 => rw [if_pos (by rw [cpc_size]; omega), cpc_at _ _ (by omega)]; rfl
  | 1 => rw [if_pos (by rw [cpc_size]; omega), cpc_at _ _ (by omega)]; rfl
  | 2 => rw [if_pos (by rw [cpc_size]; omega), cpc_at _ _ (by omega)]; rfl
  | j + 3 => rw [if_neg (by rw [cpc_size]; omega)]; rfl
theorem cmp_res (w : World) (d : Nat) (v v' : Bool) (a a' : BitVec 64) (s s' : Int) : Cmp Tryz.prog w (d + 2) 29 (.agg #[.bool v, .int .u64 (n64 a), .int .i64 s]) (.agg #[.bool v', .int .u64 (n64 a'), .int .i64 s']) (v = v' ∧ a = a' ∧ s = s' ∧ True) := by
  refine Cmp.struct Tryz.underlying29 (by kernel_rfl) ?_
  refine CmpF.cons (by decide) (run_part_plain w (by kernel_rfl) rfl) (run_part_plain w (by kernel_rfl) rfl) (Cmp.bool Tryz.underlying4) ?_
  refine CmpF.cons (by decide) (run_part_plain w (by kernel_rfl) rfl) (run_part_plain w (by kernel_rfl) rfl) ((Cmp.int Tryz.underlying22).iff n64_inj) ?_
  refine CmpF.cons (by decide) (run_part_plain w (by kernel_rfl) rfl) (run_part_plain w (by kernel_rfl) rfl) (Cmp.int Tryz.underlying3) ?_
  exact CmpF.nil
theorem cmp_xs (w : World) (d : Nat) (k k' : Cp) : Cmp Tryz.prog w (d + 2) 23 (.agg ((cpc k).extract 1 (1 + 32))) (.agg ((cpc k').extract 1 (1 + 32))) (∀ j, j < 32 → k.x j = k'.x j) :=
  (Cmp.ints (f := fun i => n64 (k.x i)) (g := fun i => n64 (k'.x i)) Tryz.underlying23 Tryz.underlying22 (by kernel_rfl) (by kernel_rfl) (by kernel_rfl) (cpc_xs k) (cpc_xs k')).iff
    ⟨fun h j hj => n64_inj.1 (h j hj), fun h j hj => n64_inj.2 (h j hj)⟩
theorem cmp_pmp (w : World) (d : Nat) (c c' : Nat → BitVec 8) (a a' : Nat → BitVec 64) : Cmp Tryz.prog w (d + 3) 27 (.agg (pc c a)) (.agg (pc c' a')) ((∀ j, j < 16 → c j = c' j) ∧ (∀ j, j < 16 → a j = a' j) ∧ True) := by
  refine Cmp.struct Tryz.underlying27 (by kernel_rfl) ?_
  refine CmpF.cons (by decide) (part_pc_cfg _ _) (part_pc_cfg _ _) ((Cmp.ints (f := fun i => n8 (c i)) (g := fun i => n8 (c' i)) Tryz.underlying24 Tryz.underlying5 (by kernel_rfl) (by kernel_rfl) (by kernel_rfl) (pc_cfgs_at c a) (pc_cfgs_at c' a')).iff ⟨fun h j hj => n8_inj.1 (h j hj), fun h j hj => n8_inj.2 (h j hj)⟩) ?_
  refine CmpF.cons (by decide) (part_pc_addr _ _) (part_pc_addr _ _) ((Cmp.ints (f := fun i => n64 (a i)) (g := fun i => n64 (a' i)) Tryz.underlying25 Tryz.underlying22 (by kernel_rfl) (by kernel_rfl) (by kernel_rfl) (pc_addrs_at c a) (pc_addrs_at c' a')).iff ⟨fun h j hj => n64_inj.1 (h j hj), fun h j hj => n64_inj.2 (h j hj)⟩) ?_
  exact CmpF.nil
theorem cmp_cpu (w : World) (d : Nat) (k k' : Cp) : Cmp Tryz.prog w (d + 4) 31 (.agg (cpc k)) (.agg (cpc k')) (cpc k = cpc k') := by
  refine Cmp.iff (Cmp.struct Tryz.underlying31 (by kernel_rfl) ?_) (p := k.pc = k'.pc ∧ (∀ j, j < 32 → k.x j = k'.x j) ∧ k.md = k'.md ∧ k.wt = k'.wt ∧ k.s 0 = k'.s 0 ∧ k.s 1 = k'.s 1 ∧ k.s 2 = k'.s 2 ∧ k.s 3 = k'.s 3 ∧ k.s 4 = k'.s 4 ∧ k.s 5 = k'.s 5 ∧ k.s 6 = k'.s 6 ∧ k.s 7 = k'.s 7 ∧ k.s 8 = k'.s 8 ∧ k.s 9 = k'.s 9 ∧ k.s 10 = k'.s 10 ∧ k.s 11 = k'.s 11 ∧ ((∀ j, j < 16 → k.c j = k'.c j) ∧ (∀ j, j < 16 → k.a j = k'.a j) ∧ True) ∧ (k.rv = k'.rv ∧ k.ra = k'.ra ∧ k.rs = k'.rs ∧ True) ∧ True) ?_
  · refine CmpF.cons (by decide) (run_part_plain w (by kernel_rfl) (cpc_at k 0 (by omega))) (run_part_plain w (by kernel_rfl) (cpc_at k' 0 (by omega))) ((Cmp.int Tryz.underlying22).iff n64_inj) ?_
    refine CmpF.cons (by decide) (part_agg Tryz.underlying23 rfl (by kernel_rfl)) (part_agg Tryz.underlying23 rfl (by kernel_rfl)) (cmp_xs w _ k k') ?_
    refine CmpF.cons (by decide) (run_part_plain w (by kernel_rfl) (cpc_at k 33 (by omega))) (run_part_plain w (by kernel_rfl) (cpc_at k' 33 (by omega))) (Cmp.int Tryz.underlying3) ?_
    refine CmpF.cons (by decide) (run_part_plain w (by kernel_rfl) (cpc_at k 34 (by omega))) (run_part_plain w (by kernel_rfl) (cpc_at k' 34 (by omega))) (Cmp.bool Tryz.underlying4) ?_
    refine CmpF.cons (by decide) (run_part_plain w (by kernel_rfl) (cpc_at k 35 (by omega))) (run_part_plain w (by kernel_rfl) (cpc_at k' 35 (by omega))) ((Cmp.int Tryz.underlying22).iff n64_inj) ?_
    refine CmpF.cons (by decide) (run_part_plain w (by kernel_rfl) (cpc_at k 36 (by omega))) (run_part_plain w (by kernel_rfl) (cpc_at k' 36 (by omega))) ((Cmp.int Tryz.underlying22).iff n64_inj) ?_
    refine CmpF.cons (by decide) (run_part_plain w (by kernel_rfl) (cpc_at k 37 (by omega))) (run_part_plain w (by kernel_rfl) (cpc_at k' 37 (by omega))) ((Cmp.int Tryz.underlying22).iff n64_inj) ?_
    refine CmpF.cons (by decide) (run_part_plain w (by kernel_rfl) (cpc_at k 38 (by omega))) (run_part_plain w (by kernel_rfl) (cpc_at k' 38 (by omega))) ((Cmp.int Tryz.underlying22).iff n64_inj) ?_
    refine CmpF.cons (by decide) (run_part_plain w (by kernel_rfl) (cpc_at k 39 (by omega))) (run_part_plain w (by kernel_rfl) (cpc_at k' 39 (by omega))) ((Cmp.int Tryz.underlying22).iff n64_inj) ?_
    refine CmpF.cons (by decide) (run_part_plain w (by kernel_rfl) (cpc_at k 40 (by omega))) (run_part_plain w (by kernel_rfl) (cpc_at k' 40 (by omega))) ((Cmp.int Tryz.underlying22).iff n64_inj) ?_
    refine CmpF.cons (by decide) (run_part_plain w (by kernel_rfl) (cpc_at k 41 (by omega))) (run_part_plain w (by kernel_rfl) (cpc_at k' 41 (by omega))) ((Cmp.int Tryz.underlying22).iff n64_inj) ?_
    refine CmpF.cons (by decide) (run_part_plain w (by kernel_rfl) (cpc_at k 42 (by omega))) (run_part_plain w (by kernel_rfl) (cpc_at k' 42 (by omega))) ((Cmp.int Tryz.underlying22).iff n64_inj) ?_
    refine CmpF.cons (by decide) (run_part_plain w (by kernel_rfl) (cpc_at k 43 (by omega))) (run_part_plain w (by kernel_rfl) (cpc_at k' 43 (by omega))) ((Cmp.int Tryz.underlying22).iff n64_inj) ?_
    refine CmpF.cons (by decide) (run_part_plain w (by kernel_rfl) (cpc_at k 44 (by omega))) (run_part_plain w (by kernel_rfl) (cpc_at k' 44 (by omega))) ((Cmp.int Tryz.underlying22).iff n64_inj) ?_
    refine CmpF.cons (by decide) (run_part_plain w (by kernel_rfl) (cpc_at k 45 (by omega))) (run_part_plain w (by kernel_rfl) (cpc_at k' 45 (by omega))) ((Cmp.int Tryz.underlying22).iff n64_inj) ?_
    refine CmpF.cons (by decide) (run_part_plain w (by kernel_rfl) (cpc_at k 46 (by omega))) (run_part_plain w (by kernel_rfl) (cpc_at k' 46 (by omega))) ((Cmp.int Tryz.underlying22).iff n64_inj) ?_
    refine CmpF.cons (by decide) (part_agg Tryz.underlying27 rfl (by kernel_rfl)) (part_agg Tryz.underlying27 rfl (by kernel_rfl)) (by rw [cpc_ps, cpc_ps]; exact cmp_pmp w d _ _ _ _) ?_
    refine CmpF.cons (by decide) (part_agg Tryz.underlying29 rfl (by kernel_rfl)) (part_agg Tryz.underlying29 rfl (by kernel_rfl)) (by rw [cpc_rs3, cpc_rs3]; exact cmp_res w (d + 1) _ _ _ _ _ _) ?_
    exact CmpF.nil
  · constructor
    · rintro ⟨h0, hx, hm, hw, s0, s1, s2, s3, s4, s5, s6, s7, s8, s9, s10, s11, ⟨hc, ha, _⟩, ⟨r0, r1, r2, _⟩, _⟩
      refine Alk.cells ⟨h0, hx, hm, hw, fun j hj => ?_, hc, ha, r0, r1, r2⟩
      match j, hj with
      | 0, _ => exact s0
      | 1, _ => exact s1
      | 2, _ => exact s2
      | 3, _ => exact s3
      | 4, _ => exact s4
      | 5, _ => exact s5
      | 6, _ => exact s6
      | 7, _ => exact s7
      | 8, _ => exact s8
      | 9, _ => exact s9
      | 10, _ => exact s10
      | 11, _ => exact s11
      | j + 12, hj => exact absurd hj (by omega)
    · intro h
      have h := Alk.of h
      exact ⟨h.pc, h.x, h.md, h.wt, h.s 0 (by omega), h.s 1 (by omega), h.s 2 (by omega), h.s 3 (by omega), h.s 4 (by omega), h.s 5 (by omega), h.s 6 (by omega), h.s 7 (by omega), h.s 8 (by omega), h.s 9 (by omega), h.s 10 (by omega), h.s 11 (by omega), ⟨h.c, h.a, trivial⟩, ⟨h.rv, h.ra, h.rs, trivial⟩, trivial⟩
theorem eq_cpu (w : World) (k : Cp) : (Op.equalIn 10000 31 (.agg (cpc k)) (.agg (cpc k))).run Tryz.prog w = .ok true w := by
  obtain ⟨r, hr, h⟩ := cmp_cpu w 9996 k k
  rw [hr, h.2 rfl]
end Go.Proofs.YtlhgphokfpnfeaaGreatDoor
namespace Go.Proofs.YtlhgphokfpnfeaaGreatDoor
set_option linter.unusedVariables false
open Go.ChangeShapes Go.WideShapes Go.ChangeAt Go.RowKit Go.Deep
theorem cpc_x0 (k : Cp) : (cpc k).setIfInBounds 1 (.int .u64 0) = cpc { k with x := upd k.x 0 0#64 } := cpc_x k 0 (by omega) 0#64
theorem cpc_s0 (k : Cp) (v : BitVec 64) : (cpc k).setIfInBounds 35 (.int .u64 (n64 v)) = cpc { k with s := upd k.s 0 v } := cpc_s k 0 (by omega) v
theorem cpc_s1 (k : Cp) (v : BitVec 64) : (cpc k).setIfInBounds 36 (.int .u64 (n64 v)) = cpc { k with s := upd k.s 1 v } := cpc_s k 1 (by omega) v
theorem cpc_s2 (k : Cp) (v : BitVec 64) : (cpc k).setIfInBounds 37 (.int .u64 (n64 v)) = cpc { k with s := upd k.s 2 v } := cpc_s k 2 (by omega) v
theorem cpc_s3 (k : Cp) (v : BitVec 64) : (cpc k).setIfInBounds 38 (.int .u64 (n64 v)) = cpc { k with s := upd k.s 3 v } := cpc_s k 3 (by omega) v
theorem cpc_s4 (k : Cp) (v : BitVec 64) : (cpc k).setIfInBounds 39 (.int .u64 (n64 v)) = cpc { k with s := upd k.s 4 v } := cpc_s k 4 (by omega) v
theorem cpc_s5 (k : Cp) (v : BitVec 64) : (cpc k).setIfInBounds 40 (.int .u64 (n64 v)) = cpc { k with s := upd k.s 5 v } := cpc_s k 5 (by omega) v
theorem cpc_s7 (k : Cp) (v : BitVec 64) : (cpc k).setIfInBounds 42 (.int .u64 (n64 v)) = cpc { k with s := upd k.s 7 v } := cpc_s k 7 (by omega) v
theorem Row.pmp {w : World} {g : Nat} {k : Cp} {t : TypeId} (h : Row w g (cpc k) t) : ∀ j v, (pc k.c k.a)[j]? = some v → w.cell? ⟨g, 47 + j, none⟩ = some v := fun j v hv => by
  have := h.cpu.pmp j v hv
  rwa [Nat.zero_add] at this
theorem Row.cls {w : World} {g : Nat} {k : Cp} {t : TypeId} (h : Row w g (cpc k) t) : Cls w g k := h.cpu.cls
/-- A world under a letter, with a row that it holds. -/
theorem go_on1 {motive : World → Prop} {w a : World} {g B n : Nat} {cs : Array Value} {t : TypeId} (h1 : Row w g cs t) (h2 : Below B a w) (hs : w.heap.size = n)
    (h : ∀ W, Row W g cs t → Below B a W → W.heap.size = n → motive W) : motive w := h w h1 h2 hs
theorem go_on2 {motive : World → Prop} {w a : World} {g g' B n : Nat} {cs cs' : Array Value} {t t' : TypeId} (h1 : Row w g cs t) (h1' : Row w g' cs' t') (h2 : Below B a w) (hs : w.heap.size = n)
    (h : ∀ W, Row W g cs t → Row W g' cs' t' → Below B a W → W.heap.size = n → motive W) : motive w := h w h1 h1' h2 hs
theorem row_cast {w : World} {g : Nat} {cs cs' : Array Value} {t : TypeId} (h : Row w g cs t) (e : cs = cs') : Row w g cs' t := e ▸ h
theorem Row.nores {w : World} {g : Nat} {k : Cp} {t : TypeId} (h : Row w g (cpc k) t) : Row (((w.setCell ⟨g, 79, none⟩ (.bool false)).setCell ⟨g, 80, none⟩ (.int .u64 0)).setCell ⟨g, 81, none⟩ (.int .i64 0)) g (cpc { k with rv := false, ra := 0#64, rs := 0 }) t := by
  have R9 := ((h.put (i := 79) (.bool false)).put (i := 80) (.int .u64 (n64 0#64))).put (i := 81) (.int .i64 0)
  rw [cpc_rv, cpc_ra, cpc_rs] at R9
  exact R9
/-- A struct stored into the middle of a block. -/
theorem wpList_store_part {P : Program} {ops : Array Oper} {rest : List Oper} {o : Oper} {a : Act} {w : World} {Q : Exit → Act → World → Prop} (hgd : o.guard = none) (t : TypeId) (x y : Operand) (ho : o.op = .store t x y) (hd : o.dst = none)
    (g off : Nat) (c' : Array Value) (hx : a.eval x = .pointer (some ⟨g, off, none⟩)) (hy : a.eval y = .agg c') (ht : w.there g off c'.size) (hi : (P.info? t).map (·.size) = some c'.size) (h1 : c'.all (·.oneCell') = true)
    (h : wpList P ops Q rest a (w.setCells g off c'.toList)) : wpList P ops Q (o :: rest) a w :=
  wpList_plain hgd fun _ hK => by
    unfold Oper.wp execOp
    simp only [ho, hx, hy, Instr.storeAt, Instr.sureAddr, Sem.run_bind, Sem.run_pure, Result.andThen_ok, run_storeVar_mid w g off t c' ht hi h1]
    simpa [Oper.upon, Act.put, hd] using hK _ _ h
/-- The Cpu that is nothing. -/
def cz : Cp := ⟨0#64, fun _ => 0#64, 0, false, fun _ => 0#64, fun _ => 0#8, fun _ => 0#64, false, 0#64, 0⟩
theorem zero_cpu (w : World) : (zeroValue 31).run Tryz.prog w = .ok (.agg (cpc cz)) w := by kernel_rfl
theorem info_cpu (k : Cp) : (Tryz.prog.info? 31).map (·.size) = some (cpc k).size := by rw [cpc_size]; kernel_rfl
theorem info_pmp (c : Nat → BitVec 8) (a : Nat → BitVec 64) : (Tryz.prog.info? 27).map (·.size) = some (pc c a).size := by rw [pc_size]; kernel_rfl
end Go.Proofs.YtlhgphokfpnfeaaGreatDoor
namespace Go.Proofs.YtlhgphokfpnfeaaGreatDoor
set_option linter.unusedVariables false
open Go.ChangeShapes Go.WideShapes Go.ChangeAt Go.RowKit Go.Deep
/-- Is MPP 1 or 2? -/
abbrev mq (v : BitVec 64) : Prop := v >>> 11 &&& 3#64 = 1#64 ∨ v >>> 11 &&& 3#64 = 2#64
/-- mstatus such as can be. -/
def stB (v : BitVec 64) : BitVec 64 := (if mq (v &&& 2234504#64) then v &&& 2234504#64 &&& ~~~6144#64 else v &&& 2234504#64) ||| 8589934592#64
/-- The registers such as can be. -/
def prS (s : Nat → BitVec 64) : Nat → BitVec 64
  | 0 => stB (s 0)
  | 1 => s 1 &&& ~~~2#64
  | 2 => s 2 &&& 2184#64
  | 3 => s 3 &&& 7#64
  | 4 => s 4 &&& 5#64
  | 5 => s 5 &&& 1#64
  | 7 => s 7 &&& ~~~1#64
  | j => s j
/-- A reservation that can be. -/
def rok (v : Bool) (a : BitVec 64) (s : Int) : Bool := v && (s == 4 && a % 4#64 == 0#64 || s == 8 && a % 8#64 == 0#64)
/-- The Cpu that is proper. -/
def PR (k : Cp) : Cp := { pc := k.pc &&& ~~~1#64, x := upd k.x 0 0#64, md := if k.md = 3 then 3 else 0, wt := k.wt, s := prS k.s, c := PC k.c, a := PA k.a, rv := rok k.rv k.ra k.rs, ra := if rok k.rv k.ra k.rs then k.ra else 0#64, rs := if rok k.rv k.ra k.rs then k.rs else 0 }
theorem n64_mod (a b : BitVec 64) : n64 a % n64 b = n64 (a % b) := by
  unfold n64; rw [BitVec.toNat_umod]; omega
theorem rok_t (v : Bool) (a : BitVec 64) (s : Int) : rok v a s = (v && (s == 4 && (n64 a).tmod 4 == 0 || s == 8 && (n64 a).tmod 8 == 0)) := by
  have h4 : (a % 4#64 == 0#64) = ((n64 a).tmod 4 == 0) := by
    rw [Int.tmod_eq_emod_of_nonneg (n64_lo a), Bool.eq_iff_iff, beq_iff_eq, beq_iff_eq]
    exact (n64_inj (x := a % 4#64) (y := 0#64)).symm.trans (by rw [← n64_mod]; exact Iff.rfl)
  have h8 : (a % 8#64 == 0#64) = ((n64 a).tmod 8 == 0) := by
    rw [Int.tmod_eq_emod_of_nonneg (n64_lo a), Bool.eq_iff_iff, beq_iff_eq, beq_iff_eq]
    exact (n64_inj (x := a % 8#64) (y := 0#64)).symm.trans (by rw [← n64_mod]; exact Iff.rfl)
  unfold rok; rw [h4, h8]
end Go.Proofs.YtlhgphokfpnfeaaGreatDoor
namespace Go.Proofs.YtlhgphokfpnfeaaGreatDoor
set_option linter.unusedVariables false
open Go.ChangeShapes Go.WideShapes Go.ChangeAt Go.RowKit Go.Deep
theorem mask6144 (v : BitVec 64) : (v &&& 2234504#64) >>> 11 &&& 3#64 = v >>> 11 &&& 3#64 := by
  rw [BitVec.ushiftRight_and_distrib, BitVec.and_assoc, show ((2234504#64) >>> 11 &&& 3#64 : BitVec 64) = 3#64 by decide]
theorem four {z : BitVec 64} (h : z.toNat ≤ 3) : z = 0#64 ∨ z = 1#64 ∨ z = 2#64 ∨ z = 3#64 := by
  have : z.toNat = 0 ∨ z.toNat = 1 ∨ z.toNat = 2 ∨ z.toNat = 3 := by omega
  rcases this with e | e | e | e
  · exact Or.inl (BitVec.eq_of_toNat_eq e)
  · exact Or.inr (Or.inl (BitVec.eq_of_toNat_eq e))
  · exact Or.inr (Or.inr (Or.inl (BitVec.eq_of_toNat_eq e)))
  · exact Or.inr (Or.inr (Or.inr (BitVec.eq_of_toNat_eq e)))
theorem and3_le (v : BitVec 64) : (v &&& 3#64).toNat ≤ 3 := by rw [BitVec.toNat_and]; exact Nat.le_trans Nat.and_le_right (by decide)
theorem mq_mask (v : BitVec 64) : mq (v &&& 2234504#64) ↔ mq v := by unfold mq; rw [mask6144]
/-- Does MPP name a mode? -/
def nm (v : BitVec 64) : Bool := decide (¬ mq v)
/-- MPP. -/
def bfB (v : BitVec 64) : BitVec 64 := v >>> 11 &&& 3#64
theorem bf_alt (v : BitVec 64) : (v &&& 6144#64) >>> 11 = bfB v := by
  unfold bfB
  rw [BitVec.ushiftRight_and_distrib, show ((6144#64) >>> 11 : BitVec 64) = 3#64 by decide]
theorem bf_le (v : BitVec 64) : n64 (bfB v) ≤ 3 := by
  have h := and3_le (v >>> 11)
  unfold bfB n64; omega
theorem nm_alt (v : BitVec 64) : nm v = (n64 (bfB v) == 0 || n64 (bfB v) == 3) := by
  unfold nm mq bfB
  rcases four (and3_le (v >>> 11)) with e | e | e | e <;> rw [e] <;> decide
set_option maxRecDepth 100000 in
theorem before_c (v : BitVec 64) (w : World) : Calls Tryz.prog 86 #[.int .u64 (n64 v)] w fun e w' => e = .returned (.int .i64 (n64 (bfB v))) ∧ w' = w := by
  have b0 : bits .and .u64 (n64 v) 6144 = n64 (v &&& 6144#64) := n64_and v 6144#64
  have b1 : n64 (v &&& 6144#64) / (2048 : Int) = n64 ((v &&& 6144#64) >>> 11) := n64_shr _ 11
  rw [bf_alt] at b1
  have hlo := n64_lo (bfB v)
  have hhi := bf_le v
  generalize n64 (bfB v) = z at b1 hlo hhi ⊢
  generalize n64 (v &&& 6144#64) = y at b0 b1
  go_enter Tryz.func86, Tryz.ntmps86
  go_wp2
  go_ret
  exact ⟨by rfl, rfl⟩
set_option maxRecDepth 100000 in
theorem namesMode_c (v : BitVec 64) (w : World) : Calls Tryz.prog 84 #[.int .u64 (n64 v)] w fun e w' => e = .returned (.bool (nm v)) ∧ w' = w := by
  have HB : Hid (∀ W, Calls Tryz.prog 86 #[.int .u64 (n64 v)] W fun e w' => e = .returned (.int .i64 (n64 (bfB v))) ∧ w' = W) := before_c v
  rw [nm_alt]
  generalize n64 (bfB v) = z at HB ⊢
  by_cases h0 : z = 0
  · subst h0
    go_enter Tryz.func84, Tryz.ntmps84
    go_wp2_with (go_at_call 86; refine (HB.out _).mono ?_; rintro e w1 ⟨rfl, hw1⟩; subst hw1)
    go_ret
    exact ⟨rfl, rfl⟩
  · have e0 : (z == 0) = false := by simp [h0]
    rw [e0, Bool.false_or]
    go_enter Tryz.func84, Tryz.ntmps84
    go_wp2_with (go_at_call 86; refine (HB.out _).mono ?_; rintro e w1 ⟨rfl, hw1⟩; subst hw1)
    go_ret
    exact ⟨by rfl, rfl⟩
end Go.Proofs.YtlhgphokfpnfeaaGreatDoor
namespace Go.Proofs.YtlhgphokfpnfeaaGreatDoor
set_option linter.unusedVariables false
open Go.ChangeShapes Go.WideShapes Go.ChangeAt Go.RowKit Go.Deep
theorem stB_alt (v : BitVec 64) : stB v = (if mq v then v &&& ~~~6144#64 else v) &&& 2234504#64 ||| 8589934592#64 := by
  unfold stB
  by_cases h : mq v
  · rw [if_pos ((mq_mask v).2 h), if_pos h, BitVec.and_assoc, BitVec.and_comm (2234504#64), ← BitVec.and_assoc]
  · rw [if_neg (fun q => h ((mq_mask v).1 q)), if_neg h]
set_option maxRecDepth 100000 in
theorem properStatus_c (v : BitVec 64) (w : World) : Calls Tryz.prog 66 #[.int .u64 (n64 v)] w fun e w' => e = .returned (.int .u64 (n64 (stB v))) ∧ w' = w := by
  have HN : Hid (∀ W, Calls Tryz.prog 84 #[.int .u64 (n64 v)] W fun e w' => e = .returned (.bool (nm v)) ∧ w' = W) := namesMode_c v
  rw [stB_alt]
  by_cases h : mq v
  · rw [if_pos h]
    rw [show nm v = false by simp [nm, h]] at HN
    have b0 : bits .andNot .u64 (n64 v) 6144 = n64 (v &&& ~~~6144#64) := n64_andNot v 6144#64
    have b1 : bits .and .u64 (n64 (v &&& ~~~6144#64)) 2234504 = n64 (v &&& ~~~6144#64 &&& 2234504#64) := n64_and _ 2234504#64
    have b2 : bits .or .u64 (n64 (v &&& ~~~6144#64 &&& 2234504#64)) 8589934592 = n64 (v &&& ~~~6144#64 &&& 2234504#64 ||| 8589934592#64) := n64_or _ 8589934592#64
    clear h
    generalize v &&& ~~~6144#64 &&& 2234504#64 ||| 8589934592#64 = r2 at b2 ⊢
    generalize v &&& ~~~6144#64 &&& 2234504#64 = r1 at b1 b2
    generalize v &&& ~~~6144#64 = r0 at b0 b1
    go_enter Tryz.func66, Tryz.ntmps66
    go_wp2_with (go_at_call 84; refine (HN.out _).mono ?_; rintro e w1 ⟨rfl, hw1⟩; subst hw1)
    go_ret
    exact ⟨rfl, rfl⟩
  · rw [if_neg h]
    rw [show nm v = true by simp [nm, h]] at HN
    have b1 : bits .and .u64 (n64 v) 2234504 = n64 (v &&& 2234504#64) := n64_and _ 2234504#64
    have b2 : bits .or .u64 (n64 (v &&& 2234504#64)) 8589934592 = n64 (v &&& 2234504#64 ||| 8589934592#64) := n64_or _ 8589934592#64
    clear h
    generalize v &&& 2234504#64 ||| 8589934592#64 = r2 at b2 ⊢
    generalize v &&& 2234504#64 = r1 at b1 b2
    go_enter Tryz.func66, Tryz.ntmps66
    go_wp2_with (go_at_call 84; refine (HN.out _).mono ?_; rintro e w1 ⟨rfl, hw1⟩; subst hw1)
    go_ret
    exact ⟨rfl, rfl⟩
/-- The cells of a reservation. -/
def rsc (v : Bool) (a : BitVec 64) (s : Int) : Array Value := #[.bool v, .int .u64 (n64 a), .int .i64 s]
set_option maxRecDepth 100000 in
set_option maxHeartbeats 1000000 in
theorem reserves_c (v : Bool) (a : BitVec 64) (s : Int) (w : World) : Calls Tryz.prog 68 #[.agg (rsc v a s)] w fun e w' => e = .returned (.bool (rok v a s)) ∧ Below w.heap.size w w' := by
  rw [rok_t]
  unfold rsc
  have hlo := n64_lo a
  cases v with
  | false =>
    go_enter Tryz.func68, Tryz.ntmps68
    go_wp2
    go_ret
    exact ⟨rfl, (Below.refl _ _).alloc (Nat.le_refl _) _⟩
  | true =>
    by_cases h4 : s = 4
    · subst h4
      have e : (true && ((4 : Int) == 4 && (n64 a).tmod 4 == 0 || (4 : Int) == 8 && (n64 a).tmod 8 == 0)) = ((n64 a).tmod 4 == 0) := by simp
      rw [e]
      clear e
      generalize n64 a = z at *
      go_enter Tryz.func68, Tryz.ntmps68
      go_wp2
      go_ret
      exact ⟨by rw [Int.tmod_eq_emod_of_nonneg hlo]; rfl, (Below.refl _ _).alloc (Nat.le_refl _) _⟩
    · by_cases h8 : s = 8
      · subst h8
        have e : (true && ((8 : Int) == 4 && (n64 a).tmod 4 == 0 || (8 : Int) == 8 && (n64 a).tmod 8 == 0)) = ((n64 a).tmod 8 == 0) := by simp
        rw [e]
        clear e h4
        generalize n64 a = z at *
        go_enter Tryz.func68, Tryz.ntmps68
        go_wp2
        go_ret
        exact ⟨by rw [Int.tmod_eq_emod_of_nonneg hlo]; rfl, (Below.refl _ _).alloc (Nat.le_refl _) _⟩
      · have f4 : (s == 4) = false := by simp [h4]
        have f8 : (s == 8) = false := by simp [h8]
        rw [show (true && (s == 4 && (n64 a).tmod 4 == 0 || s == 8 && (n64 a).tmod 8 == 0)) = false by simp [f4, f8]]
        clear h4 h8
        go_enter Tryz.func68, Tryz.ntmps68
        go_wp2
        go_ret
        exact ⟨rfl, (Below.refl _ _).alloc (Nat.le_refl _) _⟩
theorem Row.res {w : World} {g : Nat} {k : Cp} {t : TypeId} (h : Row w g (cpc k) t) : ∀ j v, (rsc k.rv k.ra k.rs)[j]? = some v → w.cell? ⟨g, 79 + j, none⟩ = some v := fun j v hv => by
  match j, hv with
  | 0, hv => rw [h.cls.rv]; simpa [rsc] using hv
  | 1, hv => rw [h.cls.ra]; simpa [rsc] using hv
  | 2, hv => rw [h.cls.rs]; simpa [rsc] using hv
  | j + 3, hv => simp [rsc] at hv
theorem info_res (v : Bool) (a : BitVec 64) (s : Int) : (Tryz.prog.info? 29).map (·.size) = some (rsc v a s).size := by kernel_rfl
theorem rsc_ones (v : Bool) (a : BitVec 64) (s : Int) : (rsc v a s).all (·.oneCell') = true := by simp [rsc, Value.oneCell']
set_option maxRecDepth 100000 in
set_option maxHeartbeats 2000000 in
theorem Pr_c (k : Cp) (w : World) : Calls Tryz.prog 45 #[.agg (cpc k)] w fun e w' => e = .returned (.agg (cpc (PR k))) ∧ Below w.heap.size w w' := by
  have hz := zero_cpu
  obtain ⟨W0, hW0, r0, r1, b0, s0⟩ := start2 w (cpc k) (cpc cz) 31 31
  have HS : Hid (W0.heap.size = w.heap.size + 2) := s0
  have K := r0.out.cls
  have f0 := r0.out.froz
  have B0 : bits .and .u64 (n64 k.pc) 18446744073709551614 = n64 (k.pc &&& ~~~1#64) := n64_and _ (~~~1#64)
  have B1 : bits .and .u64 (n64 (k.s 1)) 18446744073709551613 = n64 (k.s 1 &&& ~~~2#64) := n64_and _ (~~~2#64)
  have B2 : bits .and .u64 (n64 (k.s 2)) 2184 = n64 (k.s 2 &&& 2184#64) := n64_and _ 2184#64
  have B3 : bits .and .u64 (n64 (k.s 3)) 7 = n64 (k.s 3 &&& 7#64) := n64_and _ 7#64
  have B4 : bits .and .u64 (n64 (k.s 4)) 5 = n64 (k.s 4 &&& 5#64) := n64_and _ 5#64
  have B5 : bits .and .u64 (n64 (k.s 5)) 1 = n64 (k.s 5 &&& 1#64) := n64_and _ 1#64
  have B7 : bits .and .u64 (n64 (k.s 7)) 18446744073709551614 = n64 (k.s 7 &&& ~~~1#64) := n64_and _ (~~~1#64)
  have KS : Hid (∀ W, Calls Tryz.prog 66 #[.int .u64 (n64 (k.s 0))] W fun e w' => e = .returned (.int .u64 (n64 (stB (k.s 0)))) ∧ w' = W) := fun W => properStatus_c _ W
  have KP : Hid (∀ W, Calls Tryz.prog 67 #[.agg (pc k.c k.a)] W fun e w' => e = .returned (.agg (pc (PC k.c) (PA k.a))) ∧ Below W.heap.size W w') := fun W => Proper_c k.c k.a W
  obtain ⟨v0, hv0⟩ : ∃ v0, k.pc &&& ~~~1#64 = v0 := ⟨_, rfl⟩
  obtain ⟨v1, hv1⟩ : ∃ v1, k.s 1 &&& ~~~2#64 = v1 := ⟨_, rfl⟩
  obtain ⟨v2, hv2⟩ : ∃ v2, k.s 2 &&& 2184#64 = v2 := ⟨_, rfl⟩
  obtain ⟨v3, hv3⟩ : ∃ v3, k.s 3 &&& 7#64 = v3 := ⟨_, rfl⟩
  obtain ⟨v4, hv4⟩ : ∃ v4, k.s 4 &&& 5#64 = v4 := ⟨_, rfl⟩
  obtain ⟨v5, hv5⟩ : ∃ v5, k.s 5 &&& 1#64 = v5 := ⟨_, rfl⟩
  obtain ⟨v7, hv7⟩ : ∃ v7, k.s 7 &&& ~~~1#64 = v7 := ⟨_, rfl⟩
  obtain ⟨vs, hvs⟩ : ∃ vs, stB (k.s 0) = vs := ⟨_, rfl⟩
  rw [hv0] at B0; rw [hv1] at B1; rw [hv2] at B2; rw [hv3] at B3; rw [hv4] at B4; rw [hv5] at B5; rw [hv7] at B7; rw [hvs] at KS
  obtain ⟨K0, Kx, Km, Kw, K1, K2, K3, K4, K5, K6, K7, K8, K9, K10, K11, K12, Kv, Ka, Ks⟩ := K
  obtain ⟨m, hm⟩ : ∃ m : Int, m = if k.md = 3 then 3 else 0 := ⟨_, rfl⟩
  have HF : Hid (PR k = { pc := v0, x := upd k.x 0 0#64, md := m, wt := k.wt, s := prS k.s, c := PC k.c, a := PA k.a, rv := rok k.rv k.ra k.rs, ra := if rok k.rv k.ra k.rs then k.ra else 0#64, rs := if rok k.rv k.ra k.rs then k.rs else 0 }) := by
    rw [hm, ← hv0]; rfl
  have HV : Hid (∀ j, j < 12 → upd (upd (upd (upd (upd (upd (upd k.s 0 vs) 1 v1) 2 v2) 3 v3) 4 v4) 5 v5) 7 v7 j = prS k.s j) := fun j hj => by
    subst hv1 hv2 hv3 hv4 hv5 hv7 hvs
    match j, hj with
    | 0, _ => rfl
    | 1, _ => rfl
    | 2, _ => rfl
    | 3, _ => rfl
    | 4, _ => rfl
    | 5, _ => rfl
    | 6, _ => rfl
    | 7, _ => rfl
    | 8, _ => rfl
    | 9, _ => rfl
    | 10, _ => rfl
    | 11, _ => rfl
    | j + 12, h => exact absurd h (by omega)
  clear s0 hv0 hv1 hv2 hv3 hv4 hv5 hv7 hvs
  go_enter Tryz.func45, Tryz.ntmps45
  go_upto_region 1 with fail
  clear hz
  clear hW0
  have KR : Hid (∀ W, Calls Tryz.prog 68 #[.agg (rsc k.rv k.ra k.rs)] W fun e w' => e = .returned (.bool (rok k.rv k.ra k.rs)) ∧ Below W.heap.size W w') := fun W => reserves_c _ _ _ W
  obtain ⟨ok, hok⟩ : ∃ b, rok k.rv k.ra k.rs = b := ⟨_, rfl⟩
  have HOK : Hid (rok k.rv k.ra k.rs = ok) := hok
  rw [hok] at KR
  clear hok
  by_cases h3 : k.md = 3
  · rw [if_pos h3] at hm; have HM : Hid (m = k.md) := hm.trans h3.symm; clear hm; have h3b : (k.md != 3) = false := by simp [h3]
    clear h3
    go_upto_region 12 with (go_at_call 66; refine (KS.out _).mono ?_; rintro e w1 ⟨rfl, hw1⟩; subst hw1)
    have R0 := (((((((((r0.out.put (i := 0) (.int .u64 (n64 v0))).put (i := 1) (.int .u64 0)).put (i := 35) (.int .u64 (n64 vs))).put (i := 36) (.int .u64 (n64 v1))).put (i := 37) (.int .u64 (n64 v2))).put (i := 38) (.int .u64 (n64 v3))).put (i := 39) (.int .u64 (n64 v4))).put (i := 40) (.int .u64 (n64 v5))).put (i := 42) (.int .u64 (n64 v7)))
    rw [cpc_pc, cpc_x0, cpc_s0, cpc_s1, cpc_s2, cpc_s3, cpc_s4, cpc_s5, cpc_s7] at R0
    refine go_on2 (motive := fun W => Code.wp _ _ _ _ W) (a := w) (B := w.heap.size) (n := w.heap.size + 2) (row_cast R0 (show _ = cpc { k with pc := v0, x := upd k.x 0 0#64, md := m, s := upd (upd (upd (upd (upd (upd (upd k.s 0 vs) 1 v1) 2 v2) 3 v3) 4 v4) 5 v5) 7 v7 } by rw [HM.out])) (Row.other (Row.other (Row.other (Row.other (Row.other (Row.other (Row.other (Row.other (Row.other r1.out (by omega) _) (by omega) _) (by omega) _) (by omega) _) (by omega) _) (by omega) _) (by omega) _) (by omega) _) (by omega) _) (below_put (below_put (below_put (below_put (below_put (below_put (below_put (below_put (below_put b0.out (Nat.le_refl _) _) (Nat.le_refl _) _) (Nat.le_refl _) _) (Nat.le_refl _) _) (Nat.le_refl _) _) (Nat.le_refl _) _) (Nat.le_refl _) _) (Nat.le_refl _) _) (Nat.le_refl _) _) (by simp; exact HS.out) ?_
    clear R0 HM h3b r0 r1 b0 HS f0 K0 Kx Km Kw K1 K2 K3 K4 K5 K6 K7 K8 K9 K10 K11 K12 Kv Ka Ks B0 B1 B2 B3 B4 B5 B7 KS
    intro W1 r0 r1 b0 s0
    have R0 : Hid (Row W1 w.heap.size (cpc { k with pc := v0, x := upd k.x 0 0#64, md := m, s := upd (upd (upd (upd (upd (upd (upd k.s 0 vs) 1 v1) 2 v2) 3 v3) 4 v4) 5 v5) 7 v7 }) 31) := r0
    have R1 : Hid (Row W1 (w.heap.size + 1) (cpc cz) 31) := r1
    have S0 : Hid (W1.heap.size = w.heap.size + 2) := s0
    have BB : Hid (Below w.heap.size w W1) := b0
    clear r0 r1 b0 s0
    go_upto_region 13 with (first | (refine wpList_load_agg (by rfl) 27 _ (by rfl) w.heap.size 47 (by rfl) (pc k.c k.a) _ R0.out.pmp Tryz.underlying27 (by rfl) (info_pmp _ _) ?_) | (go_at_call 67; refine (KP.out _).mono ?_; rintro e w2 ⟨rfl, hb2⟩; have HB2 : Hid (Below W1.heap.size W1 w2) := hb2; clear hb2) | (refine wpList_store_part (by rfl) 27 _ _ (by rfl) (by rfl) w.heap.size 47 (pc (PC k.c) (PA k.a)) (by rfl) (by rfl) ((R0.out.later HB2.out (by rw [S0.out]; omega)).there (by rw [cpc_size, pc_size]; omega)) (info_pmp _ _) (pc_ones _ _) ?_))
    refine go_on2 (motive := fun W => Code.wp _ _ _ _ W) (a := w) (B := w.heap.size) (n := w2.heap.size) (row_cast ((R0.out.later HB2.out (by rw [S0.out]; omega)).lay (pc (PC k.c) (PA k.a)).toList 47) (show _ = cpc { pc := v0, x := upd k.x 0 0#64, md := m, wt := k.wt, s := upd (upd (upd (upd (upd (upd (upd k.s 0 vs) 1 v1) 2 v2) 3 v3) 4 v4) 5 v5) 7 v7, c := PC k.c, a := PA k.a, rv := k.rv, ra := k.ra, rs := k.rs } from cpc_pmp _ _ _)) (Row.lays (by omega) _ _ (R1.out.later HB2.out (by rw [S0.out]; omega))) (below_lay (Nat.le_refl _) _ _ (BB.out.trans (HB2.out.mono (by rw [S0.out]; omega)))) (size_lay _ _ _ _) ?_
    have SS : Hid (w.heap.size + 2 ≤ w2.heap.size) := by have := HB2.out.size; rw [S0.out] at this; exact this
    clear R0 R1 S0 BB HB2 KP
    intro W3 r0 r1 b0 s0
    have R0 : Hid (Row W3 w.heap.size (cpc { pc := v0, x := upd k.x 0 0#64, md := m, wt := k.wt, s := upd (upd (upd (upd (upd (upd (upd k.s 0 vs) 1 v1) 2 v2) 3 v3) 4 v4) 5 v5) 7 v7, c := PC k.c, a := PA k.a, rv := k.rv, ra := k.ra, rs := k.rs }) 31) := r0
    have R1 : Hid (Row W3 (w.heap.size + 1) (cpc cz) 31) := r1
    have S0 : Hid (w.heap.size + 2 ≤ W3.heap.size) := by show _ ≤ _; rw [s0]; exact SS.out
    have BB : Hid (Below w.heap.size w W3) := b0
    clear r0 r1 b0 s0 SS
    cases ok with
    | true =>
      have HE : Hid (cpc { pc := v0, x := upd k.x 0 0#64, md := m, wt := k.wt, s := upd (upd (upd (upd (upd (upd (upd k.s 0 vs) 1 v1) 2 v2) 3 v3) 4 v4) 5 v5) 7 v7, c := PC k.c, a := PA k.a, rv := k.rv, ra := k.ra, rs := k.rs } = cpc (PR k)) := by (have hk := HOK.out; rw [HF.out, if_pos hk, if_pos hk, hk]; exact Alk.cells ⟨rfl, fun _ _ => rfl, rfl, rfl, HV.out, fun _ _ => rfl, fun _ _ => rfl, by (show k.rv = true; rw [rok_t] at hk; clear R0 R1 S0 BB HF HV HOK; simp_all), rfl, rfl⟩)
      go_upto_region 15 with (first | (refine wpList_load_agg (by rfl) 29 _ (by rfl) w.heap.size 79 (by rfl) (rsc k.rv k.ra k.rs) _ R0.out.res Tryz.underlying29 (by rfl) (info_res _ _ _) ?_) | (go_at_call 68; refine (KR.out _).mono ?_; rintro e w4 ⟨rfl, hb2⟩; have HB4 : Hid (Below W3.heap.size W3 w4) := hb2; clear hb2))
      refine go_on2 (motive := fun W => Code.wp _ _ _ _ W) (a := w) (B := w.heap.size) (n := w4.heap.size) (row_cast (R0.out.later HB4.out R0.out.lt) HE.out) (R1.out.later HB4.out R1.out.lt) (BB.out.trans (HB4.out.mono BB.out.size)) rfl ?_
      clear R0 R1 S0 BB HB4 HE HF HV KR HOK
      intro W5 r0 r1 b0 s0
      have R0 : Hid (Row W5 w.heap.size (cpc (PR k)) 31) := r0
      have R1 : Hid (Row W5 (w.heap.size + 1) (cpc cz) 31) := r1
      have BB : Hid (Below w.heap.size w W5) := b0
      clear r0 r1 b0 s0
      go_wp2_with (first | (refine wpList_load_row (by rfl) _ _ (by rfl) _ (by rfl) 31 _ (0, 0) _ R0.out Tryz.underlying31 (by rfl) (info_cpu _) ?_) | (refine wpList_store_row (by rfl) _ _ _ (by rfl) (by rfl) _ _ _ (by rfl) (by rfl) R1.out (info_cpu _) (by rw [cpc_size, cpc_size]) (cpc_ones _) ?_))
      refine bodyPost_ret (v := .agg (cpc (PR k))) ?_ rfl ⟨rfl, ?_⟩
      · exact results_cell_row Tryz.results45 _ _ (w.heap.size + 1) 31 _ (0, 0) _ (by rfl) (setRow_heap _ _ _ _ _ _ R1.out) Tryz.underlying31 (by rfl) (info_cpu _)
      · exact below_row BB.out (by omega) _
    | false =>
      have HE : Hid (cpc { ({ pc := v0, x := upd k.x 0 0#64, md := m, wt := k.wt, s := upd (upd (upd (upd (upd (upd (upd k.s 0 vs) 1 v1) 2 v2) 3 v3) 4 v4) 5 v5) 7 v7, c := PC k.c, a := PA k.a, rv := k.rv, ra := k.ra, rs := k.rs } : Cp) with rv := false, ra := 0#64, rs := 0 } = cpc (PR k)) := by (have hk := HOK.out; rw [HF.out, if_neg (by rw [hk]; decide), if_neg (by rw [hk]; decide), hk]; exact Alk.cells ⟨rfl, fun _ _ => rfl, rfl, rfl, HV.out, fun _ _ => rfl, fun _ _ => rfl, rfl, rfl, rfl⟩)
      go_upto_region 15 with (first | (refine wpList_load_agg (by rfl) 29 _ (by rfl) w.heap.size 79 (by rfl) (rsc k.rv k.ra k.rs) _ R0.out.res Tryz.underlying29 (by rfl) (info_res _ _ _) ?_) | (go_at_call 68; refine (KR.out _).mono ?_; rintro e w4 ⟨rfl, hb2⟩; have HB4 : Hid (Below W3.heap.size W3 w4) := hb2; clear hb2) | (refine wpList_store_part (by rfl) 29 _ _ (by rfl) (by rfl) w.heap.size 79 (rsc false 0#64 0) (by rfl) (by rfl) ((R0.out.later HB4.out R0.out.lt).there (by rw [cpc_size]; decide)) (info_res _ _ _) (rsc_ones _ _ _) ?_))
      refine go_on2 (motive := fun W => Code.wp _ _ _ _ W) (a := w) (B := w.heap.size) (n := w4.heap.size) (row_cast ((R0.out.later HB4.out R0.out.lt).lay (rsc false 0#64 0).toList 79) ((cpc_res _ _ _ _).trans HE.out)) (Row.lays (by omega) _ _ (R1.out.later HB4.out R1.out.lt)) (below_lay (Nat.le_refl _) _ _ (BB.out.trans (HB4.out.mono BB.out.size))) (size_lay _ _ _ _) ?_
      clear R0 R1 S0 BB HB4 HE HF HV KR HOK
      intro W5 r0 r1 b0 s0
      have R0 : Hid (Row W5 w.heap.size (cpc (PR k)) 31) := r0
      have R1 : Hid (Row W5 (w.heap.size + 1) (cpc cz) 31) := r1
      have BB : Hid (Below w.heap.size w W5) := b0
      clear r0 r1 b0 s0
      go_wp2_with (first | (refine wpList_load_row (by rfl) _ _ (by rfl) _ (by rfl) 31 _ (0, 0) _ R0.out Tryz.underlying31 (by rfl) (info_cpu _) ?_) | (refine wpList_store_row (by rfl) _ _ _ (by rfl) (by rfl) _ _ _ (by rfl) (by rfl) R1.out (info_cpu _) (by rw [cpc_size, cpc_size]) (cpc_ones _) ?_))
      refine bodyPost_ret (v := .agg (cpc (PR k))) ?_ rfl ⟨rfl, ?_⟩
      · exact results_cell_row Tryz.results45 _ _ (w.heap.size + 1) 31 _ (0, 0) _ (by rfl) (setRow_heap _ _ _ _ _ _ R1.out) Tryz.underlying31 (by rfl) (info_cpu _)
      · exact below_row BB.out (by omega) _
  · rw [if_neg h3] at hm; have HM : Hid (m = 0) := hm; clear hm; have h3b : (k.md != 3) = true := by simp [h3]
    clear h3
    go_upto_region 12 with (go_at_call 66; refine (KS.out _).mono ?_; rintro e w1 ⟨rfl, hw1⟩; subst hw1)
    have R0 := ((((((((((r0.out.put (i := 0) (.int .u64 (n64 v0))).put (i := 1) (.int .u64 0)).put (i := 33) (.int .i64 0)).put (i := 35) (.int .u64 (n64 vs))).put (i := 36) (.int .u64 (n64 v1))).put (i := 37) (.int .u64 (n64 v2))).put (i := 38) (.int .u64 (n64 v3))).put (i := 39) (.int .u64 (n64 v4))).put (i := 40) (.int .u64 (n64 v5))).put (i := 42) (.int .u64 (n64 v7)))
    rw [cpc_pc, cpc_x0, cpc_md, cpc_s0, cpc_s1, cpc_s2, cpc_s3, cpc_s4, cpc_s5, cpc_s7] at R0
    refine go_on2 (motive := fun W => Code.wp _ _ _ _ W) (a := w) (B := w.heap.size) (n := w.heap.size + 2) (row_cast R0 (show _ = cpc { k with pc := v0, x := upd k.x 0 0#64, md := m, s := upd (upd (upd (upd (upd (upd (upd k.s 0 vs) 1 v1) 2 v2) 3 v3) 4 v4) 5 v5) 7 v7 } by rw [HM.out])) (Row.other (Row.other (Row.other (Row.other (Row.other (Row.other (Row.other (Row.other (Row.other (Row.other r1.out (by omega) _) (by omega) _) (by omega) _) (by omega) _) (by omega) _) (by omega) _) (by omega) _) (by omega) _) (by omega) _) (by omega) _) (below_put (below_put (below_put (below_put (below_put (below_put (below_put (below_put (below_put (below_put b0.out (Nat.le_refl _) _) (Nat.le_refl _) _) (Nat.le_refl _) _) (Nat.le_refl _) _) (Nat.le_refl _) _) (Nat.le_refl _) _) (Nat.le_refl _) _) (Nat.le_refl _) _) (Nat.le_refl _) _) (Nat.le_refl _) _) (by simp; exact HS.out) ?_
    clear R0 HM h3b r0 r1 b0 HS f0 K0 Kx Km Kw K1 K2 K3 K4 K5 K6 K7 K8 K9 K10 K11 K12 Kv Ka Ks B0 B1 B2 B3 B4 B5 B7 KS
    intro W1 r0 r1 b0 s0
    have R0 : Hid (Row W1 w.heap.size (cpc { k with pc := v0, x := upd k.x 0 0#64, md := m, s := upd (upd (upd (upd (upd (upd (upd k.s 0 vs) 1 v1) 2 v2) 3 v3) 4 v4) 5 v5) 7 v7 }) 31) := r0
    have R1 : Hid (Row W1 (w.heap.size + 1) (cpc cz) 31) := r1
    have S0 : Hid (W1.heap.size = w.heap.size + 2) := s0
    have BB : Hid (Below w.heap.size w W1) := b0
    clear r0 r1 b0 s0
    go_upto_region 13 with (first | (refine wpList_load_agg (by rfl) 27 _ (by rfl) w.heap.size 47 (by rfl) (pc k.c k.a) _ R0.out.pmp Tryz.underlying27 (by rfl) (info_pmp _ _) ?_) | (go_at_call 67; refine (KP.out _).mono ?_; rintro e w2 ⟨rfl, hb2⟩; have HB2 : Hid (Below W1.heap.size W1 w2) := hb2; clear hb2) | (refine wpList_store_part (by rfl) 27 _ _ (by rfl) (by rfl) w.heap.size 47 (pc (PC k.c) (PA k.a)) (by rfl) (by rfl) ((R0.out.later HB2.out (by rw [S0.out]; omega)).there (by rw [cpc_size, pc_size]; omega)) (info_pmp _ _) (pc_ones _ _) ?_))
    refine go_on2 (motive := fun W => Code.wp _ _ _ _ W) (a := w) (B := w.heap.size) (n := w2.heap.size) (row_cast ((R0.out.later HB2.out (by rw [S0.out]; omega)).lay (pc (PC k.c) (PA k.a)).toList 47) (show _ = cpc { pc := v0, x := upd k.x 0 0#64, md := m, wt := k.wt, s := upd (upd (upd (upd (upd (upd (upd k.s 0 vs) 1 v1) 2 v2) 3 v3) 4 v4) 5 v5) 7 v7, c := PC k.c, a := PA k.a, rv := k.rv, ra := k.ra, rs := k.rs } from cpc_pmp _ _ _)) (Row.lays (by omega) _ _ (R1.out.later HB2.out (by rw [S0.out]; omega))) (below_lay (Nat.le_refl _) _ _ (BB.out.trans (HB2.out.mono (by rw [S0.out]; omega)))) (size_lay _ _ _ _) ?_
    have SS : Hid (w.heap.size + 2 ≤ w2.heap.size) := by have := HB2.out.size; rw [S0.out] at this; exact this
    clear R0 R1 S0 BB HB2 KP
    intro W3 r0 r1 b0 s0
    have R0 : Hid (Row W3 w.heap.size (cpc { pc := v0, x := upd k.x 0 0#64, md := m, wt := k.wt, s := upd (upd (upd (upd (upd (upd (upd k.s 0 vs) 1 v1) 2 v2) 3 v3) 4 v4) 5 v5) 7 v7, c := PC k.c, a := PA k.a, rv := k.rv, ra := k.ra, rs := k.rs }) 31) := r0
    have R1 : Hid (Row W3 (w.heap.size + 1) (cpc cz) 31) := r1
    have S0 : Hid (w.heap.size + 2 ≤ W3.heap.size) := by show _ ≤ _; rw [s0]; exact SS.out
    have BB : Hid (Below w.heap.size w W3) := b0
    clear r0 r1 b0 s0 SS
    cases ok with
    | true =>
      have HE : Hid (cpc { pc := v0, x := upd k.x 0 0#64, md := m, wt := k.wt, s := upd (upd (upd (upd (upd (upd (upd k.s 0 vs) 1 v1) 2 v2) 3 v3) 4 v4) 5 v5) 7 v7, c := PC k.c, a := PA k.a, rv := k.rv, ra := k.ra, rs := k.rs } = cpc (PR k)) := by (have hk := HOK.out; rw [HF.out, if_pos hk, if_pos hk, hk]; exact Alk.cells ⟨rfl, fun _ _ => rfl, rfl, rfl, HV.out, fun _ _ => rfl, fun _ _ => rfl, by (show k.rv = true; rw [rok_t] at hk; clear R0 R1 S0 BB HF HV HOK; simp_all), rfl, rfl⟩)
      go_upto_region 15 with (first | (refine wpList_load_agg (by rfl) 29 _ (by rfl) w.heap.size 79 (by rfl) (rsc k.rv k.ra k.rs) _ R0.out.res Tryz.underlying29 (by rfl) (info_res _ _ _) ?_) | (go_at_call 68; refine (KR.out _).mono ?_; rintro e w4 ⟨rfl, hb2⟩; have HB4 : Hid (Below W3.heap.size W3 w4) := hb2; clear hb2))
      refine go_on2 (motive := fun W => Code.wp _ _ _ _ W) (a := w) (B := w.heap.size) (n := w4.heap.size) (row_cast (R0.out.later HB4.out R0.out.lt) HE.out) (R1.out.later HB4.out R1.out.lt) (BB.out.trans (HB4.out.mono BB.out.size)) rfl ?_
      clear R0 R1 S0 BB HB4 HE HF HV KR HOK
      intro W5 r0 r1 b0 s0
      have R0 : Hid (Row W5 w.heap.size (cpc (PR k)) 31) := r0
      have R1 : Hid (Row W5 (w.heap.size + 1) (cpc cz) 31) := r1
      have BB : Hid (Below w.heap.size w W5) := b0
      clear r0 r1 b0 s0
      go_wp2_with (first | (refine wpList_load_row (by rfl) _ _ (by rfl) _ (by rfl) 31 _ (0, 0) _ R0.out Tryz.underlying31 (by rfl) (info_cpu _) ?_) | (refine wpList_store_row (by rfl) _ _ _ (by rfl) (by rfl) _ _ _ (by rfl) (by rfl) R1.out (info_cpu _) (by rw [cpc_size, cpc_size]) (cpc_ones _) ?_))
      refine bodyPost_ret (v := .agg (cpc (PR k))) ?_ rfl ⟨rfl, ?_⟩
      · exact results_cell_row Tryz.results45 _ _ (w.heap.size + 1) 31 _ (0, 0) _ (by rfl) (setRow_heap _ _ _ _ _ _ R1.out) Tryz.underlying31 (by rfl) (info_cpu _)
      · exact below_row BB.out (by omega) _
    | false =>
      have HE : Hid (cpc { ({ pc := v0, x := upd k.x 0 0#64, md := m, wt := k.wt, s := upd (upd (upd (upd (upd (upd (upd k.s 0 vs) 1 v1) 2 v2) 3 v3) 4 v4) 5 v5) 7 v7, c := PC k.c, a := PA k.a, rv := k.rv, ra := k.ra, rs := k.rs } : Cp) with rv := false, ra := 0#64, rs := 0 } = cpc (PR k)) := by (have hk := HOK.out; rw [HF.out, if_neg (by rw [hk]; decide), if_neg (by rw [hk]; decide), hk]; exact Alk.cells ⟨rfl, fun _ _ => rfl, rfl, rfl, HV.out, fun _ _ => rfl, fun _ _ => rfl, rfl, rfl, rfl⟩)
      go_upto_region 15 with (first | (refine wpList_load_agg (by rfl) 29 _ (by rfl) w.heap.size 79 (by rfl) (rsc k.rv k.ra k.rs) _ R0.out.res Tryz.underlying29 (by rfl) (info_res _ _ _) ?_) | (go_at_call 68; refine (KR.out _).mono ?_; rintro e w4 ⟨rfl, hb2⟩; have HB4 : Hid (Below W3.heap.size W3 w4) := hb2; clear hb2) | (refine wpList_store_part (by rfl) 29 _ _ (by rfl) (by rfl) w.heap.size 79 (rsc false 0#64 0) (by rfl) (by rfl) ((R0.out.later HB4.out R0.out.lt).there (by rw [cpc_size]; decide)) (info_res _ _ _) (rsc_ones _ _ _) ?_))
      refine go_on2 (motive := fun W => Code.wp _ _ _ _ W) (a := w) (B := w.heap.size) (n := w4.heap.size) (row_cast ((R0.out.later HB4.out R0.out.lt).lay (rsc false 0#64 0).toList 79) ((cpc_res _ _ _ _).trans HE.out)) (Row.lays (by omega) _ _ (R1.out.later HB4.out R1.out.lt)) (below_lay (Nat.le_refl _) _ _ (BB.out.trans (HB4.out.mono BB.out.size))) (size_lay _ _ _ _) ?_
      clear R0 R1 S0 BB HB4 HE HF HV KR HOK
      intro W5 r0 r1 b0 s0
      have R0 : Hid (Row W5 w.heap.size (cpc (PR k)) 31) := r0
      have R1 : Hid (Row W5 (w.heap.size + 1) (cpc cz) 31) := r1
      have BB : Hid (Below w.heap.size w W5) := b0
      clear r0 r1 b0 s0
      go_wp2_with (first | (refine wpList_load_row (by rfl) _ _ (by rfl) _ (by rfl) 31 _ (0, 0) _ R0.out Tryz.underlying31 (by rfl) (info_cpu _) ?_) | (refine wpList_store_row (by rfl) _ _ _ (by rfl) (by rfl) _ _ _ (by rfl) (by rfl) R1.out (info_cpu _) (by rw [cpc_size, cpc_size]) (cpc_ones _) ?_))
      refine bodyPost_ret (v := .agg (cpc (PR k))) ?_ rfl ⟨rfl, ?_⟩
      · exact results_cell_row Tryz.results45 _ _ (w.heap.size + 1) 31 _ (0, 0) _ (by rfl) (setRow_heap _ _ _ _ _ _ R1.out) Tryz.underlying31 (by rfl) (info_cpu _)
      · exact below_row BB.out (by omega) _
end Go.Proofs.YtlhgphokfpnfeaaGreatDoor
namespace Go.Proofs.YtlhgphokfpnfeaaGreatDoor
set_option linter.unusedVariables false
set_option maxRecDepth 100000
open Go.ChangeShapes Go.WideShapes Go.ChangeAt Go.RowKit Go.Deep
section
variable {H : Type} {enc : TypeId × Value → H} {w : World} {base : Nat} {held : Bool}
theorem take1 {cs : List Value} {o : Nat} {v : Value} (h : (cs.drop o).take 1 = [v]) : cs[o]? = some v := by
  have h2 : ((cs.drop o).take 1)[0]? = some v := by rw [h]; rfl
  simpa using h2
theorem open_ints {k : IntKind} {t e : TypeId} {fuel m : Nat} {cs : List Value} {y : DataW H × List MemPlace} (ht : Tryz.prog.underlying t = some (.array m e)) (he : Tryz.prog.underlying e = some (.int k)) (hce : Tryz.prog.cellsOf e = 1)
    (h : DataW.trod enc Tryz.prog w base (fun _ => true) held fuel t cs = some y) : ∀ j, j < m → ∃ n, cs[j]? = some (.int k n) ∧ (Lit.int k n).wf = true := by
  obtain ⟨xs, m', _, _, _, hxl, hx⟩ := DataW.trod_array ht h
  intro j hj
  have h1 := hx j hj
  obtain ⟨q, hq⟩ : ∃ q, xs[j]? = some q := ⟨_, List.getElem?_eq_getElem (by omega)⟩
  rw [hq, hce, Nat.mul_one] at h1
  obtain ⟨n, e0, _, hw⟩ := DataW.trod_int he h1
  refine ⟨n, ?_, hw⟩
  have h2 : ((cs.drop j).take 1)[0]? = some (.int k n) := by rw [e0]; rfl
  simpa using h2
theorem cells_cpu : Tryz.prog.cellsOf 31 = 82 := by kernel_rfl
set_option maxRecDepth 10000 in
set_option maxHeartbeats 1000000 in
theorem open_cpu {fuel : Nat} {cs : List Value} {y : DataW H × List MemPlace} (h : DataW.trod enc Tryz.prog w base (fun _ => true) held fuel 31 cs = some y) : ∃ k : Cp, cs = (cpc k).toList := by
  obtain ⟨xs, n, _, rfl, hl, hlen, hf⟩ := DataW.trod_struct Tryz.underlying31 h
  rw [cells_cpu] at hl
  have cI : Tryz.prog.cellsOf 3 = 1 := by kernel_rfl
  have cB : Tryz.prog.cellsOf 4 = 1 := by kernel_rfl
  have cU : Tryz.prog.cellsOf 22 = 1 := by kernel_rfl
  have cX : Tryz.prog.cellsOf 23 = 32 := by kernel_rfl
  have cP : Tryz.prog.cellsOf 27 = 32 := by kernel_rfl
  have cR : Tryz.prog.cellsOf 29 = 3 := by kernel_rfl
  match xs, (show xs.length = 18 from hlen), hf with
  | [y0, y1, y2, y3, y4, y5, y6, y7, y8, y9, y10, y11, y12, y13, y14, y15, y16, y17], _, hf =>
    have g0 : DataW.trod enc Tryz.prog w base (fun _ => true) held n 22 ((cs.drop 0).take 1) = some y0 := by
      have := hf 0 _ rfl
      have this : DataW.trod enc Tryz.prog w base (fun _ => true) held n 22 ((cs.drop 0).take (Tryz.prog.cellsOf 22)) = some y0 := this
      rwa [cU] at this
    obtain ⟨z0, e0, _, w0⟩ := DataW.trod_int Tryz.underlying22 g0
    obtain ⟨v0, rfl⟩ := n64_of w0
    replace e0 := take1 e0
    have g1 : DataW.trod enc Tryz.prog w base (fun _ => true) held n 23 ((cs.drop 1).take 32) = some y1 := by
      have := hf 1 _ rfl
      have this : DataW.trod enc Tryz.prog w base (fun _ => true) held n 23 ((cs.drop 1).take (Tryz.prog.cellsOf 23)) = some y1 := this
      rwa [cX] at this
    have g2 : DataW.trod enc Tryz.prog w base (fun _ => true) held n 3 ((cs.drop 33).take 1) = some y2 := by
      have := hf 2 _ rfl
      have this : DataW.trod enc Tryz.prog w base (fun _ => true) held n 3 ((cs.drop 33).take (Tryz.prog.cellsOf 3)) = some y2 := this
      rwa [cI] at this
    obtain ⟨v2, e2, _, w2⟩ := DataW.trod_int Tryz.underlying3 g2
    replace e2 := take1 e2
    have g3 : DataW.trod enc Tryz.prog w base (fun _ => true) held n 4 ((cs.drop 34).take 1) = some y3 := by
      have := hf 3 _ rfl
      have this : DataW.trod enc Tryz.prog w base (fun _ => true) held n 4 ((cs.drop 34).take (Tryz.prog.cellsOf 4)) = some y3 := this
      rwa [cB] at this
    obtain ⟨v3, e3, _⟩ := DataW.trod_bool Tryz.underlying4 g3
    replace e3 := take1 e3
    have g4 : DataW.trod enc Tryz.prog w base (fun _ => true) held n 22 ((cs.drop 35).take 1) = some y4 := by
      have := hf 4 _ rfl
      have this : DataW.trod enc Tryz.prog w base (fun _ => true) held n 22 ((cs.drop 35).take (Tryz.prog.cellsOf 22)) = some y4 := this
      rwa [cU] at this
    obtain ⟨z4, e4, _, w4⟩ := DataW.trod_int Tryz.underlying22 g4
    obtain ⟨v4, rfl⟩ := n64_of w4
    replace e4 := take1 e4
    have g5 : DataW.trod enc Tryz.prog w base (fun _ => true) held n 22 ((cs.drop 36).take 1) = some y5 := by
      have := hf 5 _ rfl
      have this : DataW.trod enc Tryz.prog w base (fun _ => true) held n 22 ((cs.drop 36).take (Tryz.prog.cellsOf 22)) = some y5 := this
      rwa [cU] at this
    obtain ⟨z5, e5, _, w5⟩ := DataW.trod_int Tryz.underlying22 g5
    obtain ⟨v5, rfl⟩ := n64_of w5
    replace e5 := take1 e5
    have g6 : DataW.trod enc Tryz.prog w base (fun _ => true) held n 22 ((cs.drop 37).take 1) = some y6 := by
      have := hf 6 _ rfl
      have this : DataW.trod enc Tryz.prog w base (fun _ => true) held n 22 ((cs.drop 37).take (Tryz.prog.cellsOf 22)) = some y6 := this
      rwa [cU] at this
    obtain ⟨z6, e6, _, w6⟩ := DataW.trod_int Tryz.underlying22 g6
    obtain ⟨v6, rfl⟩ := n64_of w6
    replace e6 := take1 e6
    have g7 : DataW.trod enc Tryz.prog w base (fun _ => true) held n 22 ((cs.drop 38).take 1) = some y7 := by
      have := hf 7 _ rfl
      have this : DataW.trod enc Tryz.prog w base (fun _ => true) held n 22 ((cs.drop 38).take (Tryz.prog.cellsOf 22)) = some y7 := this
      rwa [cU] at this
    obtain ⟨z7, e7, _, w7⟩ := DataW.trod_int Tryz.underlying22 g7
    obtain ⟨v7, rfl⟩ := n64_of w7
    replace e7 := take1 e7
    have g8 : DataW.trod enc Tryz.prog w base (fun _ => true) held n 22 ((cs.drop 39).take 1) = some y8 := by
      have := hf 8 _ rfl
      have this : DataW.trod enc Tryz.prog w base (fun _ => true) held n 22 ((cs.drop 39).take (Tryz.prog.cellsOf 22)) = some y8 := this
      rwa [cU] at this
    obtain ⟨z8, e8, _, w8⟩ := DataW.trod_int Tryz.underlying22 g8
    obtain ⟨v8, rfl⟩ := n64_of w8
    replace e8 := take1 e8
    have g9 : DataW.trod enc Tryz.prog w base (fun _ => true) held n 22 ((cs.drop 40).take 1) = some y9 := by
      have := hf 9 _ rfl
      have this : DataW.trod enc Tryz.prog w base (fun _ => true) held n 22 ((cs.drop 40).take (Tryz.prog.cellsOf 22)) = some y9 := this
      rwa [cU] at this
    obtain ⟨z9, e9, _, w9⟩ := DataW.trod_int Tryz.underlying22 g9
    obtain ⟨v9, rfl⟩ := n64_of w9
    replace e9 := take1 e9
    have g10 : DataW.trod enc Tryz.prog w base (fun _ => true) held n 22 ((cs.drop 41).take 1) = some y10 := by
      have := hf 10 _ rfl
      have this : DataW.trod enc Tryz.prog w base (fun _ => true) held n 22 ((cs.drop 41).take (Tryz.prog.cellsOf 22)) = some y10 := this
      rwa [cU] at this
    obtain ⟨z10, e10, _, w10⟩ := DataW.trod_int Tryz.underlying22 g10
    obtain ⟨v10, rfl⟩ := n64_of w10
    replace e10 := take1 e10
    have g11 : DataW.trod enc Tryz.prog w base (fun _ => true) held n 22 ((cs.drop 42).take 1) = some y11 := by
      have := hf 11 _ rfl
      have this : DataW.trod enc Tryz.prog w base (fun _ => true) held n 22 ((cs.drop 42).take (Tryz.prog.cellsOf 22)) = some y11 := this
      rwa [cU] at this
    obtain ⟨z11, e11, _, w11⟩ := DataW.trod_int Tryz.underlying22 g11
    obtain ⟨v11, rfl⟩ := n64_of w11
    replace e11 := take1 e11
    have g12 : DataW.trod enc Tryz.prog w base (fun _ => true) held n 22 ((cs.drop 43).take 1) = some y12 := by
      have := hf 12 _ rfl
      have this : DataW.trod enc Tryz.prog w base (fun _ => true) held n 22 ((cs.drop 43).take (Tryz.prog.cellsOf 22)) = some y12 := this
      rwa [cU] at this
    obtain ⟨z12, e12, _, w12⟩ := DataW.trod_int Tryz.underlying22 g12
    obtain ⟨v12, rfl⟩ := n64_of w12
    replace e12 := take1 e12
    have g13 : DataW.trod enc Tryz.prog w base (fun _ => true) held n 22 ((cs.drop 44).take 1) = some y13 := by
      have := hf 13 _ rfl
      have this : DataW.trod enc Tryz.prog w base (fun _ => true) held n 22 ((cs.drop 44).take (Tryz.prog.cellsOf 22)) = some y13 := this
      rwa [cU] at this
    obtain ⟨z13, e13, _, w13⟩ := DataW.trod_int Tryz.underlying22 g13
    obtain ⟨v13, rfl⟩ := n64_of w13
    replace e13 := take1 e13
    have g14 : DataW.trod enc Tryz.prog w base (fun _ => true) held n 22 ((cs.drop 45).take 1) = some y14 := by
      have := hf 14 _ rfl
      have this : DataW.trod enc Tryz.prog w base (fun _ => true) held n 22 ((cs.drop 45).take (Tryz.prog.cellsOf 22)) = some y14 := this
      rwa [cU] at this
    obtain ⟨z14, e14, _, w14⟩ := DataW.trod_int Tryz.underlying22 g14
    obtain ⟨v14, rfl⟩ := n64_of w14
    replace e14 := take1 e14
    have g15 : DataW.trod enc Tryz.prog w base (fun _ => true) held n 22 ((cs.drop 46).take 1) = some y15 := by
      have := hf 15 _ rfl
      have this : DataW.trod enc Tryz.prog w base (fun _ => true) held n 22 ((cs.drop 46).take (Tryz.prog.cellsOf 22)) = some y15 := this
      rwa [cU] at this
    obtain ⟨z15, e15, _, w15⟩ := DataW.trod_int Tryz.underlying22 g15
    obtain ⟨v15, rfl⟩ := n64_of w15
    replace e15 := take1 e15
    have g16 : DataW.trod enc Tryz.prog w base (fun _ => true) held n 27 ((cs.drop 47).take 32) = some y16 := by
      have := hf 16 _ rfl
      have this : DataW.trod enc Tryz.prog w base (fun _ => true) held n 27 ((cs.drop 47).take (Tryz.prog.cellsOf 27)) = some y16 := this
      rwa [cP] at this
    have g17 : DataW.trod enc Tryz.prog w base (fun _ => true) held n 29 ((cs.drop 79).take 3) = some y17 := by
      have := hf 17 _ rfl
      have this : DataW.trod enc Tryz.prog w base (fun _ => true) held n 29 ((cs.drop 79).take (Tryz.prog.cellsOf 29)) = some y17 := this
      rwa [cR] at this
    have oX := open_ints Tryz.underlying23 Tryz.underlying22 cU g1
    have pX : ∀ j, ∃ x : BitVec 64, j < 32 → cs[1 + j]? = some (.int .u64 (n64 x)) := fun j => by
      by_cases hj : j < 32
      · obtain ⟨z, hz, hw⟩ := oX j hj
        obtain ⟨x, rfl⟩ := n64_of hw
        exact ⟨x, fun _ => by rw [List.getElem?_take_of_lt hj, List.getElem?_drop] at hz; exact hz⟩
      · exact ⟨0#64, fun h => absurd h hj⟩
    obtain ⟨c, a, eP⟩ := open_pmp g16
    have pP : ∀ j, j < 32 → cs[47 + j]? = some (pcell c a j) := fun j hj => by
      have h2 : ((cs.drop 47).take 32)[j]? = some (pcell c a j) := by rw [eP, Array.getElem?_toList, pc_at _ _ _ hj]
      rw [List.getElem?_take_of_lt hj, List.getElem?_drop] at h2; exact h2
    obtain ⟨zs, n', _, en, hl17, hlen17, hf17⟩ := DataW.trod_struct Tryz.underlying29 g17
    match zs, (show zs.length = 3 from hlen17), hf17 with
    | [z0, z1, z2], _, hf17 =>
      have h0 : DataW.trod enc Tryz.prog w base (fun _ => true) held n' 4 (((cs.drop 79).take 3).drop 0 |>.take 1) = some z0 := by
        have := hf17 0 _ rfl
        have this : DataW.trod enc Tryz.prog w base (fun _ => true) held n' 4 (((cs.drop 79).take 3).drop 0 |>.take (Tryz.prog.cellsOf 4)) = some z0 := this
        rwa [cB] at this
      have h1 : DataW.trod enc Tryz.prog w base (fun _ => true) held n' 22 (((cs.drop 79).take 3).drop 1 |>.take 1) = some z1 := by
        have := hf17 1 _ rfl
        have this : DataW.trod enc Tryz.prog w base (fun _ => true) held n' 22 (((cs.drop 79).take 3).drop 1 |>.take (Tryz.prog.cellsOf 22)) = some z1 := this
        rwa [cU] at this
      have h2 : DataW.trod enc Tryz.prog w base (fun _ => true) held n' 3 (((cs.drop 79).take 3).drop 2 |>.take 1) = some z2 := by
        have := hf17 2 _ rfl
        have this : DataW.trod enc Tryz.prog w base (fun _ => true) held n' 3 (((cs.drop 79).take 3).drop 2 |>.take (Tryz.prog.cellsOf 3)) = some z2 := this
        rwa [cI] at this
      obtain ⟨rv, f0, _⟩ := DataW.trod_bool Tryz.underlying4 h0
      obtain ⟨i1, f1, _, u1⟩ := DataW.trod_int Tryz.underlying22 h1
      obtain ⟨ra, rfl⟩ := n64_of u1
      obtain ⟨rs, f2, _, _⟩ := DataW.trod_int Tryz.underlying3 h2
      replace f0 := take1 f0
      replace f1 := take1 f1
      replace f2 := take1 f2
      rw [List.getElem?_take_of_lt (by omega), List.getElem?_drop] at f0 f1 f2
      refine ⟨⟨v0, fun j => (pX j).choose, v2, v3, fun j => match j with | 0 => v4 | 1 => v5 | 2 => v6 | 3 => v7 | 4 => v8 | 5 => v9 | 6 => v10 | 7 => v11 | 8 => v12 | 9 => v13 | 10 => v14 | _ => v15, c, a, rv, ra, rs⟩, ?_⟩
      apply List.ext_getElem?
      intro j
      rw [Array.getElem?_toList (xs := cpc _)]
      by_cases hj : j < 82
      · rw [cpc_at _ _ hj]
        unfold cpcell
        split
        · rename_i h; subst h; exact e0
        split
        · rename_i h h'
          exact (congrArg (fun q => cs[q]?) (show j = 1 + (j - 1) by omega)).trans ((pX (j - 1)).choose_spec (by omega))
        split
        · rename_i h; subst h; exact e2
        split
        · rename_i h; subst h; exact e3
        split
        · rename_i h1 h2 h3 h4 h5
          have hs : ∀ i, i < 12 → cs[35 + i]? = some (.int .u64 (n64 (match i with | 0 => v4 | 1 => v5 | 2 => v6 | 3 => v7 | 4 => v8 | 5 => v9 | 6 => v10 | 7 => v11 | 8 => v12 | 9 => v13 | 10 => v14 | _ => v15))) := fun i hi => by
            match i, hi with
            | 0, _ => exact e4
            | 1, _ => exact e5
            | 2, _ => exact e6
            | 3, _ => exact e7
            | 4, _ => exact e8
            | 5, _ => exact e9
            | 6, _ => exact e10
            | 7, _ => exact e11
            | 8, _ => exact e12
            | 9, _ => exact e13
            | 10, _ => exact e14
            | 11, _ => exact e15
            | i + 12, h => exact absurd h (by omega)
          have := hs (j - 35) (by omega)
          rwa [show 35 + (j - 35) = j by omega] at this
        split
        · have := pP (j - 47) (by omega)
          rwa [show 47 + (j - 47) = j by omega] at this
        split
        · rename_i h; subst h; exact f0
        split
        · rename_i h; subst h; exact f1
        · have : j = 81 := by omega
          subst this; exact f2
      · rw [List.getElem?_eq_none (by omega), Array.getElem?_eq_none (by rw [cpc_size]; omega)]
end
end Go.Proofs.YtlhgphokfpnfeaaGreatDoor
