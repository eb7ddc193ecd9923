import Derived.Test.YtddlmenfcbjoaaaGreatDoorK12
import Derived.Deep.MidRow
import Derived.Deep.Cut
namespace Go.Proofs.YtddlmenfcbjoaaaGreatDoor
set_option linter.unusedVariables false
set_option maxRecDepth 100000
set_option maxHeartbeats 8000000
open Go.ChangeShapes Go.WideShapes Go.ChangeAt Go.RowKit Go.Deep _root_.Go.Proofs.Tryz
structure Cp where
 pc : BitVec 64
 x : Nat → BitVec 64
 md : Int
 wt : Bool
 s : Nat → BitVec 64
 c : Nat → BitVec 8
 a : Nat → BitVec 64
 rv : Bool
 ra : BitVec 64
 rs : Int
def cF (k : Cp) (j : Nat) : Value :=
 if j = 0 then .int .u64 (n64 k.pc) else if j < 33 then .int .u64 (n64 (k.x (j - 1))) else if j = 33 then .int .i64 k.md else if j = 34 then .bool k.wt else if j < 47 then .int .u64 (n64 (k.s (j - 35)))
 else if j < 79 then eF k.c k.a (j - 47) else if j = 79 then .bool k.rv else if j = 80 then .int .u64 (n64 k.ra) else .int .i64 k.rs
def cpc (k : Cp) : Array Value := Array.ofFn (n := 82) fun j => cF k j.val
theorem aE (k : Cp) : (cpc k).size = 82 := by simp [cpc]
theorem bG (k : Cp) (j : Nat) (h : j < 82) : (cpc k)[j]? = some (cF k j) := by simp [cpc, h]
theorem sS (c : Nat → BitVec 8) (a : Nat → BitVec 64) (j : Nat) : (eF c a j).oneCell' = true := by unfold eF; split <;> rfl
theorem xN (k : Cp) (j : Nat) : (cF k j).oneCell' = true := by
 unfold cF
 repeat' split
 all_goals first | rfl | exact sS _ _ _
theorem aO (k : Cp) : (cpc k).all (·.oneCell') = true := by
 rw [Array.all_eq_true]; intro i hi; simp [cpc]; exact xN _ _
theorem CM {k k' : Cp} (h : ∀ j, j < 82 → cF k j = cF k' j) : cpc k = cpc k' := by
 apply Array.ext_getElem?
 intro j
 by_cases hj : j < 82
 ·rw [bG _ _ hj, bG _ _ hj, h j hj]
 ·simp [cpc, hj]
theorem fA {k k' : Cp} (h : cpc k = cpc k') (j : Nat) (hj : j < 82) : cF k j = cF k' j := by
 have := congrArg (fun z : Array Value => z[j]?) h
 simp only [bG _ _ hj] at this
 exact ZqF this
theorem nH (k : Cp) : cF k 0 = .int .u64 (n64 k.pc) := rfl
theorem fV (k : Cp) (i : Nat) (h : i < 32) : cF k (1 + i) = .int .u64 (n64 (k.x i)) := by
 unfold cF; rw [if_neg (by omega), if_pos (by omega), Nat.add_sub_cancel_left]
theorem mR (k : Cp) (i : Nat) (h : i < 12) : cF k (35 + i) = .int .u64 (n64 (k.s i)) := by
 unfold cF; rw [if_neg (by omega), if_neg (by omega), if_neg (by omega), if_neg (by omega), if_pos (by omega), Nat.add_sub_cancel_left]
theorem gP (k : Cp) (i : Nat) (h : i < 32) : cF k (47 + i) = eF k.c k.a i := by
 unfold cF; rw [if_neg (by omega), if_neg (by omega), if_neg (by omega), if_neg (by omega), if_neg (by omega), if_pos (by omega), Nat.add_sub_cancel_left]
structure Alk (k k' : Cp) : Prop where
 pc : k.pc = k'.pc
 x : ∀ j, j < 32 → k.x j = k'.x j
 md : k.md = k'.md
 wt : k.wt = k'.wt
 s : ∀ j, j < 12 → k.s j = k'.s j
 c : ∀ j, j < 16 → k.c j = k'.c j
 a : ∀ j, j < 16 → k.a j = k'.a j
 rv : k.rv = k'.rv
 ra : k.ra = k'.ra
 rs : k.rs = k'.rs
theorem Alk.cells {k k' : Cp} (h : Alk k k') : cpc k = cpc k' := by
 refine CM fun j hj => ?_
 unfold cF
 split
 ·rw [h.pc]
 split
 ·rw [h.x _ (by omega)]
 split
 ·rw [h.md]
 split
 ·rw [h.wt]
 split
 ·rw [h.s _ (by omega)]
 split
 ·unfold eF
  split
  ·rw [h.c _ (by omega)]
  ·rw [h.a _ (by omega)]
 split
 ·rw [h.rv]
 split
 ·rw [h.ra]
 ·rw [h.rs]
theorem iT {k : IntKind} {a b : Int} (h : Value.int k a = Value.int k b) : a = b := by cases h; rfl
theorem uZ {a b : Bool} (h : Value.bool a = Value.bool b) : a = b := by cases h; rfl
theorem Alk.of {k k' : Cp} (h : cpc k = cpc k') : Alk k k' where
 pc := bV.1 (iT (fA h 0 (by omega)))
 x := fun j hj => by
  have := fA h (1 + j) (by omega)
  rw [fV _ _ hj, fV _ _ hj] at this
  exact bV.1 (iT this)
 md := iT (fA h 33 (by omega))
 wt := uZ (fA h 34 (by omega))
 s := fun j hj => by
  have := fA h (35 + j) (by omega)
  rw [mR _ _ hj, mR _ _ hj] at this
  exact bV.1 (iT this)
 c := fun j hj => by
  have := fA h (47 + j) (by omega)
  rw [gP _ _ (by omega), gP _ _ (by omega), eF, eF, if_pos hj, if_pos hj] at this
  exact qL.1 (iT this)
 a := fun j hj => by
  have := fA h (47 + (16 + j)) (by omega)
  rw [gP _ _ (by omega), gP _ _ (by omega), eF, eF, if_neg (by omega), if_neg (by omega), Nat.add_sub_cancel_left] at this
  exact bV.1 (iT this)
 rv := uZ (fA h 79 (by omega))
 ra := bV.1 (iT (fA h 80 (by omega)))
 rs := iT (fA h 81 (by omega))
theorem iQ {k k' : Cp} {i : Nat} {v : Value} (hi : i < 82) (h1 : cF k' i = v) (h2 : ∀ j, j < 82 → j ≠ i → cF k' j = cF k j) : (cpc k).setIfInBounds i v = cpc k' := by
 apply Array.ext_getElem?
 intro j
 rw [Array.getElem?_setIfInBounds]
 by_cases hj : j < 82
 ·rw [bG _ _ hj, bG _ _ hj, aE]
  by_cases e : i = j
  ·subst e; rw [if_pos rfl, if_pos hi, h1]
  ·rw [if_neg e, h2 j hj (fun q => e q.symm)]
 ·rw [if_neg (by omega), Array.getElem?_eq_none (by rw [aE]; omega), Array.getElem?_eq_none (by rw [aE]; omega)]
theorem kV (k : Cp) (v : BitVec 64) : (cpc k).setIfInBounds 0 (.int .u64 (n64 v)) = cpc { k with pc := v } := by
 refine iQ (by omega) rfl fun j hj hne => ?_
 unfold cF
 repeat' split
 all_goals first | rfl | (exfalso; omega)
theorem xK (k : Cp) (v : Int) : (cpc k).setIfInBounds 33 (.int .i64 v) = cpc { k with md := v } := by
 refine iQ (by omega) rfl fun j hj hne => ?_
 unfold cF
 repeat' split
 all_goals first | rfl | (exfalso; omega)
theorem GG (k : Cp) (v : Bool) : (cpc k).setIfInBounds 34 (.bool v) = cpc { k with wt := v } := by
 refine iQ (by omega) rfl fun j hj hne => ?_
 unfold cF
 repeat' split
 all_goals first | rfl | (exfalso; omega)
theorem FZ (k : Cp) (v : Bool) : (cpc k).setIfInBounds 79 (.bool v) = cpc { k with rv := v } := by
 refine iQ (by omega) rfl fun j hj hne => ?_
 unfold cF
 repeat' split
 all_goals first | rfl | (exfalso; omega)
theorem FX (k : Cp) (v : BitVec 64) : (cpc k).setIfInBounds 80 (.int .u64 (n64 v)) = cpc { k with ra := v } := by
 refine iQ (by omega) rfl fun j hj hne => ?_
 unfold cF
 repeat' split
 all_goals first | rfl | (exfalso; omega)
theorem FY (k : Cp) (v : Int) : (cpc k).setIfInBounds 81 (.int .i64 v) = cpc { k with rs := v } := by
 refine iQ (by omega) rfl fun j hj hne => ?_
 unfold cF
 repeat' split
 all_goals first | rfl | (exfalso; omega)
theorem pQ (k : Cp) (i : Nat) (h : i < 32) (v : BitVec 64) : (cpc k).setIfInBounds (1 + i) (.int .u64 (n64 v)) = cpc { k with x := upd k.x i v } := by
 refine iQ (by omega) ?_ fun j hj hne => ?_
 ·rw [fV _ _ h]; simp [upd]
 unfold cF
 repeat' split
 all_goals first | rfl | (exfalso; omega) | (simp only [upd]; rw [if_neg (by omega)])
theorem mQ (k : Cp) (i : Nat) (h : i < 12) (v : BitVec 64) : (cpc k).setIfInBounds (35 + i) (.int .u64 (n64 v)) = cpc { k with s := upd k.s i v } := by
 refine iQ (by omega) ?_ fun j hj hne => ?_
 ·rw [mR _ _ h]; simp [upd]
 unfold cF
 repeat' split
 all_goals first | rfl | (exfalso; omega) | (simp only [upd]; rw [if_neg (by omega)])
def gQ (cs : Array Value) (o : Nat) : List Value → Array Value
 | [] => cs
 | v :: r => gQ (cs.setIfInBounds o v) (o + 1) r
theorem IN (o : Nat) : ∀ (l : List Value) (cs : Array Value), (gQ cs o l).size = cs.size := fun l => by
 induction l generalizing o with
 | nil => intro cs; rfl
 | cons v r ih => intro cs; rw [gQ, ih]; simp
theorem lP : ∀ (l : List Value) (o : Nat) (cs : Array Value) (j : Nat), o + l.length ≤ cs.size → (gQ cs o l)[j]? = if o ≤ j ∧ j < o + l.length then l[j - o]? else cs[j]?
 | [], o, cs, j, _ => by rw [gQ, if_neg (by simp)]
 | v :: r, o, cs, j, h => by
  simp only [List.length_cons] at h
  rw [gQ, lP r (o + 1) _ j (by simp; omega)]
  simp only [List.length_cons]
  by_cases h1 : o + 1 ≤ j ∧ j < o + 1 + r.length
  ·rw [if_pos h1, if_pos (by omega), show j - o = (j - (o + 1)) + 1 by omega, List.getElem?_cons_succ]
  ·rw [if_neg h1, Array.getElem?_setIfInBounds]
   by_cases h2 : o = j
   ·subst h2; rw [if_pos rfl, if_pos (by omega), if_pos (by omega), Nat.sub_self]; rfl
   ·rw [if_neg h2, if_neg (by omega)]
theorem Row.lay {g : Nat} {t : TypeId} : ∀ (l : List Value) (o : Nat) {w : World} {cs : Array Value}, Row w g cs t → Row (w.setCells g o l) g (gQ cs o l) t
 | [], _, _, _, h => h
 | v :: r, o, _, _, h => by
  rw [World.setCells, gQ]
  exact Row.lay r (o + 1) (h.put v)
theorem Row.lays {g g' : Nat} {cs : Array Value} {t : TypeId} (hne : g ≠ g') : ∀ (l : List Value) (o : Nat) {w : World}, Row w g cs t → Row (w.setCells g' o l) g cs t
 | [], _, _, h => h
 | v :: r, o, _, h => by
  rw [World.setCells]
  exact Row.lays hne r (o + 1) (h.other hne v)
theorem cZ {B g : Nat} {a : World} (hg : B ≤ g) : ∀ (l : List Value) (o : Nat) {w : World}, Below B a w → Below B a (w.setCells g o l)
 | [], _, _, h => h
 | v :: r, o, _, h => by
  rw [World.setCells]
  exact cZ hg r (o + 1) (aM h hg v)
theorem lD (g : Nat) : ∀ (l : List Value) (o : Nat) (w : World), (w.setCells g o l).heap.size = w.heap.size
 | [], _, _ => rfl
 | v :: r, o, w => by
  rw [World.setCells, lD g r]; simp
theorem Row.there {w : World} {g : Nat} {cs : Array Value} {t : TypeId} (h : Row w g cs t) {o n : Nat} (hn : o + n ≤ cs.size) : w.there g o n := fun j hj =>
 ⟨by rw [h.cell]; simp; omega, h.froz _⟩
theorem tJ (k : Cp) (c : Nat → BitVec 8) (a : Nat → BitVec 64) : gQ (cpc k) 47 (pc c a).toList = cpc { k with c := c, a := a } := by
 apply Array.ext_getElem?
 intro j
 have hl : (pc c a).toList.length = 32 := by rw [Array.length_toList, bK]
 rw [lP _ _ _ _ (by rw [hl, aE]; omega), hl]
 by_cases hj : j < 82
 ·by_cases h : 47 ≤ j ∧ j < 47 + 32
  ·rw [if_pos h, Array.getElem?_toList, gB _ _ _ (by omega), bG _ _ hj, ← gP { k with c := c, a := a } (j - 47) (by omega), show 47 + (j - 47) = j by omega]
  ·rw [if_neg h, bG _ _ hj, bG _ _ hj]
   unfold cF
   repeat' split
   all_goals first | rfl | (exfalso; omega)
 ·rw [if_neg (by omega), Array.getElem?_eq_none (by rw [aE]; omega), Array.getElem?_eq_none (by rw [aE]; omega)]
theorem iP (k : Cp) (v : Bool) (a : BitVec 64) (s : Int) : gQ (cpc k) 79 [.bool v, .int .u64 (n64 a), .int .i64 s] = cpc { k with rv := v, ra := a, rs := s } := by
 rw [gQ, gQ, gQ, gQ, FZ, FX, FY]
def At (w : World) (g o : Nat) (k : Cp) : Prop := ∀ j, j < 82 → w.cell? ⟨g, o + j, none⟩ = some (cF k j)
theorem Row.cpu {w : World} {g : Nat} {k : Cp} {t : TypeId} (h : Row w g (cpc k) t) : At w g 0 k := fun j hj => by rw [h.cell, ZqU, bG _ _ hj]
theorem At.agg {w : World} {g o : Nat} {k : Cp} (h : At w g o k) : ∀ j v, (cpc k)[j]? = some v → w.cell? ⟨g, o + j, none⟩ = some v := fun j v hv => by
 by_cases hj : j < 82
 ·rw [bG _ _ hj] at hv; rw [h j hj]; exact hv
 ·rw [Array.getElem?_eq_none (by rw [aE]; omega)] at hv; cases hv
theorem At.pmp {w : World} {g o : Nat} {k : Cp} (h : At w g o k) : ∀ j v, (pc k.c k.a)[j]? = some v → w.cell? ⟨g, o + 47 + j, none⟩ = some v := fun j v hv => by
 by_cases hj : j < 32
 ·rw [gB _ _ _ hj, ← gP k j hj] at hv; rw [Nat.add_assoc, h _ (by omega)]; exact hv
 ·rw [Array.getElem?_eq_none (by rw [bK]; omega)] at hv; cases hv
structure Cls (w : World) (g : Nat) (k : Cp) : Prop where
 pc : w.cell? ⟨g, 0, none⟩ = some (.int .u64 (n64 k.pc))
 x0 : w.cell? ⟨g, 1, none⟩ = some (.int .u64 (n64 (k.x 0)))
 md : w.cell? ⟨g, 33, none⟩ = some (.int .i64 k.md)
 wt : w.cell? ⟨g, 34, none⟩ = some (.bool k.wt)
 s0 : w.cell? ⟨g, 35, none⟩ = some (.int .u64 (n64 (k.s 0)))
 s1 : w.cell? ⟨g, 36, none⟩ = some (.int .u64 (n64 (k.s 1)))
 s2 : w.cell? ⟨g, 37, none⟩ = some (.int .u64 (n64 (k.s 2)))
 s3 : w.cell? ⟨g, 38, none⟩ = some (.int .u64 (n64 (k.s 3)))
 s4 : w.cell? ⟨g, 39, none⟩ = some (.int .u64 (n64 (k.s 4)))
 s5 : w.cell? ⟨g, 40, none⟩ = some (.int .u64 (n64 (k.s 5)))
 s6 : w.cell? ⟨g, 41, none⟩ = some (.int .u64 (n64 (k.s 6)))
 s7 : w.cell? ⟨g, 42, none⟩ = some (.int .u64 (n64 (k.s 7)))
 s8 : w.cell? ⟨g, 43, none⟩ = some (.int .u64 (n64 (k.s 8)))
 s9 : w.cell? ⟨g, 44, none⟩ = some (.int .u64 (n64 (k.s 9)))
 s10 : w.cell? ⟨g, 45, none⟩ = some (.int .u64 (n64 (k.s 10)))
 s11 : w.cell? ⟨g, 46, none⟩ = some (.int .u64 (n64 (k.s 11)))
 rv : w.cell? ⟨g, 79, none⟩ = some (.bool k.rv)
 ra : w.cell? ⟨g, 80, none⟩ = some (.int .u64 (n64 k.ra))
 rs : w.cell? ⟨g, 81, none⟩ = some (.int .i64 k.rs)
theorem At.cls {w : World} {g : Nat} {k : Cp} (h : At w g 0 k) : Cls w g k where
 pc := by have := h 0 (by omega); rwa [ZqU] at this
 x0 := by have := h 1 (by omega); rwa [ZqU] at this
 md := by have := h 33 (by omega); rwa [ZqU] at this
 wt := by have := h 34 (by omega); rwa [ZqU] at this
 s0 := by have := h 35 (by omega); rwa [ZqU] at this
 s1 := by have := h 36 (by omega); rwa [ZqU] at this
 s2 := by have := h 37 (by omega); rwa [ZqU] at this
 s3 := by have := h 38 (by omega); rwa [ZqU] at this
 s4 := by have := h 39 (by omega); rwa [ZqU] at this
 s5 := by have := h 40 (by omega); rwa [ZqU] at this
 s6 := by have := h 41 (by omega); rwa [ZqU] at this
 s7 := by have := h 42 (by omega); rwa [ZqU] at this
 s8 := by have := h 43 (by omega); rwa [ZqU] at this
 s9 := by have := h 44 (by omega); rwa [ZqU] at this
 s10 := by have := h 45 (by omega); rwa [ZqU] at this
 s11 := by have := h 46 (by omega); rwa [ZqU] at this
 rv := by have := h 79 (by omega); rwa [ZqU] at this
 ra := by have := h 80 (by omega); rwa [ZqU] at this
 rs := by have := h 81 (by omega); rwa [ZqU] at this
def Cmp (P : Program) (w : World) (d : Nat) (t : TypeId) (a b : Value) (p : Prop) : Prop := ∃ r, (Op.equalIn d t a b).run P w = .ok r w ∧ (r = true ↔ p)
def dN (P : Program) (w : World) (d : Nat) (xs ys : Array Value) (fs : List Field) (p : Prop) : Prop := ∃ r, (Op.eqFields d xs ys fs).run P w = .ok r w ∧ (r = true ↔ p)
theorem dN.nil {P : Program} {w : World} {d : Nat} {xs ys : Array Value} : dN P w d xs ys [] True := ⟨true, by simp [Op.eqFields], by simp⟩
theorem dN.cons {P : Program} {w : World} {d : Nat} {xs ys : Array Value} {f : Field} {fs : List Field} {p q : Prop} {a b : Value} (hn : f.name ≠ "_") (ha : (part f.type xs f.offset).run P w = .ok a w) (hb : (part f.type ys f.offset).run P w = .ok b w)
  (h : Cmp P w d f.type a b q) (hs : dN P w d xs ys fs p) : dN P w d xs ys (f :: fs) (q ∧ p) := by
 obtain ⟨r, hr, hq⟩ := h
 obtain ⟨r', hr', hp⟩ := hs
 cases r with
 | false => exact ⟨false, by simp only [Op.eqFields, hn, ne_eq, not_false_eq_true, if_true, Sem.run_bind, ha, hb, hr, Result.andThen_ok]; simp, by simp at hq; simp [hq]⟩
 | true => exact ⟨r', by simp only [Op.eqFields, hn, ne_eq, not_false_eq_true, if_true, Sem.run_bind, ha, hb, hr, Result.andThen_ok]; simpa using hr', by simp at hq; simp [hq, hp]⟩
theorem Cmp.int {P : Program} {w : World} {d : Nat} {t : TypeId} {k k' : IntKind} {a b : Int} (h : P.underlying t = some (.int k')) : Cmp P w (d + 1) t (.int k a) (.int k b) (a = b) := ⟨_, run_equalIn_int w d t k k' a b h, by simp⟩
theorem Cmp.bool {P : Program} {w : World} {d : Nat} {t : TypeId} {a b : Bool} (h : P.underlying t = some .bool) : Cmp P w (d + 1) t (.bool a) (.bool b) (a = b) := ⟨_, run_equalIn_bool w d t a b h, by simp⟩
theorem Cmp.iff {P : Program} {w : World} {d : Nat} {t : TypeId} {a b : Value} {p q : Prop} (h : Cmp P w d t a b p) (e : p ↔ q) : Cmp P w d t a b q := by
 obtain ⟨r, h1, h2⟩ := h
 exact ⟨r, h1, h2.trans e⟩
theorem rZ {P : Program} (w : World) (d : Nat) (e : TypeId) (kk : IntKind) (he : P.underlying e = some (.int kk)) (xs ys : Array Value) (f g : Nat → Int) (k : IntKind) : ∀ is : List Nat, (∀ i ∈ is, (part e xs (i * 1)).run P w = .ok (.int k (f i)) w ∧ (part e ys (i * 1)).run P w = .ok (.int k (g i)) w) →
  ∃ r, (Op.eqItems (d + 1) e 1 xs ys is).run P w = .ok r w ∧ (r = true ↔ ∀ i ∈ is, f i = g i)
 | [], _ => ⟨true, by simp [Op.eqItems], by simp⟩
 | i :: is, h => by
  obtain ⟨hp, hq⟩ := h i (by simp)
  obtain ⟨r, hr, hi⟩ := rZ w d e kk he xs ys f g k is (fun j hj => h j (by simp [hj]))
  by_cases e0 : f i = g i
  ·refine ⟨r, ?_, ?_⟩
   ·simp only [Op.eqItems, Sem.run_bind, hp, hq, Result.andThen_ok, run_equalIn_int w d e k kk _ _ he, e0, beq_self_eq_true, Bool.not_true, Bool.false_eq_true, if_false, hr]
   ·rw [hi]; simp [e0]
  ·refine ⟨false, ?_, by simp [e0]⟩
   have e1 : (f i == g i) = false := by simpa using e0
   simp only [Op.eqItems, Sem.run_bind, hp, hq, Result.andThen_ok, run_equalIn_int w d e k kk _ _ he, e1, Bool.not_false, if_true, Sem.run_pure]
theorem Cmp.ints {P : Program} {w : World} {d n : Nat} {t e : TypeId} {k kk : IntKind} {xs ys : Array Value} {f g : Nat → Int} (ht : P.underlying t = some (.array n e)) (he : P.underlying e = some (.int kk)) (hc : P.cellsOf e = 1) (hi : (P.info? e).isSome = true) (hp : P.plainKey e = true)
  (hx : ∀ i, i < n → xs[i]? = some (.int k (f i))) (hy : ∀ i, i < n → ys[i]? = some (.int k (g i))) : Cmp P w (d + 2) t (.agg xs) (.agg ys) (∀ i, i < n → f i = g i) := by
 obtain ⟨i0, hi0⟩ := Option.isSome_iff_exists.1 hi
 obtain ⟨r, hr, h⟩ := rZ w d e kk he xs ys f g k (List.range n) fun i hi => by
  have := List.mem_range.1 hi
  rw [Nat.mul_one]
  exact ⟨ZqL w hp (hx i this), ZqL w hp (hy i this)⟩
 refine ⟨r, ?_, ?_⟩
 ·rw [run_equalIn_array w (d + 1) xs ys ht hi0, hc]; exact hr
 ·rw [h]; simp
theorem Cmp.struct {P : Program} {w : World} {d : Nat} {t : TypeId} {fs : Array Field} {xs ys : Array Value} {p : Prop} (ht : P.underlying t = some (.struct fs)) (hp : P.stoodInHeld t = false) (h : dN P w d xs ys fs.toList p) : Cmp P w (d + 1) t (.agg xs) (.agg ys) p := by
 have hf : P.fieldsOf t = fs := by simp [Program.fieldsOf, ht]
 obtain ⟨r, hr, hq⟩ := h
 exact ⟨r, by rw [run_equalIn_struct w d t xs ys (by rw [hf]; exact ht) hp, hf]; exact hr, hq⟩
theorem gR {P : Program} {w : World} {t : TypeId} {d : TypeDesc} {n : Nat} {xs : Array Value} {o : Nat} (ht : P.underlying t = some d) (hd : d.isRow = true) (hi : (P.info? t).map (·.size) = some n) : (part t xs o).run P w = .ok (.agg (xs.extract o (o + n))) w := by
 cases hq : P.info? t with
 | none => simp [hq] at hi
 | some i =>
  have hs : i.size = n := by simpa [hq] using hi
  have hagg : (isAgg t).run P w = .ok true w := by
   unfold isAgg
   rw [Sem.run_bind, run_underlying ht w]
   cases d <;> simp_all
  simp [part, Sem.run_bind, hagg, sizeOf, typeInfo, hq, hs]
theorem xM (k : Cp) (i : Nat) (h : i < 32) : ((cpc k).extract 1 (1 + 32))[i]? = some (.int .u64 (n64 (k.x i))) := by
 rw [Array.getElem?_extract, if_pos (by rw [aE]; omega), bG _ _ (by omega), fV _ _ h]
theorem FW (k : Cp) : (cpc k).extract 47 (47 + 32) = pc k.c k.a := by
 apply Array.ext_getElem?
 intro j
 rw [Array.getElem?_extract]
 by_cases h : j < 32
 ·rw [if_pos (by rw [aE]; omega), bG _ _ (by omega), gP _ _ h, gB _ _ _ h]
 ·rw [if_neg (by rw [aE]; omega), Array.getElem?_eq_none (by rw [bK]; omega)]
theorem tK (k : Cp) : (cpc k).extract 79 (79 + 3) = #[.bool k.rv, .int .u64 (n64 k.ra), .int .i64 k.rs] := by
 apply Array.ext_getElem?
 intro j
 rw [Array.getElem?_extract]
 match j with
 | 0 => rw [if_pos (by rw [aE]; omega), bG _ _ (by omega)]; rfl
 | 1 => rw [if_pos (by rw [aE]; omega), bG _ _ (by omega)]; rfl
 | 2 => rw [if_pos (by rw [aE]; omega), bG _ _ (by omega)]; rfl
 | j + 3 => rw [if_neg (by rw [aE]; omega)]; rfl
theorem zX (w : World) (d : Nat) (v v' : Bool) (a a' : BitVec 64) (s s' : Int) : Cmp prog w (d + 2) 29 (.agg #[.bool v, .int .u64 (n64 a), .int .i64 s]) (.agg #[.bool v', .int .u64 (n64 a'), .int .i64 s']) (v = v' ∧ a = a' ∧ s = s' ∧ True) := by
 refine Cmp.struct underlying29 (by kernel_rfl) ?_
 refine dN.cons (by decide) (ZqL w (by kernel_rfl) rfl) (ZqL w (by kernel_rfl) rfl) (Cmp.bool underlying4) ?_
 refine dN.cons (by decide) (ZqL w (by kernel_rfl) rfl) (ZqL w (by kernel_rfl) rfl) ((Cmp.int underlying22).iff bV) ?_
 refine dN.cons (by decide) (ZqL w (by kernel_rfl) rfl) (ZqL w (by kernel_rfl) rfl) (Cmp.int underlying3) ?_
 exact dN.nil
theorem FU (w : World) (d : Nat) (k k' : Cp) : Cmp prog w (d + 2) 23 (.agg ((cpc k).extract 1 (1 + 32))) (.agg ((cpc k').extract 1 (1 + 32))) (∀ j, j < 32 → k.x j = k'.x j) :=
 (Cmp.ints (f := fun i => n64 (k.x i)) (g := fun i => n64 (k'.x i)) underlying23 underlying22 (by kernel_rfl) (by kernel_rfl) (by kernel_rfl) (xM k) (xM k')).iff
  ⟨fun h j hj => bV.1 (h j hj), fun h j hj => bV.2 (h j hj)⟩
theorem OL (w : World) (d : Nat) (c c' : Nat → BitVec 8) (a a' : Nat → BitVec 64) : Cmp prog w (d + 3) 27 (.agg (pc c a)) (.agg (pc c' a')) ((∀ j, j < 16 → c j = c' j) ∧ (∀ j, j < 16 → a j = a' j) ∧ True) := by
 refine Cmp.struct underlying27 (by kernel_rfl) ?_
 refine dN.cons (by decide) (oD _ _) (oD _ _) ((Cmp.ints (f := fun i => n8 (c i)) (g := fun i => n8 (c' i)) underlying24 underlying5 (by kernel_rfl) (by kernel_rfl) (by kernel_rfl) (qP c a) (qP c' a')).iff ⟨fun h j hj => qL.1 (h j hj), fun h j hj => qL.2 (h j hj)⟩) ?_
 refine dN.cons (by decide) (mZ _ _) (mZ _ _) ((Cmp.ints (f := fun i => n64 (a i)) (g := fun i => n64 (a' i)) underlying25 underlying22 (by kernel_rfl) (by kernel_rfl) (by kernel_rfl) (oE c a) (oE c' a')).iff ⟨fun h j hj => bV.1 (h j hj), fun h j hj => bV.2 (h j hj)⟩) ?_
 exact dN.nil
theorem jV (w : World) (d : Nat) (k k' : Cp) : Cmp prog w (d + 4) 31 (.agg (cpc k)) (.agg (cpc k')) (cpc k = cpc k') := by
 refine Cmp.iff (Cmp.struct underlying31 (by kernel_rfl) ?_) (p := k.pc = k'.pc ∧ (∀ j, j < 32 → k.x j = k'.x j) ∧ k.md = k'.md ∧ k.wt = k'.wt ∧ k.s 0 = k'.s 0 ∧ k.s 1 = k'.s 1 ∧ k.s 2 = k'.s 2 ∧ k.s 3 = k'.s 3 ∧ k.s 4 = k'.s 4 ∧ k.s 5 = k'.s 5 ∧ k.s 6 = k'.s 6 ∧ k.s 7 = k'.s 7 ∧ k.s 8 = k'.s 8 ∧ k.s 9 = k'.s 9 ∧ k.s 10 = k'.s 10 ∧ k.s 11 = k'.s 11 ∧ ((∀ j, j < 16 → k.c j = k'.c j) ∧ (∀ j, j < 16 → k.a j = k'.a j) ∧ True) ∧ (k.rv = k'.rv ∧ k.ra = k'.ra ∧ k.rs = k'.rs ∧ True) ∧ True) ?_
 ·refine dN.cons (by decide) (ZqL w (by kernel_rfl) (bG k 0 (by omega))) (ZqL w (by kernel_rfl) (bG k' 0 (by omega))) ((Cmp.int underlying22).iff bV) ?_
  refine dN.cons (by decide) (gR underlying23 rfl (by kernel_rfl)) (gR underlying23 rfl (by kernel_rfl)) (FU w _ k k') ?_
  refine dN.cons (by decide) (ZqL w (by kernel_rfl) (bG k 33 (by omega))) (ZqL w (by kernel_rfl) (bG k' 33 (by omega))) (Cmp.int underlying3) ?_
  refine dN.cons (by decide) (ZqL w (by kernel_rfl) (bG k 34 (by omega))) (ZqL w (by kernel_rfl) (bG k' 34 (by omega))) (Cmp.bool underlying4) ?_
  refine dN.cons (by decide) (ZqL w (by kernel_rfl) (bG k 35 (by omega))) (ZqL w (by kernel_rfl) (bG k' 35 (by omega))) ((Cmp.int underlying22).iff bV) ?_
  refine dN.cons (by decide) (ZqL w (by kernel_rfl) (bG k 36 (by omega))) (ZqL w (by kernel_rfl) (bG k' 36 (by omega))) ((Cmp.int underlying22).iff bV) ?_
  refine dN.cons (by decide) (ZqL w (by kernel_rfl) (bG k 37 (by omega))) (ZqL w (by kernel_rfl) (bG k' 37 (by omega))) ((Cmp.int underlying22).iff bV) ?_
  refine dN.cons (by decide) (ZqL w (by kernel_rfl) (bG k 38 (by omega))) (ZqL w (by kernel_rfl) (bG k' 38 (by omega))) ((Cmp.int underlying22).iff bV) ?_
  refine dN.cons (by decide) (ZqL w (by kernel_rfl) (bG k 39 (by omega))) (ZqL w (by kernel_rfl) (bG k' 39 (by omega))) ((Cmp.int underlying22).iff bV) ?_
  refine dN.cons (by decide) (ZqL w (by kernel_rfl) (bG k 40 (by omega))) (ZqL w (by kernel_rfl) (bG k' 40 (by omega))) ((Cmp.int underlying22).iff bV) ?_
  refine dN.cons (by decide) (ZqL w (by kernel_rfl) (bG k 41 (by omega))) (ZqL w (by kernel_rfl) (bG k' 41 (by omega))) ((Cmp.int underlying22).iff bV) ?_
  refine dN.cons (by decide) (ZqL w (by kernel_rfl) (bG k 42 (by omega))) (ZqL w (by kernel_rfl) (bG k' 42 (by omega))) ((Cmp.int underlying22).iff bV) ?_
  refine dN.cons (by decide) (ZqL w (by kernel_rfl) (bG k 43 (by omega))) (ZqL w (by kernel_rfl) (bG k' 43 (by omega))) ((Cmp.int underlying22).iff bV) ?_
  refine dN.cons (by decide) (ZqL w (by kernel_rfl) (bG k 44 (by omega))) (ZqL w (by kernel_rfl) (bG k' 44 (by omega))) ((Cmp.int underlying22).iff bV) ?_
  refine dN.cons (by decide) (ZqL w (by kernel_rfl) (bG k 45 (by omega))) (ZqL w (by kernel_rfl) (bG k' 45 (by omega))) ((Cmp.int underlying22).iff bV) ?_
  refine dN.cons (by decide) (ZqL w (by kernel_rfl) (bG k 46 (by omega))) (ZqL w (by kernel_rfl) (bG k' 46 (by omega))) ((Cmp.int underlying22).iff bV) ?_
  refine dN.cons (by decide) (gR underlying27 rfl (by kernel_rfl)) (gR underlying27 rfl (by kernel_rfl)) (by rw [FW, FW]; exact OL w d _ _ _ _) ?_
  refine dN.cons (by decide) (gR underlying29 rfl (by kernel_rfl)) (gR underlying29 rfl (by kernel_rfl)) (by rw [tK, tK]; exact zX w (d + 1) _ _ _ _ _ _) ?_
  exact dN.nil
 ·constructor
  ·rintro ⟨h0, hx, hm, hw, s0, s1, s2, s3, s4, s5, s6, s7, s8, s9, s10, s11, ⟨hc, ha, _⟩, ⟨r0, r1, r2, _⟩, _⟩
   refine Alk.cells ⟨h0, hx, hm, hw, fun j hj => ?_, hc, ha, r0, r1, r2⟩
   match j, hj with
   | 0, _ => exact s0
   | 1, _ => exact s1
   | 2, _ => exact s2
   | 3, _ => exact s3
   | 4, _ => exact s4
   | 5, _ => exact s5
   | 6, _ => exact s6
   | 7, _ => exact s7
   | 8, _ => exact s8
   | 9, _ => exact s9
   | 10, _ => exact s10
   | 11, _ => exact s11
   | j + 12, hj => exact absurd hj (by omega)
  ·intro h
   have h := Alk.of h
   exact ⟨h.pc, h.x, h.md, h.wt, h.s 0 (by omega), h.s 1 (by omega), h.s 2 (by omega), h.s 3 (by omega), h.s 4 (by omega), h.s 5 (by omega), h.s 6 (by omega), h.s 7 (by omega), h.s 8 (by omega), h.s 9 (by omega), h.s 10 (by omega), h.s 11 (by omega), ⟨h.c, h.a, trivial⟩, ⟨h.rv, h.ra, h.rs, trivial⟩, trivial⟩
theorem jX (w : World) (k : Cp) : (Op.equalIn 10000 31 (.agg (cpc k)) (.agg (cpc k))).run prog w = .ok true w := by
 obtain ⟨r, hr, h⟩ := jV w 9996 k k
 rw [hr, h.2 rfl]
theorem GH (k : Cp) : (cpc k).setIfInBounds 1 (.int .u64 0) = cpc { k with x := upd k.x 0 0#64 } := pQ k 0 (by omega) 0#64
theorem xL (k : Cp) (v : BitVec 64) : (cpc k).setIfInBounds 35 (.int .u64 (n64 v)) = cpc { k with s := upd k.s 0 v } := mQ k 0 (by omega) v
theorem GA (k : Cp) (v : BitVec 64) : (cpc k).setIfInBounds 36 (.int .u64 (n64 v)) = cpc { k with s := upd k.s 1 v } := mQ k 1 (by omega) v
theorem GB (k : Cp) (v : BitVec 64) : (cpc k).setIfInBounds 37 (.int .u64 (n64 v)) = cpc { k with s := upd k.s 2 v } := mQ k 2 (by omega) v
theorem GC (k : Cp) (v : BitVec 64) : (cpc k).setIfInBounds 38 (.int .u64 (n64 v)) = cpc { k with s := upd k.s 3 v } := mQ k 3 (by omega) v
theorem GD (k : Cp) (v : BitVec 64) : (cpc k).setIfInBounds 39 (.int .u64 (n64 v)) = cpc { k with s := upd k.s 4 v } := mQ k 4 (by omega) v
theorem GE (k : Cp) (v : BitVec 64) : (cpc k).setIfInBounds 40 (.int .u64 (n64 v)) = cpc { k with s := upd k.s 5 v } := mQ k 5 (by omega) v
theorem GF (k : Cp) (v : BitVec 64) : (cpc k).setIfInBounds 42 (.int .u64 (n64 v)) = cpc { k with s := upd k.s 7 v } := mQ k 7 (by omega) v
theorem Row.pmp {w : World} {g : Nat} {k : Cp} {t : TypeId} (h : Row w g (cpc k) t) : ∀ j v, (pc k.c k.a)[j]? = some v → w.cell? ⟨g, 47 + j, none⟩ = some v := fun j v hv => by
 have := h.cpu.pmp j v hv
 rwa [ZqU] at this
theorem Row.cls {w : World} {g : Nat} {k : Cp} {t : TypeId} (h : Row w g (cpc k) t) : Cls w g k := h.cpu.cls
theorem YE {motive : World → Prop} {w a : World} {g B n : Nat} {cs : Array Value} {t : TypeId} (h1 : Row w g cs t) (h2 : Below B a w) (hs : w.heap.size = n)
  (h : ∀ W, Row W g cs t → Below B a W → W.heap.size = n → motive W) : motive w := h w h1 h2 hs
theorem gE {motive : World → Prop} {w a : World} {g g' B n : Nat} {cs cs' : Array Value} {t t' : TypeId} (h1 : Row w g cs t) (h1' : Row w g' cs' t') (h2 : Below B a w) (hs : w.heap.size = n)
  (h : ∀ W, Row W g cs t → Row W g' cs' t' → Below B a W → W.heap.size = n → motive W) : motive w := h w h1 h1' h2 hs
theorem gT {w : World} {g : Nat} {cs cs' : Array Value} {t : TypeId} (h : Row w g cs t) (e : cs = cs') : Row w g cs' t := e ▸ h
theorem Row.nores {w : World} {g : Nat} {k : Cp} {t : TypeId} (h : Row w g (cpc k) t) : Row (((w.setCell ⟨g, 79, none⟩ (.bool false)).setCell ⟨g, 80, none⟩ (.int .u64 0)).setCell ⟨g, 81, none⟩ (.int .i64 0)) g (cpc { k with rv := false, ra := 0#64, rs := 0 }) t := by
 have R9 := ((h.put (i := 79) (.bool false)).put (i := 80) (.int .u64 (n64 0#64))).put (i := 81) (.int .i64 0)
 rw [FZ, FX, FY] at R9
 exact R9
theorem aX {P : Program} {ops : Array Oper} {rest : List Oper} {o : Oper} {a : Act} {w : World} {Q : Exit → Act → World → Prop} (hgd : o.guard = none) (t : TypeId) (x y : Operand) (ho : o.op = .store t x y) (hd : o.dst = none)
  (g off : Nat) (c' : Array Value) (hx : a.eval x = .pointer (some ⟨g, off, none⟩)) (hy : a.eval y = .agg c') (ht : w.there g off c'.size) (hi : (P.info? t).map (·.size) = some c'.size) (h1 : c'.all (·.oneCell') = true)
  (h : wpList P ops Q rest a (w.setCells g off c'.toList)) : wpList P ops Q (o :: rest) a w :=
 wpList_plain hgd fun _ hK => by
  unfold Oper.wp execOp
  simp only [ho, hx, hy, Instr.storeAt, Instr.sureAddr, Sem.run_bind, Sem.run_pure, Result.andThen_ok, run_storeVar_mid w g off t c' ht hi h1]
  simpa [Oper.upon, Act.put, hd] using hK _ _ h
theorem cE {P : Program} {fn : Func} {p q : Tmp} {ty : TypeId} (h : fn.results = #[.cell p ty, .tmp q]) (tmps : Array Value) (w : World) (g : Nat) (t : TypeId) (cs : Array Value) (fr : Nat × Nat) (d : TypeDesc) (v : Value)
  (hp : tmps.getD p undef = .pointer (some ⟨g, 0, none⟩)) (hq : tmps.getD q undef = v) (hg : w.heap[g]? = some (.cells cs t fr))
  (hu : P.underlying ty = some d) (hd : (match d with | .struct _ | .array _ _ => true | _ => false) = true) (hi : (P.info? ty).map (·.size) = some cs.size) :
  (results fn tmps).run P w = .ok (.tuple #[.agg cs, v]) w := by
 have hp' : tmps[p]?.getD undef = .pointer (some ⟨g, 0, none⟩) := by simpa using hp
 have hq' : tmps[q]?.getD undef = v := by simpa using hq
 simp [results, h, hp', hq', asAddr, run_loadVar_row w g t ty cs fr d hg hu hd hi]
def cz : Cp := ⟨0#64, fun _ => 0#64, 0, false, fun _ => 0#64, fun _ => 0#8, fun _ => 0#64, false, 0#64, 0⟩
theorem cC (w : World) : (zeroValue 31).run prog w = .ok (.agg (cpc cz)) w := by kernel_rfl
theorem aB (k : Cp) : (prog.info? 31).map (·.size) = some (cpc k).size := by rw [aE]; kernel_rfl
theorem dU (c : Nat → BitVec 8) (a : Nat → BitVec 64) : (prog.info? 27).map (·.size) = some (pc c a).size := by rw [bK]; kernel_rfl
theorem YV {x y : BitVec 64} (h : ¬ x = y) : (n64 x == n64 y) = false := by
 rw [beq_eq_false_iff_ne]; exact fun e => h (bV.1 e)
abbrev mq (v : BitVec 64) : Prop := v >>> 11 &&& 3#64 = 1#64 ∨ v >>> 11 &&& 3#64 = 2#64
def stB (v : BitVec 64) : BitVec 64 := (if mq (v &&& 2234504#64) then v &&& 2234504#64 &&& ~~~6144#64 else v &&& 2234504#64) ||| 8589934592#64
def prS (s : Nat → BitVec 64) : Nat → BitVec 64
 | 0 => stB (s 0)
 | 1 => s 1 &&& ~~~2#64
 | 2 => s 2 &&& 2184#64
 | 3 => s 3 &&& 7#64
 | 4 => s 4 &&& 5#64
 | 5 => s 5 &&& 1#64
 | 7 => s 7 &&& ~~~1#64
 | j => s j
def rok (v : Bool) (a : BitVec 64) (s : Int) : Bool := v && (s == 4 && a % 4#64 == 0#64 || s == 8 && a % 8#64 == 0#64)
def PR (k : Cp) : Cp := { pc := k.pc &&& ~~~1#64, x := upd k.x 0 0#64, md := if k.md = 3 then 3 else 0, wt := k.wt, s := prS k.s, c := PC k.c, a := PA k.a, rv := rok k.rv k.ra k.rs, ra := if rok k.rv k.ra k.rs then k.ra else 0#64, rs := if rok k.rv k.ra k.rs then k.rs else 0 }
theorem AN (a b : BitVec 64) : n64 a % n64 b = n64 (a % b) := by
 unfold n64; rw [BitVec.toNat_umod]; omega
theorem LA (v : Bool) (a : BitVec 64) (s : Int) : rok v a s = (v && (s == 4 && (n64 a).tmod 4 == 0 || s == 8 && (n64 a).tmod 8 == 0)) := by
 have h4 : (a % 4#64 == 0#64) = ((n64 a).tmod 4 == 0) := by
  rw [Int.tmod_eq_emod_of_nonneg (bF a), Bool.eq_iff_iff, beq_iff_eq, beq_iff_eq]
  exact (bV (x := a % 4#64) (y := 0#64)).symm.trans (by rw [← AN]; exact Iff.rfl)
 have h8 : (a % 8#64 == 0#64) = ((n64 a).tmod 8 == 0) := by
  rw [Int.tmod_eq_emod_of_nonneg (bF a), Bool.eq_iff_iff, beq_iff_eq, beq_iff_eq]
  exact (bV (x := a % 8#64) (y := 0#64)).symm.trans (by rw [← AN]; exact Iff.rfl)
 unfold rok; rw [h4, h8]
theorem FC : ∀ i, i < 11 → (6144#64).getLsbD i = false := by decide
theorem NN (v : BitVec 64) : v &&& 6144#64 = (v >>> 11 &&& 3#64) <<< 11 := by
 rw [BitVec.shiftLeft_and_distrib, show (3#64 <<< 11 : BitVec 64) = 6144#64 by decide]
 apply BitVec.eq_of_getLsbD_eq
 intro i hi
 by_cases h : i < 11
 ·simp [FC i h]
 ·simp [hi, h, Nat.add_sub_cancel' (Nat.le_of_not_lt h)]
theorem vT (v : BitVec 64) : (v &&& 2234504#64) >>> 11 &&& 3#64 = v >>> 11 &&& 3#64 := by
 rw [BitVec.ushiftRight_and_distrib, BitVec.and_assoc, show ((2234504#64) >>> 11 &&& 3#64 : BitVec 64) = 3#64 by decide]
theorem WI {z : BitVec 64} (h : z.toNat ≤ 3) : z = 0#64 ∨ z = 1#64 ∨ z = 2#64 ∨ z = 3#64 := by
 have : z.toNat = 0 ∨ z.toNat = 1 ∨ z.toNat = 2 ∨ z.toNat = 3 := by omega
 rcases this with e | e | e | e
 ·exact Or.inl (ZqT e)
 ·exact Or.inr (Or.inl (ZqT e))
 ·exact Or.inr (Or.inr (Or.inl (ZqT e)))
 ·exact Or.inr (Or.inr (Or.inr (ZqT e)))
theorem oR (v : BitVec 64) : (v &&& 3#64).toNat ≤ 3 := by rw [BitVec.toNat_and]; exact ZqO Nat.and_le_right (by decide)
theorem AI (v : BitVec 64) : mq (v &&& 2234504#64) ↔ mq v := by unfold mq; rw [vT]
def nm (v : BitVec 64) : Bool := decide (¬ mq v)
def bfB (v : BitVec 64) : BitVec 64 := v >>> 11 &&& 3#64
theorem UU (v : BitVec 64) : (v &&& 6144#64) >>> 11 = bfB v := by
 unfold bfB
 rw [BitVec.ushiftRight_and_distrib, show ((6144#64) >>> 11 : BitVec 64) = 3#64 by decide]
theorem TD (v : BitVec 64) : n64 (bfB v) ≤ 3 := by
 have h := oR (v >>> 11)
 unfold bfB n64; omega
theorem YX (v : BitVec 64) : nm v = (n64 (bfB v) == 0 || n64 (bfB v) == 3) := by
 unfold nm mq bfB
 rcases WI (oR (v >>> 11)) with e | e | e | e <;> rw [e] <;> decide
theorem kT (v : BitVec 64) (w : World) : Calls prog 56 #[.int .u64 (n64 v)] w fun e w' => e = .returned (.int .i64 (n64 (bfB v))) ∧ w' = w := by
 have b0 : bits .and .u64 (n64 v) 6144 = n64 (v &&& 6144#64) := cQ v 6144#64
 have b1 : n64 (v &&& 6144#64) / (2048 : Int) = n64 ((v &&& 6144#64) >>> 11) := kA _ 11
 rw [UU] at b1
 have hlo := bF (bfB v)
 have hhi := TD v
 generalize n64 (bfB v) = z at b1 hlo hhi ⊢
 generalize n64 (v &&& 6144#64) = y at b0 b1
 go_enter func56, ntmps56
 go_wp2
 go_ret
 exact ⟨by rfl, rfl⟩
theorem kL (v z : BitVec 64) (hz : n64 z ≤ 3) (w : World) : Calls prog 149 #[.int .u64 (n64 v), .int .i64 (n64 z)] w fun e w' => e = .returned (.int .u64 (n64 (v &&& ~~~6144#64 ||| z <<< 11 &&& 6144#64))) ∧ w' = w := by
 have b0 : bits .andNot .u64 (n64 v) 6144 = n64 (v &&& ~~~6144#64) := eR v 6144#64
 have b1 : IntKind.u64.wrap (n64 z * 2048) = n64 (z <<< 11) := gY z 11
 have b2 : bits .and .u64 (n64 (z <<< 11)) 6144 = n64 (z <<< 11 &&& 6144#64) := cQ _ 6144#64
 have b3 := hU (v &&& ~~~6144#64) (z <<< 11 &&& 6144#64)
 have hlo := bF z
 generalize n64 (v &&& ~~~6144#64 ||| z <<< 11 &&& 6144#64) = y3 at b3 ⊢
 generalize n64 (z <<< 11 &&& 6144#64) = y2 at b2 b3
 generalize n64 (z <<< 11) = y1 at b1 b2
 generalize n64 (v &&& ~~~6144#64) = y0 at b0 b3
 generalize n64 z = zz at b1 hz hlo ⊢
 go_enter func149, ntmps149
 go_wp2
 go_ret
 exact ⟨by rfl, rfl⟩
theorem oB (v : BitVec 64) (w : World) : Calls prog 40 #[.int .u64 (n64 v)] w fun e w' => e = .returned (.bool (nm v)) ∧ w' = w := by
 have HB : Hid (∀ W, Calls prog 56 #[.int .u64 (n64 v)] W fun e w' => e = .returned (.int .i64 (n64 (bfB v))) ∧ w' = W) := kT v
 rw [YX]
 generalize n64 (bfB v) = z at HB ⊢
 by_cases h0 : z = 0
 ·subst h0
  go_enter func40, ntmps40
  go_wp2_with (go_at_call 56; refine (HB.out _).mono ?_; rintro e w1 ⟨rfl, hw1⟩; subst hw1)
  go_ret
  exact ⟨rfl, rfl⟩
 ·have e0 : (z == 0) = false := by simp [h0]
  rw [e0, Bool.false_or]
  go_enter func40, ntmps40
  go_wp2_with (go_at_call 56; refine (HB.out _).mono ?_; rintro e w1 ⟨rfl, hw1⟩; subst hw1)
  go_ret
  exact ⟨by rfl, rfl⟩
theorem uE (v : BitVec 64) : stB v = (if mq v then v &&& ~~~6144#64 else v) &&& 2234504#64 ||| 8589934592#64 := by
 unfold stB
 by_cases h : mq v
 ·rw [if_pos ((AI v).2 h), if_pos h, BitVec.and_assoc, BitVec.and_comm (2234504#64), ← BitVec.and_assoc]
 ·rw [if_neg (fun q => h ((AI v).1 q)), if_neg h]
theorem kZ (v : BitVec 64) (w : World) : Calls prog 25 #[.int .u64 (n64 v)] w fun e w' => e = .returned (.int .u64 (n64 (stB v))) ∧ w' = w := by
 have HN : Hid (∀ W, Calls prog 40 #[.int .u64 (n64 v)] W fun e w' => e = .returned (.bool (nm v)) ∧ w' = W) := oB v
 rw [uE]
 by_cases h : mq v
 ·rw [if_pos h]
  rw [show nm v = false by simp [nm, h]] at HN
  have b0 : bits .andNot .u64 (n64 v) 6144 = n64 (v &&& ~~~6144#64) := eR v 6144#64
  have b1 : bits .and .u64 (n64 (v &&& ~~~6144#64)) 2234504 = n64 (v &&& ~~~6144#64 &&& 2234504#64) := cQ _ 2234504#64
  have b2 : bits .or .u64 (n64 (v &&& ~~~6144#64 &&& 2234504#64)) 8589934592 = n64 (v &&& ~~~6144#64 &&& 2234504#64 ||| 8589934592#64) := hU _ 8589934592#64
  clear h
  generalize v &&& ~~~6144#64 &&& 2234504#64 ||| 8589934592#64 = r2 at b2 ⊢
  generalize v &&& ~~~6144#64 &&& 2234504#64 = r1 at b1 b2
  generalize v &&& ~~~6144#64 = r0 at b0 b1
  go_enter func25, ntmps25
  go_wp2_with (go_at_call 40; refine (HN.out _).mono ?_; rintro e w1 ⟨rfl, hw1⟩; subst hw1)
  go_ret
  exact ⟨rfl, rfl⟩
 ·rw [if_neg h]
  rw [show nm v = true by simp [nm, h]] at HN
  have b1 : bits .and .u64 (n64 v) 2234504 = n64 (v &&& 2234504#64) := cQ _ 2234504#64
  have b2 : bits .or .u64 (n64 (v &&& 2234504#64)) 8589934592 = n64 (v &&& 2234504#64 ||| 8589934592#64) := hU _ 8589934592#64
  clear h
  generalize v &&& 2234504#64 ||| 8589934592#64 = r2 at b2 ⊢
  generalize v &&& 2234504#64 = r1 at b1 b2
  go_enter func25, ntmps25
  go_wp2_with (go_at_call 40; refine (HN.out _).mono ?_; rintro e w1 ⟨rfl, hw1⟩; subst hw1)
  go_ret
  exact ⟨rfl, rfl⟩
def rsc (v : Bool) (a : BitVec 64) (s : Int) : Array Value := #[.bool v, .int .u64 (n64 a), .int .i64 s]
theorem yK (v : Bool) (a : BitVec 64) (s : Int) (w : World) : Calls prog 27 #[.agg (rsc v a s)] w fun e w' => e = .returned (.bool (rok v a s)) ∧ Below w.heap.size w w' := by
 rw [LA]
 unfold rsc
 have hlo := bF a
 cases v with
 | false =>
  go_enter func27, ntmps27
  go_wp2
  go_ret
  exact ⟨rfl, (ZqD _ _).alloc (ZqE _) _⟩
 | true =>
  by_cases h4 : s = 4
  ·subst h4
   have e : (true && ((4 : Int) == 4 && (n64 a).tmod 4 == 0 || (4 : Int) == 8 && (n64 a).tmod 8 == 0)) = ((n64 a).tmod 4 == 0) := by simp
   rw [e]
   clear e
   generalize n64 a = z at *
   go_enter func27, ntmps27
   go_wp2
   go_ret
   exact ⟨by rw [Int.tmod_eq_emod_of_nonneg hlo]; rfl, (ZqD _ _).alloc (ZqE _) _⟩
  ·by_cases h8 : s = 8
   ·subst h8
    have e : (true && ((8 : Int) == 4 && (n64 a).tmod 4 == 0 || (8 : Int) == 8 && (n64 a).tmod 8 == 0)) = ((n64 a).tmod 8 == 0) := by simp
    rw [e]
    clear e h4
    generalize n64 a = z at *
    go_enter func27, ntmps27
    go_wp2
    go_ret
    exact ⟨by rw [Int.tmod_eq_emod_of_nonneg hlo]; rfl, (ZqD _ _).alloc (ZqE _) _⟩
   ·have f4 : (s == 4) = false := by simp [h4]
    have f8 : (s == 8) = false := by simp [h8]
    rw [show (true && (s == 4 && (n64 a).tmod 4 == 0 || s == 8 && (n64 a).tmod 8 == 0)) = false by simp [f4, f8]]
    clear h4 h8
    go_enter func27, ntmps27
    go_wp2
    go_ret
    exact ⟨rfl, (ZqD _ _).alloc (ZqE _) _⟩
theorem Row.res {w : World} {g : Nat} {k : Cp} {t : TypeId} (h : Row w g (cpc k) t) : ∀ j v, (rsc k.rv k.ra k.rs)[j]? = some v → w.cell? ⟨g, 79 + j, none⟩ = some v := fun j v hv => by
 match j, hv with
 | 0, hv => rw [h.cls.rv]; simpa [rsc] using hv
 | 1, hv => rw [h.cls.ra]; simpa [rsc] using hv
 | 2, hv => rw [h.cls.rs]; simpa [rsc] using hv
 | j + 3, hv => simp [rsc] at hv
theorem cK (v : Bool) (a : BitVec 64) (s : Int) : (prog.info? 29).map (·.size) = some (rsc v a s).size := by kernel_rfl
theorem fF (v : Bool) (a : BitVec 64) (s : Int) : (rsc v a s).all (·.oneCell') = true := by simp [rsc, Value.oneCell']
theorem jF (k : Cp) (w : World) : Calls prog 10 #[.agg (cpc k)] w fun e w' => e = .returned (.agg (cpc (PR k))) ∧ Below w.heap.size w w' := by
 have hz := cC
 obtain ⟨W0, hW0, r0, r1, b0, s0⟩ := cN w (cpc k) (cpc cz) 31 31
 have HS := hid s0
 have K := r0.out.cls
 have f0 := r0.out.froz
 have B0 : bits .and .u64 (n64 k.pc) 18446744073709551614 = n64 (k.pc &&& ~~~1#64) := cQ _ (~~~1#64)
 have B1 : bits .and .u64 (n64 (k.s 1)) 18446744073709551613 = n64 (k.s 1 &&& ~~~2#64) := cQ _ (~~~2#64)
 have B2 : bits .and .u64 (n64 (k.s 2)) 2184 = n64 (k.s 2 &&& 2184#64) := cQ _ 2184#64
 have B3 : bits .and .u64 (n64 (k.s 3)) 7 = n64 (k.s 3 &&& 7#64) := cQ _ 7#64
 have B4 : bits .and .u64 (n64 (k.s 4)) 5 = n64 (k.s 4 &&& 5#64) := cQ _ 5#64
 have B5 : bits .and .u64 (n64 (k.s 5)) 1 = n64 (k.s 5 &&& 1#64) := cQ _ 1#64
 have B7 : bits .and .u64 (n64 (k.s 7)) 18446744073709551614 = n64 (k.s 7 &&& ~~~1#64) := cQ _ (~~~1#64)
 have KS : Hid (∀ W, Calls prog 25 #[.int .u64 (n64 (k.s 0))] W fun e w' => e = .returned (.int .u64 (n64 (stB (k.s 0)))) ∧ w' = W) := fun W => kZ _ W
 have KP : Hid (∀ W, Calls prog 26 #[.agg (pc k.c k.a)] W fun e w' => e = .returned (.agg (pc (PC k.c) (PA k.a))) ∧ Below W.heap.size W w') := fun W => EQ k.c k.a W
 obtain ⟨v0, hv0⟩ : ∃ v0, k.pc &&& ~~~1#64 = v0 := ⟨_, rfl⟩
 obtain ⟨v1, hv1⟩ : ∃ v1, k.s 1 &&& ~~~2#64 = v1 := ⟨_, rfl⟩
 obtain ⟨v2, hv2⟩ : ∃ v2, k.s 2 &&& 2184#64 = v2 := ⟨_, rfl⟩
 obtain ⟨v3, hv3⟩ : ∃ v3, k.s 3 &&& 7#64 = v3 := ⟨_, rfl⟩
 obtain ⟨v4, hv4⟩ : ∃ v4, k.s 4 &&& 5#64 = v4 := ⟨_, rfl⟩
 obtain ⟨v5, hv5⟩ : ∃ v5, k.s 5 &&& 1#64 = v5 := ⟨_, rfl⟩
 obtain ⟨v7, hv7⟩ : ∃ v7, k.s 7 &&& ~~~1#64 = v7 := ⟨_, rfl⟩
 obtain ⟨vs, hvs⟩ : ∃ vs, stB (k.s 0) = vs := ⟨_, rfl⟩
 rw [hv0] at B0; rw [hv1] at B1; rw [hv2] at B2; rw [hv3] at B3; rw [hv4] at B4; rw [hv5] at B5; rw [hv7] at B7; rw [hvs] at KS
 obtain ⟨K0, Kx, Km, Kw, K1, K2, K3, K4, K5, K6, K7, K8, K9, K10, K11, K12, Kv, Ka, Ks⟩ := K
 obtain ⟨m, hm⟩ : ∃ m : Int, m = if k.md = 3 then 3 else 0 := ⟨_, rfl⟩
 have HF : Hid (PR k = { pc := v0, x := upd k.x 0 0#64, md := m, wt := k.wt, s := prS k.s, c := PC k.c, a := PA k.a, rv := rok k.rv k.ra k.rs, ra := if rok k.rv k.ra k.rs then k.ra else 0#64, rs := if rok k.rv k.ra k.rs then k.rs else 0 }) := by
  rw [hm, ← hv0]; rfl
 have HV : Hid (∀ j, j < 12 → upd (upd (upd (upd (upd (upd (upd k.s 0 vs) 1 v1) 2 v2) 3 v3) 4 v4) 5 v5) 7 v7 j = prS k.s j) := fun j hj => by
  subst hv1 hv2 hv3 hv4 hv5 hv7 hvs
  match j, hj with
  | 0, _ => rfl
  | 1, _ => rfl
  | 2, _ => rfl
  | 3, _ => rfl
  | 4, _ => rfl
  | 5, _ => rfl
  | 6, _ => rfl
  | 7, _ => rfl
  | 8, _ => rfl
  | 9, _ => rfl
  | 10, _ => rfl
  | 11, _ => rfl
  | j + 12, h => exact absurd h (by omega)
 clear s0 hv0 hv1 hv2 hv3 hv4 hv5 hv7 hvs
 go_enter func10, ntmps10
 go_upto_region 1 with fail
 clear hz
 clear hW0
 have KR : Hid (∀ W, Calls prog 27 #[.agg (rsc k.rv k.ra k.rs)] W fun e w' => e = .returned (.bool (rok k.rv k.ra k.rs)) ∧ Below W.heap.size W w') := fun W => yK _ _ _ W
 obtain ⟨ok, hok⟩ : ∃ b, rok k.rv k.ra k.rs = b := ⟨_, rfl⟩
 have HOK : Hid (rok k.rv k.ra k.rs = ok) := hok
 rw [hok] at KR
 clear hok
 by_cases h3 : k.md = 3
 ·rw [if_pos h3] at hm; have HM : Hid (m = k.md) := hm.trans h3.symm; clear hm; have h3b : (k.md != 3) = false := by simp [h3]
  clear h3
  go_upto_region 12 with (go_at_call 25; refine (KS.out _).mono ?_; rintro e w1 ⟨rfl, hw1⟩; subst hw1)
  have R0 := (((((((((r0.out.put (i := 0) (.int .u64 (n64 v0))).put (i := 1) (.int .u64 0)).put (i := 35) (.int .u64 (n64 vs))).put (i := 36) (.int .u64 (n64 v1))).put (i := 37) (.int .u64 (n64 v2))).put (i := 38) (.int .u64 (n64 v3))).put (i := 39) (.int .u64 (n64 v4))).put (i := 40) (.int .u64 (n64 v5))).put (i := 42) (.int .u64 (n64 v7)))
  rw [kV, GH, xL, GA, GB, GC, GD, GE, GF] at R0
  refine gE (motive := fun W => Code.wp _ _ _ _ W) (a := w) (B := w.heap.size) (n := w.heap.size + 2) (gT R0 (show _ = cpc { k with pc := v0, x := upd k.x 0 0#64, md := m, s := upd (upd (upd (upd (upd (upd (upd k.s 0 vs) 1 v1) 2 v2) 3 v3) 4 v4) 5 v5) 7 v7 } by rw [HM.out])) (Row.other (Row.other (Row.other (Row.other (Row.other (Row.other (Row.other (Row.other (Row.other r1.out (by omega) _) (by omega) _) (by omega) _) (by omega) _) (by omega) _) (by omega) _) (by omega) _) (by omega) _) (by omega) _) (aM (aM (aM (aM (aM (aM (aM (aM (aM b0.out (ZqE _) _) (ZqE _) _) (ZqE _) _) (ZqE _) _) (ZqE _) _) (ZqE _) _) (ZqE _) _) (ZqE _) _) (ZqE _) _) (by simp; exact HS.out) ?_
  clear R0 HM h3b r0 r1 b0 HS f0 K0 Kx Km Kw K1 K2 K3 K4 K5 K6 K7 K8 K9 K10 K11 K12 Kv Ka Ks B0 B1 B2 B3 B4 B5 B7 KS
  intro W1 r0 r1 b0 s0
  have R0 : Hid (Row W1 w.heap.size (cpc { k with pc := v0, x := upd k.x 0 0#64, md := m, s := upd (upd (upd (upd (upd (upd (upd k.s 0 vs) 1 v1) 2 v2) 3 v3) 4 v4) 5 v5) 7 v7 }) 31) := r0
  have R1 : Hid (Row W1 (w.heap.size + 1) (cpc cz) 31) := r1
  have S0 := hid s0
  have BB : Hid (Below w.heap.size w W1) := b0
  clear r0 r1 b0 s0
  go_upto_region 13 with (first | (refine aY (by rfl) 27 _ (by rfl) w.heap.size 47 (by rfl) (pc k.c k.a) _ R0.out.pmp underlying27 (by rfl) (dU _ _) ?_) | (go_at_call 26; refine (KP.out _).mono ?_; rintro e w2 ⟨rfl, hb2⟩; have HB2 := hid hb2; clear hb2) | (refine aX (by rfl) 27 _ _ (by rfl) (by rfl) w.heap.size 47 (pc (PC k.c) (PA k.a)) (by rfl) (by rfl) ((R0.out.later HB2.out (by rw [S0.out]; omega)).there (by rw [aE, bK]; omega)) (dU _ _) (gN _ _) ?_))
  refine gE (motive := fun W => Code.wp _ _ _ _ W) (a := w) (B := w.heap.size) (n := w2.heap.size) (gT ((R0.out.later HB2.out (by rw [S0.out]; omega)).lay (pc (PC k.c) (PA k.a)).toList 47) (show _ = cpc { pc := v0, x := upd k.x 0 0#64, md := m, wt := k.wt, s := upd (upd (upd (upd (upd (upd (upd k.s 0 vs) 1 v1) 2 v2) 3 v3) 4 v4) 5 v5) 7 v7, c := PC k.c, a := PA k.a, rv := k.rv, ra := k.ra, rs := k.rs } from tJ _ _ _)) (Row.lays (by omega) _ _ (R1.out.later HB2.out (by rw [S0.out]; omega))) (cZ (ZqE _) _ _ (BB.out.trans (HB2.out.mono (by rw [S0.out]; omega)))) (lD _ _ _ _) ?_
  have SS : Hid (w.heap.size + 2 ≤ w2.heap.size) := by have := HB2.out.size; rw [S0.out] at this; exact this
  clear R0 R1 S0 BB HB2 KP
  intro W3 r0 r1 b0 s0
  have R0 : Hid (Row W3 w.heap.size (cpc { pc := v0, x := upd k.x 0 0#64, md := m, wt := k.wt, s := upd (upd (upd (upd (upd (upd (upd k.s 0 vs) 1 v1) 2 v2) 3 v3) 4 v4) 5 v5) 7 v7, c := PC k.c, a := PA k.a, rv := k.rv, ra := k.ra, rs := k.rs }) 31) := r0
  have R1 : Hid (Row W3 (w.heap.size + 1) (cpc cz) 31) := r1
  have S0 : Hid (w.heap.size + 2 ≤ W3.heap.size) := by show _ ≤ _; rw [s0]; exact SS.out
  have BB : Hid (Below w.heap.size w W3) := b0
  clear r0 r1 b0 s0 SS
  cases ok with
  | true =>
   have HE : Hid (cpc { pc := v0, x := upd k.x 0 0#64, md := m, wt := k.wt, s := upd (upd (upd (upd (upd (upd (upd k.s 0 vs) 1 v1) 2 v2) 3 v3) 4 v4) 5 v5) 7 v7, c := PC k.c, a := PA k.a, rv := k.rv, ra := k.ra, rs := k.rs } = cpc (PR k)) := by (have hk := HOK.out; rw [HF.out, if_pos hk, if_pos hk, hk]; exact Alk.cells ⟨rfl, fun _ _ => rfl, rfl, rfl, HV.out, fun _ _ => rfl, fun _ _ => rfl, by (show k.rv = true; rw [LA] at hk; clear R0 R1 S0 BB HF HV HOK; simp_all), rfl, rfl⟩)
   go_upto_region 15 with (first | (refine aY (by rfl) 29 _ (by rfl) w.heap.size 79 (by rfl) (rsc k.rv k.ra k.rs) _ R0.out.res underlying29 (by rfl) (cK _ _ _) ?_) | (go_at_call 27; refine (KR.out _).mono ?_; rintro e w4 ⟨rfl, hb2⟩; have HB4 := hid hb2; clear hb2))
   refine gE (motive := fun W => Code.wp _ _ _ _ W) (a := w) (B := w.heap.size) (n := w4.heap.size) (gT (R0.out.later HB4.out R0.out.lt) HE.out) (R1.out.later HB4.out R1.out.lt) (BB.out.trans (HB4.out.mono BB.out.size)) rfl ?_
   clear R0 R1 S0 BB HB4 HE HF HV KR HOK
   intro W5 r0 r1 b0 s0
   have R0 : Hid (Row W5 w.heap.size (cpc (PR k)) 31) := r0
   have R1 : Hid (Row W5 (w.heap.size + 1) (cpc cz) 31) := r1
   have BB : Hid (Below w.heap.size w W5) := b0
   clear r0 r1 b0 s0
   go_wp2_with (first | (refine wpList_load_row (by rfl) _ _ (by rfl) _ (by rfl) 31 _ (0, 0) _ R0.out underlying31 (by rfl) (aB _) ?_) | (refine aA (by rfl) _ _ _ (by rfl) (by rfl) _ _ _ (by rfl) (by rfl) R1.out (aB _) (by rw [aE, aE]) (aO _) ?_))
   refine ZqH (v := .agg (cpc (PR k))) ?_ rfl ⟨rfl, ?_⟩
   ·exact ZqM results10 _ _ (w.heap.size + 1) 31 _ (0, 0) _ (by rfl) (ZqW _ _ _ _ _ _ R1.out) underlying31 (by rfl) (aB _)
   ·exact aW BB.out (by omega) _
  | false =>
   have HE : Hid (cpc { ({ pc := v0, x := upd k.x 0 0#64, md := m, wt := k.wt, s := upd (upd (upd (upd (upd (upd (upd k.s 0 vs) 1 v1) 2 v2) 3 v3) 4 v4) 5 v5) 7 v7, c := PC k.c, a := PA k.a, rv := k.rv, ra := k.ra, rs := k.rs } : Cp) with rv := false, ra := 0#64, rs := 0 } = cpc (PR k)) := by (have hk := HOK.out; rw [HF.out, if_neg (by rw [hk]; decide), if_neg (by rw [hk]; decide), hk]; exact Alk.cells ⟨rfl, fun _ _ => rfl, rfl, rfl, HV.out, fun _ _ => rfl, fun _ _ => rfl, rfl, rfl, rfl⟩)
   go_upto_region 15 with (first | (refine aY (by rfl) 29 _ (by rfl) w.heap.size 79 (by rfl) (rsc k.rv k.ra k.rs) _ R0.out.res underlying29 (by rfl) (cK _ _ _) ?_) | (go_at_call 27; refine (KR.out _).mono ?_; rintro e w4 ⟨rfl, hb2⟩; have HB4 := hid hb2; clear hb2) | (refine aX (by rfl) 29 _ _ (by rfl) (by rfl) w.heap.size 79 (rsc false 0#64 0) (by rfl) (by rfl) ((R0.out.later HB4.out R0.out.lt).there (by rw [aE]; decide)) (cK _ _ _) (fF _ _ _) ?_))
   refine gE (motive := fun W => Code.wp _ _ _ _ W) (a := w) (B := w.heap.size) (n := w4.heap.size) (gT ((R0.out.later HB4.out R0.out.lt).lay (rsc false 0#64 0).toList 79) ((iP _ _ _ _).trans HE.out)) (Row.lays (by omega) _ _ (R1.out.later HB4.out R1.out.lt)) (cZ (ZqE _) _ _ (BB.out.trans (HB4.out.mono BB.out.size))) (lD _ _ _ _) ?_
   clear R0 R1 S0 BB HB4 HE HF HV KR HOK
   intro W5 r0 r1 b0 s0
   have R0 : Hid (Row W5 w.heap.size (cpc (PR k)) 31) := r0
   have R1 : Hid (Row W5 (w.heap.size + 1) (cpc cz) 31) := r1
   have BB : Hid (Below w.heap.size w W5) := b0
   clear r0 r1 b0 s0
   go_wp2_with (first | (refine wpList_load_row (by rfl) _ _ (by rfl) _ (by rfl) 31 _ (0, 0) _ R0.out underlying31 (by rfl) (aB _) ?_) | (refine aA (by rfl) _ _ _ (by rfl) (by rfl) _ _ _ (by rfl) (by rfl) R1.out (aB _) (by rw [aE, aE]) (aO _) ?_))
   refine ZqH (v := .agg (cpc (PR k))) ?_ rfl ⟨rfl, ?_⟩
   ·exact ZqM results10 _ _ (w.heap.size + 1) 31 _ (0, 0) _ (by rfl) (ZqW _ _ _ _ _ _ R1.out) underlying31 (by rfl) (aB _)
   ·exact aW BB.out (by omega) _
 ·rw [if_neg h3] at hm; have HM : Hid (m = 0) := hm; clear hm; have h3b : (k.md != 3) = true := by simp [h3]
  clear h3
  go_upto_region 12 with (go_at_call 25; refine (KS.out _).mono ?_; rintro e w1 ⟨rfl, hw1⟩; subst hw1)
  have R0 := ((((((((((r0.out.put (i := 0) (.int .u64 (n64 v0))).put (i := 1) (.int .u64 0)).put (i := 33) (.int .i64 0)).put (i := 35) (.int .u64 (n64 vs))).put (i := 36) (.int .u64 (n64 v1))).put (i := 37) (.int .u64 (n64 v2))).put (i := 38) (.int .u64 (n64 v3))).put (i := 39) (.int .u64 (n64 v4))).put (i := 40) (.int .u64 (n64 v5))).put (i := 42) (.int .u64 (n64 v7)))
  rw [kV, GH, xK, xL, GA, GB, GC, GD, GE, GF] at R0
  refine gE (motive := fun W => Code.wp _ _ _ _ W) (a := w) (B := w.heap.size) (n := w.heap.size + 2) (gT R0 (show _ = cpc { k with pc := v0, x := upd k.x 0 0#64, md := m, s := upd (upd (upd (upd (upd (upd (upd k.s 0 vs) 1 v1) 2 v2) 3 v3) 4 v4) 5 v5) 7 v7 } by rw [HM.out])) (Row.other (Row.other (Row.other (Row.other (Row.other (Row.other (Row.other (Row.other (Row.other (Row.other r1.out (by omega) _) (by omega) _) (by omega) _) (by omega) _) (by omega) _) (by omega) _) (by omega) _) (by omega) _) (by omega) _) (by omega) _) (aM (aM (aM (aM (aM (aM (aM (aM (aM (aM b0.out (ZqE _) _) (ZqE _) _) (ZqE _) _) (ZqE _) _) (ZqE _) _) (ZqE _) _) (ZqE _) _) (ZqE _) _) (ZqE _) _) (ZqE _) _) (by simp; exact HS.out) ?_
  clear R0 HM h3b r0 r1 b0 HS f0 K0 Kx Km Kw K1 K2 K3 K4 K5 K6 K7 K8 K9 K10 K11 K12 Kv Ka Ks B0 B1 B2 B3 B4 B5 B7 KS
  intro W1 r0 r1 b0 s0
  have R0 : Hid (Row W1 w.heap.size (cpc { k with pc := v0, x := upd k.x 0 0#64, md := m, s := upd (upd (upd (upd (upd (upd (upd k.s 0 vs) 1 v1) 2 v2) 3 v3) 4 v4) 5 v5) 7 v7 }) 31) := r0
  have R1 : Hid (Row W1 (w.heap.size + 1) (cpc cz) 31) := r1
  have S0 := hid s0
  have BB : Hid (Below w.heap.size w W1) := b0
  clear r0 r1 b0 s0
  go_upto_region 13 with (first | (refine aY (by rfl) 27 _ (by rfl) w.heap.size 47 (by rfl) (pc k.c k.a) _ R0.out.pmp underlying27 (by rfl) (dU _ _) ?_) | (go_at_call 26; refine (KP.out _).mono ?_; rintro e w2 ⟨rfl, hb2⟩; have HB2 := hid hb2; clear hb2) | (refine aX (by rfl) 27 _ _ (by rfl) (by rfl) w.heap.size 47 (pc (PC k.c) (PA k.a)) (by rfl) (by rfl) ((R0.out.later HB2.out (by rw [S0.out]; omega)).there (by rw [aE, bK]; omega)) (dU _ _) (gN _ _) ?_))
  refine gE (motive := fun W => Code.wp _ _ _ _ W) (a := w) (B := w.heap.size) (n := w2.heap.size) (gT ((R0.out.later HB2.out (by rw [S0.out]; omega)).lay (pc (PC k.c) (PA k.a)).toList 47) (show _ = cpc { pc := v0, x := upd k.x 0 0#64, md := m, wt := k.wt, s := upd (upd (upd (upd (upd (upd (upd k.s 0 vs) 1 v1) 2 v2) 3 v3) 4 v4) 5 v5) 7 v7, c := PC k.c, a := PA k.a, rv := k.rv, ra := k.ra, rs := k.rs } from tJ _ _ _)) (Row.lays (by omega) _ _ (R1.out.later HB2.out (by rw [S0.out]; omega))) (cZ (ZqE _) _ _ (BB.out.trans (HB2.out.mono (by rw [S0.out]; omega)))) (lD _ _ _ _) ?_
  have SS : Hid (w.heap.size + 2 ≤ w2.heap.size) := by have := HB2.out.size; rw [S0.out] at this; exact this
  clear R0 R1 S0 BB HB2 KP
  intro W3 r0 r1 b0 s0
  have R0 : Hid (Row W3 w.heap.size (cpc { pc := v0, x := upd k.x 0 0#64, md := m, wt := k.wt, s := upd (upd (upd (upd (upd (upd (upd k.s 0 vs) 1 v1) 2 v2) 3 v3) 4 v4) 5 v5) 7 v7, c := PC k.c, a := PA k.a, rv := k.rv, ra := k.ra, rs := k.rs }) 31) := r0
  have R1 : Hid (Row W3 (w.heap.size + 1) (cpc cz) 31) := r1
  have S0 : Hid (w.heap.size + 2 ≤ W3.heap.size) := by show _ ≤ _; rw [s0]; exact SS.out
  have BB : Hid (Below w.heap.size w W3) := b0
  clear r0 r1 b0 s0 SS
  cases ok with
  | true =>
   have HE : Hid (cpc { pc := v0, x := upd k.x 0 0#64, md := m, wt := k.wt, s := upd (upd (upd (upd (upd (upd (upd k.s 0 vs) 1 v1) 2 v2) 3 v3) 4 v4) 5 v5) 7 v7, c := PC k.c, a := PA k.a, rv := k.rv, ra := k.ra, rs := k.rs } = cpc (PR k)) := by (have hk := HOK.out; rw [HF.out, if_pos hk, if_pos hk, hk]; exact Alk.cells ⟨rfl, fun _ _ => rfl, rfl, rfl, HV.out, fun _ _ => rfl, fun _ _ => rfl, by (show k.rv = true; rw [LA] at hk; clear R0 R1 S0 BB HF HV HOK; simp_all), rfl, rfl⟩)
   go_upto_region 15 with (first | (refine aY (by rfl) 29 _ (by rfl) w.heap.size 79 (by rfl) (rsc k.rv k.ra k.rs) _ R0.out.res underlying29 (by rfl) (cK _ _ _) ?_) | (go_at_call 27; refine (KR.out _).mono ?_; rintro e w4 ⟨rfl, hb2⟩; have HB4 := hid hb2; clear hb2))
   refine gE (motive := fun W => Code.wp _ _ _ _ W) (a := w) (B := w.heap.size) (n := w4.heap.size) (gT (R0.out.later HB4.out R0.out.lt) HE.out) (R1.out.later HB4.out R1.out.lt) (BB.out.trans (HB4.out.mono BB.out.size)) rfl ?_
   clear R0 R1 S0 BB HB4 HE HF HV KR HOK
   intro W5 r0 r1 b0 s0
   have R0 : Hid (Row W5 w.heap.size (cpc (PR k)) 31) := r0
   have R1 : Hid (Row W5 (w.heap.size + 1) (cpc cz) 31) := r1
   have BB : Hid (Below w.heap.size w W5) := b0
   clear r0 r1 b0 s0
   go_wp2_with (first | (refine wpList_load_row (by rfl) _ _ (by rfl) _ (by rfl) 31 _ (0, 0) _ R0.out underlying31 (by rfl) (aB _) ?_) | (refine aA (by rfl) _ _ _ (by rfl) (by rfl) _ _ _ (by rfl) (by rfl) R1.out (aB _) (by rw [aE, aE]) (aO _) ?_))
   refine ZqH (v := .agg (cpc (PR k))) ?_ rfl ⟨rfl, ?_⟩
   ·exact ZqM results10 _ _ (w.heap.size + 1) 31 _ (0, 0) _ (by rfl) (ZqW _ _ _ _ _ _ R1.out) underlying31 (by rfl) (aB _)
   ·exact aW BB.out (by omega) _
  | false =>
   have HE : Hid (cpc { ({ pc := v0, x := upd k.x 0 0#64, md := m, wt := k.wt, s := upd (upd (upd (upd (upd (upd (upd k.s 0 vs) 1 v1) 2 v2) 3 v3) 4 v4) 5 v5) 7 v7, c := PC k.c, a := PA k.a, rv := k.rv, ra := k.ra, rs := k.rs } : Cp) with rv := false, ra := 0#64, rs := 0 } = cpc (PR k)) := by (have hk := HOK.out; rw [HF.out, if_neg (by rw [hk]; decide), if_neg (by rw [hk]; decide), hk]; exact Alk.cells ⟨rfl, fun _ _ => rfl, rfl, rfl, HV.out, fun _ _ => rfl, fun _ _ => rfl, rfl, rfl, rfl⟩)
   go_upto_region 15 with (first | (refine aY (by rfl) 29 _ (by rfl) w.heap.size 79 (by rfl) (rsc k.rv k.ra k.rs) _ R0.out.res underlying29 (by rfl) (cK _ _ _) ?_) | (go_at_call 27; refine (KR.out _).mono ?_; rintro e w4 ⟨rfl, hb2⟩; have HB4 := hid hb2; clear hb2) | (refine aX (by rfl) 29 _ _ (by rfl) (by rfl) w.heap.size 79 (rsc false 0#64 0) (by rfl) (by rfl) ((R0.out.later HB4.out R0.out.lt).there (by rw [aE]; decide)) (cK _ _ _) (fF _ _ _) ?_))
   refine gE (motive := fun W => Code.wp _ _ _ _ W) (a := w) (B := w.heap.size) (n := w4.heap.size) (gT ((R0.out.later HB4.out R0.out.lt).lay (rsc false 0#64 0).toList 79) ((iP _ _ _ _).trans HE.out)) (Row.lays (by omega) _ _ (R1.out.later HB4.out R1.out.lt)) (cZ (ZqE _) _ _ (BB.out.trans (HB4.out.mono BB.out.size))) (lD _ _ _ _) ?_
   clear R0 R1 S0 BB HB4 HE HF HV KR HOK
   intro W5 r0 r1 b0 s0
   have R0 : Hid (Row W5 w.heap.size (cpc (PR k)) 31) := r0
   have R1 : Hid (Row W5 (w.heap.size + 1) (cpc cz) 31) := r1
   have BB : Hid (Below w.heap.size w W5) := b0
   clear r0 r1 b0 s0
   go_wp2_with (first | (refine wpList_load_row (by rfl) _ _ (by rfl) _ (by rfl) 31 _ (0, 0) _ R0.out underlying31 (by rfl) (aB _) ?_) | (refine aA (by rfl) _ _ _ (by rfl) (by rfl) _ _ _ (by rfl) (by rfl) R1.out (aB _) (by rw [aE, aE]) (aO _) ?_))
   refine ZqH (v := .agg (cpc (PR k))) ?_ rfl ⟨rfl, ?_⟩
   ·exact ZqM results10 _ _ (w.heap.size + 1) 31 _ (0, 0) _ (by rfl) (ZqW _ _ _ _ _ _ R1.out) underlying31 (by rfl) (aB _)
   ·exact aW BB.out (by omega) _
section
variable {H : Type} {enc : TypeId × Value → H} {w : World} {base : Nat} {held : Bool}
theorem gC {cs : List Value} {o : Nat} {v : Value} (h : (cs.drop o).take 1 = [v]) : cs[o]? = some v := by
 have h2 : ((cs.drop o).take 1)[0]? = some v := by rw [h]; rfl
 simpa using h2
theorem open_ints {k : IntKind} {t e : TypeId} {fuel m : Nat} {cs : List Value} {y : DataW H × List MemPlace} (ht : prog.underlying t = some (.array m e)) (he : prog.underlying e = some (.int k)) (hce : prog.cellsOf e = 1)
  (h : DataW.trod enc prog w base (fun _ => true) held fuel t cs = some y) : ∀ j, j < m → ∃ n, cs[j]? = some (.int k n) ∧ (Lit.int k n).wf = true := by
 obtain ⟨xs, m', _, _, _, hxl, hx⟩ := DataW.trod_array ht h
 intro j hj
 have h1 := hx j hj
 obtain ⟨q, hq⟩ : ∃ q, xs[j]? = some q := ⟨_, List.getElem?_eq_getElem (by omega)⟩
 rw [hq, hce, Nat.mul_one] at h1
 obtain ⟨n, e0, _, hw⟩ := ZqI he h1
 refine ⟨n, ?_, hw⟩
 have h2 : ((cs.drop j).take 1)[0]? = some (.int k n) := by rw [e0]; rfl
 simpa using h2
theorem CJ : prog.cellsOf 31 = 82 := by kernel_rfl
theorem JS {fuel : Nat} {cs : List Value} {y : DataW H × List MemPlace} (h : DataW.trod enc prog w base (fun _ => true) held fuel 31 cs = some y) : ∃ k : Cp, cs = (cpc k).toList := by
 obtain ⟨xs, n, _, rfl, hl, hlen, hf⟩ := DataW.trod_struct underlying31 h
 rw [CJ] at hl
 have cI : prog.cellsOf 3 = 1 := by kernel_rfl
 have cB : prog.cellsOf 4 = 1 := by kernel_rfl
 have cU : prog.cellsOf 22 = 1 := by kernel_rfl
 have cX : prog.cellsOf 23 = 32 := by kernel_rfl
 have cP : prog.cellsOf 27 = 32 := by kernel_rfl
 have cR : prog.cellsOf 29 = 3 := by kernel_rfl
 match xs, (show xs.length = 18 from hlen), hf with
 | [y0, y1, y2, y3, y4, y5, y6, y7, y8, y9, y10, y11, y12, y13, y14, y15, y16, y17], _, hf =>
  have g0 : DataW.trod enc prog w base (fun _ => true) held n 22 ((cs.drop 0).take 1) = some y0 := by
   have := hf 0 _ rfl
   have this : DataW.trod enc prog w base (fun _ => true) held n 22 ((cs.drop 0).take (prog.cellsOf 22)) = some y0 := this
   rwa [cU] at this
  obtain ⟨z0, e0, _, w0⟩ := ZqI underlying22 g0
  obtain ⟨v0, rfl⟩ := dV w0
  replace e0 := gC e0
  have g1 : DataW.trod enc prog w base (fun _ => true) held n 23 ((cs.drop 1).take 32) = some y1 := by
   have := hf 1 _ rfl
   have this : DataW.trod enc prog w base (fun _ => true) held n 23 ((cs.drop 1).take (prog.cellsOf 23)) = some y1 := this
   rwa [cX] at this
  have g2 : DataW.trod enc prog w base (fun _ => true) held n 3 ((cs.drop 33).take 1) = some y2 := by
   have := hf 2 _ rfl
   have this : DataW.trod enc prog w base (fun _ => true) held n 3 ((cs.drop 33).take (prog.cellsOf 3)) = some y2 := this
   rwa [cI] at this
  obtain ⟨v2, e2, _, w2⟩ := ZqI underlying3 g2
  replace e2 := gC e2
  have g3 : DataW.trod enc prog w base (fun _ => true) held n 4 ((cs.drop 34).take 1) = some y3 := by
   have := hf 3 _ rfl
   have this : DataW.trod enc prog w base (fun _ => true) held n 4 ((cs.drop 34).take (prog.cellsOf 4)) = some y3 := this
   rwa [cB] at this
  obtain ⟨v3, e3, _⟩ := DataW.trod_bool underlying4 g3
  replace e3 := gC e3
  have g4 : DataW.trod enc prog w base (fun _ => true) held n 22 ((cs.drop 35).take 1) = some y4 := by
   have := hf 4 _ rfl
   have this : DataW.trod enc prog w base (fun _ => true) held n 22 ((cs.drop 35).take (prog.cellsOf 22)) = some y4 := this
   rwa [cU] at this
  obtain ⟨z4, e4, _, w4⟩ := ZqI underlying22 g4
  obtain ⟨v4, rfl⟩ := dV w4
  replace e4 := gC e4
  have g5 : DataW.trod enc prog w base (fun _ => true) held n 22 ((cs.drop 36).take 1) = some y5 := by
   have := hf 5 _ rfl
   have this : DataW.trod enc prog w base (fun _ => true) held n 22 ((cs.drop 36).take (prog.cellsOf 22)) = some y5 := this
   rwa [cU] at this
  obtain ⟨z5, e5, _, w5⟩ := ZqI underlying22 g5
  obtain ⟨v5, rfl⟩ := dV w5
  replace e5 := gC e5
  have g6 : DataW.trod enc prog w base (fun _ => true) held n 22 ((cs.drop 37).take 1) = some y6 := by
   have := hf 6 _ rfl
   have this : DataW.trod enc prog w base (fun _ => true) held n 22 ((cs.drop 37).take (prog.cellsOf 22)) = some y6 := this
   rwa [cU] at this
  obtain ⟨z6, e6, _, w6⟩ := ZqI underlying22 g6
  obtain ⟨v6, rfl⟩ := dV w6
  replace e6 := gC e6
  have g7 : DataW.trod enc prog w base (fun _ => true) held n 22 ((cs.drop 38).take 1) = some y7 := by
   have := hf 7 _ rfl
   have this : DataW.trod enc prog w base (fun _ => true) held n 22 ((cs.drop 38).take (prog.cellsOf 22)) = some y7 := this
   rwa [cU] at this
  obtain ⟨z7, e7, _, w7⟩ := ZqI underlying22 g7
  obtain ⟨v7, rfl⟩ := dV w7
  replace e7 := gC e7
  have g8 : DataW.trod enc prog w base (fun _ => true) held n 22 ((cs.drop 39).take 1) = some y8 := by
   have := hf 8 _ rfl
   have this : DataW.trod enc prog w base (fun _ => true) held n 22 ((cs.drop 39).take (prog.cellsOf 22)) = some y8 := this
   rwa [cU] at this
  obtain ⟨z8, e8, _, w8⟩ := ZqI underlying22 g8
  obtain ⟨v8, rfl⟩ := dV w8
  replace e8 := gC e8
  have g9 : DataW.trod enc prog w base (fun _ => true) held n 22 ((cs.drop 40).take 1) = some y9 := by
   have := hf 9 _ rfl
   have this : DataW.trod enc prog w base (fun _ => true) held n 22 ((cs.drop 40).take (prog.cellsOf 22)) = some y9 := this
   rwa [cU] at this
  obtain ⟨z9, e9, _, w9⟩ := ZqI underlying22 g9
  obtain ⟨v9, rfl⟩ := dV w9
  replace e9 := gC e9
  have g10 : DataW.trod enc prog w base (fun _ => true) held n 22 ((cs.drop 41).take 1) = some y10 := by
   have := hf 10 _ rfl
   have this : DataW.trod enc prog w base (fun _ => true) held n 22 ((cs.drop 41).take (prog.cellsOf 22)) = some y10 := this
   rwa [cU] at this
  obtain ⟨z10, e10, _, w10⟩ := ZqI underlying22 g10
  obtain ⟨v10, rfl⟩ := dV w10
  replace e10 := gC e10
  have g11 : DataW.trod enc prog w base (fun _ => true) held n 22 ((cs.drop 42).take 1) = some y11 := by
   have := hf 11 _ rfl
   have this : DataW.trod enc prog w base (fun _ => true) held n 22 ((cs.drop 42).take (prog.cellsOf 22)) = some y11 := this
   rwa [cU] at this
  obtain ⟨z11, e11, _, w11⟩ := ZqI underlying22 g11
  obtain ⟨v11, rfl⟩ := dV w11
  replace e11 := gC e11
  have g12 : DataW.trod enc prog w base (fun _ => true) held n 22 ((cs.drop 43).take 1) = some y12 := by
   have := hf 12 _ rfl
   have this : DataW.trod enc prog w base (fun _ => true) held n 22 ((cs.drop 43).take (prog.cellsOf 22)) = some y12 := this
   rwa [cU] at this
  obtain ⟨z12, e12, _, w12⟩ := ZqI underlying22 g12
  obtain ⟨v12, rfl⟩ := dV w12
  replace e12 := gC e12
  have g13 : DataW.trod enc prog w base (fun _ => true) held n 22 ((cs.drop 44).take 1) = some y13 := by
   have := hf 13 _ rfl
   have this : DataW.trod enc prog w base (fun _ => true) held n 22 ((cs.drop 44).take (prog.cellsOf 22)) = some y13 := this
   rwa [cU] at this
  obtain ⟨z13, e13, _, w13⟩ := ZqI underlying22 g13
  obtain ⟨v13, rfl⟩ := dV w13
  replace e13 := gC e13
  have g14 : DataW.trod enc prog w base (fun _ => true) held n 22 ((cs.drop 45).take 1) = some y14 := by
   have := hf 14 _ rfl
   have this : DataW.trod enc prog w base (fun _ => true) held n 22 ((cs.drop 45).take (prog.cellsOf 22)) = some y14 := this
   rwa [cU] at this
  obtain ⟨z14, e14, _, w14⟩ := ZqI underlying22 g14
  obtain ⟨v14, rfl⟩ := dV w14
  replace e14 := gC e14
  have g15 : DataW.trod enc prog w base (fun _ => true) held n 22 ((cs.drop 46).take 1) = some y15 := by
   have := hf 15 _ rfl
   have this : DataW.trod enc prog w base (fun _ => true) held n 22 ((cs.drop 46).take (prog.cellsOf 22)) = some y15 := this
   rwa [cU] at this
  obtain ⟨z15, e15, _, w15⟩ := ZqI underlying22 g15
  obtain ⟨v15, rfl⟩ := dV w15
  replace e15 := gC e15
  have g16 : DataW.trod enc prog w base (fun _ => true) held n 27 ((cs.drop 47).take 32) = some y16 := by
   have := hf 16 _ rfl
   have this : DataW.trod enc prog w base (fun _ => true) held n 27 ((cs.drop 47).take (prog.cellsOf 27)) = some y16 := this
   rwa [cP] at this
  have g17 : DataW.trod enc prog w base (fun _ => true) held n 29 ((cs.drop 79).take 3) = some y17 := by
   have := hf 17 _ rfl
   have this : DataW.trod enc prog w base (fun _ => true) held n 29 ((cs.drop 79).take (prog.cellsOf 29)) = some y17 := this
   rwa [cR] at this
  have oX := open_ints underlying23 underlying22 cU g1
  have pX : ∀ j, ∃ x : BitVec 64, j < 32 → cs[1 + j]? = some (.int .u64 (n64 x)) := fun j => by
   by_cases hj : j < 32
   ·obtain ⟨z, hz, hw⟩ := oX j hj
    obtain ⟨x, rfl⟩ := dV hw
    exact ⟨x, fun _ => by rw [List.getElem?_take_of_lt hj, List.getElem?_drop] at hz; exact hz⟩
   ·exact ⟨0#64, fun h => absurd h hj⟩
  obtain ⟨c, a, eP⟩ := JU g16
  have pP : ∀ j, j < 32 → cs[47 + j]? = some (eF c a j) := fun j hj => by
   have h2 : ((cs.drop 47).take 32)[j]? = some (eF c a j) := by rw [eP, Array.getElem?_toList, gB _ _ _ hj]
   rw [List.getElem?_take_of_lt hj, List.getElem?_drop] at h2; exact h2
  obtain ⟨zs, n', _, en, hl17, hlen17, hf17⟩ := DataW.trod_struct underlying29 g17
  match zs, (show zs.length = 3 from hlen17), hf17 with
  | [z0, z1, z2], _, hf17 =>
   have h0 : DataW.trod enc prog w base (fun _ => true) held n' 4 (((cs.drop 79).take 3).drop 0 |>.take 1) = some z0 := by
    have := hf17 0 _ rfl
    have this : DataW.trod enc prog w base (fun _ => true) held n' 4 (((cs.drop 79).take 3).drop 0 |>.take (prog.cellsOf 4)) = some z0 := this
    rwa [cB] at this
   have h1 : DataW.trod enc prog w base (fun _ => true) held n' 22 (((cs.drop 79).take 3).drop 1 |>.take 1) = some z1 := by
    have := hf17 1 _ rfl
    have this : DataW.trod enc prog w base (fun _ => true) held n' 22 (((cs.drop 79).take 3).drop 1 |>.take (prog.cellsOf 22)) = some z1 := this
    rwa [cU] at this
   have h2 : DataW.trod enc prog w base (fun _ => true) held n' 3 (((cs.drop 79).take 3).drop 2 |>.take 1) = some z2 := by
    have := hf17 2 _ rfl
    have this : DataW.trod enc prog w base (fun _ => true) held n' 3 (((cs.drop 79).take 3).drop 2 |>.take (prog.cellsOf 3)) = some z2 := this
    rwa [cI] at this
   obtain ⟨rv, f0, _⟩ := DataW.trod_bool underlying4 h0
   obtain ⟨i1, f1, _, u1⟩ := ZqI underlying22 h1
   obtain ⟨ra, rfl⟩ := dV u1
   obtain ⟨rs, f2, _, _⟩ := ZqI underlying3 h2
   replace f0 := gC f0
   replace f1 := gC f1
   replace f2 := gC f2
   rw [List.getElem?_take_of_lt (by omega), List.getElem?_drop] at f0 f1 f2
   refine ⟨⟨v0, fun j => (pX j).choose, v2, v3, fun j => match j with | 0 => v4 | 1 => v5 | 2 => v6 | 3 => v7 | 4 => v8 | 5 => v9 | 6 => v10 | 7 => v11 | 8 => v12 | 9 => v13 | 10 => v14 | _ => v15, c, a, rv, ra, rs⟩, ?_⟩
   apply List.ext_getElem?
   intro j
   rw [Array.getElem?_toList (xs := cpc _)]
   by_cases hj : j < 82
   ·rw [bG _ _ hj]
    unfold cF
    split
    ·rename_i h; subst h; exact e0
    split
    ·rename_i h h'
     exact (congrArg (fun q => cs[q]?) (show j = 1 + (j - 1) by omega)).trans ((pX (j - 1)).choose_spec (by omega))
    split
    ·rename_i h; subst h; exact e2
    split
    ·rename_i h; subst h; exact e3
    split
    ·rename_i h1 h2 h3 h4 h5
     have hs : ∀ i, i < 12 → cs[35 + i]? = some (.int .u64 (n64 (match i with | 0 => v4 | 1 => v5 | 2 => v6 | 3 => v7 | 4 => v8 | 5 => v9 | 6 => v10 | 7 => v11 | 8 => v12 | 9 => v13 | 10 => v14 | _ => v15))) := fun i hi => by
      match i, hi with
      | 0, _ => exact e4
      | 1, _ => exact e5
      | 2, _ => exact e6
      | 3, _ => exact e7
      | 4, _ => exact e8
      | 5, _ => exact e9
      | 6, _ => exact e10
      | 7, _ => exact e11
      | 8, _ => exact e12
      | 9, _ => exact e13
      | 10, _ => exact e14
      | 11, _ => exact e15
      | i + 12, h => exact absurd h (by omega)
     have := hs (j - 35) (by omega)
     rwa [show 35 + (j - 35) = j by omega] at this
    split
    ·have := pP (j - 47) (by omega)
     rwa [show 47 + (j - 47) = j by omega] at this
    split
    ·rename_i h; subst h; exact f0
    split
    ·rename_i h; subst h; exact f1
    ·have : j = 81 := by omega
     subst this; exact f2
   ·rw [List.getElem?_eq_none (by omega), Array.getElem?_eq_none (by rw [aE]; omega)]
theorem open_cpu1 {b0 : Nat} {v : Value} {d : DataW H} {p : List MemPlace} (hv : Value.okWide prog w .any b0 31 v) (h : DataW.Trod enc prog w base (fun _ => true) held 31 v d p) : ∃ k : Cp, v = .agg (cpc k) := by
 obtain ⟨cs, rfl, _⟩ := okWide_struct underlying31 hv
 obtain ⟨fuel, hf⟩ := h
 obtain ⟨k, e⟩ := JS hf
 refine ⟨k, ?_⟩
 cases cs
 simpa [Value.cells] using congrArg List.toArray e
end
end Go.Proofs.YtddlmenfcbjoaaaGreatDoor
