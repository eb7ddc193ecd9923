/-
  Pop Cpa.
-/
import Derived.Test.YthmjimmmkoeeoaaDoorM03
import Derived.SizedLaws
import Derived.OpenShut
import Derived.Deep.MidRow
namespace Go.Proofs.YthmjimmmkoeeoaaDoor
set_option linter.unusedVariables false
open Go.ChangeShapes Go.WideShapes Go.ChangeAt Go.RowKit Go.Deep
section
variable {H : Type} {enc : TypeId × Value → H} {w : World} {base : Nat} {held : Bool}
theorem open_ints16 {k : IntKind} {t e : TypeId} {fuel : Nat} {cs : List Value} {y : DataW H × List MemPlace} (ht : Tryd.prog.underlying t = some (.array 16 e)) (he : Tryd.prog.underlying e = some (.int k)) (hce : Tryd.prog.cellsOf e = 1)
    (h : DataW.trod enc Tryd.prog w base (fun _ => true) held fuel t cs = some y) (hl : cs.length = 16) : ∀ j, j < 16 → ∃ n, cs[j]? = some (.int k n) ∧ (Lit.int k n).wf = true := by
  obtain ⟨xs, m, _, _, _, hxl, hx⟩ := DataW.trod_array ht h
  intro j hj
  have h1 := hx j hj
  obtain ⟨q, hq⟩ : ∃ q, xs[j]? = some q := ⟨_, List.getElem?_eq_getElem (by omega)⟩
  rw [hq, hce, Nat.mul_one] at h1
  obtain ⟨n, e0, _, hw⟩ := DataW.trod_int he h1
  refine ⟨n, ?_, hw⟩
  have h2 : ((cs.drop j).take 1)[0]? = some (.int k n) := by rw [e0]; rfl
  simpa using h2
theorem cells_pmp : Tryd.prog.cellsOf 27 = 32 := by kernel_rfl
theorem cells_c16 : Tryd.prog.cellsOf 24 = 16 := by kernel_rfl
theorem cells_a16 : Tryd.prog.cellsOf 25 = 16 := by kernel_rfl
theorem open_pmp {fuel : Nat} {cs : List Value} {y : DataW H × List MemPlace} (h : DataW.trod enc Tryd.prog w base (fun _ => true) held fuel 27 cs = some y) : ∃ (c : Nat → BitVec 8) (a : Nat → BitVec 64), cs = (pc c a).toList := by
  obtain ⟨xs, n, _, rfl, hl, hlen, hf⟩ := DataW.trod_struct Tryd.underlying27 h
  rw [cells_pmp] at hl
  match xs, (show xs.length = 2 from hlen), hf with
  | [y0, y1], _, hf =>
    have g0 : DataW.trod enc Tryd.prog w base (fun _ => true) held n 24 (cs.take 16) = some y0 := by
      have := hf 0 _ rfl
      simpa [cells_c16] using this
    have g1 : DataW.trod enc Tryd.prog w base (fun _ => true) held n 25 ((cs.drop 16).take 16) = some y1 := by
      have := hf 1 _ rfl
      simpa [cells_a16] using this
    have o0 := open_ints16 Tryd.underlying24 Tryd.underlying5 (by kernel_rfl) g0 (by simp; omega)
    have o1 := open_ints16 Tryd.underlying25 Tryd.underlying22 (by kernel_rfl) g1 (by simp; omega)
    have p0 : ∀ j, ∃ x : BitVec 8, j < 16 → cs[j]? = some (.int .u8 (n8 x)) := fun j => by
      by_cases hj : j < 16
      · obtain ⟨z, hz, hw⟩ := o0 j hj
        obtain ⟨x, rfl⟩ := n8_of hw
        exact ⟨x, fun _ => by rw [List.getElem?_take_of_lt hj] at hz; exact hz⟩
      · exact ⟨0#8, fun h => absurd h hj⟩
    have p1 : ∀ j, ∃ x : BitVec 64, j < 16 → cs[16 + j]? = some (.int .u64 (n64 x)) := fun j => by
      by_cases hj : j < 16
      · obtain ⟨z, hz, hw⟩ := o1 j hj
        obtain ⟨x, rfl⟩ := n64_of hw
        exact ⟨x, fun _ => by rw [List.getElem?_take_of_lt hj, List.getElem?_drop] at hz; exact hz⟩
      · exact ⟨0#64, fun h => absurd h hj⟩
    refine ⟨fun j => (p0 j).choose, fun j => (p1 j).choose, ?_⟩
    apply List.ext_getElem?
    intro j
    rw [Array.getElem?_toList (xs := pc _ _)]
    by_cases hj : j < 32
    · rw [pc_at _ _ _ hj, pcell]
      split
      · rename_i h16
        exact (p0 j).choose_spec h16
      · rename_i h16
        exact (congrArg (fun q => cs[q]?) (show j = 16 + (j - 16) by omega)).trans ((p1 (j - 16)).choose_spec (by omega))
    · rw [List.getElem?_eq_none (by omega), Array.getElem?_eq_none (by rw [pc_size]; omega)]
/-- The cells of an Ask. -/
def askc (c : Nat → BitVec 8) (a : Nat → BitVec 64) (i : Int) (v : BitVec 64) (m : Int) (ad : BitVec 64) (s b : Int) : Array Value := pc c a ++ #[.int .i64 i, .int .u64 (n64 v), .int .i64 m, .int .u64 (n64 ad), .int .i64 s, .int .i64 b]
theorem askc_size (c : Nat → BitVec 8) (a : Nat → BitVec 64) (i : Int) (v : BitVec 64) (m : Int) (ad : BitVec 64) (s b : Int) : (askc c a i v m ad s b).size = 38 := by simp [askc, pc_size]
def I64 (n : Int) : Prop := -9223372036854775808 ≤ n ∧ n ≤ 9223372036854775807
theorem open_ask {T : TypeId} {fuel : Nat} {cs : List Value} {y : DataW H × List MemPlace} {f0 f1 f2 f3 f4 f5 f6 : Field} (hT : Tryd.prog.underlying T = some (.struct #[f0, f1, f2, f3, f4, f5, f6])) (hC : Tryd.prog.cellsOf T = 38)
    (e0 : f0.type = 27 ∧ f0.offset = 0) (e1 : f1.type = 3 ∧ f1.offset = 32) (e2 : f2.type = 22 ∧ f2.offset = 33) (e3 : f3.type = 3 ∧ f3.offset = 34) (e4 : f4.type = 22 ∧ f4.offset = 35) (e5 : f5.type = 3 ∧ f5.offset = 36) (e6 : f6.type = 3 ∧ f6.offset = 37)
    (h : DataW.trod enc Tryd.prog w base (fun _ => true) held fuel T cs = some y) :
    ∃ (c : Nat → BitVec 8) (a : Nat → BitVec 64) (i : Int) (v : BitVec 64) (m : Int) (ad : BitVec 64) (s b : Int), cs = (askc c a i v m ad s b).toList ∧ I64 i ∧ I64 m ∧ I64 s ∧ I64 b := by
  obtain ⟨xs, n, _, rfl, hl, hlen, hf⟩ := DataW.trod_struct hT h
  rw [hC] at hl
  have cI : Tryd.prog.cellsOf 3 = 1 := by kernel_rfl
  have cU : Tryd.prog.cellsOf 22 = 1 := by kernel_rfl
  match xs, (show xs.length = 7 from hlen), hf with
  | [y0, y1, y2, y3, y4, y5, y6], _, hf =>
    have g0 := hf 0 f0 rfl
    have g1 := hf 1 f1 rfl
    have g2 := hf 2 f2 rfl
    have g3 := hf 3 f3 rfl
    have g4 := hf 4 f4 rfl
    have g5 := hf 5 f5 rfl
    have g6 := hf 6 f6 rfl
    rw [e0.1, e0.2, cells_pmp] at g0
    rw [e1.1, e1.2, cI] at g1
    rw [e2.1, e2.2, cU] at g2
    rw [e3.1, e3.2, cI] at g3
    rw [e4.1, e4.2, cU] at g4
    rw [e5.1, e5.2, cI] at g5
    rw [e6.1, e6.2, cI] at g6
    obtain ⟨c, a, k0⟩ := open_pmp g0
    obtain ⟨i1, k1, _, w1⟩ := DataW.trod_int Tryd.underlying3 g1
    obtain ⟨i2, k2, _, w2⟩ := DataW.trod_int Tryd.underlying22 g2
    obtain ⟨i3, k3, _, w3⟩ := DataW.trod_int Tryd.underlying3 g3
    obtain ⟨i4, k4, _, w4⟩ := DataW.trod_int Tryd.underlying22 g4
    obtain ⟨i5, k5, _, w5⟩ := DataW.trod_int Tryd.underlying3 g5
    obtain ⟨i6, k6, _, w6⟩ := DataW.trod_int Tryd.underlying3 g6
    obtain ⟨v, rfl⟩ := n64_of w2
    obtain ⟨ad, rfl⟩ := n64_of w4
    refine ⟨c, a, i1, v, i3, ad, i5, i6, ?_, bounds_i64 w1, bounds_i64 w3, bounds_i64 w5, bounds_i64 w6⟩
    have t : ∀ k, k < 38 → cs.drop k = (cs.drop k).take 1 ++ cs.drop (k + 1) := fun k hk => by
      rw [← List.drop_drop, List.take_append_drop]
    have q : cs = (cs.drop 0).take 32 ++ cs.drop 32 := by simp
    rw [q, k0, t 32 (by omega), k1, t 33 (by omega), k2, t 34 (by omega), k3, t 35 (by omega), k4, t 36 (by omega), k5, t 37 (by omega), k6, List.drop_eq_nil_of_le (by omega)]
    simp [askc]
end
end Go.Proofs.YthmjimmmkoeeoaaDoor
namespace Go.Proofs.YthmjimmmkoeeoaaDoor
set_option linter.unusedVariables false
open Go.ChangeShapes Go.WideShapes Go.ChangeAt Go.RowKit Go.Deep
/-- A Cpu: s: the twelve registers that are kept; c, a: the entries of protection; rv, ra, rs: the reservation. -/
structure Cp where
  pc : BitVec 64
  x : Nat → BitVec 64
  md : Int
  wt : Bool
  s : Nat → BitVec 64
  c : Nat → BitVec 8
  a : Nat → BitVec 64
  rv : Bool
  ra : BitVec 64
  rs : Int
def cpcell (k : Cp) (j : Nat) : Value :=
  if j = 0 then .int .u64 (n64 k.pc) else if j < 33 then .int .u64 (n64 (k.x (j - 1))) else if j = 33 then .int .i64 k.md else if j = 34 then .bool k.wt else if j < 47 then .int .u64 (n64 (k.s (j - 35)))
  else if j < 79 then pcell k.c k.a (j - 47) else if j = 79 then .bool k.rv else if j = 80 then .int .u64 (n64 k.ra) else .int .i64 k.rs
def cpc (k : Cp) : Array Value := Array.ofFn (n := 82) fun j => cpcell k j.val
theorem cpc_size (k : Cp) : (cpc k).size = 82 := by simp [cpc]
theorem cpc_at (k : Cp) (j : Nat) (h : j < 82) : (cpc k)[j]? = some (cpcell k j) := by simp [cpc, h]
theorem pcell_one (c : Nat → BitVec 8) (a : Nat → BitVec 64) (j : Nat) : (pcell c a j).oneCell' = true := by unfold pcell; split <;> rfl
theorem cpcell_one (k : Cp) (j : Nat) : (cpcell k j).oneCell' = true := by
  unfold cpcell
  repeat' split
  all_goals first | rfl | exact pcell_one _ _ _
theorem cpc_ones (k : Cp) : (cpc k).all (·.oneCell') = true := by
  rw [Array.all_eq_true]; intro i hi; simp [cpc]; exact cpcell_one _ _
theorem cpc_congr {k k' : Cp} (h : ∀ j, j < 82 → cpcell k j = cpcell k' j) : cpc k = cpc k' := by
  apply Array.ext_getElem?
  intro j
  by_cases hj : j < 82
  · rw [cpc_at _ _ hj, cpc_at _ _ hj, h j hj]
  · simp [cpc, hj]
theorem cpc_cell {k k' : Cp} (h : cpc k = cpc k') (j : Nat) (hj : j < 82) : cpcell k j = cpcell k' j := by
  have := congrArg (fun z : Array Value => z[j]?) h
  simp only [cpc_at _ _ hj] at this
  exact Option.some.inj this
theorem cpcell_pc (k : Cp) : cpcell k 0 = .int .u64 (n64 k.pc) := rfl
theorem cpcell_x (k : Cp) (i : Nat) (h : i < 32) : cpcell k (1 + i) = .int .u64 (n64 (k.x i)) := by
  unfold cpcell; rw [if_neg (by omega), if_pos (by omega), Nat.add_sub_cancel_left]
theorem cpcell_md (k : Cp) : cpcell k 33 = .int .i64 k.md := rfl
theorem cpcell_wt (k : Cp) : cpcell k 34 = .bool k.wt := rfl
theorem cpcell_s (k : Cp) (i : Nat) (h : i < 12) : cpcell k (35 + i) = .int .u64 (n64 (k.s i)) := by
  unfold cpcell; rw [if_neg (by omega), if_neg (by omega), if_neg (by omega), if_neg (by omega), if_pos (by omega), Nat.add_sub_cancel_left]
theorem cpcell_p (k : Cp) (i : Nat) (h : i < 32) : cpcell k (47 + i) = pcell k.c k.a i := by
  unfold cpcell; rw [if_neg (by omega), if_neg (by omega), if_neg (by omega), if_neg (by omega), if_neg (by omega), if_pos (by omega), Nat.add_sub_cancel_left]
theorem cpcell_rv (k : Cp) : cpcell k 79 = .bool k.rv := rfl
theorem cpcell_ra (k : Cp) : cpcell k 80 = .int .u64 (n64 k.ra) := rfl
theorem cpcell_rs (k : Cp) : cpcell k 81 = .int .i64 k.rs := rfl
/-- Two Cpus that show the same. -/
structure Alk (k k' : Cp) : Prop where
  pc : k.pc = k'.pc
  x : ∀ j, j < 32 → k.x j = k'.x j
  md : k.md = k'.md
  wt : k.wt = k'.wt
  s : ∀ j, j < 12 → k.s j = k'.s j
  c : ∀ j, j < 16 → k.c j = k'.c j
  a : ∀ j, j < 16 → k.a j = k'.a j
  rv : k.rv = k'.rv
  ra : k.ra = k'.ra
  rs : k.rs = k'.rs
theorem Alk.cells {k k' : Cp} (h : Alk k k') : cpc k = cpc k' := by
  refine cpc_congr fun j hj => ?_
  unfold cpcell
  split
  · rw [h.pc]
  split
  · rw [h.x _ (by omega)]
  split
  · rw [h.md]
  split
  · rw [h.wt]
  split
  · rw [h.s _ (by omega)]
  split
  · unfold pcell
    split
    · rw [h.c _ (by omega)]
    · rw [h.a _ (by omega)]
  split
  · rw [h.rv]
  split
  · rw [h.ra]
  · rw [h.rs]
theorem int_inj {k : IntKind} {a b : Int} (h : Value.int k a = Value.int k b) : a = b := by cases h; rfl
theorem bool_inj {a b : Bool} (h : Value.bool a = Value.bool b) : a = b := by cases h; rfl
theorem Alk.of {k k' : Cp} (h : cpc k = cpc k') : Alk k k' where
  pc := n64_inj.1 (int_inj (cpc_cell h 0 (by omega)))
  x := fun j hj => by
    have := cpc_cell h (1 + j) (by omega)
    rw [cpcell_x _ _ hj, cpcell_x _ _ hj] at this
    exact n64_inj.1 (int_inj this)
  md := int_inj (cpc_cell h 33 (by omega))
  wt := bool_inj (cpc_cell h 34 (by omega))
  s := fun j hj => by
    have := cpc_cell h (35 + j) (by omega)
    rw [cpcell_s _ _ hj, cpcell_s _ _ hj] at this
    exact n64_inj.1 (int_inj this)
  c := fun j hj => by
    have := cpc_cell h (47 + j) (by omega)
    rw [cpcell_p _ _ (by omega), cpcell_p _ _ (by omega), pcell, pcell, if_pos hj, if_pos hj] at this
    exact n8_inj.1 (int_inj this)
  a := fun j hj => by
    have := cpc_cell h (47 + (16 + j)) (by omega)
    rw [cpcell_p _ _ (by omega), cpcell_p _ _ (by omega), pcell, pcell, if_neg (by omega), if_neg (by omega), Nat.add_sub_cancel_left] at this
    exact n64_inj.1 (int_inj this)
  rv := bool_inj (cpc_cell h 79 (by omega))
  ra := n64_inj.1 (int_inj (cpc_cell h 80 (by omega)))
  rs := int_inj (cpc_cell h 81 (by omega))
theorem Alk.refl (k : Cp) : Alk k k := ⟨rfl, fun _ _ => rfl, rfl, rfl, fun _ _ => rfl, fun _ _ => rfl, fun _ _ => rfl, rfl, rfl, rfl⟩
/-- One cell turned. -/
theorem cpc_set {k k' : Cp} {i : Nat} {v : Value} (hi : i < 82) (h1 : cpcell k' i = v) (h2 : ∀ j, j < 82 → j ≠ i → cpcell k' j = cpcell k j) : (cpc k).setIfInBounds i v = cpc k' := by
  apply Array.ext_getElem?
  intro j
  rw [Array.getElem?_setIfInBounds]
  by_cases hj : j < 82
  · rw [cpc_at _ _ hj, cpc_at _ _ hj, cpc_size]
    by_cases e : i = j
    · subst e; rw [if_pos rfl, if_pos hi, h1]
    · rw [if_neg e, h2 j hj (fun q => e q.symm)]
  · rw [if_neg (by omega), Array.getElem?_eq_none (by rw [cpc_size]; omega), Array.getElem?_eq_none (by rw [cpc_size]; omega)]
theorem cpc_pc (k : Cp) (v : BitVec 64) : (cpc k).setIfInBounds 0 (.int .u64 (n64 v)) = cpc { k with pc := v } := by
  refine cpc_set (by omega) rfl fun j hj hne => ?_
  unfold cpcell
  repeat' split
  all_goals first | rfl | (exfalso; omega)
theorem cpc_md (k : Cp) (v : Int) : (cpc k).setIfInBounds 33 (.int .i64 v) = cpc { k with md := v } := by
  refine cpc_set (by omega) rfl fun j hj hne => ?_
  unfold cpcell
  repeat' split
  all_goals first | rfl | (exfalso; omega)
theorem cpc_wt (k : Cp) (v : Bool) : (cpc k).setIfInBounds 34 (.bool v) = cpc { k with wt := v } := by
  refine cpc_set (by omega) rfl fun j hj hne => ?_
  unfold cpcell
  repeat' split
  all_goals first | rfl | (exfalso; omega)
theorem cpc_rv (k : Cp) (v : Bool) : (cpc k).setIfInBounds 79 (.bool v) = cpc { k with rv := v } := by
  refine cpc_set (by omega) rfl fun j hj hne => ?_
  unfold cpcell
  repeat' split
  all_goals first | rfl | (exfalso; omega)
theorem cpc_ra (k : Cp) (v : BitVec 64) : (cpc k).setIfInBounds 80 (.int .u64 (n64 v)) = cpc { k with ra := v } := by
  refine cpc_set (by omega) rfl fun j hj hne => ?_
  unfold cpcell
  repeat' split
  all_goals first | rfl | (exfalso; omega)
theorem cpc_rs (k : Cp) (v : Int) : (cpc k).setIfInBounds 81 (.int .i64 v) = cpc { k with rs := v } := by
  refine cpc_set (by omega) rfl fun j hj hne => ?_
  unfold cpcell
  repeat' split
  all_goals first | rfl | (exfalso; omega)
theorem cpc_x (k : Cp) (i : Nat) (h : i < 32) (v : BitVec 64) : (cpc k).setIfInBounds (1 + i) (.int .u64 (n64 v)) = cpc { k with x := upd k.x i v } := by
  refine cpc_set (by omega) ?_ fun j hj hne => ?_
  · rw [cpcell_x _ _ h]; simp [upd]
  unfold cpcell
  repeat' split
  all_goals first | rfl | (exfalso; omega) | (simp only [upd]; rw [if_neg (by omega)])
theorem cpc_s (k : Cp) (i : Nat) (h : i < 12) (v : BitVec 64) : (cpc k).setIfInBounds (35 + i) (.int .u64 (n64 v)) = cpc { k with s := upd k.s i v } := by
  refine cpc_set (by omega) ?_ fun j hj hne => ?_
  · rw [cpcell_s _ _ h]; simp [upd]
  unfold cpcell
  repeat' split
  all_goals first | rfl | (exfalso; omega) | (simp only [upd]; rw [if_neg (by omega)])
/-- A list of cells, laid into a row. -/
def layC (cs : Array Value) (o : Nat) : List Value → Array Value
  | [] => cs
  | v :: r => layC (cs.setIfInBounds o v) (o + 1) r
theorem lay_size (o : Nat) : ∀ (l : List Value) (cs : Array Value), (layC cs o l).size = cs.size := fun l => by
  induction l generalizing o with
  | nil => intro cs; rfl
  | cons v r ih => intro cs; rw [layC, ih]; simp
theorem lay_get : ∀ (l : List Value) (o : Nat) (cs : Array Value) (j : Nat), o + l.length ≤ cs.size → (layC cs o l)[j]? = if o ≤ j ∧ j < o + l.length then l[j - o]? else cs[j]?
  | [], o, cs, j, _ => by rw [layC, if_neg (by simp)]
  | v :: r, o, cs, j, h => by
    simp only [List.length_cons] at h
    rw [layC, lay_get r (o + 1) _ j (by simp; omega)]
    simp only [List.length_cons]
    by_cases h1 : o + 1 ≤ j ∧ j < o + 1 + r.length
    · rw [if_pos h1, if_pos (by omega), show j - o = (j - (o + 1)) + 1 by omega, List.getElem?_cons_succ]
    · rw [if_neg h1, Array.getElem?_setIfInBounds]
      by_cases h2 : o = j
      · subst h2; rw [if_pos rfl, if_pos (by omega), if_pos (by omega), Nat.sub_self]; rfl
      · rw [if_neg h2, if_neg (by omega)]
theorem Row.lay {g : Nat} {t : TypeId} : ∀ (l : List Value) (o : Nat) {w : World} {cs : Array Value}, Row w g cs t → Row (w.setCells g o l) g (layC cs o l) t
  | [], _, _, _, h => h
  | v :: r, o, _, _, h => by
    rw [World.setCells, layC]
    exact Row.lay r (o + 1) (h.put v)
theorem Row.lays {g g' : Nat} {cs : Array Value} {t : TypeId} (hne : g ≠ g') : ∀ (l : List Value) (o : Nat) {w : World}, Row w g cs t → Row (w.setCells g' o l) g cs t
  | [], _, _, h => h
  | v :: r, o, _, h => by
    rw [World.setCells]
    exact Row.lays hne r (o + 1) (h.other hne v)
theorem below_lay {B g : Nat} {a : World} (hg : B ≤ g) : ∀ (l : List Value) (o : Nat) {w : World}, Below B a w → Below B a (w.setCells g o l)
  | [], _, _, h => h
  | v :: r, o, _, h => by
    rw [World.setCells]
    exact below_lay hg r (o + 1) (below_put h hg v)
theorem size_lay (g : Nat) : ∀ (l : List Value) (o : Nat) (w : World), (w.setCells g o l).heap.size = w.heap.size
  | [], _, _ => rfl
  | v :: r, o, w => by
    rw [World.setCells, size_lay g r]; simp
theorem Row.there {w : World} {g : Nat} {cs : Array Value} {t : TypeId} (h : Row w g cs t) {o n : Nat} (hn : o + n ≤ cs.size) : w.there g o n := fun j hj =>
  ⟨by rw [h.cell]; simp; omega, h.froz _⟩
/-- The entries of protection, laid into a Cpu. -/
theorem cpc_pmp (k : Cp) (c : Nat → BitVec 8) (a : Nat → BitVec 64) : layC (cpc k) 47 (pc c a).toList = cpc { k with c := c, a := a } := by
  apply Array.ext_getElem?
  intro j
  have hl : (pc c a).toList.length = 32 := by rw [Array.length_toList, pc_size]
  rw [lay_get _ _ _ _ (by rw [hl, cpc_size]; omega), hl]
  by_cases hj : j < 82
  · by_cases h : 47 ≤ j ∧ j < 47 + 32
    · rw [if_pos h, Array.getElem?_toList, pc_at _ _ _ (by omega), cpc_at _ _ hj, ← cpcell_p { k with c := c, a := a } (j - 47) (by omega), show 47 + (j - 47) = j by omega]
    · rw [if_neg h, cpc_at _ _ hj, cpc_at _ _ hj]
      unfold cpcell
      repeat' split
      all_goals first | rfl | (exfalso; omega)
  · rw [if_neg (by omega), Array.getElem?_eq_none (by rw [cpc_size]; omega), Array.getElem?_eq_none (by rw [cpc_size]; omega)]
/-- A reservation, laid into a Cpu. -/
theorem cpc_res (k : Cp) (v : Bool) (a : BitVec 64) (s : Int) : layC (cpc k) 79 [.bool v, .int .u64 (n64 a), .int .i64 s] = cpc { k with rv := v, ra := a, rs := s } := by
  rw [layC, layC, layC, layC, cpc_rv, cpc_ra, cpc_rs]
/-- A Cpu lies at a place. -/
def At (w : World) (g o : Nat) (k : Cp) : Prop := ∀ j, j < 82 → w.cell? ⟨g, o + j, none⟩ = some (cpcell k j)
theorem Row.cpu {w : World} {g : Nat} {k : Cp} {t : TypeId} (h : Row w g (cpc k) t) : At w g 0 k := fun j hj => by rw [h.cell, Nat.zero_add, cpc_at _ _ hj]
theorem At.agg {w : World} {g o : Nat} {k : Cp} (h : At w g o k) : ∀ j v, (cpc k)[j]? = some v → w.cell? ⟨g, o + j, none⟩ = some v := fun j v hv => by
  by_cases hj : j < 82
  · rw [cpc_at _ _ hj] at hv; rw [h j hj]; exact hv
  · rw [Array.getElem?_eq_none (by rw [cpc_size]; omega)] at hv; cases hv
theorem At.pmp {w : World} {g o : Nat} {k : Cp} (h : At w g o k) : ∀ j v, (pc k.c k.a)[j]? = some v → w.cell? ⟨g, o + 47 + j, none⟩ = some v := fun j v hv => by
  by_cases hj : j < 32
  · rw [pc_at _ _ _ hj, ← cpcell_p k j hj] at hv; rw [Nat.add_assoc, h _ (by omega)]; exact hv
  · rw [Array.getElem?_eq_none (by rw [pc_size]; omega)] at hv; cases hv
/-- The cells of a Cpu that stands alone. -/
structure Cls (w : World) (g : Nat) (k : Cp) : Prop where
  pc : w.cell? ⟨g, 0, none⟩ = some (.int .u64 (n64 k.pc))
  x0 : w.cell? ⟨g, 1, none⟩ = some (.int .u64 (n64 (k.x 0)))
  md : w.cell? ⟨g, 33, none⟩ = some (.int .i64 k.md)
  wt : w.cell? ⟨g, 34, none⟩ = some (.bool k.wt)
  s0 : w.cell? ⟨g, 35, none⟩ = some (.int .u64 (n64 (k.s 0)))
  s1 : w.cell? ⟨g, 36, none⟩ = some (.int .u64 (n64 (k.s 1)))
  s2 : w.cell? ⟨g, 37, none⟩ = some (.int .u64 (n64 (k.s 2)))
  s3 : w.cell? ⟨g, 38, none⟩ = some (.int .u64 (n64 (k.s 3)))
  s4 : w.cell? ⟨g, 39, none⟩ = some (.int .u64 (n64 (k.s 4)))
  s5 : w.cell? ⟨g, 40, none⟩ = some (.int .u64 (n64 (k.s 5)))
  s6 : w.cell? ⟨g, 41, none⟩ = some (.int .u64 (n64 (k.s 6)))
  s7 : w.cell? ⟨g, 42, none⟩ = some (.int .u64 (n64 (k.s 7)))
  s8 : w.cell? ⟨g, 43, none⟩ = some (.int .u64 (n64 (k.s 8)))
  s9 : w.cell? ⟨g, 44, none⟩ = some (.int .u64 (n64 (k.s 9)))
  s10 : w.cell? ⟨g, 45, none⟩ = some (.int .u64 (n64 (k.s 10)))
  s11 : w.cell? ⟨g, 46, none⟩ = some (.int .u64 (n64 (k.s 11)))
  rv : w.cell? ⟨g, 79, none⟩ = some (.bool k.rv)
  ra : w.cell? ⟨g, 80, none⟩ = some (.int .u64 (n64 k.ra))
  rs : w.cell? ⟨g, 81, none⟩ = some (.int .i64 k.rs)
theorem At.cls {w : World} {g : Nat} {k : Cp} (h : At w g 0 k) : Cls w g k where
  pc := by have := h 0 (by omega); rwa [Nat.zero_add] at this
  x0 := by have := h 1 (by omega); rwa [Nat.zero_add] at this
  md := by have := h 33 (by omega); rwa [Nat.zero_add] at this
  wt := by have := h 34 (by omega); rwa [Nat.zero_add] at this
  s0 := by have := h 35 (by omega); rwa [Nat.zero_add] at this
  s1 := by have := h 36 (by omega); rwa [Nat.zero_add] at this
  s2 := by have := h 37 (by omega); rwa [Nat.zero_add] at this
  s3 := by have := h 38 (by omega); rwa [Nat.zero_add] at this
  s4 := by have := h 39 (by omega); rwa [Nat.zero_add] at this
  s5 := by have := h 40 (by omega); rwa [Nat.zero_add] at this
  s6 := by have := h 41 (by omega); rwa [Nat.zero_add] at this
  s7 := by have := h 42 (by omega); rwa [Nat.zero_add] at this
  s8 := by have := h 43 (by omega); rwa [Nat.zero_add] at this
  s9 := by have := h 44 (by omega); rwa [Nat.zero_add] at this
  s10 := by have := h 45 (by omega); rwa [Nat.zero_add] at this
  s11 := by have := h 46 (by omega); rwa [Nat.zero_add] at this
  rv := by have := h 79 (by omega); rwa [Nat.zero_add] at this
  ra := by have := h 80 (by omega); rwa [Nat.zero_add] at this
  rs := by have := h 81 (by omega); rwa [Nat.zero_add] at this
end Go.Proofs.YthmjimmmkoeeoaaDoor
