/-
  Cpe Cpb.
-/
import Derived.Test.YthmjimmmkoeeoaaDoorM04
import Derived.Deep.Cut
namespace Go.Proofs.YthmjimmmkoeeoaaDoor
set_option linter.unusedVariables false
open Go.ChangeShapes Go.WideShapes Go.ChangeAt Go.RowKit Go.Deep
/-- A comparison that answers whether p holds. -/
def Cmp (P : Program) (w : World) (d : Nat) (t : TypeId) (a b : Value) (p : Prop) : Prop := ∃ r, (Op.equalIn d t a b).run P w = .ok r w ∧ (r = true ↔ p)
def CmpF (P : Program) (w : World) (d : Nat) (xs ys : Array Value) (fs : List Field) (p : Prop) : Prop := ∃ r, (Op.eqFields d xs ys fs).run P w = .ok r w ∧ (r = true ↔ p)
theorem CmpF.nil {P : Program} {w : World} {d : Nat} {xs ys : Array Value} : CmpF P w d xs ys [] True := ⟨true, by simp [Op.eqFields], by simp⟩
theorem CmpF.cons {P : Program} {w : World} {d : Nat} {xs ys : Array Value} {f : Field} {fs : List Field} {p q : Prop} {a b : Value} (hn : f.name ≠ "_") (ha : (part f.type xs f.offset).run P w = .ok a w) (hb : (part f.type ys f.offset).run P w = .ok b w)
    (h : Cmp P w d f.type a b q) (hs : CmpF P w d xs ys fs p) : CmpF P w d xs ys (f :: fs) (q ∧ p) := by
  obtain ⟨r, hr, hq⟩ := h
  obtain ⟨r', hr', hp⟩ := hs
  cases r with
  | false => exact ⟨false, by simp only [Op.eqFields, hn, ne_eq, not_false_eq_true, if_true, Sem.run_bind, ha, hb, hr, Result.andThen_ok]; simp, by simp at hq; simp [hq]⟩
  | true => exact ⟨r', by simp only [Op.eqFields, hn, ne_eq, not_false_eq_true, if_true, Sem.run_bind, ha, hb, hr, Result.andThen_ok]; simpa using hr', by simp at hq; simp [hq, hp]⟩
theorem Cmp.int {P : Program} {w : World} {d : Nat} {t : TypeId} {k k' : IntKind} {a b : Int} (h : P.underlying t = some (.int k')) : Cmp P w (d + 1) t (.int k a) (.int k b) (a = b) := ⟨_, run_equalIn_int w d t k k' a b h, by simp⟩
theorem Cmp.bool {P : Program} {w : World} {d : Nat} {t : TypeId} {a b : Bool} (h : P.underlying t = some .bool) : Cmp P w (d + 1) t (.bool a) (.bool b) (a = b) := ⟨_, run_equalIn_bool w d t a b h, by simp⟩
theorem Cmp.iff {P : Program} {w : World} {d : Nat} {t : TypeId} {a b : Value} {p q : Prop} (h : Cmp P w d t a b p) (e : p ↔ q) : Cmp P w d t a b q := by
  obtain ⟨r, h1, h2⟩ := h
  exact ⟨r, h1, h2.trans e⟩
theorem cmp_items {P : Program} (w : World) (d : Nat) (e : TypeId) (kk : IntKind) (he : P.underlying e = some (.int kk)) (xs ys : Array Value) (f g : Nat → Int) (k : IntKind) : ∀ is : List Nat, (∀ i ∈ is, (part e xs (i * 1)).run P w = .ok (.int k (f i)) w ∧ (part e ys (i * 1)).run P w = .ok (.int k (g i)) w) →
    ∃ r, (Op.eqItems (d + 1) e 1 xs ys is).run P w = .ok r w ∧ (r = true ↔ ∀ i ∈ is, f i = g i)
  | [], _ => ⟨true, by simp [Op.eqItems], by simp⟩
  | i :: is, h => by
    obtain ⟨hp, hq⟩ := h i (by simp)
    obtain ⟨r, hr, hi⟩ := cmp_items w d e kk he xs ys f g k is (fun j hj => h j (by simp [hj]))
    by_cases e0 : f i = g i
    · refine ⟨r, ?_, ?_⟩
      · simp only [Op.eqItems, Sem.run_bind, hp, hq, Result.andThen_ok, run_equalIn_int w d e k kk _ _ he, e0, beq_self_eq_true, Bool.not_true, Bool.false_eq_true, if_false, hr]
      · rw [hi]; simp [e0]
    · refine ⟨false, ?_, by simp [e0]⟩
      have e1 : (f i == g i) = false := by simpa using e0
      simp only [Op.eqItems, Sem.run_bind, hp, hq, Result.andThen_ok, run_equalIn_int w d e k kk _ _ he, e1, Bool.not_false, if_true, Sem.run_pure]
theorem Cmp.ints {P : Program} {w : World} {d n : Nat} {t e : TypeId} {k kk : IntKind} {xs ys : Array Value} {f g : Nat → Int} (ht : P.underlying t = some (.array n e)) (he : P.underlying e = some (.int kk)) (hc : P.cellsOf e = 1) (hi : (P.info? e).isSome = true) (hp : P.plainKey e = true)
    (hx : ∀ i, i < n → xs[i]? = some (.int k (f i))) (hy : ∀ i, i < n → ys[i]? = some (.int k (g i))) : Cmp P w (d + 2) t (.agg xs) (.agg ys) (∀ i, i < n → f i = g i) := by
  obtain ⟨i0, hi0⟩ := Option.isSome_iff_exists.1 hi
  obtain ⟨r, hr, h⟩ := cmp_items w d e kk he xs ys f g k (List.range n) fun i hi => by
    have := List.mem_range.1 hi
    rw [Nat.mul_one]
    exact ⟨run_part_plain w hp (hx i this), run_part_plain w hp (hy i this)⟩
  refine ⟨r, ?_, ?_⟩
  · rw [run_equalIn_array w (d + 1) xs ys ht hi0, hc]; exact hr
  · rw [h]; simp
theorem Cmp.struct {P : Program} {w : World} {d : Nat} {t : TypeId} {fs : Array Field} {xs ys : Array Value} {p : Prop} (ht : P.underlying t = some (.struct fs)) (hp : P.stoodInHeld t = false) (h : CmpF P w d xs ys fs.toList p) : Cmp P w (d + 1) t (.agg xs) (.agg ys) p := by
  have hf : P.fieldsOf t = fs := by simp [Program.fieldsOf, ht]
  obtain ⟨r, hr, hq⟩ := h
  exact ⟨r, by rw [run_equalIn_struct w d t xs ys (by rw [hf]; exact ht) hp, hf]; exact hr, hq⟩
theorem part_agg {P : Program} {w : World} {t : TypeId} {d : TypeDesc} {n : Nat} {xs : Array Value} {o : Nat} (ht : P.underlying t = some d) (hd : d.isRow = true) (hi : (P.info? t).map (·.size) = some n) : (part t xs o).run P w = .ok (.agg (xs.extract o (o + n))) w := by
  cases hq : P.info? t with
  | none => simp [hq] at hi
  | some i =>
    have hs : i.size = n := by simpa [hq] using hi
    have hagg : (isAgg t).run P w = .ok true w := by
      unfold isAgg
      rw [Sem.run_bind, run_underlying ht w]
      cases d <;> simp_all
    simp [part, Sem.run_bind, hagg, sizeOf, typeInfo, hq, hs]
theorem cpc_xs (k : Cp) (i : Nat) (h : i < 32) : ((cpc k).extract 1 (1 + 32))[i]? = some (.int .u64 (n64 (k.x i))) := by
  rw [Array.getElem?_extract, if_pos (by rw [cpc_size]; omega), cpc_at _ _ (by omega), cpcell_x _ _ h]
theorem cpc_ps (k : Cp) : (cpc k).extract 47 (47 + 32) = pc k.c k.a := by
  apply Array.ext_getElem?
  intro j
  rw [Array.getElem?_extract]
  by_cases h : j < 32
  · rw [if_pos (by rw [cpc_size]; omega), cpc_at _ _ (by omega), cpcell_p _ _ h, pc_at _ _ _ h]
  · rw [if_neg (by rw [cpc_size]; omega), Array.getElem?_eq_none (by rw [pc_size]; omega)]
theorem cpc_rs3 (k : Cp) : (cpc k).extract 79 (79 + 3) = #[.bool k.rv, .int .u64 (n64 k.ra), .int .i64 k.rs] := by
  apply Array.ext_getElem?
  intro j
  rw [Array.getElem?_extract]
  match j with
  | 0 => rw [if_pos (by rw [cpc_size]; omega), cpc_at _ _ (by omega)]; rfl
  | 1 => rw [if_pos (by rw [cpc_size]; omega), cpc_at _ _ (by omega)]; rfl
  | 2 => rw [if_pos (by rw [cpc_size]; omega), cpc_at _ _ (by omega)]; rfl
  | j + 3 => rw [if_neg (by rw [cpc_size]; omega)]; rfl
theorem cmp_res (w : World) (d : Nat) (v v' : Bool) (a a' : BitVec 64) (s s' : Int) : Cmp Tryd.prog w (d + 2) 29 (.agg #[.bool v, .int .u64 (n64 a), .int .i64 s]) (.agg #[.bool v', .int .u64 (n64 a'), .int .i64 s']) (v = v' ∧ a = a' ∧ s = s' ∧ True) := by
  refine Cmp.struct Tryd.underlying29 (by kernel_rfl) ?_
  refine CmpF.cons (by decide) (run_part_plain w (by kernel_rfl) rfl) (run_part_plain w (by kernel_rfl) rfl) (Cmp.bool Tryd.underlying4) ?_
  refine CmpF.cons (by decide) (run_part_plain w (by kernel_rfl) rfl) (run_part_plain w (by kernel_rfl) rfl) ((Cmp.int Tryd.underlying22).iff n64_inj) ?_
  refine CmpF.cons (by decide) (run_part_plain w (by kernel_rfl) rfl) (run_part_plain w (by kernel_rfl) rfl) (Cmp.int Tryd.underlying3) ?_
  exact CmpF.nil
theorem cmp_xs (w : World) (d : Nat) (k k' : Cp) : Cmp Tryd.prog w (d + 2) 23 (.agg ((cpc k).extract 1 (1 + 32))) (.agg ((cpc k').extract 1 (1 + 32))) (∀ j, j < 32 → k.x j = k'.x j) :=
  (Cmp.ints (f := fun i => n64 (k.x i)) (g := fun i => n64 (k'.x i)) Tryd.underlying23 Tryd.underlying22 (by kernel_rfl) (by kernel_rfl) (by kernel_rfl) (cpc_xs k) (cpc_xs k')).iff
    ⟨fun h j hj => n64_inj.1 (h j hj), fun h j hj => n64_inj.2 (h j hj)⟩
theorem cmp_pmp (w : World) (d : Nat) (c c' : Nat → BitVec 8) (a a' : Nat → BitVec 64) : Cmp Tryd.prog w (d + 3) 27 (.agg (pc c a)) (.agg (pc c' a')) ((∀ j, j < 16 → c j = c' j) ∧ (∀ j, j < 16 → a j = a' j) ∧ True) := by
  refine Cmp.struct Tryd.underlying27 (by kernel_rfl) ?_
  refine CmpF.cons (by decide) (part_pc_cfg _ _) (part_pc_cfg _ _) ((Cmp.ints (f := fun i => n8 (c i)) (g := fun i => n8 (c' i)) Tryd.underlying24 Tryd.underlying5 (by kernel_rfl) (by kernel_rfl) (by kernel_rfl) (pc_cfgs_at c a) (pc_cfgs_at c' a')).iff ⟨fun h j hj => n8_inj.1 (h j hj), fun h j hj => n8_inj.2 (h j hj)⟩) ?_
  refine CmpF.cons (by decide) (part_pc_addr _ _) (part_pc_addr _ _) ((Cmp.ints (f := fun i => n64 (a i)) (g := fun i => n64 (a' i)) Tryd.underlying25 Tryd.underlying22 (by kernel_rfl) (by kernel_rfl) (by kernel_rfl) (pc_addrs_at c a) (pc_addrs_at c' a')).iff ⟨fun h j hj => n64_inj.1 (h j hj), fun h j hj => n64_inj.2 (h j hj)⟩) ?_
  exact CmpF.nil
theorem cmp_cpu (w : World) (d : Nat) (k k' : Cp) : Cmp Tryd.prog w (d + 4) 31 (.agg (cpc k)) (.agg (cpc k')) (cpc k = cpc k') := by
  refine Cmp.iff (Cmp.struct Tryd.underlying31 (by kernel_rfl) ?_) (p := k.pc = k'.pc ∧ (∀ j, j < 32 → k.x j = k'.x j) ∧ k.md = k'.md ∧ k.wt = k'.wt ∧ k.s 0 = k'.s 0 ∧ k.s 1 = k'.s 1 ∧ k.s 2 = k'.s 2 ∧ k.s 3 = k'.s 3 ∧ k.s 4 = k'.s 4 ∧ k.s 5 = k'.s 5 ∧ k.s 6 = k'.s 6 ∧ k.s 7 = k'.s 7 ∧ k.s 8 = k'.s 8 ∧ k.s 9 = k'.s 9 ∧ k.s 10 = k'.s 10 ∧ k.s 11 = k'.s 11 ∧ ((∀ j, j < 16 → k.c j = k'.c j) ∧ (∀ j, j < 16 → k.a j = k'.a j) ∧ True) ∧ (k.rv = k'.rv ∧ k.ra = k'.ra ∧ k.rs = k'.rs ∧ True) ∧ True) ?_
  · refine CmpF.cons (by decide) (run_part_plain w (by kernel_rfl) (cpc_at k 0 (by omega))) (run_part_plain w (by kernel_rfl) (cpc_at k' 0 (by omega))) ((Cmp.int Tryd.underlying22).iff n64_inj) ?_
    refine CmpF.cons (by decide) (part_agg Tryd.underlying23 rfl (by kernel_rfl)) (part_agg Tryd.underlying23 rfl (by kernel_rfl)) (cmp_xs w _ k k') ?_
    refine CmpF.cons (by decide) (run_part_plain w (by kernel_rfl) (cpc_at k 33 (by omega))) (run_part_plain w (by kernel_rfl) (cpc_at k' 33 (by omega))) (Cmp.int Tryd.underlying3) ?_
    refine CmpF.cons (by decide) (run_part_plain w (by kernel_rfl) (cpc_at k 34 (by omega))) (run_part_plain w (by kernel_rfl) (cpc_at k' 34 (by omega))) (Cmp.bool Tryd.underlying4) ?_
    refine CmpF.cons (by decide) (run_part_plain w (by kernel_rfl) (cpc_at k 35 (by omega))) (run_part_plain w (by kernel_rfl) (cpc_at k' 35 (by omega))) ((Cmp.int Tryd.underlying22).iff n64_inj) ?_
    refine CmpF.cons (by decide) (run_part_plain w (by kernel_rfl) (cpc_at k 36 (by omega))) (run_part_plain w (by kernel_rfl) (cpc_at k' 36 (by omega))) ((Cmp.int Tryd.underlying22).iff n64_inj) ?_
    refine CmpF.cons (by decide) (run_part_plain w (by kernel_rfl) (cpc_at k 37 (by omega))) (run_part_plain w (by kernel_rfl) (cpc_at k' 37 (by omega))) ((Cmp.int Tryd.underlying22).iff n64_inj) ?_
    refine CmpF.cons (by decide) (run_part_plain w (by kernel_rfl) (cpc_at k 38 (by omega))) (run_part_plain w (by kernel_rfl) (cpc_at k' 38 (by omega))) ((Cmp.int Tryd.underlying22).iff n64_inj) ?_
    refine CmpF.cons (by decide) (run_part_plain w (by kernel_rfl) (cpc_at k 39 (by omega))) (run_part_plain w (by kernel_rfl) (cpc_at k' 39 (by omega))) ((Cmp.int Tryd.underlying22).iff n64_inj) ?_
    refine CmpF.cons (by decide) (run_part_plain w (by kernel_rfl) (cpc_at k 40 (by omega))) (run_part_plain w (by kernel_rfl) (cpc_at k' 40 (by omega))) ((Cmp.int Tryd.underlying22).iff n64_inj) ?_
    refine CmpF.cons (by decide) (run_part_plain w (by kernel_rfl) (cpc_at k 41 (by omega))) (run_part_plain w (by kernel_rfl) (cpc_at k' 41 (by omega))) ((Cmp.int Tryd.underlying22).iff n64_inj) ?_
    refine CmpF.cons (by decide) (run_part_plain w (by kernel_rfl) (cpc_at k 42 (by omega))) (run_part_plain w (by kernel_rfl) (cpc_at k' 42 (by omega))) ((Cmp.int Tryd.underlying22).iff n64_inj) ?_
    refine CmpF.cons (by decide) (run_part_plain w (by kernel_rfl) (cpc_at k 43 (by omega))) (run_part_plain w (by kernel_rfl) (cpc_at k' 43 (by omega))) ((Cmp.int Tryd.underlying22).iff n64_inj) ?_
    refine CmpF.cons (by decide) (run_part_plain w (by kernel_rfl) (cpc_at k 44 (by omega))) (run_part_plain w (by kernel_rfl) (cpc_at k' 44 (by omega))) ((Cmp.int Tryd.underlying22).iff n64_inj) ?_
    refine CmpF.cons (by decide) (run_part_plain w (by kernel_rfl) (cpc_at k 45 (by omega))) (run_part_plain w (by kernel_rfl) (cpc_at k' 45 (by omega))) ((Cmp.int Tryd.underlying22).iff n64_inj) ?_
    refine CmpF.cons (by decide) (run_part_plain w (by kernel_rfl) (cpc_at k 46 (by omega))) (run_part_plain w (by kernel_rfl) (cpc_at k' 46 (by omega))) ((Cmp.int Tryd.underlying22).iff n64_inj) ?_
    refine CmpF.cons (by decide) (part_agg Tryd.underlying27 rfl (by kernel_rfl)) (part_agg Tryd.underlying27 rfl (by kernel_rfl)) (by rw [cpc_ps, cpc_ps]; exact cmp_pmp w d _ _ _ _) ?_
    refine CmpF.cons (by decide) (part_agg Tryd.underlying29 rfl (by kernel_rfl)) (part_agg Tryd.underlying29 rfl (by kernel_rfl)) (by rw [cpc_rs3, cpc_rs3]; exact cmp_res w (d + 1) _ _ _ _ _ _) ?_
    exact CmpF.nil
  · constructor
    · rintro ⟨h0, hx, hm, hw, s0, s1, s2, s3, s4, s5, s6, s7, s8, s9, s10, s11, ⟨hc, ha, _⟩, ⟨r0, r1, r2, _⟩, _⟩
      refine Alk.cells ⟨h0, hx, hm, hw, fun j hj => ?_, hc, ha, r0, r1, r2⟩
      match j, hj with
      | 0, _ => exact s0
      | 1, _ => exact s1
      | 2, _ => exact s2
      | 3, _ => exact s3
      | 4, _ => exact s4
      | 5, _ => exact s5
      | 6, _ => exact s6
      | 7, _ => exact s7
      | 8, _ => exact s8
      | 9, _ => exact s9
      | 10, _ => exact s10
      | 11, _ => exact s11
      | j + 12, hj => exact absurd hj (by omega)
    · intro h
      have h := Alk.of h
      exact ⟨h.pc, h.x, h.md, h.wt, h.s 0 (by omega), h.s 1 (by omega), h.s 2 (by omega), h.s 3 (by omega), h.s 4 (by omega), h.s 5 (by omega), h.s 6 (by omega), h.s 7 (by omega), h.s 8 (by omega), h.s 9 (by omega), h.s 10 (by omega), h.s 11 (by omega), ⟨h.c, h.a, trivial⟩, ⟨h.rv, h.ra, h.rs, trivial⟩, trivial⟩
theorem eq_cpu (w : World) (k : Cp) : (Op.equalIn 10000 31 (.agg (cpc k)) (.agg (cpc k))).run Tryd.prog w = .ok true w := by
  obtain ⟨r, hr, h⟩ := cmp_cpu w 9996 k k
  rw [hr, h.2 rfl]
end Go.Proofs.YthmjimmmkoeeoaaDoor
namespace Go.Proofs.YthmjimmmkoeeoaaDoor
set_option linter.unusedVariables false
open Go.ChangeShapes Go.WideShapes Go.ChangeAt Go.RowKit Go.Deep
theorem cpc_x0 (k : Cp) : (cpc k).setIfInBounds 1 (.int .u64 0) = cpc { k with x := upd k.x 0 0#64 } := cpc_x k 0 (by omega) 0#64
theorem cpc_s0 (k : Cp) (v : BitVec 64) : (cpc k).setIfInBounds 35 (.int .u64 (n64 v)) = cpc { k with s := upd k.s 0 v } := cpc_s k 0 (by omega) v
theorem cpc_s1 (k : Cp) (v : BitVec 64) : (cpc k).setIfInBounds 36 (.int .u64 (n64 v)) = cpc { k with s := upd k.s 1 v } := cpc_s k 1 (by omega) v
theorem cpc_s2 (k : Cp) (v : BitVec 64) : (cpc k).setIfInBounds 37 (.int .u64 (n64 v)) = cpc { k with s := upd k.s 2 v } := cpc_s k 2 (by omega) v
theorem cpc_s3 (k : Cp) (v : BitVec 64) : (cpc k).setIfInBounds 38 (.int .u64 (n64 v)) = cpc { k with s := upd k.s 3 v } := cpc_s k 3 (by omega) v
theorem cpc_s4 (k : Cp) (v : BitVec 64) : (cpc k).setIfInBounds 39 (.int .u64 (n64 v)) = cpc { k with s := upd k.s 4 v } := cpc_s k 4 (by omega) v
theorem cpc_s5 (k : Cp) (v : BitVec 64) : (cpc k).setIfInBounds 40 (.int .u64 (n64 v)) = cpc { k with s := upd k.s 5 v } := cpc_s k 5 (by omega) v
theorem cpc_s6 (k : Cp) (v : BitVec 64) : (cpc k).setIfInBounds 41 (.int .u64 (n64 v)) = cpc { k with s := upd k.s 6 v } := cpc_s k 6 (by omega) v
theorem cpc_s7 (k : Cp) (v : BitVec 64) : (cpc k).setIfInBounds 42 (.int .u64 (n64 v)) = cpc { k with s := upd k.s 7 v } := cpc_s k 7 (by omega) v
theorem cpc_s8 (k : Cp) (v : BitVec 64) : (cpc k).setIfInBounds 43 (.int .u64 (n64 v)) = cpc { k with s := upd k.s 8 v } := cpc_s k 8 (by omega) v
theorem cpc_s9 (k : Cp) (v : BitVec 64) : (cpc k).setIfInBounds 44 (.int .u64 (n64 v)) = cpc { k with s := upd k.s 9 v } := cpc_s k 9 (by omega) v
theorem cpc_s10 (k : Cp) (v : BitVec 64) : (cpc k).setIfInBounds 45 (.int .u64 (n64 v)) = cpc { k with s := upd k.s 10 v } := cpc_s k 10 (by omega) v
theorem cpc_s11 (k : Cp) (v : BitVec 64) : (cpc k).setIfInBounds 46 (.int .u64 (n64 v)) = cpc { k with s := upd k.s 11 v } := cpc_s k 11 (by omega) v
theorem Row.pmp {w : World} {g : Nat} {k : Cp} {t : TypeId} (h : Row w g (cpc k) t) : ∀ j v, (pc k.c k.a)[j]? = some v → w.cell? ⟨g, 47 + j, none⟩ = some v := fun j v hv => by
  have := h.cpu.pmp j v hv
  rwa [Nat.zero_add] at this
theorem Row.cls {w : World} {g : Nat} {k : Cp} {t : TypeId} (h : Row w g (cpc k) t) : Cls w g k := h.cpu.cls
/-- A world under a letter, with a row that it holds. -/
theorem go_on1 {motive : World → Prop} {w a : World} {g B n : Nat} {cs : Array Value} {t : TypeId} (h1 : Row w g cs t) (h2 : Below B a w) (hs : w.heap.size = n)
    (h : ∀ W, Row W g cs t → Below B a W → W.heap.size = n → motive W) : motive w := h w h1 h2 hs
theorem go_on2 {motive : World → Prop} {w a : World} {g g' B n : Nat} {cs cs' : Array Value} {t t' : TypeId} (h1 : Row w g cs t) (h1' : Row w g' cs' t') (h2 : Below B a w) (hs : w.heap.size = n)
    (h : ∀ W, Row W g cs t → Row W g' cs' t' → Below B a W → W.heap.size = n → motive W) : motive w := h w h1 h1' h2 hs
theorem go_on3 {motive : World → Prop} {w a : World} {g g' g'' B n : Nat} {cs cs' cs'' : Array Value} {t t' t'' : TypeId} (h1 : Row w g cs t) (h1' : Row w g' cs' t') (h1'' : Row w g'' cs'' t'') (h2 : Below B a w) (hs : w.heap.size = n)
    (h : ∀ W, Row W g cs t → Row W g' cs' t' → Row W g'' cs'' t'' → Below B a W → W.heap.size = n → motive W) : motive w := h w h1 h1' h1'' h2 hs
theorem row_cast {w : World} {g : Nat} {cs cs' : Array Value} {t : TypeId} (h : Row w g cs t) (e : cs = cs') : Row w g cs' t := e ▸ h
theorem Row.nores {w : World} {g : Nat} {k : Cp} {t : TypeId} (h : Row w g (cpc k) t) : Row (((w.setCell ⟨g, 79, none⟩ (.bool false)).setCell ⟨g, 80, none⟩ (.int .u64 0)).setCell ⟨g, 81, none⟩ (.int .i64 0)) g (cpc { k with rv := false, ra := 0#64, rs := 0 }) t := by
  have R9 := ((h.put (i := 79) (.bool false)).put (i := 80) (.int .u64 (n64 0#64))).put (i := 81) (.int .i64 0)
  rw [cpc_rv, cpc_ra, cpc_rs] at R9
  exact R9
/-- A struct stored into the middle of a block. -/
theorem wpList_store_part {P : Program} {ops : Array Oper} {rest : List Oper} {o : Oper} {a : Act} {w : World} {Q : Exit → Act → World → Prop} (hgd : o.guard = none) (t : TypeId) (x y : Operand) (ho : o.op = .store t x y) (hd : o.dst = none)
    (g off : Nat) (c' : Array Value) (hx : a.eval x = .pointer (some ⟨g, off, none⟩)) (hy : a.eval y = .agg c') (ht : w.there g off c'.size) (hi : (P.info? t).map (·.size) = some c'.size) (h1 : c'.all (·.oneCell') = true)
    (h : wpList P ops Q rest a (w.setCells g off c'.toList)) : wpList P ops Q (o :: rest) a w :=
  wpList_plain hgd fun _ hK => by
    unfold Oper.wp execOp
    simp only [ho, hx, hy, Instr.storeAt, Instr.sureAddr, Sem.run_bind, Sem.run_pure, Result.andThen_ok, run_storeVar_mid w g off t c' ht hi h1]
    simpa [Oper.upon, Act.put, hd] using hK _ _ h
theorem size_row (w : World) (g : Nat) (cs : Array Value) : (w.setRow g cs).heap.size = w.heap.size := by simp
/-- A row and a slot handed back. -/
theorem results_row_slot {P : Program} {fn : Func} {p q : Tmp} {ty : TypeId} (h : fn.results = #[.cell p ty, .tmp q]) (tmps : Array Value) (w : World) (g : Nat) (t : TypeId) (cs : Array Value) (fr : Nat × Nat) (d : TypeDesc) (v : Value)
    (hp : tmps.getD p undef = .pointer (some ⟨g, 0, none⟩)) (hq : tmps.getD q undef = v) (hg : w.heap[g]? = some (.cells cs t fr))
    (hu : P.underlying ty = some d) (hd : (match d with | .struct _ | .array _ _ => true | _ => false) = true) (hi : (P.info? ty).map (·.size) = some cs.size) :
    (results fn tmps).run P w = .ok (.tuple #[.agg cs, v]) w := by
  have hp' : tmps[p]?.getD undef = .pointer (some ⟨g, 0, none⟩) := by simpa using hp
  have hq' : tmps[q]?.getD undef = v := by simpa using hq
  simp [results, h, hp', hq', asAddr, run_loadVar_row w g t ty cs fr d hg hu hd hi]
/-- The Cpu that is nothing. -/
def cz : Cp := ⟨0#64, fun _ => 0#64, 0, false, fun _ => 0#64, fun _ => 0#8, fun _ => 0#64, false, 0#64, 0⟩
theorem zero_cpu (w : World) : (zeroValue 31).run Tryd.prog w = .ok (.agg (cpc cz)) w := by kernel_rfl
theorem info_cpu (k : Cp) : (Tryd.prog.info? 31).map (·.size) = some (cpc k).size := by rw [cpc_size]; kernel_rfl
theorem info_pmp (c : Nat → BitVec 8) (a : Nat → BitVec 64) : (Tryd.prog.info? 27).map (·.size) = some (pc c a).size := by rw [pc_size]; kernel_rfl
theorem n64_ne {x y : BitVec 64} (h : ¬ x = y) : (n64 x == n64 y) = false := by
  rw [beq_eq_false_iff_ne]; exact fun e => h (n64_inj.1 e)
end Go.Proofs.YthmjimmmkoeeoaaDoor
