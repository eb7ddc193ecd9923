/-
  Pbe.
-/
import Derived.Test.YtnlkamfoopikhaaPbp
import Derived.ChangeKeysEq
namespace Go.Proofs.Ytnlkamfoopikhaa
set_option linter.unusedVariables false
open Go.ChangeShapes Go.WideShapes Go.ChangeAt Go.RowKit Go.Deep
theorem items_refl {P : Program} (w : World) (d : Nat) (e : TypeId) (kk : IntKind) (he : P.underlying e = some (.int kk)) (xs : Array Value) (c : Nat) : ∀ is : List Nat, (∀ i ∈ is, ∃ k n, (part e xs (i * c)).run P w = .ok (.int k n) w) →
    (Op.eqItems (d + 1) e c xs xs is).run P w = .ok true w
  | [], _ => by simp [Op.eqItems]
  | i :: is, h => by
    obtain ⟨k, n, hp⟩ := h i (by simp)
    have ih := items_refl w d e kk he xs c is (fun j hj => h j (by simp [hj]))
    simp only [Op.eqItems, Sem.run_bind, hp, Result.andThen_ok, run_equalIn_int w d e k kk n n he, beq_self_eq_true, Bool.not_true, Bool.false_eq_true, if_false, ih]
theorem part_pc_cfg (xs : Array Value) (w : World) : (part 24 xs 0).run Try.prog w = .ok (.agg (xs.extract 0 16)) w := by
  simp [part]
theorem part_pc_addr (xs : Array Value) (w : World) : (part 25 xs 16).run Try.prog w = .ok (.agg (xs.extract 16 32)) w := by
  simp [part]
theorem eq_cfgs (w : World) (d : Nat) (xs : Array Value) (h : ∀ i, i < 16 → ∃ n, xs[i]? = some (.int .u8 n)) : (Op.equalIn (d + 2) 24 (.agg xs) (.agg xs)).run Try.prog w = .ok true w := by
  cases hi : Try.prog.info? 5 with
  | none =>
    have hq : (Try.prog.info? 5).isSome = true := by kernel_rfl
    rw [hi] at hq
    cases hq
  | some i =>
    rw [run_equalIn_array w (d + 1) xs xs Try.underlying24 hi]
    refine items_refl w d _ _ Try.underlying5 xs _ _ fun j hj => ?_
    rw [show Try.prog.cellsOf 5 = 1 by kernel_rfl, Nat.mul_one]
    obtain ⟨n, hn⟩ := h j (by simpa using hj)
    exact ⟨_, n, run_part_plain w (by kernel_rfl) hn⟩
theorem eq_addrs (w : World) (d : Nat) (xs : Array Value) (h : ∀ i, i < 16 → ∃ n, xs[i]? = some (.int .u64 n)) : (Op.equalIn (d + 2) 25 (.agg xs) (.agg xs)).run Try.prog w = .ok true w := by
  cases hi : Try.prog.info? 22 with
  | none =>
    have hq : (Try.prog.info? 22).isSome = true := by kernel_rfl
    rw [hi] at hq
    cases hq
  | some i =>
    rw [run_equalIn_array w (d + 1) xs xs Try.underlying25 hi]
    refine items_refl w d _ _ Try.underlying22 xs _ _ fun j hj => ?_
    rw [show Try.prog.cellsOf 22 = 1 by kernel_rfl, Nat.mul_one]
    obtain ⟨n, hn⟩ := h j (by simpa using hj)
    exact ⟨_, n, run_part_plain w (by kernel_rfl) hn⟩
theorem pc_cfgs_at (c : Nat → BitVec 8) (a : Nat → BitVec 64) (i : Nat) (h : i < 16) : ((pc c a).extract 0 16)[i]? = some (.int .u8 (n8 (c i))) := by
  rw [Array.getElem?_extract, if_pos (by rw [pc_size]; omega), Nat.zero_add, pc_at _ _ _ (by omega), pcell, if_pos h]
theorem pc_addrs_at (c : Nat → BitVec 8) (a : Nat → BitVec 64) (i : Nat) (h : i < 16) : ((pc c a).extract 16 32)[i]? = some (.int .u64 (n64 (a i))) := by
  rw [Array.getElem?_extract, if_pos (by rw [pc_size]; omega), pc_at _ _ _ (by omega), pcell, if_neg (by omega), Nat.add_sub_cancel_left]
theorem eq_pc (w : World) (c : Nat → BitVec 8) (a : Nat → BitVec 64) : (Op.equalIn 10000 27 (.agg (pc c a)) (.agg (pc c a))).run Try.prog w = .ok true w := by
  rw [run_equalIn_struct w 9999 27 _ _ (by kernel_rfl) (by kernel_rfl)]
  have e1 := eq_cfgs w 9997 ((pc c a).extract 0 16) (fun i hi => ⟨_, pc_cfgs_at c a i hi⟩)
  have e2 := eq_addrs w 9997 ((pc c a).extract 16 32) (fun i hi => ⟨_, pc_addrs_at c a i hi⟩)
  simp [Program.fieldsOf, Try.underlying27, Op.eqFields, part_pc_cfg, part_pc_addr, e1, e2]
theorem quiet_load_agg {P : Program} {W : World} {o : Oper} {a : Act} {K : Act → Prop} (ty : TypeId) (x : Operand) (ho : o.op = .load ty x) (g off : Nat) (hx : a.eval x = .pointer (some ⟨g, off, none⟩)) (cs : Array Value) (d : TypeDesc)
    (hg : g < W.heap.size) (hc : ∀ j v, cs[j]? = some v → W.cell? ⟨g, off + j, none⟩ = some v) (hu : P.underlying ty = some d) (hd : (match d with | .struct _ | .array _ _ => true | _ => false) = true) (hi : (P.info? ty).map (·.size) = some cs.size)
    (hk : K (a.put o.dst (.agg cs))) : o.quiet P a (fun w' => ∃ x : Later W, w' = x.1) K := by
  refine ⟨_, fun w hw => ?_, hk⟩
  obtain ⟨y, rfl⟩ := hw
  have hl := run_load_agg (P := P) y.1 ty g off cs d (fun j v hv => (later_cell y (by exact hg)).trans (hc j v hv)) hu hd hi
  unfold Oper.quietAt execOp
  simp only [ho, hx, Instr.loadAt, Instr.sureAddr, Sem.run_bind, Sem.run_pure, Result.andThen_ok, hl]
  exact ⟨rfl, rfl⟩
end Go.Proofs.Ytnlkamfoopikhaa
