/-
  Walks of laws that hold several Cpus.
-/
import Derived.Test.YtnnkeodiacdmaaaCla
namespace Go.Proofs.Ytnnkeodiacdmaaa
set_option linter.unusedVariables false
open Go.ChangeShapes Go.WideShapes Go.ChangeAt Go.RowKit Go.Deep
theorem go_onP {motive : World → Prop} {w : World} {Q : World → Prop} (hq : Q w) (h : ∀ W, Q W → motive W) : motive w := h w hq
theorem load_cpu (W : World) (g o : Nat) (k : Cp) (h : At W g o k) : (Instr.loadAt 31 (.pointer (some ⟨g, o, none⟩))).run Try.prog W = .ok (.agg (cpc k)) W := by
  simp only [Instr.loadAt, Instr.sureAddr, Sem.run_bind, Sem.run_pure, Result.andThen_ok, run_load_agg W 31 g o (cpc k) _ h.agg Try.underlying31 rfl (info_cpu k)]
/-- A whole Cpu stored into the block that was made last. -/
theorem wpList_store_last {P : Program} {ops : Array Oper} {rest : List Oper} {o : Oper} {a : Act} {w' : World} {Q : Exit → Act → World → Prop} (hgd : o.guard = none) (t : TypeId) (x y : Operand) (ho : o.op = .store t x y) (hd : o.dst = none)
    (w : World) (c c' : Array Value) (hw : w' = w.alloc (.cells c t)) (hx : a.eval x = .pointer (some ⟨w.heap.size, 0, none⟩)) (hy : a.eval y = .agg c') (hi : (P.info? t).map (·.size) = some c'.size) (hs : c.size = c'.size) (h1 : c'.all (·.oneCell') = true)
    (h : wpList P ops Q rest a (w.alloc (.cells c' t))) : wpList P ops Q (o :: rest) a w' := by
  subst hw
  exact wpList_store_new hgd t x y ho hd c c' hx hy hi hs h1 h
/-- A row behind a call and a new block. -/
theorem Row.ca {W w1 : World} {g : Nat} {cs : Array Value} {t : TypeId} (h : Row W g cs t) (B : Below W.heap.size W w1) (o : Obj) : Row (w1.alloc o) g cs t :=
  (h.later B h.lt).old (Nat.lt_of_lt_of_le h.lt B.size) o
theorem below_ca {B : Nat} {a W w1 : World} (h : Below B a W) (b : Below W.heap.size W w1) (hB : B ≤ W.heap.size) (o : Obj) : Below B a (w1.alloc o) :=
  (h.trans (b.mono hB)).alloc (Nat.le_trans hB b.size) o
theorem Row.cb {W w1 : World} {g : Nat} {cs : Array Value} {t : TypeId} (h : Row W g cs t) (B : Below W.heap.size W w1) : Row w1 g cs t := h.later B h.lt
/-- A Cpu whose counters are at their end. -/
def ctop : Cp := { cz with s := upd (upd cz.s 10 18446744073709551615#64) 11 18446744073709551615#64 }
theorem built_cz : Try.prog.built 31 [] = some (cpc cz) := by kernel_rfl
/-- A Cpu in M. -/
def cM : Cp := { cz with md := 3 }
theorem built_cM : Try.prog.built 31 [(2, .int .i64 3)] = some (cpc cM) := by kernel_rfl
theorem built_ctop : Try.prog.built 31 [(14, .int .u64 18446744073709551615), (15, .int .u64 18446744073709551615)] = some (cpc ctop) := by kernel_rfl
theorem small_cases {z : BitVec 64} (h : z.toNat ≤ 7) : z = 0#64 ∨ z = 1#64 ∨ z = 2#64 ∨ z = 3#64 ∨ z = 4#64 ∨ z = 5#64 ∨ z = 6#64 ∨ z = 7#64 := by
  have : z.toNat = 0 ∨ z.toNat = 1 ∨ z.toNat = 2 ∨ z.toNat = 3 ∨ z.toNat = 4 ∨ z.toNat = 5 ∨ z.toNat = 6 ∨ z.toNat = 7 := by omega
  rcases this with e | e | e | e | e | e | e | e
  · exact Or.inl (BitVec.eq_of_toNat_eq e)
  · exact Or.inr (Or.inl (BitVec.eq_of_toNat_eq e))
  · exact Or.inr (Or.inr (Or.inl (BitVec.eq_of_toNat_eq e)))
  · exact Or.inr (Or.inr (Or.inr (Or.inl (BitVec.eq_of_toNat_eq e))))
  · exact Or.inr (Or.inr (Or.inr (Or.inr (Or.inl (BitVec.eq_of_toNat_eq e)))))
  · exact Or.inr (Or.inr (Or.inr (Or.inr (Or.inr (Or.inl (BitVec.eq_of_toNat_eq e))))))
  · exact Or.inr (Or.inr (Or.inr (Or.inr (Or.inr (Or.inr (Or.inl (BitVec.eq_of_toNat_eq e)))))))
  · exact Or.inr (Or.inr (Or.inr (Or.inr (Or.inr (Or.inr (Or.inr (BitVec.eq_of_toNat_eq e)))))))
theorem PR_s4 (u : Cp) : ((PR u).s 4).toNat ≤ 7 := by
  show (u.s 4 &&& 5#64).toNat ≤ 7
  rw [BitVec.toNat_and]; exact Nat.le_trans Nat.and_le_right (by decide)
theorem PR_s3 (u : Cp) : ((PR u).s 3).toNat ≤ 7 := by
  show (u.s 3 &&& 7#64).toNat ≤ 7
  rw [BitVec.toNat_and]; exact Nat.le_trans Nat.and_le_right (by decide)
theorem bit2 {z : BitVec 64} (h : z.toNat ≤ 7) : z >>> 2 &&& 1#64 = 0#64 ↔ z &&& 4#64 = 0#64 := by
  rcases small_cases h with rfl | rfl | rfl | rfl | rfl | rfl | rfl | rfl <;> decide
theorem CO_top : (CO ctop cz true false false).s 10 = 0#64 ∧ (CO ctop cz true false false).s 11 = 0#64 := by decide
end Go.Proofs.Ytnnkeodiacdmaaa
