/-
  The map of the registers.
-/
import Derived.Test.YtnnkeodiacdmaabCsd
import Derived.Maps.Own
import Derived.Maps.OwnSet
import Derived.Maps.Views
namespace Go.Proofs.Ytnnkeodiacdmaab
set_option linter.unusedVariables false
set_option maxRecDepth 100000
open Go.ChangeShapes Go.WideShapes Go.ChangeAt Go.RowKit Go.Deep
open Go.ChangeMaps Go.MapKept
/-- Every value reads as itself. -/
def rdV (v : Value) : Option (DataW Value × List MemPlace) := some (.held v, [])
/-- The register that is none. -/
def rg0 : Value := .agg #[.nilFunc, .nilFunc]
/-- One entry more. -/
def tset (T : Int → Option Value) (n : Int) (v : Value) : Int → Option Value := fun q => if q = n then some v else T q
/-- The map in block b, of at most n entries, is T. -/
def Mq (T : Int → Option Value) (b n : Nat) (w : World) : Prop :=
  ∃ D, w.ownsMap Try.prog 3 rdV b n D ∧ ∀ q, (Lit.int .i64 q).wf = true → Maps.has D (.int .i64 q) = (T q).isSome ∧ D.atKey (.int .i64 q) (.held rg0) = .held ((T q).getD rg0)
theorem Mq.made (w : World) : Mq (fun _ => none) w.heap.size 0 (w.alloc (.map #[] 0)) := ⟨_, World.ownsMap_made w _ _ _, fun q _ => ⟨rfl, rfl⟩⟩
theorem Mq.update {T : Int → Option Value} {b n : Nat} {w : World} (h : Mq T b n w) (hn : n < 100000) (op : Int) (v : Value) (hop : (Lit.int .i64 op).wf = true) :
    ∃ w', (Instr.mapUpdate 61 (.map (some b)) (.int .i64 op) v).run Try.prog w = .ok () w' ∧ Mq (tset T op v) b (n + 1) w' ∧ w.grownBy w' (some b) := by
  have hkk : WideAt.IsKeyLit (Lit.int .i64 op) := by first | trivial | exact rfl | simp [WideAt.IsKeyLit]
  obtain ⟨D, hD, hl⟩ := h
  obtain ⟨w', hrun, h1, h2⟩ := hD.update (Maps.int_keyed Try.underlying3) Try.underlying61 (by unfold maxLen; omega) (Maps.keyOf_int_mk Try.underlying3 hop) (show rdV v = some (.held v, []) from rfl)
  refine ⟨w', hrun, ⟨_, h1, fun q hq => ?_⟩, h2⟩
  unfold tset
  by_cases e : q = op
  · subst e
    rw [if_pos rfl]
    exact ⟨Maps.has_put_same hD.isMap hkk _, Maps.atKey_put_same hD.isMap hkk _ _⟩
  · rw [if_neg e]
    have hne : (Lit.int .i64 q) ≠ Lit.int .i64 op := fun h => e (by injection h with _ h)
    rw [Maps.has_put_other hne, Maps.atKey_put_other hne]
    exact hl q hq
theorem rgZero (w : World) : (zeroValue 59).run Try.prog w = .ok rg0 w := by kernel_rfl
theorem Mq.look {T : Int → Option Value} {b n : Nat} {w : World} (h : Mq T b n w) (op : Int) (hop : (Lit.int .i64 op).wf = true) :
    (Instr.lookup 61 (.map (some b)) (.int .i64 op) true).run Try.prog w = .ok (.tuple #[(T op).getD rg0, .bool (T op).isSome]) w := by
  obtain ⟨D, hD, hl⟩ := h
  obtain ⟨v, ps, hrun, hv⟩ := hD.look_ok (Maps.int_keyed Try.underlying3) Try.underlying61 (rgZero w) (show rdV rg0 = some (.held rg0, []) from rfl) (Maps.keyOf_int_mk Try.underlying3 hop)
  have q := hl op hop
  rw [q.2] at hv
  rw [q.1] at hrun
  injection hv with hv
  injection hv with hv
  injection hv with hv
  rw [hrun, hv]
theorem Mq.later {T : Int → Option Value} {b n : Nat} {w w' : World} (h : Mq T b n w) (hb : Below w.heap.size w w') : Mq T b n w' := by
  obtain ⟨D, ⟨es, ck, h1, h2⟩, hl⟩ := h
  exact ⟨D, ⟨es, ck, (hb.block _ (Array.getElem?_eq_some_iff.1 h1).1).trans h1, h2⟩, hl⟩
theorem Mq.row {T : Int → Option Value} {b n : Nat} {w : World} (h : Mq T b n w) : ∃ es ck, w.heap[b]? = some (.map es ck) := by
  obtain ⟨D, ⟨es, ck, hb, _⟩, _⟩ := h
  exact ⟨es, ck, hb⟩
theorem Mq.congr {T T' : Int → Option Value} {b n : Nat} {w : World} (h : Mq T b n w) (e : ∀ q, T q = T' q) : Mq T' b n w := by
  obtain rfl : T = T' := funext e
  exact h
/-- While the map is filled: the map, the state, all that was. -/
structure Sg (w0 : World) (g : Nat) (k : Cp) (m t : BitVec 64) (T : Int → Option Value) (b n : Nat) (w : World) : Prop where
  mp : Mq T b n w
  sr : Sr w g k m t
  be : Below w0.heap.size w0 w
  lb : w0.heap.size ≤ b
section
variable {w0 w w' : World} {g b n : Nat} {k : Cp} {m t : BitVec 64} {T : Int → Option Value}
theorem Sg.later (h : Sg w0 g k m t T b n w) (hb : Below w.heap.size w w') : Sg w0 g k m t T b n w' :=
  ⟨h.mp.later hb, h.sr.later hb h.sr.lt, h.be.trans (hb.mono h.be.size), h.lb⟩
theorem cells_keep {b : Nat} (hg : w.grownBy w' (some b)) (hb : ∃ es ck, w.heap[b]? = some (.map es ck)) (k : Nat) (C : Array Value) (U : TypeId) (hr : w.heap[k]? = some (Obj.cells C U (0, 0))) : w'.heap[k]? = some (Obj.cells C U (0, 0)) := by
  refine (hg.block k (Array.getElem?_eq_some_iff.1 hr).1 (fun e => ?_)).trans hr
  injection e with e
  subst e
  obtain ⟨es, ck, h⟩ := hb
  rw [hr] at h
  cases h
theorem Sg.put {T' : Int → Option Value} {n' : Nat} (h : Sg w0 g k m t T b n w) (hm : Mq T' b n' w') (hg : w.grownBy w' (some b)) : Sg w0 g k m t T' b n' w' :=
  ⟨hm, cells_keep hg h.mp.row _ _ _ h.sr, h.be.grown hg h.be.size (fun k hk => by cases hk; exact h.lb), h.lb⟩
/-- An entry written, in a walk. -/
theorem wpList_put {ops : Array Oper} {rest : List Oper} {o : Oper} {a : Act} {Q : Exit → Act → World → Prop} (hgd : o.guard = none) (x y z : Operand) (ho : o.op = .mapUpdate 61 x y z) (hd : o.dst = none)
    (h : Sg w0 g k m t T b n w) (hn : n < 100000) (q : Int) (v : Value) (hq : (Lit.int .i64 q).wf = true) (hx : a.eval x = .map (some b)) (hy : a.eval y = .int .i64 q) (hz : a.eval z = v)
    (hK : ∀ w', Sg w0 g k m t (tset T q v) b (n + 1) w' → wpList Try.prog ops Q rest a w') : wpList Try.prog ops Q (o :: rest) a w := by
  refine wpList_plain hgd fun K' hK' => ?_
  obtain ⟨w', hrun, r1, r2⟩ := h.mp.update hn q v hq
  unfold Oper.wp
  simp [execOp, ho, hx, hy, hz, hrun, Result.andThen]
  refine hK' _ _ ?_
  have := hK w' (h.put r1 r2)
  simpa [Oper.upon, Act.put, hd] using this
end
theorem mkMap (w : World) : (Instr.makeMap 61 (some (.int .i64 127))).run Try.prog w = .ok (.map (some w.heap.size)) (w.alloc (.map #[] 0)) := by first | rfl | kernel_rfl | simp [Instr.makeMap]
theorem tldR (n : Int) {w0 w : World} {g b N : Nat} {k : Cp} {m t : BitVec 64} {T : Int → Option Value} (h : Sg w0 g k m t T b N w) : Calls Try.prog 46 #[.int .u64 n] w fun e w' => e = .returned (rgv 53 54 (.int .u64 n)) ∧ Sg w0 g k m t T b N w' :=
  (toldReg_c n w).mono fun _ _ ⟨he, hb⟩ => ⟨he, h.later hb⟩
theorem staR (p : Addr) {w0 w : World} {g b N : Nat} {k : Cp} {m t : BitVec 64} {T : Int → Option Value} (h : Sg w0 g k m t T b N w) : Calls Try.prog 45 #[.agg #[.pointer (some p)]] w fun e w' => e = .returned (rgv 51 52 (.agg #[.pointer (some p)])) ∧ Sg w0 g k m t T b N w' :=
  (statusReg_c p w).mono fun _ _ ⟨he, hb⟩ => ⟨he, h.later hb⟩
theorem wrdR (p : Addr) (n : Int) {w0 w : World} {g b N : Nat} {k : Cp} {m t : BitVec 64} {T : Int → Option Value} (h : Sg w0 g k m t T b N w) : Calls Try.prog 47 #[.agg #[.pointer (some p), .int .u64 n]] w fun e w' => e = .returned (rgv 55 56 (.agg #[.pointer (some p), .int .u64 n])) ∧ Sg w0 g k m t T b N w' :=
  (wordReg_c p n w).mono fun _ _ ⟨he, hb⟩ => ⟨he, h.later hb⟩
theorem cfgRg (p : Addr) (n : Int) {w0 w : World} {g b N : Nat} {k : Cp} {m t : BitVec 64} {T : Int → Option Value} (h : Sg w0 g k m t T b N w) : Calls Try.prog 48 #[.agg #[.pointer (some p), .int .i64 n]] w fun e w' => e = .returned (rgv 57 58 (.agg #[.pointer (some p), .int .i64 n])) ∧ Sg w0 g k m t T b N w' :=
  (configReg_c p n w).mono fun _ _ ⟨he, hb⟩ => ⟨he, h.later hb⟩
theorem adrR (p : Addr) (n : Int) {w0 w : World} {g b N : Nat} {k : Cp} {m t : BitVec 64} {T : Int → Option Value} (h : Sg w0 g k m t T b N w) : Calls Try.prog 49 #[.agg #[.pointer (some p), .int .i64 n]] w fun e w' => e = .returned (rgv 59 60 (.agg #[.pointer (some p), .int .i64 n])) ∧ Sg w0 g k m t T b N w' :=
  (addressReg_c p n w).mono fun _ _ ⟨he, hb⟩ => ⟨he, h.later hb⟩
end Go.Proofs.Ytnnkeodiacdmaab
