/-
  Cpb.
-/
import Derived.Test.YtnlkamfoopikhaaCpe
import Derived.Deep.Cut
namespace Go.Proofs.Ytnlkamfoopikhaa
set_option linter.unusedVariables false
open Go.ChangeShapes Go.WideShapes Go.ChangeAt Go.RowKit Go.Deep
theorem cpc_x0 (k : Cp) : (cpc k).setIfInBounds 1 (.int .u64 0) = cpc { k with x := upd k.x 0 0#64 } := cpc_x k 0 (by omega) 0#64
theorem cpc_s0 (k : Cp) (v : BitVec 64) : (cpc k).setIfInBounds 35 (.int .u64 (n64 v)) = cpc { k with s := upd k.s 0 v } := cpc_s k 0 (by omega) v
theorem cpc_s1 (k : Cp) (v : BitVec 64) : (cpc k).setIfInBounds 36 (.int .u64 (n64 v)) = cpc { k with s := upd k.s 1 v } := cpc_s k 1 (by omega) v
theorem cpc_s2 (k : Cp) (v : BitVec 64) : (cpc k).setIfInBounds 37 (.int .u64 (n64 v)) = cpc { k with s := upd k.s 2 v } := cpc_s k 2 (by omega) v
theorem cpc_s3 (k : Cp) (v : BitVec 64) : (cpc k).setIfInBounds 38 (.int .u64 (n64 v)) = cpc { k with s := upd k.s 3 v } := cpc_s k 3 (by omega) v
theorem cpc_s4 (k : Cp) (v : BitVec 64) : (cpc k).setIfInBounds 39 (.int .u64 (n64 v)) = cpc { k with s := upd k.s 4 v } := cpc_s k 4 (by omega) v
theorem cpc_s5 (k : Cp) (v : BitVec 64) : (cpc k).setIfInBounds 40 (.int .u64 (n64 v)) = cpc { k with s := upd k.s 5 v } := cpc_s k 5 (by omega) v
theorem cpc_s6 (k : Cp) (v : BitVec 64) : (cpc k).setIfInBounds 41 (.int .u64 (n64 v)) = cpc { k with s := upd k.s 6 v } := cpc_s k 6 (by omega) v
theorem cpc_s7 (k : Cp) (v : BitVec 64) : (cpc k).setIfInBounds 42 (.int .u64 (n64 v)) = cpc { k with s := upd k.s 7 v } := cpc_s k 7 (by omega) v
theorem cpc_s8 (k : Cp) (v : BitVec 64) : (cpc k).setIfInBounds 43 (.int .u64 (n64 v)) = cpc { k with s := upd k.s 8 v } := cpc_s k 8 (by omega) v
theorem cpc_s9 (k : Cp) (v : BitVec 64) : (cpc k).setIfInBounds 44 (.int .u64 (n64 v)) = cpc { k with s := upd k.s 9 v } := cpc_s k 9 (by omega) v
theorem cpc_s10 (k : Cp) (v : BitVec 64) : (cpc k).setIfInBounds 45 (.int .u64 (n64 v)) = cpc { k with s := upd k.s 10 v } := cpc_s k 10 (by omega) v
theorem cpc_s11 (k : Cp) (v : BitVec 64) : (cpc k).setIfInBounds 46 (.int .u64 (n64 v)) = cpc { k with s := upd k.s 11 v } := cpc_s k 11 (by omega) v
theorem Row.pmp {w : World} {g : Nat} {k : Cp} {t : TypeId} (h : Row w g (cpc k) t) : ∀ j v, (pc k.c k.a)[j]? = some v → w.cell? ⟨g, 47 + j, none⟩ = some v := fun j v hv => by
  have := h.cpu.pmp j v hv
  rwa [Nat.zero_add] at this
theorem Row.cls {w : World} {g : Nat} {k : Cp} {t : TypeId} (h : Row w g (cpc k) t) : Cls w g k := h.cpu.cls
/-- A world under a letter, with a row that it holds. -/
theorem go_on1 {motive : World → Prop} {w a : World} {g B n : Nat} {cs : Array Value} {t : TypeId} (h1 : Row w g cs t) (h2 : Below B a w) (hs : w.heap.size = n)
    (h : ∀ W, Row W g cs t → Below B a W → W.heap.size = n → motive W) : motive w := h w h1 h2 hs
theorem go_on2 {motive : World → Prop} {w a : World} {g g' B n : Nat} {cs cs' : Array Value} {t t' : TypeId} (h1 : Row w g cs t) (h1' : Row w g' cs' t') (h2 : Below B a w) (hs : w.heap.size = n)
    (h : ∀ W, Row W g cs t → Row W g' cs' t' → Below B a W → W.heap.size = n → motive W) : motive w := h w h1 h1' h2 hs
theorem go_on3 {motive : World → Prop} {w a : World} {g g' g'' B n : Nat} {cs cs' cs'' : Array Value} {t t' t'' : TypeId} (h1 : Row w g cs t) (h1' : Row w g' cs' t') (h1'' : Row w g'' cs'' t'') (h2 : Below B a w) (hs : w.heap.size = n)
    (h : ∀ W, Row W g cs t → Row W g' cs' t' → Row W g'' cs'' t'' → Below B a W → W.heap.size = n → motive W) : motive w := h w h1 h1' h1'' h2 hs
theorem row_cast {w : World} {g : Nat} {cs cs' : Array Value} {t : TypeId} (h : Row w g cs t) (e : cs = cs') : Row w g cs' t := e ▸ h
theorem Row.nores {w : World} {g : Nat} {k : Cp} {t : TypeId} (h : Row w g (cpc k) t) : Row (((w.setCell ⟨g, 79, none⟩ (.bool false)).setCell ⟨g, 80, none⟩ (.int .u64 0)).setCell ⟨g, 81, none⟩ (.int .i64 0)) g (cpc { k with rv := false, ra := 0#64, rs := 0 }) t := by
  have R9 := ((h.put (i := 79) (.bool false)).put (i := 80) (.int .u64 (n64 0#64))).put (i := 81) (.int .i64 0)
  rw [cpc_rv, cpc_ra, cpc_rs] at R9
  exact R9
/-- A struct stored into the middle of a block. -/
theorem wpList_store_part {P : Program} {ops : Array Oper} {rest : List Oper} {o : Oper} {a : Act} {w : World} {Q : Exit → Act → World → Prop} (hgd : o.guard = none) (t : TypeId) (x y : Operand) (ho : o.op = .store t x y) (hd : o.dst = none)
    (g off : Nat) (c' : Array Value) (hx : a.eval x = .pointer (some ⟨g, off, none⟩)) (hy : a.eval y = .agg c') (ht : w.there g off c'.size) (hi : (P.info? t).map (·.size) = some c'.size) (h1 : c'.all (·.oneCell') = true)
    (h : wpList P ops Q rest a (w.setCells g off c'.toList)) : wpList P ops Q (o :: rest) a w :=
  wpList_plain hgd fun _ hK => by
    unfold Oper.wp execOp
    simp only [ho, hx, hy, Instr.storeAt, Instr.sureAddr, Sem.run_bind, Sem.run_pure, Result.andThen_ok, run_storeVar_mid w g off t c' ht hi h1]
    simpa [Oper.upon, Act.put, hd] using hK _ _ h
theorem size_row (w : World) (g : Nat) (cs : Array Value) : (w.setRow g cs).heap.size = w.heap.size := by simp
/-- A row and a slot handed back. -/
theorem results_row_slot {P : Program} {fn : Func} {p q : Tmp} {ty : TypeId} (h : fn.results = #[.cell p ty, .tmp q]) (tmps : Array Value) (w : World) (g : Nat) (t : TypeId) (cs : Array Value) (fr : Nat × Nat) (d : TypeDesc) (v : Value)
    (hp : tmps.getD p undef = .pointer (some ⟨g, 0, none⟩)) (hq : tmps.getD q undef = v) (hg : w.heap[g]? = some (.cells cs t fr))
    (hu : P.underlying ty = some d) (hd : (match d with | .struct _ | .array _ _ => true | _ => false) = true) (hi : (P.info? ty).map (·.size) = some cs.size) :
    (results fn tmps).run P w = .ok (.tuple #[.agg cs, v]) w := by
  have hp' : tmps[p]?.getD undef = .pointer (some ⟨g, 0, none⟩) := by simpa using hp
  have hq' : tmps[q]?.getD undef = v := by simpa using hq
  simp [results, h, hp', hq', asAddr, run_loadVar_row w g t ty cs fr d hg hu hd hi]
/-- The Cpu that is nothing. -/
def cz : Cp := ⟨0#64, fun _ => 0#64, 0, false, fun _ => 0#64, fun _ => 0#8, fun _ => 0#64, false, 0#64, 0⟩
theorem zero_cpu (w : World) : (zeroValue 31).run Try.prog w = .ok (.agg (cpc cz)) w := by kernel_rfl
theorem info_cpu (k : Cp) : (Try.prog.info? 31).map (·.size) = some (cpc k).size := by rw [cpc_size]; kernel_rfl
theorem info_pmp (c : Nat → BitVec 8) (a : Nat → BitVec 64) : (Try.prog.info? 27).map (·.size) = some (pc c a).size := by rw [pc_size]; kernel_rfl
theorem n64_ne {x y : BitVec 64} (h : ¬ x = y) : (n64 x == n64 y) = false := by
  rw [beq_eq_false_iff_ne]; exact fun e => h (n64_inj.1 e)
end Go.Proofs.Ytnlkamfoopikhaa
