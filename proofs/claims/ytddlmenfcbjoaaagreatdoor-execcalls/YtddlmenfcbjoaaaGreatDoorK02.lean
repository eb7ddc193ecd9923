import Derived.Test.YtddlmenfcbjoaaaGreatDoorRows
import Derived.WalkKit
import Derived.ProofKit
import Derived.OpenShut
import Derived.WalkLawsBesides
import Derived.WalkSpells
import Derived.Outline
import Derived.Laws.Tables
import Derived.Laws.Rows
import Derived.Deep.WholeRow
import Derived.Deep.Quiet
import Derived.Deep.QuietTactic
import Derived.BigQuiet
import Derived.Lib.SmallJoins
import Derived.Laws.Bits64
import Derived.StillTailTactics
namespace Go.Proofs.YtddlmenfcbjoaaaGreatDoor
set_option linter.unusedVariables false
set_option maxRecDepth 100000
set_option maxHeartbeats 8000000
open Go.ChangeShapes Go.WideShapes Go.ChangeAt Go.RowKit Go.Deep _root_.Go.Proofs.Tryz
abbrev ZqD := @Below.refl
abbrev ZqN := @BigFrame.wpQuiet_want
abbrev ZqT := @BitVec.eq_of_toNat_eq
abbrev ZqR := @BitVec.toNat_ofNat
abbrev ZqI := @DataW.trod_int
abbrev ZqA := @List.setIfInBounds_toArray
abbrev ZqC := @List.set_cons_succ
abbrev ZqB := @List.set_cons_zero
abbrev ZqE := @Nat.le_refl
abbrev ZqO := @Nat.le_trans
abbrev ZqS := @Nat.lt_of_lt_of_le
abbrev ZqV := @Nat.mod_eq_of_lt
abbrev ZqU := @Nat.zero_add
abbrev ZqF := @Option.some.inj
abbrev ZqH := @bodyPost_ret
abbrev ZqP := @cell_of_row
abbrev ZqQ := @heap_setCell_same
abbrev ZqM := @results_cell_row
abbrev ZqL := @run_part_plain
abbrev ZqW := @setRow_heap
abbrev ZqZ := Int → BitVec 64 → BitVec 64 → BitVec 64
theorem hid {p : Prop} (h : p) : Hid p := h
theorem aC {P : Program} {ops : Array Oper} {rest : List Oper} {o : Oper} {a : Act} {w : World} {Q : Exit → Act → World → Prop} (hgd : o.guard = none) (t : TypeId) (parts : Array (Nat × Operand)) (ho : o.op = .build t parts)
  (cells : Array Value) (hc : P.built t (parts.map fun (i, x) => (i, a.eval x)).toList = some cells)
  (h : wpList P ops Q rest (a.put o.dst (.agg cells)) w) : wpList P ops Q (o :: rest) a w :=
 wpList_plain hgd fun _ hK => by
  unfold Oper.wp execOp
  simp only [ho, Sem.run_bind, run_build w t _ cells hc, Result.andThen_ok]
  exact hK _ _ h

theorem aK {P : Program} {ops : Array Oper} {rest : List Oper} {o : Oper} {a : Act} {w : World} {Q : Exit → Act → World → Prop} (hgd : o.guard = none) (t : TypeId) (x y : Operand) (ho : o.op = .store t x y) (hd : o.dst = none)
  (c c' : Array Value) (hx : a.eval x = .pointer (some ⟨w.heap.size, 0, none⟩)) (hy : a.eval y = .agg c') (hi : (P.info? t).map (·.size) = some c'.size) (hs : c.size = c'.size) (h1 : c'.all (·.oneCell') = true)
  (h : wpList P ops Q rest a (w.alloc (.cells c' t))) : wpList P ops Q (o :: rest) a (w.alloc (.cells c t)) :=
 wpList_plain hgd fun _ hK => by
  unfold Oper.wp execOp
  simp only [ho, hx, hy, Sem.run_bind, run_storeAt_new w t c c' hi hs h1, Result.andThen_ok]
  simpa [Oper.upon, Act.put, hd] using hK _ _ h

def fv (f : Nat) : Value := .func (.func f) #[] #[]

structure bB (W : World) where
 at_ : World
 below : Below W.heap.size W at_
theorem aS (W : World) : Nonempty (bB W) := ⟨⟨W, Below.refl _ _⟩⟩
def bB.start (W : World) : bB W := ⟨W, Below.refl _ _⟩

theorem bB.step {W : World} (x : bB W) {w' : World} (h : Below x.1.heap.size x.1 w') : ∃ y : bB W, w' = y.1 :=
 ⟨⟨w', x.2.trans (h.mono x.2.size)⟩, rfl⟩

theorem bJ {P : Program} {f : FuncId} {args : Array Value} {W : World} {x : bB W} {v : Value}
  (h : Calls P f args x.1 fun e w' => e = .returned v ∧ Below x.1.heap.size x.1 w') : Calls P f args x.1 fun e w' => e = .returned v ∧ ∃ y : bB W, w' = y.1 :=
 h.mono fun _ _ ⟨he, hb⟩ => ⟨he, x.step hb⟩
theorem bL {P : Program} {f : FuncId} {args : Array Value} {W : World} {x : bB W} {v : Value}
  (h : Calls P f args x.1 fun e w' => e = .returned v ∧ w' = x.1) : Calls P f args x.1 fun e w' => e = .returned v ∧ ∃ y : bB W, w' = y.1 :=
 h.mono fun _ _ ⟨he, hb⟩ => ⟨he, x, hb⟩

theorem qB {W : World} (x : bB W) {p : Addr} (h : p.block < W.heap.size) : x.1.cell? p = W.cell? p := x.2.cell h

theorem bN {P : Program} {id : Nat} {Q : Exit → Act → World → Prop} {a : Act} {W : World} {x0 : bB W} {l : List Oper} (hm : P.follows .mixedOrders = true) (hB : Region.lexB .any l.toArray = true)
  (h : wpQuiet P l.toArray (fun w' => ∃ x : bB W, w' = x.1) (fun a' => ∀ w', (∃ x : bB W, w' = x.1) → Q .normal a' w') l a) : (Code.region id l.toArray true).wp P Q a x0.1 :=
 wp_region_quiet (C := fun w' => ∃ x : bB W, w' = x.1) hm hB ⟨⟨_, x0.2.drew⟩, rfl⟩ (by simpa using h)

def n64 (x : BitVec 64) : Int := (x.toNat : Int)
theorem bV {x y : BitVec 64} : n64 x = n64 y ↔ x = y := by
 unfold n64; constructor
 ·intro h; exact BitVec.eq_of_toNat_eq (by omega)
 ·rintro rfl; rfl
theorem bF (x : BitVec 64) : 0 ≤ n64 x := by unfold n64; omega
theorem bM (x : BitVec 64) : n64 x ≤ 18446744073709551615 := by unfold n64; have := x.isLt; omega
theorem dV {n : Int} (h : (Lit.int .u64 n).wf = true) : ∃ x : BitVec 64, n = n64 x := by
 have hb := bounds_u64 h
 refine ⟨BitVec.ofNat 64 n.toNat, ?_⟩
 unfold n64; rw [BitVec.toNat_ofNat, Nat.mod_eq_of_lt (by omega)]; omega
theorem n64_wf (x : BitVec 64) : (Lit.int .u64 (n64 x)).wf = true := WalkArith.wf_u64 ⟨bF x, bM x⟩
section
variable {H : Type} {enc : TypeId × Value → H} {P : Program} {w : World} {base : Nat} {spare : Nat → Bool} {held : Bool}
end
end Go.Proofs.YtddlmenfcbjoaaaGreatDoor
namespace Go.Proofs.YtddlmenfcbjoaaaGreatDoor
set_option linter.unusedVariables false
set_option maxRecDepth 100000
set_option maxHeartbeats 8000000
open Go.ChangeShapes Go.WideShapes Go.ChangeAt Go.RowKit _root_.Go.Proofs.Tryz
theorem cH {k : IntKind} {a b : Int} (h : a = b) : Ending.returned (.int k a) = .returned (.int k b) := by rw [h]

theorem dB (x : BitVec 64) : BitVec.ofInt 64 (n64 x) = x := by
 unfold n64; apply ZqT; rw [BitVec.toNat_ofInt]; have := x.isLt; omega

theorem dM (z : Int) : IntKind.u64.wrap z = n64 (BitVec.ofInt 64 z) := by
 unfold n64; rw [IntKind.wrap_u64, BitVec.toNat_ofInt]; omega

theorem dA (x y : BitVec 64) : IntKind.u64.wrap (n64 x + n64 y) = n64 (x + y) := by
 rw [IntKind.wrap_u64]; unfold n64; rw [BitVec.toNat_add]; omega
theorem iW (x y : BitVec 64) : IntKind.u64.wrap (n64 x - n64 y) = n64 (x - y) := by
 rw [IntKind.wrap_u64]; unfold n64; rw [BitVec.toNat_sub]; have := x.isLt; have := y.isLt; omega
theorem pA (x y : BitVec 64) : IntKind.u64.wrap (n64 x * n64 y) = n64 (x * y) := by
 rw [IntKind.wrap_u64]; unfold n64; rw [BitVec.toNat_mul, Int.natCast_emod, Int.natCast_mul]; rfl
theorem cQ (x y : BitVec 64) : bits .and .u64 (n64 x) (n64 y) = n64 (x &&& y) := by
 show IntKind.u64.wrap ((BitVec.ofInt 64 (n64 x) &&& BitVec.ofInt 64 (n64 y)).toNat : Int) = _
 rw [dB, dB, dM]; exact congrArg n64 (dB _)
theorem hU (x y : BitVec 64) : bits .or .u64 (n64 x) (n64 y) = n64 (x ||| y) := by
 show IntKind.u64.wrap ((BitVec.ofInt 64 (n64 x) ||| BitVec.ofInt 64 (n64 y)).toNat : Int) = _
 rw [dB, dB, dM]; exact congrArg n64 (dB _)
theorem AP (x y : BitVec 64) : bits .xor .u64 (n64 x) (n64 y) = n64 (x ^^^ y) := by
 show IntKind.u64.wrap ((BitVec.ofInt 64 (n64 x) ^^^ BitVec.ofInt 64 (n64 y)).toNat : Int) = _
 rw [dB, dB, dM]; exact congrArg n64 (dB _)
theorem gY (x : BitVec 64) (k : Nat) : IntKind.u64.wrap (n64 x * 2 ^ k) = n64 (x <<< k) := by
 rw [IntKind.wrap_u64]; unfold n64; rw [BitVec.toNat_shiftLeft, Nat.shiftLeft_eq, Int.natCast_emod, Int.natCast_mul, Int.natCast_pow]; rfl
theorem kA (x : BitVec 64) (k : Nat) : n64 x / 2 ^ k = n64 (x >>> k) := by
 unfold n64; rw [BitVec.toNat_ushiftRight, Nat.shiftRight_eq_div_pow, Int.natCast_ediv, Int.natCast_pow]; rfl
theorem JL (x y : BitVec 64) : n64 x / n64 y = n64 (x / y) := by
 unfold n64; rw [BitVec.toNat_udiv]; push_cast; rfl
theorem DE (x y : BitVec 64) : IntKind.u64.wrap ((n64 x).tdiv (n64 y)) = n64 (x / y) := by
 rw [Int.tdiv_eq_ediv_of_nonneg (bF x), JL, dM, dB]
theorem JM (x y : BitVec 64) : n64 x % n64 y = n64 (x % y) := by
 unfold n64; rw [BitVec.toNat_umod]; push_cast; rfl

theorem lH (z : Int) : wrap64 z = z.bmod 18446744073709551616 := by
 unfold wrap64; rw [Int.bmod_def]; split <;> omega
theorem wZ (z : Int) : wrap32 z = z.bmod 4294967296 := by
 unfold wrap32; rw [Int.bmod_def]; split <;> omega
theorem bR (x : BitVec 64) : wrap64 (n64 x) = x.toInt := by
 rw [lH, BitVec.toInt_eq_toNat_bmod]; rfl
theorem zG (x : BitVec 64) : wrap32 (n64 x) = (x.setWidth 32).toInt := by
 rw [wZ, BitVec.toInt_eq_toNat_bmod, BitVec.toNat_setWidth]; unfold n64
 show _ = ((x.toNat % 4294967296 : Nat) : Int).bmod 4294967296
 rw [Int.natCast_emod]; exact (Int.emod_bmod _ 4294967296).symm
theorem rJ (x : BitVec 32) : wrap64 x.toInt = x.toInt := by
 have h1 := BitVec.le_toInt x; have h2 := BitVec.toInt_lt (x := x)
 unfold wrap64; simp at h1 h2; omega
theorem gG (x : BitVec 64) : IntKind.u64.wrap x.toInt = n64 x := by
 rw [dM, BitVec.ofInt_toInt]

def wid (x : BitVec 64) : BitVec 64 := (x.setWidth 32).signExtend 64
theorem QA (x : BitVec 64) : IntKind.u64.wrap (wrap64 (wrap32 (n64 x))) = n64 (wid x) := by
 rw [zG, rJ, dM]; rfl
def low (x : BitVec 64) : BitVec 64 := x &&& 4294967295#64
theorem AL (x : BitVec 64) : bits .and .u64 (n64 x) 4294967295 = n64 (low x) := cQ x 4294967295#64

theorem PZ (x : BitVec 64) (k : Nat) : IntKind.u64.wrap (x.toInt / 2 ^ k) = n64 (x.sshiftRight k) := by
 have h : x.toInt / 2 ^ k = (x.sshiftRight k).toInt := by
  rw [BitVec.toInt_sshiftRight, Int.shiftRight_eq_div_pow, Int.natCast_pow]; rfl
 rw [h, gG]
theorem JJ (x y : BitVec 64) : IntKind.u64.wrap (wrap64 (x.toInt.tdiv y.toInt)) = n64 (x.sdiv y) := by
 have h : wrap64 (x.toInt.tdiv y.toInt) = (x.sdiv y).toInt := by
  rw [lH, BitVec.toInt_sdiv]
 rw [h, gG]
theorem JK (x y : BitVec 64) : IntKind.u64.wrap (x.toInt.tmod y.toInt) = n64 (x.srem y) := by
 rw [← BitVec.toInt_srem, gG]
theorem fE {y : BitVec 64} (h : n64 y = 0) : y = 0#64 := bV.1 (h.trans rfl)
theorem kJ {y : BitVec 64} (h : y.toInt = 0) : y = 0#64 := BitVec.eq_of_toInt_eq (by simpa using h)

/-! Quotients and comparisons as the document has them -/
def sU (x y : BitVec 64) : BitVec 64 := if y = 0#64 then ~~~0#64 else x / y
def sV (x y : BitVec 64) : BitVec 64 := if y = 0#64 then x else x % y
def DK (x y : BitVec 64) : BitVec 64 := if y = 0#64 then ~~~0#64 else x.sdiv y
def DL (x y : BitVec 64) : BitVec 64 := if y = 0#64 then x else x.srem y
def NQ (x y : BitVec 64) : BitVec 64 := if x.toInt < y.toInt then 1#64 else 0#64
def zO (x y : BitVec 64) : BitVec 64 := if n64 x < n64 y then 1#64 else 0#64
end Go.Proofs.YtddlmenfcbjoaaaGreatDoor
namespace Go.Proofs.YtddlmenfcbjoaaaGreatDoor
set_option linter.unusedVariables false
set_option maxRecDepth 100000
set_option maxHeartbeats 8000000
open Go.ChangeShapes Go.WideShapes Go.ChangeAt Go.RowKit Go.Deep _root_.Go.Proofs.Tryz
section
variable {P : Program} {ops : Array Oper} {md : Region.Mode} {C : World → Prop}
def rG (P : Program) (md : Region.Mode) (ops : Array Oper) (C : World → Prop) (n : Nat) (L : Array Bool → Act → Prop) : Nat → Array Bool → Act → Prop
 | 0, listed, a => L listed a
 | f + 1, listed, a => Region.ready md ops listed ≠ [] ∧ ∀ i ∈ Region.ready md ops listed, i < n ∧ qOp P ops C i (rG P md ops C n L f (listed.setIfInBounds i true)) a
theorem rI {n g : Nat} {L : Array Bool → Act → Prop} {Q' : Exit → Act → World → Prop} (hL : ∀ listed a w, C w → L listed a → wpAny P md ops Q' g listed a w) :
  ∀ (f : Nat) (listed : Array Bool) (a : Act) (w : World), C w → rG P md ops C n L f listed a → wpAny P md ops Q' (f + g) listed a w
 | 0, listed, a, w, hw, h => by rw [ZqU]; exact hL _ _ _ hw h
 | f + 1, listed, a, w, hw, h => by
  rw [Nat.add_right_comm f 1 g]
  exact ⟨fun h0 => absurd h0 h.1, fun i hi => wpOp_of_qOp hw (fun a' w' hw' h' => rI hL f _ a' w' hw' h') (h.2 i hi).2⟩
theorem lM {n i : Nat} {listed : Array Bool} (hs : Region.sinkB md ops n = true) (hc : Region.chainB md ops n = true) (hn : n < ops.size) (inv : HeadInv md ops n listed) (hin : i < n) (hr : i ∈ Region.ready md ops listed) :
  ∀ j ∈ Region.ready md ops listed, j < n := fun j hj => by
 rcases Nat.lt_or_ge j n with h | h
 ·exact h
 ·exact absurd hj (tail_waits hs hc hn inv _ i rfl hin (mem_ready.1 hr).1 j h)
theorem uJ {n i : Nat} {oi : Oper} {v : Value} {L : Array Bool → Act → Prop} (hi : ops[i]? = some oi) (hsel : ∀ (j : Nat) (o : Oper) cs b, ops[j]? = some o → o.op ≠ .select cs b)
  (hs : Region.sinkB md ops n = true) (hc : Region.chainB md ops n = true) (hn : n < ops.size) (hin : i < n) (hdone : ∀ listed a, L listed a → ∀ j ∈ Region.ready md ops listed, n ≤ j) :
  ∀ (f : Nat) (listed : Array Bool) (a : Act), HeadInv md ops n listed →
   (∀ j oj, ops[j]? = some oj → j ≠ i → listed.getD j true = false → (∀ e ∈ oj.after, Region.binds md e = true → e.on ≠ i) → oi.apart ops oj = true) →
   i ∈ Region.ready md ops listed → YieldsIn P ops C oi v a →
   rG P md ops C n L f (listed.setIfInBounds i true) (a.put oi.dst v) → rG P md ops C n L (f + 1) listed a := by
 intro f
 induction f with
 | zero =>
  intro listed a inv _ hr hy H
  refine ⟨List.ne_nil_of_mem hr, fun j hj => ⟨lM hs hc hn inv hin hr j hj, ?_⟩⟩
  by_cases e : j = i
  ·subst e; exact hy.qOp hi H
  ·have h1 := hdone _ _ H j (ready_mono hj e)
   have h2 := lM hs hc hn inv hin hr j hj
   omega
 | succ f ih =>
  intro listed a inv hfree hr hy H
  refine ⟨List.ne_nil_of_mem hr, fun j hj => ⟨lM hs hc hn inv hin hr j hj, ?_⟩⟩
  by_cases e : j = i
  ·subst e; exact hy.qOp hi H
  ·obtain ⟨hun, oj, hoj, hall⟩ := mem_ready.1 hj
   have hap : oi.apart ops oj = true := hfree j oj hoj e hun fun q hq hb heq => by
    have h1 := hall q hq hb
    rw [heq, getD_both (mem_ready.1 hr).1] at h1
    cases h1
   refine qOp_mono (fun a' h3 => ih (listed.setIfInBounds j true) a' (inv.set hj (lM hs hc hn inv hin hr j hj)) (fun k ok hk hki hunk hno => ?_) (ready_mono hr (Ne.symm e)) h3.1 ?_)
    (qOp_put hoj hap (fun cs b => hsel i oi cs b hi) (fun cs b => hsel j oj cs b hoj) hy (H.2 j (ready_mono hj e)).2)
   ·refine hfree k ok hk hki ?_ hno
    by_cases e2 : j = k
    ·subst e2; exact hun
    ·rwa [getD_set_ne true e2] at hunk
   ·rw [Array.setIfInBounds_comm _ _ e]; exact h3.2
theorem rH {n g : Nat} {Lq : Act → Prop} (hsel : Region.noSelect ops = true) (hs : Region.sinkB md ops n = true) (hc : Region.chainB md ops n = true) (hn : n < ops.size) :
  ∀ (l : List Oper) (k : Nat) (listed : Array Bool) (a : Act), (∀ j, j < l.length → l[j]? = ops[k + j]?) → k + l.length = n → HeadInv md ops n listed →
  Region.lexHead md ops g l.length k listed = true → wpQuiet P ops C Lq l a → rG P md ops C n (fun listed' a' => Region.seqB md ops g n listed' = true ∧ Lq a') l.length listed a
 | [], k, listed, a, _, hk, _, hB, h => by
  obtain rfl : k = n := by simpa using hk
  exact ⟨by simpa [Region.lexHead] using hB, h⟩
 | o :: l, k, listed, a, hl, hk, inv, hB, h => by
  simp only [List.length_cons] at hk
  have h0 : ops[k]? = some o := by simpa using (hl 0 (by simp)).symm
  simp only [List.length_cons, Region.lexHead, Bool.and_eq_true] at hB
  have hr : k ∈ Region.ready md ops listed := by simpa using hB.1.1
  obtain ⟨v, hy, hK⟩ := yieldsIn_of_qOp (K := wpQuiet P ops C Lq l) h0 (by unfold qOp; simp only [h0]; exact h)
  refine uJ h0 (Region.noSelect_spec hsel) hs hc hn (by omega) (fun listed' a' hL => seqB_ready hL.1) l.length listed a inv (Region.free_spec h0 hB.1.2) hr hy ?_
  refine rH hsel hs hc hn l (k + 1) _ _ (fun j hj => ?_) (by omega) (inv.set hr (by omega)) hB.2 hK
  have := hl (j + 1) (by simp; omega)
  simpa [Nat.add_assoc, Nat.add_comm 1 j] using this
theorem lG {id : Nat} {Q : Exit → Act → World → Prop} {a : Act} {w : World} {l : List Oper} (n : Nat) (hm : P.follows .mixedOrders = true) (hB : Region.lexTailB .any l.toArray n = true) (hC : C { w with drawn := w.drawn + 1 })
  (h : wpQuiet P l.toArray C (fun a' => ∀ w', C w' → wpList P l.toArray Q (l.drop n) a' w') (l.take n) a) : (Code.region id l.toArray true).wp P Q a w := by
 simp only [Region.lexTailB, Bool.and_eq_true, decide_eq_true_eq] at hB
 obtain ⟨⟨⟨⟨hsel, hn⟩, hs⟩, hc⟩, hlex⟩ := hB
 have hn' : n < l.length := by simpa using hn
 have ht : (l.take n).length = n := by simp; omega
 have hd : (l.drop n).length = l.toArray.size - n := by simp
 have H := rH (md := .any) (g := l.toArray.size - n) hsel hs hc hn (l.take n) 0 (Array.replicate l.toArray.size false) a (fun j hj => by
  rw [ht] at hj
  simp [hj]) (by simpa using ht) ⟨by simp, fun j oj _ hl => (by rw [getD_replicate_false] at hl; cases hl), fun t _ ht' => getD_in (by simpa using ht') (getD_replicate_false _ _)⟩ (by rw [ht]; exact hlex) h
 have G := rI (Q' := Q) (g := l.toArray.size - n) (fun listed a' w' hw' hL => by
  have := wpAny_of_seq (md := .any) (Q' := Q) (l.drop n) n listed a' w' (fun j => by simp [List.getElem?_drop]) (by rw [hd]; exact hL.1) (hL.2 w' hw')
  rwa [hd] at this) _ _ _ _ hC H
 rw [ht, show n + (l.toArray.size - n) = l.toArray.size by omega] at G
 exact wp_region_any hm G
end
theorem aQ {P : Program} {id : Nat} {Q : Exit → Act → World → Prop} {a : Act} {W : World} {x0 : bB W} {l : List Oper} (n : Nat) (hm : P.follows .mixedOrders = true) (hB : Region.lexTailB .any l.toArray n = true)
  (h : wpQuiet P l.toArray (fun w' => ∃ x : bB W, w' = x.1) (fun a' => ∀ w', (∃ x : bB W, w' = x.1) → wpList P l.toArray Q (l.drop n) a' w') (l.take n) a) : (Code.region id l.toArray true).wp P Q a x0.1 :=
 lG (C := fun w' => ∃ x : bB W, w' = x.1) n hm hB ⟨⟨_, x0.2.drew⟩, rfl⟩ h
end Go.Proofs.YtddlmenfcbjoaaaGreatDoor
namespace Go.Proofs.YtddlmenfcbjoaaaGreatDoor
set_option linter.unusedVariables false
set_option maxRecDepth 100000
set_option maxHeartbeats 8000000
open Go.ChangeShapes Go.WideShapes Go.ChangeAt Go.RowKit _root_.Go.Proofs.Tryz
def jD : Array Value := #[.nilFunc, .nilFunc, .nilFunc, .nilFunc, .nilFunc, .nilFunc, .nilFunc, .nilFunc, .nilFunc, .nilFunc, .nilFunc, .nilFunc, .nilFunc, .nilFunc, .nilFunc, .nilFunc, .nilFunc, .nilFunc, .nilFunc, .nilFunc, .nilFunc, .nilFunc, fv 180, fv 185, fv 186, fv 187, fv 188, fv 189, fv 182, fv 183, fv 184, fv 190, fv 192, fv 193, fv 194, fv 180, fv 181, fv 182, fv 185, fv 186, fv 187, fv 183, fv 184, fv 188, fv 189, fv 190, fv 191, fv 192, fv 193, fv 194, .nilFunc, .nilFunc, .nilFunc, .nilFunc, .nilFunc, .nilFunc, .nilFunc, .nilFunc, .nilFunc, .nilFunc, .nilFunc, .nilFunc, fv 195, fv 196, fv 197, fv 198, fv 199, fv 200, fv 201, fv 202, fv 203, fv 204, fv 205, fv 206, fv 207, .nilFunc, .nilFunc, .nilFunc, .nilFunc, .nilFunc, .nilFunc, .nilFunc, .nilFunc, .nilFunc, .nilFunc, .nilFunc, .nilFunc, .nilFunc, .nilFunc, .nilFunc, .nilFunc, .nilFunc, .nilFunc, .nilFunc, .nilFunc, .nilFunc, .nilFunc]

theorem AR : (prog.info? 210).map (·.size) = some jD.size := by kernel_rfl
theorem QF : Tryz.zeroCells210.size = jD.size := by kernel_rfl
theorem YZ : jD.all (·.oneCell') = true := by kernel_rfl

theorem qM (w : World) : Calls prog 167 #[] w fun e w' => e = .returned (.agg jD) ∧ w' = w.alloc (.cells jD 210) := by
 go_enter func167, ntmps167
 go_wp2_with (first
  | (refine aC (by rfl) 210 _ (by rfl) jD (by kernel_rfl) ?_)
  | (refine aK (by rfl) 210 _ _ (by rfl) (by rfl) Tryz.zeroCells210 jD (by rfl) (by rfl) AR QF YZ ?_))
 exact ZqH (v := .agg jD) (ZqM results167 _ _ w.heap.size 210 jD (0, 0) _ (by rfl) (heap_alloc_last w _) underlying210 (by rfl) AR) rfl ⟨rfl, rfl⟩

theorem JV (f : Nat) (w : World) : (Instr.field 209 (.agg #[.func (.func f) #[] #[]]) 0).run prog w = .ok (.func (.func f) #[] #[]) w := by kernel_rfl

theorem DI (f : Nat) (w : World) : (binOp .eql 207 (.func (.func f) #[] #[]) .nilFunc).run prog w = .ok (.bool false) w := by kernel_rfl

theorem aT (k : Int) (f : Nat) (a b r : Int) (w : World) (h0 : 0 ≤ k) (h1 : k < 97)
  (hidx : ∀ w, (Instr.index 210 (.agg jD) (.int .i64 k)).run prog w = .ok (.agg #[.func (.func f) #[] #[]]) w)
  (hcf : ∀ w, (callFunc f #[.int .u64 a, .int .u64 b]).run prog w = .ok (.enter f #[.int .u64 a, .int .u64 b]) w)
  (hf : ∀ w, Calls prog f #[.int .u64 a, .int .u64 b] w fun e w' => e = .returned (.int .u64 r) ∧ w' = w) :
  Calls prog 133 #[.int .i64 k, .int .u64 a, .int .u64 b] w fun e w' => e = .returned (.tuple #[.int .u64 r, .bool true]) ∧ Below w.heap.size w w' := by
 have hfld := JV f
 have hnil := DI f
 go_enter func133, ntmps133
 go_wp2_with fail
 refine (qM _).mono ?_
 rintro e w' ⟨rfl, rfl⟩
 go_wp2_with fail
 refine (hf _).mono ?_
 rintro e w' ⟨rfl, rfl⟩
 go_wp2_with fail
 go_ret2
 exact ⟨rfl, (ZqD _ _).alloc (ZqE _) _⟩
theorem mN (x y : BitVec 64) (w : World) : Calls prog 180 #[.int .u64 (n64 x), .int .u64 (n64 y)] w fun e w' => e = .returned (.int .u64 (n64 (x + y))) ∧ w' = w := by
 go_enter func180, ntmps180
 go_wp2
 go_ret
 exact ⟨cH (dA x y), rfl⟩

theorem BM (x y : BitVec 64) (w : World) : Calls prog 181 #[.int .u64 (n64 x), .int .u64 (n64 y)] w fun e w' => e = .returned (.int .u64 (n64 (x - y))) ∧ w' = w := by
 go_enter func181, ntmps181
 go_wp2
 go_ret
 exact ⟨cH (iW x y), rfl⟩

theorem AJ (x y : BitVec 64) (w : World) : Calls prog 195 #[.int .u64 (n64 x), .int .u64 (n64 y)] w fun e w' => e = .returned (.int .u64 (n64 (x * y))) ∧ w' = w := by
 go_enter func195, ntmps195
 go_wp2
 go_ret
 exact ⟨cH (pA x y), rfl⟩

theorem oS (x y : BitVec 64) (w : World) : Calls prog 189 #[.int .u64 (n64 x), .int .u64 (n64 y)] w fun e w' => e = .returned (.int .u64 (n64 (x &&& y))) ∧ w' = w := by
 go_enter func189, ntmps189
 go_wp2
 go_ret
 exact ⟨cH (cQ x y), rfl⟩

theorem tZ (x y : BitVec 64) (w : World) : Calls prog 188 #[.int .u64 (n64 x), .int .u64 (n64 y)] w fun e w' => e = .returned (.int .u64 (n64 (x ||| y))) ∧ w' = w := by
 go_enter func188, ntmps188
 go_wp2
 go_ret
 exact ⟨cH (hU x y), rfl⟩

theorem pH (x y : BitVec 64) (w : World) : Calls prog 187 #[.int .u64 (n64 x), .int .u64 (n64 y)] w fun e w' => e = .returned (.int .u64 (n64 (x ^^^ y))) ∧ w' = w := by
 go_enter func187, ntmps187
 go_wp2
 go_ret
 exact ⟨cH (AP x y), rfl⟩

theorem AZ (x : BitVec 64) (b : Int) (hb : 0 ≤ b) (hb' : b ≤ 18446744073709551615) (w : World) : Calls prog 182 #[.int .u64 (n64 x), .int .u64 b] w fun e w' => e = .returned (.int .u64 (n64 (x <<< (b % 64).toNat))) ∧ w' = w := by
 have hx := bF x; have hx' := bM x
 go_enter func182, ntmps182
 go_wp2
 go_ret
 exact ⟨cH (gY x _), rfl⟩
theorem AY (x y : BitVec 64) (w : World) : Calls prog 182 #[.int .u64 (n64 x), .int .u64 (n64 y)] w fun e w' => e = .returned (.int .u64 (n64 (x <<< (n64 y % 64).toNat))) ∧ w' = w :=
 AZ x (n64 y) (bF y) (bM y) w

theorem BF (x : BitVec 64) (b : Int) (hb : 0 ≤ b) (hb' : b ≤ 18446744073709551615) (w : World) : Calls prog 183 #[.int .u64 (n64 x), .int .u64 b] w fun e w' => e = .returned (.int .u64 (n64 (x >>> (b % 64).toNat))) ∧ w' = w := by
 have hx := bF x; have hx' := bM x
 go_enter func183, ntmps183
 go_wp2
 go_ret
 exact ⟨cH (kA x _), rfl⟩
theorem BE (x y : BitVec 64) (w : World) : Calls prog 183 #[.int .u64 (n64 x), .int .u64 (n64 y)] w fun e w' => e = .returned (.int .u64 (n64 (x >>> (n64 y % 64).toNat))) ∧ w' = w :=
 BF x (n64 y) (bF y) (bM y) w

theorem BD (x : BitVec 64) (b : Int) (hb : 0 ≤ b) (hb' : b ≤ 18446744073709551615) (w : World) : Calls prog 184 #[.int .u64 (n64 x), .int .u64 b] w fun e w' => e = .returned (.int .u64 (n64 (x.sshiftRight (b % 64).toNat))) ∧ w' = w := by
 have hx := bF x; have hx' := bM x
 go_enter func184, ntmps184
 go_wp2
 go_ret
 exact ⟨cH ((by rw [bR]; exact PZ x _)), rfl⟩
theorem BC (x y : BitVec 64) (w : World) : Calls prog 184 #[.int .u64 (n64 x), .int .u64 (n64 y)] w fun e w' => e = .returned (.int .u64 (n64 (x.sshiftRight (n64 y % 64).toNat))) ∧ w' = w :=
 BD x (n64 y) (bF y) (bM y) w

theorem vJ (x y : BitVec 64) (w : World) : Calls prog 200 #[.int .u64 (n64 x), .int .u64 (n64 y)] w fun e w' => e = .returned (.int .u64 (n64 (sU x y))) ∧ w' = w := by
 have hx := bF x; have hy := bF y
 by_cases h : y = 0#64
 ·have hz : n64 y = 0 := by rw [h]; rfl
  unfold sU
  rw [if_pos h, hz]
  go_enter func200, ntmps200
  go_wp2
  go_ret
  exact ⟨cH (by rfl), rfl⟩
 ·have hz : (n64 y == 0) = false := by
   rw [Bool.eq_false_iff]; intro hc; exact h (fE (by simpa using hc))
  have hz' : ¬ n64 y = 0 := fun hc => h (fE hc)
  have hw : ¬ wrap64 (n64 y) = 0 := fun hc => h (kJ (by rw [← bR]; exact hc))
  have hp : 0 < n64 y := by omega
  unfold sU
  rw [if_neg h]
  go_enter func200, ntmps200
  go_wp2
  go_ret
  exact ⟨cH (DE x y), rfl⟩

theorem wH (x y : BitVec 64) (w : World) : Calls prog 202 #[.int .u64 (n64 x), .int .u64 (n64 y)] w fun e w' => e = .returned (.int .u64 (n64 (sV x y))) ∧ w' = w := by
 have hx := bF x; have hy := bF y
 by_cases h : y = 0#64
 ·have hz : n64 y = 0 := by rw [h]; rfl
  unfold sV
  rw [if_pos h, hz]
  go_enter func202, ntmps202
  go_wp2
  go_ret
  exact ⟨cH (by rfl), rfl⟩
 ·have hz : (n64 y == 0) = false := by
   rw [Bool.eq_false_iff]; intro hc; exact h (fE (by simpa using hc))
  have hz' : ¬ n64 y = 0 := fun hc => h (fE hc)
  have hw : ¬ wrap64 (n64 y) = 0 := fun hc => h (kJ (by rw [← bR]; exact hc))
  have hp : 0 < n64 y := by omega
  unfold sV
  rw [if_neg h]
  go_enter func202, ntmps202
  go_wp2
  go_ret
  exact ⟨cH (JM x y), rfl⟩

theorem AB (x y : BitVec 64) (w : World) : Calls prog 199 #[.int .u64 (n64 x), .int .u64 (n64 y)] w fun e w' => e = .returned (.int .u64 (n64 (DK x y))) ∧ w' = w := by
 have hx := bF x; have hy := bF y
 by_cases h : y = 0#64
 ·have hz : n64 y = 0 := by rw [h]; rfl
  unfold DK
  rw [if_pos h, hz]
  go_enter func199, ntmps199
  go_wp2
  go_ret
  exact ⟨cH (by rfl), rfl⟩
 ·have hz : (n64 y == 0) = false := by
   rw [Bool.eq_false_iff]; intro hc; exact h (fE (by simpa using hc))
  have hz' : ¬ n64 y = 0 := fun hc => h (fE hc)
  have hw : ¬ wrap64 (n64 y) = 0 := fun hc => h (kJ (by rw [← bR]; exact hc))
  have hp : 0 < n64 y := by omega
  unfold DK
  rw [if_neg h]
  go_enter func199, ntmps199
  go_wp2
  go_ret
  exact ⟨cH (by rw [bR, bR]; exact JJ x y), rfl⟩

theorem AW (x y : BitVec 64) (w : World) : Calls prog 201 #[.int .u64 (n64 x), .int .u64 (n64 y)] w fun e w' => e = .returned (.int .u64 (n64 (DL x y))) ∧ w' = w := by
 have hx := bF x; have hy := bF y
 by_cases h : y = 0#64
 ·have hz : n64 y = 0 := by rw [h]; rfl
  unfold DL
  rw [if_pos h, hz]
  go_enter func201, ntmps201
  go_wp2
  go_ret
  exact ⟨cH (by rfl), rfl⟩
 ·have hz : (n64 y == 0) = false := by
   rw [Bool.eq_false_iff]; intro hc; exact h (fE (by simpa using hc))
  have hz' : ¬ n64 y = 0 := fun hc => h (fE hc)
  have hw : ¬ wrap64 (n64 y) = 0 := fun hc => h (kJ (by rw [← bR]; exact hc))
  have hp : 0 < n64 y := by omega
  unfold DL
  rw [if_neg h]
  go_enter func201, ntmps201
  go_wp2
  go_ret
  exact ⟨cH (by rw [bR, bR]; exact JK x y), rfl⟩

theorem BA (x y : BitVec 64) (w : World) : Calls prog 185 #[.int .u64 (n64 x), .int .u64 (n64 y)] w fun e w' => e = .returned (.int .u64 (n64 (NQ x y))) ∧ w' = w := by
 have he : NQ x y = if wrap64 (n64 x) < wrap64 (n64 y) then 1#64 else 0#64 := by rw [bR, bR]; rfl
 rw [he]
 clear he
 by_cases h : wrap64 (n64 x) < wrap64 (n64 y)
 ·rw [if_pos h]
  go_enter func185, ntmps185
  go_wp2
  go_ret
  exact ⟨rfl, rfl⟩
 ·rw [if_neg h]
  go_enter func185, ntmps185
  go_wp2
  go_ret
  exact ⟨rfl, rfl⟩

theorem wM (x y : BitVec 64) (w : World) : Calls prog 186 #[.int .u64 (n64 x), .int .u64 (n64 y)] w fun e w' => e = .returned (.int .u64 (n64 (zO x y))) ∧ w' = w := by
 have he : zO x y = if n64 x < n64 y then 1#64 else 0#64 := rfl
 rw [he]
 clear he
 by_cases h : n64 x < n64 y
 ·rw [if_pos h]
  go_enter func186, ntmps186
  go_wp2
  go_ret
  exact ⟨rfl, rfl⟩
 ·rw [if_neg h]
  go_enter func186, ntmps186
  go_wp2
  go_ret
  exact ⟨rfl, rfl⟩

theorem dY (x : BitVec 64) (w : World) : Calls prog 172 #[.int .u64 (n64 x)] w fun e w' => e = .returned (.int .u64 (n64 (wid x))) ∧ w' = w := by
 go_enter func172, ntmps172
 go_wp2
 go_ret
 exact ⟨cH (QA x), rfl⟩
theorem fD (x : BitVec 64) (w : World) : Calls prog 222 #[.int .u64 (n64 x)] w fun e w' => e = .returned (.int .u64 (n64 (low x))) ∧ w' = w := by
 go_enter func222, ntmps222
 go_wp2
 go_ret
 exact ⟨cH (AL x), rfl⟩

theorem uU (x y : BitVec 64) (w : World) : Calls prog 190 #[.int .u64 (n64 x), .int .u64 (n64 y)] w fun e w' => e = .returned (.int .u64 (n64 (wid (x + y)))) ∧ w' = w := by
 have hy := bF y; have hy' := bM y
 go_enter func190, ntmps190
 go_wp2_with (first | (go_at_call 172; refine (dY _ _).mono ?_; rintro e w' ⟨rfl, rfl⟩) | (go_at_call 222; refine (fD _ _).mono ?_; rintro e w' ⟨rfl, rfl⟩) | (go_at_call 180; refine (mN _ _ _).mono ?_; rintro e w' ⟨rfl, rfl⟩))
 go_ret
 exact ⟨rfl, rfl⟩

theorem LN (x y : BitVec 64) (w : World) : Calls prog 191 #[.int .u64 (n64 x), .int .u64 (n64 y)] w fun e w' => e = .returned (.int .u64 (n64 (wid (x - y)))) ∧ w' = w := by
 have hy := bF y; have hy' := bM y
 go_enter func191, ntmps191
 go_wp2_with (first | (go_at_call 172; refine (dY _ _).mono ?_; rintro e w' ⟨rfl, rfl⟩) | (go_at_call 222; refine (fD _ _).mono ?_; rintro e w' ⟨rfl, rfl⟩) | (go_at_call 181; refine (BM _ _ _).mono ?_; rintro e w' ⟨rfl, rfl⟩))
 go_ret
 exact ⟨rfl, rfl⟩

theorem JF (x y : BitVec 64) (w : World) : Calls prog 203 #[.int .u64 (n64 x), .int .u64 (n64 y)] w fun e w' => e = .returned (.int .u64 (n64 (wid (x * y)))) ∧ w' = w := by
 have hy := bF y; have hy' := bM y
 go_enter func203, ntmps203
 go_wp2_with (first | (go_at_call 172; refine (dY _ _).mono ?_; rintro e w' ⟨rfl, rfl⟩) | (go_at_call 222; refine (fD _ _).mono ?_; rintro e w' ⟨rfl, rfl⟩) | (go_at_call 195; refine (AJ _ _ _).mono ?_; rintro e w' ⟨rfl, rfl⟩))
 go_ret
 exact ⟨rfl, rfl⟩

theorem wK (x y : BitVec 64) (w : World) : Calls prog 192 #[.int .u64 (n64 x), .int .u64 (n64 y)] w fun e w' => e = .returned (.int .u64 (n64 (wid (x <<< (n64 y % 32 % 64).toNat)))) ∧ w' = w := by
 have hy := bF y; have hy' := bM y
 go_enter func192, ntmps192
 go_wp2_with (first | (go_at_call 172; refine (dY _ _).mono ?_; rintro e w' ⟨rfl, rfl⟩) | (go_at_call 222; refine (fD _ _).mono ?_; rintro e w' ⟨rfl, rfl⟩) | (go_at_call 182; refine (AZ _ _ (by omega) (by omega) _).mono ?_; rintro e w' ⟨rfl, rfl⟩))
 go_ret
 exact ⟨rfl, rfl⟩

theorem wO (x y : BitVec 64) (w : World) : Calls prog 193 #[.int .u64 (n64 x), .int .u64 (n64 y)] w fun e w' => e = .returned (.int .u64 (n64 (wid (low x >>> (n64 y % 32 % 64).toNat)))) ∧ w' = w := by
 have hy := bF y; have hy' := bM y
 go_enter func193, ntmps193
 go_wp2_with (first | (go_at_call 172; refine (dY _ _).mono ?_; rintro e w' ⟨rfl, rfl⟩) | (go_at_call 222; refine (fD _ _).mono ?_; rintro e w' ⟨rfl, rfl⟩) | (go_at_call 183; refine (BF _ _ (by omega) (by omega) _).mono ?_; rintro e w' ⟨rfl, rfl⟩))
 go_ret
 exact ⟨rfl, rfl⟩

theorem wN (x y : BitVec 64) (w : World) : Calls prog 194 #[.int .u64 (n64 x), .int .u64 (n64 y)] w fun e w' => e = .returned (.int .u64 (n64 (wid ((wid x).sshiftRight (n64 y % 32 % 64).toNat)))) ∧ w' = w := by
 have hy := bF y; have hy' := bM y
 go_enter func194, ntmps194
 go_wp2_with (first | (go_at_call 172; refine (dY _ _).mono ?_; rintro e w' ⟨rfl, rfl⟩) | (go_at_call 222; refine (fD _ _).mono ?_; rintro e w' ⟨rfl, rfl⟩) | (go_at_call 184; refine (BD _ _ (by omega) (by omega) _).mono ?_; rintro e w' ⟨rfl, rfl⟩))
 go_ret
 exact ⟨rfl, rfl⟩

theorem GL (x y : BitVec 64) (w : World) : Calls prog 204 #[.int .u64 (n64 x), .int .u64 (n64 y)] w fun e w' => e = .returned (.int .u64 (n64 (wid (DK (wid x) (wid y))))) ∧ w' = w := by
 have hy := bF y; have hy' := bM y
 go_enter func204, ntmps204
 go_wp2_with (first | (go_at_call 172; refine (dY _ _).mono ?_; rintro e w' ⟨rfl, rfl⟩) | (go_at_call 222; refine (fD _ _).mono ?_; rintro e w' ⟨rfl, rfl⟩) | (go_at_call 199; refine (AB _ _ _).mono ?_; rintro e w' ⟨rfl, rfl⟩))
 go_ret
 exact ⟨rfl, rfl⟩

theorem CO (x y : BitVec 64) (w : World) : Calls prog 205 #[.int .u64 (n64 x), .int .u64 (n64 y)] w fun e w' => e = .returned (.int .u64 (n64 (wid (sU (low x) (low y))))) ∧ w' = w := by
 have hy := bF y; have hy' := bM y
 go_enter func205, ntmps205
 go_wp2_with (first | (go_at_call 172; refine (dY _ _).mono ?_; rintro e w' ⟨rfl, rfl⟩) | (go_at_call 222; refine (fD _ _).mono ?_; rintro e w' ⟨rfl, rfl⟩) | (go_at_call 200; refine (vJ _ _ _).mono ?_; rintro e w' ⟨rfl, rfl⟩))
 go_ret
 exact ⟨rfl, rfl⟩

theorem KO (x y : BitVec 64) (w : World) : Calls prog 206 #[.int .u64 (n64 x), .int .u64 (n64 y)] w fun e w' => e = .returned (.int .u64 (n64 (wid (DL (wid x) (wid y))))) ∧ w' = w := by
 have hy := bF y; have hy' := bM y
 go_enter func206, ntmps206
 go_wp2_with (first | (go_at_call 172; refine (dY _ _).mono ?_; rintro e w' ⟨rfl, rfl⟩) | (go_at_call 222; refine (fD _ _).mono ?_; rintro e w' ⟨rfl, rfl⟩) | (go_at_call 201; refine (AW _ _ _).mono ?_; rintro e w' ⟨rfl, rfl⟩))
 go_ret
 exact ⟨rfl, rfl⟩

theorem DO (x y : BitVec 64) (w : World) : Calls prog 207 #[.int .u64 (n64 x), .int .u64 (n64 y)] w fun e w' => e = .returned (.int .u64 (n64 (wid (sV (low x) (low y))))) ∧ w' = w := by
 have hy := bF y; have hy' := bM y
 go_enter func207, ntmps207
 go_wp2_with (first | (go_at_call 172; refine (dY _ _).mono ?_; rintro e w' ⟨rfl, rfl⟩) | (go_at_call 222; refine (fD _ _).mono ?_; rintro e w' ⟨rfl, rfl⟩) | (go_at_call 202; refine (wH _ _ _).mono ?_; rintro e w' ⟨rfl, rfl⟩))
 go_ret
 exact ⟨rfl, rfl⟩

/-! Compute and op at each number -/
theorem c_add (x y : BitVec 64) (w : World) : Calls prog 133 #[.int .i64 35, .int .u64 (n64 x), .int .u64 (n64 y)] w fun e w' => e = .returned (.tuple #[.int .u64 (n64 (x + y)), .bool true]) ∧ Below w.heap.size w w' :=
 aT 35 180 _ _ _ w (by decide) (by decide) (fun _ => by kernel_rfl) (fun _ => by kernel_rfl) (fun w => mN x y w)
theorem c_sub (x y : BitVec 64) (w : World) : Calls prog 133 #[.int .i64 36, .int .u64 (n64 x), .int .u64 (n64 y)] w fun e w' => e = .returned (.tuple #[.int .u64 (n64 (x - y)), .bool true]) ∧ Below w.heap.size w w' :=
 aT 36 181 _ _ _ w (by decide) (by decide) (fun _ => by kernel_rfl) (fun _ => by kernel_rfl) (fun w => BM x y w)
theorem c_sll (x y : BitVec 64) (w : World) : Calls prog 133 #[.int .i64 37, .int .u64 (n64 x), .int .u64 (n64 y)] w fun e w' => e = .returned (.tuple #[.int .u64 (n64 (x <<< (n64 y % 64).toNat)), .bool true]) ∧ Below w.heap.size w w' :=
 aT 37 182 _ _ _ w (by decide) (by decide) (fun _ => by kernel_rfl) (fun _ => by kernel_rfl) (fun w => AY x y w)
theorem c_srl (x y : BitVec 64) (w : World) : Calls prog 133 #[.int .i64 41, .int .u64 (n64 x), .int .u64 (n64 y)] w fun e w' => e = .returned (.tuple #[.int .u64 (n64 (x >>> (n64 y % 64).toNat)), .bool true]) ∧ Below w.heap.size w w' :=
 aT 41 183 _ _ _ w (by decide) (by decide) (fun _ => by kernel_rfl) (fun _ => by kernel_rfl) (fun w => BE x y w)
theorem c_sra (x y : BitVec 64) (w : World) : Calls prog 133 #[.int .i64 42, .int .u64 (n64 x), .int .u64 (n64 y)] w fun e w' => e = .returned (.tuple #[.int .u64 (n64 (x.sshiftRight (n64 y % 64).toNat)), .bool true]) ∧ Below w.heap.size w w' :=
 aT 42 184 _ _ _ w (by decide) (by decide) (fun _ => by kernel_rfl) (fun _ => by kernel_rfl) (fun w => BC x y w)
theorem c_slt (x y : BitVec 64) (w : World) : Calls prog 133 #[.int .i64 38, .int .u64 (n64 x), .int .u64 (n64 y)] w fun e w' => e = .returned (.tuple #[.int .u64 (n64 (NQ x y)), .bool true]) ∧ Below w.heap.size w w' :=
 aT 38 185 _ _ _ w (by decide) (by decide) (fun _ => by kernel_rfl) (fun _ => by kernel_rfl) (fun w => BA x y w)
theorem VL (x y : BitVec 64) (w : World) : Calls prog 133 #[.int .i64 39, .int .u64 (n64 x), .int .u64 (n64 y)] w fun e w' => e = .returned (.tuple #[.int .u64 (n64 (zO x y)), .bool true]) ∧ Below w.heap.size w w' :=
 aT 39 186 _ _ _ w (by decide) (by decide) (fun _ => by kernel_rfl) (fun _ => by kernel_rfl) (fun w => wM x y w)
theorem c_xor (x y : BitVec 64) (w : World) : Calls prog 133 #[.int .i64 40, .int .u64 (n64 x), .int .u64 (n64 y)] w fun e w' => e = .returned (.tuple #[.int .u64 (n64 (x ^^^ y)), .bool true]) ∧ Below w.heap.size w w' :=
 aT 40 187 _ _ _ w (by decide) (by decide) (fun _ => by kernel_rfl) (fun _ => by kernel_rfl) (fun w => pH x y w)
theorem c_or (x y : BitVec 64) (w : World) : Calls prog 133 #[.int .i64 43, .int .u64 (n64 x), .int .u64 (n64 y)] w fun e w' => e = .returned (.tuple #[.int .u64 (n64 (x ||| y)), .bool true]) ∧ Below w.heap.size w w' :=
 aT 43 188 _ _ _ w (by decide) (by decide) (fun _ => by kernel_rfl) (fun _ => by kernel_rfl) (fun w => tZ x y w)
theorem c_and (x y : BitVec 64) (w : World) : Calls prog 133 #[.int .i64 44, .int .u64 (n64 x), .int .u64 (n64 y)] w fun e w' => e = .returned (.tuple #[.int .u64 (n64 (x &&& y)), .bool true]) ∧ Below w.heap.size w w' :=
 aT 44 189 _ _ _ w (by decide) (by decide) (fun _ => by kernel_rfl) (fun _ => by kernel_rfl) (fun w => oS x y w)
theorem UZ (x y : BitVec 64) (w : World) : Calls prog 133 #[.int .i64 45, .int .u64 (n64 x), .int .u64 (n64 y)] w fun e w' => e = .returned (.tuple #[.int .u64 (n64 (wid (x + y))), .bool true]) ∧ Below w.heap.size w w' :=
 aT 45 190 _ _ _ w (by decide) (by decide) (fun _ => by kernel_rfl) (fun _ => by kernel_rfl) (fun w => uU x y w)
theorem VQ (x y : BitVec 64) (w : World) : Calls prog 133 #[.int .i64 46, .int .u64 (n64 x), .int .u64 (n64 y)] w fun e w' => e = .returned (.tuple #[.int .u64 (n64 (wid (x - y))), .bool true]) ∧ Below w.heap.size w w' :=
 aT 46 191 _ _ _ w (by decide) (by decide) (fun _ => by kernel_rfl) (fun _ => by kernel_rfl) (fun w => LN x y w)
theorem VJ (x y : BitVec 64) (w : World) : Calls prog 133 #[.int .i64 47, .int .u64 (n64 x), .int .u64 (n64 y)] w fun e w' => e = .returned (.tuple #[.int .u64 (n64 (wid (x <<< (n64 y % 32 % 64).toNat))), .bool true]) ∧ Below w.heap.size w w' :=
 aT 47 192 _ _ _ w (by decide) (by decide) (fun _ => by kernel_rfl) (fun _ => by kernel_rfl) (fun w => wK x y w)
theorem VP (x y : BitVec 64) (w : World) : Calls prog 133 #[.int .i64 48, .int .u64 (n64 x), .int .u64 (n64 y)] w fun e w' => e = .returned (.tuple #[.int .u64 (n64 (wid (low x >>> (n64 y % 32 % 64).toNat))), .bool true]) ∧ Below w.heap.size w w' :=
 aT 48 193 _ _ _ w (by decide) (by decide) (fun _ => by kernel_rfl) (fun _ => by kernel_rfl) (fun w => wO x y w)
theorem VN (x y : BitVec 64) (w : World) : Calls prog 133 #[.int .i64 49, .int .u64 (n64 x), .int .u64 (n64 y)] w fun e w' => e = .returned (.tuple #[.int .u64 (n64 (wid ((wid x).sshiftRight (n64 y % 32 % 64).toNat))), .bool true]) ∧ Below w.heap.size w w' :=
 aT 49 194 _ _ _ w (by decide) (by decide) (fun _ => by kernel_rfl) (fun _ => by kernel_rfl) (fun w => wN x y w)
theorem c_mul (x y : BitVec 64) (w : World) : Calls prog 133 #[.int .i64 62, .int .u64 (n64 x), .int .u64 (n64 y)] w fun e w' => e = .returned (.tuple #[.int .u64 (n64 (x * y)), .bool true]) ∧ Below w.heap.size w w' :=
 aT 62 195 _ _ _ w (by decide) (by decide) (fun _ => by kernel_rfl) (fun _ => by kernel_rfl) (fun w => AJ x y w)
theorem c_div (x y : BitVec 64) (w : World) : Calls prog 133 #[.int .i64 66, .int .u64 (n64 x), .int .u64 (n64 y)] w fun e w' => e = .returned (.tuple #[.int .u64 (n64 (DK x y)), .bool true]) ∧ Below w.heap.size w w' :=
 aT 66 199 _ _ _ w (by decide) (by decide) (fun _ => by kernel_rfl) (fun _ => by kernel_rfl) (fun w => AB x y w)
theorem VB (x y : BitVec 64) (w : World) : Calls prog 133 #[.int .i64 67, .int .u64 (n64 x), .int .u64 (n64 y)] w fun e w' => e = .returned (.tuple #[.int .u64 (n64 (sU x y)), .bool true]) ∧ Below w.heap.size w w' :=
 aT 67 200 _ _ _ w (by decide) (by decide) (fun _ => by kernel_rfl) (fun _ => by kernel_rfl) (fun w => vJ x y w)
theorem c_rem (x y : BitVec 64) (w : World) : Calls prog 133 #[.int .i64 68, .int .u64 (n64 x), .int .u64 (n64 y)] w fun e w' => e = .returned (.tuple #[.int .u64 (n64 (DL x y)), .bool true]) ∧ Below w.heap.size w w' :=
 aT 68 201 _ _ _ w (by decide) (by decide) (fun _ => by kernel_rfl) (fun _ => by kernel_rfl) (fun w => AW x y w)
theorem VG (x y : BitVec 64) (w : World) : Calls prog 133 #[.int .i64 69, .int .u64 (n64 x), .int .u64 (n64 y)] w fun e w' => e = .returned (.tuple #[.int .u64 (n64 (sV x y)), .bool true]) ∧ Below w.heap.size w w' :=
 aT 69 202 _ _ _ w (by decide) (by decide) (fun _ => by kernel_rfl) (fun _ => by kernel_rfl) (fun w => wH x y w)
theorem VE (x y : BitVec 64) (w : World) : Calls prog 133 #[.int .i64 70, .int .u64 (n64 x), .int .u64 (n64 y)] w fun e w' => e = .returned (.tuple #[.int .u64 (n64 (wid (x * y))), .bool true]) ∧ Below w.heap.size w w' :=
 aT 70 203 _ _ _ w (by decide) (by decide) (fun _ => by kernel_rfl) (fun _ => by kernel_rfl) (fun w => JF x y w)
theorem VC (x y : BitVec 64) (w : World) : Calls prog 133 #[.int .i64 71, .int .u64 (n64 x), .int .u64 (n64 y)] w fun e w' => e = .returned (.tuple #[.int .u64 (n64 (wid (DK (wid x) (wid y)))), .bool true]) ∧ Below w.heap.size w w' :=
 aT 71 204 _ _ _ w (by decide) (by decide) (fun _ => by kernel_rfl) (fun _ => by kernel_rfl) (fun w => GL x y w)
theorem NY (x y : BitVec 64) (w : World) : Calls prog 133 #[.int .i64 72, .int .u64 (n64 x), .int .u64 (n64 y)] w fun e w' => e = .returned (.tuple #[.int .u64 (n64 (wid (sU (low x) (low y)))), .bool true]) ∧ Below w.heap.size w w' :=
 aT 72 205 _ _ _ w (by decide) (by decide) (fun _ => by kernel_rfl) (fun _ => by kernel_rfl) (fun w => CO x y w)
theorem VH (x y : BitVec 64) (w : World) : Calls prog 133 #[.int .i64 73, .int .u64 (n64 x), .int .u64 (n64 y)] w fun e w' => e = .returned (.tuple #[.int .u64 (n64 (wid (DL (wid x) (wid y)))), .bool true]) ∧ Below w.heap.size w w' :=
 aT 73 206 _ _ _ w (by decide) (by decide) (fun _ => by kernel_rfl) (fun _ => by kernel_rfl) (fun w => KO x y w)
theorem OA (x y : BitVec 64) (w : World) : Calls prog 133 #[.int .i64 74, .int .u64 (n64 x), .int .u64 (n64 y)] w fun e w' => e = .returned (.tuple #[.int .u64 (n64 (wid (sV (low x) (low y)))), .bool true]) ∧ Below w.heap.size w w' :=
 aT 74 207 _ _ _ w (by decide) (by decide) (fun _ => by kernel_rfl) (fun _ => by kernel_rfl) (fun w => DO x y w)
theorem FI (x y : BitVec 64) (w : World) : Calls prog 133 #[.int .i64 22, .int .u64 (n64 x), .int .u64 (n64 y)] w fun e w' => e = .returned (.tuple #[.int .u64 (n64 (x + y)), .bool true]) ∧ Below w.heap.size w w' :=
 aT 22 180 _ _ _ w (by decide) (by decide) (fun _ => by kernel_rfl) (fun _ => by kernel_rfl) (fun w => mN x y w)
theorem VK (x y : BitVec 64) (w : World) : Calls prog 133 #[.int .i64 23, .int .u64 (n64 x), .int .u64 (n64 y)] w fun e w' => e = .returned (.tuple #[.int .u64 (n64 (NQ x y)), .bool true]) ∧ Below w.heap.size w w' :=
 aT 23 185 _ _ _ w (by decide) (by decide) (fun _ => by kernel_rfl) (fun _ => by kernel_rfl) (fun w => BA x y w)
theorem OC (x y : BitVec 64) (w : World) : Calls prog 133 #[.int .i64 24, .int .u64 (n64 x), .int .u64 (n64 y)] w fun e w' => e = .returned (.tuple #[.int .u64 (n64 (zO x y)), .bool true]) ∧ Below w.heap.size w w' :=
 aT 24 186 _ _ _ w (by decide) (by decide) (fun _ => by kernel_rfl) (fun _ => by kernel_rfl) (fun w => wM x y w)
theorem VR (x y : BitVec 64) (w : World) : Calls prog 133 #[.int .i64 25, .int .u64 (n64 x), .int .u64 (n64 y)] w fun e w' => e = .returned (.tuple #[.int .u64 (n64 (x ^^^ y)), .bool true]) ∧ Below w.heap.size w w' :=
 aT 25 187 _ _ _ w (by decide) (by decide) (fun _ => by kernel_rfl) (fun _ => by kernel_rfl) (fun w => pH x y w)
theorem c_ori (x y : BitVec 64) (w : World) : Calls prog 133 #[.int .i64 26, .int .u64 (n64 x), .int .u64 (n64 y)] w fun e w' => e = .returned (.tuple #[.int .u64 (n64 (x ||| y)), .bool true]) ∧ Below w.heap.size w w' :=
 aT 26 188 _ _ _ w (by decide) (by decide) (fun _ => by kernel_rfl) (fun _ => by kernel_rfl) (fun w => tZ x y w)
theorem VA (x y : BitVec 64) (w : World) : Calls prog 133 #[.int .i64 27, .int .u64 (n64 x), .int .u64 (n64 y)] w fun e w' => e = .returned (.tuple #[.int .u64 (n64 (x &&& y)), .bool true]) ∧ Below w.heap.size w w' :=
 aT 27 189 _ _ _ w (by decide) (by decide) (fun _ => by kernel_rfl) (fun _ => by kernel_rfl) (fun w => oS x y w)
theorem VI (x y : BitVec 64) (w : World) : Calls prog 133 #[.int .i64 28, .int .u64 (n64 x), .int .u64 (n64 y)] w fun e w' => e = .returned (.tuple #[.int .u64 (n64 (x <<< (n64 y % 64).toNat)), .bool true]) ∧ Below w.heap.size w w' :=
 aT 28 182 _ _ _ w (by decide) (by decide) (fun _ => by kernel_rfl) (fun _ => by kernel_rfl) (fun w => AY x y w)
theorem VO (x y : BitVec 64) (w : World) : Calls prog 133 #[.int .i64 29, .int .u64 (n64 x), .int .u64 (n64 y)] w fun e w' => e = .returned (.tuple #[.int .u64 (n64 (x >>> (n64 y % 64).toNat)), .bool true]) ∧ Below w.heap.size w w' :=
 aT 29 183 _ _ _ w (by decide) (by decide) (fun _ => by kernel_rfl) (fun _ => by kernel_rfl) (fun w => BE x y w)
theorem VM (x y : BitVec 64) (w : World) : Calls prog 133 #[.int .i64 30, .int .u64 (n64 x), .int .u64 (n64 y)] w fun e w' => e = .returned (.tuple #[.int .u64 (n64 (x.sshiftRight (n64 y % 64).toNat)), .bool true]) ∧ Below w.heap.size w w' :=
 aT 30 184 _ _ _ w (by decide) (by decide) (fun _ => by kernel_rfl) (fun _ => by kernel_rfl) (fun w => BC x y w)
theorem NX (x y : BitVec 64) (w : World) : Calls prog 133 #[.int .i64 31, .int .u64 (n64 x), .int .u64 (n64 y)] w fun e w' => e = .returned (.tuple #[.int .u64 (n64 (wid (x + y))), .bool true]) ∧ Below w.heap.size w w' :=
 aT 31 190 _ _ _ w (by decide) (by decide) (fun _ => by kernel_rfl) (fun _ => by kernel_rfl) (fun w => uU x y w)
theorem OB (x y : BitVec 64) (w : World) : Calls prog 133 #[.int .i64 32, .int .u64 (n64 x), .int .u64 (n64 y)] w fun e w' => e = .returned (.tuple #[.int .u64 (n64 (wid (x <<< (n64 y % 32 % 64).toNat))), .bool true]) ∧ Below w.heap.size w w' :=
 aT 32 192 _ _ _ w (by decide) (by decide) (fun _ => by kernel_rfl) (fun _ => by kernel_rfl) (fun w => wK x y w)
theorem OE (x y : BitVec 64) (w : World) : Calls prog 133 #[.int .i64 33, .int .u64 (n64 x), .int .u64 (n64 y)] w fun e w' => e = .returned (.tuple #[.int .u64 (n64 (wid (low x >>> (n64 y % 32 % 64).toNat))), .bool true]) ∧ Below w.heap.size w w' :=
 aT 33 193 _ _ _ w (by decide) (by decide) (fun _ => by kernel_rfl) (fun _ => by kernel_rfl) (fun w => wO x y w)
theorem OD (x y : BitVec 64) (w : World) : Calls prog 133 #[.int .i64 34, .int .u64 (n64 x), .int .u64 (n64 y)] w fun e w' => e = .returned (.tuple #[.int .u64 (n64 (wid ((wid x).sshiftRight (n64 y % 32 % 64).toNat))), .bool true]) ∧ Below w.heap.size w w' :=
 aT 34 194 _ _ _ w (by decide) (by decide) (fun _ => by kernel_rfl) (fun _ => by kernel_rfl) (fun w => wN x y w)
/-! live: a few answers that must come -/
def bt (N i : Nat) : Int := ((N / 2 ^ i % 2 : Nat) : Int)
def bl (N n : Nat) : List Int := (List.range n).map (bt N)
theorem NR (x : BitVec 64) (k : Nat) : bits .and .u64 (n64 x / 2 ^ k) 1 = bt x.toNat k := by
 rw [kA]
 have h := cQ (x >>> k) 1#64
 rw [show n64 1#64 = 1 from rfl] at h
 rw [h]; unfold n64
 rw [BitVec.toNat_and, BitVec.toNat_ushiftRight, Nat.shiftRight_eq_div_pow]
 show ((x.toNat / 2 ^ k &&& 1 : Nat) : Int) = _
 rw [Nat.and_one_is_mod]; rfl
def DT (n A : Nat) : Int := if A / 2 ^ (n - 1) % 2 = 1 then (A : Int) - (2 ^ n : Nat) else (A : Int)
def jv (A k : Nat) : BitVec 64 := BitVec.ofNat 64 (A % 2 ^ k)
theorem PJ {A k : Nat} (h : bt A k = 0) : jv A (k + 1) = jv A k := by
 unfold jv; rw [Nat.mod_pow_succ]; unfold bt at h
 rw [show A / 2 ^ k % 2 = 0 by omega]; simp
theorem YI {A k : Nat} (h : bt A k = 1) : jv A (k + 1) = jv A k + (1#64 <<< k) := by
 unfold jv; rw [Nat.mod_pow_succ]; unfold bt at h
 rw [show A / 2 ^ k % 2 = 1 by omega, Nat.mul_one, BitVec.ofNat_add]
 congr 1
 apply ZqT
 rw [BitVec.toNat_shiftLeft, Nat.shiftLeft_eq, ZqR]
 show _ = 1 * 2 ^ k % 2 ^ 64
 rw [Nat.one_mul]
theorem lJ (N k : Nat) : bt N k = if N.testBit k then 1 else 0 := by
 unfold bt; rw [Nat.testBit_eq_decide_div_mod_eq]
 rcases Nat.mod_two_eq_zero_or_one (N / 2 ^ k) with h | h <;> simp [h]
def wdn (A n : Nat) : Nat := if A.testBit (n - 1) then 2 ^ n * (2 ^ (64 - n) - 1) + A % 2 ^ n else A % 2 ^ n
theorem SP (A n j : Nat) (hj : j < 64) : bt (wdn A n) j = if j < n then bt A j else bt A (n - 1) := by
 unfold wdn
 by_cases h : A.testBit (n - 1) = true
 ·rw [if_pos h, lJ, Nat.testBit_two_pow_mul_add _ (Nat.mod_lt _ (Nat.two_pow_pos n))]
  by_cases hl : j < n
  ·rw [if_pos hl, if_pos hl, lJ, Nat.testBit_mod_two_pow]; simp [hl]
  ·rw [if_neg hl, if_neg hl, lJ, h, Nat.testBit_two_pow_sub_one]; simp; omega
 ·rw [if_neg h, lJ, Nat.testBit_mod_two_pow]
  by_cases hl : j < n
  ·rw [if_pos hl, lJ]; simp [hl]
  ·rw [if_neg hl, lJ]; simp [hl, h]
theorem vS (N k : Nat) (hk : k ≤ 64) : (jv N k).toNat = N % 2 ^ k := by
 unfold jv; rw [ZqR]
 exact ZqV (ZqS (Nat.mod_lt _ (Nat.two_pow_pos k)) (Nat.pow_le_pow_right (by decide) hk))
theorem TL (N k : Nat) (hk : k < 64) : jv N k ||| (BitVec.ofNat 64 (N / 2 ^ k % 2) <<< k) = jv N (k + 1) := by
 rcases Nat.mod_two_eq_zero_or_one (N / 2 ^ k) with h | h
 ·rw [h, PJ (by unfold bt; rw [h]; rfl)]; simp
 ·rw [h, YI (by unfold bt; rw [h]; rfl)]
  refine (BitVec.add_eq_or_of_and_eq_zero _ _ ?_).symm
  apply ZqT
  rw [BitVec.toNat_and, vS N k (by omega), BitVec.toNat_shiftLeft, Nat.shiftLeft_eq]
  show (N % 2 ^ k) &&& (1 * 2 ^ k % 2 ^ 64) = 0
  rw [Nat.one_mul, ZqV (Nat.pow_lt_pow_right (by decide) hk)]
  apply Nat.eq_of_testBit_eq; intro i
  rw [Nat.testBit_and, Nat.testBit_mod_two_pow, Nat.testBit_two_pow]
  simp; intro h1 _; omega
def wf (A n : Nat) (t : Int) (j : Nat) : Int := if j < n then bt A j else t
def JZ (c : Bool) (A B : Nat) : Nat := if c then B else A
def aR (i n A B : Nat) : Nat := match i with
 | 0 => B
 | 1 => A + B + 0
 | 2 => A ^^^ B
 | 3 => A &&& B
 | 4 => A ||| B
 | 5 => JZ (decide (DT n B < DT n A)) A B
 | 6 => JZ (decide (DT n A < DT n B)) A B
 | 7 => JZ (decide (B < A)) A B
 | _ => JZ (decide (A < B)) A B
theorem JI (x : BitVec 64) : n64 x / (4294967296 : Int) = n64 (x >>> 32) := kA x 32
def midP (x y : BitVec 64) : BitVec 64 := (x >>> 32) * low y + ((low x * low y) >>> 32)
def hiP (x y : BitVec 64) : BitVec 64 := (x >>> 32) * (y >>> 32) + (midP x y >>> 32) + ((low (midP x y) + low x * (y >>> 32)) >>> 32)
def ng (x : BitVec 64) : Bool := decide (x.toInt < 0)
def exc (x y : BitVec 64) : BitVec 64 := if ng x then y else 0#64
theorem QR {k l : IntKind} {a b c d : Int} (h : a = b) (g : c = d) : Ending.returned (.tuple #[.int k a, .int l c]) = .returned (.tuple #[.int k b, .int l d]) := by rw [h, g]

theorem DC (x y : BitVec 64) (w : World) : Calls prog 235 #[.int .u64 (n64 x), .int .u64 (n64 y)] w fun e w' => e = .returned (.tuple #[.int .u64 (n64 (hiP x y)), .int .u64 (n64 (x * y))]) ∧ w' = w := by
 go_enter func235, ntmps235
 go_wp2
 go_ret2
 refine ⟨QR ?_ (pA x y), rfl⟩
 simp only [JI, AL, pA, dA]
 rfl
theorem rE (x y : BitVec 64) (w : World) : Calls prog 225 #[.int .u64 (n64 x), .int .u64 (n64 y)] w fun e w' => e = .returned (.tuple #[.int .u64 (n64 (hiP x y)), .int .u64 (n64 (x * y))]) ∧ w' = w := by
 go_enter func225, ntmps225
 go_wp2_with (go_at_call 235; refine (DC _ _ _).mono ?_; rintro e w' ⟨rfl, rfl⟩)
 go_ret2
 exact ⟨rfl, rfl⟩
theorem pS (x y : BitVec 64) (w : World) : Calls prog 234 #[.int .u64 (n64 x), .int .u64 (n64 y)] w fun e w' => e = .returned (.int .u64 (n64 (exc x y))) ∧ w' = w := by
 unfold exc ng
 have r := bR x
 by_cases h : x.toInt < 0
 ·simp only [h, decide_true, if_true]
  go_enter func234, ntmps234
  go_wp2
  go_ret
  exact ⟨rfl, rfl⟩
 ·simp only [h, decide_false]
  go_enter func234, ntmps234
  go_wp2
  go_ret
  exact ⟨rfl, rfl⟩
theorem rD (x y : BitVec 64) (w : World) : Calls prog 223 #[.int .u64 (n64 x), .int .u64 (n64 y)] w fun e w' => e = .returned (.tuple #[.int .u64 (n64 (hiP x y - exc x y - exc y x)), .int .u64 (n64 (x * y))]) ∧ w' = w := by
 have r1 := iW
 go_enter func223, ntmps223
 go_wp2_with (first | (go_at_call 225; refine (rE _ _ _).mono ?_; rintro e w' ⟨rfl, rfl⟩) | (go_at_call 234; refine (pS _ _ _).mono ?_; rintro e w' ⟨rfl, rfl⟩))
 go_ret2
 exact ⟨rfl, rfl⟩
theorem rS (x y : BitVec 64) (w : World) : Calls prog 224 #[.int .u64 (n64 x), .int .u64 (n64 y)] w fun e w' => e = .returned (.tuple #[.int .u64 (n64 (hiP x y - exc x y)), .int .u64 (n64 (x * y))]) ∧ w' = w := by
 have r1 := iW
 go_enter func224, ntmps224
 go_wp2_with (first | (go_at_call 225; refine (rE _ _ _).mono ?_; rintro e w' ⟨rfl, rfl⟩) | (go_at_call 234; refine (pS _ _ _).mono ?_; rintro e w' ⟨rfl, rfl⟩))
 go_ret2
 exact ⟨rfl, rfl⟩
theorem JE (x y : BitVec 64) (w : World) : Calls prog 196 #[.int .u64 (n64 x), .int .u64 (n64 y)] w fun e w' => e = .returned (.int .u64 (n64 (hiP x y - exc x y - exc y x))) ∧ w' = w := by
 go_enter func196, ntmps196
 go_wp2_with (go_at_call 223; refine (rD _ _ _).mono ?_; rintro e w' ⟨rfl, rfl⟩)
 go_ret
 exact ⟨rfl, rfl⟩
theorem yA (x y : BitVec 64) (w : World) : Calls prog 197 #[.int .u64 (n64 x), .int .u64 (n64 y)] w fun e w' => e = .returned (.int .u64 (n64 (hiP x y - exc x y))) ∧ w' = w := by
 go_enter func197, ntmps197
 go_wp2_with (go_at_call 224; refine (rS _ _ _).mono ?_; rintro e w' ⟨rfl, rfl⟩)
 go_ret
 exact ⟨rfl, rfl⟩
theorem DD (x y : BitVec 64) (w : World) : Calls prog 198 #[.int .u64 (n64 x), .int .u64 (n64 y)] w fun e w' => e = .returned (.int .u64 (n64 (hiP x y))) ∧ w' = w := by
 go_enter func198, ntmps198
 go_wp2_with (go_at_call 225; refine (rE _ _ _).mono ?_; rintro e w' ⟨rfl, rfl⟩)
 go_ret
 exact ⟨rfl, rfl⟩
theorem VD (x y : BitVec 64) (w : World) : Calls prog 133 #[.int .i64 63, .int .u64 (n64 x), .int .u64 (n64 y)] w fun e w' => e = .returned (.tuple #[.int .u64 (n64 (hiP x y - exc x y - exc y x)), .bool true]) ∧ Below w.heap.size w w' :=
 aT 63 196 _ _ _ w (by decide) (by decide) (fun _ => by kernel_rfl) (fun _ => by kernel_rfl) (fun w => JE x y w)
theorem FJ (x y : BitVec 64) (w : World) : Calls prog 133 #[.int .i64 64, .int .u64 (n64 x), .int .u64 (n64 y)] w fun e w' => e = .returned (.tuple #[.int .u64 (n64 (hiP x y - exc x y)), .bool true]) ∧ Below w.heap.size w w' :=
 aT 64 197 _ _ _ w (by decide) (by decide) (fun _ => by kernel_rfl) (fun _ => by kernel_rfl) (fun w => yA x y w)
theorem NZ (x y : BitVec 64) (w : World) : Calls prog 133 #[.int .i64 65, .int .u64 (n64 x), .int .u64 (n64 y)] w fun e w' => e = .returned (.tuple #[.int .u64 (n64 (hiP x y)), .bool true]) ∧ Below w.heap.size w w' :=
 aT 65 198 _ _ _ w (by decide) (by decide) (fun _ => by kernel_rfl) (fun _ => by kernel_rfl) (fun w => DD x y w)
end Go.Proofs.YtddlmenfcbjoaaaGreatDoor
