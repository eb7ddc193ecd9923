/-
  Base Num Ipa Isa Ipb Itw Ira.
-/
import Derived.Test.YtheeogbmljjbdaaGreatDoorRows
import Derived.WalkKit
import Derived.ProofKit
import Derived.OpenShut
import Derived.WalkLawsBesides
import Derived.WalkSpells
import Derived.Outline
import Derived.Laws.Tables
import Derived.Laws.Rows
import Derived.Deep.WholeRow
import Derived.Deep.Quiet
import Derived.Deep.QuietTactic
import Derived.BigQuiet
import Derived.Lib.SmallJoins
import Derived.Laws.Bits64
import Derived.WalkSmall
import Derived.StillTailTactics
import Derived.Laws.AppendOwnNone
namespace Go.Proofs.YtheeogbmljjbdaaGreatDoor
open Go.ChangeShapes Go.WideShapes Go.ChangeAt Go.RowKit Go.Deep

theorem hid {p : Prop} (h : p) : Hid p := h
theorem wpList_build_tab {P : Program} {ops : Array Oper} {rest : List Oper} {o : Oper} {a : Act} {w : World} {Q : Exit → Act → World → Prop} (hgd : o.guard = none) (t : TypeId) (parts : Array (Nat × Operand)) (ho : o.op = .build t parts)
    (cells : Array Value) (hc : P.built t (parts.map fun (i, x) => (i, a.eval x)).toList = some cells)
    (h : wpList P ops Q rest (a.put o.dst (.agg cells)) w) : wpList P ops Q (o :: rest) a w :=
  wpList_plain hgd fun _ hK => by
    unfold Oper.wp execOp
    simp only [ho, Sem.run_bind, run_build w t _ cells hc, Result.andThen_ok]
    exact hK _ _ h

theorem wpList_store_new {P : Program} {ops : Array Oper} {rest : List Oper} {o : Oper} {a : Act} {w : World} {Q : Exit → Act → World → Prop} (hgd : o.guard = none) (t : TypeId) (x y : Operand) (ho : o.op = .store t x y) (hd : o.dst = none)
    (c c' : Array Value) (hx : a.eval x = .pointer (some ⟨w.heap.size, 0, none⟩)) (hy : a.eval y = .agg c') (hi : (P.info? t).map (·.size) = some c'.size) (hs : c.size = c'.size) (h1 : c'.all (·.oneCell') = true)
    (h : wpList P ops Q rest a (w.alloc (.cells c' t))) : wpList P ops Q (o :: rest) a (w.alloc (.cells c t)) :=
  wpList_plain hgd fun _ hK => by
    unfold Oper.wp execOp
    simp only [ho, hx, hy, Sem.run_bind, run_storeAt_new w t c c' hi hs h1, Result.andThen_ok]
    simpa [Oper.upon, Act.put, hd] using hK _ _ h

/-- A function without what it closes over, as a value. -/
def fv (f : Nat) : Value := .func (.func f) #[] #[]

/-- A world behind 'W' in which nothing of 'W' has turned. -/
structure Later (W : World) where
  at_ : World
  below : Below W.heap.size W at_
theorem later_nonempty (W : World) : Nonempty (Later W) := ⟨⟨W, Below.refl _ _⟩⟩
def Later.start (W : World) : Later W := ⟨W, Below.refl _ _⟩

theorem Later.step {W : World} (x : Later W) {w' : World} (h : Below x.1.heap.size x.1 w') : ∃ y : Later W, w' = y.1 :=
  ⟨⟨w', x.2.trans (h.mono x.2.size)⟩, rfl⟩

/-- A contract that only makes memory, met in a later world. -/
theorem calls_later {P : Program} {f : FuncId} {args : Array Value} {W : World} {x : Later W} {v : Value}
    (h : Calls P f args x.1 fun e w' => e = .returned v ∧ Below x.1.heap.size x.1 w') : Calls P f args x.1 fun e w' => e = .returned v ∧ ∃ y : Later W, w' = y.1 :=
  h.mono fun _ _ ⟨he, hb⟩ => ⟨he, x.step hb⟩
theorem calls_later_same {P : Program} {f : FuncId} {args : Array Value} {W : World} {x : Later W} {v : Value}
    (h : Calls P f args x.1 fun e w' => e = .returned v ∧ w' = x.1) : Calls P f args x.1 fun e w' => e = .returned v ∧ ∃ y : Later W, w' = y.1 :=
  h.mono fun _ _ ⟨he, hb⟩ => ⟨he, x, hb⟩

theorem later_cell {W : World} (x : Later W) {p : Addr} (h : p.block < W.heap.size) : x.1.cell? p = W.cell? p := x.2.cell h

/-- A region that draws its order and whose operations only read and make memory, walked once. -/
theorem wp_region_later {P : Program} {id : Nat} {Q : Exit → Act → World → Prop} {a : Act} {W : World} {x0 : Later W} {l : List Oper} (hm : P.follows .mixedOrders = true) (hB : Region.lexB .any l.toArray = true)
    (h : wpQuiet P l.toArray (fun w' => ∃ x : Later W, w' = x.1) (fun a' => ∀ w', (∃ x : Later W, w' = x.1) → Q .normal a' w') l a) : (Code.region id l.toArray true).wp P Q a x0.1 :=
  wp_region_quiet (C := fun w' => ∃ x : Later W, w' = x.1) hm hB ⟨⟨_, x0.2.drew⟩, rfl⟩ (by simpa using h)

/-- A word as the program's number. -/
def n64 (x : BitVec 64) : Int := (x.toNat : Int)
theorem n64_inj {x y : BitVec 64} : n64 x = n64 y ↔ x = y := by
  unfold n64; constructor
  · intro h; exact BitVec.eq_of_toNat_eq (by omega)
  · rintro rfl; rfl
theorem n64_lo (x : BitVec 64) : 0 ≤ n64 x := by unfold n64; omega
theorem n64_hi (x : BitVec 64) : n64 x ≤ 18446744073709551615 := by unfold n64; have := x.isLt; omega
theorem n64_of {n : Int} (h : (Lit.int .u64 n).wf = true) : ∃ x : BitVec 64, n = n64 x := by
  have hb := bounds_u64 h
  refine ⟨BitVec.ofNat 64 n.toNat, ?_⟩
  unfold n64; rw [BitVec.toNat_ofNat, Nat.mod_eq_of_lt (by omega)]; omega
theorem n64_wf (x : BitVec 64) : (Lit.int .u64 (n64 x)).wf = true := WalkArith.wf_u64 ⟨n64_lo x, n64_hi x⟩
theorem ne_false {x y : BitVec 64} (h : x = y) : (n64 x != n64 y) = false := by subst h; simp
theorem eq_true {x y : BitVec 64} (h : x = y) : (n64 x == n64 y) = true := by subst h; simp

section
variable {H : Type} {enc : TypeId × Value → H} {P : Program} {w : World} {base : Nat} {spare : Nat → Bool} {held : Bool}
theorem array5 {α : Type} {cs : Array α} (h : cs.size = 5) : ∃ c0 c1 c2 c3 c4, cs = #[c0, c1, c2, c3, c4] := by
  obtain ⟨l⟩ := cs
  match l, h with
  | [c0, c1, c2, c3, c4], _ => exact ⟨c0, c1, c2, c3, c4, rfl⟩
theorem trod_struct5 {t : TypeId} {f0 f1 f2 f3 f4 : Field} {fuel : Nat} {cs : List Value} {x : DataW H × List MemPlace} (ht : P.underlying t = some (.struct #[f0, f1, f2, f3, f4])) (h : DataW.trod enc P w base spare held fuel t cs = some x) :
    ∃ y0 y1 y2 y3 y4 n, x = (.agg [y0.1, y1.1, y2.1, y3.1, y4.1], y0.2 ++ (y1.2 ++ (y2.2 ++ (y3.2 ++ y4.2)))) ∧ cs.length = P.cellsOf t ∧ DataW.trod enc P w base spare held n f0.type ((cs.drop f0.offset).take (P.cellsOf f0.type)) = some y0 ∧
      DataW.trod enc P w base spare held n f1.type ((cs.drop f1.offset).take (P.cellsOf f1.type)) = some y1 ∧ DataW.trod enc P w base spare held n f2.type ((cs.drop f2.offset).take (P.cellsOf f2.type)) = some y2 ∧
      DataW.trod enc P w base spare held n f3.type ((cs.drop f3.offset).take (P.cellsOf f3.type)) = some y3 ∧ DataW.trod enc P w base spare held n f4.type ((cs.drop f4.offset).take (P.cellsOf f4.type)) = some y4 := by
  obtain ⟨xs, n, _, rfl, hl, hlen, hf⟩ := DataW.trod_struct ht h
  match xs, hlen with
  | [y0, y1, y2, y3, y4], _ => exact ⟨y0, y1, y2, y3, y4, n, by simp, hl, by simpa using hf 0 f0 rfl, by simpa using hf 1 f1 rfl, by simpa using hf 2 f2 rfl, by simpa using hf 3 f3 rfl, by simpa using hf 4 f4 rfl⟩
theorem open_agg5 {r : Reach} {b0 : Nat} {t : TypeId} {f0 f1 f2 f3 f4 : Field} {v : Value} {d : DataW H} {p : List MemPlace} (hs : P.underlying t = some (.struct #[f0, f1, f2, f3, f4])) (hone : oneCellFields P #[f0, f1, f2, f3, f4] = true) (hC : P.cellsOf t = 5)
    (hv : Value.okWide P w r b0 t v) (h : DataW.Trod enc P w base spare held t v d p) :
    ∃ (v0 v1 v2 v3 v4 : Value) (y0 y1 y2 y3 y4 : DataW H × List MemPlace) (n : Nat), v = .agg #[v0, v1, v2, v3, v4] ∧ d = .agg [y0.1, y1.1, y2.1, y3.1, y4.1] ∧ p = y0.2 ++ (y1.2 ++ (y2.2 ++ (y3.2 ++ y4.2))) ∧
      DataW.trod enc P w base spare held n f0.type [v0] = some y0 ∧ DataW.trod enc P w base spare held n f1.type [v1] = some y1 ∧ DataW.trod enc P w base spare held n f2.type [v2] = some y2 ∧ DataW.trod enc P w base spare held n f3.type [v3] = some y3 ∧
      DataW.trod enc P w base spare held n f4.type [v4] = some y4 := by
  obtain ⟨cs, rfl, hsz⟩ := okWide_struct hs hv
  obtain ⟨c0, c1, c2, c3, c4, rfl⟩ := array5 (hsz.trans hC)
  obtain ⟨fuel, hf⟩ := h
  obtain ⟨y0, y1, y2, y3, y4, n, hx, _, h0, h1, h2, h3, h4⟩ := trod_struct5 hs hf
  obtain ⟨o0, k0⟩ := hone_of hone 0 f0 rfl
  obtain ⟨o1, k1⟩ := hone_of hone 1 f1 rfl
  obtain ⟨o2, k2⟩ := hone_of hone 2 f2 rfl
  obtain ⟨o3, k3⟩ := hone_of hone 3 f3 rfl
  obtain ⟨o4, k4⟩ := hone_of hone 4 f4 rfl
  simp only [Prod.mk.injEq] at hx
  exact ⟨c0, c1, c2, c3, c4, y0, y1, y2, y3, y4, n, rfl, hx.1, hx.2, by simpa [Value.cells, o0, k0] using h0, by simpa [Value.cells, o1, k1] using h1, by simpa [Value.cells, o2, k2] using h2, by simpa [Value.cells, o3, k3] using h3,
    by simpa [Value.cells, o4, k4] using h4⟩
theorem shut_agg5 {t : TypeId} {f0 f1 f2 f3 f4 : Field} {v0 v1 v2 v3 v4 : Value} {y0 y1 y2 y3 y4 : DataW H × List MemPlace} (hs : P.underlying t = some (.struct #[f0, f1, f2, f3, f4])) (hone : oneCellFields P #[f0, f1, f2, f3, f4] = true) (hC : P.cellsOf t = 5)
    (t0 : ∃ n, DataW.trod enc P w base spare held n f0.type [v0] = some y0) (t1 : ∃ n, DataW.trod enc P w base spare held n f1.type [v1] = some y1) (t2 : ∃ n, DataW.trod enc P w base spare held n f2.type [v2] = some y2)
    (t3 : ∃ n, DataW.trod enc P w base spare held n f3.type [v3] = some y3) (t4 : ∃ n, DataW.trod enc P w base spare held n f4.type [v4] = some y4) :
    DataW.Trod enc P w base spare held t (.agg #[v0, v1, v2, v3, v4]) (.agg [y0.1, y1.1, y2.1, y3.1, y4.1]) (y0.2 ++ (y1.2 ++ (y2.2 ++ (y3.2 ++ y4.2)))) := by
  obtain ⟨n0, t0⟩ := t0
  obtain ⟨n1, t1⟩ := t1
  obtain ⟨n2, t2⟩ := t2
  obtain ⟨n3, t3⟩ := t3
  obtain ⟨n4, t4⟩ := t4
  obtain ⟨o0, k0⟩ := hone_of hone 0 f0 rfl
  obtain ⟨o1, k1⟩ := hone_of hone 1 f1 rfl
  obtain ⟨o2, k2⟩ := hone_of hone 2 f2 rfl
  obtain ⟨o3, k3⟩ := hone_of hone 3 f3 rfl
  obtain ⟨o4, k4⟩ := hone_of hone 4 f4 rfl
  have l0 := DataW.trod_le (show n0 ≤ n0 + n1 + n2 + n3 + n4 by omega) t0
  have l1 := DataW.trod_le (show n1 ≤ n0 + n1 + n2 + n3 + n4 by omega) t1
  have l2 := DataW.trod_le (show n2 ≤ n0 + n1 + n2 + n3 + n4 by omega) t2
  have l3 := DataW.trod_le (show n3 ≤ n0 + n1 + n2 + n3 + n4 by omega) t3
  have l4 := DataW.trod_le (show n4 ≤ n0 + n1 + n2 + n3 + n4 by omega) t4
  have ts := trod_struct_mk (enc := enc) (w := w) (base := base) (spare := spare) (held := held) (n := n0 + n1 + n2 + n3 + n4) (cs := [v0, v1, v2, v3, v4]) (xs := [y0, y1, y2, y3, y4]) hs (by simp [hC])
    (by simp [o0, k0, o1, k1, o2, k2, o3, k3, o4, k4, l0, l1, l2, l3, l4])
  exact ⟨_, by simpa [Value.cells] using ts⟩
end
end Go.Proofs.YtheeogbmljjbdaaGreatDoor
namespace Go.Proofs.YtheeogbmljjbdaaGreatDoor
open Go.ChangeShapes Go.WideShapes Go.ChangeAt Go.RowKit

theorem ret_int {k : IntKind} {a b : Int} (h : a = b) : Ending.returned (.int k a) = .returned (.int k b) := by rw [h]

theorem ofInt_n64 (x : BitVec 64) : BitVec.ofInt 64 (n64 x) = x := by
  unfold n64; apply BitVec.eq_of_toNat_eq; rw [BitVec.toNat_ofInt]; have := x.isLt; omega

/-- Whatever wraps is the word of that number. -/
theorem wrap_n64 (z : Int) : IntKind.u64.wrap z = n64 (BitVec.ofInt 64 z) := by
  unfold n64; rw [IntKind.wrap_u64, BitVec.toNat_ofInt]; omega

theorem n64_add (x y : BitVec 64) : IntKind.u64.wrap (n64 x + n64 y) = n64 (x + y) := by
  rw [IntKind.wrap_u64]; unfold n64; rw [BitVec.toNat_add]; omega
theorem n64_sub (x y : BitVec 64) : IntKind.u64.wrap (n64 x - n64 y) = n64 (x - y) := by
  rw [IntKind.wrap_u64]; unfold n64; rw [BitVec.toNat_sub]; have := x.isLt; have := y.isLt; omega
theorem n64_mul (x y : BitVec 64) : IntKind.u64.wrap (n64 x * n64 y) = n64 (x * y) := by
  rw [IntKind.wrap_u64]; unfold n64; rw [BitVec.toNat_mul, Int.natCast_emod, Int.natCast_mul]; rfl
theorem n64_and (x y : BitVec 64) : bits .and .u64 (n64 x) (n64 y) = n64 (x &&& y) := by
  show IntKind.u64.wrap ((BitVec.ofInt 64 (n64 x) &&& BitVec.ofInt 64 (n64 y)).toNat : Int) = _
  rw [ofInt_n64, ofInt_n64, wrap_n64]; exact congrArg n64 (ofInt_n64 _)
theorem n64_or (x y : BitVec 64) : bits .or .u64 (n64 x) (n64 y) = n64 (x ||| y) := by
  show IntKind.u64.wrap ((BitVec.ofInt 64 (n64 x) ||| BitVec.ofInt 64 (n64 y)).toNat : Int) = _
  rw [ofInt_n64, ofInt_n64, wrap_n64]; exact congrArg n64 (ofInt_n64 _)
theorem n64_xor (x y : BitVec 64) : bits .xor .u64 (n64 x) (n64 y) = n64 (x ^^^ y) := by
  show IntKind.u64.wrap ((BitVec.ofInt 64 (n64 x) ^^^ BitVec.ofInt 64 (n64 y)).toNat : Int) = _
  rw [ofInt_n64, ofInt_n64, wrap_n64]; exact congrArg n64 (ofInt_n64 _)
theorem n64_shl (x : BitVec 64) (k : Nat) : IntKind.u64.wrap (n64 x * 2 ^ k) = n64 (x <<< k) := by
  rw [IntKind.wrap_u64]; unfold n64; rw [BitVec.toNat_shiftLeft, Nat.shiftLeft_eq, Int.natCast_emod, Int.natCast_mul, Int.natCast_pow]; rfl
theorem n64_shr (x : BitVec 64) (k : Nat) : n64 x / 2 ^ k = n64 (x >>> k) := by
  unfold n64; rw [BitVec.toNat_ushiftRight, Nat.shiftRight_eq_div_pow, Int.natCast_ediv, Int.natCast_pow]; rfl
theorem n64_udiv (x y : BitVec 64) : n64 x / n64 y = n64 (x / y) := by
  unfold n64; rw [BitVec.toNat_udiv]; push_cast; rfl
theorem n64_udivw (x y : BitVec 64) : IntKind.u64.wrap ((n64 x).tdiv (n64 y)) = n64 (x / y) := by
  rw [Int.tdiv_eq_ediv_of_nonneg (n64_lo x), n64_udiv, wrap_n64, ofInt_n64]
theorem n64_umod (x y : BitVec 64) : n64 x % n64 y = n64 (x % y) := by
  unfold n64; rw [BitVec.toNat_umod]; push_cast; rfl

theorem wrap64_bmod (z : Int) : wrap64 z = z.bmod 18446744073709551616 := by
  unfold wrap64; rw [Int.bmod_def]; split <;> omega
theorem wrap32_bmod (z : Int) : wrap32 z = z.bmod 4294967296 := by
  unfold wrap32; rw [Int.bmod_def]; split <;> omega
theorem wrap64_n64 (x : BitVec 64) : wrap64 (n64 x) = x.toInt := by
  rw [wrap64_bmod, BitVec.toInt_eq_toNat_bmod]; rfl
theorem wrap32_n64 (x : BitVec 64) : wrap32 (n64 x) = (x.setWidth 32).toInt := by
  rw [wrap32_bmod, BitVec.toInt_eq_toNat_bmod, BitVec.toNat_setWidth]; unfold n64
  show _ = ((x.toNat % 4294967296 : Nat) : Int).bmod 4294967296
  rw [Int.natCast_emod]; exact (Int.emod_bmod _ 4294967296).symm
theorem wrap64_toInt (x : BitVec 64) : wrap64 x.toInt = x.toInt := by
  have h1 := BitVec.le_toInt x; have h2 := BitVec.toInt_lt (x := x)
  unfold wrap64; simp at h1 h2; omega
theorem wrap64_toInt32 (x : BitVec 32) : wrap64 x.toInt = x.toInt := by
  have h1 := BitVec.le_toInt x; have h2 := BitVec.toInt_lt (x := x)
  unfold wrap64; simp at h1 h2; omega
theorem n64_toInt (x : BitVec 64) : IntKind.u64.wrap x.toInt = n64 x := by
  rw [wrap_n64, BitVec.ofInt_toInt]

/-- The lower half, its sign repeated upwards. -/
def wid (x : BitVec 64) : BitVec 64 := (x.setWidth 32).signExtend 64
theorem n64_wid (x : BitVec 64) : IntKind.u64.wrap (wrap64 (wrap32 (n64 x))) = n64 (wid x) := by
  rw [wrap32_n64, wrap64_toInt32, wrap_n64]; rfl
/-- The lower half, zeros above. -/
def low (x : BitVec 64) : BitVec 64 := x &&& 4294967295#64
theorem n64_low (x : BitVec 64) : bits .and .u64 (n64 x) 4294967295 = n64 (low x) := n64_and x 4294967295#64

theorem n64_sra (x : BitVec 64) (k : Nat) : IntKind.u64.wrap (x.toInt / 2 ^ k) = n64 (x.sshiftRight k) := by
  have h : x.toInt / 2 ^ k = (x.sshiftRight k).toInt := by
    rw [BitVec.toInt_sshiftRight, Int.shiftRight_eq_div_pow, Int.natCast_pow]; rfl
  rw [h, n64_toInt]
theorem n64_sdiv (x y : BitVec 64) : IntKind.u64.wrap (wrap64 (x.toInt.tdiv y.toInt)) = n64 (x.sdiv y) := by
  have h : wrap64 (x.toInt.tdiv y.toInt) = (x.sdiv y).toInt := by
    rw [wrap64_bmod, BitVec.toInt_sdiv]
  rw [h, n64_toInt]
theorem n64_srem (x y : BitVec 64) : IntKind.u64.wrap (x.toInt.tmod y.toInt) = n64 (x.srem y) := by
  rw [← BitVec.toInt_srem, n64_toInt]
theorem n64_zero {y : BitVec 64} (h : n64 y = 0) : y = 0#64 := n64_inj.1 (h.trans rfl)
theorem toInt_zero {y : BitVec 64} (h : y.toInt = 0) : y = 0#64 := BitVec.eq_of_toInt_eq (by simpa using h)

/-! Quotients and comparisons as the document has them -/
def qDivu (x y : BitVec 64) : BitVec 64 := if y = 0#64 then ~~~0#64 else x / y
def qRemu (x y : BitVec 64) : BitVec 64 := if y = 0#64 then x else x % y
def qDiv (x y : BitVec 64) : BitVec 64 := if y = 0#64 then ~~~0#64 else x.sdiv y
def qRem (x y : BitVec 64) : BitVec 64 := if y = 0#64 then x else x.srem y
def bSlt (x y : BitVec 64) : BitVec 64 := if x.toInt < y.toInt then 1#64 else 0#64
def bSltu (x y : BitVec 64) : BitVec 64 := if n64 x < n64 y then 1#64 else 0#64
end Go.Proofs.YtheeogbmljjbdaaGreatDoor
namespace Go.Proofs.YtheeogbmljjbdaaGreatDoor
set_option linter.unusedVariables false
open Go.ChangeShapes Go.WideShapes Go.ChangeAt Go.RowKit
/-- The first multiple of 8 from a place on. -/
def al (n : Nat) : Nat := (n + 7) / 8 * 8
theorem al_lo (n : Nat) : n ≤ al n := by unfold al; omega
theorem al_hi (n : Nat) : al n ≤ n + 7 := by unfold al; omega
theorem al_end {n m : Nat} (h1 : n ≤ m) (h2 : m ≤ al n) (h : m % 8 = 0) : m = al n := by unfold al at *; omega
theorem al_step {n m : Nat} (h1 : n ≤ m) (h2 : m ≤ al n) (h : m % 8 ≠ 0) : m + 1 ≤ al n := by unfold al at *; omega
set_option maxHeartbeats 1000000 in
theorem aligned_c (n : Nat) (hn : n ≤ 1152921504606846976) (w : World) : Calls Tryz.prog 46 #[.int .i64 (n : Int)] w fun e w' => e = .returned (.int .i64 ((al n : Nat) : Int)) ∧ w' = w := by
  have hq : (((n : Int) + 7) / 8 * 8) = ((al n : Nat) : Int) := by unfold al; omega
  have HQ : Hid ((((n : Int) + 7) / 8 * 8) = ((al n : Nat) : Int)) := hq
  clear hq
  go_enter Tryz.func46, Tryz.ntmps46
  go_wp2
  go_ret
  exact ⟨ret_int HQ.out, rfl⟩
end Go.Proofs.YtheeogbmljjbdaaGreatDoor
namespace Go.Proofs.YtheeogbmljjbdaaGreatDoor
set_option linter.unusedVariables false
open Go.ChangeShapes Go.WideShapes Go.ChangeAt Go.RowKit
/-- A part as it lies in memory. -/
structure Sg where
  a : BitVec 64
  s : BitVec 64
  f : Int
  d : Value
  n : Nat
  m : Option Addr
  c : Nat
def sgz : Sg := ⟨0, 0, 0, .slice none 0 0, 0, none, 0⟩
def sg (L : List Sg) (j : Nat) : Sg := L.getD j sgz
def Sgs (w : World) (v : Value) (L : List Sg) : Prop :=
  ∃ ad cap, v = .slice ad L.length cap ∧ L.length ≤ cap ∧ (L ≠ [] → ∃ g off, ad = some ⟨g, off, none⟩ ∧ g < w.heap.size ∧ ∀ j, j < L.length →
    w.cell? ⟨g, off + j * 4, none⟩ = some (.int .u64 (n64 (sg L j).a)) ∧ w.cell? ⟨g, off + j * 4 + 1, none⟩ = some (.int .u64 (n64 (sg L j).s)) ∧ w.cell? ⟨g, off + j * 4 + 2, none⟩ = some (.int .i64 (sg L j).f) ∧ w.cell? ⟨g, off + j * 4 + 3, none⟩ = some (.slice (sg L j).m (sg L j).n (sg L j).c))
theorem Sgs.later {w w' : World} {v : Value} {L : List Sg} (h : Sgs w v L) {B : Nat} (hb : Below B w w') (hB : B = w.heap.size) : Sgs w' v L := by
  obtain ⟨ad, cap, rfl, h1, h2⟩ := h
  refine ⟨ad, cap, rfl, h1, fun hne => ?_⟩
  obtain ⟨g, off, rfl, h3, h4⟩ := h2 hne
  refine ⟨g, off, rfl, Nat.lt_of_lt_of_le h3 hb.size, fun j hj => ?_⟩
  obtain ⟨c0, c1, c2, c3⟩ := h4 j hj
  rw [hb.cell (by rw [hB]; exact h3), hb.cell (by rw [hB]; exact h3), hb.cell (by rw [hB]; exact h3), hb.cell (by rw [hB]; exact h3)]
  exact ⟨c0, c1, c2, c3⟩
/-- A part's last address, as words wrap. -/
def lastB (x : Sg) : BitVec 64 := x.a + (x.s - 1#64)
/-- The first number that is not 0. -/
def ff (f : Nat → Int) : Nat → Nat → Int
  | 0, _ => 0
  | r + 1, i => if f i = 0 then ff f r (i + 1) else f i
theorem ff_end (f : Nat → Int) (r i : Nat) (h : r = 0) : ff f r i = 0 := by subst h; rfl
theorem ff_go {f : Nat → Int} {n i : Nat} (h : i < n) (h0 : f i = 0) : ff f (n - i) i = ff f (n - (i + 1)) (i + 1) := by
  obtain ⟨r, hr⟩ : ∃ r, n - i = r + 1 := ⟨n - i - 1, by omega⟩
  rw [hr, ff, if_pos h0, show n - (i + 1) = r by omega]
theorem ff_hit {f : Nat → Int} {n i : Nat} (h : i < n) (h0 : f i ≠ 0) : ff f (n - i) i = f i := by
  obtain ⟨r, hr⟩ : ∃ r, n - i = r + 1 := ⟨n - i - 1, by omega⟩
  rw [hr, ff, if_neg h0]
/-- A part's own fault. -/
def pf (L : List Sg) (i : Nat) : Int :=
  if (sg L i).s = 0#64 ∨ (sg L i).f < 0 ∨ 7 < (sg L i).f ∨ (sg L i).s.toNat < (sg L i).n ∨ (lastB (sg L i)).toNat < (sg L i).a.toNat then 23
  else if 0 < i ∧ (sg L i).a.toNat ≤ (lastB (sg L (i - 1))).toNat then 24 else 0
theorem n64_one : n64 1#64 = 1 := rfl
theorem lastB_n (x y : BitVec 64) : IntKind.u64.wrap (n64 x + IntKind.u64.wrap (n64 y - 1)) = n64 (x + (y - 1#64)) := by
  rw [← n64_one, n64_sub, n64_add]
theorem passes_n (x y : BitVec 64) : n64 (18446744073709551615#64 - x) < n64 (y - 1#64) ↔ (x + (y - 1#64)).toNat < x.toNat := by
  unfold n64
  generalize y - 1#64 = t
  rw [BitVec.toNat_sub, BitVec.toNat_add]
  have := x.isLt; have := t.isLt
  simp only [BitVec.toNat_ofNat, Nat.reducePow] at *
  omega
set_option maxHeartbeats 1000000 in
theorem last_c (x y : BitVec 64) (f : Int) (d : Value) (hd : d.oneCell' = true) (w : World) :
    Calls Tryz.prog 43 #[.agg #[.int .u64 (n64 x), .int .u64 (n64 y), .int .i64 f, d]] w fun e w' => e = .returned (.int .u64 (n64 (x + (y - 1#64)))) ∧ Below w.heap.size w w' := by
  have H := lastB_n x y
  have HH : Hid (IntKind.u64.wrap (n64 x + IntKind.u64.wrap (n64 y - 1)) = n64 (x + (y - 1#64))) := H
  clear H
  go_enter Tryz.func43, Tryz.ntmps43
  go_wp2
  go_ret
  exact ⟨ret_int HH.out, (Below.refl _ _).alloc (Nat.le_refl _) _⟩
set_option maxHeartbeats 1000000 in
theorem passes_c (x y : BitVec 64) (w : World) (b : Bool) (hb : Hid (b = decide ((x + (y - 1#64)).toNat < x.toNat))) :
    Calls Tryz.prog 42 #[.int .u64 (n64 x), .int .u64 (n64 y)] w fun e w' => e = .returned (.bool b) ∧ w = w' := by
  go_enter Tryz.func42, Tryz.ntmps42
  go_wp2
  go_ret
  refine ⟨?_, rfl⟩
  have e : decide (IntKind.u64.wrap (18446744073709551615 - n64 x) < IntKind.u64.wrap (n64 y - 1)) = b := by
    rw [hb.out, ← n64_one, n64_sub, show (18446744073709551615 : Int) = n64 18446744073709551615#64 from rfl, n64_sub]
    exact decide_eq_decide.2 (passes_n x y)
  rw [← e]; rfl
set_option maxHeartbeats 1000000 in
theorem rlast_c (x y : BitVec 64) (w : World) (b : Bool) (hb : Hid (b = decide ((x + (y - 1#64)).toNat < x.toNat))) :
    Calls Tryz.prog 59 #[.int .u64 (n64 x), .int .u64 (n64 y)] w fun e w' => e = .returned (.tuple #[.int .u64 (n64 (x + (y - 1#64))), .bool (!b)]) ∧ w = w' := by
  go_enter Tryz.func59, Tryz.ntmps59
  go_wp2
  go_ret2
  refine ⟨?_, rfl⟩
  have e1 := lastB_n x y
  have e2 : decide (n64 x ≤ n64 (x + (y - 1#64))) = !b := by
    rw [hb.out]; unfold n64
    rw [← decide_not]
    exact decide_eq_decide.2 (by omega)
  rw [e1]
  rw [e2]
  rfl
end Go.Proofs.YtheeogbmljjbdaaGreatDoor
namespace Go.Proofs.YtheeogbmljjbdaaGreatDoor
set_option linter.unusedVariables false
open Go.ChangeShapes Go.WideShapes Go.ChangeAt Go.RowKit Go.Deep
/-- A name as it lies in memory. -/
structure Sy where
  s : ByteArray
  v : BitVec 64
def syz : Sy := ⟨⟨#[]⟩, 0⟩
def sy (N : List Sy) (j : Nat) : Sy := N.getD j syz
def Sys (w : World) (v : Value) (N : List Sy) : Prop :=
  ∃ ad cap, v = .slice ad N.length cap ∧ N.length ≤ cap ∧ (N ≠ [] → ∃ g off, ad = some ⟨g, off, none⟩ ∧ g < w.heap.size ∧ ∀ j, j < N.length →
    w.cell? ⟨g, off + j * 2, none⟩ = some (.string (sy N j).s) ∧ w.cell? ⟨g, off + j * 2 + 1, none⟩ = some (.int .u64 (n64 (sy N j).v)))
theorem Sys.later {w w' : World} {v : Value} {N : List Sy} (h : Sys w v N) {B : Nat} (hb : Below B w w') (hB : B = w.heap.size) : Sys w' v N := by
  obtain ⟨ad, cap, rfl, h1, h2⟩ := h
  refine ⟨ad, cap, rfl, h1, fun hne => ?_⟩
  obtain ⟨g, off, rfl, h3, h4⟩ := h2 hne
  refine ⟨g, off, rfl, Nat.lt_of_lt_of_le h3 hb.size, fun j hj => ?_⟩
  obtain ⟨c0, c1⟩ := h4 j hj
  rw [hb.cell (by rw [hB]; exact h3), hb.cell (by rw [hB]; exact h3)]
  exact ⟨c0, c1⟩
/-- Where the file ends behind the first k parts. -/
def sk (L : List Sg) : Nat → Nat
  | 0 => 64 + 56 * L.length
  | k + 1 => if 0 < (sg L k).n then al (sk L k) + (sg L k).n else sk L k
/-- How many bytes the first k texts take. -/
def nk (N : List Sy) : Nat → Nat
  | 0 => 0
  | k + 1 => nk N k + ((sy N k).s.size + 1)
def tabAt (L : List Sg) : Nat := al (sk L L.length)
def szz (L : List Sg) (N : List Sy) : Nat := if N.length = 0 then sk L L.length else al (tabAt L + 24 + 24 * N.length + 1 + nk N N.length + 27) + 256
theorem sk_le {L : List Sg} (M : Nat) (hb : ∀ j, j < L.length → (sg L j).n ≤ M) (k : Nat) : k ≤ L.length → sk L k ≤ 64 + 56 * L.length + k * (M + 8) := by
  induction k with
  | zero =>
    intro _
    have e : sk L 0 = 64 + 56 * L.length := rfl
    rw [e]; omega
  | succ k ih =>
    intro hk
    have ih := ih (by omega)
    have h := hb k (by omega)
    have ha := al_hi (sk L k)
    have e : sk L (k + 1) = if 0 < (sg L k).n then al (sk L k) + (sg L k).n else sk L k := rfl
    rw [e, Nat.add_mul, Nat.one_mul]
    split <;> omega
theorem nk_le {N : List Sy} (M : Nat) (hb : ∀ j, j < N.length → (sy N j).s.size ≤ M) (k : Nat) : k ≤ N.length → nk N k ≤ k * (M + 1) := by
  induction k with
  | zero => intro _; exact Nat.zero_le _
  | succ k ih =>
    intro hk
    have ih := ih (by omega)
    have h := hb k (by omega)
    have e : nk N (k + 1) = nk N k + ((sy N k).s.size + 1) := rfl
    rw [e, Nat.add_mul, Nat.one_mul]
    omega
/-- An image as it is handed over. -/
structure Img (w : World) (vs vn : Value) (L : List Sg) (N : List Sy) : Prop where
  segs : Sgs w vs L
  syms : Sys w vn N
  lens : ∀ j, j < L.length → (sg L j).n ≤ 140737488355328
  texts : ∀ j, j < N.length → (sy N j).s.size ≤ 140737488355328
end Go.Proofs.YtheeogbmljjbdaaGreatDoor
namespace Go.Proofs.YtheeogbmljjbdaaGreatDoor
set_option linter.unusedVariables false
open Go.ChangeShapes Go.WideShapes Go.ChangeAt Go.RowKit Go.Deep
theorem info5 : (Tryz.prog.info? 5).map (fun i => (i.zero, i.size, i.bytes)) = some (some (.int .u8 0), 1, 1) := by kernel_rfl
theorem info41 : (Tryz.prog.info? 61).map (fun i => (i.zero, i.size, i.bytes)) = some (some (.agg #[.int .u64 0, .int .u64 0, .int .i64 0, .slice none 0 0]), 4, 48) := by kernel_rfl
theorem info51 : (Tryz.prog.info? 87).map (fun i => (i.zero, i.size, i.bytes)) = some (some (.agg #[.string ⟨#[]⟩, .int .u64 0]), 2, 24) := by kernel_rfl
def bv (l : List Int) : List Value := l.map (Value.int .u8)
theorem bv_get (l : List Int) (k : Nat) (h : k < l.length) : (bv l)[k]? = some (.int .u8 (l.getD k 0)) := by simp [bv, h]
/-- A list of bytes in memory, wherever it lies. -/
def Byt (w : World) (v : Value) (l : List Int) : Prop :=
  ∃ a cap, v = .slice a l.length cap ∧ l.length ≤ cap ∧ (a = none → cap = 0) ∧ (l ≠ [] → ∃ g off, a = some ⟨g, off, none⟩ ∧ g < w.heap.size ∧ ∀ j, j < l.length → w.cell? ⟨g, off + j, none⟩ = some (.int .u8 (l.getD j 0)))
theorem Byt.later {w w' : World} {v : Value} {l : List Int} (h : Byt w v l) {B : Nat} (hb : Below B w w') (hB : B = w.heap.size) : Byt w' v l := by
  obtain ⟨a, cap, rfl, h1, h1', h2⟩ := h
  refine ⟨a, cap, rfl, h1, h1', fun hn => ?_⟩
  obtain ⟨g, off, rfl, h3, h4⟩ := h2 hn
  exact ⟨g, off, rfl, Nat.lt_of_lt_of_le h3 hb.size, fun j hj => by rw [hb.cell (by rw [hB]; exact h3)]; exact h4 j hj⟩
theorem addAt (g off j : Nat) : (⟨g, off, none⟩ : Addr).add j = ⟨g, off + j, none⟩ := by unfold Addr.add; split <;> simp_all
/-- Bytes appended to an empty list that was just made. -/
theorem appD {ops : Array Oper} {rest : List Oper} {o : Oper} {a : Act} {w : World} {Q : Exit → Act → World → Prop} (hgd : o.guard = none) (s x : Operand) (ho : o.op = .call { callee := .builtin .append, args := #[s, x], argTypes := #[31, 31] })
    (h0 : Nat) (u : Value) (l : List Int) (hs : a.eval s = .slice (some ⟨h0, 0, none⟩) 0 0) (hh0 : h0 = w.heap.size) (hx : a.eval x = u) (hu : Byt w u l) (hl : l.length ≤ 140737488355328)
    (h : ∀ g' c' w', Below w.heap.size w w' → w'.ownsRow w.heap.size 5 1 (.slice (some ⟨g', 0, none⟩) l.length c') l.length (bv l) → wpList Tryz.prog ops Q rest (a.put o.dst (.slice (some ⟨g', 0, none⟩) l.length c')) w') :
    wpList Tryz.prog ops Q (o :: rest) a (w.alloc (.cells #[] 5)) := by
  subst hh0
  obtain ⟨i0, hi, hz0, hz1, hz2⟩ := info_parts info5
  have hown : (w.alloc (.cells #[] 5)).ownsRow w.heap.size 5 1 (.slice (some ⟨w.heap.size, 0, none⟩) 0 0) 0 (bv []) := World.ownsRow_made w #[] 0 (Nat.le_refl _) (Nat.zero_le _) rfl
  have hb1 : Below w.heap.size w (w.alloc (.cells #[] 5)) := (Below.refl _ _).alloc (Nat.le_refl _) _
  have hu' := hu.later hb1 rfl
  obtain ⟨ao, cap, rfl, h1, h1', h2⟩ := hu'
  cases ao with
  | none =>
    have hc := h1' rfl
    have hl0 : l = [] := List.eq_nil_of_length_eq_zero (by omega)
    subst hl0; subst hc
    refine wpList_append_own_none hgd s x 31 ho w.heap.size 5 i0 1 Tryz.underlying31 hi _ 0 (bv []) hs hown hx ?_
    exact h _ _ _ hb1 hown
  | some ad =>
    refine wpList_append_own _ hgd s x 31 ho w.heap.size 5 i0 (.int .u8 0) 1 1 Tryz.underlying31 hi hz0 hz1 hz2 rfl (by decide) _ 0 (bv []) hs hown ad l.length cap (bv l) hx (by simp [bv]) ?_ ?_ (by unfold maxLen; omega) (by omega) (by simp) ?_
    · intro j w2 hj
      have hjl : j < l.length := by have := (List.getElem?_eq_some_iff.1 hj).1; simpa [bv] using this
      obtain ⟨g, off, he, h3, h4⟩ := h2 (by intro e; rw [e] at hjl; simp at hjl)
      cases he
      rw [bv_get _ _ hjl] at hj
      cases hj
      rw [addAt]
      exact h4 j hjl
    · intro w2 hw2; simp [bv] at hw2; obtain ⟨q, _, rfl⟩ := hw2; rfl
    · intro v' w' g1 g2 g3
      have hbl : Below w.heap.size w w' := hb1.grown g2 (by simp) (fun k hk => (hown.lt k hk).1)
      have g1' : w'.ownsRow w.heap.size 5 1 v' l.length (bv l) := by simpa [bv] using g1
      rcases Go.Joins.ownsRow_forms g1' with ⟨rfl, _⟩ | ⟨g', c', rfl⟩
      · exact absurd (g3.1 rfl).1 (by simp)
      · exact h g' c' w' hbl g1'
/-- The cells of parts, one behind the other. -/
def sgv (x : Sg) : List Value := [.int .u64 (n64 x.a), .int .u64 (n64 x.s), .int .i64 x.f, .slice x.m x.n x.c]
def sgl (L : List Sg) : List Value := L.flatMap sgv
theorem sgl_length (L : List Sg) : (sgl L).length = L.length * 4 := by
  induction L with
  | nil => rfl
  | cons x L ih => simp only [sgl, List.flatMap_cons, List.length_append, List.length_cons] at *; rw [ih]; simp [sgv]; omega
theorem sgl_get (L : List Sg) (j c : Nat) (hj : j < L.length) (hc : c < 4) : (sgl L)[j * 4 + c]? = (sgv (sg L j))[c]? := by
  induction L generalizing j with
  | nil => simp at hj
  | cons x L ih =>
    have e : sgl (x :: L) = sgv x ++ sgl L := rfl
    rw [e]
    cases j with
    | zero => rw [Nat.zero_mul, Nat.zero_add, List.getElem?_append_left (by simp [sgv]; exact hc)]; rfl
    | succ j =>
      rw [List.getElem?_append_right (by simp [sgv]; omega), show (j + 1) * 4 + c - (sgv x).length = j * 4 + c by simp [sgv]; omega, ih j (by simpa using hj)]
      rfl
theorem sgl_snoc (L : List Sg) (x : Sg) : sgl (L ++ [x]) = sgl L ++ sgv x := by simp [sgl]
/-- A row of parts of the call's own. -/
theorem Sgs.of_own {w : World} {B : Nat} {v : Value} {L : List Sg} (h : w.ownsRow B 61 4 v L.length (sgl L)) : Sgs w v L := by
  rcases Go.Joins.ownsRow_forms h with ⟨rfl, h0⟩ | ⟨g, cap, rfl⟩
  · have hl0 : L = [] := List.eq_nil_of_length_eq_zero h0
    subst hl0
    exact ⟨none, 0, rfl, Nat.le_refl _, fun hn => absurd rfl hn⟩
  · have hcap : L.length ≤ cap := by
      rcases h.2 with ⟨h', _⟩ | ⟨g', cap', cur, h', _, _, hn, _⟩
      · simp at h'
      · simp only [Value.slice.injEq] at h'; obtain ⟨_, _, rfl⟩ := h'; exact hn
    refine ⟨_, cap, rfl, hcap, fun hn => ⟨g, 0, rfl, (h.lt g rfl).2, fun j hj => ?_⟩⟩
    have k : ∀ c, c < 4 → w.cell? ⟨g, j * 4 + c, none⟩ = (sgv (sg L j))[c]? := fun c hc => by
      rw [h.cellAt (j * 4 + c) (by omega)]; exact sgl_get L j c hj hc
    rw [Nat.zero_add]
    exact ⟨k 0 (by omega), k 1 (by omega), k 2 (by omega), k 3 (by omega)⟩
/-- One part appended to a row of the call's own, a struct beside it. -/
theorem appQ {ops : Array Oper} {rest : List Oper} {o : Oper} {a : Act} {w : World} {Q : Exit → Act → World → Prop} (hgd : o.guard = none) (s x : Operand) (ho : o.op = .call { callee := .builtin .append, args := #[s, x], argTypes := #[23, 23] })
    (B Pb : Nat) (cur : Array Value) (v : Value) (L : List Sg) (y : Sg) (hs : a.eval s = v) (hP : w.heap[Pb]? = some (.cells cur 26 (0, 0))) (hPB : Pb < B) (hown : w.ownsRow B 61 4 v L.length (sgl L))
    (h0 : Nat) (hx : a.eval x = .slice (some ⟨h0, 0, none⟩) 1 1) (hh0 : h0 = w.heap.size) (hl : (L.length + 1) * 48 ≤ 140737488355328) (hB : B ≤ w.heap.size)
    (h : ∀ g' c' w', w'.ownsRow B 61 4 (.slice (some ⟨g', 0, none⟩) (L.length + 1) c') (L ++ [y]).length (sgl (L ++ [y])) → w'.heap[Pb]? = some (.cells cur 26 (0, 0)) → w'.cell? ⟨Pb, 1, none⟩ = cur[1]? → w'.frozen? ⟨Pb, 1, none⟩ = false → Below B w w' → wpList Tryz.prog ops Q rest (a.put o.dst (.slice (some ⟨g', 0, none⟩) (L.length + 1) c')) w') :
    wpList Tryz.prog ops Q (o :: rest) a (w.alloc (.cells #[.int .u64 (n64 y.a), .int .u64 (n64 y.s), .int .i64 y.f, .slice y.m y.n y.c] 61)) := by
  subst hh0
  obtain ⟨i0, hi, hz0, hz1, hz2⟩ := info_parts info41
  refine wpList_append_own _ hgd s x 23 ho B 61 i0 (.agg #[.int .u64 0, .int .u64 0, .int .i64 0, .slice none 0 0]) 4 48 Tryz.underlying23 hi hz0 hz1 hz2 rfl (by decide) v L.length (sgl L) hs (hown.alloc _) ⟨w.heap.size, 0, none⟩ 1 1 (sgv y) hx rfl ?_ ?_ (by unfold maxLen; omega) (by omega) (by simp; omega) ?_
  · intro j u hj
    have hj4 : j < 4 := by have := (List.getElem?_eq_some_iff.1 hj).1; simpa [sgv] using this
    rw [addAt, Nat.zero_add, World.cell?_alloc_at _ _ _ _ rfl]
    match j, hj4, hj with
    | 0, _, hj => exact hj
    | 1, _, hj => exact hj
    | 2, _, hj => exact hj
    | 3, _, hj => exact hj
  · intro u hu; simp [sgv] at hu; rcases hu with rfl | rfl | rfl | rfl <;> rfl
  · intro v' w' h1 h2 _
    have hbl : Below B w w' := ((Below.refl _ _).alloc hB _).grown h2 (by simp; omega) (fun k hk => (hown.lt k hk).1)
    have hP' : w'.heap[Pb]? = some (.cells cur 26 (0, 0)) := by rw [hbl.block Pb hPB]; exact hP
    obtain ⟨g', c', rfl⟩ := Go.Joins.ownsRow_form h1 (by omega)
    exact h g' c' w' (by rw [sgl_snoc, List.length_append]; exact h1) hP' (cell_of_row w' Pb 1 cur 26 (0, 0) hP') (frozen_of_row w' Pb 1 cur 26 hP') hbl
end Go.Proofs.YtheeogbmljjbdaaGreatDoor
namespace Go.Proofs.YtheeogbmljjbdaaGreatDoor
set_option linter.unusedVariables false
open Go.ChangeShapes Go.WideShapes Go.ChangeAt Go.RowKit Go.Deep
/-- The number whose lowest k bytes these are. -/
def tkN (l : List Int) : Nat → Nat
  | 0 => 0
  | k + 1 => tkN l k + (l.getD k 0).toNat * 256 ^ k
def AllB (l : List Int) : Prop := ∀ x ∈ l, 0 ≤ x ∧ x ≤ 255
theorem getD_byte {l : List Int} (h : AllB l) (j : Nat) : 0 ≤ l.getD j 0 ∧ l.getD j 0 ≤ 255 := by
  by_cases hj : j < l.length
  · have : l.getD j 0 ∈ l := by simp [hj]
    exact h _ this
  · have e : l.getD j 0 = 0 := by simp [List.getD, List.getElem?_eq_none (show l.length ≤ j by omega)]
    omega
theorem tkN_lt {l : List Int} (h : AllB l) : ∀ k, tkN l k < 256 ^ k
  | 0 => by simp [tkN]
  | k + 1 => by
    have ih := tkN_lt h k
    have hb := getD_byte h k
    have h2 : (l.getD k 0).toNat * 256 ^ k ≤ 255 * 256 ^ k := Nat.mul_le_mul_right _ (by omega)
    simp only [tkN, Nat.pow_succ]
    omega
theorem nat64 {N : Nat} (h : N < 18446744073709551616) : ((N : Nat) : Int) = n64 (BitVec.ofNat 64 N) := by
  unfold n64; rw [BitVec.toNat_ofNat, Nat.mod_eq_of_lt h]
theorem pow8 (k : Nat) : (2 : Nat) ^ (8 * k) = 256 ^ k := by rw [Nat.pow_mul]
theorem take_step {l : List Int} (h : AllB l) (k : Nat) (hk : k < 8) :
    bits .or .u64 ((tkN l k : Nat) : Int) (IntKind.u64.wrap (l.getD k 0 * 2 ^ (8 * k))) = ((tkN l (k + 1) : Nat) : Int) := by
  have hb := getD_byte h k
  have hlt := tkN_lt h k
  have h64 : (256 : Nat) ^ (k + 1) ≤ 256 ^ 8 := Nat.pow_le_pow_right (by decide) (by omega)
  have hd : ((l.getD k 0).toNat : Int) = l.getD k 0 := by omega
  have hprod : (l.getD k 0).toNat * 256 ^ k ≤ 255 * 256 ^ k := Nat.mul_le_mul_right _ (by omega)
  have hp : (l.getD k 0).toNat * 256 ^ k < 18446744073709551616 := by
    have : 255 * 256 ^ k < 256 ^ (k + 1) := by rw [Nat.pow_succ]; have := Nat.pow_pos (n := k) (show 0 < 256 by decide); omega
    exact Nat.lt_of_le_of_lt hprod (Nat.lt_of_lt_of_le this h64)
  have hk1 : tkN l (k + 1) < 18446744073709551616 := Nat.lt_of_lt_of_le (tkN_lt h (k + 1)) h64
  have hk0 : tkN l k < 18446744073709551616 := Nat.lt_of_le_of_lt (by rw [tkN]; omega) hk1
  have e1 : l.getD k 0 * 2 ^ (8 * k) = (((l.getD k 0).toNat * 256 ^ k : Nat) : Int) := by
    rw [Int.natCast_mul, hd, ← pow8]; rfl
  rw [e1, nat64 hp, wrap_n64, ofInt_n64, nat64 hk0, n64_or, nat64 hk1]
  congr 1
  apply BitVec.eq_of_toNat_eq
  rw [BitVec.toNat_or, BitVec.toNat_ofNat, BitVec.toNat_ofNat, BitVec.toNat_ofNat, Nat.mod_eq_of_lt hk0, Nat.mod_eq_of_lt hp, Nat.mod_eq_of_lt hk1, tkN, Nat.or_comm, Nat.mul_comm, ← pow8, ← Nat.two_pow_add_eq_or_of_lt (by rw [pow8]; exact hlt)]
  omega

theorem AllB.drop {l : List Int} (h : AllB l) (p : Nat) : AllB (l.drop p) := fun x hx => h x (List.mem_of_mem_drop hx)
theorem drop_getD (l : List Int) (p j : Nat) : (l.drop p).getD j 0 = l.getD (p + j) 0 := by
  rw [List.getD_eq_getElem?_getD, List.getD_eq_getElem?_getD, List.getElem?_drop]
/-- The number of k bytes at a place. -/
def vl (b : List Int) (p k : Nat) : Nat := tkN (b.drop p) k
theorem vl_lt {b : List Int} (h : AllB b) (p k : Nat) : vl b p k < 256 ^ k := tkN_lt (h.drop p) k
theorem vl_lt8 {b : List Int} (h : AllB b) (p k : Nat) (hk : k ≤ 8) : vl b p k < 18446744073709551616 := Nat.lt_of_lt_of_le (vl_lt h p k) (Nat.pow_le_pow_right (by decide) hk)
theorem vl_step {b : List Int} (h : AllB b) (p k : Nat) (hk : k < 8) :
    bits .or .u64 ((vl b p k : Nat) : Int) (IntKind.u64.wrap (b.getD (p + k) 0 * 2 ^ (8 * k))) = ((vl b p (k + 1) : Nat) : Int) := by
  rw [← drop_getD]
  exact take_step (h.drop p) k hk
/-- A fault: its place and its reason. -/
abbrev Flt := Option (Nat × Nat)
def magL : List Int := [127, 69, 76, 70, 2, 1, 1]
/-- The first bytes, r of them, from i on. -/
def idF (b : List Int) : Nat → Nat → Flt
  | 0, _ => none
  | r + 1, i => if b.length ≤ i then some (b.length, 20) else if b.getD i 0 ≠ magL.getD i 0 then some (i, 21) else idF b r (i + 1)
/-- The head, behind them. -/
def hdF (b : List Int) : Flt :=
  if b.length < 64 then some (b.length, 20) else if vl b 16 2 ≠ 2 then some (16, 21) else if vl b 18 2 ≠ 243 then some (18, 21) else if vl b 20 4 ≠ 1 then some (20, 21)
  else if vl b 24 8 % 2 = 1 then some (24, 22) else if 1 < vl b 48 4 then some (48, 22) else if vl b 52 2 ≠ 64 then some (52, 22) else none
abbrev room (b : List Int) (p n : Nat) : Prop := n ≤ b.length ∧ p ≤ b.length - n
/-- What the head says of the program headers. -/
def phF (b : List Int) : Flt :=
  if vl b 56 2 ≠ 0 ∧ vl b 54 2 ≠ 56 then some (54, 22) else if 16 < vl b 56 2 then some (56, 2) else if ¬ room b (vl b 32 8) (56 * vl b 56 2) then some (32, 20) else none
/-- A part as a program header tells it. -/
structure Pt where
  a : Nat
  s : Nat
  f : Nat
  p : Nat
  n : Nat
def fwN (w : Nat) : Nat := w / 4 % 2 + w / 2 % 2 * 2 + w % 2 * 4
def ptAt (b : List Int) (h : Nat) : Pt := ⟨vl b (h + 24) 8, vl b (h + 40) 8, fwN (vl b (h + 4) 4), vl b (h + 8) 8, vl b (h + 32) 8⟩
abbrev isPt (b : List Int) (h : Nat) : Prop := vl b h 4 = 1 ∧ ¬ (vl b (h + 40) 8 = 0 ∧ vl b (h + 32) 8 = 0)
/-- Two parts meet. -/
def meetB (x1 y1 x2 y2 : BitVec 64) : Bool := decide (n64 x1 ≤ n64 (x2 + (y2 - 1#64))) && decide (n64 x2 ≤ n64 (x1 + (y1 - 1#64)))
def mtB (x y : Pt) : Bool := meetB (BitVec.ofNat 64 x.a) (BitVec.ofNat 64 x.s) (BitVec.ofNat 64 y.a) (BitVec.ofNat 64 y.s)
/-- A part's own fault, but for meeting another. -/
def ptF (b : List Int) (h : Nat) : Flt :=
  if 7 < vl b (h + 4) 4 then some (h + 4, 23) else if vl b (h + 40) 8 < vl b (h + 32) 8 then some (h + 32, 23) else if ¬ room b (vl b (h + 8) 8) (vl b (h + 32) 8) then some (h + 8, 20)
  else if (BitVec.ofNat 64 (vl b (h + 24) 8) + (BitVec.ofNat 64 (vl b (h + 40) 8) - 1#64)).toNat < (BitVec.ofNat 64 (vl b (h + 24) 8)).toNat then some (h + 24, 23) else none
/-- The parts of the headers ahead and the first fault, and one header more. -/
def prS (b : List Int) (h : Nat) (r : List Pt × Flt) : List Pt × Flt :=
  if r.2.isSome then r else if isPt b h then (if (ptF b h).isSome then (r.1, ptF b h) else if r.1.any (mtB (ptAt b h)) then (r.1, some (h + 24, 24)) else (r.1 ++ [ptAt b h], none)) else r
/-- The parts of the first i headers, and the first fault. -/
def prL (b : List Int) (P : Nat) : Nat → List Pt × Flt
  | 0 => ([], none)
  | i + 1 => prS b (P + 56 * i) (prL b P i)
end Go.Proofs.YtheeogbmljjbdaaGreatDoor
