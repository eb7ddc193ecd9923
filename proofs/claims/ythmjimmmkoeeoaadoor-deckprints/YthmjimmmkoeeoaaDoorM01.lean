/-
  Base Num.
-/
import Derived.Test.YthmjimmmkoeeoaaDoorRows
import Derived.WalkKit
import Derived.ProofKit
import Derived.OpenShut
import Derived.WalkLawsBesides
import Derived.WalkSpells
import Derived.Outline
import Derived.Laws.Tables
import Derived.Laws.Rows
import Derived.Deep.WholeRow
import Derived.Deep.Quiet
import Derived.Deep.QuietTactic
import Derived.BigQuiet
import Derived.Lib.SmallJoins
import Derived.Laws.Bits64
namespace Go.Proofs.YthmjimmmkoeeoaaDoor
open Go.ChangeShapes Go.WideShapes Go.ChangeAt Go.RowKit Go.Deep

theorem hid {p : Prop} (h : p) : Hid p := h
theorem wpList_build_tab {P : Program} {ops : Array Oper} {rest : List Oper} {o : Oper} {a : Act} {w : World} {Q : Exit → Act → World → Prop} (hgd : o.guard = none) (t : TypeId) (parts : Array (Nat × Operand)) (ho : o.op = .build t parts)
    (cells : Array Value) (hc : P.built t (parts.map fun (i, x) => (i, a.eval x)).toList = some cells)
    (h : wpList P ops Q rest (a.put o.dst (.agg cells)) w) : wpList P ops Q (o :: rest) a w :=
  wpList_plain hgd fun _ hK => by
    unfold Oper.wp execOp
    simp only [ho, Sem.run_bind, run_build w t _ cells hc, Result.andThen_ok]
    exact hK _ _ h

theorem wpList_store_new {P : Program} {ops : Array Oper} {rest : List Oper} {o : Oper} {a : Act} {w : World} {Q : Exit → Act → World → Prop} (hgd : o.guard = none) (t : TypeId) (x y : Operand) (ho : o.op = .store t x y) (hd : o.dst = none)
    (c c' : Array Value) (hx : a.eval x = .pointer (some ⟨w.heap.size, 0, none⟩)) (hy : a.eval y = .agg c') (hi : (P.info? t).map (·.size) = some c'.size) (hs : c.size = c'.size) (h1 : c'.all (·.oneCell') = true)
    (h : wpList P ops Q rest a (w.alloc (.cells c' t))) : wpList P ops Q (o :: rest) a (w.alloc (.cells c t)) :=
  wpList_plain hgd fun _ hK => by
    unfold Oper.wp execOp
    simp only [ho, hx, hy, Sem.run_bind, run_storeAt_new w t c c' hi hs h1, Result.andThen_ok]
    simpa [Oper.upon, Act.put, hd] using hK _ _ h

/-- A function without what it closes over, as a value. -/
def fv (f : Nat) : Value := .func (.func f) #[] #[]

/-- A world behind 'W' in which nothing of 'W' has turned. -/
structure Later (W : World) where
  at_ : World
  below : Below W.heap.size W at_
theorem later_nonempty (W : World) : Nonempty (Later W) := ⟨⟨W, Below.refl _ _⟩⟩
def Later.start (W : World) : Later W := ⟨W, Below.refl _ _⟩

theorem Later.step {W : World} (x : Later W) {w' : World} (h : Below x.1.heap.size x.1 w') : ∃ y : Later W, w' = y.1 :=
  ⟨⟨w', x.2.trans (h.mono x.2.size)⟩, rfl⟩

/-- A contract that only makes memory, met in a later world. -/
theorem calls_later {P : Program} {f : FuncId} {args : Array Value} {W : World} {x : Later W} {v : Value}
    (h : Calls P f args x.1 fun e w' => e = .returned v ∧ Below x.1.heap.size x.1 w') : Calls P f args x.1 fun e w' => e = .returned v ∧ ∃ y : Later W, w' = y.1 :=
  h.mono fun _ _ ⟨he, hb⟩ => ⟨he, x.step hb⟩
theorem calls_later_same {P : Program} {f : FuncId} {args : Array Value} {W : World} {x : Later W} {v : Value}
    (h : Calls P f args x.1 fun e w' => e = .returned v ∧ w' = x.1) : Calls P f args x.1 fun e w' => e = .returned v ∧ ∃ y : Later W, w' = y.1 :=
  h.mono fun _ _ ⟨he, hb⟩ => ⟨he, x, hb⟩

theorem later_cell {W : World} (x : Later W) {p : Addr} (h : p.block < W.heap.size) : x.1.cell? p = W.cell? p := x.2.cell h

/-- A region that draws its order and whose operations only read and make memory, walked once. -/
theorem wp_region_later {P : Program} {id : Nat} {Q : Exit → Act → World → Prop} {a : Act} {W : World} {x0 : Later W} {l : List Oper} (hm : P.follows .mixedOrders = true) (hB : Region.lexB .any l.toArray = true)
    (h : wpQuiet P l.toArray (fun w' => ∃ x : Later W, w' = x.1) (fun a' => ∀ w', (∃ x : Later W, w' = x.1) → Q .normal a' w') l a) : (Code.region id l.toArray true).wp P Q a x0.1 :=
  wp_region_quiet (C := fun w' => ∃ x : Later W, w' = x.1) hm hB ⟨⟨_, x0.2.drew⟩, rfl⟩ (by simpa using h)

/-- A word as the program's number. -/
def n64 (x : BitVec 64) : Int := (x.toNat : Int)
theorem n64_inj {x y : BitVec 64} : n64 x = n64 y ↔ x = y := by
  unfold n64; constructor
  · intro h; exact BitVec.eq_of_toNat_eq (by omega)
  · rintro rfl; rfl
theorem n64_lo (x : BitVec 64) : 0 ≤ n64 x := by unfold n64; omega
theorem n64_hi (x : BitVec 64) : n64 x ≤ 18446744073709551615 := by unfold n64; have := x.isLt; omega
theorem n64_of {n : Int} (h : (Lit.int .u64 n).wf = true) : ∃ x : BitVec 64, n = n64 x := by
  have hb := bounds_u64 h
  refine ⟨BitVec.ofNat 64 n.toNat, ?_⟩
  unfold n64; rw [BitVec.toNat_ofNat, Nat.mod_eq_of_lt (by omega)]; omega
theorem n64_wf (x : BitVec 64) : (Lit.int .u64 (n64 x)).wf = true := WalkArith.wf_u64 ⟨n64_lo x, n64_hi x⟩
theorem ne_false {x y : BitVec 64} (h : x = y) : (n64 x != n64 y) = false := by subst h; simp
theorem eq_true {x y : BitVec 64} (h : x = y) : (n64 x == n64 y) = true := by subst h; simp

section
variable {H : Type} {enc : TypeId × Value → H} {P : Program} {w : World} {base : Nat} {spare : Nat → Bool} {held : Bool}
theorem array5 {α : Type} {cs : Array α} (h : cs.size = 5) : ∃ c0 c1 c2 c3 c4, cs = #[c0, c1, c2, c3, c4] := by
  obtain ⟨l⟩ := cs
  match l, h with
  | [c0, c1, c2, c3, c4], _ => exact ⟨c0, c1, c2, c3, c4, rfl⟩
theorem trod_struct5 {t : TypeId} {f0 f1 f2 f3 f4 : Field} {fuel : Nat} {cs : List Value} {x : DataW H × List MemPlace} (ht : P.underlying t = some (.struct #[f0, f1, f2, f3, f4])) (h : DataW.trod enc P w base spare held fuel t cs = some x) :
    ∃ y0 y1 y2 y3 y4 n, x = (.agg [y0.1, y1.1, y2.1, y3.1, y4.1], y0.2 ++ (y1.2 ++ (y2.2 ++ (y3.2 ++ y4.2)))) ∧ cs.length = P.cellsOf t ∧ DataW.trod enc P w base spare held n f0.type ((cs.drop f0.offset).take (P.cellsOf f0.type)) = some y0 ∧
      DataW.trod enc P w base spare held n f1.type ((cs.drop f1.offset).take (P.cellsOf f1.type)) = some y1 ∧ DataW.trod enc P w base spare held n f2.type ((cs.drop f2.offset).take (P.cellsOf f2.type)) = some y2 ∧
      DataW.trod enc P w base spare held n f3.type ((cs.drop f3.offset).take (P.cellsOf f3.type)) = some y3 ∧ DataW.trod enc P w base spare held n f4.type ((cs.drop f4.offset).take (P.cellsOf f4.type)) = some y4 := by
  obtain ⟨xs, n, _, rfl, hl, hlen, hf⟩ := DataW.trod_struct ht h
  match xs, hlen with
  | [y0, y1, y2, y3, y4], _ => exact ⟨y0, y1, y2, y3, y4, n, by simp, hl, by simpa using hf 0 f0 rfl, by simpa using hf 1 f1 rfl, by simpa using hf 2 f2 rfl, by simpa using hf 3 f3 rfl, by simpa using hf 4 f4 rfl⟩
theorem open_agg5 {r : Reach} {b0 : Nat} {t : TypeId} {f0 f1 f2 f3 f4 : Field} {v : Value} {d : DataW H} {p : List MemPlace} (hs : P.underlying t = some (.struct #[f0, f1, f2, f3, f4])) (hone : oneCellFields P #[f0, f1, f2, f3, f4] = true) (hC : P.cellsOf t = 5)
    (hv : Value.okWide P w r b0 t v) (h : DataW.Trod enc P w base spare held t v d p) :
    ∃ (v0 v1 v2 v3 v4 : Value) (y0 y1 y2 y3 y4 : DataW H × List MemPlace) (n : Nat), v = .agg #[v0, v1, v2, v3, v4] ∧ d = .agg [y0.1, y1.1, y2.1, y3.1, y4.1] ∧ p = y0.2 ++ (y1.2 ++ (y2.2 ++ (y3.2 ++ y4.2))) ∧
      DataW.trod enc P w base spare held n f0.type [v0] = some y0 ∧ DataW.trod enc P w base spare held n f1.type [v1] = some y1 ∧ DataW.trod enc P w base spare held n f2.type [v2] = some y2 ∧ DataW.trod enc P w base spare held n f3.type [v3] = some y3 ∧
      DataW.trod enc P w base spare held n f4.type [v4] = some y4 := by
  obtain ⟨cs, rfl, hsz⟩ := okWide_struct hs hv
  obtain ⟨c0, c1, c2, c3, c4, rfl⟩ := array5 (hsz.trans hC)
  obtain ⟨fuel, hf⟩ := h
  obtain ⟨y0, y1, y2, y3, y4, n, hx, _, h0, h1, h2, h3, h4⟩ := trod_struct5 hs hf
  obtain ⟨o0, k0⟩ := hone_of hone 0 f0 rfl
  obtain ⟨o1, k1⟩ := hone_of hone 1 f1 rfl
  obtain ⟨o2, k2⟩ := hone_of hone 2 f2 rfl
  obtain ⟨o3, k3⟩ := hone_of hone 3 f3 rfl
  obtain ⟨o4, k4⟩ := hone_of hone 4 f4 rfl
  simp only [Prod.mk.injEq] at hx
  exact ⟨c0, c1, c2, c3, c4, y0, y1, y2, y3, y4, n, rfl, hx.1, hx.2, by simpa [Value.cells, o0, k0] using h0, by simpa [Value.cells, o1, k1] using h1, by simpa [Value.cells, o2, k2] using h2, by simpa [Value.cells, o3, k3] using h3,
    by simpa [Value.cells, o4, k4] using h4⟩
theorem shut_agg5 {t : TypeId} {f0 f1 f2 f3 f4 : Field} {v0 v1 v2 v3 v4 : Value} {y0 y1 y2 y3 y4 : DataW H × List MemPlace} (hs : P.underlying t = some (.struct #[f0, f1, f2, f3, f4])) (hone : oneCellFields P #[f0, f1, f2, f3, f4] = true) (hC : P.cellsOf t = 5)
    (t0 : ∃ n, DataW.trod enc P w base spare held n f0.type [v0] = some y0) (t1 : ∃ n, DataW.trod enc P w base spare held n f1.type [v1] = some y1) (t2 : ∃ n, DataW.trod enc P w base spare held n f2.type [v2] = some y2)
    (t3 : ∃ n, DataW.trod enc P w base spare held n f3.type [v3] = some y3) (t4 : ∃ n, DataW.trod enc P w base spare held n f4.type [v4] = some y4) :
    DataW.Trod enc P w base spare held t (.agg #[v0, v1, v2, v3, v4]) (.agg [y0.1, y1.1, y2.1, y3.1, y4.1]) (y0.2 ++ (y1.2 ++ (y2.2 ++ (y3.2 ++ y4.2)))) := by
  obtain ⟨n0, t0⟩ := t0
  obtain ⟨n1, t1⟩ := t1
  obtain ⟨n2, t2⟩ := t2
  obtain ⟨n3, t3⟩ := t3
  obtain ⟨n4, t4⟩ := t4
  obtain ⟨o0, k0⟩ := hone_of hone 0 f0 rfl
  obtain ⟨o1, k1⟩ := hone_of hone 1 f1 rfl
  obtain ⟨o2, k2⟩ := hone_of hone 2 f2 rfl
  obtain ⟨o3, k3⟩ := hone_of hone 3 f3 rfl
  obtain ⟨o4, k4⟩ := hone_of hone 4 f4 rfl
  have l0 := DataW.trod_le (show n0 ≤ n0 + n1 + n2 + n3 + n4 by omega) t0
  have l1 := DataW.trod_le (show n1 ≤ n0 + n1 + n2 + n3 + n4 by omega) t1
  have l2 := DataW.trod_le (show n2 ≤ n0 + n1 + n2 + n3 + n4 by omega) t2
  have l3 := DataW.trod_le (show n3 ≤ n0 + n1 + n2 + n3 + n4 by omega) t3
  have l4 := DataW.trod_le (show n4 ≤ n0 + n1 + n2 + n3 + n4 by omega) t4
  have ts := trod_struct_mk (enc := enc) (w := w) (base := base) (spare := spare) (held := held) (n := n0 + n1 + n2 + n3 + n4) (cs := [v0, v1, v2, v3, v4]) (xs := [y0, y1, y2, y3, y4]) hs (by simp [hC])
    (by simp [o0, k0, o1, k1, o2, k2, o3, k3, o4, k4, l0, l1, l2, l3, l4])
  exact ⟨_, by simpa [Value.cells] using ts⟩
end
end Go.Proofs.YthmjimmmkoeeoaaDoor
namespace Go.Proofs.YthmjimmmkoeeoaaDoor
open Go.ChangeShapes Go.WideShapes Go.ChangeAt Go.RowKit

theorem ret_int {k : IntKind} {a b : Int} (h : a = b) : Ending.returned (.int k a) = .returned (.int k b) := by rw [h]

theorem ofInt_n64 (x : BitVec 64) : BitVec.ofInt 64 (n64 x) = x := by
  unfold n64; apply BitVec.eq_of_toNat_eq; rw [BitVec.toNat_ofInt]; have := x.isLt; omega

/-- Whatever wraps is the word of that number. -/
theorem wrap_n64 (z : Int) : IntKind.u64.wrap z = n64 (BitVec.ofInt 64 z) := by
  unfold n64; rw [IntKind.wrap_u64, BitVec.toNat_ofInt]; omega

theorem n64_add (x y : BitVec 64) : IntKind.u64.wrap (n64 x + n64 y) = n64 (x + y) := by
  rw [IntKind.wrap_u64]; unfold n64; rw [BitVec.toNat_add]; omega
theorem n64_sub (x y : BitVec 64) : IntKind.u64.wrap (n64 x - n64 y) = n64 (x - y) := by
  rw [IntKind.wrap_u64]; unfold n64; rw [BitVec.toNat_sub]; have := x.isLt; have := y.isLt; omega
theorem n64_mul (x y : BitVec 64) : IntKind.u64.wrap (n64 x * n64 y) = n64 (x * y) := by
  rw [IntKind.wrap_u64]; unfold n64; rw [BitVec.toNat_mul, Int.natCast_emod, Int.natCast_mul]; rfl
theorem n64_and (x y : BitVec 64) : bits .and .u64 (n64 x) (n64 y) = n64 (x &&& y) := by
  show IntKind.u64.wrap ((BitVec.ofInt 64 (n64 x) &&& BitVec.ofInt 64 (n64 y)).toNat : Int) = _
  rw [ofInt_n64, ofInt_n64, wrap_n64]; exact congrArg n64 (ofInt_n64 _)
theorem n64_or (x y : BitVec 64) : bits .or .u64 (n64 x) (n64 y) = n64 (x ||| y) := by
  show IntKind.u64.wrap ((BitVec.ofInt 64 (n64 x) ||| BitVec.ofInt 64 (n64 y)).toNat : Int) = _
  rw [ofInt_n64, ofInt_n64, wrap_n64]; exact congrArg n64 (ofInt_n64 _)
theorem n64_xor (x y : BitVec 64) : bits .xor .u64 (n64 x) (n64 y) = n64 (x ^^^ y) := by
  show IntKind.u64.wrap ((BitVec.ofInt 64 (n64 x) ^^^ BitVec.ofInt 64 (n64 y)).toNat : Int) = _
  rw [ofInt_n64, ofInt_n64, wrap_n64]; exact congrArg n64 (ofInt_n64 _)
theorem n64_shl (x : BitVec 64) (k : Nat) : IntKind.u64.wrap (n64 x * 2 ^ k) = n64 (x <<< k) := by
  rw [IntKind.wrap_u64]; unfold n64; rw [BitVec.toNat_shiftLeft, Nat.shiftLeft_eq, Int.natCast_emod, Int.natCast_mul, Int.natCast_pow]; rfl
theorem n64_shr (x : BitVec 64) (k : Nat) : n64 x / 2 ^ k = n64 (x >>> k) := by
  unfold n64; rw [BitVec.toNat_ushiftRight, Nat.shiftRight_eq_div_pow, Int.natCast_ediv, Int.natCast_pow]; rfl
theorem n64_udiv (x y : BitVec 64) : n64 x / n64 y = n64 (x / y) := by
  unfold n64; rw [BitVec.toNat_udiv]; push_cast; rfl
theorem n64_udivw (x y : BitVec 64) : IntKind.u64.wrap ((n64 x).tdiv (n64 y)) = n64 (x / y) := by
  rw [Int.tdiv_eq_ediv_of_nonneg (n64_lo x), n64_udiv, wrap_n64, ofInt_n64]
theorem n64_umod (x y : BitVec 64) : n64 x % n64 y = n64 (x % y) := by
  unfold n64; rw [BitVec.toNat_umod]; push_cast; rfl

theorem wrap64_bmod (z : Int) : wrap64 z = z.bmod 18446744073709551616 := by
  unfold wrap64; rw [Int.bmod_def]; split <;> omega
theorem wrap32_bmod (z : Int) : wrap32 z = z.bmod 4294967296 := by
  unfold wrap32; rw [Int.bmod_def]; split <;> omega
theorem wrap64_n64 (x : BitVec 64) : wrap64 (n64 x) = x.toInt := by
  rw [wrap64_bmod, BitVec.toInt_eq_toNat_bmod]; rfl
theorem wrap32_n64 (x : BitVec 64) : wrap32 (n64 x) = (x.setWidth 32).toInt := by
  rw [wrap32_bmod, BitVec.toInt_eq_toNat_bmod, BitVec.toNat_setWidth]; unfold n64
  show _ = ((x.toNat % 4294967296 : Nat) : Int).bmod 4294967296
  rw [Int.natCast_emod]; exact (Int.emod_bmod _ 4294967296).symm
theorem wrap64_toInt (x : BitVec 64) : wrap64 x.toInt = x.toInt := by
  have h1 := BitVec.le_toInt x; have h2 := BitVec.toInt_lt (x := x)
  unfold wrap64; simp at h1 h2; omega
theorem wrap64_toInt32 (x : BitVec 32) : wrap64 x.toInt = x.toInt := by
  have h1 := BitVec.le_toInt x; have h2 := BitVec.toInt_lt (x := x)
  unfold wrap64; simp at h1 h2; omega
theorem n64_toInt (x : BitVec 64) : IntKind.u64.wrap x.toInt = n64 x := by
  rw [wrap_n64, BitVec.ofInt_toInt]

/-- The lower half, its sign repeated upwards. -/
def wid (x : BitVec 64) : BitVec 64 := (x.setWidth 32).signExtend 64
theorem n64_wid (x : BitVec 64) : IntKind.u64.wrap (wrap64 (wrap32 (n64 x))) = n64 (wid x) := by
  rw [wrap32_n64, wrap64_toInt32, wrap_n64]; rfl
/-- The lower half, zeros above. -/
def low (x : BitVec 64) : BitVec 64 := x &&& 4294967295#64
theorem n64_low (x : BitVec 64) : bits .and .u64 (n64 x) 4294967295 = n64 (low x) := n64_and x 4294967295#64

theorem n64_sra (x : BitVec 64) (k : Nat) : IntKind.u64.wrap (x.toInt / 2 ^ k) = n64 (x.sshiftRight k) := by
  have h : x.toInt / 2 ^ k = (x.sshiftRight k).toInt := by
    rw [BitVec.toInt_sshiftRight, Int.shiftRight_eq_div_pow, Int.natCast_pow]; rfl
  rw [h, n64_toInt]
theorem n64_sdiv (x y : BitVec 64) : IntKind.u64.wrap (wrap64 (x.toInt.tdiv y.toInt)) = n64 (x.sdiv y) := by
  have h : wrap64 (x.toInt.tdiv y.toInt) = (x.sdiv y).toInt := by
    rw [wrap64_bmod, BitVec.toInt_sdiv]
  rw [h, n64_toInt]
theorem n64_srem (x y : BitVec 64) : IntKind.u64.wrap (x.toInt.tmod y.toInt) = n64 (x.srem y) := by
  rw [← BitVec.toInt_srem, n64_toInt]
theorem n64_zero {y : BitVec 64} (h : n64 y = 0) : y = 0#64 := n64_inj.1 (h.trans rfl)
theorem toInt_zero {y : BitVec 64} (h : y.toInt = 0) : y = 0#64 := BitVec.eq_of_toInt_eq (by simpa using h)

/-! Quotients and comparisons as the document has them -/
def qDivu (x y : BitVec 64) : BitVec 64 := if y = 0#64 then ~~~0#64 else x / y
def qRemu (x y : BitVec 64) : BitVec 64 := if y = 0#64 then x else x % y
def qDiv (x y : BitVec 64) : BitVec 64 := if y = 0#64 then ~~~0#64 else x.sdiv y
def qRem (x y : BitVec 64) : BitVec 64 := if y = 0#64 then x else x.srem y
def bSlt (x y : BitVec 64) : BitVec 64 := if x.toInt < y.toInt then 1#64 else 0#64
def bSltu (x y : BitVec 64) : BitVec 64 := if n64 x < n64 y then 1#64 else 0#64
end Go.Proofs.YthmjimmmkoeeoaaDoor
