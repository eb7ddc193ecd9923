import Derived.Test.YtdpfjhacmlnklaaGreatDoorRows
import Derived.WalkKit
import Derived.ProofKit
import Derived.OpenShut
import Derived.WalkLawsBesides
import Derived.WalkSpells
import Derived.Outline
import Derived.Laws.Tables
import Derived.Laws.Rows
import Derived.Deep.WholeRow
import Derived.Deep.Quiet
import Derived.Deep.QuietTactic
import Derived.BigQuiet
import Derived.Lib.SmallJoins
import Derived.Laws.Bits64
namespace Go.Proofs.YtdpfjhacmlnklaaGreatDoor
set_option linter.unusedVariables false
set_option maxRecDepth 100000
set_option maxHeartbeats 8000000
open Go.ChangeShapes Go.WideShapes Go.ChangeAt Go.RowKit Go.Deep _root_.Go.Proofs.Tryz
theorem hid {p : Prop} (h : p) : Hid p := h
theorem aH {P : Program} {ops : Array Oper} {rest : List Oper} {o : Oper} {a : Act} {w : World} {Q : Exit → Act → World → Prop} (hgd : o.guard = none) (t : TypeId) (parts : Array (Nat × Operand)) (ho : o.op = .build t parts)
  (cells : Array Value) (hc : P.built t (parts.map fun (i, x) => (i, a.eval x)).toList = some cells)
  (h : wpList P ops Q rest (a.put o.dst (.agg cells)) w) : wpList P ops Q (o :: rest) a w :=
 wpList_plain hgd fun _ hK => by
  unfold Oper.wp execOp
  simp only [ho, Sem.run_bind, run_build w t _ cells hc, Result.andThen_ok]
  exact hK _ _ h

theorem aK {P : Program} {ops : Array Oper} {rest : List Oper} {o : Oper} {a : Act} {w : World} {Q : Exit → Act → World → Prop} (hgd : o.guard = none) (t : TypeId) (x y : Operand) (ho : o.op = .store t x y) (hd : o.dst = none)
  (c c' : Array Value) (hx : a.eval x = .pointer (some ⟨w.heap.size, 0, none⟩)) (hy : a.eval y = .agg c') (hi : (P.info? t).map (·.size) = some c'.size) (hs : c.size = c'.size) (h1 : c'.all (·.oneCell') = true)
  (h : wpList P ops Q rest a (w.alloc (.cells c' t))) : wpList P ops Q (o :: rest) a (w.alloc (.cells c t)) :=
 wpList_plain hgd fun _ hK => by
  unfold Oper.wp execOp
  simp only [ho, hx, hy, Sem.run_bind, run_storeAt_new w t c c' hi hs h1, Result.andThen_ok]
  simpa [Oper.upon, Act.put, hd] using hK _ _ h

def fv (f : Nat) : Value := .func (.func f) #[] #[]

structure bR (W : World) where
 at_ : World
 below : Below W.heap.size W at_
theorem aX (W : World) : Nonempty (bR W) := ⟨⟨W, Below.refl _ _⟩⟩
def bR.start (W : World) : bR W := ⟨W, Below.refl _ _⟩

theorem bR.step {W : World} (x : bR W) {w' : World} (h : Below x.1.heap.size x.1 w') : ∃ y : bR W, w' = y.1 :=
 ⟨⟨w', x.2.trans (h.mono x.2.size)⟩, rfl⟩

theorem fB {P : Program} {f : FuncId} {args : Array Value} {W : World} {x : bR W} {v : Value}
  (h : Calls P f args x.1 fun e w' => e = .returned v ∧ Below x.1.heap.size x.1 w') : Calls P f args x.1 fun e w' => e = .returned v ∧ ∃ y : bR W, w' = y.1 :=
 h.mono fun _ _ ⟨he, hb⟩ => ⟨he, x.step hb⟩
theorem nJ {W : World} (x : bR W) {p : Addr} (h : p.block < W.heap.size) : x.1.cell? p = W.cell? p := x.2.cell h

theorem eY {P : Program} {id : Nat} {Q : Exit → Act → World → Prop} {a : Act} {W : World} {x0 : bR W} {l : List Oper} (hm : P.follows .mixedOrders = true) (hB : Region.lexB .any l.toArray = true)
  (h : wpQuiet P l.toArray (fun w' => ∃ x : bR W, w' = x.1) (fun a' => ∀ w', (∃ x : bR W, w' = x.1) → Q .normal a' w') l a) : (Code.region id l.toArray true).wp P Q a x0.1 :=
 wp_region_quiet (C := fun w' => ∃ x : bR W, w' = x.1) hm hB ⟨⟨_, x0.2.drew⟩, rfl⟩ (by simpa using h)

def n64 (x : BitVec 64) : Int := (x.toNat : Int)
theorem dC {x y : BitVec 64} : n64 x = n64 y ↔ x = y := by
 unfold n64; constructor
 ·intro h; exact BitVec.eq_of_toNat_eq (by omega)
 ·rintro rfl; rfl
theorem bB (x : BitVec 64) : 0 ≤ n64 x := by unfold n64; omega
theorem bI (x : BitVec 64) : n64 x ≤ 18446744073709551615 := by unfold n64; have := x.isLt; omega
theorem bW {n : Int} (h : (Lit.int .u64 n).wf = true) : ∃ x : BitVec 64, n = n64 x := by
 have hb := bounds_u64 h
 refine ⟨BitVec.ofNat 64 n.toNat, ?_⟩
 unfold n64; rw [BitVec.toNat_ofNat, Nat.mod_eq_of_lt (by omega)]; omega
section
variable {H : Type} {enc : TypeId × Value → H} {P : Program} {w : World} {base : Nat} {spare : Nat → Bool} {held : Bool}
end
end Go.Proofs.YtdpfjhacmlnklaaGreatDoor
namespace Go.Proofs.YtdpfjhacmlnklaaGreatDoor
set_option linter.unusedVariables false
set_option maxRecDepth 100000
set_option maxHeartbeats 8000000
open Go.ChangeShapes Go.WideShapes Go.ChangeAt Go.RowKit _root_.Go.Proofs.Tryz
theorem dG {k : IntKind} {a b : Int} (h : a = b) : Ending.returned (.int k a) = .returned (.int k b) := by rw [h]

theorem bT (x : BitVec 64) : BitVec.ofInt 64 (n64 x) = x := by
 unfold n64; apply BitVec.eq_of_toNat_eq; rw [BitVec.toNat_ofInt]; have := x.isLt; omega

theorem dK (z : Int) : IntKind.u64.wrap z = n64 (BitVec.ofInt 64 z) := by
 unfold n64; rw [IntKind.wrap_u64, BitVec.toNat_ofInt]; omega

theorem iG (x y : BitVec 64) : IntKind.u64.wrap (n64 x + n64 y) = n64 (x + y) := by
 rw [IntKind.wrap_u64]; unfold n64; rw [BitVec.toNat_add]; omega
theorem gH (x y : BitVec 64) : IntKind.u64.wrap (n64 x - n64 y) = n64 (x - y) := by
 rw [IntKind.wrap_u64]; unfold n64; rw [BitVec.toNat_sub]; have := x.isLt; have := y.isLt; omega
theorem wJ (x y : BitVec 64) : IntKind.u64.wrap (n64 x * n64 y) = n64 (x * y) := by
 rw [IntKind.wrap_u64]; unfold n64; rw [BitVec.toNat_mul, Int.natCast_emod, Int.natCast_mul]; rfl
theorem cC (x y : BitVec 64) : bits .and .u64 (n64 x) (n64 y) = n64 (x &&& y) := by
 show IntKind.u64.wrap ((BitVec.ofInt 64 (n64 x) &&& BitVec.ofInt 64 (n64 y)).toNat : Int) = _
 rw [bT, bT, dK]; exact congrArg n64 (bT _)
theorem jM (x y : BitVec 64) : bits .or .u64 (n64 x) (n64 y) = n64 (x ||| y) := by
 show IntKind.u64.wrap ((BitVec.ofInt 64 (n64 x) ||| BitVec.ofInt 64 (n64 y)).toNat : Int) = _
 rw [bT, bT, dK]; exact congrArg n64 (bT _)
theorem oU (x y : BitVec 64) : bits .xor .u64 (n64 x) (n64 y) = n64 (x ^^^ y) := by
 show IntKind.u64.wrap ((BitVec.ofInt 64 (n64 x) ^^^ BitVec.ofInt 64 (n64 y)).toNat : Int) = _
 rw [bT, bT, dK]; exact congrArg n64 (bT _)
theorem gG (x : BitVec 64) (k : Nat) : IntKind.u64.wrap (n64 x * 2 ^ k) = n64 (x <<< k) := by
 rw [IntKind.wrap_u64]; unfold n64; rw [BitVec.toNat_shiftLeft, Nat.shiftLeft_eq, Int.natCast_emod, Int.natCast_mul, Int.natCast_pow]; rfl
theorem oT (x : BitVec 64) (k : Nat) : n64 x / 2 ^ k = n64 (x >>> k) := by
 unfold n64; rw [BitVec.toNat_ushiftRight, Nat.shiftRight_eq_div_pow, Int.natCast_ediv, Int.natCast_pow]; rfl
theorem mZ (z : Int) : wrap64 z = z.bmod 18446744073709551616 := by
 unfold wrap64; rw [Int.bmod_def]; split <;> omega
theorem mY (z : Int) : wrap32 z = z.bmod 4294967296 := by
 unfold wrap32; rw [Int.bmod_def]; split <;> omega
theorem cJ (x : BitVec 64) : wrap64 (n64 x) = x.toInt := by
 rw [mZ, BitVec.toInt_eq_toNat_bmod]; rfl
theorem oB (x : BitVec 64) : wrap32 (n64 x) = (x.setWidth 32).toInt := by
 rw [mY, BitVec.toInt_eq_toNat_bmod, BitVec.toNat_setWidth]; unfold n64
 show _ = ((x.toNat % 4294967296 : Nat) : Int).bmod 4294967296
 rw [Int.natCast_emod]; exact (Int.emod_bmod _ 4294967296).symm
theorem jZ (x : BitVec 32) : wrap64 x.toInt = x.toInt := by
 have h1 := BitVec.le_toInt x; have h2 := BitVec.toInt_lt (x := x)
 unfold wrap64; simp at h1 h2; omega
theorem fN (x : BitVec 64) : IntKind.u64.wrap x.toInt = n64 x := by
 rw [dK, BitVec.ofInt_toInt]

def wid (x : BitVec 64) : BitVec 64 := (x.setWidth 32).signExtend 64
theorem wO (x : BitVec 64) : IntKind.u64.wrap (wrap64 (wrap32 (n64 x))) = n64 (wid x) := by
 rw [oB, jZ, dK]; rfl
theorem tG {y : BitVec 64} (h : n64 y = 0) : y = 0#64 := dC.1 (h.trans rfl)
/-! Quotients and comparisons as the document has them -/
theorem oF (x y : BitVec 64) (w : World) : Calls prog 93 #[.int .u64 (n64 x), .int .u64 (n64 y)] w fun e w' => e = .returned (.int .u64 (n64 (x + y))) ∧ w' = w := by
 go_enter func93, ntmps93
 go_wp2
 go_ret
 exact ⟨dG (iG x y), rfl⟩

theorem oH (x y : BitVec 64) (w : World) : Calls prog 95 #[.int .u64 (n64 x), .int .u64 (n64 y)] w fun e w' => e = .returned (.int .u64 (n64 (x &&& y))) ∧ w' = w := by
 go_enter func95, ntmps95
 go_wp2
 go_ret
 exact ⟨dG (cC x y), rfl⟩

theorem tT (x y : BitVec 64) (w : World) : Calls prog 96 #[.int .u64 (n64 x), .int .u64 (n64 y)] w fun e w' => e = .returned (.int .u64 (n64 (x ||| y))) ∧ w' = w := by
 go_enter func96, ntmps96
 go_wp2
 go_ret
 exact ⟨dG (jM x y), rfl⟩

theorem pD (x y : BitVec 64) (w : World) : Calls prog 94 #[.int .u64 (n64 x), .int .u64 (n64 y)] w fun e w' => e = .returned (.int .u64 (n64 (x ^^^ y))) ∧ w' = w := by
 go_enter func94, ntmps94
 go_wp2
 go_ret
 exact ⟨dG (oU x y), rfl⟩

theorem qX (x : BitVec 64) (w : World) : Calls prog 78 #[.int .u64 (n64 x)] w fun e w' => e = .returned (.int .u64 (n64 (wid x))) ∧ w' = w := by
 go_enter func78, ntmps78
 go_wp2
 go_ret
 exact ⟨dG (wO x), rfl⟩
/-! Compute and op at each number -/
/-! live: a few answers that must come -/
def bt (N i : Nat) : Int := ((N / 2 ^ i % 2 : Nat) : Int)
def qP (n A : Nat) : Int := if A / 2 ^ (n - 1) % 2 = 1 then (A : Int) - (2 ^ n : Nat) else (A : Int)
def jv (A k : Nat) : BitVec 64 := BitVec.ofNat 64 (A % 2 ^ k)
def wdn (A n : Nat) : Nat := if A.testBit (n - 1) then 2 ^ n * (2 ^ (64 - n) - 1) + A % 2 ^ n else A % 2 ^ n
theorem sP (N k : Nat) (hk : k ≤ 64) : (jv N k).toNat = N % 2 ^ k := by
 unfold jv; rw [BitVec.toNat_ofNat]
 exact Nat.mod_eq_of_lt (Nat.lt_of_lt_of_le (Nat.mod_lt _ (Nat.two_pow_pos k)) (Nat.pow_le_pow_right (by decide) hk))
def wf (A n : Nat) (t : Int) (j : Nat) : Int := if j < n then bt A j else t
def tX (c : Bool) (A B : Nat) : Nat := if c then B else A
def aR (i n A B : Nat) : Nat := match i with
 | 0 => B
 | 1 => A + B + 0
 | 2 => A ^^^ B
 | 3 => A &&& B
 | 4 => A ||| B
 | 5 => tX (decide (qP n B < qP n A)) A B
 | 6 => tX (decide (qP n A < qP n B)) A B
 | 7 => tX (decide (B < A)) A B
 | _ => tX (decide (A < B)) A B
end Go.Proofs.YtdpfjhacmlnklaaGreatDoor
