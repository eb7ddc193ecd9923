import Derived.Test.YtlhgphokfpnfeaaGreatDoorRows
import Derived.WalkKit
import Derived.ProofKit
import Derived.OpenShut
import Derived.WalkLawsBesides
import Derived.WalkSpells
import Derived.Outline
import Derived.Laws.Tables
import Derived.Laws.Rows
import Derived.Deep.WholeRow
import Derived.Deep.Quiet
import Derived.Deep.QuietTactic
import Derived.BigQuiet
import Derived.Lib.SmallJoins
import Derived.Laws.Bits64
namespace Go.Proofs.YtlhgphokfpnfeaaGreatDoor
open Go.ChangeShapes Go.WideShapes Go.ChangeAt Go.RowKit Go.Deep
theorem wpList_build_tab {P : Program} {ops : Array Oper} {rest : List Oper} {o : Oper} {a : Act} {w : World} {Q : Exit → Act → World → Prop} (hgd : o.guard = none) (t : TypeId) (parts : Array (Nat × Operand)) (ho : o.op = .build t parts)
    (cells : Array Value) (hc : P.built t (parts.map fun (i, x) => (i, a.eval x)).toList = some cells)
    (h : wpList P ops Q rest (a.put o.dst (.agg cells)) w) : wpList P ops Q (o :: rest) a w :=
  wpList_plain hgd fun _ hK => by
    unfold Oper.wp execOp
    simp only [ho, Sem.run_bind, run_build w t _ cells hc, Result.andThen_ok]
    exact hK _ _ h

theorem wpList_store_new {P : Program} {ops : Array Oper} {rest : List Oper} {o : Oper} {a : Act} {w : World} {Q : Exit → Act → World → Prop} (hgd : o.guard = none) (t : TypeId) (x y : Operand) (ho : o.op = .store t x y) (hd : o.dst = none)
    (c c' : Array Value) (hx : a.eval x = .pointer (some ⟨w.heap.size, 0, none⟩)) (hy : a.eval y = .agg c') (hi : (P.info? t).map (·.size) = some c'.size) (hs : c.size = c'.size) (h1 : c'.all (·.oneCell') = true)
    (h : wpList P ops Q rest a (w.alloc (.cells c' t))) : wpList P ops Q (o :: rest) a (w.alloc (.cells c t)) :=
  wpList_plain hgd fun _ hK => by
    unfold Oper.wp execOp
    simp only [ho, hx, hy, Sem.run_bind, run_storeAt_new w t c c' hi hs h1, Result.andThen_ok]
    simpa [Oper.upon, Act.put, hd] using hK _ _ h

/-- A function without what it closes over, as a value. -/
def fv (f : Nat) : Value := .func (.func f) #[] #[]

/-- A world behind 'W' in which nothing of 'W' has turned. -/
structure Later (W : World) where
  at_ : World
  below : Below W.heap.size W at_
theorem later_nonempty (W : World) : Nonempty (Later W) := ⟨⟨W, Below.refl _ _⟩⟩
def Later.start (W : World) : Later W := ⟨W, Below.refl _ _⟩

theorem Later.step {W : World} (x : Later W) {w' : World} (h : Below x.1.heap.size x.1 w') : ∃ y : Later W, w' = y.1 :=
  ⟨⟨w', x.2.trans (h.mono x.2.size)⟩, rfl⟩

/-- A contract that only makes memory, met in a later world. -/
theorem calls_later {P : Program} {f : FuncId} {args : Array Value} {W : World} {x : Later W} {v : Value}
    (h : Calls P f args x.1 fun e w' => e = .returned v ∧ Below x.1.heap.size x.1 w') : Calls P f args x.1 fun e w' => e = .returned v ∧ ∃ y : Later W, w' = y.1 :=
  h.mono fun _ _ ⟨he, hb⟩ => ⟨he, x.step hb⟩
theorem later_cell {W : World} (x : Later W) {p : Addr} (h : p.block < W.heap.size) : x.1.cell? p = W.cell? p := x.2.cell h

/-- A region that draws its order and whose operations only read and make memory, walked once. -/
theorem wp_region_later {P : Program} {id : Nat} {Q : Exit → Act → World → Prop} {a : Act} {W : World} {x0 : Later W} {l : List Oper} (hm : P.follows .mixedOrders = true) (hB : Region.lexB .any l.toArray = true)
    (h : wpQuiet P l.toArray (fun w' => ∃ x : Later W, w' = x.1) (fun a' => ∀ w', (∃ x : Later W, w' = x.1) → Q .normal a' w') l a) : (Code.region id l.toArray true).wp P Q a x0.1 :=
  wp_region_quiet (C := fun w' => ∃ x : Later W, w' = x.1) hm hB ⟨⟨_, x0.2.drew⟩, rfl⟩ (by simpa using h)

/-- A word as the program's number. -/
def n64 (x : BitVec 64) : Int := (x.toNat : Int)
theorem n64_inj {x y : BitVec 64} : n64 x = n64 y ↔ x = y := by
  unfold n64; constructor
  · intro h; exact BitVec.eq_of_toNat_eq (by omega)
  · rintro rfl; rfl
theorem n64_lo (x : BitVec 64) : 0 ≤ n64 x := by unfold n64; omega
theorem n64_hi (x : BitVec 64) : n64 x ≤ 18446744073709551615 := by unfold n64; have := x.isLt; omega
theorem n64_of {n : Int} (h : (Lit.int .u64 n).wf = true) : ∃ x : BitVec 64, n = n64 x := by
  have hb := bounds_u64 h
  refine ⟨BitVec.ofNat 64 n.toNat, ?_⟩
  unfold n64; rw [BitVec.toNat_ofNat, Nat.mod_eq_of_lt (by omega)]; omega
section
variable {H : Type} {enc : TypeId × Value → H} {P : Program} {w : World} {base : Nat} {spare : Nat → Bool} {held : Bool}
end
end Go.Proofs.YtlhgphokfpnfeaaGreatDoor
namespace Go.Proofs.YtlhgphokfpnfeaaGreatDoor
open Go.ChangeShapes Go.WideShapes Go.ChangeAt Go.RowKit
theorem ret_int {k : IntKind} {a b : Int} (h : a = b) : Ending.returned (.int k a) = .returned (.int k b) := by rw [h]

theorem ofInt_n64 (x : BitVec 64) : BitVec.ofInt 64 (n64 x) = x := by
  unfold n64; apply BitVec.eq_of_toNat_eq; rw [BitVec.toNat_ofInt]; have := x.isLt; omega

/-- Whatever wraps is the word of that number. -/
theorem wrap_n64 (z : Int) : IntKind.u64.wrap z = n64 (BitVec.ofInt 64 z) := by
  unfold n64; rw [IntKind.wrap_u64, BitVec.toNat_ofInt]; omega

theorem n64_add (x y : BitVec 64) : IntKind.u64.wrap (n64 x + n64 y) = n64 (x + y) := by
  rw [IntKind.wrap_u64]; unfold n64; rw [BitVec.toNat_add]; omega
theorem n64_sub (x y : BitVec 64) : IntKind.u64.wrap (n64 x - n64 y) = n64 (x - y) := by
  rw [IntKind.wrap_u64]; unfold n64; rw [BitVec.toNat_sub]; have := x.isLt; have := y.isLt; omega
theorem n64_mul (x y : BitVec 64) : IntKind.u64.wrap (n64 x * n64 y) = n64 (x * y) := by
  rw [IntKind.wrap_u64]; unfold n64; rw [BitVec.toNat_mul, Int.natCast_emod, Int.natCast_mul]; rfl
theorem n64_and (x y : BitVec 64) : bits .and .u64 (n64 x) (n64 y) = n64 (x &&& y) := by
  show IntKind.u64.wrap ((BitVec.ofInt 64 (n64 x) &&& BitVec.ofInt 64 (n64 y)).toNat : Int) = _
  rw [ofInt_n64, ofInt_n64, wrap_n64]; exact congrArg n64 (ofInt_n64 _)
theorem n64_or (x y : BitVec 64) : bits .or .u64 (n64 x) (n64 y) = n64 (x ||| y) := by
  show IntKind.u64.wrap ((BitVec.ofInt 64 (n64 x) ||| BitVec.ofInt 64 (n64 y)).toNat : Int) = _
  rw [ofInt_n64, ofInt_n64, wrap_n64]; exact congrArg n64 (ofInt_n64 _)
theorem n64_xor (x y : BitVec 64) : bits .xor .u64 (n64 x) (n64 y) = n64 (x ^^^ y) := by
  show IntKind.u64.wrap ((BitVec.ofInt 64 (n64 x) ^^^ BitVec.ofInt 64 (n64 y)).toNat : Int) = _
  rw [ofInt_n64, ofInt_n64, wrap_n64]; exact congrArg n64 (ofInt_n64 _)
theorem n64_shl (x : BitVec 64) (k : Nat) : IntKind.u64.wrap (n64 x * 2 ^ k) = n64 (x <<< k) := by
  rw [IntKind.wrap_u64]; unfold n64; rw [BitVec.toNat_shiftLeft, Nat.shiftLeft_eq, Int.natCast_emod, Int.natCast_mul, Int.natCast_pow]; rfl
theorem n64_shr (x : BitVec 64) (k : Nat) : n64 x / 2 ^ k = n64 (x >>> k) := by
  unfold n64; rw [BitVec.toNat_ushiftRight, Nat.shiftRight_eq_div_pow, Int.natCast_ediv, Int.natCast_pow]; rfl
theorem wrap64_bmod (z : Int) : wrap64 z = z.bmod 18446744073709551616 := by
  unfold wrap64; rw [Int.bmod_def]; split <;> omega
theorem wrap32_bmod (z : Int) : wrap32 z = z.bmod 4294967296 := by
  unfold wrap32; rw [Int.bmod_def]; split <;> omega
theorem wrap64_n64 (x : BitVec 64) : wrap64 (n64 x) = x.toInt := by
  rw [wrap64_bmod, BitVec.toInt_eq_toNat_bmod]; rfl
theorem wrap32_n64 (x : BitVec 64) : wrap32 (n64 x) = (x.setWidth 32).toInt := by
  rw [wrap32_bmod, BitVec.toInt_eq_toNat_bmod, BitVec.toNat_setWidth]; unfold n64
  show _ = ((x.toNat % 4294967296 : Nat) : Int).bmod 4294967296
  rw [Int.natCast_emod]; exact (Int.emod_bmod _ 4294967296).symm
theorem wrap64_toInt32 (x : BitVec 32) : wrap64 x.toInt = x.toInt := by
  have h1 := BitVec.le_toInt x; have h2 := BitVec.toInt_lt (x := x)
  unfold wrap64; simp at h1 h2; omega
theorem n64_toInt (x : BitVec 64) : IntKind.u64.wrap x.toInt = n64 x := by
  rw [wrap_n64, BitVec.ofInt_toInt]

/-- The lower half, its sign repeated upwards. -/
def wid (x : BitVec 64) : BitVec 64 := (x.setWidth 32).signExtend 64
theorem n64_wid (x : BitVec 64) : IntKind.u64.wrap (wrap64 (wrap32 (n64 x))) = n64 (wid x) := by
  rw [wrap32_n64, wrap64_toInt32, wrap_n64]; rfl
theorem n64_zero {y : BitVec 64} (h : n64 y = 0) : y = 0#64 := n64_inj.1 (h.trans rfl)
/-! Quotients and comparisons as the document has them -/
end Go.Proofs.YtlhgphokfpnfeaaGreatDoor
namespace Go.Proofs.YtlhgphokfpnfeaaGreatDoor
open Go.ChangeShapes Go.WideShapes Go.ChangeAt Go.RowKit
theorem add_any (x y : BitVec 64) (w : World) : Calls Tryz.prog 93 #[.int .u64 (n64 x), .int .u64 (n64 y)] w fun e w' => e = .returned (.int .u64 (n64 (x + y))) ∧ w' = w := by
  go_enter Tryz.func93, Tryz.ntmps93
  go_wp2
  go_ret
  exact ⟨ret_int (n64_add x y), rfl⟩

theorem and_any (x y : BitVec 64) (w : World) : Calls Tryz.prog 95 #[.int .u64 (n64 x), .int .u64 (n64 y)] w fun e w' => e = .returned (.int .u64 (n64 (x &&& y))) ∧ w' = w := by
  go_enter Tryz.func95, Tryz.ntmps95
  go_wp2
  go_ret
  exact ⟨ret_int (n64_and x y), rfl⟩

theorem or_any (x y : BitVec 64) (w : World) : Calls Tryz.prog 96 #[.int .u64 (n64 x), .int .u64 (n64 y)] w fun e w' => e = .returned (.int .u64 (n64 (x ||| y))) ∧ w' = w := by
  go_enter Tryz.func96, Tryz.ntmps96
  go_wp2
  go_ret
  exact ⟨ret_int (n64_or x y), rfl⟩

theorem xor_any (x y : BitVec 64) (w : World) : Calls Tryz.prog 94 #[.int .u64 (n64 x), .int .u64 (n64 y)] w fun e w' => e = .returned (.int .u64 (n64 (x ^^^ y))) ∧ w' = w := by
  go_enter Tryz.func94, Tryz.ntmps94
  go_wp2
  go_ret
  exact ⟨ret_int (n64_xor x y), rfl⟩

theorem widen_any (x : BitVec 64) (w : World) : Calls Tryz.prog 81 #[.int .u64 (n64 x)] w fun e w' => e = .returned (.int .u64 (n64 (wid x))) ∧ w' = w := by
  go_enter Tryz.func81, Tryz.ntmps81
  go_wp2
  go_ret
  exact ⟨ret_int (n64_wid x), rfl⟩
/-! Compute and op at each number -/
/-! live: a few answers that must come -/
end Go.Proofs.YtlhgphokfpnfeaaGreatDoor
namespace Go.Proofs.YtlhgphokfpnfeaaGreatDoor
open Go.ChangeShapes Go.WideShapes Go.ChangeAt Go.RowKit
/-- The lowest n bits of a number, the lowest first. -/
def bt (N i : Nat) : Int := ((N / 2 ^ i % 2 : Nat) : Int)
def bl (N n : Nat) : List Int := (List.range n).map (bt N)
theorem bl_length (N n : Nat) : (bl N n).length = n := by simp [bl]
theorem bl_get (N n j : Nat) (h : j < n) : (bl N n).getD j 0 = bt N j := by
  simp [bl, h]

/-- A list of ints in memory. -/
def Lst (w : World) (v : Value) (l : List Int) : Prop :=
  ∃ g off cap, v = .slice (some ⟨g, off, none⟩) l.length cap ∧ l.length ≤ cap ∧ g < w.heap.size ∧ ∀ j, j < l.length → w.cell? ⟨g, off + j, none⟩ = some (.int .i64 (l.getD j 0))
theorem Lst.later {w w' : World} {v : Value} {l : List Int} (h : Lst w v l) (hb : Below w.heap.size w w') : Lst w' v l := by
  obtain ⟨g, off, cap, rfl, h1, h2, h3⟩ := h
  exact ⟨g, off, cap, rfl, h1, Nat.lt_of_lt_of_le h2 hb.size, fun j hj => by rw [hb.cell (by exact h2)]; exact h3 j hj⟩
theorem addr_add (g j : Nat) : (⟨g, 0, none⟩ : Addr).add j = ⟨g, 0 + j, none⟩ := by unfold Addr.add; split <;> simp_all
theorem Lst.of_own {w : World} {B : Nat} {e : TypeId} {v : Value} {l : List Int} (h : w.ownsRow B e 1 v l.length (l.map (Value.int .i64))) (hl : 0 < l.length) : Lst w v l := by
  have hlt := h.lt
  have h0 := h
  obtain ⟨_, h | ⟨g, cap, cur, rfl, hg, hh, hn, hm, hs, ht⟩⟩ := h
  · omega
  · refine ⟨g, 0, cap, rfl, hn, (hlt g rfl).2, fun j hj => ?_⟩
    have := h0.cells (g := g) rfl j (.int .i64 (l.getD j 0)) (by simp [hj])
    rw [addr_add] at this; exact this

end Go.Proofs.YtlhgphokfpnfeaaGreatDoor
namespace Go.Proofs.YtlhgphokfpnfeaaGreatDoor
open Go.ChangeShapes Go.WideShapes Go.ChangeAt Go.RowKit
def mk (f : Nat → Int) (n : Nat) : List Int := (List.range n).map f
end Go.Proofs.YtlhgphokfpnfeaaGreatDoor
namespace Go.Proofs.YtlhgphokfpnfeaaGreatDoor
open Go.ChangeShapes Go.WideShapes Go.ChangeAt Go.RowKit
def wf (A n : Nat) (t : Int) (j : Nat) : Int := if j < n then bt A j else t

end Go.Proofs.YtlhgphokfpnfeaaGreatDoor
namespace Go.Proofs.YtlhgphokfpnfeaaGreatDoor
open Go.ChangeShapes Go.WideShapes Go.ChangeAt Go.RowKit
def ng (x : BitVec 64) : Bool := decide (x.toInt < 0)
def exc (x y : BitVec 64) : BitVec 64 := if ng x then y else 0#64
end Go.Proofs.YtlhgphokfpnfeaaGreatDoor
namespace Go.Proofs.YtlhgphokfpnfeaaGreatDoor
open Go.ChangeShapes Go.WideShapes Go.ChangeAt Go.RowKit
def uLt (x y : BitVec 64) : Bool := decide (n64 x < n64 y)
def sLt (x y : BitVec 64) : Bool := decide (x.toInt < y.toInt)
end Go.Proofs.YtlhgphokfpnfeaaGreatDoor
