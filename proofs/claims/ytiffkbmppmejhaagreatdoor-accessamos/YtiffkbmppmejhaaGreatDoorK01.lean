import Derived.Test.YtiffkbmppmejhaaGreatDoorRows
import Derived.WalkKit
import Derived.ProofKit
import Derived.OpenShut
import Derived.WalkLawsBesides
import Derived.WalkSpells
import Derived.Outline
import Derived.Laws.Tables
import Derived.Laws.Rows
import Derived.Deep.WholeRow
import Derived.Deep.Quiet
import Derived.Deep.QuietTactic
import Derived.BigQuiet
import Derived.Lib.SmallJoins
import Derived.Laws.Bits64
namespace Go.Proofs.YtiffkbmppmejhaaGreatDoor
set_option linter.unusedVariables false
set_option maxRecDepth 100000
set_option maxHeartbeats 8000000
open Go.ChangeShapes Go.WideShapes Go.ChangeAt Go.RowKit Go.Deep _root_.Go.Proofs.Tryz
theorem hid {p : Prop} (h : p) : Hid p := h
theorem aH {P : Program} {ops : Array Oper} {rest : List Oper} {o : Oper} {a : Act} {w : World} {Q : Exit → Act → World → Prop} (hgd : o.guard = none) (t : TypeId) (parts : Array (Nat × Operand)) (ho : o.op = .build t parts)
  (cells : Array Value) (hc : P.built t (parts.map fun (i, x) => (i, a.eval x)).toList = some cells)
  (h : wpList P ops Q rest (a.put o.dst (.agg cells)) w) : wpList P ops Q (o :: rest) a w :=
 wpList_plain hgd fun _ hK => by
  unfold Oper.wp execOp
  simp only [ho, Sem.run_bind, run_build w t _ cells hc, Result.andThen_ok]
  exact hK _ _ h

theorem aO {P : Program} {ops : Array Oper} {rest : List Oper} {o : Oper} {a : Act} {w : World} {Q : Exit → Act → World → Prop} (hgd : o.guard = none) (t : TypeId) (x y : Operand) (ho : o.op = .store t x y) (hd : o.dst = none)
  (c c' : Array Value) (hx : a.eval x = .pointer (some ⟨w.heap.size, 0, none⟩)) (hy : a.eval y = .agg c') (hi : (P.info? t).map (·.size) = some c'.size) (hs : c.size = c'.size) (h1 : c'.all (·.oneCell') = true)
  (h : wpList P ops Q rest a (w.alloc (.cells c' t))) : wpList P ops Q (o :: rest) a (w.alloc (.cells c t)) :=
 wpList_plain hgd fun _ hK => by
  unfold Oper.wp execOp
  simp only [ho, hx, hy, Sem.run_bind, run_storeAt_new w t c c' hi hs h1, Result.andThen_ok]
  simpa [Oper.upon, Act.put, hd] using hK _ _ h

def fv (f : Nat) : Value := .func (.func f) #[] #[]

structure bV (W : World) where
 at_ : World
 below : Below W.heap.size W at_
theorem aY (W : World) : Nonempty (bV W) := ⟨⟨W, Below.refl _ _⟩⟩
def bV.start (W : World) : bV W := ⟨W, Below.refl _ _⟩

theorem bV.step {W : World} (x : bV W) {w' : World} (h : Below x.1.heap.size x.1 w') : ∃ y : bV W, w' = y.1 :=
 ⟨⟨w', x.2.trans (h.mono x.2.size)⟩, rfl⟩

theorem bP {P : Program} {f : FuncId} {args : Array Value} {W : World} {x : bV W} {v : Value}
  (h : Calls P f args x.1 fun e w' => e = .returned v ∧ Below x.1.heap.size x.1 w') : Calls P f args x.1 fun e w' => e = .returned v ∧ ∃ y : bV W, w' = y.1 :=
 h.mono fun _ _ ⟨he, hb⟩ => ⟨he, x.step hb⟩
theorem sK {W : World} (x : bV W) {p : Addr} (h : p.block < W.heap.size) : x.1.cell? p = W.cell? p := x.2.cell h

theorem lI {P : Program} {id : Nat} {Q : Exit → Act → World → Prop} {a : Act} {W : World} {x0 : bV W} {l : List Oper} (hm : P.follows .mixedOrders = true) (hB : Region.lexB .any l.toArray = true)
  (h : wpQuiet P l.toArray (fun w' => ∃ x : bV W, w' = x.1) (fun a' => ∀ w', (∃ x : bV W, w' = x.1) → Q .normal a' w') l a) : (Code.region id l.toArray true).wp P Q a x0.1 :=
 wp_region_quiet (C := fun w' => ∃ x : bV W, w' = x.1) hm hB ⟨⟨_, x0.2.drew⟩, rfl⟩ (by simpa using h)

def n64 (x : BitVec 64) : Int := (x.toNat : Int)
theorem bR {x y : BitVec 64} : n64 x = n64 y ↔ x = y := by
 unfold n64; constructor
 ·intro h; exact BitVec.eq_of_toNat_eq (by omega)
 ·rintro rfl; rfl
theorem bB (x : BitVec 64) : 0 ≤ n64 x := by unfold n64; omega
theorem bG (x : BitVec 64) : n64 x ≤ 18446744073709551615 := by unfold n64; have := x.isLt; omega
theorem dB {n : Int} (h : (Lit.int .u64 n).wf = true) : ∃ x : BitVec 64, n = n64 x := by
 have hb := bounds_u64 h
 refine ⟨BitVec.ofNat 64 n.toNat, ?_⟩
 unfold n64; rw [BitVec.toNat_ofNat, Nat.mod_eq_of_lt (by omega)]; omega
section
variable {H : Type} {enc : TypeId × Value → H} {P : Program} {w : World} {base : Nat} {spare : Nat → Bool} {held : Bool}
end
end Go.Proofs.YtiffkbmppmejhaaGreatDoor
namespace Go.Proofs.YtiffkbmppmejhaaGreatDoor
set_option linter.unusedVariables false
set_option maxRecDepth 100000
set_option maxHeartbeats 8000000
open Go.ChangeShapes Go.WideShapes Go.ChangeAt Go.RowKit _root_.Go.Proofs.Tryz
theorem dN {k : IntKind} {a b : Int} (h : a = b) : Ending.returned (.int k a) = .returned (.int k b) := by rw [h]

theorem cN (x : BitVec 64) : BitVec.ofInt 64 (n64 x) = x := by
 unfold n64; apply BitVec.eq_of_toNat_eq; rw [BitVec.toNat_ofInt]; have := x.isLt; omega

theorem eS (z : Int) : IntKind.u64.wrap z = n64 (BitVec.ofInt 64 z) := by
 unfold n64; rw [IntKind.wrap_u64, BitVec.toNat_ofInt]; omega

theorem eZ (x y : BitVec 64) : IntKind.u64.wrap (n64 x + n64 y) = n64 (x + y) := by
 rw [IntKind.wrap_u64]; unfold n64; rw [BitVec.toNat_add]; omega
theorem gS (x y : BitVec 64) : IntKind.u64.wrap (n64 x - n64 y) = n64 (x - y) := by
 rw [IntKind.wrap_u64]; unfold n64; rw [BitVec.toNat_sub]; have := x.isLt; have := y.isLt; omega
theorem uN (x y : BitVec 64) : IntKind.u64.wrap (n64 x * n64 y) = n64 (x * y) := by
 rw [IntKind.wrap_u64]; unfold n64; rw [BitVec.toNat_mul, Int.natCast_emod, Int.natCast_mul]; rfl
theorem bY (x y : BitVec 64) : bits .and .u64 (n64 x) (n64 y) = n64 (x &&& y) := by
 show IntKind.u64.wrap ((BitVec.ofInt 64 (n64 x) &&& BitVec.ofInt 64 (n64 y)).toNat : Int) = _
 rw [cN, cN, eS]; exact congrArg n64 (cN _)
theorem iE (x y : BitVec 64) : bits .or .u64 (n64 x) (n64 y) = n64 (x ||| y) := by
 show IntKind.u64.wrap ((BitVec.ofInt 64 (n64 x) ||| BitVec.ofInt 64 (n64 y)).toNat : Int) = _
 rw [cN, cN, eS]; exact congrArg n64 (cN _)
theorem uP (x y : BitVec 64) : bits .xor .u64 (n64 x) (n64 y) = n64 (x ^^^ y) := by
 show IntKind.u64.wrap ((BitVec.ofInt 64 (n64 x) ^^^ BitVec.ofInt 64 (n64 y)).toNat : Int) = _
 rw [cN, cN, eS]; exact congrArg n64 (cN _)
theorem gQ (x : BitVec 64) (k : Nat) : IntKind.u64.wrap (n64 x * 2 ^ k) = n64 (x <<< k) := by
 rw [IntKind.wrap_u64]; unfold n64; rw [BitVec.toNat_shiftLeft, Nat.shiftLeft_eq, Int.natCast_emod, Int.natCast_mul, Int.natCast_pow]; rfl
theorem gR (x : BitVec 64) (k : Nat) : n64 x / 2 ^ k = n64 (x >>> k) := by
 unfold n64; rw [BitVec.toNat_ushiftRight, Nat.shiftRight_eq_div_pow, Int.natCast_ediv, Int.natCast_pow]; rfl
theorem zQ (x y : BitVec 64) : n64 x / n64 y = n64 (x / y) := by
 unfold n64; rw [BitVec.toNat_udiv]; push_cast; rfl
theorem wK (x y : BitVec 64) : IntKind.u64.wrap ((n64 x).tdiv (n64 y)) = n64 (x / y) := by
 rw [Int.tdiv_eq_ediv_of_nonneg (bB x), zQ, eS, cN]
theorem lB (z : Int) : wrap64 z = z.bmod 18446744073709551616 := by
 unfold wrap64; rw [Int.bmod_def]; split <;> omega
theorem rV (z : Int) : wrap32 z = z.bmod 4294967296 := by
 unfold wrap32; rw [Int.bmod_def]; split <;> omega
theorem dQ (x : BitVec 64) : wrap64 (n64 x) = x.toInt := by
 rw [lB, BitVec.toInt_eq_toNat_bmod]; rfl
theorem tK (x : BitVec 64) : wrap32 (n64 x) = (x.setWidth 32).toInt := by
 rw [rV, BitVec.toInt_eq_toNat_bmod, BitVec.toNat_setWidth]; unfold n64
 show _ = ((x.toNat % 4294967296 : Nat) : Int).bmod 4294967296
 rw [Int.natCast_emod]; exact (Int.emod_bmod _ 4294967296).symm
theorem nD (x : BitVec 32) : wrap64 x.toInt = x.toInt := by
 have h1 := BitVec.le_toInt x; have h2 := BitVec.toInt_lt (x := x)
 unfold wrap64; simp at h1 h2; omega
theorem iN (x : BitVec 64) : IntKind.u64.wrap x.toInt = n64 x := by
 rw [eS, BitVec.ofInt_toInt]

def wid (x : BitVec 64) : BitVec 64 := (x.setWidth 32).signExtend 64
theorem EW (x : BitVec 64) : IntKind.u64.wrap (wrap64 (wrap32 (n64 x))) = n64 (wid x) := by
 rw [tK, nD, eS]; rfl
def low (x : BitVec 64) : BitVec 64 := x &&& 4294967295#64
theorem zR {y : BitVec 64} (h : n64 y = 0) : y = 0#64 := bR.1 (h.trans rfl)
/-! Quotients and comparisons as the document has them -/
theorem tU (x y : BitVec 64) (w : World) : Calls prog 109 #[.int .u64 (n64 x), .int .u64 (n64 y)] w fun e w' => e = .returned (.int .u64 (n64 (x + y))) ∧ w' = w := by
 go_enter func109, ntmps109
 go_wp2
 go_ret
 exact ⟨dN (eZ x y), rfl⟩

theorem tW (x y : BitVec 64) (w : World) : Calls prog 111 #[.int .u64 (n64 x), .int .u64 (n64 y)] w fun e w' => e = .returned (.int .u64 (n64 (x &&& y))) ∧ w' = w := by
 go_enter func111, ntmps111
 go_wp2
 go_ret
 exact ⟨dN (bY x y), rfl⟩

theorem zZ (x y : BitVec 64) (w : World) : Calls prog 112 #[.int .u64 (n64 x), .int .u64 (n64 y)] w fun e w' => e = .returned (.int .u64 (n64 (x ||| y))) ∧ w' = w := by
 go_enter func112, ntmps112
 go_wp2
 go_ret
 exact ⟨dN (iE x y), rfl⟩

theorem vF (x y : BitVec 64) (w : World) : Calls prog 110 #[.int .u64 (n64 x), .int .u64 (n64 y)] w fun e w' => e = .returned (.int .u64 (n64 (x ^^^ y))) ∧ w' = w := by
 go_enter func110, ntmps110
 go_wp2
 go_ret
 exact ⟨dN (uP x y), rfl⟩

theorem xR (x : BitVec 64) (w : World) : Calls prog 80 #[.int .u64 (n64 x)] w fun e w' => e = .returned (.int .u64 (n64 (wid x))) ∧ w' = w := by
 go_enter func80, ntmps80
 go_wp2
 go_ret
 exact ⟨dN (EW x), rfl⟩
/-! Compute and op at each number -/
/-! live: a few answers that must come -/
def bt (N i : Nat) : Int := ((N / 2 ^ i % 2 : Nat) : Int)
def bl (N n : Nat) : List Int := (List.range n).map (bt N)
theorem bH (N n : Nat) : (bl N n).length = n := by simp [bl]
theorem DN (N n : Nat) : bl N (n + 1) = bl N n ++ [bt N n] := by simp [bl, List.range_succ]
theorem fL (N n j : Nat) (h : j < n) : (bl N n).getD j 0 = bt N j := by
 simp [bl, h]

def Lst (w : World) (v : Value) (l : List Int) : Prop :=
 ∃ g off cap, v = .slice (some ⟨g, off, none⟩) l.length cap ∧ l.length ≤ cap ∧ g < w.heap.size ∧ ∀ j, j < l.length → w.cell? ⟨g, off + j, none⟩ = some (.int .i64 (l.getD j 0))
theorem Lst.later {w w' : World} {v : Value} {l : List Int} (h : Lst w v l) (hb : Below w.heap.size w w') : Lst w' v l := by
 obtain ⟨g, off, cap, rfl, h1, h2, h3⟩ := h
 exact ⟨g, off, cap, rfl, h1, Nat.lt_of_lt_of_le h2 hb.size, fun j hj => by rw [hb.cell (by exact h2)]; exact h3 j hj⟩
theorem xZ (g j : Nat) : (⟨g, 0, none⟩ : Addr).add j = ⟨g, 0 + j, none⟩ := by unfold Addr.add; split <;> simp_all
theorem Lst.of_own {w : World} {B : Nat} {e : TypeId} {v : Value} {l : List Int} (h : w.ownsRow B e 1 v l.length (l.map (Value.int .i64))) (hl : 0 < l.length) : Lst w v l := by
 have hlt := h.lt
 have h0 := h
 obtain ⟨_, h | ⟨g, cap, cur, rfl, hg, hh, hn, hm, hs, ht⟩⟩ := h
 ·omega
 ·refine ⟨g, 0, cap, rfl, hn, (hlt g rfl).2, fun j hj => ?_⟩
  have := h0.cells (g := g) rfl j (.int .i64 (l.getD j 0)) (by simp [hj])
  rw [xZ] at this; exact this

theorem SP : (prog.info? 3).map (fun i => (i.zero, i.size, i.bytes)) = some (some (.int .i64 0), 1, 8) := by kernel_rfl

theorem nE {ops : Array Oper} {rest : List Oper} {o : Oper} {a : Act} {w : World} {Q : Exit → Act → World → Prop} (hgd : o.guard = none) (s x : Operand) (ho : o.op = .call { callee := .builtin .append, args := #[s, x], argTypes := #[165, 165] })
  (B : Nat) (v : Value) (l : List Int) (b : Int) (hs : a.eval s = v) (hown : w.ownsRow B 3 1 v l.length (l.map (Value.int .i64))) (hx : a.eval x = .slice (some ⟨w.heap.size, 0, none⟩) 1 1) (hl : l.length ≤ 1000) (hB : B ≤ w.heap.size)
  (h : ∀ v' w', w'.ownsRow B 3 1 v' (l ++ [b]).length ((l ++ [b]).map (Value.int .i64)) → Below B w w' → wpList prog ops Q rest (a.put o.dst v') w') :
  wpList prog ops Q (o :: rest) a (w.alloc (.cells #[.int .i64 b] 3)) := by
 obtain ⟨i0, hi, hz0, hz1, hz2⟩ := info_parts SP
 refine wpList_append_own _ hgd s x 165 ho B 3 i0 (.int .i64 0) 1 8 underlying165 hi hz0 hz1 hz2 rfl (by decide) v l.length (l.map (Value.int .i64)) hs (hown.alloc _) ⟨w.heap.size, 0, none⟩ 1 1 [.int .i64 b] hx rfl ?_ ?_ (by unfold maxLen; omega) (by omega) (by simp; omega) ?_
 ·intro j u hj
  match j, hj with
  | 0, hj => simp at hj; subst hj; simp [Addr.add]
 ·intro u hu; simp at hu; subst hu; rfl
 ·intro v' w' h1 h2 _
  refine h v' w' ?_ ?_
  ·simpa using h1
  ·exact ((Below.refl _ _).alloc hB _).grown h2 (by simp; omega) (fun k hk => (hown.lt k hk).1)

theorem DM (x : BitVec 64) (k : Nat) : bits .and .u64 (n64 x / 2 ^ k) 1 = bt x.toNat k := by
 rw [gR]
 have h := bY (x >>> k) 1#64
 rw [show n64 1#64 = 1 from rfl] at h
 rw [h]; unfold n64
 rw [BitVec.toNat_and, BitVec.toNat_ushiftRight, Nat.shiftRight_eq_div_pow]
 show ((x.toNat / 2 ^ k &&& 1 : Nat) : Int) = _
 rw [Nat.and_one_is_mod]; rfl
theorem qB (N k : Nat) : bt N k = 0 ∨ bt N k = 1 := by unfold bt; omega

theorem oE (x : BitVec 64) (n : Nat) (hn0 : 0 < n) (hn : n ≤ 64) (w : World) :
  Calls prog 95 #[.int .u64 (n64 x), .int .i64 (n : Int)] w fun e w' => ∃ v, e = .returned v ∧ Lst w' v (bl x.toNat n) ∧ Below w.heap.size w w' := by
 obtain ⟨B, hB⟩ : ∃ B, B = w.heap.size := ⟨_, rfl⟩
 have hx0 := bB x
 go_enter func95, ntmps95
 go_wp2
 go_loopw [5, 6] (fun v i wr => ∃ k : Nat, k ≤ n ∧ i = .int .i64 k ∧ wr.ownsRow B 3 1 v (bl x.toNat k).length ((bl x.toNat k).map (Value.int .i64)) ∧ Below B w wr ∧ B ≤ wr.heap.size) (fun _ i _ => n - (intOf i).toNat)
 case atStart => exact ⟨0, Nat.zero_le _, rfl, World.ownsRow_nil _ _ _ _, Below.refl _ _, by omega⟩
 case round =>
  obtain ⟨k, hk, rfl, hown, hbel, hsz⟩ := hrel
  have H := hid hB
  have Hb := hid hbel
  have Ho := hid hown
  clear hB hbel hown
  by_cases hlt : k < n
  ·have h64 : (k : Int) < 64 := by omega
   have hl2 : (k : Int) < (n : Int) := by omega
   have hlen : (bl x.toNat k).length ≤ 1000 := by rw [bH]; omega
   have hb := DM x k
   have hs := DN x.toNat k
   rcases qB x.toNat k with h0 | h0
   ·rw [h0] at hb hs
    have t0 : (bits .and .u64 (n64 x / 2 ^ k) 1 == 1) = false := by rw [hb]; rfl
    have HS : Hid (bl x.toNat (k + 1) = bl x.toNat k ++ [0]) := hs
    clear hb hs h0
    go_wp2_with (at_builtin; refine nE (by rfl) _ _ (by rfl) B _ (bl x.toNat k) 0 (by rfl) Ho.out (by rfl) hlen hsz ?_; intro v' w1 hown1 hbel1)
    have R1 := HS.out ▸ hown1
    have R2 := Hb.out.trans hbel1
    clear hown1 hbel1
    have HR1 : Hid (w1.ownsRow B 3 1 v' (bl x.toNat (k + 1)).length ((bl x.toNat (k + 1)).map (Value.int .i64))) := R1
    have HR2 : Hid (Below B w w1) := R2
    clear R1 R2
    go_wp2
    go_roundw
    case rel => exact ⟨k + 1, by omega, by go_num, HR1.out, HR2.out, Nat.le_trans (by rw [H.out]; exact Nat.le_refl _) HR2.out.size⟩
    case measure => simp [intOf]; omega
   ·rw [h0] at hb hs
    have t0 : (bits .and .u64 (n64 x / 2 ^ k) 1 == 1) = true := by rw [hb]; rfl
    have HS : Hid (bl x.toNat (k + 1) = bl x.toNat k ++ [1]) := hs
    clear hb hs h0
    go_wp2_with (at_builtin; refine nE (by rfl) _ _ (by rfl) B _ (bl x.toNat k) 1 (by rfl) Ho.out (by rfl) hlen hsz ?_; intro v' w1 hown1 hbel1)
    have R1 := HS.out ▸ hown1
    have R2 := Hb.out.trans hbel1
    clear hown1 hbel1
    have HR1 : Hid (w1.ownsRow B 3 1 v' (bl x.toNat (k + 1)).length ((bl x.toNat (k + 1)).map (Value.int .i64))) := R1
    have HR2 : Hid (Below B w w1) := R2
    clear R1 R2
    go_wp2
    go_roundw
    case rel => exact ⟨k + 1, by omega, by go_num, HR1.out, HR2.out, Nat.le_trans (by rw [H.out]; exact Nat.le_refl _) HR2.out.size⟩
    case measure => simp [intOf]; omega
  ·have hl2 : (n : Int) ≤ (k : Int) := by omega
   have hkn : k = n := by omega
   subst hkn
   go_wp2
   go_ret
   exact ⟨_, rfl, Lst.of_own Ho.out (by rw [bH]; omega), H.out ▸ Hb.out⟩
theorem iP {a b : Bool} (h : a = b) : Ending.returned (.bool a) = .returned (.bool b) := by rw [h]
theorem CK (A m : Nat) : A / 2 ^ m = 2 * (A / 2 ^ (m + 1)) + A / 2 ^ m % 2 := by
 rw [Nat.pow_succ, ← Nat.div_div_eq_div_mul]; omega
theorem iD (A B n : Nat) (hn0 : 0 < n) (hn : n ≤ 200) (hA : A < 2 ^ n) (hB : B < 2 ^ n) (va vb : Value) (w : World) (la : Lst w va (bl A n)) (lb : Lst w vb (bl B n)) :
  Calls prog 124 #[va, vb] w fun e w' => e = .returned (.bool (decide (A < B))) ∧ Below w.heap.size w w' := by
 obtain ⟨g, off, cap, rfl, h1, h2, h3⟩ := la
 obtain ⟨g', off', cap', rfl, h1', h2', h3'⟩ := lb
 rw [bH] at h1 h1' h3 h3'
 rw [bH, bH]
 go_enter func124, ntmps124
 go_wp2
 go_loopw [5] (fun i wr => ∃ k : Nat, k ≤ n ∧ i = .int .i64 ((k : Int) - 1) ∧ Hid (A / 2 ^ k = B / 2 ^ k) ∧ ∃ q, wr = w.drewN q) (fun i _ => (intOf i + 1).toNat)
 case atStart => exact ⟨n, Nat.le_refl _, rfl, by show A / 2 ^ n = B / 2 ^ n; rw [Nat.div_eq_of_lt hA, Nat.div_eq_of_lt hB], 0, rfl⟩
 case round =>
  obtain ⟨k, hk, rfl, hh, q, rfl⟩ := hrel
  match k, hk, hh with
  | 0, hk, hh =>
   have hab : Hid (decide (A < B) = false) := by
    have := hh.out; simp at this; show decide (A < B) = false; simp; omega
   clear hh
   go_wp2
   go_ret
   exact ⟨iP hab.out.symm, below_drewN (Below.refl _ _) _⟩
  | m + 1, hk, hh =>
   rw [show (((m + 1 : Nat) : Int) - 1) = (m : Int) from by omega]
   have ha := h3 m (by omega)
   have hb := h3' m (by omega)
   rw [fL _ _ _ (by omega)] at ha hb
   have hl1 : (0 : Int) ≤ (m : Int) := by omega
   have hl2 : (m : Int) < (n : Int) := by omega
   have ua := CK A m
   have ub := CK B m
   rw [hh.out] at ua
   clear h3 h3' hh
   by_cases e : A / 2 ^ m % 2 = B / 2 ^ m % 2
   ·have t0 : (bt A m != bt B m) = false := by unfold bt; rw [e]; simp
    have hn' : Hid (A / 2 ^ m = B / 2 ^ m) := by show A / 2 ^ m = B / 2 ^ m; omega
    clear ua ub e
    go_wp2_with fail
    go_quiet (fail)
    go_wp2
    go_roundw
    case rel => exact ⟨m, by omega, by go_num, hn', _, rfl⟩
    case measure => simp [intOf]
   ·have t0 : (bt A m != bt B m) = true := by unfold bt; simp only [bne_iff_ne, ne_eq]; omega
    have hr : Hid (decide (bt A m < bt B m) = decide (A < B)) := by
     show decide (bt A m < bt B m) = decide (A < B)
     unfold bt
     rcases Nat.lt_or_ge A B with h | h
     ·have := Nat.div_le_div_right (c := 2 ^ m) (Nat.le_of_lt h)
      rw [decide_eq_true h, decide_eq_true (by omega)]
     ·have := Nat.div_le_div_right (c := 2 ^ m) h
      rw [decide_eq_false (by omega), decide_eq_false (by omega)]
    clear ua ub e
    go_wp2_with fail
    go_quiet (fail)
    go_wp2_with fail
    go_quiet (fail)
    go_wp2
    go_ret
    exact ⟨iP hr.out, below_drewN (below_drewN (below_drewN (Below.refl _ _) _) _) _⟩

def dK (n A : Nat) : Int := if A / 2 ^ (n - 1) % 2 = 1 then (A : Int) - (2 ^ n : Nat) else (A : Int)
theorem GQ {A B n : Nat} (hA : A < 2 ^ n) (hB : B < 2 ^ n) :
  (A / 2 ^ (n - 1) % 2 = B / 2 ^ (n - 1) % 2 → decide (dK n A < dK n B) = decide (A < B)) ∧ (A / 2 ^ (n - 1) % 2 ≠ B / 2 ^ (n - 1) % 2 → decide (dK n A < dK n B) = decide (bt B (n - 1) < bt A (n - 1))) := by
 unfold dK bt
 refine ⟨fun h => ?_, fun h => ?_⟩
 ·rw [h]; congr 1; apply propext; split <;> omega
 ·congr 1; apply propext
  split
  ·split
   ·omega
   ·constructor <;> intro _ <;> omega
  ·split
   ·constructor
    ·intro _; omega
    ·intro _; omega
   ·omega
theorem eO (A B n : Nat) (hn0 : 0 < n) (hn : n ≤ 200) (hA : A < 2 ^ n) (hB : B < 2 ^ n) (va vb : Value) (w : World) (la : Lst w va (bl A n)) (lb : Lst w vb (bl B n)) :
  Calls prog 123 #[va, vb] w fun e w' => e = .returned (.bool (decide (dK n A < dK n B))) ∧ Below w.heap.size w w' := by
 have la0 := la
 have lb0 := lb
 obtain ⟨g, off, cap, rfl, h1, h2, h3⟩ := la
 obtain ⟨g', off', cap', rfl, h1', h2', h3'⟩ := lb
 have hs := GQ hA hB
 obtain ⟨m, rfl⟩ : ∃ m, n = m + 1 := ⟨n - 1, by omega⟩
 rw [bH] at h1 h1' h3 h3'
 have ha := h3 m (by omega)
 have hb := h3' m (by omega)
 rw [fL _ _ _ (by omega)] at ha hb
 rw [Nat.add_sub_cancel] at hs
 clear h3 h3'
 rw [bH, bH] at *
 have hl1 : (0 : Int) ≤ (m : Int) := by omega
 have Hla : Hid (Lst w (.slice (some ⟨g, off, none⟩) (m + 1) cap) (bl A (m + 1))) := la0
 have Hlb : Hid (Lst w (.slice (some ⟨g', off', none⟩) (m + 1) cap') (bl B (m + 1))) := lb0
 clear la0 lb0
 by_cases e : A / 2 ^ m % 2 = B / 2 ^ m % 2
 ·have t0 : (bt A m != bt B m) = false := by unfold bt; rw [e]; simp
  have hr : Hid (decide (dK (m + 1) A < dK (m + 1) B) = decide (A < B)) := hs.1 e
  clear hs e
  go_enter func123, ntmps123
  go_wp2_with fail
  go_quiet (fail)
  go_wp2_with fail
  refine (iD A B (m + 1) (by omega) (by omega) hA hB _ _ _ (Hla.out.later (below_drewN (Below.refl _ _) _)) (Hlb.out.later (below_drewN (Below.refl _ _) _))).mono ?_
  rintro e w' ⟨rfl, hbel⟩
  have HB := hid hbel
  clear hbel
  go_wp2
  go_ret
  exact ⟨iP hr.out.symm, (below_drewN (Below.refl _ _) _).trans HB.out⟩
 ·have t0 : (bt A m != bt B m) = true := by unfold bt; simp only [bne_iff_ne, ne_eq]; omega
  have hr : Hid (decide (dK (m + 1) A < dK (m + 1) B) = decide (bt B m < bt A m)) := hs.2 e
  clear hs e
  go_enter func123, ntmps123
  go_wp2_with fail
  go_quiet (fail)
  go_wp2_with fail
  go_quiet (fail)
  go_wp2
  go_ret
  exact ⟨iP hr.out.symm, below_drewN (below_drewN (Below.refl _ _) _) _⟩
def mk (f : Nat → Int) (n : Nat) : List Int := (List.range n).map f
theorem eJ (f : Nat → Int) (n : Nat) : (mk f n).length = n := by simp [mk]
theorem ER (f : Nat → Int) (n : Nat) : mk f (n + 1) = mk f n ++ [f n] := by simp [mk, List.range_succ]
theorem qY {f g : Nat → Int} {n : Nat} (h : ∀ j, j < n → f j = g j) : mk f n = mk g n := by
 unfold mk; apply List.map_congr_left; intro j hj; exact h j (List.mem_range.1 hj)
theorem kP (N k : Nat) : 0 ≤ bt N k := by unfold bt; omega
theorem kO (N k : Nat) : bt N k ≤ 1 := by unfold bt; omega

def jv (A k : Nat) : BitVec 64 := BitVec.ofNat 64 (A % 2 ^ k)
theorem EF {A k : Nat} (h : bt A k = 0) : jv A (k + 1) = jv A k := by
 unfold jv; rw [Nat.mod_pow_succ]; unfold bt at h
 rw [show A / 2 ^ k % 2 = 0 by omega]; simp
theorem MB {A k : Nat} (h : bt A k = 1) : jv A (k + 1) = jv A k + (1#64 <<< k) := by
 unfold jv; rw [Nat.mod_pow_succ]; unfold bt at h
 rw [show A / 2 ^ k % 2 = 1 by omega, Nat.mul_one, BitVec.ofNat_add]
 congr 1
 apply BitVec.eq_of_toNat_eq
 rw [BitVec.toNat_shiftLeft, Nat.shiftLeft_eq, BitVec.toNat_ofNat]
 show _ = 1 * 2 ^ k % 2 ^ 64
 rw [Nat.one_mul]
theorem wN (n : Nat) : IntKind.u64.wrap (2 ^ n) = n64 (1#64 <<< n) := by
 have h := gQ 1#64 n
 rw [show n64 1#64 = 1 from rfl, Int.one_mul] at h
 exact h

theorem qR (A n : Nat) (hn : n ≤ 64) (va : Value) (w : World) (la : Lst w va (bl A n)) :
  Calls prog 96 #[va] w fun e w' => e = .returned (.int .u64 (n64 (jv A n))) ∧ w' = w := by
 obtain ⟨g, off, cap, rfl, h1, h2, h3⟩ := la
 rw [bH] at h1 h3
 rw [bH]
 have rw1 := wN
 have rw2 := eZ
 go_enter func96, ntmps96
 go_wp2
 go_loop [3, 4] (fun v i => ∃ k : Nat, k ≤ n ∧ i = .int .i64 k ∧ v = .int .u64 (n64 (jv A k))) (fun _ i => n - (intOf i).toNat)
 case atStart => exact ⟨0, Nat.zero_le _, rfl, by unfold jv; simp [Nat.mod_one]; rfl⟩
 case round =>
  obtain ⟨k, hk, rfl, rfl⟩ := hrel
  by_cases hlt : k < n
  ·have ha := h3 k hlt
   rw [fL _ _ _ hlt] at ha
   have hl1 : (0 : Int) ≤ (k : Int) := by omega
   have hl2 : (k : Int) < (n : Int) := by omega
   have hl3 : (k : Int) < 64 := by omega
   clear h3
   rcases qB A k with h0 | h0
   ·have HJ : Hid (jv A (k + 1) = jv A k) := EF h0
    rw [h0] at ha
    clear h0
    go_wp2
    go_round
    case rel => exact ⟨k + 1, by omega, by go_num, by rw [HJ.out]⟩
    case measure => simp [intOf]; omega
   ·have HJ : Hid (jv A (k + 1) = jv A k + (1#64 <<< k)) := MB h0
    rw [h0] at ha
    clear h0
    go_wp2
    go_round
    case rel => exact ⟨k + 1, by omega, by go_num, by rw [HJ.out]⟩
    case measure => simp [intOf]; omega
  ·have hl2 : (n : Int) ≤ (k : Int) := by omega
   have hkn : k = n := by omega
   subst hkn
   clear h3
   go_wp2
   go_ret
   exact ⟨rfl, rfl⟩
theorem cK (N k : Nat) : bt N k = if N.testBit k then 1 else 0 := by
 unfold bt; rw [Nat.testBit_eq_decide_div_mod_eq]
 rcases Nat.mod_two_eq_zero_or_one (N / 2 ^ k) with h | h <;> simp [h]
theorem RQ {M N k : Nat} (h : M.testBit k = N.testBit k) : bt M k = bt N k := by rw [cK, cK, h]
theorem JN (A n j : Nat) (h : j < n) : bt (A % 2 ^ n) j = bt A j := RQ (by rw [Nat.testBit_mod_two_pow]; simp [h])
theorem yF (A n : Nat) : bl (A % 2 ^ n) n = bl A n := qY (fun j hj => JN A n j hj)
def wdn (A n : Nat) : Nat := if A.testBit (n - 1) then 2 ^ n * (2 ^ (64 - n) - 1) + A % 2 ^ n else A % 2 ^ n
theorem vC (A n j : Nat) (hj : j < 64) : bt (wdn A n) j = if j < n then bt A j else bt A (n - 1) := by
 unfold wdn
 by_cases h : A.testBit (n - 1) = true
 ·rw [if_pos h, cK, Nat.testBit_two_pow_mul_add _ (Nat.mod_lt _ (Nat.two_pow_pos n))]
  by_cases hl : j < n
  ·rw [if_pos hl, if_pos hl, cK, Nat.testBit_mod_two_pow]; simp [hl]
  ·rw [if_neg hl, if_neg hl, cK, h, Nat.testBit_two_pow_sub_one]; simp; omega
 ·rw [if_neg h, cK, Nat.testBit_mod_two_pow]
  by_cases hl : j < n
  ·rw [if_pos hl, cK]; simp [hl]
  ·rw [if_neg hl, cK]; simp [hl, h]
theorem qS (N k : Nat) (hk : k ≤ 64) : (jv N k).toNat = N % 2 ^ k := by
 unfold jv; rw [BitVec.toNat_ofNat]
 exact Nat.mod_eq_of_lt (Nat.lt_of_lt_of_le (Nat.mod_lt _ (Nat.two_pow_pos k)) (Nat.pow_le_pow_right (by decide) hk))
theorem fW {w wr w1 : World} {B : Nat} {v' : Value} {f : Nat → Int} {k : Nat} {e : TypeId} {b : Int} (hf : f k = b) (hw : B = w.heap.size) (hb : Below B w wr) (h1 : w1.ownsRow B e 1 v' (mk f k ++ [b]).length ((mk f k ++ [b]).map (Value.int .i64))) (h2 : Below B wr w1) :
  w1.ownsRow B e 1 v' (mk f (k + 1)).length ((mk f (k + 1)).map (Value.int .i64)) ∧ Below B w w1 ∧ B ≤ w1.heap.size := by
 rw [ER, hf]; exact ⟨h1, hb.trans h2, by rw [hw]; exact (hb.trans h2).size⟩
def wf (A n : Nat) (t : Int) (j : Nat) : Int := if j < n then bt A j else t

theorem JD (A n m : Nat) (hn0 : 0 < n) (hm0 : 0 < m) (hn : n ≤ 200) (hm : m ≤ 200) (va : Value) (w : World) (la : Lst w va (bl A n)) :
  Calls prog 97 #[va, .int .i64 (m : Int), .bool false] w fun e w' => ∃ v, e = .returned v ∧ Lst w' v (mk (wf A n (0)) m) ∧ Below w.heap.size w w' := by
 obtain ⟨B, hB⟩ : ∃ B, B = w.heap.size := ⟨_, rfl⟩
 obtain ⟨g, off, cap, rfl, h1, h2, h3⟩ := la
 rw [bH] at h1 h3
 rw [bH]
 have htop := h3 (n - 1) (by omega)
 rw [fL _ _ _ (by omega)] at htop
 have hl0 : (0 : Int) < (n : Int) := by omega
 have hl9 : ((n : Int) - 1).toNat = n - 1 := by omega
 go_enter func97, ntmps97
 go_wp2
 clear htop hl9
 go_loopw [7, 9] (fun v i wr => ∃ k : Nat, k ≤ m ∧ i = .int .i64 k ∧ wr.ownsRow B 3 1 v (mk (wf A n (0)) k).length ((mk (wf A n (0)) k).map (Value.int .i64)) ∧ Below B w wr ∧ B ≤ wr.heap.size) (fun _ i _ => m - (intOf i).toNat)
 case atStart => exact ⟨0, Nat.zero_le _, rfl, World.ownsRow_nil _ _ _ _, Below.refl _ _, by omega⟩
 case round =>
  obtain ⟨k, hk, rfl, hown, hbel, hsz⟩ := hrel
  have H := hid hB
  have Hb := hid hbel
  have Ho := hid hown
  clear hB hbel hown
  by_cases hlt : k < m
  ·have hl1 : (0 : Int) ≤ (k : Int) := by omega
   have hl2 : (k : Int) < (m : Int) := by omega
   have hlen : (mk (wf A n (0)) k).length ≤ 1000 := by rw [eJ]; omega
   by_cases hin : k < n
   ·have ha := (Hb.out.cell (p := ⟨g, off + k, none⟩) (by rw [H.out]; exact h2)).trans (h3 k hin)
    rw [fL _ _ _ hin] at ha
    have hf : Hid (wf A n (0) k = bt A k) := by show wf A n _ k = bt A k; unfold wf; rw [if_pos hin]
    have hl3 : (k : Int) < (n : Int) := by omega
    clear h3
    go_wp2_with (at_builtin; refine nE (by rfl) _ _ (by rfl) B _ (mk (wf A n (0)) k) (bt A k) (by rfl) Ho.out (by rfl) hlen hsz ?_; intro v' w1 hown1 hbel1)
    have R := fW (f := wf A n (0)) hf.out H.out Hb.out hown1 hbel1
    have HR := Hid.out (p := Hid _) (show Hid (Hid _) from R)
    clear hown1 hbel1 R
    go_wp2
    go_roundw
    case rel => exact ⟨k + 1, by omega, by go_num, HR.out.1, HR.out.2.1, HR.out.2.2⟩
    case measure => simp [intOf]; omega
   ·have hf : Hid (wf A n (0) k = 0) := by show wf A n _ k = _; unfold wf; rw [if_neg hin]
    have hl3 : (n : Int) ≤ (k : Int) := by omega
    clear h3
    go_wp2_with (at_builtin; refine nE (by rfl) _ _ (by rfl) B _ (mk (wf A n (0)) k) (0) (by rfl) Ho.out (by rfl) hlen hsz ?_; intro v' w1 hown1 hbel1)
    have R := fW (f := wf A n (0)) hf.out H.out Hb.out hown1 hbel1
    have HR := Hid.out (p := Hid _) (show Hid (Hid _) from R)
    clear hown1 hbel1 R
    go_wp2
    go_roundw
    case rel => exact ⟨k + 1, by omega, by go_num, HR.out.1, HR.out.2.1, HR.out.2.2⟩
    case measure => simp [intOf]; omega
  ·have hl2 : (m : Int) ≤ (k : Int) := by omega
   have hkn : k = m := by omega
   subst hkn
   clear h3
   go_wp2
   go_ret
   exact ⟨_, rfl, Lst.of_own Ho.out (by rw [eJ]; omega), H.out ▸ Hb.out⟩

theorem tJ (A n m : Nat) (hn0 : 0 < n) (hm0 : 0 < m) (hn : n ≤ 200) (hm : m ≤ 200) (va : Value) (w : World) (la : Lst w va (bl A n)) :
  Calls prog 97 #[va, .int .i64 (m : Int), .bool true] w fun e w' => ∃ v, e = .returned v ∧ Lst w' v (mk (wf A n (bt A (n - 1))) m) ∧ Below w.heap.size w w' := by
 obtain ⟨B, hB⟩ : ∃ B, B = w.heap.size := ⟨_, rfl⟩
 obtain ⟨g, off, cap, rfl, h1, h2, h3⟩ := la
 rw [bH] at h1 h3
 rw [bH]
 have htop := h3 (n - 1) (by omega)
 rw [fL _ _ _ (by omega)] at htop
 have hl0 : (0 : Int) < (n : Int) := by omega
 have hl9 : ((n : Int) - 1).toNat = n - 1 := by omega
 go_enter func97, ntmps97
 go_wp2
 clear htop hl9
 go_loopw [7, 9] (fun v i wr => ∃ k : Nat, k ≤ m ∧ i = .int .i64 k ∧ wr.ownsRow B 3 1 v (mk (wf A n (bt A (n - 1))) k).length ((mk (wf A n (bt A (n - 1))) k).map (Value.int .i64)) ∧ Below B w wr ∧ B ≤ wr.heap.size) (fun _ i _ => m - (intOf i).toNat)
 case atStart => exact ⟨0, Nat.zero_le _, rfl, World.ownsRow_nil _ _ _ _, Below.refl _ _, by omega⟩
 case round =>
  obtain ⟨k, hk, rfl, hown, hbel, hsz⟩ := hrel
  have H := hid hB
  have Hb := hid hbel
  have Ho := hid hown
  clear hB hbel hown
  by_cases hlt : k < m
  ·have hl1 : (0 : Int) ≤ (k : Int) := by omega
   have hl2 : (k : Int) < (m : Int) := by omega
   have hlen : (mk (wf A n (bt A (n - 1))) k).length ≤ 1000 := by rw [eJ]; omega
   by_cases hin : k < n
   ·have ha := (Hb.out.cell (p := ⟨g, off + k, none⟩) (by rw [H.out]; exact h2)).trans (h3 k hin)
    rw [fL _ _ _ hin] at ha
    have hf : Hid (wf A n (bt A (n - 1)) k = bt A k) := by show wf A n _ k = bt A k; unfold wf; rw [if_pos hin]
    have hl3 : (k : Int) < (n : Int) := by omega
    clear h3
    go_wp2_with (at_builtin; refine nE (by rfl) _ _ (by rfl) B _ (mk (wf A n (bt A (n - 1))) k) (bt A k) (by rfl) Ho.out (by rfl) hlen hsz ?_; intro v' w1 hown1 hbel1)
    have R := fW (f := wf A n (bt A (n - 1))) hf.out H.out Hb.out hown1 hbel1
    have HR := Hid.out (p := Hid _) (show Hid (Hid _) from R)
    clear hown1 hbel1 R
    go_wp2
    go_roundw
    case rel => exact ⟨k + 1, by omega, by go_num, HR.out.1, HR.out.2.1, HR.out.2.2⟩
    case measure => simp [intOf]; omega
   ·have hf : Hid (wf A n (bt A (n - 1)) k = bt A (n - 1)) := by show wf A n _ k = _; unfold wf; rw [if_neg hin]
    have hl3 : (n : Int) ≤ (k : Int) := by omega
    clear h3
    go_wp2_with (at_builtin; refine nE (by rfl) _ _ (by rfl) B _ (mk (wf A n (bt A (n - 1))) k) (bt A (n - 1)) (by rfl) Ho.out (by rfl) hlen hsz ?_; intro v' w1 hown1 hbel1)
    have R := fW (f := wf A n (bt A (n - 1))) hf.out H.out Hb.out hown1 hbel1
    have HR := Hid.out (p := Hid _) (show Hid (Hid _) from R)
    clear hown1 hbel1 R
    go_wp2
    go_roundw
    case rel => exact ⟨k + 1, by omega, by go_num, HR.out.1, HR.out.2.1, HR.out.2.2⟩
    case measure => simp [intOf]; omega
  ·have hl2 : (m : Int) ≤ (k : Int) := by omega
   have hkn : k = m := by omega
   subst hkn
   clear h3
   go_wp2
   go_ret
   exact ⟨_, rfl, Lst.of_own Ho.out (by rw [eJ]; omega), H.out ▸ Hb.out⟩

def cy (A B c k : Nat) : Int := (((A % 2 ^ k + B % 2 ^ k + c) / 2 ^ k : Nat) : Int)
theorem RU (A B c k : Nat) (hc : c ≤ 1) : cy A B c k ≤ 1 := by
 unfold cy
 have h1 := Nat.mod_lt A (Nat.two_pow_pos k)
 have h2 := Nat.mod_lt B (Nat.two_pow_pos k)
 have h3 : (A % 2 ^ k + B % 2 ^ k + c) / 2 ^ k < 2 := by rw [Nat.div_lt_iff_lt_mul (Nat.two_pow_pos k)]; omega
 omega
theorem RV (A B c k : Nat) : 0 ≤ cy A B c k := Int.natCast_nonneg _
theorem wP (A B c k : Nat) : ∃ s : Nat, bt A k + bt B k + cy A B c k = s ∧ ((s % 2 : Nat) : Int) = bt (A + B + c) k ∧ ((s / 2 : Nat) : Int) = cy A B c (k + 1) := by
 refine ⟨A / 2 ^ k % 2 + B / 2 ^ k % 2 + (A % 2 ^ k + B % 2 ^ k + c) / 2 ^ k, by unfold bt cy; omega, ?_, ?_⟩
 ·unfold bt
  have h : (A + B + c) / 2 ^ k = A / 2 ^ k + B / 2 ^ k + (A % 2 ^ k + B % 2 ^ k + c) / 2 ^ k := by
   have ha := Nat.div_add_mod A (2 ^ k); have hb := Nat.div_add_mod B (2 ^ k)
   have : A + B + c = (A % 2 ^ k + B % 2 ^ k + c) + 2 ^ k * (A / 2 ^ k + B / 2 ^ k) := by rw [Nat.mul_add]; omega
   rw [this, Nat.add_mul_div_left _ _ (Nat.two_pow_pos k)]; omega
  rw [h]; omega
 ·unfold cy
  have h : (A % 2 ^ (k + 1) + B % 2 ^ (k + 1) + c) / 2 ^ k = A / 2 ^ k % 2 + B / 2 ^ k % 2 + (A % 2 ^ k + B % 2 ^ k + c) / 2 ^ k := by
   rw [Nat.mod_pow_succ, Nat.mod_pow_succ]
   have : A % 2 ^ k + 2 ^ k * (A / 2 ^ k % 2) + (B % 2 ^ k + 2 ^ k * (B / 2 ^ k % 2)) + c = (A % 2 ^ k + B % 2 ^ k + c) + 2 ^ k * (A / 2 ^ k % 2 + B / 2 ^ k % 2) := by rw [Nat.mul_add]; omega
   rw [this, Nat.add_mul_div_left _ _ (Nat.two_pow_pos k)]; omega
  rw [Nat.pow_succ, ← Nat.div_div_eq_div_mul, ← Nat.pow_succ, h]

theorem AG (A Bn c n : Nat) (hn0 : 0 < n) (hn : n ≤ 200) (hc : c ≤ 1) (va vb : Value) (w : World) (la : Lst w va (bl A n)) (lb : Lst w vb (bl Bn n)) :
  Calls prog 121 #[va, vb, .int .i64 (c : Int)] w fun e w' => ∃ v, e = .returned v ∧ Lst w' v (bl (A + Bn + c) n) ∧ Below w.heap.size w w' := by
 obtain ⟨B, hB⟩ : ∃ B, B = w.heap.size := ⟨_, rfl⟩
 obtain ⟨g, off, cap, rfl, h1, h2, h3⟩ := la
 obtain ⟨g', off', cap', rfl, h1', h2', h3'⟩ := lb
 rw [bH] at h1 h3 h1' h3'
 rw [bH, bH]
 go_enter func121, ntmps121
 go_wp2
 go_loopw [2, 7, 8] (fun q v i wr => ∃ k : Nat, k ≤ n ∧ i = .int .i64 k ∧ wr.ownsRow B 3 1 v (mk (bt (A + Bn + c)) k).length ((mk (bt (A + Bn + c)) k).map (Value.int .i64)) ∧ Below B w wr ∧ B ≤ wr.heap.size ∧ q = .int .i64 (cy A Bn c k)) (fun _ _ i _ => n - (intOf i).toNat)
 case atStart => exact ⟨0, Nat.zero_le _, rfl, World.ownsRow_nil _ _ _ _, Below.refl _ _, by omega, by unfold cy; simp [Nat.mod_one]⟩
 case round =>
  obtain ⟨k, hk, rfl, hown, hbel, hsz, rfl⟩ := hrel
  have H := hid hB
  have Hb := hid hbel
  have Ho := hid hown
  clear hB hbel hown
  by_cases hlt : k < n
  ·have hl1 : (0 : Int) ≤ (k : Int) := by omega
   have hl2 : (k : Int) < (n : Int) := by omega
   have hlen : (mk (bt (A + Bn + c)) k).length ≤ 1000 := by rw [eJ]; omega
   have ha := (Hb.out.cell (p := ⟨g, off + k, none⟩) (by rw [H.out]; exact h2)).trans (h3 k hlt)
   have hb := (Hb.out.cell (p := ⟨g', off' + k, none⟩) (by rw [H.out]; exact h2')).trans (h3' k hlt)
   rw [fL _ _ _ hlt] at ha hb
   obtain ⟨s, e1, e2, e3⟩ := wP A Bn c k
   have b1 := kP A k; have b2 := kO A k; have b3 := kP Bn k; have b4 := kO Bn k; have b5 := RV A Bn c k; have b6 := RU A Bn c k hc
   have r1 : (bt A k + bt Bn k + cy A Bn c k) % 2 = bt (A + Bn + c) k := by rw [e1, ← e2]; omega
   have r2 : (bt A k + bt Bn k + cy A Bn c k) / 2 = cy A Bn c (k + 1) := by rw [e1, ← e3]; omega
   clear h3 h3' e1 e2 e3
   go_wp2_with fail
   go_quiet (fail)
   have Ho2 : Hid ((wr.drewN nq).ownsRow B 3 1 u7 (mk (bt (A + Bn + c)) k).length ((mk (bt (A + Bn + c)) k).map (Value.int .i64))) := Ho.out
   have Hb2 : Hid (Below B w (wr.drewN nq)) := below_drewN Hb.out _
   have hsz2 : B ≤ (wr.drewN nq).heap.size := hsz
   clear Ho Hb hsz ha hb
   generalize wr.drewN nq = w0 at *
   go_wp2_with (at_builtin; refine nE (by rfl) _ _ (by rfl) B _ (mk (bt (A + Bn + c)) k) (bt (A + Bn + c) k) (by rfl) Ho2.out (by rfl) hlen hsz2 ?_; intro v' w1 hown1 hbel1)
   have R := fW (f := bt (A + Bn + c)) rfl H.out Hb2.out hown1 hbel1
   have HR := Hid.out (p := Hid _) (show Hid (Hid _) from R)
   clear hown1 hbel1 R
   go_wp2
   go_roundw
   case rel => exact ⟨k + 1, by omega, by go_num, HR.out.1, HR.out.2.1, HR.out.2.2, congrArg (Value.int .i64) r2⟩
   case measure => simp [intOf]; omega
  ·have hl2 : (n : Int) ≤ (k : Int) := by omega
   have hkn : k = n := by omega
   subst hkn
   clear h3 h3'
   go_wp2
   go_ret
   exact ⟨_, rfl, Lst.of_own (l := bl (A + Bn + c) k) Ho.out (by rw [bH]; omega), H.out ▸ Hb.out⟩
theorem JO (A B k : Nat) : (bt A k + bt B k) % 2 = bt (A ^^^ B) k := by
 rw [cK, cK, cK, Nat.testBit_xor]; cases A.testBit k <;> cases B.testBit k <;> rfl
theorem RR (A B k : Nat) : (bt A k + bt B k + 1) / 2 = bt (A ||| B) k := by
 rw [cK, cK, cK, Nat.testBit_or]; cases A.testBit k <;> cases B.testBit k <;> rfl
theorem JM (A B k : Nat) : (bt A k + bt B k) / 2 = bt (A &&& B) k := by
 rw [cK, cK, cK, Nat.testBit_and]; cases A.testBit k <;> cases B.testBit k <;> rfl

theorem pZ (A Bn n : Nat) (hn0 : 0 < n) (hn : n ≤ 200) (va vb : Value) (w : World) (la : Lst w va (bl A n)) (lb : Lst w vb (bl Bn n)) :
  Calls prog 122 #[.int .i64 40, va, vb] w fun e w' => ∃ v, e = .returned v ∧ Lst w' v (bl (A ^^^ Bn) n) ∧ Below w.heap.size w w' := by
 obtain ⟨B, hB⟩ : ∃ B, B = w.heap.size := ⟨_, rfl⟩
 obtain ⟨g, off, cap, rfl, h1, h2, h3⟩ := la
 obtain ⟨g', off', cap', rfl, h1', h2', h3'⟩ := lb
 rw [bH] at h1 h3 h1' h3'
 rw [bH, bH]
 go_enter func122, ntmps122
 go_wp2
 go_loopw [7, 8] (fun v i wr => ∃ k : Nat, k ≤ n ∧ i = .int .i64 k ∧ wr.ownsRow B 3 1 v (mk (bt (A ^^^ Bn)) k).length ((mk (bt (A ^^^ Bn)) k).map (Value.int .i64)) ∧ Below B w wr ∧ B ≤ wr.heap.size) (fun _ i _ => n - (intOf i).toNat)
 case atStart => exact ⟨0, Nat.zero_le _, rfl, World.ownsRow_nil _ _ _ _, Below.refl _ _, by omega⟩
 case round =>
  obtain ⟨k, hk, rfl, hown, hbel, hsz⟩ := hrel
  have H := hid hB
  have Hb := hid hbel
  have Ho := hid hown
  clear hB hbel hown
  by_cases hlt : k < n
  ·have hl1 : (0 : Int) ≤ (k : Int) := by omega
   have hl2 : (k : Int) < (n : Int) := by omega
   have hlen : (mk (bt (A ^^^ Bn)) k).length ≤ 1000 := by rw [eJ]; omega
   have ha := (Hb.out.cell (p := ⟨g, off + k, none⟩) (by rw [H.out]; exact h2)).trans (h3 k hlt)
   have hb := (Hb.out.cell (p := ⟨g', off' + k, none⟩) (by rw [H.out]; exact h2')).trans (h3' k hlt)
   rw [fL _ _ _ hlt] at ha hb
   have b1 := kP A k; have b2 := kO A k; have b3 := kP Bn k; have b4 := kO Bn k
   have r1 := JO A Bn k
   clear h3 h3'
   go_wp2_with fail
   go_quiet (fail)
   have Ho2 : Hid ((wr.drewN nq).ownsRow B 3 1 u7 (mk (bt (A ^^^ Bn)) k).length ((mk (bt (A ^^^ Bn)) k).map (Value.int .i64))) := Ho.out
   have Hb2 : Hid (Below B w (wr.drewN nq)) := below_drewN Hb.out _
   have hsz2 : B ≤ (wr.drewN nq).heap.size := hsz
   clear Ho Hb hsz ha hb
   generalize wr.drewN nq = w0 at *
   go_wp2_with (at_builtin; refine nE (by rfl) _ _ (by rfl) B _ (mk (bt (A ^^^ Bn)) k) (bt (A ^^^ Bn) k) (by rfl) Ho2.out (by rfl) hlen hsz2 ?_; intro v' w1 hown1 hbel1)
   have R := fW (f := bt (A ^^^ Bn)) rfl H.out Hb2.out hown1 hbel1
   have HR := Hid.out (p := Hid _) (show Hid (Hid _) from R)
   clear hown1 hbel1 R
   go_wp2
   go_roundw
   case rel => exact ⟨k + 1, by omega, by go_num, HR.out.1, HR.out.2.1, HR.out.2.2⟩
   case measure => simp [intOf]; omega
  ·have hl2 : (n : Int) ≤ (k : Int) := by omega
   have hkn : k = n := by omega
   subst hkn
   clear h3 h3'
   go_wp2
   go_ret
   exact ⟨_, rfl, Lst.of_own (l := bl (A ^^^ Bn) k) Ho.out (by rw [bH]; omega), H.out ▸ Hb.out⟩

theorem sC (A Bn n : Nat) (hn0 : 0 < n) (hn : n ≤ 200) (va vb : Value) (w : World) (la : Lst w va (bl A n)) (lb : Lst w vb (bl Bn n)) :
  Calls prog 122 #[.int .i64 43, va, vb] w fun e w' => ∃ v, e = .returned v ∧ Lst w' v (bl (A ||| Bn) n) ∧ Below w.heap.size w w' := by
 obtain ⟨B, hB⟩ : ∃ B, B = w.heap.size := ⟨_, rfl⟩
 obtain ⟨g, off, cap, rfl, h1, h2, h3⟩ := la
 obtain ⟨g', off', cap', rfl, h1', h2', h3'⟩ := lb
 rw [bH] at h1 h3 h1' h3'
 rw [bH, bH]
 go_enter func122, ntmps122
 go_wp2
 go_loopw [7, 8] (fun v i wr => ∃ k : Nat, k ≤ n ∧ i = .int .i64 k ∧ wr.ownsRow B 3 1 v (mk (bt (A ||| Bn)) k).length ((mk (bt (A ||| Bn)) k).map (Value.int .i64)) ∧ Below B w wr ∧ B ≤ wr.heap.size) (fun _ i _ => n - (intOf i).toNat)
 case atStart => exact ⟨0, Nat.zero_le _, rfl, World.ownsRow_nil _ _ _ _, Below.refl _ _, by omega⟩
 case round =>
  obtain ⟨k, hk, rfl, hown, hbel, hsz⟩ := hrel
  have H := hid hB
  have Hb := hid hbel
  have Ho := hid hown
  clear hB hbel hown
  by_cases hlt : k < n
  ·have hl1 : (0 : Int) ≤ (k : Int) := by omega
   have hl2 : (k : Int) < (n : Int) := by omega
   have hlen : (mk (bt (A ||| Bn)) k).length ≤ 1000 := by rw [eJ]; omega
   have ha := (Hb.out.cell (p := ⟨g, off + k, none⟩) (by rw [H.out]; exact h2)).trans (h3 k hlt)
   have hb := (Hb.out.cell (p := ⟨g', off' + k, none⟩) (by rw [H.out]; exact h2')).trans (h3' k hlt)
   rw [fL _ _ _ hlt] at ha hb
   have b1 := kP A k; have b2 := kO A k; have b3 := kP Bn k; have b4 := kO Bn k
   have r1 := RR A Bn k
   clear h3 h3'
   go_wp2_with fail
   go_quiet (fail)
   have Ho2 : Hid ((wr.drewN nq).ownsRow B 3 1 u7 (mk (bt (A ||| Bn)) k).length ((mk (bt (A ||| Bn)) k).map (Value.int .i64))) := Ho.out
   have Hb2 : Hid (Below B w (wr.drewN nq)) := below_drewN Hb.out _
   have hsz2 : B ≤ (wr.drewN nq).heap.size := hsz
   clear Ho Hb hsz ha hb
   generalize wr.drewN nq = w0 at *
   go_wp2_with (at_builtin; refine nE (by rfl) _ _ (by rfl) B _ (mk (bt (A ||| Bn)) k) (bt (A ||| Bn) k) (by rfl) Ho2.out (by rfl) hlen hsz2 ?_; intro v' w1 hown1 hbel1)
   have R := fW (f := bt (A ||| Bn)) rfl H.out Hb2.out hown1 hbel1
   have HR := Hid.out (p := Hid _) (show Hid (Hid _) from R)
   clear hown1 hbel1 R
   go_wp2
   go_roundw
   case rel => exact ⟨k + 1, by omega, by go_num, HR.out.1, HR.out.2.1, HR.out.2.2⟩
   case measure => simp [intOf]; omega
  ·have hl2 : (n : Int) ≤ (k : Int) := by omega
   have hkn : k = n := by omega
   subst hkn
   clear h3 h3'
   go_wp2
   go_ret
   exact ⟨_, rfl, Lst.of_own (l := bl (A ||| Bn) k) Ho.out (by rw [bH]; omega), H.out ▸ Hb.out⟩

theorem pY (A Bn n : Nat) (hn0 : 0 < n) (hn : n ≤ 200) (va vb : Value) (w : World) (la : Lst w va (bl A n)) (lb : Lst w vb (bl Bn n)) :
  Calls prog 122 #[.int .i64 44, va, vb] w fun e w' => ∃ v, e = .returned v ∧ Lst w' v (bl (A &&& Bn) n) ∧ Below w.heap.size w w' := by
 obtain ⟨B, hB⟩ : ∃ B, B = w.heap.size := ⟨_, rfl⟩
 obtain ⟨g, off, cap, rfl, h1, h2, h3⟩ := la
 obtain ⟨g', off', cap', rfl, h1', h2', h3'⟩ := lb
 rw [bH] at h1 h3 h1' h3'
 rw [bH, bH]
 go_enter func122, ntmps122
 go_wp2
 go_loopw [7, 8] (fun v i wr => ∃ k : Nat, k ≤ n ∧ i = .int .i64 k ∧ wr.ownsRow B 3 1 v (mk (bt (A &&& Bn)) k).length ((mk (bt (A &&& Bn)) k).map (Value.int .i64)) ∧ Below B w wr ∧ B ≤ wr.heap.size) (fun _ i _ => n - (intOf i).toNat)
 case atStart => exact ⟨0, Nat.zero_le _, rfl, World.ownsRow_nil _ _ _ _, Below.refl _ _, by omega⟩
 case round =>
  obtain ⟨k, hk, rfl, hown, hbel, hsz⟩ := hrel
  have H := hid hB
  have Hb := hid hbel
  have Ho := hid hown
  clear hB hbel hown
  by_cases hlt : k < n
  ·have hl1 : (0 : Int) ≤ (k : Int) := by omega
   have hl2 : (k : Int) < (n : Int) := by omega
   have hlen : (mk (bt (A &&& Bn)) k).length ≤ 1000 := by rw [eJ]; omega
   have ha := (Hb.out.cell (p := ⟨g, off + k, none⟩) (by rw [H.out]; exact h2)).trans (h3 k hlt)
   have hb := (Hb.out.cell (p := ⟨g', off' + k, none⟩) (by rw [H.out]; exact h2')).trans (h3' k hlt)
   rw [fL _ _ _ hlt] at ha hb
   have b1 := kP A k; have b2 := kO A k; have b3 := kP Bn k; have b4 := kO Bn k
   have r1 := JM A Bn k
   clear h3 h3'
   go_wp2_with fail
   go_quiet (fail)
   have Ho2 : Hid ((wr.drewN nq).ownsRow B 3 1 u7 (mk (bt (A &&& Bn)) k).length ((mk (bt (A &&& Bn)) k).map (Value.int .i64))) := Ho.out
   have Hb2 : Hid (Below B w (wr.drewN nq)) := below_drewN Hb.out _
   have hsz2 : B ≤ (wr.drewN nq).heap.size := hsz
   clear Ho Hb hsz ha hb
   generalize wr.drewN nq = w0 at *
   go_wp2_with (at_builtin; refine nE (by rfl) _ _ (by rfl) B _ (mk (bt (A &&& Bn)) k) (bt (A &&& Bn) k) (by rfl) Ho2.out (by rfl) hlen hsz2 ?_; intro v' w1 hown1 hbel1)
   have R := fW (f := bt (A &&& Bn)) rfl H.out Hb2.out hown1 hbel1
   have HR := Hid.out (p := Hid _) (show Hid (Hid _) from R)
   clear hown1 hbel1 R
   go_wp2
   go_roundw
   case rel => exact ⟨k + 1, by omega, by go_num, HR.out.1, HR.out.2.1, HR.out.2.2⟩
   case measure => simp [intOf]; omega
  ·have hl2 : (n : Int) ≤ (k : Int) := by omega
   have hkn : k = n := by omega
   subst hkn
   clear h3 h3'
   go_wp2
   go_ret
   exact ⟨_, rfl, Lst.of_own (l := bl (A &&& Bn) k) Ho.out (by rw [bH]; omega), H.out ▸ Hb.out⟩
def jT (c : Bool) (A B : Nat) : Nat := if c then B else A
def aR (i n A B : Nat) : Nat := match i with
 | 0 => B
 | 1 => A + B + 0
 | 2 => A ^^^ B
 | 3 => A &&& B
 | 4 => A ||| B
 | 5 => jT (decide (dK n B < dK n A)) A B
 | 6 => jT (decide (dK n A < dK n B)) A B
 | 7 => jT (decide (B < A)) A B
 | _ => jT (decide (A < B)) A B

set_option linter.unusedVariables false in
theorem ra_0 (A Bn n : Nat) (hn0 : 0 < n) (hn : n ≤ 200) (hA : A < 2 ^ n) (hBn : Bn < 2 ^ n) (va vb : Value) (w : World) (la : Lst w va (bl A n)) (lb : Lst w vb (bl Bn n)) :
  Calls prog 94 #[.int .i64 0, va, vb] w fun e w' => ∃ v, e = .returned v ∧ Lst w' v (bl (aR 0 n A Bn) n) ∧ Below w.heap.size w w' := by
 have La := hid la
 have Lb := hid lb
 clear la lb
 go_enter func94, ntmps94
 go_wp2
 go_ret
 exact ⟨_, rfl, Lb.out, Below.refl _ _⟩

set_option linter.unusedVariables false in
theorem ra_1 (A Bn n : Nat) (hn0 : 0 < n) (hn : n ≤ 200) (hA : A < 2 ^ n) (hBn : Bn < 2 ^ n) (va vb : Value) (w : World) (la : Lst w va (bl A n)) (lb : Lst w vb (bl Bn n)) :
  Calls prog 94 #[.int .i64 1, va, vb] w fun e w' => ∃ v, e = .returned v ∧ Lst w' v (bl (aR 1 n A Bn) n) ∧ Below w.heap.size w w' := by
 have La := hid la
 have Lb := hid lb
 clear la lb
 go_enter func94, ntmps94
 go_wp2_with fail
 refine (AG A Bn 0 n hn0 hn (by decide) va vb _ La.out Lb.out).mono ?_
 rintro e w1 ⟨v1, rfl, l1, b1⟩
 have L1 : Hid (Lst w1 v1 _) := l1
 have B1 := hid b1
 clear l1 b1
 go_wp2
 go_ret
 exact ⟨_, rfl, L1.out, B1.out⟩

set_option linter.unusedVariables false in
theorem ra_2 (A Bn n : Nat) (hn0 : 0 < n) (hn : n ≤ 200) (hA : A < 2 ^ n) (hBn : Bn < 2 ^ n) (va vb : Value) (w : World) (la : Lst w va (bl A n)) (lb : Lst w vb (bl Bn n)) :
  Calls prog 94 #[.int .i64 2, va, vb] w fun e w' => ∃ v, e = .returned v ∧ Lst w' v (bl (aR 2 n A Bn) n) ∧ Below w.heap.size w w' := by
 have La := hid la
 have Lb := hid lb
 clear la lb
 go_enter func94, ntmps94
 go_wp2_with fail
 refine (pZ A Bn n hn0 hn va vb _ La.out Lb.out).mono ?_
 rintro e w1 ⟨v1, rfl, l1, b1⟩
 have L1 : Hid (Lst w1 v1 _) := l1
 have B1 := hid b1
 clear l1 b1
 go_wp2
 go_ret
 exact ⟨_, rfl, L1.out, B1.out⟩

set_option linter.unusedVariables false in
theorem ra_3 (A Bn n : Nat) (hn0 : 0 < n) (hn : n ≤ 200) (hA : A < 2 ^ n) (hBn : Bn < 2 ^ n) (va vb : Value) (w : World) (la : Lst w va (bl A n)) (lb : Lst w vb (bl Bn n)) :
  Calls prog 94 #[.int .i64 3, va, vb] w fun e w' => ∃ v, e = .returned v ∧ Lst w' v (bl (aR 3 n A Bn) n) ∧ Below w.heap.size w w' := by
 have La := hid la
 have Lb := hid lb
 clear la lb
 go_enter func94, ntmps94
 go_wp2_with fail
 refine (pY A Bn n hn0 hn va vb _ La.out Lb.out).mono ?_
 rintro e w1 ⟨v1, rfl, l1, b1⟩
 have L1 : Hid (Lst w1 v1 _) := l1
 have B1 := hid b1
 clear l1 b1
 go_wp2
 go_ret
 exact ⟨_, rfl, L1.out, B1.out⟩

set_option linter.unusedVariables false in
theorem ra_4 (A Bn n : Nat) (hn0 : 0 < n) (hn : n ≤ 200) (hA : A < 2 ^ n) (hBn : Bn < 2 ^ n) (va vb : Value) (w : World) (la : Lst w va (bl A n)) (lb : Lst w vb (bl Bn n)) :
  Calls prog 94 #[.int .i64 4, va, vb] w fun e w' => ∃ v, e = .returned v ∧ Lst w' v (bl (aR 4 n A Bn) n) ∧ Below w.heap.size w w' := by
 have La := hid la
 have Lb := hid lb
 clear la lb
 go_enter func94, ntmps94
 go_wp2_with fail
 refine (sC A Bn n hn0 hn va vb _ La.out Lb.out).mono ?_
 rintro e w1 ⟨v1, rfl, l1, b1⟩
 have L1 : Hid (Lst w1 v1 _) := l1
 have B1 := hid b1
 clear l1 b1
 go_wp2
 go_ret
 exact ⟨_, rfl, L1.out, B1.out⟩

set_option linter.unusedVariables false in
theorem ra_5 (A Bn n : Nat) (hn0 : 0 < n) (hn : n ≤ 200) (hA : A < 2 ^ n) (hBn : Bn < 2 ^ n) (va vb : Value) (w : World) (la : Lst w va (bl A n)) (lb : Lst w vb (bl Bn n)) :
  Calls prog 94 #[.int .i64 5, va, vb] w fun e w' => ∃ v, e = .returned v ∧ Lst w' v (bl (aR 5 n A Bn) n) ∧ Below w.heap.size w w' := by
 have La := hid la
 have Lb := hid lb
 clear la lb
 by_cases hc : dK n Bn < dK n A
 ·have hr : aR 5 n A Bn = Bn := by show jT (decide (dK n Bn < dK n A)) A Bn = Bn; rw [decide_eq_true hc]; rfl
  have HR := hid hr
  have hd : decide (dK n Bn < dK n A) = true := decide_eq_true hc
  clear hr hc
  have hcall := eO Bn A n hn0 hn hBn hA vb va _ Lb.out La.out
  rw [hd] at hcall
  have HC : Hid (Calls prog 123 _ w fun e w' => e = .returned (.bool true) ∧ Below w.heap.size w w') := hcall
  clear hcall hd
  go_enter func94, ntmps94
  go_wp2_with fail
  refine HC.out.mono ?_
  rintro e w1 ⟨rfl, b1⟩
  have B1 := hid b1
  clear b1
  go_wp2
  go_ret
  exact ⟨_, rfl, by rw [HR.out]; exact Lb.out.later B1.out, B1.out⟩
 ·have hr : aR 5 n A Bn = A := by show jT (decide (dK n Bn < dK n A)) A Bn = A; rw [decide_eq_false hc]; rfl
  have HR := hid hr
  have hd : decide (dK n Bn < dK n A) = false := decide_eq_false hc
  clear hr hc
  have hcall := eO Bn A n hn0 hn hBn hA vb va _ Lb.out La.out
  rw [hd] at hcall
  have HC : Hid (Calls prog 123 _ w fun e w' => e = .returned (.bool false) ∧ Below w.heap.size w w') := hcall
  clear hcall hd
  go_enter func94, ntmps94
  go_wp2_with fail
  refine HC.out.mono ?_
  rintro e w1 ⟨rfl, b1⟩
  have B1 := hid b1
  clear b1
  go_wp2
  go_ret
  exact ⟨_, rfl, by rw [HR.out]; exact La.out.later B1.out, B1.out⟩

set_option linter.unusedVariables false in
theorem ra_6 (A Bn n : Nat) (hn0 : 0 < n) (hn : n ≤ 200) (hA : A < 2 ^ n) (hBn : Bn < 2 ^ n) (va vb : Value) (w : World) (la : Lst w va (bl A n)) (lb : Lst w vb (bl Bn n)) :
  Calls prog 94 #[.int .i64 6, va, vb] w fun e w' => ∃ v, e = .returned v ∧ Lst w' v (bl (aR 6 n A Bn) n) ∧ Below w.heap.size w w' := by
 have La := hid la
 have Lb := hid lb
 clear la lb
 by_cases hc : dK n A < dK n Bn
 ·have hr : aR 6 n A Bn = Bn := by show jT (decide (dK n A < dK n Bn)) A Bn = Bn; rw [decide_eq_true hc]; rfl
  have HR := hid hr
  have hd : decide (dK n A < dK n Bn) = true := decide_eq_true hc
  clear hr hc
  have hcall := eO A Bn n hn0 hn hA hBn va vb _ La.out Lb.out
  rw [hd] at hcall
  have HC : Hid (Calls prog 123 _ w fun e w' => e = .returned (.bool true) ∧ Below w.heap.size w w') := hcall
  clear hcall hd
  go_enter func94, ntmps94
  go_wp2_with fail
  refine HC.out.mono ?_
  rintro e w1 ⟨rfl, b1⟩
  have B1 := hid b1
  clear b1
  go_wp2
  go_ret
  exact ⟨_, rfl, by rw [HR.out]; exact Lb.out.later B1.out, B1.out⟩
 ·have hr : aR 6 n A Bn = A := by show jT (decide (dK n A < dK n Bn)) A Bn = A; rw [decide_eq_false hc]; rfl
  have HR := hid hr
  have hd : decide (dK n A < dK n Bn) = false := decide_eq_false hc
  clear hr hc
  have hcall := eO A Bn n hn0 hn hA hBn va vb _ La.out Lb.out
  rw [hd] at hcall
  have HC : Hid (Calls prog 123 _ w fun e w' => e = .returned (.bool false) ∧ Below w.heap.size w w') := hcall
  clear hcall hd
  go_enter func94, ntmps94
  go_wp2_with fail
  refine HC.out.mono ?_
  rintro e w1 ⟨rfl, b1⟩
  have B1 := hid b1
  clear b1
  go_wp2
  go_ret
  exact ⟨_, rfl, by rw [HR.out]; exact La.out.later B1.out, B1.out⟩

set_option linter.unusedVariables false in
theorem ra_7 (A Bn n : Nat) (hn0 : 0 < n) (hn : n ≤ 200) (hA : A < 2 ^ n) (hBn : Bn < 2 ^ n) (va vb : Value) (w : World) (la : Lst w va (bl A n)) (lb : Lst w vb (bl Bn n)) :
  Calls prog 94 #[.int .i64 7, va, vb] w fun e w' => ∃ v, e = .returned v ∧ Lst w' v (bl (aR 7 n A Bn) n) ∧ Below w.heap.size w w' := by
 have La := hid la
 have Lb := hid lb
 clear la lb
 by_cases hc : Bn < A
 ·have hr : aR 7 n A Bn = Bn := by show jT (decide (Bn < A)) A Bn = Bn; rw [decide_eq_true hc]; rfl
  have HR := hid hr
  have hd : decide (Bn < A) = true := decide_eq_true hc
  clear hr hc
  have hcall := iD Bn A n hn0 hn hBn hA vb va _ Lb.out La.out
  rw [hd] at hcall
  have HC : Hid (Calls prog 124 _ w fun e w' => e = .returned (.bool true) ∧ Below w.heap.size w w') := hcall
  clear hcall hd
  go_enter func94, ntmps94
  go_wp2_with fail
  refine HC.out.mono ?_
  rintro e w1 ⟨rfl, b1⟩
  have B1 := hid b1
  clear b1
  go_wp2
  go_ret
  exact ⟨_, rfl, by rw [HR.out]; exact Lb.out.later B1.out, B1.out⟩
 ·have hr : aR 7 n A Bn = A := by show jT (decide (Bn < A)) A Bn = A; rw [decide_eq_false hc]; rfl
  have HR := hid hr
  have hd : decide (Bn < A) = false := decide_eq_false hc
  clear hr hc
  have hcall := iD Bn A n hn0 hn hBn hA vb va _ Lb.out La.out
  rw [hd] at hcall
  have HC : Hid (Calls prog 124 _ w fun e w' => e = .returned (.bool false) ∧ Below w.heap.size w w') := hcall
  clear hcall hd
  go_enter func94, ntmps94
  go_wp2_with fail
  refine HC.out.mono ?_
  rintro e w1 ⟨rfl, b1⟩
  have B1 := hid b1
  clear b1
  go_wp2
  go_ret
  exact ⟨_, rfl, by rw [HR.out]; exact La.out.later B1.out, B1.out⟩

set_option linter.unusedVariables false in
theorem ra_8 (A Bn n : Nat) (hn0 : 0 < n) (hn : n ≤ 200) (hA : A < 2 ^ n) (hBn : Bn < 2 ^ n) (va vb : Value) (w : World) (la : Lst w va (bl A n)) (lb : Lst w vb (bl Bn n)) :
  Calls prog 94 #[.int .i64 8, va, vb] w fun e w' => ∃ v, e = .returned v ∧ Lst w' v (bl (aR 8 n A Bn) n) ∧ Below w.heap.size w w' := by
 have La := hid la
 have Lb := hid lb
 clear la lb
 by_cases hc : A < Bn
 ·have hr : aR 8 n A Bn = Bn := by show jT (decide (A < Bn)) A Bn = Bn; rw [decide_eq_true hc]; rfl
  have HR := hid hr
  have hd : decide (A < Bn) = true := decide_eq_true hc
  clear hr hc
  have hcall := iD A Bn n hn0 hn hA hBn va vb _ La.out Lb.out
  rw [hd] at hcall
  have HC : Hid (Calls prog 124 _ w fun e w' => e = .returned (.bool true) ∧ Below w.heap.size w w') := hcall
  clear hcall hd
  go_enter func94, ntmps94
  go_wp2_with fail
  refine HC.out.mono ?_
  rintro e w1 ⟨rfl, b1⟩
  have B1 := hid b1
  clear b1
  go_wp2
  go_ret
  exact ⟨_, rfl, by rw [HR.out]; exact Lb.out.later B1.out, B1.out⟩
 ·have hr : aR 8 n A Bn = A := by show jT (decide (A < Bn)) A Bn = A; rw [decide_eq_false hc]; rfl
  have HR := hid hr
  have hd : decide (A < Bn) = false := decide_eq_false hc
  clear hr hc
  have hcall := iD A Bn n hn0 hn hA hBn va vb _ La.out Lb.out
  rw [hd] at hcall
  have HC : Hid (Calls prog 124 _ w fun e w' => e = .returned (.bool false) ∧ Below w.heap.size w w') := hcall
  clear hcall hd
  go_enter func94, ntmps94
  go_wp2_with fail
  refine HC.out.mono ?_
  rintro e w1 ⟨rfl, b1⟩
  have B1 := hid b1
  clear b1
  go_wp2
  go_ret
  exact ⟨_, rfl, by rw [HR.out]; exact La.out.later B1.out, B1.out⟩

theorem AQ (i : Nat) (hi : i < 9) (A Bn n : Nat) (hn0 : 0 < n) (hn : n ≤ 200) (hA : A < 2 ^ n) (hBn : Bn < 2 ^ n) (va vb : Value) (w : World) (la : Lst w va (bl A n)) (lb : Lst w vb (bl Bn n)) :
  Calls prog 94 #[.int .i64 (i : Int), va, vb] w fun e w' => ∃ v, e = .returned v ∧ Lst w' v (bl (aR i n A Bn) n) ∧ Below w.heap.size w w' := by
 match i, hi with
 | 0, _ => exact ra_0 A Bn n hn0 hn hA hBn va vb w la lb
 | 1, _ => exact ra_1 A Bn n hn0 hn hA hBn va vb w la lb
 | 2, _ => exact ra_2 A Bn n hn0 hn hA hBn va vb w la lb
 | 3, _ => exact ra_3 A Bn n hn0 hn hA hBn va vb w la lb
 | 4, _ => exact ra_4 A Bn n hn0 hn hA hBn va vb w la lb
 | 5, _ => exact ra_5 A Bn n hn0 hn hA hBn va vb w la lb
 | 6, _ => exact ra_6 A Bn n hn0 hn hA hBn va vb w la lb
 | 7, _ => exact ra_7 A Bn n hn0 hn hA hBn va vb w la lb
 | 8, _ => exact ra_8 A Bn n hn0 hn hA hBn va vb w la lb
end Go.Proofs.YtiffkbmppmejhaaGreatDoor
