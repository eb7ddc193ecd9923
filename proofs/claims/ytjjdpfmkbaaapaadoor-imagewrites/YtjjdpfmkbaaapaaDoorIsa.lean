/-
  Parts in memory; the last address; faults in their order.
-/
import Derived.Test.YtjjdpfmkbaaapaaDoorNum
namespace Go.Proofs.YtjjdpfmkbaaapaaDoor
set_option linter.unusedVariables false
open Go.ChangeShapes Go.WideShapes Go.ChangeAt Go.RowKit
/-- A part as it lies in memory. -/
structure Sg where
  a : BitVec 64
  s : BitVec 64
  f : Int
  d : Value
  n : Nat
  m : Option Addr
  c : Nat
def sgz : Sg := ⟨0, 0, 0, .slice none 0 0, 0, none, 0⟩
def sg (L : List Sg) (j : Nat) : Sg := L.getD j sgz
def Sgs (w : World) (v : Value) (L : List Sg) : Prop :=
  ∃ ad cap, v = .slice ad L.length cap ∧ L.length ≤ cap ∧ (L ≠ [] → ∃ g off, ad = some ⟨g, off, none⟩ ∧ g < w.heap.size ∧ ∀ j, j < L.length →
    w.cell? ⟨g, off + j * 4, none⟩ = some (.int .u64 (n64 (sg L j).a)) ∧ w.cell? ⟨g, off + j * 4 + 1, none⟩ = some (.int .u64 (n64 (sg L j).s)) ∧ w.cell? ⟨g, off + j * 4 + 2, none⟩ = some (.int .i64 (sg L j).f) ∧ w.cell? ⟨g, off + j * 4 + 3, none⟩ = some (.slice (sg L j).m (sg L j).n (sg L j).c))
theorem Sgs.later {w w' : World} {v : Value} {L : List Sg} (h : Sgs w v L) {B : Nat} (hb : Below B w w') (hB : B = w.heap.size) : Sgs w' v L := by
  obtain ⟨ad, cap, rfl, h1, h2⟩ := h
  refine ⟨ad, cap, rfl, h1, fun hne => ?_⟩
  obtain ⟨g, off, rfl, h3, h4⟩ := h2 hne
  refine ⟨g, off, rfl, Nat.lt_of_lt_of_le h3 hb.size, fun j hj => ?_⟩
  obtain ⟨c0, c1, c2, c3⟩ := h4 j hj
  rw [hb.cell (by rw [hB]; exact h3), hb.cell (by rw [hB]; exact h3), hb.cell (by rw [hB]; exact h3), hb.cell (by rw [hB]; exact h3)]
  exact ⟨c0, c1, c2, c3⟩
/-- A part's last address, as words wrap. -/
def lastB (x : Sg) : BitVec 64 := x.a + (x.s - 1#64)
/-- The first number that is not 0. -/
def ff (f : Nat → Int) : Nat → Nat → Int
  | 0, _ => 0
  | r + 1, i => if f i = 0 then ff f r (i + 1) else f i
theorem ff_end (f : Nat → Int) (r i : Nat) (h : r = 0) : ff f r i = 0 := by subst h; rfl
theorem ff_go {f : Nat → Int} {n i : Nat} (h : i < n) (h0 : f i = 0) : ff f (n - i) i = ff f (n - (i + 1)) (i + 1) := by
  obtain ⟨r, hr⟩ : ∃ r, n - i = r + 1 := ⟨n - i - 1, by omega⟩
  rw [hr, ff, if_pos h0, show n - (i + 1) = r by omega]
theorem ff_hit {f : Nat → Int} {n i : Nat} (h : i < n) (h0 : f i ≠ 0) : ff f (n - i) i = f i := by
  obtain ⟨r, hr⟩ : ∃ r, n - i = r + 1 := ⟨n - i - 1, by omega⟩
  rw [hr, ff, if_neg h0]
/-- A part's own fault. -/
def pf (L : List Sg) (i : Nat) : Int :=
  if (sg L i).s = 0#64 ∨ (sg L i).f < 0 ∨ 7 < (sg L i).f ∨ (sg L i).s.toNat < (sg L i).n ∨ (lastB (sg L i)).toNat < (sg L i).a.toNat then 23
  else if 0 < i ∧ (sg L i).a.toNat ≤ (lastB (sg L (i - 1))).toNat then 24 else 0
theorem n64_one : n64 1#64 = 1 := rfl
theorem lastB_n (x y : BitVec 64) : IntKind.u64.wrap (n64 x + IntKind.u64.wrap (n64 y - 1)) = n64 (x + (y - 1#64)) := by
  rw [← n64_one, n64_sub, n64_add]
theorem passes_n (x y : BitVec 64) : n64 (18446744073709551615#64 - x) < n64 (y - 1#64) ↔ (x + (y - 1#64)).toNat < x.toNat := by
  unfold n64
  generalize y - 1#64 = t
  rw [BitVec.toNat_sub, BitVec.toNat_add]
  have := x.isLt; have := t.isLt
  simp only [BitVec.toNat_ofNat, Nat.reducePow] at *
  omega
set_option maxHeartbeats 1000000 in
theorem last_c (x y : BitVec 64) (f : Int) (d : Value) (hd : d.oneCell' = true) (w : World) :
    Calls Tryd.prog 33 #[.agg #[.int .u64 (n64 x), .int .u64 (n64 y), .int .i64 f, d]] w fun e w' => e = .returned (.int .u64 (n64 (x + (y - 1#64)))) ∧ Below w.heap.size w w' := by
  have H := lastB_n x y
  have HH : Hid (IntKind.u64.wrap (n64 x + IntKind.u64.wrap (n64 y - 1)) = n64 (x + (y - 1#64))) := H
  clear H
  go_enter Tryd.func33, Tryd.ntmps33
  go_wp2
  go_ret
  exact ⟨ret_int HH.out, (Below.refl _ _).alloc (Nat.le_refl _) _⟩
set_option maxHeartbeats 1000000 in
theorem passes_c (x y : BitVec 64) (w : World) (b : Bool) (hb : Hid (b = decide ((x + (y - 1#64)).toNat < x.toNat))) :
    Calls Tryd.prog 32 #[.int .u64 (n64 x), .int .u64 (n64 y)] w fun e w' => e = .returned (.bool b) ∧ w = w' := by
  go_enter Tryd.func32, Tryd.ntmps32
  go_wp2
  go_ret
  refine ⟨?_, rfl⟩
  have e : decide (IntKind.u64.wrap (18446744073709551615 - n64 x) < IntKind.u64.wrap (n64 y - 1)) = b := by
    rw [hb.out, ← n64_one, n64_sub, show (18446744073709551615 : Int) = n64 18446744073709551615#64 from rfl, n64_sub]
    exact decide_eq_decide.2 (passes_n x y)
  rw [← e]; rfl
set_option maxHeartbeats 1000000 in
theorem rlast_c (x y : BitVec 64) (w : World) (b : Bool) (hb : Hid (b = decide ((x + (y - 1#64)).toNat < x.toNat))) :
    Calls Tryd.prog 40 #[.int .u64 (n64 x), .int .u64 (n64 y)] w fun e w' => e = .returned (.tuple #[.int .u64 (n64 (x + (y - 1#64))), .bool (!b)]) ∧ w = w' := by
  go_enter Tryd.func40, Tryd.ntmps40
  go_wp2
  go_ret2
  refine ⟨?_, rfl⟩
  have e1 := lastB_n x y
  have e2 : decide (n64 x ≤ n64 (x + (y - 1#64))) = !b := by
    rw [hb.out]; unfold n64
    rw [← decide_not]
    exact decide_eq_decide.2 (by omega)
  rw [e1]
  rw [e2]
  rfl
end Go.Proofs.YtjjdpfmkbaaapaaDoor
