import Derived.Test.YtiffkbmppmejhaaGreatDoorK09
import Derived.Test.YtiffkbmppmejhaaGreatDoorK11
import Derived.Test.YtiffkbmppmejhaaGreatDoorK12
namespace Go.Proofs.YtiffkbmppmejhaaGreatDoor
set_option linter.unusedVariables false
set_option maxRecDepth 100000
set_option maxHeartbeats 8000000
open Go.ChangeShapes Go.WideShapes Go.ChangeAt Go.RowKit Go.Deep Go.MuLone _root_.Go.Proofs.Tryz
structure RSt (B c : Nat) (vr vi vo : Value) (w : World) (ur ui uo : Value) (S' : St) (w' : World) : Prop where
 r : RB B c S' ur ui uo w'
 x : Exc (eU c vr vi vo) w w'
 o : ∀ k, eU c ur ui uo k → eU c vr vi vo k ∨ w.heap.size ≤ k
theorem RSt.same {B c : Nat} {vr vi vo : Value} {S' : St} {w w' : World} (h : RB B c S' vr vi vo w') (hx : Exc (eU c vr vi vo) w w') : RSt B c vr vi vo w vr vi vo S' w' := ⟨h, hx, fun _ hk => .inl hk⟩
theorem RSt.quiet {B c : Nat} {S : St} {vr vi vo : Value} {w w' : World} (h : RB B c S vr vi vo w) (hb : Below w.heap.size w w') : RSt B c vr vi vo w vr vi vo S w' := .same (h.later hb) (Exc.of_below hb rfl)
theorem RSt.pre {B c : Nat} {vr vi vo ur ui uo : Value} {S' : St} {w w1 w' : World} (hb : Below w.heap.size w w1) (h : RSt B c vr vi vo w1 ur ui uo S' w') : RSt B c vr vi vo w ur ui uo S' w' :=
 ⟨h.r, (Exc.of_below hb rfl).trans h.x, fun k hk => (h.o k hk).imp id (fun e => Nat.le_trans hb.size e)⟩
theorem RSt.post {B c : Nat} {vr vi vo ur ui uo : Value} {S' : St} {w w1 w' : World} (h : RSt B c vr vi vo w ur ui uo S' w1) (hb : Below w1.heap.size w1 w') : RSt B c vr vi vo w ur ui uo S' w' :=
 ⟨h.r.later hb, h.x.trans (Exc.of_below hb rfl), h.o⟩
theorem RB.lt {B c : Nat} {S : St} {vr vi vo : Value} {w : World} (h : RB B c S vr vi vo w) : c < w.heap.size := (Array.getElem?_eq_some_iff.1 h.h).1
theorem RB.put {B c : Nat} {S T : St} {vr vi vo : Value} {w : World} (h : RB B c S vr vi vo w) (j : Nat) (v : Value) (hrow : (stc S vr vi vo).setIfInBounds j v = stc T vr vi vo) (h1 : T.ram = S.ram) (h2 : T.inp = S.inp) (h3 : T.out = S.out) : RSt B c vr vi vo w vr vi vo T (w.setCell ⟨c, j, none⟩ v) := by
 refine .same ⟨?_, ?_, h.l⟩ ((Exc.refl _ w).set c j v (.inl rfl))
 ·rw [← hrow]; exact heap_setCell_same w c j _ _ _ h.h
 ·refine ⟨?_, ?_, ?_, h.s.ri, h.s.ro, h.s.io⟩
  ·rw [h1]; exact aJ h.s.r h.h (by decide)
  ·rw [h2]; exact aJ h.s.i h.h (by decide)
  ·rw [h3]; exact aJ h.s.o h.h (by decide)
def tkL : List Int → Nat
 | [] => 0
 | x :: xs => x.toNat + 256 * tkL xs
theorem rS (x : Int) (xs : List Int) : ∀ k, tkN (x :: xs) (k + 1) = x.toNat + 256 * tkN xs k
 | 0 => by simp [tkN]
 | k + 1 => by
  rw [tkN, rS x xs k, tkN, Nat.mul_add, Nat.pow_succ]
  simp only [List.getD_cons_succ]
  rw [Nat.add_assoc, Nat.mul_comm (256 ^ k) 256, ← Nat.mul_assoc, ← Nat.mul_assoc, Nat.mul_comm _ 256]
theorem pH : ∀ l : List Int, tkN l l.length = tkL l
 | [] => rfl
 | x :: xs => by rw [List.length_cons, rS, pH xs]; rfl
theorem QZ {l : List Int} (h : l.length ≤ 8) : tk l = tkL l := by unfold tk; rw [Nat.min_eq_left h, pH]
theorem QY {l : List Int} (h : dS l) : tkL l < 256 ^ l.length := by rw [← pH]; exact mY h _
theorem CH {l : List Int} {i : Nat} (h : i < l.length) : tkL (l.drop i) = (l.getD i 0).toNat + 256 * tkL (l.drop (i + 1)) := by
 rw [List.drop_eq_getElem_cons h]
 show _ + 256 * _ = _
 simp [List.getD, List.getElem?_eq_getElem h]
theorem oC (n : Nat) (a z : Int) : (rch n a z = 1 ∧ fnd n a z = 0) ∨ (rch n a z = 10 ∧ fnd n a z = 1) ∨ (rch n a z = 2 ∧ fnd n a z = 5) ∨ (rch n a z = 3 ∧ fnd n a z = 4) ∨
  (rch n a z = 4 ∧ fnd n a z = 3 ∧ z = 8 ∧ a = 33570816) ∨ (rch n a z = 5 ∧ fnd n a z = 3 ∧ z = 4 ∧ a = 33570816) ∨ (rch n a z = 6 ∧ fnd n a z = 3 ∧ z = 4 ∧ a = 33570820) ∨
  (rch n a z = 7 ∧ fnd n a z = 2 ∧ z = 8 ∧ a = 33603576) ∨ (rch n a z = 8 ∧ fnd n a z = 2 ∧ z = 4 ∧ a = 33603576) ∨ (rch n a z = 9 ∧ fnd n a z = 2 ∧ z = 4 ∧ a = 33603580) ∨ (rch n a z = 0 ∧ fnd n a z = 6) := by
 by_cases h0 : rch n a z = 0
 ·exact .inr (.inr (.inr (.inr (.inr (.inr (.inr (.inr (.inr (.inr ⟨h0, (uX n a z).1 h0⟩)))))))))
 by_cases h1 : dD n a z = true
 ·left; simp [rch, fnd, h1]
 by_cases h2 : eA a z = true
 ·right; left; simp [rch, fnd, h1, h2]
 have h1' : dD n a z = false := by simpa using h1
 have h2' : eA a z = false := by simpa using h2
 have er : rch n a z = (if z = 4 then (if a = 1048576 then 2 else if a = 33554432 then 3 else if a = 33570816 then 5 else if a = 33570820 then 6 else if a = 33603576 then 8 else if a = 33603580 then 9 else 0) else if z = 8 then (if a = 33570816 then 4 else if a = 33603576 then 7 else 0) else 0) := by
  unfold rch; rw [h1', h2']; rfl
 have ef : fnd n a z = (if fD 33603576 a z then 2 else if fD 33570816 a z then 3 else if mE a z then 4 else if nG a z then 5 else 6) := by
  unfold fnd; rw [h1', h2']; rfl
 rw [er] at h0 ⊢
 rw [ef]
 clear er ef h1 h2 h1' h2'
 by_cases h4 : z = 4
 ·subst h4
  by_cases q1 : a = 1048576
  ·subst q1; decide
  by_cases q2 : a = 33554432
  ·subst q2; decide
  by_cases q3 : a = 33570816
  ·subst q3; decide
  by_cases q4 : a = 33570820
  ·subst q4; decide
  by_cases q5 : a = 33603576
  ·subst q5; decide
  by_cases q6 : a = 33603580
  ·subst q6; decide
  ·exfalso; simp [q1, q2, q3, q4, q5, q6] at h0
 ·by_cases h8 : z = 8
  ·subst h8
   by_cases q1 : a = 33570816
   ·subst q1; decide
   by_cases q2 : a = 33603576
   ·subst q2; decide
   ·exfalso; simp [q1, q2] at h0
  ·exfalso; simp [h4, h8] at h0
theorem FY {B c : Nat} {S : St} {vr vi vo : Value} (w : World) (h : RB B c S vr vi vo w) (hn : S.ram.length ≤ 65536) (a z : Int) (ha : 0 ≤ a ∧ a ≤ 18446744073709551615) (hz : -9223372036854775808 ≤ z ∧ z ≤ 9223372036854775807) (hw : StW S) (hk : rch S.ram.length a z = 0) :
  Calls prog 60 #[.pointer (some ⟨c, 0, none⟩), .int .u64 a, .int .i64 z] w fun e w' => e = .returned (.tuple #[.int .u64 (0), .bool false]) ∧ Below w.heap.size w w' := by
 have HR := cE w h hn a z ha hz
 rw [hk] at HR
 clear h hk ha hz
 go_enter func60, ntmps60
 go_wp2_with (go_at_call 85; refine HR.mono ?_; rintro e w1 ⟨rfl, hww⟩; have hw2 := hww.symm; subst hw2)
 go_ret2
 exact ⟨rfl, Below.refl _ _⟩
theorem GA {B c : Nat} {S : St} {vr vi vo : Value} (w : World) (h : RB B c S vr vi vo w) (hn : S.ram.length ≤ 65536) (a z : Int) (ha : 0 ≤ a ∧ a ≤ 18446744073709551615) (hz : -9223372036854775808 ≤ z ∧ z ≤ 9223372036854775807) (hw : StW S) (hk : rch S.ram.length a z = 2) :
  Calls prog 60 #[.pointer (some ⟨c, 0, none⟩), .int .u64 a, .int .i64 z] w fun e w' => e = .returned (.tuple #[.int .u64 (0), .bool true]) ∧ Below w.heap.size w w' := by
 have HR := cE w h hn a z ha hz
 rw [hk] at HR
 clear h hk ha hz
 go_enter func60, ntmps60
 go_wp2_with (go_at_call 85; refine HR.mono ?_; rintro e w1 ⟨rfl, hww⟩; have hw2 := hww.symm; subst hw2)
 go_ret2
 exact ⟨rfl, Below.refl _ _⟩
theorem GB {B c : Nat} {S : St} {vr vi vo : Value} (w : World) (h : RB B c S vr vi vo w) (hn : S.ram.length ≤ 65536) (a z : Int) (ha : 0 ≤ a ∧ a ≤ 18446744073709551615) (hz : -9223372036854775808 ≤ z ∧ z ≤ 9223372036854775807) (hw : StW S) (hk : rch S.ram.length a z = 3) :
  Calls prog 60 #[.pointer (some ⟨c, 0, none⟩), .int .u64 a, .int .i64 z] w fun e w' => e = .returned (.tuple #[.int .u64 (S.msip), .bool true]) ∧ Below w.heap.size w w' := by
 have HR := cE w h hn a z ha hz
 rw [hk] at HR
 have c1 : w.cell? ⟨c, 1, none⟩ = some (.int .u32 S.msip) := h.cell 1
 have HW : Hid (IntKind.u64.wrap S.msip = S.msip) := aU hw.msip.1 (by have := hw.msip.2; omega)
 clear hw
 clear h hk ha hz
 go_enter func60, ntmps60
 go_wp2_with (go_at_call 85; refine HR.mono ?_; rintro e w1 ⟨rfl, hww⟩; have hw2 := hww.symm; subst hw2)
 go_ret2
 exact ⟨by first | (rw [← HW.out]; rfl) | (show Ending.returned (.tuple #[.int .u64 (IntKind.u64.wrap S.msip), .bool true]) = _; rw [HW.out]), Below.refl _ _⟩
theorem GC {B c : Nat} {S : St} {vr vi vo : Value} (w : World) (h : RB B c S vr vi vo w) (hn : S.ram.length ≤ 65536) (a z : Int) (ha : 0 ≤ a ∧ a ≤ 18446744073709551615) (hz : -9223372036854775808 ≤ z ∧ z ≤ 9223372036854775807) (hw : StW S) (hk : rch S.ram.length a z = 4) :
  Calls prog 60 #[.pointer (some ⟨c, 0, none⟩), .int .u64 a, .int .i64 z] w fun e w' => e = .returned (.tuple #[.int .u64 (S.cmp), .bool true]) ∧ Below w.heap.size w w' := by
 have HR := cE w h hn a z ha hz
 rw [hk] at HR
 have c1 : w.cell? ⟨c, 2, none⟩ = some (.int .u64 S.cmp) := h.cell 2
 clear hw
 clear h hk ha hz
 go_enter func60, ntmps60
 go_wp2_with (go_at_call 85; refine HR.mono ?_; rintro e w1 ⟨rfl, hww⟩; have hw2 := hww.symm; subst hw2)
 go_ret2
 exact ⟨rfl, Below.refl _ _⟩
theorem GF {B c : Nat} {S : St} {vr vi vo : Value} (w : World) (h : RB B c S vr vi vo w) (hn : S.ram.length ≤ 65536) (a z : Int) (ha : 0 ≤ a ∧ a ≤ 18446744073709551615) (hz : -9223372036854775808 ≤ z ∧ z ≤ 9223372036854775807) (hw : StW S) (hk : rch S.ram.length a z = 7) :
  Calls prog 60 #[.pointer (some ⟨c, 0, none⟩), .int .u64 a, .int .i64 z] w fun e w' => e = .returned (.tuple #[.int .u64 (S.time), .bool true]) ∧ Below w.heap.size w w' := by
 have HR := cE w h hn a z ha hz
 rw [hk] at HR
 have c1 : w.cell? ⟨c, 3, none⟩ = some (.int .u64 S.time) := h.cell 3
 clear hw
 clear h hk ha hz
 go_enter func60, ntmps60
 go_wp2_with (go_at_call 85; refine HR.mono ?_; rintro e w1 ⟨rfl, hww⟩; have hw2 := hww.symm; subst hw2)
 go_ret2
 exact ⟨rfl, Below.refl _ _⟩
theorem GD {B c : Nat} {S : St} {vr vi vo : Value} (w : World) (h : RB B c S vr vi vo w) (hn : S.ram.length ≤ 65536) (a z : Int) (ha : 0 ≤ a ∧ a ≤ 18446744073709551615) (hz : -9223372036854775808 ≤ z ∧ z ≤ 9223372036854775807) (hw : StW S) (hk : rch S.ram.length a z = 5) :
  Calls prog 60 #[.pointer (some ⟨c, 0, none⟩), .int .u64 a, .int .i64 z] w fun e w' => e = .returned (.tuple #[.int .u64 (S.cmp % 4294967296), .bool true]) ∧ Below w.heap.size w w' := by
 have HR := cE w h hn a z ha hz
 rw [hk] at HR
 have c1 : w.cell? ⟨c, 2, none⟩ = some (.int .u64 S.cmp) := h.cell 2
 have HW : Hid (S.cmp.tmod 4294967296 = S.cmp % 4294967296) := Int.tmod_eq_emod_of_nonneg hw.cmp.1
 clear hw
 clear h hk ha hz
 go_enter func60, ntmps60
 go_wp2_with (go_at_call 85; refine HR.mono ?_; rintro e w1 ⟨rfl, hww⟩; have hw2 := hww.symm; subst hw2)
 go_ret2
 exact ⟨by first | (rw [← HW.out]; rfl) | rfl, Below.refl _ _⟩
theorem GG {B c : Nat} {S : St} {vr vi vo : Value} (w : World) (h : RB B c S vr vi vo w) (hn : S.ram.length ≤ 65536) (a z : Int) (ha : 0 ≤ a ∧ a ≤ 18446744073709551615) (hz : -9223372036854775808 ≤ z ∧ z ≤ 9223372036854775807) (hw : StW S) (hk : rch S.ram.length a z = 8) :
  Calls prog 60 #[.pointer (some ⟨c, 0, none⟩), .int .u64 a, .int .i64 z] w fun e w' => e = .returned (.tuple #[.int .u64 (S.time % 4294967296), .bool true]) ∧ Below w.heap.size w w' := by
 have HR := cE w h hn a z ha hz
 rw [hk] at HR
 have c1 : w.cell? ⟨c, 3, none⟩ = some (.int .u64 S.time) := h.cell 3
 have HW : Hid (S.time.tmod 4294967296 = S.time % 4294967296) := Int.tmod_eq_emod_of_nonneg hw.time.1
 clear hw
 clear h hk ha hz
 go_enter func60, ntmps60
 go_wp2_with (go_at_call 85; refine HR.mono ?_; rintro e w1 ⟨rfl, hww⟩; have hw2 := hww.symm; subst hw2)
 go_ret2
 exact ⟨by first | (rw [← HW.out]; rfl) | rfl, Below.refl _ _⟩
theorem GE {B c : Nat} {S : St} {vr vi vo : Value} (w : World) (h : RB B c S vr vi vo w) (hn : S.ram.length ≤ 65536) (a z : Int) (ha : 0 ≤ a ∧ a ≤ 18446744073709551615) (hz : -9223372036854775808 ≤ z ∧ z ≤ 9223372036854775807) (hw : StW S) (hk : rch S.ram.length a z = 6) :
  Calls prog 60 #[.pointer (some ⟨c, 0, none⟩), .int .u64 a, .int .i64 z] w fun e w' => e = .returned (.tuple #[.int .u64 (S.cmp / 4294967296), .bool true]) ∧ Below w.heap.size w w' := by
 have HR := cE w h hn a z ha hz
 rw [hk] at HR
 have c1 : w.cell? ⟨c, 2, none⟩ = some (.int .u64 S.cmp) := h.cell 2
 have HW : Hid (S.cmp.tdiv 4294967296 = S.cmp / 4294967296) := Int.tdiv_eq_ediv_of_nonneg hw.cmp.1
 have HW2 : Hid (IntKind.u64.wrap (S.cmp / 4294967296) = S.cmp / 4294967296) := by have h1 := hw.cmp; exact aU (by omega) (by omega)
 clear hw
 clear h hk ha hz
 go_enter func60, ntmps60
 go_wp2_with (go_at_call 85; refine HR.mono ?_; rintro e w1 ⟨rfl, hww⟩; have hw2 := hww.symm; subst hw2)
 go_ret2
 exact ⟨by first | (rw [← HW.out]; rfl) | (rw [← HW2.out, ← HW.out]; rfl) | (rw [← HW2.out]; rfl) | rfl, Below.refl _ _⟩
theorem GH {B c : Nat} {S : St} {vr vi vo : Value} (w : World) (h : RB B c S vr vi vo w) (hn : S.ram.length ≤ 65536) (a z : Int) (ha : 0 ≤ a ∧ a ≤ 18446744073709551615) (hz : -9223372036854775808 ≤ z ∧ z ≤ 9223372036854775807) (hw : StW S) (hk : rch S.ram.length a z = 9) :
  Calls prog 60 #[.pointer (some ⟨c, 0, none⟩), .int .u64 a, .int .i64 z] w fun e w' => e = .returned (.tuple #[.int .u64 (S.time / 4294967296), .bool true]) ∧ Below w.heap.size w w' := by
 have HR := cE w h hn a z ha hz
 rw [hk] at HR
 have c1 : w.cell? ⟨c, 3, none⟩ = some (.int .u64 S.time) := h.cell 3
 have HW : Hid (S.time.tdiv 4294967296 = S.time / 4294967296) := Int.tdiv_eq_ediv_of_nonneg hw.time.1
 have HW2 : Hid (IntKind.u64.wrap (S.time / 4294967296) = S.time / 4294967296) := by have h1 := hw.time; exact aU (by omega) (by omega)
 clear hw
 clear h hk ha hz
 go_enter func60, ntmps60
 go_wp2_with (go_at_call 85; refine HR.mono ?_; rintro e w1 ⟨rfl, hww⟩; have hw2 := hww.symm; subst hw2)
 go_ret2
 exact ⟨by first | (rw [← HW.out]; rfl) | (rw [← HW2.out, ← HW.out]; rfl) | (rw [← HW2.out]; rfl) | rfl, Below.refl _ _⟩
theorem RB.inp {B c : Nat} {S T : St} {vr vi vo : Value} {w w' : World} (h : RB B c S vr vi vo w) (he : Exc (fun k => k = c ∨ vi.ownBlock = some k) w w') (v : Value) (l : List Int) (h1 : T.ram = S.ram) (h2 : T.inp = l) (h3 : T.out = S.out)
  (hrow : w'.heap[c]? = some (.cells (stc T vr v vo) 89 (0, 0))) (ho : w'.ownsRow B 5 1 v l.length (bv l)) (hl : ∀ k, v.ownBlock = some k → vi.ownBlock = some k ∨ w.heap.size ≤ k) : RSt B c vr vi vo w vr v vo T w' := by
 refine ⟨⟨hrow, ⟨?_, ?_, ?_, ?_, h.s.ro, ?_⟩, h.l⟩, he.mono (fun k hk => ?_), fun k hk => ?_⟩
 ·rw [h1]; exact bZ h.s.r he (fun k hk e => by
   rcases e with e | e
   ·exact bS h.s.r h.h (by decide) k hk e
   ·exact h.s.ri k hk e)
 ·rw [h2]; exact ho
 ·rw [h3]; exact bZ h.s.o he (fun k hk e => by
   rcases e with e | e
   ·exact bS h.s.o h.h (by decide) k hk e
   ·exact h.s.io k e hk)
 ·intro g hg e
  rcases hl g e with e2 | e2
  ·exact h.s.ri g hg e2
  ·have := (h.s.r.lt g hg).2; omega
 ·intro g hg e
  rcases hl g hg with e2 | e2
  ·exact h.s.io g e2 e
  ·have := (h.s.o.lt g e).2; omega
 ·rcases hk with e | e
  ·exact .inl e
  ·exact .inr (.inr (.inl e))
 ·rcases hk with e | e | e | e
  ·exact .inl (.inl e)
  ·exact .inl (.inr (.inl e))
  ·rcases hl k e with e2 | e2
   ·exact .inl (.inr (.inr (.inl e2)))
   ·exact .inr e2
  ·exact .inl (.inr (.inr (.inr e)))
theorem RB.out {B c : Nat} {S T : St} {vr vi vo : Value} {w w' : World} (h : RB B c S vr vi vo w) (he : Exc (fun k => k = c ∨ vo.ownBlock = some k) w w') (v : Value) (l : List Int) (h1 : T.ram = S.ram) (h2 : T.inp = S.inp) (h3 : T.out = l)
  (hrow : w'.heap[c]? = some (.cells (stc T vr vi v) 89 (0, 0))) (ho : w'.ownsRow B 5 1 v l.length (bv l)) (hl : ∀ k, v.ownBlock = some k → vo.ownBlock = some k ∨ w.heap.size ≤ k) : RSt B c vr vi vo w vr vi v T w' := by
 refine ⟨⟨hrow, ⟨?_, ?_, ?_, h.s.ri, ?_, ?_⟩, h.l⟩, he.mono (fun k hk => ?_), fun k hk => ?_⟩
 ·rw [h1]; exact bZ h.s.r he (fun k hk e => by
   rcases e with e | e
   ·exact bS h.s.r h.h (by decide) k hk e
   ·exact h.s.ro k hk e)
 ·rw [h2]; exact bZ h.s.i he (fun k hk e => by
   rcases e with e | e
   ·exact bS h.s.i h.h (by decide) k hk e
   ·exact h.s.io k hk e)
 ·rw [h3]; exact ho
 ·intro g hg e
  rcases hl g e with e2 | e2
  ·exact h.s.ro g hg e2
  ·have := (h.s.r.lt g hg).2; omega
 ·intro g hg e
  rcases hl g e with e2 | e2
  ·exact h.s.io g hg e2
  ·have := (h.s.i.lt g hg).2; omega
 ·rcases hk with e | e
  ·exact .inl e
  ·exact .inr (.inr (.inr e))
 ·rcases hk with e | e | e | e
  ·exact .inl (.inl e)
  ·exact .inl (.inr (.inl e))
  ·exact .inl (.inr (.inr (.inl e)))
  ·rcases hl k e with e2 | e2
   ·exact .inl (.inr (.inr (.inr e2)))
   ·exact .inr e2
theorem GR {B c : Nat} {S : St} {vr vi vo : Value} (w : World) (h : RB B c S vr vi vo w) (hi : 0 ≤ S.ier ∧ S.ier ≤ 255) : Calls prog 86 #[.pointer (some ⟨c, 0, none⟩), .int .i64 1] w fun e w' => e = .returned (.int .i64 S.ier) ∧ w' = w := by
 have c1 : w.cell? ⟨c, 6, none⟩ = some (.int .u8 S.ier) := h.cell 6
 have hb : 0 ≤ S.ier := hi.1
 have hb2 : S.ier ≤ 255 := hi.2
 clear h hi
 go_enter func86, ntmps86
 go_wp2
 go_ret
 exact ⟨rfl, rfl⟩
theorem GT {B c : Nat} {S : St} {vr vi vo : Value} (w : World) (h : RB B c S vr vi vo w) (hi : 0 ≤ S.lcr ∧ S.lcr ≤ 255) : Calls prog 86 #[.pointer (some ⟨c, 0, none⟩), .int .i64 3] w fun e w' => e = .returned (.int .i64 S.lcr) ∧ w' = w := by
 have c1 : w.cell? ⟨c, 7, none⟩ = some (.int .u8 S.lcr) := h.cell 7
 have hb : 0 ≤ S.lcr := hi.1
 have hb2 : S.lcr ≤ 255 := hi.2
 clear h hi
 go_enter func86, ntmps86
 go_wp2
 go_ret
 exact ⟨rfl, rfl⟩
theorem GU {B c : Nat} {S : St} {vr vi vo : Value} (w : World) (h : RB B c S vr vi vo w) (hi : 0 ≤ S.mcr ∧ S.mcr ≤ 255) : Calls prog 86 #[.pointer (some ⟨c, 0, none⟩), .int .i64 4] w fun e w' => e = .returned (.int .i64 S.mcr) ∧ w' = w := by
 have c1 : w.cell? ⟨c, 8, none⟩ = some (.int .u8 S.mcr) := h.cell 8
 have hb : 0 ≤ S.mcr := hi.1
 have hb2 : S.mcr ≤ 255 := hi.2
 clear h hi
 go_enter func86, ntmps86
 go_wp2
 go_ret
 exact ⟨rfl, rfl⟩
theorem GX {B c : Nat} {S : St} {vr vi vo : Value} (w : World) (h : RB B c S vr vi vo w) (hi : 0 ≤ S.scr ∧ S.scr ≤ 255) : Calls prog 86 #[.pointer (some ⟨c, 0, none⟩), .int .i64 7] w fun e w' => e = .returned (.int .i64 S.scr) ∧ w' = w := by
 have c1 : w.cell? ⟨c, 9, none⟩ = some (.int .u8 S.scr) := h.cell 9
 have hb : 0 ≤ S.scr := hi.1
 have hb2 : S.scr ≤ 255 := hi.2
 clear h hi
 go_enter func86, ntmps86
 go_wp2
 go_ret
 exact ⟨rfl, rfl⟩
theorem GW {B c : Nat} {S : St} {vr vi vo : Value} (w : World) (h : RB B c S vr vi vo w) : Calls prog 86 #[.pointer (some ⟨c, 0, none⟩), .int .i64 6] w fun e w' => e = .returned (.int .i64 0) ∧ w' = w := by
 clear h
 go_enter func86, ntmps86
 go_wp2
 go_ret
 exact ⟨rfl, rfl⟩
theorem GS {B c : Nat} {S : St} {vr vi vo : Value} (w : World) (h : RB B c S vr vi vo w) (hi : 0 ≤ S.ier ∧ S.ier ≤ 255) : Calls prog 86 #[.pointer (some ⟨c, 0, none⟩), .int .i64 2] w fun e w' => e = .returned (.int .i64 (if gD S = true then 4 else 1)) ∧ w' = w := by
 have HR := FX w h hi
 clear h hi
 cases hl : gD S with
 | true =>
  rw [hl] at HR
  clear hl
  go_enter func86, ntmps86
  go_wp2_with (go_at_call 120; refine HR.mono ?_; rintro e w1 ⟨rfl, hww⟩; have hw2 := hww.symm; subst hw2)
  go_ret
  exact ⟨rfl, rfl⟩
 | false =>
  rw [hl] at HR
  clear hl
  go_enter func86, ntmps86
  go_wp2_with (go_at_call 120; refine HR.mono ?_; rintro e w1 ⟨rfl, hww⟩; have hw2 := hww.symm; subst hw2)
  go_ret
  exact ⟨rfl, rfl⟩
theorem GV {B c : Nat} {S : St} {vr vi vo : Value} (w : World) (h : RB B c S vr vi vo w) : Calls prog 86 #[.pointer (some ⟨c, 0, none⟩), .int .i64 5] w fun e w' => e = .returned (.int .i64 (fF S)) ∧ RSt B c vr vi vo w vr vi vo { S with ov := false } w' := by
 obtain ⟨ai, ci, ei, _⟩ := Byt.of_own h.s.i
 obtain ⟨ao, co, eo, _⟩ := Byt.of_own h.s.o
 have c11 : w.cell? ⟨c, 11, none⟩ = some (.slice ai S.inp.length ci) := by rw [← ei]; exact h.cell 11
 have c12 : w.cell? ⟨c, 12, none⟩ = some (.slice ao S.out.length co) := by rw [← eo]; exact h.cell 12
 have c10 : w.cell? ⟨c, 10, none⟩ = some (.bool S.ov) := h.cell 10
 have f10 := frozen_of_row w c 10 _ _ h.h
 have HP : Hid (RSt B c vr vi vo w vr vi vo { S with ov := false } (w.setCell ⟨c, 10, none⟩ (.bool false))) := h.put 10 _ rfl rfl rfl rfl
 have HV : Hid (fF S = (if 0 < S.inp.length then 1 else 0) + (if S.ov then 2 else 0) + (if (S.out.length : Int) < 4096 then 96 else 0)) := rfl
 generalize fF S = R at HV ⊢
 generalize S.inp.length = ni at *
 generalize S.out.length = no at *
 generalize S.ov = ov at *
 clear h ei eo
 by_cases q1 : 0 < ni
 ·have q1' : (0 : Int) < ni := by omega
  by_cases q3 : (no : Int) < 4096
  ·cases ov with
   | true =>
    have HE : Hid (R = 99) := by unfold Hid; rw [HV.out, if_pos q1, if_pos q3]; rfl
    clear HV
    go_enter func86, ntmps86
    go_wp2
    go_ret
    exact ⟨by rw [HE.out]; rfl, HP.out⟩
   | false =>
    have HE : Hid (R = 97) := by unfold Hid; rw [HV.out, if_pos q1, if_pos q3]; rfl
    clear HV
    go_enter func86, ntmps86
    go_wp2
    go_ret
    exact ⟨by rw [HE.out]; rfl, HP.out⟩
  ·cases ov with
   | true =>
    have HE : Hid (R = 3) := by unfold Hid; rw [HV.out, if_pos q1, if_neg q3]; rfl
    clear HV
    go_enter func86, ntmps86
    go_wp2
    go_ret
    exact ⟨by rw [HE.out]; rfl, HP.out⟩
   | false =>
    have HE : Hid (R = 1) := by unfold Hid; rw [HV.out, if_pos q1, if_neg q3]; rfl
    clear HV
    go_enter func86, ntmps86
    go_wp2
    go_ret
    exact ⟨by rw [HE.out]; rfl, HP.out⟩
 ·have q1' : ¬ (0 : Int) < ni := by omega
  by_cases q3 : (no : Int) < 4096
  ·cases ov with
   | true =>
    have HE : Hid (R = 98) := by unfold Hid; rw [HV.out, if_neg q1, if_pos q3]; rfl
    clear HV
    go_enter func86, ntmps86
    go_wp2
    go_ret
    exact ⟨by rw [HE.out]; rfl, HP.out⟩
   | false =>
    have HE : Hid (R = 96) := by unfold Hid; rw [HV.out, if_neg q1, if_pos q3]; rfl
    clear HV
    go_enter func86, ntmps86
    go_wp2
    go_ret
    exact ⟨by rw [HE.out]; rfl, HP.out⟩
  ·cases ov with
   | true =>
    have HE : Hid (R = 2) := by unfold Hid; rw [HV.out, if_neg q1, if_neg q3]; rfl
    clear HV
    go_enter func86, ntmps86
    go_wp2
    go_ret
    exact ⟨by rw [HE.out]; rfl, HP.out⟩
   | false =>
    have HE : Hid (R = 0) := by unfold Hid; rw [HV.out, if_neg q1, if_neg q3]; rfl
    clear HV
    go_enter func86, ntmps86
    go_wp2
    go_ret
    exact ⟨by rw [HE.out]; rfl, HP.out⟩
theorem CF {B c : Nat} {S : St} {vr vi vo : Value} (w : World) (h : RB B c S vr vi vo w) (hi : S.inp = []) : Calls prog 86 #[.pointer (some ⟨c, 0, none⟩), .int .i64 0] w fun e w' => e = .returned (.int .i64 0) ∧ w' = w := by
 obtain ⟨ai, ci, ei, _⟩ := Byt.of_own h.s.i
 have c11 : w.cell? ⟨c, 11, none⟩ = some (.slice ai 0 ci) := by rw [hi] at ei; rw [show Value.slice ai 0 ci = vi from ei.symm]; exact h.cell 11
 clear h ei hi
 go_enter func86, ntmps86
 go_wp2
 go_ret
 exact ⟨rfl, rfl⟩
theorem CG {B c : Nat} {S : St} {vr vi vo : Value} (w : World) (h : RB B c S vr vi vo w) (x : Int) (xs : List Int) (hi : S.inp = x :: xs) (h64 : xs.length ≤ 64) (hx : 0 ≤ x ∧ x ≤ 255) : Calls prog 86 #[.pointer (some ⟨c, 0, none⟩), .int .i64 0] w fun e w' => e = .returned (.int .i64 x) ∧ ∃ v, RSt B c vr vi vo w vr v vo { S with inp := xs } w' := by
 have hwi := h.s.i
 rw [hi] at hwi
 rcases hwi.2 with ⟨_, h0⟩ | ⟨g, cap, cur, ev, hBg, hrow, hnc, hcm, hcs, htk⟩
 ·simp at h0
 have hn : xs.length + 1 ≤ cap := by simpa using hnc
 have hcell : ∀ j u, (bv (x :: xs))[j]? = some u → w.cell? ⟨g, j, none⟩ = some u := fun j u hj => by
  rw [cell_of_row w g j _ _ _ hrow, ← Array.getElem?_toList]
  rw [← htk] at hj
  rw [List.getElem?_take] at hj
  split at hj
  ·exact hj
  ·cases hj
 have e0 : w.cell? ⟨g, 0, none⟩ = some (.int .u8 x) := hcell 0 _ rfl
 obtain ⟨ad, hca, hby⟩ : ∃ ad : Addr, (if cap = 1 then some (⟨g, 0, none⟩ : Addr) else some ⟨g, 1, none⟩) = some ad ∧ Byt w (.slice (some ad) xs.length (cap - 1)) xs := by
  by_cases hc1 : cap = 1
  ·have hx0 : xs = [] := List.eq_nil_of_length_eq_zero (by omega)
   subst hx0
   exact ⟨⟨g, 0, none⟩, by rw [if_pos hc1], some ⟨g, 0, none⟩, cap - 1, rfl, Nat.zero_le _, fun e => (by cases e), fun e => absurd rfl e⟩
  ·refine ⟨⟨g, 1, none⟩, by rw [if_neg hc1], some ⟨g, 1, none⟩, cap - 1, rfl, by omega, fun e => (by cases e), fun _ => ⟨g, 1, rfl, (Array.getElem?_eq_some_iff.1 hrow).1, fun j hj => ?_⟩⟩
   rw [Nat.add_comm]
   exact hcell (j + 1) _ (by rw [fC _ _ (by simp; omega)]; simp)
 have HBY := hid hby
 have c11 : w.cell? ⟨c, 11, none⟩ = some (.slice (some ⟨g, 0, none⟩) (xs.length + 1) cap) := by rw [show Value.slice (some ⟨g, 0, none⟩) (xs.length + 1) cap = vi from ev.symm]; exact h.cell 11
 have HBL : Hid (B ≤ w.heap.size) := Nat.le_trans h.l (Nat.le_of_lt h.lt)
 have HLL : Hid (([] : List Int).length + xs.length ≤ 140737488355328) := by unfold Hid; show 0 + xs.length ≤ _; omega
 have HP := hid h
 have n1 : (1 : Int) ≤ (xs.length : Int) + 1 := by omega
 have n2 : ¬ ((xs.length : Int) + 1 = 0) := by omega
 have n3 : (xs.length : Int) + 1 ≤ (cap : Int) := by omega
 have hx1 := hx.1
 have hx2 := hx.2
 clear hwi hrow hnc hcm hcs htk hcell hBg ev hi h hn hby hx
 go_enter func86, ntmps86
 go_wp2_with (at_builtin; refine yC (by rfl) _ _ (by rfl) B (.slice none 0 0) _ [] xs (by rfl) (World.ownsRow_nil _ _ _ _) (by rfl) HBY.out HLL.out HBL.out ?_; intro v' w2 ho hg hl2; obtain ⟨a9, c9, e9, _⟩ := Byt.of_own ho; obtain ⟨n9, hn9⟩ : ∃ n, n = xs.length := ⟨_, rfl⟩; have e9' : v' = .slice a9 n9 c9 := (by rw [hn9]; exact e9); clear hn9 e9; subst e9'; have HO := hid ho; have HG : Hid (World.grownBy w w2 none) := hg; have HL : Hid ((Value.slice a9 n9 c9).ownBlock = none ∨ (Value.slice a9 n9 c9).ownBlock = some w.heap.size) := hl2; have hq2 := (HG.out.block c HP.out.lt (fun e => by cases e)).trans HP.out.h; have d3 : w2.cell? ⟨c, 11, none⟩ = some vi := cell_of_row w2 c 11 _ _ _ hq2; have g3 := frozen_of_row w2 c 11 _ _ hq2; have HR2 : Hid (w2.heap[c]? = some (.cells (stc S vr vi vo) 89 (0, 0))) := hq2; clear ho hg hl2 hq2)
 go_ret
 refine ⟨rfl, .slice a9 n9 c9, ?_⟩
 have x1 : Exc (fun k => k = c ∨ vi.ownBlock = some k) w w2 := ⟨HG.out.os, HG.out.tape, HG.out.output, HG.out.size, fun k hk hne => HG.out.block k hk (fun e => by cases e)⟩
 refine HP.out.inp (x1.set c 11 _ (.inl rfl)) _ xs rfl rfl rfl (heap_setCell_same w2 c 11 _ _ _ HR2.out) (aJ HO.out HR2.out (by decide)) (fun k hk => .inr ?_)
 rcases HL.out with e | e
 ·rw [hk] at e; cases e
 ·rw [hk] at e; exact Nat.le_of_eq (Option.some.inj e).symm
theorem GY {B c : Nat} {S : St} {vr vi vo : Value} (w : World) (h : RB B c S vr vi vo w) (hw : StW S) (h64 : S.inp.length ≤ 64) (r : Nat) (hr : r < 8) : Calls prog 86 #[.pointer (some ⟨c, 0, none⟩), .int .i64 r] w fun e w' => e = .returned (.int .i64 (S.tel r).1) ∧ ∃ ur ui uo, RSt B c vr vi vo w ur ui uo (S.tel r).2 w' := by
 rcases dV hr with rfl | rfl | rfl | rfl | rfl | rfl | rfl | rfl
 ·cases hi : S.inp with
  | nil =>
   have e : S.tel 0 = (0, S) := by simp only [St.tel, hi]
   rw [e]
   exact (CF w h hi).mono fun e w' ⟨he, hw'⟩ => ⟨he, vr, vi, vo, by rw [hw']; exact .quiet h (Below.refl _ _)⟩
  | cons x xs =>
   have e : S.tel 0 = (x, { S with inp := xs }) := by simp only [St.tel, hi]
   rw [e]
   exact (CG w h x xs hi (by rw [hi] at h64; simp at h64; omega) (hw.i x (by rw [hi]; simp))).mono fun e w' ⟨he, v, hx⟩ => ⟨he, vr, v, vo, hx⟩
 ·exact (GR w h hw.ier).mono fun e w' ⟨he, hw'⟩ => ⟨he, vr, vi, vo, by rw [hw']; exact .quiet h (Below.refl _ _)⟩
 ·exact (GS w h hw.ier).mono fun e w' ⟨he, hw'⟩ => ⟨he, vr, vi, vo, by rw [hw']; exact .quiet h (Below.refl _ _)⟩
 ·exact (GT w h hw.lcr).mono fun e w' ⟨he, hw'⟩ => ⟨he, vr, vi, vo, by rw [hw']; exact .quiet h (Below.refl _ _)⟩
 ·exact (GU w h hw.mcr).mono fun e w' ⟨he, hw'⟩ => ⟨he, vr, vi, vo, by rw [hw']; exact .quiet h (Below.refl _ _)⟩
 ·exact (GV w h).mono fun e w' ⟨he, hx⟩ => ⟨he, vr, vi, vo, hx⟩
 ·exact (GW w h).mono fun e w' ⟨he, hw'⟩ => ⟨he, vr, vi, vo, by rw [hw']; exact .quiet h (Below.refl _ _)⟩
 ·exact (GX w h hw.scr).mono fun e w' ⟨he, hw'⟩ => ⟨he, vr, vi, vo, by rw [hw']; exact .quiet h (Below.refl _ _)⟩
theorem FD {w : World} {B g n cap : Nat} {l : List Int} (h : w.ownsRow B 5 1 (.slice (some ⟨g, 0, none⟩) n cap) n (bv l)) (j : Nat) (hj : j < n) (x : Int) : (w.setCell ⟨g, j, none⟩ (.int .u8 x)).ownsRow B 5 1 (.slice (some ⟨g, 0, none⟩) n cap) n (bv (l.set j x)) := by
 have hl := h.1
 rw [bK] at hl
 rcases h.2 with ⟨h0, _⟩ | ⟨g', cap', cur, ev, h1, hrow, h3, h4, h5, h6⟩
 ·cases h0
 ·cases ev
  refine ⟨by rw [bK, List.length_set]; exact hl, .inr ⟨g, cap, _, rfl, h1, heap_setCell_same w g j _ _ _ hrow, h3, h4, by rw [Array.size_setIfInBounds]; exact h5, ?_⟩⟩
  rw [Array.toList_setIfInBounds, List.take_set, h6, sD]
theorem RB.byte {B c : Nat} {S : St} {vr vi vo : Value} {w : World} {g cap : Nat} (h : RB B c S vr vi vo w) (hv : vr = .slice (some ⟨g, 0, none⟩) S.ram.length cap) (j : Nat) (hj : j < S.ram.length) (x : Int) : RB B c { S with ram := S.ram.set j x } vr vi vo (w.setCell ⟨g, j, none⟩ (.int .u8 x)) := by
 have hg : vr.ownBlock = some g := by rw [hv]; rfl
 refine ⟨?_, ⟨?_, ?_, ?_, h.s.ri, h.s.ro, h.s.io⟩, h.l⟩
 ·rw [heap_setCell_other w _ c _ (fun e => bS h.s.r h.h (by decide) g hg e.symm)]; exact h.h
 ·have h1 := h.s.r
  rw [hv] at h1 ⊢
  show World.ownsRow _ B _ 1 _ (S.ram.set j x).length (bv (S.ram.set j x))
  rw [List.length_set]
  exact FD h1 j hj x
 ·exact ownsRow_setCell_other h.s.i (fun e => h.s.ri g hg e) _
 ·exact ownsRow_setCell_other h.s.o (fun e => h.s.ro g hg e) _
theorem FZ {B c : Nat} {S : St} {vr vi vo : Value} (w : World) (h : RB B c S vr vi vo w) (hw : StW S) (hn : S.ram.length ≤ 65536) (k s : Nat) (hk : k + s ≤ S.ram.length) (hs : 0 < s) (h8 : s ≤ 8) (hr : rch S.ram.length (2147483648 + (k : Int)) s = 1) :
  Calls prog 60 #[.pointer (some ⟨c, 0, none⟩), .int .u64 (2147483648 + (k : Int)), .int .i64 s] w fun e w' => e = .returned (.tuple #[.int .u64 ((tk ((S.ram.drop k).take s) : Nat) : Int), .bool true]) ∧ Below w.heap.size w w' := by
 have HR := cE w h hn (2147483648 + (k : Int)) s (by omega) (by omega)
 rw [hr] at HR
 obtain ⟨g, cap, ev⟩ := h.ram (by omega)
 have c0 : w.cell? ⟨c, 0, none⟩ = some (.slice (some ⟨g, 0, none⟩) S.ram.length cap) := by rw [← ev]; exact h.cell 0
 have HCB : Hid (∀ j, j < S.ram.length → w.cell? ⟨g, j, none⟩ = some (.int .u8 (S.ram.getD j 0))) := fun j hj => by
  have h1 := h.s.r
  rw [ev] at h1
  rw [h1.cellAt j (by omega), fC _ _ hj]
 obtain ⟨l, hl⟩ : ∃ l, l = (S.ram.drop k).take s := ⟨_, rfl⟩
 have hll : l.length = s := by rw [hl, List.length_take, List.length_drop]; omega
 have hal : dS l := fun x hx => hw.r x (by rw [hl] at hx; exact List.mem_of_mem_drop (List.mem_of_mem_take hx))
 have HL : Hid (∀ j, j < s → l.getD j 0 = S.ram.getD (k + j) 0) := fun j hj => by rw [hl]; simp [List.getD, List.getElem?_drop, hj]
 rw [← hl, QZ (by omega)]
 have e1 : (2147483648 + (k : Int) - 2147483648) = k := by omega
 have e2 : IntKind.u64.wrap (k : Int) = k := aU (by omega) (by omega)
 have HLL := hid hll
 have HAL := hid hal
 have hs1 : ((s : Int) - 1) = ((s : Int) - 1) := rfl
 clear h hw hr hl hll hal ev
 go_enter func60, ntmps60
 go_wp2_with (go_at_call 85; refine HR.mono ?_; rintro e w1 ⟨rfl, hww⟩; have hw2 := hww.symm; subst hw2)
 go_loopw [9, 10] (fun v i wr => ∃ (j : Nat) (q : Int), j ≤ s ∧ q = (j : Int) - 1 ∧ i = .int .i64 q ∧ v = .int .u64 ((tkL (l.drop j) : Nat) : Int) ∧ wr = w) (fun _ i _ => (intOf i + 1).toNat)
 case atStart => exact ⟨s, _, Nat.le_refl _, rfl, rfl, by rw [List.drop_of_length_le (by rw [HLL.out]; exact Nat.le_refl _)]; rfl, rfl⟩
 case round =>
  obtain ⟨j, q, hj, hi, rfl, rfl, rfl⟩ := hrel
  cases j with
  | zero =>
   have hi2 : q = -1 := hi
   subst hi2
   clear hi
   go_wp2
   go_ret2
   exact ⟨rfl, Below.refl _ _⟩
  | succ m =>
   have hi2 : q = (m : Int) := by omega
   subst hi2
   clear hi
   have hm0 : (0 : Int) ≤ (m : Int) := by omega
   have hb : 0 ≤ S.ram.getD (k + m) 0 ∧ S.ram.getD (k + m) 0 ≤ 255 := by rw [← HL.out m (by omega)]; exact gA HAL.out m
   have cb := HCB.out (k + m) (by omega)
   have hix : (k : Int) + m < (S.ram.length : Int) := by omega
   have HD : Hid (tkL (l.drop m) = (S.ram.getD (k + m) 0).toNat + 256 * tkL (l.drop (m + 1))) := by
    unfold Hid; rw [CH (by rw [HLL.out]; omega), HL.out m (by omega)]
   have HT : Hid (tkL (l.drop (m + 1)) < 256 ^ 7) := by
    have h1 := QY (l := l.drop (m + 1)) (fun x hx => HAL.out x (List.mem_of_mem_drop hx))
    rw [List.length_drop, HLL.out] at h1
    exact Nat.lt_of_lt_of_le h1 (Nat.pow_le_pow_right (by omega) (by omega))
   generalize hT : tkL (l.drop (m + 1)) = T at HD HT
   generalize S.ram.getD (k + m) 0 = x at *
   have w1 : IntKind.u64.wrap ((T : Int) * 256) = (T : Int) * 256 := aU (by omega) (by have := HT.out; omega)
   have w2 : IntKind.u64.wrap ((T : Int) * 256 + x) = (T : Int) * 256 + x := aU (by omega) (by have := HT.out; omega)
   have w3 : IntKind.u64.wrap x = x := aU hb.1 (by omega)
   go_wp2
   go_roundw
   case rel =>
    refine ⟨m, _, by omega, rfl, by first | rfl | go_num, ?_, trivial⟩
    rw [HD.out]
    have hb1 := hb.1
    congr 1
    omega
   case measure => simp [intOf]
theorem QW (S : St) (hw : StW S) (h64 : S.inp.length ≤ 64) (r : Nat) : 0 ≤ (S.tel r).1 ∧ (S.tel r).1 ≤ 255 := by
 have hd : ∀ q : Nat, 8 ≤ q → S.tel q = (0, S) := fun q hq => by
  match q, hq with
  | q + 8, _ => rfl
 by_cases hr : r < 8
 ·rcases dV hr with rfl | rfl | rfl | rfl | rfl | rfl | rfl | rfl
  ·cases hi : S.inp with
   | nil => have e : S.tel 0 = (0, S) := by simp only [St.tel, hi]
            rw [e]; exact ⟨Int.le_refl _, by show (0 : Int) ≤ 255; omega⟩
   | cons x xs =>
    have e : S.tel 0 = (x, { S with inp := xs }) := by simp only [St.tel, hi]
    rw [e]; exact hw.i x (by rw [hi]; simp)
  ·exact hw.ier
  ·show 0 ≤ (if gD S = true then (4 : Int) else 1) ∧ (if gD S = true then (4 : Int) else 1) ≤ 255
   split <;> omega
  ·exact hw.lcr
  ·exact hw.mcr
  ·show 0 ≤ fF S ∧ fF S ≤ 255
   unfold fF
   repeat' split
   all_goals omega
  ·exact ⟨Int.le_refl _, by show (0 : Int) ≤ 255; omega⟩
  ·exact hw.scr
 ·rw [hd r (by omega)]
  exact ⟨Int.le_refl _, by show (0 : Int) ≤ 255; omega⟩
theorem AY {B c : Nat} {S : St} {vr vi vo : Value} (w : World) (h : RB B c S vr vi vo w) (hn : S.ram.length ≤ 65536) (hw : StW S) (h64 : S.inp.length ≤ 64) (r : Nat) (hr : r < 8) (z : Int) (hz : -9223372036854775808 ≤ z ∧ z ≤ 9223372036854775807) (hk : rch S.ram.length (268435456 + (r : Int)) z = 10) :
  Calls prog 60 #[.pointer (some ⟨c, 0, none⟩), .int .u64 (268435456 + (r : Int)), .int .i64 z] w fun e w' => e = .returned (.tuple #[.int .u64 (S.tel r).1, .bool true]) ∧ ∃ ur ui uo, RSt B c vr vi vo w ur ui uo (S.tel r).2 w' := by
 have HR := cE w h hn (268435456 + (r : Int)) z (by omega) hz
 rw [hk] at HR
 have HT := GY w h hw h64 r hr
 have hb := QW S hw h64 r
 generalize (S.tel r).1 = v at HT hb ⊢
 generalize (S.tel r).2 = T at HT ⊢
 have e1 : (268435456 + (r : Int) - 268435456) = r := by omega
 have e2 : IntKind.u64.wrap (r : Int) = r := aU (by omega) (by omega)
 have HW : Hid (IntKind.u64.wrap v = v) := aU hb.1 (by omega)
 clear h hk hw hb h64 hz
 go_enter func60, ntmps60
 go_wp2_with (first | (go_at_call 85; refine HR.mono ?_; rintro e w1 ⟨rfl, hww⟩; have hw2 := hww.symm; subst hw2) | (go_at_call 86; refine HT.mono ?_; rintro e w1 ⟨rfl, hx⟩; have HX : Hid _ := hx; clear hx))
 go_ret2
 exact ⟨by first | (rw [← HW.out]; rfl) | (show Ending.returned (.tuple #[.int .u64 (IntKind.u64.wrap v), .bool true]) = _; rw [HW.out]), HX.out⟩
theorem lR {B c : Nat} {S : St} {vr vi vo : Value} (w : World) (h : RB B c S vr vi vo w) (hn : S.ram.length ≤ 65536) (a z : Int) (ha : 0 ≤ a ∧ a ≤ 18446744073709551615) (hz : -9223372036854775808 ≤ z ∧ z ≤ 9223372036854775807) (hw : StW S) (h64 : S.inp.length ≤ 64) :
  Calls prog 60 #[.pointer (some ⟨c, 0, none⟩), .int .u64 a, .int .i64 z] w fun e w' => e = .returned (.tuple #[.int .u64 (S.ld a z).1.1, .bool (S.ld a z).1.2]) ∧ ∃ ur ui uo, RSt B c vr vi vo w ur ui uo (S.ld a z).2 w' := by
 have q : ∀ {v : Value} {e : Ending} {w' : World}, (e = .returned v ∧ Below w.heap.size w w') → (e = .returned v ∧ ∃ ur ui uo, RSt B c vr vi vo w ur ui uo S w') := fun hq => ⟨hq.1, vr, vi, vo, .quiet h hq.2⟩
 rcases oC S.ram.length a z with ⟨hk, hf⟩ | ⟨hk, hf⟩ | ⟨hk, hf⟩ | ⟨hk, hf⟩ | ⟨hk, hf, e1, e2⟩ | ⟨hk, hf, e1, e2⟩ | ⟨hk, hf, e1, e2⟩ | ⟨hk, hf, e1, e2⟩ | ⟨hk, hf, e1, e2⟩ | ⟨hk, hf, e1, e2⟩ | ⟨hk, hf⟩
 ·obtain ⟨k, s, rfl, rfl, hks, hs, h8⟩ := iC (iA hf)
  have e : S.ld (2147483648 + (k : Int)) s = ((((tk ((S.ram.drop k).take s) : Nat) : Int), true), S) := by
   unfold St.ld; rw [hf]; simp only; rw [show (2147483648 + (k : Int) - 2147483648).toNat = k by omega]; rfl
  rw [e]
  exact (FZ w h hw hn k s hks hs h8 hk).mono fun e w' hq => q hq
 ·obtain ⟨r, hr, rfl, hrn⟩ := gC (nQ hf)
  have e : S.ld (268435456 + (r : Int)) z = (((S.tel r).1, true), (S.tel r).2) := by unfold St.ld; rw [hf]; simp only; rw [hrn]
  rw [e]
  exact AY w h hn hw h64 r hr z hz hk
 ·have e : S.ld a z = ((0, true), S) := by simp only [St.ld, hf]
  rw [e]
  exact (GA w h hn a z ha hz hw hk).mono fun e w' hq => q hq
 ·have e : S.ld a z = ((S.msip, true), S) := by simp only [St.ld, hf]
  rw [e]
  exact (GB w h hn a z ha hz hw hk).mono fun e w' hq => q hq
 ·have e : S.ld a z = ((S.cmp, true), S) := by simp only [St.ld, hf]; rw [e1, e2]; rfl
  rw [e]
  exact (GC w h hn a z ha hz hw hk).mono fun e w' hq => q hq
 ·have e : S.ld a z = ((S.cmp % 4294967296, true), S) := by simp only [St.ld, hf]; rw [e1, e2]; rfl
  rw [e]
  exact (GD w h hn a z ha hz hw hk).mono fun e w' hq => q hq
 ·have e : S.ld a z = ((S.cmp / 4294967296, true), S) := by simp only [St.ld, hf]; rw [e1, e2]; rfl
  rw [e]
  exact (GE w h hn a z ha hz hw hk).mono fun e w' hq => q hq
 ·have e : S.ld a z = ((S.time, true), S) := by simp only [St.ld, hf]; rw [e1, e2]; rfl
  rw [e]
  exact (GF w h hn a z ha hz hw hk).mono fun e w' hq => q hq
 ·have e : S.ld a z = ((S.time % 4294967296, true), S) := by simp only [St.ld, hf]; rw [e1, e2]; rfl
  rw [e]
  exact (GG w h hn a z ha hz hw hk).mono fun e w' hq => q hq
 ·have e : S.ld a z = ((S.time / 4294967296, true), S) := by simp only [St.ld, hf]; rw [e1, e2]; rfl
  rw [e]
  exact (GH w h hn a z ha hz hw hk).mono fun e w' hq => q hq
 ·have e : S.ld a z = ((0, false), S) := by simp only [St.ld, hf]
  rw [e]
  exact (FY w h hn a z ha hz hw hk).mono fun e w' hq => q hq
def hlv (low : Bool) (N v : Int) : Int := if low = true then N / 4294967296 * 4294967296 + v % 4294967296 else v % 4294967296 * 4294967296 + N % 4294967296
theorem jL (low : Bool) (N v : Int) (hN : 0 ≤ N ∧ N ≤ 18446744073709551615) (hv : 0 ≤ v ∧ v ≤ 18446744073709551615) (w : World) : Calls prog 88 #[.bool low, .int .u64 N, .int .u64 v] w fun e w' => e = .returned (.int .u64 (hlv low N v)) ∧ w' = w := by
 have t1 : N.tdiv 4294967296 = N / 4294967296 := Int.tdiv_eq_ediv_of_nonneg hN.1
 have t2 : v.tmod 4294967296 = v % 4294967296 := Int.tmod_eq_emod_of_nonneg hv.1
 have t3 : N.tmod 4294967296 = N % 4294967296 := Int.tmod_eq_emod_of_nonneg hN.1
 have u1 : IntKind.u64.wrap (N / 4294967296) = N / 4294967296 := aU (by omega) (by omega)
 have u2 : IntKind.u64.wrap (N / 4294967296 * 4294967296) = N / 4294967296 * 4294967296 := aU (by omega) (by omega)
 have u3 : IntKind.u64.wrap (v % 4294967296 * 4294967296) = v % 4294967296 * 4294967296 := aU (by omega) (by omega)
 have u4 : IntKind.u64.wrap (N / 4294967296 * 4294967296 + v % 4294967296) = N / 4294967296 * 4294967296 + v % 4294967296 := aU (by omega) (by omega)
 have u5 : IntKind.u64.wrap (v % 4294967296 * 4294967296 + N % 4294967296) = v % 4294967296 * 4294967296 + N % 4294967296 := aU (by omega) (by omega)
 cases low with
 | true =>
  go_enter func88, ntmps88
  go_wp2
  go_ret
  exact ⟨rfl, rfl⟩
 | false =>
  go_enter func88, ntmps88
  go_wp2
  go_ret
  exact ⟨rfl, rfl⟩
theorem RSt.trans {B c : Nat} {vr vi vo ur ui uo tr ti to_ : Value} {S1 S2 : St} {w w1 w2 : World} (h1 : RSt B c vr vi vo w ur ui uo S1 w1) (h2 : RSt B c ur ui uo w1 tr ti to_ S2 w2) : RSt B c vr vi vo w tr ti to_ S2 w2 := by
 refine ⟨h2.r, ⟨h2.x.os.trans h1.x.os, h2.x.tape.trans h1.x.tape, h2.x.output.trans h1.x.output, Nat.le_trans h1.x.size h2.x.size, fun k hk hne => ?_⟩, fun k hk => ?_⟩
 ·rw [h2.x.block k (Nat.lt_of_lt_of_le hk h1.x.size) (fun e => ?_), h1.x.block k hk hne]
  rcases h1.o k e with e2 | e2
  ·exact hne e2
  ·omega
 ·rcases h2.o k hk with e | e
  ·exact h1.o k e
  ·exact .inr (Nat.le_trans h1.x.size e)
theorem xC {B c : Nat} {S : St} {vr vi vo : Value} (w : World) (h : RB B c S vr vi vo w) (v : Int) (hv : 0 ≤ v ∧ v ≤ 18446744073709551615) : Calls prog 87 #[.pointer (some ⟨c, 0, none⟩), .int .u64 v] w fun e w' => e = .returned (.tuple #[]) ∧ RSt B c vr vi vo w vr vi vo (S.fin v) w' := by
 have c13 : w.cell? ⟨c, 13, none⟩ = some (.int .i64 S.off) := h.cell 13
 have c14 : w.cell? ⟨c, 14, none⟩ = some (.int .i64 S.code) := h.cell 14
 have f13 := frozen_of_row w c 13 _ _ h.h
 have f14 := frozen_of_row w c 14 _ _ h.h
 have HP := hid h
 have t1 : v.tmod 65536 = v % 65536 := Int.tmod_eq_emod_of_nonneg hv.1
 have t2 : v.tdiv 65536 = v / 65536 := Int.tdiv_eq_ediv_of_nonneg hv.1
 have t3 : (v / 65536).tmod 65536 = v / 65536 % 65536 := Int.tmod_eq_emod_of_nonneg (by omega)
 have u1 : IntKind.u64.wrap (v / 65536) = v / 65536 := aU (by omega) (by omega)
 have u2 : wrap64 (v / 65536 % 65536) = v / 65536 % 65536 := by unfold wrap64; omega
 by_cases h0 : S.off = 0
 ·rw [h0] at c13
  by_cases h1 : v % 65536 = 21845
  ·have HT : Hid (S.fin v = { S with off := 1 }) := by unfold Hid St.fin; rw [if_pos h0, if_pos h1]
   generalize S.fin v = T at HT ⊢
   rw [h1] at t1
   clear h h0 h1 t2 t3 u1 u2
   go_enter func87, ntmps87
   go_wp2
   first | go_end0 | refine bodyPost_ret (results_none rfl _ _ _) rfl ?_
   refine ⟨rfl, ?_⟩
   rw [HT.out]
   exact HP.out.put 13 _ rfl rfl rfl rfl
  ·by_cases h2 : v % 65536 = 13107
   ·have HT : Hid (S.fin v = { S with off := 2, code := v / 65536 % 65536 }) := by unfold Hid St.fin; rw [if_pos h0, if_neg h1, if_pos h2]
    generalize S.fin v = T at HT ⊢
    rw [h2] at t1
    have HQ : Hid (RSt B c vr vi vo w vr vi vo { S with off := 2, code := v / 65536 % 65536 } ((w.setCell ⟨c, 13, none⟩ (.int .i64 2)).setCell ⟨c, 14, none⟩ (.int .i64 (v / 65536 % 65536)))) := (HP.out.put (T := { S with off := 2 }) 13 _ rfl rfl rfl rfl).trans ((HP.out.put (T := { S with off := 2 }) 13 _ rfl rfl rfl rfl).r.put 14 _ rfl rfl rfl rfl)
    generalize v / 65536 % 65536 = cd at *
    clear h h0 h1 h2
    go_enter func87, ntmps87
    go_wp2
    first | go_end0 | refine bodyPost_ret (results_none rfl _ _ _) rfl ?_
    refine ⟨rfl, ?_⟩
    rw [HT.out]
    exact HQ.out
   ·have HT : Hid (S.fin v = S) := by unfold Hid St.fin; rw [if_pos h0, if_neg h1, if_neg h2]
    generalize S.fin v = T at HT ⊢
    generalize v % 65536 = m at *
    clear h h0
    go_enter func87, ntmps87
    go_wp2
    first | go_end0 | refine bodyPost_ret (results_none rfl _ _ _) rfl ?_
    refine ⟨rfl, ?_⟩
    rw [HT.out]
    exact .quiet HP.out (Below.refl _ _)
 ·have HT : Hid (S.fin v = S) := by unfold Hid St.fin; rw [if_neg h0]
  generalize S.fin v = T at HT ⊢
  have h0' : (S.off == 0) = false := by simpa using h0
  clear h
  go_enter func87, ntmps87
  go_wp2
  first | go_end0 | refine bodyPost_ret (results_none rfl _ _ _) rfl ?_
  refine ⟨rfl, ?_⟩
  rw [HT.out]
  exact .quiet HP.out (Below.refl _ _)
theorem BO {B c : Nat} {S : St} {vr vi vo : Value} (w : World) (h : RB B c S vr vi vo w) (x : Int) (hx : 0 ≤ x ∧ x ≤ 255) : Calls prog 89 #[.pointer (some ⟨c, 0, none⟩), .int .i64 1, .int .u8 x] w fun e w' => e = .returned (.tuple #[]) ∧ RSt B c vr vi vo w vr vi vo { S with ier := x % 16 } w' := by
 have c1 : w.cell? ⟨c, 6, none⟩ = some (.int .u8 S.ier) := h.cell 6
 have f1 := frozen_of_row w c 6 _ _ h.h
 have HP : Hid (RSt B c vr vi vo w vr vi vo { S with ier := x % 16 } (w.setCell ⟨c, 6, none⟩ (.int .u8 (x % 16)))) := h.put 6 _ rfl rfl rfl rfl
 have t1 : x.tmod 16 = x % 16 := Int.tmod_eq_emod_of_nonneg hx.1
 have u1 : IntKind.u8.wrap (x % 16) = x % 16 := by rw [IntKind.wrap_u8]; omega
 generalize x % 16 = y at *
 clear h
 go_enter func89, ntmps89
 go_wp2
 first | go_end0 | refine bodyPost_ret (results_none rfl _ _ _) rfl ?_
 exact ⟨rfl, HP.out⟩
theorem BQ {B c : Nat} {S : St} {vr vi vo : Value} (w : World) (h : RB B c S vr vi vo w) (x : Int) (hx : 0 ≤ x ∧ x ≤ 255) : Calls prog 89 #[.pointer (some ⟨c, 0, none⟩), .int .i64 3, .int .u8 x] w fun e w' => e = .returned (.tuple #[]) ∧ RSt B c vr vi vo w vr vi vo { S with lcr := x } w' := by
 have c1 : w.cell? ⟨c, 7, none⟩ = some (.int .u8 S.lcr) := h.cell 7
 have f1 := frozen_of_row w c 7 _ _ h.h
 have HP : Hid (RSt B c vr vi vo w vr vi vo { S with lcr := x } (w.setCell ⟨c, 7, none⟩ (.int .u8 (x)))) := h.put 7 _ rfl rfl rfl rfl
 clear h
 go_enter func89, ntmps89
 go_wp2
 first | go_end0 | refine bodyPost_ret (results_none rfl _ _ _) rfl ?_
 exact ⟨rfl, HP.out⟩
theorem BR {B c : Nat} {S : St} {vr vi vo : Value} (w : World) (h : RB B c S vr vi vo w) (x : Int) (hx : 0 ≤ x ∧ x ≤ 255) : Calls prog 89 #[.pointer (some ⟨c, 0, none⟩), .int .i64 4, .int .u8 x] w fun e w' => e = .returned (.tuple #[]) ∧ RSt B c vr vi vo w vr vi vo { S with mcr := x % 32 } w' := by
 have c1 : w.cell? ⟨c, 8, none⟩ = some (.int .u8 S.mcr) := h.cell 8
 have f1 := frozen_of_row w c 8 _ _ h.h
 have HP : Hid (RSt B c vr vi vo w vr vi vo { S with mcr := x % 32 } (w.setCell ⟨c, 8, none⟩ (.int .u8 (x % 32)))) := h.put 8 _ rfl rfl rfl rfl
 have t1 : x.tmod 32 = x % 32 := Int.tmod_eq_emod_of_nonneg hx.1
 have u1 : IntKind.u8.wrap (x % 32) = x % 32 := by rw [IntKind.wrap_u8]; omega
 generalize x % 32 = y at *
 clear h
 go_enter func89, ntmps89
 go_wp2
 first | go_end0 | refine bodyPost_ret (results_none rfl _ _ _) rfl ?_
 exact ⟨rfl, HP.out⟩
theorem BU {B c : Nat} {S : St} {vr vi vo : Value} (w : World) (h : RB B c S vr vi vo w) (x : Int) (hx : 0 ≤ x ∧ x ≤ 255) : Calls prog 89 #[.pointer (some ⟨c, 0, none⟩), .int .i64 7, .int .u8 x] w fun e w' => e = .returned (.tuple #[]) ∧ RSt B c vr vi vo w vr vi vo { S with scr := x } w' := by
 have c1 : w.cell? ⟨c, 9, none⟩ = some (.int .u8 S.scr) := h.cell 9
 have f1 := frozen_of_row w c 9 _ _ h.h
 have HP : Hid (RSt B c vr vi vo w vr vi vo { S with scr := x } (w.setCell ⟨c, 9, none⟩ (.int .u8 (x)))) := h.put 9 _ rfl rfl rfl rfl
 clear h
 go_enter func89, ntmps89
 go_wp2
 first | go_end0 | refine bodyPost_ret (results_none rfl _ _ _) rfl ?_
 exact ⟨rfl, HP.out⟩
theorem BS {B c : Nat} {S : St} {vr vi vo : Value} (w : World) (h : RB B c S vr vi vo w) (x : Int) : Calls prog 89 #[.pointer (some ⟨c, 0, none⟩), .int .i64 5, .int .u8 x] w fun e w' => e = .returned (.tuple #[]) ∧ w' = w := by
 clear h
 go_enter func89, ntmps89
 go_wp2
 first | go_end0 | refine bodyPost_ret (results_none rfl _ _ _) rfl ?_
 exact ⟨rfl, rfl⟩
theorem BT {B c : Nat} {S : St} {vr vi vo : Value} (w : World) (h : RB B c S vr vi vo w) (x : Int) : Calls prog 89 #[.pointer (some ⟨c, 0, none⟩), .int .i64 6, .int .u8 x] w fun e w' => e = .returned (.tuple #[]) ∧ w' = w := by
 clear h
 go_enter func89, ntmps89
 go_wp2
 first | go_end0 | refine bodyPost_ret (results_none rfl _ _ _) rfl ?_
 exact ⟨rfl, rfl⟩
theorem BP {B c : Nat} {S : St} {vr vi vo : Value} (w : World) (h : RB B c S vr vi vo w) (x : Int) (hx : 0 ≤ x ∧ x ≤ 255) : Calls prog 89 #[.pointer (some ⟨c, 0, none⟩), .int .i64 2, .int .u8 x] w fun e w' => e = .returned (.tuple #[]) ∧ ∃ ui, RSt B c vr vi vo w vr ui vo (if x / 2 % 2 = 1 then { S with inp := [] } else S) w' := by
 have c11 : w.cell? ⟨c, 11, none⟩ = some vi := h.cell 11
 have f11 := frozen_of_row w c 11 _ _ h.h
 have t1 : x.tdiv 2 = x / 2 := Int.tdiv_eq_ediv_of_nonneg hx.1
 have t2 : (x / 2).tmod 2 = x / 2 % 2 := Int.tmod_eq_emod_of_nonneg (by omega)
 have u1 : IntKind.u8.wrap (x / 2) = x / 2 := by rw [IntKind.wrap_u8]; omega
 have HP := hid h
 obtain ⟨ai, ci, ei, _⟩ := Byt.of_own h.s.i
 have HEI := hid ei
 rw [ei] at c11
 by_cases hb : x / 2 % 2 = 1
 ·rw [if_pos hb]
  rw [hb] at t2
  clear h hb ei
  go_enter func89, ntmps89
  go_wp2
  first | go_end0 | refine bodyPost_ret (results_none rfl _ _ _) rfl ?_
  refine ⟨rfl, .slice none 0 0, ?_⟩
  exact HP.out.inp ((Exc.refl _ w).set c 11 _ (.inl rfl)) (.slice none 0 0) [] rfl rfl rfl (heap_setCell_same w c 11 _ _ _ HP.out.h) (World.ownsRow_nil _ _ _ _) (fun k hk => by cases hk)
 ·rw [if_neg hb]
  generalize x / 2 % 2 = m at *
  clear h ei
  go_enter func89, ntmps89
  go_wp2
  first | go_end0 | refine bodyPost_ret (results_none rfl _ _ _) rfl ?_
  exact ⟨rfl, vi, .quiet HP.out (Below.refl _ _)⟩
theorem BN {B c : Nat} {S : St} {vr vi vo : Value} (w : World) (h : RB B c S vr vi vo w) (x : Int) : Calls prog 89 #[.pointer (some ⟨c, 0, none⟩), .int .i64 0, .int .u8 x] w fun e w' => e = .returned (.tuple #[]) ∧ ∃ uo, RSt B c vr vi vo w vr vi uo (S.sen x) w' := by
 have HP := hid h
 have c12 : w.cell? ⟨c, 12, none⟩ = some vo := h.cell 12
 obtain ⟨ao, co, eo, _⟩ := Byt.of_own h.s.o
 have HEO := hid eo
 by_cases hlt : S.out.length < 4096
 ·have HT : Hid (S.sen x = { S with out := S.out ++ [x] }) := by unfold Hid St.sen; rw [if_pos hlt]
  generalize S.sen x = T at HT ⊢
  have n1 : (S.out.length : Int) < 4096 := by omega
  obtain ⟨w1, hw1⟩ : ∃ w1, w.alloc (.cells #[.int .u8 x] 5) = w1 := ⟨_, rfl⟩
  have hb1 : Below w.heap.size w w1 := by rw [← hw1]; exact (Below.refl _ _).alloc (Nat.le_refl _) _
  have HOW : Hid (w1.ownsRow B 5 1 vo S.out.length (bv S.out)) := dC h.s.o hb1 rfl
  have HBY : Hid (Byt w1 (.slice (some ⟨w.heap.size, 0, none⟩) 1 1) [x]) := ⟨some ⟨w.heap.size, 0, none⟩, 1, rfl, Nat.le_refl _, fun e => (by cases e), fun _ => ⟨w.heap.size, 0, rfl, by rw [← hw1]; simp, fun j hj => by
   have hj0 : j = 0 := by simpa using hj
   subst hj0
   rw [← hw1]; simp⟩⟩
  have HBL : Hid (B ≤ w1.heap.size) := Nat.le_trans (Nat.le_trans h.l (Nat.le_of_lt h.lt)) hb1.size
  have HLL : Hid (S.out.length + [x].length ≤ 140737488355328) := by unfold Hid; simp; omega
  have HR1 : Hid (w1.heap[c]? = some (.cells (stc S vr vi vo) 89 (0, 0))) := (hb1.block c h.lt).trans h.h
  have HVC : Hid (∀ k, vo.ownBlock = some k → k ≠ c) := fun k hk => bS h.s.o h.h (by decide) k hk
  have HB1 := hid hb1
  have HW1 := hid hw1
  rw [eo] at c12
  clear h hw1 hb1 hlt eo
  go_enter func89, ntmps89
  go_wp2_with (at_builtin; rw [HW1.out]; refine yC (by rfl) _ _ (by rfl) B vo _ S.out [x] (by exact HEO.out.symm) HOW.out (by rfl) HBY.out HLL.out HBL.out ?_; intro v' w2 ho hg hl2; obtain ⟨a9, c9, e9, _⟩ := Byt.of_own ho; obtain ⟨n9, hn9⟩ : ∃ n, n = (S.out ++ [x]).length := ⟨_, rfl⟩; rw [← hn9] at e9; clear hn9; subst e9; have HO := hid ho; have HG : Hid (World.grownBy w1 w2 vo.ownBlock) := hg; have HL : Hid ((Value.slice a9 n9 c9).ownBlock = vo.ownBlock ∨ (Value.slice a9 n9 c9).ownBlock = some w1.heap.size) := hl2; have hq2 := (HG.out.block c (Array.getElem?_eq_some_iff.1 HR1.out).1 (fun e => HVC.out _ e.symm rfl)).trans HR1.out; have d3 : w2.cell? ⟨c, 12, none⟩ = some vo := cell_of_row w2 c 12 _ _ _ hq2; have g3 := frozen_of_row w2 c 12 _ _ hq2; have HR2 : Hid (w2.heap[c]? = some (.cells (stc S vr vi vo) 89 (0, 0))) := hq2; clear ho hg hl2 hq2)
  first | go_end0 | refine bodyPost_ret (results_none rfl _ _ _) rfl ?_
  refine ⟨rfl, .slice a9 n9 c9, ?_⟩
  have x1 : Exc (fun k => k = c ∨ vo.ownBlock = some k) w w1 := Exc.of_below HB1.out rfl
  have x2 : Exc (fun k => k = c ∨ vo.ownBlock = some k) w1 w2 := ⟨HG.out.os, HG.out.tape, HG.out.output, HG.out.size, fun k hk hne => HG.out.block k hk (fun e => hne (.inr e.symm))⟩
  rw [HT.out]
  refine HP.out.out ((x1.trans x2).set c 12 _ (.inl rfl)) (.slice a9 n9 c9) (S.out ++ [x]) rfl rfl rfl (heap_setCell_same w2 c 12 _ _ _ HR2.out) (aJ HO.out HR2.out (by decide)) (fun k hk => ?_)
  rcases HL.out with e | e
  ·exact .inl (by rw [← e]; exact hk)
  ·right
   have e2 : k = w1.heap.size := by rw [hk] at e; exact Option.some.inj e
   rw [e2]; exact HB1.out.size
 ·have HT : Hid (S.sen x = S) := by unfold Hid St.sen; rw [if_neg hlt]
  generalize S.sen x = T at HT ⊢
  have n1 : ¬ (S.out.length : Int) < 4096 := by omega
  rw [eo] at c12
  clear h hlt eo
  go_enter func89, ntmps89
  go_wp2
  first | go_end0 | refine bodyPost_ret (results_none rfl _ _ _) rfl ?_
  refine ⟨rfl, vo, ?_⟩
  rw [HT.out]
  exact .quiet HP.out (Below.refl _ _)
theorem BV {B c : Nat} {S : St} {vr vi vo : Value} (w : World) (h : RB B c S vr vi vo w) (r : Nat) (hr : r < 8) (v : Int) (hv : 0 ≤ v) : Calls prog 89 #[.pointer (some ⟨c, 0, none⟩), .int .i64 r, .int .u8 (v % 256)] w fun e w' => e = .returned (.tuple #[]) ∧ ∃ ur ui uo, RSt B c vr vi vo w ur ui uo (S.tak r v) w' := by
 have hx : 0 ≤ v % 256 ∧ v % 256 ≤ 255 := by omega
 have m16 : v % 256 % 16 = v % 16 := by omega
 have m32 : v % 256 % 32 = v % 32 := by omega
 have m2 : v % 256 / 2 % 2 = v / 2 % 2 := by omega
 rcases dV hr with rfl | rfl | rfl | rfl | rfl | rfl | rfl | rfl
 ·exact (BN w h (v % 256)).mono fun e w' ⟨he, uo, hx⟩ => ⟨he, vr, vi, uo, hx⟩
 ·have e : S.tak 1 v = { S with ier := v % 256 % 16 } := by rw [m16]; rfl
  rw [e]
  exact (BO w h (v % 256) hx).mono fun e w' ⟨he, hx⟩ => ⟨he, vr, vi, vo, hx⟩
 ·have e : S.tak 2 v = (if v % 256 / 2 % 2 = 1 then { S with inp := [] } else S) := by rw [m2]; rfl
  rw [e]
  exact (BP w h (v % 256) hx).mono fun e w' ⟨he, ui, hx⟩ => ⟨he, vr, ui, vo, hx⟩
 ·exact (BQ w h (v % 256) hx).mono fun e w' ⟨he, hx⟩ => ⟨he, vr, vi, vo, hx⟩
 ·have e : S.tak 4 v = { S with mcr := v % 256 % 32 } := by rw [m32]; rfl
  rw [e]
  exact (BR w h (v % 256) hx).mono fun e w' ⟨he, hx⟩ => ⟨he, vr, vi, vo, hx⟩
 ·exact (BS w h (v % 256)).mono fun e w' ⟨he, hw'⟩ => ⟨he, vr, vi, vo, by rw [hw']; exact .quiet h (Below.refl _ _)⟩
 ·exact (BT w h (v % 256)).mono fun e w' ⟨he, hw'⟩ => ⟨he, vr, vi, vo, by rw [hw']; exact .quiet h (Below.refl _ _)⟩
 ·exact (BU w h (v % 256) hx).mono fun e w' ⟨he, hx⟩ => ⟨he, vr, vi, vo, hx⟩
theorem jD {α : Type} (l cs : List α) (k : Nat) (h : k + cs.length ≤ l.length) : (splice l k cs).length = l.length := by
 unfold splice
 simp only [List.length_append, List.length_take, List.length_drop]
 omega
theorem tC (l : List Int) (k : Nat) (cs : List Int) (x : Int) (h : k + cs.length < l.length) : (splice l k cs).set (k + cs.length) x = splice l k (cs ++ [x]) := by
 apply List.ext_getElem?
 intro i
 rw [List.getElem?_set, mU l cs k (by omega), mU l (cs ++ [x]) k (by simp; omega), jD _ _ _ (by omega)]
 by_cases e : k + cs.length = i
 ·subst e
  rw [if_pos rfl, if_pos h, if_pos (by simp), show k + cs.length - k = cs.length by omega]
  simp
 ·rw [if_neg e]
  by_cases e2 : k ≤ i ∧ i < k + cs.length
  ·rw [if_pos e2, if_pos (by simp; omega), List.getElem?_append_left (by omega)]
  ·rw [if_neg e2, if_neg (by simp; omega)]
theorem AK (S : St) (k j N : Nat) (h : k + j < S.ram.length) : { S.put k j N with ram := (S.put k j N).ram.set (k + j) ((N / 256 ^ j % 256 : Nat) : Int) } = S.put k (j + 1) N := by
 unfold St.put
 have e := tC S.ram k (ptL N j) ((N / 256 ^ j % 256 : Nat) : Int) (by rw [bL]; exact h)
 rw [bL, ← rI] at e
 simp only [e]
theorem AL (S : St) (k N : Nat) : S.put k 0 N = S := by
 unfold St.put splice
 simp [ptL]
theorem BE {B c : Nat} {S : St} {vr vi vo : Value} (w : World) (h : RB B c S vr vi vo w) (hn : S.ram.length ≤ 65536) (k s : Nat) (hk : k + s ≤ S.ram.length) (hs : 0 < s) (h8 : s ≤ 8) (hr : rch S.ram.length (2147483648 + (k : Int)) s = 1) (N : Nat) (hN : N < 18446744073709551616) :
  Calls prog 61 #[.pointer (some ⟨c, 0, none⟩), .int .u64 (2147483648 + (k : Int)), .int .i64 s, .int .u64 (N : Int)] w fun e w' => e = .returned (.bool true) ∧ RSt B c vr vi vo w vr vi vo (S.put k s N) w' := by
 have HR := cE w h hn (2147483648 + (k : Int)) s (by omega) (by omega)
 rw [hr] at HR
 obtain ⟨g, cap, ev⟩ := h.ram (by omega)
 have HV := hid ev
 have HLN : Hid (∀ j, j ≤ s → (S.put k j N).ram.length = S.ram.length) := fun j hj => jD _ _ _ (by rw [bL]; omega)
 have HP := hid h
 have e1 : (2147483648 + (k : Int) - 2147483648) = k := by omega
 have e2 : IntKind.u64.wrap (k : Int) = k := aU (by omega) (by omega)
 have hs0 : 0 < (s : Int) := by omega
 have HZ : Hid (S.put k 0 N = S) := AL S k N
 have HST : Hid (∀ j, j < s → { S.put k j N with ram := (S.put k j N).ram.set (k + j) ((N / 256 ^ j % 256 : Nat) : Int) } = S.put k (j + 1) N) := fun j hj => AK S k j N (by omega)
 have HNB := hid hN
 clear h hr ev hN
 go_enter func61, ntmps61
 go_wp2_with (go_at_call 85; refine HR.mono ?_; rintro e w1 ⟨rfl, hww⟩; have hw2 := hww.symm; subst hw2)
 go_loopw [3, 11] (fun v i wr => ∃ j : Nat, j ≤ s ∧ i = .int .i64 j ∧ v = .int .u64 ((N / 256 ^ j : Nat) : Int) ∧ Hid (RB B c (S.put k j N) vr vi vo wr) ∧ Hid (Exc (eU c vr vi vo) w wr)) (fun _ i _ => s - (intOf i).toNat)
 case atStart => exact ⟨0, Nat.zero_le _, rfl, by simp, by unfold Hid; rw [HZ.out]; exact HP.out, Exc.refl _ _⟩
 case round =>
  obtain ⟨j, hj, rfl, rfl, hrb, hex⟩ := hrel
  by_cases hlt : j < s
  ·have hlt2 : (j : Int) < (s : Int) := by omega
   have hvl : vr = .slice (some ⟨g, 0, none⟩) (S.put k j N).ram.length cap := by rw [HLN.out j hj]; exact HV.out
   have c0 : wr.cell? ⟨c, 0, none⟩ = some (.slice (some ⟨g, 0, none⟩) S.ram.length cap) := by rw [← HV.out]; exact hrb.out.cell 0
   have hown := hrb.out.s.r
   rw [hvl] at hown
   have hc1 : ∃ u, wr.cell? ⟨g, k + j, none⟩ = some u := ⟨_, by rw [hown.cellAt (k + j) (by rw [HLN.out j hj]; omega), fC _ _ (by rw [HLN.out j hj]; omega)]⟩
   obtain ⟨u, hc1⟩ := hc1
   have hf1 : wr.frozen? ⟨g, k + j, none⟩ = false := by
    rcases hown.2 with ⟨q0, _⟩ | ⟨g', cap', cur, ee, _, hrow, _⟩
    ·cases q0
    ·cases ee; exact frozen_of_row wr g (k + j) _ _ hrow
   have HB : Hid (RB B c (S.put k (j + 1) N) vr vi vo (wr.setCell ⟨g, k + j, none⟩ (.int .u8 ((N / 256 ^ j % 256 : Nat) : Int)))) := by
    unfold Hid
    rw [← HST.out j hlt]
    exact hrb.out.byte hvl (k + j) (by rw [HLN.out j hj]; omega) _
   have HX : Hid (Exc (eU c vr vi vo) w (wr.setCell ⟨g, k + j, none⟩ (.int .u8 ((N / 256 ^ j % 256 : Nat) : Int)))) := hex.out.set g (k + j) _ (.inr (.inl (by rw [HV.out]; rfl)))
   have HDV : Hid (N / 256 ^ (j + 1) = N / 256 ^ j / 256) := by unfold Hid; rw [Nat.pow_succ, Nat.div_div_eq_div_mul]
   have HMB : Hid (N / 256 ^ j ≤ N) := Nat.div_le_self _ _
   generalize N / 256 ^ j = M at *
   have hMb : M < 18446744073709551616 := by have := HMB.out; have := HNB.out; omega
   have hkj : (k : Int) + j < (S.ram.length : Int) := by omega
   have t1 : (M : Int).tmod 256 = ((M % 256 : Nat) : Int) := by rw [Int.tmod_eq_emod_of_nonneg (by omega)]; omega
   have u1 : IntKind.u8.wrap ((M % 256 : Nat) : Int) = ((M % 256 : Nat) : Int) := by rw [IntKind.wrap_u8]; omega
   have t2 : (M : Int).tdiv 256 = ((M / 256 : Nat) : Int) := by rw [Int.tdiv_eq_ediv_of_nonneg (by omega)]; omega
   have u2 : IntKind.u64.wrap ((M / 256 : Nat) : Int) = ((M / 256 : Nat) : Int) := aU (by omega) (by omega)
   generalize hmm : ((M % 256 : Nat) : Int) = mm at *
   generalize hmd : ((M / 256 : Nat) : Int) = md at *
   clear hown hmm
   go_wp2
   go_roundw
   case rel => exact ⟨j + 1, by omega, by go_num, by rw [HDV.out, hmd], HB, HX⟩
   case measure => simp [intOf]; omega
  ·obtain rfl : j = s := by omega
   clear hlt
   go_wp2
   go_ret
   exact ⟨rfl, .same hrb.out hex.out⟩
theorem BD {B c : Nat} {S : St} {vr vi vo : Value} (w : World) (h : RB B c S vr vi vo w) (hn : S.ram.length ≤ 65536) (a z : Int) (ha : 0 ≤ a ∧ a ≤ 18446744073709551615) (hz : -9223372036854775808 ≤ z ∧ z ≤ 9223372036854775807) (hk : rch S.ram.length a z = 0) (v : Int) :
  Calls prog 61 #[.pointer (some ⟨c, 0, none⟩), .int .u64 a, .int .i64 z, .int .u64 v] w fun e w' => e = .returned (.bool false) ∧ RSt B c vr vi vo w vr vi vo S w' := by
 have HR := cE w h hn a z ha hz
 rw [hk] at HR
 have HP := hid h
 clear h hk ha hz
 go_enter func61, ntmps61
 go_wp2_with (go_at_call 85; refine HR.mono ?_; rintro e w1 ⟨rfl, hww⟩; have hw2 := hww.symm; subst hw2)
 go_ret
 exact ⟨rfl, .quiet HP.out (Below.refl _ _)⟩
theorem BF {B c : Nat} {S : St} {vr vi vo : Value} (w : World) (h : RB B c S vr vi vo w) (hn : S.ram.length ≤ 65536) (a z : Int) (ha : 0 ≤ a ∧ a ≤ 18446744073709551615) (hz : -9223372036854775808 ≤ z ∧ z ≤ 9223372036854775807) (hk : rch S.ram.length a z = 2) (v : Int) (hv : 0 ≤ v ∧ v ≤ 18446744073709551615) :
  Calls prog 61 #[.pointer (some ⟨c, 0, none⟩), .int .u64 a, .int .i64 z, .int .u64 v] w fun e w' => e = .returned (.bool true) ∧ RSt B c vr vi vo w vr vi vo (S.fin v) w' := by
 have HR := cE w h hn a z ha hz
 rw [hk] at HR
 have HPW := xC w h v hv
 clear h hk ha hz hv
 go_enter func61, ntmps61
 go_wp2_with (first | (go_at_call 85; refine HR.mono ?_; rintro e w1 ⟨rfl, hww⟩; have hw2 := hww.symm; subst hw2) | (go_at_call 87; refine HPW.mono ?_; rintro e w1 ⟨rfl, hx⟩; have HX : Hid _ := hx; clear hx))
 go_ret
 exact ⟨rfl, HX.out⟩
theorem BG {B c : Nat} {S : St} {vr vi vo : Value} (w : World) (h : RB B c S vr vi vo w) (hn : S.ram.length ≤ 65536) (a z : Int) (ha : 0 ≤ a ∧ a ≤ 18446744073709551615) (hz : -9223372036854775808 ≤ z ∧ z ≤ 9223372036854775807) (hk : rch S.ram.length a z = 3) (v : Int) (hv : 0 ≤ v ∧ v ≤ 18446744073709551615) :
  Calls prog 61 #[.pointer (some ⟨c, 0, none⟩), .int .u64 a, .int .i64 z, .int .u64 v] w fun e w' => e = .returned (.bool true) ∧ RSt B c vr vi vo w vr vi vo { S with msip := v % 2 } w' := by
 have HR := cE w h hn a z ha hz
 rw [hk] at HR
 have c1 : w.cell? ⟨c, 1, none⟩ = some (.int .u32 S.msip) := h.cell 1
 have f1 := frozen_of_row w c 1 _ _ h.h
 have HP : Hid (RSt B c vr vi vo w vr vi vo { S with msip := v % 2 } (w.setCell ⟨c, 1, none⟩ (.int .u32 (v % 2)))) := h.put 1 _ rfl rfl rfl rfl
 have t1 : v.tmod 2 = v % 2 := Int.tmod_eq_emod_of_nonneg hv.1
 have u1 : IntKind.u32.wrap (v % 2) = v % 2 := by rw [IntKind.wrap_u32]; omega
 generalize v % 2 = m at *
 clear h hk ha hz hv
 go_enter func61, ntmps61
 go_wp2_with (go_at_call 85; refine HR.mono ?_; rintro e w1 ⟨rfl, hww⟩; have hw2 := hww.symm; subst hw2)
 go_ret
 exact ⟨rfl, HP.out⟩
theorem BH {B c : Nat} {S : St} {vr vi vo : Value} (w : World) (h : RB B c S vr vi vo w) (hn : S.ram.length ≤ 65536) (a z : Int) (ha : 0 ≤ a ∧ a ≤ 18446744073709551615) (hz : -9223372036854775808 ≤ z ∧ z ≤ 9223372036854775807) (hk : rch S.ram.length a z = 4) (v : Int) :
  Calls prog 61 #[.pointer (some ⟨c, 0, none⟩), .int .u64 a, .int .i64 z, .int .u64 v] w fun e w' => e = .returned (.bool true) ∧ RSt B c vr vi vo w vr vi vo { S with cmp := v } w' := by
 have HR := cE w h hn a z ha hz
 rw [hk] at HR
 have c1 : w.cell? ⟨c, 2, none⟩ = some (.int .u64 S.cmp) := h.cell 2
 have f1 := frozen_of_row w c 2 _ _ h.h
 have HP : Hid (RSt B c vr vi vo w vr vi vo { S with cmp := v } (w.setCell ⟨c, 2, none⟩ (.int .u64 v))) := h.put 2 _ rfl rfl rfl rfl
 clear h hk ha hz
 go_enter func61, ntmps61
 go_wp2_with (go_at_call 85; refine HR.mono ?_; rintro e w1 ⟨rfl, hww⟩; have hw2 := hww.symm; subst hw2)
 go_ret
 exact ⟨rfl, HP.out⟩
theorem BK {B c : Nat} {S : St} {vr vi vo : Value} (w : World) (h : RB B c S vr vi vo w) (hn : S.ram.length ≤ 65536) (a z : Int) (ha : 0 ≤ a ∧ a ≤ 18446744073709551615) (hz : -9223372036854775808 ≤ z ∧ z ≤ 9223372036854775807) (hk : rch S.ram.length a z = 7) (v : Int) :
  Calls prog 61 #[.pointer (some ⟨c, 0, none⟩), .int .u64 a, .int .i64 z, .int .u64 v] w fun e w' => e = .returned (.bool true) ∧ RSt B c vr vi vo w vr vi vo { S with time := v } w' := by
 have HR := cE w h hn a z ha hz
 rw [hk] at HR
 have c1 : w.cell? ⟨c, 3, none⟩ = some (.int .u64 S.time) := h.cell 3
 have f1 := frozen_of_row w c 3 _ _ h.h
 have HP : Hid (RSt B c vr vi vo w vr vi vo { S with time := v } (w.setCell ⟨c, 3, none⟩ (.int .u64 v))) := h.put 3 _ rfl rfl rfl rfl
 clear h hk ha hz
 go_enter func61, ntmps61
 go_wp2_with (go_at_call 85; refine HR.mono ?_; rintro e w1 ⟨rfl, hww⟩; have hw2 := hww.symm; subst hw2)
 go_ret
 exact ⟨rfl, HP.out⟩
theorem BI {B c : Nat} {S : St} {vr vi vo : Value} (w : World) (h : RB B c S vr vi vo w) (hn : S.ram.length ≤ 65536) (a z : Int) (ha : 0 ≤ a ∧ a ≤ 18446744073709551615) (hz : -9223372036854775808 ≤ z ∧ z ≤ 9223372036854775807) (hk : rch S.ram.length a z = 5) (v : Int) (hv : 0 ≤ v ∧ v ≤ 18446744073709551615) (hN : 0 ≤ S.cmp ∧ S.cmp ≤ 18446744073709551615) :
  Calls prog 61 #[.pointer (some ⟨c, 0, none⟩), .int .u64 a, .int .i64 z, .int .u64 v] w fun e w' => e = .returned (.bool true) ∧ RSt B c vr vi vo w vr vi vo { S with cmp := hlv true S.cmp v } w' := by
 have HR := cE w h hn a z ha hz
 rw [hk] at HR
 have c1 : w.cell? ⟨c, 2, none⟩ = some (.int .u64 S.cmp) := h.cell 2
 have f1 := frozen_of_row w c 2 _ _ h.h
 have HP : Hid (RSt B c vr vi vo w vr vi vo { S with cmp := hlv true S.cmp v } (w.setCell ⟨c, 2, none⟩ (.int .u64 (hlv true S.cmp v)))) := h.put 2 _ rfl rfl rfl rfl
 have HH := jL true S.cmp v hN hv w
 generalize hlv true S.cmp v = y at *
 clear h hk ha hz hv hN
 go_enter func61, ntmps61
 go_wp2_with (first | (go_at_call 85; refine HR.mono ?_; rintro e w1 ⟨rfl, hww⟩; have hw2 := hww.symm; subst hw2) | (go_at_call 88; refine HH.mono ?_; rintro e w1 ⟨rfl, hww⟩; have hw2 := hww.symm; subst hw2))
 go_ret
 exact ⟨rfl, HP.out⟩
theorem BJ {B c : Nat} {S : St} {vr vi vo : Value} (w : World) (h : RB B c S vr vi vo w) (hn : S.ram.length ≤ 65536) (a z : Int) (ha : 0 ≤ a ∧ a ≤ 18446744073709551615) (hz : -9223372036854775808 ≤ z ∧ z ≤ 9223372036854775807) (hk : rch S.ram.length a z = 6) (v : Int) (hv : 0 ≤ v ∧ v ≤ 18446744073709551615) (hN : 0 ≤ S.cmp ∧ S.cmp ≤ 18446744073709551615) :
  Calls prog 61 #[.pointer (some ⟨c, 0, none⟩), .int .u64 a, .int .i64 z, .int .u64 v] w fun e w' => e = .returned (.bool true) ∧ RSt B c vr vi vo w vr vi vo { S with cmp := hlv false S.cmp v } w' := by
 have HR := cE w h hn a z ha hz
 rw [hk] at HR
 have c1 : w.cell? ⟨c, 2, none⟩ = some (.int .u64 S.cmp) := h.cell 2
 have f1 := frozen_of_row w c 2 _ _ h.h
 have HP : Hid (RSt B c vr vi vo w vr vi vo { S with cmp := hlv false S.cmp v } (w.setCell ⟨c, 2, none⟩ (.int .u64 (hlv false S.cmp v)))) := h.put 2 _ rfl rfl rfl rfl
 have HH := jL false S.cmp v hN hv w
 generalize hlv false S.cmp v = y at *
 clear h hk ha hz hv hN
 go_enter func61, ntmps61
 go_wp2_with (first | (go_at_call 85; refine HR.mono ?_; rintro e w1 ⟨rfl, hww⟩; have hw2 := hww.symm; subst hw2) | (go_at_call 88; refine HH.mono ?_; rintro e w1 ⟨rfl, hww⟩; have hw2 := hww.symm; subst hw2))
 go_ret
 exact ⟨rfl, HP.out⟩
theorem BL {B c : Nat} {S : St} {vr vi vo : Value} (w : World) (h : RB B c S vr vi vo w) (hn : S.ram.length ≤ 65536) (a z : Int) (ha : 0 ≤ a ∧ a ≤ 18446744073709551615) (hz : -9223372036854775808 ≤ z ∧ z ≤ 9223372036854775807) (hk : rch S.ram.length a z = 8) (v : Int) (hv : 0 ≤ v ∧ v ≤ 18446744073709551615) (hN : 0 ≤ S.time ∧ S.time ≤ 18446744073709551615) :
  Calls prog 61 #[.pointer (some ⟨c, 0, none⟩), .int .u64 a, .int .i64 z, .int .u64 v] w fun e w' => e = .returned (.bool true) ∧ RSt B c vr vi vo w vr vi vo { S with time := hlv true S.time v } w' := by
 have HR := cE w h hn a z ha hz
 rw [hk] at HR
 have c1 : w.cell? ⟨c, 3, none⟩ = some (.int .u64 S.time) := h.cell 3
 have f1 := frozen_of_row w c 3 _ _ h.h
 have HP : Hid (RSt B c vr vi vo w vr vi vo { S with time := hlv true S.time v } (w.setCell ⟨c, 3, none⟩ (.int .u64 (hlv true S.time v)))) := h.put 3 _ rfl rfl rfl rfl
 have HH := jL true S.time v hN hv w
 generalize hlv true S.time v = y at *
 clear h hk ha hz hv hN
 go_enter func61, ntmps61
 go_wp2_with (first | (go_at_call 85; refine HR.mono ?_; rintro e w1 ⟨rfl, hww⟩; have hw2 := hww.symm; subst hw2) | (go_at_call 88; refine HH.mono ?_; rintro e w1 ⟨rfl, hww⟩; have hw2 := hww.symm; subst hw2))
 go_ret
 exact ⟨rfl, HP.out⟩
theorem BM {B c : Nat} {S : St} {vr vi vo : Value} (w : World) (h : RB B c S vr vi vo w) (hn : S.ram.length ≤ 65536) (a z : Int) (ha : 0 ≤ a ∧ a ≤ 18446744073709551615) (hz : -9223372036854775808 ≤ z ∧ z ≤ 9223372036854775807) (hk : rch S.ram.length a z = 9) (v : Int) (hv : 0 ≤ v ∧ v ≤ 18446744073709551615) (hN : 0 ≤ S.time ∧ S.time ≤ 18446744073709551615) :
  Calls prog 61 #[.pointer (some ⟨c, 0, none⟩), .int .u64 a, .int .i64 z, .int .u64 v] w fun e w' => e = .returned (.bool true) ∧ RSt B c vr vi vo w vr vi vo { S with time := hlv false S.time v } w' := by
 have HR := cE w h hn a z ha hz
 rw [hk] at HR
 have c1 : w.cell? ⟨c, 3, none⟩ = some (.int .u64 S.time) := h.cell 3
 have f1 := frozen_of_row w c 3 _ _ h.h
 have HP : Hid (RSt B c vr vi vo w vr vi vo { S with time := hlv false S.time v } (w.setCell ⟨c, 3, none⟩ (.int .u64 (hlv false S.time v)))) := h.put 3 _ rfl rfl rfl rfl
 have HH := jL false S.time v hN hv w
 generalize hlv false S.time v = y at *
 clear h hk ha hz hv hN
 go_enter func61, ntmps61
 go_wp2_with (first | (go_at_call 85; refine HR.mono ?_; rintro e w1 ⟨rfl, hww⟩; have hw2 := hww.symm; subst hw2) | (go_at_call 88; refine HH.mono ?_; rintro e w1 ⟨rfl, hww⟩; have hw2 := hww.symm; subst hw2))
 go_ret
 exact ⟨rfl, HP.out⟩
theorem xD {B c : Nat} {S : St} {vr vi vo : Value} (w : World) (h : RB B c S vr vi vo w) (hn : S.ram.length ≤ 65536) (r : Nat) (hr : r < 8) (z : Int) (hz : -9223372036854775808 ≤ z ∧ z ≤ 9223372036854775807) (hk : rch S.ram.length (268435456 + (r : Int)) z = 10) (v : Int) (hv : 0 ≤ v ∧ v ≤ 18446744073709551615) :
  Calls prog 61 #[.pointer (some ⟨c, 0, none⟩), .int .u64 (268435456 + (r : Int)), .int .i64 z, .int .u64 v] w fun e w' => e = .returned (.bool true) ∧ ∃ ur ui uo, RSt B c vr vi vo w ur ui uo (S.tak r v) w' := by
 have HR := cE w h hn (268435456 + (r : Int)) z (by omega) hz
 rw [hk] at HR
 have HT := BV w h r hr v hv.1
 have e1 : (268435456 + (r : Int) - 268435456) = r := by omega
 have e2 : IntKind.u64.wrap (r : Int) = r := aU (by omega) (by omega)
 have t1 : v.tmod 256 = v % 256 := Int.tmod_eq_emod_of_nonneg hv.1
 have u1 : IntKind.u8.wrap (v % 256) = v % 256 := by rw [IntKind.wrap_u8]; omega
 generalize S.tak r v = T at HT ⊢
 generalize v % 256 = y at *
 clear h hk hz hv
 go_enter func61, ntmps61
 go_wp2_with (first | (go_at_call 85; refine HR.mono ?_; rintro e w1 ⟨rfl, hww⟩; have hw2 := hww.symm; subst hw2) | (go_at_call 89; refine HT.mono ?_; rintro e w1 ⟨rfl, hx⟩; have HX : Hid _ := hx; clear hx))
 go_ret
 exact ⟨rfl, HX.out⟩
theorem mS {B c : Nat} {S : St} {vr vi vo : Value} (w : World) (h : RB B c S vr vi vo w) (hn : S.ram.length ≤ 65536) (a z : Int) (ha : 0 ≤ a ∧ a ≤ 18446744073709551615) (hz : -9223372036854775808 ≤ z ∧ z ≤ 9223372036854775807) (hw : StW S) (v : Int) (hv : 0 ≤ v ∧ v ≤ 18446744073709551615) :
  Calls prog 61 #[.pointer (some ⟨c, 0, none⟩), .int .u64 a, .int .i64 z, .int .u64 v] w fun e w' => e = .returned (.bool (S.sto2 a z v).1) ∧ ∃ ur ui uo, RSt B c vr vi vo w ur ui uo (S.sto2 a z v).2 w' := by
 rcases oC S.ram.length a z with ⟨hk, hf⟩ | ⟨hk, hf⟩ | ⟨hk, hf⟩ | ⟨hk, hf⟩ | ⟨hk, hf, e1, e2⟩ | ⟨hk, hf, e1, e2⟩ | ⟨hk, hf, e1, e2⟩ | ⟨hk, hf, e1, e2⟩ | ⟨hk, hf, e1, e2⟩ | ⟨hk, hf, e1, e2⟩ | ⟨hk, hf⟩
 ·obtain ⟨k, s, rfl, rfl, hks, hs, h8⟩ := iC (iA hf)
  obtain ⟨N, rfl⟩ : ∃ N : Nat, v = N := ⟨v.toNat, by omega⟩
  have e : S.sto2 (2147483648 + (k : Int)) s N = (true, S.put k s N) := by
   unfold St.sto2; rw [hf]; simp only; rw [show (2147483648 + (k : Int) - 2147483648).toNat = k by omega]; rfl
  rw [e]
  exact (BE w h hn k s hks hs h8 hk N (by omega)).mono fun e w' ⟨he, hx⟩ => ⟨he, vr, vi, vo, hx⟩
 ·obtain ⟨r, hr, rfl, hrn⟩ := gC (nQ hf)
  have e : S.sto2 (268435456 + (r : Int)) z v = (true, S.tak r v) := by unfold St.sto2; rw [hf]; simp only; rw [hrn]
  rw [e]
  exact xD w h hn r hr z hz hk v hv
 ·have e : S.sto2 a z v = (true, S.fin v) := by simp only [St.sto2, hf]
  rw [e]
  exact (BF w h hn a z ha hz hk v hv).mono fun e w' ⟨he, hx⟩ => ⟨he, vr, vi, vo, hx⟩
 ·have e : S.sto2 a z v = (true, { S with msip := v % 2 }) := by simp only [St.sto2, hf]
  rw [e]
  exact (BG w h hn a z ha hz hk v hv).mono fun e w' ⟨he, hx⟩ => ⟨he, vr, vi, vo, hx⟩
 ·have e : S.sto2 a z v = (true, { S with cmp := v }) := by simp only [St.sto2, hf]; rw [e1, e2]; rfl
  rw [e]
  exact (BH w h hn a z ha hz hk v).mono fun e w' ⟨he, hx⟩ => ⟨he, vr, vi, vo, hx⟩
 ·have e : S.sto2 a z v = (true, { S with cmp := hlv true S.cmp v }) := by simp only [St.sto2, hf]; rw [e1, e2]; rfl
  rw [e]
  exact (BI w h hn a z ha hz hk v hv hw.cmp).mono fun e w' ⟨he, hx⟩ => ⟨he, vr, vi, vo, hx⟩
 ·have e : S.sto2 a z v = (true, { S with cmp := hlv false S.cmp v }) := by simp only [St.sto2, hf]; rw [e1, e2]; rfl
  rw [e]
  exact (BJ w h hn a z ha hz hk v hv hw.cmp).mono fun e w' ⟨he, hx⟩ => ⟨he, vr, vi, vo, hx⟩
 ·have e : S.sto2 a z v = (true, { S with time := v }) := by simp only [St.sto2, hf]; rw [e1, e2]; rfl
  rw [e]
  exact (BK w h hn a z ha hz hk v).mono fun e w' ⟨he, hx⟩ => ⟨he, vr, vi, vo, hx⟩
 ·have e : S.sto2 a z v = (true, { S with time := hlv true S.time v }) := by simp only [St.sto2, hf]; rw [e1, e2]; rfl
  rw [e]
  exact (BL w h hn a z ha hz hk v hv hw.time).mono fun e w' ⟨he, hx⟩ => ⟨he, vr, vi, vo, hx⟩
 ·have e : S.sto2 a z v = (true, { S with time := hlv false S.time v }) := by simp only [St.sto2, hf]; rw [e1, e2]; rfl
  rw [e]
  exact (BM w h hn a z ha hz hk v hv hw.time).mono fun e w' ⟨he, hx⟩ => ⟨he, vr, vi, vo, hx⟩
 ·have e : S.sto2 a z v = (false, S) := by simp only [St.sto2, hf]
  rw [e]
  exact (BD w h hn a z ha hz hk v).mono fun e w' ⟨he, hx⟩ => ⟨he, vr, vi, vo, hx⟩
end Go.Proofs.YtiffkbmppmejhaaGreatDoor
