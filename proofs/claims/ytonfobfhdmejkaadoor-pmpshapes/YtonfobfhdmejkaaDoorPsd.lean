/-
  Span, held, match, Match of the program.
-/
import Derived.Test.YtonfobfhdmejkaaDoorPsc
import Derived.OwnWalk
namespace Go.Proofs.YtonfobfhdmejkaaDoor
set_option linter.unusedVariables false
open Go.ChangeShapes Go.WideShapes Go.ChangeAt Go.RowKit Go.Deep
theorem PA_lt (a : Nat → BitVec 64) : ∀ j, (PA a j).toNat < 2 ^ 54 := fun j => pad_lt (a j)
theorem below_drewN {B : Nat} {w w' : World} (h : Below B w w') (n : Nat) : Below B w (w'.drewN n) := ⟨h.os, h.tape, h.output, h.size, h.block⟩
/-- Span's answer. -/
def spI (c : Nat → BitVec 8) (a : Nat → BitVec 64) (i : Int) : Option (BitVec 64 × BitVec 64) := if 0 ≤ i ∧ i < 16 then spn c a i.toNat else none
def sp3 (o : Option (BitVec 64 × BitVec 64)) : Value := .tuple #[.int .u64 (n64 (sF o)), .int .u64 (n64 (sL o)), .bool o.isSome]
set_option maxRecDepth 100000 in
set_option maxHeartbeats 2000000 in
theorem Span_c (c : Nat → BitVec 8) (a : Nat → BitVec 64) (i : Int) (w : World) (hT : Tb w) :
    Calls Tryd.prog 6 #[.agg (pc c a), .int .i64 i] w fun e w' => e = .returned (sp3 (spI (PC c) (PA a) i)) ∧ Below w.heap.size w w' := by
  obtain ⟨W0, hW0, r0, b0, s0⟩ := start1 w (pc c a) 28
  have HS : Hid (W0.heap.size = w.heap.size + 1) := s0
  clear s0
  have HT : Hid (Tb w) := hT
  clear hT
  have hE := isEntry_c i
  by_cases h : 0 ≤ i ∧ i < 16
  · obtain ⟨k, rfl⟩ : ∃ k : Nat, i = k := ⟨i.toNat, by omega⟩
    have hk : k < 16 := by omega
    rw [decide_eq_true h] at hE
    have HE : Hid (∀ W, Calls Tryd.prog 14 #[.int .i64 k] W fun e w' => e = .returned (.bool true) ∧ w' = W) := hE
    have e9 : spI (PC c) (PA a) k = spn (PC c) (PA a) k := by unfold spI; rw [if_pos h]; rfl
    rw [e9]
    clear hE h e9
    have HSp : Hid (∀ g W, Tb W → Row W g (ec (PC c) (PA a)) 39 → Calls Tryd.prog 15 #[.pointer (some ⟨g, 0, none⟩), .int .i64 k] W fun e w' => e = .returned (.tuple #[.agg #[.int .u64 (n64 (sF (spn (PC c) (PA a) k))), .int .u64 (n64 (sL (spn (PC c) (PA a) k)))], .bool (spn (PC c) (PA a) k).isSome]) ∧ Below W.heap.size W w') := fun g W h1 h2 => espan_c (PC c) (PA a) (PA_lt a) g k hk W h1 h2
    generalize spn (PC c) (PA a) k = X at HSp ⊢
    go_enter Tryd.func6, Tryd.ntmps6
    go_upto_region 1 with fail
    clear hW0
    go_upto_region 4 with (first | (refine wpList_load_rowG (by rfl) _ _ (by rfl) _ (by rfl) 28 _ (0, 0) _ r0.out Tryd.underlying28 (by rfl) (by rw [pc_size]; kernel_rfl) ?_) | (go_at_call 14; refine (HE.out _).mono ?_; rintro e w9 ⟨rfl, hw⟩; have hw2 := hw.symm; subst hw2) | (go_at_call 11; refine (of_p c a _).mono ?_; rintro e w1 ⟨rfl, hb1⟩; have HB1 : Hid (Below W0.heap.size W0 w1) := hb1; clear hb1) | (refine wpList_store_new (by rfl) _ _ _ (by rfl) (by rfl) _ _ (by rfl) (by rfl) (by rw [ec_size]; kernel_rfl) (by rw [ec_size]; rfl) (ec_ones _ _) ?_))
    obtain ⟨W2, hW2, r2, b2, s2⟩ := start1 w1 (ec (PC c) (PA a)) 39
    rw [hW2]
    have t1 : Below w.heap.size w w1 := b0.out.trans (HB1.out.mono (by rw [HS.out]; omega))
    have b3 : Hid (Below w.heap.size w W2) := t1.trans (b2.out.mono t1.size)
    have T2 : Hid (Tb W2) := HT.out.next b3.out
    have HGL : Hid (W2.heap.size = w1.heap.size + 1) := s2
    clear t1 s2 b2 hW2 HB1 r0 b0 HS
    generalize w1.heap.size = g at *
    go_upto_region 5 with (go_at_call 15; refine (HSp.out g W2 T2.out r2.out).mono ?_; rintro e w5 ⟨rfl, hb⟩; have HB5 : Hid (Below W2.heap.size W2 w5) := hb; clear hb)
    go_quiet (fail)
    go_wp2
    go_ret3
    exact ⟨rfl, below_drewN (((b3.out.trans (HB5.out.mono b3.out.size)).alloc (Nat.le_trans b3.out.size HB5.out.size) _)) _⟩
  · rw [decide_eq_false h] at hE
    have HE : Hid (∀ W, Calls Tryd.prog 14 #[.int .i64 i] W fun e w' => e = .returned (.bool false) ∧ w' = W) := hE
    have e9 : spI (PC c) (PA a) i = none := by unfold spI; rw [if_neg h]
    rw [e9]
    clear hE h e9
    go_enter Tryd.func6, Tryd.ntmps6
    go_wp2_with (go_at_call 14; refine (HE.out _).mono ?_; rintro e w9 ⟨rfl, hw⟩; have hw2 := hw.symm; subst hw2)
    go_ret3
    exact ⟨rfl, b0.out⟩
end Go.Proofs.YtonfobfhdmejkaaDoor
