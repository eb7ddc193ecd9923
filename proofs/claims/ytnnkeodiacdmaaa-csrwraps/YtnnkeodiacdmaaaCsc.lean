/-
  Read and write of each kind of register.
-/
import Derived.Test.YtnnkeodiacdmaaaCsb
import Derived.Test.YtnnkeodiacdmaaaPbx
import Derived.Test.YtnnkeodiacdmaaaPbw
namespace Go.Proofs.Ytnnkeodiacdmaaa
set_option linter.unusedVariables false
open Go.ChangeShapes Go.WideShapes Go.ChangeAt Go.RowKit Go.Deep
/-- The cells of a state: a Cpu, mip, time. -/
def stc (k : Cp) (m t : BitVec 64) : Array Value := cpc k ++ #[.int .u64 (n64 m), .int .u64 (n64 t)]
theorem stc_size (k : Cp) (m t : BitVec 64) : (stc k m t).size = 84 := by simp [stc, cpc_size]
theorem stc_ones (k : Cp) (m t : BitVec 64) : (stc k m t).all (·.oneCell') = true := by
  rw [stc, Array.all_append, cpc_ones]; simp [Value.oneCell']
theorem lay_left (cs d : Array Value) (o : Nat) (l : List Value) (h : o + l.length ≤ cs.size) : layC (cs ++ d) o l = layC cs o l ++ d := by
  apply Array.ext_getElem?
  intro j
  rw [lay_get _ _ _ _ (by simp; omega), Array.getElem?_append, Array.getElem?_append, lay_size, lay_get _ _ _ _ h]
  by_cases h1 : o ≤ j ∧ j < o + l.length
  · rw [if_pos h1, if_pos (by omega), if_pos h1]
  · rw [if_neg h1, if_neg h1]
theorem stc_lay (k k' : Cp) (m t : BitVec 64) (o : Nat) (l : List Value) (h : o + l.length ≤ 82) (e : layC (cpc k) o l = cpc k') : layC (stc k m t) o l = stc k' m t := by
  rw [stc, lay_left _ _ _ _ (by rw [cpc_size]; exact h), e]; rfl
theorem stc_s (k : Cp) (m t : BitVec 64) (i : Nat) (hi : i < 12) (v : BitVec 64) : (stc k m t).setIfInBounds (35 + i) (.int .u64 (n64 v)) = stc { k with s := upd k.s i v } m t :=
  by have e := stc_lay k { k with s := upd k.s i v } m t (35 + i) [.int .u64 (n64 v)] (by simp; omega) (by rw [layC, layC]; exact cpc_s k i hi v); rwa [layC, layC] at e
theorem stc_pmp (k : Cp) (m t : BitVec 64) (c : Nat → BitVec 8) (a : Nat → BitVec 64) : layC (stc k m t) 47 (pc c a).toList = stc { k with c := c, a := a } m t :=
  stc_lay k _ m t 47 _ (by rw [Array.length_toList, pc_size]; omega) (cpc_pmp k c a)
theorem Row.stc {w : World} {g : Nat} {k : Cp} {m t : BitVec 64} {T : TypeId} (h : Row w g (stc k m t) T) : At w g 0 k ∧ w.cell? ⟨g, 82, none⟩ = some (.int .u64 (n64 m)) ∧ w.cell? ⟨g, 83, none⟩ = some (.int .u64 (n64 t)) := by
  have q : ∀ j, 82 ≤ j → w.cell? ⟨g, j, none⟩ = #[Value.int .u64 (n64 m), .int .u64 (n64 t)][j - 82]? := fun j hj => by
    rw [h.cell]; unfold Go.Proofs.Ytnnkeodiacdmaaa.stc; rw [Array.getElem?_append_right (by rw [cpc_size]; exact hj), cpc_size]
  refine ⟨fun j hj => ?_, q 82 (by omega), q 83 (by omega)⟩
  rw [h.cell, Nat.zero_add]; unfold Go.Proofs.Ytnnkeodiacdmaaa.stc; rw [Array.getElem?_append_left (by rw [cpc_size]; exact hj), cpc_at _ _ hj]
/-- A state's row. -/
def Sr (w : World) (g : Nat) (k : Cp) (m t : BitVec 64) : Prop := Row w g (Go.Proofs.Ytnnkeodiacdmaaa.stc k m t) 58
theorem Sr.lt {w : World} {g : Nat} {k : Cp} {m t : BitVec 64} (h : Sr w g k m t) : g < w.heap.size := Row.lt h
theorem Sr.s {w : World} {g : Nat} {k : Cp} {m t : BitVec 64} (h : Sr w g k m t) (i : Nat) (hi : i < 12) : w.cell? ⟨g, 35 + i, none⟩ = some (.int .u64 (n64 (k.s i))) := by
  have := (Row.stc h).1 (35 + i) (by omega)
  rwa [Nat.zero_add, cpcell_s _ _ hi] at this
theorem Sr.a {w : World} {g : Nat} {k : Cp} {m t : BitVec 64} (h : Sr w g k m t) (i : Nat) (hi : i < 16) : w.cell? ⟨g, 63 + i, none⟩ = some (.int .u64 (n64 (k.a i))) := by
  have := (Row.stc h).1 (47 + (16 + i)) (by omega)
  rwa [Nat.zero_add, cpcell_p _ _ (by omega), pcell, if_neg (by omega), Nat.add_sub_cancel_left, ← Nat.add_assoc] at this
theorem Sr.p {w : World} {g : Nat} {k : Cp} {m t : BitVec 64} (h : Sr w g k m t) : ∀ j v, (pc k.c k.a)[j]? = some v → w.cell? ⟨g, 47 + j, none⟩ = some v := fun j v hv => by
  have := (Row.stc h).1.pmp j v hv
  rwa [Nat.zero_add] at this
theorem Sr.later {w w' : World} {B g : Nat} {k : Cp} {m t : BitVec 64} (h : Sr w g k m t) (b : Below B w w') (hg : g < B) : Sr w' g k m t := Row.later h b hg
theorem Sr.old {w : World} {g : Nat} {k : Cp} {m t : BitVec 64} (h : Sr w g k m t) (o : Obj) : Sr (w.alloc o) g k m t := Row.old h h.lt o
theorem Sr.put {w : World} {g : Nat} {k : Cp} {m t : BitVec 64} (h : Sr w g k m t) (i : Nat) (hi : i < 12) (v : BitVec 64) : Sr (w.setCell ⟨g, 35 + i, none⟩ (.int .u64 (n64 v))) g { k with s := upd k.s i v } m t := by
  have := Row.put (i := 35 + i) h (.int .u64 (n64 v))
  rwa [stc_s _ _ _ _ hi] at this
theorem Sr.lay {w : World} {g : Nat} {k : Cp} {m t : BitVec 64} (h : Sr w g k m t) (c : Nat → BitVec 8) (a : Nat → BitVec 64) : Sr (w.setCells g 47 (pc c a).toList) g { k with c := c, a := a } m t := by
  have := Row.lay (pc c a).toList 47 h
  rwa [stc_pmp] at this
set_option maxRecDepth 100000 in
theorem toldRead_c (n : Int) (w : World) : Calls Try.prog 47 #[.int .u64 n] w fun e w' => e = .returned (.int .u64 n) ∧ Below w.heap.size w w' := by
  go_enter Try.func47, Try.ntmps47
  go_wp2
  go_ret
  exact ⟨rfl, Below.refl _ _⟩
set_option maxRecDepth 100000 in
theorem toldWrite_c (n v : Int) (w : World) : Calls Try.prog 48 #[.int .u64 n, .int .u64 v] w fun e w' => e = .returned (.tuple #[]) ∧ Below w.heap.size w w' := by
  go_enter Try.func48, Try.ntmps48
  go_wp2
  go_end0
  exact ⟨rfl, Below.refl _ _⟩
set_option maxRecDepth 100000 in
theorem wordRead_c (g o : Nat) (n x : Int) (w : World) (hg : g < w.heap.size) (hc : w.cell? ⟨g, o, none⟩ = some (.int .u64 x)) : Calls Try.prog 49 #[.agg #[.pointer (some ⟨g, o, none⟩), .int .u64 n]] w fun e w' => e = .returned (.int .u64 x) ∧ Below w.heap.size w w' := by
  have n1 : ¬ g = w.heap.size := by omega
  have n2 : ¬ w.heap.size = g := by omega
  go_enter Try.func49, Try.ntmps49
  go_wp2
  go_ret
  exact ⟨rfl, (Below.refl _ _).alloc (Nat.le_refl _) _⟩
set_option maxRecDepth 100000 in
theorem statusRead_c (g o : Nat) (n x : Int) (w : World) (hg : g < w.heap.size) (hc : w.cell? ⟨g, o, none⟩ = some (.int .u64 x)) : Calls Try.prog 45 #[.agg #[.pointer (some ⟨g, o, none⟩)]] w fun e w' => e = .returned (.int .u64 x) ∧ Below w.heap.size w w' := by
  have n1 : ¬ g = w.heap.size := by omega
  have n2 : ¬ w.heap.size = g := by omega
  go_enter Try.func45, Try.ntmps45
  go_wp2
  go_ret
  exact ⟨rfl, (Below.refl _ _).alloc (Nat.le_refl _) _⟩
set_option maxRecDepth 100000 in
theorem wordWrite_c (g i : Nat) (hi : i < 12) (n v : BitVec 64) (k : Cp) (m t : BitVec 64) (w : World) (h : Sr w g k m t) : Calls Try.prog 50 #[.agg #[.pointer (some ⟨g, 35 + i, none⟩), .int .u64 (n64 n)], .int .u64 (n64 v)] w fun e w' => e = .returned (.tuple #[]) ∧ Sr w' g { k with s := upd k.s i (v &&& n) } m t ∧ Below g w w' := by
  obtain ⟨W0, hW0, r0, b0, s0⟩ := start1 w #[.pointer (some ⟨g, 35 + i, none⟩), .int .u64 (n64 n)] 89
  have H1 : Hid (Sr W0 g k m t) := by unfold Hid; rw [← hW0]; exact h.old _
  have hlt : Hid (g < w.heap.size) := h.lt
  have hf := Row.froz H1.out (35 + i)
  have hcc := H1.out.s i hi
  have c0 : W0.cell? ⟨w.heap.size, 0, none⟩ = some (.pointer (some ⟨g, 35 + i, none⟩)) := r0.out.cell 0
  have c1 : W0.cell? ⟨w.heap.size, 1, none⟩ = some (.int .u64 (n64 n)) := r0.out.cell 1
  have b1 : bits .and .u64 (n64 v) (n64 n) = n64 (v &&& n) := n64_and v n
  have HE : Hid (Sr (W0.setCell ⟨g, 35 + i, none⟩ (.int .u64 (n64 (v &&& n)))) g { k with s := upd k.s i (v &&& n) } m t) := H1.out.put i hi _
  generalize v &&& n = z at b1 HE ⊢
  generalize 35 + i = o at *
  clear s0 r0 h
  go_enter Try.func50, Try.ntmps50
  go_upto_region 1 with fail
  clear hW0
  go_wp2
  go_end0
  exact ⟨rfl, HE.out, below_put (b0.out.mono (Nat.le_of_lt hlt.out)) (Nat.le_refl _) _⟩
theorem bf_shl (x : BitVec 64) : bfB x <<< 11 &&& 6144#64 = x &&& 6144#64 := by unfold bfB; rw [← and6144, BitVec.and_assoc, BitVec.and_self]
set_option maxRecDepth 100000 in
set_option maxHeartbeats 1000000 in
theorem statusWrite_c (g : Nat) (v : BitVec 64) (k : Cp) (m t : BitVec 64) (w : World) (h : Sr w g k m t) : Calls Try.prog 46 #[.agg #[.pointer (some ⟨g, 35, none⟩)], .int .u64 (n64 v)] w fun e w' => e = .returned (.tuple #[]) ∧ Sr w' g { k with s := upd k.s 0 (stB (stW (k.s 0) v)) } m t ∧ Below g w w' := by
  obtain ⟨W0, hW0, r0, b0, s0⟩ := start1 w #[.pointer (some ⟨g, 35, none⟩)] 85
  have H1 : Hid (Sr W0 g k m t) := by unfold Hid; rw [← hW0]; exact h.old _
  have hlt : Hid (g < w.heap.size) := h.lt
  have hg0 : Hid (g < W0.heap.size) := by unfold Hid; have := h.lt; omega
  have hw0 : Hid (w.heap.size < W0.heap.size) := by unfold Hid; omega
  have hcc : W0.cell? ⟨g, 35, none⟩ = some (.int .u64 (n64 (k.s 0))) := H1.out.s 0 (by omega)
  have c0 : W0.cell? ⟨w.heap.size, 0, none⟩ = some (.pointer (some ⟨g, 35, none⟩)) := r0.out.cell 0
  have HN : Hid (∀ W, Calls Try.prog 27 #[.int .u64 (n64 v)] W fun e w' => e = .returned (.bool (nm v)) ∧ w' = W) := namesMode_c v
  have HS : Hid (∀ x W, Calls Try.prog 18 #[.int .u64 (n64 x)] W fun e w' => e = .returned (.int .u64 (n64 (stB x))) ∧ w' = W) := fun x W => properStatus_c x W
  have := later_nonempty W0
  clear s0 r0 h
  unfold stW
  by_cases hq : mq v
  · rw [if_pos hq]
    rw [show nm v = false by simp [nm, hq]] at HN
    have HB : Hid (∀ W, Calls Try.prog 38 #[.int .u64 (n64 (k.s 0))] W fun e w' => e = .returned (.int .i64 (n64 (bfB (k.s 0)))) ∧ w' = W) := before_c (k.s 0)
    have HB2 : Hid (∀ W, Calls Try.prog 55 #[.int .u64 (n64 v), .int .i64 (n64 (bfB (k.s 0)))] W fun e w' => e = .returned (.int .u64 (n64 (v &&& ~~~6144#64 ||| k.s 0 &&& 6144#64))) ∧ w' = W) := fun W => by have q := withBefore_c v (bfB (k.s 0)) (bf_le _) W; rw [bf_shl] at q; exact q
    clear hq
    generalize v &&& ~~~6144#64 ||| k.s 0 &&& 6144#64 = z at HB2 ⊢
    generalize n64 (bfB (k.s 0)) = z1 at HB HB2
    go_enter Try.func46, Try.ntmps46
    go_upto_region 1 with fail
    clear hW0
    go_upto_region 3 with (first | (go_at_call 27; refine (HN.out _).mono ?_; rintro e w1 ⟨rfl, hw1⟩; have hw2 := hw1.symm; subst hw2) | (go_at_call 38; refine (HB.out _).mono ?_; rintro e w1 ⟨rfl, hw1⟩; have hw2 := hw1.symm; subst hw2) | (go_at_call 55; refine (HB2.out _).mono ?_; rintro e w1 ⟨rfl, hw1⟩; have hw2 := hw1.symm; subst hw2))
    have L0 : ∀ x : Later W0, x.1.cell? ⟨w.heap.size, 0, none⟩ = some (.pointer (some ⟨g, 35, none⟩)) := later_at hw0.out c0
    clear hcc c0 HN
    refine wp_region_later_tail (x0 := Later.start W0) 5 (by kernel_rfl) (by kernel_rfl) ?_
    simp only [List.take_succ_cons, List.take_zero, List.drop_succ_cons, List.drop_zero]
    repeat (go_big_quiet_step (first | (go_at_call 18; exact calls_later_same (HS.out _ _))))
    refine wpQuiet_nil ?_
    rintro w' ⟨x9, rfl⟩
    have H9 : Hid (Sr x9.1 g k m t) := H1.out.later x9.below hg0.out
    have hf := Row.froz H9.out 35
    have hcc : x9.1.cell? ⟨g, 35, none⟩ = some (.int .u64 (n64 (k.s 0))) := H9.out.s 0 (by omega)
    go_wp2
    go_end0
    exact ⟨rfl, H9.out.put 0 (by omega) _, below_put ((b0.out.mono (Nat.le_of_lt hlt.out)).trans (x9.below.mono (Nat.le_of_lt hg0.out))) (Nat.le_refl _) _⟩
  · rw [if_neg hq]
    rw [show nm v = true by simp [nm, hq]] at HN
    clear hq
    obtain ⟨z, hz⟩ : ∃ z, z = v := ⟨_, rfl⟩
    go_enter Try.func46, Try.ntmps46
    go_upto_region 1 with fail
    clear hW0
    go_upto_region 3 with (go_at_call 27; refine (HN.out _).mono ?_; rintro e w1 ⟨rfl, hw1⟩; have hw2 := hw1.symm; subst hw2)
    subst hz
    have L0 : ∀ x : Later W0, x.1.cell? ⟨w.heap.size, 0, none⟩ = some (.pointer (some ⟨g, 35, none⟩)) := later_at hw0.out c0
    clear hcc c0 HN
    refine wp_region_later_tail (x0 := Later.start W0) 5 (by kernel_rfl) (by kernel_rfl) ?_
    simp only [List.take_succ_cons, List.take_zero, List.drop_succ_cons, List.drop_zero]
    repeat (go_big_quiet_step (first | (go_at_call 18; exact calls_later_same (HS.out _ _))))
    refine wpQuiet_nil ?_
    rintro w' ⟨x9, rfl⟩
    have H9 : Hid (Sr x9.1 g k m t) := H1.out.later x9.below hg0.out
    have hf := Row.froz H9.out 35
    have hcc : x9.1.cell? ⟨g, 35, none⟩ = some (.int .u64 (n64 (k.s 0))) := H9.out.s 0 (by omega)
    go_wp2
    go_end0
    exact ⟨rfl, H9.out.put 0 (by omega) _, below_put ((b0.out.mono (Nat.le_of_lt hlt.out)).trans (x9.below.mono (Nat.le_of_lt hg0.out))) (Nat.le_refl _) _⟩
end Go.Proofs.Ytnnkeodiacdmaaa
