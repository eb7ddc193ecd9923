/-
  Read and write of the protection's registers.
-/
import Derived.Test.YtnnkeodiacdmaaaCsc
import Derived.Test.YtnnkeodiacdmaaaPbc
namespace Go.Proofs.Ytnnkeodiacdmaaa
set_option linter.unusedVariables false
set_option maxRecDepth 100000
open Go.ChangeShapes Go.WideShapes Go.ChangeAt Go.RowKit Go.Deep
set_option maxRecDepth 100000 in
set_option maxHeartbeats 1000000 in
theorem configRead_c (g : Nat) (n : Int) (k : Cp) (m t : BitVec 64) (w : World) (h : Sr w g k m t) : Calls Try.prog 51 #[.agg #[.pointer (some ⟨g, 47, none⟩), .int .i64 n]] w fun e w' => e = .returned (.int .u64 (cfgR (PC k.c) n)) ∧ Below w.heap.size w w' := by
  obtain ⟨W0, hW0, r0, b0, s0⟩ := start1 w #[.pointer (some ⟨g, 47, none⟩), .int .i64 n] 92
  have H1 : Hid (Sr W0 g k m t) := by unfold Hid; rw [← hW0]; exact h.old _
  have hlt : Hid (g < w.heap.size) := h.lt
  have hg0 : Hid (g < W0.heap.size) := by unfold Hid; have := h.lt; omega
  have hw0 : Hid (w.heap.size < W0.heap.size) := by unfold Hid; omega
  have := later_nonempty W0
  have L0 : ∀ x : Later W0, x.1.cell? ⟨w.heap.size, 0, none⟩ = some (.pointer (some ⟨g, 47, none⟩)) := later_at hw0.out (r0.out.cell 0)
  have L1 : ∀ x : Later W0, x.1.cell? ⟨w.heap.size, 1, none⟩ = some (.int .i64 n) := later_at hw0.out (r0.out.cell 1)
  have HL : Hid (∀ j v, (pc k.c k.a)[j]? = some v → W0.cell? ⟨g, 47 + j, none⟩ = some v) := H1.out.p
  have HC : Hid (∀ W, Calls Try.prog 56 #[.agg (pc k.c k.a), .int .i64 n] W fun e w' => e = .returned (.int .u64 (cfgR (PC k.c) n)) ∧ Below W.heap.size W w') := Cfg_c k.c k.a n
  generalize cfgR (PC k.c) n = z at HC ⊢
  clear s0 r0 h
  go_enter Try.func51, Try.ntmps51
  go_upto_region 1 with fail
  clear hW0
  refine wp_region_later (x0 := Later.start W0) (by kernel_rfl) (by kernel_rfl) ?_
  repeat (first | (refine BigFrame.wpQuiet_want (by rfl) fun K hK => ?_; refine quiet_load_agg 27 _ (by rfl) g 47 (by rfl) (pc k.c k.a) _ hg0.out HL.out Try.underlying27 (by rfl) (info_pmp _ _) (hK _ ?_); clear hK K; simp only [Act.put, List.setIfInBounds_toArray, List.set_cons_succ, List.set_cons_zero]) | (go_big_quiet_step (first | (go_at_call 56; exact calls_later (HC.out _)))))
  refine wpQuiet_nil ?_
  rintro w' ⟨x9, rfl⟩
  go_wp2
  go_ret
  exact ⟨rfl, b0.out.trans (x9.below.mono (Nat.le_of_lt hw0.out))⟩
set_option maxRecDepth 100000 in
set_option maxHeartbeats 1000000 in
theorem configWrite_c (g : Nat) (n : Int) (v : BitVec 64) (k : Cp) (m t : BitVec 64) (w : World) (h : Sr w g k m t) : Calls Try.prog 52 #[.agg #[.pointer (some ⟨g, 47, none⟩), .int .i64 n], .int .u64 (n64 v)] w fun e w' => e = .returned (.tuple #[]) ∧ Sr w' g { k with c := sR (PC k.c) n v, a := PA k.a } m t ∧ Below g w w' := by
  obtain ⟨W0, hW0, r0, b0, s0⟩ := start1 w #[.pointer (some ⟨g, 47, none⟩), .int .i64 n] 92
  have H1 : Hid (Sr W0 g k m t) := by unfold Hid; rw [← hW0]; exact h.old _
  have hlt : Hid (g < w.heap.size) := h.lt
  have hg0 : Hid (g < W0.heap.size) := by unfold Hid; have := h.lt; omega
  have hw0 : Hid (w.heap.size < W0.heap.size) := by unfold Hid; omega
  have := later_nonempty W0
  have L0 : ∀ x : Later W0, x.1.cell? ⟨w.heap.size, 0, none⟩ = some (.pointer (some ⟨g, 47, none⟩)) := later_at hw0.out (r0.out.cell 0)
  have L1 : ∀ x : Later W0, x.1.cell? ⟨w.heap.size, 1, none⟩ = some (.int .i64 n) := later_at hw0.out (r0.out.cell 1)
  have HL : Hid (∀ j v, (pc k.c k.a)[j]? = some v → W0.cell? ⟨g, 47 + j, none⟩ = some v) := H1.out.p
  have HC : Hid (∀ W, Calls Try.prog 57 #[.agg (pc k.c k.a), .int .i64 n, .int .u64 (n64 v)] W fun e w' => e = .returned (.agg (pc (sR (PC k.c) n v) (PA k.a))) ∧ Below W.heap.size W w') := SetCfg_c k.c k.a n v
  generalize PA k.a = A9 at HC ⊢
  generalize sR (PC k.c) n v = C9 at HC ⊢
  clear s0 r0 h
  go_enter Try.func52, Try.ntmps52
  go_upto_region 1 with fail
  clear hW0
  refine wp_region_later_tail (x0 := Later.start W0) 11 (by kernel_rfl) (by kernel_rfl) ?_
  simp only [List.take_succ_cons, List.take_zero, List.drop_succ_cons, List.drop_zero]
  repeat (first | (refine BigFrame.wpQuiet_want (by rfl) fun K hK => ?_; refine quiet_load_agg 27 _ (by rfl) g 47 (by rfl) (pc k.c k.a) _ hg0.out HL.out Try.underlying27 (by rfl) (info_pmp _ _) (hK _ ?_); clear hK K; simp only [Act.put, List.setIfInBounds_toArray, List.set_cons_succ, List.set_cons_zero]) | (go_big_quiet_step (first | (go_at_call 57; exact calls_later (HC.out _)))))
  refine wpQuiet_nil ?_
  rintro w' ⟨x9, rfl⟩
  have H9 : Hid (Sr x9.1 g k m t) := H1.out.later x9.below hg0.out
  clear L0 L1 HL HC
  refine wpList_store_part (by rfl) 27 _ _ (by rfl) (by rfl) g 47 (pc C9 A9) (by rfl) (by rfl) (Row.there H9.out (by rw [stc_size, pc_size]; omega)) (info_pmp _ _) (pc_ones _ _) ?_
  refine go_onP (motive := fun W => wpList _ _ _ _ _ W) (Q := fun W => Sr W g { k with c := C9, a := A9 } m t ∧ Below g w W) ⟨H9.out.lay C9 A9, below_lay (Nat.le_refl _) _ _ ((b0.out.mono (Nat.le_of_lt hlt.out)).trans (x9.below.mono (Nat.le_of_lt hg0.out)))⟩ ?_
  clear H9
  rintro W9 ⟨q1, q2⟩
  have Q1 : Hid (Sr W9 g { k with c := C9, a := A9 } m t) := q1
  have Q2 : Hid (Below g w W9) := q2
  clear q1 q2
  go_wp2
  go_end0
  exact ⟨rfl, Q1.out, Q2.out⟩
set_option maxRecDepth 100000 in
set_option maxHeartbeats 1000000 in
theorem addressWrite_c (g : Nat) (n : Int) (v : BitVec 64) (k : Cp) (m t : BitVec 64) (w : World) (h : Sr w g k m t) : Calls Try.prog 54 #[.agg #[.pointer (some ⟨g, 47, none⟩), .int .i64 n], .int .u64 (n64 v)] w fun e w' => e = .returned (.tuple #[]) ∧ Sr w' g { k with c := PC k.c, a := sA (PC k.c) (PA k.a) n v } m t ∧ Below g w w' := by
  obtain ⟨W0, hW0, r0, b0, s0⟩ := start1 w #[.pointer (some ⟨g, 47, none⟩), .int .i64 n] 94
  have H1 : Hid (Sr W0 g k m t) := by unfold Hid; rw [← hW0]; exact h.old _
  have hlt : Hid (g < w.heap.size) := h.lt
  have hg0 : Hid (g < W0.heap.size) := by unfold Hid; have := h.lt; omega
  have hw0 : Hid (w.heap.size < W0.heap.size) := by unfold Hid; omega
  have := later_nonempty W0
  have L0 : ∀ x : Later W0, x.1.cell? ⟨w.heap.size, 0, none⟩ = some (.pointer (some ⟨g, 47, none⟩)) := later_at hw0.out (r0.out.cell 0)
  have L1 : ∀ x : Later W0, x.1.cell? ⟨w.heap.size, 1, none⟩ = some (.int .i64 n) := later_at hw0.out (r0.out.cell 1)
  have HL : Hid (∀ j v, (pc k.c k.a)[j]? = some v → W0.cell? ⟨g, 47 + j, none⟩ = some v) := H1.out.p
  have HC : Hid (∀ W, Calls Try.prog 58 #[.agg (pc k.c k.a), .int .i64 n, .int .u64 (n64 v)] W fun e w' => e = .returned (.agg (pc (PC k.c) (sA (PC k.c) (PA k.a) n v))) ∧ Below W.heap.size W w') := SetAddr_c k.c k.a n v
  generalize sA (PC k.c) (PA k.a) n v = A9 at HC ⊢
  generalize PC k.c = C9 at HC ⊢
  clear s0 r0 h
  go_enter Try.func54, Try.ntmps54
  go_upto_region 1 with fail
  clear hW0
  refine wp_region_later_tail (x0 := Later.start W0) 11 (by kernel_rfl) (by kernel_rfl) ?_
  simp only [List.take_succ_cons, List.take_zero, List.drop_succ_cons, List.drop_zero]
  repeat (first | (refine BigFrame.wpQuiet_want (by rfl) fun K hK => ?_; refine quiet_load_agg 27 _ (by rfl) g 47 (by rfl) (pc k.c k.a) _ hg0.out HL.out Try.underlying27 (by rfl) (info_pmp _ _) (hK _ ?_); clear hK K; simp only [Act.put, List.setIfInBounds_toArray, List.set_cons_succ, List.set_cons_zero]) | (go_big_quiet_step (first | (go_at_call 58; exact calls_later (HC.out _)))))
  refine wpQuiet_nil ?_
  rintro w' ⟨x9, rfl⟩
  have H9 : Hid (Sr x9.1 g k m t) := H1.out.later x9.below hg0.out
  clear L0 L1 HL HC
  refine wpList_store_part (by rfl) 27 _ _ (by rfl) (by rfl) g 47 (pc C9 A9) (by rfl) (by rfl) (Row.there H9.out (by rw [stc_size, pc_size]; omega)) (info_pmp _ _) (pc_ones _ _) ?_
  refine go_onP (motive := fun W => wpList _ _ _ _ _ W) (Q := fun W => Sr W g { k with c := C9, a := A9 } m t ∧ Below g w W) ⟨H9.out.lay C9 A9, below_lay (Nat.le_refl _) _ _ ((b0.out.mono (Nat.le_of_lt hlt.out)).trans (x9.below.mono (Nat.le_of_lt hg0.out)))⟩ ?_
  clear H9
  rintro W9 ⟨q1, q2⟩
  have Q1 : Hid (Sr W9 g { k with c := C9, a := A9 } m t) := q1
  have Q2 : Hid (Below g w W9) := q2
  clear q1 q2
  go_wp2
  go_end0
  exact ⟨rfl, Q1.out, Q2.out⟩
set_option maxRecDepth 100000 in
set_option maxHeartbeats 1000000 in
theorem addressRead_c (g i : Nat) (hi : i < 16) (k : Cp) (m t : BitVec 64) (w : World) (h : Sr w g k m t) : Calls Try.prog 53 #[.agg #[.pointer (some ⟨g, 47, none⟩), .int .i64 (i : Int)]] w fun e w' => e = .returned (.int .u64 (n64 (k.a i))) ∧ Below w.heap.size w w' := by
  obtain ⟨n, hn⟩ : ∃ n : Int, n = (i : Int) := ⟨_, rfl⟩
  rw [← hn]
  have hn1 : 0 ≤ n := by omega
  have hn2 : n < 16 := by omega
  obtain ⟨W0, hW0, r0, b0, s0⟩ := start1 w #[.pointer (some ⟨g, 47, none⟩), .int .i64 n] 94
  have H1 : Hid (Sr W0 g k m t) := by unfold Hid; rw [← hW0]; exact h.old _
  have hlt : Hid (g < w.heap.size) := h.lt
  have hg0 : Hid (g < W0.heap.size) := by unfold Hid; have := h.lt; omega
  have hw0 : Hid (w.heap.size < W0.heap.size) := by unfold Hid; omega
  have := later_nonempty W0
  have L0 : ∀ x : Later W0, x.1.cell? ⟨w.heap.size, 0, none⟩ = some (.pointer (some ⟨g, 47, none⟩)) := later_at hw0.out (r0.out.cell 0)
  have L1 : ∀ x : Later W0, x.1.cell? ⟨w.heap.size, 1, none⟩ = some (.int .i64 n) := later_at hw0.out (r0.out.cell 1)
  have L2 : ∀ x : Later W0, x.1.cell? ⟨g, 63 + i, none⟩ = some (.int .u64 (n64 (k.a i))) := later_at hg0.out (H1.out.a i hi)
  generalize k.a i = z at L2 ⊢
  clear s0 r0 h
  subst hn
  go_enter Try.func53, Try.ntmps53
  go_upto_region 1 with fail
  clear hW0
  refine wp_region_later (x0 := Later.start W0) (by kernel_rfl) (by kernel_rfl) ?_
  repeat (go_big_quiet_step (fail))
  refine wpQuiet_nil ?_
  rintro w' ⟨x9, rfl⟩
  go_wp2
  go_ret
  exact ⟨rfl, b0.out.trans (x9.below.mono (Nat.le_of_lt hw0.out))⟩
end Go.Proofs.Ytnnkeodiacdmaaa
