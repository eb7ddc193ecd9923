/-
  Count of the program.
-/
import Derived.Test.YtnnkeodiacdmaaaCsi
namespace Go.Proofs.Ytnnkeodiacdmaaa
set_option linter.unusedVariables false
set_option maxRecDepth 100000
set_option linter.unusedSimpArgs false
open Go.ChangeShapes Go.WideShapes Go.ChangeAt Go.RowKit Go.Deep
theorem field_s4 (k : Cp) (w : World) : (Instr.field 31 (.agg (cpc k)) 8).run Try.prog w = .ok (.int .u64 (n64 (k.s 4))) w := by kernel_rfl
theorem wpList_field4 {ops : Array Oper} {rest : List Oper} {o : Oper} {a : Act} {w : World} {Q : Exit → Act → World → Prop} (hgd : o.guard = none) (x : Operand) (ho : o.op = .field 31 x 8) (k : Cp) (hx : a.eval x = .agg (cpc k))
    (h : wpList Try.prog ops Q rest (a.put o.dst (.int .u64 (n64 (k.s 4)))) w) : wpList Try.prog ops Q (o :: rest) a w :=
  wpList_plain hgd fun _ hK => by
    unfold Oper.wp execOp
    simp only [ho, hx, Sem.run_bind, field_s4, Result.andThen_ok]
    exact hK _ _ h
set_option maxRecDepth 100000 in
set_option maxHeartbeats 1000000 in
theorem pCount_wt_nr (k u : Cp) (wn : Bool) (w : World) : Calls Try.prog 10 #[.agg (cpc k), .agg (cpc u), .bool false, .bool true, .bool wn] w fun e w' => e = .returned (.agg (cpc (PR k))) ∧ Below w.heap.size w w' := by
  have hz := zero_cpu
  obtain ⟨W0, hW0, r0, r1, r2, b0, s0⟩ := start3 w (cpc k) (cpc u) (cpc cz) 31 31 31
  have HS : Hid (W0.heap.size = w.heap.size + 3) := s0
  clear s0
  have HP : Hid (∀ W, Calls Try.prog 9 #[.agg (cpc k)] W fun e w' => e = .returned (.agg (cpc (PR k))) ∧ Below W.heap.size W w') := fun W => Pr_c k W
  have HU : Hid (∀ W, Calls Try.prog 9 #[.agg (cpc u)] W fun e w' => e = .returned (.agg (cpc (PR u))) ∧ Below W.heap.size W w') := fun W => Pr_c u W
  go_enter Try.func10, Try.ntmps10
  go_upto_region 1 with fail
  clear hz hW0
  go_upto_region 2 with (first | (refine wpList_load_row (by rfl) _ _ (by rfl) _ (by rfl) 31 _ (0, 0) _ r0.out Try.underlying31 (by rfl) (info_cpu _) ?_) | (go_at_call 9; refine (HP.out _).mono ?_; rintro e w1 ⟨rfl, hb1⟩; have HB1 : Hid (Below W0.heap.size W0 w1) := hb1; clear hb1) | (refine wpList_store_row (by rfl) _ _ _ (by rfl) (by rfl) _ _ _ (by rfl) (by rfl) (r0.out.later HB1.out (by rw [HS.out]; omega)) (info_cpu _) (by rw [cpc_size, cpc_size]) (cpc_ones _) ?_))
  refine go_on3 (motive := fun W => Code.wp _ _ _ _ W) (a := w) (B := w.heap.size) (n := w1.heap.size) (show Row _ w.heap.size (cpc (PR k)) 31 from setRow_heap _ _ _ _ _ _ (r0.out.later HB1.out (by rw [HS.out]; omega))) (row_apart (r1.out.later HB1.out (by rw [HS.out]; omega)) (by omega) _) (row_apart (r2.out.later HB1.out (by rw [HS.out]; omega)) (by omega) _) (below_row (b0.out.trans (HB1.out.mono b0.out.size)) (Nat.le_refl _) _) (by simp) ?_
  have SS : Hid (w.heap.size + 3 ≤ w1.heap.size) := by have := HB1.out.size; rw [HS.out] at this; exact this
  clear r0 r1 r2 b0 HS HB1 HP
  intro W2 q0 q1 q2 c0 t0
  have R0 : Hid (Row W2 w.heap.size (cpc (PR k)) 31) := q0
  have R1 : Hid (Row W2 (w.heap.size + 1) (cpc u) 31) := q1
  have R2 : Hid (Row W2 (w.heap.size + 2) (cpc cz) 31) := q2
  have BB : Hid (Below w.heap.size w W2) := c0
  have HS : Hid (w.heap.size + 3 ≤ W2.heap.size) := by show _ ≤ _; rw [t0]; exact SS.out
  clear q0 q1 q2 c0 t0 SS
  go_upto_region 3 with (first | (refine wpList_load_row (by rfl) _ _ (by rfl) _ (by rfl) 31 _ (0, 0) _ R1.out Try.underlying31 (by rfl) (info_cpu _) ?_) | (go_at_call 9; refine (HU.out _).mono ?_; rintro e w1 ⟨rfl, hb1⟩; have HB1 : Hid (Below W2.heap.size W2 w1) := hb1; clear hb1) | (refine wpList_field4 (by rfl) _ (by rfl) (PR u) (by rfl) ?_))
  refine go_on2 (motive := fun W => Code.wp _ _ _ _ W) (a := w) (B := w.heap.size) (n := w1.heap.size) (R0.out.cb HB1.out) (R2.out.cb HB1.out) (BB.out.trans (HB1.out.mono BB.out.size)) rfl ?_
  clear R0 R1 R2 BB HS HB1 HU
  intro W3 q0 q2 c0 t0
  have R0 : Hid (Row W3 w.heap.size (cpc (PR k)) 31) := q0
  have R2 : Hid (Row W3 (w.heap.size + 2) (cpc cz) 31) := q2
  have BB : Hid (Below w.heap.size w W3) := c0
  have K1 := q0.cls.s10
  have K2 := q0.cls.s11
  have f0 := q0.froz
  clear q0 q2 c0 t0
  go_upto_region 7 with fail
  have Q := R0.out
  refine go_on2 (motive := fun W => Code.wp _ _ _ _ W) (a := w) (B := w.heap.size) (cs := cpc (PR k)) Q R2.out BB.out rfl ?_
  clear Q R0 R2 BB K1 K2 f0
  intro W5 q0 q1 c0 t0
  have R0 : Hid (Row W5 w.heap.size (cpc (PR k)) 31) := q0
  have R1 : Hid (Row W5 (w.heap.size + 2) (cpc cz) 31) := q1
  have BB : Hid (Below w.heap.size w W5) := c0
  clear q0 q1 c0 t0
  go_wp2_with (first | (refine wpList_load_row (by rfl) _ _ (by rfl) _ (by rfl) 31 _ (0, 0) _ R0.out Try.underlying31 (by rfl) (info_cpu _) ?_) | (refine wpList_store_row (by rfl) _ _ _ (by rfl) (by rfl) _ _ _ (by rfl) (by rfl) R1.out (info_cpu _) (by rw [cpc_size, cpc_size]) (cpc_ones _) ?_))
  refine bodyPost_ret (v := .agg (cpc (PR k))) ?_ rfl ⟨rfl, ?_⟩
  · exact results_cell_row Try.results10 _ _ (w.heap.size + 2) 31 _ (0, 0) _ (by rfl) (setRow_heap _ _ _ _ _ _ R1.out) Try.underlying31 (by rfl) (info_cpu _)
  · exact below_row BB.out (by omega) _
set_option maxRecDepth 100000 in
set_option maxHeartbeats 1000000 in
theorem pCount_wt_wn (k u : Cp)  (w : World) : Calls Try.prog 10 #[.agg (cpc k), .agg (cpc u), .bool true, .bool true, .bool true] w fun e w' => e = .returned (.agg (cpc (PR k))) ∧ Below w.heap.size w w' := by
  have hz := zero_cpu
  obtain ⟨W0, hW0, r0, r1, r2, b0, s0⟩ := start3 w (cpc k) (cpc u) (cpc cz) 31 31 31
  have HS : Hid (W0.heap.size = w.heap.size + 3) := s0
  clear s0
  have HP : Hid (∀ W, Calls Try.prog 9 #[.agg (cpc k)] W fun e w' => e = .returned (.agg (cpc (PR k))) ∧ Below W.heap.size W w') := fun W => Pr_c k W
  have HU : Hid (∀ W, Calls Try.prog 9 #[.agg (cpc u)] W fun e w' => e = .returned (.agg (cpc (PR u))) ∧ Below W.heap.size W w') := fun W => Pr_c u W
  go_enter Try.func10, Try.ntmps10
  go_upto_region 1 with fail
  clear hz hW0
  go_upto_region 2 with (first | (refine wpList_load_row (by rfl) _ _ (by rfl) _ (by rfl) 31 _ (0, 0) _ r0.out Try.underlying31 (by rfl) (info_cpu _) ?_) | (go_at_call 9; refine (HP.out _).mono ?_; rintro e w1 ⟨rfl, hb1⟩; have HB1 : Hid (Below W0.heap.size W0 w1) := hb1; clear hb1) | (refine wpList_store_row (by rfl) _ _ _ (by rfl) (by rfl) _ _ _ (by rfl) (by rfl) (r0.out.later HB1.out (by rw [HS.out]; omega)) (info_cpu _) (by rw [cpc_size, cpc_size]) (cpc_ones _) ?_))
  refine go_on3 (motive := fun W => Code.wp _ _ _ _ W) (a := w) (B := w.heap.size) (n := w1.heap.size) (show Row _ w.heap.size (cpc (PR k)) 31 from setRow_heap _ _ _ _ _ _ (r0.out.later HB1.out (by rw [HS.out]; omega))) (row_apart (r1.out.later HB1.out (by rw [HS.out]; omega)) (by omega) _) (row_apart (r2.out.later HB1.out (by rw [HS.out]; omega)) (by omega) _) (below_row (b0.out.trans (HB1.out.mono b0.out.size)) (Nat.le_refl _) _) (by simp) ?_
  have SS : Hid (w.heap.size + 3 ≤ w1.heap.size) := by have := HB1.out.size; rw [HS.out] at this; exact this
  clear r0 r1 r2 b0 HS HB1 HP
  intro W2 q0 q1 q2 c0 t0
  have R0 : Hid (Row W2 w.heap.size (cpc (PR k)) 31) := q0
  have R1 : Hid (Row W2 (w.heap.size + 1) (cpc u) 31) := q1
  have R2 : Hid (Row W2 (w.heap.size + 2) (cpc cz) 31) := q2
  have BB : Hid (Below w.heap.size w W2) := c0
  have HS : Hid (w.heap.size + 3 ≤ W2.heap.size) := by show _ ≤ _; rw [t0]; exact SS.out
  clear q0 q1 q2 c0 t0 SS
  go_upto_region 3 with (first | (refine wpList_load_row (by rfl) _ _ (by rfl) _ (by rfl) 31 _ (0, 0) _ R1.out Try.underlying31 (by rfl) (info_cpu _) ?_) | (go_at_call 9; refine (HU.out _).mono ?_; rintro e w1 ⟨rfl, hb1⟩; have HB1 : Hid (Below W2.heap.size W2 w1) := hb1; clear hb1) | (refine wpList_field4 (by rfl) _ (by rfl) (PR u) (by rfl) ?_))
  refine go_on2 (motive := fun W => Code.wp _ _ _ _ W) (a := w) (B := w.heap.size) (n := w1.heap.size) (R0.out.cb HB1.out) (R2.out.cb HB1.out) (BB.out.trans (HB1.out.mono BB.out.size)) rfl ?_
  clear R0 R1 R2 BB HS HB1 HU
  intro W3 q0 q2 c0 t0
  have R0 : Hid (Row W3 w.heap.size (cpc (PR k)) 31) := q0
  have R2 : Hid (Row W3 (w.heap.size + 2) (cpc cz) 31) := q2
  have BB : Hid (Below w.heap.size w W3) := c0
  have K1 := q0.cls.s10
  have K2 := q0.cls.s11
  have f0 := q0.froz
  clear q0 q2 c0 t0
  go_upto_region 7 with fail
  have Q := R0.out
  refine go_on2 (motive := fun W => Code.wp _ _ _ _ W) (a := w) (B := w.heap.size) (cs := cpc (PR k)) Q R2.out BB.out rfl ?_
  clear Q R0 R2 BB K1 K2 f0
  intro W5 q0 q1 c0 t0
  have R0 : Hid (Row W5 w.heap.size (cpc (PR k)) 31) := q0
  have R1 : Hid (Row W5 (w.heap.size + 2) (cpc cz) 31) := q1
  have BB : Hid (Below w.heap.size w W5) := c0
  clear q0 q1 c0 t0
  go_wp2_with (first | (refine wpList_load_row (by rfl) _ _ (by rfl) _ (by rfl) 31 _ (0, 0) _ R0.out Try.underlying31 (by rfl) (info_cpu _) ?_) | (refine wpList_store_row (by rfl) _ _ _ (by rfl) (by rfl) _ _ _ (by rfl) (by rfl) R1.out (info_cpu _) (by rw [cpc_size, cpc_size]) (cpc_ones _) ?_))
  refine bodyPost_ret (v := .agg (cpc (PR k))) ?_ rfl ⟨rfl, ?_⟩
  · exact results_cell_row Try.results10 _ _ (w.heap.size + 2) 31 _ (0, 0) _ (by rfl) (setRow_heap _ _ _ _ _ _ R1.out) Try.underlying31 (by rfl) (info_cpu _)
  · exact below_row BB.out (by omega) _
set_option maxRecDepth 100000 in
set_option maxHeartbeats 1000000 in
theorem pCount_wt_if (k u : Cp) (h4 : ¬ (PR u).s 4 &&& 4#64 = 0#64) (w : World) : Calls Try.prog 10 #[.agg (cpc k), .agg (cpc u), .bool true, .bool true, .bool false] w fun e w' => e = .returned (.agg (cpc (PR k))) ∧ Below w.heap.size w w' := by
  have hz := zero_cpu
  obtain ⟨W0, hW0, r0, r1, r2, b0, s0⟩ := start3 w (cpc k) (cpc u) (cpc cz) 31 31 31
  have HS : Hid (W0.heap.size = w.heap.size + 3) := s0
  clear s0
  have HP : Hid (∀ W, Calls Try.prog 9 #[.agg (cpc k)] W fun e w' => e = .returned (.agg (cpc (PR k))) ∧ Below W.heap.size W w') := fun W => Pr_c k W
  have HU : Hid (∀ W, Calls Try.prog 9 #[.agg (cpc u)] W fun e w' => e = .returned (.agg (cpc (PR u))) ∧ Below W.heap.size W w') := fun W => Pr_c u W
  have b4 : bits .and .u64 (n64 ((PR u).s 4)) 4 = n64 ((PR u).s 4 &&& 4#64) := n64_and _ 4#64
  have e4 : ¬ n64 ((PR u).s 4 &&& 4#64) = 0 := fun e => h4 (n64_inj.1 e)
  generalize (PR u).s 4 &&& 4#64 = z4 at b4 e4
  clear h4
  go_enter Try.func10, Try.ntmps10
  go_upto_region 1 with fail
  clear hz hW0
  go_upto_region 2 with (first | (refine wpList_load_row (by rfl) _ _ (by rfl) _ (by rfl) 31 _ (0, 0) _ r0.out Try.underlying31 (by rfl) (info_cpu _) ?_) | (go_at_call 9; refine (HP.out _).mono ?_; rintro e w1 ⟨rfl, hb1⟩; have HB1 : Hid (Below W0.heap.size W0 w1) := hb1; clear hb1) | (refine wpList_store_row (by rfl) _ _ _ (by rfl) (by rfl) _ _ _ (by rfl) (by rfl) (r0.out.later HB1.out (by rw [HS.out]; omega)) (info_cpu _) (by rw [cpc_size, cpc_size]) (cpc_ones _) ?_))
  refine go_on3 (motive := fun W => Code.wp _ _ _ _ W) (a := w) (B := w.heap.size) (n := w1.heap.size) (show Row _ w.heap.size (cpc (PR k)) 31 from setRow_heap _ _ _ _ _ _ (r0.out.later HB1.out (by rw [HS.out]; omega))) (row_apart (r1.out.later HB1.out (by rw [HS.out]; omega)) (by omega) _) (row_apart (r2.out.later HB1.out (by rw [HS.out]; omega)) (by omega) _) (below_row (b0.out.trans (HB1.out.mono b0.out.size)) (Nat.le_refl _) _) (by simp) ?_
  have SS : Hid (w.heap.size + 3 ≤ w1.heap.size) := by have := HB1.out.size; rw [HS.out] at this; exact this
  clear r0 r1 r2 b0 HS HB1 HP
  intro W2 q0 q1 q2 c0 t0
  have R0 : Hid (Row W2 w.heap.size (cpc (PR k)) 31) := q0
  have R1 : Hid (Row W2 (w.heap.size + 1) (cpc u) 31) := q1
  have R2 : Hid (Row W2 (w.heap.size + 2) (cpc cz) 31) := q2
  have BB : Hid (Below w.heap.size w W2) := c0
  have HS : Hid (w.heap.size + 3 ≤ W2.heap.size) := by show _ ≤ _; rw [t0]; exact SS.out
  clear q0 q1 q2 c0 t0 SS
  go_upto_region 3 with (first | (refine wpList_load_row (by rfl) _ _ (by rfl) _ (by rfl) 31 _ (0, 0) _ R1.out Try.underlying31 (by rfl) (info_cpu _) ?_) | (go_at_call 9; refine (HU.out _).mono ?_; rintro e w1 ⟨rfl, hb1⟩; have HB1 : Hid (Below W2.heap.size W2 w1) := hb1; clear hb1) | (refine wpList_field4 (by rfl) _ (by rfl) (PR u) (by rfl) ?_))
  refine go_on2 (motive := fun W => Code.wp _ _ _ _ W) (a := w) (B := w.heap.size) (n := w1.heap.size) (R0.out.cb HB1.out) (R2.out.cb HB1.out) (BB.out.trans (HB1.out.mono BB.out.size)) rfl ?_
  clear R0 R1 R2 BB HS HB1 HU
  intro W3 q0 q2 c0 t0
  have R0 : Hid (Row W3 w.heap.size (cpc (PR k)) 31) := q0
  have R2 : Hid (Row W3 (w.heap.size + 2) (cpc cz) 31) := q2
  have BB : Hid (Below w.heap.size w W3) := c0
  have K1 := q0.cls.s10
  have K2 := q0.cls.s11
  have f0 := q0.froz
  clear q0 q2 c0 t0
  go_upto_region 7 with fail
  have Q := R0.out
  refine go_on2 (motive := fun W => Code.wp _ _ _ _ W) (a := w) (B := w.heap.size) (cs := cpc (PR k)) Q R2.out BB.out rfl ?_
  clear Q R0 R2 BB K1 K2 f0
  intro W5 q0 q1 c0 t0
  have R0 : Hid (Row W5 w.heap.size (cpc (PR k)) 31) := q0
  have R1 : Hid (Row W5 (w.heap.size + 2) (cpc cz) 31) := q1
  have BB : Hid (Below w.heap.size w W5) := c0
  clear q0 q1 c0 t0
  go_wp2_with (first | (refine wpList_load_row (by rfl) _ _ (by rfl) _ (by rfl) 31 _ (0, 0) _ R0.out Try.underlying31 (by rfl) (info_cpu _) ?_) | (refine wpList_store_row (by rfl) _ _ _ (by rfl) (by rfl) _ _ _ (by rfl) (by rfl) R1.out (info_cpu _) (by rw [cpc_size, cpc_size]) (cpc_ones _) ?_))
  refine bodyPost_ret (v := .agg (cpc (PR k))) ?_ rfl ⟨rfl, ?_⟩
  · exact results_cell_row Try.results10 _ _ (w.heap.size + 2) 31 _ (0, 0) _ (by rfl) (setRow_heap _ _ _ _ _ _ R1.out) Try.underlying31 (by rfl) (info_cpu _)
  · exact below_row BB.out (by omega) _
set_option maxRecDepth 100000 in
set_option maxHeartbeats 1000000 in
theorem pCount_wt_iy (k u : Cp) (h4 : (PR u).s 4 &&& 4#64 = 0#64) (w : World) : Calls Try.prog 10 #[.agg (cpc k), .agg (cpc u), .bool true, .bool true, .bool false] w fun e w' => e = .returned (.agg (cpc { (PR k) with s := upd (PR k).s 11 ((PR k).s 11 + 1#64) })) ∧ Below w.heap.size w w' := by
  have hz := zero_cpu
  obtain ⟨W0, hW0, r0, r1, r2, b0, s0⟩ := start3 w (cpc k) (cpc u) (cpc cz) 31 31 31
  have HS : Hid (W0.heap.size = w.heap.size + 3) := s0
  clear s0
  have HP : Hid (∀ W, Calls Try.prog 9 #[.agg (cpc k)] W fun e w' => e = .returned (.agg (cpc (PR k))) ∧ Below W.heap.size W w') := fun W => Pr_c k W
  have HU : Hid (∀ W, Calls Try.prog 9 #[.agg (cpc u)] W fun e w' => e = .returned (.agg (cpc (PR u))) ∧ Below W.heap.size W w') := fun W => Pr_c u W
  have b4 : bits .and .u64 (n64 ((PR u).s 4)) 4 = n64 ((PR u).s 4 &&& 4#64) := n64_and _ 4#64
  have e4 : n64 ((PR u).s 4 &&& 4#64) = 0 := by rw [h4]; rfl
  generalize (PR u).s 4 &&& 4#64 = z4 at b4 e4
  clear h4
  have a2 : IntKind.u64.wrap (n64 ((PR k).s 11) + 1) = n64 ((PR k).s 11 + 1#64) := n64_add _ 1#64
  go_enter Try.func10, Try.ntmps10
  go_upto_region 1 with fail
  clear hz hW0
  go_upto_region 2 with (first | (refine wpList_load_row (by rfl) _ _ (by rfl) _ (by rfl) 31 _ (0, 0) _ r0.out Try.underlying31 (by rfl) (info_cpu _) ?_) | (go_at_call 9; refine (HP.out _).mono ?_; rintro e w1 ⟨rfl, hb1⟩; have HB1 : Hid (Below W0.heap.size W0 w1) := hb1; clear hb1) | (refine wpList_store_row (by rfl) _ _ _ (by rfl) (by rfl) _ _ _ (by rfl) (by rfl) (r0.out.later HB1.out (by rw [HS.out]; omega)) (info_cpu _) (by rw [cpc_size, cpc_size]) (cpc_ones _) ?_))
  refine go_on3 (motive := fun W => Code.wp _ _ _ _ W) (a := w) (B := w.heap.size) (n := w1.heap.size) (show Row _ w.heap.size (cpc (PR k)) 31 from setRow_heap _ _ _ _ _ _ (r0.out.later HB1.out (by rw [HS.out]; omega))) (row_apart (r1.out.later HB1.out (by rw [HS.out]; omega)) (by omega) _) (row_apart (r2.out.later HB1.out (by rw [HS.out]; omega)) (by omega) _) (below_row (b0.out.trans (HB1.out.mono b0.out.size)) (Nat.le_refl _) _) (by simp) ?_
  have SS : Hid (w.heap.size + 3 ≤ w1.heap.size) := by have := HB1.out.size; rw [HS.out] at this; exact this
  clear r0 r1 r2 b0 HS HB1 HP
  intro W2 q0 q1 q2 c0 t0
  have R0 : Hid (Row W2 w.heap.size (cpc (PR k)) 31) := q0
  have R1 : Hid (Row W2 (w.heap.size + 1) (cpc u) 31) := q1
  have R2 : Hid (Row W2 (w.heap.size + 2) (cpc cz) 31) := q2
  have BB : Hid (Below w.heap.size w W2) := c0
  have HS : Hid (w.heap.size + 3 ≤ W2.heap.size) := by show _ ≤ _; rw [t0]; exact SS.out
  clear q0 q1 q2 c0 t0 SS
  go_upto_region 3 with (first | (refine wpList_load_row (by rfl) _ _ (by rfl) _ (by rfl) 31 _ (0, 0) _ R1.out Try.underlying31 (by rfl) (info_cpu _) ?_) | (go_at_call 9; refine (HU.out _).mono ?_; rintro e w1 ⟨rfl, hb1⟩; have HB1 : Hid (Below W2.heap.size W2 w1) := hb1; clear hb1) | (refine wpList_field4 (by rfl) _ (by rfl) (PR u) (by rfl) ?_))
  refine go_on2 (motive := fun W => Code.wp _ _ _ _ W) (a := w) (B := w.heap.size) (n := w1.heap.size) (R0.out.cb HB1.out) (R2.out.cb HB1.out) (BB.out.trans (HB1.out.mono BB.out.size)) rfl ?_
  clear R0 R1 R2 BB HS HB1 HU
  intro W3 q0 q2 c0 t0
  have R0 : Hid (Row W3 w.heap.size (cpc (PR k)) 31) := q0
  have R2 : Hid (Row W3 (w.heap.size + 2) (cpc cz) 31) := q2
  have BB : Hid (Below w.heap.size w W3) := c0
  have K1 := q0.cls.s10
  have K2 := q0.cls.s11
  have f0 := q0.froz
  clear q0 q2 c0 t0
  go_upto_region 7 with fail
  have Q := (R0.out.put (i := 46) (.int .u64 (n64 ((PR k).s 11 + 1#64))))
  rw [cpc_s11] at Q
  refine go_on2 (motive := fun W => Code.wp _ _ _ _ W) (a := w) (B := w.heap.size) (cs := cpc { (PR k) with s := upd (PR k).s 11 ((PR k).s 11 + 1#64) }) Q (Row.other R2.out (by omega) _) (below_put BB.out (Nat.le_refl _) _) rfl ?_
  clear Q R0 R2 BB K1 K2 f0
  intro W5 q0 q1 c0 t0
  have R0 : Hid (Row W5 w.heap.size (cpc { (PR k) with s := upd (PR k).s 11 ((PR k).s 11 + 1#64) }) 31) := q0
  have R1 : Hid (Row W5 (w.heap.size + 2) (cpc cz) 31) := q1
  have BB : Hid (Below w.heap.size w W5) := c0
  clear q0 q1 c0 t0
  go_wp2_with (first | (refine wpList_load_row (by rfl) _ _ (by rfl) _ (by rfl) 31 _ (0, 0) _ R0.out Try.underlying31 (by rfl) (info_cpu _) ?_) | (refine wpList_store_row (by rfl) _ _ _ (by rfl) (by rfl) _ _ _ (by rfl) (by rfl) R1.out (info_cpu _) (by rw [cpc_size, cpc_size]) (cpc_ones _) ?_))
  refine bodyPost_ret (v := .agg (cpc { (PR k) with s := upd (PR k).s 11 ((PR k).s 11 + 1#64) })) ?_ rfl ⟨rfl, ?_⟩
  · exact results_cell_row Try.results10 _ _ (w.heap.size + 2) 31 _ (0, 0) _ (by rfl) (setRow_heap _ _ _ _ _ _ R1.out) Try.underlying31 (by rfl) (info_cpu _)
  · exact below_row BB.out (by omega) _
set_option maxRecDepth 100000 in
set_option maxHeartbeats 1000000 in
theorem pCount_if_nr (k u : Cp) (h1 : ¬ (PR u).s 4 &&& 1#64 = 0#64) (wn : Bool) (w : World) : Calls Try.prog 10 #[.agg (cpc k), .agg (cpc u), .bool false, .bool false, .bool wn] w fun e w' => e = .returned (.agg (cpc (PR k))) ∧ Below w.heap.size w w' := by
  have hz := zero_cpu
  obtain ⟨W0, hW0, r0, r1, r2, b0, s0⟩ := start3 w (cpc k) (cpc u) (cpc cz) 31 31 31
  have HS : Hid (W0.heap.size = w.heap.size + 3) := s0
  clear s0
  have HP : Hid (∀ W, Calls Try.prog 9 #[.agg (cpc k)] W fun e w' => e = .returned (.agg (cpc (PR k))) ∧ Below W.heap.size W w') := fun W => Pr_c k W
  have HU : Hid (∀ W, Calls Try.prog 9 #[.agg (cpc u)] W fun e w' => e = .returned (.agg (cpc (PR u))) ∧ Below W.heap.size W w') := fun W => Pr_c u W
  have b1 : bits .and .u64 (n64 ((PR u).s 4)) 1 = n64 ((PR u).s 4 &&& 1#64) := n64_and _ 1#64
  have e1 : ¬ n64 ((PR u).s 4 &&& 1#64) = 0 := fun e => h1 (n64_inj.1 e)
  generalize (PR u).s 4 &&& 1#64 = z1 at b1 e1
  clear h1
  go_enter Try.func10, Try.ntmps10
  go_upto_region 1 with fail
  clear hz hW0
  go_upto_region 2 with (first | (refine wpList_load_row (by rfl) _ _ (by rfl) _ (by rfl) 31 _ (0, 0) _ r0.out Try.underlying31 (by rfl) (info_cpu _) ?_) | (go_at_call 9; refine (HP.out _).mono ?_; rintro e w1 ⟨rfl, hb1⟩; have HB1 : Hid (Below W0.heap.size W0 w1) := hb1; clear hb1) | (refine wpList_store_row (by rfl) _ _ _ (by rfl) (by rfl) _ _ _ (by rfl) (by rfl) (r0.out.later HB1.out (by rw [HS.out]; omega)) (info_cpu _) (by rw [cpc_size, cpc_size]) (cpc_ones _) ?_))
  refine go_on3 (motive := fun W => Code.wp _ _ _ _ W) (a := w) (B := w.heap.size) (n := w1.heap.size) (show Row _ w.heap.size (cpc (PR k)) 31 from setRow_heap _ _ _ _ _ _ (r0.out.later HB1.out (by rw [HS.out]; omega))) (row_apart (r1.out.later HB1.out (by rw [HS.out]; omega)) (by omega) _) (row_apart (r2.out.later HB1.out (by rw [HS.out]; omega)) (by omega) _) (below_row (b0.out.trans (HB1.out.mono b0.out.size)) (Nat.le_refl _) _) (by simp) ?_
  have SS : Hid (w.heap.size + 3 ≤ w1.heap.size) := by have := HB1.out.size; rw [HS.out] at this; exact this
  clear r0 r1 r2 b0 HS HB1 HP
  intro W2 q0 q1 q2 c0 t0
  have R0 : Hid (Row W2 w.heap.size (cpc (PR k)) 31) := q0
  have R1 : Hid (Row W2 (w.heap.size + 1) (cpc u) 31) := q1
  have R2 : Hid (Row W2 (w.heap.size + 2) (cpc cz) 31) := q2
  have BB : Hid (Below w.heap.size w W2) := c0
  have HS : Hid (w.heap.size + 3 ≤ W2.heap.size) := by show _ ≤ _; rw [t0]; exact SS.out
  clear q0 q1 q2 c0 t0 SS
  go_upto_region 3 with (first | (refine wpList_load_row (by rfl) _ _ (by rfl) _ (by rfl) 31 _ (0, 0) _ R1.out Try.underlying31 (by rfl) (info_cpu _) ?_) | (go_at_call 9; refine (HU.out _).mono ?_; rintro e w1 ⟨rfl, hb1⟩; have HB1 : Hid (Below W2.heap.size W2 w1) := hb1; clear hb1) | (refine wpList_field4 (by rfl) _ (by rfl) (PR u) (by rfl) ?_))
  refine go_on2 (motive := fun W => Code.wp _ _ _ _ W) (a := w) (B := w.heap.size) (n := w1.heap.size) (R0.out.cb HB1.out) (R2.out.cb HB1.out) (BB.out.trans (HB1.out.mono BB.out.size)) rfl ?_
  clear R0 R1 R2 BB HS HB1 HU
  intro W3 q0 q2 c0 t0
  have R0 : Hid (Row W3 w.heap.size (cpc (PR k)) 31) := q0
  have R2 : Hid (Row W3 (w.heap.size + 2) (cpc cz) 31) := q2
  have BB : Hid (Below w.heap.size w W3) := c0
  have K1 := q0.cls.s10
  have K2 := q0.cls.s11
  have f0 := q0.froz
  clear q0 q2 c0 t0
  go_upto_region 7 with fail
  have Q := R0.out
  refine go_on2 (motive := fun W => Code.wp _ _ _ _ W) (a := w) (B := w.heap.size) (cs := cpc (PR k)) Q R2.out BB.out rfl ?_
  clear Q R0 R2 BB K1 K2 f0
  intro W5 q0 q1 c0 t0
  have R0 : Hid (Row W5 w.heap.size (cpc (PR k)) 31) := q0
  have R1 : Hid (Row W5 (w.heap.size + 2) (cpc cz) 31) := q1
  have BB : Hid (Below w.heap.size w W5) := c0
  clear q0 q1 c0 t0
  go_wp2_with (first | (refine wpList_load_row (by rfl) _ _ (by rfl) _ (by rfl) 31 _ (0, 0) _ R0.out Try.underlying31 (by rfl) (info_cpu _) ?_) | (refine wpList_store_row (by rfl) _ _ _ (by rfl) (by rfl) _ _ _ (by rfl) (by rfl) R1.out (info_cpu _) (by rw [cpc_size, cpc_size]) (cpc_ones _) ?_))
  refine bodyPost_ret (v := .agg (cpc (PR k))) ?_ rfl ⟨rfl, ?_⟩
  · exact results_cell_row Try.results10 _ _ (w.heap.size + 2) 31 _ (0, 0) _ (by rfl) (setRow_heap _ _ _ _ _ _ R1.out) Try.underlying31 (by rfl) (info_cpu _)
  · exact below_row BB.out (by omega) _
set_option maxRecDepth 100000 in
set_option maxHeartbeats 1000000 in
theorem pCount_if_wn (k u : Cp) (h1 : ¬ (PR u).s 4 &&& 1#64 = 0#64) (w : World) : Calls Try.prog 10 #[.agg (cpc k), .agg (cpc u), .bool true, .bool false, .bool true] w fun e w' => e = .returned (.agg (cpc (PR k))) ∧ Below w.heap.size w w' := by
  have hz := zero_cpu
  obtain ⟨W0, hW0, r0, r1, r2, b0, s0⟩ := start3 w (cpc k) (cpc u) (cpc cz) 31 31 31
  have HS : Hid (W0.heap.size = w.heap.size + 3) := s0
  clear s0
  have HP : Hid (∀ W, Calls Try.prog 9 #[.agg (cpc k)] W fun e w' => e = .returned (.agg (cpc (PR k))) ∧ Below W.heap.size W w') := fun W => Pr_c k W
  have HU : Hid (∀ W, Calls Try.prog 9 #[.agg (cpc u)] W fun e w' => e = .returned (.agg (cpc (PR u))) ∧ Below W.heap.size W w') := fun W => Pr_c u W
  have b1 : bits .and .u64 (n64 ((PR u).s 4)) 1 = n64 ((PR u).s 4 &&& 1#64) := n64_and _ 1#64
  have e1 : ¬ n64 ((PR u).s 4 &&& 1#64) = 0 := fun e => h1 (n64_inj.1 e)
  generalize (PR u).s 4 &&& 1#64 = z1 at b1 e1
  clear h1
  go_enter Try.func10, Try.ntmps10
  go_upto_region 1 with fail
  clear hz hW0
  go_upto_region 2 with (first | (refine wpList_load_row (by rfl) _ _ (by rfl) _ (by rfl) 31 _ (0, 0) _ r0.out Try.underlying31 (by rfl) (info_cpu _) ?_) | (go_at_call 9; refine (HP.out _).mono ?_; rintro e w1 ⟨rfl, hb1⟩; have HB1 : Hid (Below W0.heap.size W0 w1) := hb1; clear hb1) | (refine wpList_store_row (by rfl) _ _ _ (by rfl) (by rfl) _ _ _ (by rfl) (by rfl) (r0.out.later HB1.out (by rw [HS.out]; omega)) (info_cpu _) (by rw [cpc_size, cpc_size]) (cpc_ones _) ?_))
  refine go_on3 (motive := fun W => Code.wp _ _ _ _ W) (a := w) (B := w.heap.size) (n := w1.heap.size) (show Row _ w.heap.size (cpc (PR k)) 31 from setRow_heap _ _ _ _ _ _ (r0.out.later HB1.out (by rw [HS.out]; omega))) (row_apart (r1.out.later HB1.out (by rw [HS.out]; omega)) (by omega) _) (row_apart (r2.out.later HB1.out (by rw [HS.out]; omega)) (by omega) _) (below_row (b0.out.trans (HB1.out.mono b0.out.size)) (Nat.le_refl _) _) (by simp) ?_
  have SS : Hid (w.heap.size + 3 ≤ w1.heap.size) := by have := HB1.out.size; rw [HS.out] at this; exact this
  clear r0 r1 r2 b0 HS HB1 HP
  intro W2 q0 q1 q2 c0 t0
  have R0 : Hid (Row W2 w.heap.size (cpc (PR k)) 31) := q0
  have R1 : Hid (Row W2 (w.heap.size + 1) (cpc u) 31) := q1
  have R2 : Hid (Row W2 (w.heap.size + 2) (cpc cz) 31) := q2
  have BB : Hid (Below w.heap.size w W2) := c0
  have HS : Hid (w.heap.size + 3 ≤ W2.heap.size) := by show _ ≤ _; rw [t0]; exact SS.out
  clear q0 q1 q2 c0 t0 SS
  go_upto_region 3 with (first | (refine wpList_load_row (by rfl) _ _ (by rfl) _ (by rfl) 31 _ (0, 0) _ R1.out Try.underlying31 (by rfl) (info_cpu _) ?_) | (go_at_call 9; refine (HU.out _).mono ?_; rintro e w1 ⟨rfl, hb1⟩; have HB1 : Hid (Below W2.heap.size W2 w1) := hb1; clear hb1) | (refine wpList_field4 (by rfl) _ (by rfl) (PR u) (by rfl) ?_))
  refine go_on2 (motive := fun W => Code.wp _ _ _ _ W) (a := w) (B := w.heap.size) (n := w1.heap.size) (R0.out.cb HB1.out) (R2.out.cb HB1.out) (BB.out.trans (HB1.out.mono BB.out.size)) rfl ?_
  clear R0 R1 R2 BB HS HB1 HU
  intro W3 q0 q2 c0 t0
  have R0 : Hid (Row W3 w.heap.size (cpc (PR k)) 31) := q0
  have R2 : Hid (Row W3 (w.heap.size + 2) (cpc cz) 31) := q2
  have BB : Hid (Below w.heap.size w W3) := c0
  have K1 := q0.cls.s10
  have K2 := q0.cls.s11
  have f0 := q0.froz
  clear q0 q2 c0 t0
  go_upto_region 7 with fail
  have Q := R0.out
  refine go_on2 (motive := fun W => Code.wp _ _ _ _ W) (a := w) (B := w.heap.size) (cs := cpc (PR k)) Q R2.out BB.out rfl ?_
  clear Q R0 R2 BB K1 K2 f0
  intro W5 q0 q1 c0 t0
  have R0 : Hid (Row W5 w.heap.size (cpc (PR k)) 31) := q0
  have R1 : Hid (Row W5 (w.heap.size + 2) (cpc cz) 31) := q1
  have BB : Hid (Below w.heap.size w W5) := c0
  clear q0 q1 c0 t0
  go_wp2_with (first | (refine wpList_load_row (by rfl) _ _ (by rfl) _ (by rfl) 31 _ (0, 0) _ R0.out Try.underlying31 (by rfl) (info_cpu _) ?_) | (refine wpList_store_row (by rfl) _ _ _ (by rfl) (by rfl) _ _ _ (by rfl) (by rfl) R1.out (info_cpu _) (by rw [cpc_size, cpc_size]) (cpc_ones _) ?_))
  refine bodyPost_ret (v := .agg (cpc (PR k))) ?_ rfl ⟨rfl, ?_⟩
  · exact results_cell_row Try.results10 _ _ (w.heap.size + 2) 31 _ (0, 0) _ (by rfl) (setRow_heap _ _ _ _ _ _ R1.out) Try.underlying31 (by rfl) (info_cpu _)
  · exact below_row BB.out (by omega) _
set_option maxRecDepth 100000 in
set_option maxHeartbeats 1000000 in
theorem pCount_if_if (k u : Cp) (h1 : ¬ (PR u).s 4 &&& 1#64 = 0#64) (h4 : ¬ (PR u).s 4 &&& 4#64 = 0#64) (w : World) : Calls Try.prog 10 #[.agg (cpc k), .agg (cpc u), .bool true, .bool false, .bool false] w fun e w' => e = .returned (.agg (cpc (PR k))) ∧ Below w.heap.size w w' := by
  have hz := zero_cpu
  obtain ⟨W0, hW0, r0, r1, r2, b0, s0⟩ := start3 w (cpc k) (cpc u) (cpc cz) 31 31 31
  have HS : Hid (W0.heap.size = w.heap.size + 3) := s0
  clear s0
  have HP : Hid (∀ W, Calls Try.prog 9 #[.agg (cpc k)] W fun e w' => e = .returned (.agg (cpc (PR k))) ∧ Below W.heap.size W w') := fun W => Pr_c k W
  have HU : Hid (∀ W, Calls Try.prog 9 #[.agg (cpc u)] W fun e w' => e = .returned (.agg (cpc (PR u))) ∧ Below W.heap.size W w') := fun W => Pr_c u W
  have b1 : bits .and .u64 (n64 ((PR u).s 4)) 1 = n64 ((PR u).s 4 &&& 1#64) := n64_and _ 1#64
  have e1 : ¬ n64 ((PR u).s 4 &&& 1#64) = 0 := fun e => h1 (n64_inj.1 e)
  generalize (PR u).s 4 &&& 1#64 = z1 at b1 e1
  clear h1
  have b4 : bits .and .u64 (n64 ((PR u).s 4)) 4 = n64 ((PR u).s 4 &&& 4#64) := n64_and _ 4#64
  have e4 : ¬ n64 ((PR u).s 4 &&& 4#64) = 0 := fun e => h4 (n64_inj.1 e)
  generalize (PR u).s 4 &&& 4#64 = z4 at b4 e4
  clear h4
  go_enter Try.func10, Try.ntmps10
  go_upto_region 1 with fail
  clear hz hW0
  go_upto_region 2 with (first | (refine wpList_load_row (by rfl) _ _ (by rfl) _ (by rfl) 31 _ (0, 0) _ r0.out Try.underlying31 (by rfl) (info_cpu _) ?_) | (go_at_call 9; refine (HP.out _).mono ?_; rintro e w1 ⟨rfl, hb1⟩; have HB1 : Hid (Below W0.heap.size W0 w1) := hb1; clear hb1) | (refine wpList_store_row (by rfl) _ _ _ (by rfl) (by rfl) _ _ _ (by rfl) (by rfl) (r0.out.later HB1.out (by rw [HS.out]; omega)) (info_cpu _) (by rw [cpc_size, cpc_size]) (cpc_ones _) ?_))
  refine go_on3 (motive := fun W => Code.wp _ _ _ _ W) (a := w) (B := w.heap.size) (n := w1.heap.size) (show Row _ w.heap.size (cpc (PR k)) 31 from setRow_heap _ _ _ _ _ _ (r0.out.later HB1.out (by rw [HS.out]; omega))) (row_apart (r1.out.later HB1.out (by rw [HS.out]; omega)) (by omega) _) (row_apart (r2.out.later HB1.out (by rw [HS.out]; omega)) (by omega) _) (below_row (b0.out.trans (HB1.out.mono b0.out.size)) (Nat.le_refl _) _) (by simp) ?_
  have SS : Hid (w.heap.size + 3 ≤ w1.heap.size) := by have := HB1.out.size; rw [HS.out] at this; exact this
  clear r0 r1 r2 b0 HS HB1 HP
  intro W2 q0 q1 q2 c0 t0
  have R0 : Hid (Row W2 w.heap.size (cpc (PR k)) 31) := q0
  have R1 : Hid (Row W2 (w.heap.size + 1) (cpc u) 31) := q1
  have R2 : Hid (Row W2 (w.heap.size + 2) (cpc cz) 31) := q2
  have BB : Hid (Below w.heap.size w W2) := c0
  have HS : Hid (w.heap.size + 3 ≤ W2.heap.size) := by show _ ≤ _; rw [t0]; exact SS.out
  clear q0 q1 q2 c0 t0 SS
  go_upto_region 3 with (first | (refine wpList_load_row (by rfl) _ _ (by rfl) _ (by rfl) 31 _ (0, 0) _ R1.out Try.underlying31 (by rfl) (info_cpu _) ?_) | (go_at_call 9; refine (HU.out _).mono ?_; rintro e w1 ⟨rfl, hb1⟩; have HB1 : Hid (Below W2.heap.size W2 w1) := hb1; clear hb1) | (refine wpList_field4 (by rfl) _ (by rfl) (PR u) (by rfl) ?_))
  refine go_on2 (motive := fun W => Code.wp _ _ _ _ W) (a := w) (B := w.heap.size) (n := w1.heap.size) (R0.out.cb HB1.out) (R2.out.cb HB1.out) (BB.out.trans (HB1.out.mono BB.out.size)) rfl ?_
  clear R0 R1 R2 BB HS HB1 HU
  intro W3 q0 q2 c0 t0
  have R0 : Hid (Row W3 w.heap.size (cpc (PR k)) 31) := q0
  have R2 : Hid (Row W3 (w.heap.size + 2) (cpc cz) 31) := q2
  have BB : Hid (Below w.heap.size w W3) := c0
  have K1 := q0.cls.s10
  have K2 := q0.cls.s11
  have f0 := q0.froz
  clear q0 q2 c0 t0
  go_upto_region 7 with fail
  have Q := R0.out
  refine go_on2 (motive := fun W => Code.wp _ _ _ _ W) (a := w) (B := w.heap.size) (cs := cpc (PR k)) Q R2.out BB.out rfl ?_
  clear Q R0 R2 BB K1 K2 f0
  intro W5 q0 q1 c0 t0
  have R0 : Hid (Row W5 w.heap.size (cpc (PR k)) 31) := q0
  have R1 : Hid (Row W5 (w.heap.size + 2) (cpc cz) 31) := q1
  have BB : Hid (Below w.heap.size w W5) := c0
  clear q0 q1 c0 t0
  go_wp2_with (first | (refine wpList_load_row (by rfl) _ _ (by rfl) _ (by rfl) 31 _ (0, 0) _ R0.out Try.underlying31 (by rfl) (info_cpu _) ?_) | (refine wpList_store_row (by rfl) _ _ _ (by rfl) (by rfl) _ _ _ (by rfl) (by rfl) R1.out (info_cpu _) (by rw [cpc_size, cpc_size]) (cpc_ones _) ?_))
  refine bodyPost_ret (v := .agg (cpc (PR k))) ?_ rfl ⟨rfl, ?_⟩
  · exact results_cell_row Try.results10 _ _ (w.heap.size + 2) 31 _ (0, 0) _ (by rfl) (setRow_heap _ _ _ _ _ _ R1.out) Try.underlying31 (by rfl) (info_cpu _)
  · exact below_row BB.out (by omega) _
set_option maxRecDepth 100000 in
set_option maxHeartbeats 1000000 in
theorem pCount_if_iy (k u : Cp) (h1 : ¬ (PR u).s 4 &&& 1#64 = 0#64) (h4 : (PR u).s 4 &&& 4#64 = 0#64) (w : World) : Calls Try.prog 10 #[.agg (cpc k), .agg (cpc u), .bool true, .bool false, .bool false] w fun e w' => e = .returned (.agg (cpc { (PR k) with s := upd (PR k).s 11 ((PR k).s 11 + 1#64) })) ∧ Below w.heap.size w w' := by
  have hz := zero_cpu
  obtain ⟨W0, hW0, r0, r1, r2, b0, s0⟩ := start3 w (cpc k) (cpc u) (cpc cz) 31 31 31
  have HS : Hid (W0.heap.size = w.heap.size + 3) := s0
  clear s0
  have HP : Hid (∀ W, Calls Try.prog 9 #[.agg (cpc k)] W fun e w' => e = .returned (.agg (cpc (PR k))) ∧ Below W.heap.size W w') := fun W => Pr_c k W
  have HU : Hid (∀ W, Calls Try.prog 9 #[.agg (cpc u)] W fun e w' => e = .returned (.agg (cpc (PR u))) ∧ Below W.heap.size W w') := fun W => Pr_c u W
  have b1 : bits .and .u64 (n64 ((PR u).s 4)) 1 = n64 ((PR u).s 4 &&& 1#64) := n64_and _ 1#64
  have e1 : ¬ n64 ((PR u).s 4 &&& 1#64) = 0 := fun e => h1 (n64_inj.1 e)
  generalize (PR u).s 4 &&& 1#64 = z1 at b1 e1
  clear h1
  have b4 : bits .and .u64 (n64 ((PR u).s 4)) 4 = n64 ((PR u).s 4 &&& 4#64) := n64_and _ 4#64
  have e4 : n64 ((PR u).s 4 &&& 4#64) = 0 := by rw [h4]; rfl
  generalize (PR u).s 4 &&& 4#64 = z4 at b4 e4
  clear h4
  have a2 : IntKind.u64.wrap (n64 ((PR k).s 11) + 1) = n64 ((PR k).s 11 + 1#64) := n64_add _ 1#64
  go_enter Try.func10, Try.ntmps10
  go_upto_region 1 with fail
  clear hz hW0
  go_upto_region 2 with (first | (refine wpList_load_row (by rfl) _ _ (by rfl) _ (by rfl) 31 _ (0, 0) _ r0.out Try.underlying31 (by rfl) (info_cpu _) ?_) | (go_at_call 9; refine (HP.out _).mono ?_; rintro e w1 ⟨rfl, hb1⟩; have HB1 : Hid (Below W0.heap.size W0 w1) := hb1; clear hb1) | (refine wpList_store_row (by rfl) _ _ _ (by rfl) (by rfl) _ _ _ (by rfl) (by rfl) (r0.out.later HB1.out (by rw [HS.out]; omega)) (info_cpu _) (by rw [cpc_size, cpc_size]) (cpc_ones _) ?_))
  refine go_on3 (motive := fun W => Code.wp _ _ _ _ W) (a := w) (B := w.heap.size) (n := w1.heap.size) (show Row _ w.heap.size (cpc (PR k)) 31 from setRow_heap _ _ _ _ _ _ (r0.out.later HB1.out (by rw [HS.out]; omega))) (row_apart (r1.out.later HB1.out (by rw [HS.out]; omega)) (by omega) _) (row_apart (r2.out.later HB1.out (by rw [HS.out]; omega)) (by omega) _) (below_row (b0.out.trans (HB1.out.mono b0.out.size)) (Nat.le_refl _) _) (by simp) ?_
  have SS : Hid (w.heap.size + 3 ≤ w1.heap.size) := by have := HB1.out.size; rw [HS.out] at this; exact this
  clear r0 r1 r2 b0 HS HB1 HP
  intro W2 q0 q1 q2 c0 t0
  have R0 : Hid (Row W2 w.heap.size (cpc (PR k)) 31) := q0
  have R1 : Hid (Row W2 (w.heap.size + 1) (cpc u) 31) := q1
  have R2 : Hid (Row W2 (w.heap.size + 2) (cpc cz) 31) := q2
  have BB : Hid (Below w.heap.size w W2) := c0
  have HS : Hid (w.heap.size + 3 ≤ W2.heap.size) := by show _ ≤ _; rw [t0]; exact SS.out
  clear q0 q1 q2 c0 t0 SS
  go_upto_region 3 with (first | (refine wpList_load_row (by rfl) _ _ (by rfl) _ (by rfl) 31 _ (0, 0) _ R1.out Try.underlying31 (by rfl) (info_cpu _) ?_) | (go_at_call 9; refine (HU.out _).mono ?_; rintro e w1 ⟨rfl, hb1⟩; have HB1 : Hid (Below W2.heap.size W2 w1) := hb1; clear hb1) | (refine wpList_field4 (by rfl) _ (by rfl) (PR u) (by rfl) ?_))
  refine go_on2 (motive := fun W => Code.wp _ _ _ _ W) (a := w) (B := w.heap.size) (n := w1.heap.size) (R0.out.cb HB1.out) (R2.out.cb HB1.out) (BB.out.trans (HB1.out.mono BB.out.size)) rfl ?_
  clear R0 R1 R2 BB HS HB1 HU
  intro W3 q0 q2 c0 t0
  have R0 : Hid (Row W3 w.heap.size (cpc (PR k)) 31) := q0
  have R2 : Hid (Row W3 (w.heap.size + 2) (cpc cz) 31) := q2
  have BB : Hid (Below w.heap.size w W3) := c0
  have K1 := q0.cls.s10
  have K2 := q0.cls.s11
  have f0 := q0.froz
  clear q0 q2 c0 t0
  go_upto_region 7 with fail
  have Q := (R0.out.put (i := 46) (.int .u64 (n64 ((PR k).s 11 + 1#64))))
  rw [cpc_s11] at Q
  refine go_on2 (motive := fun W => Code.wp _ _ _ _ W) (a := w) (B := w.heap.size) (cs := cpc { (PR k) with s := upd (PR k).s 11 ((PR k).s 11 + 1#64) }) Q (Row.other R2.out (by omega) _) (below_put BB.out (Nat.le_refl _) _) rfl ?_
  clear Q R0 R2 BB K1 K2 f0
  intro W5 q0 q1 c0 t0
  have R0 : Hid (Row W5 w.heap.size (cpc { (PR k) with s := upd (PR k).s 11 ((PR k).s 11 + 1#64) }) 31) := q0
  have R1 : Hid (Row W5 (w.heap.size + 2) (cpc cz) 31) := q1
  have BB : Hid (Below w.heap.size w W5) := c0
  clear q0 q1 c0 t0
  go_wp2_with (first | (refine wpList_load_row (by rfl) _ _ (by rfl) _ (by rfl) 31 _ (0, 0) _ R0.out Try.underlying31 (by rfl) (info_cpu _) ?_) | (refine wpList_store_row (by rfl) _ _ _ (by rfl) (by rfl) _ _ _ (by rfl) (by rfl) R1.out (info_cpu _) (by rw [cpc_size, cpc_size]) (cpc_ones _) ?_))
  refine bodyPost_ret (v := .agg (cpc { (PR k) with s := upd (PR k).s 11 ((PR k).s 11 + 1#64) })) ?_ rfl ⟨rfl, ?_⟩
  · exact results_cell_row Try.results10 _ _ (w.heap.size + 2) 31 _ (0, 0) _ (by rfl) (setRow_heap _ _ _ _ _ _ R1.out) Try.underlying31 (by rfl) (info_cpu _)
  · exact below_row BB.out (by omega) _
set_option maxRecDepth 100000 in
set_option maxHeartbeats 1000000 in
theorem pCount_iy_nr (k u : Cp) (h1 : (PR u).s 4 &&& 1#64 = 0#64) (wn : Bool) (w : World) : Calls Try.prog 10 #[.agg (cpc k), .agg (cpc u), .bool false, .bool false, .bool wn] w fun e w' => e = .returned (.agg (cpc { (PR k) with s := upd (PR k).s 10 ((PR k).s 10 + 1#64) })) ∧ Below w.heap.size w w' := by
  have hz := zero_cpu
  obtain ⟨W0, hW0, r0, r1, r2, b0, s0⟩ := start3 w (cpc k) (cpc u) (cpc cz) 31 31 31
  have HS : Hid (W0.heap.size = w.heap.size + 3) := s0
  clear s0
  have HP : Hid (∀ W, Calls Try.prog 9 #[.agg (cpc k)] W fun e w' => e = .returned (.agg (cpc (PR k))) ∧ Below W.heap.size W w') := fun W => Pr_c k W
  have HU : Hid (∀ W, Calls Try.prog 9 #[.agg (cpc u)] W fun e w' => e = .returned (.agg (cpc (PR u))) ∧ Below W.heap.size W w') := fun W => Pr_c u W
  have b1 : bits .and .u64 (n64 ((PR u).s 4)) 1 = n64 ((PR u).s 4 &&& 1#64) := n64_and _ 1#64
  have e1 : n64 ((PR u).s 4 &&& 1#64) = 0 := by rw [h1]; rfl
  generalize (PR u).s 4 &&& 1#64 = z1 at b1 e1
  clear h1
  have a1 : IntKind.u64.wrap (n64 ((PR k).s 10) + 1) = n64 ((PR k).s 10 + 1#64) := n64_add _ 1#64
  go_enter Try.func10, Try.ntmps10
  go_upto_region 1 with fail
  clear hz hW0
  go_upto_region 2 with (first | (refine wpList_load_row (by rfl) _ _ (by rfl) _ (by rfl) 31 _ (0, 0) _ r0.out Try.underlying31 (by rfl) (info_cpu _) ?_) | (go_at_call 9; refine (HP.out _).mono ?_; rintro e w1 ⟨rfl, hb1⟩; have HB1 : Hid (Below W0.heap.size W0 w1) := hb1; clear hb1) | (refine wpList_store_row (by rfl) _ _ _ (by rfl) (by rfl) _ _ _ (by rfl) (by rfl) (r0.out.later HB1.out (by rw [HS.out]; omega)) (info_cpu _) (by rw [cpc_size, cpc_size]) (cpc_ones _) ?_))
  refine go_on3 (motive := fun W => Code.wp _ _ _ _ W) (a := w) (B := w.heap.size) (n := w1.heap.size) (show Row _ w.heap.size (cpc (PR k)) 31 from setRow_heap _ _ _ _ _ _ (r0.out.later HB1.out (by rw [HS.out]; omega))) (row_apart (r1.out.later HB1.out (by rw [HS.out]; omega)) (by omega) _) (row_apart (r2.out.later HB1.out (by rw [HS.out]; omega)) (by omega) _) (below_row (b0.out.trans (HB1.out.mono b0.out.size)) (Nat.le_refl _) _) (by simp) ?_
  have SS : Hid (w.heap.size + 3 ≤ w1.heap.size) := by have := HB1.out.size; rw [HS.out] at this; exact this
  clear r0 r1 r2 b0 HS HB1 HP
  intro W2 q0 q1 q2 c0 t0
  have R0 : Hid (Row W2 w.heap.size (cpc (PR k)) 31) := q0
  have R1 : Hid (Row W2 (w.heap.size + 1) (cpc u) 31) := q1
  have R2 : Hid (Row W2 (w.heap.size + 2) (cpc cz) 31) := q2
  have BB : Hid (Below w.heap.size w W2) := c0
  have HS : Hid (w.heap.size + 3 ≤ W2.heap.size) := by show _ ≤ _; rw [t0]; exact SS.out
  clear q0 q1 q2 c0 t0 SS
  go_upto_region 3 with (first | (refine wpList_load_row (by rfl) _ _ (by rfl) _ (by rfl) 31 _ (0, 0) _ R1.out Try.underlying31 (by rfl) (info_cpu _) ?_) | (go_at_call 9; refine (HU.out _).mono ?_; rintro e w1 ⟨rfl, hb1⟩; have HB1 : Hid (Below W2.heap.size W2 w1) := hb1; clear hb1) | (refine wpList_field4 (by rfl) _ (by rfl) (PR u) (by rfl) ?_))
  refine go_on2 (motive := fun W => Code.wp _ _ _ _ W) (a := w) (B := w.heap.size) (n := w1.heap.size) (R0.out.cb HB1.out) (R2.out.cb HB1.out) (BB.out.trans (HB1.out.mono BB.out.size)) rfl ?_
  clear R0 R1 R2 BB HS HB1 HU
  intro W3 q0 q2 c0 t0
  have R0 : Hid (Row W3 w.heap.size (cpc (PR k)) 31) := q0
  have R2 : Hid (Row W3 (w.heap.size + 2) (cpc cz) 31) := q2
  have BB : Hid (Below w.heap.size w W3) := c0
  have K1 := q0.cls.s10
  have K2 := q0.cls.s11
  have f0 := q0.froz
  clear q0 q2 c0 t0
  go_upto_region 7 with fail
  have Q := (R0.out.put (i := 45) (.int .u64 (n64 ((PR k).s 10 + 1#64))))
  rw [cpc_s10] at Q
  refine go_on2 (motive := fun W => Code.wp _ _ _ _ W) (a := w) (B := w.heap.size) (cs := cpc { (PR k) with s := upd (PR k).s 10 ((PR k).s 10 + 1#64) }) Q (Row.other R2.out (by omega) _) (below_put BB.out (Nat.le_refl _) _) rfl ?_
  clear Q R0 R2 BB K1 K2 f0
  intro W5 q0 q1 c0 t0
  have R0 : Hid (Row W5 w.heap.size (cpc { (PR k) with s := upd (PR k).s 10 ((PR k).s 10 + 1#64) }) 31) := q0
  have R1 : Hid (Row W5 (w.heap.size + 2) (cpc cz) 31) := q1
  have BB : Hid (Below w.heap.size w W5) := c0
  clear q0 q1 c0 t0
  go_wp2_with (first | (refine wpList_load_row (by rfl) _ _ (by rfl) _ (by rfl) 31 _ (0, 0) _ R0.out Try.underlying31 (by rfl) (info_cpu _) ?_) | (refine wpList_store_row (by rfl) _ _ _ (by rfl) (by rfl) _ _ _ (by rfl) (by rfl) R1.out (info_cpu _) (by rw [cpc_size, cpc_size]) (cpc_ones _) ?_))
  refine bodyPost_ret (v := .agg (cpc { (PR k) with s := upd (PR k).s 10 ((PR k).s 10 + 1#64) })) ?_ rfl ⟨rfl, ?_⟩
  · exact results_cell_row Try.results10 _ _ (w.heap.size + 2) 31 _ (0, 0) _ (by rfl) (setRow_heap _ _ _ _ _ _ R1.out) Try.underlying31 (by rfl) (info_cpu _)
  · exact below_row BB.out (by omega) _
set_option maxRecDepth 100000 in
set_option maxHeartbeats 1000000 in
theorem pCount_iy_wn (k u : Cp) (h1 : (PR u).s 4 &&& 1#64 = 0#64) (w : World) : Calls Try.prog 10 #[.agg (cpc k), .agg (cpc u), .bool true, .bool false, .bool true] w fun e w' => e = .returned (.agg (cpc { (PR k) with s := upd (PR k).s 10 ((PR k).s 10 + 1#64) })) ∧ Below w.heap.size w w' := by
  have hz := zero_cpu
  obtain ⟨W0, hW0, r0, r1, r2, b0, s0⟩ := start3 w (cpc k) (cpc u) (cpc cz) 31 31 31
  have HS : Hid (W0.heap.size = w.heap.size + 3) := s0
  clear s0
  have HP : Hid (∀ W, Calls Try.prog 9 #[.agg (cpc k)] W fun e w' => e = .returned (.agg (cpc (PR k))) ∧ Below W.heap.size W w') := fun W => Pr_c k W
  have HU : Hid (∀ W, Calls Try.prog 9 #[.agg (cpc u)] W fun e w' => e = .returned (.agg (cpc (PR u))) ∧ Below W.heap.size W w') := fun W => Pr_c u W
  have b1 : bits .and .u64 (n64 ((PR u).s 4)) 1 = n64 ((PR u).s 4 &&& 1#64) := n64_and _ 1#64
  have e1 : n64 ((PR u).s 4 &&& 1#64) = 0 := by rw [h1]; rfl
  generalize (PR u).s 4 &&& 1#64 = z1 at b1 e1
  clear h1
  have a1 : IntKind.u64.wrap (n64 ((PR k).s 10) + 1) = n64 ((PR k).s 10 + 1#64) := n64_add _ 1#64
  go_enter Try.func10, Try.ntmps10
  go_upto_region 1 with fail
  clear hz hW0
  go_upto_region 2 with (first | (refine wpList_load_row (by rfl) _ _ (by rfl) _ (by rfl) 31 _ (0, 0) _ r0.out Try.underlying31 (by rfl) (info_cpu _) ?_) | (go_at_call 9; refine (HP.out _).mono ?_; rintro e w1 ⟨rfl, hb1⟩; have HB1 : Hid (Below W0.heap.size W0 w1) := hb1; clear hb1) | (refine wpList_store_row (by rfl) _ _ _ (by rfl) (by rfl) _ _ _ (by rfl) (by rfl) (r0.out.later HB1.out (by rw [HS.out]; omega)) (info_cpu _) (by rw [cpc_size, cpc_size]) (cpc_ones _) ?_))
  refine go_on3 (motive := fun W => Code.wp _ _ _ _ W) (a := w) (B := w.heap.size) (n := w1.heap.size) (show Row _ w.heap.size (cpc (PR k)) 31 from setRow_heap _ _ _ _ _ _ (r0.out.later HB1.out (by rw [HS.out]; omega))) (row_apart (r1.out.later HB1.out (by rw [HS.out]; omega)) (by omega) _) (row_apart (r2.out.later HB1.out (by rw [HS.out]; omega)) (by omega) _) (below_row (b0.out.trans (HB1.out.mono b0.out.size)) (Nat.le_refl _) _) (by simp) ?_
  have SS : Hid (w.heap.size + 3 ≤ w1.heap.size) := by have := HB1.out.size; rw [HS.out] at this; exact this
  clear r0 r1 r2 b0 HS HB1 HP
  intro W2 q0 q1 q2 c0 t0
  have R0 : Hid (Row W2 w.heap.size (cpc (PR k)) 31) := q0
  have R1 : Hid (Row W2 (w.heap.size + 1) (cpc u) 31) := q1
  have R2 : Hid (Row W2 (w.heap.size + 2) (cpc cz) 31) := q2
  have BB : Hid (Below w.heap.size w W2) := c0
  have HS : Hid (w.heap.size + 3 ≤ W2.heap.size) := by show _ ≤ _; rw [t0]; exact SS.out
  clear q0 q1 q2 c0 t0 SS
  go_upto_region 3 with (first | (refine wpList_load_row (by rfl) _ _ (by rfl) _ (by rfl) 31 _ (0, 0) _ R1.out Try.underlying31 (by rfl) (info_cpu _) ?_) | (go_at_call 9; refine (HU.out _).mono ?_; rintro e w1 ⟨rfl, hb1⟩; have HB1 : Hid (Below W2.heap.size W2 w1) := hb1; clear hb1) | (refine wpList_field4 (by rfl) _ (by rfl) (PR u) (by rfl) ?_))
  refine go_on2 (motive := fun W => Code.wp _ _ _ _ W) (a := w) (B := w.heap.size) (n := w1.heap.size) (R0.out.cb HB1.out) (R2.out.cb HB1.out) (BB.out.trans (HB1.out.mono BB.out.size)) rfl ?_
  clear R0 R1 R2 BB HS HB1 HU
  intro W3 q0 q2 c0 t0
  have R0 : Hid (Row W3 w.heap.size (cpc (PR k)) 31) := q0
  have R2 : Hid (Row W3 (w.heap.size + 2) (cpc cz) 31) := q2
  have BB : Hid (Below w.heap.size w W3) := c0
  have K1 := q0.cls.s10
  have K2 := q0.cls.s11
  have f0 := q0.froz
  clear q0 q2 c0 t0
  go_upto_region 7 with fail
  have Q := (R0.out.put (i := 45) (.int .u64 (n64 ((PR k).s 10 + 1#64))))
  rw [cpc_s10] at Q
  refine go_on2 (motive := fun W => Code.wp _ _ _ _ W) (a := w) (B := w.heap.size) (cs := cpc { (PR k) with s := upd (PR k).s 10 ((PR k).s 10 + 1#64) }) Q (Row.other R2.out (by omega) _) (below_put BB.out (Nat.le_refl _) _) rfl ?_
  clear Q R0 R2 BB K1 K2 f0
  intro W5 q0 q1 c0 t0
  have R0 : Hid (Row W5 w.heap.size (cpc { (PR k) with s := upd (PR k).s 10 ((PR k).s 10 + 1#64) }) 31) := q0
  have R1 : Hid (Row W5 (w.heap.size + 2) (cpc cz) 31) := q1
  have BB : Hid (Below w.heap.size w W5) := c0
  clear q0 q1 c0 t0
  go_wp2_with (first | (refine wpList_load_row (by rfl) _ _ (by rfl) _ (by rfl) 31 _ (0, 0) _ R0.out Try.underlying31 (by rfl) (info_cpu _) ?_) | (refine wpList_store_row (by rfl) _ _ _ (by rfl) (by rfl) _ _ _ (by rfl) (by rfl) R1.out (info_cpu _) (by rw [cpc_size, cpc_size]) (cpc_ones _) ?_))
  refine bodyPost_ret (v := .agg (cpc { (PR k) with s := upd (PR k).s 10 ((PR k).s 10 + 1#64) })) ?_ rfl ⟨rfl, ?_⟩
  · exact results_cell_row Try.results10 _ _ (w.heap.size + 2) 31 _ (0, 0) _ (by rfl) (setRow_heap _ _ _ _ _ _ R1.out) Try.underlying31 (by rfl) (info_cpu _)
  · exact below_row BB.out (by omega) _
set_option maxRecDepth 100000 in
set_option maxHeartbeats 1000000 in
theorem pCount_iy_if (k u : Cp) (h1 : (PR u).s 4 &&& 1#64 = 0#64) (h4 : ¬ (PR u).s 4 &&& 4#64 = 0#64) (w : World) : Calls Try.prog 10 #[.agg (cpc k), .agg (cpc u), .bool true, .bool false, .bool false] w fun e w' => e = .returned (.agg (cpc { (PR k) with s := upd (PR k).s 10 ((PR k).s 10 + 1#64) })) ∧ Below w.heap.size w w' := by
  have hz := zero_cpu
  obtain ⟨W0, hW0, r0, r1, r2, b0, s0⟩ := start3 w (cpc k) (cpc u) (cpc cz) 31 31 31
  have HS : Hid (W0.heap.size = w.heap.size + 3) := s0
  clear s0
  have HP : Hid (∀ W, Calls Try.prog 9 #[.agg (cpc k)] W fun e w' => e = .returned (.agg (cpc (PR k))) ∧ Below W.heap.size W w') := fun W => Pr_c k W
  have HU : Hid (∀ W, Calls Try.prog 9 #[.agg (cpc u)] W fun e w' => e = .returned (.agg (cpc (PR u))) ∧ Below W.heap.size W w') := fun W => Pr_c u W
  have b1 : bits .and .u64 (n64 ((PR u).s 4)) 1 = n64 ((PR u).s 4 &&& 1#64) := n64_and _ 1#64
  have e1 : n64 ((PR u).s 4 &&& 1#64) = 0 := by rw [h1]; rfl
  generalize (PR u).s 4 &&& 1#64 = z1 at b1 e1
  clear h1
  have b4 : bits .and .u64 (n64 ((PR u).s 4)) 4 = n64 ((PR u).s 4 &&& 4#64) := n64_and _ 4#64
  have e4 : ¬ n64 ((PR u).s 4 &&& 4#64) = 0 := fun e => h4 (n64_inj.1 e)
  generalize (PR u).s 4 &&& 4#64 = z4 at b4 e4
  clear h4
  have a1 : IntKind.u64.wrap (n64 ((PR k).s 10) + 1) = n64 ((PR k).s 10 + 1#64) := n64_add _ 1#64
  go_enter Try.func10, Try.ntmps10
  go_upto_region 1 with fail
  clear hz hW0
  go_upto_region 2 with (first | (refine wpList_load_row (by rfl) _ _ (by rfl) _ (by rfl) 31 _ (0, 0) _ r0.out Try.underlying31 (by rfl) (info_cpu _) ?_) | (go_at_call 9; refine (HP.out _).mono ?_; rintro e w1 ⟨rfl, hb1⟩; have HB1 : Hid (Below W0.heap.size W0 w1) := hb1; clear hb1) | (refine wpList_store_row (by rfl) _ _ _ (by rfl) (by rfl) _ _ _ (by rfl) (by rfl) (r0.out.later HB1.out (by rw [HS.out]; omega)) (info_cpu _) (by rw [cpc_size, cpc_size]) (cpc_ones _) ?_))
  refine go_on3 (motive := fun W => Code.wp _ _ _ _ W) (a := w) (B := w.heap.size) (n := w1.heap.size) (show Row _ w.heap.size (cpc (PR k)) 31 from setRow_heap _ _ _ _ _ _ (r0.out.later HB1.out (by rw [HS.out]; omega))) (row_apart (r1.out.later HB1.out (by rw [HS.out]; omega)) (by omega) _) (row_apart (r2.out.later HB1.out (by rw [HS.out]; omega)) (by omega) _) (below_row (b0.out.trans (HB1.out.mono b0.out.size)) (Nat.le_refl _) _) (by simp) ?_
  have SS : Hid (w.heap.size + 3 ≤ w1.heap.size) := by have := HB1.out.size; rw [HS.out] at this; exact this
  clear r0 r1 r2 b0 HS HB1 HP
  intro W2 q0 q1 q2 c0 t0
  have R0 : Hid (Row W2 w.heap.size (cpc (PR k)) 31) := q0
  have R1 : Hid (Row W2 (w.heap.size + 1) (cpc u) 31) := q1
  have R2 : Hid (Row W2 (w.heap.size + 2) (cpc cz) 31) := q2
  have BB : Hid (Below w.heap.size w W2) := c0
  have HS : Hid (w.heap.size + 3 ≤ W2.heap.size) := by show _ ≤ _; rw [t0]; exact SS.out
  clear q0 q1 q2 c0 t0 SS
  go_upto_region 3 with (first | (refine wpList_load_row (by rfl) _ _ (by rfl) _ (by rfl) 31 _ (0, 0) _ R1.out Try.underlying31 (by rfl) (info_cpu _) ?_) | (go_at_call 9; refine (HU.out _).mono ?_; rintro e w1 ⟨rfl, hb1⟩; have HB1 : Hid (Below W2.heap.size W2 w1) := hb1; clear hb1) | (refine wpList_field4 (by rfl) _ (by rfl) (PR u) (by rfl) ?_))
  refine go_on2 (motive := fun W => Code.wp _ _ _ _ W) (a := w) (B := w.heap.size) (n := w1.heap.size) (R0.out.cb HB1.out) (R2.out.cb HB1.out) (BB.out.trans (HB1.out.mono BB.out.size)) rfl ?_
  clear R0 R1 R2 BB HS HB1 HU
  intro W3 q0 q2 c0 t0
  have R0 : Hid (Row W3 w.heap.size (cpc (PR k)) 31) := q0
  have R2 : Hid (Row W3 (w.heap.size + 2) (cpc cz) 31) := q2
  have BB : Hid (Below w.heap.size w W3) := c0
  have K1 := q0.cls.s10
  have K2 := q0.cls.s11
  have f0 := q0.froz
  clear q0 q2 c0 t0
  go_upto_region 7 with fail
  have Q := (R0.out.put (i := 45) (.int .u64 (n64 ((PR k).s 10 + 1#64))))
  rw [cpc_s10] at Q
  refine go_on2 (motive := fun W => Code.wp _ _ _ _ W) (a := w) (B := w.heap.size) (cs := cpc { (PR k) with s := upd (PR k).s 10 ((PR k).s 10 + 1#64) }) Q (Row.other R2.out (by omega) _) (below_put BB.out (Nat.le_refl _) _) rfl ?_
  clear Q R0 R2 BB K1 K2 f0
  intro W5 q0 q1 c0 t0
  have R0 : Hid (Row W5 w.heap.size (cpc { (PR k) with s := upd (PR k).s 10 ((PR k).s 10 + 1#64) }) 31) := q0
  have R1 : Hid (Row W5 (w.heap.size + 2) (cpc cz) 31) := q1
  have BB : Hid (Below w.heap.size w W5) := c0
  clear q0 q1 c0 t0
  go_wp2_with (first | (refine wpList_load_row (by rfl) _ _ (by rfl) _ (by rfl) 31 _ (0, 0) _ R0.out Try.underlying31 (by rfl) (info_cpu _) ?_) | (refine wpList_store_row (by rfl) _ _ _ (by rfl) (by rfl) _ _ _ (by rfl) (by rfl) R1.out (info_cpu _) (by rw [cpc_size, cpc_size]) (cpc_ones _) ?_))
  refine bodyPost_ret (v := .agg (cpc { (PR k) with s := upd (PR k).s 10 ((PR k).s 10 + 1#64) })) ?_ rfl ⟨rfl, ?_⟩
  · exact results_cell_row Try.results10 _ _ (w.heap.size + 2) 31 _ (0, 0) _ (by rfl) (setRow_heap _ _ _ _ _ _ R1.out) Try.underlying31 (by rfl) (info_cpu _)
  · exact below_row BB.out (by omega) _
set_option maxRecDepth 100000 in
set_option maxHeartbeats 1000000 in
theorem pCount_iy_iy (k u : Cp) (h1 : (PR u).s 4 &&& 1#64 = 0#64) (h4 : (PR u).s 4 &&& 4#64 = 0#64) (w : World) : Calls Try.prog 10 #[.agg (cpc k), .agg (cpc u), .bool true, .bool false, .bool false] w fun e w' => e = .returned (.agg (cpc { (PR k) with s := upd (upd (PR k).s 10 ((PR k).s 10 + 1#64)) 11 ((PR k).s 11 + 1#64) })) ∧ Below w.heap.size w w' := by
  have hz := zero_cpu
  obtain ⟨W0, hW0, r0, r1, r2, b0, s0⟩ := start3 w (cpc k) (cpc u) (cpc cz) 31 31 31
  have HS : Hid (W0.heap.size = w.heap.size + 3) := s0
  clear s0
  have HP : Hid (∀ W, Calls Try.prog 9 #[.agg (cpc k)] W fun e w' => e = .returned (.agg (cpc (PR k))) ∧ Below W.heap.size W w') := fun W => Pr_c k W
  have HU : Hid (∀ W, Calls Try.prog 9 #[.agg (cpc u)] W fun e w' => e = .returned (.agg (cpc (PR u))) ∧ Below W.heap.size W w') := fun W => Pr_c u W
  have b1 : bits .and .u64 (n64 ((PR u).s 4)) 1 = n64 ((PR u).s 4 &&& 1#64) := n64_and _ 1#64
  have e1 : n64 ((PR u).s 4 &&& 1#64) = 0 := by rw [h1]; rfl
  generalize (PR u).s 4 &&& 1#64 = z1 at b1 e1
  clear h1
  have b4 : bits .and .u64 (n64 ((PR u).s 4)) 4 = n64 ((PR u).s 4 &&& 4#64) := n64_and _ 4#64
  have e4 : n64 ((PR u).s 4 &&& 4#64) = 0 := by rw [h4]; rfl
  generalize (PR u).s 4 &&& 4#64 = z4 at b4 e4
  clear h4
  have a1 : IntKind.u64.wrap (n64 ((PR k).s 10) + 1) = n64 ((PR k).s 10 + 1#64) := n64_add _ 1#64
  have a2 : IntKind.u64.wrap (n64 ((PR k).s 11) + 1) = n64 ((PR k).s 11 + 1#64) := n64_add _ 1#64
  go_enter Try.func10, Try.ntmps10
  go_upto_region 1 with fail
  clear hz hW0
  go_upto_region 2 with (first | (refine wpList_load_row (by rfl) _ _ (by rfl) _ (by rfl) 31 _ (0, 0) _ r0.out Try.underlying31 (by rfl) (info_cpu _) ?_) | (go_at_call 9; refine (HP.out _).mono ?_; rintro e w1 ⟨rfl, hb1⟩; have HB1 : Hid (Below W0.heap.size W0 w1) := hb1; clear hb1) | (refine wpList_store_row (by rfl) _ _ _ (by rfl) (by rfl) _ _ _ (by rfl) (by rfl) (r0.out.later HB1.out (by rw [HS.out]; omega)) (info_cpu _) (by rw [cpc_size, cpc_size]) (cpc_ones _) ?_))
  refine go_on3 (motive := fun W => Code.wp _ _ _ _ W) (a := w) (B := w.heap.size) (n := w1.heap.size) (show Row _ w.heap.size (cpc (PR k)) 31 from setRow_heap _ _ _ _ _ _ (r0.out.later HB1.out (by rw [HS.out]; omega))) (row_apart (r1.out.later HB1.out (by rw [HS.out]; omega)) (by omega) _) (row_apart (r2.out.later HB1.out (by rw [HS.out]; omega)) (by omega) _) (below_row (b0.out.trans (HB1.out.mono b0.out.size)) (Nat.le_refl _) _) (by simp) ?_
  have SS : Hid (w.heap.size + 3 ≤ w1.heap.size) := by have := HB1.out.size; rw [HS.out] at this; exact this
  clear r0 r1 r2 b0 HS HB1 HP
  intro W2 q0 q1 q2 c0 t0
  have R0 : Hid (Row W2 w.heap.size (cpc (PR k)) 31) := q0
  have R1 : Hid (Row W2 (w.heap.size + 1) (cpc u) 31) := q1
  have R2 : Hid (Row W2 (w.heap.size + 2) (cpc cz) 31) := q2
  have BB : Hid (Below w.heap.size w W2) := c0
  have HS : Hid (w.heap.size + 3 ≤ W2.heap.size) := by show _ ≤ _; rw [t0]; exact SS.out
  clear q0 q1 q2 c0 t0 SS
  go_upto_region 3 with (first | (refine wpList_load_row (by rfl) _ _ (by rfl) _ (by rfl) 31 _ (0, 0) _ R1.out Try.underlying31 (by rfl) (info_cpu _) ?_) | (go_at_call 9; refine (HU.out _).mono ?_; rintro e w1 ⟨rfl, hb1⟩; have HB1 : Hid (Below W2.heap.size W2 w1) := hb1; clear hb1) | (refine wpList_field4 (by rfl) _ (by rfl) (PR u) (by rfl) ?_))
  refine go_on2 (motive := fun W => Code.wp _ _ _ _ W) (a := w) (B := w.heap.size) (n := w1.heap.size) (R0.out.cb HB1.out) (R2.out.cb HB1.out) (BB.out.trans (HB1.out.mono BB.out.size)) rfl ?_
  clear R0 R1 R2 BB HS HB1 HU
  intro W3 q0 q2 c0 t0
  have R0 : Hid (Row W3 w.heap.size (cpc (PR k)) 31) := q0
  have R2 : Hid (Row W3 (w.heap.size + 2) (cpc cz) 31) := q2
  have BB : Hid (Below w.heap.size w W3) := c0
  have K1 := q0.cls.s10
  have K2 := q0.cls.s11
  have f0 := q0.froz
  clear q0 q2 c0 t0
  go_upto_region 7 with fail
  have Q := ((R0.out.put (i := 45) (.int .u64 (n64 ((PR k).s 10 + 1#64)))).put (i := 46) (.int .u64 (n64 ((PR k).s 11 + 1#64))))
  rw [cpc_s10, cpc_s11] at Q
  refine go_on2 (motive := fun W => Code.wp _ _ _ _ W) (a := w) (B := w.heap.size) (cs := cpc { (PR k) with s := upd (upd (PR k).s 10 ((PR k).s 10 + 1#64)) 11 ((PR k).s 11 + 1#64) }) Q (Row.other (Row.other R2.out (by omega) _) (by omega) _) (below_put (below_put BB.out (Nat.le_refl _) _) (Nat.le_refl _) _) rfl ?_
  clear Q R0 R2 BB K1 K2 f0
  intro W5 q0 q1 c0 t0
  have R0 : Hid (Row W5 w.heap.size (cpc { (PR k) with s := upd (upd (PR k).s 10 ((PR k).s 10 + 1#64)) 11 ((PR k).s 11 + 1#64) }) 31) := q0
  have R1 : Hid (Row W5 (w.heap.size + 2) (cpc cz) 31) := q1
  have BB : Hid (Below w.heap.size w W5) := c0
  clear q0 q1 c0 t0
  go_wp2_with (first | (refine wpList_load_row (by rfl) _ _ (by rfl) _ (by rfl) 31 _ (0, 0) _ R0.out Try.underlying31 (by rfl) (info_cpu _) ?_) | (refine wpList_store_row (by rfl) _ _ _ (by rfl) (by rfl) _ _ _ (by rfl) (by rfl) R1.out (info_cpu _) (by rw [cpc_size, cpc_size]) (cpc_ones _) ?_))
  refine bodyPost_ret (v := .agg (cpc { (PR k) with s := upd (upd (PR k).s 10 ((PR k).s 10 + 1#64)) 11 ((PR k).s 11 + 1#64) })) ?_ rfl ⟨rfl, ?_⟩
  · exact results_cell_row Try.results10 _ _ (w.heap.size + 2) 31 _ (0, 0) _ (by rfl) (setRow_heap _ _ _ _ _ _ R1.out) Try.underlying31 (by rfl) (info_cpu _)
  · exact below_row BB.out (by omega) _
theorem pCount_c (k u : Cp) (ret wc wn : Bool) (w : World) : Calls Try.prog 10 #[.agg (cpc k), .agg (cpc u), .bool ret, .bool wc, .bool wn] w fun e w' => e = .returned (.agg (cpc (CO k u ret wc wn))) ∧ Below w.heap.size w w' := by
  cases wc with
  | true =>
    cases ret with
    | false =>
      have h := pCount_wt_nr k u wn w
      simpa only [CO, up1, Bool.not_true, Bool.not_false, Bool.true_and, Bool.false_and, decide_true, decide_false, if_true, if_false, Bool.false_eq_true] using h
    | true =>
      cases wn with
      | true =>
        have h := pCount_wt_wn k u w
        simpa only [CO, up1, Bool.not_true, Bool.not_false, Bool.true_and, Bool.false_and, decide_true, decide_false, if_true, if_false, Bool.false_eq_true] using h
      | false =>
        by_cases h4 : (PR u).s 4 &&& 4#64 = 0#64
        · have h := pCount_wt_iy k u h4 w
          simpa only [CO, up1, h4, upd_10_11, Bool.not_true, Bool.not_false, Bool.true_and, Bool.false_and, Bool.and_true, Bool.and_false, decide_true, decide_false, if_true, if_false, Bool.false_eq_true] using h
        · have h := pCount_wt_if k u h4 w
          simpa only [CO, up1, h4, upd_10_11, Bool.not_true, Bool.not_false, Bool.true_and, Bool.false_and, Bool.and_true, Bool.and_false, decide_true, decide_false, if_true, if_false, Bool.false_eq_true] using h
  | false =>
    by_cases h1 : (PR u).s 4 &&& 1#64 = 0#64
    ·
      cases ret with
      | false =>
        have h := pCount_iy_nr k u h1 wn w
        simpa only [CO, up1, h1, Bool.not_true, Bool.not_false, Bool.true_and, Bool.false_and, decide_true, decide_false, if_true, if_false, Bool.false_eq_true] using h
      | true =>
        cases wn with
        | true =>
          have h := pCount_iy_wn k u h1 w
          simpa only [CO, up1, h1, Bool.not_true, Bool.not_false, Bool.true_and, Bool.false_and, decide_true, decide_false, if_true, if_false, Bool.false_eq_true] using h
        | false =>
          by_cases h4 : (PR u).s 4 &&& 4#64 = 0#64
          · have h := pCount_iy_iy k u h1 h4 w
            simpa only [CO, up1, h1, h4, upd_10_11, Bool.not_true, Bool.not_false, Bool.true_and, Bool.false_and, Bool.and_true, Bool.and_false, decide_true, decide_false, if_true, if_false, Bool.false_eq_true] using h
          · have h := pCount_iy_if k u h1 h4 w
            simpa only [CO, up1, h1, h4, upd_10_11, Bool.not_true, Bool.not_false, Bool.true_and, Bool.false_and, Bool.and_true, Bool.and_false, decide_true, decide_false, if_true, if_false, Bool.false_eq_true] using h
    ·
      cases ret with
      | false =>
        have h := pCount_if_nr k u h1 wn w
        simpa only [CO, up1, h1, Bool.not_true, Bool.not_false, Bool.true_and, Bool.false_and, decide_true, decide_false, if_true, if_false, Bool.false_eq_true] using h
      | true =>
        cases wn with
        | true =>
          have h := pCount_if_wn k u h1 w
          simpa only [CO, up1, h1, Bool.not_true, Bool.not_false, Bool.true_and, Bool.false_and, decide_true, decide_false, if_true, if_false, Bool.false_eq_true] using h
        | false =>
          by_cases h4 : (PR u).s 4 &&& 4#64 = 0#64
          · have h := pCount_if_iy k u h1 h4 w
            simpa only [CO, up1, h1, h4, upd_10_11, Bool.not_true, Bool.not_false, Bool.true_and, Bool.false_and, Bool.and_true, Bool.and_false, decide_true, decide_false, if_true, if_false, Bool.false_eq_true] using h
          · have h := pCount_if_if k u h1 h4 w
            simpa only [CO, up1, h1, h4, upd_10_11, Bool.not_true, Bool.not_false, Bool.true_and, Bool.false_and, Bool.and_true, Bool.and_false, decide_true, decide_false, if_true, if_false, Bool.false_eq_true] using h
theorem Count_c : CCo := fun k u ret wc wn W => pCount_c k u ret wc wn W
end Go.Proofs.Ytnnkeodiacdmaaa
