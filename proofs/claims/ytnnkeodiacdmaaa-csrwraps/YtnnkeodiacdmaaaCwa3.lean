/-
  CsrWraps: its walk.
-/
import Derived.Test.YtnnkeodiacdmaaaClb
namespace Go.Proofs.Ytnnkeodiacdmaaa
set_option linter.unusedVariables false
open Go.ChangeShapes Go.WideShapes Go.ChangeAt Go.RowKit Go.Deep

set_option linter.unusedSimpArgs false
set_option maxRecDepth 100000 in
set_option maxHeartbeats 2000000 in
theorem wraps_iy_nr (hp : CPr) (hc : CCo) (k u : Cp) (h1 : (PR u).s 4 &&& 1#64 = 0#64) (wn : Bool) (w : World) : Calls Try.prog 3 #[.agg (tly k u false false wn)] w fun e w' => e = .returned (.bool true) ∧ Below w.heap.size w w' := by
  have hz := zero_cpu
  obtain ⟨W0, hW0, r0, b0, s0⟩ := start1 w (tly k u false false wn) 33
  have hlt : Hid (w.heap.size < W0.heap.size) := by unfold Hid; omega
  clear s0
  have HP : Hid (∀ W : World, Calls Try.prog 9 #[.agg (cpc k)] W fun e w' => e = .returned (.agg (cpc (PR k))) ∧ Below W.heap.size W w') := hp k
  have HU : Hid (∀ W : World, Calls Try.prog 9 #[.agg (cpc u)] W fun e w' => e = .returned (.agg (cpc (PR u))) ∧ Below W.heap.size W w') := hp u
  have HC : Hid (∀ W : World, Calls Try.prog 10 #[.agg (cpc k), .agg (cpc u), .bool false, .bool false, .bool wn] W fun e w' => e = .returned (.agg (cpc { (PR k) with s := upd (PR k).s 10 ((PR k).s 10 + 1#64) })) ∧ Below W.heap.size W w') := fun W => by
    have h := hc k u false false wn W
    simp only [CO, up1, h1, upd_10_11, Bool.not_true, Bool.not_false, Bool.true_and, Bool.false_and, Bool.and_true, Bool.and_false, decide_true, decide_false, if_true, if_false, Bool.false_eq_true] at h
    exact h
  have HT : Hid (∀ W : World, Calls Try.prog 10 #[.agg (cpc ctop), .agg (cpc cz), .bool true, .bool false, .bool false] W fun e w' => e = .returned (.agg (cpc (CO ctop cz true false false))) ∧ Below W.heap.size W w') := hc ctop cz true false false
  have b1 : bits .and .u64 (n64 ((PR u).s 4)) 1 = n64 ((PR u).s 4 &&& 1#64) := n64_and _ 1#64
  have e1 : n64 ((PR u).s 4 &&& 1#64) = 0 := by rw [h1]; rfl
  generalize (PR u).s 4 &&& 1#64 = z1 at b1 e1
  have a1 : IntKind.u64.wrap (n64 ((PR k).s 10) + 1) = n64 ((PR k).s 10 + 1#64) := n64_add _ 1#64
  clear h1
  have heq : ∀ W, (Op.equalIn 10000 31 (.agg (cpc { (PR k) with s := upd (PR k).s 10 ((PR k).s 10 + 1#64) })) (.agg (cpc { (PR k) with s := upd (PR k).s 10 ((PR k).s 10 + 1#64) }))).run Try.prog W = .ok true W := fun W => eq_cpu W _
  obtain ⟨a0, aU, c1, c2, c3⟩ := r0.out.tly
  have HL : Hid (∀ j v, (cpc k)[j]? = some v → W0.cell? ⟨w.heap.size, 0 + j, none⟩ = some v) := a0.agg
  clear a0 aU
  go_enter Try.func3, Try.ntmps3
  go_upto_region 1 with fail
  clear hW0
  go_upto_region 2 with (first | (refine wpList_load_agg (by rfl) 31 _ (by rfl) w.heap.size 0 (by rfl) (cpc k) _ HL.out Try.underlying31 (by rfl) (info_cpu _) ?_) | (go_at_call 9; refine (HP.out _).mono ?_; rintro e w1 ⟨rfl, hb⟩; have Bw1 : Hid (Below W0.heap.size W0 w1) := hb; clear hb) | (refine wpList_store_last (by rfl) _ _ _ (by rfl) (by rfl) _ _ _ (by rfl) (by rfl) (by rfl) (info_cpu _) (by rw [cpc_size, cpc_size]) (cpc_ones _) ?_))
  clear c1 c2 c3 HL
  refine go_onP (motive := fun W => Code.wp _ _ _ _ W) (Q := fun W => Row W w.heap.size (tly k u false false wn) 33 ∧ Row W w1.heap.size (cpc (PR k)) 31 ∧ Below w.heap.size w W) ⟨r0.out.ca Bw1.out _, Row.new w1 (cpc (PR k)) 31, below_ca b0.out Bw1.out (Nat.le_of_lt hlt.out) _⟩ ?_
  have N1 : Hid (w.heap.size < w1.heap.size) := Nat.lt_of_lt_of_le hlt.out Bw1.out.size
  clear r0 b0 Bw1 hlt HP
  rintro W2 ⟨q0, q1, c0⟩
  have G0 : Hid (Row W2 w.heap.size (tly k u false false wn) 33) := q0
  have G3 : Hid (Row W2 w1.heap.size (cpc (PR k)) 31) := q1
  have BB : Hid (Below w.heap.size w W2) := c0
  have HL : Hid (∀ j v, (cpc u)[j]? = some v → W2.cell? ⟨w.heap.size, 82 + j, none⟩ = some v) := q0.tly.2.1.agg
  clear q0 q1 c0
  go_upto_region 3 with (first | (refine wpList_load_agg (by rfl) 31 _ (by rfl) w.heap.size 82 (by rfl) (cpc u) _ HL.out Try.underlying31 (by rfl) (info_cpu _) ?_) | (go_at_call 9; refine (HU.out _).mono ?_; rintro e w3 ⟨rfl, hb⟩; have Bw3 : Hid (Below W2.heap.size W2 w3) := hb; clear hb) | (refine wpList_store_last (by rfl) _ _ _ (by rfl) (by rfl) _ _ _ (by rfl) (by rfl) (by rfl) (info_cpu _) (by rw [cpc_size, cpc_size]) (cpc_ones _) ?_))
  clear HL
  refine go_onP (motive := fun W => Code.wp _ _ _ _ W) (Q := fun W => Row W w.heap.size (tly k u false false wn) 33 ∧ Row W w1.heap.size (cpc (PR k)) 31 ∧ Row W w3.heap.size (cpc (PR u)) 31 ∧ Below w.heap.size w W) ⟨G0.out.ca Bw3.out _, G3.out.ca Bw3.out _, Row.new w3 (cpc (PR u)) 31, below_ca BB.out Bw3.out BB.out.size _⟩ ?_
  have N3 : Hid (w1.heap.size < w3.heap.size) := Nat.lt_of_lt_of_le G3.out.lt Bw3.out.size
  clear G0 G3 BB Bw3 HU
  rintro W4 ⟨q0, q1, q2, c0⟩
  have G0 : Hid (Row W4 w.heap.size (tly k u false false wn) 33) := q0
  have G3 : Hid (Row W4 w1.heap.size (cpc (PR k)) 31) := q1
  have G4 : Hid (Row W4 w3.heap.size (cpc (PR u)) 31) := q2
  have BB : Hid (Below w.heap.size w W4) := c0
  have HL : Hid (∀ j v, (cpc k)[j]? = some v → W4.cell? ⟨w.heap.size, 0 + j, none⟩ = some v) := q0.tly.1.agg
  have HM : Hid (∀ j v, (cpc u)[j]? = some v → W4.cell? ⟨w.heap.size, 82 + j, none⟩ = some v) := q0.tly.2.1.agg
  obtain ⟨_, _, c1, c2, c3⟩ := q0.tly
  clear q0 q1 q2 c0
  go_upto_region 4 with (first | (refine wpList_load_agg (by rfl) 31 _ (by rfl) w.heap.size 0 (by rfl) (cpc k) _ HL.out Try.underlying31 (by rfl) (info_cpu _) ?_) | (refine wpList_load_agg (by rfl) 31 _ (by rfl) w.heap.size 82 (by rfl) (cpc u) _ HM.out Try.underlying31 (by rfl) (info_cpu _) ?_) | (go_at_call 10; refine (HC.out _).mono ?_; rintro e w5 ⟨rfl, hb⟩; have Bw5 : Hid (Below W4.heap.size W4 w5) := hb; clear hb) | (refine wpList_store_last (by rfl) _ _ _ (by rfl) (by rfl) _ _ _ (by rfl) (by rfl) (by rfl) (info_cpu _) (by rw [cpc_size, cpc_size]) (cpc_ones _) ?_))
  clear HL HM c1 c2 c3
  refine go_onP (motive := fun W => Code.wp _ _ _ _ W) (Q := fun W => Row W w.heap.size (tly k u false false wn) 33 ∧ Row W w1.heap.size (cpc (PR k)) 31 ∧ Row W w3.heap.size (cpc (PR u)) 31 ∧ Row W w5.heap.size (cpc { (PR k) with s := upd (PR k).s 10 ((PR k).s 10 + 1#64) }) 31 ∧ Below w.heap.size w W) ⟨G0.out.ca Bw5.out _, G3.out.ca Bw5.out _, G4.out.ca Bw5.out _, Row.new w5 (cpc { (PR k) with s := upd (PR k).s 10 ((PR k).s 10 + 1#64) }) 31, below_ca BB.out Bw5.out BB.out.size _⟩ ?_
  have N5 : Hid (w3.heap.size < w5.heap.size) := Nat.lt_of_lt_of_le G4.out.lt Bw5.out.size
  clear G0 G3 G4 BB Bw5 HC
  rintro W6 ⟨q0, q1, q2, q3, c0⟩
  have G0 : Hid (Row W6 w.heap.size (tly k u false false wn) 33) := q0
  have G3 : Hid (Row W6 w1.heap.size (cpc (PR k)) 31) := q1
  have G4 : Hid (Row W6 w3.heap.size (cpc (PR u)) 31) := q2
  have G5 : Hid (Row W6 w5.heap.size (cpc { (PR k) with s := upd (PR k).s 10 ((PR k).s 10 + 1#64) }) 31) := q3
  have BB : Hid (Below w.heap.size w W6) := c0
  clear q0 q1 q2 q3 c0
  go_upto_region 5 with (first | (refine wpList_load_row (by rfl) _ _ (by rfl) _ (by rfl) 31 _ (0, 0) _ G3.out Try.underlying31 (by rfl) (info_cpu _) ?_) | (refine wpList_store_last (by rfl) _ _ _ (by rfl) (by rfl) _ _ _ (by rfl) (by rfl) (by rfl) (info_cpu _) (by rw [cpc_size, cpc_size]) (cpc_ones _) ?_))
  refine go_onP (motive := fun W => Code.wp _ _ _ _ W) (Q := fun W => Row W w.heap.size (tly k u false false wn) 33 ∧ Row W w1.heap.size (cpc (PR k)) 31 ∧ Row W w3.heap.size (cpc (PR u)) 31 ∧ Row W w5.heap.size (cpc { (PR k) with s := upd (PR k).s 10 ((PR k).s 10 + 1#64) }) 31 ∧ Row W W6.heap.size (cpc (PR k)) 31 ∧ Below w.heap.size w W) ⟨G0.out.old G0.out.lt _, G3.out.old G3.out.lt _, G4.out.old G4.out.lt _, G5.out.old G5.out.lt _, Row.new W6 (cpc (PR k)) 31, BB.out.alloc BB.out.size _⟩ ?_
  have NE : Hid (w.heap.size < w1.heap.size ∧ w1.heap.size < w3.heap.size ∧ w3.heap.size < w5.heap.size ∧ w5.heap.size < W6.heap.size) := ⟨N1.out, N3.out, N5.out, G5.out.lt⟩
  clear G0 G3 G4 G5 BB N1 N3 N5
  rintro W7 ⟨q0, q1, q2, q3, q4, c0⟩
  have G5 : Hid (Row W7 w5.heap.size (cpc { (PR k) with s := upd (PR k).s 10 ((PR k).s 10 + 1#64) }) 31) := q3
  have G6 : Hid (Row W7 W6.heap.size (cpc (PR k)) 31) := q4
  have BB : Hid (Below w.heap.size w W7) := c0
  obtain ⟨_, _, c1, c2, c3⟩ := q0.tly
  have K1 := q1.cls.s10
  have K2 := q1.cls.s11
  have K4 := q2.cls.s4
  have L1 := q4.cls.s10
  have L2 := q4.cls.s11
  have f6 := q4.froz
  have n1 : ¬ w1.heap.size = W6.heap.size := by have := NE.out; omega
  have n2 : ¬ W6.heap.size = w1.heap.size := by have := NE.out; omega
  have n3 : ¬ w.heap.size = W6.heap.size := by have := NE.out; omega
  have n4 : ¬ W6.heap.size = w.heap.size := by have := NE.out; omega
  have n5 : ¬ w3.heap.size = W6.heap.size := by have := NE.out; omega
  have n6 : ¬ W6.heap.size = w3.heap.size := by have := NE.out; omega
  clear q0 q1 q2 q3 q4 c0
  go_upto_region 9 with fail
  have Q6 := (G6.out.put (i := 45) (.int .u64 (n64 ((PR k).s 10 + 1#64))))
  rw [cpc_s10] at Q6
  refine go_onP (motive := fun W => Code.wp _ _ _ _ W) (Q := fun W => Row W w5.heap.size (cpc { (PR k) with s := upd (PR k).s 10 ((PR k).s 10 + 1#64) }) 31 ∧ Row W W6.heap.size (cpc { (PR k) with s := upd (PR k).s 10 ((PR k).s 10 + 1#64) }) 31 ∧ Below w.heap.size w W) ⟨(Row.other G5.out (by have := NE.out; omega) _), Q6, (below_put BB.out (by have := NE.out; omega) _)⟩ ?_
  clear Q6 G5 G6 BB c1 c2 c3 K1 K2 K4 L1 L2 f6 n1 n2 n3 n4 n5 n6
  rintro W8 ⟨q3, q4, c0⟩
  have G5 : Hid (Row W8 w5.heap.size (cpc { (PR k) with s := upd (PR k).s 10 ((PR k).s 10 + 1#64) }) 31) := q3
  have G6 : Hid (Row W8 W6.heap.size (cpc { (PR k) with s := upd (PR k).s 10 ((PR k).s 10 + 1#64) }) 31) := q4
  have BB : Hid (Below w.heap.size w W8) := c0
  clear q3 q4 c0
  go_upto_region 10 with (first | (refine wpList_build_tab (by rfl) _ _ (by rfl) (cpc ctop) built_ctop ?_) | (refine wpList_build_tab (by rfl) _ _ (by rfl) (cpc cz) built_cz ?_) | (go_at_call 10; refine (HT.out _).mono ?_; rintro e w9 ⟨rfl, hb⟩; have Bw9 : Hid (Below W8.heap.size W8 w9) := hb; clear hb) | (refine wpList_store_last (by rfl) _ _ _ (by rfl) (by rfl) _ _ _ (by rfl) (by rfl) (by rfl) (info_cpu _) (by rw [cpc_size, cpc_size]) (cpc_ones _) ?_))
  refine go_onP (motive := fun W => Code.wp _ _ _ _ W) (Q := fun W => Row W w5.heap.size (cpc { (PR k) with s := upd (PR k).s 10 ((PR k).s 10 + 1#64) }) 31 ∧ Row W W6.heap.size (cpc { (PR k) with s := upd (PR k).s 10 ((PR k).s 10 + 1#64) }) 31 ∧ Row W w9.heap.size (cpc (CO ctop cz true false false)) 31 ∧ Below w.heap.size w W) ⟨G5.out.ca Bw9.out _, G6.out.ca Bw9.out _, Row.new w9 _ 31, below_ca BB.out Bw9.out BB.out.size _⟩ ?_
  clear G5 G6 BB Bw9 HT hz
  rintro Wa ⟨q3, q4, q5, c0⟩
  have G5 : Hid (Row Wa w5.heap.size (cpc { (PR k) with s := upd (PR k).s 10 ((PR k).s 10 + 1#64) }) 31) := q3
  have G6 : Hid (Row Wa W6.heap.size (cpc { (PR k) with s := upd (PR k).s 10 ((PR k).s 10 + 1#64) }) 31) := q4
  have BB : Hid (Below w.heap.size w Wa) := c0
  have T1 := q5.cls.s10
  have T2 := q5.cls.s11
  rw [CO_top.1] at T1
  rw [CO_top.2] at T2
  have T0 : n64 0#64 = 0 := rfl
  rw [T0] at T1 T2
  clear q3 q4 q5 c0 T0
  go_wp2_with (first | (refine wpList_load_row (by rfl) _ _ (by rfl) _ (by rfl) 31 _ (0, 0) _ G5.out Try.underlying31 (by rfl) (info_cpu _) ?_) | (refine wpList_load_row (by rfl) _ _ (by rfl) _ (by rfl) 31 _ (0, 0) _ G6.out Try.underlying31 (by rfl) (info_cpu _) ?_))
  go_ret
  exact ⟨rfl, BB.out⟩
set_option linter.unusedSimpArgs false
set_option maxRecDepth 100000 in
set_option maxHeartbeats 2000000 in
theorem wraps_iy_wn (hp : CPr) (hc : CCo) (k u : Cp) (h1 : (PR u).s 4 &&& 1#64 = 0#64) (w : World) : Calls Try.prog 3 #[.agg (tly k u true false true)] w fun e w' => e = .returned (.bool true) ∧ Below w.heap.size w w' := by
  have hz := zero_cpu
  obtain ⟨W0, hW0, r0, b0, s0⟩ := start1 w (tly k u true false true) 33
  have hlt : Hid (w.heap.size < W0.heap.size) := by unfold Hid; omega
  clear s0
  have HP : Hid (∀ W : World, Calls Try.prog 9 #[.agg (cpc k)] W fun e w' => e = .returned (.agg (cpc (PR k))) ∧ Below W.heap.size W w') := hp k
  have HU : Hid (∀ W : World, Calls Try.prog 9 #[.agg (cpc u)] W fun e w' => e = .returned (.agg (cpc (PR u))) ∧ Below W.heap.size W w') := hp u
  have HC : Hid (∀ W : World, Calls Try.prog 10 #[.agg (cpc k), .agg (cpc u), .bool true, .bool false, .bool true] W fun e w' => e = .returned (.agg (cpc { (PR k) with s := upd (PR k).s 10 ((PR k).s 10 + 1#64) })) ∧ Below W.heap.size W w') := fun W => by
    have h := hc k u true false true W
    simp only [CO, up1, h1, upd_10_11, Bool.not_true, Bool.not_false, Bool.true_and, Bool.false_and, Bool.and_true, Bool.and_false, decide_true, decide_false, if_true, if_false, Bool.false_eq_true] at h
    exact h
  have HT : Hid (∀ W : World, Calls Try.prog 10 #[.agg (cpc ctop), .agg (cpc cz), .bool true, .bool false, .bool false] W fun e w' => e = .returned (.agg (cpc (CO ctop cz true false false))) ∧ Below W.heap.size W w') := hc ctop cz true false false
  have b1 : bits .and .u64 (n64 ((PR u).s 4)) 1 = n64 ((PR u).s 4 &&& 1#64) := n64_and _ 1#64
  have e1 : n64 ((PR u).s 4 &&& 1#64) = 0 := by rw [h1]; rfl
  generalize (PR u).s 4 &&& 1#64 = z1 at b1 e1
  have a1 : IntKind.u64.wrap (n64 ((PR k).s 10) + 1) = n64 ((PR k).s 10 + 1#64) := n64_add _ 1#64
  clear h1
  have heq : ∀ W, (Op.equalIn 10000 31 (.agg (cpc { (PR k) with s := upd (PR k).s 10 ((PR k).s 10 + 1#64) })) (.agg (cpc { (PR k) with s := upd (PR k).s 10 ((PR k).s 10 + 1#64) }))).run Try.prog W = .ok true W := fun W => eq_cpu W _
  obtain ⟨a0, aU, c1, c2, c3⟩ := r0.out.tly
  have HL : Hid (∀ j v, (cpc k)[j]? = some v → W0.cell? ⟨w.heap.size, 0 + j, none⟩ = some v) := a0.agg
  clear a0 aU
  go_enter Try.func3, Try.ntmps3
  go_upto_region 1 with fail
  clear hW0
  go_upto_region 2 with (first | (refine wpList_load_agg (by rfl) 31 _ (by rfl) w.heap.size 0 (by rfl) (cpc k) _ HL.out Try.underlying31 (by rfl) (info_cpu _) ?_) | (go_at_call 9; refine (HP.out _).mono ?_; rintro e w1 ⟨rfl, hb⟩; have Bw1 : Hid (Below W0.heap.size W0 w1) := hb; clear hb) | (refine wpList_store_last (by rfl) _ _ _ (by rfl) (by rfl) _ _ _ (by rfl) (by rfl) (by rfl) (info_cpu _) (by rw [cpc_size, cpc_size]) (cpc_ones _) ?_))
  clear c1 c2 c3 HL
  refine go_onP (motive := fun W => Code.wp _ _ _ _ W) (Q := fun W => Row W w.heap.size (tly k u true false true) 33 ∧ Row W w1.heap.size (cpc (PR k)) 31 ∧ Below w.heap.size w W) ⟨r0.out.ca Bw1.out _, Row.new w1 (cpc (PR k)) 31, below_ca b0.out Bw1.out (Nat.le_of_lt hlt.out) _⟩ ?_
  have N1 : Hid (w.heap.size < w1.heap.size) := Nat.lt_of_lt_of_le hlt.out Bw1.out.size
  clear r0 b0 Bw1 hlt HP
  rintro W2 ⟨q0, q1, c0⟩
  have G0 : Hid (Row W2 w.heap.size (tly k u true false true) 33) := q0
  have G3 : Hid (Row W2 w1.heap.size (cpc (PR k)) 31) := q1
  have BB : Hid (Below w.heap.size w W2) := c0
  have HL : Hid (∀ j v, (cpc u)[j]? = some v → W2.cell? ⟨w.heap.size, 82 + j, none⟩ = some v) := q0.tly.2.1.agg
  clear q0 q1 c0
  go_upto_region 3 with (first | (refine wpList_load_agg (by rfl) 31 _ (by rfl) w.heap.size 82 (by rfl) (cpc u) _ HL.out Try.underlying31 (by rfl) (info_cpu _) ?_) | (go_at_call 9; refine (HU.out _).mono ?_; rintro e w3 ⟨rfl, hb⟩; have Bw3 : Hid (Below W2.heap.size W2 w3) := hb; clear hb) | (refine wpList_store_last (by rfl) _ _ _ (by rfl) (by rfl) _ _ _ (by rfl) (by rfl) (by rfl) (info_cpu _) (by rw [cpc_size, cpc_size]) (cpc_ones _) ?_))
  clear HL
  refine go_onP (motive := fun W => Code.wp _ _ _ _ W) (Q := fun W => Row W w.heap.size (tly k u true false true) 33 ∧ Row W w1.heap.size (cpc (PR k)) 31 ∧ Row W w3.heap.size (cpc (PR u)) 31 ∧ Below w.heap.size w W) ⟨G0.out.ca Bw3.out _, G3.out.ca Bw3.out _, Row.new w3 (cpc (PR u)) 31, below_ca BB.out Bw3.out BB.out.size _⟩ ?_
  have N3 : Hid (w1.heap.size < w3.heap.size) := Nat.lt_of_lt_of_le G3.out.lt Bw3.out.size
  clear G0 G3 BB Bw3 HU
  rintro W4 ⟨q0, q1, q2, c0⟩
  have G0 : Hid (Row W4 w.heap.size (tly k u true false true) 33) := q0
  have G3 : Hid (Row W4 w1.heap.size (cpc (PR k)) 31) := q1
  have G4 : Hid (Row W4 w3.heap.size (cpc (PR u)) 31) := q2
  have BB : Hid (Below w.heap.size w W4) := c0
  have HL : Hid (∀ j v, (cpc k)[j]? = some v → W4.cell? ⟨w.heap.size, 0 + j, none⟩ = some v) := q0.tly.1.agg
  have HM : Hid (∀ j v, (cpc u)[j]? = some v → W4.cell? ⟨w.heap.size, 82 + j, none⟩ = some v) := q0.tly.2.1.agg
  obtain ⟨_, _, c1, c2, c3⟩ := q0.tly
  clear q0 q1 q2 c0
  go_upto_region 4 with (first | (refine wpList_load_agg (by rfl) 31 _ (by rfl) w.heap.size 0 (by rfl) (cpc k) _ HL.out Try.underlying31 (by rfl) (info_cpu _) ?_) | (refine wpList_load_agg (by rfl) 31 _ (by rfl) w.heap.size 82 (by rfl) (cpc u) _ HM.out Try.underlying31 (by rfl) (info_cpu _) ?_) | (go_at_call 10; refine (HC.out _).mono ?_; rintro e w5 ⟨rfl, hb⟩; have Bw5 : Hid (Below W4.heap.size W4 w5) := hb; clear hb) | (refine wpList_store_last (by rfl) _ _ _ (by rfl) (by rfl) _ _ _ (by rfl) (by rfl) (by rfl) (info_cpu _) (by rw [cpc_size, cpc_size]) (cpc_ones _) ?_))
  clear HL HM c1 c2 c3
  refine go_onP (motive := fun W => Code.wp _ _ _ _ W) (Q := fun W => Row W w.heap.size (tly k u true false true) 33 ∧ Row W w1.heap.size (cpc (PR k)) 31 ∧ Row W w3.heap.size (cpc (PR u)) 31 ∧ Row W w5.heap.size (cpc { (PR k) with s := upd (PR k).s 10 ((PR k).s 10 + 1#64) }) 31 ∧ Below w.heap.size w W) ⟨G0.out.ca Bw5.out _, G3.out.ca Bw5.out _, G4.out.ca Bw5.out _, Row.new w5 (cpc { (PR k) with s := upd (PR k).s 10 ((PR k).s 10 + 1#64) }) 31, below_ca BB.out Bw5.out BB.out.size _⟩ ?_
  have N5 : Hid (w3.heap.size < w5.heap.size) := Nat.lt_of_lt_of_le G4.out.lt Bw5.out.size
  clear G0 G3 G4 BB Bw5 HC
  rintro W6 ⟨q0, q1, q2, q3, c0⟩
  have G0 : Hid (Row W6 w.heap.size (tly k u true false true) 33) := q0
  have G3 : Hid (Row W6 w1.heap.size (cpc (PR k)) 31) := q1
  have G4 : Hid (Row W6 w3.heap.size (cpc (PR u)) 31) := q2
  have G5 : Hid (Row W6 w5.heap.size (cpc { (PR k) with s := upd (PR k).s 10 ((PR k).s 10 + 1#64) }) 31) := q3
  have BB : Hid (Below w.heap.size w W6) := c0
  clear q0 q1 q2 q3 c0
  go_upto_region 5 with (first | (refine wpList_load_row (by rfl) _ _ (by rfl) _ (by rfl) 31 _ (0, 0) _ G3.out Try.underlying31 (by rfl) (info_cpu _) ?_) | (refine wpList_store_last (by rfl) _ _ _ (by rfl) (by rfl) _ _ _ (by rfl) (by rfl) (by rfl) (info_cpu _) (by rw [cpc_size, cpc_size]) (cpc_ones _) ?_))
  refine go_onP (motive := fun W => Code.wp _ _ _ _ W) (Q := fun W => Row W w.heap.size (tly k u true false true) 33 ∧ Row W w1.heap.size (cpc (PR k)) 31 ∧ Row W w3.heap.size (cpc (PR u)) 31 ∧ Row W w5.heap.size (cpc { (PR k) with s := upd (PR k).s 10 ((PR k).s 10 + 1#64) }) 31 ∧ Row W W6.heap.size (cpc (PR k)) 31 ∧ Below w.heap.size w W) ⟨G0.out.old G0.out.lt _, G3.out.old G3.out.lt _, G4.out.old G4.out.lt _, G5.out.old G5.out.lt _, Row.new W6 (cpc (PR k)) 31, BB.out.alloc BB.out.size _⟩ ?_
  have NE : Hid (w.heap.size < w1.heap.size ∧ w1.heap.size < w3.heap.size ∧ w3.heap.size < w5.heap.size ∧ w5.heap.size < W6.heap.size) := ⟨N1.out, N3.out, N5.out, G5.out.lt⟩
  clear G0 G3 G4 G5 BB N1 N3 N5
  rintro W7 ⟨q0, q1, q2, q3, q4, c0⟩
  have G5 : Hid (Row W7 w5.heap.size (cpc { (PR k) with s := upd (PR k).s 10 ((PR k).s 10 + 1#64) }) 31) := q3
  have G6 : Hid (Row W7 W6.heap.size (cpc (PR k)) 31) := q4
  have BB : Hid (Below w.heap.size w W7) := c0
  obtain ⟨_, _, c1, c2, c3⟩ := q0.tly
  have K1 := q1.cls.s10
  have K2 := q1.cls.s11
  have K4 := q2.cls.s4
  have L1 := q4.cls.s10
  have L2 := q4.cls.s11
  have f6 := q4.froz
  have n1 : ¬ w1.heap.size = W6.heap.size := by have := NE.out; omega
  have n2 : ¬ W6.heap.size = w1.heap.size := by have := NE.out; omega
  have n3 : ¬ w.heap.size = W6.heap.size := by have := NE.out; omega
  have n4 : ¬ W6.heap.size = w.heap.size := by have := NE.out; omega
  have n5 : ¬ w3.heap.size = W6.heap.size := by have := NE.out; omega
  have n6 : ¬ W6.heap.size = w3.heap.size := by have := NE.out; omega
  clear q0 q1 q2 q3 q4 c0
  go_upto_region 9 with fail
  have Q6 := (G6.out.put (i := 45) (.int .u64 (n64 ((PR k).s 10 + 1#64))))
  rw [cpc_s10] at Q6
  refine go_onP (motive := fun W => Code.wp _ _ _ _ W) (Q := fun W => Row W w5.heap.size (cpc { (PR k) with s := upd (PR k).s 10 ((PR k).s 10 + 1#64) }) 31 ∧ Row W W6.heap.size (cpc { (PR k) with s := upd (PR k).s 10 ((PR k).s 10 + 1#64) }) 31 ∧ Below w.heap.size w W) ⟨(Row.other G5.out (by have := NE.out; omega) _), Q6, (below_put BB.out (by have := NE.out; omega) _)⟩ ?_
  clear Q6 G5 G6 BB c1 c2 c3 K1 K2 K4 L1 L2 f6 n1 n2 n3 n4 n5 n6
  rintro W8 ⟨q3, q4, c0⟩
  have G5 : Hid (Row W8 w5.heap.size (cpc { (PR k) with s := upd (PR k).s 10 ((PR k).s 10 + 1#64) }) 31) := q3
  have G6 : Hid (Row W8 W6.heap.size (cpc { (PR k) with s := upd (PR k).s 10 ((PR k).s 10 + 1#64) }) 31) := q4
  have BB : Hid (Below w.heap.size w W8) := c0
  clear q3 q4 c0
  go_upto_region 10 with (first | (refine wpList_build_tab (by rfl) _ _ (by rfl) (cpc ctop) built_ctop ?_) | (refine wpList_build_tab (by rfl) _ _ (by rfl) (cpc cz) built_cz ?_) | (go_at_call 10; refine (HT.out _).mono ?_; rintro e w9 ⟨rfl, hb⟩; have Bw9 : Hid (Below W8.heap.size W8 w9) := hb; clear hb) | (refine wpList_store_last (by rfl) _ _ _ (by rfl) (by rfl) _ _ _ (by rfl) (by rfl) (by rfl) (info_cpu _) (by rw [cpc_size, cpc_size]) (cpc_ones _) ?_))
  refine go_onP (motive := fun W => Code.wp _ _ _ _ W) (Q := fun W => Row W w5.heap.size (cpc { (PR k) with s := upd (PR k).s 10 ((PR k).s 10 + 1#64) }) 31 ∧ Row W W6.heap.size (cpc { (PR k) with s := upd (PR k).s 10 ((PR k).s 10 + 1#64) }) 31 ∧ Row W w9.heap.size (cpc (CO ctop cz true false false)) 31 ∧ Below w.heap.size w W) ⟨G5.out.ca Bw9.out _, G6.out.ca Bw9.out _, Row.new w9 _ 31, below_ca BB.out Bw9.out BB.out.size _⟩ ?_
  clear G5 G6 BB Bw9 HT hz
  rintro Wa ⟨q3, q4, q5, c0⟩
  have G5 : Hid (Row Wa w5.heap.size (cpc { (PR k) with s := upd (PR k).s 10 ((PR k).s 10 + 1#64) }) 31) := q3
  have G6 : Hid (Row Wa W6.heap.size (cpc { (PR k) with s := upd (PR k).s 10 ((PR k).s 10 + 1#64) }) 31) := q4
  have BB : Hid (Below w.heap.size w Wa) := c0
  have T1 := q5.cls.s10
  have T2 := q5.cls.s11
  rw [CO_top.1] at T1
  rw [CO_top.2] at T2
  have T0 : n64 0#64 = 0 := rfl
  rw [T0] at T1 T2
  clear q3 q4 q5 c0 T0
  go_wp2_with (first | (refine wpList_load_row (by rfl) _ _ (by rfl) _ (by rfl) 31 _ (0, 0) _ G5.out Try.underlying31 (by rfl) (info_cpu _) ?_) | (refine wpList_load_row (by rfl) _ _ (by rfl) _ (by rfl) 31 _ (0, 0) _ G6.out Try.underlying31 (by rfl) (info_cpu _) ?_))
  go_ret
  exact ⟨rfl, BB.out⟩
set_option linter.unusedSimpArgs false
set_option maxRecDepth 100000 in
set_option maxHeartbeats 2000000 in
theorem wraps_iy_if (hp : CPr) (hc : CCo) (k u : Cp) (h1 : (PR u).s 4 &&& 1#64 = 0#64) (h4 : ¬ (PR u).s 4 &&& 4#64 = 0#64) (w : World) : Calls Try.prog 3 #[.agg (tly k u true false false)] w fun e w' => e = .returned (.bool true) ∧ Below w.heap.size w w' := by
  have hz := zero_cpu
  obtain ⟨W0, hW0, r0, b0, s0⟩ := start1 w (tly k u true false false) 33
  have hlt : Hid (w.heap.size < W0.heap.size) := by unfold Hid; omega
  clear s0
  have HP : Hid (∀ W : World, Calls Try.prog 9 #[.agg (cpc k)] W fun e w' => e = .returned (.agg (cpc (PR k))) ∧ Below W.heap.size W w') := hp k
  have HU : Hid (∀ W : World, Calls Try.prog 9 #[.agg (cpc u)] W fun e w' => e = .returned (.agg (cpc (PR u))) ∧ Below W.heap.size W w') := hp u
  have HC : Hid (∀ W : World, Calls Try.prog 10 #[.agg (cpc k), .agg (cpc u), .bool true, .bool false, .bool false] W fun e w' => e = .returned (.agg (cpc { (PR k) with s := upd (PR k).s 10 ((PR k).s 10 + 1#64) })) ∧ Below W.heap.size W w') := fun W => by
    have h := hc k u true false false W
    simp only [CO, up1, h1, h4, upd_10_11, Bool.not_true, Bool.not_false, Bool.true_and, Bool.false_and, Bool.and_true, Bool.and_false, decide_true, decide_false, if_true, if_false, Bool.false_eq_true] at h
    exact h
  have HT : Hid (∀ W : World, Calls Try.prog 10 #[.agg (cpc ctop), .agg (cpc cz), .bool true, .bool false, .bool false] W fun e w' => e = .returned (.agg (cpc (CO ctop cz true false false))) ∧ Below W.heap.size W w') := hc ctop cz true false false
  have b1 : bits .and .u64 (n64 ((PR u).s 4)) 1 = n64 ((PR u).s 4 &&& 1#64) := n64_and _ 1#64
  have e1 : n64 ((PR u).s 4 &&& 1#64) = 0 := by rw [h1]; rfl
  generalize (PR u).s 4 &&& 1#64 = z1 at b1 e1
  have b3 : n64 ((PR u).s 4) / (4 : Int) = n64 ((PR u).s 4 >>> 2) := n64_shr ((PR u).s 4) 2
  have b4 : bits .and .u64 (n64 ((PR u).s 4 >>> 2)) 1 = n64 ((PR u).s 4 >>> 2 &&& 1#64) := n64_and _ 1#64
  have e4 : ¬ n64 ((PR u).s 4 >>> 2 &&& 1#64) = 0 := fun e => h4 ((bit2 (PR_s4 u)).1 (n64_inj.1 e))
  generalize (PR u).s 4 >>> 2 &&& 1#64 = z4 at b4 e4
  generalize (PR u).s 4 >>> 2 = z3 at b3 b4
  have a1 : IntKind.u64.wrap (n64 ((PR k).s 10) + 1) = n64 ((PR k).s 10 + 1#64) := n64_add _ 1#64
  clear h1 h4
  have heq : ∀ W, (Op.equalIn 10000 31 (.agg (cpc { (PR k) with s := upd (PR k).s 10 ((PR k).s 10 + 1#64) })) (.agg (cpc { (PR k) with s := upd (PR k).s 10 ((PR k).s 10 + 1#64) }))).run Try.prog W = .ok true W := fun W => eq_cpu W _
  obtain ⟨a0, aU, c1, c2, c3⟩ := r0.out.tly
  have HL : Hid (∀ j v, (cpc k)[j]? = some v → W0.cell? ⟨w.heap.size, 0 + j, none⟩ = some v) := a0.agg
  clear a0 aU
  go_enter Try.func3, Try.ntmps3
  go_upto_region 1 with fail
  clear hW0
  go_upto_region 2 with (first | (refine wpList_load_agg (by rfl) 31 _ (by rfl) w.heap.size 0 (by rfl) (cpc k) _ HL.out Try.underlying31 (by rfl) (info_cpu _) ?_) | (go_at_call 9; refine (HP.out _).mono ?_; rintro e w1 ⟨rfl, hb⟩; have Bw1 : Hid (Below W0.heap.size W0 w1) := hb; clear hb) | (refine wpList_store_last (by rfl) _ _ _ (by rfl) (by rfl) _ _ _ (by rfl) (by rfl) (by rfl) (info_cpu _) (by rw [cpc_size, cpc_size]) (cpc_ones _) ?_))
  clear c1 c2 c3 HL
  refine go_onP (motive := fun W => Code.wp _ _ _ _ W) (Q := fun W => Row W w.heap.size (tly k u true false false) 33 ∧ Row W w1.heap.size (cpc (PR k)) 31 ∧ Below w.heap.size w W) ⟨r0.out.ca Bw1.out _, Row.new w1 (cpc (PR k)) 31, below_ca b0.out Bw1.out (Nat.le_of_lt hlt.out) _⟩ ?_
  have N1 : Hid (w.heap.size < w1.heap.size) := Nat.lt_of_lt_of_le hlt.out Bw1.out.size
  clear r0 b0 Bw1 hlt HP
  rintro W2 ⟨q0, q1, c0⟩
  have G0 : Hid (Row W2 w.heap.size (tly k u true false false) 33) := q0
  have G3 : Hid (Row W2 w1.heap.size (cpc (PR k)) 31) := q1
  have BB : Hid (Below w.heap.size w W2) := c0
  have HL : Hid (∀ j v, (cpc u)[j]? = some v → W2.cell? ⟨w.heap.size, 82 + j, none⟩ = some v) := q0.tly.2.1.agg
  clear q0 q1 c0
  go_upto_region 3 with (first | (refine wpList_load_agg (by rfl) 31 _ (by rfl) w.heap.size 82 (by rfl) (cpc u) _ HL.out Try.underlying31 (by rfl) (info_cpu _) ?_) | (go_at_call 9; refine (HU.out _).mono ?_; rintro e w3 ⟨rfl, hb⟩; have Bw3 : Hid (Below W2.heap.size W2 w3) := hb; clear hb) | (refine wpList_store_last (by rfl) _ _ _ (by rfl) (by rfl) _ _ _ (by rfl) (by rfl) (by rfl) (info_cpu _) (by rw [cpc_size, cpc_size]) (cpc_ones _) ?_))
  clear HL
  refine go_onP (motive := fun W => Code.wp _ _ _ _ W) (Q := fun W => Row W w.heap.size (tly k u true false false) 33 ∧ Row W w1.heap.size (cpc (PR k)) 31 ∧ Row W w3.heap.size (cpc (PR u)) 31 ∧ Below w.heap.size w W) ⟨G0.out.ca Bw3.out _, G3.out.ca Bw3.out _, Row.new w3 (cpc (PR u)) 31, below_ca BB.out Bw3.out BB.out.size _⟩ ?_
  have N3 : Hid (w1.heap.size < w3.heap.size) := Nat.lt_of_lt_of_le G3.out.lt Bw3.out.size
  clear G0 G3 BB Bw3 HU
  rintro W4 ⟨q0, q1, q2, c0⟩
  have G0 : Hid (Row W4 w.heap.size (tly k u true false false) 33) := q0
  have G3 : Hid (Row W4 w1.heap.size (cpc (PR k)) 31) := q1
  have G4 : Hid (Row W4 w3.heap.size (cpc (PR u)) 31) := q2
  have BB : Hid (Below w.heap.size w W4) := c0
  have HL : Hid (∀ j v, (cpc k)[j]? = some v → W4.cell? ⟨w.heap.size, 0 + j, none⟩ = some v) := q0.tly.1.agg
  have HM : Hid (∀ j v, (cpc u)[j]? = some v → W4.cell? ⟨w.heap.size, 82 + j, none⟩ = some v) := q0.tly.2.1.agg
  obtain ⟨_, _, c1, c2, c3⟩ := q0.tly
  clear q0 q1 q2 c0
  go_upto_region 4 with (first | (refine wpList_load_agg (by rfl) 31 _ (by rfl) w.heap.size 0 (by rfl) (cpc k) _ HL.out Try.underlying31 (by rfl) (info_cpu _) ?_) | (refine wpList_load_agg (by rfl) 31 _ (by rfl) w.heap.size 82 (by rfl) (cpc u) _ HM.out Try.underlying31 (by rfl) (info_cpu _) ?_) | (go_at_call 10; refine (HC.out _).mono ?_; rintro e w5 ⟨rfl, hb⟩; have Bw5 : Hid (Below W4.heap.size W4 w5) := hb; clear hb) | (refine wpList_store_last (by rfl) _ _ _ (by rfl) (by rfl) _ _ _ (by rfl) (by rfl) (by rfl) (info_cpu _) (by rw [cpc_size, cpc_size]) (cpc_ones _) ?_))
  clear HL HM c1 c2 c3
  refine go_onP (motive := fun W => Code.wp _ _ _ _ W) (Q := fun W => Row W w.heap.size (tly k u true false false) 33 ∧ Row W w1.heap.size (cpc (PR k)) 31 ∧ Row W w3.heap.size (cpc (PR u)) 31 ∧ Row W w5.heap.size (cpc { (PR k) with s := upd (PR k).s 10 ((PR k).s 10 + 1#64) }) 31 ∧ Below w.heap.size w W) ⟨G0.out.ca Bw5.out _, G3.out.ca Bw5.out _, G4.out.ca Bw5.out _, Row.new w5 (cpc { (PR k) with s := upd (PR k).s 10 ((PR k).s 10 + 1#64) }) 31, below_ca BB.out Bw5.out BB.out.size _⟩ ?_
  have N5 : Hid (w3.heap.size < w5.heap.size) := Nat.lt_of_lt_of_le G4.out.lt Bw5.out.size
  clear G0 G3 G4 BB Bw5 HC
  rintro W6 ⟨q0, q1, q2, q3, c0⟩
  have G0 : Hid (Row W6 w.heap.size (tly k u true false false) 33) := q0
  have G3 : Hid (Row W6 w1.heap.size (cpc (PR k)) 31) := q1
  have G4 : Hid (Row W6 w3.heap.size (cpc (PR u)) 31) := q2
  have G5 : Hid (Row W6 w5.heap.size (cpc { (PR k) with s := upd (PR k).s 10 ((PR k).s 10 + 1#64) }) 31) := q3
  have BB : Hid (Below w.heap.size w W6) := c0
  clear q0 q1 q2 q3 c0
  go_upto_region 5 with (first | (refine wpList_load_row (by rfl) _ _ (by rfl) _ (by rfl) 31 _ (0, 0) _ G3.out Try.underlying31 (by rfl) (info_cpu _) ?_) | (refine wpList_store_last (by rfl) _ _ _ (by rfl) (by rfl) _ _ _ (by rfl) (by rfl) (by rfl) (info_cpu _) (by rw [cpc_size, cpc_size]) (cpc_ones _) ?_))
  refine go_onP (motive := fun W => Code.wp _ _ _ _ W) (Q := fun W => Row W w.heap.size (tly k u true false false) 33 ∧ Row W w1.heap.size (cpc (PR k)) 31 ∧ Row W w3.heap.size (cpc (PR u)) 31 ∧ Row W w5.heap.size (cpc { (PR k) with s := upd (PR k).s 10 ((PR k).s 10 + 1#64) }) 31 ∧ Row W W6.heap.size (cpc (PR k)) 31 ∧ Below w.heap.size w W) ⟨G0.out.old G0.out.lt _, G3.out.old G3.out.lt _, G4.out.old G4.out.lt _, G5.out.old G5.out.lt _, Row.new W6 (cpc (PR k)) 31, BB.out.alloc BB.out.size _⟩ ?_
  have NE : Hid (w.heap.size < w1.heap.size ∧ w1.heap.size < w3.heap.size ∧ w3.heap.size < w5.heap.size ∧ w5.heap.size < W6.heap.size) := ⟨N1.out, N3.out, N5.out, G5.out.lt⟩
  clear G0 G3 G4 G5 BB N1 N3 N5
  rintro W7 ⟨q0, q1, q2, q3, q4, c0⟩
  have G5 : Hid (Row W7 w5.heap.size (cpc { (PR k) with s := upd (PR k).s 10 ((PR k).s 10 + 1#64) }) 31) := q3
  have G6 : Hid (Row W7 W6.heap.size (cpc (PR k)) 31) := q4
  have BB : Hid (Below w.heap.size w W7) := c0
  obtain ⟨_, _, c1, c2, c3⟩ := q0.tly
  have K1 := q1.cls.s10
  have K2 := q1.cls.s11
  have K4 := q2.cls.s4
  have L1 := q4.cls.s10
  have L2 := q4.cls.s11
  have f6 := q4.froz
  have n1 : ¬ w1.heap.size = W6.heap.size := by have := NE.out; omega
  have n2 : ¬ W6.heap.size = w1.heap.size := by have := NE.out; omega
  have n3 : ¬ w.heap.size = W6.heap.size := by have := NE.out; omega
  have n4 : ¬ W6.heap.size = w.heap.size := by have := NE.out; omega
  have n5 : ¬ w3.heap.size = W6.heap.size := by have := NE.out; omega
  have n6 : ¬ W6.heap.size = w3.heap.size := by have := NE.out; omega
  clear q0 q1 q2 q3 q4 c0
  go_upto_region 9 with fail
  have Q6 := (G6.out.put (i := 45) (.int .u64 (n64 ((PR k).s 10 + 1#64))))
  rw [cpc_s10] at Q6
  refine go_onP (motive := fun W => Code.wp _ _ _ _ W) (Q := fun W => Row W w5.heap.size (cpc { (PR k) with s := upd (PR k).s 10 ((PR k).s 10 + 1#64) }) 31 ∧ Row W W6.heap.size (cpc { (PR k) with s := upd (PR k).s 10 ((PR k).s 10 + 1#64) }) 31 ∧ Below w.heap.size w W) ⟨(Row.other G5.out (by have := NE.out; omega) _), Q6, (below_put BB.out (by have := NE.out; omega) _)⟩ ?_
  clear Q6 G5 G6 BB c1 c2 c3 K1 K2 K4 L1 L2 f6 n1 n2 n3 n4 n5 n6
  rintro W8 ⟨q3, q4, c0⟩
  have G5 : Hid (Row W8 w5.heap.size (cpc { (PR k) with s := upd (PR k).s 10 ((PR k).s 10 + 1#64) }) 31) := q3
  have G6 : Hid (Row W8 W6.heap.size (cpc { (PR k) with s := upd (PR k).s 10 ((PR k).s 10 + 1#64) }) 31) := q4
  have BB : Hid (Below w.heap.size w W8) := c0
  clear q3 q4 c0
  go_upto_region 10 with (first | (refine wpList_build_tab (by rfl) _ _ (by rfl) (cpc ctop) built_ctop ?_) | (refine wpList_build_tab (by rfl) _ _ (by rfl) (cpc cz) built_cz ?_) | (go_at_call 10; refine (HT.out _).mono ?_; rintro e w9 ⟨rfl, hb⟩; have Bw9 : Hid (Below W8.heap.size W8 w9) := hb; clear hb) | (refine wpList_store_last (by rfl) _ _ _ (by rfl) (by rfl) _ _ _ (by rfl) (by rfl) (by rfl) (info_cpu _) (by rw [cpc_size, cpc_size]) (cpc_ones _) ?_))
  refine go_onP (motive := fun W => Code.wp _ _ _ _ W) (Q := fun W => Row W w5.heap.size (cpc { (PR k) with s := upd (PR k).s 10 ((PR k).s 10 + 1#64) }) 31 ∧ Row W W6.heap.size (cpc { (PR k) with s := upd (PR k).s 10 ((PR k).s 10 + 1#64) }) 31 ∧ Row W w9.heap.size (cpc (CO ctop cz true false false)) 31 ∧ Below w.heap.size w W) ⟨G5.out.ca Bw9.out _, G6.out.ca Bw9.out _, Row.new w9 _ 31, below_ca BB.out Bw9.out BB.out.size _⟩ ?_
  clear G5 G6 BB Bw9 HT hz
  rintro Wa ⟨q3, q4, q5, c0⟩
  have G5 : Hid (Row Wa w5.heap.size (cpc { (PR k) with s := upd (PR k).s 10 ((PR k).s 10 + 1#64) }) 31) := q3
  have G6 : Hid (Row Wa W6.heap.size (cpc { (PR k) with s := upd (PR k).s 10 ((PR k).s 10 + 1#64) }) 31) := q4
  have BB : Hid (Below w.heap.size w Wa) := c0
  have T1 := q5.cls.s10
  have T2 := q5.cls.s11
  rw [CO_top.1] at T1
  rw [CO_top.2] at T2
  have T0 : n64 0#64 = 0 := rfl
  rw [T0] at T1 T2
  clear q3 q4 q5 c0 T0
  go_wp2_with (first | (refine wpList_load_row (by rfl) _ _ (by rfl) _ (by rfl) 31 _ (0, 0) _ G5.out Try.underlying31 (by rfl) (info_cpu _) ?_) | (refine wpList_load_row (by rfl) _ _ (by rfl) _ (by rfl) 31 _ (0, 0) _ G6.out Try.underlying31 (by rfl) (info_cpu _) ?_))
  go_ret
  exact ⟨rfl, BB.out⟩
set_option linter.unusedSimpArgs false
set_option maxRecDepth 100000 in
set_option maxHeartbeats 2000000 in
theorem wraps_iy_iy (hp : CPr) (hc : CCo) (k u : Cp) (h1 : (PR u).s 4 &&& 1#64 = 0#64) (h4 : (PR u).s 4 &&& 4#64 = 0#64) (w : World) : Calls Try.prog 3 #[.agg (tly k u true false false)] w fun e w' => e = .returned (.bool true) ∧ Below w.heap.size w w' := by
  have hz := zero_cpu
  obtain ⟨W0, hW0, r0, b0, s0⟩ := start1 w (tly k u true false false) 33
  have hlt : Hid (w.heap.size < W0.heap.size) := by unfold Hid; omega
  clear s0
  have HP : Hid (∀ W : World, Calls Try.prog 9 #[.agg (cpc k)] W fun e w' => e = .returned (.agg (cpc (PR k))) ∧ Below W.heap.size W w') := hp k
  have HU : Hid (∀ W : World, Calls Try.prog 9 #[.agg (cpc u)] W fun e w' => e = .returned (.agg (cpc (PR u))) ∧ Below W.heap.size W w') := hp u
  have HC : Hid (∀ W : World, Calls Try.prog 10 #[.agg (cpc k), .agg (cpc u), .bool true, .bool false, .bool false] W fun e w' => e = .returned (.agg (cpc { (PR k) with s := upd (upd (PR k).s 10 ((PR k).s 10 + 1#64)) 11 ((PR k).s 11 + 1#64) })) ∧ Below W.heap.size W w') := fun W => by
    have h := hc k u true false false W
    simp only [CO, up1, h1, h4, upd_10_11, Bool.not_true, Bool.not_false, Bool.true_and, Bool.false_and, Bool.and_true, Bool.and_false, decide_true, decide_false, if_true, if_false, Bool.false_eq_true] at h
    exact h
  have HT : Hid (∀ W : World, Calls Try.prog 10 #[.agg (cpc ctop), .agg (cpc cz), .bool true, .bool false, .bool false] W fun e w' => e = .returned (.agg (cpc (CO ctop cz true false false))) ∧ Below W.heap.size W w') := hc ctop cz true false false
  have b1 : bits .and .u64 (n64 ((PR u).s 4)) 1 = n64 ((PR u).s 4 &&& 1#64) := n64_and _ 1#64
  have e1 : n64 ((PR u).s 4 &&& 1#64) = 0 := by rw [h1]; rfl
  generalize (PR u).s 4 &&& 1#64 = z1 at b1 e1
  have b3 : n64 ((PR u).s 4) / (4 : Int) = n64 ((PR u).s 4 >>> 2) := n64_shr ((PR u).s 4) 2
  have b4 : bits .and .u64 (n64 ((PR u).s 4 >>> 2)) 1 = n64 ((PR u).s 4 >>> 2 &&& 1#64) := n64_and _ 1#64
  have e4 : n64 ((PR u).s 4 >>> 2 &&& 1#64) = 0 := by rw [(bit2 (PR_s4 u)).2 h4]; rfl
  generalize (PR u).s 4 >>> 2 &&& 1#64 = z4 at b4 e4
  generalize (PR u).s 4 >>> 2 = z3 at b3 b4
  have a1 : IntKind.u64.wrap (n64 ((PR k).s 10) + 1) = n64 ((PR k).s 10 + 1#64) := n64_add _ 1#64
  have a2 : IntKind.u64.wrap (n64 ((PR k).s 11) + 1) = n64 ((PR k).s 11 + 1#64) := n64_add _ 1#64
  clear h1 h4
  have heq : ∀ W, (Op.equalIn 10000 31 (.agg (cpc { (PR k) with s := upd (upd (PR k).s 10 ((PR k).s 10 + 1#64)) 11 ((PR k).s 11 + 1#64) })) (.agg (cpc { (PR k) with s := upd (upd (PR k).s 10 ((PR k).s 10 + 1#64)) 11 ((PR k).s 11 + 1#64) }))).run Try.prog W = .ok true W := fun W => eq_cpu W _
  obtain ⟨a0, aU, c1, c2, c3⟩ := r0.out.tly
  have HL : Hid (∀ j v, (cpc k)[j]? = some v → W0.cell? ⟨w.heap.size, 0 + j, none⟩ = some v) := a0.agg
  clear a0 aU
  go_enter Try.func3, Try.ntmps3
  go_upto_region 1 with fail
  clear hW0
  go_upto_region 2 with (first | (refine wpList_load_agg (by rfl) 31 _ (by rfl) w.heap.size 0 (by rfl) (cpc k) _ HL.out Try.underlying31 (by rfl) (info_cpu _) ?_) | (go_at_call 9; refine (HP.out _).mono ?_; rintro e w1 ⟨rfl, hb⟩; have Bw1 : Hid (Below W0.heap.size W0 w1) := hb; clear hb) | (refine wpList_store_last (by rfl) _ _ _ (by rfl) (by rfl) _ _ _ (by rfl) (by rfl) (by rfl) (info_cpu _) (by rw [cpc_size, cpc_size]) (cpc_ones _) ?_))
  clear c1 c2 c3 HL
  refine go_onP (motive := fun W => Code.wp _ _ _ _ W) (Q := fun W => Row W w.heap.size (tly k u true false false) 33 ∧ Row W w1.heap.size (cpc (PR k)) 31 ∧ Below w.heap.size w W) ⟨r0.out.ca Bw1.out _, Row.new w1 (cpc (PR k)) 31, below_ca b0.out Bw1.out (Nat.le_of_lt hlt.out) _⟩ ?_
  have N1 : Hid (w.heap.size < w1.heap.size) := Nat.lt_of_lt_of_le hlt.out Bw1.out.size
  clear r0 b0 Bw1 hlt HP
  rintro W2 ⟨q0, q1, c0⟩
  have G0 : Hid (Row W2 w.heap.size (tly k u true false false) 33) := q0
  have G3 : Hid (Row W2 w1.heap.size (cpc (PR k)) 31) := q1
  have BB : Hid (Below w.heap.size w W2) := c0
  have HL : Hid (∀ j v, (cpc u)[j]? = some v → W2.cell? ⟨w.heap.size, 82 + j, none⟩ = some v) := q0.tly.2.1.agg
  clear q0 q1 c0
  go_upto_region 3 with (first | (refine wpList_load_agg (by rfl) 31 _ (by rfl) w.heap.size 82 (by rfl) (cpc u) _ HL.out Try.underlying31 (by rfl) (info_cpu _) ?_) | (go_at_call 9; refine (HU.out _).mono ?_; rintro e w3 ⟨rfl, hb⟩; have Bw3 : Hid (Below W2.heap.size W2 w3) := hb; clear hb) | (refine wpList_store_last (by rfl) _ _ _ (by rfl) (by rfl) _ _ _ (by rfl) (by rfl) (by rfl) (info_cpu _) (by rw [cpc_size, cpc_size]) (cpc_ones _) ?_))
  clear HL
  refine go_onP (motive := fun W => Code.wp _ _ _ _ W) (Q := fun W => Row W w.heap.size (tly k u true false false) 33 ∧ Row W w1.heap.size (cpc (PR k)) 31 ∧ Row W w3.heap.size (cpc (PR u)) 31 ∧ Below w.heap.size w W) ⟨G0.out.ca Bw3.out _, G3.out.ca Bw3.out _, Row.new w3 (cpc (PR u)) 31, below_ca BB.out Bw3.out BB.out.size _⟩ ?_
  have N3 : Hid (w1.heap.size < w3.heap.size) := Nat.lt_of_lt_of_le G3.out.lt Bw3.out.size
  clear G0 G3 BB Bw3 HU
  rintro W4 ⟨q0, q1, q2, c0⟩
  have G0 : Hid (Row W4 w.heap.size (tly k u true false false) 33) := q0
  have G3 : Hid (Row W4 w1.heap.size (cpc (PR k)) 31) := q1
  have G4 : Hid (Row W4 w3.heap.size (cpc (PR u)) 31) := q2
  have BB : Hid (Below w.heap.size w W4) := c0
  have HL : Hid (∀ j v, (cpc k)[j]? = some v → W4.cell? ⟨w.heap.size, 0 + j, none⟩ = some v) := q0.tly.1.agg
  have HM : Hid (∀ j v, (cpc u)[j]? = some v → W4.cell? ⟨w.heap.size, 82 + j, none⟩ = some v) := q0.tly.2.1.agg
  obtain ⟨_, _, c1, c2, c3⟩ := q0.tly
  clear q0 q1 q2 c0
  go_upto_region 4 with (first | (refine wpList_load_agg (by rfl) 31 _ (by rfl) w.heap.size 0 (by rfl) (cpc k) _ HL.out Try.underlying31 (by rfl) (info_cpu _) ?_) | (refine wpList_load_agg (by rfl) 31 _ (by rfl) w.heap.size 82 (by rfl) (cpc u) _ HM.out Try.underlying31 (by rfl) (info_cpu _) ?_) | (go_at_call 10; refine (HC.out _).mono ?_; rintro e w5 ⟨rfl, hb⟩; have Bw5 : Hid (Below W4.heap.size W4 w5) := hb; clear hb) | (refine wpList_store_last (by rfl) _ _ _ (by rfl) (by rfl) _ _ _ (by rfl) (by rfl) (by rfl) (info_cpu _) (by rw [cpc_size, cpc_size]) (cpc_ones _) ?_))
  clear HL HM c1 c2 c3
  refine go_onP (motive := fun W => Code.wp _ _ _ _ W) (Q := fun W => Row W w.heap.size (tly k u true false false) 33 ∧ Row W w1.heap.size (cpc (PR k)) 31 ∧ Row W w3.heap.size (cpc (PR u)) 31 ∧ Row W w5.heap.size (cpc { (PR k) with s := upd (upd (PR k).s 10 ((PR k).s 10 + 1#64)) 11 ((PR k).s 11 + 1#64) }) 31 ∧ Below w.heap.size w W) ⟨G0.out.ca Bw5.out _, G3.out.ca Bw5.out _, G4.out.ca Bw5.out _, Row.new w5 (cpc { (PR k) with s := upd (upd (PR k).s 10 ((PR k).s 10 + 1#64)) 11 ((PR k).s 11 + 1#64) }) 31, below_ca BB.out Bw5.out BB.out.size _⟩ ?_
  have N5 : Hid (w3.heap.size < w5.heap.size) := Nat.lt_of_lt_of_le G4.out.lt Bw5.out.size
  clear G0 G3 G4 BB Bw5 HC
  rintro W6 ⟨q0, q1, q2, q3, c0⟩
  have G0 : Hid (Row W6 w.heap.size (tly k u true false false) 33) := q0
  have G3 : Hid (Row W6 w1.heap.size (cpc (PR k)) 31) := q1
  have G4 : Hid (Row W6 w3.heap.size (cpc (PR u)) 31) := q2
  have G5 : Hid (Row W6 w5.heap.size (cpc { (PR k) with s := upd (upd (PR k).s 10 ((PR k).s 10 + 1#64)) 11 ((PR k).s 11 + 1#64) }) 31) := q3
  have BB : Hid (Below w.heap.size w W6) := c0
  clear q0 q1 q2 q3 c0
  go_upto_region 5 with (first | (refine wpList_load_row (by rfl) _ _ (by rfl) _ (by rfl) 31 _ (0, 0) _ G3.out Try.underlying31 (by rfl) (info_cpu _) ?_) | (refine wpList_store_last (by rfl) _ _ _ (by rfl) (by rfl) _ _ _ (by rfl) (by rfl) (by rfl) (info_cpu _) (by rw [cpc_size, cpc_size]) (cpc_ones _) ?_))
  refine go_onP (motive := fun W => Code.wp _ _ _ _ W) (Q := fun W => Row W w.heap.size (tly k u true false false) 33 ∧ Row W w1.heap.size (cpc (PR k)) 31 ∧ Row W w3.heap.size (cpc (PR u)) 31 ∧ Row W w5.heap.size (cpc { (PR k) with s := upd (upd (PR k).s 10 ((PR k).s 10 + 1#64)) 11 ((PR k).s 11 + 1#64) }) 31 ∧ Row W W6.heap.size (cpc (PR k)) 31 ∧ Below w.heap.size w W) ⟨G0.out.old G0.out.lt _, G3.out.old G3.out.lt _, G4.out.old G4.out.lt _, G5.out.old G5.out.lt _, Row.new W6 (cpc (PR k)) 31, BB.out.alloc BB.out.size _⟩ ?_
  have NE : Hid (w.heap.size < w1.heap.size ∧ w1.heap.size < w3.heap.size ∧ w3.heap.size < w5.heap.size ∧ w5.heap.size < W6.heap.size) := ⟨N1.out, N3.out, N5.out, G5.out.lt⟩
  clear G0 G3 G4 G5 BB N1 N3 N5
  rintro W7 ⟨q0, q1, q2, q3, q4, c0⟩
  have G5 : Hid (Row W7 w5.heap.size (cpc { (PR k) with s := upd (upd (PR k).s 10 ((PR k).s 10 + 1#64)) 11 ((PR k).s 11 + 1#64) }) 31) := q3
  have G6 : Hid (Row W7 W6.heap.size (cpc (PR k)) 31) := q4
  have BB : Hid (Below w.heap.size w W7) := c0
  obtain ⟨_, _, c1, c2, c3⟩ := q0.tly
  have K1 := q1.cls.s10
  have K2 := q1.cls.s11
  have K4 := q2.cls.s4
  have L1 := q4.cls.s10
  have L2 := q4.cls.s11
  have f6 := q4.froz
  have n1 : ¬ w1.heap.size = W6.heap.size := by have := NE.out; omega
  have n2 : ¬ W6.heap.size = w1.heap.size := by have := NE.out; omega
  have n3 : ¬ w.heap.size = W6.heap.size := by have := NE.out; omega
  have n4 : ¬ W6.heap.size = w.heap.size := by have := NE.out; omega
  have n5 : ¬ w3.heap.size = W6.heap.size := by have := NE.out; omega
  have n6 : ¬ W6.heap.size = w3.heap.size := by have := NE.out; omega
  clear q0 q1 q2 q3 q4 c0
  go_upto_region 9 with fail
  have Q6 := ((G6.out.put (i := 45) (.int .u64 (n64 ((PR k).s 10 + 1#64)))).put (i := 46) (.int .u64 (n64 ((PR k).s 11 + 1#64))))
  rw [cpc_s10, cpc_s11] at Q6
  refine go_onP (motive := fun W => Code.wp _ _ _ _ W) (Q := fun W => Row W w5.heap.size (cpc { (PR k) with s := upd (upd (PR k).s 10 ((PR k).s 10 + 1#64)) 11 ((PR k).s 11 + 1#64) }) 31 ∧ Row W W6.heap.size (cpc { (PR k) with s := upd (upd (PR k).s 10 ((PR k).s 10 + 1#64)) 11 ((PR k).s 11 + 1#64) }) 31 ∧ Below w.heap.size w W) ⟨(Row.other (Row.other G5.out (by have := NE.out; omega) _) (by have := NE.out; omega) _), Q6, (below_put (below_put BB.out (by have := NE.out; omega) _) (by have := NE.out; omega) _)⟩ ?_
  clear Q6 G5 G6 BB c1 c2 c3 K1 K2 K4 L1 L2 f6 n1 n2 n3 n4 n5 n6
  rintro W8 ⟨q3, q4, c0⟩
  have G5 : Hid (Row W8 w5.heap.size (cpc { (PR k) with s := upd (upd (PR k).s 10 ((PR k).s 10 + 1#64)) 11 ((PR k).s 11 + 1#64) }) 31) := q3
  have G6 : Hid (Row W8 W6.heap.size (cpc { (PR k) with s := upd (upd (PR k).s 10 ((PR k).s 10 + 1#64)) 11 ((PR k).s 11 + 1#64) }) 31) := q4
  have BB : Hid (Below w.heap.size w W8) := c0
  clear q3 q4 c0
  go_upto_region 10 with (first | (refine wpList_build_tab (by rfl) _ _ (by rfl) (cpc ctop) built_ctop ?_) | (refine wpList_build_tab (by rfl) _ _ (by rfl) (cpc cz) built_cz ?_) | (go_at_call 10; refine (HT.out _).mono ?_; rintro e w9 ⟨rfl, hb⟩; have Bw9 : Hid (Below W8.heap.size W8 w9) := hb; clear hb) | (refine wpList_store_last (by rfl) _ _ _ (by rfl) (by rfl) _ _ _ (by rfl) (by rfl) (by rfl) (info_cpu _) (by rw [cpc_size, cpc_size]) (cpc_ones _) ?_))
  refine go_onP (motive := fun W => Code.wp _ _ _ _ W) (Q := fun W => Row W w5.heap.size (cpc { (PR k) with s := upd (upd (PR k).s 10 ((PR k).s 10 + 1#64)) 11 ((PR k).s 11 + 1#64) }) 31 ∧ Row W W6.heap.size (cpc { (PR k) with s := upd (upd (PR k).s 10 ((PR k).s 10 + 1#64)) 11 ((PR k).s 11 + 1#64) }) 31 ∧ Row W w9.heap.size (cpc (CO ctop cz true false false)) 31 ∧ Below w.heap.size w W) ⟨G5.out.ca Bw9.out _, G6.out.ca Bw9.out _, Row.new w9 _ 31, below_ca BB.out Bw9.out BB.out.size _⟩ ?_
  clear G5 G6 BB Bw9 HT hz
  rintro Wa ⟨q3, q4, q5, c0⟩
  have G5 : Hid (Row Wa w5.heap.size (cpc { (PR k) with s := upd (upd (PR k).s 10 ((PR k).s 10 + 1#64)) 11 ((PR k).s 11 + 1#64) }) 31) := q3
  have G6 : Hid (Row Wa W6.heap.size (cpc { (PR k) with s := upd (upd (PR k).s 10 ((PR k).s 10 + 1#64)) 11 ((PR k).s 11 + 1#64) }) 31) := q4
  have BB : Hid (Below w.heap.size w Wa) := c0
  have T1 := q5.cls.s10
  have T2 := q5.cls.s11
  rw [CO_top.1] at T1
  rw [CO_top.2] at T2
  have T0 : n64 0#64 = 0 := rfl
  rw [T0] at T1 T2
  clear q3 q4 q5 c0 T0
  go_wp2_with (first | (refine wpList_load_row (by rfl) _ _ (by rfl) _ (by rfl) 31 _ (0, 0) _ G5.out Try.underlying31 (by rfl) (info_cpu _) ?_) | (refine wpList_load_row (by rfl) _ _ (by rfl) _ (by rfl) 31 _ (0, 0) _ G6.out Try.underlying31 (by rfl) (info_cpu _) ?_))
  go_ret
  exact ⟨rfl, BB.out⟩
end Go.Proofs.Ytnnkeodiacdmaaa
