/-
  Exists, Read, Write of the program.
-/
import Derived.Test.YtnnkeodiacdmaaaCsh
namespace Go.Proofs.Ytnnkeodiacdmaaa
set_option linter.unusedVariables false
set_option maxRecDepth 100000
open Go.ChangeShapes Go.WideShapes Go.ChangeAt Go.RowKit Go.Deep
theorem zero_st (w : World) : (zeroValue 58).run Try.prog w = .ok (.agg (stc cz 0#64 0#64)) w := by kernel_rfl
theorem info_st (k : Cp) (m t : BitVec 64) : (Try.prog.info? 58).map (·.size) = some (stc k m t).size := by rw [stc_size]; kernel_rfl
theorem built_st (k : Cp) (m t : BitVec 64) : Try.prog.built 58 [(0, .agg (cpc k)), (1, .int .u64 (n64 m)), (2, .int .u64 (n64 t))] = some (stc k m t) := by kernel_rfl
theorem built_st0 (k : Cp) : Try.prog.built 58 [(0, .agg (cpc k))] = some (stc k 0#64 0#64) := by kernel_rfl
theorem wpList_build_st {ops : Array Oper} {rest : List Oper} {o : Oper} {a : Act} {w : World} {Q : Exit → Act → World → Prop} (hgd : o.guard = none) (x y z : Operand) (ho : o.op = .build 58 #[(0, x), (1, y), (2, z)]) (k : Cp) (m t : BitVec 64)
    (hx : a.eval x = .agg (cpc k)) (hy : a.eval y = .int .u64 (n64 m)) (hz : a.eval z = .int .u64 (n64 t)) (h : wpList Try.prog ops Q rest (a.put o.dst (.agg (stc k m t))) w) : wpList Try.prog ops Q (o :: rest) a w := by
  refine wpList_build_tab hgd 58 _ ho (stc k m t) ?_ h
  rw [show (#[(0, x), (1, y), (2, z)].map fun (i, u) => (i, a.eval u)).toList = [(0, a.eval x), (1, a.eval y), (2, a.eval z)] by simp, hx, hy, hz]
  exact built_st k m t
theorem wpList_build_st0 {ops : Array Oper} {rest : List Oper} {o : Oper} {a : Act} {w : World} {Q : Exit → Act → World → Prop} (hgd : o.guard = none) (x : Operand) (ho : o.op = .build 58 #[(0, x)]) (k : Cp)
    (hx : a.eval x = .agg (cpc k)) (h : wpList Try.prog ops Q rest (a.put o.dst (.agg (stc k 0#64 0#64))) w) : wpList Try.prog ops Q (o :: rest) a w := by
  refine wpList_build_tab hgd 58 _ ho (stc k 0#64 0#64) ?_ h
  rw [show (#[(0, x)].map fun (i, u) => (i, a.eval u)).toList = [(0, a.eval x)] by simp, hx]
  exact built_st0 k
theorem wf_of {n : Int} (h : I64 n) : (Lit.int .i64 n).wf = true := WalkArith.wf_i64 h
/-- The table asked, by whether there is such a register. -/
theorem Mq.asked {g b N : Nat} {k : Cp} {m t : BitVec 64} {w : World} (h : Mq (RT g k m t) b N w) (n : Int) (hi : I64 n) {r q : Nat} {x : Value} (hr : RT g k m t n = some (rgv r q x)) :
    (Instr.lookup 64 (.map (some b)) (.int .i64 n) true).run Try.prog w = .ok (.tuple #[.agg #[.func (.func r) #[x] #[], .func (.func q) #[x] #[]], .bool true]) w := by
  have := h.look n (wf_of hi)
  rw [hr] at this
  exact this
theorem Mq.askno {g b N : Nat} {k : Cp} {m t : BitVec 64} {w : World} (h : Mq (RT g k m t) b N w) (n : Int) (hi : I64 n) (hr : RT g k m t n = none) :
    (Instr.lookup 64 (.map (some b)) (.int .i64 n) true).run Try.prog w = .ok (.tuple #[.agg #[.nilFunc, .nilFunc], .bool false]) w := by
  have := h.look n (wf_of hi)
  rw [hr] at this
  exact this
theorem mo_in {n : Int} (hx : EX n = true) : mo n = if wi n 3072 3103 = true then 0 else 3 := by
  have h := EX_in n hx
  unfold mo
  rw [and3 _ (by omega) (by omega)]
  cases hw : wi n 3072 3103 with
  | true => rw [if_pos rfl]; exact h.2.2.1 hw
  | false => rw [if_neg (by decide)]; exact h.2.2.2 hw
theorem RK_eq (k : Cp) (n : Int) : RK k n = (EX n && mr (PR k) n) := by
  unfold RK
  cases hx : EX n with
  | false => rfl
  | true =>
    rw [Bool.true_and, Bool.true_and]
    unfold mr cn
    rw [mo_in hx]
    rcases PR_md k with e | e <;> rw [e] <;> cases wi n 3072 3103 <;> simp
theorem WK_eq (k : Cp) (n : Int) : WK k n = (EX n && mw (PR k) n) := by
  unfold WK
  cases hx : EX n with
  | false => rfl
  | true =>
    rw [Bool.true_and, Bool.true_and]
    unfold mw ki
    have h := EX_in n hx
    have h2 := EX_hi n hx
    rw [mo_in hx, and3 (n / 1024) (by omega) (by omega)]
    by_cases h3 : n < 3072
    · have h4 := h2.1 h3
      rw [h4.2]
      have h5 : (n / 1024 % 4 == 3) = false := by simp [h4.1]
      rw [h5]
      rcases PR_md k with e | e <;> rw [e] <;> simp [h3]
    · have h4 := h2.2 h3
      have h5 : (n / 1024 % 4 == 3) = true := by simp [h4]
      rw [h5]
      simp [h3]
set_option maxRecDepth 100000 in
set_option maxHeartbeats 1000000 in
theorem Exists_y (n : Int) (hi : I64 n) (hx : EX n = true) (w : World) : Calls Try.prog 13 #[.int .i64 n] w fun e w' => e = .returned (.bool true) ∧ Below w.heap.size w w' := by
  have hz := zero_st
  have hz2 : ∀ w, (zeroValue 62).run Try.prog w = .ok (.agg #[.nilFunc, .nilFunc]) w := rgZero
  obtain ⟨W0, hW0, r0, b0, s0⟩ := start1 w (stc cz 0#64 0#64) 58
  have HS : Hid (Sr W0 w.heap.size cz 0#64 0#64) := r0.out
  obtain ⟨r, q, x, hrt⟩ : ∃ r q x, RT w.heap.size cz 0#64 0#64 n = some (rgv r q x) := by
    exact RT_there _ _ _ _ n hx
  have HRT : Hid (RT w.heap.size cz 0#64 0#64 n = some (rgv r q x)) := hrt
  clear hrt
  have HI : Hid (I64 n) := hi
  have HL : Hid (w.heap.size ≤ W0.heap.size) := b0.out.size
  clear r0 s0 hx hi
  go_enter Try.func13, Try.ntmps13
  go_upto_region 2 with fail
  clear hW0 hz
  go_wp2_with (go_at_call 23; refine (registers_c _ _ _ _ _ HS.out).mono ?_; rintro e u2 ⟨b, rfl, hm, hs, hb⟩; have hl := hm.asked n HI.out HRT.out; have HB2 : Hid (Below W0.heap.size W0 u2) := hb; clear hm hs hb)
  go_ret
  exact ⟨rfl, b0.out.trans ((HB2.out.alloc HB2.out.size _).mono HL.out)⟩
set_option maxRecDepth 100000 in
set_option maxHeartbeats 1000000 in
theorem Exists_n (n : Int) (hi : I64 n) (hx : EX n = false) (w : World) : Calls Try.prog 13 #[.int .i64 n] w fun e w' => e = .returned (.bool false) ∧ Below w.heap.size w w' := by
  have hz := zero_st
  have hz2 : ∀ w, (zeroValue 62).run Try.prog w = .ok (.agg #[.nilFunc, .nilFunc]) w := rgZero
  obtain ⟨W0, hW0, r0, b0, s0⟩ := start1 w (stc cz 0#64 0#64) 58
  have HS : Hid (Sr W0 w.heap.size cz 0#64 0#64) := r0.out
  have HRT : Hid (RT w.heap.size cz 0#64 0#64 n = none) := RT_none _ _ _ _ n hx
  have HI : Hid (I64 n) := hi
  have HL : Hid (w.heap.size ≤ W0.heap.size) := b0.out.size
  clear r0 s0 hx hi
  go_enter Try.func13, Try.ntmps13
  go_upto_region 2 with fail
  clear hW0 hz
  go_wp2_with (go_at_call 23; refine (registers_c _ _ _ _ _ HS.out).mono ?_; rintro e u2 ⟨b, rfl, hm, hs, hb⟩; have hl := hm.askno n HI.out HRT.out; have HB2 : Hid (Below W0.heap.size W0 u2) := hb; clear hm hs hb)
  go_ret
  exact ⟨rfl, b0.out.trans ((HB2.out.alloc HB2.out.size _).mono HL.out)⟩
theorem Exists_c : CEx := fun n hi W => by
  cases hx : EX n with
  | true => exact Exists_y n hi hx W
  | false => exact Exists_n n hi hx W
set_option maxRecDepth 100000 in
set_option maxHeartbeats 2000000 in
theorem Read_a (k : Cp) (m t : BitVec 64) (n : Int) (hi : I64 n) (hm : mr (PR k) n = false) (w : World) : Calls Try.prog 17 #[.agg (cpc k), .int .u64 (n64 m), .int .u64 (n64 t), .int .i64 n] w fun e w' => e = .returned (.tuple #[.int .u64 0, .bool false]) ∧ Below w.heap.size w w' := by
  have hz := zero_st
  have hz2 : ∀ w, (zeroValue 62).run Try.prog w = .ok (.agg #[.nilFunc, .nilFunc]) w := rgZero
  obtain ⟨W0, hW0, r0, b0, s0⟩ := start1 w (cpc k) 31
  have HM : Hid (mr (PR k) n = false) := hm
  have HI : Hid (I64 n) := hi
  clear hm hi s0
  go_enter Try.func17, Try.ntmps17
  go_upto_region 1 with fail
  clear hW0
  go_upto_region 2 with (first | (refine wpList_load_row (by rfl) _ _ (by rfl) _ (by rfl) 31 _ (0, 0) _ r0.out Try.underlying31 (by rfl) (info_cpu _) ?_) | (go_at_call 9; refine (Pr_c k _).mono ?_; rintro e w1 ⟨rfl, hb1⟩; have HB1 : Hid (Below W0.heap.size W0 w1) := hb1; clear hb1) | (refine wpList_build_st (by rfl) _ _ _ (by rfl) (PR k) m t (by rfl) (by rfl) (by rfl) ?_) | (refine wpList_store_last (by rfl) _ _ _ (by rfl) (by rfl) w1 (stc cz 0#64 0#64) (stc (PR k) m t) (by rfl) (by rfl) (by rfl) (info_st _ _ _) (by rw [stc_size, stc_size]) (stc_ones _ _ _) ?_))
  refine go_onP (motive := fun W => Code.wp _ _ _ _ W) (Q := fun W => Sr W w1.heap.size (PR k) m t ∧ Below w.heap.size w W) ⟨Row.new w1 (stc (PR k) m t) 58, (b0.out.trans (HB1.out.mono b0.out.size)).alloc (Nat.le_trans b0.out.size HB1.out.size) _⟩ ?_
  clear r0 b0 HB1 hz
  generalize w1.heap.size = g
  rintro W2 ⟨q1, q2⟩
  have HS0 : Hid (Sr W2 g (PR k) m t) := q1
  have BB : Hid (Below w.heap.size w W2) := q2
  clear q1 q2
  go_wp2_with (go_at_call 26; refine (mayRead_c g (PR k) m t n HI.out W2 HS0.out).mono ?_; rw [HM.out]; rintro e u1 ⟨rfl, hb⟩; have HB1 : Hid (Below W2.heap.size W2 u1) := hb; clear hb)
  go_ret2
  exact ⟨rfl, BB.out.trans (HB1.out.mono BB.out.size)⟩
set_option maxRecDepth 100000 in
set_option maxHeartbeats 2000000 in
theorem Read_b (k : Cp) (m t : BitVec 64) (n : Int) (hi : I64 n) (hm : mr (PR k) n = true) (hx : EX n = false) (w : World) : Calls Try.prog 17 #[.agg (cpc k), .int .u64 (n64 m), .int .u64 (n64 t), .int .i64 n] w fun e w' => e = .returned (.tuple #[.int .u64 0, .bool false]) ∧ Below w.heap.size w w' := by
  have hz := zero_st
  have hz2 : ∀ w, (zeroValue 62).run Try.prog w = .ok (.agg #[.nilFunc, .nilFunc]) w := rgZero
  obtain ⟨W0, hW0, r0, b0, s0⟩ := start1 w (cpc k) 31
  have HM : Hid (mr (PR k) n = true) := hm
  have HI : Hid (I64 n) := hi
  have HX : Hid (EX n = false) := hx
  clear hm hi hx s0
  go_enter Try.func17, Try.ntmps17
  go_upto_region 1 with fail
  clear hW0
  go_upto_region 2 with (first | (refine wpList_load_row (by rfl) _ _ (by rfl) _ (by rfl) 31 _ (0, 0) _ r0.out Try.underlying31 (by rfl) (info_cpu _) ?_) | (go_at_call 9; refine (Pr_c k _).mono ?_; rintro e w1 ⟨rfl, hb1⟩; have HB1 : Hid (Below W0.heap.size W0 w1) := hb1; clear hb1) | (refine wpList_build_st (by rfl) _ _ _ (by rfl) (PR k) m t (by rfl) (by rfl) (by rfl) ?_) | (refine wpList_store_last (by rfl) _ _ _ (by rfl) (by rfl) w1 (stc cz 0#64 0#64) (stc (PR k) m t) (by rfl) (by rfl) (by rfl) (info_st _ _ _) (by rw [stc_size, stc_size]) (stc_ones _ _ _) ?_))
  refine go_onP (motive := fun W => Code.wp _ _ _ _ W) (Q := fun W => Sr W w1.heap.size (PR k) m t ∧ Below w.heap.size w W) ⟨Row.new w1 (stc (PR k) m t) 58, (b0.out.trans (HB1.out.mono b0.out.size)).alloc (Nat.le_trans b0.out.size HB1.out.size) _⟩ ?_
  clear r0 b0 HB1 hz
  generalize w1.heap.size = g
  rintro W2 ⟨q1, q2⟩
  have HS0 : Hid (Sr W2 g (PR k) m t) := q1
  have BB : Hid (Below w.heap.size w W2) := q2
  clear q1 q2
  go_upto_region 4 with (go_at_call 26; refine (mayRead_c g (PR k) m t n HI.out W2 HS0.out).mono ?_; rw [HM.out]; rintro e u1 ⟨rfl, hb⟩; have HB1 : Hid (Below W2.heap.size W2 u1) := hb; clear hb)
  have HS : Hid (Sr u1 g (PR k) m t) := HS0.out.later HB1.out HS0.out.lt
  have B1 : Hid (Below w.heap.size w u1) := BB.out.trans (HB1.out.mono BB.out.size)
  clear HS0 BB HB1 HM
  have HRT : Hid (RT g (PR k) m t n = none) := RT_none _ _ _ _ n HX.out
  go_wp2_with (go_at_call 23; refine (registers_c _ _ _ _ _ HS.out).mono ?_; rintro e u2 ⟨b, rfl, hm, hs, hb⟩; have hl := hm.askno n HI.out HRT.out; have HB2 : Hid (Below u1.heap.size u1 u2) := hb; clear hm hs hb)
  go_ret2
  exact ⟨rfl, (B1.out.trans (HB2.out.mono B1.out.size)).alloc (Nat.le_trans B1.out.size HB2.out.size) _⟩
set_option maxRecDepth 100000 in
set_option maxHeartbeats 2000000 in
theorem Read_y (k : Cp) (m t : BitVec 64) (n : Int) (hi : I64 n) (hm : mr (PR k) n = true) (hx : EX n = true) (w : World) : Calls Try.prog 17 #[.agg (cpc k), .int .u64 (n64 m), .int .u64 (n64 t), .int .i64 n] w fun e w' => e = .returned (.tuple #[.int .u64 (TO (PR k) m t n), .bool true]) ∧ Below w.heap.size w w' := by
  have hz := zero_st
  have hz2 : ∀ w, (zeroValue 62).run Try.prog w = .ok (.agg #[.nilFunc, .nilFunc]) w := rgZero
  obtain ⟨W0, hW0, r0, b0, s0⟩ := start1 w (cpc k) 31
  have HM : Hid (mr (PR k) n = true) := hm
  have HI : Hid (I64 n) := hi
  have HX : Hid (∀ g, Rgd g (PR k) m t n) := fun g => rgd_all g (PR k) m t (PR_PR k) n hx
  obtain ⟨z, hzz⟩ : ∃ z, z = TO (PR k) m t n := ⟨_, rfl⟩
  have HZ : Hid (z = TO (PR k) m t n) := hzz
  rw [← hzz]
  clear hzz
  clear hm hi hx s0
  go_enter Try.func17, Try.ntmps17
  go_upto_region 1 with fail
  clear hW0
  go_upto_region 2 with (first | (refine wpList_load_row (by rfl) _ _ (by rfl) _ (by rfl) 31 _ (0, 0) _ r0.out Try.underlying31 (by rfl) (info_cpu _) ?_) | (go_at_call 9; refine (Pr_c k _).mono ?_; rintro e w1 ⟨rfl, hb1⟩; have HB1 : Hid (Below W0.heap.size W0 w1) := hb1; clear hb1) | (refine wpList_build_st (by rfl) _ _ _ (by rfl) (PR k) m t (by rfl) (by rfl) (by rfl) ?_) | (refine wpList_store_last (by rfl) _ _ _ (by rfl) (by rfl) w1 (stc cz 0#64 0#64) (stc (PR k) m t) (by rfl) (by rfl) (by rfl) (info_st _ _ _) (by rw [stc_size, stc_size]) (stc_ones _ _ _) ?_))
  refine go_onP (motive := fun W => Code.wp _ _ _ _ W) (Q := fun W => Sr W w1.heap.size (PR k) m t ∧ Below w.heap.size w W) ⟨Row.new w1 (stc (PR k) m t) 58, (b0.out.trans (HB1.out.mono b0.out.size)).alloc (Nat.le_trans b0.out.size HB1.out.size) _⟩ ?_
  clear r0 b0 HB1 hz
  generalize w1.heap.size = g
  rintro W2 ⟨q1, q2⟩
  have HS0 : Hid (Sr W2 g (PR k) m t) := q1
  have BB : Hid (Below w.heap.size w W2) := q2
  clear q1 q2
  go_upto_region 4 with (go_at_call 26; refine (mayRead_c g (PR k) m t n HI.out W2 HS0.out).mono ?_; rw [HM.out]; rintro e u1 ⟨rfl, hb⟩; have HB1 : Hid (Below W2.heap.size W2 u1) := hb; clear hb)
  have HS : Hid (Sr u1 g (PR k) m t) := HS0.out.later HB1.out HS0.out.lt
  have B1 : Hid (Below w.heap.size w u1) := BB.out.trans (HB1.out.mono BB.out.size)
  clear HS0 BB HB1 HM
  obtain ⟨r, q, x, hrt, hcr, hcq, hrd, hwr⟩ := HX.out g
  have HRT : Hid (RT g (PR k) m t n = some (rgv r q x)) := hrt
  have HRD : Hid (∀ W, Sr W g (PR k) m t → Calls Try.prog r #[x] W fun e w' => e = .returned (.int .u64 z) ∧ Below W.heap.size W w') := fun W h => by rw [HZ.out]; exact hrd W h
  clear hrt hrd hwr hcq HX HZ
  go_upto_region 5 with (go_at_call 23; refine (registers_c _ _ _ _ _ HS.out).mono ?_; rintro e u2 ⟨b, rfl, hm, hs, hb⟩; have hl := hm.asked n HI.out HRT.out; have HS2 : Hid (Sr u2 g (PR k) m t) := hs; have HB2 : Hid (Below u1.heap.size u1 u2) := hb; clear hm hs hb)
  clear hl
  go_wp2_with fail
  refine (HRD.out _ (HS2.out.old _)).mono ?_
  rintro e u3 ⟨rfl, hb⟩
  have HB3 : Hid (Below _ _ u3) := hb
  clear hb
  go_wp2
  go_ret2
  exact ⟨rfl, ((B1.out.trans (HB2.out.mono B1.out.size)).alloc (Nat.le_trans B1.out.size HB2.out.size) _).trans (HB3.out.mono (by simp; have := B1.out.size; have := HB2.out.size; omega))⟩
theorem Read_c : CRd := fun k m t n hi W => by
  have e := RK_eq k n
  unfold RD
  cases hm : mr (PR k) n with
  | false =>
    rw [hm, Bool.and_false] at e
    rw [e, if_neg (by decide)]
    exact Read_a k m t n hi hm W
  | true =>
    rw [hm, Bool.and_true] at e
    rw [e]
    cases hx : EX n with
    | false => rw [if_neg (by decide)]; exact Read_b k m t n hi hm hx W
    | true => rw [if_pos rfl]; exact Read_y k m t n hi hm hx W
set_option maxRecDepth 100000 in
set_option maxHeartbeats 2000000 in
theorem Write_a (k : Cp) (n : Int) (v : BitVec 64) (hi : I64 n) (hm : mw (PR k) n = false) (w : World) : Calls Try.prog 15 #[.agg (cpc k), .int .i64 n, .int .u64 (n64 v)] w fun e w' => e = .returned (.tuple #[.agg (cpc (PR k)), .bool false]) ∧ Below w.heap.size w w' := by
  have hz := zero_st
  have hzc := zero_cpu
  have hz2 : ∀ w, (zeroValue 62).run Try.prog w = .ok (.agg #[.nilFunc, .nilFunc]) w := rgZero
  obtain ⟨W0, hW0, r0, r6, b0, s0⟩ := start2 w (cpc k) (cpc cz) 31 31
  have HM : Hid (mw (PR k) n = false) := hm
  have HI : Hid (I64 n) := hi
  clear hm hi s0
  go_enter Try.func15, Try.ntmps15
  go_upto_region 1 with fail
  clear hW0 hzc
  go_upto_region 2 with (first | (refine wpList_load_row (by rfl) _ _ (by rfl) _ (by rfl) 31 _ (0, 0) _ r0.out Try.underlying31 (by rfl) (info_cpu _) ?_) | (go_at_call 9; refine (Pr_c k _).mono ?_; rintro e w1 ⟨rfl, hb1⟩; have HB1 : Hid (Below W0.heap.size W0 w1) := hb1; clear hb1) | (refine wpList_build_st0 (by rfl) _ (by rfl) (PR k) (by rfl) ?_) | (refine wpList_store_last (by rfl) _ _ _ (by rfl) (by rfl) w1 (stc cz 0#64 0#64) (stc (PR k) 0#64 0#64) (by rfl) (by rfl) (by rfl) (info_st _ _ _) (by rw [stc_size, stc_size]) (stc_ones _ _ _) ?_))
  refine go_onP (motive := fun W => Code.wp _ _ _ _ W) (Q := fun W => Sr W w1.heap.size (PR k) 0#64 0#64 ∧ Row W (w.heap.size + 1) (cpc cz) 31 ∧ Below w.heap.size w W ∧ w.heap.size + 1 < w1.heap.size) ⟨Row.new w1 (stc (PR k) 0#64 0#64) 58, r6.out.ca HB1.out _, (b0.out.trans (HB1.out.mono b0.out.size)).alloc (Nat.le_trans b0.out.size HB1.out.size) _, Nat.lt_of_lt_of_le r6.out.lt HB1.out.size⟩ ?_
  clear r0 r6 b0 HB1 hz
  generalize w1.heap.size = g
  rintro W2 ⟨q1, q3, q2, q4⟩
  have HS0 : Hid (Sr W2 g (PR k) 0#64 0#64) := q1
  have R60 : Hid (Row W2 (w.heap.size + 1) (cpc cz) 31) := q3
  have BB : Hid (Below w.heap.size w W2) := q2
  have HG : Hid (w.heap.size + 1 < g) := q4
  clear q1 q2 q3 q4
  go_upto_region 3 with (go_at_call 25; refine (mayWrite_c g (PR k) 0#64 0#64 n W2 HS0.out).mono ?_; rw [HM.out]; rintro e u1 ⟨rfl, hb⟩; have HB1 : Hid (Below W2.heap.size W2 u1) := hb; clear hb)
  have HS : Hid (Sr u1 g (PR k) 0#64 0#64) := HS0.out.later HB1.out HS0.out.lt
  have R6 : Hid (Row u1 (w.heap.size + 1) (cpc cz) 31) := R60.out.cb HB1.out
  have B1 : Hid (Below w.heap.size w u1) := BB.out.trans (HB1.out.mono BB.out.size)
  clear HS0 R60 BB HB1 HM
  go_wp2_with (first | (refine wpList_load_agg (by rfl) 31 _ (by rfl) g 0 (by rfl) (cpc (PR k)) _ (Row.stc HS.out).1.agg Try.underlying31 (by rfl) (info_cpu _) ?_) | (refine wpList_store_row (by rfl) _ _ _ (by rfl) (by rfl) _ _ _ (by rfl) (by rfl) R6.out (info_cpu _) (by rw [cpc_size, cpc_size]) (cpc_ones _) ?_))
  refine bodyPost_ret (results_row_slot Try.results15 _ _ (w.heap.size + 1) 31 _ (0, 0) _ _ (by rfl) (by rfl) (setRow_heap _ _ _ _ _ _ R6.out) Try.underlying31 (by rfl) (info_cpu _)) rfl ?_
  exact ⟨rfl, below_row B1.out (by omega) _⟩
set_option maxRecDepth 100000 in
set_option maxHeartbeats 2000000 in
theorem Write_b (k : Cp) (n : Int) (v : BitVec 64) (hi : I64 n) (hm : mw (PR k) n = true) (hx : EX n = false) (w : World) : Calls Try.prog 15 #[.agg (cpc k), .int .i64 n, .int .u64 (n64 v)] w fun e w' => e = .returned (.tuple #[.agg (cpc (PR k)), .bool false]) ∧ Below w.heap.size w w' := by
  have hz := zero_st
  have hzc := zero_cpu
  have hz2 : ∀ w, (zeroValue 62).run Try.prog w = .ok (.agg #[.nilFunc, .nilFunc]) w := rgZero
  obtain ⟨W0, hW0, r0, r6, b0, s0⟩ := start2 w (cpc k) (cpc cz) 31 31
  have HM : Hid (mw (PR k) n = true) := hm
  have HI : Hid (I64 n) := hi
  have HX : Hid (EX n = false) := hx
  clear hm hi hx s0
  go_enter Try.func15, Try.ntmps15
  go_upto_region 1 with fail
  clear hW0 hzc
  go_upto_region 2 with (first | (refine wpList_load_row (by rfl) _ _ (by rfl) _ (by rfl) 31 _ (0, 0) _ r0.out Try.underlying31 (by rfl) (info_cpu _) ?_) | (go_at_call 9; refine (Pr_c k _).mono ?_; rintro e w1 ⟨rfl, hb1⟩; have HB1 : Hid (Below W0.heap.size W0 w1) := hb1; clear hb1) | (refine wpList_build_st0 (by rfl) _ (by rfl) (PR k) (by rfl) ?_) | (refine wpList_store_last (by rfl) _ _ _ (by rfl) (by rfl) w1 (stc cz 0#64 0#64) (stc (PR k) 0#64 0#64) (by rfl) (by rfl) (by rfl) (info_st _ _ _) (by rw [stc_size, stc_size]) (stc_ones _ _ _) ?_))
  refine go_onP (motive := fun W => Code.wp _ _ _ _ W) (Q := fun W => Sr W w1.heap.size (PR k) 0#64 0#64 ∧ Row W (w.heap.size + 1) (cpc cz) 31 ∧ Below w.heap.size w W ∧ w.heap.size + 1 < w1.heap.size) ⟨Row.new w1 (stc (PR k) 0#64 0#64) 58, r6.out.ca HB1.out _, (b0.out.trans (HB1.out.mono b0.out.size)).alloc (Nat.le_trans b0.out.size HB1.out.size) _, Nat.lt_of_lt_of_le r6.out.lt HB1.out.size⟩ ?_
  clear r0 r6 b0 HB1 hz
  generalize w1.heap.size = g
  rintro W2 ⟨q1, q3, q2, q4⟩
  have HS0 : Hid (Sr W2 g (PR k) 0#64 0#64) := q1
  have R60 : Hid (Row W2 (w.heap.size + 1) (cpc cz) 31) := q3
  have BB : Hid (Below w.heap.size w W2) := q2
  have HG : Hid (w.heap.size + 1 < g) := q4
  clear q1 q2 q3 q4
  go_upto_region 4 with (go_at_call 25; refine (mayWrite_c g (PR k) 0#64 0#64 n W2 HS0.out).mono ?_; rw [HM.out]; rintro e u1 ⟨rfl, hb⟩; have HB1 : Hid (Below W2.heap.size W2 u1) := hb; clear hb)
  have HS : Hid (Sr u1 g (PR k) 0#64 0#64) := HS0.out.later HB1.out HS0.out.lt
  have R6 : Hid (Row u1 (w.heap.size + 1) (cpc cz) 31) := R60.out.cb HB1.out
  have B1 : Hid (Below w.heap.size w u1) := BB.out.trans (HB1.out.mono BB.out.size)
  clear HS0 R60 BB HB1 HM
  have HRT : Hid (RT g (PR k) 0#64 0#64 n = none) := RT_none _ _ _ _ n HX.out
  go_upto_region 5 with (go_at_call 23; refine (registers_c _ _ _ _ _ HS.out).mono ?_; rintro e u2 ⟨b, rfl, hm, hs, hb⟩; have hl := hm.askno n HI.out HRT.out; have HS2 : Hid (Sr u2 g (PR k) 0#64 0#64) := hs; have HB2 : Hid (Below u1.heap.size u1 u2) := hb; clear hm hs hb)
  clear hl
  refine go_onP (motive := fun W => Code.wp _ _ _ _ W) (Q := fun W => Sr W g (PR k) 0#64 0#64 ∧ Row W (w.heap.size + 1) (cpc cz) 31 ∧ Below w.heap.size w W) ⟨HS2.out.old _, R6.out.ca HB2.out _, (B1.out.trans (HB2.out.mono B1.out.size)).alloc (Nat.le_trans B1.out.size HB2.out.size) _⟩ ?_
  clear HS R6 B1 HS2 HB2
  rintro W3 ⟨q1, q2, q3⟩
  have HS3 : Hid (Sr W3 g (PR k) 0#64 0#64) := q1
  have R63 : Hid (Row W3 (w.heap.size + 1) (cpc cz) 31) := q2
  have B3 : Hid (Below w.heap.size w W3) := q3
  clear q1 q2 q3
  go_wp2_with (first | (refine wpList_load_agg (by rfl) 31 _ (by rfl) g 0 (by rfl) (cpc (PR k)) _ (Row.stc HS3.out).1.agg Try.underlying31 (by rfl) (info_cpu _) ?_) | (refine wpList_store_row (by rfl) _ _ _ (by rfl) (by rfl) _ _ _ (by rfl) (by rfl) R63.out (info_cpu _) (by rw [cpc_size, cpc_size]) (cpc_ones _) ?_))
  refine bodyPost_ret (results_row_slot Try.results15 _ _ (w.heap.size + 1) 31 _ (0, 0) _ _ (by rfl) (by rfl) (setRow_heap _ _ _ _ _ _ R63.out) Try.underlying31 (by rfl) (info_cpu _)) rfl ?_
  exact ⟨rfl, below_row B3.out (by omega) _⟩
set_option maxRecDepth 100000 in
set_option maxHeartbeats 2000000 in
theorem Write_y (k : Cp) (n : Int) (v : BitVec 64) (hi : I64 n) (hm : mw (PR k) n = true) (hx : EX n = true) (w : World) : Calls Try.prog 15 #[.agg (cpc k), .int .i64 n, .int .u64 (n64 v)] w fun e w' => e = .returned (.tuple #[.agg (cpc (PR (KW (PR k) n v))), .bool true]) ∧ Below w.heap.size w w' := by
  have hz := zero_st
  have hzc := zero_cpu
  have hz2 : ∀ w, (zeroValue 62).run Try.prog w = .ok (.agg #[.nilFunc, .nilFunc]) w := rgZero
  obtain ⟨W0, hW0, r0, r6, b0, s0⟩ := start2 w (cpc k) (cpc cz) 31 31
  have HM : Hid (mw (PR k) n = true) := hm
  have HI : Hid (I64 n) := hi
  have HX : Hid (∀ g, Rgd g (PR k) 0#64 0#64 n) := fun g => rgd_all g (PR k) 0#64 0#64 (PR_PR k) n hx
  clear hm hi hx s0
  go_enter Try.func15, Try.ntmps15
  go_upto_region 1 with fail
  clear hW0 hzc
  go_upto_region 2 with (first | (refine wpList_load_row (by rfl) _ _ (by rfl) _ (by rfl) 31 _ (0, 0) _ r0.out Try.underlying31 (by rfl) (info_cpu _) ?_) | (go_at_call 9; refine (Pr_c k _).mono ?_; rintro e w1 ⟨rfl, hb1⟩; have HB1 : Hid (Below W0.heap.size W0 w1) := hb1; clear hb1) | (refine wpList_build_st0 (by rfl) _ (by rfl) (PR k) (by rfl) ?_) | (refine wpList_store_last (by rfl) _ _ _ (by rfl) (by rfl) w1 (stc cz 0#64 0#64) (stc (PR k) 0#64 0#64) (by rfl) (by rfl) (by rfl) (info_st _ _ _) (by rw [stc_size, stc_size]) (stc_ones _ _ _) ?_))
  refine go_onP (motive := fun W => Code.wp _ _ _ _ W) (Q := fun W => Sr W w1.heap.size (PR k) 0#64 0#64 ∧ Row W (w.heap.size + 1) (cpc cz) 31 ∧ Below w.heap.size w W ∧ w.heap.size + 1 < w1.heap.size) ⟨Row.new w1 (stc (PR k) 0#64 0#64) 58, r6.out.ca HB1.out _, (b0.out.trans (HB1.out.mono b0.out.size)).alloc (Nat.le_trans b0.out.size HB1.out.size) _, Nat.lt_of_lt_of_le r6.out.lt HB1.out.size⟩ ?_
  clear r0 r6 b0 HB1 hz
  generalize w1.heap.size = g
  rintro W2 ⟨q1, q3, q2, q4⟩
  have HS0 : Hid (Sr W2 g (PR k) 0#64 0#64) := q1
  have R60 : Hid (Row W2 (w.heap.size + 1) (cpc cz) 31) := q3
  have BB : Hid (Below w.heap.size w W2) := q2
  have HG : Hid (w.heap.size + 1 < g) := q4
  clear q1 q2 q3 q4
  go_upto_region 4 with (go_at_call 25; refine (mayWrite_c g (PR k) 0#64 0#64 n W2 HS0.out).mono ?_; rw [HM.out]; rintro e u1 ⟨rfl, hb⟩; have HB1 : Hid (Below W2.heap.size W2 u1) := hb; clear hb)
  have HS : Hid (Sr u1 g (PR k) 0#64 0#64) := HS0.out.later HB1.out HS0.out.lt
  have R6 : Hid (Row u1 (w.heap.size + 1) (cpc cz) 31) := R60.out.cb HB1.out
  have B1 : Hid (Below w.heap.size w u1) := BB.out.trans (HB1.out.mono BB.out.size)
  clear HS0 R60 BB HB1 HM
  obtain ⟨r, q, x, hrt, hcr, hcq, hrd, hwr⟩ := HX.out g
  have HRT : Hid (RT g (PR k) 0#64 0#64 n = some (rgv r q x)) := hrt
  have HWR : Hid (∀ W, Sr W g (PR k) 0#64 0#64 → Calls Try.prog q #[x, .int .u64 (n64 v)] W fun e w' => e = .returned (.tuple #[]) ∧ Sr w' g (PR (KW (PR k) n v)) 0#64 0#64 ∧ Below g W w') := fun W h => hwr v W h
  clear hrt hrd hwr hcr HX
  go_upto_region 5 with (go_at_call 23; refine (registers_c _ _ _ _ _ HS.out).mono ?_; rintro e u2 ⟨b, rfl, hm, hs, hb⟩; have hl := hm.asked n HI.out HRT.out; have HS2 : Hid (Sr u2 g (PR k) 0#64 0#64) := hs; have HB2 : Hid (Below u1.heap.size u1 u2) := hb; clear hm hs hb)
  clear hl
  go_upto_region 8 with (refine (HWR.out _ (HS2.out.old _)).mono ?_; rintro e u3 ⟨rfl, hs3, hb3⟩; have HS3 : Hid (Sr u3 g (PR (KW (PR k) n v)) 0#64 0#64) := hs3; have HB3 : Hid (Below g _ u3) := hb3; clear hs3 hb3)
  have R63 : Hid (Row u3 (w.heap.size + 1) (cpc cz) 31) := Row.later (R6.out.ca HB2.out _) HB3.out HG.out
  have B3 : Hid (Below w.heap.size w u3) := ((B1.out.trans (HB2.out.mono B1.out.size)).alloc (Nat.le_trans B1.out.size HB2.out.size) _).trans (HB3.out.mono (by have := HG.out; omega))
  clear HS R6 B1 HS2 HB2 HB3 HWR
  go_wp2_with (first | (refine wpList_load_agg (by rfl) 31 _ (by rfl) g 0 (by rfl) (cpc (PR (KW (PR k) n v))) _ (Row.stc HS3.out).1.agg Try.underlying31 (by rfl) (info_cpu _) ?_) | (refine wpList_store_row (by rfl) _ _ _ (by rfl) (by rfl) _ _ _ (by rfl) (by rfl) R63.out (info_cpu _) (by rw [cpc_size, cpc_size]) (cpc_ones _) ?_))
  refine bodyPost_ret (results_row_slot Try.results15 _ _ (w.heap.size + 1) 31 _ (0, 0) _ _ (by rfl) (by rfl) (setRow_heap _ _ _ _ _ _ R63.out) Try.underlying31 (by rfl) (info_cpu _)) rfl ?_
  exact ⟨rfl, below_row B3.out (by omega) _⟩
theorem Write_c : CWr := fun k n v hi W => by
  have e := WK_eq k n
  unfold WR
  cases hm : mw (PR k) n with
  | false =>
    rw [hm, Bool.and_false] at e
    rw [e, if_neg (by decide)]
    exact Write_a k n v hi hm W
  | true =>
    rw [hm, Bool.and_true] at e
    rw [e]
    cases hx : EX n with
    | false => rw [if_neg (by decide)]; exact Write_b k n v hi hm hx W
    | true => rw [if_pos rfl]; exact Write_y k n v hi hm hx W
end Go.Proofs.Ytnnkeodiacdmaaa
