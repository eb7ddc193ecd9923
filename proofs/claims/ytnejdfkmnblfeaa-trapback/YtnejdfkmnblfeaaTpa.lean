/-
  Of the program: bits of mstatus put in, entered, returned, reasonOf, handler, first.
-/
import Derived.Test.YtnejdfkmnblfeaaTla
import Derived.Test.YtnejdfkmnblfeaaTmf
namespace Go.Proofs.Ytnejdfkmnblfeaa
set_option linter.unusedVariables false
open Go.ChangeShapes Go.WideShapes Go.ChangeAt Go.RowKit Go.Deep
theorem and_tp (v : BitVec 64) (n : Nat) (hn : n < 64) : v &&& tp n = if v.getLsbD n then tp n else 0#64 := by
  apply BitVec.eq_of_getLsbD_eq
  intro i hi
  rw [BitVec.getLsbD_and, tp_bit n i hn hi]
  by_cases h : i = n
  · subst h
    cases hv : v.getLsbD i
    · simp
    · simp [tp_bit i i hi hi]
  · cases hv : v.getLsbD n
    · simp [h]
    · simp [h, tp_bit n i hn hi]
theorem tp_pos (n : Nat) (hn : n < 64) : n64 (tp n) ≠ 0 := by
  intro h
  have h0 := n64_zero h
  have h1 := tp_bit n n hn hn
  rw [h0] at h1
  simp at h1
/-- Is a bit set? -/
theorem bit_ne (v : BitVec 64) (n : Nat) (hn : n < 64) : (n64 (v &&& tp n) != 0) = v.getLsbD n := by
  rw [and_tp v n hn]
  cases v.getLsbD n
  · rfl
  · rw [if_pos rfl]; simpa using tp_pos n hn
theorem bit_eq (v : BitVec 64) (n : Nat) (hn : n < 64) : (n64 (v &&& tp n) == 0) = !v.getLsbD n := by
  rw [← bit_ne v n hn, bne, Bool.not_not]
theorem m6144 : ∀ i, i < 64 → (6144#64).getLsbD i = (decide (i = 11) || decide (i = 12)) := by decide
/-- A word with MPP a mode. -/
theorem wB_0 (v : BitVec 64) : v &&& ~~~6144#64 ||| 0#64 <<< 11 &&& 6144#64 = wB v 0 := by
  rw [show (0#64 <<< 11 &&& 6144#64 : BitVec 64) = 0#64 by decide]
  apply BitVec.eq_of_getLsbD_eq
  intro i hi
  rw [wB_bit v 0 i hi, BitVec.getLsbD_or, BitVec.getLsbD_and, BitVec.getLsbD_not, m6144 i hi]
  by_cases h1 : i = 11
  · simp [h1]
  · by_cases h2 : i = 12
    · simp [h2]
    · simp [h1, h2, hi]
theorem wB_3 (v : BitVec 64) : v &&& ~~~6144#64 ||| 3#64 <<< 11 &&& 6144#64 = wB v 3 := by
  rw [show (3#64 <<< 11 &&& 6144#64 : BitVec 64) = 6144#64 by decide]
  apply BitVec.eq_of_getLsbD_eq
  intro i hi
  rw [wB_bit v 3 i hi, BitVec.getLsbD_or, BitVec.getLsbD_and, BitVec.getLsbD_not, m6144 i hi]
  by_cases h1 : i = 11
  · simp [h1]
  · by_cases h2 : i = 12
    · simp [h2]
    · simp [h1, h2, hi]
/-- MPP of a proper mstatus is a mode. -/
theorem bf_mp (v : BitVec 64) (h : v.getLsbD 11 = v.getLsbD 12) : n64 (bfB v) = mpB v := by
  have h0 : (v >>> 11 &&& 3#64).getLsbD 0 = v.getLsbD 11 := by rw [BitVec.getLsbD_and, BitVec.getLsbD_ushiftRight]; simp
  have h1 : (v >>> 11 &&& 3#64).getLsbD 1 = v.getLsbD 12 := by
    rw [BitVec.getLsbD_and, BitVec.getLsbD_ushiftRight, show (3#64).getLsbD 1 = true by decide, Bool.and_true]
  unfold mpB bfB
  rw [← h0, ← h1] at h
  rw [← h0]
  rcases four (and3_le (v >>> 11)) with e | e | e | e
  · rw [e]; decide
  · rw [e] at h; exact absurd h (by decide)
  · rw [e] at h; exact absurd h (by decide)
  · rw [e]; decide
theorem pr_1112 (k : Cp) : ((PR k).s 0).getLsbD 11 = ((PR k).s 0).getLsbD 12 := mq_bits2 _ (by rw [← pr_s0]; exact stB_not _)
/-- mstatus behind a return, as the program makes it. -/
theorem rtS_0 (v : BitVec 64) (h : mpB v = 0) : wB (sB (sB (sB v 17 false) 3 (v.getLsbD 7)) 7 true) 0 = rtS v := by
  apply BitVec.eq_of_getLsbD_eq
  intro i hi
  rw [rtS_bit v i hi, wB_bit _ _ i hi, sB_bit _ 7 i (by decide) hi, sB_bit _ 3 i (by decide) hi, sB_bit _ 17 i (by decide) hi]
  by_cases h17 : i = 17
  · subst h17; simp [h]
  · simp [h17]
theorem rtS_3 (v : BitVec 64) (h : mpB v = 3) : wB (sB (sB v 3 (v.getLsbD 7)) 7 true) 0 = rtS v := by
  unfold rtS
  rw [if_neg (by rw [h]; decide)]
/-- The handler's base. -/
theorem hbs_and (tv : BitVec 64) : tv &&& ~~~3#64 = hbs tv := by
  have e : tv % 4#64 = tv &&& 3#64 := by
    apply BitVec.eq_of_toNat_eq
    rw [BitVec.toNat_umod, BitVec.toNat_and, show (3#64).toNat = 2 ^ 2 - 1 from rfl, Nat.and_two_pow_sub_one_eq_mod]
    rfl
  have s : (tv &&& ~~~3#64) + (tv &&& 3#64) = tv := by
    rw [BitVec.add_eq_or_of_and_eq_zero]
    · apply BitVec.eq_of_getLsbD_eq
      intro i hi
      simp only [BitVec.getLsbD_or, BitVec.getLsbD_and, BitVec.getLsbD_not]
      cases tv.getLsbD i <;> cases (3#64).getLsbD i <;> simp [hi]
    · apply BitVec.eq_of_getLsbD_eq
      intro i hi
      simp only [BitVec.getLsbD_and, BitVec.getLsbD_not, BitVec.getLsbD_zero]
      cases tv.getLsbD i <;> cases (3#64).getLsbD i <;> simp
  unfold hbs
  rw [e]
  calc tv &&& ~~~3#64 = (tv &&& ~~~3#64) + (tv &&& 3#64) - (tv &&& 3#64) := by rw [BitVec.add_sub_cancel]
    _ = tv - (tv &&& 3#64) := by rw [s]
set_option maxRecDepth 100000 in
theorem with_c (v : BitVec 64) (n : Nat) (on : Bool) (w : World) : Calls Try.prog 40 #[.int .u64 (n64 v), .int .u64 (n64 (tp n)), .bool on] w fun e w' => e = .returned (.int .u64 (n64 (sB v n on))) ∧ w' = w := by
  have b0 := n64_or v (tp n)
  have b1 := n64_andNot v (tp n)
  unfold sB
  cases on with
  | true =>
    rw [if_pos rfl]
    generalize n64 (v ||| tp n) = z at b0 ⊢
    generalize n64 (tp n) = y at *
    generalize n64 v = x at *
    clear b1
    go_enter Try.func40, Try.ntmps40
    go_wp2
    go_ret
    exact ⟨by rfl, rfl⟩
  | false =>
    rw [if_neg (by decide)]
    generalize n64 (v &&& ~~~tp n) = z at b1 ⊢
    generalize n64 (tp n) = y at *
    generalize n64 v = x at *
    clear b0
    go_enter Try.func40, Try.ntmps40
    go_wp2
    go_ret
    exact ⟨by rfl, rfl⟩
set_option maxRecDepth 100000 in
theorem withMie_c (v : BitVec 64) (on : Bool) (w : World) : Calls Try.prog 36 #[.int .u64 (n64 v), .bool on] w fun e w' => e = .returned (.int .u64 (n64 (sB v 3 on))) ∧ w' = w := by
  have H : Hid (∀ W, Calls Try.prog 40 #[.int .u64 (n64 v), .int .u64 8, .bool on] W fun e w' => e = .returned (.int .u64 (n64 (sB v 3 on))) ∧ w' = W) := fun W => with_c v 3 on W
  generalize n64 (sB v 3 on) = z at H ⊢
  go_enter Try.func36, Try.ntmps36
  go_wp2_with (go_at_call 40; refine (H.out _).mono ?_; rintro e wb ⟨rfl, hwb⟩; have hwb2 := hwb.symm; subst hwb2)
  go_ret
  exact ⟨by rfl, rfl⟩
set_option maxRecDepth 100000 in
theorem withMpie_c (v : BitVec 64) (on : Bool) (w : World) : Calls Try.prog 35 #[.int .u64 (n64 v), .bool on] w fun e w' => e = .returned (.int .u64 (n64 (sB v 7 on))) ∧ w' = w := by
  have H : Hid (∀ W, Calls Try.prog 40 #[.int .u64 (n64 v), .int .u64 128, .bool on] W fun e w' => e = .returned (.int .u64 (n64 (sB v 7 on))) ∧ w' = W) := fun W => with_c v 7 on W
  generalize n64 (sB v 7 on) = z at H ⊢
  go_enter Try.func35, Try.ntmps35
  go_wp2_with (go_at_call 40; refine (H.out _).mono ?_; rintro e wb ⟨rfl, hwb⟩; have hwb2 := hwb.symm; subst hwb2)
  go_ret
  exact ⟨by rfl, rfl⟩
theorem withB_c (v : BitVec 64) (m : Int) (hm : m = 0 ∨ m = 3) (w : World) : Calls Try.prog 37 #[.int .u64 (n64 v), .int .i64 m] w fun e w' => e = .returned (.int .u64 (n64 (wB v m))) ∧ w' = w := by
  rcases hm with rfl | rfl
  · have h := withBefore_c v 0#64 (by decide) w
    rw [wB_0] at h; exact h
  · have h := withBefore_c v 3#64 (by decide) w
    rw [wB_3] at h; exact h
set_option maxRecDepth 100000 in
theorem entered_c (v : BitVec 64) (m : Int) (hm : m = 0 ∨ m = 3) (w : World) : Calls Try.prog 25 #[.int .u64 (n64 v), .int .i64 m] w fun e w' => e = .returned (.int .u64 (n64 (enS v m))) ∧ w' = w := by
  have H1 : Hid (∀ W, Calls Try.prog 35 #[.int .u64 (n64 v), .bool (v.getLsbD 3)] W fun e w' => e = .returned (.int .u64 (n64 (sB v 7 (v.getLsbD 3)))) ∧ w' = W) := withMpie_c v _
  have H2 : Hid (∀ W, Calls Try.prog 36 #[.int .u64 (n64 (sB v 7 (v.getLsbD 3))), .bool false] W fun e w' => e = .returned (.int .u64 (n64 (sB (sB v 7 (v.getLsbD 3)) 3 false))) ∧ w' = W) := withMie_c _ _
  have H3 : Hid (∀ W, Calls Try.prog 37 #[.int .u64 (n64 (sB (sB v 7 (v.getLsbD 3)) 3 false)), .int .i64 m] W fun e w' => e = .returned (.int .u64 (n64 (enS v m))) ∧ w' = W) := withB_c _ m hm
  have b0 : bits .and .u64 (n64 v) 8 = n64 (v &&& 8#64) := n64_and v 8#64
  have b1 : (n64 (v &&& 8#64) != 0) = v.getLsbD 3 := bit_ne v 3 (by decide)
  generalize n64 (enS v m) = y3 at H3 ⊢
  generalize n64 (sB (sB v 7 (v.getLsbD 3)) 3 false) = y2 at H2 H3
  generalize n64 (sB v 7 (v.getLsbD 3)) = y1 at H1 H2
  generalize v.getLsbD 3 = b at H1 b1
  generalize n64 (v &&& 8#64) = y0 at b0 b1
  generalize n64 v = x at *
  go_enter Try.func25, Try.ntmps25
  go_wp2_with (first | (go_at_call 35; refine (H1.out _).mono ?_; rintro e wb ⟨rfl, hwb⟩; have hwb2 := hwb.symm; subst hwb2) | (go_at_call 36; refine (H2.out _).mono ?_; rintro e wb ⟨rfl, hwb⟩; have hwb2 := hwb.symm; subst hwb2) | (go_at_call 37; refine (H3.out _).mono ?_; rintro e wb ⟨rfl, hwb⟩; have hwb2 := hwb.symm; subst hwb2))
  go_ret
  exact ⟨by rfl, rfl⟩
set_option maxRecDepth 100000 in
theorem returned_c (v : BitVec 64) (h : v.getLsbD 11 = v.getLsbD 12) (w : World) : Calls Try.prog 29 #[.int .u64 (n64 v)] w fun e w' => e = .returned (.int .u64 (n64 (rtS v))) ∧ w' = w := by
  have HB : Hid (∀ W, Calls Try.prog 28 #[.int .u64 (n64 v)] W fun e w' => e = .returned (.int .i64 (mpB v)) ∧ w' = W) := fun W => by have q := before_c v W; rw [bf_mp v h] at q; exact q
  rcases mpB_is v with h0 | h0
  · rw [← rtS_0 v h0]
    rw [h0] at HB
    have e7 : (sB v 17 false).getLsbD 7 = v.getLsbD 7 := by rw [sB_bit v 17 7 (by decide) (by decide)]; simp
    rw [← e7]
    have a0 : bits .andNot .u64 (n64 v) 131072 = n64 (sB v 17 false) := n64_andNot v 131072#64
    clear h h0 e7
    generalize sB v 17 false = u at a0 ⊢
    have b0 : bits .and .u64 (n64 u) 128 = n64 (u &&& 128#64) := n64_and u 128#64
    have b1 : (n64 (u &&& 128#64) != 0) = u.getLsbD 7 := bit_ne u 7 (by decide)
    have H1 : Hid (∀ W, Calls Try.prog 36 #[.int .u64 (n64 u), .bool (u.getLsbD 7)] W fun e w' => e = .returned (.int .u64 (n64 (sB u 3 (u.getLsbD 7)))) ∧ w' = W) := withMie_c u _
    have H2 : Hid (∀ W, Calls Try.prog 35 #[.int .u64 (n64 (sB u 3 (u.getLsbD 7))), .bool true] W fun e w' => e = .returned (.int .u64 (n64 (sB (sB u 3 (u.getLsbD 7)) 7 true))) ∧ w' = W) := withMpie_c _ _
    have H3 : Hid (∀ W, Calls Try.prog 37 #[.int .u64 (n64 (sB (sB u 3 (u.getLsbD 7)) 7 true)), .int .i64 0] W fun e w' => e = .returned (.int .u64 (n64 (wB (sB (sB u 3 (u.getLsbD 7)) 7 true) 0))) ∧ w' = W) := withB_c _ 0 (Or.inl rfl)
    generalize n64 (wB (sB (sB u 3 (u.getLsbD 7)) 7 true) 0) = y3 at H3 ⊢
    generalize n64 (sB (sB u 3 (u.getLsbD 7)) 7 true) = y2 at H2 H3
    generalize n64 (sB u 3 (u.getLsbD 7)) = y1 at H1 H2
    generalize u.getLsbD 7 = b at H1 b1
    generalize n64 (u &&& 128#64) = y0 at b0 b1
    generalize n64 u = xu at *
    generalize n64 v = x at *
    go_enter Try.func29, Try.ntmps29
    go_wp2_with (first | (go_at_call 28; refine (HB.out _).mono ?_; rintro e wb ⟨rfl, hwb⟩; have hwb2 := hwb.symm; subst hwb2) | (go_at_call 36; refine (H1.out _).mono ?_; rintro e wb ⟨rfl, hwb⟩; have hwb2 := hwb.symm; subst hwb2) | (go_at_call 35; refine (H2.out _).mono ?_; rintro e wb ⟨rfl, hwb⟩; have hwb2 := hwb.symm; subst hwb2) | (go_at_call 37; refine (H3.out _).mono ?_; rintro e wb ⟨rfl, hwb⟩; have hwb2 := hwb.symm; subst hwb2))
    go_ret
    exact ⟨by rfl, rfl⟩
  · rw [← rtS_3 v h0]
    rw [h0] at HB
    clear h h0
    have b0 : bits .and .u64 (n64 v) 128 = n64 (v &&& 128#64) := n64_and v 128#64
    have b1 : (n64 (v &&& 128#64) != 0) = v.getLsbD 7 := bit_ne v 7 (by decide)
    have H1 : Hid (∀ W, Calls Try.prog 36 #[.int .u64 (n64 v), .bool (v.getLsbD 7)] W fun e w' => e = .returned (.int .u64 (n64 (sB v 3 (v.getLsbD 7)))) ∧ w' = W) := withMie_c v _
    have H2 : Hid (∀ W, Calls Try.prog 35 #[.int .u64 (n64 (sB v 3 (v.getLsbD 7))), .bool true] W fun e w' => e = .returned (.int .u64 (n64 (sB (sB v 3 (v.getLsbD 7)) 7 true))) ∧ w' = W) := withMpie_c _ _
    have H3 : Hid (∀ W, Calls Try.prog 37 #[.int .u64 (n64 (sB (sB v 3 (v.getLsbD 7)) 7 true)), .int .i64 0] W fun e w' => e = .returned (.int .u64 (n64 (wB (sB (sB v 3 (v.getLsbD 7)) 7 true) 0))) ∧ w' = W) := withB_c _ 0 (Or.inl rfl)
    generalize n64 (wB (sB (sB v 3 (v.getLsbD 7)) 7 true) 0) = y3 at H3 ⊢
    generalize n64 (sB (sB v 3 (v.getLsbD 7)) 7 true) = y2 at H2 H3
    generalize n64 (sB v 3 (v.getLsbD 7)) = y1 at H1 H2
    generalize v.getLsbD 7 = b at H1 b1
    generalize n64 (v &&& 128#64) = y0 at b0 b1
    generalize n64 v = xu at *
    go_enter Try.func29, Try.ntmps29
    go_wp2_with (first | (go_at_call 28; refine (HB.out _).mono ?_; rintro e wb ⟨rfl, hwb⟩; have hwb2 := hwb.symm; subst hwb2) | (go_at_call 36; refine (H1.out _).mono ?_; rintro e wb ⟨rfl, hwb⟩; have hwb2 := hwb.symm; subst hwb2) | (go_at_call 35; refine (H2.out _).mono ?_; rintro e wb ⟨rfl, hwb⟩; have hwb2 := hwb.symm; subst hwb2) | (go_at_call 37; refine (H3.out _).mono ?_; rintro e wb ⟨rfl, hwb⟩; have hwb2 := hwb.symm; subst hwb2))
    go_ret
    exact ⟨by rfl, rfl⟩
/-- What a cause says. -/
def rsn (cause : BitVec 64) : Value := if cause.getLsbD 63 then .iface 46 (.int .u64 (n64 (cause - tp 63))) else .iface 68 (.int .u64 (n64 cause))
set_option maxRecDepth 100000 in
theorem reasonOf_c (cause : BitVec 64) (w : World) : Calls Try.prog 27 #[.int .u64 (n64 cause)] w fun e w' => e = .returned (rsn cause) ∧ w' = w := by
  have b0 : bits .and .u64 (n64 cause) 9223372036854775808 = n64 (cause &&& tp 63) := n64_and cause (tp 63)
  have b1 := bit_ne cause 63 (by decide)
  have b2 : bits .andNot .u64 (n64 cause) 9223372036854775808 = n64 (sB cause 63 false) := n64_andNot cause (tp 63)
  unfold rsn
  cases hb : cause.getLsbD 63 with
  | true =>
    rw [if_pos rfl, sB_sub cause 63 (by decide) hb]
    rw [hb] at b1
    clear hb
    generalize n64 (sB cause 63 false) = y1 at b2 ⊢
    generalize n64 (cause &&& tp 63) = y0 at b0 b1
    generalize n64 cause = x at *
    go_enter Try.func27, Try.ntmps27
    go_wp2
    go_ret
    exact ⟨by rfl, rfl⟩
  | false =>
    rw [if_neg (by decide)]
    rw [hb] at b1
    clear hb b2
    generalize n64 (cause &&& tp 63) = y0 at b0 b1
    generalize n64 cause = x at *
    go_enter Try.func27, Try.ntmps27
    go_wp2
    go_ret
    exact ⟨by rfl, rfl⟩
theorem as_ii (v : Value) (W : World) : (Instr.typeAssert (.iface 46 v) 56 46 true).run Try.prog W = .ok (.tuple #[v, .bool true]) W := by kernel_rfl
theorem as_ei (v : Value) (W : World) : (Instr.typeAssert (.iface 68 v) 56 46 true).run Try.prog W = .ok (.tuple #[.int .u64 0, .bool false]) W := by kernel_rfl
theorem as_ee (v : Value) (W : World) : (Instr.typeAssert (.iface 68 v) 56 68 true).run Try.prog W = .ok (.tuple #[v, .bool true]) W := by kernel_rfl
set_option maxRecDepth 100000 in
theorem handler_c (tv cause : BitVec 64) (w : World) : Calls Try.prog 26 #[.int .u64 (n64 tv), rsn cause] w fun e w' => e = .returned (.int .u64 (n64 (hdl tv cause))) ∧ w' = w := by
  have b0 : bits .andNot .u64 (n64 tv) 3 = n64 (tv &&& ~~~3#64) := n64_andNot tv 3#64
  have b1 : bits .and .u64 (n64 tv) 1 = n64 (tv &&& tp 0) := n64_and tv (tp 0)
  have b2 := bit_ne tv 0 (by decide)
  rw [hbs_and] at b0
  have m2 : IntKind.u64.wrap (4 * n64 (cause - tp 63)) = n64 (4#64 * (cause - tp 63)) := n64_mul 4#64 _
  have m3 : IntKind.u64.wrap (n64 (hbs tv) + n64 (4#64 * (cause - tp 63))) = n64 (hbs tv + 4#64 * (cause - tp 63)) := n64_add _ _
  have a1 := as_ii
  have a2 := as_ei
  have a3 := as_ee
  unfold rsn hdl
  generalize n64 (tv &&& tp 0) = y1 at b1 b2
  cases hc : cause.getLsbD 63 with
  | true =>
    rw [if_pos rfl]
    cases ht : tv.getLsbD 0 with
    | true =>
      rw [ht] at b2
      rw [if_pos (by rfl)]
      clear hc ht a2 a3
      generalize n64 (hbs tv + 4#64 * (cause - tp 63)) = y4 at m3 ⊢
      generalize n64 (4#64 * (cause - tp 63)) = y3 at m2 m3
      generalize n64 (cause - tp 63) = y2 at m2 ⊢
      generalize n64 (hbs tv) = y0 at *
      generalize n64 tv = x at *
      go_enter Try.func26, Try.ntmps26
      go_wp2
      go_ret
      exact ⟨by rfl, rfl⟩
    | false =>
      rw [ht] at b2
      rw [if_neg (by decide)]
      clear hc ht a2 a3 m2 m3
      generalize n64 (hbs tv) = y0 at *
      generalize n64 (cause - tp 63) = y2
      generalize n64 tv = x at *
      go_enter Try.func26, Try.ntmps26
      go_wp2
      go_ret
      exact ⟨by rfl, rfl⟩
  | false =>
    rw [if_neg (by decide), if_neg (by simp)]
    clear hc a1 m2 m3 b1 b2
    generalize n64 (hbs tv) = y0 at *
    generalize n64 cause = y2
    generalize n64 tv = x at *
    go_enter Try.func26, Try.ntmps26
    go_wp2
    go_ret
    exact ⟨by rfl, rfl⟩
/-- The first of the lines that are up. -/
def fsB (c11 c3 c7 : Bool) (i : Nat) : Int × Bool :=
  if i ≤ 0 ∧ c11 = true then (11, true) else if i ≤ 1 ∧ c3 = true then (3, true) else if i ≤ 2 ∧ c7 = true then (7, true) else (0, false)
theorem fsB_0t : ∀ c3 c7, fsB true c3 c7 0 = (11, true) := by decide
theorem fsB_0f : ∀ c3 c7, fsB false c3 c7 0 = fsB false c3 c7 1 := by decide
theorem fsB_1t : ∀ c11 c7, fsB c11 true c7 1 = (3, true) := by decide
theorem fsB_1f : ∀ c11 c7, fsB c11 false c7 1 = fsB c11 false c7 2 := by decide
theorem fsB_2t : ∀ c11 c3, fsB c11 c3 true 2 = (7, true) := by decide
theorem fsB_2f : ∀ c11 c3, fsB c11 c3 false 2 = fsB c11 c3 false 3 := by decide
theorem fsB_3 : ∀ c11 c3 c7, fsB c11 c3 c7 3 = (0, false) := by decide
def fsN (b : BitVec 64) (i : Nat) : Int × Bool := fsB (b.getLsbD 11) (b.getLsbD 3) (b.getLsbD 7) i
theorem fs_pd (K : Cp) (mip : BitVec 64) : fsN (mip &&& K.s 2) 0 = pdF K mip 0 := by
  unfold fsN fsB pdF pdN
  rw [BitVec.getLsbD_and, BitVec.getLsbD_and, BitVec.getLsbD_and]
theorem bit_sh (b : BitVec 64) (n : Nat) : (n64 (b >>> n &&& 1#64) != 0) = b.getLsbD n := by
  have h := n64_odd b n
  have e : n64 (b >>> n &&& 1#64) = n64 (b >>> n) % 2 := by
    unfold n64
    rw [BitVec.toNat_and, show (1#64).toNat = 2 ^ 1 - 1 from rfl, Nat.and_two_pow_sub_one_eq_mod]
    rfl
  rw [e, ← h]
  have := n64_lo (b >>> n)
  rw [Bool.eq_iff_iff]
  simp only [bne_iff_ne, ne_eq, beq_iff_eq]
  omega
set_option maxRecDepth 100000 in
theorem pfirst_c (b : BitVec 64) (w : World) : Calls Try.prog 19 #[.int .u64 (n64 b)] w fun e w' => e = .returned (.tuple #[.int .u64 (fsN b 0).1, .bool (fsN b 0).2]) ∧ w' = w := by
  have s11 : n64 b / (2048 : Int) = n64 (b >>> 11) := n64_shr _ 11
  have s3 : n64 b / (8 : Int) = n64 (b >>> 3) := n64_shr _ 3
  have s7 : n64 b / (128 : Int) = n64 (b >>> 7) := n64_shr _ 7
  have q11 : bits .and .u64 (n64 (b >>> 11)) 1 = n64 (b >>> 11 &&& 1#64) := n64_and _ 1#64
  have q3 : bits .and .u64 (n64 (b >>> 3)) 1 = n64 (b >>> 3 &&& 1#64) := n64_and _ 1#64
  have q7 : bits .and .u64 (n64 (b >>> 7)) 1 = n64 (b >>> 7 &&& 1#64) := n64_and _ 1#64
  have e11 := bit_sh b 11
  have e3 := bit_sh b 3
  have e7 := bit_sh b 7
  have F0t : b.getLsbD 11 = true → Hid (fsN b 0 = (11, true)) := fun h => by unfold Hid fsN; rw [h]; exact fsB_0t _ _
  have F0f : b.getLsbD 11 = false → Hid (fsN b 0 = fsN b 1) := fun h => by unfold Hid fsN; rw [h]; exact fsB_0f _ _
  have F1t : b.getLsbD 3 = true → Hid (fsN b 1 = (3, true)) := fun h => by unfold Hid fsN; rw [h]; exact fsB_1t _ _
  have F1f : b.getLsbD 3 = false → Hid (fsN b 1 = fsN b 2) := fun h => by unfold Hid fsN; rw [h]; exact fsB_1f _ _
  have F2t : b.getLsbD 7 = true → Hid (fsN b 2 = (7, true)) := fun h => by unfold Hid fsN; rw [h]; exact fsB_2t _ _
  have F2f : b.getLsbD 7 = false → Hid (fsN b 2 = fsN b 3) := fun h => by unfold Hid fsN; rw [h]; exact fsB_2f _ _
  have F3 : Hid (fsN b 3 = (0, false)) := fsB_3 _ _ _
  generalize n64 (b >>> 11 &&& 1#64) = z11 at q11 e11
  generalize n64 (b >>> 3 &&& 1#64) = z3 at q3 e3
  generalize n64 (b >>> 7 &&& 1#64) = z7 at q7 e7
  generalize n64 (b >>> 11) = y11 at s11 q11
  generalize n64 (b >>> 3) = y3 at s3 q3
  generalize n64 (b >>> 7) = y7 at s7 q7
  generalize b.getLsbD 11 = c11 at e11 F0t F0f
  generalize b.getLsbD 3 = c3 at e3 F1t F1f
  generalize b.getLsbD 7 = c7 at e7 F2t F2f
  have i0 : ∀ w, (Instr.index 59 (.agg #[.int .u64 11, .int .u64 3, .int .u64 7]) (.int .i64 0)).run Try.prog w = .ok (.int .u64 11) w := fun _ => by kernel_rfl
  have i1 : ∀ w, (Instr.index 59 (.agg #[.int .u64 11, .int .u64 3, .int .u64 7]) (.int .i64 1)).run Try.prog w = .ok (.int .u64 3) w := fun _ => by kernel_rfl
  have i2 : ∀ w, (Instr.index 59 (.agg #[.int .u64 11, .int .u64 3, .int .u64 7]) (.int .i64 2)).run Try.prog w = .ok (.int .u64 7) w := fun _ => by kernel_rfl
  go_enter Try.func19, Try.ntmps19
  go_wp2
  go_loopw [7] (fun x wr => ∃ i : Nat, i ≤ 3 ∧ x = .int .i64 i ∧ Hid (fsN b 0 = fsN b i) ∧ wr = w) (fun x _ => 3 - (intOf x).toNat)
  case atStart => exact ⟨0, by omega, rfl, rfl, rfl⟩
  case round =>
    obtain ⟨i, hi, rfl, hp, hwr⟩ := hrel
    subst hwr
    by_cases hlt : i < 3
    · match i, hlt with
      | 0, _ =>
        rw [show ((0 : Nat) : Int) = (0 : Int) from rfl]
        cases c11 with
        | true =>
          have HV : Hid (fsN b 0 = (11, true)) := hp.out.trans (F0t rfl).out
          clear F0t F0f F1t F1f F2t F2f F3 hp
          go_wp2
          go_ret2
          exact ⟨by rw [HV.out]; rfl, rfl⟩
        | false =>
          have HN : Hid (fsN b 0 = fsN b 1) := hp.out.trans (F0f rfl).out
          clear F0t F0f F1t F1f F2t F2f F3 hp
          go_wp2
          go_roundw
          case rel => exact ⟨1, by omega, by go_num, HN, trivial⟩
          case measure => simp [intOf]
      | 1, _ =>
        rw [show ((1 : Nat) : Int) = (1 : Int) from rfl]
        cases c3 with
        | true =>
          have HV : Hid (fsN b 0 = (3, true)) := hp.out.trans (F1t rfl).out
          clear F0t F0f F1t F1f F2t F2f F3 hp
          go_wp2
          go_ret2
          exact ⟨by rw [HV.out]; rfl, rfl⟩
        | false =>
          have HN : Hid (fsN b 0 = fsN b 2) := hp.out.trans (F1f rfl).out
          clear F0t F0f F1t F1f F2t F2f F3 hp
          go_wp2
          go_roundw
          case rel => exact ⟨2, by omega, by go_num, HN, trivial⟩
          case measure => simp [intOf]
      | 2, _ =>
        rw [show ((2 : Nat) : Int) = (2 : Int) from rfl]
        cases c7 with
        | true =>
          have HV : Hid (fsN b 0 = (7, true)) := hp.out.trans (F2t rfl).out
          clear F0t F0f F1t F1f F2t F2f F3 hp
          go_wp2
          go_ret2
          exact ⟨by rw [HV.out]; rfl, rfl⟩
        | false =>
          have HN : Hid (fsN b 0 = fsN b 3) := hp.out.trans (F2f rfl).out
          clear F0t F0f F1t F1f F2t F2f F3 hp
          go_wp2
          go_roundw
          case rel => exact ⟨3, by omega, by go_num, HN, trivial⟩
          case measure => simp [intOf]
    · obtain rfl : i = 3 := by omega
      rw [show ((3 : Nat) : Int) = (3 : Int) from rfl]
      have HV : Hid (fsN b 0 = (0, false)) := hp.out.trans F3.out
      clear F0t F0f F1t F1f F2t F2f F3 hp
      go_wp2
      go_ret2
      exact ⟨by rw [HV.out]; rfl, rfl⟩
end Go.Proofs.Ytnejdfkmnblfeaa
