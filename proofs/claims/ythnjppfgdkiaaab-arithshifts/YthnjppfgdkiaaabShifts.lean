/- ArithShifts -/
import Derived.Test.YthnjppfgdkiaaabLeafN
import Derived.Deep.RegionWith
namespace Go.Proofs.Ythnjppfgdkiaaab.arithShifts
open Go.ChangeShapes Go.WideShapes Go.ChangeAt Go.RowKit

theorem one_shl (x : BitVec 64) (n : Nat) : x * (1#64 <<< n) = x <<< n := by
  apply BitVec.eq_of_toNat_eq
  rw [BitVec.toNat_mul, BitVec.toNat_shiftLeft, BitVec.toNat_shiftLeft, Nat.shiftLeft_eq, Nat.shiftLeft_eq]
  show x.toNat * (1 * 2 ^ n % 2 ^ 64) % 2 ^ 64 = _
  rw [Nat.one_mul, Nat.mul_mod_mod]
theorem shr_div (x : BitVec 64) (n : Nat) (h : n < 64) : qDivu x (1#64 <<< n) = x >>> n := by
  have hp : (1#64 <<< n).toNat = 2 ^ n := by
    rw [BitVec.toNat_shiftLeft, Nat.shiftLeft_eq]
    show 1 * 2 ^ n % 2 ^ 64 = 2 ^ n
    rw [Nat.one_mul, Nat.mod_eq_of_lt (Nat.pow_lt_pow_right (by decide) h)]
  have hz : ¬ (1#64 <<< n) = 0#64 := fun hc => by
    have h1 := congrArg BitVec.toNat hc
    rw [hp] at h1
    have : 0 < 2 ^ n := Nat.two_pow_pos n
    simp at h1
  unfold qDivu
  rw [if_neg hz]
  apply BitVec.eq_of_toNat_eq
  rw [BitVec.toNat_udiv, hp, BitVec.toNat_ushiftRight, Nat.shiftRight_eq_div_pow]
theorem one_wrap (n : Nat) : IntKind.u64.wrap (2 ^ n) = n64 (1#64 <<< n) := by
  have h := n64_shl 1#64 n
  rw [show n64 1#64 = 1 from rfl, Int.one_mul] at h
  exact h
theorem mod64 (x : BitVec 64) : n64 x % (64 : Int) = n64 (x % 64#64) := n64_umod x 64#64
theorem mod64_lt (x : BitVec 64) : (n64 (x % 64#64)).toNat < 64 := by rw [← mod64]; omega
theorem mod64_mod (x : BitVec 64) : (x % 64#64) % 64#64 = x % 64#64 := by
  apply BitVec.eq_of_toNat_eq; simp
theorem ng_msb (x : BitVec 64) : ng x = x.msb := by
  unfold ng; rw [BitVec.msb_eq_toInt]
theorem com_n64 (x : BitVec 64) : n64 (~~~x) = 18446744073709551615 - n64 x := by
  unfold n64; rw [BitVec.toNat_not]; have := x.isLt; omega

theorem walk (k : Int) (_ : (Lit.int .i64 k).wf = true) (a b : BitVec 64) (i : Int) (_ : (Lit.int .i64 i).wf = true) (j : Int) (_ : (Lit.int .i64 j).wf = true) (w : World) :
    Calls Try.prog 5 #[.agg #[.int .i64 k, .int .u64 (n64 a), .int .u64 (n64 b), .int .i64 i, .int .i64 j]] w fun e w' => e = .returned (.bool true) ∧ Below w.heap.size w w' := by
  have hne := later_nonempty (w.alloc (.cells #[.int .i64 k, .int .u64 (n64 a), .int .u64 (n64 b), .int .i64 i, .int .i64 j] 24))
  have hz : ∀ _ : Later (w.alloc (.cells #[.int .i64 k, .int .u64 (n64 a), .int .u64 (n64 b), .int .i64 i, .int .i64 j] 24)), w.heap.size < (w.alloc (.cells #[.int .i64 k, .int .u64 (n64 a), .int .u64 (n64 b), .int .i64 i, .int .i64 j] 24)).heap.size := fun _ => by simp
  have hc0 : ∀ x : Later (w.alloc (.cells #[.int .i64 k, .int .u64 (n64 a), .int .u64 (n64 b), .int .i64 i, .int .i64 j] 24)), x.1.cell? ⟨w.heap.size, 0, none⟩ = some (.int .i64 k) := fun x => by rw [later_cell x (hz x)]; simp
  have hc1 : ∀ x : Later (w.alloc (.cells #[.int .i64 k, .int .u64 (n64 a), .int .u64 (n64 b), .int .i64 i, .int .i64 j] 24)), x.1.cell? ⟨w.heap.size, 1, none⟩ = some (.int .u64 (n64 a)) := fun x => by rw [later_cell x (hz x)]; simp
  have hc2 : ∀ x : Later (w.alloc (.cells #[.int .i64 k, .int .u64 (n64 a), .int .u64 (n64 b), .int .i64 i, .int .i64 j] 24)), x.1.cell? ⟨w.heap.size, 2, none⟩ = some (.int .u64 (n64 b)) := fun x => by rw [later_cell x (hz x)]; simp
  clear hz
  have hb0 := n64_lo b
  have hb1 := n64_lo (b % 64#64)
  have hb2 : n64 (b % 64#64) < 64 := by rw [← mod64]; omega
  have rm := mod64
  have rmm := mod64_mod b
  have rp := one_wrap
  have e1 : (n64 (a <<< (n64 (b % 64#64)).toNat) != n64 (a * (1#64 <<< (n64 (b % 64#64)).toNat))) = false := ne_false (one_shl a _).symm
  have e2 : (n64 (a >>> (n64 (b % 64#64)).toNat) != n64 (qDivu a (1#64 <<< (n64 (b % 64#64)).toNat))) = false := ne_false (shr_div a _ (mod64_lt b)).symm
  have e3 : ng a = true → (n64 (a.sshiftRight (n64 (b % 64#64)).toNat) == n64 (~~~(~~~a >>> (n64 (b % 64#64)).toNat))) = true := fun h => eq_true (BitVec.sshiftRight_eq_of_msb_true (by rw [← ng_msb]; exact h))
  have e4 : ng a = false → (n64 (a.sshiftRight (n64 (b % 64#64)).toNat) == n64 (a >>> (n64 (b % 64#64)).toNat)) = true := fun h => eq_true (BitVec.sshiftRight_eq_of_msb_false (by rw [← ng_msb]; exact h))
  go_enter Try.func5, Try.ntmps5
  go_wp2_with fail
  rw [mod64 b]
  refine wp_region_later (x0 := Later.start (w.alloc (.cells #[.int .i64 k, .int .u64 (n64 a), .int .u64 (n64 b), .int .i64 i, .int .i64 j] 24))) (by kernel_rfl) (by kernel_rfl) ?_
  repeat (go_big_quiet_step ((first
    | (go_at_call_of 9 (Value.int IntKind.i64 37); exact calls_later (o_sll _ _ _))
    | (go_at_call_of 9 (Value.int IntKind.i64 41); exact calls_later (o_srl _ _ _))
    | (go_at_call_of 9 (Value.int IntKind.i64 42); exact calls_later (o_sra _ _ _))
    | (go_at_call_of 9 (Value.int IntKind.i64 62); exact calls_later (o_mul _ _ _))
    | (go_at_call_of 9 (Value.int IntKind.i64 67); exact calls_later (o_divu _ _ _))
    | (go_at_call 10; exact calls_later (live_any _)))))
  refine wpQuiet_nil ?_
  rintro _ ⟨yq, rfl⟩
  cases ha : ng a
  · have e := e4 ha
    clear e3 e4
    go_wp2_with (first
        | (go_at_call_of 12 (Value.int IntKind.u64 (n64 a)); refine (calls_later_same (negative_is a _ ha _)).mono ?_; rintro e w' ⟨rfl, y, rfl⟩)
        | (go_at_call_of 9 (Value.int IntKind.i64 37); refine (calls_later (o_sll _ _ _)).mono ?_; rintro e w' ⟨rfl, y, rfl⟩)
        | (go_at_call_of 9 (Value.int IntKind.i64 41); refine (calls_later (o_srl _ _ _)).mono ?_; rintro e w' ⟨rfl, y, rfl⟩)
        | (go_at_call_of 9 (Value.int IntKind.i64 42); refine (calls_later (o_sra _ _ _)).mono ?_; rintro e w' ⟨rfl, y, rfl⟩)
        | (go_at_call_of 9 (Value.int IntKind.i64 62); refine (calls_later (o_mul _ _ _)).mono ?_; rintro e w' ⟨rfl, y, rfl⟩)
        | (go_at_call_of 9 (Value.int IntKind.i64 67); refine (calls_later (o_divu _ _ _)).mono ?_; rintro e w' ⟨rfl, y, rfl⟩)
        | (go_at_call 10; refine (calls_later (live_any _)).mono ?_; rintro e w' ⟨rfl, y, rfl⟩))
    go_ret
    exact ⟨rfl, ((Below.refl _ _).alloc (Nat.le_refl _) _).trans ((Later.below _).mono (by simp))⟩
  · have e := e3 ha
    clear e3 e4
    have rc := unary_com
    go_wp2_with (first
        | (go_at_call_of 12 (Value.int IntKind.u64 (n64 a)); refine (calls_later_same (negative_is a _ ha _)).mono ?_; rintro e w' ⟨rfl, y, rfl⟩)
        | (go_at_call_of 9 (Value.int IntKind.i64 37); refine (calls_later (o_sll _ _ _)).mono ?_; rintro e w' ⟨rfl, y, rfl⟩)
        | (go_at_call_of 9 (Value.int IntKind.i64 41); refine (calls_later (o_srl _ _ _)).mono ?_; rintro e w' ⟨rfl, y, rfl⟩)
        | (go_at_call_of 9 (Value.int IntKind.i64 42); refine (calls_later (o_sra _ _ _)).mono ?_; rintro e w' ⟨rfl, y, rfl⟩)
        | (go_at_call_of 9 (Value.int IntKind.i64 62); refine (calls_later (o_mul _ _ _)).mono ?_; rintro e w' ⟨rfl, y, rfl⟩)
        | (go_at_call_of 9 (Value.int IntKind.i64 67); refine (calls_later (o_divu _ _ _)).mono ?_; rintro e w' ⟨rfl, y, rfl⟩)
        | (go_at_call 10; refine (calls_later (live_any _)).mono ?_; rintro e w' ⟨rfl, y, rfl⟩))
    go_ret
    exact ⟨rfl, ((Below.refl _ _).alloc (Nat.le_refl _) _).trans ((Later.below _).mono (by simp))⟩

theorem own : ownKnob Try.prog.godebug = none := by kernel_rfl
theorem cells : Try.prog.cellsOf 24 = 5 := by kernel_rfl

set_option maxRecDepth 100000 in
theorem lifted (os : Os) (started : os.Started) (H : Type) (enc : TypeId × Value → H) :
    ReturnsInHanded {} Try.checked os 5 .any (Rows.arithShiftsSpec.pre6 enc Try.prog Try.f5 Rows.arithShiftsRow.domain false) (Rows.arithShiftsSpec.post enc Try.prog Try.f5 false true false false) := by
  refine returnsInHanded_of_change (C := Try.checked) own started (by kernel_rfl) Try.func5
    (ChangeSpec.witness6 (enc := enc) (C := Try.checked) false ⟨#[], #[.agg #[.int .i64 0, .int .u64 0, .int .u64 0, .int .i64 0, .int .i64 0]], []⟩ 8 (by kernel_rfl) (by kernel_rfl) (by kernel_rfl) (by kernel_rfl)) ?_
  intro W base args ds gs before hval0 hW hcnd _
  have hval : ∀ (j : Nat) t v, Try.f5.params[j]? = some t → args[j]? = some v → Value.okWide Try.prog W .any base t v := hval0
  have hW' := hW
  obtain ⟨p, q, hA0, hV, rfl, hfz, hnd⟩ := hW
  have hA : DataW.TrodAll enc Try.prog W 0 (fun _ => true) true Try.f5.params.toList args.toList ds p := hA0
  rw [Try.params5] at hA hval
  obtain ⟨v0, vs0, d0, ds0, p0, q0, hargs, rfl, rfl, h0, r0⟩ := trodAll_cons hA
  obtain ⟨rfl, rfl, rfl⟩ := trodAll_nil r0
  obtain rfl : args = #[v0] := by cases args; simp_all
  obtain ⟨rfl, rfl⟩ := trodVars_none hV
  have k0 := h0
  obtain ⟨c0, c1, c2, c3, c4, y0, y1, y2, y3, y4, m, rfl, rfl, rfl, g0, g1, g2, g3, g4⟩ := open_agg5 Try.underlying24 (by kernel_rfl) cells (hval 0 24 v0 rfl rfl) h0
  obtain ⟨i0, e0, rfl, w0⟩ := DataW.trod_int Try.underlying3 g0
  obtain ⟨i1, e1, rfl, w1⟩ := DataW.trod_int Try.underlying22 g1
  obtain ⟨i2, e2, rfl, w2⟩ := DataW.trod_int Try.underlying22 g2
  obtain ⟨i3, e3, rfl, w3⟩ := DataW.trod_int Try.underlying3 g3
  obtain ⟨i4, e4, rfl, w4⟩ := DataW.trod_int Try.underlying3 g4
  simp only [List.cons.injEq, and_true] at e0 e1 e2 e3 e4
  subst e0 e1 e2 e3 e4
  obtain ⟨x1, rfl⟩ := n64_of w1
  obtain ⟨x2, rfl⟩ := n64_of w2
  clear hA0 hval0
  refine (walk i0 w0 x1 x2 i3 w3 i4 w4 W).mono fun e W' ⟨he, bel⟩ => ?_
  subst he
  exact ⟨_, rfl, _, _, _, [], _, [], hW', trodAll_mk1 (shut_bool Try.underlying4 _), trodAll_cons_mk (shut_agg5 (y0 := (.lit (.int .i64 i0), [])) (y1 := (.lit (.int .u64 (n64 x1)), [])) (y2 := (.lit (.int .u64 (n64 x2)), [])) (y3 := (.lit (.int .i64 i3), [])) (y4 := (.lit (.int .i64 i4), [])) Try.underlying24 (by kernel_rfl) cells (shut_int Try.underlying3 w0) (shut_int Try.underlying22 w1) (shut_int Try.underlying22 w2) (shut_int Try.underlying3 w3) (shut_int Try.underlying3 w4)) trodAll_mk0, rfl, bel.frame _, fun h => by cases h⟩

theorem over : Rows.arithShiftsRow.holds Try.pinned (OpenSpec.ofChange Rows.arithShiftsSpec) :=
  OpenClaim.holds_of_wide 5 Try.f5 rfl rfl rfl rfl rfl rfl rfl ⟨rfl, rfl, rfl, rfl, rfl⟩ rfl rfl rfl rfl rfl (by kernel_rfl) Try.func5 (by kernel_rfl)
    (of_decide_eq_true (by kernel_rfl)) (by unfold Func.isWrapper; first | (rw [if_pos (by decide +kernel)]; kernel_rfl) | (rw [if_neg (by decide +kernel)]; exact ⟨rfl, rfl⟩))
    (fun os started H enc _ => lifted os started H enc)
end Go.Proofs.Ythnjppfgdkiaaab.arithShifts
namespace Go.Proofs.Ythnjppfgdkiaaab
theorem arithShifts_holds : Rows.ArithShiftsSaid := arithShifts.over
end Go.Proofs.Ythnjppfgdkiaaab
#print axioms Go.Proofs.Ythnjppfgdkiaaab.arithShifts_holds
