/- ArithRing -/
import Derived.Test.YthnjppfgdkiaaaaLeaf
import Derived.Deep.RegionWith
namespace Go.Proofs.Ythnjppfgdkiaaaa.arithRing
open Go.ChangeShapes Go.WideShapes Go.ChangeAt Go.RowKit

theorem and_or (a b : BitVec 64) : (a &&& b) + (a ||| b) = a + b := by
  have h1 : a ||| b = (a &&& ~~~b) + b := by
    rw [BitVec.add_eq_or_of_and_eq_zero _ _ (by ext i; simp)]; ext i; simp; cases a[i] <;> simp
  have h2 : (a &&& b) + (a &&& ~~~b) = a := by
    rw [BitVec.add_eq_or_of_and_eq_zero _ _ (by ext i; simp; intro _ h _; simp [h])]; ext i; simp; cases b[i] <;> simp
  rw [h1, ← BitVec.add_assoc, h2]
theorem or_and (a b : BitVec 64) : (a ||| b) - (a &&& b) = a ^^^ b := by
  have h1 : a ||| b = (a ^^^ b) + (a &&& b) := by
    rw [BitVec.add_eq_or_of_and_eq_zero _ _ (by ext i; simp; cases a[i] <;> cases b[i] <;> simp)]; ext i; simp; cases a[i] <;> cases b[i] <;> simp
  rw [h1, BitVec.add_sub_cancel]
theorem mul_one_at (a : BitVec 64) (w : World) : Calls Try.prog 29 #[.int .i64 62, .int .u64 (n64 a), .int .u64 1] w fun e w' => e = .returned (.int .u64 (n64 a)) ∧ Below w.heap.size w w' := by
  have h := o_mul a 1#64 w
  rw [BitVec.mul_one] at h
  exact h
theorem add_nought_at (a : BitVec 64) (w : World) : Calls Try.prog 29 #[.int .i64 35, .int .u64 (n64 a), .int .u64 0] w fun e w' => e = .returned (.int .u64 (n64 a)) ∧ Below w.heap.size w w' := by
  have h := o_add a 0#64 w
  rw [BitVec.add_zero] at h
  exact h

theorem walk (a b c : BitVec 64) (w : World) :
    Calls Try.prog 8 #[.agg #[.int .u64 (n64 a), .int .u64 (n64 b), .int .u64 (n64 c)]] w fun e w' => e = .returned (.bool true) ∧ Below w.heap.size w w' := by
  have hne := later_nonempty (w.alloc (.cells #[.int .u64 (n64 a), .int .u64 (n64 b), .int .u64 (n64 c)] 44))
  have hz : ∀ _ : Later (w.alloc (.cells #[.int .u64 (n64 a), .int .u64 (n64 b), .int .u64 (n64 c)] 44)), w.heap.size < (w.alloc (.cells #[.int .u64 (n64 a), .int .u64 (n64 b), .int .u64 (n64 c)] 44)).heap.size := fun _ => by simp
  have hc0 : ∀ x : Later (w.alloc (.cells #[.int .u64 (n64 a), .int .u64 (n64 b), .int .u64 (n64 c)] 44)), x.1.cell? ⟨w.heap.size, 0, none⟩ = some (.int .u64 (n64 a)) := fun x => by rw [later_cell x (hz x)]; simp
  have hc1 : ∀ x : Later (w.alloc (.cells #[.int .u64 (n64 a), .int .u64 (n64 b), .int .u64 (n64 c)] 44)), x.1.cell? ⟨w.heap.size, 1, none⟩ = some (.int .u64 (n64 b)) := fun x => by rw [later_cell x (hz x)]; simp
  have hc2 : ∀ x : Later (w.alloc (.cells #[.int .u64 (n64 a), .int .u64 (n64 b), .int .u64 (n64 c)] 44)), x.1.cell? ⟨w.heap.size, 2, none⟩ = some (.int .u64 (n64 c)) := fun x => by rw [later_cell x (hz x)]; simp
  clear hz
  have e1 : (n64 (a + b) != n64 (b + a)) = false := ne_false (BitVec.add_comm a b)
  have e2 : (n64 (a * b) != n64 (b * a)) = false := ne_false (BitVec.mul_comm a b)
  have e3 : (n64 (a + b + c) != n64 (a + (b + c))) = false := ne_false (BitVec.add_assoc a b c)
  have e4 : (n64 (a * b * c) != n64 (a * (b * c))) = false := ne_false (BitVec.mul_assoc a b c)
  have e5 : (n64 ((a + b) * c) != n64 (a * c + b * c)) = false := ne_false BitVec.add_mul
  have e6 : (n64 (a + b - b) != n64 a) = false := ne_false (BitVec.add_sub_cancel a b)
  have e9 : (n64 ((a &&& b) + (a ||| b)) == n64 (a + b)) = true := eq_true (and_or a b)
  have e10 : (n64 ((a ||| b) - (a &&& b)) == n64 (a ^^^ b)) = true := eq_true (or_and a b)
  have e11 : (n64 ((a ^^^ b) ^^^ b) == n64 a) = true := eq_true (by rw [BitVec.xor_assoc]; simp)
  have e12 : (n64 ((a ||| b) &&& b) == n64 b) = true := eq_true (by ext i; simp; intro h; simp [h])
  go_enter Try.func8, Try.ntmps8
  go_wp2_with fail
  refine (calls_later (x := Later.start (w.alloc (.cells #[.int .u64 (n64 a), .int .u64 (n64 b), .int .u64 (n64 c)] 44))) (o_add _ _ _)).mono ?_
  rintro e w' ⟨rfl, y1, rfl⟩
  go_wp2_with (first
    | (go_at_call_of 29 (Value.int IntKind.i64 35); refine (calls_later (o_add _ _ _)).mono ?_; rintro e w' ⟨rfl, y, rfl⟩)
    | (go_at_call_of 29 (Value.int IntKind.i64 62); refine (calls_later (o_mul _ _ _)).mono ?_; rintro e w' ⟨rfl, y, rfl⟩)
    | (go_at_call_of 29 (Value.int IntKind.i64 36); refine (calls_later (o_sub _ _ _)).mono ?_; rintro e w' ⟨rfl, y, rfl⟩)
    | (go_at_call_of 29 (Value.int IntKind.i64 44); refine (calls_later (o_and _ _ _)).mono ?_; rintro e w' ⟨rfl, y, rfl⟩)
    | (go_at_call_of 29 (Value.int IntKind.i64 43); refine (calls_later (o_or _ _ _)).mono ?_; rintro e w' ⟨rfl, y, rfl⟩)
    | (go_at_call_of 29 (Value.int IntKind.i64 40); refine (calls_later (o_xor _ _ _)).mono ?_; rintro e w' ⟨rfl, y, rfl⟩)
    | (go_at_call 30; refine (calls_later (live_any _)).mono ?_; rintro e w' ⟨rfl, y, rfl⟩))
  refine wp_region_later (by kernel_rfl) (by kernel_rfl) ?_
  repeat (go_big_quiet_step ((first
    | (go_at_call_of 29 (Value.int IntKind.u64 1); exact calls_later (mul_one_at _ _))
    | (go_at_call_of 29 (Value.int IntKind.u64 0); exact calls_later (add_nought_at _ _))
    | (go_at_call_of 29 (Value.int IntKind.i64 35); exact calls_later (o_add _ _ _))
    | (go_at_call_of 29 (Value.int IntKind.i64 62); exact calls_later (o_mul _ _ _))
    | (go_at_call_of 29 (Value.int IntKind.i64 36); exact calls_later (o_sub _ _ _))
    | (go_at_call_of 29 (Value.int IntKind.i64 44); exact calls_later (o_and _ _ _))
    | (go_at_call_of 29 (Value.int IntKind.i64 43); exact calls_later (o_or _ _ _))
    | (go_at_call_of 29 (Value.int IntKind.i64 40); exact calls_later (o_xor _ _ _))
    | (go_at_call 30; exact calls_later (live_any _)))))
  refine wpQuiet_nil ?_
  rintro _ ⟨yq, rfl⟩
  go_wp2_with (first
    | (go_at_call_of 29 (Value.int IntKind.i64 35); refine (calls_later (o_add _ _ _)).mono ?_; rintro e w' ⟨rfl, y, rfl⟩)
    | (go_at_call_of 29 (Value.int IntKind.i64 62); refine (calls_later (o_mul _ _ _)).mono ?_; rintro e w' ⟨rfl, y, rfl⟩)
    | (go_at_call_of 29 (Value.int IntKind.i64 36); refine (calls_later (o_sub _ _ _)).mono ?_; rintro e w' ⟨rfl, y, rfl⟩)
    | (go_at_call_of 29 (Value.int IntKind.i64 44); refine (calls_later (o_and _ _ _)).mono ?_; rintro e w' ⟨rfl, y, rfl⟩)
    | (go_at_call_of 29 (Value.int IntKind.i64 43); refine (calls_later (o_or _ _ _)).mono ?_; rintro e w' ⟨rfl, y, rfl⟩)
    | (go_at_call_of 29 (Value.int IntKind.i64 40); refine (calls_later (o_xor _ _ _)).mono ?_; rintro e w' ⟨rfl, y, rfl⟩)
    | (go_at_call 30; refine (calls_later (live_any _)).mono ?_; rintro e w' ⟨rfl, y, rfl⟩))
  refine wp_region_later (by kernel_rfl) (by kernel_rfl) ?_
  repeat (go_big_quiet_step ((first
    | (go_at_call_of 29 (Value.int IntKind.u64 1); exact calls_later (mul_one_at _ _))
    | (go_at_call_of 29 (Value.int IntKind.u64 0); exact calls_later (add_nought_at _ _))
    | (go_at_call_of 29 (Value.int IntKind.i64 35); exact calls_later (o_add _ _ _))
    | (go_at_call_of 29 (Value.int IntKind.i64 62); exact calls_later (o_mul _ _ _))
    | (go_at_call_of 29 (Value.int IntKind.i64 36); exact calls_later (o_sub _ _ _))
    | (go_at_call_of 29 (Value.int IntKind.i64 44); exact calls_later (o_and _ _ _))
    | (go_at_call_of 29 (Value.int IntKind.i64 43); exact calls_later (o_or _ _ _))
    | (go_at_call_of 29 (Value.int IntKind.i64 40); exact calls_later (o_xor _ _ _))
    | (go_at_call 30; exact calls_later (live_any _)))))
  refine wpQuiet_nil ?_
  rintro _ ⟨yq, rfl⟩
  go_wp2_with (first
    | (go_at_call_of 29 (Value.int IntKind.i64 35); refine (calls_later (o_add _ _ _)).mono ?_; rintro e w' ⟨rfl, y, rfl⟩)
    | (go_at_call_of 29 (Value.int IntKind.i64 62); refine (calls_later (o_mul _ _ _)).mono ?_; rintro e w' ⟨rfl, y, rfl⟩)
    | (go_at_call_of 29 (Value.int IntKind.i64 36); refine (calls_later (o_sub _ _ _)).mono ?_; rintro e w' ⟨rfl, y, rfl⟩)
    | (go_at_call_of 29 (Value.int IntKind.i64 44); refine (calls_later (o_and _ _ _)).mono ?_; rintro e w' ⟨rfl, y, rfl⟩)
    | (go_at_call_of 29 (Value.int IntKind.i64 43); refine (calls_later (o_or _ _ _)).mono ?_; rintro e w' ⟨rfl, y, rfl⟩)
    | (go_at_call_of 29 (Value.int IntKind.i64 40); refine (calls_later (o_xor _ _ _)).mono ?_; rintro e w' ⟨rfl, y, rfl⟩)
    | (go_at_call 30; refine (calls_later (live_any _)).mono ?_; rintro e w' ⟨rfl, y, rfl⟩))
  refine wp_region_later (by kernel_rfl) (by kernel_rfl) ?_
  repeat (go_big_quiet_step ((first
    | (go_at_call_of 29 (Value.int IntKind.u64 1); exact calls_later (mul_one_at _ _))
    | (go_at_call_of 29 (Value.int IntKind.u64 0); exact calls_later (add_nought_at _ _))
    | (go_at_call_of 29 (Value.int IntKind.i64 35); exact calls_later (o_add _ _ _))
    | (go_at_call_of 29 (Value.int IntKind.i64 62); exact calls_later (o_mul _ _ _))
    | (go_at_call_of 29 (Value.int IntKind.i64 36); exact calls_later (o_sub _ _ _))
    | (go_at_call_of 29 (Value.int IntKind.i64 44); exact calls_later (o_and _ _ _))
    | (go_at_call_of 29 (Value.int IntKind.i64 43); exact calls_later (o_or _ _ _))
    | (go_at_call_of 29 (Value.int IntKind.i64 40); exact calls_later (o_xor _ _ _))
    | (go_at_call 30; exact calls_later (live_any _)))))
  refine wpQuiet_nil ?_
  rintro _ ⟨yq, rfl⟩
  go_wp2
  go_ret
  exact ⟨rfl, ((Below.refl _ _).alloc (Nat.le_refl _) _).trans (yq.2.mono (by simp))⟩

theorem own : ownKnob Try.prog.godebug = none := by kernel_rfl
theorem cells : Try.prog.cellsOf 44 = 3 := by kernel_rfl

set_option maxRecDepth 100000 in
theorem lifted (os : Os) (started : os.Started) (H : Type) (enc : TypeId × Value → H) :
    ReturnsInHanded {} Try.checked os 8 .any (Rows.arithRingSpec.pre6 enc Try.prog Try.f8 Rows.arithRingRow.domain false) (Rows.arithRingSpec.post enc Try.prog Try.f8 false true false false) := by
  refine returnsInHanded_of_change (C := Try.checked) own started (by kernel_rfl) Try.func8
    (ChangeSpec.witness6 (enc := enc) (C := Try.checked) false ⟨#[], #[.agg #[.int .u64 0, .int .u64 0, .int .u64 0]], []⟩ 8 (by kernel_rfl) (by kernel_rfl) (by kernel_rfl) (by kernel_rfl)) ?_
  intro W base args ds gs before hval0 hW hcnd _
  have hval : ∀ (j : Nat) t v, Try.f8.params[j]? = some t → args[j]? = some v → Value.okWide Try.prog W .any base t v := hval0
  have hW' := hW
  obtain ⟨p, q, hA0, hV, rfl, hfz, hnd⟩ := hW
  have hA : DataW.TrodAll enc Try.prog W 0 (fun _ => true) true Try.f8.params.toList args.toList ds p := hA0
  rw [Try.params8] at hA hval
  obtain ⟨v0, vs0, d0, ds0, p0, q0, hargs, rfl, rfl, h0, r0⟩ := trodAll_cons hA
  obtain ⟨rfl, rfl, rfl⟩ := trodAll_nil r0
  obtain rfl : args = #[v0] := by cases args; simp_all
  obtain ⟨rfl, rfl⟩ := trodVars_none hV
  have k0 := h0
  obtain ⟨c0, c1, c2, y0, y1, y2, m, rfl, rfl, rfl, g0, g1, g2⟩ := Go.Joins.open_agg3 Try.underlying44 (by kernel_rfl) cells (hval 0 44 v0 rfl rfl) h0
  obtain ⟨i0, e0, rfl, w0⟩ := DataW.trod_int Try.underlying22 g0
  obtain ⟨i1, e1, rfl, w1⟩ := DataW.trod_int Try.underlying22 g1
  obtain ⟨i2, e2, rfl, w2⟩ := DataW.trod_int Try.underlying22 g2
  simp only [List.cons.injEq, and_true] at e0 e1 e2
  subst e0 e1 e2
  obtain ⟨x0, rfl⟩ := n64_of w0
  obtain ⟨x1, rfl⟩ := n64_of w1
  obtain ⟨x2, rfl⟩ := n64_of w2
  clear hA0 hval0
  refine (walk x0 x1 x2 W).mono fun e W' ⟨he, bel⟩ => ?_
  subst he
  exact ⟨_, rfl, _, _, _, [], _, [], hW', trodAll_mk1 (shut_bool Try.underlying4 _), trodAll_cons_mk (Go.Joins.shut_agg3 (y0 := (.lit (.int .u64 (n64 x0)), [])) (y1 := (.lit (.int .u64 (n64 x1)), [])) (y2 := (.lit (.int .u64 (n64 x2)), [])) Try.underlying44 (by kernel_rfl) cells (shut_int Try.underlying22 w0) (shut_int Try.underlying22 w1) (shut_int Try.underlying22 w2)) trodAll_mk0, rfl, bel.frame _, fun h => by cases h⟩

theorem over : Rows.arithRingRow.holds Try.pinned (OpenSpec.ofChange Rows.arithRingSpec) :=
  OpenClaim.holds_of_wide 8 Try.f8 rfl rfl rfl rfl rfl rfl rfl ⟨rfl, rfl, rfl, rfl, rfl⟩ rfl rfl rfl rfl rfl (by kernel_rfl) Try.func8 (by kernel_rfl)
    (of_decide_eq_true (by kernel_rfl)) (by unfold Func.isWrapper; first | (rw [if_pos (by decide +kernel)]; kernel_rfl) | (rw [if_neg (by decide +kernel)]; exact ⟨rfl, rfl⟩))
    (fun os started H enc _ => lifted os started H enc)
end Go.Proofs.Ythnjppfgdkiaaaa.arithRing
namespace Go.Proofs.Ythnjppfgdkiaaaa
theorem arithRing_holds : Rows.ArithRingSaid := arithRing.over
end Go.Proofs.Ythnjppfgdkiaaaa
#print axioms Go.Proofs.Ythnjppfgdkiaaaa.arithRing_holds
