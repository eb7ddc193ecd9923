/- ArithProducts -/
import Derived.Test.YthnjppfgdkiaaaaRWide
import Derived.Deep.RegionWith
namespace Go.Proofs.Ythnjppfgdkiaaaa.arithProducts
open Go.ChangeShapes Go.WideShapes Go.ChangeAt Go.RowKit

theorem rw_uu (x y : BitVec 64) (w : World) : Calls Try.prog 24 #[.int .u64 (n64 x), .int .u64 (n64 y), .bool false, .bool false] w fun e w' => e = .returned (.tuple #[.int .u64 (n64 (hiP x y)), .int .u64 (n64 (x * y))]) ∧ Below w.heap.size w w' := by
  have h := refWide_any x y false false w
  simp only [Bool.false_and, Bool.false_eq_true, if_false, BitVec.sub_zero] at h
  exact h
theorem rw_su (x y : BitVec 64) (w : World) : Calls Try.prog 24 #[.int .u64 (n64 x), .int .u64 (n64 y), .bool true, .bool false] w fun e w' => e = .returned (.tuple #[.int .u64 (n64 (hiP x y - exc x y)), .int .u64 (n64 (x * y))]) ∧ Below w.heap.size w w' := by
  have h := refWide_any x y true false w
  simp only [Bool.true_and, Bool.false_and, Bool.false_eq_true, if_false, BitVec.sub_zero] at h
  exact h
theorem rw_ss (x y : BitVec 64) (w : World) : Calls Try.prog 24 #[.int .u64 (n64 x), .int .u64 (n64 y), .bool true, .bool true] w fun e w' => e = .returned (.tuple #[.int .u64 (n64 (hiP x y - exc x y - exc y x)), .int .u64 (n64 (x * y))]) ∧ Below w.heap.size w w' := by
  have h := refWide_any x y true true w
  simp only [Bool.true_and] at h
  exact h

theorem walk (k : Int) (_ : (Lit.int .i64 k).wf = true) (a b : BitVec 64) (i : Int) (_ : (Lit.int .i64 i).wf = true) (j : Int) (_ : (Lit.int .i64 j).wf = true) (w : World) :
    Calls Try.prog 6 #[.agg #[.int .i64 k, .int .u64 (n64 a), .int .u64 (n64 b), .int .i64 i, .int .i64 j]] w fun e w' => e = .returned (.bool true) ∧ Below w.heap.size w w' := by
  have hne := later_nonempty (w.alloc (.cells #[.int .i64 k, .int .u64 (n64 a), .int .u64 (n64 b), .int .i64 i, .int .i64 j] 24))
  have hz : ∀ _ : Later (w.alloc (.cells #[.int .i64 k, .int .u64 (n64 a), .int .u64 (n64 b), .int .i64 i, .int .i64 j] 24)), w.heap.size < (w.alloc (.cells #[.int .i64 k, .int .u64 (n64 a), .int .u64 (n64 b), .int .i64 i, .int .i64 j] 24)).heap.size := fun _ => by simp
  have hc1 : ∀ x : Later (w.alloc (.cells #[.int .i64 k, .int .u64 (n64 a), .int .u64 (n64 b), .int .i64 i, .int .i64 j] 24)), x.1.cell? ⟨w.heap.size, 1, none⟩ = some (.int .u64 (n64 a)) := fun x => by rw [later_cell x (hz x)]; simp
  have hc2 : ∀ x : Later (w.alloc (.cells #[.int .i64 k, .int .u64 (n64 a), .int .u64 (n64 b), .int .i64 i, .int .i64 j] 24)), x.1.cell? ⟨w.heap.size, 2, none⟩ = some (.int .u64 (n64 b)) := fun x => by rw [later_cell x (hz x)]; simp
  clear hz
  go_enter Try.func6, Try.ntmps6
  go_wp2_with fail
  refine (calls_later_same (x := Later.start (w.alloc (.cells #[.int .i64 k, .int .u64 (n64 a), .int .u64 (n64 b), .int .i64 i, .int .i64 j] 24))) (wide_any _ _ _)).mono ?_
  rintro e w' ⟨rfl, y1, rfl⟩
  go_wp2_with fail
  refine (calls_later (rw_uu _ _ _)).mono ?_
  rintro e w' ⟨rfl, y2, rfl⟩
  go_wp2_with fail
  refine (calls_later_same (wideSigned_any _ _ _)).mono ?_
  rintro e w' ⟨rfl, y3, rfl⟩
  go_wp2_with fail
  refine (calls_later (rw_ss _ _ _)).mono ?_
  rintro e w' ⟨rfl, y4, rfl⟩
  go_wp2_with fail
  refine (calls_later_same (wideMixed_any _ _ _)).mono ?_
  rintro e w' ⟨rfl, y5, rfl⟩
  go_wp2_with fail
  refine (calls_later (rw_su _ _ _)).mono ?_
  rintro e w' ⟨rfl, yq, rfl⟩
  go_wp2
  go_ret
  exact ⟨rfl, ((Below.refl _ _).alloc (Nat.le_refl _) _).trans (yq.2.mono (by simp))⟩

theorem own : ownKnob Try.prog.godebug = none := by kernel_rfl
theorem cells : Try.prog.cellsOf 24 = 5 := by kernel_rfl

set_option maxRecDepth 100000 in
theorem lifted (os : Os) (started : os.Started) (H : Type) (enc : TypeId × Value → H) :
    ReturnsInHanded {} Try.checked os 6 .any (Rows.arithProductsSpec.pre6 enc Try.prog Try.f6 Rows.arithProductsRow.domain false) (Rows.arithProductsSpec.post enc Try.prog Try.f6 false true false false) := by
  refine returnsInHanded_of_change (C := Try.checked) own started (by kernel_rfl) Try.func6
    (ChangeSpec.witness6 (enc := enc) (C := Try.checked) false ⟨#[], #[.agg #[.int .i64 0, .int .u64 0, .int .u64 0, .int .i64 0, .int .i64 0]], []⟩ 8 (by kernel_rfl) (by kernel_rfl) (by kernel_rfl) (by kernel_rfl)) ?_
  intro W base args ds gs before hval0 hW hcnd _
  have hval : ∀ (j : Nat) t v, Try.f6.params[j]? = some t → args[j]? = some v → Value.okWide Try.prog W .any base t v := hval0
  have hW' := hW
  obtain ⟨p, q, hA0, hV, rfl, hfz, hnd⟩ := hW
  have hA : DataW.TrodAll enc Try.prog W 0 (fun _ => true) true Try.f6.params.toList args.toList ds p := hA0
  rw [Try.params6] at hA hval
  obtain ⟨v0, vs0, d0, ds0, p0, q0, hargs, rfl, rfl, h0, r0⟩ := trodAll_cons hA
  obtain ⟨rfl, rfl, rfl⟩ := trodAll_nil r0
  obtain rfl : args = #[v0] := by cases args; simp_all
  obtain ⟨rfl, rfl⟩ := trodVars_none hV
  have k0 := h0
  obtain ⟨c0, c1, c2, c3, c4, y0, y1, y2, y3, y4, m, rfl, rfl, rfl, g0, g1, g2, g3, g4⟩ := open_agg5 Try.underlying24 (by kernel_rfl) cells (hval 0 24 v0 rfl rfl) h0
  obtain ⟨i0, e0, rfl, w0⟩ := DataW.trod_int Try.underlying3 g0
  obtain ⟨i1, e1, rfl, w1⟩ := DataW.trod_int Try.underlying22 g1
  obtain ⟨i2, e2, rfl, w2⟩ := DataW.trod_int Try.underlying22 g2
  obtain ⟨i3, e3, rfl, w3⟩ := DataW.trod_int Try.underlying3 g3
  obtain ⟨i4, e4, rfl, w4⟩ := DataW.trod_int Try.underlying3 g4
  simp only [List.cons.injEq, and_true] at e0 e1 e2 e3 e4
  subst e0 e1 e2 e3 e4
  obtain ⟨x1, rfl⟩ := n64_of w1
  obtain ⟨x2, rfl⟩ := n64_of w2
  clear hA0 hval0
  refine (walk i0 w0 x1 x2 i3 w3 i4 w4 W).mono fun e W' ⟨he, bel⟩ => ?_
  subst he
  exact ⟨_, rfl, _, _, _, [], _, [], hW', trodAll_mk1 (shut_bool Try.underlying4 _), trodAll_cons_mk (shut_agg5 (y0 := (.lit (.int .i64 i0), [])) (y1 := (.lit (.int .u64 (n64 x1)), [])) (y2 := (.lit (.int .u64 (n64 x2)), [])) (y3 := (.lit (.int .i64 i3), [])) (y4 := (.lit (.int .i64 i4), [])) Try.underlying24 (by kernel_rfl) cells (shut_int Try.underlying3 w0) (shut_int Try.underlying22 w1) (shut_int Try.underlying22 w2) (shut_int Try.underlying3 w3) (shut_int Try.underlying3 w4)) trodAll_mk0, rfl, bel.frame _, fun h => by cases h⟩

theorem over : Rows.arithProductsRow.holds Try.pinned (OpenSpec.ofChange Rows.arithProductsSpec) :=
  OpenClaim.holds_of_wide 6 Try.f6 rfl rfl rfl rfl rfl rfl rfl ⟨rfl, rfl, rfl, rfl, rfl⟩ rfl rfl rfl rfl rfl (by kernel_rfl) Try.func6 (by kernel_rfl)
    (of_decide_eq_true (by kernel_rfl)) (by unfold Func.isWrapper; first | (rw [if_pos (by decide +kernel)]; kernel_rfl) | (rw [if_neg (by decide +kernel)]; exact ⟨rfl, rfl⟩))
    (fun os started H enc _ => lifted os started H enc)
end Go.Proofs.Ythnjppfgdkiaaaa.arithProducts
namespace Go.Proofs.Ythnjppfgdkiaaaa
theorem arithProducts_holds : Rows.ArithProductsSaid := arithProducts.over
end Go.Proofs.Ythnjppfgdkiaaaa
#print axioms Go.Proofs.Ythnjppfgdkiaaaa.arithProducts_holds
