/- ArithAmos -/
import Derived.Test.YthnjppfgdkiaaaaAmN
import Derived.Test.YthnjppfgdkiaaaaKnN
import Derived.Deep.RegionWith
namespace Go.Proofs.Ythnjppfgdkiaaaa.arithAmos
open Go.ChangeShapes Go.WideShapes Go.ChangeAt Go.RowKit

theorem law_of (k : Int) (a b : BitVec 64) (i j : Int) (r : Int) (ok : Bool)
    (h1 : ∀ w : World, Calls Try.prog 27 #[.int .i64 k, .int .u64 (n64 a), .int .u64 (n64 b)] w fun e w' => e = .returned (.tuple #[.int .u64 r, .bool ok]) ∧ Below w.heap.size w w')
    (h2 : ∀ w : World, Calls Try.prog 28 #[.int .i64 k, .int .u64 (n64 a), .int .u64 (n64 b)] w fun e w' => e = .returned (.tuple #[.int .u64 r, .bool ok]) ∧ Below w.heap.size w w') (w : World) :
    Calls Try.prog 7 #[.agg #[.int .i64 k, .int .u64 (n64 a), .int .u64 (n64 b), .int .i64 i, .int .i64 j]] w fun e w' => e = .returned (.bool true) ∧ Below w.heap.size w w' := by
  have hne := later_nonempty (w.alloc (.cells #[.int .i64 k, .int .u64 (n64 a), .int .u64 (n64 b), .int .i64 i, .int .i64 j] 24))
  have hz : ∀ _ : Later (w.alloc (.cells #[.int .i64 k, .int .u64 (n64 a), .int .u64 (n64 b), .int .i64 i, .int .i64 j] 24)), w.heap.size < (w.alloc (.cells #[.int .i64 k, .int .u64 (n64 a), .int .u64 (n64 b), .int .i64 i, .int .i64 j] 24)).heap.size := fun _ => by simp
  have hc0 : ∀ x : Later (w.alloc (.cells #[.int .i64 k, .int .u64 (n64 a), .int .u64 (n64 b), .int .i64 i, .int .i64 j] 24)), x.1.cell? ⟨w.heap.size, 0, none⟩ = some (.int .i64 k) := fun x => by rw [later_cell x (hz x)]; simp
  have hc1 : ∀ x : Later (w.alloc (.cells #[.int .i64 k, .int .u64 (n64 a), .int .u64 (n64 b), .int .i64 i, .int .i64 j] 24)), x.1.cell? ⟨w.heap.size, 1, none⟩ = some (.int .u64 (n64 a)) := fun x => by rw [later_cell x (hz x)]; simp
  have hc2 : ∀ x : Later (w.alloc (.cells #[.int .i64 k, .int .u64 (n64 a), .int .u64 (n64 b), .int .i64 i, .int .i64 j] 24)), x.1.cell? ⟨w.heap.size, 2, none⟩ = some (.int .u64 (n64 b)) := fun x => by rw [later_cell x (hz x)]; simp
  clear hz
  cases ok
  all_goals
    go_enter Try.func7, Try.ntmps7
    go_wp2_with fail
    refine (calls_later (x := Later.start (w.alloc (.cells #[.int .i64 k, .int .u64 (n64 a), .int .u64 (n64 b), .int .i64 i, .int .i64 j] 24))) (h1 _)).mono ?_
    rintro e w' ⟨rfl, y1, rfl⟩
    go_wp2_with fail
    refine (calls_later (h2 _)).mono ?_
    rintro e w' ⟨rfl, y2, rfl⟩
    go_wp2
    go_ret
    exact ⟨rfl, ((Below.refl _ _).alloc (Nat.le_refl _) _).trans (y2.2.mono (by simp))⟩

theorem walk (k : Int) (_ : (Lit.int .i64 k).wf = true) (a b : BitVec 64) (i : Int) (_ : (Lit.int .i64 i).wf = true) (j : Int) (_ : (Lit.int .i64 j).wf = true) (w : World) :
    Calls Try.prog 7 #[.agg #[.int .i64 k, .int .u64 (n64 a), .int .u64 (n64 b), .int .i64 i, .int .i64 j]] w fun e w' => e = .returned (.bool true) ∧ Below w.heap.size w w' := by
  by_cases h1 : 77 ≤ k ∧ k ≤ 85
  · obtain ⟨n, hn, hl⟩ : ∃ n : Nat, k = 77 + (n : Int) ∧ n < 9 := ⟨(k - 77).toNat, by omega, by omega⟩
    refine law_of k a b i j _ true (fun w => ?_) (fun w => refAmo_word n hl k hn a b w) w
    rw [mW_ref n hl, hn]
    exact arith_mW n hl a b w
  by_cases h2 : 88 ≤ k ∧ k ≤ 96
  · obtain ⟨n, hn, hl⟩ : ∃ n : Nat, k = 88 + (n : Int) ∧ n < 9 := ⟨(k - 88).toNat, by omega, by omega⟩
    refine law_of k a b i j _ true (fun w => ?_) (fun w => refAmo_long n hl k hn a b w) w
    rw [mD_ref n hl, hn]
    exact arith_mD n hl a b w
  · have hm : mK k = false := by unfold mK; simp only [decide_eq_false_iff_not]; omega
    have hz : asz k = 0 := by unfold asz; rw [if_neg h1, if_neg h2]
    exact law_of k a b i j 0 false (fun w => mo_none k hm _ _ w) (fun w => refAmo_none k hz _ _ w) w

theorem own : ownKnob Try.prog.godebug = none := by kernel_rfl
theorem cells : Try.prog.cellsOf 24 = 5 := by kernel_rfl

set_option maxRecDepth 100000 in
theorem lifted (os : Os) (started : os.Started) (H : Type) (enc : TypeId × Value → H) :
    ReturnsInHanded {} Try.checked os 7 .any (Rows.arithAmosSpec.pre6 enc Try.prog Try.f7 Rows.arithAmosRow.domain false) (Rows.arithAmosSpec.post enc Try.prog Try.f7 false true false false) := by
  refine returnsInHanded_of_change (C := Try.checked) own started (by kernel_rfl) Try.func7
    (ChangeSpec.witness6 (enc := enc) (C := Try.checked) false ⟨#[], #[.agg #[.int .i64 0, .int .u64 0, .int .u64 0, .int .i64 0, .int .i64 0]], []⟩ 8 (by kernel_rfl) (by kernel_rfl) (by kernel_rfl) (by kernel_rfl)) ?_
  intro W base args ds gs before hval0 hW hcnd _
  have hval : ∀ (j : Nat) t v, Try.f7.params[j]? = some t → args[j]? = some v → Value.okWide Try.prog W .any base t v := hval0
  have hW' := hW
  obtain ⟨p, q, hA0, hV, rfl, hfz, hnd⟩ := hW
  have hA : DataW.TrodAll enc Try.prog W 0 (fun _ => true) true Try.f7.params.toList args.toList ds p := hA0
  rw [Try.params7] at hA hval
  obtain ⟨v0, vs0, d0, ds0, p0, q0, hargs, rfl, rfl, h0, r0⟩ := trodAll_cons hA
  obtain ⟨rfl, rfl, rfl⟩ := trodAll_nil r0
  obtain rfl : args = #[v0] := by cases args; simp_all
  obtain ⟨rfl, rfl⟩ := trodVars_none hV
  have k0 := h0
  obtain ⟨c0, c1, c2, c3, c4, y0, y1, y2, y3, y4, m, rfl, rfl, rfl, g0, g1, g2, g3, g4⟩ := open_agg5 Try.underlying24 (by kernel_rfl) cells (hval 0 24 v0 rfl rfl) h0
  obtain ⟨i0, e0, rfl, w0⟩ := DataW.trod_int Try.underlying3 g0
  obtain ⟨i1, e1, rfl, w1⟩ := DataW.trod_int Try.underlying22 g1
  obtain ⟨i2, e2, rfl, w2⟩ := DataW.trod_int Try.underlying22 g2
  obtain ⟨i3, e3, rfl, w3⟩ := DataW.trod_int Try.underlying3 g3
  obtain ⟨i4, e4, rfl, w4⟩ := DataW.trod_int Try.underlying3 g4
  simp only [List.cons.injEq, and_true] at e0 e1 e2 e3 e4
  subst e0 e1 e2 e3 e4
  obtain ⟨x1, rfl⟩ := n64_of w1
  obtain ⟨x2, rfl⟩ := n64_of w2
  clear hA0 hval0
  refine (walk i0 w0 x1 x2 i3 w3 i4 w4 W).mono fun e W' ⟨he, bel⟩ => ?_
  subst he
  exact ⟨_, rfl, _, _, _, [], _, [], hW', trodAll_mk1 (shut_bool Try.underlying4 _), trodAll_cons_mk (shut_agg5 (y0 := (.lit (.int .i64 i0), [])) (y1 := (.lit (.int .u64 (n64 x1)), [])) (y2 := (.lit (.int .u64 (n64 x2)), [])) (y3 := (.lit (.int .i64 i3), [])) (y4 := (.lit (.int .i64 i4), [])) Try.underlying24 (by kernel_rfl) cells (shut_int Try.underlying3 w0) (shut_int Try.underlying22 w1) (shut_int Try.underlying22 w2) (shut_int Try.underlying3 w3) (shut_int Try.underlying3 w4)) trodAll_mk0, rfl, bel.frame _, fun h => by cases h⟩

theorem over : Rows.arithAmosRow.holds Try.pinned (OpenSpec.ofChange Rows.arithAmosSpec) :=
  OpenClaim.holds_of_wide 7 Try.f7 rfl rfl rfl rfl rfl rfl rfl ⟨rfl, rfl, rfl, rfl, rfl⟩ rfl rfl rfl rfl rfl (by kernel_rfl) Try.func7 (by kernel_rfl)
    (of_decide_eq_true (by kernel_rfl)) (by unfold Func.isWrapper; first | (rw [if_pos (by decide +kernel)]; kernel_rfl) | (rw [if_neg (by decide +kernel)]; exact ⟨rfl, rfl⟩))
    (fun os started H enc _ => lifted os started H enc)
end Go.Proofs.Ythnjppfgdkiaaaa.arithAmos
namespace Go.Proofs.Ythnjppfgdkiaaaa
theorem arithAmos_holds : Rows.ArithAmosSaid := arithAmos.over
end Go.Proofs.Ythnjppfgdkiaaaa
#print axioms Go.Proofs.Ythnjppfgdkiaaaa.arithAmos_holds
