/- ArithDivides -/
import Derived.Test.YthnjppfgdkiaaabDivA
import Derived.Test.YthnjppfgdkiaaabDivB
import Derived.Deep.RegionWith
namespace Go.Proofs.Ythnjppfgdkiaaab.arithDivides
open Go.ChangeShapes Go.WideShapes Go.ChangeAt Go.RowKit

theorem walk (k : Int) (_ : (Lit.int .i64 k).wf = true) (a b : BitVec 64) (i : Int) (_ : (Lit.int .i64 i).wf = true) (j : Int) (_ : (Lit.int .i64 j).wf = true) (w : World) :
    Calls Try.prog 7 #[.agg #[.int .i64 k, .int .u64 (n64 a), .int .u64 (n64 b), .int .i64 i, .int .i64 j]] w fun e w' => e = .returned (.bool true) ∧ Below w.heap.size w w' := by
  have e1 := ne_false (m1 a b)
  have e2 := ne_false (m2 a b)
  by_cases h : b = 0#64
  · have hz : (n64 b == 0) = true := by rw [h]; rfl
    have f1 : (n64 (qDivu a b) == 18446744073709551615) = true := by unfold qDivu; rw [if_pos h]; decide
    have f2 : (n64 (qRemu a b) == n64 a) = true := by unfold qRemu; rw [if_pos h]; simp
    have f3 : (n64 (qDiv a b) == 18446744073709551615) = true := by unfold qDiv; rw [if_pos h]; decide
    have f4 : (n64 (qRem a b) == n64 a) = true := by unfold qRem; rw [if_pos h]; simp
    exact div_z k a b i j e1 e2 hz f1 f2 f3 f4 w
  · have hz : (n64 b == 0) = false := by
      rw [Bool.eq_false_iff]; intro hc; exact h (n64_zero (by simpa using hc))
    have g1 : decide (n64 b ≤ n64 (qRemu a b)) = false := decide_eq_false (by have := m3 (a := a) h; omega)
    have g4 : decide (n64 (sz b) ≤ n64 (sz (qRem a b))) = false := decide_eq_false (by have := m5 (a := a) h; omega)
    have p3 : 1 ≤ n64 (sz b) := by rw [sz_abs]; have := toInt_ne h; omega
    have g6 : (n64 (sz (qDiv a b)) == n64 (sz a / sz b)) = true := by rw [m7 h, n64_udiv]; simp
    have p2 := n64_lo (sz a)
    have p0 := n64_lo a
    have p4 : ¬ n64 (sz b) = 0 := by omega
    by_cases hq : 0 < n64 (qDivu a b)
    · have g3 : decide (n64 (a / qDivu a b) < n64 b) = false := decide_eq_false (by rw [← n64_udiv]; exact m4 h hq)
      by_cases ht : qRem a b = 0#64
      · exact div_qz k a b i j e1 e2 hz p0 g1 (decide_eq_true hq) g4 (by rw [ht]; rfl) p2 p3 p4 g6 (by omega) (by omega) g3 w
      · have g5 : (n64 (qRem a b) != 0) = true := by
          simp only [bne_iff_ne, ne_eq]; exact fun hc => ht (n64_zero hc)
        have hn := m6 h ht
        cases ha : ng a
        · exact div_qm k a b i j e1 e2 hz p0 g1 (decide_eq_true hq) g4 g5 p2 p3 p4 g6 (by omega) (by omega) g3 ha (hn.trans ha) w
        · exact div_qn k a b i j e1 e2 hz p0 g1 (decide_eq_true hq) g4 g5 p2 p3 p4 g6 (by omega) (by omega) g3 ha (hn.trans ha) w
    · by_cases ht : qRem a b = 0#64
      · exact div_pz k a b i j e1 e2 hz p0 g1 (decide_eq_false hq) g4 (by rw [ht]; rfl) p2 p3 p4 g6 w
      · have g5 : (n64 (qRem a b) != 0) = true := by
          simp only [bne_iff_ne, ne_eq]; exact fun hc => ht (n64_zero hc)
        have hn := m6 h ht
        cases ha : ng a
        · exact div_pm k a b i j e1 e2 hz p0 g1 (decide_eq_false hq) g4 g5 p2 p3 p4 g6 ha (hn.trans ha) w
        · exact div_pn k a b i j e1 e2 hz p0 g1 (decide_eq_false hq) g4 g5 p2 p3 p4 g6 ha (hn.trans ha) w

theorem own : ownKnob Try.prog.godebug = none := by kernel_rfl
theorem cells : Try.prog.cellsOf 24 = 5 := by kernel_rfl

set_option maxRecDepth 100000 in
theorem lifted (os : Os) (started : os.Started) (H : Type) (enc : TypeId × Value → H) :
    ReturnsInHanded {} Try.checked os 7 .any (Rows.arithDividesSpec.pre6 enc Try.prog Try.f7 Rows.arithDividesRow.domain false) (Rows.arithDividesSpec.post enc Try.prog Try.f7 false true false false) := by
  refine returnsInHanded_of_change (C := Try.checked) own started (by kernel_rfl) Try.func7
    (ChangeSpec.witness6 (enc := enc) (C := Try.checked) false ⟨#[], #[.agg #[.int .i64 0, .int .u64 0, .int .u64 0, .int .i64 0, .int .i64 0]], []⟩ 8 (by kernel_rfl) (by kernel_rfl) (by kernel_rfl) (by kernel_rfl)) ?_
  intro W base args ds gs before hval0 hW hcnd _
  have hval : ∀ (j : Nat) t v, Try.f7.params[j]? = some t → args[j]? = some v → Value.okWide Try.prog W .any base t v := hval0
  have hW' := hW
  obtain ⟨p, q, hA0, hV, rfl, hfz, hnd⟩ := hW
  have hA : DataW.TrodAll enc Try.prog W 0 (fun _ => true) true Try.f7.params.toList args.toList ds p := hA0
  rw [Try.params7] at hA hval
  obtain ⟨v0, vs0, d0, ds0, p0, q0, hargs, rfl, rfl, h0, r0⟩ := trodAll_cons hA
  obtain ⟨rfl, rfl, rfl⟩ := trodAll_nil r0
  obtain rfl : args = #[v0] := by cases args; simp_all
  obtain ⟨rfl, rfl⟩ := trodVars_none hV
  have k0 := h0
  obtain ⟨c0, c1, c2, c3, c4, y0, y1, y2, y3, y4, m, rfl, rfl, rfl, g0, g1, g2, g3, g4⟩ := open_agg5 Try.underlying24 (by kernel_rfl) cells (hval 0 24 v0 rfl rfl) h0
  obtain ⟨i0, e0, rfl, w0⟩ := DataW.trod_int Try.underlying3 g0
  obtain ⟨i1, e1, rfl, w1⟩ := DataW.trod_int Try.underlying22 g1
  obtain ⟨i2, e2, rfl, w2⟩ := DataW.trod_int Try.underlying22 g2
  obtain ⟨i3, e3, rfl, w3⟩ := DataW.trod_int Try.underlying3 g3
  obtain ⟨i4, e4, rfl, w4⟩ := DataW.trod_int Try.underlying3 g4
  simp only [List.cons.injEq, and_true] at e0 e1 e2 e3 e4
  subst e0 e1 e2 e3 e4
  obtain ⟨x1, rfl⟩ := n64_of w1
  obtain ⟨x2, rfl⟩ := n64_of w2
  clear hA0 hval0
  refine (walk i0 w0 x1 x2 i3 w3 i4 w4 W).mono fun e W' ⟨he, bel⟩ => ?_
  subst he
  exact ⟨_, rfl, _, _, _, [], _, [], hW', trodAll_mk1 (shut_bool Try.underlying4 _), trodAll_cons_mk (shut_agg5 (y0 := (.lit (.int .i64 i0), [])) (y1 := (.lit (.int .u64 (n64 x1)), [])) (y2 := (.lit (.int .u64 (n64 x2)), [])) (y3 := (.lit (.int .i64 i3), [])) (y4 := (.lit (.int .i64 i4), [])) Try.underlying24 (by kernel_rfl) cells (shut_int Try.underlying3 w0) (shut_int Try.underlying22 w1) (shut_int Try.underlying22 w2) (shut_int Try.underlying3 w3) (shut_int Try.underlying3 w4)) trodAll_mk0, rfl, bel.frame _, fun h => by cases h⟩

theorem over : Rows.arithDividesRow.holds Try.pinned (OpenSpec.ofChange Rows.arithDividesSpec) :=
  OpenClaim.holds_of_wide 7 Try.f7 rfl rfl rfl rfl rfl rfl rfl ⟨rfl, rfl, rfl, rfl, rfl⟩ rfl rfl rfl rfl rfl (by kernel_rfl) Try.func7 (by kernel_rfl)
    (of_decide_eq_true (by kernel_rfl)) (by unfold Func.isWrapper; first | (rw [if_pos (by decide +kernel)]; kernel_rfl) | (rw [if_neg (by decide +kernel)]; exact ⟨rfl, rfl⟩))
    (fun os started H enc _ => lifted os started H enc)
end Go.Proofs.Ythnjppfgdkiaaab.arithDivides
namespace Go.Proofs.Ythnjppfgdkiaaab
theorem arithDivides_holds : Rows.ArithDividesSaid := arithDivides.over
end Go.Proofs.Ythnjppfgdkiaaab
#print axioms Go.Proofs.Ythnjppfgdkiaaab.arithDivides_holds
