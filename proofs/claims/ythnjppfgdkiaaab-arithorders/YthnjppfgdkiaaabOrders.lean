/- ArithOrders -/
import Derived.Test.YthnjppfgdkiaaabOrdE
import Derived.Test.YthnjppfgdkiaaabOrdUS
import Derived.Test.YthnjppfgdkiaaabOrdUR
import Derived.Test.YthnjppfgdkiaaabOrdVS
import Derived.Test.YthnjppfgdkiaaabOrdVR
import Derived.Deep.RegionWith
namespace Go.Proofs.Ythnjppfgdkiaaab.arithOrders
open Go.ChangeShapes Go.WideShapes Go.ChangeAt Go.RowKit

theorem uT {a b : BitVec 64} (h : n64 a < n64 b) : uLt a b = true := by unfold uLt; simp [h]
theorem uF {a b : BitVec 64} (h : n64 b ≤ n64 a) : uLt a b = false := by unfold uLt; simp; omega
theorem sT {a b : BitVec 64} (h : a.toInt < b.toInt) : sLt a b = true := by unfold sLt; simp [h]
theorem sF {a b : BitVec 64} (h : b.toInt ≤ a.toInt) : sLt a b = false := by unfold sLt; simp; omega
theorem bT {a b : BitVec 64} (h : sLt a b = true) : n64 (bSlt a b) = 1 := by unfold bSlt; unfold sLt at h; rw [if_pos (by simpa using h)]; rfl
theorem bF {a b : BitVec 64} (h : sLt a b = false) : n64 (bSlt a b) = 0 := by unfold bSlt; unfold sLt at h; rw [if_neg (by simpa using h)]; rfl
theorem bUT {a b : BitVec 64} (h : uLt a b = true) : n64 (bSltu a b) = 1 := by unfold bSltu; unfold uLt at h; rw [if_pos (by simpa using h)]; rfl
theorem bUF {a b : BitVec 64} (h : uLt a b = false) : n64 (bSltu a b) = 0 := by unfold bSltu; unfold uLt at h; rw [if_neg (by simpa using h)]; rfl
theorem neT {x y : BitVec 64} (h : ¬ x = y) : (n64 x != n64 y) = true := by
  simp only [bne_iff_ne, ne_eq]; exact fun hc => h (n64_inj.1 hc)
theorem eqF {x y : BitVec 64} (h : ¬ x = y) : (n64 x == n64 y) = false := by
  simp only [beq_eq_false_iff_ne, ne_eq]; exact fun hc => h (n64_inj.1 hc)

theorem walk (k : Int) (_ : (Lit.int .i64 k).wf = true) (a b : BitVec 64) (i : Int) (_ : (Lit.int .i64 i).wf = true) (j : Int) (_ : (Lit.int .i64 j).wf = true) (w : World) :
    Calls Try.prog 8 #[.agg #[.int .i64 k, .int .u64 (n64 a), .int .u64 (n64 b), .int .i64 i, .int .i64 j]] w fun e w' => e = .returned (.bool true) ∧ Below w.heap.size w w' := by
  by_cases e : a = b
  · subst e
    have u := uF (a := a) (b := a) (Int.le_refl _)
    have s := sF (a := a) (b := a) (Int.le_refl _)
    exact case_eq k a i j (eq_true rfl) (eq_true rfl) u s ((top_lt a a).trans s) (by simp) (bF s) (bUF u) (by simp [sMin]) (by simp [sMax]) (by simp [uMin]) (by simp [uMax]) (by simp) w
  · have e' : ¬ b = a := fun h => e h.symm
    have ne : n64 a ≠ n64 b := fun h => e (n64_inj.1 h)
    have nei : a.toInt ≠ b.toInt := fun h => e (BitVec.eq_of_toInt_eq h)
    have x1 : (n64 (b ^^^ a) != n64 (a ^^^ b)) = false := ne_false (BitVec.xor_comm b a)
    rcases Int.lt_or_lt_of_ne ne with hu | hu <;> rcases Int.lt_or_lt_of_ne nei with hs | hs
    · have u1 : uLt a b = true := uT hu
      have u2 : uLt b a = false := uF (by omega)
      have s1 : sLt a b = true := sT hs
      have s2 : sLt b a = false := sF (by omega)
      exact case_us k a b i j (eqF e) (eqF e) u1 s1 ((top_lt a b).trans s1) (by simp; omega) (bT s1) (bUT u1) (by simp [sMin, s2]) (by simp [sMax, s1]) (by simp [uMin, u2]) (by simp [uMax, u1]) (by simp; omega) (neT e) (neT e') u2 s2 x1 w
    · have u1 : uLt a b = true := uT hu
      have u2 : uLt b a = false := uF (by omega)
      have s1 : sLt a b = false := sF (by omega)
      have s2 : sLt b a = true := sT hs
      exact case_ur k a b i j (eqF e) (eqF e) u1 s1 ((top_lt a b).trans s1) (by simp; omega) (bF s1) (bUT u1) (by simp [sMin, s2]) (by simp [sMax, s1]) (by simp [uMin, u2]) (by simp [uMax, u1]) (by simp; omega) (neT e) (neT e') u2 s2 x1 w
    · have u1 : uLt a b = false := uF (by omega)
      have u2 : uLt b a = true := uT hu
      have s1 : sLt a b = true := sT hs
      have s2 : sLt b a = false := sF (by omega)
      exact case_vs k a b i j (eqF e) (eqF e) u1 s1 ((top_lt a b).trans s1) (by simp; omega) (bT s1) (bUF u1) (by simp [sMin, s2]) (by simp [sMax, s1]) (by simp [uMin, u2]) (by simp [uMax, u1]) (by simp; omega) (neT e) (neT e') u2 s2 x1 w
    · have u1 : uLt a b = false := uF (by omega)
      have u2 : uLt b a = true := uT hu
      have s1 : sLt a b = false := sF (by omega)
      have s2 : sLt b a = true := sT hs
      exact case_vr k a b i j (eqF e) (eqF e) u1 s1 ((top_lt a b).trans s1) (by simp; omega) (bF s1) (bUF u1) (by simp [sMin, s2]) (by simp [sMax, s1]) (by simp [uMin, u2]) (by simp [uMax, u1]) (by simp; omega) (neT e) (neT e') u2 s2 x1 w

theorem own : ownKnob Try.prog.godebug = none := by kernel_rfl
theorem cells : Try.prog.cellsOf 24 = 5 := by kernel_rfl

set_option maxRecDepth 100000 in
theorem lifted (os : Os) (started : os.Started) (H : Type) (enc : TypeId × Value → H) :
    ReturnsInHanded {} Try.checked os 8 .any (Rows.arithOrdersSpec.pre6 enc Try.prog Try.f8 Rows.arithOrdersRow.domain false) (Rows.arithOrdersSpec.post enc Try.prog Try.f8 false true false false) := by
  refine returnsInHanded_of_change (C := Try.checked) own started (by kernel_rfl) Try.func8
    (ChangeSpec.witness6 (enc := enc) (C := Try.checked) false ⟨#[], #[.agg #[.int .i64 0, .int .u64 0, .int .u64 0, .int .i64 0, .int .i64 0]], []⟩ 8 (by kernel_rfl) (by kernel_rfl) (by kernel_rfl) (by kernel_rfl)) ?_
  intro W base args ds gs before hval0 hW hcnd _
  have hval : ∀ (j : Nat) t v, Try.f8.params[j]? = some t → args[j]? = some v → Value.okWide Try.prog W .any base t v := hval0
  have hW' := hW
  obtain ⟨p, q, hA0, hV, rfl, hfz, hnd⟩ := hW
  have hA : DataW.TrodAll enc Try.prog W 0 (fun _ => true) true Try.f8.params.toList args.toList ds p := hA0
  rw [Try.params8] at hA hval
  obtain ⟨v0, vs0, d0, ds0, p0, q0, hargs, rfl, rfl, h0, r0⟩ := trodAll_cons hA
  obtain ⟨rfl, rfl, rfl⟩ := trodAll_nil r0
  obtain rfl : args = #[v0] := by cases args; simp_all
  obtain ⟨rfl, rfl⟩ := trodVars_none hV
  have k0 := h0
  obtain ⟨c0, c1, c2, c3, c4, y0, y1, y2, y3, y4, m, rfl, rfl, rfl, g0, g1, g2, g3, g4⟩ := open_agg5 Try.underlying24 (by kernel_rfl) cells (hval 0 24 v0 rfl rfl) h0
  obtain ⟨i0, e0, rfl, w0⟩ := DataW.trod_int Try.underlying3 g0
  obtain ⟨i1, e1, rfl, w1⟩ := DataW.trod_int Try.underlying22 g1
  obtain ⟨i2, e2, rfl, w2⟩ := DataW.trod_int Try.underlying22 g2
  obtain ⟨i3, e3, rfl, w3⟩ := DataW.trod_int Try.underlying3 g3
  obtain ⟨i4, e4, rfl, w4⟩ := DataW.trod_int Try.underlying3 g4
  simp only [List.cons.injEq, and_true] at e0 e1 e2 e3 e4
  subst e0 e1 e2 e3 e4
  obtain ⟨x1, rfl⟩ := n64_of w1
  obtain ⟨x2, rfl⟩ := n64_of w2
  clear hA0 hval0
  refine (walk i0 w0 x1 x2 i3 w3 i4 w4 W).mono fun e W' ⟨he, bel⟩ => ?_
  subst he
  exact ⟨_, rfl, _, _, _, [], _, [], hW', trodAll_mk1 (shut_bool Try.underlying4 _), trodAll_cons_mk (shut_agg5 (y0 := (.lit (.int .i64 i0), [])) (y1 := (.lit (.int .u64 (n64 x1)), [])) (y2 := (.lit (.int .u64 (n64 x2)), [])) (y3 := (.lit (.int .i64 i3), [])) (y4 := (.lit (.int .i64 i4), [])) Try.underlying24 (by kernel_rfl) cells (shut_int Try.underlying3 w0) (shut_int Try.underlying22 w1) (shut_int Try.underlying22 w2) (shut_int Try.underlying3 w3) (shut_int Try.underlying3 w4)) trodAll_mk0, rfl, bel.frame _, fun h => by cases h⟩

theorem over : Rows.arithOrdersRow.holds Try.pinned (OpenSpec.ofChange Rows.arithOrdersSpec) :=
  OpenClaim.holds_of_wide 8 Try.f8 rfl rfl rfl rfl rfl rfl rfl ⟨rfl, rfl, rfl, rfl, rfl⟩ rfl rfl rfl rfl rfl (by kernel_rfl) Try.func8 (by kernel_rfl)
    (of_decide_eq_true (by kernel_rfl)) (by unfold Func.isWrapper; first | (rw [if_pos (by decide +kernel)]; kernel_rfl) | (rw [if_neg (by decide +kernel)]; exact ⟨rfl, rfl⟩))
    (fun os started H enc _ => lifted os started H enc)
end Go.Proofs.Ythnjppfgdkiaaab.arithOrders
namespace Go.Proofs.Ythnjppfgdkiaaab
theorem arithOrders_holds : Rows.ArithOrdersSaid := arithOrders.over
end Go.Proofs.Ythnjppfgdkiaaab
#print axioms Go.Proofs.Ythnjppfgdkiaaab.arithOrders_holds
