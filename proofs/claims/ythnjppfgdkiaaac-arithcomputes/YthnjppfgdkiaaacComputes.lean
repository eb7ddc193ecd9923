/- ArithComputes -/
import Derived.Test.YthnjppfgdkiaaacC12
import Derived.Deep.RegionWith
namespace Go.Proofs.Ythnjppfgdkiaaac.arithComputes
open Go.ChangeShapes Go.WideShapes Go.ChangeAt Go.RowKit

theorem law_of (k : Int) (a b : BitVec 64) (i j : Int) (r : Int) (ok : Bool)
    (h1 : ∀ w : World, Calls Try.prog 12 #[.int .i64 k, .int .u64 (n64 a), .int .u64 (n64 b)] w fun e w' => e = .returned (.tuple #[.int .u64 r, .bool ok]) ∧ Below w.heap.size w w')
    (h2 : ∀ w : World, Calls Try.prog 15 #[.int .i64 k, .int .u64 (n64 a), .int .u64 (n64 b)] w fun e w' => e = .returned (.tuple #[.int .u64 r, .bool ok]) ∧ Below w.heap.size w w') (w : World) :
    Calls Try.prog 5 #[.agg #[.int .i64 k, .int .u64 (n64 a), .int .u64 (n64 b), .int .i64 i, .int .i64 j]] w fun e w' => e = .returned (.bool true) ∧ Below w.heap.size w w' := by
  have hne := later_nonempty (w.alloc (.cells #[.int .i64 k, .int .u64 (n64 a), .int .u64 (n64 b), .int .i64 i, .int .i64 j] 24))
  have hz : ∀ _ : Later (w.alloc (.cells #[.int .i64 k, .int .u64 (n64 a), .int .u64 (n64 b), .int .i64 i, .int .i64 j] 24)), w.heap.size < (w.alloc (.cells #[.int .i64 k, .int .u64 (n64 a), .int .u64 (n64 b), .int .i64 i, .int .i64 j] 24)).heap.size := fun _ => by simp
  have hc0 : ∀ x : Later (w.alloc (.cells #[.int .i64 k, .int .u64 (n64 a), .int .u64 (n64 b), .int .i64 i, .int .i64 j] 24)), x.1.cell? ⟨w.heap.size, 0, none⟩ = some (.int .i64 k) := fun x => by rw [later_cell x (hz x)]; simp
  have hc1 : ∀ x : Later (w.alloc (.cells #[.int .i64 k, .int .u64 (n64 a), .int .u64 (n64 b), .int .i64 i, .int .i64 j] 24)), x.1.cell? ⟨w.heap.size, 1, none⟩ = some (.int .u64 (n64 a)) := fun x => by rw [later_cell x (hz x)]; simp
  have hc2 : ∀ x : Later (w.alloc (.cells #[.int .i64 k, .int .u64 (n64 a), .int .u64 (n64 b), .int .i64 i, .int .i64 j] 24)), x.1.cell? ⟨w.heap.size, 2, none⟩ = some (.int .u64 (n64 b)) := fun x => by rw [later_cell x (hz x)]; simp
  clear hz
  cases ok
  all_goals
    go_enter Try.func5, Try.ntmps5
    go_wp2_with fail
    refine (calls_later (x := Later.start (w.alloc (.cells #[.int .i64 k, .int .u64 (n64 a), .int .u64 (n64 b), .int .i64 i, .int .i64 j] 24))) (h1 _)).mono ?_
    rintro e w' ⟨rfl, y1, rfl⟩
    go_wp2_with fail
    refine (calls_later (h2 _)).mono ?_
    rintro e w' ⟨rfl, y2, rfl⟩
    go_wp2
    go_ret
    exact ⟨rfl, ((Below.refl _ _).alloc (Nat.le_refl _) _).trans (y2.2.mono (by simp))⟩

theorem walk (k : Int) (_ : (Lit.int .i64 k).wf = true) (a b : BitVec 64) (i : Int) (_ : (Lit.int .i64 i).wf = true) (j : Int) (_ : (Lit.int .i64 j).wf = true) (w : World) :
    Calls Try.prog 5 #[.agg #[.int .i64 k, .int .u64 (n64 a), .int .u64 (n64 b), .int .i64 i, .int .i64 j]] w fun e w' => e = .returned (.bool true) ∧ Below w.heap.size w w' := by
  cases h : cK k
  · exact law_of k a b i j 0 false (fun w => cp_none k h _ _ w) (fun w => rc_none k h a b w) w
  · have hk : (22 ≤ k ∧ k < 50) ∨ (62 ≤ k ∧ k < 75) := by unfold cK at h; simpa using h
    have hk' : k = 22 ∨ k = 23 ∨ k = 24 ∨ k = 25 ∨ k = 26 ∨ k = 27 ∨ k = 28 ∨ k = 29 ∨ k = 30 ∨ k = 31 ∨ k = 32 ∨ k = 33 ∨ k = 34 ∨ k = 35 ∨ k = 36 ∨ k = 37 ∨ k = 38 ∨ k = 39 ∨ k = 40 ∨ k = 41 ∨ k = 42 ∨ k = 43 ∨ k = 44 ∨ k = 45 ∨ k = 46 ∨ k = 47 ∨ k = 48 ∨ k = 49 ∨ k = 62 ∨ k = 63 ∨ k = 64 ∨ k = 65 ∨ k = 66 ∨ k = 67 ∨ k = 68 ∨ k = 69 ∨ k = 70 ∨ k = 71 ∨ k = 72 ∨ k = 73 ∨ k = 74 := by omega
    clear hk h
    rcases hk' with rfl | rfl | rfl | rfl | rfl | rfl | rfl | rfl | rfl | rfl | rfl | rfl | rfl | rfl | rfl | rfl | rfl | rfl | rfl | rfl | rfl | rfl | rfl | rfl | rfl | rfl | rfl | rfl | rfl | rfl | rfl | rfl | rfl | rfl | rfl | rfl | rfl | rfl | rfl | rfl | rfl
    · exact law_of 22 a b i j _ _ (fun w => c_addi a b w) (fun w => rc_35 22 rfl a b w) w
    · exact law_of 23 a b i j _ _ (fun w => c_slti a b w) (fun w => rc_38 23 rfl a b w) w
    · exact law_of 24 a b i j _ _ (fun w => c_sltui a b w) (fun w => rc_39 24 rfl a b w) w
    · exact law_of 25 a b i j _ _ (fun w => c_xori a b w) (fun w => rc_40 25 rfl a b w) w
    · exact law_of 26 a b i j _ _ (fun w => c_ori a b w) (fun w => rc_43 26 rfl a b w) w
    · exact law_of 27 a b i j _ _ (fun w => c_andi a b w) (fun w => rc_44 27 rfl a b w) w
    · exact law_of 28 a b i j _ _ (fun w => c_slli a b w) (fun w => rc_37 28 rfl a b w) w
    · exact law_of 29 a b i j _ _ (fun w => c_srli a b w) (fun w => rc_41 29 rfl a b w) w
    · exact law_of 30 a b i j _ _ (fun w => c_srai a b w) (fun w => rc_42 30 rfl a b w) w
    · exact law_of 31 a b i j _ _ (fun w => c_addwi a b w) (fun w => rc_45 31 rfl a b w) w
    · exact law_of 32 a b i j _ _ (fun w => c_sllwi a b w) (fun w => rc_47 32 rfl a b w) w
    · exact law_of 33 a b i j _ _ (fun w => c_srlwi a b w) (fun w => rc_48 33 rfl a b w) w
    · exact law_of 34 a b i j _ _ (fun w => c_srawi a b w) (fun w => rc_49 34 rfl a b w) w
    · exact law_of 35 a b i j _ _ (fun w => c_add a b w) (fun w => rc_35 35 rfl a b w) w
    · exact law_of 36 a b i j _ _ (fun w => c_sub a b w) (fun w => rc_36 36 rfl a b w) w
    · exact law_of 37 a b i j _ _ (fun w => c_sll a b w) (fun w => rc_37 37 rfl a b w) w
    · exact law_of 38 a b i j _ _ (fun w => c_slt a b w) (fun w => rc_38 38 rfl a b w) w
    · exact law_of 39 a b i j _ _ (fun w => c_sltu a b w) (fun w => rc_39 39 rfl a b w) w
    · exact law_of 40 a b i j _ _ (fun w => c_xor a b w) (fun w => rc_40 40 rfl a b w) w
    · exact law_of 41 a b i j _ _ (fun w => c_srl a b w) (fun w => rc_41 41 rfl a b w) w
    · exact law_of 42 a b i j _ _ (fun w => c_sra a b w) (fun w => rc_42 42 rfl a b w) w
    · exact law_of 43 a b i j _ _ (fun w => c_or a b w) (fun w => rc_43 43 rfl a b w) w
    · exact law_of 44 a b i j _ _ (fun w => c_and a b w) (fun w => rc_44 44 rfl a b w) w
    · exact law_of 45 a b i j _ _ (fun w => c_addw a b w) (fun w => rc_45 45 rfl a b w) w
    · exact law_of 46 a b i j _ _ (fun w => c_subw a b w) (fun w => rc_46 46 rfl a b w) w
    · exact law_of 47 a b i j _ _ (fun w => c_sllw a b w) (fun w => rc_47 47 rfl a b w) w
    · exact law_of 48 a b i j _ _ (fun w => c_srlw a b w) (fun w => rc_48 48 rfl a b w) w
    · exact law_of 49 a b i j _ _ (fun w => c_sraw a b w) (fun w => rc_49 49 rfl a b w) w
    · exact law_of 62 a b i j _ _ (fun w => c_mul a b w) (fun w => rc_62 62 rfl a b w) w
    · exact law_of 63 a b i j _ _ (fun w => c_mulh a b w) (fun w => rc_63 a b w) w
    · exact law_of 64 a b i j _ _ (fun w => c_mulhsu a b w) (fun w => rc_64 a b w) w
    · exact law_of 65 a b i j _ _ (fun w => c_mulhu a b w) (fun w => rc_65 a b w) w
    · exact law_of 66 a b i j _ _ (fun w => c_div a b w) (fun w => rc_66 66 rfl a b w) w
    · exact law_of 67 a b i j _ _ (fun w => c_divu a b w) (fun w => rc_67 67 rfl a b w) w
    · exact law_of 68 a b i j _ _ (fun w => c_rem a b w) (fun w => rc_68 68 rfl a b w) w
    · exact law_of 69 a b i j _ _ (fun w => c_remu a b w) (fun w => rc_69 69 rfl a b w) w
    · exact law_of 70 a b i j _ _ (fun w => c_mulw a b w) (fun w => rc_70 70 rfl a b w) w
    · exact law_of 71 a b i j _ _ (fun w => c_divw a b w) (fun w => rc_71 71 rfl a b w) w
    · exact law_of 72 a b i j _ _ (fun w => c_divuw a b w) (fun w => rc_72 72 rfl a b w) w
    · exact law_of 73 a b i j _ _ (fun w => c_remw a b w) (fun w => rc_73 73 rfl a b w) w
    · exact law_of 74 a b i j _ _ (fun w => c_remuw a b w) (fun w => rc_74 74 rfl a b w) w

theorem own : ownKnob Try.prog.godebug = none := by kernel_rfl
theorem cells : Try.prog.cellsOf 24 = 5 := by kernel_rfl

set_option maxRecDepth 100000 in
theorem lifted (os : Os) (started : os.Started) (H : Type) (enc : TypeId × Value → H) :
    ReturnsInHanded {} Try.checked os 5 .any (Rows.arithComputesSpec.pre6 enc Try.prog Try.f5 Rows.arithComputesRow.domain false) (Rows.arithComputesSpec.post enc Try.prog Try.f5 false true false false) := by
  refine returnsInHanded_of_change (C := Try.checked) own started (by kernel_rfl) Try.func5
    (ChangeSpec.witness6 (enc := enc) (C := Try.checked) false ⟨#[], #[.agg #[.int .i64 0, .int .u64 0, .int .u64 0, .int .i64 0, .int .i64 0]], []⟩ 8 (by kernel_rfl) (by kernel_rfl) (by kernel_rfl) (by kernel_rfl)) ?_
  intro W base args ds gs before hval0 hW hcnd _
  have hval : ∀ (j : Nat) t v, Try.f5.params[j]? = some t → args[j]? = some v → Value.okWide Try.prog W .any base t v := hval0
  have hW' := hW
  obtain ⟨p, q, hA0, hV, rfl, hfz, hnd⟩ := hW
  have hA : DataW.TrodAll enc Try.prog W 0 (fun _ => true) true Try.f5.params.toList args.toList ds p := hA0
  rw [Try.params5] at hA hval
  obtain ⟨v0, vs0, d0, ds0, p0, q0, hargs, rfl, rfl, h0, r0⟩ := trodAll_cons hA
  obtain ⟨rfl, rfl, rfl⟩ := trodAll_nil r0
  obtain rfl : args = #[v0] := by cases args; simp_all
  obtain ⟨rfl, rfl⟩ := trodVars_none hV
  have k0 := h0
  obtain ⟨c0, c1, c2, c3, c4, y0, y1, y2, y3, y4, m, rfl, rfl, rfl, g0, g1, g2, g3, g4⟩ := open_agg5 Try.underlying24 (by kernel_rfl) cells (hval 0 24 v0 rfl rfl) h0
  obtain ⟨i0, e0, rfl, w0⟩ := DataW.trod_int Try.underlying3 g0
  obtain ⟨i1, e1, rfl, w1⟩ := DataW.trod_int Try.underlying22 g1
  obtain ⟨i2, e2, rfl, w2⟩ := DataW.trod_int Try.underlying22 g2
  obtain ⟨i3, e3, rfl, w3⟩ := DataW.trod_int Try.underlying3 g3
  obtain ⟨i4, e4, rfl, w4⟩ := DataW.trod_int Try.underlying3 g4
  simp only [List.cons.injEq, and_true] at e0 e1 e2 e3 e4
  subst e0 e1 e2 e3 e4
  obtain ⟨x1, rfl⟩ := n64_of w1
  obtain ⟨x2, rfl⟩ := n64_of w2
  clear hA0 hval0
  refine (walk i0 w0 x1 x2 i3 w3 i4 w4 W).mono fun e W' ⟨he, bel⟩ => ?_
  subst he
  exact ⟨_, rfl, _, _, _, [], _, [], hW', trodAll_mk1 (shut_bool Try.underlying4 _), trodAll_cons_mk (shut_agg5 (y0 := (.lit (.int .i64 i0), [])) (y1 := (.lit (.int .u64 (n64 x1)), [])) (y2 := (.lit (.int .u64 (n64 x2)), [])) (y3 := (.lit (.int .i64 i3), [])) (y4 := (.lit (.int .i64 i4), [])) Try.underlying24 (by kernel_rfl) cells (shut_int Try.underlying3 w0) (shut_int Try.underlying22 w1) (shut_int Try.underlying22 w2) (shut_int Try.underlying3 w3) (shut_int Try.underlying3 w4)) trodAll_mk0, rfl, bel.frame _, fun h => by cases h⟩

theorem over : Rows.arithComputesRow.holds Try.pinned (OpenSpec.ofChange Rows.arithComputesSpec) :=
  OpenClaim.holds_of_wide 5 Try.f5 rfl rfl rfl rfl rfl rfl rfl ⟨rfl, rfl, rfl, rfl, rfl⟩ rfl rfl rfl rfl rfl (by kernel_rfl) Try.func5 (by kernel_rfl)
    (of_decide_eq_true (by kernel_rfl)) (by unfold Func.isWrapper; first | (rw [if_pos (by decide +kernel)]; kernel_rfl) | (rw [if_neg (by decide +kernel)]; exact ⟨rfl, rfl⟩))
    (fun os started H enc _ => lifted os started H enc)
end Go.Proofs.Ythnjppfgdkiaaac.arithComputes
namespace Go.Proofs.Ythnjppfgdkiaaac
theorem arithComputes_holds : Rows.ArithComputesSaid := arithComputes.over
end Go.Proofs.Ythnjppfgdkiaaac
#print axioms Go.Proofs.Ythnjppfgdkiaaac.arithComputes_holds
