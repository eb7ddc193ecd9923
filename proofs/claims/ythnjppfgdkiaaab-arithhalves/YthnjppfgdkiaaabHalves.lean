/- ArithHalves -/
import Derived.Test.YthnjppfgdkiaaabHalB
import Derived.Deep.RegionWith
namespace Go.Proofs.Ythnjppfgdkiaaab.arithHalves
open Go.ChangeShapes Go.WideShapes Go.ChangeAt Go.RowKit

set_option maxRecDepth 20000 in
set_option maxHeartbeats 8000000 in
theorem walk (k : Int) (_ : (Lit.int .i64 k).wf = true) (a b : BitVec 64) (i : Int) (_ : (Lit.int .i64 i).wf = true) (j : Int) (_ : (Lit.int .i64 j).wf = true) (w : World) :
    Calls Try.prog 4 #[.agg #[.int .i64 k, .int .u64 (n64 a), .int .u64 (n64 b), .int .i64 i, .int .i64 j]] w fun e w' => e = .returned (.bool true) ∧ Below w.heap.size w w' := by
  obtain ⟨W, hW⟩ : ∃ W, W = ((w.alloc (.cells #[.int .i64 k, .int .u64 (n64 a), .int .u64 (n64 b), .int .i64 i, .int .i64 j] 24)).alloc (.cells #[.int .i64 45, .int .i64 46, .int .i64 47, .int .i64 48, .int .i64 49, .int .i64 70, .int .i64 71, .int .i64 72, .int .i64 73, .int .i64 74] 3)) := ⟨_, rfl⟩
  have hsz : W.heap.size = w.heap.size + 2 := by rw [hW]; simp
  have hne := later_nonempty W
  have hc1 : ∀ x : Later W, x.1.cell? ⟨w.heap.size, 1, none⟩ = some (.int .u64 (n64 a)) := fun x => by
    rw [later_cell x (by show w.heap.size < _; omega), hW, alloc2_0]; rfl
  have hc2 : ∀ x : Later W, x.1.cell? ⟨w.heap.size, 2, none⟩ = some (.int .u64 (n64 b)) := fun x => by
    rw [later_cell x (by show w.heap.size < _; omega), hW, alloc2_0]; rfl
  have hf : ∀ (x : Later W) (k : Nat), k < 10 → x.1.cell? ⟨w.heap.size + 1, k, none⟩ = some (.int .i64 (words k)) := fun x k hk => by
    rw [later_cell x (by show w.heap.size + 1 < _; omega), hW, alloc2_1]
    match k, hk with
    | 0, _ => rfl
    | 1, _ => rfl
    | 2, _ => rfl
    | 3, _ => rfl
    | 4, _ => rfl
    | 5, _ => rfl
    | 6, _ => rfl
    | 7, _ => rfl
    | 8, _ => rfl
    | 9, _ => rfl
  have hbel : Below w.heap.size w W := by
    rw [hW]; exact ((Below.refl _ _).alloc (Nat.le_refl _) _).alloc (by simp) _
  go_enter Try.func4, Try.ntmps4
  go_wp2_with fail
  rw [← hW]
  have HB : Hid (Below w.heap.size w W) := hbel
  clear hW hbel
  have r1 := n64_low
  have r2 := unary_mask
  have r3 := n64_or
  have r4 : bits .and .u64 (n64 b) 31 = n64 (b &&& 31#64) := n64_and b 31#64
  go_loopw [5, 6] (fun i v wr => ∃ k : Nat, k ≤ 10 ∧ i = .int .i64 k ∧ ∃ y : Later W, wr = y.1) (fun i _ _ => 10 - (intOf i).toNat)
  case atStart => exact ⟨0, Nat.zero_le _, rfl, Later.start W, rfl⟩
  case round =>
    obtain ⟨k, hk, rfl, y, rfl⟩ := hrel
    by_cases hlt : k < 10
    · have hl1 : (0 : Int) ≤ (k : Int) := by omega
      have hl2 : (k : Int) < 10 := by omega
      have hfk : ∀ x : Later W, x.1.cell? ⟨w.heap.size + 1, k, none⟩ = some (.int .i64 (words k)) := fun x => hf x k hlt
      have e1 : (n64 (wopV k a b) != n64 (wid (wopV k a b))) = false := ne_false (wop_wid k hlt a b).symm
      have e2 : (n64 (wopV k a b) != n64 (wopV k (wid a) (wid b))) = false := ne_false (wop_congr k hlt (sw_wid a).symm (sw_wid b).symm)
      have e3 : (n64 (wopV k a b) != n64 (wopV k (low a) (b ||| hiMask))) = false := ne_false (wop_congr k hlt (sw_low a).symm (sw_hi b).symm)
      clear hf
      go_wp2_with fail
      refine wp_region_later (by kernel_rfl) (by kernel_rfl) ?_
      repeat (go_big_quiet_step ((first
        | (go_at_call_of 9 (Value.int IntKind.i64 (words k)); exact calls_later (op_word k hlt _ _ _))
        | (go_at_call 11; exact calls_later_same (halfLaw_any _ _)))))
      refine wpQuiet_nil ?_
      rintro _ ⟨y1, rfl⟩
      go_wp2_with fail
      refine wp_region_later (by kernel_rfl) (by kernel_rfl) ?_
      repeat (go_big_quiet_step ((first
        | (go_at_call_of 9 (Value.int IntKind.i64 (words k)); exact calls_later (op_word k hlt _ _ _))
        | (go_at_call 11; exact calls_later_same (halfLaw_any _ _)))))
      refine wpQuiet_nil ?_
      rintro _ ⟨yq, rfl⟩
      go_wp2_with fail
      go_roundw
      case rel => exact ⟨k + 1, by omega, by go_num, yq, rfl⟩
      case measure => simp [intOf]; omega
    · have hl2 : (10 : Int) ≤ (k : Int) := by omega
      have s1 : (n64 (wid (a <<< (n64 b % 32 % 64).toNat)) != n64 (wid (a <<< (n64 (b &&& 31#64) % 64).toNat))) = false := ne_false (by rw [and31])
      have s2 : (n64 (wid (low a >>> (n64 b % 32 % 64).toNat)) != n64 (wid (low a >>> (n64 (b &&& 31#64) % 64).toNat))) = false := ne_false (by rw [and31])
      have s3 : (n64 (wid ((wid a).sshiftRight (n64 b % 32 % 64).toNat)) != n64 (wid ((wid a).sshiftRight (n64 (b &&& 31#64) % 64).toNat))) = false := ne_false (by rw [and31])
      clear hf r1 r2 r3
      go_wp2_with fail
      have r1 := n64_low
      refine wp_region_later (by kernel_rfl) (by kernel_rfl) ?_
      repeat (go_big_quiet_step ((first
        | (go_at_call 11; exact calls_later_same (halfLaw_any _ _))
        | (go_at_call 10; exact calls_later (live_any _))
        | (go_at_call_of 9 (Value.int IntKind.i64 45); exact calls_later (o_addw _ _ _))
        | (go_at_call_of 9 (Value.int IntKind.i64 46); exact calls_later (o_subw _ _ _))
        | (go_at_call_of 9 (Value.int IntKind.i64 47); exact calls_later (o_sllw _ _ _))
        | (go_at_call_of 9 (Value.int IntKind.i64 48); exact calls_later (o_srlw _ _ _))
        | (go_at_call_of 9 (Value.int IntKind.i64 49); exact calls_later (o_sraw _ _ _))
        | (go_at_call_of 9 (Value.int IntKind.i64 70); exact calls_later (o_mulw _ _ _))
        | (go_at_call_of 9 (Value.int IntKind.i64 71); exact calls_later (o_divw _ _ _))
        | (go_at_call_of 9 (Value.int IntKind.i64 72); exact calls_later (o_divuw _ _ _))
        | (go_at_call_of 9 (Value.int IntKind.i64 73); exact calls_later (o_remw _ _ _))
        | (go_at_call_of 9 (Value.int IntKind.i64 74); exact calls_later (o_remuw _ _ _))
        | (go_at_call_of 9 (Value.int IntKind.i64 35); exact calls_later (o_add _ _ _))
        | (go_at_call_of 9 (Value.int IntKind.i64 36); exact calls_later (o_sub _ _ _))
        | (go_at_call_of 9 (Value.int IntKind.i64 62); exact calls_later (o_mul _ _ _))
        | (go_at_call_of 9 (Value.int IntKind.i64 37); exact calls_later (o_sll _ _ _))
        | (go_at_call_of 9 (Value.int IntKind.i64 41); exact calls_later (o_srl _ _ _))
        | (go_at_call_of 9 (Value.int IntKind.i64 42); exact calls_later (o_sra _ _ _))
        | (go_at_call_of 9 (Value.int IntKind.i64 66); exact calls_later (o_div _ _ _))
        | (go_at_call_of 9 (Value.int IntKind.i64 67); exact calls_later (o_divu _ _ _))
        | (go_at_call_of 9 (Value.int IntKind.i64 68); exact calls_later (o_rem _ _ _))
        | (go_at_call_of 9 (Value.int IntKind.i64 69); exact calls_later (o_remu _ _ _)))))
      refine wpQuiet_nil ?_
      rintro _ ⟨yq, rfl⟩
      clear r1
      go_wp2_with fail
      have r1 := n64_low
      refine wp_region_later (by kernel_rfl) (by kernel_rfl) ?_
      repeat (go_big_quiet_step ((first
        | (go_at_call 11; exact calls_later_same (halfLaw_any _ _))
        | (go_at_call 10; exact calls_later (live_any _))
        | (go_at_call_of 9 (Value.int IntKind.i64 45); exact calls_later (o_addw _ _ _))
        | (go_at_call_of 9 (Value.int IntKind.i64 46); exact calls_later (o_subw _ _ _))
        | (go_at_call_of 9 (Value.int IntKind.i64 47); exact calls_later (o_sllw _ _ _))
        | (go_at_call_of 9 (Value.int IntKind.i64 48); exact calls_later (o_srlw _ _ _))
        | (go_at_call_of 9 (Value.int IntKind.i64 49); exact calls_later (o_sraw _ _ _))
        | (go_at_call_of 9 (Value.int IntKind.i64 70); exact calls_later (o_mulw _ _ _))
        | (go_at_call_of 9 (Value.int IntKind.i64 71); exact calls_later (o_divw _ _ _))
        | (go_at_call_of 9 (Value.int IntKind.i64 72); exact calls_later (o_divuw _ _ _))
        | (go_at_call_of 9 (Value.int IntKind.i64 73); exact calls_later (o_remw _ _ _))
        | (go_at_call_of 9 (Value.int IntKind.i64 74); exact calls_later (o_remuw _ _ _))
        | (go_at_call_of 9 (Value.int IntKind.i64 35); exact calls_later (o_add _ _ _))
        | (go_at_call_of 9 (Value.int IntKind.i64 36); exact calls_later (o_sub _ _ _))
        | (go_at_call_of 9 (Value.int IntKind.i64 62); exact calls_later (o_mul _ _ _))
        | (go_at_call_of 9 (Value.int IntKind.i64 37); exact calls_later (o_sll _ _ _))
        | (go_at_call_of 9 (Value.int IntKind.i64 41); exact calls_later (o_srl _ _ _))
        | (go_at_call_of 9 (Value.int IntKind.i64 42); exact calls_later (o_sra _ _ _))
        | (go_at_call_of 9 (Value.int IntKind.i64 66); exact calls_later (o_div _ _ _))
        | (go_at_call_of 9 (Value.int IntKind.i64 67); exact calls_later (o_divu _ _ _))
        | (go_at_call_of 9 (Value.int IntKind.i64 68); exact calls_later (o_rem _ _ _))
        | (go_at_call_of 9 (Value.int IntKind.i64 69); exact calls_later (o_remu _ _ _)))))
      refine wpQuiet_nil ?_
      rintro _ ⟨yq, rfl⟩
      clear r1
      go_wp2_with fail
      have r1 := n64_low
      refine wp_region_later (by kernel_rfl) (by kernel_rfl) ?_
      repeat (go_big_quiet_step ((first
        | (go_at_call 11; exact calls_later_same (halfLaw_any _ _))
        | (go_at_call 10; exact calls_later (live_any _))
        | (go_at_call_of 9 (Value.int IntKind.i64 45); exact calls_later (o_addw _ _ _))
        | (go_at_call_of 9 (Value.int IntKind.i64 46); exact calls_later (o_subw _ _ _))
        | (go_at_call_of 9 (Value.int IntKind.i64 47); exact calls_later (o_sllw _ _ _))
        | (go_at_call_of 9 (Value.int IntKind.i64 48); exact calls_later (o_srlw _ _ _))
        | (go_at_call_of 9 (Value.int IntKind.i64 49); exact calls_later (o_sraw _ _ _))
        | (go_at_call_of 9 (Value.int IntKind.i64 70); exact calls_later (o_mulw _ _ _))
        | (go_at_call_of 9 (Value.int IntKind.i64 71); exact calls_later (o_divw _ _ _))
        | (go_at_call_of 9 (Value.int IntKind.i64 72); exact calls_later (o_divuw _ _ _))
        | (go_at_call_of 9 (Value.int IntKind.i64 73); exact calls_later (o_remw _ _ _))
        | (go_at_call_of 9 (Value.int IntKind.i64 74); exact calls_later (o_remuw _ _ _))
        | (go_at_call_of 9 (Value.int IntKind.i64 35); exact calls_later (o_add _ _ _))
        | (go_at_call_of 9 (Value.int IntKind.i64 36); exact calls_later (o_sub _ _ _))
        | (go_at_call_of 9 (Value.int IntKind.i64 62); exact calls_later (o_mul _ _ _))
        | (go_at_call_of 9 (Value.int IntKind.i64 37); exact calls_later (o_sll _ _ _))
        | (go_at_call_of 9 (Value.int IntKind.i64 41); exact calls_later (o_srl _ _ _))
        | (go_at_call_of 9 (Value.int IntKind.i64 42); exact calls_later (o_sra _ _ _))
        | (go_at_call_of 9 (Value.int IntKind.i64 66); exact calls_later (o_div _ _ _))
        | (go_at_call_of 9 (Value.int IntKind.i64 67); exact calls_later (o_divu _ _ _))
        | (go_at_call_of 9 (Value.int IntKind.i64 68); exact calls_later (o_rem _ _ _))
        | (go_at_call_of 9 (Value.int IntKind.i64 69); exact calls_later (o_remu _ _ _)))))
      refine wpQuiet_nil ?_
      rintro _ ⟨yq, rfl⟩
      clear r1
      go_wp2_with fail
      have r1 := n64_low
      refine wp_region_later (by kernel_rfl) (by kernel_rfl) ?_
      repeat (go_big_quiet_step ((first
        | (go_at_call 11; exact calls_later_same (halfLaw_any _ _))
        | (go_at_call 10; exact calls_later (live_any _))
        | (go_at_call_of 9 (Value.int IntKind.i64 45); exact calls_later (o_addw _ _ _))
        | (go_at_call_of 9 (Value.int IntKind.i64 46); exact calls_later (o_subw _ _ _))
        | (go_at_call_of 9 (Value.int IntKind.i64 47); exact calls_later (o_sllw _ _ _))
        | (go_at_call_of 9 (Value.int IntKind.i64 48); exact calls_later (o_srlw _ _ _))
        | (go_at_call_of 9 (Value.int IntKind.i64 49); exact calls_later (o_sraw _ _ _))
        | (go_at_call_of 9 (Value.int IntKind.i64 70); exact calls_later (o_mulw _ _ _))
        | (go_at_call_of 9 (Value.int IntKind.i64 71); exact calls_later (o_divw _ _ _))
        | (go_at_call_of 9 (Value.int IntKind.i64 72); exact calls_later (o_divuw _ _ _))
        | (go_at_call_of 9 (Value.int IntKind.i64 73); exact calls_later (o_remw _ _ _))
        | (go_at_call_of 9 (Value.int IntKind.i64 74); exact calls_later (o_remuw _ _ _))
        | (go_at_call_of 9 (Value.int IntKind.i64 35); exact calls_later (o_add _ _ _))
        | (go_at_call_of 9 (Value.int IntKind.i64 36); exact calls_later (o_sub _ _ _))
        | (go_at_call_of 9 (Value.int IntKind.i64 62); exact calls_later (o_mul _ _ _))
        | (go_at_call_of 9 (Value.int IntKind.i64 37); exact calls_later (o_sll _ _ _))
        | (go_at_call_of 9 (Value.int IntKind.i64 41); exact calls_later (o_srl _ _ _))
        | (go_at_call_of 9 (Value.int IntKind.i64 42); exact calls_later (o_sra _ _ _))
        | (go_at_call_of 9 (Value.int IntKind.i64 66); exact calls_later (o_div _ _ _))
        | (go_at_call_of 9 (Value.int IntKind.i64 67); exact calls_later (o_divu _ _ _))
        | (go_at_call_of 9 (Value.int IntKind.i64 68); exact calls_later (o_rem _ _ _))
        | (go_at_call_of 9 (Value.int IntKind.i64 69); exact calls_later (o_remu _ _ _)))))
      refine wpQuiet_nil ?_
      rintro _ ⟨yq, rfl⟩
      clear r1
      go_wp2_with fail
      go_ret
      exact ⟨rfl, HB.out.trans (yq.2.mono HB.out.size)⟩

theorem own : ownKnob Try.prog.godebug = none := by kernel_rfl
theorem cells : Try.prog.cellsOf 24 = 5 := by kernel_rfl

set_option maxRecDepth 100000 in
theorem lifted (os : Os) (started : os.Started) (H : Type) (enc : TypeId × Value → H) :
    ReturnsInHanded {} Try.checked os 4 .any (Rows.arithHalvesSpec.pre6 enc Try.prog Try.f4 Rows.arithHalvesRow.domain false) (Rows.arithHalvesSpec.post enc Try.prog Try.f4 false true false false) := by
  refine returnsInHanded_of_change (C := Try.checked) own started (by kernel_rfl) Try.func4
    (ChangeSpec.witness6 (enc := enc) (C := Try.checked) false ⟨#[], #[.agg #[.int .i64 0, .int .u64 0, .int .u64 0, .int .i64 0, .int .i64 0]], []⟩ 8 (by kernel_rfl) (by kernel_rfl) (by kernel_rfl) (by kernel_rfl)) ?_
  intro W base args ds gs before hval0 hW hcnd _
  have hval : ∀ (j : Nat) t v, Try.f4.params[j]? = some t → args[j]? = some v → Value.okWide Try.prog W .any base t v := hval0
  have hW' := hW
  obtain ⟨p, q, hA0, hV, rfl, hfz, hnd⟩ := hW
  have hA : DataW.TrodAll enc Try.prog W 0 (fun _ => true) true Try.f4.params.toList args.toList ds p := hA0
  rw [Try.params4] at hA hval
  obtain ⟨v0, vs0, d0, ds0, p0, q0, hargs, rfl, rfl, h0, r0⟩ := trodAll_cons hA
  obtain ⟨rfl, rfl, rfl⟩ := trodAll_nil r0
  obtain rfl : args = #[v0] := by cases args; simp_all
  obtain ⟨rfl, rfl⟩ := trodVars_none hV
  have k0 := h0
  obtain ⟨c0, c1, c2, c3, c4, y0, y1, y2, y3, y4, m, rfl, rfl, rfl, g0, g1, g2, g3, g4⟩ := open_agg5 Try.underlying24 (by kernel_rfl) cells (hval 0 24 v0 rfl rfl) h0
  obtain ⟨i0, e0, rfl, w0⟩ := DataW.trod_int Try.underlying3 g0
  obtain ⟨i1, e1, rfl, w1⟩ := DataW.trod_int Try.underlying22 g1
  obtain ⟨i2, e2, rfl, w2⟩ := DataW.trod_int Try.underlying22 g2
  obtain ⟨i3, e3, rfl, w3⟩ := DataW.trod_int Try.underlying3 g3
  obtain ⟨i4, e4, rfl, w4⟩ := DataW.trod_int Try.underlying3 g4
  simp only [List.cons.injEq, and_true] at e0 e1 e2 e3 e4
  subst e0 e1 e2 e3 e4
  obtain ⟨x1, rfl⟩ := n64_of w1
  obtain ⟨x2, rfl⟩ := n64_of w2
  clear hA0 hval0
  refine (walk i0 w0 x1 x2 i3 w3 i4 w4 W).mono fun e W' ⟨he, bel⟩ => ?_
  subst he
  exact ⟨_, rfl, _, _, _, [], _, [], hW', trodAll_mk1 (shut_bool Try.underlying4 _), trodAll_cons_mk (shut_agg5 (y0 := (.lit (.int .i64 i0), [])) (y1 := (.lit (.int .u64 (n64 x1)), [])) (y2 := (.lit (.int .u64 (n64 x2)), [])) (y3 := (.lit (.int .i64 i3), [])) (y4 := (.lit (.int .i64 i4), [])) Try.underlying24 (by kernel_rfl) cells (shut_int Try.underlying3 w0) (shut_int Try.underlying22 w1) (shut_int Try.underlying22 w2) (shut_int Try.underlying3 w3) (shut_int Try.underlying3 w4)) trodAll_mk0, rfl, bel.frame _, fun h => by cases h⟩

theorem over : Rows.arithHalvesRow.holds Try.pinned (OpenSpec.ofChange Rows.arithHalvesSpec) :=
  OpenClaim.holds_of_wide 4 Try.f4 rfl rfl rfl rfl rfl rfl rfl ⟨rfl, rfl, rfl, rfl, rfl⟩ rfl rfl rfl rfl rfl (by kernel_rfl) Try.func4 (by kernel_rfl)
    (of_decide_eq_true (by kernel_rfl)) (by unfold Func.isWrapper; first | (rw [if_pos (by decide +kernel)]; kernel_rfl) | (rw [if_neg (by decide +kernel)]; exact ⟨rfl, rfl⟩))
    (fun os started H enc _ => lifted os started H enc)
end Go.Proofs.Ythnjppfgdkiaaab.arithHalves
namespace Go.Proofs.Ythnjppfgdkiaaab
theorem arithHalves_holds : Rows.ArithHalvesSaid := arithHalves.over
end Go.Proofs.Ythnjppfgdkiaaab
#print axioms Go.Proofs.Ythnjppfgdkiaaab.arithHalves_holds
