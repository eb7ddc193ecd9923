/- ArithOrders: case_eq -/
import Derived.Test.YthnjppfgdkiaaabOrdB
import Derived.Deep.RegionWith
namespace Go.Proofs.Ythnjppfgdkiaaab.arithOrders
open Go.ChangeShapes Go.WideShapes Go.ChangeAt Go.RowKit
set_option linter.unusedVariables false

set_option maxRecDepth 20000 in
set_option maxHeartbeats 1000000 in
theorem case_eq (k : Int) (a : BitVec 64) (i j : Int) (he : eqB a a = true) (hs : (n64 a == n64 a) = true) (u1 : uLt a a = false) (s1 : sLt a a = false) (tp : uLt (a ^^^ topB) (a ^^^ topB) = false) (dl : decide (n64 a < n64 a) = false) (b1 : n64 (bSlt a a) = 0) (b2 : n64 (bSltu a a) = 0) (m1 : sMin a a = a) (m2 : sMax a a = a) (m3 : uMin a a = a) (m4 : uMax a a = a) (le : decide (n64 a ≤ n64 a) = true) (w : World) :
    Calls Try.prog 8 #[.agg #[.int .i64 k, .int .u64 (n64 a), .int .u64 (n64 a), .int .i64 i, .int .i64 j]] w fun e w' => e = .returned (.bool true) ∧ Below w.heap.size w w' := by
  have hne := later_nonempty (w.alloc (.cells #[.int .i64 k, .int .u64 (n64 a), .int .u64 (n64 a), .int .i64 i, .int .i64 j] 24))
  have hz : ∀ _ : Later (w.alloc (.cells #[.int .i64 k, .int .u64 (n64 a), .int .u64 (n64 a), .int .i64 i, .int .i64 j] 24)), w.heap.size < (w.alloc (.cells #[.int .i64 k, .int .u64 (n64 a), .int .u64 (n64 a), .int .i64 i, .int .i64 j] 24)).heap.size := fun _ => by simp
  have hc1 : ∀ x : Later (w.alloc (.cells #[.int .i64 k, .int .u64 (n64 a), .int .u64 (n64 a), .int .i64 i, .int .i64 j] 24)), x.1.cell? ⟨w.heap.size, 1, none⟩ = some (.int .u64 (n64 a)) := fun x => by rw [later_cell x (hz x)]; simp
  have hc2 : ∀ x : Later (w.alloc (.cells #[.int .i64 k, .int .u64 (n64 a), .int .u64 (n64 a), .int .i64 i, .int .i64 j] 24)), x.1.cell? ⟨w.heap.size, 2, none⟩ = some (.int .u64 (n64 a)) := fun x => by rw [later_cell x (hz x)]; simp
  clear hz
  have rx := n64_xor
  go_enter Try.func8, Try.ntmps8
  go_wp2_with fail
  refine (calls_later (x := Later.start (w.alloc (.cells #[.int .i64 k, .int .u64 (n64 a), .int .u64 (n64 a), .int .i64 i, .int .i64 j] 24))) (tk_5 _ _ _ (by assumption) _)).mono ?_
  rintro e w' ⟨rfl, y1, rfl⟩
  go_wp2_with (first
    | (go_at_call_of 18 (Value.int IntKind.i64 5); refine (calls_later (tk_1 _ _ _ (by assumption) _)).mono ?_; rintro e w' ⟨rfl, y, rfl⟩)
    | (go_at_call_of 18 (Value.int IntKind.i64 6); refine (calls_later (tk_2 _ _ _ (by assumption) _)).mono ?_; rintro e w' ⟨rfl, y, rfl⟩)
    | (go_at_call_of 18 (Value.int IntKind.i64 7); refine (calls_later (tk_3 _ _ _ (by assumption) _)).mono ?_; rintro e w' ⟨rfl, y, rfl⟩)
    | (go_at_call_of 18 (Value.int IntKind.i64 8); refine (calls_later (tk_4 _ _ _ (by assumption) _)).mono ?_; rintro e w' ⟨rfl, y, rfl⟩)
    | (go_at_call_of 18 (Value.int IntKind.i64 9); go_at_call_of 18 (Value.int IntKind.u64 (n64 a)); refine (calls_later (tk_5 _ _ _ (by assumption) _)).mono ?_; rintro e w' ⟨rfl, y, rfl⟩)
    | (go_at_call_of 18 (Value.int IntKind.i64 10); refine (calls_later (tk_6 _ _ _ (by assumption) _)).mono ?_; rintro e w' ⟨rfl, y, rfl⟩)
    | (go_at_call_of 18 (Value.int IntKind.i64 9); refine (calls_later (tk_top _ _ _ (by assumption) _)).mono ?_; rintro e w' ⟨rfl, y, rfl⟩)
    | (go_at_call_of 19 (Value.int IntKind.i64 93); refine (calls_later (am_lesserD _ _ _ (by assumption) _)).mono ?_; rintro e w' ⟨rfl, y, rfl⟩)
    | (go_at_call_of 19 (Value.int IntKind.i64 94); refine (calls_later (am_greaterD _ _ _ (by assumption) _)).mono ?_; rintro e w' ⟨rfl, y, rfl⟩)
    | (go_at_call_of 19 (Value.int IntKind.i64 95); refine (calls_later (am_lesserPlainD _ _ _ (by assumption) _)).mono ?_; rintro e w' ⟨rfl, y, rfl⟩)
    | (go_at_call_of 19 (Value.int IntKind.i64 96); refine (calls_later (am_greaterPlainD _ _ _ (by assumption) _)).mono ?_; rintro e w' ⟨rfl, y, rfl⟩)
    | (go_at_call_of 9 (Value.int IntKind.i64 38); refine (calls_later (o_slt _ _ _)).mono ?_; rintro e w' ⟨rfl, y, rfl⟩)
    | (go_at_call_of 9 (Value.int IntKind.i64 39); refine (calls_later (o_sltu _ _ _)).mono ?_; rintro e w' ⟨rfl, y, rfl⟩))
  refine wp_region_later (by kernel_rfl) (by kernel_rfl) ?_
  repeat (go_big_quiet_step ((first
    | (go_at_call_of 18 (Value.int IntKind.i64 5); exact calls_later (tk_1 _ _ _ (by assumption) _))
    | (go_at_call_of 18 (Value.int IntKind.i64 6); exact calls_later (tk_2 _ _ _ (by assumption) _))
    | (go_at_call_of 18 (Value.int IntKind.i64 7); exact calls_later (tk_3 _ _ _ (by assumption) _))
    | (go_at_call_of 18 (Value.int IntKind.i64 8); exact calls_later (tk_4 _ _ _ (by assumption) _))
    | (go_at_call_of 18 (Value.int IntKind.i64 9); go_at_call_of 18 (Value.int IntKind.u64 (n64 a)); exact calls_later (tk_5 _ _ _ (by assumption) _))
    | (go_at_call_of 18 (Value.int IntKind.i64 10); exact calls_later (tk_6 _ _ _ (by assumption) _))
    | (go_at_call_of 18 (Value.int IntKind.i64 9); exact calls_later (tk_top _ _ _ (by assumption) _))
    | (go_at_call_of 19 (Value.int IntKind.i64 93); exact calls_later (am_lesserD _ _ _ (by assumption) _))
    | (go_at_call_of 19 (Value.int IntKind.i64 94); exact calls_later (am_greaterD _ _ _ (by assumption) _))
    | (go_at_call_of 19 (Value.int IntKind.i64 95); exact calls_later (am_lesserPlainD _ _ _ (by assumption) _))
    | (go_at_call_of 19 (Value.int IntKind.i64 96); exact calls_later (am_greaterPlainD _ _ _ (by assumption) _))
    | (go_at_call_of 9 (Value.int IntKind.i64 38); exact calls_later (o_slt _ _ _))
    | (go_at_call_of 9 (Value.int IntKind.i64 39); exact calls_later (o_sltu _ _ _)))))
  refine wpQuiet_nil ?_
  rintro _ ⟨yq, rfl⟩
  go_wp2_with (first
    | (go_at_call_of 18 (Value.int IntKind.i64 5); refine (calls_later (tk_1 _ _ _ (by assumption) _)).mono ?_; rintro e w' ⟨rfl, y, rfl⟩)
    | (go_at_call_of 18 (Value.int IntKind.i64 6); refine (calls_later (tk_2 _ _ _ (by assumption) _)).mono ?_; rintro e w' ⟨rfl, y, rfl⟩)
    | (go_at_call_of 18 (Value.int IntKind.i64 7); refine (calls_later (tk_3 _ _ _ (by assumption) _)).mono ?_; rintro e w' ⟨rfl, y, rfl⟩)
    | (go_at_call_of 18 (Value.int IntKind.i64 8); refine (calls_later (tk_4 _ _ _ (by assumption) _)).mono ?_; rintro e w' ⟨rfl, y, rfl⟩)
    | (go_at_call_of 18 (Value.int IntKind.i64 9); go_at_call_of 18 (Value.int IntKind.u64 (n64 a)); refine (calls_later (tk_5 _ _ _ (by assumption) _)).mono ?_; rintro e w' ⟨rfl, y, rfl⟩)
    | (go_at_call_of 18 (Value.int IntKind.i64 10); refine (calls_later (tk_6 _ _ _ (by assumption) _)).mono ?_; rintro e w' ⟨rfl, y, rfl⟩)
    | (go_at_call_of 18 (Value.int IntKind.i64 9); refine (calls_later (tk_top _ _ _ (by assumption) _)).mono ?_; rintro e w' ⟨rfl, y, rfl⟩)
    | (go_at_call_of 19 (Value.int IntKind.i64 93); refine (calls_later (am_lesserD _ _ _ (by assumption) _)).mono ?_; rintro e w' ⟨rfl, y, rfl⟩)
    | (go_at_call_of 19 (Value.int IntKind.i64 94); refine (calls_later (am_greaterD _ _ _ (by assumption) _)).mono ?_; rintro e w' ⟨rfl, y, rfl⟩)
    | (go_at_call_of 19 (Value.int IntKind.i64 95); refine (calls_later (am_lesserPlainD _ _ _ (by assumption) _)).mono ?_; rintro e w' ⟨rfl, y, rfl⟩)
    | (go_at_call_of 19 (Value.int IntKind.i64 96); refine (calls_later (am_greaterPlainD _ _ _ (by assumption) _)).mono ?_; rintro e w' ⟨rfl, y, rfl⟩)
    | (go_at_call_of 9 (Value.int IntKind.i64 38); refine (calls_later (o_slt _ _ _)).mono ?_; rintro e w' ⟨rfl, y, rfl⟩)
    | (go_at_call_of 9 (Value.int IntKind.i64 39); refine (calls_later (o_sltu _ _ _)).mono ?_; rintro e w' ⟨rfl, y, rfl⟩))
  refine wp_region_later (by kernel_rfl) (by kernel_rfl) ?_
  repeat (go_big_quiet_step ((first
    | (go_at_call_of 18 (Value.int IntKind.i64 5); exact calls_later (tk_1 _ _ _ (by assumption) _))
    | (go_at_call_of 18 (Value.int IntKind.i64 6); exact calls_later (tk_2 _ _ _ (by assumption) _))
    | (go_at_call_of 18 (Value.int IntKind.i64 7); exact calls_later (tk_3 _ _ _ (by assumption) _))
    | (go_at_call_of 18 (Value.int IntKind.i64 8); exact calls_later (tk_4 _ _ _ (by assumption) _))
    | (go_at_call_of 18 (Value.int IntKind.i64 9); go_at_call_of 18 (Value.int IntKind.u64 (n64 a)); exact calls_later (tk_5 _ _ _ (by assumption) _))
    | (go_at_call_of 18 (Value.int IntKind.i64 10); exact calls_later (tk_6 _ _ _ (by assumption) _))
    | (go_at_call_of 18 (Value.int IntKind.i64 9); exact calls_later (tk_top _ _ _ (by assumption) _))
    | (go_at_call_of 19 (Value.int IntKind.i64 93); exact calls_later (am_lesserD _ _ _ (by assumption) _))
    | (go_at_call_of 19 (Value.int IntKind.i64 94); exact calls_later (am_greaterD _ _ _ (by assumption) _))
    | (go_at_call_of 19 (Value.int IntKind.i64 95); exact calls_later (am_lesserPlainD _ _ _ (by assumption) _))
    | (go_at_call_of 19 (Value.int IntKind.i64 96); exact calls_later (am_greaterPlainD _ _ _ (by assumption) _))
    | (go_at_call_of 9 (Value.int IntKind.i64 38); exact calls_later (o_slt _ _ _))
    | (go_at_call_of 9 (Value.int IntKind.i64 39); exact calls_later (o_sltu _ _ _)))))
  refine wpQuiet_nil ?_
  rintro _ ⟨yq, rfl⟩
  go_wp2_with (first
    | (go_at_call_of 18 (Value.int IntKind.i64 5); refine (calls_later (tk_1 _ _ _ (by assumption) _)).mono ?_; rintro e w' ⟨rfl, y, rfl⟩)
    | (go_at_call_of 18 (Value.int IntKind.i64 6); refine (calls_later (tk_2 _ _ _ (by assumption) _)).mono ?_; rintro e w' ⟨rfl, y, rfl⟩)
    | (go_at_call_of 18 (Value.int IntKind.i64 7); refine (calls_later (tk_3 _ _ _ (by assumption) _)).mono ?_; rintro e w' ⟨rfl, y, rfl⟩)
    | (go_at_call_of 18 (Value.int IntKind.i64 8); refine (calls_later (tk_4 _ _ _ (by assumption) _)).mono ?_; rintro e w' ⟨rfl, y, rfl⟩)
    | (go_at_call_of 18 (Value.int IntKind.i64 9); go_at_call_of 18 (Value.int IntKind.u64 (n64 a)); refine (calls_later (tk_5 _ _ _ (by assumption) _)).mono ?_; rintro e w' ⟨rfl, y, rfl⟩)
    | (go_at_call_of 18 (Value.int IntKind.i64 10); refine (calls_later (tk_6 _ _ _ (by assumption) _)).mono ?_; rintro e w' ⟨rfl, y, rfl⟩)
    | (go_at_call_of 18 (Value.int IntKind.i64 9); refine (calls_later (tk_top _ _ _ (by assumption) _)).mono ?_; rintro e w' ⟨rfl, y, rfl⟩)
    | (go_at_call_of 19 (Value.int IntKind.i64 93); refine (calls_later (am_lesserD _ _ _ (by assumption) _)).mono ?_; rintro e w' ⟨rfl, y, rfl⟩)
    | (go_at_call_of 19 (Value.int IntKind.i64 94); refine (calls_later (am_greaterD _ _ _ (by assumption) _)).mono ?_; rintro e w' ⟨rfl, y, rfl⟩)
    | (go_at_call_of 19 (Value.int IntKind.i64 95); refine (calls_later (am_lesserPlainD _ _ _ (by assumption) _)).mono ?_; rintro e w' ⟨rfl, y, rfl⟩)
    | (go_at_call_of 19 (Value.int IntKind.i64 96); refine (calls_later (am_greaterPlainD _ _ _ (by assumption) _)).mono ?_; rintro e w' ⟨rfl, y, rfl⟩)
    | (go_at_call_of 9 (Value.int IntKind.i64 38); refine (calls_later (o_slt _ _ _)).mono ?_; rintro e w' ⟨rfl, y, rfl⟩)
    | (go_at_call_of 9 (Value.int IntKind.i64 39); refine (calls_later (o_sltu _ _ _)).mono ?_; rintro e w' ⟨rfl, y, rfl⟩))
  refine wp_region_later (by kernel_rfl) (by kernel_rfl) ?_
  repeat (go_big_quiet_step ((first
    | (go_at_call_of 18 (Value.int IntKind.i64 5); exact calls_later (tk_1 _ _ _ (by assumption) _))
    | (go_at_call_of 18 (Value.int IntKind.i64 6); exact calls_later (tk_2 _ _ _ (by assumption) _))
    | (go_at_call_of 18 (Value.int IntKind.i64 7); exact calls_later (tk_3 _ _ _ (by assumption) _))
    | (go_at_call_of 18 (Value.int IntKind.i64 8); exact calls_later (tk_4 _ _ _ (by assumption) _))
    | (go_at_call_of 18 (Value.int IntKind.i64 9); go_at_call_of 18 (Value.int IntKind.u64 (n64 a)); exact calls_later (tk_5 _ _ _ (by assumption) _))
    | (go_at_call_of 18 (Value.int IntKind.i64 10); exact calls_later (tk_6 _ _ _ (by assumption) _))
    | (go_at_call_of 18 (Value.int IntKind.i64 9); exact calls_later (tk_top _ _ _ (by assumption) _))
    | (go_at_call_of 19 (Value.int IntKind.i64 93); exact calls_later (am_lesserD _ _ _ (by assumption) _))
    | (go_at_call_of 19 (Value.int IntKind.i64 94); exact calls_later (am_greaterD _ _ _ (by assumption) _))
    | (go_at_call_of 19 (Value.int IntKind.i64 95); exact calls_later (am_lesserPlainD _ _ _ (by assumption) _))
    | (go_at_call_of 19 (Value.int IntKind.i64 96); exact calls_later (am_greaterPlainD _ _ _ (by assumption) _))
    | (go_at_call_of 9 (Value.int IntKind.i64 38); exact calls_later (o_slt _ _ _))
    | (go_at_call_of 9 (Value.int IntKind.i64 39); exact calls_later (o_sltu _ _ _)))))
  refine wpQuiet_nil ?_
  rintro _ ⟨yq, rfl⟩
  go_wp2_with (first
    | (go_at_call_of 18 (Value.int IntKind.i64 5); refine (calls_later (tk_1 _ _ _ (by assumption) _)).mono ?_; rintro e w' ⟨rfl, y, rfl⟩)
    | (go_at_call_of 18 (Value.int IntKind.i64 6); refine (calls_later (tk_2 _ _ _ (by assumption) _)).mono ?_; rintro e w' ⟨rfl, y, rfl⟩)
    | (go_at_call_of 18 (Value.int IntKind.i64 7); refine (calls_later (tk_3 _ _ _ (by assumption) _)).mono ?_; rintro e w' ⟨rfl, y, rfl⟩)
    | (go_at_call_of 18 (Value.int IntKind.i64 8); refine (calls_later (tk_4 _ _ _ (by assumption) _)).mono ?_; rintro e w' ⟨rfl, y, rfl⟩)
    | (go_at_call_of 18 (Value.int IntKind.i64 9); go_at_call_of 18 (Value.int IntKind.u64 (n64 a)); refine (calls_later (tk_5 _ _ _ (by assumption) _)).mono ?_; rintro e w' ⟨rfl, y, rfl⟩)
    | (go_at_call_of 18 (Value.int IntKind.i64 10); refine (calls_later (tk_6 _ _ _ (by assumption) _)).mono ?_; rintro e w' ⟨rfl, y, rfl⟩)
    | (go_at_call_of 18 (Value.int IntKind.i64 9); refine (calls_later (tk_top _ _ _ (by assumption) _)).mono ?_; rintro e w' ⟨rfl, y, rfl⟩)
    | (go_at_call_of 19 (Value.int IntKind.i64 93); refine (calls_later (am_lesserD _ _ _ (by assumption) _)).mono ?_; rintro e w' ⟨rfl, y, rfl⟩)
    | (go_at_call_of 19 (Value.int IntKind.i64 94); refine (calls_later (am_greaterD _ _ _ (by assumption) _)).mono ?_; rintro e w' ⟨rfl, y, rfl⟩)
    | (go_at_call_of 19 (Value.int IntKind.i64 95); refine (calls_later (am_lesserPlainD _ _ _ (by assumption) _)).mono ?_; rintro e w' ⟨rfl, y, rfl⟩)
    | (go_at_call_of 19 (Value.int IntKind.i64 96); refine (calls_later (am_greaterPlainD _ _ _ (by assumption) _)).mono ?_; rintro e w' ⟨rfl, y, rfl⟩)
    | (go_at_call_of 9 (Value.int IntKind.i64 38); refine (calls_later (o_slt _ _ _)).mono ?_; rintro e w' ⟨rfl, y, rfl⟩)
    | (go_at_call_of 9 (Value.int IntKind.i64 39); refine (calls_later (o_sltu _ _ _)).mono ?_; rintro e w' ⟨rfl, y, rfl⟩))
  go_ret
  exact ⟨rfl, ((Below.refl _ _).alloc (Nat.le_refl _) _).trans ((Later.below _).mono (by simp))⟩
end Go.Proofs.Ythnjppfgdkiaaab.arithOrders
