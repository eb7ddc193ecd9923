/-
  Irf Irg.
-/
import Derived.Test.YtheeogbmljjbdaaGreatDoorM05
import Derived.Laws.AppendOwnNone
import Derived.Laws.BytesArg
import Derived.ArgAppend
import Derived.Lib.OwnKind
import Derived.Lib.SmallJoins
import Derived.Lib.SliceRun
namespace Go.Proofs.YtheeogbmljjbdaaGreatDoor
set_option linter.unusedVariables false
open Go.ChangeShapes Go.WideShapes Go.ChangeAt Go.RowKit Go.Deep
set_option maxRecDepth 100000 in
set_option maxHeartbeats 4000000 in
theorem meet_c (x1 y1 x2 y2 : BitVec 64) (f1 f2 : Int) (m1 m2 : Option Addr) (n1 n2 c1 c2 : Nat) (w : World) :
    Calls Tryz.prog 98 #[.agg #[.int .u64 (n64 x1), .int .u64 (n64 y1), .int .i64 f1, .slice m1 n1 c1], .agg #[.int .u64 (n64 x2), .int .u64 (n64 y2), .int .i64 f2, .slice m2 n2 c2]] w fun e w' => e = .returned (.bool (meetB x1 y1 x2 y2)) ∧ Below w.heap.size w w' := by
  have r1 : Hid (∀ x : Later ((w.alloc (.cells #[.int .u64 (n64 x1), .int .u64 (n64 y1), .int .i64 f1, .slice m1 n1 c1] 61)).alloc (.cells #[.int .u64 (n64 x2), .int .u64 (n64 y2), .int .i64 f2, .slice m2 n2 c2] 61)), x.1.heap[w.heap.size]? = some (.cells #[.int .u64 (n64 x1), .int .u64 (n64 y1), .int .i64 f1, .slice m1 n1 c1] 61 (0, 0)) ∧ x.1.heap[w.heap.size + 1]? = some (.cells #[.int .u64 (n64 x2), .int .u64 (n64 y2), .int .i64 f2, .slice m2 n2 c2] 61 (0, 0))) := fun x =>
    ⟨by rw [x.2.block _ (by simp; omega)]; exact heap_alloc2_old w _ _, by rw [x.2.block _ (by simp)]; exact heap_alloc2_new w _ _⟩
  have HBL : Hid (Below w.heap.size w ((w.alloc (.cells #[.int .u64 (n64 x1), .int .u64 (n64 y1), .int .i64 f1, .slice m1 n1 c1] 61)).alloc (.cells #[.int .u64 (n64 x2), .int .u64 (n64 y2), .int .i64 f2, .slice m2 n2 c2] 61))) := ((Below.refl _ _).alloc (Nat.le_refl _) _).alloc (by simp) _
  obtain ⟨d, hd⟩ : ∃ d, d = meetB x1 y1 x2 y2 := ⟨_, rfl⟩
  rw [← hd]
  have HD : Hid (d = meetB x1 y1 x2 y2) := hd
  clear hd
  have cL1 := fun (wx : World) => last_c x1 y1 f1 (.slice m1 n1 c1) rfl wx
  have cL2 := fun (wx : World) => last_c x2 y2 f2 (.slice m2 n2 c2) rfl wx
  obtain ⟨z1, hz1⟩ : ∃ z, z = n64 (x1 + (y1 - 1#64)) := ⟨_, rfl⟩
  obtain ⟨z2, hz2⟩ : ∃ z, z = n64 (x2 + (y2 - 1#64)) := ⟨_, rfl⟩
  rw [← hz1] at cL1
  rw [← hz2] at cL2
  have HZ : Hid (meetB x1 y1 x2 y2 = (decide (n64 x1 ≤ z2) && decide (n64 x2 ≤ z1))) := by unfold Hid meetB; rw [← hz1, ← hz2]
  have HC1 : Hid (∀ wx : World, Calls Tryz.prog 43 #[.agg #[.int .u64 (n64 x1), .int .u64 (n64 y1), .int .i64 f1, .slice m1 n1 c1]] wx fun e w' => e = .returned (.int .u64 z1) ∧ Below wx.heap.size wx w') := cL1
  have HC2 : Hid (∀ wx : World, Calls Tryz.prog 43 #[.agg #[.int .u64 (n64 x2), .int .u64 (n64 y2), .int .i64 f2, .slice m2 n2 c2]] wx fun e w' => e = .returned (.int .u64 z2) ∧ Below wx.heap.size wx w') := cL2
  clear cL1 cL2 hz1 hz2
  generalize n64 x1 = X1 at *
  generalize n64 x2 = X2 at *
  generalize n64 y1 = Y1 at *
  generalize n64 y2 = Y2 at *
  by_cases h1 : X1 ≤ z2
  · have HE : Hid (d = decide (X2 ≤ z1)) := by unfold Hid; rw [HD.out, HZ.out, decide_eq_true h1]; rfl
    go_enter Tryz.func98, Tryz.ntmps98
    go_upto_region 1 with fail
    generalize ((w.alloc (.cells #[.int .u64 X1, .int .u64 Y1, .int .i64 f1, .slice m1 n1 c1] 61)).alloc (.cells #[.int .u64 X2, .int .u64 Y2, .int .i64 f2, .slice m2 n2 c2] 61)) = w1 at *
    have hne := later_nonempty w1
    have a0 : ∀ x : Later w1, x.1.cell? ⟨w.heap.size, 0, none⟩ = some (.int .u64 X1) := fun x => cell_of_row x.1 _ 0 _ _ _ (r1.out x).1
    have a1 : ∀ x : Later w1, x.1.cell? ⟨w.heap.size, 1, none⟩ = some (.int .u64 Y1) := fun x => cell_of_row x.1 _ 1 _ _ _ (r1.out x).1
    have a2 : ∀ x : Later w1, x.1.cell? ⟨w.heap.size, 2, none⟩ = some (.int .i64 f1) := fun x => cell_of_row x.1 _ 2 _ _ _ (r1.out x).1
    have a3 : ∀ x : Later w1, x.1.cell? ⟨w.heap.size, 3, none⟩ = some (.slice m1 n1 c1) := fun x => cell_of_row x.1 _ 3 _ _ _ (r1.out x).1
    have e0 : ∀ x : Later w1, x.1.cell? ⟨w.heap.size + 1, 0, none⟩ = some (.int .u64 X2) := fun x => cell_of_row x.1 _ 0 _ _ _ (r1.out x).2
    have e1 : ∀ x : Later w1, x.1.cell? ⟨w.heap.size + 1, 1, none⟩ = some (.int .u64 Y2) := fun x => cell_of_row x.1 _ 1 _ _ _ (r1.out x).2
    have e2 : ∀ x : Later w1, x.1.cell? ⟨w.heap.size + 1, 2, none⟩ = some (.int .i64 f2) := fun x => cell_of_row x.1 _ 2 _ _ _ (r1.out x).2
    have e3 : ∀ x : Later w1, x.1.cell? ⟨w.heap.size + 1, 3, none⟩ = some (.slice m2 n2 c2) := fun x => cell_of_row x.1 _ 3 _ _ _ (r1.out x).2
    refine wp_region_later (x0 := Later.start w1) (by kernel_rfl) (by kernel_rfl) ?_
    repeat (go_big_quiet_step ((first | (go_at_call 43; first | exact calls_later (HC2.out _) | exact calls_later (HC1.out _)))))
    refine wpQuiet_nil ?_
    rintro _ ⟨yq, rfl⟩
    go_wp2
    go_ret
    exact ⟨by rw [HE.out]; first | rfl | simp, HBL.out.trans (yq.2.mono HBL.out.size)⟩
  · have HE : Hid (d = false) := by unfold Hid; rw [HD.out, HZ.out, decide_eq_false h1]; rfl
    have h1d : decide (X1 ≤ z2) = false := decide_eq_false h1
    go_enter Tryz.func98, Tryz.ntmps98
    go_upto_region 1 with fail
    generalize ((w.alloc (.cells #[.int .u64 X1, .int .u64 Y1, .int .i64 f1, .slice m1 n1 c1] 61)).alloc (.cells #[.int .u64 X2, .int .u64 Y2, .int .i64 f2, .slice m2 n2 c2] 61)) = w1 at *
    have hne := later_nonempty w1
    have a0 : ∀ x : Later w1, x.1.cell? ⟨w.heap.size, 0, none⟩ = some (.int .u64 X1) := fun x => cell_of_row x.1 _ 0 _ _ _ (r1.out x).1
    have e0 : ∀ x : Later w1, x.1.cell? ⟨w.heap.size + 1, 0, none⟩ = some (.int .u64 X2) := fun x => cell_of_row x.1 _ 0 _ _ _ (r1.out x).2
    have e1 : ∀ x : Later w1, x.1.cell? ⟨w.heap.size + 1, 1, none⟩ = some (.int .u64 Y2) := fun x => cell_of_row x.1 _ 1 _ _ _ (r1.out x).2
    have e2 : ∀ x : Later w1, x.1.cell? ⟨w.heap.size + 1, 2, none⟩ = some (.int .i64 f2) := fun x => cell_of_row x.1 _ 2 _ _ _ (r1.out x).2
    have e3 : ∀ x : Later w1, x.1.cell? ⟨w.heap.size + 1, 3, none⟩ = some (.slice m2 n2 c2) := fun x => cell_of_row x.1 _ 3 _ _ _ (r1.out x).2
    refine wp_region_later (x0 := Later.start w1) (by kernel_rfl) (by kernel_rfl) ?_
    repeat (go_big_quiet_step ((first | (go_at_call 43; exact calls_later (HC2.out _)))))
    refine wpQuiet_nil ?_
    rintro _ ⟨yq, rfl⟩
    go_wp2
    go_ret
    exact ⟨by rw [HE.out]; first | rfl | simp, HBL.out.trans (yq.2.mono HBL.out.size)⟩
end Go.Proofs.YtheeogbmljjbdaaGreatDoor
namespace Go.Proofs.YtheeogbmljjbdaaGreatDoor
set_option linter.unusedVariables false
open Go.ChangeShapes Go.WideShapes Go.ChangeAt Go.RowKit Go.Deep
/-- Bytes appended to a list of the call's own. -/
theorem appL {ops : Array Oper} {rest : List Oper} {o : Oper} {a : Act} {w : World} {Q : Exit → Act → World → Prop} (hgd : o.guard = none) (s x : Operand) (ho : o.op = .call { callee := .builtin .append, args := #[s, x], argTypes := #[31, 31] })
    (B : Nat) (v u : Value) (m l : List Int) (hs : a.eval s = v) (hown : w.ownsRow B 5 1 v m.length (bv m)) (hx : a.eval x = u) (hu : Byt w u l) (hl : m.length + l.length ≤ 140737488355328) (hB : B ≤ w.heap.size)
    (h : ∀ v' w', w'.ownsRow B 5 1 v' (m ++ l).length (bv (m ++ l)) → w.grownBy w' v.ownBlock → wpList Tryz.prog ops Q rest (a.put o.dst v') w') :
    wpList Tryz.prog ops Q (o :: rest) a w := by
  obtain ⟨i0, hi, hz0, hz1, hz2⟩ := info_parts info5
  obtain ⟨ao, cap, rfl, h1, h1', h2⟩ := hu
  cases ao with
  | none =>
    have hc := h1' rfl
    have hl0 : l = [] := List.eq_nil_of_length_eq_zero (by omega)
    subst hl0; subst hc
    refine wpList_append_own_none hgd s x 31 ho B 5 i0 1 Tryz.underlying31 hi v m.length (bv m) hs hown hx ?_
    exact h _ _ (by simpa using hown) (World.grownBy.refl _ _)
  | some ad =>
    refine wpList_append_own _ hgd s x 31 ho B 5 i0 (.int .u8 0) 1 1 Tryz.underlying31 hi hz0 hz1 hz2 rfl (by decide) v m.length (bv m) hs hown ad l.length cap (bv l) hx (by simp [bv]) ?_ ?_ (by unfold maxLen; omega) (by omega) hB ?_
    · intro j w2 hj
      have hjl : j < l.length := by have := (List.getElem?_eq_some_iff.1 hj).1; simpa [bv] using this
      obtain ⟨g, off, he, h3, h4⟩ := h2 (by intro e; rw [e] at hjl; simp at hjl)
      cases he
      rw [bv_get _ _ hjl] at hj
      cases hj
      rw [addAt]
      exact h4 j hjl
    · intro w2 hw2; simp [bv] at hw2; obtain ⟨q, _, rfl⟩ := hw2; rfl
    · intro v' w' g1 g2 g3
      exact h v' w' (by simpa [bv] using g1) g2
/-- A copy as new memory. -/
theorem clone_c {l : List Int} (hl : l.length ≤ 140737488355328) (v : Value) (w : World) (hv : Byt w v l) :
    Calls Tryz.prog 99 #[v] w fun e w' => ∃ u, e = .returned u ∧ w'.ownsRow w.heap.size 5 1 u l.length (bv l) ∧ Below w.heap.size w w' := by
  have HV : Hid (Byt w v l) := hv
  obtain ⟨ao, cap, rfl, h1, h1', h2⟩ := hv
  have qT : ∀ (w : World) (a : Option Addr) (n c n' c' : Nat), (binOp .eql 31 (.slice a n c) (.slice none n' c')).run Tryz.prog w = .ok (.bool a.isNone) w := fun w a n c n' c' => Lib.run_eql_slice_nil w _ _ a n c n' c' Tryz.underlying31
  have HW : Hid ((w.alloc (.cells #[] 5)).ownsRow w.heap.size 5 1 (.slice (some ⟨w.heap.size, 0, none⟩) 0 0) 0 (bv [])) := World.ownsRow_made w #[] 0 (Nat.le_refl _) (Nat.zero_le _) rfl
  have HB : Hid (Below w.heap.size w (w.alloc (.cells #[] 5))) := (Below.refl _ _).alloc (Nat.le_refl _) _
  have HV2 : Hid (Byt (w.alloc (.cells #[] 5)) (.slice ao l.length cap) l) := HV.out.later HB.out rfl
  clear h2
  cases ao with
  | none =>
    have hc := h1' rfl
    have hl0 : l = [] := List.eq_nil_of_length_eq_zero (by omega)
    subst hl0
    clear HV HW HB HV2
    go_enter Tryz.func99, Tryz.ntmps99
    go_wp2
    go_ret
    exact ⟨_, rfl, World.ownsRow_nil _ _ _ _, Below.refl _ _⟩
  | some ad =>
    go_enter Tryz.func99, Tryz.ntmps99
    go_wp2_with (at_builtin; refine appL (by rfl) _ _ (by rfl) w.heap.size _ _ [] l (by rfl) HW.out (by rfl) HV2.out (by simpa using hl) (by simp) ?_; intro v' w1 hown1 hg1)
    have HO : Hid (w1.ownsRow w.heap.size 5 1 v' l.length (bv l)) := hown1
    have HG : Hid (Below w.heap.size w w1) := Below.grown HB.out hg1 (by simp) (fun k hk => (HW.out.lt k hk).1)
    clear hown1 hg1 HW HV2 HB
    go_wp2
    go_ret
    exact ⟨_, rfl, HO.out, HG.out⟩
theorem mirrorN_c (z : Nat) (h : z ≤ 7) (w : World) : Calls Tryz.prog 79 #[.int .i64 (z : Int)] w fun e w' => e = .returned (.int .i64 ((fwN z : Nat) : Int)) ∧ w' = w := by
  have h8 : z = 0 ∨ z = 1 ∨ z = 2 ∨ z = 3 ∨ z = 4 ∨ z = 5 ∨ z = 6 ∨ z = 7 := by omega
  clear h
  rcases h8 with rfl | rfl | rfl | rfl | rfl | rfl | rfl | rfl
  · go_enter Tryz.func79, Tryz.ntmps79
    go_wp2
    go_ret
    exact ⟨ret_int (by decide +kernel), rfl⟩
  · go_enter Tryz.func79, Tryz.ntmps79
    go_wp2
    go_ret
    exact ⟨ret_int (by decide +kernel), rfl⟩
  · go_enter Tryz.func79, Tryz.ntmps79
    go_wp2
    go_ret
    exact ⟨ret_int (by decide +kernel), rfl⟩
  · go_enter Tryz.func79, Tryz.ntmps79
    go_wp2
    go_ret
    exact ⟨ret_int (by decide +kernel), rfl⟩
  · go_enter Tryz.func79, Tryz.ntmps79
    go_wp2
    go_ret
    exact ⟨ret_int (by decide +kernel), rfl⟩
  · go_enter Tryz.func79, Tryz.ntmps79
    go_wp2
    go_ret
    exact ⟨ret_int (by decide +kernel), rfl⟩
  · go_enter Tryz.func79, Tryz.ntmps79
    go_wp2
    go_ret
    exact ⟨ret_int (by decide +kernel), rfl⟩
  · go_enter Tryz.func79, Tryz.ntmps79
    go_wp2
    go_ret
    exact ⟨ret_int (by decide +kernel), rfl⟩
end Go.Proofs.YtheeogbmljjbdaaGreatDoor
