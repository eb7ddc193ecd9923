/-
  holds and reaches of a shape.
-/
import Derived.Test.YtechkhlibdkmpacEi
import Derived.Deep.RegionWith
namespace Go.Proofs.Ytechkhlibdkmpac
set_option linter.unusedVariables false
open Go.ChangeShapes Go.WideShapes Go.ChangeAt Go.RowKit Go.Deep
def hdB (P0 P1 P2 P3 : List Pc) (od : Bool) (x : Ins) : Bool := (nmB P0 x.rd && (nmB P1 x.rs1 && nmB P2 x.rs2)) && ((!P3.isEmpty || x.imm == 0) && (od || (!x.aq && !x.rl)))
def rcB (P3 : List Pc) (lo hi st v : Int) : Bool := P3.isEmpty || (decide (lo ≤ v) && (decide (v ≤ hi) && v.tmod st == 0))
theorem Lyt.cases {w : World} {v : Value} {l : List Pc} (h : Lyt w v l) : (l.isEmpty = true ∧ v = .slice none 0 0) ∨ (l.isEmpty = false ∧ ∃ a n c, v = .slice (some a) n c) := by
  rcases h with ⟨rfl, h⟩ | ⟨h1, g, h, _⟩
  · exact .inl ⟨rfl, h⟩
  · exact .inr ⟨by cases l <;> simp_all, _, _, _, h⟩
theorem neqNil (w : World) (a : Option Addr) (n c n' c' : Nat) : (binOp .neq 52 (.slice a n c) (.slice none n' c')).run Try.prog w = .ok (.bool (!a.isNone)) w := by
  simp only [binOp]
  simp [Op.equal, Op.maxDepth, Lib.run_equalIn_slice_nil w 9999 52 _ a n c n' c' Try.underlying52]
set_option maxRecDepth 100000 in
set_option maxHeartbeats 4000000 in
theorem holds_n (x : Ins) (a0 a1 a2 : Option Addr) (n0 n1 n2 c0 c1 c2 : Nat) (P0 P1 P2 P3 : List Pc) (od : Bool) (lo hi st : Int) (w : World) (hx : InsOk x) (h0 : Lyt w (.slice a0 n0 c0) P0) (h1 : Lyt w (.slice a1 n1 c1) P1) (h2 : Lyt w (.slice a2 n2 c2) P2) (hP : P3.isEmpty = true) :
    Calls Try.prog 18 #[.agg #[.slice a0 n0 c0, .slice a1 n1 c1, .slice a2 n2 c2, .slice none 0 0, .bool od, .int .i64 lo, .int .i64 hi, .int .i64 st], .agg #[.int .i64 x.op, .int .i64 x.rd, .int .i64 x.rs1, .int .i64 x.rs2, .int .i64 x.imm, .bool x.aq, .bool x.rl, .int .i64 x.len, .int .u32 x.raw]] w fun e w' => e = .returned (.bool (hdB P0 P1 P2 P3 od x)) ∧ Below w.heap.size w w' := by
  have qT : ∀ (w : World) (a : Option Addr) (n c n' c' : Nat), (binOp .neq 52 (.slice a n c) (.slice none n' c')).run Try.prog w = .ok (.bool (!a.isNone)) w := neqNil
  obtain ⟨b, hb⟩ : ∃ b, b = hdB P0 P1 P2 P3 od x := ⟨_, rfl⟩
  rw [← hb]
  have hr0 := hx.rd
  have hr1 := hx.rs1
  have hr2 := hx.rs2
  unfold I64 at hr0 hr1 hr2
  clear hx
  obtain ⟨W3, hW3⟩ : ∃ W3, (w.alloc (.cells #[.slice a0 n0 c0, .slice a1 n1 c1, .slice a2 n2 c2, .slice none 0 0, .bool od, .int .i64 lo, .int .i64 hi, .int .i64 st] 58)).alloc (.cells #[.int .i64 x.op, .int .i64 x.rd, .int .i64 x.rs1, .int .i64 x.rs2, .int .i64 x.imm, .bool x.aq, .bool x.rl, .int .i64 x.len, .int .u32 x.raw] 24) = W3 := ⟨_, rfl⟩
  have hbw : Below w.heap.size w W3 := by rw [← hW3]; exact (below_al w _).trans ((below_al _ _).mono (below_al w _).size)
  have k1 : W3.heap[w.heap.size]? = some (.cells #[.slice a0 n0 c0, .slice a1 n1 c1, .slice a2 n2 c2, .slice none 0 0, .bool od, .int .i64 lo, .int .i64 hi, .int .i64 st] 58 (0, 0)) := by rw [← hW3]; exact (Below.heap_alloc _ _ _ (by simp)).trans (heap_alloc_new w _)
  have k2 : W3.heap[w.heap.size + 1]? = some (.cells #[.int .i64 x.op, .int .i64 x.rd, .int .i64 x.rs1, .int .i64 x.rs2, .int .i64 x.imm, .bool x.aq, .bool x.rl, .int .i64 x.len, .int .u32 x.raw] 24 (0, 0)) := by rw [← hW3]; have := heap_alloc_new (w.alloc (.cells #[.slice a0 n0 c0, .slice a1 n1 c1, .slice a2 n2 c2, .slice none 0 0, .bool od, .int .i64 lo, .int .i64 hi, .int .i64 st] 58)) (.cells #[.int .i64 x.op, .int .i64 x.rd, .int .i64 x.rs1, .int .i64 x.rs2, .int .i64 x.imm, .bool x.aq, .bool x.rl, .int .i64 x.len, .int .u32 x.raw] 24); simpa using this
  have HBW : Hid (Below w.heap.size w W3) := hbw
  have HV0 : Hid (Lyt W3 (.slice a0 n0 c0) P0) := h0.later hbw
  have HV1 : Hid (Lyt W3 (.slice a1 n1 c1) P1) := h1.later hbw
  have HV2 : Hid (Lyt W3 (.slice a2 n2 c2) P2) := h2.later hbw
  have s0 : W3.cell? ⟨w.heap.size, 0, none⟩ = some (.slice a0 n0 c0) := cell_of_row W3 _ 0 _ _ _ k1
  have s1 : W3.cell? ⟨w.heap.size, 1, none⟩ = some (.slice a1 n1 c1) := cell_of_row W3 _ 1 _ _ _ k1
  have s2 : W3.cell? ⟨w.heap.size, 2, none⟩ = some (.slice a2 n2 c2) := cell_of_row W3 _ 2 _ _ _ k1
  have s3 : W3.cell? ⟨w.heap.size, 3, none⟩ = some (.slice none 0 0) := cell_of_row W3 _ 3 _ _ _ k1
  have s4 : W3.cell? ⟨w.heap.size, 4, none⟩ = some (.bool od) := cell_of_row W3 _ 4 _ _ _ k1
  have t1 : W3.cell? ⟨w.heap.size + 1, 1, none⟩ = some (.int .i64 x.rd) := cell_of_row W3 _ 1 _ _ _ k2
  have t2 : W3.cell? ⟨w.heap.size + 1, 2, none⟩ = some (.int .i64 x.rs1) := cell_of_row W3 _ 2 _ _ _ k2
  have t3 : W3.cell? ⟨w.heap.size + 1, 3, none⟩ = some (.int .i64 x.rs2) := cell_of_row W3 _ 3 _ _ _ k2
  have t4 : W3.cell? ⟨w.heap.size + 1, 4, none⟩ = some (.int .i64 x.imm) := cell_of_row W3 _ 4 _ _ _ k2
  have t5 : W3.cell? ⟨w.heap.size + 1, 5, none⟩ = some (.bool x.aq) := cell_of_row W3 _ 5 _ _ _ k2
  have t6 : W3.cell? ⟨w.heap.size + 1, 6, none⟩ = some (.bool x.rl) := cell_of_row W3 _ 6 _ _ _ k2
  clear h0 h1 h2 hbw k1 k2
  go_enter Try.func18, Try.ntmps18
  go_upto_region 1 with fail
  --@CUTN
  clear hW3
  cases f0 : nmB P0 x.rd with
  | true =>
    have HN0 : Hid (∀ W', W' = W3 → Calls Try.prog 30 #[.slice a0 n0 c0, .int .i64 x.rd] W' fun e w' => e = .returned (.bool true) ∧ w' = W') := fun W' h => by subst h; have q := names_c _ P0 x.rd W' HV0.out hr0; rw [f0] at q; exact q
    cases f1 : nmB P1 x.rs1 with
    | true =>
      have HN1 : Hid (∀ W', W' = W3 → Calls Try.prog 30 #[.slice a1 n1 c1, .int .i64 x.rs1] W' fun e w' => e = .returned (.bool true) ∧ w' = W') := fun W' h => by subst h; have q := names_c _ P1 x.rs1 W' HV1.out hr1; rw [f1] at q; exact q
      cases f2 : nmB P2 x.rs2 with
      | true =>
        have HN2 : Hid (∀ W', W' = W3 → Calls Try.prog 30 #[.slice a2 n2 c2, .int .i64 x.rs2] W' fun e w' => e = .returned (.bool true) ∧ w' = W') := fun W' h => by subst h; have q := names_c _ P2 x.rs2 W' HV2.out hr2; rw [f2] at q; exact q
        by_cases hi0 : x.imm = 0
        · have bi : (x.imm == 0) = true := by simp [hi0]
          clear hi0
          cases od with
          | true =>
            have HE : Hid (b = true) := by unfold Hid; rw [hb]; unfold hdB; rw [f0, f1, f2, hP, bi]; rfl
            clear hb
            go_wp2_with (first | (go_at_call_of 30 (Value.slice a0 n0 c0); refine (HN0.out W3 rfl).mono ?_; rintro e w9 ⟨rfl, hw9⟩; have hw8 := hw9.symm; subst hw8) | (go_at_call_of 30 (Value.slice a1 n1 c1); refine (HN1.out W3 rfl).mono ?_; rintro e w9 ⟨rfl, hw9⟩; have hw8 := hw9.symm; subst hw8) | (go_at_call_of 30 (Value.slice a2 n2 c2); refine (HN2.out W3 rfl).mono ?_; rintro e w9 ⟨rfl, hw9⟩; have hw8 := hw9.symm; subst hw8))
            go_ret
            exact ⟨by rw [HE.out]; rfl, HBW.out⟩
          | false =>
            by_cases ha : x.aq = true
            · have HE : Hid (b = false) := by unfold Hid; rw [hb]; unfold hdB; rw [f0, f1, f2, hP, bi, ha]; rfl
              clear hb
              go_wp2_with (first | (go_at_call_of 30 (Value.slice a0 n0 c0); refine (HN0.out W3 rfl).mono ?_; rintro e w9 ⟨rfl, hw9⟩; have hw8 := hw9.symm; subst hw8) | (go_at_call_of 30 (Value.slice a1 n1 c1); refine (HN1.out W3 rfl).mono ?_; rintro e w9 ⟨rfl, hw9⟩; have hw8 := hw9.symm; subst hw8) | (go_at_call_of 30 (Value.slice a2 n2 c2); refine (HN2.out W3 rfl).mono ?_; rintro e w9 ⟨rfl, hw9⟩; have hw8 := hw9.symm; subst hw8))
              go_ret
              exact ⟨by rw [HE.out]; rfl, HBW.out⟩
            · have ha' : x.aq = false := Bool.eq_false_iff.2 ha
              clear ha
              have HE : Hid (b = (!x.rl)) := by unfold Hid; rw [hb]; unfold hdB; rw [f0, f1, f2, hP, bi, ha']; rfl
              clear hb
              go_wp2_with (first | (go_at_call_of 30 (Value.slice a0 n0 c0); refine (HN0.out W3 rfl).mono ?_; rintro e w9 ⟨rfl, hw9⟩; have hw8 := hw9.symm; subst hw8) | (go_at_call_of 30 (Value.slice a1 n1 c1); refine (HN1.out W3 rfl).mono ?_; rintro e w9 ⟨rfl, hw9⟩; have hw8 := hw9.symm; subst hw8) | (go_at_call_of 30 (Value.slice a2 n2 c2); refine (HN2.out W3 rfl).mono ?_; rintro e w9 ⟨rfl, hw9⟩; have hw8 := hw9.symm; subst hw8))
              go_ret
              exact ⟨by rw [HE.out]; rfl, HBW.out⟩
        · have bi : (x.imm == 0) = false := by simpa using hi0
          clear hi0
          cases od with
          | true =>
            have HE : Hid (b = false) := by unfold Hid; rw [hb]; unfold hdB; rw [f0, f1, f2, hP, bi]; rfl
            clear hb
            go_wp2_with (first | (go_at_call_of 30 (Value.slice a0 n0 c0); refine (HN0.out W3 rfl).mono ?_; rintro e w9 ⟨rfl, hw9⟩; have hw8 := hw9.symm; subst hw8) | (go_at_call_of 30 (Value.slice a1 n1 c1); refine (HN1.out W3 rfl).mono ?_; rintro e w9 ⟨rfl, hw9⟩; have hw8 := hw9.symm; subst hw8) | (go_at_call_of 30 (Value.slice a2 n2 c2); refine (HN2.out W3 rfl).mono ?_; rintro e w9 ⟨rfl, hw9⟩; have hw8 := hw9.symm; subst hw8))
            go_ret
            exact ⟨by rw [HE.out]; rfl, HBW.out⟩
          | false =>
            by_cases ha : x.aq = true
            · have HE : Hid (b = false) := by unfold Hid; rw [hb]; unfold hdB; rw [f0, f1, f2, hP, bi]; rfl
              clear hb
              go_wp2_with (first | (go_at_call_of 30 (Value.slice a0 n0 c0); refine (HN0.out W3 rfl).mono ?_; rintro e w9 ⟨rfl, hw9⟩; have hw8 := hw9.symm; subst hw8) | (go_at_call_of 30 (Value.slice a1 n1 c1); refine (HN1.out W3 rfl).mono ?_; rintro e w9 ⟨rfl, hw9⟩; have hw8 := hw9.symm; subst hw8) | (go_at_call_of 30 (Value.slice a2 n2 c2); refine (HN2.out W3 rfl).mono ?_; rintro e w9 ⟨rfl, hw9⟩; have hw8 := hw9.symm; subst hw8))
              go_ret
              exact ⟨by rw [HE.out]; rfl, HBW.out⟩
            · have ha' : x.aq = false := Bool.eq_false_iff.2 ha
              clear ha
              have HE : Hid (b = false) := by unfold Hid; rw [hb]; unfold hdB; rw [f0, f1, f2, hP, bi]; rfl
              clear hb
              go_wp2_with (first | (go_at_call_of 30 (Value.slice a0 n0 c0); refine (HN0.out W3 rfl).mono ?_; rintro e w9 ⟨rfl, hw9⟩; have hw8 := hw9.symm; subst hw8) | (go_at_call_of 30 (Value.slice a1 n1 c1); refine (HN1.out W3 rfl).mono ?_; rintro e w9 ⟨rfl, hw9⟩; have hw8 := hw9.symm; subst hw8) | (go_at_call_of 30 (Value.slice a2 n2 c2); refine (HN2.out W3 rfl).mono ?_; rintro e w9 ⟨rfl, hw9⟩; have hw8 := hw9.symm; subst hw8))
              go_ret
              exact ⟨by rw [HE.out]; rfl, HBW.out⟩
      | false =>
        have HN2 : Hid (∀ W', W' = W3 → Calls Try.prog 30 #[.slice a2 n2 c2, .int .i64 x.rs2] W' fun e w' => e = .returned (.bool false) ∧ w' = W') := fun W' h => by subst h; have q := names_c _ P2 x.rs2 W' HV2.out hr2; rw [f2] at q; exact q
        by_cases hi0 : x.imm = 0
        · have bi : (x.imm == 0) = true := by simp [hi0]
          clear hi0
          cases od with
          | true =>
            have HE : Hid (b = false) := by unfold Hid; rw [hb]; unfold hdB; rw [f0, f1, f2]; rfl
            clear hb
            go_wp2_with (first | (go_at_call_of 30 (Value.slice a0 n0 c0); refine (HN0.out W3 rfl).mono ?_; rintro e w9 ⟨rfl, hw9⟩; have hw8 := hw9.symm; subst hw8) | (go_at_call_of 30 (Value.slice a1 n1 c1); refine (HN1.out W3 rfl).mono ?_; rintro e w9 ⟨rfl, hw9⟩; have hw8 := hw9.symm; subst hw8) | (go_at_call_of 30 (Value.slice a2 n2 c2); refine (HN2.out W3 rfl).mono ?_; rintro e w9 ⟨rfl, hw9⟩; have hw8 := hw9.symm; subst hw8))
            go_ret
            exact ⟨by rw [HE.out]; rfl, HBW.out⟩
          | false =>
            by_cases ha : x.aq = true
            · have HE : Hid (b = false) := by unfold Hid; rw [hb]; unfold hdB; rw [f0, f1, f2]; rfl
              clear hb
              go_wp2_with (first | (go_at_call_of 30 (Value.slice a0 n0 c0); refine (HN0.out W3 rfl).mono ?_; rintro e w9 ⟨rfl, hw9⟩; have hw8 := hw9.symm; subst hw8) | (go_at_call_of 30 (Value.slice a1 n1 c1); refine (HN1.out W3 rfl).mono ?_; rintro e w9 ⟨rfl, hw9⟩; have hw8 := hw9.symm; subst hw8) | (go_at_call_of 30 (Value.slice a2 n2 c2); refine (HN2.out W3 rfl).mono ?_; rintro e w9 ⟨rfl, hw9⟩; have hw8 := hw9.symm; subst hw8))
              go_ret
              exact ⟨by rw [HE.out]; rfl, HBW.out⟩
            · have ha' : x.aq = false := Bool.eq_false_iff.2 ha
              clear ha
              have HE : Hid (b = false) := by unfold Hid; rw [hb]; unfold hdB; rw [f0, f1, f2]; rfl
              clear hb
              go_wp2_with (first | (go_at_call_of 30 (Value.slice a0 n0 c0); refine (HN0.out W3 rfl).mono ?_; rintro e w9 ⟨rfl, hw9⟩; have hw8 := hw9.symm; subst hw8) | (go_at_call_of 30 (Value.slice a1 n1 c1); refine (HN1.out W3 rfl).mono ?_; rintro e w9 ⟨rfl, hw9⟩; have hw8 := hw9.symm; subst hw8) | (go_at_call_of 30 (Value.slice a2 n2 c2); refine (HN2.out W3 rfl).mono ?_; rintro e w9 ⟨rfl, hw9⟩; have hw8 := hw9.symm; subst hw8))
              go_ret
              exact ⟨by rw [HE.out]; rfl, HBW.out⟩
        · have bi : (x.imm == 0) = false := by simpa using hi0
          clear hi0
          cases od with
          | true =>
            have HE : Hid (b = false) := by unfold Hid; rw [hb]; unfold hdB; rw [f0, f1, f2]; rfl
            clear hb
            go_wp2_with (first | (go_at_call_of 30 (Value.slice a0 n0 c0); refine (HN0.out W3 rfl).mono ?_; rintro e w9 ⟨rfl, hw9⟩; have hw8 := hw9.symm; subst hw8) | (go_at_call_of 30 (Value.slice a1 n1 c1); refine (HN1.out W3 rfl).mono ?_; rintro e w9 ⟨rfl, hw9⟩; have hw8 := hw9.symm; subst hw8) | (go_at_call_of 30 (Value.slice a2 n2 c2); refine (HN2.out W3 rfl).mono ?_; rintro e w9 ⟨rfl, hw9⟩; have hw8 := hw9.symm; subst hw8))
            go_ret
            exact ⟨by rw [HE.out]; rfl, HBW.out⟩
          | false =>
            by_cases ha : x.aq = true
            · have HE : Hid (b = false) := by unfold Hid; rw [hb]; unfold hdB; rw [f0, f1, f2]; rfl
              clear hb
              go_wp2_with (first | (go_at_call_of 30 (Value.slice a0 n0 c0); refine (HN0.out W3 rfl).mono ?_; rintro e w9 ⟨rfl, hw9⟩; have hw8 := hw9.symm; subst hw8) | (go_at_call_of 30 (Value.slice a1 n1 c1); refine (HN1.out W3 rfl).mono ?_; rintro e w9 ⟨rfl, hw9⟩; have hw8 := hw9.symm; subst hw8) | (go_at_call_of 30 (Value.slice a2 n2 c2); refine (HN2.out W3 rfl).mono ?_; rintro e w9 ⟨rfl, hw9⟩; have hw8 := hw9.symm; subst hw8))
              go_ret
              exact ⟨by rw [HE.out]; rfl, HBW.out⟩
            · have ha' : x.aq = false := Bool.eq_false_iff.2 ha
              clear ha
              have HE : Hid (b = false) := by unfold Hid; rw [hb]; unfold hdB; rw [f0, f1, f2]; rfl
              clear hb
              go_wp2_with (first | (go_at_call_of 30 (Value.slice a0 n0 c0); refine (HN0.out W3 rfl).mono ?_; rintro e w9 ⟨rfl, hw9⟩; have hw8 := hw9.symm; subst hw8) | (go_at_call_of 30 (Value.slice a1 n1 c1); refine (HN1.out W3 rfl).mono ?_; rintro e w9 ⟨rfl, hw9⟩; have hw8 := hw9.symm; subst hw8) | (go_at_call_of 30 (Value.slice a2 n2 c2); refine (HN2.out W3 rfl).mono ?_; rintro e w9 ⟨rfl, hw9⟩; have hw8 := hw9.symm; subst hw8))
              go_ret
              exact ⟨by rw [HE.out]; rfl, HBW.out⟩
    | false =>
      have HN1 : Hid (∀ W', W' = W3 → Calls Try.prog 30 #[.slice a1 n1 c1, .int .i64 x.rs1] W' fun e w' => e = .returned (.bool false) ∧ w' = W') := fun W' h => by subst h; have q := names_c _ P1 x.rs1 W' HV1.out hr1; rw [f1] at q; exact q
      have HN2 : Hid True := trivial
      by_cases hi0 : x.imm = 0
      · have bi : (x.imm == 0) = true := by simp [hi0]
        clear hi0
        cases od with
        | true =>
          have HE : Hid (b = false) := by unfold Hid; rw [hb]; unfold hdB; rw [f0, f1]; rfl
          clear hb
          go_wp2_with (first | (go_at_call_of 30 (Value.slice a0 n0 c0); refine (HN0.out W3 rfl).mono ?_; rintro e w9 ⟨rfl, hw9⟩; have hw8 := hw9.symm; subst hw8) | (go_at_call_of 30 (Value.slice a1 n1 c1); refine (HN1.out W3 rfl).mono ?_; rintro e w9 ⟨rfl, hw9⟩; have hw8 := hw9.symm; subst hw8) | (go_at_call_of 30 (Value.slice a2 n2 c2); refine (HN2.out W3 rfl).mono ?_; rintro e w9 ⟨rfl, hw9⟩; have hw8 := hw9.symm; subst hw8))
          go_ret
          exact ⟨by rw [HE.out]; rfl, HBW.out⟩
        | false =>
          by_cases ha : x.aq = true
          · have HE : Hid (b = false) := by unfold Hid; rw [hb]; unfold hdB; rw [f0, f1]; rfl
            clear hb
            go_wp2_with (first | (go_at_call_of 30 (Value.slice a0 n0 c0); refine (HN0.out W3 rfl).mono ?_; rintro e w9 ⟨rfl, hw9⟩; have hw8 := hw9.symm; subst hw8) | (go_at_call_of 30 (Value.slice a1 n1 c1); refine (HN1.out W3 rfl).mono ?_; rintro e w9 ⟨rfl, hw9⟩; have hw8 := hw9.symm; subst hw8) | (go_at_call_of 30 (Value.slice a2 n2 c2); refine (HN2.out W3 rfl).mono ?_; rintro e w9 ⟨rfl, hw9⟩; have hw8 := hw9.symm; subst hw8))
            go_ret
            exact ⟨by rw [HE.out]; rfl, HBW.out⟩
          · have ha' : x.aq = false := Bool.eq_false_iff.2 ha
            clear ha
            have HE : Hid (b = false) := by unfold Hid; rw [hb]; unfold hdB; rw [f0, f1]; rfl
            clear hb
            go_wp2_with (first | (go_at_call_of 30 (Value.slice a0 n0 c0); refine (HN0.out W3 rfl).mono ?_; rintro e w9 ⟨rfl, hw9⟩; have hw8 := hw9.symm; subst hw8) | (go_at_call_of 30 (Value.slice a1 n1 c1); refine (HN1.out W3 rfl).mono ?_; rintro e w9 ⟨rfl, hw9⟩; have hw8 := hw9.symm; subst hw8) | (go_at_call_of 30 (Value.slice a2 n2 c2); refine (HN2.out W3 rfl).mono ?_; rintro e w9 ⟨rfl, hw9⟩; have hw8 := hw9.symm; subst hw8))
            go_ret
            exact ⟨by rw [HE.out]; rfl, HBW.out⟩
      · have bi : (x.imm == 0) = false := by simpa using hi0
        clear hi0
        cases od with
        | true =>
          have HE : Hid (b = false) := by unfold Hid; rw [hb]; unfold hdB; rw [f0, f1]; rfl
          clear hb
          go_wp2_with (first | (go_at_call_of 30 (Value.slice a0 n0 c0); refine (HN0.out W3 rfl).mono ?_; rintro e w9 ⟨rfl, hw9⟩; have hw8 := hw9.symm; subst hw8) | (go_at_call_of 30 (Value.slice a1 n1 c1); refine (HN1.out W3 rfl).mono ?_; rintro e w9 ⟨rfl, hw9⟩; have hw8 := hw9.symm; subst hw8) | (go_at_call_of 30 (Value.slice a2 n2 c2); refine (HN2.out W3 rfl).mono ?_; rintro e w9 ⟨rfl, hw9⟩; have hw8 := hw9.symm; subst hw8))
          go_ret
          exact ⟨by rw [HE.out]; rfl, HBW.out⟩
        | false =>
          by_cases ha : x.aq = true
          · have HE : Hid (b = false) := by unfold Hid; rw [hb]; unfold hdB; rw [f0, f1]; rfl
            clear hb
            go_wp2_with (first | (go_at_call_of 30 (Value.slice a0 n0 c0); refine (HN0.out W3 rfl).mono ?_; rintro e w9 ⟨rfl, hw9⟩; have hw8 := hw9.symm; subst hw8) | (go_at_call_of 30 (Value.slice a1 n1 c1); refine (HN1.out W3 rfl).mono ?_; rintro e w9 ⟨rfl, hw9⟩; have hw8 := hw9.symm; subst hw8) | (go_at_call_of 30 (Value.slice a2 n2 c2); refine (HN2.out W3 rfl).mono ?_; rintro e w9 ⟨rfl, hw9⟩; have hw8 := hw9.symm; subst hw8))
            go_ret
            exact ⟨by rw [HE.out]; rfl, HBW.out⟩
          · have ha' : x.aq = false := Bool.eq_false_iff.2 ha
            clear ha
            have HE : Hid (b = false) := by unfold Hid; rw [hb]; unfold hdB; rw [f0, f1]; rfl
            clear hb
            go_wp2_with (first | (go_at_call_of 30 (Value.slice a0 n0 c0); refine (HN0.out W3 rfl).mono ?_; rintro e w9 ⟨rfl, hw9⟩; have hw8 := hw9.symm; subst hw8) | (go_at_call_of 30 (Value.slice a1 n1 c1); refine (HN1.out W3 rfl).mono ?_; rintro e w9 ⟨rfl, hw9⟩; have hw8 := hw9.symm; subst hw8) | (go_at_call_of 30 (Value.slice a2 n2 c2); refine (HN2.out W3 rfl).mono ?_; rintro e w9 ⟨rfl, hw9⟩; have hw8 := hw9.symm; subst hw8))
            go_ret
            exact ⟨by rw [HE.out]; rfl, HBW.out⟩
  | false =>
    have HN0 : Hid (∀ W', W' = W3 → Calls Try.prog 30 #[.slice a0 n0 c0, .int .i64 x.rd] W' fun e w' => e = .returned (.bool false) ∧ w' = W') := fun W' h => by subst h; have q := names_c _ P0 x.rd W' HV0.out hr0; rw [f0] at q; exact q
    have HN1 : Hid True := trivial
    have HN2 : Hid True := trivial
    by_cases hi0 : x.imm = 0
    · have bi : (x.imm == 0) = true := by simp [hi0]
      clear hi0
      cases od with
      | true =>
        have HE : Hid (b = false) := by unfold Hid; rw [hb]; unfold hdB; rw [f0]; rfl
        clear hb
        go_wp2_with (first | (go_at_call_of 30 (Value.slice a0 n0 c0); refine (HN0.out W3 rfl).mono ?_; rintro e w9 ⟨rfl, hw9⟩; have hw8 := hw9.symm; subst hw8) | (go_at_call_of 30 (Value.slice a1 n1 c1); refine (HN1.out W3 rfl).mono ?_; rintro e w9 ⟨rfl, hw9⟩; have hw8 := hw9.symm; subst hw8) | (go_at_call_of 30 (Value.slice a2 n2 c2); refine (HN2.out W3 rfl).mono ?_; rintro e w9 ⟨rfl, hw9⟩; have hw8 := hw9.symm; subst hw8))
        go_ret
        exact ⟨by rw [HE.out]; rfl, HBW.out⟩
      | false =>
        by_cases ha : x.aq = true
        · have HE : Hid (b = false) := by unfold Hid; rw [hb]; unfold hdB; rw [f0]; rfl
          clear hb
          go_wp2_with (first | (go_at_call_of 30 (Value.slice a0 n0 c0); refine (HN0.out W3 rfl).mono ?_; rintro e w9 ⟨rfl, hw9⟩; have hw8 := hw9.symm; subst hw8) | (go_at_call_of 30 (Value.slice a1 n1 c1); refine (HN1.out W3 rfl).mono ?_; rintro e w9 ⟨rfl, hw9⟩; have hw8 := hw9.symm; subst hw8) | (go_at_call_of 30 (Value.slice a2 n2 c2); refine (HN2.out W3 rfl).mono ?_; rintro e w9 ⟨rfl, hw9⟩; have hw8 := hw9.symm; subst hw8))
          go_ret
          exact ⟨by rw [HE.out]; rfl, HBW.out⟩
        · have ha' : x.aq = false := Bool.eq_false_iff.2 ha
          clear ha
          have HE : Hid (b = false) := by unfold Hid; rw [hb]; unfold hdB; rw [f0]; rfl
          clear hb
          go_wp2_with (first | (go_at_call_of 30 (Value.slice a0 n0 c0); refine (HN0.out W3 rfl).mono ?_; rintro e w9 ⟨rfl, hw9⟩; have hw8 := hw9.symm; subst hw8) | (go_at_call_of 30 (Value.slice a1 n1 c1); refine (HN1.out W3 rfl).mono ?_; rintro e w9 ⟨rfl, hw9⟩; have hw8 := hw9.symm; subst hw8) | (go_at_call_of 30 (Value.slice a2 n2 c2); refine (HN2.out W3 rfl).mono ?_; rintro e w9 ⟨rfl, hw9⟩; have hw8 := hw9.symm; subst hw8))
          go_ret
          exact ⟨by rw [HE.out]; rfl, HBW.out⟩
    · have bi : (x.imm == 0) = false := by simpa using hi0
      clear hi0
      cases od with
      | true =>
        have HE : Hid (b = false) := by unfold Hid; rw [hb]; unfold hdB; rw [f0]; rfl
        clear hb
        go_wp2_with (first | (go_at_call_of 30 (Value.slice a0 n0 c0); refine (HN0.out W3 rfl).mono ?_; rintro e w9 ⟨rfl, hw9⟩; have hw8 := hw9.symm; subst hw8) | (go_at_call_of 30 (Value.slice a1 n1 c1); refine (HN1.out W3 rfl).mono ?_; rintro e w9 ⟨rfl, hw9⟩; have hw8 := hw9.symm; subst hw8) | (go_at_call_of 30 (Value.slice a2 n2 c2); refine (HN2.out W3 rfl).mono ?_; rintro e w9 ⟨rfl, hw9⟩; have hw8 := hw9.symm; subst hw8))
        go_ret
        exact ⟨by rw [HE.out]; rfl, HBW.out⟩
      | false =>
        by_cases ha : x.aq = true
        · have HE : Hid (b = false) := by unfold Hid; rw [hb]; unfold hdB; rw [f0]; rfl
          clear hb
          go_wp2_with (first | (go_at_call_of 30 (Value.slice a0 n0 c0); refine (HN0.out W3 rfl).mono ?_; rintro e w9 ⟨rfl, hw9⟩; have hw8 := hw9.symm; subst hw8) | (go_at_call_of 30 (Value.slice a1 n1 c1); refine (HN1.out W3 rfl).mono ?_; rintro e w9 ⟨rfl, hw9⟩; have hw8 := hw9.symm; subst hw8) | (go_at_call_of 30 (Value.slice a2 n2 c2); refine (HN2.out W3 rfl).mono ?_; rintro e w9 ⟨rfl, hw9⟩; have hw8 := hw9.symm; subst hw8))
          go_ret
          exact ⟨by rw [HE.out]; rfl, HBW.out⟩
        · have ha' : x.aq = false := Bool.eq_false_iff.2 ha
          clear ha
          have HE : Hid (b = false) := by unfold Hid; rw [hb]; unfold hdB; rw [f0]; rfl
          clear hb
          go_wp2_with (first | (go_at_call_of 30 (Value.slice a0 n0 c0); refine (HN0.out W3 rfl).mono ?_; rintro e w9 ⟨rfl, hw9⟩; have hw8 := hw9.symm; subst hw8) | (go_at_call_of 30 (Value.slice a1 n1 c1); refine (HN1.out W3 rfl).mono ?_; rintro e w9 ⟨rfl, hw9⟩; have hw8 := hw9.symm; subst hw8) | (go_at_call_of 30 (Value.slice a2 n2 c2); refine (HN2.out W3 rfl).mono ?_; rintro e w9 ⟨rfl, hw9⟩; have hw8 := hw9.symm; subst hw8))
          go_ret
          exact ⟨by rw [HE.out]; rfl, HBW.out⟩
set_option maxRecDepth 100000 in
set_option maxHeartbeats 4000000 in
theorem holds_s (x : Ins) (a0 a1 a2 : Option Addr) (n0 n1 n2 c0 c1 c2 : Nat) (a3 : Addr) (n3 c3 : Nat) (P0 P1 P2 P3 : List Pc) (od : Bool) (lo hi st : Int) (w : World) (hx : InsOk x) (h0 : Lyt w (.slice a0 n0 c0) P0) (h1 : Lyt w (.slice a1 n1 c1) P1) (h2 : Lyt w (.slice a2 n2 c2) P2) (hP : P3.isEmpty = false) :
    Calls Try.prog 18 #[.agg #[.slice a0 n0 c0, .slice a1 n1 c1, .slice a2 n2 c2, .slice (some a3) n3 c3, .bool od, .int .i64 lo, .int .i64 hi, .int .i64 st], .agg #[.int .i64 x.op, .int .i64 x.rd, .int .i64 x.rs1, .int .i64 x.rs2, .int .i64 x.imm, .bool x.aq, .bool x.rl, .int .i64 x.len, .int .u32 x.raw]] w fun e w' => e = .returned (.bool (hdB P0 P1 P2 P3 od x)) ∧ Below w.heap.size w w' := by
  have qT : ∀ (w : World) (a : Option Addr) (n c n' c' : Nat), (binOp .neq 52 (.slice a n c) (.slice none n' c')).run Try.prog w = .ok (.bool (!a.isNone)) w := neqNil
  obtain ⟨b, hb⟩ : ∃ b, b = hdB P0 P1 P2 P3 od x := ⟨_, rfl⟩
  rw [← hb]
  have hr0 := hx.rd
  have hr1 := hx.rs1
  have hr2 := hx.rs2
  unfold I64 at hr0 hr1 hr2
  clear hx
  obtain ⟨W3, hW3⟩ : ∃ W3, (w.alloc (.cells #[.slice a0 n0 c0, .slice a1 n1 c1, .slice a2 n2 c2, .slice (some a3) n3 c3, .bool od, .int .i64 lo, .int .i64 hi, .int .i64 st] 58)).alloc (.cells #[.int .i64 x.op, .int .i64 x.rd, .int .i64 x.rs1, .int .i64 x.rs2, .int .i64 x.imm, .bool x.aq, .bool x.rl, .int .i64 x.len, .int .u32 x.raw] 24) = W3 := ⟨_, rfl⟩
  have hbw : Below w.heap.size w W3 := by rw [← hW3]; exact (below_al w _).trans ((below_al _ _).mono (below_al w _).size)
  have k1 : W3.heap[w.heap.size]? = some (.cells #[.slice a0 n0 c0, .slice a1 n1 c1, .slice a2 n2 c2, .slice (some a3) n3 c3, .bool od, .int .i64 lo, .int .i64 hi, .int .i64 st] 58 (0, 0)) := by rw [← hW3]; exact (Below.heap_alloc _ _ _ (by simp)).trans (heap_alloc_new w _)
  have k2 : W3.heap[w.heap.size + 1]? = some (.cells #[.int .i64 x.op, .int .i64 x.rd, .int .i64 x.rs1, .int .i64 x.rs2, .int .i64 x.imm, .bool x.aq, .bool x.rl, .int .i64 x.len, .int .u32 x.raw] 24 (0, 0)) := by rw [← hW3]; have := heap_alloc_new (w.alloc (.cells #[.slice a0 n0 c0, .slice a1 n1 c1, .slice a2 n2 c2, .slice (some a3) n3 c3, .bool od, .int .i64 lo, .int .i64 hi, .int .i64 st] 58)) (.cells #[.int .i64 x.op, .int .i64 x.rd, .int .i64 x.rs1, .int .i64 x.rs2, .int .i64 x.imm, .bool x.aq, .bool x.rl, .int .i64 x.len, .int .u32 x.raw] 24); simpa using this
  have HBW : Hid (Below w.heap.size w W3) := hbw
  have HV0 : Hid (Lyt W3 (.slice a0 n0 c0) P0) := h0.later hbw
  have HV1 : Hid (Lyt W3 (.slice a1 n1 c1) P1) := h1.later hbw
  have HV2 : Hid (Lyt W3 (.slice a2 n2 c2) P2) := h2.later hbw
  have s0 : W3.cell? ⟨w.heap.size, 0, none⟩ = some (.slice a0 n0 c0) := cell_of_row W3 _ 0 _ _ _ k1
  have s1 : W3.cell? ⟨w.heap.size, 1, none⟩ = some (.slice a1 n1 c1) := cell_of_row W3 _ 1 _ _ _ k1
  have s2 : W3.cell? ⟨w.heap.size, 2, none⟩ = some (.slice a2 n2 c2) := cell_of_row W3 _ 2 _ _ _ k1
  have s3 : W3.cell? ⟨w.heap.size, 3, none⟩ = some (.slice (some a3) n3 c3) := cell_of_row W3 _ 3 _ _ _ k1
  have s4 : W3.cell? ⟨w.heap.size, 4, none⟩ = some (.bool od) := cell_of_row W3 _ 4 _ _ _ k1
  have t1 : W3.cell? ⟨w.heap.size + 1, 1, none⟩ = some (.int .i64 x.rd) := cell_of_row W3 _ 1 _ _ _ k2
  have t2 : W3.cell? ⟨w.heap.size + 1, 2, none⟩ = some (.int .i64 x.rs1) := cell_of_row W3 _ 2 _ _ _ k2
  have t3 : W3.cell? ⟨w.heap.size + 1, 3, none⟩ = some (.int .i64 x.rs2) := cell_of_row W3 _ 3 _ _ _ k2
  have t4 : W3.cell? ⟨w.heap.size + 1, 4, none⟩ = some (.int .i64 x.imm) := cell_of_row W3 _ 4 _ _ _ k2
  have t5 : W3.cell? ⟨w.heap.size + 1, 5, none⟩ = some (.bool x.aq) := cell_of_row W3 _ 5 _ _ _ k2
  have t6 : W3.cell? ⟨w.heap.size + 1, 6, none⟩ = some (.bool x.rl) := cell_of_row W3 _ 6 _ _ _ k2
  clear h0 h1 h2 hbw k1 k2
  go_enter Try.func18, Try.ntmps18
  go_upto_region 1 with fail
  --@CUTS
  clear hW3
  cases f0 : nmB P0 x.rd with
  | true =>
    have HN0 : Hid (∀ W', W' = W3 → Calls Try.prog 30 #[.slice a0 n0 c0, .int .i64 x.rd] W' fun e w' => e = .returned (.bool true) ∧ w' = W') := fun W' h => by subst h; have q := names_c _ P0 x.rd W' HV0.out hr0; rw [f0] at q; exact q
    cases f1 : nmB P1 x.rs1 with
    | true =>
      have HN1 : Hid (∀ W', W' = W3 → Calls Try.prog 30 #[.slice a1 n1 c1, .int .i64 x.rs1] W' fun e w' => e = .returned (.bool true) ∧ w' = W') := fun W' h => by subst h; have q := names_c _ P1 x.rs1 W' HV1.out hr1; rw [f1] at q; exact q
      cases f2 : nmB P2 x.rs2 with
      | true =>
        have HN2 : Hid (∀ W', W' = W3 → Calls Try.prog 30 #[.slice a2 n2 c2, .int .i64 x.rs2] W' fun e w' => e = .returned (.bool true) ∧ w' = W') := fun W' h => by subst h; have q := names_c _ P2 x.rs2 W' HV2.out hr2; rw [f2] at q; exact q
        cases od with
        | true =>
          have HE : Hid (b = true) := by unfold Hid; rw [hb]; unfold hdB; rw [f0, f1, f2, hP]; rfl
          clear hb
          go_wp2_with (first | (go_at_call_of 30 (Value.slice a0 n0 c0); refine (HN0.out W3 rfl).mono ?_; rintro e w9 ⟨rfl, hw9⟩; have hw8 := hw9.symm; subst hw8) | (go_at_call_of 30 (Value.slice a1 n1 c1); refine (HN1.out W3 rfl).mono ?_; rintro e w9 ⟨rfl, hw9⟩; have hw8 := hw9.symm; subst hw8) | (go_at_call_of 30 (Value.slice a2 n2 c2); refine (HN2.out W3 rfl).mono ?_; rintro e w9 ⟨rfl, hw9⟩; have hw8 := hw9.symm; subst hw8))
          go_ret
          exact ⟨by rw [HE.out]; rfl, HBW.out⟩
        | false =>
          by_cases ha : x.aq = true
          · have HE : Hid (b = false) := by unfold Hid; rw [hb]; unfold hdB; rw [f0, f1, f2, hP, ha]; rfl
            clear hb
            go_wp2_with (first | (go_at_call_of 30 (Value.slice a0 n0 c0); refine (HN0.out W3 rfl).mono ?_; rintro e w9 ⟨rfl, hw9⟩; have hw8 := hw9.symm; subst hw8) | (go_at_call_of 30 (Value.slice a1 n1 c1); refine (HN1.out W3 rfl).mono ?_; rintro e w9 ⟨rfl, hw9⟩; have hw8 := hw9.symm; subst hw8) | (go_at_call_of 30 (Value.slice a2 n2 c2); refine (HN2.out W3 rfl).mono ?_; rintro e w9 ⟨rfl, hw9⟩; have hw8 := hw9.symm; subst hw8))
            go_ret
            exact ⟨by rw [HE.out]; rfl, HBW.out⟩
          · have ha' : x.aq = false := Bool.eq_false_iff.2 ha
            clear ha
            have HE : Hid (b = (!x.rl)) := by unfold Hid; rw [hb]; unfold hdB; rw [f0, f1, f2, hP, ha']; rfl
            clear hb
            go_wp2_with (first | (go_at_call_of 30 (Value.slice a0 n0 c0); refine (HN0.out W3 rfl).mono ?_; rintro e w9 ⟨rfl, hw9⟩; have hw8 := hw9.symm; subst hw8) | (go_at_call_of 30 (Value.slice a1 n1 c1); refine (HN1.out W3 rfl).mono ?_; rintro e w9 ⟨rfl, hw9⟩; have hw8 := hw9.symm; subst hw8) | (go_at_call_of 30 (Value.slice a2 n2 c2); refine (HN2.out W3 rfl).mono ?_; rintro e w9 ⟨rfl, hw9⟩; have hw8 := hw9.symm; subst hw8))
            go_ret
            exact ⟨by rw [HE.out]; rfl, HBW.out⟩
      | false =>
        have HN2 : Hid (∀ W', W' = W3 → Calls Try.prog 30 #[.slice a2 n2 c2, .int .i64 x.rs2] W' fun e w' => e = .returned (.bool false) ∧ w' = W') := fun W' h => by subst h; have q := names_c _ P2 x.rs2 W' HV2.out hr2; rw [f2] at q; exact q
        cases od with
        | true =>
          have HE : Hid (b = false) := by unfold Hid; rw [hb]; unfold hdB; rw [f0, f1, f2]; rfl
          clear hb
          go_wp2_with (first | (go_at_call_of 30 (Value.slice a0 n0 c0); refine (HN0.out W3 rfl).mono ?_; rintro e w9 ⟨rfl, hw9⟩; have hw8 := hw9.symm; subst hw8) | (go_at_call_of 30 (Value.slice a1 n1 c1); refine (HN1.out W3 rfl).mono ?_; rintro e w9 ⟨rfl, hw9⟩; have hw8 := hw9.symm; subst hw8) | (go_at_call_of 30 (Value.slice a2 n2 c2); refine (HN2.out W3 rfl).mono ?_; rintro e w9 ⟨rfl, hw9⟩; have hw8 := hw9.symm; subst hw8))
          go_ret
          exact ⟨by rw [HE.out]; rfl, HBW.out⟩
        | false =>
          by_cases ha : x.aq = true
          · have HE : Hid (b = false) := by unfold Hid; rw [hb]; unfold hdB; rw [f0, f1, f2]; rfl
            clear hb
            go_wp2_with (first | (go_at_call_of 30 (Value.slice a0 n0 c0); refine (HN0.out W3 rfl).mono ?_; rintro e w9 ⟨rfl, hw9⟩; have hw8 := hw9.symm; subst hw8) | (go_at_call_of 30 (Value.slice a1 n1 c1); refine (HN1.out W3 rfl).mono ?_; rintro e w9 ⟨rfl, hw9⟩; have hw8 := hw9.symm; subst hw8) | (go_at_call_of 30 (Value.slice a2 n2 c2); refine (HN2.out W3 rfl).mono ?_; rintro e w9 ⟨rfl, hw9⟩; have hw8 := hw9.symm; subst hw8))
            go_ret
            exact ⟨by rw [HE.out]; rfl, HBW.out⟩
          · have ha' : x.aq = false := Bool.eq_false_iff.2 ha
            clear ha
            have HE : Hid (b = false) := by unfold Hid; rw [hb]; unfold hdB; rw [f0, f1, f2]; rfl
            clear hb
            go_wp2_with (first | (go_at_call_of 30 (Value.slice a0 n0 c0); refine (HN0.out W3 rfl).mono ?_; rintro e w9 ⟨rfl, hw9⟩; have hw8 := hw9.symm; subst hw8) | (go_at_call_of 30 (Value.slice a1 n1 c1); refine (HN1.out W3 rfl).mono ?_; rintro e w9 ⟨rfl, hw9⟩; have hw8 := hw9.symm; subst hw8) | (go_at_call_of 30 (Value.slice a2 n2 c2); refine (HN2.out W3 rfl).mono ?_; rintro e w9 ⟨rfl, hw9⟩; have hw8 := hw9.symm; subst hw8))
            go_ret
            exact ⟨by rw [HE.out]; rfl, HBW.out⟩
    | false =>
      have HN1 : Hid (∀ W', W' = W3 → Calls Try.prog 30 #[.slice a1 n1 c1, .int .i64 x.rs1] W' fun e w' => e = .returned (.bool false) ∧ w' = W') := fun W' h => by subst h; have q := names_c _ P1 x.rs1 W' HV1.out hr1; rw [f1] at q; exact q
      have HN2 : Hid True := trivial
      cases od with
      | true =>
        have HE : Hid (b = false) := by unfold Hid; rw [hb]; unfold hdB; rw [f0, f1]; rfl
        clear hb
        go_wp2_with (first | (go_at_call_of 30 (Value.slice a0 n0 c0); refine (HN0.out W3 rfl).mono ?_; rintro e w9 ⟨rfl, hw9⟩; have hw8 := hw9.symm; subst hw8) | (go_at_call_of 30 (Value.slice a1 n1 c1); refine (HN1.out W3 rfl).mono ?_; rintro e w9 ⟨rfl, hw9⟩; have hw8 := hw9.symm; subst hw8) | (go_at_call_of 30 (Value.slice a2 n2 c2); refine (HN2.out W3 rfl).mono ?_; rintro e w9 ⟨rfl, hw9⟩; have hw8 := hw9.symm; subst hw8))
        go_ret
        exact ⟨by rw [HE.out]; rfl, HBW.out⟩
      | false =>
        by_cases ha : x.aq = true
        · have HE : Hid (b = false) := by unfold Hid; rw [hb]; unfold hdB; rw [f0, f1]; rfl
          clear hb
          go_wp2_with (first | (go_at_call_of 30 (Value.slice a0 n0 c0); refine (HN0.out W3 rfl).mono ?_; rintro e w9 ⟨rfl, hw9⟩; have hw8 := hw9.symm; subst hw8) | (go_at_call_of 30 (Value.slice a1 n1 c1); refine (HN1.out W3 rfl).mono ?_; rintro e w9 ⟨rfl, hw9⟩; have hw8 := hw9.symm; subst hw8) | (go_at_call_of 30 (Value.slice a2 n2 c2); refine (HN2.out W3 rfl).mono ?_; rintro e w9 ⟨rfl, hw9⟩; have hw8 := hw9.symm; subst hw8))
          go_ret
          exact ⟨by rw [HE.out]; rfl, HBW.out⟩
        · have ha' : x.aq = false := Bool.eq_false_iff.2 ha
          clear ha
          have HE : Hid (b = false) := by unfold Hid; rw [hb]; unfold hdB; rw [f0, f1]; rfl
          clear hb
          go_wp2_with (first | (go_at_call_of 30 (Value.slice a0 n0 c0); refine (HN0.out W3 rfl).mono ?_; rintro e w9 ⟨rfl, hw9⟩; have hw8 := hw9.symm; subst hw8) | (go_at_call_of 30 (Value.slice a1 n1 c1); refine (HN1.out W3 rfl).mono ?_; rintro e w9 ⟨rfl, hw9⟩; have hw8 := hw9.symm; subst hw8) | (go_at_call_of 30 (Value.slice a2 n2 c2); refine (HN2.out W3 rfl).mono ?_; rintro e w9 ⟨rfl, hw9⟩; have hw8 := hw9.symm; subst hw8))
          go_ret
          exact ⟨by rw [HE.out]; rfl, HBW.out⟩
  | false =>
    have HN0 : Hid (∀ W', W' = W3 → Calls Try.prog 30 #[.slice a0 n0 c0, .int .i64 x.rd] W' fun e w' => e = .returned (.bool false) ∧ w' = W') := fun W' h => by subst h; have q := names_c _ P0 x.rd W' HV0.out hr0; rw [f0] at q; exact q
    have HN1 : Hid True := trivial
    have HN2 : Hid True := trivial
    cases od with
    | true =>
      have HE : Hid (b = false) := by unfold Hid; rw [hb]; unfold hdB; rw [f0]; rfl
      clear hb
      go_wp2_with (first | (go_at_call_of 30 (Value.slice a0 n0 c0); refine (HN0.out W3 rfl).mono ?_; rintro e w9 ⟨rfl, hw9⟩; have hw8 := hw9.symm; subst hw8) | (go_at_call_of 30 (Value.slice a1 n1 c1); refine (HN1.out W3 rfl).mono ?_; rintro e w9 ⟨rfl, hw9⟩; have hw8 := hw9.symm; subst hw8) | (go_at_call_of 30 (Value.slice a2 n2 c2); refine (HN2.out W3 rfl).mono ?_; rintro e w9 ⟨rfl, hw9⟩; have hw8 := hw9.symm; subst hw8))
      go_ret
      exact ⟨by rw [HE.out]; rfl, HBW.out⟩
    | false =>
      by_cases ha : x.aq = true
      · have HE : Hid (b = false) := by unfold Hid; rw [hb]; unfold hdB; rw [f0]; rfl
        clear hb
        go_wp2_with (first | (go_at_call_of 30 (Value.slice a0 n0 c0); refine (HN0.out W3 rfl).mono ?_; rintro e w9 ⟨rfl, hw9⟩; have hw8 := hw9.symm; subst hw8) | (go_at_call_of 30 (Value.slice a1 n1 c1); refine (HN1.out W3 rfl).mono ?_; rintro e w9 ⟨rfl, hw9⟩; have hw8 := hw9.symm; subst hw8) | (go_at_call_of 30 (Value.slice a2 n2 c2); refine (HN2.out W3 rfl).mono ?_; rintro e w9 ⟨rfl, hw9⟩; have hw8 := hw9.symm; subst hw8))
        go_ret
        exact ⟨by rw [HE.out]; rfl, HBW.out⟩
      · have ha' : x.aq = false := Bool.eq_false_iff.2 ha
        clear ha
        have HE : Hid (b = false) := by unfold Hid; rw [hb]; unfold hdB; rw [f0]; rfl
        clear hb
        go_wp2_with (first | (go_at_call_of 30 (Value.slice a0 n0 c0); refine (HN0.out W3 rfl).mono ?_; rintro e w9 ⟨rfl, hw9⟩; have hw8 := hw9.symm; subst hw8) | (go_at_call_of 30 (Value.slice a1 n1 c1); refine (HN1.out W3 rfl).mono ?_; rintro e w9 ⟨rfl, hw9⟩; have hw8 := hw9.symm; subst hw8) | (go_at_call_of 30 (Value.slice a2 n2 c2); refine (HN2.out W3 rfl).mono ?_; rintro e w9 ⟨rfl, hw9⟩; have hw8 := hw9.symm; subst hw8))
        go_ret
        exact ⟨by rw [HE.out]; rfl, HBW.out⟩
end Go.Proofs.Ytechkhlibdkmpac
