/-
  reaches of a shape.
-/
import Derived.Test.YtechkhlibdkmpacEj
namespace Go.Proofs.Ytechkhlibdkmpac
set_option linter.unusedVariables false
open Go.ChangeShapes Go.WideShapes Go.ChangeAt Go.RowKit Go.Deep
set_option maxRecDepth 100000 in
set_option maxHeartbeats 4000000 in
theorem reaches_n (a0 a1 a2 : Option Addr) (n0 n1 n2 c0 c1 c2 : Nat) (P3 : List Pc) (od : Bool) (lo hi st v : Int) (w : World) (hl : I64 lo) (hh : I64 hi) (hv : I64 v) (hP : P3.isEmpty = true) :
    Calls Try.prog 19 #[.agg #[.slice a0 n0 c0, .slice a1 n1 c1, .slice a2 n2 c2, .slice none 0 0, .bool od, .int .i64 lo, .int .i64 hi, .int .i64 st], .int .i64 v] w fun e w' => e = .returned (.bool (rcB P3 lo hi st v)) ∧ Below w.heap.size w w' := by
  have qT : ∀ (w : World) (a : Option Addr) (n c n' c' : Nat), (binOp .eql 52 (.slice a n c) (.slice none n' c')).run Try.prog w = .ok (.bool a.isNone) w := eqlNil
  obtain ⟨b, hb⟩ : ∃ b, b = rcB P3 lo hi st v := ⟨_, rfl⟩
  rw [← hb]
  unfold rcB at hb
  rw [hP] at hb
  unfold I64 at hl hh hv

  clear hP
  obtain ⟨W3, hW3⟩ : ∃ W3, (w.alloc (.cells #[.slice a0 n0 c0, .slice a1 n1 c1, .slice a2 n2 c2, .slice none 0 0, .bool od, .int .i64 lo, .int .i64 hi, .int .i64 st] 58)).alloc (.cells #[.int .i64 lo, .int .i64 hi, .int .i64 st] 56) = W3 := ⟨_, rfl⟩
  have hbw : Below w.heap.size w W3 := by rw [← hW3]; exact (below_al w _).trans ((below_al _ _).mono (below_al w _).size)
  have k1 : W3.heap[w.heap.size]? = some (.cells #[.slice a0 n0 c0, .slice a1 n1 c1, .slice a2 n2 c2, .slice none 0 0, .bool od, .int .i64 lo, .int .i64 hi, .int .i64 st] 58 (0, 0)) := by rw [← hW3]; exact (Below.heap_alloc _ _ _ (by simp)).trans (heap_alloc_new w _)
  have k2 : W3.heap[w.heap.size + 1]? = some (.cells #[.int .i64 lo, .int .i64 hi, .int .i64 st] 56 (0, 0)) := by rw [← hW3]; have := heap_alloc_new (w.alloc (.cells #[.slice a0 n0 c0, .slice a1 n1 c1, .slice a2 n2 c2, .slice none 0 0, .bool od, .int .i64 lo, .int .i64 hi, .int .i64 st] 58)) (.cells #[.int .i64 lo, .int .i64 hi, .int .i64 st] 56); simpa using this
  have HBW : Hid (Below w.heap.size w W3) := hbw
  have s3 : W3.cell? ⟨w.heap.size, 3, none⟩ = some (.slice none 0 0) := cell_of_row W3 _ 3 _ _ _ k1
  have t0 : W3.cell? ⟨w.heap.size + 1, 0, none⟩ = some (.int .i64 lo) := cell_of_row W3 _ 0 _ _ _ k2
  have t1 : W3.cell? ⟨w.heap.size + 1, 1, none⟩ = some (.int .i64 hi) := cell_of_row W3 _ 1 _ _ _ k2
  have t2 : W3.cell? ⟨w.heap.size + 1, 2, none⟩ = some (.int .i64 st) := cell_of_row W3 _ 2 _ _ _ k2
  clear hbw k1 k2
  go_enter Try.func19, Try.ntmps19
  go_upto_region 2 with fail
  --@CUTN
  clear hW3
  have HE : Hid (b = true) := hb
  clear hb
  go_wp2
  go_ret
  exact ⟨by rw [HE.out]; rfl, HBW.out⟩
set_option maxRecDepth 100000 in
set_option maxHeartbeats 4000000 in
theorem reaches_s (a0 a1 a2 : Option Addr) (n0 n1 n2 c0 c1 c2 : Nat) (a3 : Addr) (n3 c3 : Nat) (P3 : List Pc) (od : Bool) (lo hi st v : Int) (w : World) (hl : I64 lo) (hh : I64 hi) (hs : 1 ≤ st ∧ st ≤ 4096) (hv : I64 v) (hP : P3.isEmpty = false) :
    Calls Try.prog 19 #[.agg #[.slice a0 n0 c0, .slice a1 n1 c1, .slice a2 n2 c2, .slice (some a3) n3 c3, .bool od, .int .i64 lo, .int .i64 hi, .int .i64 st], .int .i64 v] w fun e w' => e = .returned (.bool (rcB P3 lo hi st v)) ∧ Below w.heap.size w w' := by
  have qT : ∀ (w : World) (a : Option Addr) (n c n' c' : Nat), (binOp .eql 52 (.slice a n c) (.slice none n' c')).run Try.prog w = .ok (.bool a.isNone) w := eqlNil
  obtain ⟨b, hb⟩ : ∃ b, b = rcB P3 lo hi st v := ⟨_, rfl⟩
  rw [← hb]
  unfold rcB at hb
  rw [hP] at hb
  unfold I64 at hl hh hv
  have hst : ¬ st = 0 := by omega
  clear hP
  obtain ⟨W3, hW3⟩ : ∃ W3, (w.alloc (.cells #[.slice a0 n0 c0, .slice a1 n1 c1, .slice a2 n2 c2, .slice (some a3) n3 c3, .bool od, .int .i64 lo, .int .i64 hi, .int .i64 st] 58)).alloc (.cells #[.int .i64 lo, .int .i64 hi, .int .i64 st] 56) = W3 := ⟨_, rfl⟩
  have hbw : Below w.heap.size w W3 := by rw [← hW3]; exact (below_al w _).trans ((below_al _ _).mono (below_al w _).size)
  have k1 : W3.heap[w.heap.size]? = some (.cells #[.slice a0 n0 c0, .slice a1 n1 c1, .slice a2 n2 c2, .slice (some a3) n3 c3, .bool od, .int .i64 lo, .int .i64 hi, .int .i64 st] 58 (0, 0)) := by rw [← hW3]; exact (Below.heap_alloc _ _ _ (by simp)).trans (heap_alloc_new w _)
  have k2 : W3.heap[w.heap.size + 1]? = some (.cells #[.int .i64 lo, .int .i64 hi, .int .i64 st] 56 (0, 0)) := by rw [← hW3]; have := heap_alloc_new (w.alloc (.cells #[.slice a0 n0 c0, .slice a1 n1 c1, .slice a2 n2 c2, .slice (some a3) n3 c3, .bool od, .int .i64 lo, .int .i64 hi, .int .i64 st] 58)) (.cells #[.int .i64 lo, .int .i64 hi, .int .i64 st] 56); simpa using this
  have HBW : Hid (Below w.heap.size w W3) := hbw
  have s3 : W3.cell? ⟨w.heap.size, 3, none⟩ = some (.slice (some a3) n3 c3) := cell_of_row W3 _ 3 _ _ _ k1
  have t0 : W3.cell? ⟨w.heap.size + 1, 0, none⟩ = some (.int .i64 lo) := cell_of_row W3 _ 0 _ _ _ k2
  have t1 : W3.cell? ⟨w.heap.size + 1, 1, none⟩ = some (.int .i64 hi) := cell_of_row W3 _ 1 _ _ _ k2
  have t2 : W3.cell? ⟨w.heap.size + 1, 2, none⟩ = some (.int .i64 st) := cell_of_row W3 _ 2 _ _ _ k2
  clear hbw k1 k2
  go_enter Try.func19, Try.ntmps19
  go_upto_region 2 with fail
  --@CUTS
  clear hW3
  by_cases g1 : lo ≤ v
  · rw [decide_eq_true g1] at hb
    by_cases g2 : v ≤ hi
    · rw [decide_eq_true g2] at hb
      have HE : Hid (b = (v.tmod st == 0)) := hb
      clear hb
      go_wp2
      go_ret
      exact ⟨by rw [HE.out]; rfl, HBW.out⟩
    · rw [decide_eq_false g2] at hb
      have HE : Hid (b = false) := hb
      clear hb
      go_wp2
      go_ret
      exact ⟨by rw [HE.out]; rfl, HBW.out⟩
  · rw [decide_eq_false g1] at hb
    have HE : Hid (b = false) := hb
    clear hb
    go_wp2
    go_ret
    exact ⟨by rw [HE.out]; rfl, HBW.out⟩
end Go.Proofs.Ytechkhlibdkmpac
