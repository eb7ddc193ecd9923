/-
  The reference's form: the first row of an operation.
-/
import Derived.Test.YtechkhlibdkmpacEb
import Derived.Laws.Tables
namespace Go.Proofs.Ytechkhlibdkmpac
set_option linter.unusedVariables false
open Go.ChangeShapes Go.WideShapes Go.ChangeAt Go.RowKit Go.Deep
theorem find_at {op : Int} : ∀ {l : List Fm} {k : Nat}, k < l.length → (∀ j, j < k → (l.getD j fm0).op ≠ op) → (l.getD k fm0).op = op → (l.find? (fun x => x.op == op)).getD fm0 = l.getD k fm0
  | [], k, hk, _, _ => by simp at hk
  | x :: xs, 0, hk, h, he => by
    have e : x.op = op := by simpa using he
    simp [e]
  | x :: xs, k + 1, hk, h, he => by
    have h0 := h 0 (by omega)
    have e : ¬ x.op = op := by simpa using h0
    rw [List.find?_cons_of_neg (by simpa using e), List.getD_cons_succ]
    exact find_at (by simpa using hk) (fun j hj => by have := h (j + 1) (by omega); simpa using this) (by simpa using he)
theorem find_no {op : Int} : ∀ {l : List Fm}, (∀ j, j < l.length → (l.getD j fm0).op ≠ op) → (l.find? (fun x => x.op == op)).getD fm0 = fm0
  | [], _ => rfl
  | x :: xs, h => by
    have h0 := h 0 (by simp)
    have e : ¬ x.op = op := by simpa using h0
    rw [List.find?_cons_of_neg (by simpa using e)]
    exact find_no (fun j hj => by have := h (j + 1) (by simpa using hj); simpa using this)
theorem FL_len : FL.length = 96 := by decide
theorem formSize : (Try.prog.info? 40).map (·.size) = some 5 := by kernel_rfl
theorem setRow_other (w : World) (g : Nat) (cs : Array Value) (k : Nat) (h : ¬ k = g) : (w.setRow g cs).heap[k]? = w.heap[k]? := by
  unfold World.setRow
  rw [Array.getElem?_modify, if_neg (fun e => h e.symm)]
theorem below_setRow {w0 w : World} {g : Nat} {cs : Array Value} (h : Below w0.heap.size w0 w) (hg : w0.heap.size ≤ g) : Below w0.heap.size w0 (w.setRow g cs) :=
  ⟨h.os, h.tape, h.output, by simpa [World.setRow] using h.size, fun k hk => (setRow_other w g cs k (by omega)).trans (h.block k hk)⟩
theorem formOne (a b c d e : Int) : (#[Value.int .i64 a, Value.int .i64 b, Value.int .i64 c, Value.int .i64 d, Value.int .u8 e] : Array Value).all (·.oneCell') = true := by simp [Value.oneCell']
set_option maxRecDepth 100000 in
set_option maxHeartbeats 4000000 in
theorem form_c (op : Int) (w : World) (hop : -9223372036854775808 ≤ op ∧ op ≤ 9223372036854775807) :
    Calls Try.prog 11 #[.int .i64 op] w fun e w' => e = .returned (.agg (fmv (fmOf op)).toArray) ∧ Below w.heap.size w w' := by
  obtain ⟨W, hW⟩ : ∃ W, w.alloc (.cells (fmv fm0).toArray 40) = W := ⟨_, rfl⟩
  have hb0 : Below w.heap.size w W := by rw [← hW]; exact below_al w _
  have r0 : W.heap[w.heap.size]? = some (.cells (fmv fm0).toArray 40 (0, 0)) := by rw [← hW]; exact heap_alloc_new w _
  have HFM : Hid (Calls Try.prog 20 #[] W fun e w' => ∃ g cap, e = .returned (.slice (some ⟨g, 0, none⟩) 96 cap) ∧ (∀ k, k < 96 → ∀ c, c < 5 → w'.cell? ⟨g, k * 5 + c, none⟩ = (fmv (FL.getD k fm0))[c]?) ∧ w'.heap[w.heap.size]? = some (.cells (fmv fm0).toArray 40 (0, 0)) ∧ Below w.heap.size w w') := (forms_c W).mono fun e w' ⟨v, he, ho, hb⟩ => by
    have hl := FL_len
    rcases Go.Joins.ownsRow_forms ho with ⟨_, h0⟩ | ⟨g, cap, rfl⟩
    · omega
    · rw [hl] at he
      refine ⟨g, cap, he, fun k hk c hc => ?_, (hb.block _ (Array.getElem?_eq_some_iff.1 r0).1).trans r0, hb0.trans (hb.mono hb0.size)⟩
      rw [ho.cellAt (k * 5 + c) (by omega), fmL_get FL k (by omega) c hc]
  have hW2 : w.alloc (.cells #[.int .i64 0, .int .i64 0, .int .i64 0, .int .i64 0, .int .u8 0] 40) = W := hW
  clear hW hb0 r0
  go_enter Try.func11, Try.ntmps11
  go_upto_region 1 with fail
  clear hW2
  go_upto_region 2 with (go_at_call 20; refine HFM.out.mono ?_; rintro e w2 ⟨g, cap, rfl, hc, hr, hb⟩; have HC : Hid _ := hc; have HR : Hid _ := hr; have HB : Hid _ := hb; clear hc hr hb)
  go_wp2
  go_loopw [4] (fun i wr => ∃ k : Nat, k ≤ 96 ∧ i = .int .i64 k ∧ Hid (∀ j, j < k → (FL.getD j fm0).op ≠ op) ∧ wr = w2) (fun i _ => 96 - (intOf i).toNat)
  case atStart => exact ⟨0, Nat.zero_le _, rfl, (fun j hj => by omega), rfl⟩
  case round =>
    obtain ⟨k, hk, rfl, hno, hwr⟩ := hrel
    subst hwr
    by_cases hlt : k < 96
    · have hlt2 : (k : Int) < 96 := by omega
      have c0 := HC.out k hlt 0 (by decide)
      have c1 := HC.out k hlt 1 (by decide)
      have c2 := HC.out k hlt 2 (by decide)
      have c3 := HC.out k hlt 3 (by decide)
      have c4 := HC.out k hlt 4 (by decide)
      have HE : Hid ((FL.getD k fm0).op = op → fmOf op = FL.getD k fm0) := fun he => find_at (by rw [FL_len]; exact hlt) hno.out he
      obtain ⟨x, hx⟩ : ∃ x, x = FL.getD k fm0 := ⟨_, rfl⟩
      rw [← hx] at c0 c1 c2 c3 c4 HE
      have HX : Hid (x = FL.getD k fm0) := hx
      clear hx
      rw [Nat.add_zero] at c0
      have d0 : wr.cell? ⟨g, k * 5, none⟩ = some (.int .i64 x.op) := c0
      have d1 : wr.cell? ⟨g, k * 5 + 1, none⟩ = some (.int .i64 x.code) := c1
      have d2 : wr.cell? ⟨g, k * 5 + 2, none⟩ = some (.int .i64 x.f3) := c2
      have d3 : wr.cell? ⟨g, k * 5 + 3, none⟩ = some (.int .i64 x.top) := c3
      have d4 : wr.cell? ⟨g, k * 5 + 4, none⟩ = some (.int .u8 x.kind) := c4
      clear c0 c1 c2 c3 c4
      by_cases he : x.op = op
      · have hbe : (x.op == op) = true := by simp [he]
        have HF := HE.out he
        have HF2 : Hid (fmOf op = x) := HF
        clear he HF HE
        go_wp2_with (refine wpList_store_row (by rfl) 40 _ _ (by rfl) w.heap.size #[.int .i64 x.op, .int .i64 x.code, .int .i64 x.f3, .int .i64 x.top, .int .u8 x.kind] (by rfl) (by rfl) 40 _ HR.out formSize (by rfl) (formOne _ _ _ _ _) ?_)
        --@CUT1
        change bodyPost _ _ _ _ _ _
        refine bodyPost_ret (v := .agg #[.int .i64 x.op, .int .i64 x.code, .int .i64 x.f3, .int .i64 x.top, .int .u8 x.kind]) (results_cell_row Try.results11 _ _ w.heap.size 40 _ (0, 0) _ (by rfl) (setRow_heap wr w.heap.size _ _ _ _ HR.out) Try.underlying40 (by rfl) formSize) rfl ?_
        exact ⟨by rw [HF2.out]; rfl, below_setRow HB.out (Nat.le_refl _)⟩
      · have hbe : (x.op == op) = false := by simp [he]
        have HN : Hid (∀ j, j < k + 1 → (FL.getD j fm0).op ≠ op) := fun j hj => by
          by_cases e : j = k
          · subst e; rw [← HX.out]; exact he
          · exact hno.out j (by omega)
        clear he HE
        go_wp2
        go_roundw
        all_goals first | exact ⟨k + 1, by omega, by go_num, HN, trivial⟩ | (simp [intOf] <;> omega)
    · obtain rfl : k = 96 := by omega
      rw [show ((96 : Nat) : Int) = (96 : Int) from rfl]
      have HF2 : Hid (fmOf op = fm0) := find_no (fun j hj => hno.out j (by rw [FL_len] at hj; exact hj))
      go_wp2_with (refine wpList_store_row (by rfl) 40 _ _ (by rfl) w.heap.size #[.int .i64 0, .int .i64 0, .int .i64 0, .int .i64 0, .int .u8 0] (by rfl) (by rfl) 40 _ HR.out formSize (by rfl) (formOne _ _ _ _ _) ?_)
      --@CUT2
      change bodyPost _ _ _ _ _ _
      refine bodyPost_ret (v := .agg #[.int .i64 0, .int .i64 0, .int .i64 0, .int .i64 0, .int .u8 0]) (results_cell_row Try.results11 _ _ w.heap.size 40 _ (0, 0) _ (by rfl) (setRow_heap wr w.heap.size _ _ _ _ HR.out) Try.underlying40 (by rfl) formSize) rfl ?_
      exact ⟨by rw [HF2.out]; rfl, below_setRow HB.out (Nat.le_refl _)⟩
end Go.Proofs.Ytechkhlibdkmpac
