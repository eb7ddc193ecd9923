/-
  formOf at large; Check; EncodeChecks' walk.
-/
import Derived.Test.YtechkhlibdkmpacEq
import Derived.Test.YtechkhlibdkmpacEg
namespace Go.Proofs.Ytechkhlibdkmpac
set_option linter.unusedVariables false
open Go.ChangeShapes Go.WideShapes Go.ChangeAt Go.RowKit Go.Deep
/-- The function of the shape of a kind. -/
def sFn (k : Int) : Nat := if k = 85 then 34 else if k = 74 then 35 else if k = 73 then 36 else if k = 66 then 37 else if k = 83 then 38 else if k = 78 then 42 else if k = 72 then 39 else if k = 87 then 40 else if k = 82 then 41 else if k = 65 then 45 else if k = 76 then 44 else 43
def opOk (n : Nat) : Bool := n == 0 || ((lk TB n).map (·.2) == some (sFn (fmOf n).kind) && ((fmOf n).op == (n : Int) && [85, 74, 73, 66, 83, 78, 72, 87, 82, 65, 76, 90].contains (fmOf n).kind))
set_option maxRecDepth 100000 in
theorem ops_ok : ((List.range 97).all opOk) = true := by decide +kernel
set_option maxRecDepth 100000 in
theorem TB_ops : (TB.all fun t => decide (1 ≤ t.1) && decide (t.1 ≤ 96)) = true := by decide +kernel
theorem FL_ops : (FL.all fun t => decide (1 ≤ t.op) && decide (t.op ≤ 96)) = true := by decide +kernel
theorem lk_out (op : Int) (h : ¬ (1 ≤ op ∧ op ≤ 96)) : lk TB op = none := by
  unfold lk
  rw [Option.map_eq_none_iff, List.find?_eq_none]
  intro t ht
  have := List.all_eq_true.1 TB_ops t ht
  simp only [Bool.and_eq_true, decide_eq_true_eq] at this
  simp only [beq_iff_eq]
  omega
theorem fm_out (op : Int) (h : ¬ (1 ≤ op ∧ op ≤ 96)) : (fmOf op).op = 0 := by
  unfold fmOf
  have : FL.find? (fun x => x.op == op) = none := by
    rw [List.find?_eq_none]
    intro t ht
    have := List.all_eq_true.1 FL_ops t ht
    simp only [Bool.and_eq_true, decide_eq_true_eq] at this
    simp only [beq_iff_eq]
    omega
  rw [this]
  rfl
theorem op_in (op : Int) (h : 1 ≤ op ∧ op ≤ 96) : (∃ fb, lk TB op = some (fb, sFn (fmOf op).kind)) ∧ (fmOf op).op = op ∧ (fmOf op).kind ∈ ([85, 74, 73, 66, 83, 78, 72, 87, 82, 65, 76, 90] : List Int) := by
  obtain ⟨n, rfl⟩ := Int.eq_ofNat_of_zero_le (show 0 ≤ op by omega)
  have := List.all_eq_true.1 ops_ok n (by simp; omega)
  unfold opOk at this
  have hn : (n == 0) = false := by simp; omega
  simp only [hn, Bool.false_or, Bool.and_eq_true, beq_iff_eq, List.contains_iff_mem, Option.map_eq_some_iff] at this
  obtain ⟨⟨⟨fb, f⟩, h1, h2⟩, h3, h4⟩ := this
  exact ⟨⟨fb, by rw [← h2]; exact h1⟩, h3, h4⟩
/-- What formOf answers beside its number. -/
def frow (x : Ins) : Array Value := if rck x = 0 then (match lk TB x.op with | some (fb, f) => #[.int .u32 fb, .func (.func f) #[] #[]] | none => #[.int .u32 0, .nilFunc]) else #[.int .u32 0, .nilFunc]
theorem rck_in (x : Ins) (h : 1 ≤ x.op ∧ x.op ≤ 96) (B1 B2 : Bool) (h1 : B1 = (regsB x (fmOf x.op).kind && !extB x (fmOf x.op).kind)) (h2 : B2 = rchB (fmOf x.op).kind x.imm) : rck x = if B1 = false then 60 else if B2 = false then 61 else 0 := by
  have h0 : ¬ (x.op = 0 ∨ (fmOf x.op).op = 0) := by rw [(op_in x.op h).2.1]; omega
  unfold rck
  rw [if_neg h0, h1, h2]
  cases regsB x (fmOf x.op).kind <;> cases extB x (fmOf x.op).kind <;> cases rchB (fmOf x.op).kind x.imm <;> rfl
theorem hd_U (x : Ins) : hdB [⟨4, 0, 7⟩] [] [] [⟨31, 12, 12⟩] false x = (regsB x 85 && !extB x 85) := by
  unfold hdB regsB extB
  rw [nm_reg, nm_reg, nm_reg, show inS 85 sRd = true by decide, show inS 85 sR1 = false by decide, show inS 85 sR2 = false by decide, show inS 85 sIm = true by decide, show inS 85 sOr = false by decide]
  cases x.aq <;> cases x.rl <;> cases hi : (x.imm == 0) <;> simp [hi, bne]
theorem rc_U (v : Int) : rcB [⟨31, 12, 12⟩] (-2147483648) 2147479552 4096 v = rchB 85 v := by
  unfold rcB rchB
  have ht := Int.mul_tdiv_add_tmod v 4096
  have ht2 : Int.tmod v 4096 = 0 → v = 4096 * Int.tdiv v 4096 := fun h => by omega
  simp only [List.isEmpty_cons, Bool.false_or, reduceIte]
  by_cases hm : Int.tmod v 4096 = 0
  · have := ht2 hm
    simp only [hm, beq_self_eq_true, Bool.and_true]
    rw [Bool.eq_iff_iff]
    simp
    omega
  · have hm2 : (Int.tmod v 4096 == 0) = false := by simpa using hm
    rw [hm2]
    simp
theorem hd_J (x : Ins) : hdB [⟨4, 0, 7⟩] [] [] [⟨20, 20, 31⟩, ⟨19, 12, 12⟩, ⟨11, 11, 20⟩, ⟨10, 1, 21⟩] false x = (regsB x 74 && !extB x 74) := by
  unfold hdB regsB extB
  rw [nm_reg, nm_reg, nm_reg, show inS 74 sRd = true by decide, show inS 74 sR1 = false by decide, show inS 74 sR2 = false by decide, show inS 74 sIm = true by decide, show inS 74 sOr = false by decide]
  cases x.aq <;> cases x.rl <;> cases hi : (x.imm == 0) <;> simp [hi, bne]
theorem rc_J (v : Int) : rcB [⟨20, 20, 31⟩, ⟨19, 12, 12⟩, ⟨11, 11, 20⟩, ⟨10, 1, 21⟩] (-1048576) 1048574 2 v = rchB 74 v := by
  unfold rcB rchB
  have ht := Int.mul_tdiv_add_tmod v 2
  have ht2 : Int.tmod v 2 = 0 → v = 2 * Int.tdiv v 2 := fun h => by omega
  simp only [List.isEmpty_cons, Bool.false_or, reduceIte]
  by_cases hm : Int.tmod v 2 = 0
  · have := ht2 hm
    simp only [hm, beq_self_eq_true, Bool.and_true]
    rw [Bool.eq_iff_iff]
    simp
    omega
  · have hm2 : (Int.tmod v 2 == 0) = false := by simpa using hm
    rw [hm2]
    simp
theorem hd_I (x : Ins) : hdB [⟨4, 0, 7⟩] [⟨4, 0, 15⟩] [] [⟨11, 0, 20⟩] false x = (regsB x 73 && !extB x 73) := by
  unfold hdB regsB extB
  rw [nm_reg, nm_reg, nm_reg, show inS 73 sRd = true by decide, show inS 73 sR1 = true by decide, show inS 73 sR2 = false by decide, show inS 73 sIm = true by decide, show inS 73 sOr = false by decide]
  cases x.aq <;> cases x.rl <;> cases hi : (x.imm == 0) <;> simp [hi, bne]
theorem rc_I (v : Int) : rcB [⟨11, 0, 20⟩] (-2048) 2047 1 v = rchB 73 v := by
  unfold rcB rchB
  have hm : Int.tmod v 1 = 0 := Int.tmod_one v
  simp only [List.isEmpty_cons, Bool.false_or, reduceIte, hm, beq_self_eq_true, Bool.and_true]
  rw [Bool.eq_iff_iff]
  simp
  omega
theorem hd_B (x : Ins) : hdB [] [⟨4, 0, 15⟩] [⟨4, 0, 20⟩] [⟨12, 12, 31⟩, ⟨11, 11, 7⟩, ⟨10, 5, 25⟩, ⟨4, 1, 8⟩] false x = (regsB x 66 && !extB x 66) := by
  unfold hdB regsB extB
  rw [nm_reg, nm_reg, nm_reg, show inS 66 sRd = false by decide, show inS 66 sR1 = true by decide, show inS 66 sR2 = true by decide, show inS 66 sIm = true by decide, show inS 66 sOr = false by decide]
  cases x.aq <;> cases x.rl <;> cases hi : (x.imm == 0) <;> simp [hi, bne]
theorem rc_B (v : Int) : rcB [⟨12, 12, 31⟩, ⟨11, 11, 7⟩, ⟨10, 5, 25⟩, ⟨4, 1, 8⟩] (-4096) 4094 2 v = rchB 66 v := by
  unfold rcB rchB
  have ht := Int.mul_tdiv_add_tmod v 2
  have ht2 : Int.tmod v 2 = 0 → v = 2 * Int.tdiv v 2 := fun h => by omega
  simp only [List.isEmpty_cons, Bool.false_or, reduceIte]
  by_cases hm : Int.tmod v 2 = 0
  · have := ht2 hm
    simp only [hm, beq_self_eq_true, Bool.and_true]
    rw [Bool.eq_iff_iff]
    simp
    omega
  · have hm2 : (Int.tmod v 2 == 0) = false := by simpa using hm
    rw [hm2]
    simp
theorem hd_S (x : Ins) : hdB [] [⟨4, 0, 15⟩] [⟨4, 0, 20⟩] [⟨11, 5, 25⟩, ⟨4, 0, 7⟩] false x = (regsB x 83 && !extB x 83) := by
  unfold hdB regsB extB
  rw [nm_reg, nm_reg, nm_reg, show inS 83 sRd = false by decide, show inS 83 sR1 = true by decide, show inS 83 sR2 = true by decide, show inS 83 sIm = true by decide, show inS 83 sOr = false by decide]
  cases x.aq <;> cases x.rl <;> cases hi : (x.imm == 0) <;> simp [hi, bne]
theorem rc_S (v : Int) : rcB [⟨11, 5, 25⟩, ⟨4, 0, 7⟩] (-2048) 2047 1 v = rchB 83 v := by
  unfold rcB rchB
  have hm : Int.tmod v 1 = 0 := Int.tmod_one v
  simp only [List.isEmpty_cons, Bool.false_or, reduceIte, hm, beq_self_eq_true, Bool.and_true]
  rw [Bool.eq_iff_iff]
  simp
  omega
theorem hd_N (x : Ins) : hdB [⟨4, 0, 7⟩] [⟨4, 0, 15⟩] [] [⟨11, 0, 20⟩] false x = (regsB x 78 && !extB x 78) := by
  unfold hdB regsB extB
  rw [nm_reg, nm_reg, nm_reg, show inS 78 sRd = true by decide, show inS 78 sR1 = true by decide, show inS 78 sR2 = false by decide, show inS 78 sIm = true by decide, show inS 78 sOr = false by decide]
  cases x.aq <;> cases x.rl <;> cases hi : (x.imm == 0) <;> simp [hi, bne]
theorem rc_N (v : Int) : rcB [⟨11, 0, 20⟩] 0 4095 1 v = rchB 78 v := by
  unfold rcB rchB
  have hm : Int.tmod v 1 = 0 := Int.tmod_one v
  simp only [List.isEmpty_cons, Bool.false_or, reduceIte, hm, beq_self_eq_true, Bool.and_true]
  rw [Bool.eq_iff_iff]
  simp
  omega
theorem hd_H (x : Ins) : hdB [⟨4, 0, 7⟩] [⟨4, 0, 15⟩] [] [⟨5, 0, 20⟩] false x = (regsB x 72 && !extB x 72) := by
  unfold hdB regsB extB
  rw [nm_reg, nm_reg, nm_reg, show inS 72 sRd = true by decide, show inS 72 sR1 = true by decide, show inS 72 sR2 = false by decide, show inS 72 sIm = true by decide, show inS 72 sOr = false by decide]
  cases x.aq <;> cases x.rl <;> cases hi : (x.imm == 0) <;> simp [hi, bne]
theorem rc_H (v : Int) : rcB [⟨5, 0, 20⟩] 0 63 1 v = rchB 72 v := by
  unfold rcB rchB
  have hm : Int.tmod v 1 = 0 := Int.tmod_one v
  simp only [List.isEmpty_cons, Bool.false_or, reduceIte, hm, beq_self_eq_true, Bool.and_true]
  rw [Bool.eq_iff_iff]
  simp
  omega
theorem hd_W (x : Ins) : hdB [⟨4, 0, 7⟩] [⟨4, 0, 15⟩] [] [⟨4, 0, 20⟩] false x = (regsB x 87 && !extB x 87) := by
  unfold hdB regsB extB
  rw [nm_reg, nm_reg, nm_reg, show inS 87 sRd = true by decide, show inS 87 sR1 = true by decide, show inS 87 sR2 = false by decide, show inS 87 sIm = true by decide, show inS 87 sOr = false by decide]
  cases x.aq <;> cases x.rl <;> cases hi : (x.imm == 0) <;> simp [hi, bne]
theorem rc_W (v : Int) : rcB [⟨4, 0, 20⟩] 0 31 1 v = rchB 87 v := by
  unfold rcB rchB
  have hm : Int.tmod v 1 = 0 := Int.tmod_one v
  simp only [List.isEmpty_cons, Bool.false_or, reduceIte, hm, beq_self_eq_true, Bool.and_true]
  rw [Bool.eq_iff_iff]
  simp
  omega
theorem hd_R (x : Ins) : hdB [⟨4, 0, 7⟩] [⟨4, 0, 15⟩] [⟨4, 0, 20⟩] [] false x = (regsB x 82 && !extB x 82) := by
  unfold hdB regsB extB
  rw [nm_reg, nm_reg, nm_reg, show inS 82 sRd = true by decide, show inS 82 sR1 = true by decide, show inS 82 sR2 = true by decide, show inS 82 sIm = false by decide, show inS 82 sOr = false by decide]
  cases x.aq <;> cases x.rl <;> cases hi : (x.imm == 0) <;> simp [hi, bne]
theorem rc_R (v : Int) : rcB [] 0 0 0 v = rchB 82 v := by
  unfold rcB rchB
  simp
theorem hd_A (x : Ins) : hdB [⟨4, 0, 7⟩] [⟨4, 0, 15⟩] [⟨4, 0, 20⟩] [] true x = (regsB x 65 && !extB x 65) := by
  unfold hdB regsB extB
  rw [nm_reg, nm_reg, nm_reg, show inS 65 sRd = true by decide, show inS 65 sR1 = true by decide, show inS 65 sR2 = true by decide, show inS 65 sIm = false by decide, show inS 65 sOr = true by decide]
  cases x.aq <;> cases x.rl <;> cases hi : (x.imm == 0) <;> simp [hi, bne]
theorem rc_A (v : Int) : rcB [] 0 0 0 v = rchB 65 v := by
  unfold rcB rchB
  simp
theorem hd_L (x : Ins) : hdB [⟨4, 0, 7⟩] [⟨4, 0, 15⟩] [] [] true x = (regsB x 76 && !extB x 76) := by
  unfold hdB regsB extB
  rw [nm_reg, nm_reg, nm_reg, show inS 76 sRd = true by decide, show inS 76 sR1 = true by decide, show inS 76 sR2 = false by decide, show inS 76 sIm = false by decide, show inS 76 sOr = true by decide]
  cases x.aq <;> cases x.rl <;> cases hi : (x.imm == 0) <;> simp [hi, bne]
theorem rc_L (v : Int) : rcB [] 0 0 0 v = rchB 76 v := by
  unfold rcB rchB
  simp
theorem hd_Z (x : Ins) : hdB [] [] [] [] false x = (regsB x 90 && !extB x 90) := by
  unfold hdB regsB extB
  rw [nm_reg, nm_reg, nm_reg, show inS 90 sRd = false by decide, show inS 90 sR1 = false by decide, show inS 90 sR2 = false by decide, show inS 90 sIm = false by decide, show inS 90 sOr = false by decide]
  cases x.aq <;> cases x.rl <;> cases hi : (x.imm == 0) <;> simp [hi, bne]
theorem rc_Z (v : Int) : rcB [] 0 0 0 v = rchB 90 v := by
  unfold rcB rchB
  simp
set_option maxRecDepth 100000 in
set_option maxHeartbeats 4000000 in
theorem formOf_c (x : Ins) (w : World) (hx : InsOk x) : Calls Try.prog 10 #[.agg (insv x)] w fun e w' => e = .returned (.tuple #[.agg (frow x), .int .i64 (rck x)]) ∧ Below w.heap.size w w' := by
  by_cases h : 1 ≤ x.op ∧ x.op ≤ 96
  · obtain ⟨⟨fb, hl⟩, _, hk⟩ := op_in x.op h
    have hrow : ∀ (B1 B2 : Bool), B1 = (regsB x (fmOf x.op).kind && !extB x (fmOf x.op).kind) → B2 = rchB (fmOf x.op).kind x.imm → (B1 = false ∧ rck x = 60 ∧ frow x = #[.int .u32 0, .nilFunc]) ∨ (B1 = true ∧ B2 = false ∧ rck x = 61 ∧ frow x = #[.int .u32 0, .nilFunc]) ∨ (B1 = true ∧ B2 = true ∧ rck x = 0 ∧ frow x = #[.int .u32 fb, .func (.func (sFn (fmOf x.op).kind)) #[] #[]]) := fun B1 B2 h1 h2 => by
      have e := rck_in x h B1 B2 h1 h2
      unfold frow
      rw [hl]
      clear h1 h2
      cases B1 <;> cases B2 <;> simp only [if_false, if_true, reduceCtorEq] at e <;> rw [e] <;> simp
    generalize (fmOf x.op).kind = k at hl hk hrow
    simp only [List.mem_cons, List.not_mem_nil, or_false] at hk
    rcases hk with rfl | rfl | rfl | rfl | rfl | rfl | rfl | rfl | rfl | rfl | rfl | rfl
    · exact formOf_b x w hx fb 34 [⟨4, 0, 7⟩] [] [] [⟨31, 12, 12⟩] false (-2147483648) 2147479552 4096 _ _ _ _ hl (fun w => by kernel_rfl) shape_U (by unfold I64; omega) (by unfold I64; omega) (fun _ => by omega) rfl rfl (hrow _ _ (hd_U x) (rc_U x.imm))
    · exact formOf_b x w hx fb 35 [⟨4, 0, 7⟩] [] [] [⟨20, 20, 31⟩, ⟨19, 12, 12⟩, ⟨11, 11, 20⟩, ⟨10, 1, 21⟩] false (-1048576) 1048574 2 _ _ _ _ hl (fun w => by kernel_rfl) shape_J (by unfold I64; omega) (by unfold I64; omega) (fun _ => by omega) rfl rfl (hrow _ _ (hd_J x) (rc_J x.imm))
    · exact formOf_b x w hx fb 36 [⟨4, 0, 7⟩] [⟨4, 0, 15⟩] [] [⟨11, 0, 20⟩] false (-2048) 2047 1 _ _ _ _ hl (fun w => by kernel_rfl) shape_I (by unfold I64; omega) (by unfold I64; omega) (fun _ => by omega) rfl rfl (hrow _ _ (hd_I x) (rc_I x.imm))
    · exact formOf_b x w hx fb 37 [] [⟨4, 0, 15⟩] [⟨4, 0, 20⟩] [⟨12, 12, 31⟩, ⟨11, 11, 7⟩, ⟨10, 5, 25⟩, ⟨4, 1, 8⟩] false (-4096) 4094 2 _ _ _ _ hl (fun w => by kernel_rfl) shape_B (by unfold I64; omega) (by unfold I64; omega) (fun _ => by omega) rfl rfl (hrow _ _ (hd_B x) (rc_B x.imm))
    · exact formOf_b x w hx fb 38 [] [⟨4, 0, 15⟩] [⟨4, 0, 20⟩] [⟨11, 5, 25⟩, ⟨4, 0, 7⟩] false (-2048) 2047 1 _ _ _ _ hl (fun w => by kernel_rfl) shape_S (by unfold I64; omega) (by unfold I64; omega) (fun _ => by omega) rfl rfl (hrow _ _ (hd_S x) (rc_S x.imm))
    · exact formOf_b x w hx fb 42 [⟨4, 0, 7⟩] [⟨4, 0, 15⟩] [] [⟨11, 0, 20⟩] false 0 4095 1 _ _ _ _ hl (fun w => by kernel_rfl) shape_N (by unfold I64; omega) (by unfold I64; omega) (fun _ => by omega) rfl rfl (hrow _ _ (hd_N x) (rc_N x.imm))
    · exact formOf_b x w hx fb 39 [⟨4, 0, 7⟩] [⟨4, 0, 15⟩] [] [⟨5, 0, 20⟩] false 0 63 1 _ _ _ _ hl (fun w => by kernel_rfl) shape_H (by unfold I64; omega) (by unfold I64; omega) (fun _ => by omega) rfl rfl (hrow _ _ (hd_H x) (rc_H x.imm))
    · exact formOf_b x w hx fb 40 [⟨4, 0, 7⟩] [⟨4, 0, 15⟩] [] [⟨4, 0, 20⟩] false 0 31 1 _ _ _ _ hl (fun w => by kernel_rfl) shape_W (by unfold I64; omega) (by unfold I64; omega) (fun _ => by omega) rfl rfl (hrow _ _ (hd_W x) (rc_W x.imm))
    · exact formOf_b x w hx fb 41 [⟨4, 0, 7⟩] [⟨4, 0, 15⟩] [⟨4, 0, 20⟩] [] false 0 0 0 _ _ _ _ hl (fun w => by kernel_rfl) shape_R (by unfold I64; omega) (by unfold I64; omega) (fun h => by cases h) rfl rfl (hrow _ _ (hd_R x) (rc_R x.imm))
    · exact formOf_b x w hx fb 45 [⟨4, 0, 7⟩] [⟨4, 0, 15⟩] [⟨4, 0, 20⟩] [] true 0 0 0 _ _ _ _ hl (fun w => by kernel_rfl) shape_A (by unfold I64; omega) (by unfold I64; omega) (fun h => by cases h) rfl rfl (hrow _ _ (hd_A x) (rc_A x.imm))
    · exact formOf_b x w hx fb 44 [⟨4, 0, 7⟩] [⟨4, 0, 15⟩] [] [] true 0 0 0 _ _ _ _ hl (fun w => by kernel_rfl) shape_L (by unfold I64; omega) (by unfold I64; omega) (fun h => by cases h) rfl rfl (hrow _ _ (hd_L x) (rc_L x.imm))
    · exact formOf_b x w hx fb 43 [] [] [] [] false 0 0 0 _ _ _ _ hl (fun w => by kernel_rfl) shape_Z (by unfold I64; omega) (by unfold I64; omega) (fun h => by cases h) rfl rfl (hrow _ _ (hd_Z x) (rc_Z x.imm))
  · have hl := lk_out x.op h
    have e : rck x = 60 := by unfold rck; rw [if_pos (.inr (fm_out x.op h))]
    have e2 : frow x = #[.int .u32 0, .nilFunc] := by unfold frow; rw [e]; rfl
    rw [e, e2]
    exact formOf_none x w hx hl
theorem frow_form (x : Ins) : ∃ (z : Int) (v : Value), frow x = #[.int .u32 z, v] ∧ v.oneCell' = true := by
  unfold frow
  split
  · split
    · exact ⟨_, _, rfl, rfl⟩
    · exact ⟨_, _, rfl, rfl⟩
  · exact ⟨_, _, rfl, rfl⟩
set_option maxRecDepth 100000 in
set_option maxHeartbeats 4000000 in
theorem Check_c (x : Ins) (w : World) (hx : InsOk x) : Calls Try.prog 6 #[.agg (insv x)] w fun e w' => e = .returned (.int .i64 (rck x)) ∧ Below w.heap.size w w' := by
  obtain ⟨z, v, hf, hv⟩ := frow_form x
  have HF : Hid (∀ w : World, Calls Try.prog 10 #[.agg #[.int .i64 x.op, .int .i64 x.rd, .int .i64 x.rs1, .int .i64 x.rs2, .int .i64 x.imm, .bool x.aq, .bool x.rl, .int .i64 x.len, .int .u32 x.raw]] w fun e w' => e = .returned (.tuple #[.agg #[.int .u32 z, v], .int .i64 (rck x)]) ∧ Below w.heap.size w w') := fun w => hf ▸ formOf_c x w hx
  generalize rck x = rc at HF
  obtain ⟨W, hW⟩ : ∃ W, w.alloc (.cells #[.int .i64 x.op, .int .i64 x.rd, .int .i64 x.rs1, .int .i64 x.rs2, .int .i64 x.imm, .bool x.aq, .bool x.rl, .int .i64 x.len, .int .u32 x.raw] 24) = W := ⟨_, rfl⟩
  have HBW : Hid (Below w.heap.size w W) := by unfold Hid; rw [← hW]; exact below_al w _
  have K1 : Hid (W.heap[w.heap.size]? = some (.cells #[.int .i64 x.op, .int .i64 x.rd, .int .i64 x.rs1, .int .i64 x.rs2, .int .i64 x.imm, .bool x.aq, .bool x.rl, .int .i64 x.len, .int .u32 x.raw] 24 (0, 0))) := by unfold Hid; rw [← hW]; exact heap_alloc_new w _
  clear hf hx
  unfold insv
  go_enter Try.func6, Try.ntmps6
  go_upto_region 1 with fail
  clear hW
  go_wp2_with (first | (refine wpList_load_row (by rfl) _ _ (by rfl) _ (by rfl) 24 _ (0, 0) _ K1.out Try.underlying24 (by rfl) insSize ?_) | (go_at_call 10; refine (HF.out _).mono ?_; rintro e w2 ⟨rfl, hb⟩; have HB2 : Hid (Below W.heap.size W w2) := hb; clear hb) | (refine wpList_store_new (w := w2) (by rfl) 36 _ _ (by rfl) (by rfl) _ #[.int .u32 z, v] (by rfl) (by rfl) formSize2 (by rfl) (formAll _ _ hv) ?_))
  go_ret
  exact ⟨rfl, HBW.out.trans ((HB2.out.trans ((below_al w2 _).mono HB2.out.size)).mono HBW.out.size)⟩
theorem num_c (n : Int) (w : World) : Calls Try.prog 5 #[.int .i64 n] w fun e w' => e = .returned (.int .i64 n) ∧ w' = w := by
  go_enter Try.func5, Try.ntmps5
  go_wp2
  go_ret
  exact ⟨rfl, rfl⟩
end Go.Proofs.Ytechkhlibdkmpac
