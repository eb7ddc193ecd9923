/-
  The reference's Check: the walk.
-/
import Derived.Test.YtechkhlibdkmpacEf
namespace Go.Proofs.Ytechkhlibdkmpac
set_option linter.unusedVariables false
open Go.ChangeShapes Go.WideShapes Go.ChangeAt Go.RowKit Go.Deep
def regsB (x : Ins) (k : Int) : Bool := regB x.rd (inS k sRd) && (regB x.rs1 (inS k sR1) && regB x.rs2 (inS k sR2))
def extB (x : Ins) (k : Int) : Bool := (x.imm != 0 && !inS k sIm) || ((x.aq || x.rl) && !inS k sOr)
def rck (x : Ins) : Int := if x.op = 0 ∨ (fmOf x.op).op = 0 then 60 else if regsB x (fmOf x.op).kind = false then 60 else if extB x (fmOf x.op).kind = true then 60 else if rchB (fmOf x.op).kind x.imm = true then 0 else 61
set_option maxRecDepth 100000 in
set_option maxHeartbeats 4000000 in
theorem rcheck_c (x : Ins) (w : World) (hx : InsOk x) : Calls Try.prog 7 #[.agg (insv x)] w fun e w' => e = .returned (.int .i64 (rck x)) ∧ Below w.heap.size w w' := by
  obtain ⟨z, hz⟩ : ∃ z, z = rck x := ⟨_, rfl⟩
  rw [← hz]
  unfold rck at hz
  obtain ⟨f, hf⟩ : ∃ f, f = fmOf x.op := ⟨_, rfl⟩
  have hkd : 0 ≤ f.kind ∧ f.kind ≤ 255 := by rw [hf]; exact fmOf_kind x.op
  obtain ⟨W, hW⟩ : ∃ W, w.alloc (.cells (insv x) 24) = W := ⟨_, rfl⟩
  have hb0 : Below w.heap.size w W := by rw [← hW]; exact below_al w _
  have r0 : W.heap[w.heap.size]? = some (.cells (insv x) 24 (0, 0)) := by rw [← hW]; exact heap_alloc_new w _
  have HFM : Hid (Calls Try.prog 11 #[.int .i64 x.op] W fun e w' => e = .returned (.agg #[.int .i64 f.op, .int .i64 f.code, .int .i64 f.f3, .int .i64 f.top, .int .u8 f.kind]) ∧ w'.heap[w.heap.size]? = some (.cells (insv x) 24 (0, 0)) ∧ Below w.heap.size w w') := (form_c x.op W hx.op).mono fun e w' ⟨he, hb⟩ => ⟨by rw [he, ← hf]; rfl, (hb.block _ (Array.getElem?_eq_some_iff.1 r0).1).trans r0, hb0.trans (hb.mono hb0.size)⟩
  rw [← hf] at hz
  have hrd := hx.rd
  have hr1 := hx.rs1
  have hr2 := hx.rs2
  have him := hx.imm
  have p0 : W.cell? ⟨w.heap.size, 0, none⟩ = some (.int .i64 x.op) := cell_of_row W _ 0 _ _ _ r0
  have hW2 : w.alloc (.cells #[.int .i64 x.op, .int .i64 x.rd, .int .i64 x.rs1, .int .i64 x.rs2, .int .i64 x.imm, .bool x.aq, .bool x.rl, .int .i64 x.len, .int .u32 x.raw] 24) = W := hW
  clear hW hb0 r0 hx hf
  unfold insv
  unfold I64 at hrd hr1 hr2 him
  go_enter Try.func7, Try.ntmps7
  go_upto_region 1 with fail
  clear hW2
  go_upto_region 2 with (go_at_call 11; refine HFM.out.mono ?_; rintro e w2 ⟨rfl, hr, hb⟩; have HR : Hid _ := hr; have HB : Hid (Below w.heap.size w w2) := hb; clear hr hb)
  --@CUT1
  clear p0 HFM
  obtain ⟨W2, hW2⟩ : ∃ W2, w2.alloc (.cells #[.int .i64 f.op, .int .i64 f.code, .int .i64 f.f3, .int .i64 f.top, .int .u8 f.kind] 40) = W2 := ⟨_, rfl⟩
  have hb2 : Below w2.heap.size w2 W2 := by rw [← hW2]; exact below_al w2 _
  have HB2 : Hid (Below w.heap.size w W2) := HB.out.trans (hb2.mono HB.out.size)
  have r2 : W2.heap[w2.heap.size]? = some (.cells #[.int .i64 f.op, .int .i64 f.code, .int .i64 f.f3, .int .i64 f.top, .int .u8 f.kind] 40 (0, 0)) := by rw [← hW2]; exact heap_alloc_new w2 _
  have r1 : W2.heap[w.heap.size]? = some (.cells (insv x) 24 (0, 0)) := (hb2.block _ (Array.getElem?_eq_some_iff.1 HR.out).1).trans HR.out
  rw [hW2]
  have p0 : W2.cell? ⟨w.heap.size, 0, none⟩ = some (.int .i64 x.op) := cell_of_row W2 _ 0 _ _ _ r1
  have p1 : W2.cell? ⟨w.heap.size, 1, none⟩ = some (.int .i64 x.rd) := cell_of_row W2 _ 1 _ _ _ r1
  have p2 : W2.cell? ⟨w.heap.size, 2, none⟩ = some (.int .i64 x.rs1) := cell_of_row W2 _ 2 _ _ _ r1
  have p3 : W2.cell? ⟨w.heap.size, 3, none⟩ = some (.int .i64 x.rs2) := cell_of_row W2 _ 3 _ _ _ r1
  have p4 : W2.cell? ⟨w.heap.size, 4, none⟩ = some (.int .i64 x.imm) := cell_of_row W2 _ 4 _ _ _ r1
  have p5 : W2.cell? ⟨w.heap.size, 5, none⟩ = some (.bool x.aq) := cell_of_row W2 _ 5 _ _ _ r1
  have p6 : W2.cell? ⟨w.heap.size, 6, none⟩ = some (.bool x.rl) := cell_of_row W2 _ 6 _ _ _ r1
  have q0 : W2.cell? ⟨w2.heap.size, 0, none⟩ = some (.int .i64 f.op) := cell_of_row W2 _ 0 _ _ _ r2
  have q4 : W2.cell? ⟨w2.heap.size, 4, none⟩ = some (.int .u8 f.kind) := cell_of_row W2 _ 4 _ _ _ r2
  clear hW2 hb2 r1 r2 HR HB
  by_cases h0 : x.op = 0
  · have b0 : (x.op == 0) = true := by simp [h0]
    have HZ : Hid (z = 60) := by unfold Hid; rw [hz, if_pos (.inl h0)]
    clear hz h0
    go_wp2
    go_ret
    exact ⟨by rw [HZ.out]; rfl, HB2.out⟩
  have b0 : (x.op == 0) = false := by simpa using h0
  by_cases h1 : f.op = 0
  · have b1 : (f.op == 0) = true := by simp [h1]
    have HZ : Hid (z = 60) := by unfold Hid; rw [hz, if_pos (.inr h1)]
    clear hz h0 h1
    go_wp2
    go_ret
    exact ⟨by rw [HZ.out]; rfl, HB2.out⟩
  have b1 : (f.op == 0) = false := by simpa using h1
  rw [if_neg (by rintro (h | h); exact h0 h; exact h1 h)] at hz
  clear h0 h1
  go_upto_region 5 with fail
  clear q0 q4 b0 b1
  --@CUT2
  by_cases g1 : regB x.rd (inS f.kind (⟨#[85, 74, 73, 72, 87, 82, 78, 76, 65]⟩ : ByteArray)) = true
  · by_cases g2 : regB x.rs1 (inS f.kind (⟨#[73, 66, 83, 72, 87, 82, 78, 76, 65]⟩ : ByteArray)) = true
    · by_cases g3 : regB x.rs2 (inS f.kind (⟨#[66, 83, 82, 65]⟩ : ByteArray)) = true
      · have hg : regsB x f.kind = true := by unfold regsB; show (regB x.rd (inS f.kind (⟨#[85, 74, 73, 72, 87, 82, 78, 76, 65]⟩ : ByteArray)) && (regB x.rs1 (inS f.kind (⟨#[73, 66, 83, 72, 87, 82, 78, 76, 65]⟩ : ByteArray)) && regB x.rs2 (inS f.kind (⟨#[66, 83, 82, 65]⟩ : ByteArray)))) = true; rw [g1, g2, g3]; rfl
        rw [if_neg (by rw [hg]; simp)] at hz
        clear hg
        have HZ0 : Hid (z = if extB x f.kind = true then 60 else if rchB f.kind x.imm = true then 0 else 61) := hz
        clear hz
        go_quiet ((first
    | (go_at_call 12; exact Calls.quiet_of_same (register_c _ _ _ (by first | exact hrd | exact hr1 | exact hr2)))
    | (go_at_call 13; exact Calls.quiet_of_same (one_s _ _ _ hkd (by decide)))))
        --@CUT3
        go_upto_region 7 with fail
        have HBQ : Hid (Below w.heap.size w (W2.drewN nq)) := below_drewN HB2.out _
        have s4 : (W2.drewN nq).cell? ⟨w.heap.size, 4, none⟩ = some (.int .i64 x.imm) := by simpa using p4
        have s5 : (W2.drewN nq).cell? ⟨w.heap.size, 5, none⟩ = some (.bool x.aq) := by simpa using p5
        have s6 : (W2.drewN nq).cell? ⟨w.heap.size, 6, none⟩ = some (.bool x.rl) := by simpa using p6
        clear p0 p1 p2 p3 p4 p5 p6 g1 g2 g3 HB2
        generalize W2.drewN nq = W3 at HBQ s4 s5 s6 ⊢
        --@CUT4
        by_cases hi : x.imm = 0
        · have bi : (x.imm != 0) = false := by simp [hi]
          clear hi
          by_cases ha : x.aq = true
          · by_cases go : inS f.kind (⟨#[76, 65]⟩ : ByteArray) = true
            · have he : extB x f.kind = false := by show ((x.imm != 0 && !inS f.kind (⟨#[85, 74, 73, 66, 83, 72, 87, 78]⟩ : ByteArray)) || ((x.aq || x.rl) && !inS f.kind (⟨#[76, 65]⟩ : ByteArray))) = false; rw [bi, ha, go]; rfl
              have HZ1 : Hid (z = if rchB f.kind x.imm = true then 0 else 61) := by unfold Hid; rw [HZ0.out, if_neg (by rw [he]; simp)]
              clear he
              by_cases hq : rchB f.kind x.imm = true
              · have HZ : Hid (z = 0) := by unfold Hid; rw [HZ1.out, if_pos hq]
                go_wp2_with (first | (go_at_call 13; refine (one_s _ _ _ hkd (by decide)).mono ?_; rintro e w9 ⟨rfl, hw9⟩; have hw8 := hw9.symm; subst hw8) | (go_at_call 14; refine (reach_c _ _ _ hkd him).mono ?_; rintro e w9 ⟨rfl, hw9⟩; have hw8 := hw9.symm; subst hw8))
                go_ret
                exact ⟨by rw [HZ.out]; rfl, HBQ.out⟩
              · have HZ : Hid (z = 61) := by unfold Hid; rw [HZ1.out, if_neg hq]
                have hq' : rchB f.kind x.imm = false := Bool.eq_false_iff.2 hq
                clear hq
                go_wp2_with (first | (go_at_call 13; refine (one_s _ _ _ hkd (by decide)).mono ?_; rintro e w9 ⟨rfl, hw9⟩; have hw8 := hw9.symm; subst hw8) | (go_at_call 14; refine (reach_c _ _ _ hkd him).mono ?_; rintro e w9 ⟨rfl, hw9⟩; have hw8 := hw9.symm; subst hw8))
                go_ret
                exact ⟨by rw [HZ.out]; rfl, HBQ.out⟩
            · have go' : inS f.kind (⟨#[76, 65]⟩ : ByteArray) = false := Bool.eq_false_iff.2 go
              clear go
              have he : extB x f.kind = true := by show ((x.imm != 0 && !inS f.kind (⟨#[85, 74, 73, 66, 83, 72, 87, 78]⟩ : ByteArray)) || ((x.aq || x.rl) && !inS f.kind (⟨#[76, 65]⟩ : ByteArray))) = true; rw [bi, ha, go']; rfl
              have HZ : Hid (z = 60) := by unfold Hid; rw [HZ0.out, if_pos he]
              clear he
              go_wp2_with (go_at_call 13; refine (one_s _ _ _ hkd (by decide)).mono ?_; rintro e w9 ⟨rfl, hw9⟩; have hw8 := hw9.symm; subst hw8)
              go_ret
              exact ⟨by rw [HZ.out]; rfl, HBQ.out⟩
          · have ha' : x.aq = false := Bool.eq_false_iff.2 ha
            clear ha
            by_cases hl : x.rl = true
            · by_cases go : inS f.kind (⟨#[76, 65]⟩ : ByteArray) = true
              · have he : extB x f.kind = false := by show ((x.imm != 0 && !inS f.kind (⟨#[85, 74, 73, 66, 83, 72, 87, 78]⟩ : ByteArray)) || ((x.aq || x.rl) && !inS f.kind (⟨#[76, 65]⟩ : ByteArray))) = false; rw [bi, ha', hl, go]; rfl
                have HZ1 : Hid (z = if rchB f.kind x.imm = true then 0 else 61) := by unfold Hid; rw [HZ0.out, if_neg (by rw [he]; simp)]
                clear he
                by_cases hq : rchB f.kind x.imm = true
                · have HZ : Hid (z = 0) := by unfold Hid; rw [HZ1.out, if_pos hq]
                  go_wp2_with (first | (go_at_call 13; refine (one_s _ _ _ hkd (by decide)).mono ?_; rintro e w9 ⟨rfl, hw9⟩; have hw8 := hw9.symm; subst hw8) | (go_at_call 14; refine (reach_c _ _ _ hkd him).mono ?_; rintro e w9 ⟨rfl, hw9⟩; have hw8 := hw9.symm; subst hw8))
                  go_ret
                  exact ⟨by rw [HZ.out]; rfl, HBQ.out⟩
                · have HZ : Hid (z = 61) := by unfold Hid; rw [HZ1.out, if_neg hq]
                  have hq' : rchB f.kind x.imm = false := Bool.eq_false_iff.2 hq
                  clear hq
                  go_wp2_with (first | (go_at_call 13; refine (one_s _ _ _ hkd (by decide)).mono ?_; rintro e w9 ⟨rfl, hw9⟩; have hw8 := hw9.symm; subst hw8) | (go_at_call 14; refine (reach_c _ _ _ hkd him).mono ?_; rintro e w9 ⟨rfl, hw9⟩; have hw8 := hw9.symm; subst hw8))
                  go_ret
                  exact ⟨by rw [HZ.out]; rfl, HBQ.out⟩
              · have go' : inS f.kind (⟨#[76, 65]⟩ : ByteArray) = false := Bool.eq_false_iff.2 go
                clear go
                have he : extB x f.kind = true := by show ((x.imm != 0 && !inS f.kind (⟨#[85, 74, 73, 66, 83, 72, 87, 78]⟩ : ByteArray)) || ((x.aq || x.rl) && !inS f.kind (⟨#[76, 65]⟩ : ByteArray))) = true; rw [bi, ha', hl, go']; rfl
                have HZ : Hid (z = 60) := by unfold Hid; rw [HZ0.out, if_pos he]
                clear he
                go_wp2_with (go_at_call 13; refine (one_s _ _ _ hkd (by decide)).mono ?_; rintro e w9 ⟨rfl, hw9⟩; have hw8 := hw9.symm; subst hw8)
                go_ret
                exact ⟨by rw [HZ.out]; rfl, HBQ.out⟩
            · have hl' : x.rl = false := Bool.eq_false_iff.2 hl
              clear hl
              have he : extB x f.kind = false := by show ((x.imm != 0 && !inS f.kind (⟨#[85, 74, 73, 66, 83, 72, 87, 78]⟩ : ByteArray)) || ((x.aq || x.rl) && !inS f.kind (⟨#[76, 65]⟩ : ByteArray))) = false; rw [bi, ha', hl']; rfl
              have HZ1 : Hid (z = if rchB f.kind x.imm = true then 0 else 61) := by unfold Hid; rw [HZ0.out, if_neg (by rw [he]; simp)]
              clear he
              by_cases hq : rchB f.kind x.imm = true
              · have HZ : Hid (z = 0) := by unfold Hid; rw [HZ1.out, if_pos hq]
                go_wp2_with (first | (go_at_call 13; refine (one_s _ _ _ hkd (by decide)).mono ?_; rintro e w9 ⟨rfl, hw9⟩; have hw8 := hw9.symm; subst hw8) | (go_at_call 14; refine (reach_c _ _ _ hkd him).mono ?_; rintro e w9 ⟨rfl, hw9⟩; have hw8 := hw9.symm; subst hw8))
                go_ret
                exact ⟨by rw [HZ.out]; rfl, HBQ.out⟩
              · have HZ : Hid (z = 61) := by unfold Hid; rw [HZ1.out, if_neg hq]
                have hq' : rchB f.kind x.imm = false := Bool.eq_false_iff.2 hq
                clear hq
                go_wp2_with (first | (go_at_call 13; refine (one_s _ _ _ hkd (by decide)).mono ?_; rintro e w9 ⟨rfl, hw9⟩; have hw8 := hw9.symm; subst hw8) | (go_at_call 14; refine (reach_c _ _ _ hkd him).mono ?_; rintro e w9 ⟨rfl, hw9⟩; have hw8 := hw9.symm; subst hw8))
                go_ret
                exact ⟨by rw [HZ.out]; rfl, HBQ.out⟩
        · have bi : (x.imm != 0) = true := by simpa using hi
          clear hi
          by_cases gi : inS f.kind (⟨#[85, 74, 73, 66, 83, 72, 87, 78]⟩ : ByteArray) = true
          · by_cases ha : x.aq = true
            · by_cases go : inS f.kind (⟨#[76, 65]⟩ : ByteArray) = true
              · have he : extB x f.kind = false := by show ((x.imm != 0 && !inS f.kind (⟨#[85, 74, 73, 66, 83, 72, 87, 78]⟩ : ByteArray)) || ((x.aq || x.rl) && !inS f.kind (⟨#[76, 65]⟩ : ByteArray))) = false; rw [bi, gi, ha, go]; rfl
                have HZ1 : Hid (z = if rchB f.kind x.imm = true then 0 else 61) := by unfold Hid; rw [HZ0.out, if_neg (by rw [he]; simp)]
                clear he
                by_cases hq : rchB f.kind x.imm = true
                · have HZ : Hid (z = 0) := by unfold Hid; rw [HZ1.out, if_pos hq]
                  go_wp2_with (first | (go_at_call 13; refine (one_s _ _ _ hkd (by decide)).mono ?_; rintro e w9 ⟨rfl, hw9⟩; have hw8 := hw9.symm; subst hw8) | (go_at_call 14; refine (reach_c _ _ _ hkd him).mono ?_; rintro e w9 ⟨rfl, hw9⟩; have hw8 := hw9.symm; subst hw8))
                  go_ret
                  exact ⟨by rw [HZ.out]; rfl, HBQ.out⟩
                · have HZ : Hid (z = 61) := by unfold Hid; rw [HZ1.out, if_neg hq]
                  have hq' : rchB f.kind x.imm = false := Bool.eq_false_iff.2 hq
                  clear hq
                  go_wp2_with (first | (go_at_call 13; refine (one_s _ _ _ hkd (by decide)).mono ?_; rintro e w9 ⟨rfl, hw9⟩; have hw8 := hw9.symm; subst hw8) | (go_at_call 14; refine (reach_c _ _ _ hkd him).mono ?_; rintro e w9 ⟨rfl, hw9⟩; have hw8 := hw9.symm; subst hw8))
                  go_ret
                  exact ⟨by rw [HZ.out]; rfl, HBQ.out⟩
              · have go' : inS f.kind (⟨#[76, 65]⟩ : ByteArray) = false := Bool.eq_false_iff.2 go
                clear go
                have he : extB x f.kind = true := by show ((x.imm != 0 && !inS f.kind (⟨#[85, 74, 73, 66, 83, 72, 87, 78]⟩ : ByteArray)) || ((x.aq || x.rl) && !inS f.kind (⟨#[76, 65]⟩ : ByteArray))) = true; rw [bi, gi, ha, go']; rfl
                have HZ : Hid (z = 60) := by unfold Hid; rw [HZ0.out, if_pos he]
                clear he
                go_wp2_with (go_at_call 13; refine (one_s _ _ _ hkd (by decide)).mono ?_; rintro e w9 ⟨rfl, hw9⟩; have hw8 := hw9.symm; subst hw8)
                go_ret
                exact ⟨by rw [HZ.out]; rfl, HBQ.out⟩
            · have ha' : x.aq = false := Bool.eq_false_iff.2 ha
              clear ha
              by_cases hl : x.rl = true
              · by_cases go : inS f.kind (⟨#[76, 65]⟩ : ByteArray) = true
                · have he : extB x f.kind = false := by show ((x.imm != 0 && !inS f.kind (⟨#[85, 74, 73, 66, 83, 72, 87, 78]⟩ : ByteArray)) || ((x.aq || x.rl) && !inS f.kind (⟨#[76, 65]⟩ : ByteArray))) = false; rw [bi, gi, ha', hl, go]; rfl
                  have HZ1 : Hid (z = if rchB f.kind x.imm = true then 0 else 61) := by unfold Hid; rw [HZ0.out, if_neg (by rw [he]; simp)]
                  clear he
                  by_cases hq : rchB f.kind x.imm = true
                  · have HZ : Hid (z = 0) := by unfold Hid; rw [HZ1.out, if_pos hq]
                    go_wp2_with (first | (go_at_call 13; refine (one_s _ _ _ hkd (by decide)).mono ?_; rintro e w9 ⟨rfl, hw9⟩; have hw8 := hw9.symm; subst hw8) | (go_at_call 14; refine (reach_c _ _ _ hkd him).mono ?_; rintro e w9 ⟨rfl, hw9⟩; have hw8 := hw9.symm; subst hw8))
                    go_ret
                    exact ⟨by rw [HZ.out]; rfl, HBQ.out⟩
                  · have HZ : Hid (z = 61) := by unfold Hid; rw [HZ1.out, if_neg hq]
                    have hq' : rchB f.kind x.imm = false := Bool.eq_false_iff.2 hq
                    clear hq
                    go_wp2_with (first | (go_at_call 13; refine (one_s _ _ _ hkd (by decide)).mono ?_; rintro e w9 ⟨rfl, hw9⟩; have hw8 := hw9.symm; subst hw8) | (go_at_call 14; refine (reach_c _ _ _ hkd him).mono ?_; rintro e w9 ⟨rfl, hw9⟩; have hw8 := hw9.symm; subst hw8))
                    go_ret
                    exact ⟨by rw [HZ.out]; rfl, HBQ.out⟩
                · have go' : inS f.kind (⟨#[76, 65]⟩ : ByteArray) = false := Bool.eq_false_iff.2 go
                  clear go
                  have he : extB x f.kind = true := by show ((x.imm != 0 && !inS f.kind (⟨#[85, 74, 73, 66, 83, 72, 87, 78]⟩ : ByteArray)) || ((x.aq || x.rl) && !inS f.kind (⟨#[76, 65]⟩ : ByteArray))) = true; rw [bi, gi, ha', hl, go']; rfl
                  have HZ : Hid (z = 60) := by unfold Hid; rw [HZ0.out, if_pos he]
                  clear he
                  go_wp2_with (go_at_call 13; refine (one_s _ _ _ hkd (by decide)).mono ?_; rintro e w9 ⟨rfl, hw9⟩; have hw8 := hw9.symm; subst hw8)
                  go_ret
                  exact ⟨by rw [HZ.out]; rfl, HBQ.out⟩
              · have hl' : x.rl = false := Bool.eq_false_iff.2 hl
                clear hl
                have he : extB x f.kind = false := by show ((x.imm != 0 && !inS f.kind (⟨#[85, 74, 73, 66, 83, 72, 87, 78]⟩ : ByteArray)) || ((x.aq || x.rl) && !inS f.kind (⟨#[76, 65]⟩ : ByteArray))) = false; rw [bi, gi, ha', hl']; rfl
                have HZ1 : Hid (z = if rchB f.kind x.imm = true then 0 else 61) := by unfold Hid; rw [HZ0.out, if_neg (by rw [he]; simp)]
                clear he
                by_cases hq : rchB f.kind x.imm = true
                · have HZ : Hid (z = 0) := by unfold Hid; rw [HZ1.out, if_pos hq]
                  go_wp2_with (first | (go_at_call 13; refine (one_s _ _ _ hkd (by decide)).mono ?_; rintro e w9 ⟨rfl, hw9⟩; have hw8 := hw9.symm; subst hw8) | (go_at_call 14; refine (reach_c _ _ _ hkd him).mono ?_; rintro e w9 ⟨rfl, hw9⟩; have hw8 := hw9.symm; subst hw8))
                  go_ret
                  exact ⟨by rw [HZ.out]; rfl, HBQ.out⟩
                · have HZ : Hid (z = 61) := by unfold Hid; rw [HZ1.out, if_neg hq]
                  have hq' : rchB f.kind x.imm = false := Bool.eq_false_iff.2 hq
                  clear hq
                  go_wp2_with (first | (go_at_call 13; refine (one_s _ _ _ hkd (by decide)).mono ?_; rintro e w9 ⟨rfl, hw9⟩; have hw8 := hw9.symm; subst hw8) | (go_at_call 14; refine (reach_c _ _ _ hkd him).mono ?_; rintro e w9 ⟨rfl, hw9⟩; have hw8 := hw9.symm; subst hw8))
                  go_ret
                  exact ⟨by rw [HZ.out]; rfl, HBQ.out⟩
          · have gi' : inS f.kind (⟨#[85, 74, 73, 66, 83, 72, 87, 78]⟩ : ByteArray) = false := Bool.eq_false_iff.2 gi
            clear gi
            have he : extB x f.kind = true := by show ((x.imm != 0 && !inS f.kind (⟨#[85, 74, 73, 66, 83, 72, 87, 78]⟩ : ByteArray)) || ((x.aq || x.rl) && !inS f.kind (⟨#[76, 65]⟩ : ByteArray))) = true; rw [bi, gi']; rfl
            have HZ : Hid (z = 60) := by unfold Hid; rw [HZ0.out, if_pos he]
            clear he
            go_wp2_with (go_at_call 13; refine (one_s _ _ _ hkd (by decide)).mono ?_; rintro e w9 ⟨rfl, hw9⟩; have hw8 := hw9.symm; subst hw8)
            go_ret
            exact ⟨by rw [HZ.out]; rfl, HBQ.out⟩
      · have hg : regsB x f.kind = false := by unfold regsB; show (regB x.rd (inS f.kind (⟨#[85, 74, 73, 72, 87, 82, 78, 76, 65]⟩ : ByteArray)) && (regB x.rs1 (inS f.kind (⟨#[73, 66, 83, 72, 87, 82, 78, 76, 65]⟩ : ByteArray)) && regB x.rs2 (inS f.kind (⟨#[66, 83, 82, 65]⟩ : ByteArray)))) = false; rw [g1, g2, Bool.eq_false_iff.2 g3]; rfl
        have HZ : Hid (z = 60) := by unfold Hid; rw [hz, if_pos hg]
        have g3' : regB x.rs2 (inS f.kind (⟨#[66, 83, 82, 65]⟩ : ByteArray)) = false := Bool.eq_false_iff.2 g3
        clear hz hg g3
        go_quiet ((first
    | (go_at_call 12; exact Calls.quiet_of_same (register_c _ _ _ (by first | exact hrd | exact hr1 | exact hr2)))
    | (go_at_call 13; exact Calls.quiet_of_same (one_s _ _ _ hkd (by decide)))))
        go_wp2
        go_ret
        exact ⟨by rw [HZ.out]; rfl, below_drewN HB2.out _⟩
    · have hg : regsB x f.kind = false := by unfold regsB; show (regB x.rd (inS f.kind (⟨#[85, 74, 73, 72, 87, 82, 78, 76, 65]⟩ : ByteArray)) && (regB x.rs1 (inS f.kind (⟨#[73, 66, 83, 72, 87, 82, 78, 76, 65]⟩ : ByteArray)) && regB x.rs2 (inS f.kind (⟨#[66, 83, 82, 65]⟩ : ByteArray)))) = false; rw [g1, Bool.eq_false_iff.2 g2]; rfl
      have HZ : Hid (z = 60) := by unfold Hid; rw [hz, if_pos hg]
      have g2' : regB x.rs1 (inS f.kind (⟨#[73, 66, 83, 72, 87, 82, 78, 76, 65]⟩ : ByteArray)) = false := Bool.eq_false_iff.2 g2
      clear hz hg g2
      go_quiet ((first
    | (go_at_call 12; exact Calls.quiet_of_same (register_c _ _ _ (by first | exact hrd | exact hr1 | exact hr2)))
    | (go_at_call 13; exact Calls.quiet_of_same (one_s _ _ _ hkd (by decide)))))
      go_wp2
      go_ret
      exact ⟨by rw [HZ.out]; rfl, below_drewN HB2.out _⟩
  · have hg : regsB x f.kind = false := by unfold regsB; show (regB x.rd (inS f.kind (⟨#[85, 74, 73, 72, 87, 82, 78, 76, 65]⟩ : ByteArray)) && (regB x.rs1 (inS f.kind (⟨#[73, 66, 83, 72, 87, 82, 78, 76, 65]⟩ : ByteArray)) && regB x.rs2 (inS f.kind (⟨#[66, 83, 82, 65]⟩ : ByteArray)))) = false; rw [Bool.eq_false_iff.2 g1]; rfl
    have HZ : Hid (z = 60) := by unfold Hid; rw [hz, if_pos hg]
    have g1' : regB x.rd (inS f.kind (⟨#[85, 74, 73, 72, 87, 82, 78, 76, 65]⟩ : ByteArray)) = false := Bool.eq_false_iff.2 g1
    clear hz hg g1
    go_quiet ((first
    | (go_at_call 12; exact Calls.quiet_of_same (register_c _ _ _ (by first | exact hrd | exact hr1 | exact hr2)))
    | (go_at_call 13; exact Calls.quiet_of_same (one_s _ _ _ hkd (by decide)))))
    go_wp2
    go_ret
    exact ⟨by rw [HZ.out]; rfl, below_drewN HB2.out _⟩
end Go.Proofs.Ytechkhlibdkmpac
