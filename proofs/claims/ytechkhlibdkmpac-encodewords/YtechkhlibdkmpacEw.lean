/-
  Lay of Fields, lay of a form, Encode of the program.
-/
import Derived.Test.YtechkhlibdkmpacEt
import Derived.Test.YtechkhlibdkmpacEr
import Derived.Deep.RegionHeld3
import Derived.Deep.CutRange
namespace Go.Proofs.Ytechkhlibdkmpac
set_option linter.unusedVariables false
open Go.ChangeShapes Go.WideShapes Go.ChangeAt Go.RowKit Go.Deep
def lyAll : List (List Pc) := [[], [⟨4, 0, 7⟩], [⟨4, 0, 15⟩], [⟨4, 0, 20⟩], [⟨31, 12, 12⟩], [⟨20, 20, 31⟩, ⟨19, 12, 12⟩, ⟨11, 11, 20⟩, ⟨10, 1, 21⟩], [⟨11, 0, 20⟩], [⟨12, 12, 31⟩, ⟨11, 11, 7⟩, ⟨10, 5, 25⟩, ⟨4, 1, 8⟩], [⟨11, 5, 25⟩, ⟨4, 0, 7⟩], [⟨5, 0, 20⟩]]
theorem Lyt.at {w : World} {a : Option Addr} {n c : Nat} {l : List Pc} (h : Lyt w (.slice a n c) l) (hl : l ≠ []) : ∃ g, a = some ⟨g, 0, none⟩ ∧ n = l.length ∧ c = l.length ∧ w.heap[g]? = some (.cells (pcv l).toArray 75 (0, 0)) := by
  rcases h with ⟨h1, _⟩ | ⟨_, g, h2, h3⟩
  · exact absurd h1 hl
  · simp only [Value.slice.injEq] at h2
    exact ⟨g, h2.1, h2.2.1, h2.2.2, h3⟩
theorem lay_g (l : List Pc) (hl : l ∈ lyAll) (a : Option Addr) (n c : Nat) (v : Int) (w : World) (hv : I64 v) (h : Lyt w (.slice a n c) l) : Calls Try.prog 33 #[.slice a n c, .int .i64 v] w fun e w' => e = .returned (.int .u32 (n32 (lyB l v))) ∧ Below w.heap.size w w' := by
  unfold lyAll at hl
  simp only [List.mem_cons, List.not_mem_nil, or_false] at hl
  rcases hl with rfl | rfl | rfl | rfl | rfl | rfl | rfl | rfl | rfl | rfl
  · rcases h with ⟨_, h2⟩ | ⟨h1, _⟩
    · simp only [Value.slice.injEq] at h2
      obtain ⟨rfl, rfl, rfl⟩ := h2
      exact lay_nil v w
    · exact absurd rfl h1
  · obtain ⟨g, rfl, rfl, rfl, hr⟩ := h.at (by simp)
    exact lay_rd v w g hv hr
  · obtain ⟨g, rfl, rfl, rfl, hr⟩ := h.at (by simp)
    exact lay_r1 v w g hv hr
  · obtain ⟨g, rfl, rfl, rfl, hr⟩ := h.at (by simp)
    exact lay_r2 v w g hv hr
  · obtain ⟨g, rfl, rfl, rfl, hr⟩ := h.at (by simp)
    exact lay_U v w g hv hr
  · obtain ⟨g, rfl, rfl, rfl, hr⟩ := h.at (by simp)
    exact lay_J v w g hv hr
  · obtain ⟨g, rfl, rfl, rfl, hr⟩ := h.at (by simp)
    exact lay_I v w g hv hr
  · obtain ⟨g, rfl, rfl, rfl, hr⟩ := h.at (by simp)
    exact lay_B v w g hv hr
  · obtain ⟨g, rfl, rfl, rfl, hr⟩ := h.at (by simp)
    exact lay_S v w g hv hr
  · obtain ⟨g, rfl, rfl, rfl, hr⟩ := h.at (by simp)
    exact lay_H v w g hv hr
theorem fieldsSize : (Try.prog.info? 54).map (·.size) = some 4 := by kernel_rfl
set_option maxRecDepth 100000 in
set_option maxHeartbeats 4000000 in
theorem fields_c (x : Ins) (a0 a1 a2 a3 : Option Addr) (n0 n1 n2 n3 c0 c1 c2 c3 : Nat) (P0 P1 P2 P3 : List Pc) (hP : P0 ∈ lyAll ∧ P1 ∈ lyAll ∧ P2 ∈ lyAll ∧ P3 ∈ lyAll) (w : World) (hx : InsOk x) (h0 : Lyt w (.slice a0 n0 c0) P0) (h1 : Lyt w (.slice a1 n1 c1) P1) (h2 : Lyt w (.slice a2 n2 c2) P2) (h3 : Lyt w (.slice a3 n3 c3) P3) :
    Calls Try.prog 21 #[.agg #[.slice a0 n0 c0, .slice a1 n1 c1, .slice a2 n2 c2, .slice a3 n3 c3], .agg #[.int .i64 x.op, .int .i64 x.rd, .int .i64 x.rs1, .int .i64 x.rs2, .int .i64 x.imm, .bool x.aq, .bool x.rl, .int .i64 x.len, .int .u32 x.raw]] w fun e w' => e = .returned (.int .u32 (n32 (lyB P0 x.rd ||| lyB P1 x.rs1 ||| lyB P2 x.rs2 ||| lyB P3 x.imm))) ∧ Below w.heap.size w w' := by
  obtain ⟨W, hW⟩ : ∃ W, (w.alloc (.cells #[.slice a0 n0 c0, .slice a1 n1 c1, .slice a2 n2 c2, .slice a3 n3 c3] 54)).alloc (.cells #[.int .i64 x.op, .int .i64 x.rd, .int .i64 x.rs1, .int .i64 x.rs2, .int .i64 x.imm, .bool x.aq, .bool x.rl, .int .i64 x.len, .int .u32 x.raw] 24) = W := ⟨_, rfl⟩
  have hbw : Below w.heap.size w W := by rw [← hW]; exact (below_al w _).trans ((below_al _ _).mono (below_al w _).size)
  have k1 : W.heap[w.heap.size]? = some (.cells #[.slice a0 n0 c0, .slice a1 n1 c1, .slice a2 n2 c2, .slice a3 n3 c3] 54 (0, 0)) := by rw [← hW]; exact (Below.heap_alloc _ _ _ (by simp)).trans (heap_alloc_new w _)
  have k2 : W.heap[w.heap.size + 1]? = some (.cells #[.int .i64 x.op, .int .i64 x.rd, .int .i64 x.rs1, .int .i64 x.rs2, .int .i64 x.imm, .bool x.aq, .bool x.rl, .int .i64 x.len, .int .u32 x.raw] 24 (0, 0)) := by rw [← hW]; have := heap_alloc_new (w.alloc (.cells #[.slice a0 n0 c0, .slice a1 n1 c1, .slice a2 n2 c2, .slice a3 n3 c3] 54)) (.cells #[.int .i64 x.op, .int .i64 x.rd, .int .i64 x.rs1, .int .i64 x.rs2, .int .i64 x.imm, .bool x.aq, .bool x.rl, .int .i64 x.len, .int .u32 x.raw] 24); simpa using this
  have HBW : Hid (Below w.heap.size w W) := hbw
  have HC : Hid (∀ w', Below W.heap.size W w' → w'.cell? ⟨w.heap.size, 0, none⟩ = some (.slice a0 n0 c0) ∧ w'.cell? ⟨w.heap.size, 1, none⟩ = some (.slice a1 n1 c1) ∧ w'.cell? ⟨w.heap.size, 2, none⟩ = some (.slice a2 n2 c2) ∧ w'.cell? ⟨w.heap.size, 3, none⟩ = some (.slice a3 n3 c3) ∧ w'.cell? ⟨w.heap.size + 1, 1, none⟩ = some (.int .i64 x.rd) ∧ w'.cell? ⟨w.heap.size + 1, 2, none⟩ = some (.int .i64 x.rs1) ∧ w'.cell? ⟨w.heap.size + 1, 3, none⟩ = some (.int .i64 x.rs2) ∧ w'.cell? ⟨w.heap.size + 1, 4, none⟩ = some (.int .i64 x.imm)) := fun w' hb => by
    have r1 := (hb.block _ (Array.getElem?_eq_some_iff.1 k1).1).trans k1
    have r2 := (hb.block _ (Array.getElem?_eq_some_iff.1 k2).1).trans k2
    exact ⟨cell_of_row w' _ 0 _ _ _ r1, cell_of_row w' _ 1 _ _ _ r1, cell_of_row w' _ 2 _ _ _ r1, cell_of_row w' _ 3 _ _ _ r1, cell_of_row w' _ 1 _ _ _ r2, cell_of_row w' _ 2 _ _ _ r2, cell_of_row w' _ 3 _ _ _ r2, cell_of_row w' _ 4 _ _ _ r2⟩
  have HL0 : Hid (∀ w', Below W.heap.size W w' → Calls Try.prog 33 #[.slice a0 n0 c0, .int .i64 x.rd] w' fun e w2 => e = .returned (.int .u32 (n32 (lyB P0 x.rd))) ∧ Below w'.heap.size w' w2) := fun w' hb => lay_g P0 hP.1 a0 n0 c0 _ w' hx.rd (h0.later (hbw.trans (hb.mono hbw.size)))
  have HL1 : Hid (∀ w', Below W.heap.size W w' → Calls Try.prog 33 #[.slice a1 n1 c1, .int .i64 x.rs1] w' fun e w2 => e = .returned (.int .u32 (n32 (lyB P1 x.rs1))) ∧ Below w'.heap.size w' w2) := fun w' hb => lay_g P1 hP.2.1 a1 n1 c1 _ w' hx.rs1 (h1.later (hbw.trans (hb.mono hbw.size)))
  have HL2 : Hid (∀ w', Below W.heap.size W w' → Calls Try.prog 33 #[.slice a2 n2 c2, .int .i64 x.rs2] w' fun e w2 => e = .returned (.int .u32 (n32 (lyB P2 x.rs2))) ∧ Below w'.heap.size w' w2) := fun w' hb => lay_g P2 hP.2.2.1 a2 n2 c2 _ w' hx.rs2 (h2.later (hbw.trans (hb.mono hbw.size)))
  have HL3 : Hid (∀ w', Below W.heap.size W w' → Calls Try.prog 33 #[.slice a3 n3 c3, .int .i64 x.imm] w' fun e w2 => e = .returned (.int .u32 (n32 (lyB P3 x.imm))) ∧ Below w'.heap.size w' w2) := fun w' hb => lay_g P3 hP.2.2.2 a3 n3 c3 _ w' hx.imm (h3.later (hbw.trans (hb.mono hbw.size)))
  generalize lyB P0 x.rd = B0 at HL0 ⊢
  generalize lyB P1 x.rs1 = B1 at HL1 ⊢
  generalize lyB P2 x.rs2 = B2 at HL2 ⊢
  generalize lyB P3 x.imm = B3 at HL3 ⊢
  clear hbw k1 k2 hP hx h0 h1 h2 h3
  go_enter Try.func21, Try.ntmps21
  go_upto_region 1 with fail
  clear hW
  have HB0 : Hid (Below W.heap.size W W) := Below.refl _ _
  go_cut [5] from 6 to 22 (fun v wx => v = .int .u32 (n32 (B0 ||| B1 ||| B2)) ∧ Below W.heap.size W wx)
  case first =>
    --@CUT1
    go_region_held3 (fun w' => w'.cell? ⟨w.heap.size, 0, none⟩ = some (.slice a0 n0 c0) ∧ w'.cell? ⟨w.heap.size, 1, none⟩ = some (.slice a1 n1 c1) ∧ w'.cell? ⟨w.heap.size, 2, none⟩ = some (.slice a2 n2 c2) ∧ w'.cell? ⟨w.heap.size, 3, none⟩ = some (.slice a3 n3 c3) ∧ w'.cell? ⟨w.heap.size + 1, 1, none⟩ = some (.int .i64 x.rd) ∧ w'.cell? ⟨w.heap.size + 1, 2, none⟩ = some (.int .i64 x.rs1) ∧ w'.cell? ⟨w.heap.size + 1, 3, none⟩ = some (.int .i64 x.rs2) ∧ w'.cell? ⟨w.heap.size + 1, 4, none⟩ = some (.int .i64 x.imm)) (first | exact HC.out _ HB0.out | exact HC.out _ (Below.drew HB0.out)) (first | (go_at_call_of 33 (Value.slice a0 n0 c0); refine (HL0.out _ (by first | exact HB0.out | exact Below.drew HB0.out)).mono ?_; rintro e w5 ⟨rfl, hb⟩; have HB1 : Hid (Below W.heap.size W w5) := (by first | exact HB0.out.trans (hb.mono HB0.out.size) | exact (Below.drew HB0.out).trans (hb.mono HB0.out.size)); clear HB0; have HB0 := HB1; clear HB1 hb) | (go_at_call_of 33 (Value.slice a1 n1 c1); refine (HL1.out _ (by first | exact HB0.out | exact Below.drew HB0.out)).mono ?_; rintro e w5 ⟨rfl, hb⟩; have HB1 : Hid (Below W.heap.size W w5) := (by first | exact HB0.out.trans (hb.mono HB0.out.size) | exact (Below.drew HB0.out).trans (hb.mono HB0.out.size)); clear HB0; have HB0 := HB1; clear HB1 hb) | (go_at_call_of 33 (Value.slice a2 n2 c2); refine (HL2.out _ (by first | exact HB0.out | exact Below.drew HB0.out)).mono ?_; rintro e w5 ⟨rfl, hb⟩; have HB1 : Hid (Below W.heap.size W w5) := (by first | exact HB0.out.trans (hb.mono HB0.out.size) | exact (Below.drew HB0.out).trans (hb.mono HB0.out.size)); clear HB0; have HB0 := HB1; clear HB1 hb))
    --@CUT2
    all_goals go_wp2_with fail
    all_goals go_meet
    all_goals exact ⟨by rw [← or32, ← or32], HB0.out⟩
  case rest =>
    obtain ⟨rfl, hb⟩ := hcut
    have HB5 : Hid (Below W.heap.size W wc) := hb
    clear hb HB0
    have HB0 : Hid (Below W.heap.size W wc) := HB5.out
    obtain ⟨d0, d1, d2, d3, d4, d5, d6, d7⟩ := HC.out wc HB5.out
    --@CUT4
    go_wp2_with (first | (go_at_call_of 33 (Value.slice a3 n3 c3); refine (HL3.out _ (by first | exact HB0.out | exact Below.drew HB0.out)).mono ?_; rintro e w5 ⟨rfl, hb⟩; have HB1 : Hid (Below W.heap.size W w5) := (by first | exact HB0.out.trans (hb.mono HB0.out.size) | exact (Below.drew HB0.out).trans (hb.mono HB0.out.size)); clear HB0; have HB0 := HB1; clear HB1 hb))
    go_ret
    exact ⟨by rw [or32]; rfl, HBW.out.trans (HB0.out.mono HBW.out.size)⟩
set_option maxRecDepth 100000 in
set_option maxHeartbeats 4000000 in
theorem flay_c (x : Ins) (FB : BitVec 32) (f : Nat) (P0 P1 P2 P3 : List Pc) (od : Bool) (lo hi st : Int) (hP : P0 ∈ lyAll ∧ P1 ∈ lyAll ∧ P2 ∈ lyAll ∧ P3 ∈ lyAll) (w : World) (hx : InsOk x)
    (hcf : ∀ w, (callFunc f #[]).run Try.prog w = .ok (.enter f #[]) w)
    (hS : ∀ w : World, Calls Try.prog f #[] w fun e w' => ∃ v0 v1 v2 v3, e = .returned (.agg #[v0, v1, v2, v3, .bool od, .int .i64 lo, .int .i64 hi, .int .i64 st]) ∧ Lyt w' v0 P0 ∧ Lyt w' v1 P1 ∧ Lyt w' v2 P2 ∧ Lyt w' v3 P3 ∧ Below w.heap.size w w') :
    Calls Try.prog 15 #[.agg #[.int .u32 (n32 FB), .func (.func f) #[] #[]], .agg #[.int .i64 x.op, .int .i64 x.rd, .int .i64 x.rs1, .int .i64 x.rs2, .int .i64 x.imm, .bool x.aq, .bool x.rl, .int .i64 x.len, .int .u32 x.raw]] w fun e w' => e = .returned (.int .u32 (n32 (FB ||| (lyB P0 x.rd ||| lyB P1 x.rs1 ||| lyB P2 x.rs2 ||| lyB P3 x.imm) ||| (if x.aq then 67108864#32 else 0#32) ||| (if x.rl then 33554432#32 else 0#32)))) ∧ Below w.heap.size w w' := by
  have HS : Hid (∀ w : World, Calls Try.prog f #[] w fun e w' => ∃ v0 v1 v2 v3, e = .returned (.agg #[v0, v1, v2, v3, .bool od, .int .i64 lo, .int .i64 hi, .int .i64 st]) ∧ Lyt w' v0 P0 ∧ Lyt w' v1 P1 ∧ Lyt w' v2 P2 ∧ Lyt w' v3 P3 ∧ Below w.heap.size w w') := hS
  have HFC : Hid (∀ (a0 a1 a2 a3 : Option Addr) (n0 n1 n2 n3 c0 c1 c2 c3 : Nat) (w : World), Lyt w (.slice a0 n0 c0) P0 → Lyt w (.slice a1 n1 c1) P1 → Lyt w (.slice a2 n2 c2) P2 → Lyt w (.slice a3 n3 c3) P3 → Calls Try.prog 21 #[.agg #[.slice a0 n0 c0, .slice a1 n1 c1, .slice a2 n2 c2, .slice a3 n3 c3], .agg #[.int .i64 x.op, .int .i64 x.rd, .int .i64 x.rs1, .int .i64 x.rs2, .int .i64 x.imm, .bool x.aq, .bool x.rl, .int .i64 x.len, .int .u32 x.raw]] w fun e w' => e = .returned (.int .u32 (n32 (lyB P0 x.rd ||| lyB P1 x.rs1 ||| lyB P2 x.rs2 ||| lyB P3 x.imm))) ∧ Below w.heap.size w w') := fun a0 a1 a2 a3 n0 n1 n2 n3 c0 c1 c2 c3 w h0 h1 h2 h3 => fields_c x a0 a1 a2 a3 n0 n1 n2 n3 c0 c1 c2 c3 P0 P1 P2 P3 hP w hx h0 h1 h2 h3
  generalize (lyB P0 x.rd ||| lyB P1 x.rs1 ||| lyB P2 x.rs2 ||| lyB P3 x.imm) = LF at HFC ⊢
  obtain ⟨QA, hQA⟩ : ∃ QA : BitVec 32, QA = if x.aq then 67108864#32 else 0#32 := ⟨_, rfl⟩
  obtain ⟨QR, hQR⟩ : ∃ QR : BitVec 32, QR = if x.rl then 33554432#32 else 0#32 := ⟨_, rfl⟩
  rw [← hQA, ← hQR]
  have HQA : Hid (QA = if x.aq then 67108864#32 else 0#32) := hQA
  have HQR : Hid (QR = if x.rl then 33554432#32 else 0#32) := hQR
  clear hQA hQR
  obtain ⟨W, hW⟩ : ∃ W, (w.alloc (.cells #[.int .u32 (n32 FB), .func (.func f) #[] #[]] 36)).alloc (.cells #[.int .i64 x.op, .int .i64 x.rd, .int .i64 x.rs1, .int .i64 x.rs2, .int .i64 x.imm, .bool x.aq, .bool x.rl, .int .i64 x.len, .int .u32 x.raw] 24) = W := ⟨_, rfl⟩
  have hbw : Below w.heap.size w W := by rw [← hW]; exact (below_al w _).trans ((below_al _ _).mono (below_al w _).size)
  have k1 : W.heap[w.heap.size]? = some (.cells #[.int .u32 (n32 FB), .func (.func f) #[] #[]] 36 (0, 0)) := by rw [← hW]; exact (Below.heap_alloc _ _ _ (by simp)).trans (heap_alloc_new w _)
  have k2 : W.heap[w.heap.size + 1]? = some (.cells #[.int .i64 x.op, .int .i64 x.rd, .int .i64 x.rs1, .int .i64 x.rs2, .int .i64 x.imm, .bool x.aq, .bool x.rl, .int .i64 x.len, .int .u32 x.raw] 24 (0, 0)) := by rw [← hW]; have := heap_alloc_new (w.alloc (.cells #[.int .u32 (n32 FB), .func (.func f) #[] #[]] 36)) (.cells #[.int .i64 x.op, .int .i64 x.rd, .int .i64 x.rs1, .int .i64 x.rs2, .int .i64 x.imm, .bool x.aq, .bool x.rl, .int .i64 x.len, .int .u32 x.raw] 24); simpa using this
  have HBW : Hid (Below w.heap.size w W) := hbw
  have K1 : Hid (W.heap[w.heap.size]? = some (.cells #[.int .u32 (n32 FB), .func (.func f) #[] #[]] 36 (0, 0))) := k1
  have K2 : Hid (W.heap[w.heap.size + 1]? = some (.cells #[.int .i64 x.op, .int .i64 x.rd, .int .i64 x.rs1, .int .i64 x.rs2, .int .i64 x.imm, .bool x.aq, .bool x.rl, .int .i64 x.len, .int .u32 x.raw] 24 (0, 0))) := k2
  have g1 : W.cell? ⟨w.heap.size, 1, none⟩ = some (.func (.func f) #[] #[]) := cell_of_row W _ 1 _ _ _ k1
  clear hbw k1 k2 hP hx hS
  go_enter Try.func15, Try.ntmps15
  go_upto_region 1 with fail
  clear hW
  go_wp2_with fail
  --@CUT1
  refine (HS.out _).mono ?_
  rintro e w3 ⟨v0, v1, v2, v3, rfl, l0, l1, l2, l3, hb3⟩
  obtain ⟨a0, n0, c0, rfl⟩ := l0.form
  obtain ⟨a1, n1, c1, rfl⟩ := l1.form
  obtain ⟨a2, n2, c2, rfl⟩ := l2.form
  obtain ⟨a3, n3, c3, rfl⟩ := l3.form
  go_upto_region 2 with (refine wpList_store_new (w := w3) (by rfl) 58 _ _ (by rfl) (by rfl) _ #[.slice a0 n0 c0, .slice a1 n1 c1, .slice a2 n2 c2, .slice a3 n3 c3, .bool od, .int .i64 lo, .int .i64 hi, .int .i64 st] (by rfl) (by rfl) shapeSize (by rfl) (shapeOne _ _ _ _ _ _ _ _ _ _ _ _ _ _ _ _) ?_)
  generalize hW4 : w3.alloc (.cells #[.slice a0 n0 c0, .slice a1 n1 c1, .slice a2 n2 c2, .slice a3 n3 c3, .bool od, .int .i64 lo, .int .i64 hi, .int .i64 st] 58) = W4
  have h34 : Below w3.heap.size w3 W4 := by rw [← hW4]; exact below_al w3 _
  have HB4 : Hid (Below W.heap.size W W4) := hb3.trans (h34.mono hb3.size)
  have KS : Hid (W4.heap[w3.heap.size]? = some (.cells #[.slice a0 n0 c0, .slice a1 n1 c1, .slice a2 n2 c2, .slice a3 n3 c3, .bool od, .int .i64 lo, .int .i64 hi, .int .i64 st] 58 (0, 0))) := by unfold Hid; rw [← hW4]; exact heap_alloc_new w3 _
  have L0 : Hid (Lyt W4 (.slice a0 n0 c0) P0) := l0.later h34
  have L1 : Hid (Lyt W4 (.slice a1 n1 c1) P1) := l1.later h34
  have L2 : Hid (Lyt W4 (.slice a2 n2 c2) P2) := l2.later h34
  have L3 : Hid (Lyt W4 (.slice a3 n3 c3) P3) := l3.later h34
  clear hW4 h34 l0 l1 l2 l3 hb3 g1
  generalize w3.heap.size = s5 at *
  have HC : Hid (∀ w', Below W4.heap.size W4 w' → w'.cell? ⟨w.heap.size, 0, none⟩ = some (.int .u32 (n32 FB)) ∧ w'.cell? ⟨w.heap.size + 1, 0, none⟩ = some (.int .i64 x.op) ∧ w'.cell? ⟨w.heap.size + 1, 1, none⟩ = some (.int .i64 x.rd) ∧ w'.cell? ⟨w.heap.size + 1, 2, none⟩ = some (.int .i64 x.rs1) ∧ w'.cell? ⟨w.heap.size + 1, 3, none⟩ = some (.int .i64 x.rs2) ∧ w'.cell? ⟨w.heap.size + 1, 4, none⟩ = some (.int .i64 x.imm) ∧ w'.cell? ⟨w.heap.size + 1, 5, none⟩ = some (.bool x.aq) ∧ w'.cell? ⟨w.heap.size + 1, 6, none⟩ = some (.bool x.rl) ∧ w'.cell? ⟨w.heap.size + 1, 7, none⟩ = some (.int .i64 x.len) ∧ w'.cell? ⟨w.heap.size + 1, 8, none⟩ = some (.int .u32 x.raw) ∧ w'.cell? ⟨s5, 0, none⟩ = some (.slice a0 n0 c0) ∧ w'.cell? ⟨s5, 1, none⟩ = some (.slice a1 n1 c1) ∧ w'.cell? ⟨s5, 2, none⟩ = some (.slice a2 n2 c2) ∧ w'.cell? ⟨s5, 3, none⟩ = some (.slice a3 n3 c3)) := fun w' hb => by
    have hbW : Below W.heap.size W w' := HB4.out.trans (hb.mono HB4.out.size)
    have r1 := (hbW.block _ (Array.getElem?_eq_some_iff.1 K1.out).1).trans K1.out
    have r2 := (hbW.block _ (Array.getElem?_eq_some_iff.1 K2.out).1).trans K2.out
    have r3 := (hb.block _ (Array.getElem?_eq_some_iff.1 KS.out).1).trans KS.out
    exact ⟨cell_of_row w' _ 0 _ _ _ r1, cell_of_row w' _ 0 _ _ _ r2, cell_of_row w' _ 1 _ _ _ r2, cell_of_row w' _ 2 _ _ _ r2, cell_of_row w' _ 3 _ _ _ r2, cell_of_row w' _ 4 _ _ _ r2, cell_of_row w' _ 5 _ _ _ r2, cell_of_row w' _ 6 _ _ _ r2, cell_of_row w' _ 7 _ _ _ r2, cell_of_row w' _ 8 _ _ _ r2, cell_of_row w' _ 0 _ _ _ r3, cell_of_row w' _ 1 _ _ _ r3, cell_of_row w' _ 2 _ _ _ r3, cell_of_row w' _ 3 _ _ _ r3⟩
  have HB0 : Hid (Below W4.heap.size W4 W4) := Below.refl _ _
  --@CUT2
  go_cut [6] from 10 to 16 (fun v wx => v = .int .u32 (n32 (FB ||| LF)) ∧ Below W4.heap.size W4 wx)
  case first =>
    go_region_held3 (fun w' => w'.cell? ⟨w.heap.size, 0, none⟩ = some (.int .u32 (n32 FB)) ∧ w'.cell? ⟨w.heap.size + 1, 0, none⟩ = some (.int .i64 x.op) ∧ w'.cell? ⟨w.heap.size + 1, 1, none⟩ = some (.int .i64 x.rd) ∧ w'.cell? ⟨w.heap.size + 1, 2, none⟩ = some (.int .i64 x.rs1) ∧ w'.cell? ⟨w.heap.size + 1, 3, none⟩ = some (.int .i64 x.rs2) ∧ w'.cell? ⟨w.heap.size + 1, 4, none⟩ = some (.int .i64 x.imm) ∧ w'.cell? ⟨w.heap.size + 1, 5, none⟩ = some (.bool x.aq) ∧ w'.cell? ⟨w.heap.size + 1, 6, none⟩ = some (.bool x.rl) ∧ w'.cell? ⟨w.heap.size + 1, 7, none⟩ = some (.int .i64 x.len) ∧ w'.cell? ⟨w.heap.size + 1, 8, none⟩ = some (.int .u32 x.raw) ∧ w'.cell? ⟨s5, 0, none⟩ = some (.slice a0 n0 c0) ∧ w'.cell? ⟨s5, 1, none⟩ = some (.slice a1 n1 c1) ∧ w'.cell? ⟨s5, 2, none⟩ = some (.slice a2 n2 c2) ∧ w'.cell? ⟨s5, 3, none⟩ = some (.slice a3 n3 c3)) (first | exact HC.out _ HB0.out | exact HC.out _ (Below.drew HB0.out)) (first | (go_at_call 21; refine (HFC.out _ _ _ _ _ _ _ _ _ _ _ _ _ (by first | exact L0.out | exact Lyt.later L0.out (Below.drew (Below.refl _ _))) (by first | exact L1.out | exact Lyt.later L1.out (Below.drew (Below.refl _ _))) (by first | exact L2.out | exact Lyt.later L2.out (Below.drew (Below.refl _ _))) (by first | exact L3.out | exact Lyt.later L3.out (Below.drew (Below.refl _ _)))).mono ?_; rintro e w5 ⟨rfl, hb⟩; have HB1 : Hid (Below W4.heap.size W4 w5) := (by first | exact HB0.out.trans (hb.mono HB0.out.size) | exact (Below.drew HB0.out).trans (hb.mono HB0.out.size)); clear HB0; have HB0 := HB1; clear HB1 hb))
    --@CUT3
    all_goals go_wp2_with fail
    all_goals go_meet
    all_goals exact ⟨by rw [← or32], HB0.out⟩
  case rest =>
    obtain ⟨rfl, hb⟩ := hcut
    have HBc : Hid (Below w.heap.size w wc) := HBW.out.trans ((HB4.out.trans (hb.mono HB4.out.size)).mono HBW.out.size)
    obtain ⟨_, _, _, _, _, _, d5, d6, _, _, _, _, _, _⟩ := HC.out wc hb
    clear hb HB0
    clear HFC HC
    rcases hq1 : x.aq with _ | _ <;> rcases hq2 : x.rl with _ | _ <;> rw [hq1] at d5 <;> rw [hq2] at d6
    · have E1 : Hid (QA = 0#32) := by have := HQA.out; rw [hq1] at this; exact this
      have E2 : Hid (QR = 0#32) := by have := HQR.out; rw [hq2] at this; exact this
      clear hq1 hq2 HQA HQR
      go_wp2
      go_ret
      exact ⟨by rw [E1.out, E2.out, BitVec.or_zero, BitVec.or_zero]; rfl, HBc.out⟩
    · have E1 : Hid (QA = 0#32) := by have := HQA.out; rw [hq1] at this; exact this
      have E2 : Hid (QR = 33554432#32) := by have := HQR.out; rw [hq2] at this; exact this
      clear hq1 hq2 HQA HQR
      go_wp2
      go_ret
      exact ⟨by rw [E1.out, E2.out, BitVec.or_zero]; exact congrArg (fun z => Ending.returned (Value.int .u32 z)) (or32 (FB ||| LF) 33554432#32), HBc.out⟩
    · have E1 : Hid (QA = 67108864#32) := by have := HQA.out; rw [hq1] at this; exact this
      have E2 : Hid (QR = 0#32) := by have := HQR.out; rw [hq2] at this; exact this
      clear hq1 hq2 HQA HQR
      go_wp2
      go_ret
      exact ⟨by rw [E1.out, E2.out, BitVec.or_zero]; exact congrArg (fun z => Ending.returned (Value.int .u32 z)) (or32 (FB ||| LF) 67108864#32), HBc.out⟩
    · have E1 : Hid (QA = 67108864#32) := by have := HQA.out; rw [hq1] at this; exact this
      have E2 : Hid (QR = 33554432#32) := by have := HQR.out; rw [hq2] at this; exact this
      clear hq1 hq2 HQA HQR
      go_wp2
      go_ret
      exact ⟨by rw [E1.out, E2.out]; exact congrArg (fun z => Ending.returned (Value.int .u32 z)) ((congrArg (fun z => bits .or .u32 z 33554432) (or32 (FB ||| LF) 67108864#32)).trans (or32 (FB ||| LF ||| 67108864#32) 33554432#32)), HBc.out⟩
end Go.Proofs.Ytechkhlibdkmpac
