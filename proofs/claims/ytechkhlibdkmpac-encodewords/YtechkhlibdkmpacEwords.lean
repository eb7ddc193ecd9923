/-
  EncodeWords.
-/
import Derived.Test.YtechkhlibdkmpacEy
import Derived.Test.YtechkhlibdkmpacEs
import Derived.ShutString
import Derived.ChangeOld
namespace Go.Proofs.Ytechkhlibdkmpac
set_option linter.unusedVariables false
open Go.ChangeShapes Go.WideShapes Go.ChangeAt Go.RowKit Go.Deep
theorem regB_t {r : Int} (h : regB r true = true) : 0 ≤ r ∧ r < 32 := by
  unfold regB at h
  simpa using h
theorem regB_f {r : Int} (h : regB r false = true) : r = 0 := by
  unfold regB at h
  simp at h
  exact h.2
theorem rck_zero (x : Ins) (h : rck x = 0) : (1 ≤ x.op ∧ x.op ≤ 96) ∧ regsB x (fmOf x.op).kind = true ∧ extB x (fmOf x.op).kind = false ∧ rchB (fmOf x.op).kind x.imm = true := by
  by_cases ho : 1 ≤ x.op ∧ x.op ≤ 96
  · refine ⟨ho, ?_⟩
    rw [rck_in x ho _ _ rfl rfl] at h
    cases h1 : regsB x (fmOf x.op).kind <;> cases h2 : extB x (fmOf x.op).kind <;> cases h3 : rchB (fmOf x.op).kind x.imm <;> rw [h1, h2, h3] at h <;> simp at h
    exact ⟨rfl, rfl, rfl⟩
  · unfold rck at h
    rw [if_pos (.inr (fm_out x.op ho))] at h
    omega
theorem both (x : Ins) (hx : InsOk x) : ∃ a b : Int, (∀ w : World, Calls Try.prog 8 #[.agg (insv x)] w fun e w' => e = .returned (.tuple #[.int .u32 a, .int .i64 b]) ∧ Below w.heap.size w w') ∧ (∀ w : World, Calls Try.prog 9 #[.agg (insv x)] w fun e w' => e = .returned (.tuple #[.int .u32 a, .int .i64 b]) ∧ Below w.heap.size w w') := by
  by_cases h0 : rck x = 0
  · obtain ⟨ho, hg, he, hr⟩ := rck_zero x h0
    obtain ⟨⟨fb, hl⟩, _, hk⟩ := op_in x.op ho
    obtain ⟨hfb, hbase, hwi⟩ := fb_in x.op ho fb _ hl
    have hrow : ∀ f, sFn (fmOf x.op).kind = f → frow x = #[.int .u32 (n32 (BitVec.ofInt 32 fb)), .func (.func f) #[] #[]] := fun f hf => by
      unfold frow
      rw [if_pos h0, hl, ← hfb, ← hf]
    obtain ⟨fm, hfm⟩ : ∃ fm, fmOf x.op = fm := ⟨_, rfl⟩
    obtain ⟨op, code, f3, top, k⟩ := fm
    rw [hfm] at hg he hr hk hbase hwi hrow
    generalize BitVec.ofInt 32 fb = FB at hbase hwi hrow
    clear hl hfb
    simp only [List.mem_cons, List.not_mem_nil, or_false] at hk
    unfold regsB at hg
    unfold extB at he
    simp only [Bool.and_eq_true] at hg
    simp only at hr hwi
    rcases hk with rfl | rfl | rfl | rfl | rfl | rfl | rfl | rfl | rfl | rfl | rfl | rfl
    · rw [show inS 85 sRd = true by decide, show inS 85 sR1 = false by decide, show inS 85 sR2 = false by decide] at hg
      obtain ⟨g1, g2, g3⟩ := hg
      have g1 := regB_t g1
      have g2 := regB_f g2
      have g3 := regB_f g3
      rw [show inS 85 sOr = false by decide] at he
      have ha : x.aq = false := by cases hq : x.aq <;> simp_all
      have hl2 : x.rl = false := by cases hq : x.rl <;> simp_all
      have hu : x.imm.tmod 4096 = 0 := by
        unfold rchB at hr
        simp at hr
        exact hr.2
      have hb : FB = BitVec.ofInt 32 code := hbase
      have hw : wi FB 127#32 := hwi
      have hwd := wd_U x FB code f3 top hb hw g1 g2 g3 ha hl2 hu
      refine ⟨n32 (BitVec.ofInt 32 code + (BitVec.ofInt 32 x.imm &&& 4294963200#32) + BitVec.ofInt 32 x.rd <<< 7 + BitVec.ofInt 32 x.rs1 <<< 15 + BitVec.ofInt 32 x.rs2 <<< 20), 0, fun w => ?_, fun w => ?_⟩
      · rw [← hwd]
        exact penc_ok x w hx h0 FB 34 (hrow _ rfl) _ (fun w => flay_c x FB 34 [⟨4, 0, 7⟩] [] [] [⟨31, 12, 12⟩] false (-2147483648) 2147479552 4096 ⟨by unfold lyAll; simp, by unfold lyAll; simp, by unfold lyAll; simp, by unfold lyAll; simp⟩ w hx (fun w => by kernel_rfl) shape_U)
      · exact renc_u x w hx h0 op code f3 top 85 hfm (by decide) (by omega) (by decide) _ (fun w => up_U x op code f3 top w hx)
    · rw [show inS 74 sRd = true by decide, show inS 74 sR1 = false by decide, show inS 74 sR2 = false by decide] at hg
      obtain ⟨g1, g2, g3⟩ := hg
      have g1 := regB_t g1
      have g2 := regB_f g2
      have g3 := regB_f g3
      rw [show inS 74 sOr = false by decide] at he
      have ha : x.aq = false := by cases hq : x.aq <;> simp_all
      have hl2 : x.rl = false := by cases hq : x.rl <;> simp_all
      have hb : FB = BitVec.ofInt 32 code := hbase
      have hw : wi FB 127#32 := hwi
      have hwd := wd_J x FB code f3 top hb hw g1 g2 g3 ha hl2
      refine ⟨n32 (BitVec.ofInt 32 code + (pkB x.imm 20 20 31 + pkB x.imm 10 1 21 + pkB x.imm 11 11 20 + pkB x.imm 19 12 12) + BitVec.ofInt 32 x.rd <<< 7 + BitVec.ofInt 32 x.rs1 <<< 15 + BitVec.ofInt 32 x.rs2 <<< 20), 0, fun w => ?_, fun w => ?_⟩
      · rw [← hwd]
        exact penc_ok x w hx h0 FB 35 (hrow _ rfl) _ (fun w => flay_c x FB 35 [⟨4, 0, 7⟩] [] [] [⟨20, 20, 31⟩, ⟨19, 12, 12⟩, ⟨11, 11, 20⟩, ⟨10, 1, 21⟩] false (-1048576) 1048574 2 ⟨by unfold lyAll; simp, by unfold lyAll; simp, by unfold lyAll; simp, by unfold lyAll; simp⟩ w hx (fun w => by kernel_rfl) shape_J)
      · exact renc_u x w hx h0 op code f3 top 74 hfm (by decide) (by omega) (by decide) _ (fun w => up_J x op code f3 top w hx)
    · rw [show inS 73 sRd = true by decide, show inS 73 sR1 = true by decide, show inS 73 sR2 = false by decide] at hg
      obtain ⟨g1, g2, g3⟩ := hg
      have g1 := regB_t g1
      have g2 := regB_t g2
      have g3 := regB_f g3
      rw [show inS 73 sOr = false by decide] at he
      have ha : x.aq = false := by cases hq : x.aq <;> simp_all
      have hl2 : x.rl = false := by cases hq : x.rl <;> simp_all
      have hb : FB = BitVec.ofInt 32 code + BitVec.ofInt 32 f3 <<< 12 := hbase
      have hw : wi FB 28799#32 := hwi
      have hwd := wd_I x FB code f3 top hb hw g1 g2 g3 ha hl2
      refine ⟨n32 (BitVec.ofInt 32 code + pkB x.imm 11 0 20 + BitVec.ofInt 32 f3 <<< 12 + BitVec.ofInt 32 x.rd <<< 7 + BitVec.ofInt 32 x.rs1 <<< 15 + BitVec.ofInt 32 x.rs2 <<< 20), 0, fun w => ?_, fun w => ?_⟩
      · rw [← hwd]
        exact penc_ok x w hx h0 FB 36 (hrow _ rfl) _ (fun w => flay_c x FB 36 [⟨4, 0, 7⟩] [⟨4, 0, 15⟩] [] [⟨11, 0, 20⟩] false (-2048) 2047 1 ⟨by unfold lyAll; simp, by unfold lyAll; simp, by unfold lyAll; simp, by unfold lyAll; simp⟩ w hx (fun w => by kernel_rfl) shape_I)
      · exact renc_n x w hx h0 op code f3 top 73 hfm (by decide) (by omega) (by decide) _ (fun w => up_I x op code f3 top w hx)
    · rw [show inS 66 sRd = false by decide, show inS 66 sR1 = true by decide, show inS 66 sR2 = true by decide] at hg
      obtain ⟨g1, g2, g3⟩ := hg
      have g1 := regB_f g1
      have g2 := regB_t g2
      have g3 := regB_t g3
      rw [show inS 66 sOr = false by decide] at he
      have ha : x.aq = false := by cases hq : x.aq <;> simp_all
      have hl2 : x.rl = false := by cases hq : x.rl <;> simp_all
      have hb : FB = BitVec.ofInt 32 code + BitVec.ofInt 32 f3 <<< 12 := hbase
      have hw : wi FB 28799#32 := hwi
      have hwd := wd_B x FB code f3 top hb hw g1 g2 g3 ha hl2
      refine ⟨n32 (BitVec.ofInt 32 code + (pkB x.imm 12 12 31 + pkB x.imm 10 5 25 + pkB x.imm 4 1 8 + pkB x.imm 11 11 7) + BitVec.ofInt 32 f3 <<< 12 + BitVec.ofInt 32 x.rd <<< 7 + BitVec.ofInt 32 x.rs1 <<< 15 + BitVec.ofInt 32 x.rs2 <<< 20), 0, fun w => ?_, fun w => ?_⟩
      · rw [← hwd]
        exact penc_ok x w hx h0 FB 37 (hrow _ rfl) _ (fun w => flay_c x FB 37 [] [⟨4, 0, 15⟩] [⟨4, 0, 20⟩] [⟨12, 12, 31⟩, ⟨11, 11, 7⟩, ⟨10, 5, 25⟩, ⟨4, 1, 8⟩] false (-4096) 4094 2 ⟨by unfold lyAll; simp, by unfold lyAll; simp, by unfold lyAll; simp, by unfold lyAll; simp⟩ w hx (fun w => by kernel_rfl) shape_B)
      · exact renc_n x w hx h0 op code f3 top 66 hfm (by decide) (by omega) (by decide) _ (fun w => up_B x op code f3 top w hx)
    · rw [show inS 83 sRd = false by decide, show inS 83 sR1 = true by decide, show inS 83 sR2 = true by decide] at hg
      obtain ⟨g1, g2, g3⟩ := hg
      have g1 := regB_f g1
      have g2 := regB_t g2
      have g3 := regB_t g3
      rw [show inS 83 sOr = false by decide] at he
      have ha : x.aq = false := by cases hq : x.aq <;> simp_all
      have hl2 : x.rl = false := by cases hq : x.rl <;> simp_all
      have hb : FB = BitVec.ofInt 32 code + BitVec.ofInt 32 f3 <<< 12 := hbase
      have hw : wi FB 28799#32 := hwi
      have hwd := wd_S x FB code f3 top hb hw g1 g2 g3 ha hl2
      refine ⟨n32 (BitVec.ofInt 32 code + (pkB x.imm 11 5 25 + pkB x.imm 4 0 7) + BitVec.ofInt 32 f3 <<< 12 + BitVec.ofInt 32 x.rd <<< 7 + BitVec.ofInt 32 x.rs1 <<< 15 + BitVec.ofInt 32 x.rs2 <<< 20), 0, fun w => ?_, fun w => ?_⟩
      · rw [← hwd]
        exact penc_ok x w hx h0 FB 38 (hrow _ rfl) _ (fun w => flay_c x FB 38 [] [⟨4, 0, 15⟩] [⟨4, 0, 20⟩] [⟨11, 5, 25⟩, ⟨4, 0, 7⟩] false (-2048) 2047 1 ⟨by unfold lyAll; simp, by unfold lyAll; simp, by unfold lyAll; simp, by unfold lyAll; simp⟩ w hx (fun w => by kernel_rfl) shape_S)
      · exact renc_n x w hx h0 op code f3 top 83 hfm (by decide) (by omega) (by decide) _ (fun w => up_S x op code f3 top w hx)
    · rw [show inS 78 sRd = true by decide, show inS 78 sR1 = true by decide, show inS 78 sR2 = false by decide] at hg
      obtain ⟨g1, g2, g3⟩ := hg
      have g1 := regB_t g1
      have g2 := regB_t g2
      have g3 := regB_f g3
      rw [show inS 78 sOr = false by decide] at he
      have ha : x.aq = false := by cases hq : x.aq <;> simp_all
      have hl2 : x.rl = false := by cases hq : x.rl <;> simp_all
      have hb : FB = BitVec.ofInt 32 code + BitVec.ofInt 32 f3 <<< 12 := hbase
      have hw : wi FB 28799#32 := hwi
      have hwd := wd_N x FB code f3 top hb hw g1 g2 g3 ha hl2
      refine ⟨n32 (BitVec.ofInt 32 code + pkB x.imm 11 0 20 + BitVec.ofInt 32 f3 <<< 12 + BitVec.ofInt 32 x.rd <<< 7 + BitVec.ofInt 32 x.rs1 <<< 15 + BitVec.ofInt 32 x.rs2 <<< 20), 0, fun w => ?_, fun w => ?_⟩
      · rw [← hwd]
        exact penc_ok x w hx h0 FB 42 (hrow _ rfl) _ (fun w => flay_c x FB 42 [⟨4, 0, 7⟩] [⟨4, 0, 15⟩] [] [⟨11, 0, 20⟩] false 0 4095 1 ⟨by unfold lyAll; simp, by unfold lyAll; simp, by unfold lyAll; simp, by unfold lyAll; simp⟩ w hx (fun w => by kernel_rfl) shape_N)
      · exact renc_n x w hx h0 op code f3 top 78 hfm (by decide) (by omega) (by decide) _ (fun w => up_N x op code f3 top w hx)
    · rw [show inS 72 sRd = true by decide, show inS 72 sR1 = true by decide, show inS 72 sR2 = false by decide] at hg
      obtain ⟨g1, g2, g3⟩ := hg
      have g1 := regB_t g1
      have g2 := regB_t g2
      have g3 := regB_f g3
      rw [show inS 72 sOr = false by decide] at he
      have ha : x.aq = false := by cases hq : x.aq <;> simp_all
      have hl2 : x.rl = false := by cases hq : x.rl <;> simp_all
      have hb : FB = BitVec.ofInt 32 code + BitVec.ofInt 32 f3 <<< 12 + BitVec.ofInt 32 top <<< 26 := hbase
      have hw : wi FB 4227887231#32 := hwi
      have hwd := wd_H x FB code f3 top hb hw g1 g2 g3 ha hl2
      refine ⟨n32 (BitVec.ofInt 32 code + (BitVec.ofInt 32 top <<< 26 + pkB x.imm 5 0 20) + BitVec.ofInt 32 f3 <<< 12 + BitVec.ofInt 32 x.rd <<< 7 + BitVec.ofInt 32 x.rs1 <<< 15 + BitVec.ofInt 32 x.rs2 <<< 20), 0, fun w => ?_, fun w => ?_⟩
      · rw [← hwd]
        exact penc_ok x w hx h0 FB 39 (hrow _ rfl) _ (fun w => flay_c x FB 39 [⟨4, 0, 7⟩] [⟨4, 0, 15⟩] [] [⟨5, 0, 20⟩] false 0 63 1 ⟨by unfold lyAll; simp, by unfold lyAll; simp, by unfold lyAll; simp, by unfold lyAll; simp⟩ w hx (fun w => by kernel_rfl) shape_H)
      · exact renc_n x w hx h0 op code f3 top 72 hfm (by decide) (by omega) (by decide) _ (fun w => up_H x op code f3 top w hx)
    · rw [show inS 87 sRd = true by decide, show inS 87 sR1 = true by decide, show inS 87 sR2 = false by decide] at hg
      obtain ⟨g1, g2, g3⟩ := hg
      have g1 := regB_t g1
      have g2 := regB_t g2
      have g3 := regB_f g3
      rw [show inS 87 sOr = false by decide] at he
      have ha : x.aq = false := by cases hq : x.aq <;> simp_all
      have hl2 : x.rl = false := by cases hq : x.rl <;> simp_all
      have hb : FB = BitVec.ofInt 32 code + BitVec.ofInt 32 f3 <<< 12 + BitVec.ofInt 32 top <<< 25 := hbase
      have hw : wi FB 4261441663#32 := hwi
      have hwd := wd_W x FB code f3 top hb hw g1 g2 g3 ha hl2
      refine ⟨n32 (BitVec.ofInt 32 code + (BitVec.ofInt 32 top <<< 25 + pkB x.imm 4 0 20) + BitVec.ofInt 32 f3 <<< 12 + BitVec.ofInt 32 x.rd <<< 7 + BitVec.ofInt 32 x.rs1 <<< 15 + BitVec.ofInt 32 x.rs2 <<< 20), 0, fun w => ?_, fun w => ?_⟩
      · rw [← hwd]
        exact penc_ok x w hx h0 FB 40 (hrow _ rfl) _ (fun w => flay_c x FB 40 [⟨4, 0, 7⟩] [⟨4, 0, 15⟩] [] [⟨4, 0, 20⟩] false 0 31 1 ⟨by unfold lyAll; simp, by unfold lyAll; simp, by unfold lyAll; simp, by unfold lyAll; simp⟩ w hx (fun w => by kernel_rfl) shape_W)
      · exact renc_n x w hx h0 op code f3 top 87 hfm (by decide) (by omega) (by decide) _ (fun w => up_W x op code f3 top w hx)
    · rw [show inS 82 sRd = true by decide, show inS 82 sR1 = true by decide, show inS 82 sR2 = true by decide] at hg
      obtain ⟨g1, g2, g3⟩ := hg
      have g1 := regB_t g1
      have g2 := regB_t g2
      have g3 := regB_t g3
      rw [show inS 82 sOr = false by decide] at he
      have ha : x.aq = false := by cases hq : x.aq <;> simp_all
      have hl2 : x.rl = false := by cases hq : x.rl <;> simp_all
      have hb : FB = BitVec.ofInt 32 code + BitVec.ofInt 32 f3 <<< 12 + BitVec.ofInt 32 top <<< 25 := hbase
      have hw : wi FB 4261441663#32 := hwi
      have hwd := wd_R x FB code f3 top hb hw g1 g2 g3 ha hl2
      refine ⟨n32 (BitVec.ofInt 32 code + (BitVec.ofInt 32 top <<< 25) + BitVec.ofInt 32 f3 <<< 12 + BitVec.ofInt 32 x.rd <<< 7 + BitVec.ofInt 32 x.rs1 <<< 15 + BitVec.ofInt 32 x.rs2 <<< 20), 0, fun w => ?_, fun w => ?_⟩
      · rw [← hwd]
        exact penc_ok x w hx h0 FB 41 (hrow _ rfl) _ (fun w => flay_c x FB 41 [⟨4, 0, 7⟩] [⟨4, 0, 15⟩] [⟨4, 0, 20⟩] [] false 0 0 0 ⟨by unfold lyAll; simp, by unfold lyAll; simp, by unfold lyAll; simp, by unfold lyAll; simp⟩ w hx (fun w => by kernel_rfl) shape_R)
      · exact renc_n x w hx h0 op code f3 top 82 hfm (by decide) (by omega) (by decide) _ (fun w => up_R x op code f3 top w hx)
    · rw [show inS 65 sRd = true by decide, show inS 65 sR1 = true by decide, show inS 65 sR2 = true by decide] at hg
      obtain ⟨g1, g2, g3⟩ := hg
      have g1 := regB_t g1
      have g2 := regB_t g2
      have g3 := regB_t g3
      have hb : FB = BitVec.ofInt 32 code + BitVec.ofInt 32 f3 <<< 12 + BitVec.ofInt 32 top <<< 27 := hbase
      have hw : wi FB 4160778367#32 := hwi
      have hwd := wd_A x FB code f3 top hb hw g1 g2 g3
      refine ⟨n32 (BitVec.ofInt 32 code + (BitVec.ofInt 32 top <<< 27 + (if x.aq then 1#32 <<< 26 else 0#32) + (if x.rl then 1#32 <<< 25 else 0#32)) + BitVec.ofInt 32 f3 <<< 12 + BitVec.ofInt 32 x.rd <<< 7 + BitVec.ofInt 32 x.rs1 <<< 15 + BitVec.ofInt 32 x.rs2 <<< 20), 0, fun w => ?_, fun w => ?_⟩
      · rw [← hwd]
        exact penc_ok x w hx h0 FB 45 (hrow _ rfl) _ (fun w => flay_c x FB 45 [⟨4, 0, 7⟩] [⟨4, 0, 15⟩] [⟨4, 0, 20⟩] [] true 0 0 0 ⟨by unfold lyAll; simp, by unfold lyAll; simp, by unfold lyAll; simp, by unfold lyAll; simp⟩ w hx (fun w => by kernel_rfl) shape_A)
      · exact renc_n x w hx h0 op code f3 top 65 hfm (by decide) (by omega) (by decide) _ (fun w => up_A x op code f3 top w hx)
    · rw [show inS 76 sRd = true by decide, show inS 76 sR1 = true by decide, show inS 76 sR2 = false by decide] at hg
      obtain ⟨g1, g2, g3⟩ := hg
      have g1 := regB_t g1
      have g2 := regB_t g2
      have g3 := regB_f g3
      have hb : FB = BitVec.ofInt 32 code + BitVec.ofInt 32 f3 <<< 12 + BitVec.ofInt 32 top <<< 27 := hbase
      have hw : wi FB 4160778367#32 := hwi
      have hwd := wd_L x FB code f3 top hb hw g1 g2 g3
      refine ⟨n32 (BitVec.ofInt 32 code + (BitVec.ofInt 32 top <<< 27 + (if x.aq then 1#32 <<< 26 else 0#32) + (if x.rl then 1#32 <<< 25 else 0#32)) + BitVec.ofInt 32 f3 <<< 12 + BitVec.ofInt 32 x.rd <<< 7 + BitVec.ofInt 32 x.rs1 <<< 15 + BitVec.ofInt 32 x.rs2 <<< 20), 0, fun w => ?_, fun w => ?_⟩
      · rw [← hwd]
        exact penc_ok x w hx h0 FB 44 (hrow _ rfl) _ (fun w => flay_c x FB 44 [⟨4, 0, 7⟩] [⟨4, 0, 15⟩] [] [] true 0 0 0 ⟨by unfold lyAll; simp, by unfold lyAll; simp, by unfold lyAll; simp, by unfold lyAll; simp⟩ w hx (fun w => by kernel_rfl) shape_L)
      · exact renc_n x w hx h0 op code f3 top 76 hfm (by decide) (by omega) (by decide) _ (fun w => up_L x op code f3 top w hx)
    · rw [show inS 90 sRd = false by decide, show inS 90 sR1 = false by decide, show inS 90 sR2 = false by decide] at hg
      obtain ⟨g1, g2, g3⟩ := hg
      have g1 := regB_f g1
      have g2 := regB_f g2
      have g3 := regB_f g3
      rw [show inS 90 sOr = false by decide] at he
      have ha : x.aq = false := by cases hq : x.aq <;> simp_all
      have hl2 : x.rl = false := by cases hq : x.rl <;> simp_all
      have hb : FB = BitVec.ofInt 32 top := hbase
      have hw : wi FB 4294967295#32 := hwi
      have hwd := wd_Z x FB code f3 top hb hw g1 g2 g3 ha hl2
      refine ⟨n32 (BitVec.ofInt 32 top), 0, fun w => ?_, fun w => ?_⟩
      · rw [← hwd]
        exact penc_ok x w hx h0 FB 43 (hrow _ rfl) _ (fun w => flay_c x FB 43 [] [] [] [] false 0 0 0 ⟨by unfold lyAll; simp, by unfold lyAll; simp, by unfold lyAll; simp, by unfold lyAll; simp⟩ w hx (fun w => by kernel_rfl) shape_Z)
      · exact renc_Z x w hx h0 op code f3 top hfm
  · exact ⟨0, rck x, fun w => penc_bad x w hx _ rfl h0, fun w => renc_bad x w hx _ rfl h0⟩
set_option maxRecDepth 100000 in
set_option maxHeartbeats 4000000 in
theorem words_walk (x : Ins) (w : World) (hx : InsOk x) : Calls Try.prog 4 #[.agg (insv x)] w fun e w' => e = .returned (.bool true) ∧ Below w.heap.size w w' := by
  obtain ⟨a, b, h1, h2⟩ := both x hx
  have HA : Hid (∀ w : World, Calls Try.prog 8 #[.agg #[.int .i64 x.op, .int .i64 x.rd, .int .i64 x.rs1, .int .i64 x.rs2, .int .i64 x.imm, .bool x.aq, .bool x.rl, .int .i64 x.len, .int .u32 x.raw]] w fun e w' => e = .returned (.tuple #[.int .u32 a, .int .i64 b]) ∧ Below w.heap.size w w') := h1
  have HR : Hid (∀ w : World, Calls Try.prog 9 #[.agg #[.int .i64 x.op, .int .i64 x.rd, .int .i64 x.rs1, .int .i64 x.rs2, .int .i64 x.imm, .bool x.aq, .bool x.rl, .int .i64 x.len, .int .u32 x.raw]] w fun e w' => e = .returned (.tuple #[.int .u32 a, .int .i64 b]) ∧ Below w.heap.size w w') := h2
  obtain ⟨W, hW⟩ : ∃ W, w.alloc (.cells #[.int .i64 x.op, .int .i64 x.rd, .int .i64 x.rs1, .int .i64 x.rs2, .int .i64 x.imm, .bool x.aq, .bool x.rl, .int .i64 x.len, .int .u32 x.raw] 24) = W := ⟨_, rfl⟩
  have HBW : Hid (Below w.heap.size w W) := by unfold Hid; rw [← hW]; exact below_al w _
  have K1 : Hid (W.heap[w.heap.size]? = some (.cells #[.int .i64 x.op, .int .i64 x.rd, .int .i64 x.rs1, .int .i64 x.rs2, .int .i64 x.imm, .bool x.aq, .bool x.rl, .int .i64 x.len, .int .u32 x.raw] 24 (0, 0))) := by unfold Hid; rw [← hW]; exact heap_alloc_new w _
  clear hx h1 h2
  unfold insv
  go_enter Try.func4, Try.ntmps4
  go_upto_region 1 with fail
  clear hW
  go_wp2_with (first | (refine wpList_load_row (by rfl) _ _ (by rfl) _ (by rfl) 24 _ (0, 0) _ K1.out Try.underlying24 (by rfl) insSize ?_) | (refine wpList_load_row (by rfl) _ _ (by rfl) _ (by rfl) 24 _ (0, 0) _ K1b.out Try.underlying24 (by rfl) insSize ?_) | (go_at_call 8; refine (HA.out _).mono ?_; rintro e w2 ⟨rfl, hb⟩; have HB2 : Hid (Below W.heap.size W w2) := hb; have K1b : Hid (w2.heap[w.heap.size]? = some (.cells #[.int .i64 x.op, .int .i64 x.rd, .int .i64 x.rs1, .int .i64 x.rs2, .int .i64 x.imm, .bool x.aq, .bool x.rl, .int .i64 x.len, .int .u32 x.raw] 24 (0, 0))) := (hb.block _ (Array.getElem?_eq_some_iff.1 K1.out).1).trans K1.out; clear hb) | (go_at_call 9; refine (HR.out _).mono ?_; rintro e w3 ⟨rfl, hb⟩; have HB3 : Hid (Below W.heap.size W w3) := HB2.out.trans (hb.mono HB2.out.size); clear hb) | (go_at_call 5; refine (num_c _ _).mono ?_; rintro e w4 ⟨rfl, hw⟩; have hw2 := hw.symm; subst hw2))
  go_ret
  exact ⟨by simp, HBW.out.trans (HB3.out.mono HBW.out.size)⟩
end Go.Proofs.Ytechkhlibdkmpac
namespace Go.Proofs.Ytechkhlibdkmpac.encodeWords
open Go.ChangeShapes Go.WideShapes Go.ChangeAt Go.RowKit Go.Deep
theorem own : ownKnob Try.prog.godebug = none := by kernel_rfl
theorem laidOut : laidOutB Try.prog = true := by kernel_rfl
set_option maxRecDepth 100000 in
theorem lifted (os : Os) (started : os.Started) (H : Type) (enc : TypeId × Value → H) :
    ReturnsInHanded {} Try.checked os 4 .any (Rows.encodeWordsSpec.pre6 enc Try.prog Try.f4 Rows.encodeWordsRow.domain false) (Rows.encodeWordsSpec.post enc Try.prog Try.f4 false true false false) := by
  refine returnsInHanded_of_change_sized (C := Try.checked) own started (by kernel_rfl) Try.func4
    (ChangeSpec.witness6 (enc := enc) (C := Try.checked) false ⟨#[], #[.agg (insv ⟨0, 0, 0, 0, 0, false, false, 0, 0⟩)], []⟩ 8 (by kernel_rfl) (by kernel_rfl) (by kernel_rfl) (by kernel_rfl)) ?_
  intro W base args ds gs before hval0 hW hcnd hz0 _
  have hval : ∀ (j : Nat) t v, Try.f4.params[j]? = some t → args[j]? = some v → Value.okWide Try.prog W .any base t v := hval0
  have hW' := hW
  obtain ⟨p, q, hA0, hV, rfl, hfz, hnd⟩ := hW
  have hA : DataW.TrodAll enc Try.prog W 0 (fun _ => true) true Try.f4.params.toList args.toList ds p := hA0
  rw [Try.params4] at hA hval
  obtain ⟨v0, d0, rfl, rfl, h0⟩ := trodAll_one hA
  obtain ⟨rfl, rfl⟩ := trodVars_none hV
  have k0 := h0
  have lt0 : ∀ x ∈ p, x.block < W.heap.size := by obtain ⟨m, hm⟩ := k0; exact DataW.trod_lt m _ _ _ hm
  obtain ⟨cs, rfl, _⟩ := okWide_struct Try.underlying24 (hval 0 24 v0 rfl rfl)
  obtain ⟨fuel, hf⟩ := h0
  obtain ⟨x, hcs, hx⟩ := open_ins hf
  have hcs' : cs = insv x := by
    cases cs
    simpa [Value.cells] using congrArg List.toArray hcs
  subst hcs'
  clear hA0 hval0
  refine (words_walk x W hx).mono fun e W' ⟨he, bel⟩ => ?_
  subst he
  exact ⟨_, rfl, _, _, _, [], _, [], hW', trodAll_mk1 (shut_bool Try.underlying4 _), trodAll_mk1 (Below.trod laidOut (by kernel_rfl) (of_decide_eq_true (by kernel_rfl)) k0 bel lt0), rfl, bel.frame _, fun h => by cases h⟩
theorem over : Rows.encodeWordsRow.holds Try.pinned (OpenSpec.ofChange Rows.encodeWordsSpec) :=
  OpenClaim.holds_of_wide 4 Try.f4 rfl rfl rfl rfl rfl rfl rfl ⟨rfl, rfl, rfl, rfl, rfl⟩ rfl rfl rfl rfl rfl (by kernel_rfl) Try.func4 (by kernel_rfl)
    (of_decide_eq_true (by kernel_rfl)) (by unfold Func.isWrapper; first | (rw [if_pos (by decide +kernel)]; kernel_rfl) | (rw [if_neg (by decide +kernel)]; exact ⟨rfl, rfl⟩))
    (fun os started H enc _ => lifted os started H enc)
end Go.Proofs.Ytechkhlibdkmpac.encodeWords
namespace Go.Proofs.Ytechkhlibdkmpac
theorem encodeWords_holds : Rows.EncodeWordsSaid := encodeWords.over
end Go.Proofs.Ytechkhlibdkmpac
