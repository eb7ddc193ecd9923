/-
  Layer 16 (save): deviceSection of the program.
-/
import Derived.Test.YtnlkamfoopikhaaHi
namespace Go.Proofs.Ytnlkamfoopikhaa
set_option linter.unusedVariables false
set_option maxRecDepth 100000
open Go.ChangeShapes Go.WideShapes Go.ChangeAt Go.RowKit Go.Deep
set_option maxHeartbeats 4000000 in
theorem dsec_c (S : St) (ar ai ao : Option Addr) (cr ci co : Nat) (w : World) (hs : Bs S (.slice ar S.ram.length cr) (.slice ai S.inp.length ci) (.slice ao S.out.length co) w) (hw : StW S) (hi : S.inp.length ≤ 64) (ho : S.out.length ≤ 4096) :
    Calls Try.prog 23 #[.agg (stc S (.slice ar S.ram.length cr) (.slice ai S.inp.length ci) (.slice ao S.out.length co))] w fun e w' => ∃ u, e = .returned u ∧ Fsh w.heap.size w' u (devS S).flatten ∧ Below w.heap.size w w' := by
  have HW : Hid (Row (w.alloc (.cells (stc S (.slice ar S.ram.length cr) (.slice ai S.inp.length ci) (.slice ao S.out.length co)) 35)) w.heap.size (stc S (.slice ar S.ram.length cr) (.slice ai S.inp.length ci) (.slice ao S.out.length co)) 35) := Row.new _ _ _
  have HBB : Hid (Below w.heap.size w (w.alloc (.cells (stc S (.slice ar S.ram.length cr) (.slice ai S.inp.length ci) (.slice ao S.out.length co)) 35))) := below_al _ _
  obtain ⟨V, hV⟩ : ∃ V, V = stc S (.slice ar S.ram.length cr) (.slice ai S.inp.length ci) (.slice ao S.out.length co) := ⟨_, rfl⟩
  have HV := Hid.mk' hV
  rw [← hV] at HW HBB ⊢
  clear hV
  go_enter Try.func23, Try.ntmps23
  go_wp2
  rename_i hK
  obtain ⟨W, hW⟩ : ∃ W, W = w.alloc (.cells V 35) := ⟨_, rfl⟩
  rw [← hW] at HW HBB ⊢
  have hs1 := hs.later HBB.out
  have hcmp : S.cmp = n64 (wB S.cmp) := wB_of hw.cmp.1 hw.cmp.2
  have htim : S.time = n64 (wB S.time) := wB_of hw.time.1 hw.time.2
  have hJL : (devS S).flatten.length ≤ 140737488355328 := by rw [devS_length]; omega
  have hJN : (devS S).length = 8 := rfl
  obtain ⟨B, hB⟩ : ∃ B, B = w.heap.size := ⟨_, rfl⟩
  have HB0 := Hid.mk' hB
  have hr := HW.out
  have hlt := hr.lt
  have hBW : B ≤ W.heap.size := by rw [hB]; exact HBB.out.size
  obtain ⟨p, hp⟩ : ∃ p, p = w.heap.size := ⟨_, rfl⟩
  rw [← hp] at hr hlt ⊢
  rw [HV.out] at hr
  clear hW hB hp
  have hcl := fun j => hr.cell j
  refine wp_region_mk (by kernel_rfl) (fun i => ([[], [0], [1], [2], [], [4], [], [6], [5, 7], [8], [], [10], [11], [], [13], [14], [], [16], [], [18], [], [20], [], [22], [], [24], [25], [], [27], [28], [12, 15, 17, 19, 21, 23, 26, 29], [], [31], [32], [33], [], [35], [36], [37], [38], [], [40], [], [42], [43], [44], [45], [], [47], [3, 9, 30, 34, 39, 41, 46, 48], [49], [50]] : List (List Nat)).getD i []) (fun i => ([fun v _ => v = .pointer (some ⟨p, 1, none⟩), fun v _ => v = .int .u32 S.msip, fun v _ => v = .int .u64 (n64 (wB S.msip)), fun v w => Fsh B w v (ptL (wB S.msip).toNat 4), fun v _ => v = .pointer (some ⟨p, 2, none⟩), fun v _ => v = .int .u64 (n64 (wB S.cmp)), fun v _ => v = .pointer (some ⟨p, 3, none⟩), fun v _ => v = .int .u64 (n64 (wB S.time)), fun v w => Dbs w v [(wB S.cmp), (wB S.time)], fun v w => Fsh B w v (dbl [(wB S.cmp), (wB S.time)]), fun v _ => v = .pointer (some ⟨p, 4, none⟩), fun v _ => v = .bool S.ext, fun v _ => v = .int .u8 (fl S.ext), fun v _ => v = .pointer (some ⟨p, 5, none⟩), fun v _ => v = .bool S.soft, fun v _ => v = .int .u8 (fl S.soft), fun v _ => v = .pointer (some ⟨p, 6, none⟩), fun v _ => v = .int .u8 S.ier, fun v _ => v = .pointer (some ⟨p, 7, none⟩), fun v _ => v = .int .u8 S.lcr, fun v _ => v = .pointer (some ⟨p, 8, none⟩), fun v _ => v = .int .u8 S.mcr, fun v _ => v = .pointer (some ⟨p, 9, none⟩), fun v _ => v = .int .u8 S.scr, fun v _ => v = .pointer (some ⟨p, 10, none⟩), fun v _ => v = .bool S.ov, fun v _ => v = .int .u8 (fl S.ov), fun v _ => v = .pointer (some ⟨p, 13, none⟩), fun v _ => v = .int .i64 S.off, fun v _ => v = .int .u8 (S.off % 256), fun v w => Byt w v [(fl S.ext), (fl S.soft), S.ier, S.lcr, S.mcr, S.scr, (fl S.ov), (S.off % 256)], fun v _ => v = .pointer (some ⟨p, 14, none⟩), fun v _ => v = .int .i64 S.code, fun v _ => v = .int .u64 (n64 (wB S.code)), fun v w => Fsh B w v (ptL (wB S.code).toNat 4), fun v _ => v = .pointer (some ⟨p, 11, none⟩), fun v _ => v = .slice ai S.inp.length ci, fun v _ => v = .int .i64 S.inp.length, fun v _ => v = .int .u64 (n64 (wB S.inp.length)), fun v w => Fsh B w v (ptL (wB S.inp.length).toNat 1), fun v _ => v = .pointer (some ⟨p, 11, none⟩), fun v _ => v = .slice ai S.inp.length ci, fun v _ => v = .pointer (some ⟨p, 12, none⟩), fun v _ => v = .slice ao S.out.length co, fun v _ => v = .int .i64 S.out.length, fun v _ => v = .int .u64 (n64 (wB S.out.length)), fun v w => Fsh B w v (ptL (wB S.out.length).toNat 2), fun v _ => v = .pointer (some ⟨p, 12, none⟩), fun v _ => v = .slice ao S.out.length co, fun v w => Rws w v (devS S), fun v w => Fsh B w v (devS S).flatten, fun v w => Fsh B w v (devS S).flatten] : List (Value → World → Prop)).getD i (fun _ _ => True)) W _ (by kernel_rfl) ?_ (hop_list ⟨?_, ?_, ?_, ?_, ?_, ?_, ?_, ?_, ?_, ?_, ?_, ?_, ?_, ?_, ?_, ?_, ?_, ?_, ?_, ?_, ?_, ?_, ?_, ?_, ?_, ?_, ?_, ?_, ?_, ?_, ?_, ?_, ?_, ?_, ?_, ?_, ?_, ?_, ?_, ?_, ?_, ?_, ?_, ?_, ?_, ?_, ?_, ?_, ?_, ?_, ?_, ?_, trivial⟩) ?_
  · intro j v w1 w2 h hb
    match j, h with
    | 3, h => exact Fsh.later h hb
    | 8, h => exact Dbs.later h hb
    | 9, h => exact Fsh.later h hb
    | 30, h => exact Byt.later h hb rfl
    | 34, h => exact Fsh.later h hb
    | 39, h => exact Fsh.later h hb
    | 46, h => exact Fsh.later h hb
    | 49, h => exact Rws.later h hb rfl
    | 50, h => exact Fsh.later h hb
    | 51, h => exact Fsh.later h hb
    | 0, h | 1, h | 2, h | 4, h | 5, h | 6, h | 7, h | 10, h | 11, h | 12, h | 13, h | 14, h | 15, h | 16, h | 17, h | 18, h | 19, h | 20, h | 21, h | 22, h | 23, h | 24, h | 25, h | 26, h | 27, h | 28, h | 29, h | 31, h | 32, h | 33, h | 35, h | 36, h | 37, h | 38, h | 40, h | 41, h | 42, h | 43, h | 44, h | 45, h | 47, h | 48, h | _ + 52, h => exact h
  · refine stp_con _ rfl rfl rfl (by simp) (fun a w9 h1 h2 h3 => ?_)
    have q0 : a.eval (.tmp 1) = .pointer (some ⟨p, 0, none⟩) := (h1 1 (by kernel_rfl)).trans rfl
    clear h1 h2 h3
    generalize a.eval = ρ at *
    simp [execOp, q0, go_sem]
  · refine stp_con _ rfl rfl rfl (by simp) (fun a w9 h1 h2 h3 => ?_)
    have q0 : a.eval (.tmp 3) = .pointer (some ⟨p, 1, none⟩) := h3 0 (by decide)
    have hc : w9.cell? ⟨p, 1, none⟩ = some (.int .u32 S.msip) := (h2.cell hlt).trans ((hcl 1).trans rfl)
    clear h1 h2 h3
    generalize a.eval = ρ at *
    simp [execOp, q0, hc, go_sem]
  · refine stp_con _ rfl rfl rfl (by simp) (fun a w9 h1 h2 h3 => ?_)
    have q0 : a.eval (.tmp 4) = .int .u32 S.msip := h3 1 (by decide)
    clear h1 h2 h3
    generalize a.eval = ρ at *
    simp [execOp, q0, wrap_wB, go_sem]
  · refine stp_call 25 rfl rfl (by simp) (fun a w9 h1 h2 h3 => ?_)
    have hcon : ∀ c, a.eval (.const c) = c := fun _ => rfl
    have q0 : a.eval (.tmp 5) = .int .u64 (n64 (wB S.msip)) := h3 2 (by decide)
    refine ⟨#[.int .u64 (n64 (wB S.msip)), .int .i64 4], ?_, ?_⟩
    · have hf : a.eval (.func 25) = .func (.func 25) #[] #[] := rfl
      clear h1 h2 h3
      generalize a.eval = ρ at *
      simp [execOp, hcon, q0, hf, go_sem]
    · exact (put_c (wB S.msip) 4 (by omega) (by omega) w9).mono fun e w2 ⟨u, e1, e2, e3⟩ => ⟨u, e1, e3, e2.mono (Nat.le_trans hBW h2.size)⟩
  · refine stp_con _ rfl rfl rfl (by simp) (fun a w9 h1 h2 h3 => ?_)
    have q0 : a.eval (.tmp 1) = .pointer (some ⟨p, 0, none⟩) := (h1 1 (by kernel_rfl)).trans rfl
    clear h1 h2 h3
    generalize a.eval = ρ at *
    simp [execOp, q0, go_sem]
  · refine stp_con _ rfl rfl rfl (by simp) (fun a w9 h1 h2 h3 => ?_)
    have q0 : a.eval (.tmp 7) = .pointer (some ⟨p, 2, none⟩) := h3 4 (by decide)
    have hc : w9.cell? ⟨p, 2, none⟩ = some (.int .u64 (n64 (wB S.cmp))) := (h2.cell hlt).trans ((hcl 2).trans (congrArg (fun z => some (Value.int .u64 z)) hcmp))
    clear h1 h2 h3
    generalize a.eval = ρ at *
    simp [execOp, q0, hc, go_sem]
  · refine stp_con _ rfl rfl rfl (by simp) (fun a w9 h1 h2 h3 => ?_)
    have q0 : a.eval (.tmp 1) = .pointer (some ⟨p, 0, none⟩) := (h1 1 (by kernel_rfl)).trans rfl
    clear h1 h2 h3
    generalize a.eval = ρ at *
    simp [execOp, q0, go_sem]
  · refine stp_con _ rfl rfl rfl (by simp) (fun a w9 h1 h2 h3 => ?_)
    have q0 : a.eval (.tmp 9) = .pointer (some ⟨p, 3, none⟩) := h3 6 (by decide)
    have hc : w9.cell? ⟨p, 3, none⟩ = some (.int .u64 (n64 (wB S.time))) := (h2.cell hlt).trans ((hcl 3).trans (congrArg (fun z => some (Value.int .u64 z)) htim))
    clear h1 h2 h3
    generalize a.eval = ρ at *
    simp [execOp, q0, hc, go_sem]
  · refine stp_val rfl rfl (by simp) (fun a w9 h1 h2 h3 => ?_)
    have q0 : a.eval (.tmp 8) = .int .u64 (n64 (wB S.cmp)) := h3 5 (by decide)
    have q1 : a.eval (.tmp 10) = .int .u64 (n64 (wB S.time)) := h3 7 (by decide)
    refine ⟨.slice (some ⟨w9.heap.size, 0, none⟩) 2 2, w9.alloc (.cells #[.int .u64 (n64 (wB S.cmp)), .int .u64 (n64 (wB S.time))] 22), ?_, below_al _ _, ?_⟩
    · clear h1 h2 h3
      generalize a.eval = ρ at *
      simp [execOp, q0, q1, go_sem]
    · exact dbs_new w9 [(wB S.cmp), (wB S.time)]
  · refine stp_call 42 rfl rfl (by simp) (fun a w9 h1 h2 h3 => ?_)
    have m0 : Dbs w9 (a.eval (.tmp 11)) [(wB S.cmp), (wB S.time)] := h3 8 (by decide)
    refine ⟨#[a.eval (.tmp 11)], ?_, ?_⟩
    · have hf : a.eval (.func 42) = .func (.func 42) #[] #[] := rfl
      clear h1 h2 h3 m0
      generalize a.eval = ρ at *
      simp [execOp, hf, go_sem]
    · exact (doubles_c [(wB S.cmp), (wB S.time)] (by simp) _ w9 m0).mono fun e w2 ⟨u, e1, e2, e3⟩ => ⟨u, e1, e3, e2.mono (Nat.le_trans hBW h2.size)⟩
  · refine stp_con _ rfl rfl rfl (by simp) (fun a w9 h1 h2 h3 => ?_)
    have q0 : a.eval (.tmp 1) = .pointer (some ⟨p, 0, none⟩) := (h1 1 (by kernel_rfl)).trans rfl
    clear h1 h2 h3
    generalize a.eval = ρ at *
    simp [execOp, q0, go_sem]
  · refine stp_con _ rfl rfl rfl (by simp) (fun a w9 h1 h2 h3 => ?_)
    have q0 : a.eval (.tmp 13) = .pointer (some ⟨p, 4, none⟩) := h3 10 (by decide)
    have hc : w9.cell? ⟨p, 4, none⟩ = some (.bool S.ext) := (h2.cell hlt).trans ((hcl 4).trans rfl)
    clear h1 h2 h3
    generalize a.eval = ρ at *
    simp [execOp, q0, hc, go_sem]
  · refine stp_call 43 rfl rfl (by simp) (fun a w9 h1 h2 h3 => ?_)
    have q0 : a.eval (.tmp 14) = .bool S.ext := h3 11 (by decide)
    refine ⟨#[.bool S.ext], ?_, ?_⟩
    · have hf : a.eval (.func 43) = .func (.func 43) #[] #[] := rfl
      clear h1 h2 h3
      generalize a.eval = ρ at *
      simp [execOp, q0, hf, go_sem]
    · exact (sflag_c S.ext w9).mono fun e w2 ⟨e1, e2⟩ => ⟨_, e1, by rw [e2]; exact Below.refl _ _, rfl⟩
  · refine stp_con _ rfl rfl rfl (by simp) (fun a w9 h1 h2 h3 => ?_)
    have q0 : a.eval (.tmp 1) = .pointer (some ⟨p, 0, none⟩) := (h1 1 (by kernel_rfl)).trans rfl
    clear h1 h2 h3
    generalize a.eval = ρ at *
    simp [execOp, q0, go_sem]
  · refine stp_con _ rfl rfl rfl (by simp) (fun a w9 h1 h2 h3 => ?_)
    have q0 : a.eval (.tmp 16) = .pointer (some ⟨p, 5, none⟩) := h3 13 (by decide)
    have hc : w9.cell? ⟨p, 5, none⟩ = some (.bool S.soft) := (h2.cell hlt).trans ((hcl 5).trans rfl)
    clear h1 h2 h3
    generalize a.eval = ρ at *
    simp [execOp, q0, hc, go_sem]
  · refine stp_call 43 rfl rfl (by simp) (fun a w9 h1 h2 h3 => ?_)
    have q0 : a.eval (.tmp 17) = .bool S.soft := h3 14 (by decide)
    refine ⟨#[.bool S.soft], ?_, ?_⟩
    · have hf : a.eval (.func 43) = .func (.func 43) #[] #[] := rfl
      clear h1 h2 h3
      generalize a.eval = ρ at *
      simp [execOp, q0, hf, go_sem]
    · exact (sflag_c S.soft w9).mono fun e w2 ⟨e1, e2⟩ => ⟨_, e1, by rw [e2]; exact Below.refl _ _, rfl⟩
  · refine stp_con _ rfl rfl rfl (by simp) (fun a w9 h1 h2 h3 => ?_)
    have q0 : a.eval (.tmp 1) = .pointer (some ⟨p, 0, none⟩) := (h1 1 (by kernel_rfl)).trans rfl
    clear h1 h2 h3
    generalize a.eval = ρ at *
    simp [execOp, q0, go_sem]
  · refine stp_con _ rfl rfl rfl (by simp) (fun a w9 h1 h2 h3 => ?_)
    have q0 : a.eval (.tmp 19) = .pointer (some ⟨p, 6, none⟩) := h3 16 (by decide)
    have hc : w9.cell? ⟨p, 6, none⟩ = some (.int .u8 S.ier) := (h2.cell hlt).trans ((hcl 6).trans rfl)
    clear h1 h2 h3
    generalize a.eval = ρ at *
    simp [execOp, q0, hc, go_sem]
  · refine stp_con _ rfl rfl rfl (by simp) (fun a w9 h1 h2 h3 => ?_)
    have q0 : a.eval (.tmp 1) = .pointer (some ⟨p, 0, none⟩) := (h1 1 (by kernel_rfl)).trans rfl
    clear h1 h2 h3
    generalize a.eval = ρ at *
    simp [execOp, q0, go_sem]
  · refine stp_con _ rfl rfl rfl (by simp) (fun a w9 h1 h2 h3 => ?_)
    have q0 : a.eval (.tmp 21) = .pointer (some ⟨p, 7, none⟩) := h3 18 (by decide)
    have hc : w9.cell? ⟨p, 7, none⟩ = some (.int .u8 S.lcr) := (h2.cell hlt).trans ((hcl 7).trans rfl)
    clear h1 h2 h3
    generalize a.eval = ρ at *
    simp [execOp, q0, hc, go_sem]
  · refine stp_con _ rfl rfl rfl (by simp) (fun a w9 h1 h2 h3 => ?_)
    have q0 : a.eval (.tmp 1) = .pointer (some ⟨p, 0, none⟩) := (h1 1 (by kernel_rfl)).trans rfl
    clear h1 h2 h3
    generalize a.eval = ρ at *
    simp [execOp, q0, go_sem]
  · refine stp_con _ rfl rfl rfl (by simp) (fun a w9 h1 h2 h3 => ?_)
    have q0 : a.eval (.tmp 23) = .pointer (some ⟨p, 8, none⟩) := h3 20 (by decide)
    have hc : w9.cell? ⟨p, 8, none⟩ = some (.int .u8 S.mcr) := (h2.cell hlt).trans ((hcl 8).trans rfl)
    clear h1 h2 h3
    generalize a.eval = ρ at *
    simp [execOp, q0, hc, go_sem]
  · refine stp_con _ rfl rfl rfl (by simp) (fun a w9 h1 h2 h3 => ?_)
    have q0 : a.eval (.tmp 1) = .pointer (some ⟨p, 0, none⟩) := (h1 1 (by kernel_rfl)).trans rfl
    clear h1 h2 h3
    generalize a.eval = ρ at *
    simp [execOp, q0, go_sem]
  · refine stp_con _ rfl rfl rfl (by simp) (fun a w9 h1 h2 h3 => ?_)
    have q0 : a.eval (.tmp 25) = .pointer (some ⟨p, 9, none⟩) := h3 22 (by decide)
    have hc : w9.cell? ⟨p, 9, none⟩ = some (.int .u8 S.scr) := (h2.cell hlt).trans ((hcl 9).trans rfl)
    clear h1 h2 h3
    generalize a.eval = ρ at *
    simp [execOp, q0, hc, go_sem]
  · refine stp_con _ rfl rfl rfl (by simp) (fun a w9 h1 h2 h3 => ?_)
    have q0 : a.eval (.tmp 1) = .pointer (some ⟨p, 0, none⟩) := (h1 1 (by kernel_rfl)).trans rfl
    clear h1 h2 h3
    generalize a.eval = ρ at *
    simp [execOp, q0, go_sem]
  · refine stp_con _ rfl rfl rfl (by simp) (fun a w9 h1 h2 h3 => ?_)
    have q0 : a.eval (.tmp 27) = .pointer (some ⟨p, 10, none⟩) := h3 24 (by decide)
    have hc : w9.cell? ⟨p, 10, none⟩ = some (.bool S.ov) := (h2.cell hlt).trans ((hcl 10).trans rfl)
    clear h1 h2 h3
    generalize a.eval = ρ at *
    simp [execOp, q0, hc, go_sem]
  · refine stp_call 43 rfl rfl (by simp) (fun a w9 h1 h2 h3 => ?_)
    have q0 : a.eval (.tmp 28) = .bool S.ov := h3 25 (by decide)
    refine ⟨#[.bool S.ov], ?_, ?_⟩
    · have hf : a.eval (.func 43) = .func (.func 43) #[] #[] := rfl
      clear h1 h2 h3
      generalize a.eval = ρ at *
      simp [execOp, q0, hf, go_sem]
    · exact (sflag_c S.ov w9).mono fun e w2 ⟨e1, e2⟩ => ⟨_, e1, by rw [e2]; exact Below.refl _ _, rfl⟩
  · refine stp_con _ rfl rfl rfl (by simp) (fun a w9 h1 h2 h3 => ?_)
    have q0 : a.eval (.tmp 1) = .pointer (some ⟨p, 0, none⟩) := (h1 1 (by kernel_rfl)).trans rfl
    clear h1 h2 h3
    generalize a.eval = ρ at *
    simp [execOp, q0, go_sem]
  · refine stp_con _ rfl rfl rfl (by simp) (fun a w9 h1 h2 h3 => ?_)
    have q0 : a.eval (.tmp 30) = .pointer (some ⟨p, 13, none⟩) := h3 27 (by decide)
    have hc : w9.cell? ⟨p, 13, none⟩ = some (.int .i64 S.off) := (h2.cell hlt).trans ((hcl 13).trans rfl)
    clear h1 h2 h3
    generalize a.eval = ρ at *
    simp [execOp, q0, hc, go_sem]
  · refine stp_con _ rfl rfl rfl (by simp) (fun a w9 h1 h2 h3 => ?_)
    have q0 : a.eval (.tmp 31) = .int .i64 S.off := h3 28 (by decide)
    clear h1 h2 h3
    generalize a.eval = ρ at *
    simp [execOp, q0, u8w, go_sem]
  · refine stp_val rfl rfl (by simp) (fun a w9 h1 h2 h3 => ?_)
    have q0 : a.eval (.tmp 15) = .int .u8 (fl S.ext) := h3 12 (by decide)
    have q1 : a.eval (.tmp 18) = .int .u8 (fl S.soft) := h3 15 (by decide)
    have q2 : a.eval (.tmp 20) = .int .u8 S.ier := h3 17 (by decide)
    have q3 : a.eval (.tmp 22) = .int .u8 S.lcr := h3 19 (by decide)
    have q4 : a.eval (.tmp 24) = .int .u8 S.mcr := h3 21 (by decide)
    have q5 : a.eval (.tmp 26) = .int .u8 S.scr := h3 23 (by decide)
    have q6 : a.eval (.tmp 29) = .int .u8 (fl S.ov) := h3 26 (by decide)
    have q7 : a.eval (.tmp 32) = .int .u8 (S.off % 256) := h3 29 (by decide)
    refine ⟨.slice (some ⟨w9.heap.size, 0, none⟩) 8 8, w9.alloc (.cells #[.int .u8 (fl S.ext), .int .u8 (fl S.soft), .int .u8 S.ier, .int .u8 S.lcr, .int .u8 S.mcr, .int .u8 S.scr, .int .u8 (fl S.ov), .int .u8 (S.off % 256)] 5), ?_, below_al _ _, ?_⟩
    · clear h1 h2 h3
      generalize a.eval = ρ at *
      simp [execOp, q0, q1, q2, q3, q4, q5, q6, q7, go_sem]
    · exact byt_new w9 [(fl S.ext), (fl S.soft), S.ier, S.lcr, S.mcr, S.scr, (fl S.ov), (S.off % 256)]
  · refine stp_con _ rfl rfl rfl (by simp) (fun a w9 h1 h2 h3 => ?_)
    have q0 : a.eval (.tmp 1) = .pointer (some ⟨p, 0, none⟩) := (h1 1 (by kernel_rfl)).trans rfl
    clear h1 h2 h3
    generalize a.eval = ρ at *
    simp [execOp, q0, go_sem]
  · refine stp_con _ rfl rfl rfl (by simp) (fun a w9 h1 h2 h3 => ?_)
    have q0 : a.eval (.tmp 34) = .pointer (some ⟨p, 14, none⟩) := h3 31 (by decide)
    have hc : w9.cell? ⟨p, 14, none⟩ = some (.int .i64 S.code) := (h2.cell hlt).trans ((hcl 14).trans rfl)
    clear h1 h2 h3
    generalize a.eval = ρ at *
    simp [execOp, q0, hc, go_sem]
  · refine stp_con _ rfl rfl rfl (by simp) (fun a w9 h1 h2 h3 => ?_)
    have q0 : a.eval (.tmp 35) = .int .i64 S.code := h3 32 (by decide)
    clear h1 h2 h3
    generalize a.eval = ρ at *
    simp [execOp, q0, wrap_wB, go_sem]
  · refine stp_call 25 rfl rfl (by simp) (fun a w9 h1 h2 h3 => ?_)
    have hcon : ∀ c, a.eval (.const c) = c := fun _ => rfl
    have q0 : a.eval (.tmp 36) = .int .u64 (n64 (wB S.code)) := h3 33 (by decide)
    refine ⟨#[.int .u64 (n64 (wB S.code)), .int .i64 4], ?_, ?_⟩
    · have hf : a.eval (.func 25) = .func (.func 25) #[] #[] := rfl
      clear h1 h2 h3
      generalize a.eval = ρ at *
      simp [execOp, hcon, q0, hf, go_sem]
    · exact (put_c (wB S.code) 4 (by omega) (by omega) w9).mono fun e w2 ⟨u, e1, e2, e3⟩ => ⟨u, e1, e3, e2.mono (Nat.le_trans hBW h2.size)⟩
  · refine stp_con _ rfl rfl rfl (by simp) (fun a w9 h1 h2 h3 => ?_)
    have q0 : a.eval (.tmp 1) = .pointer (some ⟨p, 0, none⟩) := (h1 1 (by kernel_rfl)).trans rfl
    clear h1 h2 h3
    generalize a.eval = ρ at *
    simp [execOp, q0, go_sem]
  · refine stp_con _ rfl rfl rfl (by simp) (fun a w9 h1 h2 h3 => ?_)
    have q0 : a.eval (.tmp 38) = .pointer (some ⟨p, 11, none⟩) := h3 35 (by decide)
    have hc : w9.cell? ⟨p, 11, none⟩ = some (.slice ai S.inp.length ci) := (h2.cell hlt).trans ((hcl 11).trans rfl)
    clear h1 h2 h3
    generalize a.eval = ρ at *
    simp [execOp, q0, hc, go_sem]
  · refine stp_con _ rfl rfl rfl (by simp) (fun a w9 h1 h2 h3 => ?_)
    have q0 : a.eval (.tmp 39) = .slice ai S.inp.length ci := h3 36 (by decide)
    clear h1 h2 h3
    generalize a.eval = ρ at *
    simp [q0, go_sem]
  · refine stp_con _ rfl rfl rfl (by simp) (fun a w9 h1 h2 h3 => ?_)
    have q0 : a.eval (.tmp 40) = .int .i64 S.inp.length := h3 37 (by decide)
    clear h1 h2 h3
    generalize a.eval = ρ at *
    simp [execOp, q0, wrap_wB, go_sem]
  · refine stp_call 25 rfl rfl (by simp) (fun a w9 h1 h2 h3 => ?_)
    have hcon : ∀ c, a.eval (.const c) = c := fun _ => rfl
    have q0 : a.eval (.tmp 41) = .int .u64 (n64 (wB S.inp.length)) := h3 38 (by decide)
    refine ⟨#[.int .u64 (n64 (wB S.inp.length)), .int .i64 1], ?_, ?_⟩
    · have hf : a.eval (.func 25) = .func (.func 25) #[] #[] := rfl
      clear h1 h2 h3
      generalize a.eval = ρ at *
      simp [execOp, hcon, q0, hf, go_sem]
    · exact (put_c (wB S.inp.length) 1 (by omega) (by omega) w9).mono fun e w2 ⟨u, e1, e2, e3⟩ => ⟨u, e1, e3, e2.mono (Nat.le_trans hBW h2.size)⟩
  · refine stp_con _ rfl rfl rfl (by simp) (fun a w9 h1 h2 h3 => ?_)
    have q0 : a.eval (.tmp 1) = .pointer (some ⟨p, 0, none⟩) := (h1 1 (by kernel_rfl)).trans rfl
    clear h1 h2 h3
    generalize a.eval = ρ at *
    simp [execOp, q0, go_sem]
  · refine stp_con _ rfl rfl rfl (by simp) (fun a w9 h1 h2 h3 => ?_)
    have q0 : a.eval (.tmp 43) = .pointer (some ⟨p, 11, none⟩) := h3 40 (by decide)
    have hc : w9.cell? ⟨p, 11, none⟩ = some (.slice ai S.inp.length ci) := (h2.cell hlt).trans ((hcl 11).trans rfl)
    clear h1 h2 h3
    generalize a.eval = ρ at *
    simp [execOp, q0, hc, go_sem]
  · refine stp_con _ rfl rfl rfl (by simp) (fun a w9 h1 h2 h3 => ?_)
    have q0 : a.eval (.tmp 1) = .pointer (some ⟨p, 0, none⟩) := (h1 1 (by kernel_rfl)).trans rfl
    clear h1 h2 h3
    generalize a.eval = ρ at *
    simp [execOp, q0, go_sem]
  · refine stp_con _ rfl rfl rfl (by simp) (fun a w9 h1 h2 h3 => ?_)
    have q0 : a.eval (.tmp 45) = .pointer (some ⟨p, 12, none⟩) := h3 42 (by decide)
    have hc : w9.cell? ⟨p, 12, none⟩ = some (.slice ao S.out.length co) := (h2.cell hlt).trans ((hcl 12).trans rfl)
    clear h1 h2 h3
    generalize a.eval = ρ at *
    simp [execOp, q0, hc, go_sem]
  · refine stp_con _ rfl rfl rfl (by simp) (fun a w9 h1 h2 h3 => ?_)
    have q0 : a.eval (.tmp 46) = .slice ao S.out.length co := h3 43 (by decide)
    clear h1 h2 h3
    generalize a.eval = ρ at *
    simp [q0, go_sem]
  · refine stp_con _ rfl rfl rfl (by simp) (fun a w9 h1 h2 h3 => ?_)
    have q0 : a.eval (.tmp 47) = .int .i64 S.out.length := h3 44 (by decide)
    clear h1 h2 h3
    generalize a.eval = ρ at *
    simp [execOp, q0, wrap_wB, go_sem]
  · refine stp_call 25 rfl rfl (by simp) (fun a w9 h1 h2 h3 => ?_)
    have hcon : ∀ c, a.eval (.const c) = c := fun _ => rfl
    have q0 : a.eval (.tmp 48) = .int .u64 (n64 (wB S.out.length)) := h3 45 (by decide)
    refine ⟨#[.int .u64 (n64 (wB S.out.length)), .int .i64 2], ?_, ?_⟩
    · have hf : a.eval (.func 25) = .func (.func 25) #[] #[] := rfl
      clear h1 h2 h3
      generalize a.eval = ρ at *
      simp [execOp, hcon, q0, hf, go_sem]
    · exact (put_c (wB S.out.length) 2 (by omega) (by omega) w9).mono fun e w2 ⟨u, e1, e2, e3⟩ => ⟨u, e1, e3, e2.mono (Nat.le_trans hBW h2.size)⟩
  · refine stp_con _ rfl rfl rfl (by simp) (fun a w9 h1 h2 h3 => ?_)
    have q0 : a.eval (.tmp 1) = .pointer (some ⟨p, 0, none⟩) := (h1 1 (by kernel_rfl)).trans rfl
    clear h1 h2 h3
    generalize a.eval = ρ at *
    simp [execOp, q0, go_sem]
  · refine stp_con _ rfl rfl rfl (by simp) (fun a w9 h1 h2 h3 => ?_)
    have q0 : a.eval (.tmp 50) = .pointer (some ⟨p, 12, none⟩) := h3 47 (by decide)
    have hc : w9.cell? ⟨p, 12, none⟩ = some (.slice ao S.out.length co) := (h2.cell hlt).trans ((hcl 12).trans rfl)
    clear h1 h2 h3
    generalize a.eval = ρ at *
    simp [execOp, q0, hc, go_sem]
  · refine stp_val rfl rfl (by simp) (fun a w9 h1 h2 h3 => ?_)
    have y0 : Fsh B w9 (a.eval (.tmp 6)) (ptL (wB S.msip).toNat 4) := h3 3 (by decide)
    have z0 : Byt w9 (a.eval (.tmp 6)) _ := y0.byt
    obtain ⟨a0, n0, c0, e0⟩ := z0.sl
    have y1 : Fsh B w9 (a.eval (.tmp 12)) (dbl [(wB S.cmp), (wB S.time)]) := h3 9 (by decide)
    have z1 : Byt w9 (a.eval (.tmp 12)) _ := y1.byt
    obtain ⟨a1, n1, c1, e1⟩ := z1.sl
    have y2 : Byt w9 (a.eval (.tmp 33)) [(fl S.ext), (fl S.soft), S.ier, S.lcr, S.mcr, S.scr, (fl S.ov), (S.off % 256)] := h3 30 (by decide)
    have z2 : Byt w9 (a.eval (.tmp 33)) _ := y2
    obtain ⟨a2, n2, c2, e2⟩ := z2.sl
    have y3 : Fsh B w9 (a.eval (.tmp 37)) (ptL (wB S.code).toNat 4) := h3 34 (by decide)
    have z3 : Byt w9 (a.eval (.tmp 37)) _ := y3.byt
    obtain ⟨a3, n3, c3, e3⟩ := z3.sl
    have y4 : Fsh B w9 (a.eval (.tmp 42)) (ptL (wB S.inp.length).toNat 1) := h3 39 (by decide)
    have z4 : Byt w9 (a.eval (.tmp 42)) _ := y4.byt
    obtain ⟨a4, n4, c4, e4⟩ := z4.sl
    have z5e : a.eval (.tmp 44) = .slice ai S.inp.length ci := h3 41 (by decide)
    have z5 : Byt w9 (a.eval (.tmp 44)) _ := (z5e ▸ (hs1.i.later h2 rfl))
    obtain ⟨a5, n5, c5, e5⟩ := z5.sl
    have y6 : Fsh B w9 (a.eval (.tmp 49)) (ptL (wB S.out.length).toNat 2) := h3 46 (by decide)
    have z6 : Byt w9 (a.eval (.tmp 49)) _ := y6.byt
    obtain ⟨a6, n6, c6, e6⟩ := z6.sl
    have z7e : a.eval (.tmp 51) = .slice ao S.out.length co := h3 48 (by decide)
    have z7 : Byt w9 (a.eval (.tmp 51)) _ := (z7e ▸ (hs1.o.later h2 rfl))
    obtain ⟨a7, n7, c7, e7⟩ := z7.sl
    rw [e0] at z0
    rw [e1] at z1
    rw [e2] at z2
    rw [e3] at z3
    rw [e4] at z4
    rw [e5] at z5
    rw [e6] at z6
    rw [e7] at z7
    refine ⟨.slice (some ⟨w9.heap.size, 0, none⟩) 8 8, w9.alloc (.cells #[.slice a0 n0 c0, .slice a1 n1 c1, .slice a2 n2 c2, .slice a3 n3 c3, .slice a4 n4 c4, .slice a5 n5 c5, .slice a6 n6 c6, .slice a7 n7 c7] 32), ?_, below_al _ _, ?_⟩
    · clear h1 h2 h3
      generalize a.eval = ρ at *
      simp [execOp, e0, e1, e2, e3, e4, e5, e6, e7, go_sem]
    · refine rws_new w9 [.slice a0 n0 c0, .slice a1 n1 c1, .slice a2 n2 c2, .slice a3 n3 c3, .slice a4 n4 c4, .slice a5 n5 c5, .slice a6 n6 c6, .slice a7 n7 c7] (devS S) rfl ?_
      intro j hj
      match j, hj with
      | 0, _ => exact z0
      | 1, _ => exact z1
      | 2, _ => exact z2
      | 3, _ => exact z3
      | 4, _ => exact z4
      | 5, _ => exact z5
      | 6, _ => exact z6
      | 7, _ => exact z7
      | _ + 8, hj => exact absurd (show _ + 8 < 8 from hj) (by omega)
  · refine stp_call 20 rfl rfl (by simp) (fun a w9 h1 h2 h3 => ?_)
    have m0 : Rws w9 (a.eval (.tmp 52)) (devS S) := h3 49 (by decide)
    refine ⟨#[a.eval (.tmp 52)], ?_, ?_⟩
    · have hf : a.eval (.func 20) = .func (.func 20) #[] #[] := rfl
      clear h1 h2 h3 m0
      generalize a.eval = ρ at *
      simp [execOp, hf, go_sem]
    · exact (joined_c (devS S) hJL (by rw [hJN]; omega) _ w9 m0).mono fun e w2 ⟨u, e1, e2, e3⟩ => ⟨u, e1, e3, e2.mono (Nat.le_trans hBW h2.size)⟩
  · refine stp_val rfl rfl (by simp) (fun a w9 h1 h2 h3 => ?_)
    refine ⟨a.eval (.tmp 53), w9, ?_, Below.refl _ _, h3 50 (by decide)⟩
    clear h1 h2 h3
    generalize a.eval = ρ at *
    simp [execOp, go_sem]
  · intro a w1 hts hdf hold hb hf
    have e2 : Fsh B w1 (a.eval (.tmp 2)) (devS S).flatten := hf 51 (by decide)
    refine hK a w1 ?_
    refine wp_ret (bodyPost_ret (v := a.eval (.tmp 2)) ?_ hdf ?_)
    · have e := results_tmp (fn := Try.f23) (t := 2) rfl a.tmps Try.prog w1
      rw [e]
      simp [Act.eval]
    · refine ⟨_, rfl, ?_, ?_⟩
      · rw [← HB0.out]; exact e2
      · exact HBB.out.trans (hb.mono HBB.out.size)
end Go.Proofs.Ytnlkamfoopikhaa
