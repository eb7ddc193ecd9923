/-
  Layer 16 (save): cpuSection of the program.
-/
import Derived.Test.YtnlkamfoopikhaaHi
namespace Go.Proofs.Ytnlkamfoopikhaa
set_option linter.unusedVariables false
set_option maxRecDepth 100000
open Go.ChangeShapes Go.WideShapes Go.ChangeAt Go.RowKit Go.Deep
set_option maxHeartbeats 4000000 in
theorem csec_c (k : Cp) (w : World) :
    Calls Try.prog 21 #[.agg (cpc k)] w fun e w' => ∃ u, e = .returned u ∧ Fsh w.heap.size w' u (cpuS k).flatten ∧ Below w.heap.size w w' := by
  have HW : Hid (Row (w.alloc (.cells (cpc k) 31)) w.heap.size (cpc k) 31) := Row.new _ _ _
  have HBB : Hid (Below w.heap.size w (w.alloc (.cells (cpc k) 31))) := below_al _ _
  obtain ⟨V, hV⟩ : ∃ V, V = cpc k := ⟨_, rfl⟩
  have HV := Hid.mk' hV
  rw [← hV] at HW HBB ⊢
  clear hV
  go_enter Try.func21, Try.ntmps21
  go_wp2
  rename_i hK
  obtain ⟨W, hW⟩ : ∃ W, W = w.alloc (.cells V 31) := ⟨_, rfl⟩
  rw [← hW] at HW HBB ⊢
  have hJL : (cpuS k).flatten.length ≤ 140737488355328 := by rw [cpuS_length]; omega
  have hJN : (cpuS k).length = 10 := rfl
  obtain ⟨B, hB⟩ : ∃ B, B = w.heap.size := ⟨_, rfl⟩
  have HB0 := Hid.mk' hB
  have hr := HW.out
  have hlt := hr.lt
  have hBW : B ≤ W.heap.size := by rw [hB]; exact HBB.out.size
  obtain ⟨p, hp⟩ : ∃ p, p = w.heap.size := ⟨_, rfl⟩
  rw [← hp] at hr hlt ⊢
  rw [HV.out] at hr
  clear hW hB hp
  have hcl := fun j => hr.cell j
  have hcx : Dbs W (.slice (some ⟨p, 1, none⟩) 32 32) ((List.range 32).map k.x) := ⟨p, 1, 32, by simp, hlt, fun j hj => by
    have hj' : j < 32 := by simpa using hj
    rw [hcl, cpc_at _ _ (by omega), cpcell_x _ _ hj']; simp [hj']⟩
  have hcc : Byt W (.slice (some ⟨p, 47, none⟩) 16 16) ((List.range 16).map (fun i => n8 (k.c i))) := ⟨some ⟨p, 47, none⟩, 16, by simp, by simp, (fun e => by cases e), fun _ => ⟨p, 47, rfl, hlt, fun j hj => by
    have hj' : j < 16 := by simpa using hj
    rw [hcl, cpc_at _ _ (by omega), cpcell_p _ _ (by omega)]; simp [pcell, hj']⟩⟩
  have hca : Dbs W (.slice (some ⟨p, 63, none⟩) 16 16) ((List.range 16).map k.a) := ⟨p, 63, 16, by simp, hlt, fun j hj => by
    have hj' : j < 16 := by simpa using hj
    rw [hcl, cpc_at _ _ (by omega), show 63 + j = 47 + (16 + j) by omega, cpcell_p _ _ (by omega)]; simp [pcell, hj']⟩
  refine wp_region_mk (by kernel_rfl) (fun i => ([[], [0], [1], [2], [], [4], [5], [], [7], [8], [], [10], [11], [9, 12], [], [14], [], [16], [], [18], [], [20], [], [22], [], [24], [15, 17, 19, 21, 23, 25], [26], [], [28], [], [30], [], [32], [], [34], [], [36], [], [38], [29, 31, 33, 35, 37, 39], [40], [], [42], [43], [], [45], [46], [47], [], [49], [50], [51], [52], [], [54], [55], [56], [57], [], [59], [60], [61], [62], [3, 6, 13, 27, 41, 44, 48, 53, 58, 63], [64], [65]] : List (List Nat)).getD i []) (fun i => ([fun v _ => v = .pointer (some ⟨p, 0, none⟩), fun v _ => v = .int .u64 (n64 k.pc), fun v w => Dbs w v [k.pc], fun v w => Fsh B w v (dbl [k.pc]), fun v _ => v = .pointer (some ⟨p, 1, none⟩), fun v w => Dbs w v ((List.range 32).map k.x), fun v w => Fsh B w v (dbl ((List.range 32).map k.x)), fun v _ => v = .pointer (some ⟨p, 33, none⟩), fun v _ => v = .int .i64 k.md, fun v _ => v = .int .u8 (k.md % 256), fun v _ => v = .pointer (some ⟨p, 34, none⟩), fun v _ => v = .bool k.wt, fun v _ => v = .int .u8 (fl k.wt), fun v w => Byt w v [(k.md % 256), (fl k.wt)], fun v _ => v = .pointer (some ⟨p, 35, none⟩), fun v _ => v = .int .u64 (n64 (k.s 0)), fun v _ => v = .pointer (some ⟨p, 36, none⟩), fun v _ => v = .int .u64 (n64 (k.s 1)), fun v _ => v = .pointer (some ⟨p, 37, none⟩), fun v _ => v = .int .u64 (n64 (k.s 2)), fun v _ => v = .pointer (some ⟨p, 38, none⟩), fun v _ => v = .int .u64 (n64 (k.s 3)), fun v _ => v = .pointer (some ⟨p, 39, none⟩), fun v _ => v = .int .u64 (n64 (k.s 4)), fun v _ => v = .pointer (some ⟨p, 40, none⟩), fun v _ => v = .int .u64 (n64 (k.s 5)), fun v w => Dbs w v [(k.s 0), (k.s 1), (k.s 2), (k.s 3), (k.s 4), (k.s 5)], fun v w => Fsh B w v (dbl [(k.s 0), (k.s 1), (k.s 2), (k.s 3), (k.s 4), (k.s 5)]), fun v _ => v = .pointer (some ⟨p, 41, none⟩), fun v _ => v = .int .u64 (n64 (k.s 6)), fun v _ => v = .pointer (some ⟨p, 42, none⟩), fun v _ => v = .int .u64 (n64 (k.s 7)), fun v _ => v = .pointer (some ⟨p, 43, none⟩), fun v _ => v = .int .u64 (n64 (k.s 8)), fun v _ => v = .pointer (some ⟨p, 44, none⟩), fun v _ => v = .int .u64 (n64 (k.s 9)), fun v _ => v = .pointer (some ⟨p, 45, none⟩), fun v _ => v = .int .u64 (n64 (k.s 10)), fun v _ => v = .pointer (some ⟨p, 46, none⟩), fun v _ => v = .int .u64 (n64 (k.s 11)), fun v w => Dbs w v [(k.s 6), (k.s 7), (k.s 8), (k.s 9), (k.s 10), (k.s 11)], fun v w => Fsh B w v (dbl [(k.s 6), (k.s 7), (k.s 8), (k.s 9), (k.s 10), (k.s 11)]), fun v _ => v = .pointer (some ⟨p, 47, none⟩), fun v _ => v = .pointer (some ⟨p, 47, none⟩), fun v w => Byt w v ((List.range 16).map (fun i => n8 (k.c i))), fun v _ => v = .pointer (some ⟨p, 47, none⟩), fun v _ => v = .pointer (some ⟨p, 63, none⟩), fun v w => Dbs w v ((List.range 16).map k.a), fun v w => Fsh B w v (dbl ((List.range 16).map k.a)), fun v _ => v = .pointer (some ⟨p, 79, none⟩), fun v _ => v = .pointer (some ⟨p, 79, none⟩), fun v _ => v = .bool k.rv, fun v _ => v = .int .u8 (fl k.rv), fun v w => Byt w v [(fl k.rv)], fun v _ => v = .pointer (some ⟨p, 79, none⟩), fun v _ => v = .pointer (some ⟨p, 80, none⟩), fun v _ => v = .int .u64 (n64 k.ra), fun v w => Dbs w v [k.ra], fun v w => Fsh B w v (dbl [k.ra]), fun v _ => v = .pointer (some ⟨p, 79, none⟩), fun v _ => v = .pointer (some ⟨p, 81, none⟩), fun v _ => v = .int .i64 k.rs, fun v _ => v = .int .u8 (k.rs % 256), fun v w => Byt w v [(k.rs % 256)], fun v w => Rws w v (cpuS k), fun v w => Fsh B w v (cpuS k).flatten, fun v w => Fsh B w v (cpuS k).flatten] : List (Value → World → Prop)).getD i (fun _ _ => True)) W _ (by kernel_rfl) ?_ (hop_list ⟨?_, ?_, ?_, ?_, ?_, ?_, ?_, ?_, ?_, ?_, ?_, ?_, ?_, ?_, ?_, ?_, ?_, ?_, ?_, ?_, ?_, ?_, ?_, ?_, ?_, ?_, ?_, ?_, ?_, ?_, ?_, ?_, ?_, ?_, ?_, ?_, ?_, ?_, ?_, ?_, ?_, ?_, ?_, ?_, ?_, ?_, ?_, ?_, ?_, ?_, ?_, ?_, ?_, ?_, ?_, ?_, ?_, ?_, ?_, ?_, ?_, ?_, ?_, ?_, ?_, ?_, ?_, trivial⟩) ?_
  · intro j v w1 w2 h hb
    match j, h with
    | 2, h => exact Dbs.later h hb
    | 3, h => exact Fsh.later h hb
    | 5, h => exact Dbs.later h hb
    | 6, h => exact Fsh.later h hb
    | 13, h => exact Byt.later h hb rfl
    | 26, h => exact Dbs.later h hb
    | 27, h => exact Fsh.later h hb
    | 40, h => exact Dbs.later h hb
    | 41, h => exact Fsh.later h hb
    | 44, h => exact Byt.later h hb rfl
    | 47, h => exact Dbs.later h hb
    | 48, h => exact Fsh.later h hb
    | 53, h => exact Byt.later h hb rfl
    | 57, h => exact Dbs.later h hb
    | 58, h => exact Fsh.later h hb
    | 63, h => exact Byt.later h hb rfl
    | 64, h => exact Rws.later h hb rfl
    | 65, h => exact Fsh.later h hb
    | 66, h => exact Fsh.later h hb
    | 0, h | 1, h | 4, h | 7, h | 8, h | 9, h | 10, h | 11, h | 12, h | 14, h | 15, h | 16, h | 17, h | 18, h | 19, h | 20, h | 21, h | 22, h | 23, h | 24, h | 25, h | 28, h | 29, h | 30, h | 31, h | 32, h | 33, h | 34, h | 35, h | 36, h | 37, h | 38, h | 39, h | 42, h | 43, h | 45, h | 46, h | 49, h | 50, h | 51, h | 52, h | 54, h | 55, h | 56, h | 59, h | 60, h | 61, h | 62, h | _ + 67, h => exact h
  · refine stp_con _ rfl rfl rfl (by simp) (fun a w9 h1 h2 h3 => ?_)
    have q0 : a.eval (.tmp 1) = .pointer (some ⟨p, 0, none⟩) := (h1 1 (by kernel_rfl)).trans rfl
    clear h1 h2 h3
    generalize a.eval = ρ at *
    simp [execOp, q0, go_sem]
  · refine stp_con _ rfl rfl rfl (by simp) (fun a w9 h1 h2 h3 => ?_)
    have q0 : a.eval (.tmp 3) = .pointer (some ⟨p, 0, none⟩) := h3 0 (by decide)
    have hc : w9.cell? ⟨p, 0, none⟩ = some (.int .u64 (n64 k.pc)) := (h2.cell hlt).trans ((hcl 0).trans ((cpc_at k 0 (by decide)).trans (congrArg some (cpcell_pc k))))
    clear h1 h2 h3
    generalize a.eval = ρ at *
    simp [execOp, q0, hc, go_sem]
  · refine stp_val rfl rfl (by simp) (fun a w9 h1 h2 h3 => ?_)
    have q0 : a.eval (.tmp 4) = .int .u64 (n64 k.pc) := h3 1 (by decide)
    refine ⟨.slice (some ⟨w9.heap.size, 0, none⟩) 1 1, w9.alloc (.cells #[.int .u64 (n64 k.pc)] 22), ?_, below_al _ _, ?_⟩
    · clear h1 h2 h3
      generalize a.eval = ρ at *
      simp [execOp, q0, go_sem]
    · exact dbs_new w9 [k.pc]
  · refine stp_call 42 rfl rfl (by simp) (fun a w9 h1 h2 h3 => ?_)
    have m0 : Dbs w9 (a.eval (.tmp 5)) [k.pc] := h3 2 (by decide)
    refine ⟨#[a.eval (.tmp 5)], ?_, ?_⟩
    · have hf : a.eval (.func 42) = .func (.func 42) #[] #[] := rfl
      clear h1 h2 h3 m0
      generalize a.eval = ρ at *
      simp [execOp, hf, go_sem]
    · exact (doubles_c [k.pc] (by simp) _ w9 m0).mono fun e w2 ⟨u, e1, e2, e3⟩ => ⟨u, e1, e3, e2.mono (Nat.le_trans hBW h2.size)⟩
  · refine stp_con _ rfl rfl rfl (by simp) (fun a w9 h1 h2 h3 => ?_)
    have q0 : a.eval (.tmp 1) = .pointer (some ⟨p, 0, none⟩) := (h1 1 (by kernel_rfl)).trans rfl
    clear h1 h2 h3
    generalize a.eval = ρ at *
    simp [execOp, q0, go_sem]
  · refine stp_val rfl rfl (by simp) (fun a w9 h1 h2 h3 => ?_)
    have q0 : a.eval (.tmp 7) = .pointer (some ⟨p, 1, none⟩) := h3 4 (by decide)
    refine ⟨.slice (some ⟨p, 1, none⟩) 32 32, w9, ?_, Below.refl _ _, ?_⟩
    · clear h1 h2 h3
      generalize a.eval = ρ at *
      simp [execOp, q0, go_sem]
    · exact hcx.later h2
  · refine stp_call 42 rfl rfl (by simp) (fun a w9 h1 h2 h3 => ?_)
    have m0 : Dbs w9 (a.eval (.tmp 8)) ((List.range 32).map k.x) := h3 5 (by decide)
    refine ⟨#[a.eval (.tmp 8)], ?_, ?_⟩
    · have hf : a.eval (.func 42) = .func (.func 42) #[] #[] := rfl
      clear h1 h2 h3 m0
      generalize a.eval = ρ at *
      simp [execOp, hf, go_sem]
    · exact (doubles_c ((List.range 32).map k.x) (by simp) _ w9 m0).mono fun e w2 ⟨u, e1, e2, e3⟩ => ⟨u, e1, e3, e2.mono (Nat.le_trans hBW h2.size)⟩
  · refine stp_con _ rfl rfl rfl (by simp) (fun a w9 h1 h2 h3 => ?_)
    have q0 : a.eval (.tmp 1) = .pointer (some ⟨p, 0, none⟩) := (h1 1 (by kernel_rfl)).trans rfl
    clear h1 h2 h3
    generalize a.eval = ρ at *
    simp [execOp, q0, go_sem]
  · refine stp_con _ rfl rfl rfl (by simp) (fun a w9 h1 h2 h3 => ?_)
    have q0 : a.eval (.tmp 10) = .pointer (some ⟨p, 33, none⟩) := h3 7 (by decide)
    have hc : w9.cell? ⟨p, 33, none⟩ = some (.int .i64 k.md) := (h2.cell hlt).trans ((hcl 33).trans ((cpc_at k 33 (by decide)).trans (congrArg some (cpcell_md k))))
    clear h1 h2 h3
    generalize a.eval = ρ at *
    simp [execOp, q0, hc, go_sem]
  · refine stp_con _ rfl rfl rfl (by simp) (fun a w9 h1 h2 h3 => ?_)
    have q0 : a.eval (.tmp 11) = .int .i64 k.md := h3 8 (by decide)
    clear h1 h2 h3
    generalize a.eval = ρ at *
    simp [execOp, q0, u8w, go_sem]
  · refine stp_con _ rfl rfl rfl (by simp) (fun a w9 h1 h2 h3 => ?_)
    have q0 : a.eval (.tmp 1) = .pointer (some ⟨p, 0, none⟩) := (h1 1 (by kernel_rfl)).trans rfl
    clear h1 h2 h3
    generalize a.eval = ρ at *
    simp [execOp, q0, go_sem]
  · refine stp_con _ rfl rfl rfl (by simp) (fun a w9 h1 h2 h3 => ?_)
    have q0 : a.eval (.tmp 13) = .pointer (some ⟨p, 34, none⟩) := h3 10 (by decide)
    have hc : w9.cell? ⟨p, 34, none⟩ = some (.bool k.wt) := (h2.cell hlt).trans ((hcl 34).trans ((cpc_at k 34 (by decide)).trans (congrArg some (cpcell_wt k))))
    clear h1 h2 h3
    generalize a.eval = ρ at *
    simp [execOp, q0, hc, go_sem]
  · refine stp_call 43 rfl rfl (by simp) (fun a w9 h1 h2 h3 => ?_)
    have q0 : a.eval (.tmp 14) = .bool k.wt := h3 11 (by decide)
    refine ⟨#[.bool k.wt], ?_, ?_⟩
    · have hf : a.eval (.func 43) = .func (.func 43) #[] #[] := rfl
      clear h1 h2 h3
      generalize a.eval = ρ at *
      simp [execOp, q0, hf, go_sem]
    · exact (sflag_c k.wt w9).mono fun e w2 ⟨e1, e2⟩ => ⟨_, e1, by rw [e2]; exact Below.refl _ _, rfl⟩
  · refine stp_val rfl rfl (by simp) (fun a w9 h1 h2 h3 => ?_)
    have q0 : a.eval (.tmp 12) = .int .u8 (k.md % 256) := h3 9 (by decide)
    have q1 : a.eval (.tmp 15) = .int .u8 (fl k.wt) := h3 12 (by decide)
    refine ⟨.slice (some ⟨w9.heap.size, 0, none⟩) 2 2, w9.alloc (.cells #[.int .u8 (k.md % 256), .int .u8 (fl k.wt)] 5), ?_, below_al _ _, ?_⟩
    · clear h1 h2 h3
      generalize a.eval = ρ at *
      simp [execOp, q0, q1, go_sem]
    · exact byt_new w9 [(k.md % 256), (fl k.wt)]
  · refine stp_con _ rfl rfl rfl (by simp) (fun a w9 h1 h2 h3 => ?_)
    have q0 : a.eval (.tmp 1) = .pointer (some ⟨p, 0, none⟩) := (h1 1 (by kernel_rfl)).trans rfl
    clear h1 h2 h3
    generalize a.eval = ρ at *
    simp [execOp, q0, go_sem]
  · refine stp_con _ rfl rfl rfl (by simp) (fun a w9 h1 h2 h3 => ?_)
    have q0 : a.eval (.tmp 17) = .pointer (some ⟨p, 35, none⟩) := h3 14 (by decide)
    have hc : w9.cell? ⟨p, 35, none⟩ = some (.int .u64 (n64 (k.s 0))) := (h2.cell hlt).trans ((hcl 35).trans ((cpc_at k 35 (by decide)).trans (congrArg some (cpcell_s k 0 (by decide)))))
    clear h1 h2 h3
    generalize a.eval = ρ at *
    simp [execOp, q0, hc, go_sem]
  · refine stp_con _ rfl rfl rfl (by simp) (fun a w9 h1 h2 h3 => ?_)
    have q0 : a.eval (.tmp 1) = .pointer (some ⟨p, 0, none⟩) := (h1 1 (by kernel_rfl)).trans rfl
    clear h1 h2 h3
    generalize a.eval = ρ at *
    simp [execOp, q0, go_sem]
  · refine stp_con _ rfl rfl rfl (by simp) (fun a w9 h1 h2 h3 => ?_)
    have q0 : a.eval (.tmp 19) = .pointer (some ⟨p, 36, none⟩) := h3 16 (by decide)
    have hc : w9.cell? ⟨p, 36, none⟩ = some (.int .u64 (n64 (k.s 1))) := (h2.cell hlt).trans ((hcl 36).trans ((cpc_at k 36 (by decide)).trans (congrArg some (cpcell_s k 1 (by decide)))))
    clear h1 h2 h3
    generalize a.eval = ρ at *
    simp [execOp, q0, hc, go_sem]
  · refine stp_con _ rfl rfl rfl (by simp) (fun a w9 h1 h2 h3 => ?_)
    have q0 : a.eval (.tmp 1) = .pointer (some ⟨p, 0, none⟩) := (h1 1 (by kernel_rfl)).trans rfl
    clear h1 h2 h3
    generalize a.eval = ρ at *
    simp [execOp, q0, go_sem]
  · refine stp_con _ rfl rfl rfl (by simp) (fun a w9 h1 h2 h3 => ?_)
    have q0 : a.eval (.tmp 21) = .pointer (some ⟨p, 37, none⟩) := h3 18 (by decide)
    have hc : w9.cell? ⟨p, 37, none⟩ = some (.int .u64 (n64 (k.s 2))) := (h2.cell hlt).trans ((hcl 37).trans ((cpc_at k 37 (by decide)).trans (congrArg some (cpcell_s k 2 (by decide)))))
    clear h1 h2 h3
    generalize a.eval = ρ at *
    simp [execOp, q0, hc, go_sem]
  · refine stp_con _ rfl rfl rfl (by simp) (fun a w9 h1 h2 h3 => ?_)
    have q0 : a.eval (.tmp 1) = .pointer (some ⟨p, 0, none⟩) := (h1 1 (by kernel_rfl)).trans rfl
    clear h1 h2 h3
    generalize a.eval = ρ at *
    simp [execOp, q0, go_sem]
  · refine stp_con _ rfl rfl rfl (by simp) (fun a w9 h1 h2 h3 => ?_)
    have q0 : a.eval (.tmp 23) = .pointer (some ⟨p, 38, none⟩) := h3 20 (by decide)
    have hc : w9.cell? ⟨p, 38, none⟩ = some (.int .u64 (n64 (k.s 3))) := (h2.cell hlt).trans ((hcl 38).trans ((cpc_at k 38 (by decide)).trans (congrArg some (cpcell_s k 3 (by decide)))))
    clear h1 h2 h3
    generalize a.eval = ρ at *
    simp [execOp, q0, hc, go_sem]
  · refine stp_con _ rfl rfl rfl (by simp) (fun a w9 h1 h2 h3 => ?_)
    have q0 : a.eval (.tmp 1) = .pointer (some ⟨p, 0, none⟩) := (h1 1 (by kernel_rfl)).trans rfl
    clear h1 h2 h3
    generalize a.eval = ρ at *
    simp [execOp, q0, go_sem]
  · refine stp_con _ rfl rfl rfl (by simp) (fun a w9 h1 h2 h3 => ?_)
    have q0 : a.eval (.tmp 25) = .pointer (some ⟨p, 39, none⟩) := h3 22 (by decide)
    have hc : w9.cell? ⟨p, 39, none⟩ = some (.int .u64 (n64 (k.s 4))) := (h2.cell hlt).trans ((hcl 39).trans ((cpc_at k 39 (by decide)).trans (congrArg some (cpcell_s k 4 (by decide)))))
    clear h1 h2 h3
    generalize a.eval = ρ at *
    simp [execOp, q0, hc, go_sem]
  · refine stp_con _ rfl rfl rfl (by simp) (fun a w9 h1 h2 h3 => ?_)
    have q0 : a.eval (.tmp 1) = .pointer (some ⟨p, 0, none⟩) := (h1 1 (by kernel_rfl)).trans rfl
    clear h1 h2 h3
    generalize a.eval = ρ at *
    simp [execOp, q0, go_sem]
  · refine stp_con _ rfl rfl rfl (by simp) (fun a w9 h1 h2 h3 => ?_)
    have q0 : a.eval (.tmp 27) = .pointer (some ⟨p, 40, none⟩) := h3 24 (by decide)
    have hc : w9.cell? ⟨p, 40, none⟩ = some (.int .u64 (n64 (k.s 5))) := (h2.cell hlt).trans ((hcl 40).trans ((cpc_at k 40 (by decide)).trans (congrArg some (cpcell_s k 5 (by decide)))))
    clear h1 h2 h3
    generalize a.eval = ρ at *
    simp [execOp, q0, hc, go_sem]
  · refine stp_val rfl rfl (by simp) (fun a w9 h1 h2 h3 => ?_)
    have q0 : a.eval (.tmp 18) = .int .u64 (n64 (k.s 0)) := h3 15 (by decide)
    have q1 : a.eval (.tmp 20) = .int .u64 (n64 (k.s 1)) := h3 17 (by decide)
    have q2 : a.eval (.tmp 22) = .int .u64 (n64 (k.s 2)) := h3 19 (by decide)
    have q3 : a.eval (.tmp 24) = .int .u64 (n64 (k.s 3)) := h3 21 (by decide)
    have q4 : a.eval (.tmp 26) = .int .u64 (n64 (k.s 4)) := h3 23 (by decide)
    have q5 : a.eval (.tmp 28) = .int .u64 (n64 (k.s 5)) := h3 25 (by decide)
    refine ⟨.slice (some ⟨w9.heap.size, 0, none⟩) 6 6, w9.alloc (.cells #[.int .u64 (n64 (k.s 0)), .int .u64 (n64 (k.s 1)), .int .u64 (n64 (k.s 2)), .int .u64 (n64 (k.s 3)), .int .u64 (n64 (k.s 4)), .int .u64 (n64 (k.s 5))] 22), ?_, below_al _ _, ?_⟩
    · clear h1 h2 h3
      generalize a.eval = ρ at *
      simp [execOp, q0, q1, q2, q3, q4, q5, go_sem]
    · exact dbs_new w9 [(k.s 0), (k.s 1), (k.s 2), (k.s 3), (k.s 4), (k.s 5)]
  · refine stp_call 42 rfl rfl (by simp) (fun a w9 h1 h2 h3 => ?_)
    have m0 : Dbs w9 (a.eval (.tmp 29)) [(k.s 0), (k.s 1), (k.s 2), (k.s 3), (k.s 4), (k.s 5)] := h3 26 (by decide)
    refine ⟨#[a.eval (.tmp 29)], ?_, ?_⟩
    · have hf : a.eval (.func 42) = .func (.func 42) #[] #[] := rfl
      clear h1 h2 h3 m0
      generalize a.eval = ρ at *
      simp [execOp, hf, go_sem]
    · exact (doubles_c [(k.s 0), (k.s 1), (k.s 2), (k.s 3), (k.s 4), (k.s 5)] (by simp) _ w9 m0).mono fun e w2 ⟨u, e1, e2, e3⟩ => ⟨u, e1, e3, e2.mono (Nat.le_trans hBW h2.size)⟩
  · refine stp_con _ rfl rfl rfl (by simp) (fun a w9 h1 h2 h3 => ?_)
    have q0 : a.eval (.tmp 1) = .pointer (some ⟨p, 0, none⟩) := (h1 1 (by kernel_rfl)).trans rfl
    clear h1 h2 h3
    generalize a.eval = ρ at *
    simp [execOp, q0, go_sem]
  · refine stp_con _ rfl rfl rfl (by simp) (fun a w9 h1 h2 h3 => ?_)
    have q0 : a.eval (.tmp 31) = .pointer (some ⟨p, 41, none⟩) := h3 28 (by decide)
    have hc : w9.cell? ⟨p, 41, none⟩ = some (.int .u64 (n64 (k.s 6))) := (h2.cell hlt).trans ((hcl 41).trans ((cpc_at k 41 (by decide)).trans (congrArg some (cpcell_s k 6 (by decide)))))
    clear h1 h2 h3
    generalize a.eval = ρ at *
    simp [execOp, q0, hc, go_sem]
  · refine stp_con _ rfl rfl rfl (by simp) (fun a w9 h1 h2 h3 => ?_)
    have q0 : a.eval (.tmp 1) = .pointer (some ⟨p, 0, none⟩) := (h1 1 (by kernel_rfl)).trans rfl
    clear h1 h2 h3
    generalize a.eval = ρ at *
    simp [execOp, q0, go_sem]
  · refine stp_con _ rfl rfl rfl (by simp) (fun a w9 h1 h2 h3 => ?_)
    have q0 : a.eval (.tmp 33) = .pointer (some ⟨p, 42, none⟩) := h3 30 (by decide)
    have hc : w9.cell? ⟨p, 42, none⟩ = some (.int .u64 (n64 (k.s 7))) := (h2.cell hlt).trans ((hcl 42).trans ((cpc_at k 42 (by decide)).trans (congrArg some (cpcell_s k 7 (by decide)))))
    clear h1 h2 h3
    generalize a.eval = ρ at *
    simp [execOp, q0, hc, go_sem]
  · refine stp_con _ rfl rfl rfl (by simp) (fun a w9 h1 h2 h3 => ?_)
    have q0 : a.eval (.tmp 1) = .pointer (some ⟨p, 0, none⟩) := (h1 1 (by kernel_rfl)).trans rfl
    clear h1 h2 h3
    generalize a.eval = ρ at *
    simp [execOp, q0, go_sem]
  · refine stp_con _ rfl rfl rfl (by simp) (fun a w9 h1 h2 h3 => ?_)
    have q0 : a.eval (.tmp 35) = .pointer (some ⟨p, 43, none⟩) := h3 32 (by decide)
    have hc : w9.cell? ⟨p, 43, none⟩ = some (.int .u64 (n64 (k.s 8))) := (h2.cell hlt).trans ((hcl 43).trans ((cpc_at k 43 (by decide)).trans (congrArg some (cpcell_s k 8 (by decide)))))
    clear h1 h2 h3
    generalize a.eval = ρ at *
    simp [execOp, q0, hc, go_sem]
  · refine stp_con _ rfl rfl rfl (by simp) (fun a w9 h1 h2 h3 => ?_)
    have q0 : a.eval (.tmp 1) = .pointer (some ⟨p, 0, none⟩) := (h1 1 (by kernel_rfl)).trans rfl
    clear h1 h2 h3
    generalize a.eval = ρ at *
    simp [execOp, q0, go_sem]
  · refine stp_con _ rfl rfl rfl (by simp) (fun a w9 h1 h2 h3 => ?_)
    have q0 : a.eval (.tmp 37) = .pointer (some ⟨p, 44, none⟩) := h3 34 (by decide)
    have hc : w9.cell? ⟨p, 44, none⟩ = some (.int .u64 (n64 (k.s 9))) := (h2.cell hlt).trans ((hcl 44).trans ((cpc_at k 44 (by decide)).trans (congrArg some (cpcell_s k 9 (by decide)))))
    clear h1 h2 h3
    generalize a.eval = ρ at *
    simp [execOp, q0, hc, go_sem]
  · refine stp_con _ rfl rfl rfl (by simp) (fun a w9 h1 h2 h3 => ?_)
    have q0 : a.eval (.tmp 1) = .pointer (some ⟨p, 0, none⟩) := (h1 1 (by kernel_rfl)).trans rfl
    clear h1 h2 h3
    generalize a.eval = ρ at *
    simp [execOp, q0, go_sem]
  · refine stp_con _ rfl rfl rfl (by simp) (fun a w9 h1 h2 h3 => ?_)
    have q0 : a.eval (.tmp 39) = .pointer (some ⟨p, 45, none⟩) := h3 36 (by decide)
    have hc : w9.cell? ⟨p, 45, none⟩ = some (.int .u64 (n64 (k.s 10))) := (h2.cell hlt).trans ((hcl 45).trans ((cpc_at k 45 (by decide)).trans (congrArg some (cpcell_s k 10 (by decide)))))
    clear h1 h2 h3
    generalize a.eval = ρ at *
    simp [execOp, q0, hc, go_sem]
  · refine stp_con _ rfl rfl rfl (by simp) (fun a w9 h1 h2 h3 => ?_)
    have q0 : a.eval (.tmp 1) = .pointer (some ⟨p, 0, none⟩) := (h1 1 (by kernel_rfl)).trans rfl
    clear h1 h2 h3
    generalize a.eval = ρ at *
    simp [execOp, q0, go_sem]
  · refine stp_con _ rfl rfl rfl (by simp) (fun a w9 h1 h2 h3 => ?_)
    have q0 : a.eval (.tmp 41) = .pointer (some ⟨p, 46, none⟩) := h3 38 (by decide)
    have hc : w9.cell? ⟨p, 46, none⟩ = some (.int .u64 (n64 (k.s 11))) := (h2.cell hlt).trans ((hcl 46).trans ((cpc_at k 46 (by decide)).trans (congrArg some (cpcell_s k 11 (by decide)))))
    clear h1 h2 h3
    generalize a.eval = ρ at *
    simp [execOp, q0, hc, go_sem]
  · refine stp_val rfl rfl (by simp) (fun a w9 h1 h2 h3 => ?_)
    have q0 : a.eval (.tmp 32) = .int .u64 (n64 (k.s 6)) := h3 29 (by decide)
    have q1 : a.eval (.tmp 34) = .int .u64 (n64 (k.s 7)) := h3 31 (by decide)
    have q2 : a.eval (.tmp 36) = .int .u64 (n64 (k.s 8)) := h3 33 (by decide)
    have q3 : a.eval (.tmp 38) = .int .u64 (n64 (k.s 9)) := h3 35 (by decide)
    have q4 : a.eval (.tmp 40) = .int .u64 (n64 (k.s 10)) := h3 37 (by decide)
    have q5 : a.eval (.tmp 42) = .int .u64 (n64 (k.s 11)) := h3 39 (by decide)
    refine ⟨.slice (some ⟨w9.heap.size, 0, none⟩) 6 6, w9.alloc (.cells #[.int .u64 (n64 (k.s 6)), .int .u64 (n64 (k.s 7)), .int .u64 (n64 (k.s 8)), .int .u64 (n64 (k.s 9)), .int .u64 (n64 (k.s 10)), .int .u64 (n64 (k.s 11))] 22), ?_, below_al _ _, ?_⟩
    · clear h1 h2 h3
      generalize a.eval = ρ at *
      simp [execOp, q0, q1, q2, q3, q4, q5, go_sem]
    · exact dbs_new w9 [(k.s 6), (k.s 7), (k.s 8), (k.s 9), (k.s 10), (k.s 11)]
  · refine stp_call 42 rfl rfl (by simp) (fun a w9 h1 h2 h3 => ?_)
    have m0 : Dbs w9 (a.eval (.tmp 43)) [(k.s 6), (k.s 7), (k.s 8), (k.s 9), (k.s 10), (k.s 11)] := h3 40 (by decide)
    refine ⟨#[a.eval (.tmp 43)], ?_, ?_⟩
    · have hf : a.eval (.func 42) = .func (.func 42) #[] #[] := rfl
      clear h1 h2 h3 m0
      generalize a.eval = ρ at *
      simp [execOp, hf, go_sem]
    · exact (doubles_c [(k.s 6), (k.s 7), (k.s 8), (k.s 9), (k.s 10), (k.s 11)] (by simp) _ w9 m0).mono fun e w2 ⟨u, e1, e2, e3⟩ => ⟨u, e1, e3, e2.mono (Nat.le_trans hBW h2.size)⟩
  · refine stp_con _ rfl rfl rfl (by simp) (fun a w9 h1 h2 h3 => ?_)
    have q0 : a.eval (.tmp 1) = .pointer (some ⟨p, 0, none⟩) := (h1 1 (by kernel_rfl)).trans rfl
    clear h1 h2 h3
    generalize a.eval = ρ at *
    simp [execOp, q0, go_sem]
  · refine stp_con _ rfl rfl rfl (by simp) (fun a w9 h1 h2 h3 => ?_)
    have q0 : a.eval (.tmp 45) = .pointer (some ⟨p, 47, none⟩) := h3 42 (by decide)
    clear h1 h2 h3
    generalize a.eval = ρ at *
    simp [execOp, q0, go_sem]
  · refine stp_val rfl rfl (by simp) (fun a w9 h1 h2 h3 => ?_)
    have q0 : a.eval (.tmp 46) = .pointer (some ⟨p, 47, none⟩) := h3 43 (by decide)
    refine ⟨.slice (some ⟨p, 47, none⟩) 16 16, w9, ?_, Below.refl _ _, ?_⟩
    · clear h1 h2 h3
      generalize a.eval = ρ at *
      simp [execOp, q0, go_sem]
    · exact hcc.later h2 rfl
  · refine stp_con _ rfl rfl rfl (by simp) (fun a w9 h1 h2 h3 => ?_)
    have q0 : a.eval (.tmp 1) = .pointer (some ⟨p, 0, none⟩) := (h1 1 (by kernel_rfl)).trans rfl
    clear h1 h2 h3
    generalize a.eval = ρ at *
    simp [execOp, q0, go_sem]
  · refine stp_con _ rfl rfl rfl (by simp) (fun a w9 h1 h2 h3 => ?_)
    have q0 : a.eval (.tmp 48) = .pointer (some ⟨p, 47, none⟩) := h3 45 (by decide)
    clear h1 h2 h3
    generalize a.eval = ρ at *
    simp [execOp, q0, go_sem]
  · refine stp_val rfl rfl (by simp) (fun a w9 h1 h2 h3 => ?_)
    have q0 : a.eval (.tmp 49) = .pointer (some ⟨p, 63, none⟩) := h3 46 (by decide)
    refine ⟨.slice (some ⟨p, 63, none⟩) 16 16, w9, ?_, Below.refl _ _, ?_⟩
    · clear h1 h2 h3
      generalize a.eval = ρ at *
      simp [execOp, q0, go_sem]
    · exact hca.later h2
  · refine stp_call 42 rfl rfl (by simp) (fun a w9 h1 h2 h3 => ?_)
    have m0 : Dbs w9 (a.eval (.tmp 50)) ((List.range 16).map k.a) := h3 47 (by decide)
    refine ⟨#[a.eval (.tmp 50)], ?_, ?_⟩
    · have hf : a.eval (.func 42) = .func (.func 42) #[] #[] := rfl
      clear h1 h2 h3 m0
      generalize a.eval = ρ at *
      simp [execOp, hf, go_sem]
    · exact (doubles_c ((List.range 16).map k.a) (by simp) _ w9 m0).mono fun e w2 ⟨u, e1, e2, e3⟩ => ⟨u, e1, e3, e2.mono (Nat.le_trans hBW h2.size)⟩
  · refine stp_con _ rfl rfl rfl (by simp) (fun a w9 h1 h2 h3 => ?_)
    have q0 : a.eval (.tmp 1) = .pointer (some ⟨p, 0, none⟩) := (h1 1 (by kernel_rfl)).trans rfl
    clear h1 h2 h3
    generalize a.eval = ρ at *
    simp [execOp, q0, go_sem]
  · refine stp_con _ rfl rfl rfl (by simp) (fun a w9 h1 h2 h3 => ?_)
    have q0 : a.eval (.tmp 52) = .pointer (some ⟨p, 79, none⟩) := h3 49 (by decide)
    clear h1 h2 h3
    generalize a.eval = ρ at *
    simp [execOp, q0, go_sem]
  · refine stp_con _ rfl rfl rfl (by simp) (fun a w9 h1 h2 h3 => ?_)
    have q0 : a.eval (.tmp 53) = .pointer (some ⟨p, 79, none⟩) := h3 50 (by decide)
    have hc : w9.cell? ⟨p, 79, none⟩ = some (.bool k.rv) := (h2.cell hlt).trans ((hcl 79).trans ((cpc_at k 79 (by decide)).trans (congrArg some (cpcell_rv k))))
    clear h1 h2 h3
    generalize a.eval = ρ at *
    simp [execOp, q0, hc, go_sem]
  · refine stp_call 43 rfl rfl (by simp) (fun a w9 h1 h2 h3 => ?_)
    have q0 : a.eval (.tmp 54) = .bool k.rv := h3 51 (by decide)
    refine ⟨#[.bool k.rv], ?_, ?_⟩
    · have hf : a.eval (.func 43) = .func (.func 43) #[] #[] := rfl
      clear h1 h2 h3
      generalize a.eval = ρ at *
      simp [execOp, q0, hf, go_sem]
    · exact (sflag_c k.rv w9).mono fun e w2 ⟨e1, e2⟩ => ⟨_, e1, by rw [e2]; exact Below.refl _ _, rfl⟩
  · refine stp_val rfl rfl (by simp) (fun a w9 h1 h2 h3 => ?_)
    have q0 : a.eval (.tmp 55) = .int .u8 (fl k.rv) := h3 52 (by decide)
    refine ⟨.slice (some ⟨w9.heap.size, 0, none⟩) 1 1, w9.alloc (.cells #[.int .u8 (fl k.rv)] 5), ?_, below_al _ _, ?_⟩
    · clear h1 h2 h3
      generalize a.eval = ρ at *
      simp [execOp, q0, go_sem]
    · exact byt_new w9 [(fl k.rv)]
  · refine stp_con _ rfl rfl rfl (by simp) (fun a w9 h1 h2 h3 => ?_)
    have q0 : a.eval (.tmp 1) = .pointer (some ⟨p, 0, none⟩) := (h1 1 (by kernel_rfl)).trans rfl
    clear h1 h2 h3
    generalize a.eval = ρ at *
    simp [execOp, q0, go_sem]
  · refine stp_con _ rfl rfl rfl (by simp) (fun a w9 h1 h2 h3 => ?_)
    have q0 : a.eval (.tmp 57) = .pointer (some ⟨p, 79, none⟩) := h3 54 (by decide)
    clear h1 h2 h3
    generalize a.eval = ρ at *
    simp [execOp, q0, go_sem]
  · refine stp_con _ rfl rfl rfl (by simp) (fun a w9 h1 h2 h3 => ?_)
    have q0 : a.eval (.tmp 58) = .pointer (some ⟨p, 80, none⟩) := h3 55 (by decide)
    have hc : w9.cell? ⟨p, 80, none⟩ = some (.int .u64 (n64 k.ra)) := (h2.cell hlt).trans ((hcl 80).trans ((cpc_at k 80 (by decide)).trans (congrArg some (cpcell_ra k))))
    clear h1 h2 h3
    generalize a.eval = ρ at *
    simp [execOp, q0, hc, go_sem]
  · refine stp_val rfl rfl (by simp) (fun a w9 h1 h2 h3 => ?_)
    have q0 : a.eval (.tmp 59) = .int .u64 (n64 k.ra) := h3 56 (by decide)
    refine ⟨.slice (some ⟨w9.heap.size, 0, none⟩) 1 1, w9.alloc (.cells #[.int .u64 (n64 k.ra)] 22), ?_, below_al _ _, ?_⟩
    · clear h1 h2 h3
      generalize a.eval = ρ at *
      simp [execOp, q0, go_sem]
    · exact dbs_new w9 [k.ra]
  · refine stp_call 42 rfl rfl (by simp) (fun a w9 h1 h2 h3 => ?_)
    have m0 : Dbs w9 (a.eval (.tmp 60)) [k.ra] := h3 57 (by decide)
    refine ⟨#[a.eval (.tmp 60)], ?_, ?_⟩
    · have hf : a.eval (.func 42) = .func (.func 42) #[] #[] := rfl
      clear h1 h2 h3 m0
      generalize a.eval = ρ at *
      simp [execOp, hf, go_sem]
    · exact (doubles_c [k.ra] (by simp) _ w9 m0).mono fun e w2 ⟨u, e1, e2, e3⟩ => ⟨u, e1, e3, e2.mono (Nat.le_trans hBW h2.size)⟩
  · refine stp_con _ rfl rfl rfl (by simp) (fun a w9 h1 h2 h3 => ?_)
    have q0 : a.eval (.tmp 1) = .pointer (some ⟨p, 0, none⟩) := (h1 1 (by kernel_rfl)).trans rfl
    clear h1 h2 h3
    generalize a.eval = ρ at *
    simp [execOp, q0, go_sem]
  · refine stp_con _ rfl rfl rfl (by simp) (fun a w9 h1 h2 h3 => ?_)
    have q0 : a.eval (.tmp 62) = .pointer (some ⟨p, 79, none⟩) := h3 59 (by decide)
    clear h1 h2 h3
    generalize a.eval = ρ at *
    simp [execOp, q0, go_sem]
  · refine stp_con _ rfl rfl rfl (by simp) (fun a w9 h1 h2 h3 => ?_)
    have q0 : a.eval (.tmp 63) = .pointer (some ⟨p, 81, none⟩) := h3 60 (by decide)
    have hc : w9.cell? ⟨p, 81, none⟩ = some (.int .i64 k.rs) := (h2.cell hlt).trans ((hcl 81).trans ((cpc_at k 81 (by decide)).trans (congrArg some (cpcell_rs k))))
    clear h1 h2 h3
    generalize a.eval = ρ at *
    simp [execOp, q0, hc, go_sem]
  · refine stp_con _ rfl rfl rfl (by simp) (fun a w9 h1 h2 h3 => ?_)
    have q0 : a.eval (.tmp 64) = .int .i64 k.rs := h3 61 (by decide)
    clear h1 h2 h3
    generalize a.eval = ρ at *
    simp [execOp, q0, u8w, go_sem]
  · refine stp_val rfl rfl (by simp) (fun a w9 h1 h2 h3 => ?_)
    have q0 : a.eval (.tmp 65) = .int .u8 (k.rs % 256) := h3 62 (by decide)
    refine ⟨.slice (some ⟨w9.heap.size, 0, none⟩) 1 1, w9.alloc (.cells #[.int .u8 (k.rs % 256)] 5), ?_, below_al _ _, ?_⟩
    · clear h1 h2 h3
      generalize a.eval = ρ at *
      simp [execOp, q0, go_sem]
    · exact byt_new w9 [(k.rs % 256)]
  · refine stp_val rfl rfl (by simp) (fun a w9 h1 h2 h3 => ?_)
    have y0 : Fsh B w9 (a.eval (.tmp 6)) (dbl [k.pc]) := h3 3 (by decide)
    have z0 : Byt w9 (a.eval (.tmp 6)) _ := y0.byt
    obtain ⟨a0, n0, c0, e0⟩ := z0.sl
    have y1 : Fsh B w9 (a.eval (.tmp 9)) (dbl ((List.range 32).map k.x)) := h3 6 (by decide)
    have z1 : Byt w9 (a.eval (.tmp 9)) _ := y1.byt
    obtain ⟨a1, n1, c1, e1⟩ := z1.sl
    have y2 : Byt w9 (a.eval (.tmp 16)) [(k.md % 256), (fl k.wt)] := h3 13 (by decide)
    have z2 : Byt w9 (a.eval (.tmp 16)) _ := y2
    obtain ⟨a2, n2, c2, e2⟩ := z2.sl
    have y3 : Fsh B w9 (a.eval (.tmp 30)) (dbl [(k.s 0), (k.s 1), (k.s 2), (k.s 3), (k.s 4), (k.s 5)]) := h3 27 (by decide)
    have z3 : Byt w9 (a.eval (.tmp 30)) _ := y3.byt
    obtain ⟨a3, n3, c3, e3⟩ := z3.sl
    have y4 : Fsh B w9 (a.eval (.tmp 44)) (dbl [(k.s 6), (k.s 7), (k.s 8), (k.s 9), (k.s 10), (k.s 11)]) := h3 41 (by decide)
    have z4 : Byt w9 (a.eval (.tmp 44)) _ := y4.byt
    obtain ⟨a4, n4, c4, e4⟩ := z4.sl
    have y5 : Byt w9 (a.eval (.tmp 47)) ((List.range 16).map (fun i => n8 (k.c i))) := h3 44 (by decide)
    have z5 : Byt w9 (a.eval (.tmp 47)) _ := y5
    obtain ⟨a5, n5, c5, e5⟩ := z5.sl
    have y6 : Fsh B w9 (a.eval (.tmp 51)) (dbl ((List.range 16).map k.a)) := h3 48 (by decide)
    have z6 : Byt w9 (a.eval (.tmp 51)) _ := y6.byt
    obtain ⟨a6, n6, c6, e6⟩ := z6.sl
    have y7 : Byt w9 (a.eval (.tmp 56)) [(fl k.rv)] := h3 53 (by decide)
    have z7 : Byt w9 (a.eval (.tmp 56)) _ := y7
    obtain ⟨a7, n7, c7, e7⟩ := z7.sl
    have y8 : Fsh B w9 (a.eval (.tmp 61)) (dbl [k.ra]) := h3 58 (by decide)
    have z8 : Byt w9 (a.eval (.tmp 61)) _ := y8.byt
    obtain ⟨a8, n8, c8, e8⟩ := z8.sl
    have y9 : Byt w9 (a.eval (.tmp 66)) [(k.rs % 256)] := h3 63 (by decide)
    have z9 : Byt w9 (a.eval (.tmp 66)) _ := y9
    obtain ⟨a9, n9, c9, e9⟩ := z9.sl
    rw [e0] at z0
    rw [e1] at z1
    rw [e2] at z2
    rw [e3] at z3
    rw [e4] at z4
    rw [e5] at z5
    rw [e6] at z6
    rw [e7] at z7
    rw [e8] at z8
    rw [e9] at z9
    refine ⟨.slice (some ⟨w9.heap.size, 0, none⟩) 10 10, w9.alloc (.cells #[.slice a0 n0 c0, .slice a1 n1 c1, .slice a2 n2 c2, .slice a3 n3 c3, .slice a4 n4 c4, .slice a5 n5 c5, .slice a6 n6 c6, .slice a7 n7 c7, .slice a8 n8 c8, .slice a9 n9 c9] 32), ?_, below_al _ _, ?_⟩
    · clear h1 h2 h3
      generalize a.eval = ρ at *
      simp [execOp, e0, e1, e2, e3, e4, e5, e6, e7, e8, e9, go_sem]
    · refine rws_new w9 [.slice a0 n0 c0, .slice a1 n1 c1, .slice a2 n2 c2, .slice a3 n3 c3, .slice a4 n4 c4, .slice a5 n5 c5, .slice a6 n6 c6, .slice a7 n7 c7, .slice a8 n8 c8, .slice a9 n9 c9] (cpuS k) rfl ?_
      intro j hj
      match j, hj with
      | 0, _ => exact z0
      | 1, _ => exact z1
      | 2, _ => exact z2
      | 3, _ => exact z3
      | 4, _ => exact z4
      | 5, _ => exact z5
      | 6, _ => exact z6
      | 7, _ => exact z7
      | 8, _ => exact z8
      | 9, _ => exact z9
      | _ + 10, hj => exact absurd (show _ + 10 < 10 from hj) (by omega)
  · refine stp_call 20 rfl rfl (by simp) (fun a w9 h1 h2 h3 => ?_)
    have m0 : Rws w9 (a.eval (.tmp 67)) (cpuS k) := h3 64 (by decide)
    refine ⟨#[a.eval (.tmp 67)], ?_, ?_⟩
    · have hf : a.eval (.func 20) = .func (.func 20) #[] #[] := rfl
      clear h1 h2 h3 m0
      generalize a.eval = ρ at *
      simp [execOp, hf, go_sem]
    · exact (joined_c (cpuS k) hJL (by rw [hJN]; omega) _ w9 m0).mono fun e w2 ⟨u, e1, e2, e3⟩ => ⟨u, e1, e3, e2.mono (Nat.le_trans hBW h2.size)⟩
  · refine stp_val rfl rfl (by simp) (fun a w9 h1 h2 h3 => ?_)
    refine ⟨a.eval (.tmp 68), w9, ?_, Below.refl _ _, h3 65 (by decide)⟩
    clear h1 h2 h3
    generalize a.eval = ρ at *
    simp [execOp, go_sem]
  · intro a w1 hts hdf hold hb hf
    have e2 : Fsh B w1 (a.eval (.tmp 2)) (cpuS k).flatten := hf 66 (by decide)
    refine hK a w1 ?_
    refine wp_ret (bodyPost_ret (v := a.eval (.tmp 2)) ?_ hdf ?_)
    · have e := results_tmp (fn := Try.f21) (t := 2) rfl a.tmps Try.prog w1
      rw [e]
      simp [Act.eval]
    · refine ⟨_, rfl, ?_, ?_⟩
      · rw [← HB0.out]; exact e2
      · exact HBB.out.trans (hb.mono HBB.out.size)
end Go.Proofs.Ytnlkamfoopikhaa
