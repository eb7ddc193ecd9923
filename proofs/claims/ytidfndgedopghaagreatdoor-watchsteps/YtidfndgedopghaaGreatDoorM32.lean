/-
  Oh.
-/
import Derived.Test.YtidfndgedopghaaGreatDoorM31
namespace Go.Proofs.YtidfndgedopghaaGreatDoor
set_option linter.unusedVariables false
set_option maxRecDepth 100000
set_option maxHeartbeats 4000000
open Go.ChangeShapes Go.WideShapes Go.ChangeAt Go.RowKit Go.Deep
theorem built_wh2 (K : Cp) (S : St) (vr vi vo : Value) : Tryz.prog.built 46 [(0, .agg (cpc K)), (1, .agg (stc S vr vi vo))] = some (whc K S vr vi vo) := by kernel_rfl
/-- What a copy is. -/
def Cpy (B : Nat) (K : Cp) (S : St) (v : Value) (x : World) : Prop := ∃ ur ui uo, v = .agg (whc K S ur ui uo) ∧ ∃ B', B ≤ B' ∧ Sv B' S ur ui uo x
def CpS (B : Nat) (S : St) (v : Value) (x : World) : Prop := ∃ ur ui uo, v = .agg (stc S ur ui uo) ∧ ∃ B', B ≤ B' ∧ Sv B' S ur ui uo x
set_option maxHeartbeats 8000000 in
theorem twin_c (K : Cp) (S : St) (vr vi vo : Value) (w : World) (hB : Bs S vr vi vo w) (l1 : S.ram.length ≤ 140737488355328) (l2 : S.inp.length ≤ 140737488355328) (l3 : S.out.length ≤ 140737488355328) :
    Calls Tryz.prog 11 #[.agg (whc K S vr vi vo)] w fun e w' => ∃ ur ui uo, e = .returned (.agg (whc K S ur ui uo)) ∧ Bs S ur ui uo w' ∧ (whc K S ur ui uo).all (·.oneCell') = true ∧ Below w.heap.size w w' := by
  have hz := zero_wh
  have HB2 := fun vr vi vo => built_wh2 K S vr vi vo
  obtain ⟨W0, hW0, r0, r1, b0, s0⟩ := start2 w (whc K S vr vi vo) whz 46 46
  have HS0 : Hid (W0.heap.size = w.heap.size + 2) := s0
  have HCC : Hid (∀ W, Below w.heap.size w W → Calls Tryz.prog 22 #[.agg (stc S vr vi vo)] W fun e w' => ∃ ur ui uo, e = .returned (.agg (stc S ur ui uo)) ∧ Sv W.heap.size S ur ui uo w' ∧ Below W.heap.size W w') := fun W h => by
    have q := hB.later h
    obtain ⟨a1, c1, rfl, -⟩ := q.r
    obtain ⟨a2, c2, rfl, -⟩ := q.i
    obtain ⟨a3, c3, rfl, -⟩ := q.o
    exact copied_c S a1 a2 a3 c1 c2 c3 W q.r q.i q.o l1 l2 l3
  clear s0 hB l1 l2 l3
  go_enter Tryz.func11, Tryz.ntmps11
  go_upto_region 1 with fail
  clear hW0
  --@R1
  refine wp_region_mkf (by kernel_rfl) 6 (fun i => ([[], [0], [], [2], [3, 2], [1, 4, 0, 3, 2], [5, 0, 1, 2, 3, 4]] : List (List Nat)).getD i []) (fun i => ([fun v _ => v = .pointer (some ⟨w.heap.size, 0, none⟩), fun v _ => v = .agg (cpc K), fun v _ => v = .pointer (some ⟨w.heap.size, 82, none⟩), fun v _ => v = .agg (stc S vr vi vo), fun v x => CpS (w.heap.size + 2) S v x, fun v x => Cpy (w.heap.size + 2) K S v x] : List (Value → World → Prop)).getD i (fun _ _ => True)) W0 _ (by kernel_rfl) (by decide) (by decide) ?_ ?_ ?_
  · intro j v x x' h hb
    match j, h with
    | 0, h => exact h
    | 1, h => exact h
    | 2, h => exact h
    | 3, h => exact h
    | 4, h => obtain ⟨ur, ui, uo, h1, B', h2, h3⟩ := h; exact ⟨ur, ui, uo, h1, B', h2, h3.later hb⟩
    | 5, h => obtain ⟨ur, ui, uo, h1, B', h2, h3⟩ := h; exact ⟨ur, ui, uo, h1, B', h2, h3.later hb⟩
    | j + 6, h => trivial
  · refine hop_list ?_
    refine ⟨fun _ => ?_, fun _ => ?_, fun _ => ?_, fun _ => ?_, fun _ => ?_, fun _ => ?_, fun h => absurd rfl h, trivial⟩
    · refine stp_con (.pointer (some ⟨w.heap.size, 0, none⟩)) rfl rfl rfl (by simp) (fun ac w9 h1 h2 h3 => ?_)
      have q0 : ac.eval (.tmp 1) = .pointer (some ⟨w.heap.size, 0, none⟩) := (h1 1 (by kernel_rfl)).trans rfl
      clear h1 h2 h3
      generalize ac.eval = ρ at *
      simp only [execOp, q0]
      rfl
    · refine stp_con (.agg (cpc K)) rfl rfl rfl (by simp) (fun ac w9 h1 h2 h3 => ?_)
      have q0 : ac.eval (.tmp 3) = .pointer (some ⟨w.heap.size, 0, none⟩) := h3 0 (by simp)
      have hl := ld_aggs (P := Tryz.prog) 32 w.heap.size 0 (cpc K) _ w9 (fun j v hv => ((r0.out.later h2 r0.out.lt).cell (0 + j)).trans (whc_c K S vr vi vo j v hv)) Tryz.underlying32 (by rfl) (info_cpuU _)
      clear h1 h2 h3
      generalize ac.eval = ρ at *
      simp only [execOp, q0]
      exact hl
    · refine stp_con (.pointer (some ⟨w.heap.size, 82, none⟩)) rfl rfl rfl (by simp) (fun ac w9 h1 h2 h3 => ?_)
      have q0 : ac.eval (.tmp 1) = .pointer (some ⟨w.heap.size, 0, none⟩) := (h1 1 (by kernel_rfl)).trans rfl
      clear h1 h2 h3
      generalize ac.eval = ρ at *
      simp only [execOp, q0]
      rfl
    · refine stp_con (.agg (stc S vr vi vo)) rfl rfl rfl (by simp) (fun ac w9 h1 h2 h3 => ?_)
      have q0 : ac.eval (.tmp 5) = .pointer (some ⟨w.heap.size, 82, none⟩) := h3 2 (by simp)
      have hl := ld_aggs (P := Tryz.prog) 44 w.heap.size 82 (stc S vr vi vo) _ w9 (fun j v hv => ((r0.out.later h2 r0.out.lt).cell (82 + j)).trans (whc_b K S vr vi vo j v hv)) Tryz.underlying44 (by rfl) (info_bst _ _ _ _)
      clear h1 h2 h3
      generalize ac.eval = ρ at *
      simp only [execOp, q0]
      exact hl
    · refine stp_call 22 rfl rfl (by simp) (fun ac w9 h1 h2 h3 => ?_)
      have q0 : ac.eval (.tmp 6) = .agg (stc S vr vi vo) := h3 3 (by simp)
      refine ⟨#[.agg (stc S vr vi vo)], ?_, (HCC.out w9 (b0.out.trans (h2.mono b0.out.size))).mono ?_⟩
      · clear h1 h2 h3
        generalize ac.eval = ρ at *
        have hv : ∀ v, ρ (.tmp 6) = v → (execOp ρ { dst := some 7, op := Op.call { callee := Callee.value (Operand.func 22), args := #[Operand.tmp 6], argTypes := #[44] }, type := 44, pos := "law.go:24", after := #[{ on := 3, ground := Ground.data }], guard := none }).run Tryz.prog w9 = .ok (.enter 22 #[v]) w9 := fun v h => by subst h; kernel_rfl
        exact hv _ q0
      · rintro e w10 ⟨ur, ui, uo, rfl, k1, k2⟩
        exact ⟨_, rfl, k2, ur, ui, uo, rfl, w9.heap.size, by have := h2.size; have := HS0.out; omega, k1⟩
    · refine stp_val rfl rfl (by simp) (fun ac w9 h1 h2 h3 => ?_)
      obtain ⟨ur, ui, uo, e, B', hb1, hb2⟩ := h3 4 (by simp)
      have q0 : ac.eval (.tmp 7) = .agg (stc S ur ui uo) := e
      have q1 : ac.eval (.tmp 4) = .agg (cpc K) := h3 1 (by simp)
      refine ⟨_, w9, ?_, Below.refl _ _, ur, ui, uo, rfl, B', hb1, hb2⟩
      have hc : Tryz.prog.built 46 ((#[(0, Operand.tmp 4), (1, Operand.tmp 7)] : Array (Nat × Operand)).map fun (i, x) => (i, ac.eval x)).toList = some (whc K S ur ui uo) := by
        simp only [List.map_toArray, List.map_cons, List.map_nil, q0, q1]; exact HB2 ur ui uo
      unfold execOp
      simp only [Sem.run_bind, run_build w9 46 _ _ hc, Result.andThen_ok]
      rfl
  · intro o ho ac w9 h0 hd h1 h2 h3
    obtain rfl := (Option.some.inj ho)
    obtain ⟨ur, ui, uo, e, B', hb1, hb2⟩ := h3 5 (by simp) (by decide)
    have q0 : ac.eval (.tmp 2) = .pointer (some ⟨w.heap.size + 1, 0, none⟩) := (h1 2 (by kernel_rfl)).trans rfl
    have q1 : ac.eval (.tmp 8) = .agg (whc K S ur ui uo) := e
    have HR := r1.out.later h2 r1.out.lt
    have k1 := hb2.r
    have k2 := hb2.i
    have k3 := hb2.o
    obtain ⟨x1, y1, z1, rfl⟩ := own_one k1
    obtain ⟨x2, y2, z2, rfl⟩ := own_one k2
    obtain ⟨x3, y3, z3, rfl⟩ := own_one k3
    have hex : Exc (· = w.heap.size + 1) w9 (w9.setRow (w.heap.size + 1) (whc K S (.slice x1 y1 z1) (.slice x2 y2 z2) (.slice x3 y3 z3))) := ⟨rfl, rfl, rfl, by simp [World.setRow], fun k hk hn => setRow_other _ _ _ _ hn⟩
    refine wpOp_plain rfl rfl (wpO_store_rowX 46 _ _ rfl (w.heap.size + 1) whz _ q0 q1 HR (info_whU _ _ _ _ _) (whz_size _ _ _ _ _) (whc_ones _ _ _ _ _ _ _ _ _ _ _) ?_)
    show Exit.then _ _ .normal _ _
    unfold Exit.then
    simp only
    apply_assumption
    refine wp_ret (bodyPost_ret (v := .agg (whc K S (.slice x1 y1 z1) (.slice x2 y2 z2) (.slice x3 y3 z3))) (results_cell_row Tryz.results11 _ _ (w.heap.size + 1) 46 _ (0, 0) _ ?_ (setRow_heap _ _ _ _ _ _ HR) Tryz.underlying46 (by rfl) (info_whU _ _ _ _ _)) hd ?_)
    · exact q0
    · exact ⟨_, _, _, rfl, ⟨Byt.of_own (own_exc k1 hex (fun k hk e => by have := (k1.lt k hk).1; omega)), Byt.of_own (own_exc k2 hex (fun k hk e => by have := (k2.lt k hk).1; omega)), Byt.of_own (own_exc k3 hex (fun k hk e => by have := (k3.lt k hk).1; omega))⟩, whc_ones _ _ _ _ _ _ _ _ _ _ _, below_row (b0.out.trans (h2.mono b0.out.size)) (by omega) _⟩
theorem eq_cpuS (K : Cp) (w : World) : (Op.equalIn 10000 32 (.agg (cpc K)) (.agg (cpc K))).run Tryz.prog w = .ok true w := by
  have q := eq_cpuU K K w
  rw [show eqC K K = true from (eqC_iff K K).2 rfl] at q; exact q
set_option maxHeartbeats 8000000 in
theorem same18_c (K : Cp) (S : St) (vr vi vo ur ui uo : Value) (w : World) (hA : Bs S vr vi vo w) (hB : Bs S ur ui uo w) : Calls Tryz.prog 14 #[.agg (whc K S vr vi vo), .agg (whc K S ur ui uo)] w fun e w' => e = .returned (.bool true) ∧ Below w.heap.size w w' := by
  obtain ⟨W0, hW0, r0, r1, b0, s0⟩ := start2 w (whc K S vr vi vo) (whc K S ur ui uo) 46 46
  have HS : Hid (∀ x : Later W0, Calls Tryz.prog 30 #[.agg (stc S vr vi vo), .agg (stc S ur ui uo)] x.1 fun e w' => e = .returned (.bool true) ∧ Below x.1.heap.size x.1 w') := fun x => same_c S vr vi vo ur ui uo x.1 (hA.later (b0.out.trans (x.2.mono b0.out.size))) (hB.later (b0.out.trans (x.2.mono b0.out.size)))
  have HEC := Hid.mkU (fun w => eq_cpuS K w)
  have hne := later_nonempty W0
  clear hA hB s0
  go_enter Tryz.func14, Tryz.ntmps14
  go_upto_region 1 with fail
  clear hW0
  refine wp_region_plain (x0 := Later.start W0) ?_
  (go_big_quiet_step (fail))
  (first | (go_big_quiet_want; refine quiet_load_agg 32 _ (by rfl) (w.heap.size) 0 (by rfl) (cpc K) _ r0.out.lt (fun j v hv => (r0.out.cell (0 + j)).trans (whc_c K S vr vi vo j v hv)) Tryz.underlying32 (by rfl) (info_cpuU _) ?_; simp only [Act.put, List.setIfInBounds_toArray, List.set_cons_succ, List.set_cons_zero]; go_big_quiet_on) | (go_big_quiet_want; refine quiet_load_agg 32 _ (by rfl) (w.heap.size + 1) 0 (by rfl) (cpc K) _ r1.out.lt (fun j v hv => (r1.out.cell (0 + j)).trans (whc_c K S ur ui uo j v hv)) Tryz.underlying32 (by rfl) (info_cpuU _) ?_; simp only [Act.put, List.setIfInBounds_toArray, List.set_cons_succ, List.set_cons_zero]; go_big_quiet_on) | (go_big_quiet_want; refine quiet_load_agg 44 _ (by rfl) (w.heap.size) 82 (by rfl) (stc S vr vi vo) _ r0.out.lt (fun j v hv => (r0.out.cell (82 + j)).trans (whc_b K S vr vi vo j v hv)) Tryz.underlying44 (by rfl) (info_bst _ _ _ _) ?_; simp only [Act.put, List.setIfInBounds_toArray, List.set_cons_succ, List.set_cons_zero]; go_big_quiet_on) | (go_big_quiet_want; refine quiet_load_agg 44 _ (by rfl) (w.heap.size + 1) 82 (by rfl) (stc S ur ui uo) _ r1.out.lt (fun j v hv => (r1.out.cell (82 + j)).trans (whc_b K S ur ui uo j v hv)) Tryz.underlying44 (by rfl) (info_bst _ _ _ _) ?_; simp only [Act.put, List.setIfInBounds_toArray, List.set_cons_succ, List.set_cons_zero]; go_big_quiet_on) | (go_big_quiet_step (fail)))
  (go_big_quiet_step (fail))
  (first | (go_big_quiet_want; refine quiet_load_agg 32 _ (by rfl) (w.heap.size) 0 (by rfl) (cpc K) _ r0.out.lt (fun j v hv => (r0.out.cell (0 + j)).trans (whc_c K S vr vi vo j v hv)) Tryz.underlying32 (by rfl) (info_cpuU _) ?_; simp only [Act.put, List.setIfInBounds_toArray, List.set_cons_succ, List.set_cons_zero]; go_big_quiet_on) | (go_big_quiet_want; refine quiet_load_agg 32 _ (by rfl) (w.heap.size + 1) 0 (by rfl) (cpc K) _ r1.out.lt (fun j v hv => (r1.out.cell (0 + j)).trans (whc_c K S ur ui uo j v hv)) Tryz.underlying32 (by rfl) (info_cpuU _) ?_; simp only [Act.put, List.setIfInBounds_toArray, List.set_cons_succ, List.set_cons_zero]; go_big_quiet_on) | (go_big_quiet_want; refine quiet_load_agg 44 _ (by rfl) (w.heap.size) 82 (by rfl) (stc S vr vi vo) _ r0.out.lt (fun j v hv => (r0.out.cell (82 + j)).trans (whc_b K S vr vi vo j v hv)) Tryz.underlying44 (by rfl) (info_bst _ _ _ _) ?_; simp only [Act.put, List.setIfInBounds_toArray, List.set_cons_succ, List.set_cons_zero]; go_big_quiet_on) | (go_big_quiet_want; refine quiet_load_agg 44 _ (by rfl) (w.heap.size + 1) 82 (by rfl) (stc S ur ui uo) _ r1.out.lt (fun j v hv => (r1.out.cell (82 + j)).trans (whc_b K S ur ui uo j v hv)) Tryz.underlying44 (by rfl) (info_bst _ _ _ _) ?_; simp only [Act.put, List.setIfInBounds_toArray, List.set_cons_succ, List.set_cons_zero]; go_big_quiet_on) | (go_big_quiet_step (fail)))
  (go_big_quiet_want; refine quiet_eql_agg 32 _ _ _ (by rfl) (cpc K) (cpc K) (by rfl) (by rfl) _ HEC.out (fun w => eqG_cpuU _ _ _ _ w) ?_; simp only [Act.put, List.setIfInBounds_toArray, List.set_cons_succ, List.set_cons_zero]; go_big_quiet_on)
  (go_big_quiet_step (fail))
  (go_big_quiet_step (fail))
  (first | (go_big_quiet_want; refine quiet_load_agg 32 _ (by rfl) (w.heap.size) 0 (by rfl) (cpc K) _ r0.out.lt (fun j v hv => (r0.out.cell (0 + j)).trans (whc_c K S vr vi vo j v hv)) Tryz.underlying32 (by rfl) (info_cpuU _) ?_; simp only [Act.put, List.setIfInBounds_toArray, List.set_cons_succ, List.set_cons_zero]; go_big_quiet_on) | (go_big_quiet_want; refine quiet_load_agg 32 _ (by rfl) (w.heap.size + 1) 0 (by rfl) (cpc K) _ r1.out.lt (fun j v hv => (r1.out.cell (0 + j)).trans (whc_c K S ur ui uo j v hv)) Tryz.underlying32 (by rfl) (info_cpuU _) ?_; simp only [Act.put, List.setIfInBounds_toArray, List.set_cons_succ, List.set_cons_zero]; go_big_quiet_on) | (go_big_quiet_want; refine quiet_load_agg 44 _ (by rfl) (w.heap.size) 82 (by rfl) (stc S vr vi vo) _ r0.out.lt (fun j v hv => (r0.out.cell (82 + j)).trans (whc_b K S vr vi vo j v hv)) Tryz.underlying44 (by rfl) (info_bst _ _ _ _) ?_; simp only [Act.put, List.setIfInBounds_toArray, List.set_cons_succ, List.set_cons_zero]; go_big_quiet_on) | (go_big_quiet_want; refine quiet_load_agg 44 _ (by rfl) (w.heap.size + 1) 82 (by rfl) (stc S ur ui uo) _ r1.out.lt (fun j v hv => (r1.out.cell (82 + j)).trans (whc_b K S ur ui uo j v hv)) Tryz.underlying44 (by rfl) (info_bst _ _ _ _) ?_; simp only [Act.put, List.setIfInBounds_toArray, List.set_cons_succ, List.set_cons_zero]; go_big_quiet_on) | (go_big_quiet_step (fail)))
  (go_big_quiet_step (fail))
  (first | (go_big_quiet_want; refine quiet_load_agg 32 _ (by rfl) (w.heap.size) 0 (by rfl) (cpc K) _ r0.out.lt (fun j v hv => (r0.out.cell (0 + j)).trans (whc_c K S vr vi vo j v hv)) Tryz.underlying32 (by rfl) (info_cpuU _) ?_; simp only [Act.put, List.setIfInBounds_toArray, List.set_cons_succ, List.set_cons_zero]; go_big_quiet_on) | (go_big_quiet_want; refine quiet_load_agg 32 _ (by rfl) (w.heap.size + 1) 0 (by rfl) (cpc K) _ r1.out.lt (fun j v hv => (r1.out.cell (0 + j)).trans (whc_c K S ur ui uo j v hv)) Tryz.underlying32 (by rfl) (info_cpuU _) ?_; simp only [Act.put, List.setIfInBounds_toArray, List.set_cons_succ, List.set_cons_zero]; go_big_quiet_on) | (go_big_quiet_want; refine quiet_load_agg 44 _ (by rfl) (w.heap.size) 82 (by rfl) (stc S vr vi vo) _ r0.out.lt (fun j v hv => (r0.out.cell (82 + j)).trans (whc_b K S vr vi vo j v hv)) Tryz.underlying44 (by rfl) (info_bst _ _ _ _) ?_; simp only [Act.put, List.setIfInBounds_toArray, List.set_cons_succ, List.set_cons_zero]; go_big_quiet_on) | (go_big_quiet_want; refine quiet_load_agg 44 _ (by rfl) (w.heap.size + 1) 82 (by rfl) (stc S ur ui uo) _ r1.out.lt (fun j v hv => (r1.out.cell (82 + j)).trans (whc_b K S ur ui uo j v hv)) Tryz.underlying44 (by rfl) (info_bst _ _ _ _) ?_; simp only [Act.put, List.setIfInBounds_toArray, List.set_cons_succ, List.set_cons_zero]; go_big_quiet_on) | (go_big_quiet_step (fail)))
  (go_big_quiet_step ((go_at_call 30; exact calls_later (HS.out _))))
  (go_big_quiet_step (fail))
  (go_big_quiet_step (fail))
  refine wpQuiet_nil ?_
  rintro _ ⟨yq, rfl⟩
  go_wp2
  go_ret
  exact ⟨rfl, b0.out.trans (yq.2.mono b0.out.size)⟩
end Go.Proofs.YtidfndgedopghaaGreatDoor
