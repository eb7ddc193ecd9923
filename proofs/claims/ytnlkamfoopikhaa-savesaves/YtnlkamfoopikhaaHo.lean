/-
  Layer 16 (save): Save of the program.
-/
import Derived.Test.YtnlkamfoopikhaaHj
import Derived.Test.YtnlkamfoopikhaaHk
import Derived.Test.YtnlkamfoopikhaaHn
import Derived.Test.YtnlkamfoopikhaaCsa
import Derived.Test.YtnlkamfoopikhaaHp
namespace Go.Proofs.Ytnlkamfoopikhaa
set_option linter.unusedVariables false
set_option maxRecDepth 100000
open Go.ChangeShapes Go.WideShapes Go.ChangeAt Go.RowKit Go.Deep
theorem info_cpu9 (K : Cp) : (Try.prog.info? 31).map (·.size) = some (cpc K).size := by rw [cpc_size]; kernel_rfl
/-- What is asked of a state that can be. -/
theorem ok_parts {S : St} (h : S.ok = true) : 0 < S.ram.length ∧ S.ram.length ≤ 65536 ∧ S.inp.length ≤ 64 ∧ S.out.length ≤ 4096 := by
  unfold St.ok ramOk at h
  simp only [Bool.and_eq_true, decide_eq_true_eq] at h
  omega
set_option maxHeartbeats 4000000 in
theorem save_no (K : Cp) (S : St) (ar ai ao : Option Addr) (cr ci co : Nat) (w : World) (hs : Bs S (.slice ar S.ram.length cr) (.slice ai S.inp.length ci) (.slice ao S.out.length co) w) (hok : S.ok = false)
    (lr : S.ram.length ≤ 140737488355328) (li : S.inp.length ≤ 140737488355328) (lo : S.out.length ≤ 140737488355328) :
    Calls Try.prog 11 #[.agg (whc K S (.slice ar S.ram.length cr) (.slice ai S.inp.length ci) (.slice ao S.out.length co))] w fun e w' => e = .returned (.tuple #[.slice none 0 0, .int .i64 162]) ∧ Below w.heap.size w w' := by
  have HR : Hid (Row (w.alloc (.cells (whc K S (.slice ar S.ram.length cr) (.slice ai S.inp.length ci) (.slice ao S.out.length co)) 37)) w.heap.size (whc K S (.slice ar S.ram.length cr) (.slice ai S.inp.length ci) (.slice ao S.out.length co)) 37) := Row.new _ _ _
  have HI := Hid.mk' (info_wh K S (.slice ar S.ram.length cr) (.slice ai S.inp.length ci) (.slice ao S.out.length co))
  have HC : Hid (∀ o, Calls Try.prog 7 #[.agg (whc K S (.slice ar S.ram.length cr) (.slice ai S.inp.length ci) (.slice ao S.out.length co))] (w.alloc o) fun e w' => e = .returned (.int .i64 162) ∧ Below (w.alloc o).heap.size (w.alloc o) w') := fun o => by
    have q := schk_c K S ar ai ao cr ci co (w.alloc o) (hs.later (below_al _ _)) lr li lo
    rw [hok] at q; exact q
  clear hs
  generalize whc K S (.slice ar S.ram.length cr) (.slice ai S.inp.length ci) (.slice ao S.out.length co) = V at *
  go_enter Try.func11, Try.ntmps11
  go_wp2_with (first | (refine wpList_load_row (by rfl) _ _ (by rfl) _ (by rfl) 37 _ (0, 0) _ HR.out Try.underlying37 (by rfl) HI.out ?_) | (go_at_call 7; refine (HC.out _).mono ?_; rintro e w1 ⟨rfl, hb1⟩))
  refine bodyPost_ret (results_tmp2 rfl _ _ _) rfl ?_
  exact ⟨rfl, box_below hb1⟩
set_option maxHeartbeats 4000000 in
theorem save_yes (K : Cp) (S : St) (ar ai ao : Option Addr) (cr ci co : Nat) (w : World) (hs : Bs S (.slice ar S.ram.length cr) (.slice ai S.inp.length ci) (.slice ao S.out.length co) w) (hw : StW S) (hok : S.ok = true) :
    Calls Try.prog 11 #[.agg (whc K S (.slice ar S.ram.length cr) (.slice ai S.inp.length ci) (.slice ao S.out.length co))] w fun e w' => ∃ u, e = .returned (.tuple #[u, .int .i64 0]) ∧ Fsh w.heap.size w' u (snapB (PR K) S) ∧ Below w.heap.size w w' := by
  obtain ⟨l8, lr, li, lo⟩ := ok_parts hok
  have HR : Hid (Row (w.alloc (.cells (whc K S (.slice ar S.ram.length cr) (.slice ai S.inp.length ci) (.slice ao S.out.length co)) 37)) w.heap.size (whc K S (.slice ar S.ram.length cr) (.slice ai S.inp.length ci) (.slice ao S.out.length co)) 37) := Row.new _ _ _
  have HI := Hid.mk' (info_wh K S (.slice ar S.ram.length cr) (.slice ai S.inp.length ci) (.slice ao S.out.length co))
  have HC : Hid (∀ o, Calls Try.prog 7 #[.agg (whc K S (.slice ar S.ram.length cr) (.slice ai S.inp.length ci) (.slice ao S.out.length co))] (w.alloc o) fun e w' => e = .returned (.int .i64 0) ∧ Below (w.alloc o).heap.size (w.alloc o) w') := fun o => by
    have q := schk_c K S ar ai ao cr ci co (w.alloc o) (hs.later (below_al _ _)) (by omega) (by omega) (by omega)
    rw [hok] at q; exact q
  obtain ⟨V, hV⟩ : ∃ V, V = whc K S (.slice ar S.ram.length cr) (.slice ai S.inp.length ci) (.slice ao S.out.length co) := ⟨_, rfl⟩
  have HV := Hid.mk' hV
  rw [← hV] at HR HI HC ⊢
  clear hV
  go_enter Try.func11, Try.ntmps11
  go_wp2_with (first | (refine wpList_load_row (by rfl) _ _ (by rfl) _ (by rfl) 37 _ (0, 0) _ HR.out Try.underlying37 (by rfl) HI.out ?_) | (go_at_call 7; refine (HC.out _).mono ?_; rintro e W ⟨rfl, hb1⟩; have HB1 := Hid.mk' hb1; clear hb1))
  rename_i hK
  have HBB : Hid (Below w.heap.size w W) := (below_al w _).trans (HB1.out.mono (below_al w _).size)
  have hs1 := hs.later HBB.out
  have hr : Row W w.heap.size V 37 := HR.out.later HB1.out HR.out.lt
  have hlt := hr.lt
  rw [HV.out] at hr
  obtain ⟨B, hB⟩ : ∃ B, B = w.heap.size := ⟨_, rfl⟩
  have HB0 := Hid.mk' hB
  have hBW : B ≤ W.heap.size := by rw [hB]; exact HBB.out.size
  obtain ⟨p, hp⟩ : ∃ p, p = w.heap.size := ⟨_, rfl⟩
  rw [← hp] at hr hlt ⊢
  clear hB hp HB1
  have hcl := fun j => hr.cell j
  have hTF0 : ([headB, (cpuS (PR K)).flatten, (devS S).flatten, (ramS S.ram).flatten] : List (List Int)).flatten = toldB (PR K) S := by simp [toldB]
  have hTF : ([headB, (cpuS (PR K)).flatten, (devS S).flatten, (ramS S.ram).flatten] : List (List Int)).flatten.length ≤ 70800 := by rw [hTF0]; exact toldB_length _ _ lr li lo
  have info_cpu := info_cpu9
  refine wp_region_rel (by kernel_rfl) (fun i => ([[], [0], [], [2], [3], [4], [], [6], [7], [], [9], [10], [11], [1, 5, 8, 12], [13], [14]] : List (List Nat)).getD i []) (fun i => ([fun v w => ∃ g z, v = .slice (some ⟨g, 0, none⟩) 8 8 ∧ W.heap.size ≤ g ∧ w.heap[g]? = some (.cells (bv headB).toArray 5 z), fun v w => Byt w v headB, fun v _ => v = .pointer (some ⟨p, 0, none⟩), fun v _ => v = .agg (cpc K), fun v _ => v = .agg (cpc (PR K)), fun v w => Byt w v (cpuS (PR K)).flatten, fun v _ => v = .pointer (some ⟨p, 82, none⟩), fun v _ => v = .agg (stc S (.slice ar S.ram.length cr) (.slice ai S.inp.length ci) (.slice ao S.out.length co)), fun v w => Byt w v (devS S).flatten, fun v _ => v = .pointer (some ⟨p, 82, none⟩), fun v _ => v = .pointer (some ⟨p, 82, none⟩), fun v _ => v = .slice ar S.ram.length cr, fun v w => Byt w v (ramS S.ram).flatten, fun v w => Rws w v [headB, (cpuS (PR K)).flatten, (devS S).flatten, (ramS S.ram).flatten], fun v w => Byt w v (toldB (PR K) S), fun v w => Byt w v (toldB (PR K) S)] : List (Value → World → Prop)).getD i (fun _ _ => True)) (fun w1 => Below W.heap.size W w1) (Cls2 W.heap.size) W _ (by kernel_rfl) (Below.refl _ _).drew (fun w1 w2 h1 h2 => h1.trans h2.b) ?_ (hop_list ⟨?_, ?_, ?_, ?_, ?_, ?_, ?_, ?_, ?_, ?_, ?_, ?_, ?_, ?_, ?_, ?_, trivial⟩) ?_
  · intro j v w1 w2 h hb
    match j, h with
    | 0, h => exact (by obtain ⟨g, z, e, hg, hw⟩ := h; obtain ⟨z2, hz2⟩ := hb.r _ _ _ _ hw; exact ⟨g, z2, e, hg, hz2⟩)
    | 1, h => exact Byt.cls h hb
    | 5, h => exact Byt.cls h hb
    | 8, h => exact Byt.cls h hb
    | 12, h => exact Byt.cls h hb
    | 13, h => exact Rws.cls h hb
    | 14, h => exact Byt.cls h hb
    | 15, h => exact Byt.cls h hb
    | 2, h | 3, h | 4, h | 6, h | 7, h | 9, h | 10, h | 11, h | _ + 16, h => exact h
  · refine stpr_val rfl rfl (by simp) (fun a w9 h1 h2 h3 => ?_)
    have hcon : ∀ c, a.eval (.const c) = c := fun _ => rfl
    refine ⟨.slice (some ⟨w9.heap.size, 0, none⟩) 8 8, w9.alloc (.cells #[.int .u8 65, .int .u8 78, .int .u8 86, .int .u8 73, .int .u8 76, .int .u8 83, .int .u8 1, .int .u8 90] 5), ?_, Cls2.of (below_al _ _) h2.size, ?_⟩
    · clear h1 h2 h3
      generalize a.eval = ρ at *
      simp [execOp, hcon, go_sem]
    · exact ⟨w9.heap.size, (0, 0), rfl, h2.size, Row.new _ _ _⟩
  · refine stpr_val rfl rfl (by simp) (fun a w9 h1 h2 h3 => ?_)
    obtain ⟨g, z, e, hg, hrow⟩ : ∃ g z, a.eval (.tmp 11) = .slice (some ⟨g, 0, none⟩) 8 8 ∧ W.heap.size ≤ g ∧ w9.heap[g]? = some (.cells (bv headB).toArray 5 z) := h3 0 (by decide)
    obtain ⟨w2, hrun, hc2⟩ := conv_mark (n := 8) (c := 8) hrow hg
    refine ⟨.slice (some ⟨g, 0, none⟩) 8 8, w2, ?_, hc2, ?_⟩
    · clear h1 h2 h3 hrow hc2
      generalize a.eval = ρ at *
      simp [execOp, e, hrun, go_sem]
    · refine Byt.cls ⟨some ⟨g, 0, none⟩, 8, rfl, Nat.le_refl _, (fun q => by cases q), fun _ => ⟨g, 0, rfl, (Array.getElem?_eq_some_iff.1 hrow).1, fun j hj => ?_⟩⟩ hc2
      rw [Nat.zero_add, cell_of_row w9 g j _ _ _ hrow, List.getElem?_toArray, bv_get _ _ hj]
  · refine stpr_con (fun _ => Cls2.refl _ _) _ rfl rfl rfl (by simp) (fun a w9 h1 h2 h3 => ?_)
    have q0 : a.eval (.tmp 1) = .pointer (some ⟨p, 0, none⟩) := (h1 1 (by kernel_rfl)).trans rfl
    clear h1 h2 h3
    generalize a.eval = ρ at *
    simp [execOp, q0, go_sem]
  · refine stpr_con (fun _ => Cls2.refl _ _) _ rfl rfl rfl (by simp) (fun a w9 h1 h2 h3 => ?_)
    have q0 : a.eval (.tmp 13) = .pointer (some ⟨p, 0, none⟩) := h3 2 (by decide)
    have hl := ld_aggs (P := Try.prog) 31 p 0 (cpc K) _ w9 (fun j v hv => (h2.cell hlt).trans ((hcl _).trans (whc_c K S _ _ _ j v hv))) Try.underlying31 (by rfl) (info_cpu _)
    simp only [execOp, q0]; exact hl
  · refine stpr_call 22 rfl rfl (by simp) (fun a w9 h1 h2 h3 => ?_)
    have q0 : a.eval (.tmp 14) = .agg (cpc K) := h3 3 (by decide)
    refine ⟨#[.agg (cpc K)], ?_, ?_⟩
    · have hf : a.eval (.func 22) = .func (.func 22) #[] #[] := rfl
      clear h1 h2 h3
      generalize a.eval = ρ at *
      simp [execOp, q0, hf, go_sem]
    · exact (Pr_c K w9).mono fun e w2 ⟨e1, e2⟩ => ⟨_, e1, Cls2.of e2 h2.size, rfl⟩
  · refine stpr_call 21 rfl rfl (by simp) (fun a w9 h1 h2 h3 => ?_)
    have q0 : a.eval (.tmp 15) = .agg (cpc (PR K)) := h3 4 (by decide)
    refine ⟨#[.agg (cpc (PR K))], ?_, ?_⟩
    · have hf : a.eval (.func 21) = .func (.func 21) #[] #[] := rfl
      clear h1 h2 h3
      generalize a.eval = ρ at *
      simp [execOp, q0, hf, go_sem]
    · exact (csec_c (PR K) w9).mono fun e w2 ⟨u, e1, e2, e3⟩ => ⟨u, e1, Cls2.of e3 h2.size, e2.byt⟩
  · refine stpr_con (fun _ => Cls2.refl _ _) _ rfl rfl rfl (by simp) (fun a w9 h1 h2 h3 => ?_)
    have q0 : a.eval (.tmp 1) = .pointer (some ⟨p, 0, none⟩) := (h1 1 (by kernel_rfl)).trans rfl
    clear h1 h2 h3
    generalize a.eval = ρ at *
    simp [execOp, q0, go_sem]
  · refine stpr_con (fun _ => Cls2.refl _ _) _ rfl rfl rfl (by simp) (fun a w9 h1 h2 h3 => ?_)
    have q0 : a.eval (.tmp 17) = .pointer (some ⟨p, 82, none⟩) := h3 6 (by decide)
    have hl := ld_aggs (P := Try.prog) 35 p 82 (stc S (.slice ar S.ram.length cr) (.slice ai S.inp.length ci) (.slice ao S.out.length co)) _ w9 (fun j v hv => (h2.cell hlt).trans ((hcl _).trans (whc_b K S _ _ _ j v hv))) Try.underlying35 (by rfl) (info_bst _ _ _ _)
    simp only [execOp, q0]; exact hl
  · refine stpr_call 23 rfl rfl (by simp) (fun a w9 h1 h2 h3 => ?_)
    have q0 : a.eval (.tmp 18) = .agg (stc S (.slice ar S.ram.length cr) (.slice ai S.inp.length ci) (.slice ao S.out.length co)) := h3 7 (by decide)
    refine ⟨#[.agg (stc S (.slice ar S.ram.length cr) (.slice ai S.inp.length ci) (.slice ao S.out.length co))], ?_, ?_⟩
    · have hf : a.eval (.func 23) = .func (.func 23) #[] #[] := rfl
      clear h1 h2 h3
      generalize a.eval = ρ at *
      simp [execOp, q0, hf, go_sem]
    · exact (dsec_c S ar ai ao cr ci co w9 (hs1.later h2) hw li lo).mono fun e w2 ⟨u, e1, e2, e3⟩ => ⟨u, e1, Cls2.of e3 h2.size, e2.byt⟩
  · refine stpr_con (fun _ => Cls2.refl _ _) _ rfl rfl rfl (by simp) (fun a w9 h1 h2 h3 => ?_)
    have q0 : a.eval (.tmp 1) = .pointer (some ⟨p, 0, none⟩) := (h1 1 (by kernel_rfl)).trans rfl
    clear h1 h2 h3
    generalize a.eval = ρ at *
    simp [execOp, q0, go_sem]
  · refine stpr_con (fun _ => Cls2.refl _ _) _ rfl rfl rfl (by simp) (fun a w9 h1 h2 h3 => ?_)
    have q0 : a.eval (.tmp 20) = .pointer (some ⟨p, 82, none⟩) := h3 9 (by decide)
    clear h1 h2 h3
    generalize a.eval = ρ at *
    simp [execOp, q0, go_sem]
  · refine stpr_con (fun _ => Cls2.refl _ _) _ rfl rfl rfl (by simp) (fun a w9 h1 h2 h3 => ?_)
    have q0 : a.eval (.tmp 21) = .pointer (some ⟨p, 82, none⟩) := h3 10 (by decide)
    have hc : w9.cell? ⟨p, 82, none⟩ = some (.slice ar S.ram.length cr) := (h2.cell hlt).trans ((hcl _).trans (whc_b K S _ _ _ 0 _ rfl))
    clear h1 h2 h3
    generalize a.eval = ρ at *
    simp [execOp, q0, hc, go_sem]
  · refine stpr_call 24 rfl rfl (by simp) (fun a w9 h1 h2 h3 => ?_)
    have q0 : a.eval (.tmp 22) = .slice ar S.ram.length cr := h3 11 (by decide)
    refine ⟨#[.slice ar S.ram.length cr], ?_, ?_⟩
    · have hf : a.eval (.func 24) = .func (.func 24) #[] #[] := rfl
      clear h1 h2 h3
      generalize a.eval = ρ at *
      simp [execOp, q0, hf, go_sem]
    · exact (ramSec_c S.ram ar cr w9 (hs1.later h2).r l8 lr).mono fun e w2 ⟨u, e1, e2, e3⟩ => ⟨u, e1, Cls2.of e3 h2.size, e2.byt⟩
  · refine stpr_val rfl rfl (by simp) (fun a w9 h1 h2 h3 => ?_)
    have z0 : Byt w9 (a.eval (.tmp 12)) (headB) := h3 1 (by decide)
    obtain ⟨a0, n0, c0, e0⟩ := z0.sl
    rw [e0] at z0
    have z1 : Byt w9 (a.eval (.tmp 16)) ((cpuS (PR K)).flatten) := h3 5 (by decide)
    obtain ⟨a1, n1, c1, e1⟩ := z1.sl
    rw [e1] at z1
    have z2 : Byt w9 (a.eval (.tmp 19)) ((devS S).flatten) := h3 8 (by decide)
    obtain ⟨a2, n2, c2, e2⟩ := z2.sl
    rw [e2] at z2
    have z3 : Byt w9 (a.eval (.tmp 23)) ((ramS S.ram).flatten) := h3 12 (by decide)
    obtain ⟨a3, n3, c3, e3⟩ := z3.sl
    rw [e3] at z3
    refine ⟨.slice (some ⟨w9.heap.size, 0, none⟩) 4 4, w9.alloc (.cells #[.slice a0 n0 c0, .slice a1 n1 c1, .slice a2 n2 c2, .slice a3 n3 c3] 32), ?_, Cls2.of (below_al _ _) h2.size, ?_⟩
    · clear h1 h2 h3
      generalize a.eval = ρ at *
      simp [execOp, e0, e1, e2, e3, go_sem]
    · refine rws_new w9 [.slice a0 n0 c0, .slice a1 n1 c1, .slice a2 n2 c2, .slice a3 n3 c3] [headB, (cpuS (PR K)).flatten, (devS S).flatten, (ramS S.ram).flatten] rfl ?_
      intro j hj
      match j, hj with
      | 0, _ => exact z0
      | 1, _ => exact z1
      | 2, _ => exact z2
      | 3, _ => exact z3
      | _ + 4, hj => exact absurd (show _ + 4 < 4 from hj) (by omega)
  · refine stpr_call 20 rfl rfl (by simp) (fun a w9 h1 h2 h3 => ?_)
    have m0 : Rws w9 (a.eval (.tmp 24)) [headB, (cpuS (PR K)).flatten, (devS S).flatten, (ramS S.ram).flatten] := h3 13 (by decide)
    refine ⟨#[a.eval (.tmp 24)], ?_, ?_⟩
    · have hf : a.eval (.func 20) = .func (.func 20) #[] #[] := rfl
      clear h1 h2 h3 m0
      generalize a.eval = ρ at *
      simp [execOp, hf, go_sem]
    · have q := joined_c [headB, (cpuS (PR K)).flatten, (devS S).flatten, (ramS S.ram).flatten] (by omega) (by simp) _ w9 m0
      rw [hTF0] at q
      exact q.mono fun e w2 ⟨u, e1, e2, e3⟩ => ⟨u, e1, Cls2.of e3 h2.size, e2.byt⟩
  · refine stpr_val rfl rfl (by simp) (fun a w9 h1 h2 h3 => ?_)
    refine ⟨a.eval (.tmp 25), w9, ?_, Cls2.refl _ _, h3 14 (by decide)⟩
    clear h1 h2 h3
    generalize a.eval = ρ at *
    simp [execOp, go_sem]
  · intro f w1 hb hf
    have HT : Hid (Byt w1 (f 15) (toldB (PR K) S)) := hf 15 (by decide)
    have HBW1 : Hid (Below w.heap.size w w1) := HBB.out.trans (hb.mono HBB.out.size)
    have HTL : Hid ((toldB (PR K) S).length ≤ 70800) := by unfold Hid; rw [← hTF0]; exact hTF
    simp only [putAll, Nat.zero_add, Nat.reduceAdd, Act.put, List.setIfInBounds_toArray, List.set_cons_zero, List.set_cons_succ]
    clear hf hb hcl hr hlt hTF0 hTF hs1 info_cpu hBW HBB HR HI HC HV
    obtain ⟨ta, tn, tc, et⟩ := HT.out.sl
    rw [et] at HT ⊢
    obtain ⟨g0, h0⟩ : ∃ g0, g0 = f 0 := ⟨_, rfl⟩
    obtain ⟨g1, h1⟩ : ∃ g1, g1 = f 1 := ⟨_, rfl⟩
    rw [← h0, ← h1]
    generalize f 2 = g2
    generalize f 3 = g3
    generalize f 4 = g4
    generalize f 5 = g5
    generalize f 6 = g6
    generalize f 7 = g7
    generalize f 8 = g8
    generalize f 9 = g9
    generalize f 10 = g10
    generalize f 11 = g11
    generalize f 12 = g12
    generalize f 13 = g13
    generalize f 14 = g14
    clear et h0 h1
    refine hK _ _ ?_
    have HSM := Hid.mk' (ssum_c (toldB (PR K) S) _ w1 HT.out (by have := HTL.out; omega))
    have hsl2 : ∀ (a2 : Option Addr) (n2 c2 : Nat), ∀ u ∈ [Value.slice ta tn tc, Value.slice a2 n2 c2], u.oneCell' = true := fun a2 n2 c2 => ones2 _ _ _ _ _ _
    obtain ⟨sm, hsm⟩ : ∃ sm, sm = sumB (toldB (PR K) S) := ⟨_, rfl⟩
    have HSU := Hid.mk' hsm
    rw [← hsm] at HSM
    clear hsm
    have hsn : n32 sm = (sm.toNat : Int) := rfl
    have HPUT := Hid.mk' (fun W => put_n sm.toNat 4 (by have := sm.isLt; omega) (by omega) (by omega) W)
    have hlo := n32_lo sm
    have hhi := n32_hi sm
    rw [hsn] at HSM hlo hhi
    clear hsn
    obtain ⟨sn, hsn⟩ : ∃ sn, sn = sm.toNat := ⟨_, rfl⟩
    have HSN := Hid.mk' hsn
    rw [← hsn] at HSM HPUT hlo hhi
    clear hsn
    have HBB1 : Hid (B ≤ w1.heap.size) := by unfold Hid; rw [HB0.out]; exact HBW1.out.size
    have HJF : Hid (([toldB (PR K) S, ptL sn 4] : List (List Int)).flatten = snapB (PR K) S) := by unfold Hid snapB; rw [HSN.out, HSU.out]; simp
    have HJL : Hid (([toldB (PR K) S, ptL sn 4] : List (List Int)).flatten.length ≤ 140737488355328) := by have := HTL.out; unfold Hid; simp [ptL_length]; omega
    have HRW : Hid (∀ (w2 w3 : World) (a2 : Option Addr) (n2 c2 : Nat), Below w1.heap.size w1 w2 → Below w2.heap.size w2 w3 → Fsh w2.heap.size w3 (.slice a2 n2 c2) (ptL sn 4) → Rws (w3.alloc (.cells #[Value.slice ta tn tc, Value.slice a2 n2 c2] 32)) (.slice (some ⟨w3.heap.size, 0, none⟩) 2 2) [toldB (PR K) S, ptL sn 4]) := by
      intro w2 w3 a2 n2 c2 b2 b3 h3
      refine rws_new w3 [Value.slice ta tn tc, Value.slice a2 n2 c2] [toldB (PR K) S, ptL sn 4] rfl ?_
      intro j hj
      match j, hj with
      | 0, _ => exact (HT.out.later b2 rfl).later b3 rfl
      | 1, _ => exact h3.byt
      | _ + 2, hj => exact absurd (show _ + 2 < 2 from hj) (by omega)
    go_wp2_with (first | (go_at_call 26; refine HSM.out.mono ?_; rintro e w2 ⟨rfl, hb2⟩; have HB2 := Hid.mk' hb2; clear hb2) | (go_at_call 25; refine (HPUT.out _).mono ?_; rintro e w3 ⟨u3, rfl, hu3, hb3⟩; obtain ⟨a2, n2, c2, rfl⟩ := hu3.byt.sl; have HU3 := Hid.mk' hu3; have HB3 := Hid.mk' hb3; clear hu3 hb3) | (go_at_call 20; refine (joined_c [toldB (PR K) S, ptL sn 4] HJL.out (by simp) _ _ (HRW.out w2 w3 a2 n2 c2 HB2.out HB3.out HU3.out)).mono ?_; rintro e w4 ⟨u4, rfl, hu4, hb4⟩; rw [HJF.out] at hu4; have HU4 := Hid.mk' hu4; have HB4 := Hid.mk' hb4; clear hu4 hb4))
    refine bodyPost_ret (results_tmp2 rfl _ _ _) rfl ?_
    have b13 : Below w.heap.size w w3 := HBW1.out.trans ((HB2.out.trans (HB3.out.mono HB2.out.size)).mono HBW1.out.size)
    have b14 := b13.alloc b13.size (.cells #[Value.slice ta tn tc, Value.slice a2 n2 c2] 32)
    exact ⟨_, rfl, HU4.out.mono b14.size, b14.trans (HB4.out.mono b14.size)⟩
end Go.Proofs.Ytnlkamfoopikhaa
