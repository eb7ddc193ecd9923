/-
  Layer 16 (save): SaveChecks.
-/
import Derived.Test.YtnlkamfoopikhaaHm
namespace Go.Proofs.Ytnlkamfoopikhaa
set_option linter.unusedVariables false
set_option maxRecDepth 100000
open Go.ChangeShapes Go.WideShapes Go.ChangeAt Go.RowKit Go.Deep
theorem hnum_c (x : Int) (w : World) : Calls Try.prog 6 #[.int .i64 x] w fun e w' => e = .returned (.int .i64 x) ∧ w' = w := by
  go_enter Try.func6, Try.ntmps6
  go_wp2
  go_ret
  exact ⟨rfl, rfl⟩
theorem Sv.slices {B : Nat} {S : St} {ur ui uo : Value} {w : World} (h : Sv B S ur ui uo w) : ∃ a b c x y z, ur = .slice a S.ram.length x ∧ ui = .slice b S.inp.length y ∧ uo = .slice c S.out.length z := by
  obtain ⟨a, x, e1, _⟩ := h.bs.r
  obtain ⟨b, y, e2, _⟩ := h.bs.i
  obtain ⟨c, z, e3, _⟩ := h.bs.o
  exact ⟨a, b, c, x, y, z, e1, e2, e3⟩
theorem saveChecks_c (K : Cp) (S : St) (ar ai ao : Option Addr) (cr ci co : Nat) (w : World) (hs : Bs S (.slice ar S.ram.length cr) (.slice ai S.inp.length ci) (.slice ao S.out.length co) w)
    (lr : S.ram.length ≤ 140737488355328) (li : S.inp.length ≤ 140737488355328) (lo : S.out.length ≤ 140737488355328) :
    Calls Try.prog 3 #[.agg (whc K S (.slice ar S.ram.length cr) (.slice ai S.inp.length ci) (.slice ao S.out.length co))] w fun e w' => e = .returned (.bool true) ∧ Below w.heap.size w w' := by
  have HW : Hid (Row (w.alloc (.cells (whc K S (.slice ar S.ram.length cr) (.slice ai S.inp.length ci) (.slice ao S.out.length co)) 37)) w.heap.size (whc K S (.slice ar S.ram.length cr) (.slice ai S.inp.length ci) (.slice ao S.out.length co)) 37) := Row.new _ _ _
  have HBB : Hid (Below w.heap.size w (w.alloc (.cells (whc K S (.slice ar S.ram.length cr) (.slice ai S.inp.length ci) (.slice ao S.out.length co)) 37))) := below_al _ _
  have HC : Hid (∃ c : Int, c = (if S.ok then 0 else 162)) := ⟨_, rfl⟩
  go_enter Try.func3, Try.ntmps3
  go_wp2
  rename_i hK
  obtain ⟨W, hW⟩ : ∃ W, W = w.alloc (.cells (whc K S (.slice ar S.ram.length cr) (.slice ai S.inp.length ci) (.slice ao S.out.length co)) 37) := ⟨_, rfl⟩
  rw [← hW] at HW HBB ⊢
  have hs1 := hs.later HBB.out
  have hr := HW.out
  have hlt := hr.lt
  clear hW
  obtain ⟨V, hV⟩ : ∃ V, V = whc K S (.slice ar S.ram.length cr) (.slice ai S.inp.length ci) (.slice ao S.out.length co) := ⟨_, rfl⟩
  rw [← hV] at hr
  have hI : (Try.prog.info? 37).map (·.size) = some V.size := by rw [hV]; exact info_wh _ _ _ _ _
  have c1 := fun w' hs' => twin_c K S ar ai ao cr ci co w' hs' lr li lo
  have c5 := fun w' => rchk_c K S ar ai ao cr ci co w'
  rw [← hV] at c1 c5
  refine wp_region_mk (by kernel_rfl) (fun i => ([[], [0], [1], [2], [], [4], [3, 5], [6]] : List (List Nat)).getD i [])
    (fun i => ([fun v _ => v = .agg V, fun v w => ∃ ur ui uo B, v = .agg (whc K S ur ui uo) ∧ Sv B S ur ui uo w, fun v _ => v = .int .i64 (if S.ok then 0 else 162), fun v _ => v = .int .i64 (if S.ok then 0 else 162), fun v _ => v = .agg V, fun v _ => v = .int .i64 (if S.ok then 0 else 162), fun v _ => v = .bool true, fun v _ => v = .bool true] : List (Value → World → Prop)).getD i (fun _ _ => True)) W _ (by kernel_rfl) ?_ (hop_list ⟨?_, ?_, ?_, ?_, ?_, ?_, ?_, ?_, trivial⟩) ?_
  · intro j v w1 w2 h hb
    match j, h with
    | 1, ⟨ur, ui, uo, B, e, hsv⟩ => exact ⟨ur, ui, uo, B, e, hsv.later hb⟩
    | 0, h | 2, h | 3, h | 4, h | 5, h | 6, h | 7, h | _ + 8, h => exact h
  · refine stp_con _ rfl rfl rfl (by simp) (fun a w1 h1 h2 h3 => ?_)
    have q : a.eval (.tmp 1) = .pointer (some ⟨w.heap.size, 0, none⟩) := (h1 1 (by kernel_rfl)).trans rfl
    have hl := ld_agg_w (P := Try.prog) 37 V (hr.later h2 hlt) Try.underlying37 (by rfl) hI
    simp only [execOp, q]; exact hl
  · refine stp_call 8 rfl rfl (by simp) (fun a w1 h1 h2 h3 => ⟨#[.agg V], ?_, ?_⟩)
    · have q : a.eval (.tmp 3) = .agg V := h3 0 (by decide)
      have hf : a.eval (.func 8) = .func (.func 8) #[] #[] := rfl
      clear h1 h2 h3
      generalize a.eval = ρ at *
      simp [execOp, q, hf, go_sem]
    · exact (c1 w1 (hs1.later h2)).mono fun e w2 ⟨ur, ui, uo, h5, h6, h7⟩ => ⟨_, h5, h7, ur, ui, uo, _, rfl, h6⟩
  · refine stp_call 7 rfl rfl (by simp) (fun a w1 h1 h2 h3 => ?_)
    obtain ⟨ur, ui, uo, B, q, hsv⟩ : ∃ ur ui uo B, a.eval (.tmp 4) = .agg (whc K S ur ui uo) ∧ Sv B S ur ui uo w1 := h3 1 (by decide)
    refine ⟨#[.agg (whc K S ur ui uo)], ?_, ?_⟩
    · have hf : a.eval (.func 7) = .func (.func 7) #[] #[] := rfl
      clear h1 h2 h3
      generalize a.eval = ρ at *
      simp [execOp, q, hf, go_sem]
    · obtain ⟨a1, a2, a3, x, y, z, rfl, rfl, rfl⟩ := hsv.slices
      exact (schk_c K S a1 a2 a3 x y z w1 hsv.bs lr li lo).mono fun e w2 ⟨h5, h6⟩ => ⟨_, h5, h6, rfl⟩
  · refine stp_call 6 rfl rfl (by simp) (fun a w1 h1 h2 h3 => ⟨#[.int .i64 (if S.ok then 0 else 162)], ?_, ?_⟩)
    · have q : a.eval (.tmp 5) = .int .i64 (if S.ok then 0 else 162) := h3 2 (by decide)
      have hf : a.eval (.func 6) = .func (.func 6) #[] #[] := rfl
      clear h1 h2 h3
      generalize a.eval = ρ at *
      simp [execOp, q, hf, go_sem]
    · exact (hnum_c _ w1).mono fun e w2 ⟨h5, h6⟩ => ⟨_, h5, by rw [h6]; exact Below.refl _ _, rfl⟩
  · refine stp_con _ rfl rfl rfl (by simp) (fun a w1 h1 h2 h3 => ?_)
    have q : a.eval (.tmp 1) = .pointer (some ⟨w.heap.size, 0, none⟩) := (h1 1 (by kernel_rfl)).trans rfl
    have hl := ld_agg_w (P := Try.prog) 37 V (hr.later h2 hlt) Try.underlying37 (by rfl) hI
    simp only [execOp, q]; exact hl
  · refine stp_call 9 rfl rfl (by simp) (fun a w1 h1 h2 h3 => ⟨#[.agg V], ?_, ?_⟩)
    · have q : a.eval (.tmp 7) = .agg V := h3 4 (by decide)
      have hf : a.eval (.func 9) = .func (.func 9) #[] #[] := rfl
      clear h1 h2 h3
      generalize a.eval = ρ at *
      simp [execOp, q, hf, go_sem]
    · exact (c5 w1).mono fun e w2 ⟨h5, h6⟩ => ⟨_, h5, h6, rfl⟩
  · refine stp_con _ rfl rfl rfl (by simp) (fun a w1 h1 h2 h3 => ?_)
    have q1 : a.eval (.tmp 6) = .int .i64 (if S.ok then 0 else 162) := h3 3 (by decide)
    have q2 : a.eval (.tmp 8) = .int .i64 (if S.ok then 0 else 162) := h3 5 (by decide)
    clear h1 h2 h3
    generalize a.eval = ρ at *
    generalize (if S.ok then (0 : Int) else 162) = c at *
    simp [execOp, q1, q2, go_sem]
  · refine stp_con _ rfl rfl rfl (by simp) (fun a w1 h1 h2 h3 => ?_)
    have q1 : a.eval (.tmp 9) = .bool true := h3 6 (by decide)
    clear h1 h2 h3
    generalize a.eval = ρ at *
    simp [execOp, q1, go_sem]
  · intro a w1 hts hdf hold hb hf
    have e2 : a.eval (.tmp 2) = .bool true := hf 7 (by decide)
    refine hK a w1 ?_
    refine wp_ret (bodyPost_ret (v := .bool true) ?_ hdf ?_)
    · rw [← e2]
      have e := results_tmp (fn := Try.f3) (t := 2) rfl a.tmps Try.prog w1
      rw [e]
      simp [Act.eval]
    · exact ⟨rfl, HBB.out.trans (hb.mono HBB.out.size)⟩
end Go.Proofs.Ytnlkamfoopikhaa
