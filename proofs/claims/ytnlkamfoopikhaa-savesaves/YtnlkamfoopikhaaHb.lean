/-
  Hb.
-/
import Derived.Test.YtnlkamfoopikhaaHa
import Derived.Test.YtnlkamfoopikhaaBsn
namespace Go.Proofs.Ytnlkamfoopikhaa
set_option linter.unusedVariables false
set_option maxRecDepth 100000
open Go.ChangeShapes Go.WideShapes Go.ChangeAt Go.RowKit Go.Deep
theorem whc_cell (K : Cp) (S : St) (vr vi vo : Value) (w : World) (j : Nat) (v : Value) (h : (stc S vr vi vo)[j]? = some v) : (w.alloc (.cells (whc K S vr vi vo) 37)).cell? ⟨w.heap.size, 82 + j, none⟩ = some v := by
  rw [cell_of_row _ _ _ _ _ _ (alloc_at w _)]; exact whc_b K S vr vi vo j v h
theorem info_bst (S : St) (vr vi vo : Value) : (Try.prog.info? 35).map (·.size) = some (stc S vr vi vo).size := by kernel_rfl
theorem info_wh (K : Cp) (S : St) (vr vi vo : Value) : (Try.prog.info? 37).map (·.size) = some (whc K S vr vi vo).size := by rw [whc_size]; kernel_rfl
theorem rchk_c (K : Cp) (S : St) (ar ai ao : Option Addr) (cr ci co : Nat) (w : World) :
    Calls Try.prog 9 #[.agg (whc K S (.slice ar S.ram.length cr) (.slice ai S.inp.length ci) (.slice ao S.out.length co))] w fun e w' => e = .returned (.int .i64 (if S.ok then 0 else 162)) ∧ Below w.heap.size w w' := by
  have hC := rcanBe_c S ar ai ao cr ci co
  have HL : Hid _ := whc_cell K S (.slice ar S.ram.length cr) (.slice ai S.inp.length ci) (.slice ao S.out.length co) w
  have HI : Hid _ := info_bst S (.slice ar S.ram.length cr) (.slice ai S.inp.length ci) (.slice ao S.out.length co)
  generalize whc K S (.slice ar S.ram.length cr) (.slice ai S.inp.length ci) (.slice ao S.out.length co) = C at HL ⊢
  generalize stc S (.slice ar S.ram.length cr) (.slice ai S.inp.length ci) (.slice ao S.out.length co) = B at HL HI hC
  cases hok : S.ok with
  | true =>
    rw [hok] at hC
    go_enter Try.func9, Try.ntmps9
    go_wp2_with (first | (refine wpList_load_agg (by rfl) 35 _ (by rfl) w.heap.size 82 (by rfl) B _ HL.out Try.underlying35 (by rfl) HI.out ?_) | (go_at_call 19; refine (hC _).mono ?_; rintro e w1 ⟨rfl, hb1⟩))
    go_ret
    exact ⟨rfl, box_below hb1⟩
  | false =>
    rw [hok] at hC
    go_enter Try.func9, Try.ntmps9
    go_wp2_with (first | (refine wpList_load_agg (by rfl) 35 _ (by rfl) w.heap.size 82 (by rfl) B _ HL.out Try.underlying35 (by rfl) HI.out ?_) | (go_at_call 19; refine (hC _).mono ?_; rintro e w1 ⟨rfl, hb1⟩))
    go_ret
    exact ⟨rfl, box_below hb1⟩
theorem schk_c (K : Cp) (S : St) (ar ai ao : Option Addr) (cr ci co : Nat) (w : World) (hs : Bs S (.slice ar S.ram.length cr) (.slice ai S.inp.length ci) (.slice ao S.out.length co) w)
    (lr : S.ram.length ≤ 140737488355328) (li : S.inp.length ≤ 140737488355328) (lo : S.out.length ≤ 140737488355328) :
    Calls Try.prog 7 #[.agg (whc K S (.slice ar S.ram.length cr) (.slice ai S.inp.length ci) (.slice ao S.out.length co))] w fun e w' => e = .returned (.int .i64 (if S.ok then 0 else 162)) ∧ Below w.heap.size w w' := by
  have HL : Hid _ := whc_cell K S (.slice ar S.ram.length cr) (.slice ai S.inp.length ci) (.slice ao S.out.length co) w
  have HI : Hid _ := info_bst S (.slice ar S.ram.length cr) (.slice ai S.inp.length ci) (.slice ao S.out.length co)
  have hC : ∀ o, Calls Try.prog 18 #[.agg (stc S (.slice ar S.ram.length cr) (.slice ai S.inp.length ci) (.slice ao S.out.length co))] (w.alloc o) fun e w' => (∃ b, e = .returned (.tuple #[b, .int .i64 (if S.ok then 0 else 31)])) ∧ Below (w.alloc o).heap.size (w.alloc o) w' := by
    intro o
    have hs1 := hs.later ((Below.refl w.heap.size w).alloc (Nat.le_refl _) o)
    cases hok : S.ok with
    | true => exact (from_c S ar ai ao cr ci co _ hok hs1.r hs1.i hs1.o lr li lo).mono fun e w1 ⟨L, h1, _, h2⟩ => ⟨⟨_, h1⟩, h2⟩
    | false => exact (from_bad S ar ai ao cr ci co _ hok).mono fun e w1 ⟨h1, h2⟩ => ⟨⟨_, h1⟩, h2⟩
  clear hs
  generalize whc K S (.slice ar S.ram.length cr) (.slice ai S.inp.length ci) (.slice ao S.out.length co) = C at HL ⊢
  generalize stc S (.slice ar S.ram.length cr) (.slice ai S.inp.length ci) (.slice ao S.out.length co) = B at HL HI hC
  cases hok : S.ok with
  | true =>
    rw [hok] at hC
    go_enter Try.func7, Try.ntmps7
    go_wp2_with (first | (refine wpList_load_agg (by rfl) 35 _ (by rfl) w.heap.size 82 (by rfl) B _ HL.out Try.underlying35 (by rfl) HI.out ?_) | (go_at_call 18; refine (hC _).mono ?_; rintro e w1 ⟨⟨b1, rfl⟩, hb1⟩))
    go_ret
    exact ⟨rfl, box_below hb1⟩
  | false =>
    rw [hok] at hC
    go_enter Try.func7, Try.ntmps7
    go_wp2_with (first | (refine wpList_load_agg (by rfl) 35 _ (by rfl) w.heap.size 82 (by rfl) B _ HL.out Try.underlying35 (by rfl) HI.out ?_) | (go_at_call 18; refine (hC _).mono ?_; rintro e w1 ⟨⟨b1, rfl⟩, hb1⟩))
    go_ret
    exact ⟨rfl, box_below hb1⟩
end Go.Proofs.Ytnlkamfoopikhaa
