/-
  made: the program's bus of a state that can be.
-/
import Derived.Test.YtghiabdkgfhdbaaBmk
namespace Go.Proofs.Ytghiabdkgfhdbaa
set_option linter.unusedVariables false
open Go.ChangeShapes Go.WideShapes Go.ChangeAt Go.RowKit Go.Deep
set_option maxRecDepth 100000 in
set_option maxHeartbeats 4000000 in
theorem made_c (S : St) (ar ai ao : Option Addr) (cr ci co : Nat) (w : World) (hok : S.ok = true) (hs : Bs S (.slice ar S.ram.length cr) (.slice ai S.inp.length ci) (.slice ao S.out.length co) w)
    (lr : S.ram.length ≤ 140737488355328) (li : S.inp.length ≤ 140737488355328) (lo : S.out.length ≤ 140737488355328) :
    Calls Try.prog 10 #[.agg (stc S (.slice ar S.ram.length cr) (.slice ai S.inp.length ci) (.slice ao S.out.length co))] w fun e w' => ∃ L, e = .returned (.tuple #[.pointer (some ⟨Lay.b L, 0, none⟩), .bool true]) ∧ PB w.heap.size L S w' ∧ Below w.heap.size w w' := by
  have HS : Hid (∀ w', Below w.heap.size w w' → Bs S (.slice ar S.ram.length cr) (.slice ai S.inp.length ci) (.slice ao S.out.length co) w') := fun w' h => hs.later h
  have HCP : Hid (∀ w1, Below w.heap.size w w1 → Calls Try.prog 21 #[.agg (stc S (.slice ar S.ram.length cr) (.slice ai S.inp.length ci) (.slice ao S.out.length co))] w1 fun e w' => ∃ ur ui uo, e = .returned (.agg (stc S ur ui uo)) ∧ Sv w1.heap.size S ur ui uo w' ∧ Below w1.heap.size w1 w') :=
    fun w1 h => copied_c S ar ai ao cr ci co w1 (hs.later h).r (hs.later h).i (hs.later h).o lr li lo
  have HFR : Hid (∀ w1 x1 z1 x2 z2 x3 z3, Bs S (.slice x1 S.ram.length z1) (.slice x2 S.inp.length z2) (.slice x3 S.out.length z3) w1 → Calls Try.prog 26 #[.agg (stc S (.slice x1 S.ram.length z1) (.slice x2 S.inp.length z2) (.slice x3 S.out.length z3))] w1 fun e w' => ∃ L, e = .returned (.tuple #[.pointer (some ⟨Lay.b L, 0, none⟩), .int .i64 0]) ∧ PB w1.heap.size L S w' ∧ Below w1.heap.size w1 w') :=
    fun w1 x1 z1 x2 z2 x3 z3 h => from_c S x1 x2 x3 z1 z2 z3 w1 hok h.r h.i h.o lr li lo
  have HSS : Hid (∀ B L w1, PB B L S w1 → Calls Try.prog 11 #[.pointer (some ⟨L.b, 0, none⟩)] w1 fun e w' => ∃ ur ui uo, e = .returned (.agg (stc S ur ui uo)) ∧ Sv w1.heap.size S ur ui uo w' ∧ Below w1.heap.size w1 w') := fun B L w1 h => state_c w1 h lr li lo
  have HSM : Hid (SameC S) := same_any S
  clear hs lr li lo hok
  unfold stc at HCP HFR ⊢
  go_enter Try.func10, Try.ntmps10
  go_wp2_with (first | (go_at_call 21; refine (HCP.out _ (below_al w _)).mono ?_; rintro e w1 ⟨vr, vi, vo, rfl, hsv, hb1⟩; obtain ⟨x1, z1, x2, z2, x3, z3, rfl, rfl, rfl⟩ := hsv.bs.forms; have HSV : Hid _ := hsv; have HB1 : Hid (Below w.heap.size w w1) := box_below hb1; have HP1 : Hid _ := (Lies.new w _ _).later hb1; clear hsv hb1) | (go_at_call 26; refine (HFR.out _ _ _ _ _ _ _ HSV.out.bs).mono ?_; rintro e w2 ⟨L, rfl, hpb, hb2⟩; have HPB : Hid _ := hpb; have HB2 : Hid (Below w.heap.size w w2) := HB1.out.trans (hb2.mono HB1.out.size); have HP2 : Hid _ := Lies.later HP1.out hb2; clear hpb hb2))
  have HCJ : Hid (∀ w', Lies w.heap.size (stc S (.slice ar S.ram.length cr) (.slice ai S.inp.length ci) (.slice ao S.out.length co)) 26 w' → w'.cell? ⟨w.heap.size, 0, none⟩ = some (.slice ar S.ram.length cr) ∧ w'.cell? ⟨w.heap.size, 1, none⟩ = some (.int .u32 S.msip) ∧ w'.cell? ⟨w.heap.size, 2, none⟩ = some (.int .u64 S.cmp) ∧ w'.cell? ⟨w.heap.size, 3, none⟩ = some (.int .u64 S.time) ∧ w'.cell? ⟨w.heap.size, 4, none⟩ = some (.bool S.ext) ∧ w'.cell? ⟨w.heap.size, 5, none⟩ = some (.bool S.soft) ∧ w'.cell? ⟨w.heap.size, 6, none⟩ = some (.int .u8 S.ier) ∧ w'.cell? ⟨w.heap.size, 7, none⟩ = some (.int .u8 S.lcr) ∧ w'.cell? ⟨w.heap.size, 8, none⟩ = some (.int .u8 S.mcr) ∧ w'.cell? ⟨w.heap.size, 9, none⟩ = some (.int .u8 S.scr) ∧ w'.cell? ⟨w.heap.size, 10, none⟩ = some (.bool S.ov) ∧ w'.cell? ⟨w.heap.size, 11, none⟩ = some (.slice ai S.inp.length ci) ∧ w'.cell? ⟨w.heap.size, 12, none⟩ = some (.slice ao S.out.length co) ∧ w'.cell? ⟨w.heap.size, 13, none⟩ = some (.int .i64 S.off) ∧ w'.cell? ⟨w.heap.size, 14, none⟩ = some (.int .i64 S.code)) :=
    fun w' h2 => ⟨h2.cell 0, h2.cell 1, h2.cell 2, h2.cell 3, h2.cell 4, h2.cell 5, h2.cell 6, h2.cell 7, h2.cell 8, h2.cell 9, h2.cell 10, h2.cell 11, h2.cell 12, h2.cell 13, h2.cell 14⟩
  have HPL : Hid (Lies w.heap.size (stc S (.slice ar S.ram.length cr) (.slice ai S.inp.length ci) (.slice ao S.out.length co)) 26 w2) := HP2.out
  clear HP2 HP1 HSV HFR HCP
  go_region_held3 (fun w' => w'.cell? ⟨w.heap.size, 0, none⟩ = some (.slice ar S.ram.length cr) ∧ w'.cell? ⟨w.heap.size, 1, none⟩ = some (.int .u32 S.msip) ∧ w'.cell? ⟨w.heap.size, 2, none⟩ = some (.int .u64 S.cmp) ∧ w'.cell? ⟨w.heap.size, 3, none⟩ = some (.int .u64 S.time) ∧ w'.cell? ⟨w.heap.size, 4, none⟩ = some (.bool S.ext) ∧ w'.cell? ⟨w.heap.size, 5, none⟩ = some (.bool S.soft) ∧ w'.cell? ⟨w.heap.size, 6, none⟩ = some (.int .u8 S.ier) ∧ w'.cell? ⟨w.heap.size, 7, none⟩ = some (.int .u8 S.lcr) ∧ w'.cell? ⟨w.heap.size, 8, none⟩ = some (.int .u8 S.mcr) ∧ w'.cell? ⟨w.heap.size, 9, none⟩ = some (.int .u8 S.scr) ∧ w'.cell? ⟨w.heap.size, 10, none⟩ = some (.bool S.ov) ∧ w'.cell? ⟨w.heap.size, 11, none⟩ = some (.slice ai S.inp.length ci) ∧ w'.cell? ⟨w.heap.size, 12, none⟩ = some (.slice ao S.out.length co) ∧ w'.cell? ⟨w.heap.size, 13, none⟩ = some (.int .i64 S.off) ∧ w'.cell? ⟨w.heap.size, 14, none⟩ = some (.int .i64 S.code)) (first | exact HCJ.out _ HPL.out | exact hcj8 | exact hcj7)
    (first | (go_at_call 11; refine (HSS.out w1.heap.size L _ ?_).mono ?_; exact HPB.out.drew; rintro e w7 ⟨a1, a2, a3, rfl, hsv, hb7⟩; have HB7 : Hid (Below w2.heap.size w2 w7) := ⟨hb7.os, hb7.tape, hb7.output, hb7.size, hb7.block⟩; have HR7 : Hid _ := Lies.later HPL.out HB7.out; have hcj7 := HCJ.out w7 HR7.out; have HSV7 : Hid _ := hsv.bs; have HP7 : Hid _ := HPB.out.later HB7.out; have HBW7 : Hid (Below w.heap.size w w7) := HB2.out.trans (HB7.out.mono HB2.out.size); clear hsv hb7) | (go_at_call 14; refine (HSM.out a1 a2 a3 (.slice ar S.ram.length cr) (.slice ai S.inp.length ci) (.slice ao S.out.length co) w7 HSV7.out (HS.out _ HBW7.out)).mono ?_; rintro e w8 ⟨rfl, hb8⟩; have hcj8 := HCJ.out w8 (Lies.later HR7.out hb8); have HB8 : Hid (Below w.heap.size w w8) := HBW7.out.trans (hb8.mono HBW7.out.size); have HP8 : Hid _ := HP7.out.later hb8; clear hb8))
  all_goals go_wp2
  all_goals go_ret2
  all_goals exact ⟨L, rfl, HP8.out.le HB1.out.size, HB8.out⟩
end Go.Proofs.Ytghiabdkgfhdbaa
