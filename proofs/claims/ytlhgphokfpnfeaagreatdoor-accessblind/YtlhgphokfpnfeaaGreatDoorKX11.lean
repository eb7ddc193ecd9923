import Derived.Test.YtlhgphokfpnfeaaGreatDoorKX10
namespace Go.Proofs.YtlhgphokfpnfeaaGreatDoor
set_option linter.unusedVariables false
open Go.MuLone Go.ChangeShapes Go.WideShapes Go.ChangeAt Go.RowKit Go.Deep
set_option maxRecDepth 100000 in
set_option maxHeartbeats 4000000 in
theorem blind_no (K : Cp) (S : St) (ar ai ao : Option Addr) (cr ci co : Nat) (O : List Acd) (va : Value) (vx : Value) (X : List Int) (w : World) (hT : Tb w) (hs : Bs S (.slice ar S.ram.length cr) (.slice ai S.inp.length ci) (.slice ao S.out.length co) w) (hw : StW S) (lr : S.ram.length ≤ 140737488355328) (li : S.inp.length ≤ 140737488355328) (lo : S.out.length ≤ 140737488355328) (ha : Acts w va O) (hl : O.length ≤ 140737488355328) (hx : Byt w vx X) (hX : X.length ≤ 140737488355328) (hok : S.ok = false) :
    Calls Tryz.prog 6 #[.agg (scc K S (.slice ar S.ram.length cr) (.slice ai S.inp.length ci) (.slice ao S.out.length co) va), vx] w fun e w' => e = .returned (.bool true) ∧ Below w.heap.size w w' := by
  obtain ⟨W0, hW0, r0, b0, s0⟩ := start1 w (scc K S (.slice ar S.ram.length cr) (.slice ai S.inp.length ci) (.slice ao S.out.length co) va) 38
  have HSB : Hid (∀ W, Below W0.heap.size W0 W → ∀ j v, (stc S (.slice ar S.ram.length cr) (.slice ai S.inp.length ci) (.slice ao S.out.length co))[j]? = some v → W.cell? ⟨w.heap.size, 82 + j, none⟩ = some v) := fun W hb j v h => by rw [(r0.out.later hb r0.out.lt).cell]; exact scc_b _ _ _ _ _ _ j v h
  have HLV : Hid (∀ W, Tb W → Calls Tryz.prog 9 #[] W fun e w' => e = .returned (.bool true) ∧ Below W.heap.size W w') := fun W h => live_c W h
  have HT0 : Hid (Tb W0) := hT.next b0.out
  have HST : Hid (∀ W, Calls Tryz.prog 8 #[.agg (stc S (.slice ar S.ram.length cr) (.slice ai S.inp.length ci) (.slice ao S.out.length co))] W fun e w' => e = .returned (.pointer none) ∧ Below W.heap.size W w') := fun W => start_no S ar ai ao cr ci co W hok
  clear hs hw lr li lo ha hl hok s0 hT
  go_enter Tryz.func6, Tryz.ntmps6
  go_upto_region 1 with fail
  clear hW0 r0
  go_wp2_with (first | (refine wpList_load_agg (by rfl) _ _ (by rfl) w.heap.size 82 (by rfl) (stc S (.slice ar S.ram.length cr) (.slice ai S.inp.length ci) (.slice ao S.out.length co)) _ (HSB.out _ (Below.refl _ _)) Tryz.underlying35 (by rfl) (info_bus _ _ _ _) ?_) | (go_at_call 8; refine (HST.out _).mono ?_; rintro e w1 ⟨rfl, hb1⟩; have HB1 : Hid (Below W0.heap.size W0 w1) := hb1; clear hb1) | (go_at_call 9; refine (HLV.out _ (HT0.out.next HB1.out)).mono ?_; rintro e w3 ⟨rfl, hb3⟩; have HB3 : Hid (Below W0.heap.size W0 w3) := HB1.out.trans (hb3.mono HB1.out.size); clear hb3))
  go_ret
  exact ⟨rfl, b0.out.trans (HB3.out.mono b0.out.size)⟩
end Go.Proofs.YtlhgphokfpnfeaaGreatDoor
