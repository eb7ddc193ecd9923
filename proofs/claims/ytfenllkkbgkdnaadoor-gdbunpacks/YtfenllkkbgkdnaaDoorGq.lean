/-
  Layer 17 (gdb): GdbUnpacks.
-/
import Derived.Test.YtfenllkkbgkdnaaDoorGp
namespace Go.Proofs.YtfenllkkbgkdnaaDoor
set_option linter.unusedVariables false
set_option maxRecDepth 100000
open Go.ChangeShapes Go.WideShapes Go.ChangeAt Go.RowKit Go.Deep
set_option maxHeartbeats 4000000 in
theorem gdbUnpacks_c (l : List Int) (a : Option Addr) (c : Nat) (w : World) (hv : Byt w (.slice a l.length c) l) (hall : AllB l) (hl : l.length ≤ 140737488351232) (hE : Es w) :
    Calls Tryd.prog 5 #[.slice a l.length c] w fun e w' => e = .returned (.bool true) ∧ Below w.heap.size w w' := by
  have HV : Hid (∀ W, Below w.heap.size w W → Byt W (.slice a l.length c) l) := fun W h => hv.later h rfl
  have HP : Hid (∀ a c W, Below w.heap.size w W → Byt W (.slice a l.length c) l → Calls Tryd.prog 7 #[.slice a l.length c] W fun e w' => ∃ u, e = .returned (.tuple #[u, .int .i64 (upE l)]) ∧ Byt w' u (upB l) ∧ Below W.heap.size W w') := fun a c W hb h => unp_c l a c W h hall (by omega) (hE.later hb)
  have HQ : Hid (∀ a c W, Byt W (.slice a l.length c) l → Calls Tryd.prog 8 #[.slice a l.length c] W fun e w' => ∃ u, e = .returned (.tuple #[u, .int .i64 (upE l)]) ∧ Byt w' u (upB l) ∧ Below W.heap.size W w') := fun a c W h => runp_c l a c W h hall hl
  have HY := Hid.mk' hv
  generalize upE l = E at *
  generalize upB l = R at *
  obtain ⟨n, hn⟩ : ∃ n, n = l.length := ⟨_, rfl⟩
  rw [← hn] at HV HP HQ HY hl ⊢
  have HN := Hid.mk' hn
  clear hn hv hE
  go_enter Tryd.func5, Tryd.ntmps5
  go_upto_region 2 with (at_builtin; refine appY (by rfl) _ _ (by rfl) w.heap.size _ _ [] l (by rfl) (owb_nil _ _) (by rfl) HY.out (by rw [← HN.out]; simp; omega) (Nat.le_refl _) ?_; intro u W1 ho hf; have HO := Hid.mk' ho; have HF := Hid.mk' hf; clear ho hf; obtain ⟨au, cu, eu, hcu⟩ := (Byt.of_own HO.out).len; rw [List.nil_append, ← HN.out] at eu; subst eu)
  have HU : Hid (Byt W1 (.slice au n cu) l) := Byt.of_own HO.out
  have HB1 := Hid.mk' HF.out.b
  clear HO HF HY hcu
  go_upto_region 3 with (go_at_call 7; refine (HP.out _ _ W1 HB1.out HU.out).mono ?_; rintro e W2 ⟨b1, rfl, ho, hf⟩; have HO1 := Hid.mk' ho; have HF1 := Hid.mk' hf; clear ho hf)
  have HB2 : Hid (Below w.heap.size w W2) := HB1.out.trans (HF1.out.mono HB1.out.size)
  have HU2 := Hid.mk' (HU.out.later HF1.out rfl)
  have HVX := Hid.mk' (HV.out W2 HB2.out)
  clear HP HU HF1
  go_upto_region 4 with (go_at_call 8; refine (HQ.out _ _ W2 HVX.out).mono ?_; rintro e W3 ⟨b2, rfl, ho, hf⟩; have HO2 := Hid.mk' ho; have HF2 := Hid.mk' hf; clear ho hf)
  have HB3 : Hid (Below w.heap.size w W3) := HB2.out.trans (HF2.out.mono HB2.out.size)
  have h1 := (HO1.out.later HF2.out rfl).conv
  have h2 := HO2.out.conv
  have h3 := (HU2.out.later HF2.out rfl).conv
  have h4 := (HV.out W3 HB3.out).conv
  generalize strOfNums R = s1 at *
  generalize strOfNums l = s2 at *
  clear HO1 HO2 HF2 HU2 HVX HV HQ
  go_wp2
  go_ret
  exact ⟨rfl, HB3.out⟩
end Go.Proofs.YtfenllkkbgkdnaaDoor
