/-
  Layer 17 (gdb): what a body stands for: the reference.
-/
import Derived.Test.YtfenllkkbgkdnaaDoorGn
namespace Go.Proofs.YtfenllkkbgkdnaaDoor
set_option linter.unusedVariables false
set_option maxRecDepth 100000
open Go.ChangeShapes Go.WideShapes Go.ChangeAt Go.RowKit Go.Deep
set_option maxHeartbeats 4000000 in
theorem stands_c (m : List Int) (v : Value) (w : World) (hv : Byt w v m) (hl : m.length ≤ 140737488351232) :
    Calls Tryd.prog 16 #[v] w fun e w' => ∃ u, e = .returned (.tuple #[u, .bool (!(stF m).1)]) ∧ ((stF m).1 = false → Owb w.heap.size w' u (stF m).2) ∧ Fr w.heap.size w w' := by
  obtain ⟨a, cap, rfl, hc, _, hr⟩ := hv
  have HR : Hid (m ≠ [] → ∃ g off, a = some ⟨g, off, none⟩ ∧ g < w.heap.size ∧ ∀ j, j < m.length → w.cell? ⟨g, off + j, none⟩ = some (.int .u8 (m.getD j 0))) := hr
  obtain ⟨B, hB⟩ : ∃ B, B = w.heap.size := ⟨_, rfl⟩
  have HBE := Hid.mk' hB
  rw [← hB]
  obtain ⟨hf, hhf⟩ : ∃ hf, hf = (stF m).1 := ⟨_, rfl⟩
  have HHF := Hid.mk' hhf
  rw [← hhf]
  clear hr hB hhf
  obtain ⟨nh, hnh⟩ : ∃ nh, nh = (!hf) := ⟨_, rfl⟩
  have HNH := Hid.mk' hnh
  rw [← hnh]
  clear hnh
  go_enter Tryd.func16, Tryd.ntmps16
  go_wp2
  go_loopw [4, 5] (fun x i wr => ∃ (k : Nat) (O : List Int), k ≤ m.length ∧ i = .int .i64 k ∧ Hid (stF (m.take k) = (false, O) ∧ O.length ≤ k) ∧ Hid (Owb B wr x O) ∧ Hid (Fr B w wr)) (fun _ i _ => m.length - (intOf i).toNat)
  case atStart => exact ⟨0, [], Nat.zero_le _, rfl, ⟨rfl, Nat.le_refl _⟩, owb_nil _ _, Fr.refl _ _⟩
  case round =>
    obtain ⟨k, O, hk, rfl, hst, hown, hfr⟩ := hrel
    by_cases hlt : k < m.length
    · obtain ⟨gl, off, rfl, hgl, hcell⟩ := HR.out (by intro e; rw [e] at hlt; simp at hlt)
      have hlt2 : (k : Int) < (m.length : Int) := by omega
      have hkb : (k : Int) < 140737488351232 := by omega
      have hce : wr.cell? ⟨gl, off + k, none⟩ = some (.int .u8 (m.getD k 0)) := (hfr.out.b.cell (by rw [HBE.out]; exact hgl)).trans (hcell k hlt)
      have HBS : Hid (B ≤ wr.heap.size) := (by unfold Hid; rw [HBE.out]; exact hfr.out.b.size)
      have HT : Hid (stF (m.take (k + 1)) = stp (false, O) (m.getD k 0)) := (by unfold Hid; rw [take_succ' hlt, stF_app, hst.out.1])
      have HOL : Hid (O.length ≤ k) := hst.out.2
      by_cases h125 : m.getD k 0 = 125
      · rw [h125] at hce HT
        by_cases hend : k + 1 = m.length
        · have HN : Hid (nh = false) := (by unfold Hid; rw [HNH.out, HHF.out]; have q := HT.out; rw [hend, List.take_length] at q; rw [q]; rfl)
          have HN2 : Hid (hf = true) := (by unfold Hid; rw [HHF.out]; have q := HT.out; rw [hend, List.take_length] at q; rw [q]; rfl)
          have he : (k : Int) + 1 = (m.length : Int) := by omega
          clear hcell HR hown hst HT h125 hend
          go_wp2
          go_ret2
          exact ⟨_, by rw [HN.out]; rfl, (fun h => by rw [HN2.out] at h; cases h), hfr.out⟩
        · have hlt3 : k + 1 < m.length := by omega
          have hce2 : wr.cell? ⟨gl, off + (k + 1), none⟩ = some (.int .u8 (m.getD (k + 1) 0)) := (hfr.out.b.cell (by rw [HBE.out]; exact hgl)).trans (hcell (k + 1) hlt3)
          have HT2 : Hid (stF (m.take (k + 2)) = (false, O ++ [xv (m.getD (k + 1) 0)])) := (by unfold Hid; rw [take_succ' hlt3, stF_app, HT.out]; rfl)
          have he : ((k : Int) + 1 == (m.length : Int)) = false := by simp; omega
          obtain ⟨d, hd⟩ : ∃ d, d = m.getD (k + 1) 0 := ⟨_, rfl⟩
          rw [← hd] at hce2 HT2
          clear hcell HR hst HT h125 hend hd
          go_wp2_with (at_builtin; refine appN (by rfl) _ _ (by rfl) B _ O [bits .xor .u8 d 32] (by rfl) hown.out _ 1 (by rfl) (by rfl) (by simp) (by have := HOL.out; simp; omega) HBS.out ?_; intro v2 w2 ho2 hf2; have HO2 := Hid.mk' ho2; have HF2 := Hid.mk' (hfr.out.trans hf2); clear ho2 hf2)
          go_roundw
          case rel => exact ⟨k + 2, O ++ [xv d], by omega, by go_num, ⟨HT2.out, by have := HOL.out; simp; omega⟩, HO2, HF2⟩
          case measure => simp [intOf]; omega
      · have HT2 : Hid (stF (m.take (k + 1)) = (false, O ++ [m.getD k 0])) := (by unfold Hid; rw [HT.out]; unfold stp; rw [if_neg (by simp), if_neg h125])
        obtain ⟨d, hd⟩ : ∃ d, d = m.getD k 0 := ⟨_, rfl⟩
        rw [← hd] at hce HT2 h125
        have r125 : (d == 125) = false := by simp [h125]
        clear hcell HR hst HT hd h125
        go_wp2_with (at_builtin; refine appN (by rfl) _ _ (by rfl) B _ O [d] (by rfl) hown.out _ 1 (by rfl) (by rfl) (by simp) (by have := HOL.out; simp; omega) HBS.out ?_; intro v2 w2 ho2 hf2; have HO2 := Hid.mk' ho2; have HF2 := Hid.mk' (hfr.out.trans hf2); clear ho2 hf2)
        go_roundw
        case rel => exact ⟨k + 1, O ++ [d], by omega, by go_num, ⟨HT2.out, by have := HOL.out; simp; omega⟩, HO2, HF2⟩
        case measure => simp [intOf]; omega
    · have hkn : k = m.length := by omega
      have hz : ¬ (k : Int) < (m.length : Int) := by omega
      have HSF : Hid (stF m = (false, O)) := (by have q := hst.out.1; rw [hkn, List.take_length] at q; exact q)
      have HN : Hid (nh = true) := (by unfold Hid; rw [HNH.out, HHF.out, HSF.out]; rfl)
      have HO : Hid (Owb B wr u4 (stF m).2) := (by unfold Hid; rw [HSF.out]; exact hown.out)
      clear hkn hlt hst hown
      go_wp2
      go_ret2
      exact ⟨u4, by rw [HN.out]; rfl, (fun _ => HO.out), hfr.out⟩
end Go.Proofs.YtfenllkkbgkdnaaDoor
