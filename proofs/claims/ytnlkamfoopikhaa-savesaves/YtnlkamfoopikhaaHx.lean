/-
  Layer 16 (save): loose and kept of the laws.
-/
import Derived.Test.YtnlkamfoopikhaaHw
namespace Go.Proofs.Ytnlkamfoopikhaa
set_option linter.unusedVariables false
set_option maxRecDepth 100000
open Go.ChangeShapes Go.WideShapes Go.ChangeAt Go.RowKit Go.Deep
/-- The marks behind a loose list. -/
def mks (k : Nat) : List Int := (List.range k).map fun i : Nat => (128 + (i : Int))
theorem mks_succ (k : Nat) : mks (k + 1) = mks k ++ [128 + (k : Int)] := by simp [mks, List.range_succ]
theorem mks_length (k : Nat) : (mks k).length = k := by simp [mks]
theorem mks_get (k j : Nat) (h : j < k) : (mks k).getD j 0 = 128 + (j : Int) := by simp [mks, h]
set_option maxHeartbeats 4000000 in
theorem loose_c (l : List Int) (v : Value) (w : World) (hv : Byt w v l) (hl : l.length ≤ 140737488351232) :
    Calls Try.prog 10 #[v] w fun e w' => ∃ u, e = .returned u ∧ Owb w.heap.size w' u (l ++ mks 64) ∧ Below w.heap.size w w' := by
  have HO : Hid ((w.alloc (.cells #[] 5)).ownsRow w.heap.size 5 1 (.slice (some ⟨w.heap.size, 0, none⟩) 0 0) ([] : List Int).length (bv [])) := World.ownsRow_made w #[] 0 (Nat.le_refl _) (Nat.zero_le _) rfl
  have HV := Hid.mk' (hv.later (below_al w (.cells #[] 5)) rfl)
  have HF0 : Hid (Fr w.heap.size w (w.alloc (.cells #[] 5))) := (Fr.refl _ _).alloc (Nat.le_refl _) _
  obtain ⟨B, hB⟩ : ∃ B, B = w.heap.size := ⟨_, rfl⟩
  have HB0 := Hid.mk' hB
  have hBs : B ≤ (w.alloc (.cells #[] 5)).heap.size := by rw [hB]; simp
  have HL := Hid.mk' hl
  obtain ⟨a, cap, rfl, _⟩ := hv
  have HO2 : Hid (Owb B (w.alloc (.cells #[] 5)) (.slice (some ⟨w.heap.size, 0, none⟩) 0 0) []) := own_le HO.out (by rw [hB]; exact Nat.le_refl _)
  rw [← hB] at HF0
  clear hB hl HO
  go_enter Try.func10, Try.ntmps10
  go_upto_region 2 with (at_builtin; refine appY (by rfl) _ _ (by rfl) B _ _ [] l (by rfl) HO2.out (by rfl) HV.out (by have := HL.out; simp; omega) hBs ?_; intro v1 W1 ho1 hf1; have HO1 := Hid.mk' ho1; have HF1 := Hid.mk' (HF0.out.trans hf1); clear ho1 hf1)
  rw [List.nil_append] at HO1
  clear HO2 HV HF0 hBs
  go_wp2
  go_loopw [3, 4] (fun v i wr => ∃ k : Nat, k ≤ 64 ∧ i = .int .i64 k ∧ Hid (Owb B wr v (l ++ mks k)) ∧ Hid (Fr B w wr)) (fun _ i _ => 64 - (intOf i).toNat)
  case atStart => exact ⟨0, Nat.zero_le _, rfl, by unfold Hid; rw [show mks 0 = [] from rfl, List.append_nil]; exact HO1.out, HF1⟩
  case round =>
    obtain ⟨k, hk, rfl, ho, hf⟩ := hrel
    clear HO1 HF1
    have hBr : B ≤ wr.heap.size := by rw [HB0.out]; exact hf.out.b.size
    by_cases hlt : k < 64
    · have hlt2 : (k : Int) < 64 := by omega
      have hk0 : (0 : Int) ≤ (k : Int) := by omega
      have hmod : (128 + (k : Int)) % 256 = 128 + (k : Int) := by omega
      have HLL : Hid ((l ++ mks k).length + 1 < 140737488355328) := by have := HL.out; unfold Hid; rw [List.length_append, mks_length]; omega
      go_wp2_with (at_builtin; refine appN (by rfl) _ _ (by rfl) B _ (l ++ mks k) [128 + (k : Int)] (by rfl) ho.out _ 1 (by rfl) (by rfl) (by simp) (by have := HLL.out; simp at this ⊢; omega) hBr ?_; intro v5 w5 ho1 hf1; have HO5 := Hid.mk' ho1; have HG5 := Hid.mk' hf1; clear ho1 hf1)
      go_roundw
      case rel => exact ⟨k + 1, by omega, by go_num, by unfold Hid; rw [mks_succ, ← List.append_assoc]; exact HO5.out, hf.out.trans HG5.out⟩
      case measure => simp [intOf]; omega
    · have hk64 : k = 64 := by omega
      subst hk64
      go_wp2
      go_ret
      exact ⟨_, rfl, by rw [← HB0.out]; exact ho.out, by rw [← HB0.out]; exact hf.out.b⟩
set_option maxHeartbeats 4000000 in
theorem kept_t (l : List Int) (u v : Value) (w : World) (hu : Byt w u (l ++ mks 64)) (hv : Byt w v l) (hl : l.length ≤ 140737488351232) :
    Calls Try.prog 14 #[u, v] w fun e w' => e = .returned (.bool true) ∧ w' = w := by
  have hu0 := hu
  obtain ⟨a, cap, e1, hc, _, hcell⟩ := hu
  subst e1
  have hsl := sl_h w a (l ++ mks 64).length cap l.length (by rw [List.length_append] at hc; omega)
  have hcut := hu0.cut 0 l.length cap (Nat.zero_le _) (by rw [List.length_append] at hc; omega) (Nat.le_refl _) (by rw [List.length_append]; omega)
  rw [List.drop_zero, Nat.sub_zero, Nat.sub_zero, List.take_append_of_le_length (Nat.le_refl _), List.take_length] at hcut
  obtain ⟨ad, had⟩ : ∃ ad, ad = (if cap = 0 then a else a.map (fun x => x.add 0)) := ⟨_, rfl⟩
  rw [← had] at hsl hcut
  clear had
  have HSM := Hid.mk' (lsame_t l _ v w hcut hv)
  obtain ⟨g, off, rfl, hg, hce⟩ := hcell (by intro e; have := congrArg List.length e; simp [mks_length] at this)
  have HCE : Hid (∀ j, j < 64 → w.cell? ⟨g, off + (l.length + j), none⟩ = some (.int .u8 (128 + (j : Int)))) := fun j hj => by
    rw [hce (l.length + j) (by rw [List.length_append, mks_length]; omega), List.getD_eq_getElem?_getD, List.getElem?_append_right (by omega), Nat.add_sub_cancel_left, ← List.getD_eq_getElem?_getD, mks_get _ _ hj]
  obtain ⟨b, d, e2, _⟩ := hv
  subst e2
  obtain ⟨n, hn⟩ : ∃ n, n = l.length := ⟨_, rfl⟩
  obtain ⟨m, hm⟩ : ∃ m, m = (l ++ mks 64).length := ⟨_, rfl⟩
  have hmn : m = n + 64 := by rw [hm, hn, List.length_append, mks_length]
  rw [← hm, ← hn] at hsl
  rw [← hn] at HSM HCE hl
  rw [← hm, ← hn]
  clear hn hm hcut hu0 hce hc
  subst hmn
  go_enter Try.func14, Try.ntmps14
  go_wp2_with (go_at_call 13; refine HSM.out.mono ?_; rintro e w5 ⟨rfl, hw5⟩; have hw6 := hw5.symm; subst hw6)
  go_loopw [5] (fun i wr => ∃ k : Nat, k ≤ 64 ∧ i = .int .i64 k ∧ wr = w) (fun i _ => 64 - (intOf i).toNat)
  case atStart => exact ⟨0, Nat.zero_le _, rfl, rfl⟩
  case round =>
    obtain ⟨k, hk, rfl, hwr⟩ := hrel
    have hwr2 := hwr.symm
    subst hwr2
    clear hwr
    by_cases hlt : k < 64
    · have hlt2 : (k : Int) < 64 := by omega
      have hmod : (128 + (k : Int)) % 256 = 128 + (k : Int) := by omega
      have hcA := HCE.out k hlt
      have hnk : (n : Int) + (k : Int) ≤ 140737488355328 := by omega
      have hnk2 : (n : Int) + (k : Int) < (n : Int) + 64 := by omega
      go_wp2
      go_roundw
      case rel => exact ⟨k + 1, by omega, by go_num, trivial⟩
      case measure => simp [intOf]; omega
    · have hk64 : k = 64 := by omega
      subst hk64
      go_wp2
      go_ret
      exact ⟨rfl, rfl⟩
end Go.Proofs.Ytnlkamfoopikhaa
