/-
  Gb.
-/
import Derived.Test.YtfenllkkbgkdnaaDoorGa
namespace Go.Proofs.YtfenllkkbgkdnaaDoor
set_option linter.unusedVariables false
set_option maxRecDepth 100000
open Go.ChangeShapes Go.WideShapes Go.ChangeAt Go.RowKit Go.Deep
def spc (c : Int) : Bool := c == 36 || c == 35 || c == 125 || c == 42
def xr (c : Int) : Int := if c = 36 then 4 else if c = 35 then 3 else if c = 125 then 93 else 10
/-- A byte, escaped. -/
def esc1 (c : Int) : List Int := if spc c then [125, xr c] else [c]
def escL (l : List Int) : List Int := l.flatMap esc1
theorem take_succ' {l : List Int} {k : Nat} (h : k < l.length) : l.take (k + 1) = l.take k ++ [l.getD k 0] := by
  rw [List.take_add_one]; simp [h]
theorem escL_take {l : List Int} {k : Nat} (h : k < l.length) : escL (l.take (k + 1)) = escL (l.take k) ++ esc1 (l.getD k 0) := by
  rw [take_succ' h]; simp [escL]
theorem esc1_len (c : Int) : (esc1 c).length ≤ 2 := by unfold esc1; split <;> simp
theorem escL_len : ∀ l : List Int, (escL l).length ≤ 2 * l.length
  | [] => by simp [escL]
  | c :: r => by
    have := escL_len r
    have := esc1_len c
    simp only [escL, List.flatMap_cons, List.length_append, List.length_cons] at *
    omega
theorem escL_ge : ∀ l : List Int, l.length ≤ (escL l).length
  | [] => by simp [escL]
  | c :: r => by
    have := escL_ge r
    have h1 : 1 ≤ (esc1 c).length := by unfold esc1; split <;> simp
    simp only [escL, List.flatMap_cons, List.length_append, List.length_cons] at *
    omega
theorem escL_all {l : List Int} (h : AllB l) : AllB (escL l) := fun x hx => by
  simp only [escL, List.mem_flatMap] at hx
  obtain ⟨c, hc, hx⟩ := hx
  have := h c hc
  unfold esc1 at hx
  split at hx
  · unfold xr at hx
    simp at hx
    rcases hx with rfl | rfl
    · omega
    · split <;> (try split) <;> (try split) <;> omega
  · simp at hx; omega
/-- The sum of bytes. -/
def smN (l : List Int) : Int := l.sum % 256
theorem smN_take {l : List Int} {k : Nat} (h : k < l.length) : smN (l.take (k + 1)) = (smN (l.take k) + l.getD k 0) % 256 := by
  rw [take_succ' h]; unfold smN; rw [List.sum_append]; simp
theorem smN_bd (l : List Int) : 0 ≤ smN l ∧ smN l ≤ 255 := by unfold smN; omega
/-- A hex digit. -/
def hd1 (d : Int) : Int := if d < 10 then 48 + d else 87 + d
def hex1 (c : Int) : List Int := [hd1 (c / 16), hd1 (c % 16)]
def hexL (l : List Int) : List Int := l.flatMap hex1
theorem hexL_take {l : List Int} {k : Nat} (h : k < l.length) : hexL (l.take (k + 1)) = hexL (l.take k) ++ hex1 (l.getD k 0) := by
  rw [take_succ' h]; simp [hexL]
theorem hexL_len (l : List Int) : (hexL l).length = 2 * l.length := by
  induction l with
  | nil => rfl
  | cons c r ih => simp only [hexL, List.flatMap_cons, List.length_append, List.length_cons] at *; rw [ih]; simp [hex1]; omega
theorem hexL_all {l : List Int} (h : AllB l) : AllB (hexL l) := fun x hx => by
  simp only [hexL, List.mem_flatMap, hex1] at hx
  obtain ⟨c, hc, hx⟩ := hx
  have := h c hc
  simp at hx
  unfold hd1 at hx
  rcases hx with rfl | rfl <;> split <;> omega
/-- Pack's number and bytes. -/
def pkE (l : List Int) : Int := if 1000 < l.length then 3 else 0
def pkB (l : List Int) : List Int := if 1000 < l.length then [] else [36] ++ escL l ++ [35] ++ hexL [smN (escL l)]
set_option maxHeartbeats 4000000 in
theorem esc_c (l : List Int) (v : Value) (w : World) (hv : Byt w v l) (hl : l.length ≤ 1000) :
    Calls Tryd.prog 9 #[v] w fun e w' => ∃ u, e = .returned u ∧ Owb w.heap.size w' u (escL l) ∧ Fr w.heap.size w w' := by
  obtain ⟨a, cap, rfl, hc, _, hr⟩ := hv
  have HR : Hid (l ≠ [] → ∃ g off, a = some ⟨g, off, none⟩ ∧ g < w.heap.size ∧ ∀ j, j < l.length → w.cell? ⟨g, off + j, none⟩ = some (.int .u8 (l.getD j 0))) := hr
  obtain ⟨B, hB⟩ : ∃ B, B = w.heap.size := ⟨_, rfl⟩
  have HBE := Hid.mk' hB
  rw [← hB]
  clear hr hB
  go_enter Tryd.func9, Tryd.ntmps9
  go_wp2
  go_loopw [3, 8] (fun x i wr => ∃ k : Nat, k ≤ l.length ∧ i = .int .i64 k ∧ Hid (Owb B wr x (escL (l.take k))) ∧ Hid (Fr B w wr)) (fun _ i _ => l.length - (intOf i).toNat)
  case atStart => exact ⟨0, Nat.zero_le _, rfl, owb_nil _ _, Fr.refl _ _⟩
  case round =>
    obtain ⟨k, hk, rfl, hown, hfr⟩ := hrel
    by_cases hlt : k < l.length
    · obtain ⟨gl, off, rfl, hgl, hcell⟩ := HR.out (by intro e; rw [e] at hlt; simp at hlt)
      have hlt2 : (k : Int) < (l.length : Int) := by omega
      have hce : wr.cell? ⟨gl, off + k, none⟩ = some (.int .u8 (l.getD k 0)) := (hfr.out.b.cell (by rw [HBE.out]; exact hgl)).trans (hcell k hlt)
      have HT : Hid (escL (l.take (k + 1)) = escL (l.take k) ++ esc1 (l.getD k 0)) := escL_take hlt
      have HLN : Hid ((escL (l.take k)).length ≤ 2000) := by have := escL_len (l.take k); rw [List.length_take] at this; unfold Hid; omega
      obtain ⟨c, hcc⟩ : ∃ c, c = l.getD k 0 := ⟨_, rfl⟩
      rw [← hcc] at hce HT
      obtain ⟨L, hL⟩ : ∃ L, L = escL (l.take k) := ⟨_, rfl⟩
      rw [← hL] at HT HLN hown
      have HBS : Hid (B ≤ wr.heap.size) := (by unfold Hid; rw [HBE.out]; exact hfr.out.b.size)
      clear hcell hcc hL HR
      by_cases q0 : c = 36
      · subst q0
        go_wp2_with (at_builtin; refine appN (by rfl) _ _ (by rfl) B _ L [125, 4] (by rfl) hown.out _ 2 (by rfl) (by rfl) (by simp) (by have := HLN.out; simp; omega) HBS.out ?_; intro v' w1 ho1 hf1)
        have HO : Hid (Owb B w1 v' (escL (l.take (k + 1)))) := (by unfold Hid; rw [HT.out]; exact ho1)
        have HF := Hid.mk' (hfr.out.trans hf1)
        clear ho1 hf1 hown hfr
        go_roundw
        case rel => exact ⟨k + 1, by omega, by go_num, HO, HF⟩
        case measure => simp [intOf]; omega
      have r0 : (c == 36) = false := by simp [q0]
      by_cases q1 : c = 35
      · subst q1
        go_wp2_with (at_builtin; refine appN (by rfl) _ _ (by rfl) B _ L [125, 3] (by rfl) hown.out _ 2 (by rfl) (by rfl) (by simp) (by have := HLN.out; simp; omega) HBS.out ?_; intro v' w1 ho1 hf1)
        have HO : Hid (Owb B w1 v' (escL (l.take (k + 1)))) := (by unfold Hid; rw [HT.out]; exact ho1)
        have HF := Hid.mk' (hfr.out.trans hf1)
        clear ho1 hf1 hown hfr
        go_roundw
        case rel => exact ⟨k + 1, by omega, by go_num, HO, HF⟩
        case measure => simp [intOf]; omega
      have r1 : (c == 35) = false := by simp [q1]
      by_cases q2 : c = 125
      · subst q2
        go_wp2_with (at_builtin; refine appN (by rfl) _ _ (by rfl) B _ L [125, 93] (by rfl) hown.out _ 2 (by rfl) (by rfl) (by simp) (by have := HLN.out; simp; omega) HBS.out ?_; intro v' w1 ho1 hf1)
        have HO : Hid (Owb B w1 v' (escL (l.take (k + 1)))) := (by unfold Hid; rw [HT.out]; exact ho1)
        have HF := Hid.mk' (hfr.out.trans hf1)
        clear ho1 hf1 hown hfr
        go_roundw
        case rel => exact ⟨k + 1, by omega, by go_num, HO, HF⟩
        case measure => simp [intOf]; omega
      have r2 : (c == 125) = false := by simp [q2]
      by_cases q3 : c = 42
      · subst q3
        go_wp2_with (at_builtin; refine appN (by rfl) _ _ (by rfl) B _ L [125, 10] (by rfl) hown.out _ 2 (by rfl) (by rfl) (by simp) (by have := HLN.out; simp; omega) HBS.out ?_; intro v' w1 ho1 hf1)
        have HO : Hid (Owb B w1 v' (escL (l.take (k + 1)))) := (by unfold Hid; rw [HT.out]; exact ho1)
        have HF := Hid.mk' (hfr.out.trans hf1)
        clear ho1 hf1 hown hfr
        go_roundw
        case rel => exact ⟨k + 1, by omega, by go_num, HO, HF⟩
        case measure => simp [intOf]; omega
      have r3 : (c == 42) = false := by simp [q3]
      have HE1 : Hid (esc1 c = [c]) := (by unfold Hid esc1 spc; rw [r0, r1, r2, r3]; rfl)
      go_wp2_with (at_builtin; refine appN (by rfl) _ _ (by rfl) B _ L [c] (by rfl) hown.out _ 1 (by rfl) (by rfl) (by simp) (by have := HLN.out; simp; omega) HBS.out ?_; intro v' w1 ho1 hf1)
      have HO : Hid (Owb B w1 v' (escL (l.take (k + 1)))) := (by unfold Hid; rw [HT.out]; rw [HE1.out]; exact ho1)
      have HF := Hid.mk' (hfr.out.trans hf1)
      clear ho1 hf1 hown hfr
      go_roundw
      case rel => exact ⟨k + 1, by omega, by go_num, HO, HF⟩
      case measure => simp [intOf]; omega
    · have hkn : k = l.length := by omega
      have hz : ¬ (k : Int) < (l.length : Int) := by omega
      have HO : Hid (Owb B wr u3 (escL l)) := (by have q := hown.out; rw [hkn, List.take_length] at q; exact q)
      clear hkn hlt hown
      go_wp2
      go_ret
      exact ⟨_, rfl, HO.out, hfr.out⟩
end Go.Proofs.YtfenllkkbgkdnaaDoor
