/-
  Peek of the reference.
-/
import Derived.Test.YtghiabdkgfhdbaaBrc
import Derived.Test.YtghiabdkgfhdbaaBpk
namespace Go.Proofs.Ytghiabdkgfhdbaa
set_option linter.unusedVariables false
open Go.ChangeShapes Go.WideShapes Go.ChangeAt Go.RowKit Go.Deep
theorem rpeek_neg {B c : Nat} {S : St} {vr vi vo : Value} (w : World) (h : RB B c S vr vi vo w) (a z : Int) (hz : z < 0) :
    Calls Try.prog 37 #[.pointer (some ⟨c, 0, none⟩), .int .u64 a, .int .i64 z] w fun e w' => e = .returned (.tuple #[.slice none 0 0, .int .i64 1]) ∧ Below w.heap.size w w' := by
  clear h
  go_enter Try.func37, Try.ntmps37
  go_wp2
  go_ret2
  exact ⟨rfl, Below.refl _ _⟩
theorem rpeek_zero {B c : Nat} {S : St} {vr vi vo : Value} (w : World) (h : RB B c S vr vi vo w) (a : Int) :
    Calls Try.prog 37 #[.pointer (some ⟨c, 0, none⟩), .int .u64 a, .int .i64 0] w fun e w' => e = .returned (.tuple #[.slice none 0 0, .int .i64 0]) ∧ Below w.heap.size w w' := by
  clear h
  go_enter Try.func37, Try.ntmps37
  go_wp2
  go_ret2
  exact ⟨rfl, Below.refl _ _⟩
theorem rpeek_out {B c : Nat} {S : St} {vr vi vo : Value} (w : World) (h : RB B c S vr vi vo w) (hn : S.ram.length ≤ 65536) (a z : Int) (ha : 0 ≤ a ∧ a ≤ 18446744073709551615) (hz : 0 < z ∧ z ≤ 9223372036854775807) (hf : hld S.ram.length a z = false) :
    Calls Try.prog 37 #[.pointer (some ⟨c, 0, none⟩), .int .u64 a, .int .i64 z] w fun e w' => e = .returned (.tuple #[.slice none 0 0, .int .i64 30]) ∧ Below w.heap.size w w' := by
  have HH := risRam_c w h hn a z ha (by omega)
  rw [hf, Bool.and_false] at HH
  have e0 : (z == 0) = false := by simp; omega
  have hz0 : 0 ≤ z := by omega
  clear h hf
  go_enter Try.func37, Try.ntmps37
  go_wp2_with (go_at_call 36; refine HH.mono ?_; rintro e w1 ⟨rfl, hw⟩; have hw2 := hw.symm; subst hw2)
  go_ret2
  exact ⟨rfl, Below.refl _ _⟩
theorem RB.ram {B c : Nat} {S : St} {vr vi vo : Value} {w : World} (h : RB B c S vr vi vo w) (h0 : 0 < S.ram.length) : ∃ g cap, vr = .slice (some ⟨g, 0, none⟩) S.ram.length cap := Go.Joins.ownsRow_form h.s.r h0
theorem take_succ {l : List Int} {i : Nat} (h : i < l.length) : l.take (i + 1) = l.take i ++ [l.getD i 0] := by
  rw [List.take_add_one, List.getD, List.getElem?_eq_getElem h]; rfl
set_option maxRecDepth 100000 in
set_option maxHeartbeats 2000000 in
theorem rpeek_in {B c : Nat} {S : St} {vr vi vo : Value} (w : World) (h : RB B c S vr vi vo w) (hn : S.ram.length ≤ 65536) (k s : Nat) (hk : k + s ≤ S.ram.length) (hs : 0 < s) :
    Calls Try.prog 37 #[.pointer (some ⟨c, 0, none⟩), .int .u64 (2147483648 + (k : Int)), .int .i64 s] w fun e w' => ∃ u, e = .returned (.tuple #[u, .int .i64 0]) ∧ w'.ownsRow w.heap.size 5 1 u s (bv ((S.ram.drop k).take s)) ∧ Below w.heap.size w w' := by
  obtain ⟨g, cap, rfl⟩ := h.ram (by omega)
  have HH := risRam_c w h hn (2147483648 + (k : Int)) s (by omega) (by omega)
  rw [show (decide ((1 : Int) ≤ (s : Int)) && hld S.ram.length (2147483648 + (k : Int)) s) = true by simp [hld]; omega] at HH
  have HC0 : Hid (∀ w1, Below w.heap.size w w1 → w1.cell? ⟨c, 0, none⟩ = some (.slice (some ⟨g, 0, none⟩) S.ram.length cap)) := fun w1 hb => (h.later hb).cell 0
  have HCB : Hid (∀ w1, Below w.heap.size w w1 → ∀ j, j < S.ram.length → w1.cell? ⟨g, j, none⟩ = some (.int .u8 (S.ram.getD j 0))) := fun w1 hb j hj => by
    rw [(h.later hb).s.r.cellAt j (by omega), bv_get _ _ hj]
  have e0 : ((s : Int) == 0) = false := by simp; omega
  have hz0 : 0 ≤ (s : Int) := by omega
  have e1 : (2147483648 + (k : Int) - 2147483648) = k := by omega
  have e2 : IntKind.u64.wrap (k : Int) = k := u64_small (by omega) (by omega)
  obtain ⟨l, hl⟩ : ∃ l, l = S.ram.drop k := ⟨_, rfl⟩
  have HL : Hid (∀ j, j < s → l.getD j 0 = S.ram.getD (k + j) 0) := fun j hj => by rw [hl]; simp [List.getD, List.getElem?_drop]
  have HLL : Hid (s ≤ l.length) := by unfold Hid; rw [hl]; simp; omega
  rw [← hl]
  clear h hl
  go_enter Try.func37, Try.ntmps37
  go_wp2_with (go_at_call 36; refine HH.mono ?_; rintro e w1 ⟨rfl, hw⟩; have hw2 := hw.symm; subst hw2)
  go_loopw [9, 10] (fun v i wr => ∃ j : Nat, j ≤ s ∧ i = .int .i64 j ∧ Hid (wr.ownsRow w.heap.size 5 1 v (l.take j).length (bv (l.take j))) ∧ Hid (Below w.heap.size w wr)) (fun _ i _ => s - (intOf i).toNat)
  case atStart => exact ⟨0, Nat.zero_le _, rfl, World.ownsRow_nil _ _ _ _, Below.refl _ _⟩
  case round =>
    obtain ⟨j, hj, rfl, hown, hbel⟩ := hrel
    by_cases hlt : j < s
    · have hz : (j : Int) < (s : Int) := by omega
      have c0 := HC0.out wr hbel.out
      have cb := HCB.out wr hbel.out (k + j) (by omega)
      have hjk : (0 : Int) ≤ (k : Int) + j ∧ (k : Int) + j < (S.ram.length : Int) := by omega
      have HT : Hid (l.take (j + 1) = l.take j ++ [S.ram.getD (k + j) 0]) := by
        have hll := HLL.out
        unfold Hid; rw [take_succ (by omega), HL.out j hlt]
      have HTL : Hid ((l.take j).length = j) := by have hll := HLL.out; unfold Hid; rw [List.length_take]; omega
      obtain ⟨x, hx⟩ : ∃ x, x = S.ram.getD (k + j) 0 := ⟨_, rfl⟩
      rw [← hx] at cb HT
      clear hx
      have HBY : Hid (Byt (wr.alloc (.cells #[.int .u8 x] 5)) (.slice (some ⟨wr.heap.size, 0, none⟩) 1 1) [x]) := by
        refine ⟨some ⟨wr.heap.size, 0, none⟩, 1, rfl, Nat.le_refl _, (fun e => by cases e), fun _ => ⟨wr.heap.size, 0, rfl, by simp, fun q hq => ?_⟩⟩
        have : q = 0 := by simp at hq; omega
        subst this
        exact cell_of_row _ _ _ _ _ _ (alloc_at wr _)
      have HSZ : Hid (w.heap.size ≤ (wr.alloc (.cells #[.int .u8 x] 5)).heap.size) := by unfold Hid; have := hbel.out.size; simp; omega
      go_wp2_with (at_builtin; refine appL (by rfl) _ _ (by rfl) w.heap.size _ _ (l.take j) [x] (by rfl) (hown.out.alloc _) (by rfl) HBY.out (by rw [HTL.out]; simp; omega) HSZ.out ?_; intro v' w2 hown2 hg2)
      have HO : Hid (w2.ownsRow w.heap.size 5 1 v' (l.take (j + 1)).length (bv (l.take (j + 1)))) := by unfold Hid; rw [HT.out]; exact hown2
      have HG : Hid (Below w.heap.size w w2) := Below.grown (hbel.out.alloc hbel.out.size _) hg2 HSZ.out (fun q hq => (hown.out.lt q hq).1)
      clear hown2 hg2
      go_roundw
      case rel => exact ⟨j + 1, by omega, by go_num, HO, HG⟩
      case measure => simp [intOf]; omega
    · have hjs : j = s := by omega
      have HJ : Hid (j = s) := hjs
      have hz : (s : Int) ≤ (j : Int) := by omega
      clear hjs hlt
      go_wp2
      go_ret2
      refine ⟨_, rfl, ?_, hbel.out⟩
      have h1 := hown.out
      have hll := HLL.out
      rw [HJ.out, show (l.take s).length = s by rw [List.length_take]; omega] at h1
      exact h1
end Go.Proofs.Ytghiabdkgfhdbaa
