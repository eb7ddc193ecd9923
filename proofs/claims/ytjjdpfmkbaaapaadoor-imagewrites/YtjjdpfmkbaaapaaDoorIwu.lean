/-
  same, parts, names, alike of the law.
-/
import Derived.Test.YtjjdpfmkbaaapaaDoorIws
import Derived.Test.YtjjdpfmkbaaapaaDoorIwt
import Derived.Laws.BytesArg
import Derived.BigQuiet
import Derived.Deep.QuietTactic
namespace Go.Proofs.YtjjdpfmkbaaapaaDoor
set_option linter.unusedVariables false
open Go.ChangeShapes Go.WideShapes Go.ChangeAt Go.RowKit Go.Deep
theorem Byt.conv {w : World} {v : Value} {l : List Int} (h : Byt w v l) : (convert 28 9 v).run Tryd.prog w = .ok (.string (strOfNums l)) w := by
  obtain ⟨a, cap, rfl, h1, h1', h2⟩ := h
  by_cases hl : l = []
  · subst hl
    cases a with
    | none => exact run_convert_bytes_nil (P := Tryd.prog) w 28 5 Tryd.underlying28 Tryd.underlying5 _ _ _ Tryd.underlying9
    | some ad =>
      rw [run_convert_bytes_string w 28 9 5 _ _ _ Tryd.underlying28 Tryd.underlying5 Tryd.underlying9]
      exact run_bytesToString w ad 0 cap [] (by have := run_loadCells_list (P := Tryd.prog) w ad [] (fun j v hj => by simp at hj); simpa using this)
  · obtain ⟨g, off, rfl, h3, h4⟩ := h2 hl
    exact run_convert_bytes_arg w 28 5 Tryd.underlying28 Tryd.underlying5 g off l.length cap l rfl h4 _ Tryd.underlying9
theorem same_true {w : World} {va vb : Value} {l : List Int} (ha : Byt w va l) (hb : Byt w vb l) :
    Calls Tryd.prog 8 #[va, vb] w fun e w' => e = .returned (.bool true) ∧ w' = w := by
  have ca := ha.conv
  have cb := hb.conv
  generalize strOfNums l = s at ca cb
  clear ha hb
  go_enter Tryd.func8, Tryd.ntmps8
  go_wp2
  go_ret
  exact ⟨rfl, rfl⟩
theorem below_drewN {B : Nat} {w w' : World} (h : Below B w w') (n : Nat) : Below B w (w'.drewN n) := ⟨h.os, h.tape, h.output, h.size, h.block⟩
theorem Byt.nil (w : World) : Byt w (.slice none 0 0) [] := ⟨none, 0, rfl, Nat.le_refl _, fun _ => rfl, fun h => absurd rfl h⟩
theorem Byt.drewN {w : World} {v : Value} {l : List Int} (h : Byt w v l) : Byt w.drew v l := h.later (Below.drew (Below.refl _ _)) rfl
set_option maxRecDepth 100000 in
set_option maxHeartbeats 4000000 in
theorem lparts_c (va vb : Value) (L M : List Sg) (D : Nat → List Int) (hl : L.length ≤ 140737488355328) (w : World) (ha : Sgs w va M) (hb : Sgs w vb L) (hal : Alike L M) (hda : Dts w M D) (hdb : Dts w L D) :
    Calls Tryd.prog 19 #[va, vb] w fun e w' => e = .returned (.bool true) ∧ Below w.heap.size w w' := by
  have HA : Hid (Sgs w va M) := ha
  have HB : Hid (Sgs w vb L) := hb
  have HL : Hid (Alike L M) := hal
  have HDA : Hid (Dts w M D) := hda
  have HDB : Hid (Dts w L D) := hdb
  obtain ⟨aa, ac, rfl, _, _⟩ := ha
  obtain ⟨ba, bc, rfl, _, _⟩ := hb
  rw [hal.len] at HA ⊢
  have hlI : (L.length : Int) ≤ 140737488355328 := by omega
  clear hal hda hdb
  go_enter Tryd.func19, Tryd.ntmps19
  go_wp2
  go_loopw [5] (fun i wr => ∃ k : Nat, k ≤ L.length ∧ i = .int .i64 k ∧ Hid (Below w.heap.size w wr)) (fun i _ => L.length - (intOf i).toNat)
  case atStart => exact ⟨0, Nat.zero_le _, rfl, Below.refl _ _⟩
  case round =>
    obtain ⟨k, hk, rfl, hw⟩ := hrel
    by_cases hlt : k < L.length
    · have hltI : (k : Int) < (L.length : Int) := by omega
      have hMl := HL.out.len
      obtain ⟨_, _, he, _, hcc⟩ := HA.out.later hw.out rfl
      simp only [Value.slice.injEq] at he
      obtain ⟨rfl, _, rfl⟩ := he
      obtain ⟨g, off, rfl, hg, hcells⟩ := hcc (by intro e; rw [e] at hMl; simp only [List.length_nil] at hMl; omega)
      obtain ⟨c0, c1, c2, c3⟩ := hcells k (by omega)
      obtain ⟨_, _, he, _, hcc'⟩ := HB.out.later hw.out rfl
      cases he
      obtain ⟨g', off', rfl, hg', hcells'⟩ := hcc' (by intro e; rw [e] at hlt; exact absurd hlt (Nat.not_lt_zero _))
      obtain ⟨d0, d1, d2, d3⟩ := hcells' k hlt
      rw [HL.out.a k hlt] at c0
      rw [HL.out.s k hlt] at c1
      rw [HL.out.f k hlt] at c2
      have y1 := (HDA.out.later hw.out k (by omega)).2
      have y2 := (HDB.out.later hw.out k hlt).2
      have HY1 : Hid (∀ wx, Below wr.heap.size wr wx → Byt wx (.slice (sg M k).m (sg M k).n (sg M k).c) (D k)) := fun wx hx => y1.later hx rfl
      have HY2 : Hid (∀ wx, Below wr.heap.size wr wx → Byt wx (.slice (sg L k).m (sg L k).n (sg L k).c) (D k)) := fun wx hx => y2.later hx rfl
      clear hcells hcc hg hcells' hcc' hg' y1 y2 hMl
      obtain ⟨A, hA⟩ : ∃ A, A = n64 (sg L k).a := ⟨_, rfl⟩
      obtain ⟨S, hS⟩ : ∃ S, S = n64 (sg L k).s := ⟨_, rfl⟩
      obtain ⟨F, hF⟩ : ∃ F, F = (sg L k).f := ⟨_, rfl⟩
      obtain ⟨x, hx⟩ : ∃ x, x = sg M k := ⟨_, rfl⟩
      rw [← hA] at c0 d0
      rw [← hS] at c1 d1
      rw [← hF] at c2 d2
      rw [← hx] at c3 HY1
      obtain ⟨y, hy⟩ : ∃ y, y = sg L k := ⟨_, rfl⟩
      rw [← hy] at d3 HY2
      clear hA hS hF hx hy
      go_wp2
      --@CUT1
      go_quiet ((first | (go_at_call 8; exact Calls.quiet_of_same (same_true (l := D k) (HY1.out _ (by first | exact Below.refl _ _ | exact Below.drew (Below.refl _ _) | exact below_drewN (Below.refl _ _) _)) (HY2.out _ (by first | exact Below.refl _ _ | exact Below.drew (Below.refl _ _) | exact below_drewN (Below.refl _ _) _)))) | fail))
      go_wp2
      --@CUT2
      go_roundw
      case rel => exact ⟨k + 1, by omega, by go_num, below_drewN hw.out _⟩
      case measure => simp only [intOf]; omega
    · obtain rfl : k = L.length := by omega
      have hltI : ¬ ((L.length : Int) < L.length) := by omega
      go_wp2
      go_ret
      exact ⟨rfl, hw.out⟩
set_option maxRecDepth 100000 in
set_option maxHeartbeats 4000000 in
theorem lnames_c (va vb : Value) (N : List Sy) (hl : N.length ≤ 140737488355328) (w : World) (ha : Sys w va N) (hb : Sys w vb N) :
    Calls Tryd.prog 20 #[va, vb] w fun e w' => e = .returned (.bool true) ∧ Below w.heap.size w w' := by
  have HA : Hid (Sys w va N) := ha
  have HB : Hid (Sys w vb N) := hb
  obtain ⟨aa, ac, rfl, _, _⟩ := ha
  obtain ⟨ba, bc, rfl, _, _⟩ := hb
  have hlI : (N.length : Int) ≤ 140737488355328 := by omega
  go_enter Tryd.func20, Tryd.ntmps20
  go_wp2
  go_loopw [5] (fun i wr => ∃ k : Nat, k ≤ N.length ∧ i = .int .i64 k ∧ Hid (Below w.heap.size w wr)) (fun i _ => N.length - (intOf i).toNat)
  case atStart => exact ⟨0, Nat.zero_le _, rfl, Below.refl _ _⟩
  case round =>
    obtain ⟨k, hk, rfl, hw⟩ := hrel
    by_cases hlt : k < N.length
    · have hltI : (k : Int) < (N.length : Int) := by omega
      obtain ⟨_, _, he, _, hcc⟩ := HA.out.later hw.out rfl
      cases he
      obtain ⟨g, off, rfl, hg, hcells⟩ := hcc (by intro e; rw [e] at hlt; exact absurd hlt (Nat.not_lt_zero _))
      obtain ⟨c0, c1⟩ := hcells k hlt
      obtain ⟨_, _, he, _, hcc'⟩ := HB.out.later hw.out rfl
      cases he
      obtain ⟨g', off', rfl, hg', hcells'⟩ := hcc' (by intro e; rw [e] at hlt; exact absurd hlt (Nat.not_lt_zero _))
      obtain ⟨d0, d1⟩ := hcells' k hlt
      clear hcells hcc hg hcells' hcc' hg'
      obtain ⟨s, hs⟩ : ∃ s, s = (sy N k).s := ⟨_, rfl⟩
      obtain ⟨v, hv⟩ : ∃ v, v = n64 (sy N k).v := ⟨_, rfl⟩
      rw [← hs] at c0 d0
      rw [← hv] at c1 d1
      clear hs hv
      go_wp2
      --@CUT3
      go_quiet (fail)
      go_wp2
      go_roundw
      case rel => exact ⟨k + 1, by omega, by go_num, below_drewN hw.out _⟩
      case measure => simp only [intOf]; omega
    · obtain rfl : k = N.length := by omega
      have hltI : ¬ ((N.length : Int) < N.length) := by omega
      go_wp2
      go_ret
      exact ⟨rfl, hw.out⟩
end Go.Proofs.YtjjdpfmkbaaapaaDoor
