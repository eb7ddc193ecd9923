/-
  Um Un.
-/
import Derived.Test.YtidfndgedopghaaGreatDoorM26
import Derived.Great.BuildSlice
namespace Go.Proofs.YtidfndgedopghaaGreatDoor
set_option linter.unusedVariables false
set_option maxRecDepth 100000
set_option maxHeartbeats 4000000
open Go.ChangeShapes Go.WideShapes Go.ChangeAt Go.RowKit Go.Deep
set_option maxHeartbeats 4000000 in
theorem tR1_c (l : List Rw) (v : Value) (k : Nat) (g1 : Nat) (w : World) (h1 : Row w g1 #[v] 22) (hv : Rws w v l) (hk : k < l.length) (hL : l.length ≤ 140737488351232) : Calls Tryz.prog 34 #[.int .i64 k, .pointer (some ⟨g1, 0, none⟩)] w fun e w' => e = .returned (.bool (kpB l 0 k)) ∧ Below w.heap.size w w' := by
  obtain ⟨a, cap, rfl, -, -, hrow⟩ := hv
  obtain ⟨g, off, rfl, hg, hc⟩ := hrow (by intro e; rw [e] at hk; exact absurd hk (by simp))
  have c1 : w.cell? ⟨g1, 0, none⟩ = some (.slice (some ⟨g, off, none⟩) l.length cap) := h1.cell 0
  have hlt : (k : Int) < (l.length : Int) := by omega
  have C : Hid (∀ i v, (rwc (l.getD k rz))[i]? = some v → w.cell? ⟨g, off + k * 16 + i, none⟩ = some v) := hc k hk
  have c2 : w.cell? ⟨g, off + k * 16, none⟩ = some (.int .i64 (l.getD k rz).st) := C.out 0 _ rfl
  have HM : Hid (kpB l 0 k = ((l.getD k rz).st == (k : Int) + 1)) := rfl
  generalize kpB l 0 k = Z at HM ⊢
  generalize (l.getD k rz).st = s at *
  clear hc C hrow
  go_enter Tryz.func34, Tryz.ntmps34
  go_wp2
  go_ret
  exact ⟨by rw [HM.out]; rfl, Below.refl _ _⟩
set_option maxHeartbeats 4000000 in
theorem tR3_c (l : List Rw) (v : Value) (k : Nat) (g1 : Nat) (w : World) (h1 : Row w g1 #[v] 22) (hv : Rws w v l) (hk : k < l.length) (hL : l.length ≤ 140737488351232) : Calls Tryz.prog 37 #[.int .i64 k, .pointer (some ⟨g1, 0, none⟩)] w fun e w' => e = .returned (.bool (kpB l 2 k)) ∧ Below w.heap.size w w' := by
  obtain ⟨a, cap, rfl, -, -, hrow⟩ := hv
  obtain ⟨g, off, rfl, hg, hc⟩ := hrow (by intro e; rw [e] at hk; exact absurd hk (by simp))
  have c1 : w.cell? ⟨g1, 0, none⟩ = some (.slice (some ⟨g, off, none⟩) l.length cap) := h1.cell 0
  have hlt : (k : Int) < (l.length : Int) := by omega
  have C : Hid (∀ i v, (rwc (l.getD k rz))[i]? = some v → w.cell? ⟨g, off + k * 16 + i, none⟩ = some v) := hc k hk
  have HF : Hid (Calls Tryz.prog 38 #[.agg (rwc (l.getD k rz))] w fun e w' => e = .returned (.bool (fmB (l.getD k rz))) ∧ Below w.heap.size w w') := uFm_c _ w
  show Calls _ _ _ _ fun e w' => e = .returned (.bool (fmB (l.getD k rz))) ∧ _
  generalize fmB (l.getD k rz) = Z at HF ⊢
  generalize l.getD k rz = r at *
  clear hc hrow
  go_enter Tryz.func37, Tryz.ntmps37
  go_wp2_with (first | (refine wpList_load_agg (by rfl) 52 _ (by rfl) g (off + k * 16) (by rfl) (rwc r) _ C.out Tryz.underlying52 (by rfl) (info_rw _) ?_) | (go_at_call 38; refine HF.out.mono ?_; rintro e w1 ⟨rfl, hb1⟩; have HB1 : Hid (Below w.heap.size w w1) := hb1; clear hb1))
  go_ret
  exact ⟨rfl, HB1.out⟩
set_option maxHeartbeats 4000000 in
theorem tR5_c (l : List Rw) (v : Value) (k : Nat) (g1 : Nat) (w : World) (h1 : Row w g1 #[v] 22) (hv : Rws w v l) (hk : k < l.length) (hL : l.length ≤ 140737488351232) : Calls Tryz.prog 41 #[.int .i64 k, .pointer (some ⟨g1, 0, none⟩)] w fun e w' => e = .returned (.bool (kpB l 4 k)) ∧ Below w.heap.size w w' := by
  obtain ⟨a, cap, rfl, -, -, hrow⟩ := hv
  obtain ⟨g, off, rfl, hg, hc⟩ := hrow (by intro e; rw [e] at hk; exact absurd hk (by simp))
  have c1 : w.cell? ⟨g1, 0, none⟩ = some (.slice (some ⟨g, off, none⟩) l.length cap) := h1.cell 0
  have hlt : (k : Int) < (l.length : Int) := by omega
  have C : Hid (∀ i v, (rwc (l.getD k rz))[i]? = some v → w.cell? ⟨g, off + k * 16 + i, none⟩ = some v) := hc k hk
  have HF : Hid (Calls Tryz.prog 42 #[.agg (rwc (l.getD k rz))] w fun e w' => e = .returned (.bool (tuB (l.getD k rz))) ∧ Below w.heap.size w w') := uTu_c _ w
  show Calls _ _ _ _ fun e w' => e = .returned (.bool (tuB (l.getD k rz))) ∧ _
  generalize tuB (l.getD k rz) = Z at HF ⊢
  generalize l.getD k rz = r at *
  clear hc hrow
  go_enter Tryz.func41, Tryz.ntmps41
  go_wp2_with (first | (refine wpList_load_agg (by rfl) 52 _ (by rfl) g (off + k * 16) (by rfl) (rwc r) _ C.out Tryz.underlying52 (by rfl) (info_rw _) ?_) | (go_at_call 42; refine HF.out.mono ?_; rintro e w1 ⟨rfl, hb1⟩; have HB1 : Hid (Below w.heap.size w w1) := hb1; clear hb1))
  go_ret
  exact ⟨rfl, HB1.out⟩
set_option maxHeartbeats 4000000 in
theorem tR2_c (l : List Rw) (v : Value) (k : Nat) (g1 : Nat) (w : World) (h1 : Row w g1 #[v] 22) (hv : Rws w v l) (hk : k < l.length) (hL : l.length ≤ 140737488351232) : Calls Tryz.prog 35 #[.int .i64 k, .pointer (some ⟨g1, 0, none⟩)] w fun e w' => e = .returned (.bool (kpB l 1 k)) ∧ Below w.heap.size w w' := by
  obtain ⟨a, cap, rfl, -, -, hrow⟩ := hv
  obtain ⟨g, off, rfl, hg, hc⟩ := hrow (by intro e; rw [e] at hk; exact absurd hk (by simp))
  have c1 : w.cell? ⟨g1, 0, none⟩ = some (.slice (some ⟨g, off, none⟩) l.length cap) := h1.cell 0
  have hlt : (k : Int) < (l.length : Int) := by omega
  have C : Hid (∀ i v, (rwc (l.getD k rz))[i]? = some v → w.cell? ⟨g, off + k * 16 + i, none⟩ = some v) := hc k hk
  have c1 : ∀ x : Later w, x.1.cell? ⟨g1, 0, none⟩ = some (.slice (some ⟨g, off, none⟩) l.length cap) := fun x => (lrow h1 x).cell 0
  have hne := later_nonempty w
  by_cases hz : k = 0
  · subst hz
    have HV : Hid (kpB l 1 0 = true) := rfl
    generalize kpB l 1 0 = Z at HV ⊢
    clear C hc hrow hlt
    go_enter Tryz.func35, Tryz.ntmps35
    go_upto_region 1 with fail
    refine wp_region_later (x0 := Later.start w) (by kernel_rfl) (by kernel_rfl) ?_
    iterate 15 (go_big_quiet_step (fail))
    refine wpQuiet_nil ?_
    rintro _ ⟨yq, rfl⟩
    go_wp2
    go_ret
    exact ⟨by rw [HV.out]; first | done | rfl, yq.2⟩
  · have hk1 : (((k : Int)) == 0) = false := by rw [beq_eq_false_iff_ne]; omega
    have hk0 : 0 ≤ (k : Int) - 1 := by omega
    have hk2 : (k : Int) - 1 < (l.length : Int) := by omega
    have hkn : ((k : Int) - 1).toNat = k - 1 := by omega
    have D : Hid (∀ i v, (rwc (l.getD (k - 1) rz))[i]? = some v → w.cell? ⟨g, off + (k - 1) * 16 + i, none⟩ = some v) := hc (k - 1) (by omega)
    have HV : Hid (kpB l 1 k = fwB (l.getD (k - 1) rz) (l.getD k rz)) := by show ((((k : Int)) == 0) || _) = _; rw [hk1]; rfl
    have HF : Hid (∀ x : Later w, Calls Tryz.prog 36 #[.agg (rwc (l.getD (k - 1) rz)), .agg (rwc (l.getD k rz))] x.1 fun e w' => e = .returned (.bool (fwB (l.getD (k - 1) rz) (l.getD k rz))) ∧ Below x.1.heap.size x.1 w') := fun x => uFw_c _ _ x.1
    generalize kpB l 1 k = Z at HV ⊢
    generalize fwB (l.getD (k - 1) rz) (l.getD k rz) = z at *
    generalize l.getD (k - 1) rz = p at *
    generalize l.getD k rz = r at *
    clear hc hrow hz
    go_enter Tryz.func35, Tryz.ntmps35
    go_upto_region 1 with fail
    refine wp_region_later (x0 := Later.start w) (by kernel_rfl) (by kernel_rfl) ?_
    (go_big_quiet_step (fail))
    (go_big_quiet_step (fail))
    (go_big_quiet_step (fail))
    (go_big_quiet_step (fail))
    (go_big_quiet_step (fail))
    (go_big_quiet_step (fail))
    (go_big_quiet_step (fail))
    (first | (go_big_quiet_want; refine quiet_load_agg 52 _ (by rfl) g (off + (k - 1) * 16) (by rfl) (rwc p) _ hg D.out Tryz.underlying52 (by rfl) (info_rw _) ?_; simp only [Act.put, List.setIfInBounds_toArray, List.set_cons_succ, List.set_cons_zero]; go_big_quiet_on) | (go_big_quiet_want; refine quiet_load_agg 52 _ (by rfl) g (off + k * 16) (by rfl) (rwc r) _ hg C.out Tryz.underlying52 (by rfl) (info_rw _) ?_; simp only [Act.put, List.setIfInBounds_toArray, List.set_cons_succ, List.set_cons_zero]; go_big_quiet_on))
    (go_big_quiet_step (fail))
    (go_big_quiet_step (fail))
    (go_big_quiet_step (fail))
    (first | (go_big_quiet_want; refine quiet_load_agg 52 _ (by rfl) g (off + (k - 1) * 16) (by rfl) (rwc p) _ hg D.out Tryz.underlying52 (by rfl) (info_rw _) ?_; simp only [Act.put, List.setIfInBounds_toArray, List.set_cons_succ, List.set_cons_zero]; go_big_quiet_on) | (go_big_quiet_want; refine quiet_load_agg 52 _ (by rfl) g (off + k * 16) (by rfl) (rwc r) _ hg C.out Tryz.underlying52 (by rfl) (info_rw _) ?_; simp only [Act.put, List.setIfInBounds_toArray, List.set_cons_succ, List.set_cons_zero]; go_big_quiet_on))
    (go_big_quiet_step ((go_at_call 36; exact calls_later (HF.out _))))
    (go_big_quiet_step (fail))
    (go_big_quiet_step (fail))
    refine wpQuiet_nil ?_
    rintro _ ⟨yq, rfl⟩
    go_wp2
    go_ret
    exact ⟨by rw [HV.out]; first | done | rfl, yq.2⟩
set_option maxHeartbeats 4000000 in
theorem tR4_c (l : List Rw) (v : Value) (k : Nat) (g1 gm b n : Nat) (w : World) (h1 : Row w g1 #[v] 22) (hv : Rws w v l) (hk : k < l.length) (hL : l.length ≤ 140737488351232) (hmr : Row w gm #[.map (some b)] 57) (T : Int → Int) (hM : Mi T b n w) (hT5 : T 5 = cnK l k 5) : Calls Tryz.prog 39 #[.int .i64 k, .pointer (some ⟨gm, 0, none⟩), .pointer (some ⟨g1, 0, none⟩)] w fun e w' => e = .returned (.bool (kpB l 3 k)) ∧ Below w.heap.size w w' := by
  obtain ⟨a, cap, rfl, -, -, hrow⟩ := hv
  obtain ⟨g, off, rfl, hg, hc⟩ := hrow (by intro e; rw [e] at hk; exact absurd hk (by simp))
  have c1 : w.cell? ⟨g1, 0, none⟩ = some (.slice (some ⟨g, off, none⟩) l.length cap) := h1.cell 0
  have hlt : (k : Int) < (l.length : Int) := by omega
  have C : Hid (∀ i v, (rwc (l.getD k rz))[i]? = some v → w.cell? ⟨g, off + k * 16 + i, none⟩ = some v) := hc k hk
  have c1 : ∀ x : Later w, x.1.cell? ⟨g1, 0, none⟩ = some (.slice (some ⟨g, off, none⟩) l.length cap) := fun x => (lrow h1 x).cell 0
  have cm : ∀ x : Later w, x.1.cell? ⟨gm, 0, none⟩ = some (.map (some b)) := fun x => (lrow hmr x).cell 0
  have hlk : ∀ x : Later w, (Instr.lookup 57 (.map (some b)) (.int .i64 5) false).run Tryz.prog x.1 = .ok (.int .i64 (cnK l k 5)) x.1 := fun x => by rw [← hT5]; exact (hM.later x.2).look 5 (by decide)
  have c2 : ∀ x : Later w, x.1.cell? ⟨g, off + k * 16 + 1, none⟩ = some (.int .i64 (l.getD k rz).kd) := fun x => (x.2.cell hg).trans (C.out 1 _ rfl)
  have HM : Hid (kpB l 3 k = ((cnK l k 5 == 0) || (((l.getD k rz).kd == 5) && syB (l.getD k rz)))) := rfl
  have HF : Hid (∀ x : Later w, Calls Tryz.prog 40 #[.agg (rwc (l.getD k rz))] x.1 fun e w' => e = .returned (.bool (syB (l.getD k rz))) ∧ Below x.1.heap.size x.1 w') := fun x => uSy_c _ x.1
  have hne := later_nonempty w
  generalize kpB l 3 k = Z at HM ⊢
  generalize syB (l.getD k rz) = z at *
  generalize hkd : (l.getD k rz).kd = kd at *
  clear hkd
  generalize l.getD k rz = r at *
  generalize cnK l k 5 = c at *
  clear hc hrow hM hT5 hmr h1
  cases q1 : (c == 0) with
  | true =>
    have HV : Hid (Z = true) := by unfold Hid; rw [HM.out, q1]; rfl
    clear HM
    go_enter Tryz.func39, Tryz.ntmps39
    go_upto_region 1 with fail
    refine wp_region_plain (x0 := Later.start w) ?_
    (go_big_quiet_step (fail))
    (go_big_quiet_step (fail))
    (go_big_quiet_step (fail))
    (go_big_quiet_step (fail))
    (go_big_quiet_step (fail))
    (go_big_quiet_step (fail))
    (go_big_quiet_step (fail))
    (go_big_quiet_step (fail))
    (go_big_quiet_step (fail))
    (go_big_quiet_step (fail))
    (go_big_quiet_step (fail))
    (go_big_quiet_step (fail))
    (go_big_quiet_step (fail))
    (go_big_quiet_step (fail))
    (first | go_big_quiet_step (fail))
    (go_big_quiet_step ((fail)))
    (go_big_quiet_step (fail))
    (go_big_quiet_step (fail))
    (go_big_quiet_step (fail))
    refine wpQuiet_nil ?_
    rintro _ ⟨yq, rfl⟩
    go_wp2
    go_ret
    exact ⟨by rw [HV.out]; first | done | rfl, yq.2⟩
  | false =>
    cases q2 : (kd == 5) with
    | false =>
      have HV : Hid (Z = false) := by unfold Hid; rw [HM.out, q1, q2]; rfl
      clear HM
      go_enter Tryz.func39, Tryz.ntmps39
      go_upto_region 1 with fail
      refine wp_region_plain (x0 := Later.start w) ?_
      (go_big_quiet_step (fail))
      (go_big_quiet_step (fail))
      (go_big_quiet_step (fail))
      (go_big_quiet_step (fail))
      (go_big_quiet_step (fail))
      (go_big_quiet_step (fail))
      (go_big_quiet_step (fail))
      (go_big_quiet_step (fail))
      (go_big_quiet_step (fail))
      (go_big_quiet_step (fail))
      (go_big_quiet_step (fail))
      (go_big_quiet_step (fail))
      (go_big_quiet_step (fail))
      (go_big_quiet_step (fail))
      (first | go_big_quiet_step (fail))
      (go_big_quiet_step ((fail)))
      (go_big_quiet_step (fail))
      (go_big_quiet_step (fail))
      (go_big_quiet_step (fail))
      refine wpQuiet_nil ?_
      rintro _ ⟨yq, rfl⟩
      go_wp2
      go_ret
      exact ⟨by rw [HV.out]; first | done | rfl, yq.2⟩
    | true =>
      have HV : Hid (Z = z) := by unfold Hid; rw [HM.out, q1, q2]; rfl
      clear HM
      go_enter Tryz.func39, Tryz.ntmps39
      go_upto_region 1 with fail
      refine wp_region_plain (x0 := Later.start w) ?_
      (go_big_quiet_step (fail))
      (go_big_quiet_step (fail))
      (go_big_quiet_step (fail))
      (go_big_quiet_step (fail))
      (go_big_quiet_step (fail))
      (go_big_quiet_step (fail))
      (go_big_quiet_step (fail))
      (go_big_quiet_step (fail))
      (go_big_quiet_step (fail))
      (go_big_quiet_step (fail))
      (go_big_quiet_step (fail))
      (go_big_quiet_step (fail))
      (go_big_quiet_step (fail))
      (go_big_quiet_step (fail))
      (first | (go_big_quiet_want; refine quiet_load_agg 52 _ (by rfl) g (off + k * 16) (by rfl) (rwc r) _ hg C.out Tryz.underlying52 (by rfl) (info_rw _) ?_; simp only [Act.put, List.setIfInBounds_toArray, List.set_cons_succ, List.set_cons_zero]; go_big_quiet_on) | go_big_quiet_step (fail))
      (go_big_quiet_step ((go_at_call 40; exact calls_later (HF.out _))))
      (go_big_quiet_step (fail))
      (go_big_quiet_step (fail))
      (go_big_quiet_step (fail))
      refine wpQuiet_nil ?_
      rintro _ ⟨yq, rfl⟩
      go_wp2
      go_ret
      exact ⟨by rw [HV.out]; first | done | rfl, yq.2⟩
end Go.Proofs.YtidfndgedopghaaGreatDoor
namespace Go.Proofs.YtidfndgedopghaaGreatDoor
set_option linter.unusedVariables false
set_option maxRecDepth 100000
set_option maxHeartbeats 4000000
open Go.ChangeShapes Go.WideShapes Go.ChangeAt Go.RowKit Go.Deep
/-- A trace's cells. -/
def trc (v : Value) (K : Cp) (f c : Int) (u : Value) : Array Value := #[v] ++ (cpc K ++ #[.int .i64 f, .int .i64 c, u])
theorem trc_size (v : Value) (K : Cp) (f c : Int) (u : Value) : (trc v K f c u).size = 86 := by unfold trc; rw [Array.size_append, Array.size_append, cpc_size]; rfl
theorem trc_v (v : Value) (K : Cp) (f c : Int) (u : Value) : (trc v K f c u)[0]? = some v := by
  unfold trc; rw [Array.getElem?_append_left (by show 0 < 1; omega)]; rfl
theorem trc_hi (v : Value) (K : Cp) (f c : Int) (u : Value) (j : Nat) : (trc v K f c u)[1 + j]? = (cpc K ++ #[.int .i64 f, .int .i64 c, u])[j]? := by
  unfold trc
  rw [Array.getElem?_append_right (by show 1 ≤ 1 + j; omega), show 1 + j - (#[v] : Array Value).size = j by show 1 + j - 1 = j; omega]
theorem trc_c (v : Value) (K : Cp) (f c : Int) (u : Value) (j : Nat) (x : Value) (h : (cpc K)[j]? = some x) : (trc v K f c u)[1 + j]? = some x := by
  have hj := (Array.getElem?_eq_some_iff.1 h).1
  rw [trc_hi, Array.getElem?_append_left hj]
  exact h
theorem trc_e (v : Value) (K : Cp) (f c : Int) (u : Value) (j : Nat) : (trc v K f c u)[83 + j]? = (#[.int .i64 f, .int .i64 c, u] : Array Value)[j]? := by
  rw [show 83 + j = 1 + (82 + j) by omega, trc_hi, Array.getElem?_append_right (by rw [cpc_size]; omega), cpc_size, Nat.add_sub_cancel_left]
theorem info_tr (v : Value) (K : Cp) (f c : Int) (u : Value) : (Tryz.prog.info? 35).map (·.size) = some (trc v K f c u).size := by rw [trc_size]; kernel_rfl
def enV (l : List Rw) (K : Cp) : Bool := ((l.length : Int) == 0) || enB (l.getD (l.length - 1) rz) (PR K)
set_option maxHeartbeats 4000000 in
theorem ends_c (l : List Rw) (v : Value) (K : Cp) (f c : Int) (u : Value) (w : World) (hv : Rws w v l) (hL : l.length ≤ 140737488351232) : Calls Tryz.prog 18 #[.agg (trc v K f c u)] w fun e w' => e = .returned (.bool (enV l K)) ∧ Below w.heap.size w w' := by
  obtain ⟨W0, hW0, r0, b0, s0⟩ := start1 w (trc v K f c u) 35
  have hv2 := hv.later b0.out
  have BB := Hid.mkU b0.out
  clear s0 b0 hv
  obtain ⟨a, cap, rfl, -, -, hrow⟩ := hv2
  have c0 : ∀ x : Later W0, x.1.cell? ⟨w.heap.size, 0, none⟩ = some (.slice a l.length cap) := fun x => ((lrow r0.out x).cell 0).trans (trc_v ..)
  have c00 := c0 (Later.start W0)
  have c01 : W0.cell? ⟨w.heap.size, 0, none⟩ = some (.slice a l.length cap) := c00
  clear c00
  have hne := later_nonempty W0
  cases hz : ((l.length : Int) == 0)
  focus
    have hn : l ≠ [] := by intro e; rw [e] at hz; exact absurd hz (by decide)
    have hn1 : 1 ≤ l.length := by
      rcases Nat.eq_zero_or_pos l.length with e | e
      · exact absurd (List.eq_nil_of_length_eq_zero e) hn
      · exact e
    obtain ⟨g, off, rfl, hg, hc⟩ := hrow hn
    have D : Hid (∀ i v, (rwc (l.getD (l.length - 1) rz))[i]? = some v → W0.cell? ⟨g, off + (l.length - 1) * 16 + i, none⟩ = some v) := hc (l.length - 1) (by omega)
    have CK : Hid (∀ j v, (cpc K)[j]? = some v → W0.cell? ⟨w.heap.size, 1 + j, none⟩ = some v) := fun j v hv => (r0.out.cell (1 + j)).trans (trc_c _ _ _ _ _ j v hv)
    have HV : Hid (enV l K = enB (l.getD (l.length - 1) rz) (PR K)) := by unfold Hid enV; rw [hz]; rfl
    have HP : Hid (∀ x : Later W0, Calls Tryz.prog 23 #[.agg (cpc K)] x.1 fun e w' => e = .returned (.agg (cpc (PR K))) ∧ Below x.1.heap.size x.1 w') := fun x => Pr_c K x.1
    have HF : Hid (∀ x : Later W0, Calls Tryz.prog 43 #[.agg (rwc (l.getD (l.length - 1) rz)), .agg (cpc (PR K))] x.1 fun e w' => e = .returned (.bool (enB (l.getD (l.length - 1) rz) (PR K))) ∧ Below x.1.heap.size x.1 w') := fun x => uEnd_c _ _ x.1
    generalize enV l K = Z at HV ⊢
    generalize enB (l.getD (l.length - 1) rz) (PR K) = z at *
    generalize l.getD (l.length - 1) rz = r at *
    clear hc hrow hn
    generalize hN : l.length = N at *
    have hk0 : 0 ≤ (N : Int) - 1 := by omega
    have hk2 : (N : Int) - 1 < (N : Int) := by omega
    have hkn : ((N : Int) - 1).toNat = N - 1 := by omega
    clear hN
    go_enter Tryz.func18, Tryz.ntmps18
    go_upto_region 1 with fail
    clear hW0
    go_upto_region 2 with fail
    refine wp_region_later (x0 := Later.start W0) (by kernel_rfl) (by kernel_rfl) ?_
    (go_big_quiet_step (fail))
    (go_big_quiet_step (fail))
    (go_big_quiet_step (fail))
    (go_big_quiet_step (fail))
    (go_big_quiet_step (fail))
    (go_big_quiet_step (fail))
    (go_big_quiet_step (fail))
    (go_big_quiet_step (fail))
    (first | (go_big_quiet_want; refine quiet_load_agg 52 _ (by rfl) g (off + (N - 1) * 16) (by rfl) (rwc r) _ hg D.out Tryz.underlying52 (by rfl) (info_rw _) ?_; simp only [Act.put, List.setIfInBounds_toArray, List.set_cons_succ, List.set_cons_zero]; go_big_quiet_on) | (go_big_quiet_want; refine quiet_load_agg 32 _ (by rfl) (w.heap.size) 1 (by rfl) (cpc K) _ r0.out.lt CK.out Tryz.underlying32 (by rfl) (info_cpuU _) ?_; simp only [Act.put, List.setIfInBounds_toArray, List.set_cons_succ, List.set_cons_zero]; go_big_quiet_on))
    (go_big_quiet_step (fail))
    (first | (go_big_quiet_want; refine quiet_load_agg 52 _ (by rfl) g (off + (N - 1) * 16) (by rfl) (rwc r) _ hg D.out Tryz.underlying52 (by rfl) (info_rw _) ?_; simp only [Act.put, List.setIfInBounds_toArray, List.set_cons_succ, List.set_cons_zero]; go_big_quiet_on) | (go_big_quiet_want; refine quiet_load_agg 32 _ (by rfl) (w.heap.size) 1 (by rfl) (cpc K) _ r0.out.lt CK.out Tryz.underlying32 (by rfl) (info_cpuU _) ?_; simp only [Act.put, List.setIfInBounds_toArray, List.set_cons_succ, List.set_cons_zero]; go_big_quiet_on))
    (go_big_quiet_step ((go_at_call 23; exact calls_later (HP.out _))))
    (go_big_quiet_step ((go_at_call 43; exact calls_later (HF.out _))))
    (go_big_quiet_step (fail))
    (go_big_quiet_step (fail))
  rotate_left 1
  focus
    have HV : Hid (enV l K = true) := by unfold Hid enV; rw [hz]; rfl
    generalize enV l K = Z at HV ⊢
    clear hrow
    go_enter Tryz.func18, Tryz.ntmps18
    go_upto_region 1 with fail
    clear hW0
    go_upto_region 2 with fail
    refine wp_region_later (x0 := Later.start W0) (by kernel_rfl) (by kernel_rfl) ?_
    iterate 15 (go_big_quiet_step (fail))
  rotate_left 1
  all_goals
    refine wpQuiet_nil ?_
    rintro _ ⟨yq, rfl⟩
    go_wp2
    go_ret
    exact ⟨by rw [HV.out]; first | done | rfl, BB.out.trans (yq.2.mono BB.out.size)⟩
def tF : Nat → Nat
  | 0 => 34
  | 1 => 35
  | 2 => 37
  | 3 => 39
  | 4 => 41
  | _ => 0
def tV (g1 gm : Nat) : Nat → Array Value
  | 0 => #[.pointer (some ⟨g1, 0, none⟩)]
  | 1 => #[.pointer (some ⟨g1, 0, none⟩)]
  | 2 => #[.pointer (some ⟨g1, 0, none⟩)]
  | 3 => #[.pointer (some ⟨gm, 0, none⟩), .pointer (some ⟨g1, 0, none⟩)]
  | 4 => #[.pointer (some ⟨g1, 0, none⟩)]
  | _ => #[]
def tA (g1 gm : Nat) : Array Value := #[.int .i64 1, .func (.func 34) #[] #[.pointer (some ⟨g1, 0, none⟩)], .int .i64 2, .func (.func 35) #[] #[.pointer (some ⟨g1, 0, none⟩)], .int .i64 3, .func (.func 37) #[] #[.pointer (some ⟨g1, 0, none⟩)], .int .i64 4, .func (.func 39) #[] #[.pointer (some ⟨gm, 0, none⟩), .pointer (some ⟨g1, 0, none⟩)], .int .i64 5, .func (.func 41) #[] #[.pointer (some ⟨g1, 0, none⟩)]]
theorem cases5 {k : Nat} (h : k < 5) : k = 0 ∨ k = 1 ∨ k = 2 ∨ k = 3 ∨ k = 4 := by omega
theorem tA_at (g1 gm k : Nat) (h : k < 5) : (tA g1 gm)[2 * k]? = some (.int .i64 ((k : Int) + 1)) ∧ (tA g1 gm)[2 * k + 1]? = some (.func (.func (tF k)) #[] (tV g1 gm k)) := by
  have h5 := cases5 h
  rcases h5 with rfl | rfl | rfl | rfl | rfl <;> exact ⟨rfl, rfl⟩
theorem tF_call (k : Nat) (h : k < 5) (args : Array Value) (w : World) : (callFunc (tF k) args).run Tryz.prog w = .ok (.enter (tF k) args) w := by
  have h5 := cases5 h
  rcases h5 with rfl | rfl | rfl | rfl | rfl <;> (show (callFunc _ _).run _ _ = _; kernel_rfl)
theorem trule_c (l : List Rw) (v : Value) (j g1 gm b n k : Nat) (w : World) (h1 : Row w g1 #[v] 22) (hm : Row w gm #[.map (some b)] 57) (hv : Rws w v l) (hM : Mi (cnK l j) b n w) (hj : j < l.length) (hL : l.length ≤ 140737488351232) (hk : k < 5) :
    Calls Tryz.prog (tF k) (#[.int .i64 j] ++ tV g1 gm k) w fun e w' => e = .returned (.bool (kpB l k j)) ∧ Below w.heap.size w w' := by
  have h5 := cases5 hk
  rcases h5 with rfl | rfl | rfl | rfl | rfl
  · exact tR1_c l v j g1 w h1 hv hj hL
  · exact tR2_c l v j g1 w h1 hv hj hL
  · exact tR3_c l v j g1 w h1 hv hj hL
  · exact tR4_c l v j g1 gm b n w h1 hv hj hL hm (cnK l j) hM rfl
  · exact tR5_c l v j g1 w h1 hv hj hL
set_option maxHeartbeats 4000000 in
theorem rowRules_c (a : Option Addr) (n c b : Nat) (w : World) : Calls Tryz.prog 17 #[.slice a n c, .map (some b)] w fun e w' => ∃ g g1 gm, e = .returned (.slice (some ⟨g, 0, none⟩) 5 5) ∧ Row w' g1 #[.slice a n c] 22 ∧ Row w' gm #[.map (some b)] 57 ∧ Row w' g (tA g1 gm) 62 ∧ Below w.heap.size w w' := by
  obtain ⟨W0, hW0, r0, r1, b0, s0⟩ := start2 w #[.slice a n c] #[.map (some b)] 22 57
  have BB := Hid.mkU b0.out
  clear s0 b0
  go_enter Tryz.func17, Tryz.ntmps17
  go_upto_region 1 with fail
  clear hW0
  go_wp2
  go_ret
  exact ⟨W0.heap.size, w.heap.size, w.heap.size + 1, rfl, r0.out.old r0.out.lt _, r1.out.old r1.out.lt _, Row.new _ _ _, BB.out.alloc BB.out.size _⟩
/-- The first number at which p is not true. -/
def rwN (p : Nat → Bool) : Nat → Nat → Option Nat
  | 0, _ => none
  | n + 1, i => if p i then rwN p n (i + 1) else some i
theorem rwN_hit (p : Nat → Bool) : ∀ (n k j : Nat), k ≤ j → j < k + n → (∀ i, k ≤ i → i < j → p i = true) → p j = false → rwN p n k = some j
  | 0, k, j, h1, h2, _, _ => by omega
  | n + 1, k, j, h1, h2, h3, h4 => by
    unfold rwN
    by_cases e : j = k
    · subst e; rw [h4]; rfl
    · rw [h3 k (Nat.le_refl _) (by omega), if_pos rfl]
      exact rwN_hit p n (k + 1) j (by omega) (by omega) (fun i hi => h3 i (by omega)) h4
theorem rwN_none (p : Nat → Bool) : ∀ (n k : Nat), (∀ i, k ≤ i → i < k + n → p i = true) → rwN p n k = none
  | 0, _, _ => rfl
  | n + 1, k, h => by
    unfold rwN
    rw [h k (Nat.le_refl _) (by omega), if_pos rfl]
    exact rwN_none p n (k + 1) (fun i hi hi2 => h i (by omega) (by omega))
/-- The first rule that is broken, and where. -/
def trK (P : Nat → Nat → Bool) (n : Nat) : Nat → Nat → Option (Nat × Nat)
  | 0, _ => none
  | m + 1, k => (rwN (P k) n 0).elim (trK P n m (k + 1)) (fun i => some (k, i))
theorem trK_hit (P : Nat → Nat → Bool) (n : Nat) : ∀ (m k j i : Nat), k ≤ j → j < k + m → (∀ q, k ≤ q → q < j → ∀ x, x < n → P q x = true) → i < n → (∀ x, x < i → P j x = true) → P j i = false → trK P n m k = some (j, i)
  | 0, k, j, i, h1, h2, _, _, _, _ => by omega
  | m + 1, k, j, i, h1, h2, h3, h4, h5, h6 => by
    unfold trK
    by_cases e : j = k
    · subst e; rw [rwN_hit (P j) n 0 i (Nat.zero_le _) (by omega) (fun x _ hx => h5 x hx) h6]; rfl
    · rw [rwN_none (P k) n 0 (fun x _ hx => h3 k (Nat.le_refl _) (by omega) x (by omega))]
      exact trK_hit P n m (k + 1) j i (by omega) (by omega) (fun q hq => h3 q (by omega)) h4 h5 h6
theorem trK_none (P : Nat → Nat → Bool) (n : Nat) : ∀ (m k : Nat), (∀ q, k ≤ q → q < k + m → ∀ x, x < n → P q x = true) → trK P n m k = none
  | 0, _, _ => rfl
  | m + 1, k, h => by
    unfold trK
    rw [rwN_none (P k) n 0 (fun x _ hx => h k (Nat.le_refl _) (by omega) x (by omega))]
    exact trK_none P n m (k + 1) (fun q hq hq2 => h q (by omega) (by omega))
/-- What Trace answers. -/
def trV (P : Nat → Nat → Bool) (n : Nat) (e : Bool) : Int × Int := (trK P n 5 0).elim (if e then (0, 0) else (6, (n : Int))) (fun x => ((x.1 : Int) + 1, (x.2 : Int)))
end Go.Proofs.YtidfndgedopghaaGreatDoor
