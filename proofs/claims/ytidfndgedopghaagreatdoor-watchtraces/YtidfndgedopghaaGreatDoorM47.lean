/-
  Ut.
-/
import Derived.Test.YtidfndgedopghaaGreatDoorM46
namespace Go.Proofs.YtidfndgedopghaaGreatDoor
set_option linter.unusedVariables false
set_option maxRecDepth 100000
set_option maxHeartbeats 4000000
open Go.ChangeShapes Go.WideShapes Go.ChangeAt Go.RowKit Go.Deep
/-- Rules 1 to 5 of a trace's row, as the reference asks them. -/
def krB (l : List Rw) : Nat → Nat → Bool
  | 0, i => (l.getD i rz).st == (i : Int) + 1
  | 1, i => ((i : Int) == 0) || ((n64 (l.getD i rz).pc == n64 (l.getD (i - 1) rz).nx) && ((l.getD i rz).md == (l.getD (i - 1) rz).nm))
  | 2, i => rfB (l.getD i rz)
  | 3, i => (((i : Int) == 0) || ((l.getD (i - 1) rz).kd != 5)) || ((((l.getD i rz).kd == 5) && (n64 (l.getD i rz).nx == n64 (l.getD i rz).pc)) && ((l.getD i rz).nm == (l.getD i rz).md))
  | _, i => rmB (l.getD i rz)
set_option maxHeartbeats 8000000 in
theorem kR1_c (l : List Rw) (v : Value) (K : Cp) (f c : Int) (u : Value) (k : Nat) (w : World) (hv : Rws w v l) (hk : k < l.length) (hL : l.length ≤ 140737488351232) : Calls Tryz.prog 19 #[.agg (trc v K f c u), .int .i64 1, .int .i64 k] w fun e w' => e = .returned (.bool (krB l 0 k)) ∧ Below w.heap.size w w' := by
  have hzr := zero_rw
  obtain ⟨W0, hW0, r0, b0, s0⟩ := start1 w (trc v K f c u) 35
  have hv2 := hv.later b0.out
  have BB0 := Hid.mkU b0.out
  clear s0 b0 hv
  obtain ⟨a, cap, rfl, -, -, hrow⟩ := hv2
  obtain ⟨g, off, rfl, hg, hc⟩ := hrow (by intro e; rw [e] at hk; exact absurd hk (by simp))
  have c0 : W0.cell? ⟨w.heap.size, 0, none⟩ = some (.slice (some ⟨g, off, none⟩) l.length cap) := (r0.out.cell 0).trans (trc_v ..)
  have hlt : (k : Int) < (l.length : Int) := by omega
  have C : Hid (∀ i v, (rwc (l.getD k rz))[i]? = some v → W0.cell? ⟨g, off + k * 16 + i, none⟩ = some v) := hc k hk
  have CP_ : Hid (∀ i v, (rwc (l.getD (k - 1) rz))[i]? = some v → W0.cell? ⟨g, off + (k - 1) * 16 + i, none⟩ = some v) := hc (k - 1) (by omega)
  have HM : Hid (krB l 0 k = krB l 0 k) := rfl
  generalize hZ : krB l 0 k = Z at ⊢
  have HZ : Hid (((l.getD k rz).st == (k : Int) + 1) = Z) := hZ
  clear hZ HM hc hrow
  generalize l.getD (k - 1) rz = p at *
  generalize l.getD k rz = r at *
  go_enter Tryz.func19, Tryz.ntmps19
  go_upto_region 1 with fail
  clear hW0
  go_upto_region 2 with (first | (refine wpList_load_agg (by rfl) 52 _ (by rfl) g (off + k * 16) (by rfl) (rwc r) _ C.out Tryz.underlying52 (by rfl) (info_rw _) ?_) | (refine wpList_store_new (by rfl) 52 _ _ (by rfl) (by rfl) (rwc rz) (rwc r) (by rfl) (by rfl) (info_rw _) (by rfl) (rwc_ones _) ?_))
  refine on_W (motive := fun W => Code.wp _ _ _ _ W) (Q := fun W => Row W w.heap.size (trc (.slice (some ⟨g, off, none⟩) l.length cap) K f c u) 35 ∧ Row W W0.heap.size (rwc r) 52 ∧ Below W0.heap.size W0 W) ⟨r0.out.old r0.out.lt _, Row.new _ _ _, below_al _ _⟩ ?_
  have hgr : Hid (∀ W, Below W0.heap.size W0 W → g < W.heap.size) := fun W h => Nat.lt_of_lt_of_le hg h.size
  have BX : Hid (∀ W, Below W0.heap.size W0 W → Below w.heap.size w W) := fun W h => BB0.out.trans (h.mono BB0.out.size)
  have HX : Hid (∀ i v W, Below W0.heap.size W0 W → (rwc p)[i]? = some v → W.cell? ⟨g, off + (k - 1) * 16 + i, none⟩ = some v) := fun i v W hb hv => (hb.cell hg).trans (CP_.out i v hv)
  generalize W0.heap.size = gr at *
  clear C CP_ c0 r0 hzr hg BB0
  rintro W1 ⟨q0, q1, qb⟩
  have r0 := Hid.mkU q0
  have r1 := Hid.mkU q1
  have HXP := Hid.mkU (fun i v hv => HX.out i v W1 qb hv)
  have BB := Hid.mkU (BX.out W1 qb)
  clear q0 q1 qb hgr BX HX W0
  have c0 : W1.cell? ⟨w.heap.size, 0, none⟩ = some (.slice (some ⟨g, off, none⟩) l.length cap) := (r0.out.cell 0).trans (trc_v ..)
  have c_st : W1.cell? ⟨gr, 0, none⟩ = some (.int .i64 r.st) := r1.out.cell 0
  have HV : Hid (Z = (r.st == (k : Int) + 1)) := HZ.out.symm
  generalize r.st = s at *
  clear HZ r0 r1
  go_wp2
  go_ret
  exact ⟨by rw [HV.out]; first | done | rfl, BB.out⟩
set_option maxHeartbeats 8000000 in
theorem kR3_c (l : List Rw) (v : Value) (K : Cp) (f c : Int) (u : Value) (k : Nat) (w : World) (hv : Rws w v l) (hk : k < l.length) (hL : l.length ≤ 140737488351232) : Calls Tryz.prog 19 #[.agg (trc v K f c u), .int .i64 3, .int .i64 k] w fun e w' => e = .returned (.bool (krB l 2 k)) ∧ Below w.heap.size w w' := by
  have hzr := zero_rw
  obtain ⟨W0, hW0, r0, b0, s0⟩ := start1 w (trc v K f c u) 35
  have hv2 := hv.later b0.out
  have BB0 := Hid.mkU b0.out
  clear s0 b0 hv
  obtain ⟨a, cap, rfl, -, -, hrow⟩ := hv2
  obtain ⟨g, off, rfl, hg, hc⟩ := hrow (by intro e; rw [e] at hk; exact absurd hk (by simp))
  have c0 : W0.cell? ⟨w.heap.size, 0, none⟩ = some (.slice (some ⟨g, off, none⟩) l.length cap) := (r0.out.cell 0).trans (trc_v ..)
  have hlt : (k : Int) < (l.length : Int) := by omega
  have C : Hid (∀ i v, (rwc (l.getD k rz))[i]? = some v → W0.cell? ⟨g, off + k * 16 + i, none⟩ = some v) := hc k hk
  have CP_ : Hid (∀ i v, (rwc (l.getD (k - 1) rz))[i]? = some v → W0.cell? ⟨g, off + (k - 1) * 16 + i, none⟩ = some v) := hc (k - 1) (by omega)
  have HM : Hid (krB l 2 k = krB l 2 k) := rfl
  generalize hZ : krB l 2 k = Z at ⊢
  have HZ : Hid ((rfB (l.getD k rz)) = Z) := hZ
  clear hZ HM hc hrow
  generalize l.getD (k - 1) rz = p at *
  generalize l.getD k rz = r at *
  go_enter Tryz.func19, Tryz.ntmps19
  go_upto_region 1 with fail
  clear hW0
  go_upto_region 2 with (first | (refine wpList_load_agg (by rfl) 52 _ (by rfl) g (off + k * 16) (by rfl) (rwc r) _ C.out Tryz.underlying52 (by rfl) (info_rw _) ?_) | (refine wpList_store_new (by rfl) 52 _ _ (by rfl) (by rfl) (rwc rz) (rwc r) (by rfl) (by rfl) (info_rw _) (by rfl) (rwc_ones _) ?_))
  refine on_W (motive := fun W => Code.wp _ _ _ _ W) (Q := fun W => Row W w.heap.size (trc (.slice (some ⟨g, off, none⟩) l.length cap) K f c u) 35 ∧ Row W W0.heap.size (rwc r) 52 ∧ Below W0.heap.size W0 W) ⟨r0.out.old r0.out.lt _, Row.new _ _ _, below_al _ _⟩ ?_
  have hgr : Hid (∀ W, Below W0.heap.size W0 W → g < W.heap.size) := fun W h => Nat.lt_of_lt_of_le hg h.size
  have BX : Hid (∀ W, Below W0.heap.size W0 W → Below w.heap.size w W) := fun W h => BB0.out.trans (h.mono BB0.out.size)
  have HX : Hid (∀ i v W, Below W0.heap.size W0 W → (rwc p)[i]? = some v → W.cell? ⟨g, off + (k - 1) * 16 + i, none⟩ = some v) := fun i v W hb hv => (hb.cell hg).trans (CP_.out i v hv)
  generalize W0.heap.size = gr at *
  clear C CP_ c0 r0 hzr hg BB0
  rintro W1 ⟨q0, q1, qb⟩
  have r0 := Hid.mkU q0
  have r1 := Hid.mkU q1
  have HXP := Hid.mkU (fun i v hv => HX.out i v W1 qb hv)
  have BB := Hid.mkU (BX.out W1 qb)
  clear q0 q1 qb hgr BX HX W0
  have c0 : W1.cell? ⟨w.heap.size, 0, none⟩ = some (.slice (some ⟨g, off, none⟩) l.length cap) := (r0.out.cell 0).trans (trc_v ..)
  have HF : Hid (Calls Tryz.prog 44 #[.agg (rwc r)] W1 fun e w' => e = .returned (.bool (rfB r)) ∧ Below W1.heap.size W1 w') := rfields_c r W1
  have HV : Hid (Z = rfB r) := HZ.out.symm
  clear HZ
  generalize rfB r = z at *
  go_wp2_with (first | (refine wpList_load_row (by rfl) _ _ (by rfl) _ (by rfl) 52 _ (0, 0) _ r1.out Tryz.underlying52 (by rfl) (info_rw _) ?_) | (go_at_call 44; refine HF.out.mono ?_; rintro e w2 ⟨rfl, hb2⟩; have HB2 := Hid.mkU (BB.out.trans (hb2.mono BB.out.size)); clear hb2))
  go_ret
  exact ⟨by rw [HV.out]; first | done | rfl, HB2.out⟩
set_option maxHeartbeats 8000000 in
theorem kR5_c (l : List Rw) (v : Value) (K : Cp) (f c : Int) (u : Value) (k : Nat) (w : World) (hv : Rws w v l) (hk : k < l.length) (hL : l.length ≤ 140737488351232) : Calls Tryz.prog 19 #[.agg (trc v K f c u), .int .i64 5, .int .i64 k] w fun e w' => e = .returned (.bool (krB l 4 k)) ∧ Below w.heap.size w w' := by
  have hzr := zero_rw
  obtain ⟨W0, hW0, r0, b0, s0⟩ := start1 w (trc v K f c u) 35
  have hv2 := hv.later b0.out
  have BB0 := Hid.mkU b0.out
  clear s0 b0 hv
  obtain ⟨a, cap, rfl, -, -, hrow⟩ := hv2
  obtain ⟨g, off, rfl, hg, hc⟩ := hrow (by intro e; rw [e] at hk; exact absurd hk (by simp))
  have c0 : W0.cell? ⟨w.heap.size, 0, none⟩ = some (.slice (some ⟨g, off, none⟩) l.length cap) := (r0.out.cell 0).trans (trc_v ..)
  have hlt : (k : Int) < (l.length : Int) := by omega
  have C : Hid (∀ i v, (rwc (l.getD k rz))[i]? = some v → W0.cell? ⟨g, off + k * 16 + i, none⟩ = some v) := hc k hk
  have CP_ : Hid (∀ i v, (rwc (l.getD (k - 1) rz))[i]? = some v → W0.cell? ⟨g, off + (k - 1) * 16 + i, none⟩ = some v) := hc (k - 1) (by omega)
  have HM : Hid (krB l 4 k = krB l 4 k) := rfl
  generalize hZ : krB l 4 k = Z at ⊢
  have HZ : Hid ((rmB (l.getD k rz)) = Z) := hZ
  clear hZ HM hc hrow
  generalize l.getD (k - 1) rz = p at *
  generalize l.getD k rz = r at *
  go_enter Tryz.func19, Tryz.ntmps19
  go_upto_region 1 with fail
  clear hW0
  go_upto_region 2 with (first | (refine wpList_load_agg (by rfl) 52 _ (by rfl) g (off + k * 16) (by rfl) (rwc r) _ C.out Tryz.underlying52 (by rfl) (info_rw _) ?_) | (refine wpList_store_new (by rfl) 52 _ _ (by rfl) (by rfl) (rwc rz) (rwc r) (by rfl) (by rfl) (info_rw _) (by rfl) (rwc_ones _) ?_))
  refine on_W (motive := fun W => Code.wp _ _ _ _ W) (Q := fun W => Row W w.heap.size (trc (.slice (some ⟨g, off, none⟩) l.length cap) K f c u) 35 ∧ Row W W0.heap.size (rwc r) 52 ∧ Below W0.heap.size W0 W) ⟨r0.out.old r0.out.lt _, Row.new _ _ _, below_al _ _⟩ ?_
  have hgr : Hid (∀ W, Below W0.heap.size W0 W → g < W.heap.size) := fun W h => Nat.lt_of_lt_of_le hg h.size
  have BX : Hid (∀ W, Below W0.heap.size W0 W → Below w.heap.size w W) := fun W h => BB0.out.trans (h.mono BB0.out.size)
  have HX : Hid (∀ i v W, Below W0.heap.size W0 W → (rwc p)[i]? = some v → W.cell? ⟨g, off + (k - 1) * 16 + i, none⟩ = some v) := fun i v W hb hv => (hb.cell hg).trans (CP_.out i v hv)
  generalize W0.heap.size = gr at *
  clear C CP_ c0 r0 hzr hg BB0
  rintro W1 ⟨q0, q1, qb⟩
  have r0 := Hid.mkU q0
  have r1 := Hid.mkU q1
  have HXP := Hid.mkU (fun i v hv => HX.out i v W1 qb hv)
  have BB := Hid.mkU (BX.out W1 qb)
  clear q0 q1 qb hgr BX HX W0
  have c0 : W1.cell? ⟨w.heap.size, 0, none⟩ = some (.slice (some ⟨g, off, none⟩) l.length cap) := (r0.out.cell 0).trans (trc_v ..)
  have HF : Hid (Calls Tryz.prog 45 #[.agg (rwc r)] W1 fun e w' => e = .returned (.bool (rmB r)) ∧ Below W1.heap.size W1 w') := rmoves_c r W1
  have HV : Hid (Z = rmB r) := HZ.out.symm
  clear HZ
  generalize rmB r = z at *
  go_wp2_with (first | (refine wpList_load_row (by rfl) _ _ (by rfl) _ (by rfl) 52 _ (0, 0) _ r1.out Tryz.underlying52 (by rfl) (info_rw _) ?_) | (go_at_call 45; refine HF.out.mono ?_; rintro e w2 ⟨rfl, hb2⟩; have HB2 := Hid.mkU (BB.out.trans (hb2.mono BB.out.size)); clear hb2))
  go_ret
  exact ⟨by rw [HV.out]; first | done | rfl, HB2.out⟩
set_option maxHeartbeats 8000000 in
theorem kR2_c (l : List Rw) (v : Value) (K : Cp) (f c : Int) (u : Value) (k : Nat) (w : World) (hv : Rws w v l) (hk : k < l.length) (hL : l.length ≤ 140737488351232) : Calls Tryz.prog 19 #[.agg (trc v K f c u), .int .i64 2, .int .i64 k] w fun e w' => e = .returned (.bool (krB l 1 k)) ∧ Below w.heap.size w w' := by
  have hzr := zero_rw
  obtain ⟨W0, hW0, r0, b0, s0⟩ := start1 w (trc v K f c u) 35
  have hv2 := hv.later b0.out
  have BB0 := Hid.mkU b0.out
  clear s0 b0 hv
  obtain ⟨a, cap, rfl, -, -, hrow⟩ := hv2
  obtain ⟨g, off, rfl, hg, hc⟩ := hrow (by intro e; rw [e] at hk; exact absurd hk (by simp))
  have c0 : W0.cell? ⟨w.heap.size, 0, none⟩ = some (.slice (some ⟨g, off, none⟩) l.length cap) := (r0.out.cell 0).trans (trc_v ..)
  have hlt : (k : Int) < (l.length : Int) := by omega
  have C : Hid (∀ i v, (rwc (l.getD k rz))[i]? = some v → W0.cell? ⟨g, off + k * 16 + i, none⟩ = some v) := hc k hk
  have CP_ : Hid (∀ i v, (rwc (l.getD (k - 1) rz))[i]? = some v → W0.cell? ⟨g, off + (k - 1) * 16 + i, none⟩ = some v) := hc (k - 1) (by omega)
  have HM : Hid (krB l 1 k = krB l 1 k) := rfl
  generalize hZ : krB l 1 k = Z at ⊢
  have HZ : Hid ((((k : Int) == 0) || ((n64 (l.getD k rz).pc == n64 (l.getD (k - 1) rz).nx) && ((l.getD k rz).md == (l.getD (k - 1) rz).nm))) = Z) := hZ
  clear hZ HM hc hrow
  generalize l.getD (k - 1) rz = p at *
  generalize l.getD k rz = r at *
  go_enter Tryz.func19, Tryz.ntmps19
  go_upto_region 1 with fail
  clear hW0
  go_upto_region 2 with (first | (refine wpList_load_agg (by rfl) 52 _ (by rfl) g (off + k * 16) (by rfl) (rwc r) _ C.out Tryz.underlying52 (by rfl) (info_rw _) ?_) | (refine wpList_store_new (by rfl) 52 _ _ (by rfl) (by rfl) (rwc rz) (rwc r) (by rfl) (by rfl) (info_rw _) (by rfl) (rwc_ones _) ?_))
  refine on_W (motive := fun W => Code.wp _ _ _ _ W) (Q := fun W => Row W w.heap.size (trc (.slice (some ⟨g, off, none⟩) l.length cap) K f c u) 35 ∧ Row W W0.heap.size (rwc r) 52 ∧ Below W0.heap.size W0 W) ⟨r0.out.old r0.out.lt _, Row.new _ _ _, below_al _ _⟩ ?_
  have hgr : Hid (∀ W, Below W0.heap.size W0 W → g < W.heap.size) := fun W h => Nat.lt_of_lt_of_le hg h.size
  have BX : Hid (∀ W, Below W0.heap.size W0 W → Below w.heap.size w W) := fun W h => BB0.out.trans (h.mono BB0.out.size)
  have HX : Hid (∀ i v W, Below W0.heap.size W0 W → (rwc p)[i]? = some v → W.cell? ⟨g, off + (k - 1) * 16 + i, none⟩ = some v) := fun i v W hb hv => (hb.cell hg).trans (CP_.out i v hv)
  generalize W0.heap.size = gr at *
  clear C CP_ c0 r0 hzr hg BB0
  rintro W1 ⟨q0, q1, qb⟩
  have r0 := Hid.mkU q0
  have r1 := Hid.mkU q1
  have HXP := Hid.mkU (fun i v hv => HX.out i v W1 qb hv)
  have BB := Hid.mkU (BX.out W1 qb)
  have HGL : Hid (g < W1.heap.size) := hgr.out W1 qb
  clear q0 q1 qb hgr BX HX W0
  have c0 : ∀ x : Later W1, x.1.cell? ⟨w.heap.size, 0, none⟩ = some (.slice (some ⟨g, off, none⟩) l.length cap) := fun x => ((lrow r0.out x).cell 0).trans (trc_v ..)
  have c_kd : ∀ x : Later W1, x.1.cell? ⟨gr, 1, none⟩ = some (.int .i64 r.kd) := fun x => (lrow r1.out x).cell 1
  have c_md : ∀ x : Later W1, x.1.cell? ⟨gr, 2, none⟩ = some (.int .i64 r.md) := fun x => (lrow r1.out x).cell 2
  have c_pc : ∀ x : Later W1, x.1.cell? ⟨gr, 3, none⟩ = some (.int .u64 (n64 r.pc)) := fun x => (lrow r1.out x).cell 3
  have c_nx : ∀ x : Later W1, x.1.cell? ⟨gr, 14, none⟩ = some (.int .u64 (n64 r.nx)) := fun x => (lrow r1.out x).cell 14
  have c_nm : ∀ x : Later W1, x.1.cell? ⟨gr, 15, none⟩ = some (.int .i64 r.nm) := fun x => (lrow r1.out x).cell 15
  have p_kd : ∀ x : Later W1, x.1.cell? ⟨g, off + (k - 1) * 16 + 1, none⟩ = some (.int .i64 p.kd) := fun x => (x.2.cell HGL.out).trans (HXP.out 1 _ rfl)
  have p_nx : ∀ x : Later W1, x.1.cell? ⟨g, off + (k - 1) * 16 + 14, none⟩ = some (.int .u64 (n64 p.nx)) := fun x => (x.2.cell HGL.out).trans (HXP.out 14 _ rfl)
  have p_nm : ∀ x : Later W1, x.1.cell? ⟨g, off + (k - 1) * 16 + 15, none⟩ = some (.int .i64 p.nm) := fun x => (x.2.cell HGL.out).trans (HXP.out 15 _ rfl)
  have hne := later_nonempty W1
  by_cases hz : k = 0
  · subst hz
    have HV : Hid (Z = true) := HZ.out.symm
    clear HZ HXP
    go_upto_region 6 with fail
    refine wp_region_later (x0 := Later.start W1) (by kernel_rfl) (by kernel_rfl) ?_
    iterate 27 (go_big_quiet_step (fail))
    refine wpQuiet_nil ?_
    rintro _ ⟨yq, rfl⟩
    go_wp2
    go_ret
    exact ⟨by rw [HV.out]; first | done | rfl, BB.out.trans (yq.2.mono BB.out.size)⟩
  · have hk1 : (((k : Int)) == 0) = false := by rw [beq_eq_false_iff_ne]; omega
    have hk0 : 0 ≤ (k : Int) - 1 := by omega
    have hk2 : (k : Int) - 1 < (l.length : Int) := by omega
    have hkn : ((k : Int) - 1).toNat = k - 1 := by omega
    rw [hk1] at HZ
    clear hz
    cases q1 : (n64 r.pc == n64 p.nx) with
    | true =>
      cases q2 : (r.md == p.nm) with
      | true =>
        have HV : Hid (Z = true) := (by unfold Hid; rw [← HZ.out]; first | (simp only [q1, q2]; done) | (simp only [q1, q2]; rfl) | rfl)
        clear HZ
        go_upto_region 6 with fail
        refine wp_region_later (x0 := Later.start W1) (by kernel_rfl) (by kernel_rfl) ?_
        iterate 27 (go_big_quiet_step (fail))
        refine wpQuiet_nil ?_
        rintro _ ⟨yq, rfl⟩
        go_wp2
        go_ret
        exact ⟨by rw [HV.out]; first | done | rfl, BB.out.trans (yq.2.mono BB.out.size)⟩
      | false =>
        have HV : Hid (Z = false) := (by unfold Hid; rw [← HZ.out]; first | (simp only [q1, q2]; done) | (simp only [q1, q2]; rfl) | rfl)
        clear HZ
        go_upto_region 6 with fail
        refine wp_region_later (x0 := Later.start W1) (by kernel_rfl) (by kernel_rfl) ?_
        iterate 27 (go_big_quiet_step (fail))
        refine wpQuiet_nil ?_
        rintro _ ⟨yq, rfl⟩
        go_wp2
        go_ret
        exact ⟨by rw [HV.out]; first | done | rfl, BB.out.trans (yq.2.mono BB.out.size)⟩
    | false =>
      have HV : Hid (Z = false) := (by unfold Hid; rw [← HZ.out]; first | (simp only [q1]; done) | (simp only [q1]; rfl) | rfl)
      clear HZ
      go_upto_region 6 with fail
      refine wp_region_later (x0 := Later.start W1) (by kernel_rfl) (by kernel_rfl) ?_
      iterate 27 (go_big_quiet_step (fail))
      refine wpQuiet_nil ?_
      rintro _ ⟨yq, rfl⟩
      go_wp2
      go_ret
      exact ⟨by rw [HV.out]; first | done | rfl, BB.out.trans (yq.2.mono BB.out.size)⟩
set_option maxHeartbeats 8000000 in
theorem kR4_c (l : List Rw) (v : Value) (K : Cp) (f c : Int) (u : Value) (k : Nat) (w : World) (hv : Rws w v l) (hk : k < l.length) (hL : l.length ≤ 140737488351232) : Calls Tryz.prog 19 #[.agg (trc v K f c u), .int .i64 4, .int .i64 k] w fun e w' => e = .returned (.bool (krB l 3 k)) ∧ Below w.heap.size w w' := by
  have hzr := zero_rw
  obtain ⟨W0, hW0, r0, b0, s0⟩ := start1 w (trc v K f c u) 35
  have hv2 := hv.later b0.out
  have BB0 := Hid.mkU b0.out
  clear s0 b0 hv
  obtain ⟨a, cap, rfl, -, -, hrow⟩ := hv2
  obtain ⟨g, off, rfl, hg, hc⟩ := hrow (by intro e; rw [e] at hk; exact absurd hk (by simp))
  have c0 : W0.cell? ⟨w.heap.size, 0, none⟩ = some (.slice (some ⟨g, off, none⟩) l.length cap) := (r0.out.cell 0).trans (trc_v ..)
  have hlt : (k : Int) < (l.length : Int) := by omega
  have C : Hid (∀ i v, (rwc (l.getD k rz))[i]? = some v → W0.cell? ⟨g, off + k * 16 + i, none⟩ = some v) := hc k hk
  have CP_ : Hid (∀ i v, (rwc (l.getD (k - 1) rz))[i]? = some v → W0.cell? ⟨g, off + (k - 1) * 16 + i, none⟩ = some v) := hc (k - 1) (by omega)
  have HM : Hid (krB l 3 k = krB l 3 k) := rfl
  generalize hZ : krB l 3 k = Z at ⊢
  have HZ : Hid (((((k : Int) == 0) || ((l.getD (k - 1) rz).kd != 5)) || ((((l.getD k rz).kd == 5) && (n64 (l.getD k rz).nx == n64 (l.getD k rz).pc)) && ((l.getD k rz).nm == (l.getD k rz).md))) = Z) := hZ
  clear hZ HM hc hrow
  generalize l.getD (k - 1) rz = p at *
  generalize l.getD k rz = r at *
  go_enter Tryz.func19, Tryz.ntmps19
  go_upto_region 1 with fail
  clear hW0
  go_upto_region 2 with (first | (refine wpList_load_agg (by rfl) 52 _ (by rfl) g (off + k * 16) (by rfl) (rwc r) _ C.out Tryz.underlying52 (by rfl) (info_rw _) ?_) | (refine wpList_store_new (by rfl) 52 _ _ (by rfl) (by rfl) (rwc rz) (rwc r) (by rfl) (by rfl) (info_rw _) (by rfl) (rwc_ones _) ?_))
  refine on_W (motive := fun W => Code.wp _ _ _ _ W) (Q := fun W => Row W w.heap.size (trc (.slice (some ⟨g, off, none⟩) l.length cap) K f c u) 35 ∧ Row W W0.heap.size (rwc r) 52 ∧ Below W0.heap.size W0 W) ⟨r0.out.old r0.out.lt _, Row.new _ _ _, below_al _ _⟩ ?_
  have hgr : Hid (∀ W, Below W0.heap.size W0 W → g < W.heap.size) := fun W h => Nat.lt_of_lt_of_le hg h.size
  have BX : Hid (∀ W, Below W0.heap.size W0 W → Below w.heap.size w W) := fun W h => BB0.out.trans (h.mono BB0.out.size)
  have HX : Hid (∀ i v W, Below W0.heap.size W0 W → (rwc p)[i]? = some v → W.cell? ⟨g, off + (k - 1) * 16 + i, none⟩ = some v) := fun i v W hb hv => (hb.cell hg).trans (CP_.out i v hv)
  generalize W0.heap.size = gr at *
  clear C CP_ c0 r0 hzr hg BB0
  rintro W1 ⟨q0, q1, qb⟩
  have r0 := Hid.mkU q0
  have r1 := Hid.mkU q1
  have HXP := Hid.mkU (fun i v hv => HX.out i v W1 qb hv)
  have BB := Hid.mkU (BX.out W1 qb)
  clear q0 q1 qb hgr BX HX W0
  have c0 : W1.cell? ⟨w.heap.size, 0, none⟩ = some (.slice (some ⟨g, off, none⟩) l.length cap) := (r0.out.cell 0).trans (trc_v ..)
  have c_kd : W1.cell? ⟨gr, 1, none⟩ = some (.int .i64 r.kd) := r1.out.cell 1
  have c_md : W1.cell? ⟨gr, 2, none⟩ = some (.int .i64 r.md) := r1.out.cell 2
  have c_pc : W1.cell? ⟨gr, 3, none⟩ = some (.int .u64 (n64 r.pc)) := r1.out.cell 3
  have c_nx : W1.cell? ⟨gr, 14, none⟩ = some (.int .u64 (n64 r.nx)) := r1.out.cell 14
  have c_nm : W1.cell? ⟨gr, 15, none⟩ = some (.int .i64 r.nm) := r1.out.cell 15
  have p_kd : W1.cell? ⟨g, off + (k - 1) * 16 + 1, none⟩ = some (.int .i64 p.kd) := HXP.out 1 _ rfl
  have p_nx : W1.cell? ⟨g, off + (k - 1) * 16 + 14, none⟩ = some (.int .u64 (n64 p.nx)) := HXP.out 14 _ rfl
  have p_nm : W1.cell? ⟨g, off + (k - 1) * 16 + 15, none⟩ = some (.int .i64 p.nm) := HXP.out 15 _ rfl
  have hne := later_nonempty W1
  by_cases hz : k = 0
  · subst hz
    have HV : Hid (Z = true) := HZ.out.symm
    clear HZ HXP
    go_wp2
    go_ret
    exact ⟨by rw [HV.out]; first | done | rfl, BB.out⟩
  · have hk1 : (((k : Int)) == 0) = false := by rw [beq_eq_false_iff_ne]; omega
    have hk0 : 0 ≤ (k : Int) - 1 := by omega
    have hk2 : (k : Int) - 1 < (l.length : Int) := by omega
    have hkn : ((k : Int) - 1).toNat = k - 1 := by omega
    rw [hk1] at HZ
    clear hz
    cases q1 : (p.kd != 5) with
    | true =>
      have HV : Hid (Z = true) := (by unfold Hid; rw [← HZ.out]; first | (simp only [q1]; done) | (simp only [q1]; rfl) | rfl)
      clear HZ
      go_wp2
      go_ret
      exact ⟨by rw [HV.out]; first | done | rfl, BB.out⟩
    | false =>
      cases q2 : (r.kd == 5) with
      | true =>
        cases q3 : (n64 r.nx == n64 r.pc) with
        | true =>
          cases q4 : (r.nm == r.md) with
          | true =>
            have HV : Hid (Z = true) := (by unfold Hid; rw [← HZ.out]; first | (simp only [q1, q2, q3, q4]; done) | (simp only [q1, q2, q3, q4]; rfl) | rfl)
            clear HZ
            go_wp2
            go_ret
            exact ⟨by rw [HV.out]; first | done | rfl, BB.out⟩
          | false =>
            have HV : Hid (Z = false) := (by unfold Hid; rw [← HZ.out]; first | (simp only [q1, q2, q3, q4]; done) | (simp only [q1, q2, q3, q4]; rfl) | rfl)
            clear HZ
            go_wp2
            go_ret
            exact ⟨by rw [HV.out]; first | done | rfl, BB.out⟩
        | false =>
          have HV : Hid (Z = false) := (by unfold Hid; rw [← HZ.out]; first | (simp only [q1, q2, q3]; done) | (simp only [q1, q2, q3]; rfl) | rfl)
          clear HZ
          go_wp2
          go_ret
          exact ⟨by rw [HV.out]; first | done | rfl, BB.out⟩
      | false =>
        have HV : Hid (Z = false) := (by unfold Hid; rw [← HZ.out]; first | (simp only [q1, q2]; done) | (simp only [q1, q2]; rfl) | rfl)
        clear HZ
        go_wp2
        go_ret
        exact ⟨by rw [HV.out]; first | done | rfl, BB.out⟩
end Go.Proofs.YtidfndgedopghaaGreatDoor
