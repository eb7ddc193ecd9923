/-
  Ul Um.
-/
import Derived.Test.YtidfndgedopghaaGreatDoorQ39
import Derived.Maps.Own
import Derived.Maps.OwnSet
import Derived.Maps.Views
namespace Go.Proofs.YtidfndgedopghaaGreatDoor
set_option linter.unusedVariables false
set_option maxRecDepth 100000
set_option maxHeartbeats 4000000
open Go.ChangeShapes Go.WideShapes Go.ChangeAt Go.RowKit Go.Deep
open Go.ChangeMaps Go.MapKept
/-- Every value reads as itself. -/
def rdV (v : Value) : Option (DataW Value × List MemPlace) := some (.held v, [])
/-- The map in block b, of at most n entries, counts T. -/
def Mi (T : Int → Int) (b n : Nat) (w : World) : Prop :=
  ∃ D, w.ownsMap Tryz.prog 3 rdV b n D ∧ ∀ q, (Lit.int .i64 q).wf = true → D.atKey (.int .i64 q) (.held (.int .i64 0)) = .held (.int .i64 (T q))
theorem Mi.made (w : World) : Mi (fun _ => 0) w.heap.size 0 (w.alloc (.map #[] 0)) := ⟨_, World.ownsMap_made w _ _ _, fun q _ => rfl⟩
theorem Mi.lt {T : Int → Int} {b n : Nat} {w : World} (h : Mi T b n w) : b < w.heap.size := h.choose_spec.1.lt
theorem Mi.update {T : Int → Int} {b n : Nat} {w : World} (h : Mi T b n w) (hn : n ≤ 140737488351232) (op v : Int) (hop : (Lit.int .i64 op).wf = true) :
    ∃ w', (Instr.mapUpdate 57 (.map (some b)) (.int .i64 op) (.int .i64 v)).run Tryz.prog w = .ok () w' ∧ Mi (fun q => if q = op then v else T q) b (n + 1) w' ∧ w.grownBy w' (some b) := by
  have hkk : WideAt.IsKeyLit (Lit.int .i64 op) := by first | trivial | exact rfl | simp [WideAt.IsKeyLit]
  obtain ⟨D, hD, hl⟩ := h
  obtain ⟨w', hrun, h1, h2⟩ := hD.update (Maps.int_keyed Tryz.underlying3) Tryz.underlying57 (by unfold maxLen; omega) (Maps.keyOf_int_mk Tryz.underlying3 hop) (show rdV (.int .i64 v) = some (.held (.int .i64 v), []) from rfl)
  refine ⟨w', hrun, ⟨_, h1, fun q hq => ?_⟩, h2⟩
  show _ = DataW.held (Value.int .i64 (if q = op then v else T q))
  by_cases e : q = op
  · subst e
    rw [if_pos rfl]
    exact Maps.atKey_put_same hD.isMap hkk _ _
  · rw [if_neg e]
    have hne : (Lit.int .i64 q) ≠ Lit.int .i64 op := fun h => e (by injection h with _ h)
    rw [Maps.atKey_put_other hne]
    exact hl q hq
theorem zero_int (w : World) : (zeroValue 3).run Tryz.prog w = .ok (.int .i64 0) w := by kernel_rfl
theorem Mi.look {T : Int → Int} {b n : Nat} {w : World} (h : Mi T b n w) (op : Int) (hop : (Lit.int .i64 op).wf = true) :
    (Instr.lookup 57 (.map (some b)) (.int .i64 op) false).run Tryz.prog w = .ok (.int .i64 (T op)) w := by
  obtain ⟨D, hD, hl⟩ := h
  obtain ⟨v, ps, hrun, hv⟩ := hD.lookup (Maps.int_keyed Tryz.underlying3) Tryz.underlying57 (zero_int w) (show rdV (.int .i64 0) = some (.held (.int .i64 0), []) from rfl) (Maps.keyOf_int_mk Tryz.underlying3 hop)
  rw [hl op hop] at hv
  injection hv with hv
  injection hv with hv
  injection hv with hv
  rw [hrun, hv]
theorem Mi.clear {T : Int → Int} {b n : Nat} {w : World} (h : Mi T b n w) :
    ∃ w', (∀ ty, (Builtin.clear_ #[57] ty #[.map (some b)]).run Tryz.prog w = .ok (.tuple #[]) w') ∧ Mi (fun _ => 0) b 0 w' ∧ w.grownBy w' (some b) := by
  obtain ⟨D, ⟨es, ck, hb, F, hs, hD⟩, hl⟩ := h
  refine ⟨{ w with heap := w.heap.setIfInBounds b (.map #[] ck) }, fun ty => ?_, ⟨.map [], ⟨#[], ck, (MapKept.heap_set hb).1, ⟨by simp, stamped_empty ck, by simp⟩, Nat.le_refl _, rfl⟩, fun q _ => rfl⟩, ⟨rfl, rfl, rfl, by simp, fun i _ hi => (MapKept.heap_set hb).2 i (fun e => hi (by rw [e]))⟩⟩
  simp [Builtin.clear_, run_underlying Tryz.underlying57, MapKept.run_getObj_map hb, MapKept.run_setObj_map _ hb, Result.andThen]
theorem Mi.later {T : Int → Int} {b n : Nat} {w w' : World} (h : Mi T b n w) (hb : Below w.heap.size w w') : Mi T b n w' := by
  obtain ⟨D, ⟨es, ck, h1, h2⟩, hl⟩ := h
  exact ⟨D, ⟨es, ck, (hb.block _ (Array.getElem?_eq_some_iff.1 h1).1).trans h1, h2⟩, hl⟩
theorem mkMapI (w : World) : (Instr.makeMap 57 none).run Tryz.prog w = .ok (.map (some w.heap.size)) (w.alloc (.map #[] 0)) := by first | rfl | kernel_rfl | simp [Instr.makeMap]
theorem Mi.row {T : Int → Int} {b n : Nat} {w : World} (h : Mi T b n w) : ∃ es ck, w.heap[b]? = some (.map es ck) := by
  obtain ⟨D, ⟨es, ck, hb, _⟩, _⟩ := h
  exact ⟨es, ck, hb⟩
theorem Row.keep {w w' : World} {b g : Nat} {cs : Array Value} {t : TypeId} (h : Row w g cs t) (hg : w.grownBy w' (some b)) (hb : ∃ es ck, w.heap[b]? = some (.map es ck)) : Row w' g cs t := by
  refine (hg.block g h.lt (fun e => ?_)).trans h
  injection e with e
  subst e
  obtain ⟨es, ck, h2⟩ := hb
  rw [show w.heap[g]? = _ from h] at h2
  cases h2
/-- Rows of a trace in memory, wherever they lie. -/
def Rws (w : World) (v : Value) (l : List Rw) : Prop :=
  ∃ a cap, v = .slice a l.length cap ∧ l.length ≤ cap ∧ (a = none → cap = 0) ∧ (l ≠ [] → ∃ g off, a = some ⟨g, off, none⟩ ∧ g < w.heap.size ∧ ∀ j, j < l.length → ∀ i v, (rwc (l.getD j rz))[i]? = some v → w.cell? ⟨g, off + j * 16 + i, none⟩ = some v)
theorem Rws.later {w w' : World} {v : Value} {l : List Rw} (h : Rws w v l) (hb : Below w.heap.size w w') : Rws w' v l := by
  obtain ⟨a, cap, rfl, h1, h1', h2⟩ := h
  refine ⟨a, cap, rfl, h1, h1', fun hn => ?_⟩
  obtain ⟨g, off, rfl, h3, h4⟩ := h2 hn
  exact ⟨g, off, rfl, Nat.lt_of_lt_of_le h3 hb.size, fun j hj i v hv => by rw [hb.cell h3]; exact h4 j hj i v hv⟩
theorem Rws.one {w : World} {v : Value} {l : List Rw} (h : Rws w v l) : v.oneCell' = true := by
  obtain ⟨a, cap, rfl, -⟩ := h; rfl
/-- Rules 1 to 5 of a trace's row, as the program asks them. -/
def cnK (l : List Rw) (i : Nat) (q : Int) : Int := ((l.take i).filter fun r => r.kd == q).length
def kpB (l : List Rw) : Nat → Nat → Bool
  | 0, i => (l.getD i rz).st == (i : Int) + 1
  | 1, i => ((i : Int) == 0) || fwB (l.getD (i - 1) rz) (l.getD i rz)
  | 2, i => fmB (l.getD i rz)
  | 3, i => (cnK l i 5 == 0) || (((l.getD i rz).kd == 5) && syB (l.getD i rz))
  | _, i => tuB (l.getD i rz)
theorem cnK_zero (l : List Rw) (q : Int) : cnK l 0 q = 0 := by unfold cnK; simp
theorem cnK_bd (l : List Rw) (i : Nat) (q : Int) : 0 ≤ cnK l i q ∧ cnK l i q ≤ (i : Int) := by
  unfold cnK
  have h1 := List.length_filter_le (fun r : Rw => r.kd == q) (l.take i)
  have h2 := List.length_take_le i l
  omega
theorem cnK_succ (l : List Rw) (i : Nat) (hi : i < l.length) (q : Int) : cnK l (i + 1) q = if q = (l.getD i rz).kd then cnK l i (l.getD i rz).kd + 1 else cnK l i q := by
  have e : l.take (i + 1) = l.take i ++ [l.getD i rz] := by
    rw [List.take_succ_eq_append_getElem hi]
    simp [hi]
  unfold cnK
  rw [e, List.filter_append, List.length_append]
  by_cases h : q = (l.getD i rz).kd
  · rw [if_pos h, ← h]; simp [h]
  · rw [if_neg h]
    have : ((l.getD i rz).kd == q) = false := by simpa using fun e => h e.symm
    simp only [List.filter_cons, this, List.filter_nil]
    simp
end Go.Proofs.YtidfndgedopghaaGreatDoor
namespace Go.Proofs.YtidfndgedopghaaGreatDoor
set_option linter.unusedVariables false
set_option maxRecDepth 100000
set_option maxHeartbeats 4000000
open Go.ChangeShapes Go.WideShapes Go.ChangeAt Go.RowKit Go.Deep
set_option maxHeartbeats 4000000 in
theorem tR1_c (l : List Rw) (v : Value) (k : Nat) (g1 : Nat) (w : World) (h1 : Row w g1 #[v] 22) (hv : Rws w v l) (hk : k < l.length) (hL : l.length ≤ 140737488351232) : Calls Tryz.prog 34 #[.int .i64 k, .pointer (some ⟨g1, 0, none⟩)] w fun e w' => e = .returned (.bool (kpB l 0 k)) ∧ Below w.heap.size w w' := by
  obtain ⟨a, cap, rfl, -, -, hrow⟩ := hv
  obtain ⟨g, off, rfl, hg, hc⟩ := hrow (by intro e; rw [e] at hk; exact absurd hk (by simp))
  have c1 : w.cell? ⟨g1, 0, none⟩ = some (.slice (some ⟨g, off, none⟩) l.length cap) := h1.cell 0
  have hlt : (k : Int) < (l.length : Int) := by omega
  have C : Hid (∀ i v, (rwc (l.getD k rz))[i]? = some v → w.cell? ⟨g, off + k * 16 + i, none⟩ = some v) := hc k hk
  have c2 : w.cell? ⟨g, off + k * 16, none⟩ = some (.int .i64 (l.getD k rz).st) := C.out 0 _ rfl
  have HM : Hid (kpB l 0 k = ((l.getD k rz).st == (k : Int) + 1)) := rfl
  generalize kpB l 0 k = Z at HM ⊢
  generalize (l.getD k rz).st = s at *
  clear hc C hrow
  go_enter Tryz.func34, Tryz.ntmps34
  go_wp2
  go_ret
  exact ⟨by rw [HM.out]; rfl, Below.refl _ _⟩
set_option maxHeartbeats 4000000 in
theorem tR3_c (l : List Rw) (v : Value) (k : Nat) (g1 : Nat) (w : World) (h1 : Row w g1 #[v] 22) (hv : Rws w v l) (hk : k < l.length) (hL : l.length ≤ 140737488351232) : Calls Tryz.prog 37 #[.int .i64 k, .pointer (some ⟨g1, 0, none⟩)] w fun e w' => e = .returned (.bool (kpB l 2 k)) ∧ Below w.heap.size w w' := by
  obtain ⟨a, cap, rfl, -, -, hrow⟩ := hv
  obtain ⟨g, off, rfl, hg, hc⟩ := hrow (by intro e; rw [e] at hk; exact absurd hk (by simp))
  have c1 : w.cell? ⟨g1, 0, none⟩ = some (.slice (some ⟨g, off, none⟩) l.length cap) := h1.cell 0
  have hlt : (k : Int) < (l.length : Int) := by omega
  have C : Hid (∀ i v, (rwc (l.getD k rz))[i]? = some v → w.cell? ⟨g, off + k * 16 + i, none⟩ = some v) := hc k hk
  have HF : Hid (Calls Tryz.prog 38 #[.agg (rwc (l.getD k rz))] w fun e w' => e = .returned (.bool (fmB (l.getD k rz))) ∧ Below w.heap.size w w') := uFm_c _ w
  show Calls _ _ _ _ fun e w' => e = .returned (.bool (fmB (l.getD k rz))) ∧ _
  generalize fmB (l.getD k rz) = Z at HF ⊢
  generalize l.getD k rz = r at *
  clear hc hrow
  go_enter Tryz.func37, Tryz.ntmps37
  go_wp2_with (first | (refine wpList_load_agg (by rfl) 52 _ (by rfl) g (off + k * 16) (by rfl) (rwc r) _ C.out Tryz.underlying52 (by rfl) (info_rw _) ?_) | (go_at_call 38; refine HF.out.mono ?_; rintro e w1 ⟨rfl, hb1⟩; have HB1 : Hid (Below w.heap.size w w1) := hb1; clear hb1))
  go_ret
  exact ⟨rfl, HB1.out⟩
set_option maxHeartbeats 4000000 in
theorem tR5_c (l : List Rw) (v : Value) (k : Nat) (g1 : Nat) (w : World) (h1 : Row w g1 #[v] 22) (hv : Rws w v l) (hk : k < l.length) (hL : l.length ≤ 140737488351232) : Calls Tryz.prog 41 #[.int .i64 k, .pointer (some ⟨g1, 0, none⟩)] w fun e w' => e = .returned (.bool (kpB l 4 k)) ∧ Below w.heap.size w w' := by
  obtain ⟨a, cap, rfl, -, -, hrow⟩ := hv
  obtain ⟨g, off, rfl, hg, hc⟩ := hrow (by intro e; rw [e] at hk; exact absurd hk (by simp))
  have c1 : w.cell? ⟨g1, 0, none⟩ = some (.slice (some ⟨g, off, none⟩) l.length cap) := h1.cell 0
  have hlt : (k : Int) < (l.length : Int) := by omega
  have C : Hid (∀ i v, (rwc (l.getD k rz))[i]? = some v → w.cell? ⟨g, off + k * 16 + i, none⟩ = some v) := hc k hk
  have HF : Hid (Calls Tryz.prog 42 #[.agg (rwc (l.getD k rz))] w fun e w' => e = .returned (.bool (tuB (l.getD k rz))) ∧ Below w.heap.size w w') := uTu_c _ w
  show Calls _ _ _ _ fun e w' => e = .returned (.bool (tuB (l.getD k rz))) ∧ _
  generalize tuB (l.getD k rz) = Z at HF ⊢
  generalize l.getD k rz = r at *
  clear hc hrow
  go_enter Tryz.func41, Tryz.ntmps41
  go_wp2_with (first | (refine wpList_load_agg (by rfl) 52 _ (by rfl) g (off + k * 16) (by rfl) (rwc r) _ C.out Tryz.underlying52 (by rfl) (info_rw _) ?_) | (go_at_call 42; refine HF.out.mono ?_; rintro e w1 ⟨rfl, hb1⟩; have HB1 : Hid (Below w.heap.size w w1) := hb1; clear hb1))
  go_ret
  exact ⟨rfl, HB1.out⟩
set_option maxHeartbeats 4000000 in
theorem tR2_c (l : List Rw) (v : Value) (k : Nat) (g1 : Nat) (w : World) (h1 : Row w g1 #[v] 22) (hv : Rws w v l) (hk : k < l.length) (hL : l.length ≤ 140737488351232) : Calls Tryz.prog 35 #[.int .i64 k, .pointer (some ⟨g1, 0, none⟩)] w fun e w' => e = .returned (.bool (kpB l 1 k)) ∧ Below w.heap.size w w' := by
  obtain ⟨a, cap, rfl, -, -, hrow⟩ := hv
  obtain ⟨g, off, rfl, hg, hc⟩ := hrow (by intro e; rw [e] at hk; exact absurd hk (by simp))
  have c1 : w.cell? ⟨g1, 0, none⟩ = some (.slice (some ⟨g, off, none⟩) l.length cap) := h1.cell 0
  have hlt : (k : Int) < (l.length : Int) := by omega
  have C : Hid (∀ i v, (rwc (l.getD k rz))[i]? = some v → w.cell? ⟨g, off + k * 16 + i, none⟩ = some v) := hc k hk
  have c1 : ∀ x : Later w, x.1.cell? ⟨g1, 0, none⟩ = some (.slice (some ⟨g, off, none⟩) l.length cap) := fun x => (lrow h1 x).cell 0
  have hne := later_nonempty w
  by_cases hz : k = 0
  · subst hz
    have HV : Hid (kpB l 1 0 = true) := rfl
    generalize kpB l 1 0 = Z at HV ⊢
    clear C hc hrow hlt
    go_enter Tryz.func35, Tryz.ntmps35
    go_upto_region 1 with fail
    refine wp_region_later (x0 := Later.start w) (by kernel_rfl) (by kernel_rfl) ?_
    iterate 15 (go_big_quiet_step (fail))
    refine wpQuiet_nil ?_
    rintro _ ⟨yq, rfl⟩
    go_wp2
    go_ret
    exact ⟨by rw [HV.out]; first | done | rfl, yq.2⟩
  · have hk1 : (((k : Int)) == 0) = false := by rw [beq_eq_false_iff_ne]; omega
    have hk0 : 0 ≤ (k : Int) - 1 := by omega
    have hk2 : (k : Int) - 1 < (l.length : Int) := by omega
    have hkn : ((k : Int) - 1).toNat = k - 1 := by omega
    have D : Hid (∀ i v, (rwc (l.getD (k - 1) rz))[i]? = some v → w.cell? ⟨g, off + (k - 1) * 16 + i, none⟩ = some v) := hc (k - 1) (by omega)
    have HV : Hid (kpB l 1 k = fwB (l.getD (k - 1) rz) (l.getD k rz)) := by show ((((k : Int)) == 0) || _) = _; rw [hk1]; rfl
    have HF : Hid (∀ x : Later w, Calls Tryz.prog 36 #[.agg (rwc (l.getD (k - 1) rz)), .agg (rwc (l.getD k rz))] x.1 fun e w' => e = .returned (.bool (fwB (l.getD (k - 1) rz) (l.getD k rz))) ∧ Below x.1.heap.size x.1 w') := fun x => uFw_c _ _ x.1
    generalize kpB l 1 k = Z at HV ⊢
    generalize fwB (l.getD (k - 1) rz) (l.getD k rz) = z at *
    generalize l.getD (k - 1) rz = p at *
    generalize l.getD k rz = r at *
    clear hc hrow hz
    go_enter Tryz.func35, Tryz.ntmps35
    go_upto_region 1 with fail
    refine wp_region_later (x0 := Later.start w) (by kernel_rfl) (by kernel_rfl) ?_
    (go_big_quiet_step (fail))
    (go_big_quiet_step (fail))
    (go_big_quiet_step (fail))
    (go_big_quiet_step (fail))
    (go_big_quiet_step (fail))
    (go_big_quiet_step (fail))
    (go_big_quiet_step (fail))
    (first | (go_big_quiet_want; refine quiet_load_agg 52 _ (by rfl) g (off + (k - 1) * 16) (by rfl) (rwc p) _ hg D.out Tryz.underlying52 (by rfl) (info_rw _) ?_; simp only [Act.put, List.setIfInBounds_toArray, List.set_cons_succ, List.set_cons_zero]; go_big_quiet_on) | (go_big_quiet_want; refine quiet_load_agg 52 _ (by rfl) g (off + k * 16) (by rfl) (rwc r) _ hg C.out Tryz.underlying52 (by rfl) (info_rw _) ?_; simp only [Act.put, List.setIfInBounds_toArray, List.set_cons_succ, List.set_cons_zero]; go_big_quiet_on))
    (go_big_quiet_step (fail))
    (go_big_quiet_step (fail))
    (go_big_quiet_step (fail))
    (first | (go_big_quiet_want; refine quiet_load_agg 52 _ (by rfl) g (off + (k - 1) * 16) (by rfl) (rwc p) _ hg D.out Tryz.underlying52 (by rfl) (info_rw _) ?_; simp only [Act.put, List.setIfInBounds_toArray, List.set_cons_succ, List.set_cons_zero]; go_big_quiet_on) | (go_big_quiet_want; refine quiet_load_agg 52 _ (by rfl) g (off + k * 16) (by rfl) (rwc r) _ hg C.out Tryz.underlying52 (by rfl) (info_rw _) ?_; simp only [Act.put, List.setIfInBounds_toArray, List.set_cons_succ, List.set_cons_zero]; go_big_quiet_on))
    (go_big_quiet_step ((go_at_call 36; exact calls_later (HF.out _))))
    (go_big_quiet_step (fail))
    (go_big_quiet_step (fail))
    refine wpQuiet_nil ?_
    rintro _ ⟨yq, rfl⟩
    go_wp2
    go_ret
    exact ⟨by rw [HV.out]; first | done | rfl, yq.2⟩
set_option maxHeartbeats 4000000 in
theorem tR4_c (l : List Rw) (v : Value) (k : Nat) (g1 gm b n : Nat) (w : World) (h1 : Row w g1 #[v] 22) (hv : Rws w v l) (hk : k < l.length) (hL : l.length ≤ 140737488351232) (hmr : Row w gm #[.map (some b)] 57) (T : Int → Int) (hM : Mi T b n w) (hT5 : T 5 = cnK l k 5) : Calls Tryz.prog 39 #[.int .i64 k, .pointer (some ⟨gm, 0, none⟩), .pointer (some ⟨g1, 0, none⟩)] w fun e w' => e = .returned (.bool (kpB l 3 k)) ∧ Below w.heap.size w w' := by
  obtain ⟨a, cap, rfl, -, -, hrow⟩ := hv
  obtain ⟨g, off, rfl, hg, hc⟩ := hrow (by intro e; rw [e] at hk; exact absurd hk (by simp))
  have c1 : w.cell? ⟨g1, 0, none⟩ = some (.slice (some ⟨g, off, none⟩) l.length cap) := h1.cell 0
  have hlt : (k : Int) < (l.length : Int) := by omega
  have C : Hid (∀ i v, (rwc (l.getD k rz))[i]? = some v → w.cell? ⟨g, off + k * 16 + i, none⟩ = some v) := hc k hk
  have c1 : ∀ x : Later w, x.1.cell? ⟨g1, 0, none⟩ = some (.slice (some ⟨g, off, none⟩) l.length cap) := fun x => (lrow h1 x).cell 0
  have cm : ∀ x : Later w, x.1.cell? ⟨gm, 0, none⟩ = some (.map (some b)) := fun x => (lrow hmr x).cell 0
  have hlk : ∀ x : Later w, (Instr.lookup 57 (.map (some b)) (.int .i64 5) false).run Tryz.prog x.1 = .ok (.int .i64 (cnK l k 5)) x.1 := fun x => by rw [← hT5]; exact (hM.later x.2).look 5 (by decide)
  have c2 : ∀ x : Later w, x.1.cell? ⟨g, off + k * 16 + 1, none⟩ = some (.int .i64 (l.getD k rz).kd) := fun x => (x.2.cell hg).trans (C.out 1 _ rfl)
  have HM : Hid (kpB l 3 k = ((cnK l k 5 == 0) || (((l.getD k rz).kd == 5) && syB (l.getD k rz)))) := rfl
  have HF : Hid (∀ x : Later w, Calls Tryz.prog 40 #[.agg (rwc (l.getD k rz))] x.1 fun e w' => e = .returned (.bool (syB (l.getD k rz))) ∧ Below x.1.heap.size x.1 w') := fun x => uSy_c _ x.1
  have hne := later_nonempty w
  generalize kpB l 3 k = Z at HM ⊢
  generalize syB (l.getD k rz) = z at *
  generalize hkd : (l.getD k rz).kd = kd at *
  clear hkd
  generalize l.getD k rz = r at *
  generalize cnK l k 5 = c at *
  clear hc hrow hM hT5 hmr h1
  cases q1 : (c == 0) with
  | true =>
    have HV : Hid (Z = true) := by unfold Hid; rw [HM.out, q1]; rfl
    clear HM
    go_enter Tryz.func39, Tryz.ntmps39
    go_upto_region 1 with fail
    refine wp_region_plain (x0 := Later.start w) ?_
    (go_big_quiet_step (fail))
    (go_big_quiet_step (fail))
    (go_big_quiet_step (fail))
    (go_big_quiet_step (fail))
    (go_big_quiet_step (fail))
    (go_big_quiet_step (fail))
    (go_big_quiet_step (fail))
    (go_big_quiet_step (fail))
    (go_big_quiet_step (fail))
    (go_big_quiet_step (fail))
    (go_big_quiet_step (fail))
    (go_big_quiet_step (fail))
    (go_big_quiet_step (fail))
    (go_big_quiet_step (fail))
    (first | go_big_quiet_step (fail))
    (go_big_quiet_step ((fail)))
    (go_big_quiet_step (fail))
    (go_big_quiet_step (fail))
    (go_big_quiet_step (fail))
    refine wpQuiet_nil ?_
    rintro _ ⟨yq, rfl⟩
    go_wp2
    go_ret
    exact ⟨by rw [HV.out]; first | done | rfl, yq.2⟩
  | false =>
    cases q2 : (kd == 5) with
    | false =>
      have HV : Hid (Z = false) := by unfold Hid; rw [HM.out, q1, q2]; rfl
      clear HM
      go_enter Tryz.func39, Tryz.ntmps39
      go_upto_region 1 with fail
      refine wp_region_plain (x0 := Later.start w) ?_
      (go_big_quiet_step (fail))
      (go_big_quiet_step (fail))
      (go_big_quiet_step (fail))
      (go_big_quiet_step (fail))
      (go_big_quiet_step (fail))
      (go_big_quiet_step (fail))
      (go_big_quiet_step (fail))
      (go_big_quiet_step (fail))
      (go_big_quiet_step (fail))
      (go_big_quiet_step (fail))
      (go_big_quiet_step (fail))
      (go_big_quiet_step (fail))
      (go_big_quiet_step (fail))
      (go_big_quiet_step (fail))
      (first | go_big_quiet_step (fail))
      (go_big_quiet_step ((fail)))
      (go_big_quiet_step (fail))
      (go_big_quiet_step (fail))
      (go_big_quiet_step (fail))
      refine wpQuiet_nil ?_
      rintro _ ⟨yq, rfl⟩
      go_wp2
      go_ret
      exact ⟨by rw [HV.out]; first | done | rfl, yq.2⟩
    | true =>
      have HV : Hid (Z = z) := by unfold Hid; rw [HM.out, q1, q2]; rfl
      clear HM
      go_enter Tryz.func39, Tryz.ntmps39
      go_upto_region 1 with fail
      refine wp_region_plain (x0 := Later.start w) ?_
      (go_big_quiet_step (fail))
      (go_big_quiet_step (fail))
      (go_big_quiet_step (fail))
      (go_big_quiet_step (fail))
      (go_big_quiet_step (fail))
      (go_big_quiet_step (fail))
      (go_big_quiet_step (fail))
      (go_big_quiet_step (fail))
      (go_big_quiet_step (fail))
      (go_big_quiet_step (fail))
      (go_big_quiet_step (fail))
      (go_big_quiet_step (fail))
      (go_big_quiet_step (fail))
      (go_big_quiet_step (fail))
      (first | (go_big_quiet_want; refine quiet_load_agg 52 _ (by rfl) g (off + k * 16) (by rfl) (rwc r) _ hg C.out Tryz.underlying52 (by rfl) (info_rw _) ?_; simp only [Act.put, List.setIfInBounds_toArray, List.set_cons_succ, List.set_cons_zero]; go_big_quiet_on) | go_big_quiet_step (fail))
      (go_big_quiet_step ((go_at_call 40; exact calls_later (HF.out _))))
      (go_big_quiet_step (fail))
      (go_big_quiet_step (fail))
      (go_big_quiet_step (fail))
      refine wpQuiet_nil ?_
      rintro _ ⟨yq, rfl⟩
      go_wp2
      go_ret
      exact ⟨by rw [HV.out]; first | done | rfl, yq.2⟩
end Go.Proofs.YtidfndgedopghaaGreatDoor
