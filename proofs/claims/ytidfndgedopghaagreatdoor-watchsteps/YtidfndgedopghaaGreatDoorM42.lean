/-
  Ow Ox.
-/
import Derived.Test.YtidfndgedopghaaGreatDoorM41
namespace Go.Proofs.YtidfndgedopghaaGreatDoor
set_option linter.unusedVariables false
set_option maxRecDepth 100000
set_option maxHeartbeats 4000000
open Go.ChangeShapes Go.WideShapes Go.ChangeAt Go.RowKit Go.Deep
theorem ssc_lay1 (b : Cp) (B : St) (br bi bo : Value) (a : Cp) (A : St) (ar ai ao : Value) (K : Cp) (tk ex so : Bool) (vi : Value) (r : Rw) (b' : Cp) : layC (ssc b B br bi bo a A ar ai ao K tk ex so vi r) 0 (cpc b').toList = ssc b' B br bi bo a A ar ai ao K tk ex so vi r := by
  unfold ssc
  have h1 := whc_size b B br bi bo
  have h2 := cpc_size b'
  have h3 := whc_lay b b' B br bi bo
  generalize whc a A ar ai ao ++ (cpc K ++ (#[.bool tk, .bool ex, .bool so, vi] ++ rwc r)) = Z
  generalize whc b B br bi bo = X at *
  generalize whc b' B br bi bo = Y at *
  generalize cpc b' = C at *
  rw [lay_app_l X Z 0 _ (by rw [Array.length_toList]; omega), h3]
theorem ssc_lay2 (b : Cp) (B : St) (br bi bo : Value) (a : Cp) (A : St) (ar ai ao : Value) (K : Cp) (tk ex so : Bool) (vi : Value) (r : Rw) (a' : Cp) : layC (ssc b B br bi bo a A ar ai ao K tk ex so vi r) 97 (cpc a').toList = ssc b B br bi bo a' A ar ai ao K tk ex so vi r := by
  unfold ssc
  have h1 := whc_size b B br bi bo
  have h4 := whc_size a A ar ai ao
  have h2 := cpc_size a'
  have h3 := whc_lay a a' A ar ai ao
  generalize cpc K ++ (#[.bool tk, .bool ex, .bool so, vi] ++ rwc r) = Z
  generalize whc a A ar ai ao = X at *
  generalize whc a' A ar ai ao = Y at *
  generalize whc b B br bi bo = V at *
  generalize cpc a' = C at *
  rw [show 97 = 97 + 0 from rfl, lay_app_r V _ 97 0 _ h1 (by rw [Array.length_toList, Array.size_append]; omega), lay_app_l X Z 0 _ (by rw [Array.length_toList]; omega), h3]
theorem ssc_ones (b : Cp) (B : St) (br bi bo : Value) (a : Cp) (A : St) (ar ai ao : Value) (K : Cp) (tk ex so : Bool) (vi : Value) (r : Rw) (hB : (whc b B br bi bo).all (·.oneCell') = true) (hA : (whc a A ar ai ao).all (·.oneCell') = true) (hi : vi.oneCell' = true) : (ssc b B br bi bo a A ar ai ao K tk ex so vi r).all (·.oneCell') = true := by
  have hr := rwc_ones r
  have hk := cpc_ones K
  have h4 : (#[Value.bool tk, .bool ex, .bool so, vi] : Array Value).all (·.oneCell') = true := by simpa [Value.oneCell'] using hi
  unfold ssc
  rw [Array.all_append, Array.all_append, Array.all_append, Array.all_append, hB, hA, hk, hr, h4]
  rfl
def ssz : Array Value := ssc cz zS (.slice none 0 0) (.slice none 0 0) (.slice none 0 0) cz zS (.slice none 0 0) (.slice none 0 0) (.slice none 0 0) cz false false false (.slice none 0 0) rz
theorem zero_ss (w : World) : (zeroValue 79).run Tryz.prog w = .ok (.agg ssz) w := by kernel_rfl
/-- What the reference's Step answers. -/
def rsV (b : Cp) (B : St) (a : Cp) (A : St) (tk ex so : Bool) (r : Rw) : Int := if eqC a (PR a) && !((A.ram.length : Int) != (B.ram.length : Int)) then fN (fun j => rK (PR b) B (PR a) A tk ex so r (j + 1)) 19 1 else 1
theorem rsV_yes (b : Cp) (B : St) (a : Cp) (A : St) (tk ex so : Bool) (r : Rw) (h : (eqC a (PR a) && !((A.ram.length : Int) != (B.ram.length : Int))) = true) : rsV b B a A tk ex so r = fN (fun j => rK (PR b) B (PR a) A tk ex so r (j + 1)) 19 1 := by unfold rsV; rw [if_pos h]
theorem rsV_no (b : Cp) (B : St) (a : Cp) (A : St) (tk ex so : Bool) (r : Rw) (h : (eqC a (PR a) && !((A.ram.length : Int) != (B.ram.length : Int))) = false) : rsV b B a A tk ex so r = 1 := by unfold rsV; rw [h]; rfl
theorem fN_19 (f : Nat → Bool) (h : ∀ j, 2 ≤ j → j < 21 → f j = true) : fN (fun j => f (j + 1)) 19 1 = 0 := fN_none _ 19 1 (fun i h1 h2 => h (i + 1) (by omega) (by omega))
theorem fN_k (f : Nat → Bool) (k : Nat) (h2 : 2 ≤ k) (h : k < 21) (hf : ∀ j, 2 ≤ j → j < k → f j = true) (hk : f k = false) : fN (fun j => f (j + 1)) 19 1 = (k : Int) := by
  have q := fN_hit (fun j => f (j + 1)) 19 1 (k - 1) (by omega) (by omega) (fun i h3 h4 => hf (i + 1) (by omega) (by omega)) (by show f (k - 1 + 1) = false; rw [show k - 1 + 1 = k by omega]; exact hk)
  rw [q]; omega
/-- The two wholes that Step is given. -/
structure Kw (B A : St) (br bi bo ar ai ao : Value) (w : World) : Prop where
  hA : Bs A ar ai ao w
  hB : Bs B br bi bo w
  dA : Bd A
  dB : Bd B
  hAll : AllB A.out
theorem Kw.later {B A : St} {br bi bo ar ai ao : Value} {w w' : World} (h : Kw B A br bi bo ar ai ao w) (hb : Below w.heap.size w w') : Kw B A br bi bo ar ai ao w' := ⟨h.hA.later hb, h.hB.later hb, h.dA, h.dB, h.hAll⟩
set_option maxHeartbeats 16000000 in
theorem rstep_c (b : Cp) (B : St) (br bi bo : Value) (a : Cp) (A : St) (ar ai ao : Value) (tk ex so : Bool) (vi : Value) (r : Rw) (w : World) (ht : Kw B A br bi bo ar ai ao w) (hb1 : (whc b B br bi bo).all (·.oneCell') = true) (ha1 : (whc a A ar ai ao).all (·.oneCell') = true) (hi : vi.oneCell' = true) : Calls Tryz.prog 16 #[.agg (whc b B br bi bo), .agg (whc a A ar ai ao), .agg (woc tk ex so vi), .agg (rwc r)] w fun e w' => e = .returned (.int .i64 (rsV b B a A tk ex so r)) ∧ Below w.heap.size w w' := by
  obtain ⟨W0, hW0, r0, r1, r2, r3, b0⟩ := start4U w (whc b B br bi bo) (whc a A ar ai ao) (woc tk ex so vi) (rwc r) 46 46 50 52
  have BB := Hid.mkU b0.out
  have hz := zero_ss
  have HT := Hid.mkU ht
  have HON : Hid ((ssc b B br bi bo a A ar ai ao a tk ex so vi r).all (·.oneCell') = true) := ssc_ones b B br bi bo a A ar ai ao a tk ex so vi r hb1 ha1 hi
  have HEC := Hid.mkU (fun w => eq_cpuU a (PR a) w)
  have HY := Hid.mkU (rsV_yes b B a A tk ex so r)
  have HN := Hid.mkU (rsV_no b B a A tk ex so r)
  have H19 := Hid.mkU (fN_19 (rK (PR b) B (PR a) A tk ex so r))
  have HKK := Hid.mkU (fN_k (rK (PR b) B (PR a) A tk ex so r))
  generalize fN (fun j => rK (PR b) B (PR a) A tk ex so r (j + 1)) 19 1 = zf at *
  generalize rsV b B a A tk ex so r = Z at *
  generalize eqC a (PR a) = z1 at *
  have C1 : Hid (∀ j v, (cpc a)[j]? = some v → W0.cell? ⟨w.heap.size + 1, 0 + j, none⟩ = some v) := fun j v hv => (r1.out.cell (0 + j)).trans (whc_c a A ar ai ao j v hv)
  clear ht hb1 ha1 hi b0
  go_enter Tryz.func16, Tryz.ntmps16
  go_upto_region 1 with fail
  clear hW0
  go_upto_region 2 with (first | (refine wpList_load_row (by rfl) _ _ (by rfl) _ (by rfl) 46 _ (0, 0) _ r0.out Tryz.underlying46 (by rfl) (info_whU _ _ _ _ _) ?_) | (refine wpList_load_row (by rfl) _ _ (by rfl) _ (by rfl) 46 _ (0, 0) _ r1.out Tryz.underlying46 (by rfl) (info_whU _ _ _ _ _) ?_) | (refine wpList_load_agg (by rfl) 32 _ (by rfl) (w.heap.size + 1) 0 (by rfl) (cpc a) _ C1.out Tryz.underlying32 (by rfl) (info_cpuU _) ?_) | (refine wpList_load_row (by rfl) _ _ (by rfl) _ (by rfl) 50 _ (0, 0) _ r2.out Tryz.underlying50 (by rfl) (info_wo _ _ _ _) ?_) | (refine wpList_load_row (by rfl) _ _ (by rfl) _ (by rfl) 52 _ (0, 0) _ r3.out Tryz.underlying52 (by rfl) (info_rw _) ?_) | (refine wpList_build_tab (by rfl) 79 _ (by rfl) (ssc b B br bi bo a A ar ai ao a tk ex so vi r) (by kernel_rfl) ?_) | (refine wpList_store_new (by rfl) 79 _ _ (by rfl) (by rfl) ssz (ssc b B br bi bo a A ar ai ao a tk ex so vi r) (by rfl) (by rfl) (info_ss ..) (by rw [ssc_size]; exact ssc_size ..) HON.out ?_))
  refine on_W (motive := fun W => Code.wp _ _ _ _ W) (Q := fun W => Row W w.heap.size (whc b B br bi bo) 46 ∧ Row W (w.heap.size + 1) (whc a A ar ai ao) 46 ∧ Row W W0.heap.size (ssc b B br bi bo a A ar ai ao a tk ex so vi r) 79 ∧ Below w.heap.size w W) ⟨r0.out.old r0.out.lt _, r1.out.old r1.out.lt _, Row.new _ _ _, BB.out.trans ((below_al _ _).mono BB.out.size)⟩ ?_
  have hg9 : Hid (w.heap.size + 1 < W0.heap.size) := r1.out.lt
  generalize W0.heap.size = g9 at *
  clear r0 r1 r2 r3 BB C1 hz HON
  rintro W1 ⟨q0, q1, q9, qb⟩
  have r0 := Hid.mkU q0
  have r1 := Hid.mkU q1
  have r9 := Hid.mkU q9
  have BB := Hid.mkU qb
  clear q0 q1 q9 qb W0
  have Cb : Hid (∀ j v, (cpc b)[j]? = some v → W1.cell? ⟨w.heap.size, 0 + j, none⟩ = some v) := fun j v hv => (r0.out.cell (0 + j)).trans (whc_c b B br bi bo j v hv)
  go_upto_region 3 with (first | (refine wpList_load_agg (by rfl) 32 _ (by rfl) w.heap.size 0 (by rfl) (cpc b) _ Cb.out Tryz.underlying32 (by rfl) (info_cpuU _) ?_) | (go_at_call 20; refine (rPr_c b _).mono ?_; rintro e w1 ⟨rfl, hb1⟩; have HBa := Hid.mkU hb1; have T1 : Hid (w1.there g9 0 (cpc (PR b)).size) := (r9.out.later hb1 r9.out.lt).there (by rw [cpc_size, ssc_size]; omega); clear hb1) | (refine wpList_store_part (by rfl) 32 _ _ (by rfl) (by rfl) g9 0 (cpc (PR b)) (by rfl) (by rfl) T1.out (info_cpuU _) (cpc_ones _) ?_))
  refine on_W (motive := fun W => Code.wp _ _ _ _ W) (Q := fun W => Row W w.heap.size (whc b B br bi bo) 46 ∧ Row W (w.heap.size + 1) (whc a A ar ai ao) 46 ∧ Row W g9 (ssc (PR b) B br bi bo a A ar ai ao a tk ex so vi r) 79 ∧ Below w.heap.size w W) ⟨(r0.out.later HBa.out r0.out.lt).lays (by have := hg9.out; omega) _ _, (r1.out.later HBa.out r1.out.lt).lays (by have := hg9.out; omega) _ _, by have q := (r9.out.later HBa.out r9.out.lt).lay (cpc (PR b)).toList 0; rw [ssc_lay1] at q; exact q, below_lay (by have := hg9.out; omega) _ _ (BB.out.trans (HBa.out.mono BB.out.size))⟩ ?_
  clear r0 r1 r9 BB HBa T1 Cb
  rintro W2 ⟨q0, q1, q9, qb⟩
  have r0 := Hid.mkU q0
  have r1 := Hid.mkU q1
  have r9 := Hid.mkU q9
  have BB := Hid.mkU qb
  clear q0 q1 q9 qb w1
  have Ca : Hid (∀ j v, (cpc a)[j]? = some v → W2.cell? ⟨w.heap.size + 1, 0 + j, none⟩ = some v) := fun j v hv => (r1.out.cell (0 + j)).trans (whc_c a A ar ai ao j v hv)
  go_upto_region 4 with (first | (refine wpList_load_agg (by rfl) 32 _ (by rfl) (w.heap.size + 1) 0 (by rfl) (cpc a) _ Ca.out Tryz.underlying32 (by rfl) (info_cpuU _) ?_) | (go_at_call 20; refine (rPr_c a _).mono ?_; rintro e w1 ⟨rfl, hb1⟩; have HBa := Hid.mkU hb1; have T1 : Hid (w1.there g9 97 (cpc (PR a)).size) := (r9.out.later hb1 r9.out.lt).there (by rw [cpc_size, ssc_size]; omega); clear hb1) | (refine wpList_store_part (by rfl) 32 _ _ (by rfl) (by rfl) g9 97 (cpc (PR a)) (by rfl) (by rfl) T1.out (info_cpuU _) (cpc_ones _) ?_))
  refine on_W (motive := fun W => Code.wp _ _ _ _ W) (Q := fun W => Row W w.heap.size (whc b B br bi bo) 46 ∧ Row W (w.heap.size + 1) (whc a A ar ai ao) 46 ∧ Row W g9 (ssc (PR b) B br bi bo (PR a) A ar ai ao a tk ex so vi r) 79 ∧ Below w.heap.size w W) ⟨(r0.out.later HBa.out r0.out.lt).lays (by have := hg9.out; omega) _ _, (r1.out.later HBa.out r1.out.lt).lays (by have := hg9.out; omega) _ _, by have q := (r9.out.later HBa.out r9.out.lt).lay (cpc (PR a)).toList 97; rw [ssc_lay2] at q; exact q, below_lay (by have := hg9.out; omega) _ _ (BB.out.trans (HBa.out.mono BB.out.size))⟩ ?_
  clear r0 r1 r9 BB HBa T1 Ca
  rintro W3 ⟨q0, q1, q9, qb⟩
  have r0 := Hid.mkU q0
  have r1 := Hid.mkU q1
  have r9 := Hid.mkU q9
  have BB := Hid.mkU qb
  clear q0 q1 q9 qb w1
  have HT3 := Hid.mkU (HT.out.later BB.out)
  obtain ⟨xa, ca, har, -, -, -⟩ := HT3.out.hA.r
  obtain ⟨xb, cb, hbr, -, -, -⟩ := HT3.out.hB.r
  have c0_r : ∀ x : Later W3, x.1.cell? ⟨w.heap.size, 82, none⟩ = some (.slice xb B.ram.length cb) := fun x => by
    have c : x.1.cell? ⟨w.heap.size, 82, none⟩ = some br := ((lrow r0.out x).cell 82).trans (whc_b b B br bi bo 0 _ rfl)
    rw [hbr] at c
    exact c
  have c1_r : ∀ x : Later W3, x.1.cell? ⟨w.heap.size + 1, 82, none⟩ = some (.slice xa A.ram.length ca) := fun x => by
    have c : x.1.cell? ⟨w.heap.size + 1, 82, none⟩ = some ar := ((lrow r1.out x).cell 82).trans (whc_b a A ar ai ao 0 _ rfl)
    rw [har] at c
    exact c
  clear har hbr HT
  have hne := later_nonempty W3
  cases z1
  focus
    have HV := Hid.mkU (HN.out rfl)
    clear HY HN H19 HKK
    have MX : Hid True := trivial
  rotate_left 1
  focus
    cases q1 : ((A.ram.length : Int) != (B.ram.length : Int))
    focus
      have HV := Hid.mkU (HY.out (by first | rfl | (rw [q1]; rfl)))
      clear HY HN
      have MY : Hid True := trivial
    rotate_left 1
    focus
      have HV := Hid.mkU (HN.out (by first | rfl | (rw [q1]; rfl)))
      clear HY HN H19 HKK
      have MX : Hid True := trivial
    rotate_left 1
  rotate_left 2
  all_goals
    refine wp_region_plain (x0 := Later.start W3) ?_
    (go_big_quiet_step (fail))
    (first | (go_big_quiet_want; refine quiet_load_agg 32 _ (by rfl) (g9) 194 (by rfl) (cpc a) _ r9.out.lt (fun j v hv => (r9.out.cell (194 + j)).trans (ssc_kc _ _ _ _ _ _ _ _ _ _ _ _ _ _ _ _ j v hv)) Tryz.underlying32 (by rfl) (info_cpuU _) ?_; simp only [Act.put, List.setIfInBounds_toArray, List.set_cons_succ, List.set_cons_zero]; go_big_quiet_on) | (go_big_quiet_step (fail)))
    iterate 2 (go_big_quiet_step (fail))
    (first | (go_big_quiet_want; refine quiet_load_agg 32 _ (by rfl) (g9) 97 (by rfl) (cpc (PR a)) _ r9.out.lt (fun j v hv => (r9.out.cell (97 + j)).trans (ssc_ac _ _ _ _ _ _ _ _ _ _ _ _ _ _ _ _ j v hv)) Tryz.underlying32 (by rfl) (info_cpuU _) ?_; simp only [Act.put, List.setIfInBounds_toArray, List.set_cons_succ, List.set_cons_zero]; go_big_quiet_on) | (go_big_quiet_step (fail)))
    (first | (go_big_quiet_want; refine quiet_neq_agg 32 _ _ _ (by rfl) (cpc a) (cpc (PR a)) (by rfl) (by rfl) _ HEC.out (fun w => eqN_cpuU _ _ _ _ w) false (by rfl) ?_; simp only [Act.put, List.setIfInBounds_toArray, List.set_cons_succ, List.set_cons_zero]; go_big_quiet_on) | (go_big_quiet_want; refine quiet_neq_agg 32 _ _ _ (by rfl) (cpc a) (cpc (PR a)) (by rfl) (by rfl) _ HEC.out (fun w => eqN_cpuU _ _ _ _ w) true (by rfl) ?_; simp only [Act.put, List.setIfInBounds_toArray, List.set_cons_succ, List.set_cons_zero]; go_big_quiet_on) | (go_big_quiet_step (fail)))
    iterate 4 (go_big_quiet_step (fail))
    (go_big_quiet_step (rfl))
    iterate 3 (go_big_quiet_step (fail))
    (go_big_quiet_step (rfl))
    iterate 2 (go_big_quiet_step (fail))
    refine wpQuiet_nil ?_
    rintro _ ⟨yq, rfl⟩
    first | (have := MX; (go_wp2); (go_ret); (exact ⟨by rw [HV.out]; first | done | rfl, BB.out.trans (yq.2.mono BB.out.size)⟩)) | skip
  all_goals
    have := MY
    have hlen : A.ram.length = B.ram.length := (by have q := q1; simp at q; omega)
    have R9 := Hid.mkU (lrow r9.out yq)
    have B9 := Hid.mkU (BB.out.trans (yq.2.mono BB.out.size))
    have HKh : Hid (Kh (PR b) B A br bi bo ar ai ao yq.1) := ⟨HT3.out.hA.later yq.2, HT3.out.hB.later yq.2, HT3.out.dA, HT3.out.dB, HT3.out.hAll, hlen, PR_md18 b⟩
    have HRC : Hid (∀ k : Nat, 2 ≤ k → k ≤ 20 → ∀ W, Below yq.1.heap.size yq.1 W → Calls Tryz.prog 33 #[.agg (ssc (PR b) B br bi bo (PR a) A ar ai ao a tk ex so vi r), .int .i64 k] W fun e w' => e = .returned (.bool (rK (PR b) B (PR a) A tk ex so r k)) ∧ Below W.heap.size W w') := fun k h2 h20 W hb => kept_c (PR b) B br bi bo (PR a) A ar ai ao a tk ex so vi r k h2 h20 W (HKh.out.later hb)
    clear hlen q1 c0_r c1_r hne HT3 HKh r0 r1 r9 BB
    go_upto_region 6 with fail
    refine on_W (motive := fun W => Code.wp _ _ _ _ W) (Q := fun W => Row W g9 (ssc (PR b) B br bi bo (PR a) A ar ai ao a tk ex so vi r) 79 ∧ Below w.heap.size w W ∧ (∀ k : Nat, 2 ≤ k → k ≤ 20 → ∀ V, Below W.heap.size W V → Calls Tryz.prog 33 #[.agg (ssc (PR b) B br bi bo (PR a) A ar ai ao a tk ex so vi r), .int .i64 k] V fun e w' => e = .returned (.bool (rK (PR b) B (PR a) A tk ex so r k)) ∧ Below V.heap.size V w')) ⟨R9.out, B9.out, HRC.out⟩ ?_
    clear R9 B9 HRC
    rintro W4 ⟨q9, qb, qc⟩
    have r9 := Hid.mkU q9
    have BB := Hid.mkU qb
    have HRC := Hid.mkU qc
    clear q9 qb qc yq
    generalize rK (PR b) B (PR a) A tk ex so r = f at *
    go_wp2
    go_loopw [10] (fun i wr => ∃ k : Nat, 2 ≤ k ∧ k ≤ 21 ∧ i = .int .i64 k ∧ Hid (∀ j, 2 ≤ j → j < k → f j = true) ∧ Hid (Below W4.heap.size W4 wr)) (fun i _ => 21 - (intOf i).toNat)
    case atStart => exact ⟨2, by omega, by omega, rfl, fun j h1 h2 => by omega, Below.refl _ _⟩
    case round =>
      obtain ⟨k, hk2, hk, rfl, hf, hb⟩ := hrel
      by_cases hlt : k < 21
      · have hlt2 : (k : Int) ≤ 20 := by omega
        have HC := Hid.mkU (HRC.out k hk2 (by omega) wr hb.out)
        have HZ : Hid (f k = false → Z = (k : Int)) := fun h => HV.out.trans (HKK.out k hk2 hlt hf.out h)
        have HF : Hid (f k = true → ∀ j, 2 ≤ j → j < k + 1 → f j = true) := fun h j h1 h2 => by
          by_cases e : j = k
          · rw [e]; exact h
          · exact hf.out j h1 (by omega)
        have h0 := Hid.mkU (r9.out.later hb.out r9.out.lt)
        have B3 := Hid.mkU (BB.out.trans (hb.out.mono BB.out.size))
        clear HRC HKK H19 HV hf
        generalize f k = q at *
        cases q with
        | false =>
          have HV2 := Hid.mkU (HZ.out rfl)
          clear HZ HF
          go_wp2_with (first | (refine wpList_load_row (by rfl) _ _ (by rfl) _ (by rfl) 79 _ (0, 0) _ h0.out Tryz.underlying79 (by rfl) (info_ss ..) ?_) | (go_at_call 33; refine HC.out.mono ?_; rintro e w4 ⟨rfl, hb4⟩; have HB4 := Hid.mkU (B3.out.trans (hb4.mono B3.out.size)); clear hb4))
          go_ret
          exact ⟨by rw [HV2.out]; first | done | rfl, HB4.out⟩
        | true =>
          have HV2 := Hid.mkU (HF.out rfl)
          clear HZ HF
          go_wp2_with (first | (refine wpList_load_row (by rfl) _ _ (by rfl) _ (by rfl) 79 _ (0, 0) _ h0.out Tryz.underlying79 (by rfl) (info_ss ..) ?_) | (go_at_call 33; refine HC.out.mono ?_; rintro e w4 ⟨rfl, hb4⟩; have HB5 := Hid.mkU (hb.out.trans (hb4.mono hb.out.size)); clear hb4))
          go_roundw
          case rel => exact ⟨k + 1, by omega, by omega, by go_num, HV2, HB5⟩
          case measure => simp [intOf]; omega
      · have HV2 := Hid.mkU (HV.out.trans (H19.out (fun j h1 h2 => hf.out j h1 (by omega))))
        have B3 := Hid.mkU (BB.out.trans (hb.out.mono BB.out.size))
        clear HRC HKK H19 HV hf
        have hge : ¬ ((k : Int) ≤ 20) := by omega
        go_wp2
        go_ret
        exact ⟨by rw [HV2.out]; first | done | rfl, B3.out⟩
end Go.Proofs.YtidfndgedopghaaGreatDoor
namespace Go.Proofs.YtidfndgedopghaaGreatDoor
set_option linter.unusedVariables false
set_option linter.unusedSimpArgs false
set_option maxRecDepth 100000
set_option maxHeartbeats 4000000
open Go.ChangeShapes Go.WideShapes Go.ChangeAt Go.RowKit Go.Deep
theorem eqC_comm (a b : Cp) : eqC a b = eqC b a := by
  rw [Bool.eq_iff_iff, eqC_iff, eqC_iff]; exact ⟨Eq.symm, Eq.symm⟩
theorem mem0 (r : Rw) (h : (bits .and .i64 r.mem 2 == 0) = false) : (r.mem == 0) = false := by
  rw [beq_eq_false_iff_ne] at h ⊢
  intro e
  rw [e] at h
  exact h (by decide)
theorem st_has (r : Rw) (t : BitVec 64) : hasB (stP r) t = ((bits .and .i64 r.mem 2 != 0) && inB r t) := by
  have hz := n64_lo (t - 0#64)
  unfold hasB inB
  rw [szV_wrap]
  unfold stP noB szV bne
  cases q1 : (bits .and .i64 r.mem 2 == 0) with
  | true => simp; exact fun _ => n64_lo t
  | false =>
    rw [mem0 r q1]
    cases q2 : decide (r.sz < 1) with
    | true =>
      have h0 := n64_lo (t - r.ad)
      have h1 : decide (n64 (t - r.ad) < 0) = false := decide_eq_false (by omega)
      have h2 : decide (n64 (t - 0#64) < 0) = false := decide_eq_false (by omega)
      simp [h1, h2]
      exact fun _ => n64_lo t
    | false =>
      cases q3 : decide (8 < r.sz) with
      | true =>
        have h0 := n64_lo (t - r.ad)
        have h1 : decide (n64 (t - r.ad) < 0) = false := decide_eq_false (by omega)
        have h2 : decide (n64 (t - 0#64) < 0) = false := decide_eq_false (by omega)
        simp [h1, h2]
        exact fun _ => n64_lo t
      | false => simp
theorem st_met (r : Rw) (f : BitVec 64) (n : Nat) : metB (stP r) f n = soB r f n := by
  unfold metB soB
  cases q : (bits .and .i64 r.mem 2 == 0) with
  | true =>
    rw [Bool.not_true, Bool.false_and]
    apply any_none
    intro j _
    rw [st_has]
    unfold bne; rw [q]; rfl
  | false =>
    rw [Bool.not_false, Bool.true_and]
    congr 1
    funext k
    rw [st_has]
    unfold bne; rw [q]; rfl
theorem rl2_eq (b a : Cp) (r : Rw) : r2B b a r = rl2 b a r := by
  unfold r2B rl2 kdB bgB enB
  cases decide (1 ≤ r.kd) <;> cases decide (r.kd ≤ 5) <;> cases r.md == b.md <;> cases n64 r.pc == n64 b.pc <;> cases n64 r.nx == n64 a.pc <;> cases r.nm == a.md <;> rfl
theorem dv_comm (A B : St) : dvB A B = dvB B A := by
  unfold dvB tmB cnB beB
  rw [Bool.eq_iff_iff]
  simp only [Bool.and_eq_true, beq_iff_eq]
  constructor <;> (intro h; simp [h])
theorem be_comm (l m : List Int) : beB l m = beB m l := by
  unfold beB
  rw [Bool.eq_iff_iff, beq_iff_eq, beq_iff_eq]
  exact ⟨Eq.symm, Eq.symm⟩
theorem bs_be (l m : List Int) (hl : AllB l) (hm : AllB m) : bsB l m = beB l m := by rw [beB_iff l m hl hm]; rfl
theorem rl3_eq (b a : Cp) (B A : St) (r : Rw) (a1 : AllB A.ram) (a2 : AllB A.inp) (a3 : AllB A.out) (b1 : AllB B.ram) (b2 : AllB B.inp) (b3 : AllB B.out) : r3B b a B A r = rl3 b a B A (r.kd == 5) := by
  unfold r3B rl3 whB sbus
  rw [rd_eq A B a2 b2 a3 b3, bs_be _ _ a1 b1, eqC_comm a b, dv_comm A B, be_comm A.ram B.ram]
  cases B.off != 0 <;> cases r.kd == 5 <;> cases eqC b a <;> cases dvB B A <;> cases beB B.ram A.ram <;> rfl
theorem rl9_eq (b a : Cp) (r : Rw) : r9B b a r = rl9 b a r (b.md == 0) := by
  unfold r9B rl9 owB tlB bne
  cases b.md == 0 with
  | false => rfl
  | true =>
    cases tpB r <;> simp [Bool.and_assoc]
theorem sb_s (b a : Cp) (h : sbB b a = true) (j : Nat) (hj : j < 12) (h10 : j ≠ 10) : n64 (a.s j) = n64 (b.s j) := by
  unfold sbB at h
  have h1 := eqC_alk _ _ h
  have h2 := (eqC_iff _ _).1 h
  have h3 := cpc_inj_at h2 (35 + j) (by omega)
  rw [cpcell_sU _ _ hj, cpcell_sU _ _ hj] at h3
  have h4 := v_int h3
  rw [h4]
  show n64 (upd b.s 10 (a.s 10) j) = _
  unfold upd
  rw [if_neg h10]
theorem rl11_eq (b a : Cp) (A : St) (r : Rw) : r11B b a A r = rl11 b a r (n64 (mpV A)) := by
  unfold r11B rl11
  cases hs : sbB b a with
  | false => simp
  | true =>
    have e := sb_s b a hs 2 (by decide) (by decide)
    rw [e]
theorem rl14_eq (B A : St) (r : Rw) (tk : Bool) (h0 : 0 ≤ B.time) (h1 : B.time ≤ 18446744073709551615) : r14B B A r tk = rl14 B A (stP r) (r.kd == 5) tk := by
  unfold r14B rl14
  rw [st_met]
  have hw : IntKind.u64.wrap (B.time + 0) = B.time := by show (B.time + 0) % 18446744073709551616 = _; omega
  cases tk with
  | true => rw [show n64 (oB true) = 1 from rfl]; cases r.kd == 5 <;> cases soB r 33603576#64 8 <;> simp
  | false => rw [show n64 (oB false) = 0 from rfl, hw]; cases r.kd == 5 <;> cases soB r 33603576#64 8 <;> simp
theorem rl15_eq (B A : St) (r : Rw) : r15B B A r = rl15 B A (stP r) := by
  unfold r15B rl15
  rw [st_met, st_met]
  cases soB r 33570816#64 8 <;> cases soB r 33554432#64 4 <;> cases A.cmp == B.cmp <;> cases A.msip == B.msip <;> rfl
theorem rl20_eq (b : Cp) (r : Rw) : r20B b r = rl20 b r := by
  unfold r20B rl20 ftB fpB bne
  cases q2 : r.len == 2 with
  | true => simp
  | false =>
    cases q4 : r.len == 4 with
    | true => simp
    | false => simp
theorem st_pl (r : Rw) : plE (stP r) = (((bits .and .i64 r.mem 2 != 0) && (n64 r.ad == 268435456)) && (r.sz == 1)) := by
  unfold plE stP noB bne
  cases q1 : (bits .and .i64 r.mem 2 == 0) with
  | true => simp [n64]
  | false =>
    by_cases h : r.sz = 1
    · rw [h]; simp
    · have h2 : (r.sz == 1) = false := by rw [beq_eq_false_iff_ne]; exact h
      rw [h2, Bool.and_false]
      cases q2 : decide (r.sz < 1) with
      | true => simp [n64]
      | false =>
        cases q3 : decide (8 < r.sz) with
        | true => simp [n64]
        | false => simp [h2]
theorem getD_take_len (l : List Int) : l.take l.length = l := List.take_length
theorem rl17_eq (B A : St) (r : Rw) (hA : AllB A.out) (hB : AllB B.out) : r17B B A r = rl17 B A r (stP r) := by
  have hT : ∀ n, AllB (A.out.take n) := fun n x hx => hA x (List.mem_of_mem_take hx)
  unfold r17B rl17 snB hpB
  rw [st_pl, be_comm B.out A.out, beB_iff _ _ hA hB, beB_iff _ _ (hT _) hB]
  unfold bsB bne
  generalize (bits .and .i64 r.mem 2 == 0) = m0
  generalize (n64 r.ad == 268435456) = m1
  generalize (r.sz == 1) = m2
  generalize (A.out.getD B.out.length 0 == n64 r.dat) = x
  by_cases h1 : A.out = B.out
  · rw [h1]
    have e1 : decide (B.out.length < B.out.length) = false := decide_eq_false (by omega)
    have e2 : ((B.out.length : Int) == (B.out.length : Int)) = true := by rw [beq_iff_eq]
    rw [e1, e2, List.take_length]
    cases m0 <;> cases m1 <;> cases m2 <;> cases x <;> simp
  · rw [decide_eq_false h1]
    by_cases h2 : A.out.length < B.out.length
    · have e3 : decide (B.out.length ≤ A.out.length) = false := decide_eq_false (by omega)
      rw [decide_eq_true h2, e3]
      simp
    · have e3 : decide (B.out.length ≤ A.out.length) = true := decide_eq_true (by omega)
      rw [decide_eq_false h2, e3]
      by_cases h3 : A.out.take B.out.length = B.out
      · have h4 : A.out.length ≠ B.out.length := by
          intro e
          apply h1
          rw [← e, List.take_length] at h3
          rw [h3]
        have e4 : ((A.out.length : Int) == (B.out.length : Int)) = false := by rw [beq_eq_false_iff_ne]; omega
        have e5 : ((A.out.length : Int) == (B.out.length : Int) + 1) = decide (A.out.length = B.out.length + 1) := by
          rw [Bool.eq_iff_iff, beq_iff_eq, decide_eq_true_eq]; omega
        rw [decide_eq_true h3, e4, e5]
        cases m0 <;> cases m1 <;> cases m2 <;> simp
      · rw [decide_eq_false h3]
        simp
theorem toNat_ad (k : Nat) (h : k ≤ 140737488351232) : (BitVec.ofNat 64 (2147483648 + k)).toNat = 2147483648 + k := by rw [BitVec.toNat_ofNat]; omega
theorem n64_nat (x : BitVec 64) : n64 x = (x.toNat : Int) := rfl
theorem sub_nat (x y : BitVec 64) (h : y.toNat ≤ x.toNat) : (x - y).toNat = x.toNat - y.toNat := by
  rw [BitVec.toNat_sub]; have := x.isLt; have := y.isLt; omega
theorem has_at (ad : BitVec 64) (z k : Nat) (hk : k ≤ 140737488351232) : hasB ⟨ad, z⟩ (BitVec.ofNat 64 (2147483648 + k)) = decide (ad.toNat ≤ 2147483648 + k ∧ 2147483648 + k - ad.toNat < z) := by
  unfold hasB
  rw [Bool.eq_iff_iff, Bool.and_eq_true, decide_eq_true_eq, decide_eq_true_eq, decide_eq_true_eq]
  show ((ad.toNat : Int) ≤ ((BitVec.ofNat 64 (2147483648 + k)).toNat : Int) ∧ ((BitVec.ofNat 64 (2147483648 + k) - ad).toNat : Int) < (z : Int)) ↔ _
  rw [toNat_ad k hk]
  constructor
  · rintro ⟨h1, h2⟩
    have h1' : ad.toNat ≤ 2147483648 + k := by omega
    rw [sub_nat _ _ (by rw [toNat_ad k hk]; exact h1'), toNat_ad k hk] at h2
    exact ⟨h1', by omega⟩
  · rintro ⟨h1, h2⟩
    refine ⟨by omega, ?_⟩
    rw [sub_nat _ _ (by rw [toNat_ad k hk]; exact h1), toNat_ad k hk]
    omega
theorem r6F_eq (B A : St) (r : Rw) (k : Nat) : r6F B A r k = if hasB (stP r) (BitVec.ofNat 64 (2147483648 + k)) then (!insB r B.ram.length || A.ram.getD k 0 == byI r.dat (BitVec.ofNat 64 (2147483648 + k) - r.ad).toNat) else A.ram.getD k 0 == B.ram.getD k 0 := by
  rw [st_has]
  unfold r6F bne
  generalize (bits .and .i64 r.mem 2 == 0) = m
  generalize inB r (BitVec.ofNat 64 (2147483648 + k)) = q
  cases m <;> cases q <;> simp
theorem all_range (n : Nat) (f : Nat → Bool) : (List.range n).all f = true ↔ ∀ k, k < n → f k = true := by
  rw [List.all_eq_true]
  exact ⟨fun h k hk => h k (List.mem_range.2 hk), fun h k hk => h k (List.mem_range.1 hk)⟩
theorem ins_iff (r : Rw) (z N : Nat) (hz : szV r = (z : Int)) (hN : N ≤ 140737488351232) : insB r N = decide (2147483648 ≤ r.ad.toNat ∧ r.ad.toNat + z ≤ 2147483648 + N) := by
  unfold insB
  rw [szV_wrap, hz, Bool.eq_iff_iff, Bool.and_eq_true, Bool.and_eq_true, decide_eq_true_eq, decide_eq_true_eq, decide_eq_true_eq, decide_eq_true_eq]
  show (((2147483648 : Int) ≤ (r.ad.toNat : Int) ∧ (r.ad.toNat : Int) ≤ ((BitVec.ofNat 64 (2147483648 + N)).toNat : Int)) ∧ (z : Int) ≤ ((BitVec.ofNat 64 (2147483648 + N) - r.ad).toNat : Int)) ↔ _
  rw [toNat_ad N hN]
  constructor
  · rintro ⟨⟨h1, h2⟩, h3⟩
    rw [sub_nat _ _ (by rw [toNat_ad N hN]; omega), toNat_ad N hN] at h3
    omega
  · rintro ⟨h1, h2⟩
    refine ⟨⟨by omega, by omega⟩, ?_⟩
    rw [sub_nat _ _ (by rw [toNat_ad N hN]; omega), toNat_ad N hN]
    omega
theorem hol_iff (ad : BitVec 64) (z : Nat) (A : List Int) (d : BitVec 64) (hA : A.length ≤ 140737488351232) : holB ⟨ad, z⟩ A d = true ↔ (2147483648 ≤ ad.toNat ∧ ad.toNat + z ≤ 2147483648 + A.length → ∀ j, j < z → A.getD (ad.toNat - 2147483648 + j) 0 = byI d j) := by
  have h31 : (2147483648#64).toNat = 2147483648 := by decide
  show (if (decide (n64 ad < 2147483648) || decide ((A.length : Int) < n64 (ad - 2147483648#64) + (z : Int))) = true then true else (List.range (z : Int).toNat).all fun k => A.getD ((ad - 2147483648#64).toNat + k) 0 == byI d k) = true ↔ _
  by_cases h : 2147483648 ≤ ad.toNat
  · have hs := sub_nat ad 2147483648#64 (by rw [h31]; exact h)
    rw [h31] at hs
    have g1 : n64 (ad - 2147483648#64) = ((ad.toNat - 2147483648 : Nat) : Int) := by rw [n64_nat, hs]
    rw [g1, hs]
    by_cases h2 : ad.toNat + z ≤ 2147483648 + A.length
    · have e1 : decide (n64 ad < 2147483648) = false := decide_eq_false (by rw [n64_nat]; omega)
      have e2 : decide ((A.length : Int) < ((ad.toNat - 2147483648 : Nat) : Int) + (z : Int)) = false := decide_eq_false (by omega)
      rw [e1, e2, Bool.or_false, if_neg (by decide), show ((z : Int)).toNat = z by omega, all_range]
      simp only [beq_iff_eq]
      exact ⟨fun h3 _ => h3, fun h3 => h3 ⟨h, h2⟩⟩
    · have e2 : decide ((A.length : Int) < ((ad.toNat - 2147483648 : Nat) : Int) + (z : Int)) = true := decide_eq_true (by omega)
      rw [e2, Bool.or_true, if_pos rfl]
      exact ⟨fun _ h3 => absurd h3.2 h2, fun _ => rfl⟩
  · have e1 : decide (n64 ad < 2147483648) = true := decide_eq_true (by rw [n64_nat]; omega)
    simp only [e1, Bool.true_or, if_true]
    exact ⟨fun _ h3 => absurd h3.1 h, fun _ => trivial⟩
theorem rl6_eq (B A : St) (r : Rw) (hl : A.ram.length = B.ram.length) (hN : B.ram.length ≤ 140737488351232) : r6B B A r = rl6 B A r (stP r) := by
  rw [Bool.eq_iff_iff]
  unfold rl6 r6B swB hsN
  rw [Bool.and_eq_true, all_range, all_range]
  cases hn : noB r with
  | true =>
    have hp : stP r = ⟨0#64, 0⟩ := by unfold stP; rw [hn]; rfl
    have hh : ∀ k, hasB (stP r) (BitVec.ofNat 64 (2147483648 + k)) = false := fun k => by
      rw [hp]; unfold hasB
      rw [Bool.and_eq_false_iff]
      right
      exact decide_eq_false (Int.not_lt.2 (n64_lo _))
    have hh2 : holB (stP r) A.ram r.dat = true := by
      rw [hp]; unfold holB
      rw [show decide (n64 (⟨0#64, 0⟩ : Pl).f < 2147483648) = true from by decide, Bool.true_or, if_pos rfl]
    constructor
    · intro h
      refine ⟨fun k hk => ?_, hh2⟩
      have q := h k hk
      rw [r6F_eq, hh k, if_neg (by decide)] at q
      rw [hh k, q]; rfl
    · rintro ⟨h, _⟩ k hk
      have q := h k hk
      rw [hh k] at q
      rw [r6F_eq, hh k, if_neg (by decide)]
      simpa using q
  | false =>
    have hp : stP r = ⟨r.ad, r.sz⟩ := by unfold stP; rw [hn]; rfl
    unfold noB at hn
    simp only [Bool.or_eq_false_iff, decide_eq_false_iff_not] at hn
    obtain ⟨⟨h0, h1⟩, h8⟩ := hn
    obtain ⟨z, hz⟩ : ∃ z : Nat, r.sz = (z : Int) := ⟨r.sz.toNat, by omega⟩
    have hsv : szV r = (z : Int) := by
      unfold szV
      rw [mem0 r h0, if_neg (by decide), if_neg (by simpa using h1), if_neg (by simpa using h8), hz]
    rw [hz] at hp
    have hA : A.ram.length ≤ 140737488351232 := by omega
    rw [hp]
    have hh : ∀ k, k < B.ram.length → hasB (⟨r.ad, z⟩ : Pl) (BitVec.ofNat 64 (2147483648 + k)) = decide (r.ad.toNat ≤ 2147483648 + k ∧ 2147483648 + k - r.ad.toNat < z) := fun k hk => has_at r.ad z k (by omega)
    have hby : ∀ k, k < B.ram.length → r.ad.toNat ≤ 2147483648 + k → (BitVec.ofNat 64 (2147483648 + k) - r.ad).toNat = 2147483648 + k - r.ad.toNat := fun k hk h => by
      rw [sub_nat _ _ (by rw [toNat_ad k (by omega)]; exact h), toNat_ad k (by omega)]
    rw [hol_iff _ _ _ _ hA, hl]
    have hi := ins_iff r z B.ram.length hsv hN
    constructor
    · intro h
      refine ⟨fun k hk => ?_, fun hin j hj => ?_⟩
      · have q := h k hk
        rw [r6F_eq, hp] at q
        cases hc : hasB (⟨r.ad, z⟩ : Pl) (BitVec.ofNat 64 (2147483648 + k)) with
        | true => simp
        | false => rw [hc, if_neg (by decide)] at q; rw [q]; rfl
      · have hk : r.ad.toNat - 2147483648 + j < B.ram.length := by omega
        have q := h _ hk
        rw [r6F_eq, hp, hh _ hk, decide_eq_true (by omega), if_pos rfl, hi, decide_eq_true hin, hby _ hk (by omega)] at q
        simp only [Bool.not_true, Bool.false_or, beq_iff_eq] at q
        rw [q]
        congr 1
        omega
    · rintro ⟨h, h2⟩ k hk
      rw [r6F_eq, hp]
      cases hc : hasB (⟨r.ad, z⟩ : Pl) (BitVec.ofNat 64 (2147483648 + k)) with
      | false =>
        rw [if_neg (by decide)]
        have q := h k hk
        rw [hc] at q
        simpa using q
      | true =>
        rw [if_pos rfl, hi]
        rw [hh k hk, decide_eq_true_eq] at hc
        by_cases hin : 2147483648 ≤ r.ad.toNat ∧ r.ad.toNat + z ≤ 2147483648 + B.ram.length
        · have q := h2 hin (2147483648 + k - r.ad.toNat) (by omega)
          rw [show r.ad.toNat - 2147483648 + (2147483648 + k - r.ad.toNat) = k by omega] at q
          rw [hby k hk hc.1, q]
          simp
        · rw [decide_eq_false hin]; rfl
theorem fN_congr (f g : Nat → Bool) : ∀ (n k : Nat), (∀ j, k ≤ j → j < k + n → f j = g j) → fN f n k = fN g n k
  | 0, _, _ => rfl
  | n + 1, k, h => by
    unfold fN
    rw [h k (Nat.le_refl _) (by omega), fN_congr f g n (k + 1) (fun j h1 h2 => h j (by omega) (by omega))]
theorem cases_1_19 {j : Nat} (h : 1 ≤ j) (h2 : j < 20) : j = 1 ∨ j = 2 ∨ j = 3 ∨ j = 4 ∨ j = 5 ∨ j = 6 ∨ j = 7 ∨ j = 8 ∨ j = 9 ∨ j = 10 ∨ j = 11 ∨ j = 12 ∨ j = 13 ∨ j = 14 ∨ j = 15 ∨ j = 16 ∨ j = 17 ∨ j = 18 ∨ j = 19 := by omega
/-- The reference's Step answers what the program's does. -/
theorem rsV_eq (b : Cp) (B : St) (a : Cp) (A : St) (tk ex so : Bool) (r : Rw) (a1 : AllB A.ram) (a2 : AllB A.inp) (a3 : AllB A.out) (b1 : AllB B.ram) (b2 : AllB B.inp) (b3 : AllB B.out) (hN : B.ram.length ≤ 140737488351232) (t0 : 0 ≤ B.time) (t1 : B.time ≤ 18446744073709551615) : rsV b B a A tk ex so r = stV b B a A tk ex so r := by
  have e0 : kL b B a A tk ex so r 0 = (eqC a (PR a) && !((A.ram.length : Int) != (B.ram.length : Int))) := by
    show rl1 B A (eqC (PR a) a) = _
    unfold rl1 bne
    rw [eqC_comm (PR a) a, Bool.not_not, Bool.and_comm]
  unfold rsV stV
  rw [show fN (kL b B a A tk ex so r) 20 0 = if kL b B a A tk ex so r 0 then fN (kL b B a A tk ex so r) 19 1 else 1 from rfl, e0]
  cases h : (eqC a (PR a) && !((A.ram.length : Int) != (B.ram.length : Int))) with
  | false => rfl
  | true =>
    rw [if_pos rfl, if_pos rfl]
    have hl : A.ram.length = B.ram.length := by
      simp only [Bool.and_eq_true, Bool.not_eq_true', bne_eq_false_iff_eq] at h
      omega
    apply fN_congr
    intro j h1 h2
    rcases cases_1_19 h1 (by omega) with rfl | rfl | rfl | rfl | rfl | rfl | rfl | rfl | rfl | rfl | rfl | rfl | rfl | rfl | rfl | rfl | rfl | rfl | rfl
    · exact rl2_eq _ _ _
    · exact rl3_eq _ _ _ _ _ a1 a2 a3 b1 b2 b3
    · rfl
    · rfl
    · exact rl6_eq _ _ _ hl hN
    · rfl
    · rfl
    · exact rl9_eq _ _ _
    · rfl
    · exact rl11_eq _ _ _ _
    · exact r12_eq _ _ _
    · exact r13_eq _ _ _
    · exact rl14_eq _ _ _ _ t0 t1
    · exact rl15_eq _ _ _
    · rfl
    · exact rl17_eq _ _ _ a3 b3
    · exact r18_eq _ _ _ (PR_md18 b) (PR_md18 a)
    · rfl
    · exact rl20_eq _ _
end Go.Proofs.YtidfndgedopghaaGreatDoor
