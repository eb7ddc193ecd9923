/-
  checkNames of the program.
-/
import Derived.Test.YtjjdpfmkbaaapaaDoorIpb
import Derived.Test.YtjjdpfmkbaaapaaDoorInc
import Derived.Test.YtjjdpfmkbaaapaaDoorIne
namespace Go.Proofs.YtjjdpfmkbaaapaaDoor
set_option linter.unusedVariables false
open Go.ChangeShapes Go.WideShapes Go.ChangeAt Go.RowKit Go.Deep
/-- A name's own fault. -/
def nf (N : List Sy) (i : Nat) : Int :=
  if nm (sy N i).s = false then 5 else if 0 < i ∧ ahead (sy N (i - 1)).s (sy N (i - 1)).v (sy N i).s (sy N i).v = false then 25 else 0
set_option maxHeartbeats 4000000 in
theorem names_c (N : List Sy) (hb : Hid (∀ j, j < N.length → (sy N j).s.size ≤ 140737488355328)) (hlen : N.length ≤ 140737488355328) (v : Value) (w : World) (hv : Sys w v N) (hT : Hid (Tabs w)) :
    Calls Tryd.prog 22 #[v] w fun e w' => e = .returned (.int .i64 (ff (nf N) N.length 0)) ∧ Below w.heap.size w w' := by
  have HV : Hid (Sys w v N) := hv
  obtain ⟨R, hR⟩ : ∃ R, R = ff (nf N) N.length 0 := ⟨_, rfl⟩
  rw [← hR]
  have HR : Hid (ff (nf N) (N.length - 0) 0 = R) := hR.symm
  clear hR
  obtain ⟨B, hB⟩ : ∃ B, B = w.heap.size := ⟨_, rfl⟩
  have HB0 : Hid (B = w.heap.size) := hB
  clear hB
  obtain ⟨ad, cap, rfl, hcap, hr⟩ := hv
  have HC : Hid (N ≠ [] → ∃ g off, ad = some ⟨g, off, none⟩ ∧ g < w.heap.size) := fun hne => by obtain ⟨g, off, h1, h2, _⟩ := hr hne; exact ⟨g, off, h1, h2⟩
  clear hr
  go_enter Tryd.func22, Tryd.ntmps22
  go_wp2
  go_loopw [7] (fun i wr => ∃ k : Nat, k ≤ N.length ∧ i = .int .i64 k ∧ Hid (ff (nf N) (N.length - k) k = R) ∧ Hid (Below B w wr)) (fun i _ => N.length - (intOf i).toNat)
  case atStart => exact ⟨0, Nat.zero_le _, rfl, HR, Below.refl _ _⟩
  case round =>
    obtain ⟨k, hk, rfl, hrel, hbel⟩ := hrel
    clear HR
    by_cases hlt : k < N.length
    · have hne : N ≠ [] := by intro e; have := congrArg List.length e; simp only [List.length_nil] at this; omega
      obtain ⟨g, off, rfl, _⟩ := HC.out hne
      obtain ⟨_, _, he, _, hcc⟩ := HV.out.later hbel.out HB0.out
      obtain ⟨g', off', hg', hglt, hcells⟩ := hcc hne
      cases he
      cases hg'
      obtain ⟨c0, c1⟩ := hcells k hlt
      have hn := hb.out k hlt
      obtain ⟨x, hx⟩ : ∃ x, x = sy N k := ⟨_, rfl⟩
      rw [← hx] at c0 c1 hn
      have HX : Hid (x = sy N k) := hx
      have hlt2 : (k : Int) < (N.length : Int) := by omega
      have HBs : Hid (B ≤ wr.heap.size) := Nat.le_trans (by rw [HB0.out]; exact Nat.le_refl _) hbel.out.size
      have PN : Hid (∀ h : nf N k ≠ 0, R = nf N k) := fun h => by rw [← hrel.out, ff_hit hlt h]
      have HBA : Hid (Below B w (wr.alloc (.cells #[.string x.s, .int .u64 (n64 x.v)] 60))) := hbel.out.alloc HBs.out _
      have HTA : Hid (Tabs (wr.alloc (.cells #[.string x.s, .int .u64 (n64 x.v)] 60))) := hT.out.below HBA.out HB0.out
      have cN := isName_c x.s hn (wr.alloc (.cells #[.string x.s, .int .u64 (n64 x.v)] 60)) HTA
      have z0 : (wr.alloc (.cells #[.string x.s, .int .u64 (n64 x.v)] 60)).cell? ⟨wr.heap.size, 0, none⟩ = some (.string x.s) := by simp
      have z1 : (wr.alloc (.cells #[.string x.s, .int .u64 (n64 x.v)] 60)).cell? ⟨wr.heap.size, 1, none⟩ = some (.int .u64 (n64 x.v)) := by simp
      have HZ0 : Hid ((wr.alloc (.cells #[.string x.s, .int .u64 (n64 x.v)] 60)).cell? ⟨wr.heap.size, 0, none⟩ = some (.string x.s)) := z0
      have HZ1 : Hid ((wr.alloc (.cells #[.string x.s, .int .u64 (n64 x.v)] 60)).cell? ⟨wr.heap.size, 1, none⟩ = some (.int .u64 (n64 x.v))) := z1
      have HWs : Hid (wr.heap.size < (wr.alloc (.cells #[.string x.s, .int .u64 (n64 x.v)] 60)).heap.size) := by unfold Hid; simp
      have HAs : Hid (B ≤ (wr.alloc (.cells #[.string x.s, .int .u64 (n64 x.v)] 60)).heap.size) := Nat.le_trans HBs.out (by simp)
      clear hx hcells hcc hne z0 z1
      cases hnm : nm x.s with
      | false =>
        rw [hnm] at cN
        have HP : Hid (R = 5) := by
          have hp : nf N k = 5 := by unfold nf; rw [← HX.out, hnm]; rfl
          have := PN.out (by rw [hp]; decide); rw [hp] at this; exact this
        clear hnm PN
        go_wp2_with (go_at_call 34; refine cN.mono ?_; rintro e w2 ⟨rfl, hb2⟩)
        go_ret
        have hB := HB0.out
        subst hB
        exact ⟨ret_int HP.out.symm, HBA.out.trans (hb2.mono HAs.out)⟩
      | true =>
        rw [hnm] at cN
        have HNM : Hid (nm x.s = true) := hnm
        clear hnm
        by_cases hk0 : k = 0
        · have HP0 : Hid (nf N k = 0) := by
            unfold Hid nf; rw [← HX.out, HNM.out, if_neg (by decide), if_neg (by rintro ⟨h, _⟩; omega)]
          have hk0' : ¬ 0 < k := by omega
          clear hk0
          go_wp2_with (go_at_call 34; refine cN.mono ?_; rintro e w2 ⟨rfl, hb2⟩)
          have HB2 : Hid (Below B w w2) := HBA.out.trans (hb2.mono HAs.out)
          clear hb2
          go_quiet (fail)
          have HG : Hid (ff (nf N) (N.length - (k + 1)) (k + 1) = R) := by unfold Hid; rw [← ff_go hlt HP0.out]; exact hrel.out
          have HB3 : Hid (Below B w (w2.drewN nq)) := HB2.out.trans ⟨rfl, rfl, rfl, Nat.le_refl _, fun _ _ => rfl⟩
          generalize w2.drewN nq = w3 at *
          go_wp2
          go_roundw
          case rel => exact ⟨k + 1, by omega, by go_num, HG, HB3⟩
          case measure => simp [intOf]; omega
        · obtain ⟨q, hq⟩ : ∃ q, k = q + 1 := ⟨k - 1, by omega⟩
          have hkq : (k : Int) - 1 = (q : Int) := by omega
          have hk0' : 0 < k := by omega
          have hql : (q : Int) < (N.length : Int) := by omega
          have HQ : Hid (k = q + 1) := hq
          clear hk0 hq
          go_wp2_with (go_at_call 34; refine cN.mono ?_; rintro e w2 ⟨rfl, hb2⟩)
          have HB2 : Hid (Below B w w2) := HBA.out.trans (hb2.mono HAs.out)
          obtain ⟨_, _, he, _, hcc⟩ := HV.out.later HB2.out HB0.out
          obtain ⟨g', off', hg', hg2, hcells⟩ := hcc (by intro e; have := congrArg List.length e; simp only [List.length_nil] at this; omega)
          cases he
          cases hg'
          obtain ⟨p0, p1⟩ := hcells q (by omega)
          obtain ⟨x', hx'⟩ : ∃ x', x' = sy N q := ⟨_, rfl⟩
          rw [← hx'] at p0 p1
          have HX' : Hid (x' = sy N q) := hx'
          clear hx' hcells hcc
          have z0 : w2.cell? ⟨wr.heap.size, 0, none⟩ = some (.string x.s) := by rw [hb2.cell (by exact HWs.out)]; exact HZ0.out
          have z1 : w2.cell? ⟨wr.heap.size, 1, none⟩ = some (.int .u64 (n64 x.v)) := by rw [hb2.cell (by exact HWs.out)]; exact HZ1.out
          have hw2 : wr.heap.size < w2.heap.size := Nat.lt_of_lt_of_le HWs.out hb2.size
          clear hb2
          have y0 : ∀ y : Later w2, y.1.cell? ⟨g, off + q * 2, none⟩ = some (.string x'.s) := fun y => by rw [later_cell y hg2]; exact p0
          have y1 : ∀ y : Later w2, y.1.cell? ⟨g, off + q * 2 + 1, none⟩ = some (.int .u64 (n64 x'.v)) := fun y => by rw [later_cell y hg2]; exact p1
          have y2 : ∀ y : Later w2, y.1.cell? ⟨wr.heap.size, 0, none⟩ = some (.string x.s) := fun y => by rw [later_cell y hw2]; exact z0
          have y3 : ∀ y : Later w2, y.1.cell? ⟨wr.heap.size, 1, none⟩ = some (.int .u64 (n64 x.v)) := fun y => by rw [later_cell y hw2]; exact z1
          have hne := later_nonempty w2
          clear p0 p1 z0 z1 hw2 hg2
          have hca := cz_ahead x'.s x.s x'.v x.v
          obtain ⟨C, hC⟩ : ∃ C, C = cz x'.s x.s x'.v x.v := ⟨_, rfl⟩
          rw [← hC] at hca
          have cC : Hid (∀ w', Calls Tryd.prog 35 #[.agg #[.string x'.s, .int .u64 (n64 x'.v)], .agg #[.string x.s, .int .u64 (n64 x.v)]] w' fun e w'' => e = .returned (.int .i64 C) ∧ Below w'.heap.size w' w'') := fun w' => by rw [hC]; exact compare_z _ _ _ _ w'
          clear hC
          have HBs2 : Hid (B ≤ w2.heap.size) := by unfold Hid; rw [HB0.out]; exact HB2.out.size
          cases hah : ahead x'.s x'.v x.s x.v with
          | false =>
            rw [hah] at hca
            have h0C : 0 ≤ C := of_decide_eq_true hca
            have HP : Hid (R = 25) := by
              have hp : nf N k = 25 := by unfold nf; rw [← HX.out, HNM.out, if_neg (by decide), if_pos ⟨by omega, by rw [show k - 1 = q by have := HQ.out; omega, ← HX'.out]; exact hah⟩]
              have := PN.out (by rw [hp]; decide); rw [hp] at this; exact this
            clear hah hca PN
            refine wp_region_later (x0 := Later.start _) (by kernel_rfl) (by kernel_rfl) ?_
            repeat (go_big_quiet_step ((go_at_call 35; exact calls_later (cC.out _))))
            refine wpQuiet_nil ?_
            rintro _ ⟨yq, rfl⟩
            have HB3 : Hid (Below B w yq.1) := HB2.out.trans (yq.2.mono HBs2.out)
            clear y0 y1 y2 y3 hne
            generalize yq.1 = w3 at *
            go_wp2
            go_ret
            have hB := HB0.out
            subst hB
            exact ⟨ret_int HP.out.symm, HB3.out⟩
          | true =>
            rw [hah] at hca
            have h0C : C < 0 := by have := of_decide_eq_false hca; omega
            have HP0 : Hid (nf N k = 0) := by
              unfold Hid nf; rw [← HX.out, HNM.out, if_neg (by decide), if_neg (by rintro ⟨_, h⟩; rw [show k - 1 = q by have := HQ.out; omega, ← HX'.out, hah] at h; cases h)]
            clear hah hca PN
            refine wp_region_later (x0 := Later.start _) (by kernel_rfl) (by kernel_rfl) ?_
            repeat (go_big_quiet_step ((go_at_call 35; exact calls_later (cC.out _))))
            refine wpQuiet_nil ?_
            rintro _ ⟨yq, rfl⟩
            have HB3 : Hid (Below B w yq.1) := HB2.out.trans (yq.2.mono HBs2.out)
            have HG : Hid (ff (nf N) (N.length - (k + 1)) (k + 1) = R) := by unfold Hid; rw [← ff_go hlt HP0.out]; exact hrel.out
            clear y0 y1 y2 y3 hne
            generalize yq.1 = w3 at *
            go_wp2
            go_roundw
            case rel => exact ⟨k + 1, by omega, by go_num, HG, HB3⟩
            case measure => simp [intOf]; omega
    · have hkl : k = N.length := by omega
      have HR0 : Hid (R = 0) := by unfold Hid; rw [← hrel.out]; exact ff_end _ _ _ (by omega)
      have hle : (N.length : Int) ≤ (k : Int) := by omega
      clear hkl
      go_wp2
      go_ret
      have hB := HB0.out
      subst hB
      exact ⟨ret_int HR0.out.symm, hbel.out⟩
end Go.Proofs.YtjjdpfmkbaaapaaDoor
