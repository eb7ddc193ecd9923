/-
  checkParts of the program.
-/
import Derived.Test.YtjjdpfmkbaaapaaDoorIsa
import Derived.WalkSmall
namespace Go.Proofs.YtjjdpfmkbaaapaaDoor
set_option linter.unusedVariables false
open Go.ChangeShapes Go.WideShapes Go.ChangeAt Go.RowKit Go.Deep
set_option maxHeartbeats 2000000 in
theorem parts_c (L : List Sg) (hb : Hid (∀ j, j < L.length → (sg L j).n ≤ 140737488355328)) (hlen : L.length ≤ 140737488355328) (v : Value) (w : World) (hv : Sgs w v L) :
    Calls Tryd.prog 21 #[v] w fun e w' => e = .returned (.int .i64 (ff (pf L) L.length 0)) ∧ Below w.heap.size w w' := by
  have HV : Hid (Sgs w v L) := hv
  obtain ⟨R, hR⟩ : ∃ R, R = ff (pf L) L.length 0 := ⟨_, rfl⟩
  rw [← hR]
  have HR : Hid (ff (pf L) (L.length - 0) 0 = R) := hR.symm
  clear hR
  obtain ⟨B, hB⟩ : ∃ B, B = w.heap.size := ⟨_, rfl⟩
  have HB0 : Hid (B = w.heap.size) := hB
  clear hB
  obtain ⟨ad, cap, rfl, hcap, hr⟩ := hv
  have HC : Hid (L ≠ [] → ∃ g off, ad = some ⟨g, off, none⟩ ∧ g < w.heap.size) := fun hne => by obtain ⟨g, off, h1, h2, _⟩ := hr hne; exact ⟨g, off, h1, h2⟩
  clear hr
  go_enter Tryd.func21, Tryd.ntmps21
  go_wp2
  go_loopw [7] (fun i wr => ∃ k : Nat, k ≤ L.length ∧ i = .int .i64 k ∧ Hid (ff (pf L) (L.length - k) k = R) ∧ Hid (Below B w wr)) (fun i _ => L.length - (intOf i).toNat)
  case atStart => exact ⟨0, Nat.zero_le _, rfl, HR, Below.refl _ _⟩
  case round =>
    obtain ⟨k, hk, rfl, hrel, hbel⟩ := hrel
    clear HR
    by_cases hlt : k < L.length
    · have hne : L ≠ [] := by intro e; have := congrArg List.length e; simp only [List.length_nil] at this; omega
      obtain ⟨g, off, rfl, _⟩ := HC.out hne
      have hvr := HV.out.later hbel.out HB0.out
      obtain ⟨_, _, he, _, hcc⟩ := hvr
      obtain ⟨g', off', hg', hglt, hcells⟩ := hcc hne
      cases he
      cases hg'
      obtain ⟨c0, c1, c2, c3⟩ := hcells k hlt
      have hn := hb.out k hlt
      obtain ⟨x, hx⟩ : ∃ x, x = sg L k := ⟨_, rfl⟩
      rw [← hx] at c0 c1 c2 c3 hn
      have HX : Hid (x = sg L k) := hx
      clear hx hcells
      have hlt2 : (k : Int) < (L.length : Int) := by omega
      have hBs : B ≤ wr.heap.size := Nat.le_trans (by rw [HB0.out]; exact Nat.le_refl _) hbel.out.size
      have HBs : Hid (B ≤ wr.heap.size) := hBs
      clear hBs hne
      have pn : ∀ h : pf L k ≠ 0, R = pf L k := fun h => by rw [← hrel.out, ff_hit hlt h]
      have PN : Hid (∀ h : pf L k ≠ 0, R = pf L k) := pn
      clear pn
      by_cases h1 : x.s = 0#64
      · have e1 : (n64 x.s == 0) = true := by rw [h1]; rfl
        have HP : Hid (R = 23) := by
          have hp : pf L k = 23 := by unfold pf; rw [← HX.out]; exact if_pos (Or.inl h1)
          have := PN.out (by rw [hp]; decide); rw [hp] at this; exact this
        clear h1 PN
        go_wp2_with fail
        go_ret
        have hB := HB0.out
        subst hB
        exact ⟨ret_int HP.out.symm, hbel.out.alloc HBs.out _⟩
      · have e1 : (n64 x.s == 0) = false := by
          rw [Bool.eq_false_iff]; intro h; exact h1 (n64_zero (by simpa using h))
        by_cases h2 : x.f < 0
        · have HP : Hid (R = 23) := by
            have hp : pf L k = 23 := by unfold pf; rw [← HX.out]; exact if_pos (Or.inr (Or.inl h2))
            have := PN.out (by rw [hp]; decide); rw [hp] at this; exact this
          clear h1 PN
          go_wp2_with fail
          go_ret
          have hB := HB0.out
          subst hB
          exact ⟨ret_int HP.out.symm, hbel.out.alloc HBs.out _⟩
        · have h2' : 0 ≤ x.f := by omega
          clear h2
          by_cases h3 : 7 < x.f
          · have HP : Hid (R = 23) := by
              have hp : pf L k = 23 := by unfold pf; rw [← HX.out]; exact if_pos (Or.inr (Or.inr (Or.inl h3)))
              have := PN.out (by rw [hp]; decide); rw [hp] at this; exact this
            clear h1 PN
            go_wp2_with fail
            go_ret
            have hB := HB0.out
            subst hB
            exact ⟨ret_int HP.out.symm, hbel.out.alloc HBs.out _⟩
          · have h3' : x.f ≤ 7 := by omega
            clear h3
            by_cases h4 : x.s.toNat < x.n
            · have h4' : n64 x.s < (x.n : Int) := by unfold n64; omega
              have HP : Hid (R = 23) := by
                have hp : pf L k = 23 := by unfold pf; rw [← HX.out]; exact if_pos (Or.inr (Or.inr (Or.inr (Or.inl h4))))
                have := PN.out (by rw [hp]; decide); rw [hp] at this; exact this
              clear h1 PN h4
              go_wp2_with fail
              go_ret
              have hB := HB0.out
              subst hB
              exact ⟨ret_int HP.out.symm, hbel.out.alloc HBs.out _⟩
            · have h4' : (x.n : Int) ≤ n64 x.s := by unfold n64; omega
              by_cases h5 : (lastB x).toNat < x.a.toNat
              · have cP := fun w' => passes_c x.a x.s w' true (by unfold Hid; exact (decide_eq_true h5).symm)
                have HP : Hid (R = 23) := by
                  have hp : pf L k = 23 := by unfold pf; rw [← HX.out]; exact if_pos (Or.inr (Or.inr (Or.inr (Or.inr h5))))
                  have := PN.out (by rw [hp]; decide); rw [hp] at this; exact this
                clear h1 PN h4 h5
                go_wp2_with (go_at_call 32; refine (cP _).mono ?_; rintro e w' ⟨rfl, rfl⟩)
                go_ret
                have hB := HB0.out
                subst hB
                exact ⟨ret_int HP.out.symm, hbel.out.alloc HBs.out _⟩
              · have cP := fun w' => passes_c x.a x.s w' false (by unfold Hid; exact (decide_eq_false h5).symm)
                have hno : ¬ (x.s = 0#64 ∨ x.f < 0 ∨ 7 < x.f ∨ x.s.toNat < x.n ∨ (lastB x).toNat < x.a.toNat) := by
                  rintro (h | h | h | h | h)
                  · exact h1 h
                  · omega
                  · omega
                  · exact h4 h
                  · exact h5 h
                have HNo : Hid (¬ (x.s = 0#64 ∨ x.f < 0 ∨ 7 < x.f ∨ x.s.toNat < x.n ∨ (lastB x).toNat < x.a.toNat)) := hno
                clear hno h1 h4 h5
                by_cases hk0 : k = 0
                · have hkz : ((k : Int)) = 0 := by omega
                  have HP0 : Hid (pf L k = 0) := by
                    unfold Hid pf; rw [← HX.out, if_neg HNo.out, if_neg (by rintro ⟨h, _⟩; omega)]
                  have hk0' : ¬ 0 < k := by omega
                  clear hk0 hkz
                  go_wp2_with (go_at_call 32; refine (cP _).mono ?_; rintro e w' ⟨rfl, rfl⟩)
                  go_quiet (fail)
                  have HG : Hid (ff (pf L) (L.length - (k + 1)) (k + 1) = R) := by unfold Hid; rw [← ff_go hlt HP0.out]; exact hrel.out
                  have HB2 : Hid (Below B w ((wr.alloc (.cells #[.int .u64 (n64 x.a), .int .u64 (n64 x.s), .int .i64 x.f, .slice x.m x.n x.c] 38)).drewN nq)) := below_drewN (hbel.out.alloc HBs.out _) _
                  generalize (wr.alloc (.cells #[.int .u64 (n64 x.a), .int .u64 (n64 x.s), .int .i64 x.f, .slice x.m x.n x.c] 38)).drewN nq = w3 at *
                  go_wp2
                  go_roundw
                  case rel => exact ⟨k + 1, by omega, by go_num, HG, HB2⟩
                  case measure => simp [intOf]; omega
                · obtain ⟨q, hq⟩ : ∃ q, k = q + 1 := ⟨k - 1, by omega⟩
                  have hkq : (k : Int) - 1 = (q : Int) := by omega
                  have hk0' : 0 < k := by omega
                  have hql : (q : Int) < (L.length : Int) := by omega
                  have HQ : Hid (k = q + 1) := hq
                  clear hk0 hq
                  obtain ⟨_, _, he, _, hcc⟩ := HV.out.later hbel.out HB0.out
                  obtain ⟨g', off', hg', _, hcells⟩ := hcc (by intro e; have := congrArg List.length e; simp only [List.length_nil] at this; omega)
                  cases he
                  cases hg'
                  obtain ⟨p0, p1, p2, p3⟩ := hcells q (by omega)
                  obtain ⟨x', hx'⟩ : ∃ x', x' = sg L q := ⟨_, rfl⟩
                  rw [← hx'] at p0 p1 p2 p3
                  have HX' : Hid (x' = sg L q) := hx'
                  clear hx' hcells hcc
                  have hgs : g < (wr.alloc (.cells #[.int .u64 (n64 x.a), .int .u64 (n64 x.s), .int .i64 x.f, .slice x.m x.n x.c] 38)).heap.size := by simp; omega
                  have hws : wr.heap.size < (wr.alloc (.cells #[.int .u64 (n64 x.a), .int .u64 (n64 x.s), .int .i64 x.f, .slice x.m x.n x.c] 38)).heap.size := by simp
                  have y0 : ∀ y : Later (wr.alloc (.cells #[.int .u64 (n64 x.a), .int .u64 (n64 x.s), .int .i64 x.f, .slice x.m x.n x.c] 38)), y.1.cell? ⟨g, off + q * 4, none⟩ = some (.int .u64 (n64 x'.a)) := fun y => by rw [later_cell y hgs, World.cell?_alloc_past _ _ _ (show g < _ by omega)]; exact p0
                  have y1 : ∀ y : Later (wr.alloc (.cells #[.int .u64 (n64 x.a), .int .u64 (n64 x.s), .int .i64 x.f, .slice x.m x.n x.c] 38)), y.1.cell? ⟨g, off + q * 4 + 1, none⟩ = some (.int .u64 (n64 x'.s)) := fun y => by rw [later_cell y hgs, World.cell?_alloc_past _ _ _ (show g < _ by omega)]; exact p1
                  have y2 : ∀ y : Later (wr.alloc (.cells #[.int .u64 (n64 x.a), .int .u64 (n64 x.s), .int .i64 x.f, .slice x.m x.n x.c] 38)), y.1.cell? ⟨g, off + q * 4 + 2, none⟩ = some (.int .i64 x'.f) := fun y => by rw [later_cell y hgs, World.cell?_alloc_past _ _ _ (show g < _ by omega)]; exact p2
                  have y3 : ∀ y : Later (wr.alloc (.cells #[.int .u64 (n64 x.a), .int .u64 (n64 x.s), .int .i64 x.f, .slice x.m x.n x.c] 38)), y.1.cell? ⟨g, off + q * 4 + 3, none⟩ = some (.slice x'.m x'.n x'.c) := fun y => by rw [later_cell y hgs, World.cell?_alloc_past _ _ _ (show g < _ by omega)]; exact p3
                  have y4 : ∀ y : Later (wr.alloc (.cells #[.int .u64 (n64 x.a), .int .u64 (n64 x.s), .int .i64 x.f, .slice x.m x.n x.c] 38)), y.1.cell? ⟨wr.heap.size, 0, none⟩ = some (.int .u64 (n64 x.a)) := fun y => by rw [later_cell y hws]; simp
                  have hne := later_nonempty (wr.alloc (.cells #[.int .u64 (n64 x.a), .int .u64 (n64 x.s), .int .i64 x.f, .slice x.m x.n x.c] 38))
                  clear p0 p1 p2 p3 hgs hws
                  have HBA : Hid (Below B w (wr.alloc (.cells #[.int .u64 (n64 x.a), .int .u64 (n64 x.s), .int .i64 x.f, .slice x.m x.n x.c] 38))) := hbel.out.alloc HBs.out _
                  by_cases h7 : x.a.toNat ≤ (lastB x').toNat
                  · have h7' : n64 x.a ≤ n64 (x'.a + (x'.s - 1#64)) := by have e : (lastB x').toNat = (x'.a + (x'.s - 1#64)).toNat := rfl; unfold n64; omega
                    have HP : Hid (R = 24) := by
                      have hp : pf L k = 24 := by unfold pf; rw [← HX.out, if_neg HNo.out, if_pos ⟨by omega, by rw [show k - 1 = q by have := HQ.out; omega, ← HX'.out]; exact h7⟩]
                      have := PN.out (by rw [hp]; decide); rw [hp] at this; exact this
                    clear h7 PN
                    go_wp2_with (go_at_call 32; refine (cP _).mono ?_; rintro e w' ⟨rfl, rfl⟩)
                    refine wp_region_later (x0 := Later.start _) (by kernel_rfl) (by kernel_rfl) ?_
                    repeat (go_big_quiet_step ((go_at_call 33; exact calls_later (last_c _ _ _ _ rfl _))))
                    refine wpQuiet_nil ?_
                    rintro _ ⟨yq, rfl⟩
                    have HB2 : Hid (Below B w yq.1) := HBA.out.trans (yq.2.mono (Nat.le_trans HBs.out (by simp)))
                    generalize yq.1 = w3 at *
                    go_wp2
                    go_ret
                    have hB := HB0.out
                    subst hB
                    exact ⟨ret_int HP.out.symm, HB2.out⟩
                  · have h7' : n64 (x'.a + (x'.s - 1#64)) < n64 x.a := by have e : (lastB x').toNat = (x'.a + (x'.s - 1#64)).toNat := rfl; unfold n64; omega
                    have HP0 : Hid (pf L k = 0) := by
                      unfold Hid pf; rw [← HX.out, if_neg HNo.out, if_neg (by rintro ⟨_, h⟩; rw [show k - 1 = q by have := HQ.out; omega, ← HX'.out] at h; exact h7 h)]
                    clear h7 PN
                    go_wp2_with (go_at_call 32; refine (cP _).mono ?_; rintro e w' ⟨rfl, rfl⟩)
                    refine wp_region_later (x0 := Later.start _) (by kernel_rfl) (by kernel_rfl) ?_
                    repeat (go_big_quiet_step ((go_at_call 33; exact calls_later (last_c _ _ _ _ rfl _))))
                    refine wpQuiet_nil ?_
                    rintro _ ⟨yq, rfl⟩
                    have HB2 : Hid (Below B w yq.1) := HBA.out.trans (yq.2.mono (Nat.le_trans HBs.out (by simp)))
                    have HG : Hid (ff (pf L) (L.length - (k + 1)) (k + 1) = R) := by unfold Hid; rw [← ff_go hlt HP0.out]; exact hrel.out
                    generalize yq.1 = w3 at *
                    go_wp2
                    go_roundw
                    case rel => exact ⟨k + 1, by omega, by go_num, HG, HB2⟩
                    case measure => simp [intOf]; omega
    · have hkl : k = L.length := by omega
      have HR0 : Hid (R = 0) := by unfold Hid; rw [← hrel.out]; exact ff_end _ _ _ (by omega)
      have hle : (L.length : Int) ≤ (k : Int) := by omega
      clear hkl
      go_wp2
      go_ret
      have hB := HB0.out
      subst hB
      exact ⟨ret_int HR0.out.symm, hbel.out⟩
end Go.Proofs.YtjjdpfmkbaaapaaDoor
