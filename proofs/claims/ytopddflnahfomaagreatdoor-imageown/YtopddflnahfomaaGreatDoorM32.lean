/-
  Isb Isc Ick Icr Iwe.
-/
import Derived.Test.YtopddflnahfomaaGreatDoorM25
import Derived.Test.YtopddflnahfomaaGreatDoorM02
import Derived.WalkSmall
import Derived.Test.YtopddflnahfomaaGreatDoorM29
import Derived.Test.YtopddflnahfomaaGreatDoorM31
import Derived.Test.YtopddflnahfomaaGreatDoorM22
import Derived.Test.YtopddflnahfomaaGreatDoorM26
namespace Go.Proofs.YtopddflnahfomaaGreatDoor
set_option linter.unusedVariables false
open Go.ChangeShapes Go.WideShapes Go.ChangeAt Go.RowKit Go.Deep
set_option maxHeartbeats 2000000 in
theorem cparts_c (L : List Sg) (hb : Hid (∀ j, j < L.length → (sg L j).n ≤ 140737488355328)) (hlen : L.length ≤ 140737488355328) (v : Value) (w : World) (hv : Sgs w v L) :
    Calls Tryz.prog 19 #[v] w fun e w' => e = .returned (.int .i64 (ff (pf L) L.length 0)) ∧ Below w.heap.size w w' := by
  have HV : Hid (Sgs w v L) := hv
  obtain ⟨R, hR⟩ : ∃ R, R = ff (pf L) L.length 0 := ⟨_, rfl⟩
  rw [← hR]
  have HR : Hid (ff (pf L) (L.length - 0) 0 = R) := hR.symm
  clear hR
  obtain ⟨B, hB⟩ : ∃ B, B = w.heap.size := ⟨_, rfl⟩
  have HB0 : Hid (B = w.heap.size) := hB
  clear hB
  obtain ⟨ad, cap, rfl, hcap, hr⟩ := hv
  have HC : Hid (L ≠ [] → ∃ g off, ad = some ⟨g, off, none⟩ ∧ g < w.heap.size) := fun hne => by obtain ⟨g, off, h1, h2, _⟩ := hr hne; exact ⟨g, off, h1, h2⟩
  clear hr
  go_enter Tryz.func19, Tryz.ntmps19
  go_wp2
  go_loopw [7] (fun i wr => ∃ k : Nat, k ≤ L.length ∧ i = .int .i64 k ∧ Hid (ff (pf L) (L.length - k) k = R) ∧ Hid (Below B w wr)) (fun i _ => L.length - (intOf i).toNat)
  case atStart => exact ⟨0, Nat.zero_le _, rfl, HR, Below.refl _ _⟩
  case round =>
    obtain ⟨k, hk, rfl, hrel, hbel⟩ := hrel
    clear HR
    by_cases hlt : k < L.length
    · have hne : L ≠ [] := by intro e; have := congrArg List.length e; simp only [List.length_nil] at this; omega
      obtain ⟨g, off, rfl, _⟩ := HC.out hne
      have hvr := HV.out.later hbel.out HB0.out
      obtain ⟨_, _, he, _, hcc⟩ := hvr
      obtain ⟨g', off', hg', hglt, hcells⟩ := hcc hne
      cases he
      cases hg'
      obtain ⟨c0, c1, c2, c3⟩ := hcells k hlt
      have hn := hb.out k hlt
      obtain ⟨x, hx⟩ : ∃ x, x = sg L k := ⟨_, rfl⟩
      rw [← hx] at c0 c1 c2 c3 hn
      have HX : Hid (x = sg L k) := hx
      clear hx hcells
      have hlt2 : (k : Int) < (L.length : Int) := by omega
      have hBs : B ≤ wr.heap.size := Nat.le_trans (by rw [HB0.out]; exact Nat.le_refl _) hbel.out.size
      have HBs : Hid (B ≤ wr.heap.size) := hBs
      clear hBs hne
      have pn : ∀ h : pf L k ≠ 0, R = pf L k := fun h => by rw [← hrel.out, ff_hit hlt h]
      have PN : Hid (∀ h : pf L k ≠ 0, R = pf L k) := pn
      clear pn
      by_cases h1 : x.s = 0#64
      · have e1 : (n64 x.s == 0) = true := by rw [h1]; rfl
        have HP : Hid (R = 23) := by
          have hp : pf L k = 23 := by unfold pf; rw [← HX.out]; exact if_pos (Or.inl h1)
          have := PN.out (by rw [hp]; decide); rw [hp] at this; exact this
        clear h1 PN
        go_wp2_with fail
        go_ret
        have hB := HB0.out
        subst hB
        exact ⟨ret_int HP.out.symm, hbel.out.alloc HBs.out _⟩
      · have e1 : (n64 x.s == 0) = false := by
          rw [Bool.eq_false_iff]; intro h; exact h1 (n64_zero (by simpa using h))
        by_cases h2 : x.f < 0
        · have HP : Hid (R = 23) := by
            have hp : pf L k = 23 := by unfold pf; rw [← HX.out]; exact if_pos (Or.inr (Or.inl h2))
            have := PN.out (by rw [hp]; decide); rw [hp] at this; exact this
          clear h1 PN
          go_wp2_with fail
          go_ret
          have hB := HB0.out
          subst hB
          exact ⟨ret_int HP.out.symm, hbel.out.alloc HBs.out _⟩
        · have h2' : 0 ≤ x.f := by omega
          clear h2
          by_cases h3 : 7 < x.f
          · have HP : Hid (R = 23) := by
              have hp : pf L k = 23 := by unfold pf; rw [← HX.out]; exact if_pos (Or.inr (Or.inr (Or.inl h3)))
              have := PN.out (by rw [hp]; decide); rw [hp] at this; exact this
            clear h1 PN
            go_wp2_with fail
            go_ret
            have hB := HB0.out
            subst hB
            exact ⟨ret_int HP.out.symm, hbel.out.alloc HBs.out _⟩
          · have h3' : x.f ≤ 7 := by omega
            clear h3
            by_cases h4 : x.s.toNat < x.n
            · have h4' : n64 x.s < (x.n : Int) := by unfold n64; omega
              have HP : Hid (R = 23) := by
                have hp : pf L k = 23 := by unfold pf; rw [← HX.out]; exact if_pos (Or.inr (Or.inr (Or.inr (Or.inl h4))))
                have := PN.out (by rw [hp]; decide); rw [hp] at this; exact this
              clear h1 PN h4
              go_wp2_with fail
              go_ret
              have hB := HB0.out
              subst hB
              exact ⟨ret_int HP.out.symm, hbel.out.alloc HBs.out _⟩
            · have h4' : (x.n : Int) ≤ n64 x.s := by unfold n64; omega
              by_cases h5 : (lastB x).toNat < x.a.toNat
              · have cP := fun w' => passes_c x.a x.s w' true (by unfold Hid; exact (decide_eq_true h5).symm)
                have HP : Hid (R = 23) := by
                  have hp : pf L k = 23 := by unfold pf; rw [← HX.out]; exact if_pos (Or.inr (Or.inr (Or.inr (Or.inr h5))))
                  have := PN.out (by rw [hp]; decide); rw [hp] at this; exact this
                clear h1 PN h4 h5
                go_wp2_with (go_at_call 34; refine (cP _).mono ?_; rintro e w' ⟨rfl, rfl⟩)
                go_ret
                have hB := HB0.out
                subst hB
                exact ⟨ret_int HP.out.symm, hbel.out.alloc HBs.out _⟩
              · have cP := fun w' => passes_c x.a x.s w' false (by unfold Hid; exact (decide_eq_false h5).symm)
                have hno : ¬ (x.s = 0#64 ∨ x.f < 0 ∨ 7 < x.f ∨ x.s.toNat < x.n ∨ (lastB x).toNat < x.a.toNat) := by
                  rintro (h | h | h | h | h)
                  · exact h1 h
                  · omega
                  · omega
                  · exact h4 h
                  · exact h5 h
                have HNo : Hid (¬ (x.s = 0#64 ∨ x.f < 0 ∨ 7 < x.f ∨ x.s.toNat < x.n ∨ (lastB x).toNat < x.a.toNat)) := hno
                clear hno h1 h4 h5
                by_cases hk0 : k = 0
                · have hkz : ((k : Int)) = 0 := by omega
                  have HP0 : Hid (pf L k = 0) := by
                    unfold Hid pf; rw [← HX.out, if_neg HNo.out, if_neg (by rintro ⟨h, _⟩; omega)]
                  have hk0' : ¬ 0 < k := by omega
                  clear hk0 hkz
                  go_wp2_with (go_at_call 34; refine (cP _).mono ?_; rintro e w' ⟨rfl, rfl⟩)
                  go_quiet (fail)
                  have HG : Hid (ff (pf L) (L.length - (k + 1)) (k + 1) = R) := by unfold Hid; rw [← ff_go hlt HP0.out]; exact hrel.out
                  have HB2 : Hid (Below B w ((wr.alloc (.cells #[.int .u64 (n64 x.a), .int .u64 (n64 x.s), .int .i64 x.f, .slice x.m x.n x.c] 42)).drewN nq)) := below_drewN (hbel.out.alloc HBs.out _) _
                  generalize (wr.alloc (.cells #[.int .u64 (n64 x.a), .int .u64 (n64 x.s), .int .i64 x.f, .slice x.m x.n x.c] 42)).drewN nq = w3 at *
                  go_wp2
                  go_roundw
                  case rel => exact ⟨k + 1, by omega, by go_num, HG, HB2⟩
                  case measure => simp [intOf]; omega
                · obtain ⟨q, hq⟩ : ∃ q, k = q + 1 := ⟨k - 1, by omega⟩
                  have hkq : (k : Int) - 1 = (q : Int) := by omega
                  have hk0' : 0 < k := by omega
                  have hql : (q : Int) < (L.length : Int) := by omega
                  have HQ : Hid (k = q + 1) := hq
                  clear hk0 hq
                  obtain ⟨_, _, he, _, hcc⟩ := HV.out.later hbel.out HB0.out
                  obtain ⟨g', off', hg', _, hcells⟩ := hcc (by intro e; have := congrArg List.length e; simp only [List.length_nil] at this; omega)
                  cases he
                  cases hg'
                  obtain ⟨p0, p1, p2, p3⟩ := hcells q (by omega)
                  obtain ⟨x', hx'⟩ : ∃ x', x' = sg L q := ⟨_, rfl⟩
                  rw [← hx'] at p0 p1 p2 p3
                  have HX' : Hid (x' = sg L q) := hx'
                  clear hx' hcells hcc
                  have hgs : g < (wr.alloc (.cells #[.int .u64 (n64 x.a), .int .u64 (n64 x.s), .int .i64 x.f, .slice x.m x.n x.c] 42)).heap.size := by simp; omega
                  have hws : wr.heap.size < (wr.alloc (.cells #[.int .u64 (n64 x.a), .int .u64 (n64 x.s), .int .i64 x.f, .slice x.m x.n x.c] 42)).heap.size := by simp
                  have y0 : ∀ y : Later (wr.alloc (.cells #[.int .u64 (n64 x.a), .int .u64 (n64 x.s), .int .i64 x.f, .slice x.m x.n x.c] 42)), y.1.cell? ⟨g, off + q * 4, none⟩ = some (.int .u64 (n64 x'.a)) := fun y => by rw [later_cell y hgs, World.cell?_alloc_past _ _ _ (show g < _ by omega)]; exact p0
                  have y1 : ∀ y : Later (wr.alloc (.cells #[.int .u64 (n64 x.a), .int .u64 (n64 x.s), .int .i64 x.f, .slice x.m x.n x.c] 42)), y.1.cell? ⟨g, off + q * 4 + 1, none⟩ = some (.int .u64 (n64 x'.s)) := fun y => by rw [later_cell y hgs, World.cell?_alloc_past _ _ _ (show g < _ by omega)]; exact p1
                  have y2 : ∀ y : Later (wr.alloc (.cells #[.int .u64 (n64 x.a), .int .u64 (n64 x.s), .int .i64 x.f, .slice x.m x.n x.c] 42)), y.1.cell? ⟨g, off + q * 4 + 2, none⟩ = some (.int .i64 x'.f) := fun y => by rw [later_cell y hgs, World.cell?_alloc_past _ _ _ (show g < _ by omega)]; exact p2
                  have y3 : ∀ y : Later (wr.alloc (.cells #[.int .u64 (n64 x.a), .int .u64 (n64 x.s), .int .i64 x.f, .slice x.m x.n x.c] 42)), y.1.cell? ⟨g, off + q * 4 + 3, none⟩ = some (.slice x'.m x'.n x'.c) := fun y => by rw [later_cell y hgs, World.cell?_alloc_past _ _ _ (show g < _ by omega)]; exact p3
                  have y4 : ∀ y : Later (wr.alloc (.cells #[.int .u64 (n64 x.a), .int .u64 (n64 x.s), .int .i64 x.f, .slice x.m x.n x.c] 42)), y.1.cell? ⟨wr.heap.size, 0, none⟩ = some (.int .u64 (n64 x.a)) := fun y => by rw [later_cell y hws]; simp
                  have hne := later_nonempty (wr.alloc (.cells #[.int .u64 (n64 x.a), .int .u64 (n64 x.s), .int .i64 x.f, .slice x.m x.n x.c] 42))
                  clear p0 p1 p2 p3 hgs hws
                  have HBA : Hid (Below B w (wr.alloc (.cells #[.int .u64 (n64 x.a), .int .u64 (n64 x.s), .int .i64 x.f, .slice x.m x.n x.c] 42))) := hbel.out.alloc HBs.out _
                  by_cases h7 : x.a.toNat ≤ (lastB x').toNat
                  · have h7' : n64 x.a ≤ n64 (x'.a + (x'.s - 1#64)) := by have e : (lastB x').toNat = (x'.a + (x'.s - 1#64)).toNat := rfl; unfold n64; omega
                    have HP : Hid (R = 24) := by
                      have hp : pf L k = 24 := by unfold pf; rw [← HX.out, if_neg HNo.out, if_pos ⟨by omega, by rw [show k - 1 = q by have := HQ.out; omega, ← HX'.out]; exact h7⟩]
                      have := PN.out (by rw [hp]; decide); rw [hp] at this; exact this
                    clear h7 PN
                    go_wp2_with (go_at_call 34; refine (cP _).mono ?_; rintro e w' ⟨rfl, rfl⟩)
                    refine wp_region_later (x0 := Later.start _) (by kernel_rfl) (by kernel_rfl) ?_
                    repeat (go_big_quiet_step ((go_at_call 35; exact calls_later (last_c _ _ _ _ rfl _))))
                    refine wpQuiet_nil ?_
                    rintro _ ⟨yq, rfl⟩
                    have HB2 : Hid (Below B w yq.1) := HBA.out.trans (yq.2.mono (Nat.le_trans HBs.out (by simp)))
                    generalize yq.1 = w3 at *
                    go_wp2
                    go_ret
                    have hB := HB0.out
                    subst hB
                    exact ⟨ret_int HP.out.symm, HB2.out⟩
                  · have h7' : n64 (x'.a + (x'.s - 1#64)) < n64 x.a := by have e : (lastB x').toNat = (x'.a + (x'.s - 1#64)).toNat := rfl; unfold n64; omega
                    have HP0 : Hid (pf L k = 0) := by
                      unfold Hid pf; rw [← HX.out, if_neg HNo.out, if_neg (by rintro ⟨_, h⟩; rw [show k - 1 = q by have := HQ.out; omega, ← HX'.out] at h; exact h7 h)]
                    clear h7 PN
                    go_wp2_with (go_at_call 34; refine (cP _).mono ?_; rintro e w' ⟨rfl, rfl⟩)
                    refine wp_region_later (x0 := Later.start _) (by kernel_rfl) (by kernel_rfl) ?_
                    repeat (go_big_quiet_step ((go_at_call 35; exact calls_later (last_c _ _ _ _ rfl _))))
                    refine wpQuiet_nil ?_
                    rintro _ ⟨yq, rfl⟩
                    have HB2 : Hid (Below B w yq.1) := HBA.out.trans (yq.2.mono (Nat.le_trans HBs.out (by simp)))
                    have HG : Hid (ff (pf L) (L.length - (k + 1)) (k + 1) = R) := by unfold Hid; rw [← ff_go hlt HP0.out]; exact hrel.out
                    generalize yq.1 = w3 at *
                    go_wp2
                    go_roundw
                    case rel => exact ⟨k + 1, by omega, by go_num, HG, HB2⟩
                    case measure => simp [intOf]; omega
    · have hkl : k = L.length := by omega
      have HR0 : Hid (R = 0) := by unfold Hid; rw [← hrel.out]; exact ff_end _ _ _ (by omega)
      have hle : (L.length : Int) ≤ (k : Int) := by omega
      clear hkl
      go_wp2
      go_ret
      have hB := HB0.out
      subst hB
      exact ⟨ret_int HR0.out.symm, hbel.out⟩
end Go.Proofs.YtopddflnahfomaaGreatDoor
namespace Go.Proofs.YtopddflnahfomaaGreatDoor
set_option linter.unusedVariables false
open Go.ChangeShapes Go.WideShapes Go.ChangeAt Go.RowKit Go.Deep
end Go.Proofs.YtopddflnahfomaaGreatDoor
namespace Go.Proofs.YtopddflnahfomaaGreatDoor
set_option linter.unusedVariables false
open Go.ChangeShapes Go.WideShapes Go.ChangeAt Go.RowKit Go.Deep
/-- What Check tells. -/
def ck (E : BitVec 64) (L : List Sg) (N : List Sy) : Int :=
  if E.toNat % 2 = 1 then 22 else if 16 < L.length ∨ 400 < N.length then 2 else if ff (pf L) L.length 0 ≠ 0 then ff (pf L) L.length 0 else if ff (nf N) N.length 0 ≠ 0 then ff (nf N) N.length 0 else if 200000 < szz L N then 3 else 0
theorem Img.later {w w' : World} {vs vn : Value} {L : List Sg} {N : List Sy} (h : Img w vs vn L N) {B : Nat} (hb : Below B w w') (hB : B = w.heap.size) : Img w' vs vn L N :=
  ⟨h.segs.later hb hB, h.syms.later hb hB, h.lens, h.texts⟩
theorem plan_s (E : BitVec 64) (vs vn : Value) (L : List Sg) (N : List Sy) (hL : L.length ≤ 16) (hN : N.length ≤ 400) (w : World) (hi : Img w vs vn L N) (Z : Int) (hZ : Hid (Z = ((szz L N : Nat) : Int))) :
    Calls Tryz.prog 13 #[.agg #[.int .u64 (n64 E), vs, vn]] w fun e w' => ∃ dv t1 t2 t3 t4, e = .returned (.agg #[dv, .int .i64 t1, .int .i64 t2, .int .i64 t3, .int .i64 t4, .int .i64 Z]) ∧ Hid (Below w.heap.size w w') := by
  rw [hZ.out]
  refine (plan_c E vs vn L N hL hN w hi).mono ?_
  rintro e w' ⟨dv, t1, t2, t3, t4, rfl, _, hb⟩
  exact ⟨dv, t1, t2, t3, t4, rfl, hb⟩
theorem planField (dv : Value) (t1 t2 t3 t4 Z : Int) (w : World) : (Instr.field 50 (.agg #[dv, .int .i64 t1, .int .i64 t2, .int .i64 t3, .int .i64 t4, .int .i64 Z]) 5).run Tryz.prog w = .ok (.int .i64 Z) w := by kernel_rfl
set_option maxHeartbeats 4000000 in
set_option maxRecDepth 1000000 in
theorem check_c (E : BitVec 64) (vs vn : Value) (L : List Sg) (N : List Sy) (hl : L.length ≤ 140737488355328) (hn : N.length ≤ 140737488355328) (w : World) (hi : Img w vs vn L N) (hT : Hid (Tabs w)) :
    Calls Tryz.prog 11 #[.agg #[.int .u64 (n64 E), vs, vn]] w fun e w' => e = .returned (.int .i64 (ck E L N)) ∧ Below w.heap.size w w' := by
  have HI : Hid (Img w vs vn L N) := hi
  obtain ⟨R, hR⟩ : ∃ R, R = ck E L N := ⟨_, rfl⟩
  rw [← hR]
  have HR : Hid (R = ck E L N) := hR
  clear hR
  obtain ⟨sa, sc, rfl, _, _⟩ := hi.segs
  obtain ⟨na, nc, rfl, _, _⟩ := hi.syms
  clear hi
  have HB1 : Hid (Below w.heap.size w (w.alloc (.cells #[.int .u64 (n64 E), .slice sa L.length sc, .slice na N.length nc] 26))) := (Below.refl _ _).alloc (Nat.le_refl _) _
  have HI1 : Hid (Img (w.alloc (.cells #[.int .u64 (n64 E), .slice sa L.length sc, .slice na N.length nc] 26)) (.slice sa L.length sc) (.slice na N.length nc) L N) := HI.out.later HB1.out rfl
  have HT1 : Hid (Tabs (w.alloc (.cells #[.int .u64 (n64 E), .slice sa L.length sc, .slice na N.length nc] 26))) := hT.out.below HB1.out rfl
  have HMlt : Hid (w.heap.size < (w.alloc (.cells #[.int .u64 (n64 E), .slice sa L.length sc, .slice na N.length nc] 26)).heap.size) := by unfold Hid; simp
  have HM0 : Hid ((w.alloc (.cells #[.int .u64 (n64 E), .slice sa L.length sc, .slice na N.length nc] 26)).cell? ⟨w.heap.size, 0, none⟩ = some (.int .u64 (n64 E))) := by unfold Hid; simp
  have HM1 : Hid ((w.alloc (.cells #[.int .u64 (n64 E), .slice sa L.length sc, .slice na N.length nc] 26)).cell? ⟨w.heap.size, 1, none⟩ = some (.slice sa L.length sc)) := by unfold Hid; simp
  have HM2 : Hid ((w.alloc (.cells #[.int .u64 (n64 E), .slice sa L.length sc, .slice na N.length nc] 26)).cell? ⟨w.heap.size, 2, none⟩ = some (.slice na N.length nc)) := by unfold Hid; simp
  by_cases hE : E.toNat % 2 = 1
  · have hE' : ((n64 E).tmod 2 != 0) = true := by rw [Int.tmod_eq_emod_of_nonneg (n64_lo E)]; unfold n64; simp; omega
    have HP : Hid (R = 22) := by unfold Hid; rw [HR.out]; unfold ck; rw [if_pos hE]
    clear hE
    go_enter Tryz.func11, Tryz.ntmps11
    go_wp2_with fail
    go_ret
    exact ⟨ret_int HP.out.symm, HB1.out⟩
  · have hE' : ((n64 E).tmod 2 != 0) = false := by rw [Int.tmod_eq_emod_of_nonneg (n64_lo E)]; unfold n64; simp; omega
    by_cases hL : 16 < L.length
    · have hL' : (16 : Int) < (L.length : Int) := by omega
      have HP : Hid (R = 2) := by unfold Hid; rw [HR.out]; unfold ck; rw [if_neg hE, if_pos (Or.inl hL)]
      clear hE
      go_enter Tryz.func11, Tryz.ntmps11
      go_wp2_with fail
      go_ret
      exact ⟨ret_int HP.out.symm, HB1.out⟩
    · have hL' : (L.length : Int) ≤ 16 := by omega
      by_cases hN : 400 < N.length
      · have hN' : (400 : Int) < (N.length : Int) := by omega
        have HP : Hid (R = 2) := by unfold Hid; rw [HR.out]; unfold ck; rw [if_neg hE, if_pos (Or.inr hN)]
        clear hE
        go_enter Tryz.func11, Tryz.ntmps11
        go_wp2_with fail
        go_ret
        exact ⟨ret_int HP.out.symm, HB1.out⟩
      · have hN' : (N.length : Int) ≤ 400 := by omega
        have HK : Hid (R = if ff (pf L) L.length 0 ≠ 0 then ff (pf L) L.length 0 else if ff (nf N) N.length 0 ≠ 0 then ff (nf N) N.length 0 else if 200000 < szz L N then 3 else 0) := by
          unfold Hid; rw [HR.out]; unfold ck; rw [if_neg hE, if_neg (by omega)]
        clear hE HR
        have cP := cparts_c L HI.out.lens hl (.slice sa L.length sc) (w.alloc (.cells #[.int .u64 (n64 E), .slice sa L.length sc, .slice na N.length nc] 26)) HI1.out.segs
        obtain ⟨p, hp⟩ : ∃ p, p = ff (pf L) L.length 0 := ⟨_, rfl⟩
        obtain ⟨q, hq⟩ : ∃ q, q = ff (nf N) N.length 0 := ⟨_, rfl⟩
        rw [← hp] at cP HK
        rw [← hq] at HK
        by_cases hp0 : p = 0
        · have hp0' : (p != 0) = false := by simp [hp0]
          have HP0 : Hid (p = 0) := hp0
          have HQ : Hid (q = ff (nf N) N.length 0) := hq
          clear hp hq hp0
          go_enter Tryz.func11, Tryz.ntmps11
          go_wp2_with (go_at_call 19; refine cP.mono ?_; rintro e w2 ⟨rfl, hb2⟩; have m0 := (hb2.cell (by exact HMlt.out)).trans HM0.out; have m1 := (hb2.cell (by exact HMlt.out)).trans HM1.out; have m2 := (hb2.cell (by exact HMlt.out)).trans HM2.out)
          have HB2 : Hid (Below w.heap.size w w2) := HB1.out.trans (hb2.mono HB1.out.size)
          have HI2 : Hid (Img w2 (.slice sa L.length sc) (.slice na N.length nc) L N) := HI.out.later HB2.out rfl
          have HT2 : Hid (Tabs w2) := hT.out.below HB2.out rfl
          have HM2lt : Hid (w.heap.size < w2.heap.size) := Nat.lt_of_lt_of_le HMlt.out hb2.size
          have HM0' : Hid (w2.cell? ⟨w.heap.size, 0, none⟩ = some (.int .u64 (n64 E))) := m0
          have HM1' : Hid (w2.cell? ⟨w.heap.size, 1, none⟩ = some (.slice sa L.length sc)) := m1
          have HM2' : Hid (w2.cell? ⟨w.heap.size, 2, none⟩ = some (.slice na N.length nc)) := m2
          clear hb2 cP m0 m1 m2
          have cN := cnames_c N HI.out.texts hn (.slice na N.length nc) w2 HI2.out.syms HT2
          rw [← HQ.out] at cN
          by_cases hq0 : q = 0
          · have hq0' : (q != 0) = false := by simp [hq0]
            have HQ0 : Hid (q = 0) := hq0
            clear hq0
            obtain ⟨Z, hZ⟩ : ∃ Z : Int, Z = ((szz L N : Nat) : Int) := ⟨_, rfl⟩
            have HZ : Hid (Z = ((szz L N : Nat) : Int)) := hZ
            clear hZ
            refine cN.mono ?_
            rintro e w3 ⟨rfl, hb3⟩
            have m0 := (hb3.cell (by exact HM2lt.out)).trans HM0'.out
            have m1 := (hb3.cell (by exact HM2lt.out)).trans HM1'.out
            have m2 := (hb3.cell (by exact HM2lt.out)).trans HM2'.out
            have HB3 : Hid (Below w.heap.size w w3) := HB2.out.trans (hb3.mono HB2.out.size)
            have HI3 : Hid (Img w3 (.slice sa L.length sc) (.slice na N.length nc) L N) := HI.out.later HB3.out rfl
            clear hb3 cN
            have cS := plan_s E _ _ L N (by omega) (by omega) w3 HI3.out Z HZ
            by_cases hz : 200000 < szz L N
            · have hz' : (200000 : Int) < Z := by rw [HZ.out]; omega
              have HP : Hid (R = 3) := by unfold Hid; rw [HK.out, if_neg (by simp [HP0.out]), if_neg (by simp [HQ0.out]), if_pos hz]
              clear hz
              go_wp2_with (go_at_call 13; refine cS.mono ?_; rintro e w4 ⟨dv, t1, t2, t3, t4, rfl, hb4⟩; have hfld := planField dv t1 t2 t3 t4 Z)
              go_ret
              exact ⟨ret_int HP.out.symm, HB3.out.trans (hb4.out.mono HB3.out.size)⟩
            · have hz' : Z ≤ (200000 : Int) := by rw [HZ.out]; omega
              have HP : Hid (R = 0) := by unfold Hid; rw [HK.out, if_neg (by simp [HP0.out]), if_neg (by simp [HQ0.out]), if_neg hz]
              clear hz
              go_wp2_with (go_at_call 13; refine cS.mono ?_; rintro e w4 ⟨dv, t1, t2, t3, t4, rfl, hb4⟩; have hfld := planField dv t1 t2 t3 t4 Z)
              go_ret
              exact ⟨ret_int HP.out.symm, HB3.out.trans (hb4.out.mono HB3.out.size)⟩
          · have hq0' : (q != 0) = true := by simp [hq0]
            have HP : Hid (R = q) := by unfold Hid; rw [HK.out, if_neg (by simp [HP0.out]), if_pos hq0]
            clear hq0
            refine cN.mono ?_
            rintro e w3 ⟨rfl, hb3⟩
            go_wp2_with fail
            go_ret
            exact ⟨ret_int HP.out.symm, HB2.out.trans (hb3.mono HB2.out.size)⟩
        · have hp0' : (p != 0) = true := by simp [hp0]
          have HP : Hid (R = p) := by unfold Hid; rw [HK.out, if_pos hp0]
          clear hp hq hp0
          go_enter Tryz.func11, Tryz.ntmps11
          go_wp2_with (go_at_call 19; refine cP.mono ?_; rintro e w2 ⟨rfl, hb2⟩)
          go_ret
          exact ⟨ret_int HP.out.symm, HB1.out.trans (hb2.mono HB1.out.size)⟩
end Go.Proofs.YtopddflnahfomaaGreatDoor
namespace Go.Proofs.YtopddflnahfomaaGreatDoor
set_option linter.unusedVariables false
open Go.ChangeShapes Go.WideShapes Go.ChangeAt Go.RowKit Go.Deep
end Go.Proofs.YtopddflnahfomaaGreatDoor
namespace Go.Proofs.YtopddflnahfomaaGreatDoor
set_option linter.unusedVariables false
open Go.ChangeShapes Go.WideShapes Go.ChangeAt Go.RowKit Go.Deep
theorem own_later {w w' : World} {B e size n : Nat} {v : Value} {xs : List Value} (h : w.ownsRow B e size v n xs) {B' : Nat} (hb : Below B' w w') (hB : B' = w.heap.size) : w'.ownsRow B e size v n xs := by
  have hl := h.lt
  refine ⟨h.1, ?_⟩
  rcases h.2 with h' | ⟨g, cap, cur, rfl, h1, h2, h3⟩
  · exact .inl h'
  · exact .inr ⟨g, cap, cur, rfl, h1, by rw [hb.block g (by rw [hB]; exact (hl g rfl).2)]; exact h2, h3⟩
theorem Pr.later {B : Nat} {w w' : World} {vb vt : Value} {lb lt : List Int} (h : Pr B w vb lb vt lt) (hb : Below w.heap.size w w') : Pr B w' vb lb vt lt := ⟨own_later h.b hb rfl, own_later h.t hb rfl, h.h, h.k⟩
theorem Fr.of_below {B : Nat} {w w' : World} (hb : Below w.heap.size w w') (hB : B ≤ w.heap.size) : Fr B w w' :=
  ⟨hb.mono hB, fun g cur t z _ h => by rw [hb.block g (Array.getElem?_eq_some_iff.1 h).1]; exact h⟩
def idL : List Int := [127, 69, 76, 70, 2, 1, 1, 0, 0, 0, 0, 0, 0, 0, 0, 0]
/-- The head of a file. -/
def headL (E heads n count third : Nat) : List Int :=
  idL ++ (ptL 2 2 ++ (ptL 243 2 ++ (ptL 1 4 ++ (ptL E 8 ++ (ptL 64 8 ++ (ptL heads 8 ++ (ptL 1 4 ++ (ptL 64 2 ++ (ptL 56 2 ++ (ptL n 2 ++ (ptL 64 2 ++ (ptL count 2 ++ ptL third 2))))))))))))
theorem headL_length (E heads n count third : Nat) : (headL E heads n count third).length = 64 := by simp [headL, idL, ptL_length]
/-- A part's rights in the file's order of bits. -/
def fw (f : Int) : Nat := (f / 4 % 2 + f / 2 % 2 * 2 + f % 2 * 4).toNat
def plc (L : List Sg) (k : Nat) : Nat := if 0 < (sg L k).n then al (sk L k) else 0
/-- A part's header. -/
def phL (x : Sg) (p : Nat) : List Int := ptL 1 4 ++ (ptL (fw x.f) 4 ++ (ptL p 8 ++ (ptL x.a.toNat 8 ++ (ptL x.a.toNat 8 ++ (ptL x.n 8 ++ (ptL x.s.toNat 8 ++ ptL 1 8))))))
theorem phL_length (x : Sg) (p : Nat) : (phL x p).length = 56 := by simp [phL, ptL_length]
def hdL (L : List Sg) : Nat → List Int
  | 0 => []
  | k + 1 => hdL L k ++ phL (sg L k) (plc L k)
theorem hdL_length (L : List Sg) (k : Nat) : (hdL L k).length = 56 * k := by
  induction k with
  | zero => rfl
  | succ k ih => simp only [hdL, List.length_append, ih, phL_length]; omega
def daL (L : List Sg) (D : Nat → List Int) : Nat → List Int
  | 0 => []
  | k + 1 => daL L D k ++ if 0 < (sg L k).n then zs (al (sk L k) - sk L k) ++ D k else []
theorem daL_length {L : List Sg} {D : Nat → List Int} (hD : ∀ j, j < L.length → (D j).length = (sg L j).n) (k : Nat) (hk : k ≤ L.length) : 64 + 56 * L.length + (daL L D k).length = sk L k := by
  induction k with
  | zero => rfl
  | succ k ih =>
    have ih := ih (by omega)
    have h1 := al_lo (sk L k)
    have e : sk L (k + 1) = if 0 < (sg L k).n then al (sk L k) + (sg L k).n else sk L k := rfl
    rw [e]
    simp only [daL, List.length_append]
    split
    · simp only [List.length_append, zs_length, hD k (by omega)]; omega
    · simp only [List.length_nil]; omega
theorem sk_mono (L : List Sg) {j k : Nat} (h : j ≤ k) : sk L j ≤ sk L k := by
  induction k with
  | zero => rw [Nat.le_zero.1 h]; exact Nat.le_refl _
  | succ k ih =>
    by_cases e : j = k + 1
    · subst e; exact Nat.le_refl _
    · have := ih (by omega)
      have h1 := al_lo (sk L k)
      have e2 : sk L (k + 1) = if 0 < (sg L k).n then al (sk L k) + (sg L k).n else sk L k := rfl
      rw [e2]
      split <;> omega
end Go.Proofs.YtopddflnahfomaaGreatDoor
