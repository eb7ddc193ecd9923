/-
  Check of the reference.
-/
import Derived.Test.YtjjdpfmkbaaapaaDoorIck
import Derived.Test.YtjjdpfmkbaaapaaDoorIng
namespace Go.Proofs.YtjjdpfmkbaaapaaDoor
set_option linter.unusedVariables false
open Go.ChangeShapes Go.WideShapes Go.ChangeAt Go.RowKit Go.Deep
set_option maxHeartbeats 4000000 in
set_option maxRecDepth 1000000 in
theorem rcheck_c (E : BitVec 64) (vs vn : Value) (L : List Sg) (N : List Sy) (hl : L.length ≤ 140737488355328) (hn : N.length ≤ 140737488355328) (w : World) (hi : Img w vs vn L N) (hT : Hid (Tabs w)) :
    Calls Tryd.prog 13 #[.agg #[.int .u64 (n64 E), vs, vn]] w fun e w' => e = .returned (.int .i64 (ck E L N)) ∧ Below w.heap.size w w' := by
  have HI : Hid (Img w vs vn L N) := hi
  obtain ⟨R, hR⟩ : ∃ R, R = ck E L N := ⟨_, rfl⟩
  rw [← hR]
  have HR : Hid (R = ck E L N) := hR
  clear hR
  obtain ⟨sa, sc, rfl, _, _⟩ := hi.segs
  obtain ⟨na, nc, rfl, _, _⟩ := hi.syms
  clear hi
  have HB1 : Hid (Below w.heap.size w (w.alloc (.cells #[.int .u64 (n64 E), .slice sa L.length sc, .slice na N.length nc] 26))) := (Below.refl _ _).alloc (Nat.le_refl _) _
  have HI1 : Hid (Img (w.alloc (.cells #[.int .u64 (n64 E), .slice sa L.length sc, .slice na N.length nc] 26)) (.slice sa L.length sc) (.slice na N.length nc) L N) := HI.out.later HB1.out rfl
  have HT1 : Hid (Tabs (w.alloc (.cells #[.int .u64 (n64 E), .slice sa L.length sc, .slice na N.length nc] 26))) := hT.out.below HB1.out rfl
  have HMlt : Hid (w.heap.size < (w.alloc (.cells #[.int .u64 (n64 E), .slice sa L.length sc, .slice na N.length nc] 26)).heap.size) := by unfold Hid; simp
  have HM0 : Hid ((w.alloc (.cells #[.int .u64 (n64 E), .slice sa L.length sc, .slice na N.length nc] 26)).cell? ⟨w.heap.size, 0, none⟩ = some (.int .u64 (n64 E))) := by unfold Hid; simp
  have HM1 : Hid ((w.alloc (.cells #[.int .u64 (n64 E), .slice sa L.length sc, .slice na N.length nc] 26)).cell? ⟨w.heap.size, 1, none⟩ = some (.slice sa L.length sc)) := by unfold Hid; simp
  have HM2 : Hid ((w.alloc (.cells #[.int .u64 (n64 E), .slice sa L.length sc, .slice na N.length nc] 26)).cell? ⟨w.heap.size, 2, none⟩ = some (.slice na N.length nc)) := by unfold Hid; simp
  by_cases hE : E.toNat % 2 = 1
  · have hE' : ((n64 E).tmod 2 == 1) = true := by rw [Int.tmod_eq_emod_of_nonneg (n64_lo E)]; unfold n64; simp; omega
    have HP : Hid (R = 22) := by unfold Hid; rw [HR.out]; unfold ck; rw [if_pos hE]
    clear hE
    go_enter Tryd.func13, Tryd.ntmps13
    go_wp2_with fail
    go_ret
    exact ⟨ret_int HP.out.symm, HB1.out⟩
  · have hE' : ((n64 E).tmod 2 == 1) = false := by rw [Int.tmod_eq_emod_of_nonneg (n64_lo E)]; unfold n64; simp; omega
    by_cases hL : 16 < L.length
    · have hL' : (16 : Int) < (L.length : Int) := by omega
      have HP : Hid (R = 2) := by unfold Hid; rw [HR.out]; unfold ck; rw [if_neg hE, if_pos (Or.inl hL)]
      clear hE
      go_enter Tryd.func13, Tryd.ntmps13
      go_wp2_with fail
      go_ret
      exact ⟨ret_int HP.out.symm, HB1.out⟩
    · have hL' : (L.length : Int) ≤ 16 := by omega
      by_cases hN : 400 < N.length
      · have hN' : (400 : Int) < (N.length : Int) := by omega
        have HP : Hid (R = 2) := by unfold Hid; rw [HR.out]; unfold ck; rw [if_neg hE, if_pos (Or.inr hN)]
        clear hE
        go_enter Tryd.func13, Tryd.ntmps13
        go_wp2_with fail
        go_ret
        exact ⟨ret_int HP.out.symm, HB1.out⟩
      · have hN' : (N.length : Int) ≤ 400 := by omega
        have HK : Hid (R = if ff (pf L) L.length 0 ≠ 0 then ff (pf L) L.length 0 else if ff (nf N) N.length 0 ≠ 0 then ff (nf N) N.length 0 else if 200000 < szz L N then 3 else 0) := by
          unfold Hid; rw [HR.out]; unfold ck; rw [if_neg hE, if_neg (by omega)]
        clear hE HR
        have cP := rparts_c L HI.out.lens hl (.slice sa L.length sc) (w.alloc (.cells #[.int .u64 (n64 E), .slice sa L.length sc, .slice na N.length nc] 26)) HI1.out.segs
        obtain ⟨p, hp⟩ : ∃ p, p = ff (pf L) L.length 0 := ⟨_, rfl⟩
        obtain ⟨q, hq⟩ : ∃ q, q = ff (nf N) N.length 0 := ⟨_, rfl⟩
        rw [← hp] at cP HK
        rw [← hq] at HK
        by_cases hp0 : p = 0
        · have hp0' : (p != 0) = false := by simp [hp0]
          have HP0 : Hid (p = 0) := hp0
          have HQ : Hid (q = ff (nf N) N.length 0) := hq
          clear hp hq hp0
          go_enter Tryd.func13, Tryd.ntmps13
          go_wp2_with (go_at_call 28; refine cP.mono ?_; rintro e w2 ⟨rfl, hb2⟩; have m0 := (hb2.cell (by exact HMlt.out)).trans HM0.out; have m1 := (hb2.cell (by exact HMlt.out)).trans HM1.out; have m2 := (hb2.cell (by exact HMlt.out)).trans HM2.out)
          have HB2 : Hid (Below w.heap.size w w2) := HB1.out.trans (hb2.mono HB1.out.size)
          have HI2 : Hid (Img w2 (.slice sa L.length sc) (.slice na N.length nc) L N) := HI.out.later HB2.out rfl
          have HT2 : Hid (Tabs w2) := hT.out.below HB2.out rfl
          have HM2lt : Hid (w.heap.size < w2.heap.size) := Nat.lt_of_lt_of_le HMlt.out hb2.size
          have HM0' : Hid (w2.cell? ⟨w.heap.size, 0, none⟩ = some (.int .u64 (n64 E))) := m0
          have HM1' : Hid (w2.cell? ⟨w.heap.size, 1, none⟩ = some (.slice sa L.length sc)) := m1
          have HM2' : Hid (w2.cell? ⟨w.heap.size, 2, none⟩ = some (.slice na N.length nc)) := m2
          clear hb2 cP m0 m1 m2
          obtain ⟨Mb, hMb⟩ : ∃ Mb, Mb = w.heap.size := ⟨_, rfl⟩
          have HMb : Hid (Mb = w.heap.size) := hMb
          rw [← hMb] at HM2lt HM0' HM1' HM2' ⊢
          clear hMb
          have HG0 : Hid (ff (nf N) (N.length - 0) 0 = q) := HQ.out.symm
          go_loopw [4] (fun i wr => ∃ k : Nat, k ≤ N.length ∧ i = .int .i64 k ∧ Hid (ff (nf N) (N.length - k) k = q) ∧ Hid (Below w2.heap.size w2 wr)) (fun i _ => N.length - (intOf i).toNat)
          case atStart => exact ⟨0, Nat.zero_le _, rfl, HG0, Below.refl _ _⟩
          case round =>
            obtain ⟨k, hk, rfl, hrel, hbel⟩ := hrel
            clear HG0
            have m0 := (hbel.out.cell (by exact HM2lt.out)).trans HM0'.out
            have m1 := (hbel.out.cell (by exact HM2lt.out)).trans HM1'.out
            have m2 := (hbel.out.cell (by exact HM2lt.out)).trans HM2'.out
            have HBw : Hid (Below w.heap.size w wr) := HB2.out.trans (hbel.out.mono HB2.out.size)
            have HIw : Hid (Img wr (.slice sa L.length sc) (.slice na N.length nc) L N) := HI.out.later HBw.out rfl
            have HTw : Hid (Tabs wr) := hT.out.below HBw.out rfl
            have HMw : Hid (Mb < wr.heap.size) := Nat.lt_of_lt_of_le HM2lt.out hbel.out.size
            by_cases hlt : k < N.length
            · have hlt2 : (k : Int) < (N.length : Int) := by omega
              have hn := HI.out.texts k hlt
              obtain ⟨_, _, he, _, hcc⟩ := HIw.out.syms
              cases he
              obtain ⟨g, off, rfl, hg, hcells⟩ := hcc (by intro e; have := congrArg List.length e; simp only [List.length_nil] at this; omega)
              obtain ⟨c0, c1⟩ := hcells k hlt
              obtain ⟨x, hx⟩ : ∃ x, x = sy N k := ⟨_, rfl⟩
              rw [← hx] at c0 c1 hn
              have HX : Hid (x = sy N k) := hx
              have HCS : Hid (∀ j, j < N.length → wr.cell? ⟨g, off + j * 2, none⟩ = some (.string (sy N j).s) ∧ wr.cell? ⟨g, off + j * 2 + 1, none⟩ = some (.int .u64 (n64 (sy N j).v))) := hcells
              have HC0 : Hid (wr.cell? ⟨g, off + k * 2, none⟩ = some (.string x.s)) := c0
              have HC1 : Hid (wr.cell? ⟨g, off + k * 2 + 1, none⟩ = some (.int .u64 (n64 x.v))) := c1
              have HM0w : Hid (wr.cell? ⟨Mb, 2, none⟩ = some (.slice (some ⟨g, off, none⟩) N.length nc)) := m2
              clear hx hcells hcc c1
              have cN := rname_c x.s hn wr HTw
              have PN : Hid (∀ h : nf N k ≠ 0, q = nf N k) := fun h => by rw [← hrel.out, ff_hit hlt h]
              cases hnm : nm x.s with
              | false =>
                rw [hnm] at cN
                have HP5 : Hid (q = 5) := by
                  have hp : nf N k = 5 := by unfold nf; rw [← HX.out, hnm]; rfl
                  have := PN.out (by rw [hp]; decide); rw [hp] at this; exact this
                have HP : Hid (R = 5) := by unfold Hid; rw [HK.out, if_neg (by simp [HP0.out]), HP5.out]; rfl
                clear hnm PN
                go_wp2_with (go_at_call 29; refine cN.mono ?_; rintro e w3 ⟨rfl, hb3⟩)
                go_ret
                exact ⟨ret_int HP.out.symm, HBw.out.trans (hb3.mono HBw.out.size)⟩
              | true =>
                rw [hnm] at cN
                have HNM : Hid (nm x.s = true) := hnm
                clear hnm
                by_cases hk0 : k = 0
                · have HP0' : Hid (nf N k = 0) := by
                    unfold Hid nf; rw [← HX.out, HNM.out, if_neg (by decide), if_neg (by rintro ⟨h, _⟩; omega)]
                  have hk0' : ¬ 0 < k := by omega
                  have hk0i : ¬ (0 : Int) < (k : Int) := by omega
                  have HG : Hid (ff (nf N) (N.length - (k + 1)) (k + 1) = q) := by unfold Hid; rw [← ff_go hlt HP0'.out]; exact hrel.out
                  clear hk0
                  go_wp2_with (go_at_call 29; refine cN.mono ?_; rintro e w3 ⟨rfl, hb3⟩)
                  have HB3 : Hid (Below w2.heap.size w2 w3) := hbel.out.trans (hb3.mono hbel.out.size)
                  clear hb3
                  go_roundw
                  case rel => exact ⟨k + 1, by omega, by go_num, HG, HB3⟩
                  case measure => simp [intOf]; omega
                · obtain ⟨r, hr⟩ : ∃ r, k = r + 1 := ⟨k - 1, by omega⟩
                  have hkq : (k : Int) - 1 = (r : Int) := by omega
                  have hk0' : 0 < k := by omega
                  have hk0i : (0 : Int) < (k : Int) := by omega
                  have hql : (r : Int) < (N.length : Int) := by omega
                  have HQr : Hid (k = r + 1) := hr
                  clear hk0 hr
                  go_wp2_with (go_at_call 29; refine cN.mono ?_; rintro e w3 ⟨rfl, hb3⟩)
                  have HB3 : Hid (Below w2.heap.size w2 w3) := hbel.out.trans (hb3.mono hbel.out.size)
                  obtain ⟨p0, p1⟩ := HCS.out r (by omega)
                  obtain ⟨x', hx'⟩ : ∃ x', x' = sy N r := ⟨_, rfl⟩
                  rw [← hx'] at p0 p1
                  have HX' : Hid (x' = sy N r) := hx'
                  clear hx'
                  have hg3 : g < w3.heap.size := Nat.lt_of_lt_of_le hg hb3.size
                  have hM3 : Mb < w3.heap.size := Nat.lt_of_lt_of_le HMw.out hb3.size
                  have y0 : ∀ y : Later w3, y.1.cell? ⟨g, off + r * 2, none⟩ = some (.string x'.s) := fun y => by rw [later_cell y hg3, hb3.cell (by exact hg)]; exact p0
                  have y1 : ∀ y : Later w3, y.1.cell? ⟨g, off + r * 2 + 1, none⟩ = some (.int .u64 (n64 x'.v)) := fun y => by rw [later_cell y hg3, hb3.cell (by exact hg)]; exact p1
                  have y2 : ∀ y : Later w3, y.1.cell? ⟨g, off + k * 2, none⟩ = some (.string x.s) := fun y => by rw [later_cell y hg3, hb3.cell (by exact hg)]; exact HC0.out
                  have y3 : ∀ y : Later w3, y.1.cell? ⟨g, off + k * 2 + 1, none⟩ = some (.int .u64 (n64 x.v)) := fun y => by rw [later_cell y hg3, hb3.cell (by exact hg)]; exact HC1.out
                  have y4 : ∀ y : Later w3, y.1.cell? ⟨Mb, 2, none⟩ = some (.slice (some ⟨g, off, none⟩) N.length nc) := fun y => by rw [later_cell y hM3, hb3.cell (by exact HMw.out)]; exact HM0w.out
                  have hne := later_nonempty w3
                  have HBs3 : Hid (w2.heap.size ≤ w3.heap.size) := HB3.out.size
                  clear p0 p1 hb3 hg3 hM3 c0 m0 m1 m2
                  obtain ⟨b, hb⟩ : ∃ b, b = ahead x'.s x'.v x.s x.v := ⟨_, rfl⟩
                  have cC : Hid (∀ w', Calls Tryd.prog 30 #[.agg #[.string x'.s, .int .u64 (n64 x'.v)], .agg #[.string x.s, .int .u64 (n64 x.v)]] w' fun e w'' => e = .returned (.bool b) ∧ Below w'.heap.size w' w'') := fun w' => by rw [hb]; exact behind_c _ _ _ _ w'
                  have HBb : Hid (b = ahead x'.s x'.v x.s x.v) := hb
                  clear hb
                  cases b with
                  | false =>
                    have HP5 : Hid (q = 25) := by
                      have hp : nf N k = 25 := by unfold nf; rw [← HX.out, HNM.out, if_neg (by decide), if_pos ⟨by omega, by rw [show k - 1 = r by have := HQr.out; omega, ← HX'.out]; exact HBb.out.symm⟩]
                      have := PN.out (by rw [hp]; decide); rw [hp] at this; exact this
                    have HP : Hid (R = 25) := by unfold Hid; rw [HK.out, if_neg (by simp [HP0.out]), HP5.out]; rfl
                    clear PN
                    refine wp_region_later (x0 := Later.start _) (by kernel_rfl) (by kernel_rfl) ?_
                    repeat (go_big_quiet_step ((go_at_call 30; exact calls_later (cC.out _))))
                    refine wpQuiet_nil ?_
                    rintro _ ⟨yq, rfl⟩
                    have HB4 : Hid (Below w2.heap.size w2 yq.1) := HB3.out.trans (yq.2.mono HBs3.out)
                    clear y0 y1 y2 y3 y4 hne
                    generalize yq.1 = w4 at *
                    go_wp2
                    go_ret
                    exact ⟨ret_int HP.out.symm, HB2.out.trans (HB4.out.mono HB2.out.size)⟩
                  | true =>
                    have HP0' : Hid (nf N k = 0) := by
                      unfold Hid nf; rw [← HX.out, HNM.out, if_neg (by decide), if_neg (by rintro ⟨_, h⟩; rw [show k - 1 = r by have := HQr.out; omega, ← HX'.out, ← HBb.out] at h; cases h)]
                    have HG : Hid (ff (nf N) (N.length - (k + 1)) (k + 1) = q) := by unfold Hid; rw [← ff_go hlt HP0'.out]; exact hrel.out
                    clear PN
                    refine wp_region_later (x0 := Later.start _) (by kernel_rfl) (by kernel_rfl) ?_
                    repeat (go_big_quiet_step ((go_at_call 30; exact calls_later (cC.out _))))
                    refine wpQuiet_nil ?_
                    rintro _ ⟨yq, rfl⟩
                    have HB4 : Hid (Below w2.heap.size w2 yq.1) := HB3.out.trans (yq.2.mono HBs3.out)
                    clear y0 y1 y2 y3 y4 hne
                    generalize yq.1 = w4 at *
                    go_wp2
                    go_roundw
                    case rel => exact ⟨k + 1, by omega, by go_num, HG, HB4⟩
                    case measure => simp [intOf]; omega
            · have hle : (N.length : Int) ≤ (k : Int) := by omega
              have HQ0 : Hid (q = 0) := by unfold Hid; rw [← hrel.out]; exact ff_end _ _ _ (by omega)
              have cS := size_c E _ _ L N (by omega) (by omega) wr HIw.out
              obtain ⟨Z, hZ⟩ : ∃ Z : Int, Z = ((szz L N : Nat) : Int) := ⟨_, rfl⟩
              rw [← hZ] at cS
              have HZ : Hid (Z = ((szz L N : Nat) : Int)) := hZ
              clear hZ hlt
              by_cases hz : 200000 < szz L N
              · have hz' : (200000 : Int) < Z := by rw [HZ.out]; omega
                have HP : Hid (R = 3) := by unfold Hid; rw [HK.out, if_neg (by simp [HP0.out]), if_neg (by simp [HQ0.out]), if_pos hz]
                clear hz
                go_wp2_with (go_at_call 14; refine cS.mono ?_; rintro e w4 ⟨rfl, hb4⟩)
                go_ret
                exact ⟨ret_int HP.out.symm, HBw.out.trans (hb4.mono HBw.out.size)⟩
              · have hz' : Z ≤ (200000 : Int) := by rw [HZ.out]; omega
                have HP : Hid (R = 0) := by unfold Hid; rw [HK.out, if_neg (by simp [HP0.out]), if_neg (by simp [HQ0.out]), if_neg hz]
                clear hz
                go_wp2_with (go_at_call 14; refine cS.mono ?_; rintro e w4 ⟨rfl, hb4⟩)
                go_ret
                exact ⟨ret_int HP.out.symm, HBw.out.trans (hb4.mono HBw.out.size)⟩
        · have hp0' : (p != 0) = true := by simp [hp0]
          have HP : Hid (R = p) := by unfold Hid; rw [HK.out, if_pos hp0]
          clear hp hq hp0
          go_enter Tryd.func13, Tryd.ntmps13
          go_wp2_with (go_at_call 28; refine cP.mono ?_; rintro e w2 ⟨rfl, hb2⟩)
          go_ret
          exact ⟨ret_int HP.out.symm, HB1.out.trans (hb2.mono HB1.out.size)⟩
end Go.Proofs.YtjjdpfmkbaaapaaDoor
