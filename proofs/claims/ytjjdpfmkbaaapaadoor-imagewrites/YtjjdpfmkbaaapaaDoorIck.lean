/-
  Check of the program.
-/
import Derived.Test.YtjjdpfmkbaaapaaDoorInf
import Derived.Test.YtjjdpfmkbaaapaaDoorIpd
import Derived.Test.YtjjdpfmkbaaapaaDoorIsc
namespace Go.Proofs.YtjjdpfmkbaaapaaDoor
set_option linter.unusedVariables false
open Go.ChangeShapes Go.WideShapes Go.ChangeAt Go.RowKit Go.Deep
/-- What Check tells. -/
def ck (E : BitVec 64) (L : List Sg) (N : List Sy) : Int :=
  if E.toNat % 2 = 1 then 22 else if 16 < L.length ∨ 400 < N.length then 2 else if ff (pf L) L.length 0 ≠ 0 then ff (pf L) L.length 0 else if ff (nf N) N.length 0 ≠ 0 then ff (nf N) N.length 0 else if 200000 < szz L N then 3 else 0
theorem Img.later {w w' : World} {vs vn : Value} {L : List Sg} {N : List Sy} (h : Img w vs vn L N) {B : Nat} (hb : Below B w w') (hB : B = w.heap.size) : Img w' vs vn L N :=
  ⟨h.segs.later hb hB, h.syms.later hb hB, h.lens, h.texts⟩
theorem plan_s (E : BitVec 64) (vs vn : Value) (L : List Sg) (N : List Sy) (hL : L.length ≤ 16) (hN : N.length ≤ 400) (w : World) (hi : Img w vs vn L N) (Z : Int) (hZ : Hid (Z = ((szz L N : Nat) : Int))) :
    Calls Tryd.prog 12 #[.agg #[.int .u64 (n64 E), vs, vn]] w fun e w' => ∃ dv t1 t2 t3 t4, e = .returned (.agg #[dv, .int .i64 t1, .int .i64 t2, .int .i64 t3, .int .i64 t4, .int .i64 Z]) ∧ Hid (Below w.heap.size w w') := by
  rw [hZ.out]
  refine (plan_c E vs vn L N hL hN w hi).mono ?_
  rintro e w' ⟨dv, t1, t2, t3, t4, rfl, _, hb⟩
  exact ⟨dv, t1, t2, t3, t4, rfl, hb⟩
theorem planField (dv : Value) (t1 t2 t3 t4 Z : Int) (w : World) : (Instr.field 44 (.agg #[dv, .int .i64 t1, .int .i64 t2, .int .i64 t3, .int .i64 t4, .int .i64 Z]) 5).run Tryd.prog w = .ok (.int .i64 Z) w := by kernel_rfl
set_option maxHeartbeats 4000000 in
set_option maxRecDepth 1000000 in
theorem check_c (E : BitVec 64) (vs vn : Value) (L : List Sg) (N : List Sy) (hl : L.length ≤ 140737488355328) (hn : N.length ≤ 140737488355328) (w : World) (hi : Img w vs vn L N) (hT : Hid (Tabs w)) :
    Calls Tryd.prog 10 #[.agg #[.int .u64 (n64 E), vs, vn]] w fun e w' => e = .returned (.int .i64 (ck E L N)) ∧ Below w.heap.size w w' := by
  have HI : Hid (Img w vs vn L N) := hi
  obtain ⟨R, hR⟩ : ∃ R, R = ck E L N := ⟨_, rfl⟩
  rw [← hR]
  have HR : Hid (R = ck E L N) := hR
  clear hR
  obtain ⟨sa, sc, rfl, _, _⟩ := hi.segs
  obtain ⟨na, nc, rfl, _, _⟩ := hi.syms
  clear hi
  have HB1 : Hid (Below w.heap.size w (w.alloc (.cells #[.int .u64 (n64 E), .slice sa L.length sc, .slice na N.length nc] 26))) := (Below.refl _ _).alloc (Nat.le_refl _) _
  have HI1 : Hid (Img (w.alloc (.cells #[.int .u64 (n64 E), .slice sa L.length sc, .slice na N.length nc] 26)) (.slice sa L.length sc) (.slice na N.length nc) L N) := HI.out.later HB1.out rfl
  have HT1 : Hid (Tabs (w.alloc (.cells #[.int .u64 (n64 E), .slice sa L.length sc, .slice na N.length nc] 26))) := hT.out.below HB1.out rfl
  have HMlt : Hid (w.heap.size < (w.alloc (.cells #[.int .u64 (n64 E), .slice sa L.length sc, .slice na N.length nc] 26)).heap.size) := by unfold Hid; simp
  have HM0 : Hid ((w.alloc (.cells #[.int .u64 (n64 E), .slice sa L.length sc, .slice na N.length nc] 26)).cell? ⟨w.heap.size, 0, none⟩ = some (.int .u64 (n64 E))) := by unfold Hid; simp
  have HM1 : Hid ((w.alloc (.cells #[.int .u64 (n64 E), .slice sa L.length sc, .slice na N.length nc] 26)).cell? ⟨w.heap.size, 1, none⟩ = some (.slice sa L.length sc)) := by unfold Hid; simp
  have HM2 : Hid ((w.alloc (.cells #[.int .u64 (n64 E), .slice sa L.length sc, .slice na N.length nc] 26)).cell? ⟨w.heap.size, 2, none⟩ = some (.slice na N.length nc)) := by unfold Hid; simp
  by_cases hE : E.toNat % 2 = 1
  · have hE' : ((n64 E).tmod 2 != 0) = true := by rw [Int.tmod_eq_emod_of_nonneg (n64_lo E)]; unfold n64; simp; omega
    have HP : Hid (R = 22) := by unfold Hid; rw [HR.out]; unfold ck; rw [if_pos hE]
    clear hE
    go_enter Tryd.func10, Tryd.ntmps10
    go_wp2_with fail
    go_ret
    exact ⟨ret_int HP.out.symm, HB1.out⟩
  · have hE' : ((n64 E).tmod 2 != 0) = false := by rw [Int.tmod_eq_emod_of_nonneg (n64_lo E)]; unfold n64; simp; omega
    by_cases hL : 16 < L.length
    · have hL' : (16 : Int) < (L.length : Int) := by omega
      have HP : Hid (R = 2) := by unfold Hid; rw [HR.out]; unfold ck; rw [if_neg hE, if_pos (Or.inl hL)]
      clear hE
      go_enter Tryd.func10, Tryd.ntmps10
      go_wp2_with fail
      go_ret
      exact ⟨ret_int HP.out.symm, HB1.out⟩
    · have hL' : (L.length : Int) ≤ 16 := by omega
      by_cases hN : 400 < N.length
      · have hN' : (400 : Int) < (N.length : Int) := by omega
        have HP : Hid (R = 2) := by unfold Hid; rw [HR.out]; unfold ck; rw [if_neg hE, if_pos (Or.inr hN)]
        clear hE
        go_enter Tryd.func10, Tryd.ntmps10
        go_wp2_with fail
        go_ret
        exact ⟨ret_int HP.out.symm, HB1.out⟩
      · have hN' : (N.length : Int) ≤ 400 := by omega
        have HK : Hid (R = if ff (pf L) L.length 0 ≠ 0 then ff (pf L) L.length 0 else if ff (nf N) N.length 0 ≠ 0 then ff (nf N) N.length 0 else if 200000 < szz L N then 3 else 0) := by
          unfold Hid; rw [HR.out]; unfold ck; rw [if_neg hE, if_neg (by omega)]
        clear hE HR
        have cP := parts_c L HI.out.lens hl (.slice sa L.length sc) (w.alloc (.cells #[.int .u64 (n64 E), .slice sa L.length sc, .slice na N.length nc] 26)) HI1.out.segs
        obtain ⟨p, hp⟩ : ∃ p, p = ff (pf L) L.length 0 := ⟨_, rfl⟩
        obtain ⟨q, hq⟩ : ∃ q, q = ff (nf N) N.length 0 := ⟨_, rfl⟩
        rw [← hp] at cP HK
        rw [← hq] at HK
        by_cases hp0 : p = 0
        · have hp0' : (p != 0) = false := by simp [hp0]
          have HP0 : Hid (p = 0) := hp0
          have HQ : Hid (q = ff (nf N) N.length 0) := hq
          clear hp hq hp0
          go_enter Tryd.func10, Tryd.ntmps10
          go_wp2_with (go_at_call 21; refine cP.mono ?_; rintro e w2 ⟨rfl, hb2⟩; have m0 := (hb2.cell (by exact HMlt.out)).trans HM0.out; have m1 := (hb2.cell (by exact HMlt.out)).trans HM1.out; have m2 := (hb2.cell (by exact HMlt.out)).trans HM2.out)
          have HB2 : Hid (Below w.heap.size w w2) := HB1.out.trans (hb2.mono HB1.out.size)
          have HI2 : Hid (Img w2 (.slice sa L.length sc) (.slice na N.length nc) L N) := HI.out.later HB2.out rfl
          have HT2 : Hid (Tabs w2) := hT.out.below HB2.out rfl
          have HM2lt : Hid (w.heap.size < w2.heap.size) := Nat.lt_of_lt_of_le HMlt.out hb2.size
          have HM0' : Hid (w2.cell? ⟨w.heap.size, 0, none⟩ = some (.int .u64 (n64 E))) := m0
          have HM1' : Hid (w2.cell? ⟨w.heap.size, 1, none⟩ = some (.slice sa L.length sc)) := m1
          have HM2' : Hid (w2.cell? ⟨w.heap.size, 2, none⟩ = some (.slice na N.length nc)) := m2
          clear hb2 cP m0 m1 m2
          have cN := names_c N HI.out.texts hn (.slice na N.length nc) w2 HI2.out.syms HT2
          rw [← HQ.out] at cN
          by_cases hq0 : q = 0
          · have hq0' : (q != 0) = false := by simp [hq0]
            have HQ0 : Hid (q = 0) := hq0
            clear hq0
            obtain ⟨Z, hZ⟩ : ∃ Z : Int, Z = ((szz L N : Nat) : Int) := ⟨_, rfl⟩
            have HZ : Hid (Z = ((szz L N : Nat) : Int)) := hZ
            clear hZ
            refine cN.mono ?_
            rintro e w3 ⟨rfl, hb3⟩
            have m0 := (hb3.cell (by exact HM2lt.out)).trans HM0'.out
            have m1 := (hb3.cell (by exact HM2lt.out)).trans HM1'.out
            have m2 := (hb3.cell (by exact HM2lt.out)).trans HM2'.out
            have HB3 : Hid (Below w.heap.size w w3) := HB2.out.trans (hb3.mono HB2.out.size)
            have HI3 : Hid (Img w3 (.slice sa L.length sc) (.slice na N.length nc) L N) := HI.out.later HB3.out rfl
            clear hb3 cN
            have cS := plan_s E _ _ L N (by omega) (by omega) w3 HI3.out Z HZ
            by_cases hz : 200000 < szz L N
            · have hz' : (200000 : Int) < Z := by rw [HZ.out]; omega
              have HP : Hid (R = 3) := by unfold Hid; rw [HK.out, if_neg (by simp [HP0.out]), if_neg (by simp [HQ0.out]), if_pos hz]
              clear hz
              go_wp2_with (go_at_call 12; refine cS.mono ?_; rintro e w4 ⟨dv, t1, t2, t3, t4, rfl, hb4⟩; have hfld := planField dv t1 t2 t3 t4 Z)
              go_ret
              exact ⟨ret_int HP.out.symm, HB3.out.trans (hb4.out.mono HB3.out.size)⟩
            · have hz' : Z ≤ (200000 : Int) := by rw [HZ.out]; omega
              have HP : Hid (R = 0) := by unfold Hid; rw [HK.out, if_neg (by simp [HP0.out]), if_neg (by simp [HQ0.out]), if_neg hz]
              clear hz
              go_wp2_with (go_at_call 12; refine cS.mono ?_; rintro e w4 ⟨dv, t1, t2, t3, t4, rfl, hb4⟩; have hfld := planField dv t1 t2 t3 t4 Z)
              go_ret
              exact ⟨ret_int HP.out.symm, HB3.out.trans (hb4.out.mono HB3.out.size)⟩
          · have hq0' : (q != 0) = true := by simp [hq0]
            have HP : Hid (R = q) := by unfold Hid; rw [HK.out, if_neg (by simp [HP0.out]), if_pos hq0]
            clear hq0
            refine cN.mono ?_
            rintro e w3 ⟨rfl, hb3⟩
            go_wp2_with fail
            go_ret
            exact ⟨ret_int HP.out.symm, HB2.out.trans (hb3.mono HB2.out.size)⟩
        · have hp0' : (p != 0) = true := by simp [hp0]
          have HP : Hid (R = p) := by unfold Hid; rw [HK.out, if_pos hp0]
          clear hp hq hp0
          go_enter Tryd.func10, Tryd.ntmps10
          go_wp2_with (go_at_call 21; refine cP.mono ?_; rintro e w2 ⟨rfl, hb2⟩)
          go_ret
          exact ⟨ret_int HP.out.symm, HB1.out.trans (hb2.mono HB1.out.size)⟩
end Go.Proofs.YtjjdpfmkbaaapaaDoor
