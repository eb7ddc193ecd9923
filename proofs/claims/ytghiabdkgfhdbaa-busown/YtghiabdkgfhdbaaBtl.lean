/-
  What the program's bus tells: Time, Off, Mip, IsRam, Can.
-/
import Derived.Test.YtghiabdkgfhdbaaBld
namespace Go.Proofs.Ytghiabdkgfhdbaa
set_option linter.unusedVariables false
open Go.ChangeShapes Go.WideShapes Go.ChangeAt Go.RowKit Go.Deep Go.MuLone
theorem drewN_below (w : World) : ∀ k, Below w.heap.size w (w.drewN k)
  | 0 => Below.refl _ _
  | k + 1 => (drewN_below w k).drew
theorem time_c {B : Nat} {L : Lay} {S : St} (w : World) (h : PB B L S w) : Calls Try.prog 40 #[.pointer (some ⟨L.b, 0, none⟩)] w fun e w' => e = .returned (.int .u64 S.time) ∧ Below w.heap.size w w' := by
  have b4 := h.cl.b4
  have k1 := h.cl.k1
  clear h
  go_enter Try.func40, Try.ntmps40
  go_wp2
  go_ret
  exact ⟨rfl, Below.refl _ _⟩
theorem off_c {B : Nat} {L : Lay} {S : St} (w : World) (h : PB B L S w) : Calls Try.prog 23 #[.pointer (some ⟨L.b, 0, none⟩)] w fun e w' => e = .returned (.tuple #[.int .i64 S.off, .int .i64 S.code]) ∧ Below w.heap.size w w' := by
  have b1 := h.cl.b1
  have p0 := h.cl.p0
  have p1 := h.cl.p1
  clear h
  go_enter Try.func23, Try.ntmps23
  go_wp2
  go_quiet (fail)
  go_wp2
  go_ret2
  exact ⟨rfl, drewN_below w _⟩
set_option maxHeartbeats 1000000 in
theorem waits_c {B q : Nat} {vi : Value} {inp : List Int} {ov : Bool} (w : World) (hq : w.heap[q]? = some (.cells #[.int .i32 0, .int .u32 0, vi, .bool ov] 109 (0, 0))) (hv : w.ownsRow B 5 1 vi inp.length (bv inp)) :
    Calls Try.prog 66 #[.pointer (some ⟨q, 0, none⟩)] w fun e w' => e = .returned (.bool (decide (0 < inp.length))) ∧ Below w.heap.size w w' := by
  have c0 : w.cell? ⟨q, 0, none⟩ = some (.int .i32 0) := cell_of_row w q 0 _ _ _ hq
  have f0 : w.frozen? ⟨q, 0, none⟩ = false := frozen_of_row w q 0 _ _ hq
  obtain ⟨w1, hw1⟩ : ∃ w1, w1 = w.setCell ⟨q, 0, none⟩ (.int .i32 1) := ⟨_, rfl⟩
  have hq1 : w1.heap[q]? = some (.cells #[.int .i32 1, .int .u32 0, vi, .bool ov] 109 (0, 0)) := by rw [hw1]; exact heap_setCell_same w q 0 _ _ _ hq
  have d2 : w1.cell? ⟨q, 2, none⟩ = some vi := cell_of_row w1 q 2 _ _ _ hq1
  have HLK := (lock_free muLib ⟨q, 0, none⟩ w c0 f0)
  rw [← hw1] at HLK
  have HQ1 : Hid (w1.heap[q]? = some (.cells #[.int .i32 1, .int .u32 0, vi, .bool ov] 109 (0, 0))) := hq1
  have HQ : Hid (w.heap[q]? = some (.cells #[.int .i32 0, .int .u32 0, vi, .bool ov] 109 (0, 0))) := hq
  have HW1 : Hid (w1 = w.setCell ⟨q, 0, none⟩ (.int .i32 1)) := hw1
  obtain ⟨ai, ci, ei, _⟩ := Byt.of_own hv
  obtain ⟨b, hb⟩ : ∃ b, b = decide (0 < inp.length) := ⟨_, rfl⟩
  rw [← hb]
  have HE : Hid (b = decide (0 < inp.length)) := hb
  subst ei
  clear hw1 hq1 hq hv hb
  go_enter_defers Try.func66, Try.ntmps66
  go_wp2_with (go_at_call 51; refine HLK.mono ?_; rintro e w' ⟨rfl, rfl⟩)
  refine leaves_cons (f := 52) (args := #[.pointer (some ⟨q, 0, none⟩)]) (by simp) (by simp [go_sem]) ?_
  refine (unlock_deferred muLib ⟨q, 0, none⟩ .returning _ ?_ ?_).mono ?_
  · exact cell_of_row w' q 0 _ _ _ HQ1.out
  · exact frozen_of_row w' q 0 _ _ HQ1.out
  rintro e u' w3 ⟨rfl, rfl, rfl⟩
  exact ⟨_, results_tmp rfl _ _ _, by rw [HE.out]; rfl, below_back HQ.out rfl HW1.out (Below.refl _ _) rfl⟩
theorem and1 : ∀ n : Nat, n < 256 → bits .and .u8 (n : Int) 1 = ((n % 2 : Nat) : Int) := by decide +kernel
/-- The console's line. -/
def lineB (S : St) : Bool := (S.ier % 2 == 1) && decide (0 < S.inp.length)
set_option maxHeartbeats 1000000 in
theorem line_c {B : Nat} {L : Lay} {S : St} (w : World) (h : PB B L S w) (hi : 0 ≤ S.ier ∧ S.ier ≤ 255) : Calls Try.prog 56 #[.pointer (some ⟨L.u, 0, none⟩)] w fun e w' => e = .returned (.bool (lineB S)) ∧ Below w.heap.size w w' := by
  have u0 := h.cl.u0
  have u4 := h.cl.u4
  have HWT := waits_c w h.hq h.wi
  have e1 : bits .and .u8 S.ier 1 = S.ier % 2 := by
    have := and1 S.ier.toNat (by omega)
    rw [Int.toNat_of_nonneg hi.1] at this
    rw [this]; omega
  obtain ⟨b, hb⟩ : ∃ b, b = lineB S := ⟨_, rfl⟩
  rw [← hb]
  have HE : Hid (b = ((S.ier % 2 == 1) && decide (0 < S.inp.length))) := hb
  generalize decide (0 < S.inp.length) = q at HWT HE
  clear hb h
  rcases Bool.eq_false_or_eq_true (S.ier % 2 != 0) with h1 | h1
  · have HX : Hid (b = q) := by unfold Hid; rw [HE.out, show (S.ier % 2 == 1) = true by simp at h1 ⊢; omega]; rfl
    go_enter Try.func56, Try.ntmps56
    go_wp2_with (go_at_call 66; refine HWT.mono ?_; rintro e w1 ⟨rfl, hb1⟩)
    go_ret
    exact ⟨by cases HX.out; rfl, hb1⟩
  · have HX : Hid (b = false) := by unfold Hid; rw [HE.out, show (S.ier % 2 == 1) = false by simp at h1 ⊢; omega]; rfl
    go_enter Try.func56, Try.ntmps56
    go_wp2
    go_ret
    exact ⟨by cases HX.out; rfl, Below.refl _ _⟩
/-- The interrupts that are pending. -/
def mipOf (S : St) : Int := (if S.msip = 1 ∨ S.soft = true then 8 else 0) + (if S.cmp ≤ S.time then 128 else 0) + (if S.ext = true ∨ lineB S = true then 2048 else 0)
set_option maxRecDepth 100000 in
set_option maxHeartbeats 4000000 in
theorem mip_c {B : Nat} {L : Lay} {S : St} (w : World) (h : PB B L S w) (hi : 0 ≤ S.ier ∧ S.ier ≤ 255) : Calls Try.prog 38 #[.pointer (some ⟨L.b, 0, none⟩)] w fun e w' => e = .returned (.int .u64 (mipOf S)) ∧ Below w.heap.size w w' := by
  have P1 : Hid (∀ k, PB B L S (w.drewN k)) := fun k => h.later (drewN_below w k)
  have c := h.cl
  have b2 := c.b2
  have b3 := c.b3
  have b4 := c.b4
  have b5 := c.b5
  have b6 := c.b6
  have b7 := c.b7
  have s0 := c.s0
  have c1 := c.c1
  have k1 := c.k1
  have HLN : Hid (∀ k, Calls Try.prog 56 #[.pointer (some ⟨L.u, 0, none⟩)] (w.drewN k) fun e w' => e = .returned (.bool (lineB S)) ∧ Below w.heap.size w w') := fun k => (line_c (w.drewN k) (P1.out k) hi).mono fun e w' ⟨h1, h2⟩ => ⟨h1, (drewN_below w k).trans (h2.mono (drewN_below w k).size)⟩
  obtain ⟨m, hm⟩ : ∃ m, m = mipOf S := ⟨_, rfl⟩
  rw [← hm]
  have HM : Hid (m = (if S.msip = 1 ∨ S.soft = true then 8 else 0) + (if S.cmp ≤ S.time then 128 else 0) + (if S.ext = true ∨ lineB S = true then 2048 else 0)) := hm
  generalize lineB S = ln at HLN HM
  clear hm h c P1 hi
  by_cases hms : S.msip = 1
  · have e1 : (S.msip == 1) = true := by simpa using hms
    have hA : (S.msip = 1 ∨ S.soft = true) := .inl hms
    by_cases hT : S.cmp ≤ S.time
    · cases hex : S.ext with
      | true =>
        rw [hex] at b6
        have hL : (S.ext = true ∨ ln = true) := .inl hex
        have HX : Hid (m = 2184) := by unfold Hid; rw [HM.out]; simp [hA, hT, hL]
        clear HM
        go_enter Try.func38, Try.ntmps38
        go_wp2
        go_quiet (fail)
        go_wp2
        go_ret
        exact ⟨by rw [HX.out]; rfl, drewN_below w _⟩
      | false =>
        rw [hex] at b6
        cases hln : ln with
        | true =>
          rw [hln] at HLN
          have hL : (S.ext = true ∨ ln = true) := .inr hln
          have HX : Hid (m = 2184) := by unfold Hid; rw [HM.out]; simp [hA, hT, hL]
          clear HM
          go_enter Try.func38, Try.ntmps38
          go_wp2
          go_quiet (fail)
          go_wp2_with (go_at_call 56; refine (HLN.out _).mono ?_; rintro e w1 ⟨rfl, hb1⟩)
          go_ret
          exact ⟨by rw [HX.out]; rfl, hb1⟩
        | false =>
          rw [hln] at HLN
          have hL : ¬ (S.ext = true ∨ ln = true) := by rw [hex, hln]; simp
          have HX : Hid (m = 136) := by unfold Hid; rw [HM.out]; simp [hA, hT, hL]
          clear HM
          go_enter Try.func38, Try.ntmps38
          go_wp2
          go_quiet (fail)
          go_wp2_with (go_at_call 56; refine (HLN.out _).mono ?_; rintro e w1 ⟨rfl, hb1⟩)
          go_ret
          exact ⟨by rw [HX.out]; rfl, hb1⟩
    · have hT2 : S.time < S.cmp := by omega
      cases hex : S.ext with
      | true =>
        rw [hex] at b6
        have hL : (S.ext = true ∨ ln = true) := .inl hex
        have HX : Hid (m = 2056) := by unfold Hid; rw [HM.out]; simp [hA, hT, hL]
        clear HM
        go_enter Try.func38, Try.ntmps38
        go_wp2
        go_quiet (fail)
        go_wp2
        go_ret
        exact ⟨by rw [HX.out]; rfl, drewN_below w _⟩
      | false =>
        rw [hex] at b6
        cases hln : ln with
        | true =>
          rw [hln] at HLN
          have hL : (S.ext = true ∨ ln = true) := .inr hln
          have HX : Hid (m = 2056) := by unfold Hid; rw [HM.out]; simp [hA, hT, hL]
          clear HM
          go_enter Try.func38, Try.ntmps38
          go_wp2
          go_quiet (fail)
          go_wp2_with (go_at_call 56; refine (HLN.out _).mono ?_; rintro e w1 ⟨rfl, hb1⟩)
          go_ret
          exact ⟨by rw [HX.out]; rfl, hb1⟩
        | false =>
          rw [hln] at HLN
          have hL : ¬ (S.ext = true ∨ ln = true) := by rw [hex, hln]; simp
          have HX : Hid (m = 8) := by unfold Hid; rw [HM.out]; simp [hA, hT, hL]
          clear HM
          go_enter Try.func38, Try.ntmps38
          go_wp2
          go_quiet (fail)
          go_wp2_with (go_at_call 56; refine (HLN.out _).mono ?_; rintro e w1 ⟨rfl, hb1⟩)
          go_ret
          exact ⟨by rw [HX.out]; rfl, hb1⟩
  · have e1 : (S.msip == 1) = false := by simpa using hms
    cases hsf : S.soft with
    | true =>
      rw [hsf] at b7
      have hA : (S.msip = 1 ∨ S.soft = true) := .inr hsf
      by_cases hT : S.cmp ≤ S.time
      · cases hex : S.ext with
        | true =>
          rw [hex] at b6
          have hL : (S.ext = true ∨ ln = true) := .inl hex
          have HX : Hid (m = 2184) := by unfold Hid; rw [HM.out]; simp [hA, hT, hL]
          clear HM
          go_enter Try.func38, Try.ntmps38
          go_wp2
          go_quiet (fail)
          go_wp2
          go_ret
          exact ⟨by rw [HX.out]; rfl, drewN_below w _⟩
        | false =>
          rw [hex] at b6
          cases hln : ln with
          | true =>
            rw [hln] at HLN
            have hL : (S.ext = true ∨ ln = true) := .inr hln
            have HX : Hid (m = 2184) := by unfold Hid; rw [HM.out]; simp [hA, hT, hL]
            clear HM
            go_enter Try.func38, Try.ntmps38
            go_wp2
            go_quiet (fail)
            go_wp2_with (go_at_call 56; refine (HLN.out _).mono ?_; rintro e w1 ⟨rfl, hb1⟩)
            go_ret
            exact ⟨by rw [HX.out]; rfl, hb1⟩
          | false =>
            rw [hln] at HLN
            have hL : ¬ (S.ext = true ∨ ln = true) := by rw [hex, hln]; simp
            have HX : Hid (m = 136) := by unfold Hid; rw [HM.out]; simp [hA, hT, hL]
            clear HM
            go_enter Try.func38, Try.ntmps38
            go_wp2
            go_quiet (fail)
            go_wp2_with (go_at_call 56; refine (HLN.out _).mono ?_; rintro e w1 ⟨rfl, hb1⟩)
            go_ret
            exact ⟨by rw [HX.out]; rfl, hb1⟩
      · have hT2 : S.time < S.cmp := by omega
        cases hex : S.ext with
        | true =>
          rw [hex] at b6
          have hL : (S.ext = true ∨ ln = true) := .inl hex
          have HX : Hid (m = 2056) := by unfold Hid; rw [HM.out]; simp [hA, hT, hL]
          clear HM
          go_enter Try.func38, Try.ntmps38
          go_wp2
          go_quiet (fail)
          go_wp2
          go_ret
          exact ⟨by rw [HX.out]; rfl, drewN_below w _⟩
        | false =>
          rw [hex] at b6
          cases hln : ln with
          | true =>
            rw [hln] at HLN
            have hL : (S.ext = true ∨ ln = true) := .inr hln
            have HX : Hid (m = 2056) := by unfold Hid; rw [HM.out]; simp [hA, hT, hL]
            clear HM
            go_enter Try.func38, Try.ntmps38
            go_wp2
            go_quiet (fail)
            go_wp2_with (go_at_call 56; refine (HLN.out _).mono ?_; rintro e w1 ⟨rfl, hb1⟩)
            go_ret
            exact ⟨by rw [HX.out]; rfl, hb1⟩
          | false =>
            rw [hln] at HLN
            have hL : ¬ (S.ext = true ∨ ln = true) := by rw [hex, hln]; simp
            have HX : Hid (m = 8) := by unfold Hid; rw [HM.out]; simp [hA, hT, hL]
            clear HM
            go_enter Try.func38, Try.ntmps38
            go_wp2
            go_quiet (fail)
            go_wp2_with (go_at_call 56; refine (HLN.out _).mono ?_; rintro e w1 ⟨rfl, hb1⟩)
            go_ret
            exact ⟨by rw [HX.out]; rfl, hb1⟩
    | false =>
      rw [hsf] at b7
      have hA : ¬ (S.msip = 1 ∨ S.soft = true) := by rw [hsf]; simp [hms]
      by_cases hT : S.cmp ≤ S.time
      · cases hex : S.ext with
        | true =>
          rw [hex] at b6
          have hL : (S.ext = true ∨ ln = true) := .inl hex
          have HX : Hid (m = 2176) := by unfold Hid; rw [HM.out]; simp [hA, hT, hL]
          clear HM
          go_enter Try.func38, Try.ntmps38
          go_wp2
          go_quiet (fail)
          go_wp2
          go_ret
          exact ⟨by rw [HX.out]; rfl, drewN_below w _⟩
        | false =>
          rw [hex] at b6
          cases hln : ln with
          | true =>
            rw [hln] at HLN
            have hL : (S.ext = true ∨ ln = true) := .inr hln
            have HX : Hid (m = 2176) := by unfold Hid; rw [HM.out]; simp [hA, hT, hL]
            clear HM
            go_enter Try.func38, Try.ntmps38
            go_wp2
            go_quiet (fail)
            go_wp2_with (go_at_call 56; refine (HLN.out _).mono ?_; rintro e w1 ⟨rfl, hb1⟩)
            go_ret
            exact ⟨by rw [HX.out]; rfl, hb1⟩
          | false =>
            rw [hln] at HLN
            have hL : ¬ (S.ext = true ∨ ln = true) := by rw [hex, hln]; simp
            have HX : Hid (m = 128) := by unfold Hid; rw [HM.out]; simp [hA, hT, hL]
            clear HM
            go_enter Try.func38, Try.ntmps38
            go_wp2
            go_quiet (fail)
            go_wp2_with (go_at_call 56; refine (HLN.out _).mono ?_; rintro e w1 ⟨rfl, hb1⟩)
            go_ret
            exact ⟨by rw [HX.out]; rfl, hb1⟩
      · have hT2 : S.time < S.cmp := by omega
        cases hex : S.ext with
        | true =>
          rw [hex] at b6
          have hL : (S.ext = true ∨ ln = true) := .inl hex
          have HX : Hid (m = 2048) := by unfold Hid; rw [HM.out]; simp [hA, hT, hL]
          clear HM
          go_enter Try.func38, Try.ntmps38
          go_wp2
          go_quiet (fail)
          go_wp2
          go_ret
          exact ⟨by rw [HX.out]; rfl, drewN_below w _⟩
        | false =>
          rw [hex] at b6
          cases hln : ln with
          | true =>
            rw [hln] at HLN
            have hL : (S.ext = true ∨ ln = true) := .inr hln
            have HX : Hid (m = 2048) := by unfold Hid; rw [HM.out]; simp [hA, hT, hL]
            clear HM
            go_enter Try.func38, Try.ntmps38
            go_wp2
            go_quiet (fail)
            go_wp2_with (go_at_call 56; refine (HLN.out _).mono ?_; rintro e w1 ⟨rfl, hb1⟩)
            go_ret
            exact ⟨by rw [HX.out]; rfl, hb1⟩
          | false =>
            rw [hln] at HLN
            have hL : ¬ (S.ext = true ∨ ln = true) := by rw [hex, hln]; simp
            have HX : Hid (m = 0) := by unfold Hid; rw [HM.out]; simp [hA, hT, hL]
            clear HM
            go_enter Try.func38, Try.ntmps38
            go_wp2
            go_quiet (fail)
            go_wp2_with (go_at_call 56; refine (HLN.out _).mono ?_; rintro e w1 ⟨rfl, hb1⟩)
            go_ret
            exact ⟨by rw [HX.out]; rfl, hb1⟩
theorem isRam_c {B : Nat} {L : Lay} {S : St} (w : World) (h : PB B L S w) (hn : S.ram.length ≤ 65536) (a z : Int) (ha : 0 ≤ a ∧ a ≤ 18446744073709551615) (hz : -9223372036854775808 ≤ z ∧ z ≤ 9223372036854775807) :
    Calls Try.prog 35 #[.pointer (some ⟨L.b, 0, none⟩), .int .u64 a, .int .i64 z] w fun e w' => e = .returned (.bool (decide (1 ≤ z) && hld S.ram.length a z)) ∧ Below w.heap.size w w' := by
  have b0 := h.cl.b0
  obtain ⟨ar, cr, er, _⟩ := Byt.of_own h.wr
  have HH := holds_c L.m S.ram.length cr ar a z w (by rw [← er]; exact h.cl.m0) hn ha hz
  obtain ⟨b, hb⟩ : ∃ b, b = (decide (1 ≤ z) && hld S.ram.length a z) := ⟨_, rfl⟩
  rw [← hb]
  have HE : Hid (b = (decide (1 ≤ z) && hld S.ram.length a z)) := hb
  generalize hld S.ram.length a z = q at HH HE
  clear h er hb
  rcases Int.lt_or_le z 1 with h1 | h1
  · have HX : Hid (b = false) := by unfold Hid; rw [HE.out, show decide (1 ≤ z) = false from decide_eq_false (by omega)]; rfl
    go_enter Try.func35, Try.ntmps35
    go_wp2
    go_ret
    exact ⟨by cases HX.out; rfl, Below.refl _ _⟩
  · have HX : Hid (b = q) := by unfold Hid; rw [HE.out, show decide (1 ≤ z) = true from decide_eq_true h1]; rfl
    go_enter Try.func35, Try.ntmps35
    go_wp2_with (go_at_call 29; refine HH.mono ?_; rintro e w1 ⟨rfl, hb1⟩)
    go_ret
    exact ⟨by cases HX.out; rfl, hb1⟩
theorem can_c {B : Nat} {L : Lay} {S : St} (w : World) (h : PB B L S w) (hn : S.ram.length ≤ 65536) (a z k : Int) (ha : 0 ≤ a ∧ a ≤ 18446744073709551615) (hz : -9223372036854775808 ≤ z ∧ z ≤ 9223372036854775807) :
    Calls Try.prog 33 #[.pointer (some ⟨L.b, 0, none⟩), .int .u64 a, .int .i64 z, .int .i64 k] w fun e w' => e = .returned (.bool (decide (1 ≤ k ∧ k ≤ 3) && decide (fnd S.ram.length a z < 6))) ∧ Below w.heap.size w w' := by
  have HF := find_c w h hn a z ha hz
  obtain ⟨b, hb⟩ : ∃ b, b = (decide (1 ≤ k ∧ k ≤ 3) && decide (fnd S.ram.length a z < 6)) := ⟨_, rfl⟩
  rw [← hb]
  have HE : Hid (b = (decide (1 ≤ k ∧ k ≤ 3) && decide (fnd S.ram.length a z < 6))) := hb
  generalize fnd S.ram.length a z = q at HF HE
  generalize dvOf L q = dv at HF
  clear h hb
  by_cases h1 : k = 1
  · subst h1
    have HX : Hid (b = decide (q < 6)) := by unfold Hid; rw [HE.out]; simp
    clear HE
    go_enter Try.func33, Try.ntmps33
    go_wp2_with (go_at_call 32; refine HF.mono ?_; rintro e w1 ⟨rfl, hb1⟩)
    go_ret
    exact ⟨by cases HX.out; rfl, hb1⟩
  by_cases h2 : k = 2
  · subst h2
    have HX : Hid (b = decide (q < 6)) := by unfold Hid; rw [HE.out]; simp
    clear HE
    go_enter Try.func33, Try.ntmps33
    go_wp2_with (go_at_call 32; refine HF.mono ?_; rintro e w1 ⟨rfl, hb1⟩)
    go_ret
    exact ⟨by cases HX.out; rfl, hb1⟩
  by_cases h3 : k = 3
  · subst h3
    have HX : Hid (b = decide (q < 6)) := by unfold Hid; rw [HE.out]; simp
    clear HE
    go_enter Try.func33, Try.ntmps33
    go_wp2_with (go_at_call 32; refine HF.mono ?_; rintro e w1 ⟨rfl, hb1⟩)
    go_ret
    exact ⟨by cases HX.out; rfl, hb1⟩
  have e1 : (k == 1) = false := by simpa using h1
  have e2 : (k == 2) = false := by simpa using h2
  have e3 : (k == 3) = false := by simpa using h3
  have HX : Hid (b = false) := by unfold Hid; rw [HE.out, show decide (1 ≤ k ∧ k ≤ 3) = false from decide_eq_false (by omega)]; rfl
  clear HE
  go_enter Try.func33, Try.ntmps33
  go_wp2
  go_ret
  exact ⟨by cases HX.out; rfl, Below.refl _ _⟩
end Go.Proofs.Ytghiabdkgfhdbaa
