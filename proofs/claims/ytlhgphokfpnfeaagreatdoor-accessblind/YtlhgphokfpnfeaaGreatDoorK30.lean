import Derived.Test.YtlhgphokfpnfeaaGreatDoorK28
namespace Go.Proofs.YtlhgphokfpnfeaaGreatDoor
set_option linter.unusedVariables false
open Go.MuLone Go.ChangeShapes Go.WideShapes Go.ChangeAt Go.RowKit Go.Deep
/-- What the bus has for an act. -/
def thA (S : St) (a : Acd) : Bool := if a.kd = 2 then thr S false 1 a.ad a.sz else if a.kd = 3 then thr S false 2 a.ad a.sz else thr S true 0 a.ad (wdt a)
set_option maxRecDepth 100000 in
set_option maxHeartbeats 2000000 in
theorem lthere_c {B : Nat} {L : Lay} {S : St} (w : World) (h : PB B L S w) (hs : Sok S) (a : Acd) (hz : 1 ≤ wdt a ∧ wdt a ≤ 8) :
    Calls Tryz.prog 13 #[.pointer (some ⟨L.b, 0, none⟩), .agg (acc a)] w fun e w' => e = .returned (.bool (thA S a)) ∧ Below w.heap.size w w' := by
  obtain ⟨W0, hW0, r0, b0, s0⟩ := start1 w (acc a) 45
  have c0 : W0.cell? ⟨w.heap.size, 0, none⟩ = some (.int .i64 a.kd) := r0.out.cell 0
  have c1 : W0.cell? ⟨w.heap.size, 1, none⟩ = some (.int .i64 a.sz) := r0.out.cell 1
  have c3 : W0.cell? ⟨w.heap.size, 3, none⟩ = some (.int .u64 (n64 a.ad)) := r0.out.cell 3
  have HP : Hid (PB B L S W0) := h.later b0.out
  have hltY : Hid (w.heap.size < W0.heap.size) := r0.out.lt
  have HLY : Hid (∀ j v, (acc a)[j]? = some v → W0.cell? ⟨w.heap.size, 0 + j, none⟩ = some v) := r0.out.agg
  have hlY : ∀ x : Later W0, x.1.cell? ⟨w.heap.size, 3, none⟩ = some (.int .u64 (n64 a.ad)) := fun x9 => (x9.below.cell (p := ⟨w.heap.size, 3, none⟩) hltY.out).trans c3
  have HWD : Hid (∀ W, Calls Tryz.prog 11 #[.agg (acc a)] W fun e w' => e = .returned (.int .i64 (wdt a)) ∧ Below W.heap.size W w') := fun W => width_c a W
  have H1 : Hid (∀ W, Below W0.heap.size W0 W → Calls Tryz.prog 35 #[.pointer (some ⟨L.b, 0, none⟩), .int .u64 (n64 a.ad), .int .i64 (wdt a)] W fun e w' => e = .returned (.bool (decide (1 ≤ wdt a) && hld S.ram.length (n64 a.ad) (wdt a))) ∧ Below W.heap.size W w') := fun W hb => isRam_c W (HP.out.later hb) hs.n.1 _ _ ⟨n64_lo _, n64_hi _⟩ (by omega)
  have H2 : Hid (a.kd ≠ 6 → ∀ k : Int, Calls Tryz.prog 34 #[.pointer (some ⟨L.b, 0, none⟩), .int .u64 (n64 a.ad), .int .i64 a.sz, .int .i64 k] W0 fun e w' => e = .returned (.bool (decide (1 ≤ k ∧ k ≤ 3) && decide (fnd S.ram.length (n64 a.ad) a.sz < 6))) ∧ Below W0.heap.size W0 w') := fun h6 k => can_c W0 HP.out hs.n.1 _ _ k ⟨n64_lo _, n64_hi _⟩ (by unfold wdt at hz; rw [if_neg h6] at hz; omega)
  have HB : Hid (Below w.heap.size w W0) := b0
  generalize hwd : wdt a = wd at H1 HWD hz
  have HTA : Hid (thA S a = if a.kd = 2 then (decide ((1 : Int) ≤ 1 ∧ (1 : Int) ≤ 3) && decide (fnd S.ram.length (n64 a.ad) a.sz < 6)) else if a.kd = 3 then (decide ((1 : Int) ≤ 2 ∧ (2 : Int) ≤ 3) && decide (fnd S.ram.length (n64 a.ad) a.sz < 6)) else (decide (1 ≤ wd) && hld S.ram.length (n64 a.ad) wd)) := by unfold Hid thA thr; rw [hwd]; simp only [if_true, if_neg (show ¬ (false = true) by decide)]
  generalize (decide (1 ≤ wd) && hld S.ram.length (n64 a.ad) wd) = x1 at H1 HTA
  clear s0 h hs HP b0 hwd hz
  by_cases h2 : a.kd = 2
  · have HC := H2.out (by omega) 1
    generalize (decide ((1 : Int) ≤ 1 ∧ (1 : Int) ≤ 3) && decide (fnd S.ram.length (n64 a.ad) a.sz < 6)) = x2 at HTA HC
    have HCC : Hid (Calls Tryz.prog 34 #[.pointer (some ⟨L.b, 0, none⟩), .int .u64 (n64 a.ad), .int .i64 a.sz, .int .i64 1] W0 fun e w' => e = .returned (.bool x2) ∧ Below W0.heap.size W0 w') := HC
    have HX : Hid (thA S a = x2) := by unfold Hid; rw [HTA.out, if_pos h2]
    rw [h2] at c0
    generalize thA S a = tt at HX ⊢
    clear H2 HTA HC H1
    go_enter Tryz.func13, Tryz.ntmps13
    go_upto_region 1 with fail
    clear hW0
    go_wp2_with (go_at_call 34; refine HCC.out.mono ?_; rintro e w1 ⟨rfl, hb1⟩; have HB1 : Hid (Below W0.heap.size W0 w1) := hb1; clear hb1)
    go_ret
    exact ⟨by rw [HX.out]; rfl, HB.out.trans (HB1.out.mono HB.out.size)⟩
  by_cases h3 : a.kd = 3
  · have HC := H2.out (by omega) 2
    generalize (decide ((1 : Int) ≤ 2 ∧ (2 : Int) ≤ 3) && decide (fnd S.ram.length (n64 a.ad) a.sz < 6)) = x2 at HTA HC
    have HCC : Hid (Calls Tryz.prog 34 #[.pointer (some ⟨L.b, 0, none⟩), .int .u64 (n64 a.ad), .int .i64 a.sz, .int .i64 2] W0 fun e w' => e = .returned (.bool x2) ∧ Below W0.heap.size W0 w') := HC
    have HX : Hid (thA S a = x2) := by unfold Hid; rw [HTA.out, if_neg h2, if_pos h3]
    rw [h3] at c0
    generalize thA S a = tt at HX ⊢
    clear H2 HTA HC H1
    go_enter Tryz.func13, Tryz.ntmps13
    go_upto_region 1 with fail
    clear hW0
    go_wp2_with (go_at_call 34; refine HCC.out.mono ?_; rintro e w1 ⟨rfl, hb1⟩; have HB1 : Hid (Below W0.heap.size W0 w1) := hb1; clear hb1)
    go_ret
    exact ⟨by rw [HX.out]; rfl, HB.out.trans (HB1.out.mono HB.out.size)⟩
  have HX : Hid (thA S a = x1) := by unfold Hid; rw [HTA.out, if_neg h2, if_neg h3]
  have e2 : (a.kd == 2) = false := by rw [beq_eq_false_iff_ne]; exact h2
  have e3 : (a.kd == 3) = false := by rw [beq_eq_false_iff_ne]; exact h3
  generalize thA S a = tt at HX ⊢
  clear H2 HTA h2 h3
  go_enter Tryz.func13, Tryz.ntmps13
  go_upto_region 1 with fail
  clear hW0
  go_upto_region 6 with fail
  have := later_nonempty W0
  refine wp_region_later (x0 := Later.start W0) (by kernel_rfl) (by kernel_rfl) ?_
  repeat (first | (refine BigFrame.wpQuiet_want (by rfl) fun KK hK => ?_; refine quiet_load_agg 45 _ (by rfl) w.heap.size 0 (by rfl) (acc a) _ hltY.out HLY.out Tryz.underlying45 (by rfl) (info_act _) (hK _ ?_); clear hK KK; simp only [Act.put, List.setIfInBounds_toArray, List.set_cons_succ, List.set_cons_zero]) | (go_big_quiet_step (first | (go_at_call 11; exact calls_later (HWD.out _)) | (go_at_call 35; exact calls_later (H1.out _ (Later.below _))))))
  refine wpQuiet_nil ?_
  rintro w' ⟨x9, rfl⟩
  go_wp2
  go_ret
  exact ⟨by rw [HX.out]; rfl, HB.out.trans (x9.below.mono HB.out.size)⟩
/-- The trap of an act that may be of its size. -/
def ordT (S : St) (c : Nat → BitVec 8) (a : Nat → BitVec 64) (m : Int) (y : Acd) (ca r : Int) (z : Int) : Tp := if n64 y.ad % z = 0 then (if ckA (PC c) (PA a) m y.ad z r = true ∧ thA S y = true then tN else tS (ca + 1) y.ad) else tS ca y.ad
theorem ord_2 {S : St} {K : Cp} {a : Acd} {z : Nat} (hp : PR K = K) (hk : a.kd = 2) (hz : wid4 z) (e : a.sz = z) : (DO S K a).1.t = ordT S K.c K.a (xE K) a 4 1 z := by
  unfold DO
  rw [if_neg (by omega), if_pos hk]
  show (PL S (wL 0 (PR K) a.ad) a.sz none).t = _
  rw [PL_at hz e, MV_t, hp]
  have et : thA S a = thr S false 1 a.ad z := by unfold thA; rw [if_pos hk, e]
  unfold ordT
  rw [et]
  rfl
theorem ord_3 {S : St} {K : Cp} {a : Acd} {z : Nat} (hp : PR K = K) (hk : a.kd = 3) (hz : wid4 z) (e : a.sz = z) : (DO S K a).1.t = ordT S K.c K.a (xE K) a 6 2 z := by
  unfold DO
  rw [if_neg (by omega), if_neg (by omega), if_pos hk]
  show (PL S (wS 0 (PR K) a.ad) a.sz (some fun _ => a.v)).t = _
  rw [PL_at hz e, MV_t, hp]
  have et : thA S a = thr S false 2 a.ad z := by unfold thA; rw [if_neg (by omega), if_pos hk, e]
  unfold ordT
  rw [et]
  rfl
theorem ord_4 {S : St} {K : Cp} {a : Acd} {z : Nat} (hp : PR K = K) (hk : a.kd = 4) (hz : z = 4 ∨ z = 8) (e : a.sz = z) : (DO S K a).1.t = ordT S K.c K.a (xE K) a 4 1 z := by
  unfold DO
  rw [if_neg (by omega), if_neg (by omega), if_neg (by omega), if_pos hk]
  show (AT S (wL 0 (PR K) a.ad) a.sz none).t = _
  rw [AT_at (by unfold wid4; omega) e (by omega), MV_t, hp]
  have et : thA S a = thr S true 0 a.ad z := by unfold thA wdt; rw [if_neg (by omega), if_neg (by omega), if_neg (by omega), e]
  unfold ordT
  rw [et]
  rfl
theorem ord_5 {S : St} {K : Cp} {a : Acd} {z : Nat} (hp : PR K = K) (hk : a.kd = 5) (hz : z = 4 ∨ z = 8) (e : a.sz = z) : (DO S K a).1.t = ordT S K.c K.a (xE K) a 6 2 z := by
  unfold DO
  rw [if_neg (by omega), if_neg (by omega), if_neg (by omega), if_neg (by omega), if_pos hk]
  show (AT S (wS 0 (PR K) a.ad) a.sz (if hel (PR K) a.ad a.sz = true then some (fun _ => a.v) else none)).t = _
  rw [AT_at (by unfold wid4; omega) e (by omega), MV_t, hp]
  have et : thA S a = thr S true 0 a.ad z := by unfold thA wdt; rw [if_neg (by omega), if_neg (by omega), if_neg (by omega), e]
  unfold ordT
  rw [et]
  rfl
theorem ord_6 {S : St} {K : Cp} {a : Acd} {z : Nat} (hp : PR K = K) (hk : a.kd = 6) (e : (z = 4 ∧ 77 ≤ a.op ∧ a.op ≤ 85) ∨ (z = 8 ∧ 88 ≤ a.op ∧ a.op ≤ 96)) : (DO S K a).1.t = ordT S K.c K.a (xE K) a 6 3 z ∧ wdt a = z := by
  have es : amSz a.op = z := by
    unfold amSz
    rcases e with ⟨e, h1, h2⟩ | ⟨e, h1, h2⟩
    · rw [if_pos ⟨h1, h2⟩]; omega
    · rw [if_neg (by omega), if_pos ⟨h1, h2⟩]; omega
  have ew : wdt a = z := by
    unfold wdt
    rw [if_pos hk]
    rcases e with ⟨e, h1, h2⟩ | ⟨e, h1, h2⟩
    · rw [if_neg (by omega)]; omega
    · rw [if_pos (by omega)]; omega
  refine ⟨?_, ew⟩
  unfold DO
  rw [if_neg (by omega), if_neg (by omega), if_neg (by omega), if_neg (by omega), if_neg (by omega), if_pos hk]
  show (AM S (PR K) 0 a.op a.ad a.v).t = _
  unfold AM
  rw [if_neg (by omega), AT_at (z := z) (by unfold wid4; omega) es (by omega), MV_t, hp]
  have et : thA S a = thr S true 0 a.ad z := by unfold thA; rw [if_neg (by omega), if_neg (by omega), ew]
  unfold ordT
  rw [et]
  rfl
theorem bit17 (v : BitVec 64) : (n64 (v >>> 17 &&& 1#64) == 1) = decide (v &&& 131072#64 ≠ 0#64) := by
  have e : v &&& 131072#64 = (v >>> 17 &&& 1#64) <<< 17 := by
    apply BitVec.eq_of_getLsbD_eq
    intro i hi
    rw [BitVec.getLsbD_shiftLeft, BitVec.getLsbD_and, BitVec.getLsbD_and, BitVec.getLsbD_ushiftRight, show (131072#64 : BitVec 64) = BitVec.twoPow 64 17 by decide, show (1#64 : BitVec 64) = BitVec.twoPow 64 0 by decide, BitVec.getLsbD_twoPow, BitVec.getLsbD_twoPow]
    by_cases h : i = 17
    · subst h; simp
    · by_cases h2 : i < 17
      · simp [h2, Ne.symm h]
      · have : ¬ (i - 17 = 0) := by omega
        simp [h2, Ne.symm h, Ne.symm this]
  rw [e]
  have h2 : v >>> 17 &&& 1#64 = 0#64 ∨ v >>> 17 &&& 1#64 = 1#64 := by
    have q : (v >>> 17 &&& 1#64).toNat ≤ 1 := by rw [BitVec.toNat_and]; exact Nat.and_le_right
    have q2 : (v >>> 17 &&& 1#64).toNat = 0 ∨ (v >>> 17 &&& 1#64).toNat = 1 := by omega
    rcases q2 with q2 | q2
    · exact .inl (BitVec.eq_of_toNat_eq q2)
    · exact .inr (BitVec.eq_of_toNat_eq q2)
  rcases h2 with h2 | h2 <;> rw [h2] <;> decide
end Go.Proofs.YtlhgphokfpnfeaaGreatDoor
namespace Go.Proofs.YtlhgphokfpnfeaaGreatDoor
set_option linter.unusedVariables false
open Go.ChangeShapes Go.WideShapes Go.ChangeAt Go.RowKit Go.Deep
theorem eqG_trap (x y : Operand) (u v : Array Value) (w : World) : (eqGuard .neq 48 x y (.agg u) (.agg v)).run Tryz.prog w = .ok () w := by kernel_rfl
theorem eqG_res (x y : Operand) (u v : Array Value) (w : World) : (eqGuard .neq 29 x y (.agg u) (.agg v)).run Tryz.prog w = .ok () w := by kernel_rfl
end Go.Proofs.YtlhgphokfpnfeaaGreatDoor
