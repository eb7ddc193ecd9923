/-
  Iws.
-/
import Derived.Test.YtopddflnahfomaaGreatDoorM36
import Derived.Test.YtopddflnahfomaaGreatDoorM37
namespace Go.Proofs.YtopddflnahfomaaGreatDoor
set_option linter.unusedVariables false
open Go.ChangeShapes Go.WideShapes Go.ChangeAt Go.RowKit Go.Deep
/-- The file of an image. -/
def fl (E : Nat) (L : List Sg) (N : List Sy) (D : Nat → List Int) : List Int := if N.length = 0 then flZ E L D else flA E L N D
theorem ff_all {f : Nat → Int} (n : Nat) : ∀ i, ff f n i = 0 → ∀ j, i ≤ j → j < i + n → f j = 0 := by
  induction n with
  | zero => intro i _ j h1 h2; omega
  | succ n ih =>
    intro i h j h1 h2
    by_cases c : f i = 0
    · have h3 : ff f n (i + 1) = 0 := by rw [ff, if_pos c] at h; exact h
      by_cases e : j = i
      · subst e; exact c
      · exact ih (i + 1) h3 j (by omega) (by omega)
    · rw [ff, if_neg c] at h
      exact absurd h c
theorem ck_zero {E : BitVec 64} {L : List Sg} {N : List Sy} (h : ck E L N = 0) : L.length ≤ 16 ∧ N.length ≤ 400 ∧ szz L N ≤ 200000 ∧ ∀ j, j < L.length → 0 ≤ (sg L j).f ∧ (sg L j).f ≤ 7 := by
  unfold ck at h
  by_cases c1 : E.toNat % 2 = 1
  · rw [if_pos c1] at h; omega
  rw [if_neg c1] at h
  by_cases c2 : 16 < L.length ∨ 400 < N.length
  · rw [if_pos c2] at h; omega
  rw [if_neg c2] at h
  by_cases c3 : ff (pf L) L.length 0 ≠ 0
  · rw [if_pos c3] at h; exact absurd h c3
  rw [if_neg c3] at h
  by_cases c4 : ff (nf N) N.length 0 ≠ 0
  · rw [if_pos c4] at h; exact absurd h c4
  rw [if_neg c4] at h
  by_cases c5 : 200000 < szz L N
  · rw [if_pos c5] at h; omega
  refine ⟨by omega, by omega, by omega, fun j hj => ?_⟩
  have h0 := ff_all L.length 0 (Classical.not_not.1 c3) j (Nat.zero_le _) (by omega)
  unfold pf at h0
  by_cases c6 : (sg L j).s = 0#64 ∨ (sg L j).f < 0 ∨ 7 < (sg L j).f ∨ (sg L j).s.toNat < (sg L j).n ∨ (lastB (sg L j)).toNat < (sg L j).a.toNat
  · rw [if_pos c6] at h0; omega
  · omega
set_option maxRecDepth 100000 in
set_option maxHeartbeats 4000000 in
theorem pwrite_e (E : BitVec 64) (vs vn : Value) (L : List Sg) (N : List Sy) (hl : L.length ≤ 140737488355328) (hn : N.length ≤ 140737488355328) (w : World) (hi : Img w vs vn L N) (hR : ¬ ck E L N = 0) (hT : Hid (Tabs w)) :
    Calls Tryz.prog 6 #[.agg #[.int .u64 (n64 E), vs, vn]] w fun e w' => e = .returned (.tuple #[.slice none 0 0, .int .i64 (ck E L N)]) ∧ Below w.heap.size w w' := by
  have HI : Hid (Img w vs vn L N) := hi
  obtain ⟨sa, sc, rfl, _, _⟩ := hi.segs
  obtain ⟨na, nc, rfl, _, _⟩ := hi.syms
  clear hi
  have HB1 : Hid (Below w.heap.size w (w.alloc (.cells #[.int .u64 (n64 E), .slice sa L.length sc, .slice na N.length nc] 26))) := (Below.refl _ _).alloc (Nat.le_refl _) _
  have k0 : (w.alloc (.cells #[.int .u64 (n64 E), .slice sa L.length sc, .slice na N.length nc] 26)).cell? ⟨w.heap.size, 0, none⟩ = some (.int .u64 (n64 E)) := by simp
  have k1 : (w.alloc (.cells #[.int .u64 (n64 E), .slice sa L.length sc, .slice na N.length nc] 26)).cell? ⟨w.heap.size, 1, none⟩ = some (.slice sa L.length sc) := by simp
  have k2 : (w.alloc (.cells #[.int .u64 (n64 E), .slice sa L.length sc, .slice na N.length nc] 26)).cell? ⟨w.heap.size, 2, none⟩ = some (.slice na N.length nc) := by simp
  have HLt : Hid (w.heap.size < (w.alloc (.cells #[.int .u64 (n64 E), .slice sa L.length sc, .slice na N.length nc] 26)).heap.size) := by unfold Hid; simp
  have HI1 : Hid (Img (w.alloc (.cells #[.int .u64 (n64 E), .slice sa L.length sc, .slice na N.length nc] 26)) (.slice sa L.length sc) (.slice na N.length nc) L N) := HI.out.later HB1.out rfl
  have HT1 : Hid (Tabs (w.alloc (.cells #[.int .u64 (n64 E), .slice sa L.length sc, .slice na N.length nc] 26))) := hT.out.below HB1.out rfl
  obtain ⟨R, hRR⟩ : ∃ R, R = ck E L N := ⟨_, rfl⟩
  have cC : Hid (Calls Tryz.prog 11 #[.agg #[.int .u64 (n64 E), .slice sa L.length sc, .slice na N.length nc]] (w.alloc (.cells #[.int .u64 (n64 E), .slice sa L.length sc, .slice na N.length nc] 26)) fun e w' => e = .returned (.int .i64 R) ∧ Below (w.alloc (.cells #[.int .u64 (n64 E), .slice sa L.length sc, .slice na N.length nc] 26)).heap.size (w.alloc (.cells #[.int .u64 (n64 E), .slice sa L.length sc, .slice na N.length nc] 26)) w') := by unfold Hid; rw [hRR]; exact check_c E _ _ L N hl hn _ HI1.out HT1
  rw [← hRR] at hR ⊢
  clear hRR
  have hR' : (R != 0) = true := by simp [hR]
  go_enter Tryz.func6, Tryz.ntmps6
  go_upto_region 1 with fail
  obtain ⟨Mb, hMb⟩ : ∃ Mb, Mb = w.heap.size := ⟨_, rfl⟩
  rw [← hMb] at k0 k1 k2 HLt ⊢
  have HMb : Hid (Mb = w.heap.size) := hMb
  clear hMb
  generalize (w.alloc (.cells #[.int .u64 (n64 E), .slice sa L.length sc, .slice na N.length nc] 26)) = w1 at *
  have HC0 : Hid (∀ w', Below w1.heap.size w1 w' → w'.cell? ⟨Mb, 0, none⟩ = some (.int .u64 (n64 E)) ∧ w'.cell? ⟨Mb, 1, none⟩ = some (.slice sa L.length sc) ∧ w'.cell? ⟨Mb, 2, none⟩ = some (.slice na N.length nc)) := fun w' hb => ⟨(hb.cell HLt.out).trans k0, (hb.cell HLt.out).trans k1, (hb.cell HLt.out).trans k2⟩
  go_upto_region 2 with (go_at_call 11; refine cC.out.mono ?_; rintro e w2 ⟨rfl, hb⟩; have HB2 : Hid (Below w1.heap.size w1 w2) := hb; clear hb)
  go_wp2
  go_ret2
  exact ⟨rfl, HB1.out.trans (HB2.out.mono HB1.out.size)⟩
set_option maxRecDepth 100000 in
set_option maxHeartbeats 4000000 in
theorem pwrite_a (E : BitVec 64) (vs vn : Value) (L : List Sg) (N : List Sy) (hl : L.length ≤ 140737488355328) (hn : N.length ≤ 140737488355328) (w : World) (hi : Img w vs vn L N) (D : Nat → List Int) (hdt : Dta w L D) (hR : ck E L N = 0) (hn0 : 0 < N.length) (hT : Hid (Tabs w)) :
    Calls Tryz.prog 6 #[.agg #[.int .u64 (n64 E), vs, vn]] w fun e w' => ∃ f n, w.heap.size ≤ f ∧ e = .returned (.tuple #[.slice (some ⟨f, 0, none⟩) n n, .int .i64 0]) ∧ Byo w' f n (fl E.toNat L N D) ∧ Below w.heap.size w w' := by
  have HI : Hid (Img w vs vn L N) := hi
  have HDT : Hid (Dta w L D) := hdt
  obtain ⟨hL, hN, hZ, hF⟩ := ck_zero hR
  have HFF : Hid (∀ j, j < L.length → 0 ≤ (sg L j).f ∧ (sg L j).f ≤ 7) := hF
  have HZ : Hid (szz L N ≤ 200000) := hZ
  have HN0 : Hid (0 < N.length) := hn0
  clear hF hdt hZ hn0
  obtain ⟨sa, sc, rfl, _, _⟩ := hi.segs
  obtain ⟨na, nc, rfl, _, _⟩ := hi.syms
  clear hi
  have HB1 : Hid (Below w.heap.size w (w.alloc (.cells #[.int .u64 (n64 E), .slice sa L.length sc, .slice na N.length nc] 26))) := (Below.refl _ _).alloc (Nat.le_refl _) _
  have k0 : (w.alloc (.cells #[.int .u64 (n64 E), .slice sa L.length sc, .slice na N.length nc] 26)).cell? ⟨w.heap.size, 0, none⟩ = some (.int .u64 (n64 E)) := by simp
  have k1 : (w.alloc (.cells #[.int .u64 (n64 E), .slice sa L.length sc, .slice na N.length nc] 26)).cell? ⟨w.heap.size, 1, none⟩ = some (.slice sa L.length sc) := by simp
  have k2 : (w.alloc (.cells #[.int .u64 (n64 E), .slice sa L.length sc, .slice na N.length nc] 26)).cell? ⟨w.heap.size, 2, none⟩ = some (.slice na N.length nc) := by simp
  have HLt : Hid (w.heap.size < (w.alloc (.cells #[.int .u64 (n64 E), .slice sa L.length sc, .slice na N.length nc] 26)).heap.size) := by unfold Hid; simp
  have HI1 : Hid (Img (w.alloc (.cells #[.int .u64 (n64 E), .slice sa L.length sc, .slice na N.length nc] 26)) (.slice sa L.length sc) (.slice na N.length nc) L N) := HI.out.later HB1.out rfl
  have HT1 : Hid (Tabs (w.alloc (.cells #[.int .u64 (n64 E), .slice sa L.length sc, .slice na N.length nc] 26))) := hT.out.below HB1.out rfl
  obtain ⟨R, hRR⟩ : ∃ R, R = ck E L N := ⟨_, rfl⟩
  have cC : Hid (Calls Tryz.prog 11 #[.agg #[.int .u64 (n64 E), .slice sa L.length sc, .slice na N.length nc]] (w.alloc (.cells #[.int .u64 (n64 E), .slice sa L.length sc, .slice na N.length nc] 26)) fun e w' => e = .returned (.int .i64 R) ∧ Below (w.alloc (.cells #[.int .u64 (n64 E), .slice sa L.length sc, .slice na N.length nc] 26)).heap.size (w.alloc (.cells #[.int .u64 (n64 E), .slice sa L.length sc, .slice na N.length nc] 26)) w') := by unfold Hid; rw [hRR]; exact check_c E _ _ L N hl hn _ HI1.out HT1
  rw [← hRR] at hR
  clear hRR
  have hR' : (R != 0) = false := by simp [hR]
  have HR0 : Hid (R = 0) := hR
  clear hR
  go_enter Tryz.func6, Tryz.ntmps6
  go_upto_region 1 with fail
  obtain ⟨Mb, hMb⟩ : ∃ Mb, Mb = w.heap.size := ⟨_, rfl⟩
  rw [← hMb] at k0 k1 k2 HLt ⊢
  have HMb : Hid (Mb = w.heap.size) := hMb
  clear hMb
  generalize (w.alloc (.cells #[.int .u64 (n64 E), .slice sa L.length sc, .slice na N.length nc] 26)) = w1 at *
  have HC0 : Hid (∀ w', Below w1.heap.size w1 w' → w'.cell? ⟨Mb, 0, none⟩ = some (.int .u64 (n64 E)) ∧ w'.cell? ⟨Mb, 1, none⟩ = some (.slice sa L.length sc) ∧ w'.cell? ⟨Mb, 2, none⟩ = some (.slice na N.length nc)) := fun w' hb => ⟨(hb.cell HLt.out).trans k0, (hb.cell HLt.out).trans k1, (hb.cell HLt.out).trans k2⟩
  go_upto_region 2 with (go_at_call 11; refine cC.out.mono ?_; rintro e w2 ⟨rfl, hb⟩; have HB2 : Hid (Below w1.heap.size w1 w2) := hb; clear hb)
  go_upto_region 4 with fail
  have HBw : Hid (Below w.heap.size w w2) := HB1.out.trans (HB2.out.mono HB1.out.size)
  have HI2 : Hid (∀ w', Below w2.heap.size w2 w' → Img w' (.slice sa L.length sc) (.slice na N.length nc) L N ∧ Dta w' L D) := fun w' hb => ⟨HI.out.later (HBw.out.trans (hb.mono HBw.out.size)) rfl, HDT.out.later (HBw.out.trans (hb.mono HBw.out.size))⟩
  have HC2 : Hid (∀ w', Below w2.heap.size w2 w' → w'.cell? ⟨Mb, 0, none⟩ = some (.int .u64 (n64 E)) ∧ w'.cell? ⟨Mb, 1, none⟩ = some (.slice sa L.length sc) ∧ w'.cell? ⟨Mb, 2, none⟩ = some (.slice na N.length nc)) := fun w' hb => HC0.out w' (HB2.out.trans (hb.mono HB2.out.size))
  clear k0 k1 k2
  go_region_held3 (fun w' => w'.cell? ⟨Mb, 0, none⟩ = some (.int .u64 (n64 E)) ∧ w'.cell? ⟨Mb, 1, none⟩ = some (.slice sa L.length sc) ∧ w'.cell? ⟨Mb, 2, none⟩ = some (.slice na N.length nc)) (first | exact HC2.out _ (Below.refl _ _) | exact HC2.out _ (Below.drew (Below.refl _ _)) | exact HC2.out _ HB3.out | exact HC2.out _ (Below.drew HB3.out) | exact HC2.out _ HB4.out | exact HC2.out _ (Below.drew HB4.out)) (first
    | (go_at_call 13; refine (plan_d E _ _ L N hL hN _ (HI2.out _ (by first | exact Below.refl _ _ | exact Below.drew (Below.refl _ _))).1).mono ?_; rintro e w3 ⟨dv, t1, t2, t3, t4, rfl, hown, hb, hpv⟩; have HOWN : Hid (w3.ownsRow w2.heap.size 3 1 dv L.length (iv (pls L L.length))) := hown.out; have HB3 : Hid (Below w2.heap.size w2 w3) := (by first | exact hb | exact (Below.drew (Below.refl _ _)).trans hb); clear hown hb; (unfold PV at hpv; rw [if_neg (by have := HN0.out; omega)] at hpv; obtain ⟨rfl, rfl, rfl, rfl⟩ := hpv))
    | (go_at_call 12; refine (wfile_a E _ _ _ L N D (tabAt L) (tabAt L + 24 + 24 * N.length) (tabAt L + 24 + 24 * N.length + 1 + nk N N.length) (al (tabAt L + 24 + 24 * N.length + 1 + nk N N.length + 27)) (szz L N) w3 (HI2.out _ HB3.out).1 (HI2.out _ HB3.out).2 w2.heap.size HOWN.out hL hN HN0.out HFF.out rfl HZ.out rfl rfl rfl rfl).mono ?_; rintro e w4 ⟨f, hf, rfl, hby, hb⟩; have HBY : Hid (Byo w4 f (szz L N) (flA E.toNat L N D)) := hby; have HB4 : Hid (Below w2.heap.size w2 w4) := HB3.out.trans (hb.mono HB3.out.size); have HF : Hid (w.heap.size ≤ f) := (Nat.le_trans HBw.out.size (Nat.le_trans HB3.out.size hf)); clear hby hb hf))
  all_goals go_wp2
  all_goals go_ret2
  all_goals exact ⟨f, szz L N, HF.out, rfl, by unfold fl; rw [if_neg (by have := HN0.out; omega)]; exact HBY.out, HBw.out.trans (HB4.out.mono HBw.out.size)⟩
set_option maxRecDepth 100000 in
set_option maxHeartbeats 4000000 in
theorem pwrite_z (E : BitVec 64) (vs vn : Value) (L : List Sg) (N : List Sy) (hl : L.length ≤ 140737488355328) (hn : N.length ≤ 140737488355328) (w : World) (hi : Img w vs vn L N) (D : Nat → List Int) (hdt : Dta w L D) (hR : ck E L N = 0) (hn0 : N.length = 0) (hT : Hid (Tabs w)) :
    Calls Tryz.prog 6 #[.agg #[.int .u64 (n64 E), vs, vn]] w fun e w' => ∃ f n, w.heap.size ≤ f ∧ e = .returned (.tuple #[.slice (some ⟨f, 0, none⟩) n n, .int .i64 0]) ∧ Byo w' f n (fl E.toNat L N D) ∧ Below w.heap.size w w' := by
  have HI : Hid (Img w vs vn L N) := hi
  have HDT : Hid (Dta w L D) := hdt
  obtain ⟨hL, hN, hZ, hF⟩ := ck_zero hR
  have HFF : Hid (∀ j, j < L.length → 0 ≤ (sg L j).f ∧ (sg L j).f ≤ 7) := hF
  have HZ : Hid (szz L N ≤ 200000) := hZ
  have HN0 : Hid (N.length = 0) := hn0
  clear hF hdt hZ hn0
  obtain ⟨sa, sc, rfl, _, _⟩ := hi.segs
  obtain ⟨na, nc, rfl, _, _⟩ := hi.syms
  clear hi
  have HB1 : Hid (Below w.heap.size w (w.alloc (.cells #[.int .u64 (n64 E), .slice sa L.length sc, .slice na N.length nc] 26))) := (Below.refl _ _).alloc (Nat.le_refl _) _
  have k0 : (w.alloc (.cells #[.int .u64 (n64 E), .slice sa L.length sc, .slice na N.length nc] 26)).cell? ⟨w.heap.size, 0, none⟩ = some (.int .u64 (n64 E)) := by simp
  have k1 : (w.alloc (.cells #[.int .u64 (n64 E), .slice sa L.length sc, .slice na N.length nc] 26)).cell? ⟨w.heap.size, 1, none⟩ = some (.slice sa L.length sc) := by simp
  have k2 : (w.alloc (.cells #[.int .u64 (n64 E), .slice sa L.length sc, .slice na N.length nc] 26)).cell? ⟨w.heap.size, 2, none⟩ = some (.slice na N.length nc) := by simp
  have HLt : Hid (w.heap.size < (w.alloc (.cells #[.int .u64 (n64 E), .slice sa L.length sc, .slice na N.length nc] 26)).heap.size) := by unfold Hid; simp
  have HI1 : Hid (Img (w.alloc (.cells #[.int .u64 (n64 E), .slice sa L.length sc, .slice na N.length nc] 26)) (.slice sa L.length sc) (.slice na N.length nc) L N) := HI.out.later HB1.out rfl
  have HT1 : Hid (Tabs (w.alloc (.cells #[.int .u64 (n64 E), .slice sa L.length sc, .slice na N.length nc] 26))) := hT.out.below HB1.out rfl
  obtain ⟨R, hRR⟩ : ∃ R, R = ck E L N := ⟨_, rfl⟩
  have cC : Hid (Calls Tryz.prog 11 #[.agg #[.int .u64 (n64 E), .slice sa L.length sc, .slice na N.length nc]] (w.alloc (.cells #[.int .u64 (n64 E), .slice sa L.length sc, .slice na N.length nc] 26)) fun e w' => e = .returned (.int .i64 R) ∧ Below (w.alloc (.cells #[.int .u64 (n64 E), .slice sa L.length sc, .slice na N.length nc] 26)).heap.size (w.alloc (.cells #[.int .u64 (n64 E), .slice sa L.length sc, .slice na N.length nc] 26)) w') := by unfold Hid; rw [hRR]; exact check_c E _ _ L N hl hn _ HI1.out HT1
  rw [← hRR] at hR
  clear hRR
  have hR' : (R != 0) = false := by simp [hR]
  have HR0 : Hid (R = 0) := hR
  clear hR
  go_enter Tryz.func6, Tryz.ntmps6
  go_upto_region 1 with fail
  obtain ⟨Mb, hMb⟩ : ∃ Mb, Mb = w.heap.size := ⟨_, rfl⟩
  rw [← hMb] at k0 k1 k2 HLt ⊢
  have HMb : Hid (Mb = w.heap.size) := hMb
  clear hMb
  generalize (w.alloc (.cells #[.int .u64 (n64 E), .slice sa L.length sc, .slice na N.length nc] 26)) = w1 at *
  have HC0 : Hid (∀ w', Below w1.heap.size w1 w' → w'.cell? ⟨Mb, 0, none⟩ = some (.int .u64 (n64 E)) ∧ w'.cell? ⟨Mb, 1, none⟩ = some (.slice sa L.length sc) ∧ w'.cell? ⟨Mb, 2, none⟩ = some (.slice na N.length nc)) := fun w' hb => ⟨(hb.cell HLt.out).trans k0, (hb.cell HLt.out).trans k1, (hb.cell HLt.out).trans k2⟩
  go_upto_region 2 with (go_at_call 11; refine cC.out.mono ?_; rintro e w2 ⟨rfl, hb⟩; have HB2 : Hid (Below w1.heap.size w1 w2) := hb; clear hb)
  go_upto_region 4 with fail
  have HBw : Hid (Below w.heap.size w w2) := HB1.out.trans (HB2.out.mono HB1.out.size)
  have HI2 : Hid (∀ w', Below w2.heap.size w2 w' → Img w' (.slice sa L.length sc) (.slice na N.length nc) L N ∧ Dta w' L D) := fun w' hb => ⟨HI.out.later (HBw.out.trans (hb.mono HBw.out.size)) rfl, HDT.out.later (HBw.out.trans (hb.mono HBw.out.size))⟩
  have HC2 : Hid (∀ w', Below w2.heap.size w2 w' → w'.cell? ⟨Mb, 0, none⟩ = some (.int .u64 (n64 E)) ∧ w'.cell? ⟨Mb, 1, none⟩ = some (.slice sa L.length sc) ∧ w'.cell? ⟨Mb, 2, none⟩ = some (.slice na N.length nc)) := fun w' hb => HC0.out w' (HB2.out.trans (hb.mono HB2.out.size))
  clear k0 k1 k2
  go_region_held3 (fun w' => w'.cell? ⟨Mb, 0, none⟩ = some (.int .u64 (n64 E)) ∧ w'.cell? ⟨Mb, 1, none⟩ = some (.slice sa L.length sc) ∧ w'.cell? ⟨Mb, 2, none⟩ = some (.slice na N.length nc)) (first | exact HC2.out _ (Below.refl _ _) | exact HC2.out _ (Below.drew (Below.refl _ _)) | exact HC2.out _ HB3.out | exact HC2.out _ (Below.drew HB3.out) | exact HC2.out _ HB4.out | exact HC2.out _ (Below.drew HB4.out)) (first
    | (go_at_call 13; refine (plan_d E _ _ L N hL hN _ (HI2.out _ (by first | exact Below.refl _ _ | exact Below.drew (Below.refl _ _))).1).mono ?_; rintro e w3 ⟨dv, t1, t2, t3, t4, rfl, hown, hb, hpv⟩; have HOWN : Hid (w3.ownsRow w2.heap.size 3 1 dv L.length (iv (pls L L.length))) := hown.out; have HB3 : Hid (Below w2.heap.size w2 w3) := (by first | exact hb | exact (Below.drew (Below.refl _ _)).trans hb); clear hown hb; (unfold PV at hpv; rw [if_pos HN0.out] at hpv; obtain ⟨rfl, rfl, rfl, rfl⟩ := hpv))
    | (go_at_call 12; refine (wfile_z E _ _ _ L N D 0 0 0 0 (szz L N) w3 (HI2.out _ HB3.out).1 (HI2.out _ HB3.out).2 w2.heap.size HOWN.out hL hN HN0.out HFF.out rfl HZ.out rfl).mono ?_; rintro e w4 ⟨f, hf, rfl, hby, hb⟩; have HBY : Hid (Byo w4 f (szz L N) (flZ E.toNat L D)) := hby; have HB4 : Hid (Below w2.heap.size w2 w4) := HB3.out.trans (hb.mono HB3.out.size); have HF : Hid (w.heap.size ≤ f) := (Nat.le_trans HBw.out.size (Nat.le_trans HB3.out.size hf)); clear hby hb hf))
  all_goals go_wp2
  all_goals go_ret2
  all_goals exact ⟨f, szz L N, HF.out, rfl, by unfold fl; rw [if_pos HN0.out]; exact HBY.out, HBw.out.trans (HB4.out.mono HBw.out.size)⟩
end Go.Proofs.YtopddflnahfomaaGreatDoor
