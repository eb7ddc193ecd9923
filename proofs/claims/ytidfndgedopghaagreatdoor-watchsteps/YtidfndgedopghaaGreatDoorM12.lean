/-
  Csa Qtl.
-/
import Derived.Test.YtidfndgedopghaaGreatDoorM11
import Derived.Test.YtidfndgedopghaaGreatDoorM01
import Derived.StillTailTactics
namespace Go.Proofs.YtidfndgedopghaaGreatDoor
set_option linter.unusedVariables false
open Go.ChangeShapes Go.WideShapes Go.ChangeAt Go.RowKit Go.Deep
theorem stB_alt (v : BitVec 64) : stB v = (if mq v then v &&& ~~~6144#64 else v) &&& 2234504#64 ||| 8589934592#64 := by
  unfold stB
  by_cases h : mq v
  · rw [if_pos ((mq_mask v).2 h), if_pos h, BitVec.and_assoc, BitVec.and_comm (2234504#64), ← BitVec.and_assoc]
  · rw [if_neg (fun q => h ((mq_mask v).1 q)), if_neg h]
set_option maxRecDepth 100000 in
theorem properStatus_c (v : BitVec 64) (w : World) : Calls Tryz.prog 48 #[.int .u64 (n64 v)] w fun e w' => e = .returned (.int .u64 (n64 (stB v))) ∧ w' = w := by
  have HN : Hid (∀ W, Calls Tryz.prog 128 #[.int .u64 (n64 v)] W fun e w' => e = .returned (.bool (nm v)) ∧ w' = W) := namesMode_c v
  rw [stB_alt]
  by_cases h : mq v
  · rw [if_pos h]
    rw [show nm v = false by simp [nm, h]] at HN
    have b0 : bits .andNot .u64 (n64 v) 6144 = n64 (v &&& ~~~6144#64) := n64_andNot v 6144#64
    have b1 : bits .and .u64 (n64 (v &&& ~~~6144#64)) 2234504 = n64 (v &&& ~~~6144#64 &&& 2234504#64) := n64_and _ 2234504#64
    have b2 : bits .or .u64 (n64 (v &&& ~~~6144#64 &&& 2234504#64)) 8589934592 = n64 (v &&& ~~~6144#64 &&& 2234504#64 ||| 8589934592#64) := n64_or _ 8589934592#64
    clear h
    generalize v &&& ~~~6144#64 &&& 2234504#64 ||| 8589934592#64 = r2 at b2 ⊢
    generalize v &&& ~~~6144#64 &&& 2234504#64 = r1 at b1 b2
    generalize v &&& ~~~6144#64 = r0 at b0 b1
    go_enter Tryz.func48, Tryz.ntmps48
    go_wp2_with (go_at_call 128; refine (HN.out _).mono ?_; rintro e w1 ⟨rfl, hw1⟩; subst hw1)
    go_ret
    exact ⟨rfl, rfl⟩
  · rw [if_neg h]
    rw [show nm v = true by simp [nm, h]] at HN
    have b1 : bits .and .u64 (n64 v) 2234504 = n64 (v &&& 2234504#64) := n64_and _ 2234504#64
    have b2 : bits .or .u64 (n64 (v &&& 2234504#64)) 8589934592 = n64 (v &&& 2234504#64 ||| 8589934592#64) := n64_or _ 8589934592#64
    clear h
    generalize v &&& 2234504#64 ||| 8589934592#64 = r2 at b2 ⊢
    generalize v &&& 2234504#64 = r1 at b1 b2
    go_enter Tryz.func48, Tryz.ntmps48
    go_wp2_with (go_at_call 128; refine (HN.out _).mono ?_; rintro e w1 ⟨rfl, hw1⟩; subst hw1)
    go_ret
    exact ⟨rfl, rfl⟩
/-- The cells of a reservation. -/
def rsc (v : Bool) (a : BitVec 64) (s : Int) : Array Value := #[.bool v, .int .u64 (n64 a), .int .i64 s]
set_option maxRecDepth 100000 in
set_option maxHeartbeats 1000000 in
theorem reserves_c (v : Bool) (a : BitVec 64) (s : Int) (w : World) : Calls Tryz.prog 50 #[.agg (rsc v a s)] w fun e w' => e = .returned (.bool (rok v a s)) ∧ Below w.heap.size w w' := by
  rw [rok_t]
  unfold rsc
  have hlo := n64_lo a
  cases v with
  | false =>
    go_enter Tryz.func50, Tryz.ntmps50
    go_wp2
    go_ret
    exact ⟨rfl, (Below.refl _ _).alloc (Nat.le_refl _) _⟩
  | true =>
    by_cases h4 : s = 4
    · subst h4
      have e : (true && ((4 : Int) == 4 && (n64 a).tmod 4 == 0 || (4 : Int) == 8 && (n64 a).tmod 8 == 0)) = ((n64 a).tmod 4 == 0) := by simp
      rw [e]
      clear e
      generalize n64 a = z at *
      go_enter Tryz.func50, Tryz.ntmps50
      go_wp2
      go_ret
      exact ⟨by rw [Int.tmod_eq_emod_of_nonneg hlo]; rfl, (Below.refl _ _).alloc (Nat.le_refl _) _⟩
    · by_cases h8 : s = 8
      · subst h8
        have e : (true && ((8 : Int) == 4 && (n64 a).tmod 4 == 0 || (8 : Int) == 8 && (n64 a).tmod 8 == 0)) = ((n64 a).tmod 8 == 0) := by simp
        rw [e]
        clear e h4
        generalize n64 a = z at *
        go_enter Tryz.func50, Tryz.ntmps50
        go_wp2
        go_ret
        exact ⟨by rw [Int.tmod_eq_emod_of_nonneg hlo]; rfl, (Below.refl _ _).alloc (Nat.le_refl _) _⟩
      · have f4 : (s == 4) = false := by simp [h4]
        have f8 : (s == 8) = false := by simp [h8]
        rw [show (true && (s == 4 && (n64 a).tmod 4 == 0 || s == 8 && (n64 a).tmod 8 == 0)) = false by simp [f4, f8]]
        clear h4 h8
        go_enter Tryz.func50, Tryz.ntmps50
        go_wp2
        go_ret
        exact ⟨rfl, (Below.refl _ _).alloc (Nat.le_refl _) _⟩
theorem Row.res {w : World} {g : Nat} {k : Cp} {t : TypeId} (h : Row w g (cpc k) t) : ∀ j v, (rsc k.rv k.ra k.rs)[j]? = some v → w.cell? ⟨g, 79 + j, none⟩ = some v := fun j v hv => by
  match j, hv with
  | 0, hv => rw [h.cls.rv]; simpa [rsc] using hv
  | 1, hv => rw [h.cls.ra]; simpa [rsc] using hv
  | 2, hv => rw [h.cls.rs]; simpa [rsc] using hv
  | j + 3, hv => simp [rsc] at hv
theorem info_res (v : Bool) (a : BitVec 64) (s : Int) : (Tryz.prog.info? 30).map (·.size) = some (rsc v a s).size := by kernel_rfl
theorem rsc_ones (v : Bool) (a : BitVec 64) (s : Int) : (rsc v a s).all (·.oneCell') = true := by simp [rsc, Value.oneCell']
set_option maxRecDepth 100000 in
set_option maxHeartbeats 2000000 in
theorem Pr_c (k : Cp) (w : World) : Calls Tryz.prog 23 #[.agg (cpc k)] w fun e w' => e = .returned (.agg (cpc (PR k))) ∧ Below w.heap.size w w' := by
  have hz := zero_cpu
  obtain ⟨W0, hW0, r0, r1, b0, s0⟩ := start2 w (cpc k) (cpc cz) 32 32
  have HS : Hid (W0.heap.size = w.heap.size + 2) := s0
  have K := r0.out.cls
  have f0 := r0.out.froz
  have B0 : bits .and .u64 (n64 k.pc) 18446744073709551614 = n64 (k.pc &&& ~~~1#64) := n64_and _ (~~~1#64)
  have B1 : bits .and .u64 (n64 (k.s 1)) 18446744073709551613 = n64 (k.s 1 &&& ~~~2#64) := n64_and _ (~~~2#64)
  have B2 : bits .and .u64 (n64 (k.s 2)) 2184 = n64 (k.s 2 &&& 2184#64) := n64_and _ 2184#64
  have B3 : bits .and .u64 (n64 (k.s 3)) 7 = n64 (k.s 3 &&& 7#64) := n64_and _ 7#64
  have B4 : bits .and .u64 (n64 (k.s 4)) 5 = n64 (k.s 4 &&& 5#64) := n64_and _ 5#64
  have B5 : bits .and .u64 (n64 (k.s 5)) 1 = n64 (k.s 5 &&& 1#64) := n64_and _ 1#64
  have B7 : bits .and .u64 (n64 (k.s 7)) 18446744073709551614 = n64 (k.s 7 &&& ~~~1#64) := n64_and _ (~~~1#64)
  have KS : Hid (∀ W, Calls Tryz.prog 48 #[.int .u64 (n64 (k.s 0))] W fun e w' => e = .returned (.int .u64 (n64 (stB (k.s 0)))) ∧ w' = W) := fun W => properStatus_c _ W
  have KP : Hid (∀ W, Calls Tryz.prog 49 #[.agg (pc k.c k.a)] W fun e w' => e = .returned (.agg (pc (PC k.c) (PA k.a))) ∧ Below W.heap.size W w') := fun W => Proper_c k.c k.a W
  obtain ⟨v0, hv0⟩ : ∃ v0, k.pc &&& ~~~1#64 = v0 := ⟨_, rfl⟩
  obtain ⟨v1, hv1⟩ : ∃ v1, k.s 1 &&& ~~~2#64 = v1 := ⟨_, rfl⟩
  obtain ⟨v2, hv2⟩ : ∃ v2, k.s 2 &&& 2184#64 = v2 := ⟨_, rfl⟩
  obtain ⟨v3, hv3⟩ : ∃ v3, k.s 3 &&& 7#64 = v3 := ⟨_, rfl⟩
  obtain ⟨v4, hv4⟩ : ∃ v4, k.s 4 &&& 5#64 = v4 := ⟨_, rfl⟩
  obtain ⟨v5, hv5⟩ : ∃ v5, k.s 5 &&& 1#64 = v5 := ⟨_, rfl⟩
  obtain ⟨v7, hv7⟩ : ∃ v7, k.s 7 &&& ~~~1#64 = v7 := ⟨_, rfl⟩
  obtain ⟨vs, hvs⟩ : ∃ vs, stB (k.s 0) = vs := ⟨_, rfl⟩
  rw [hv0] at B0; rw [hv1] at B1; rw [hv2] at B2; rw [hv3] at B3; rw [hv4] at B4; rw [hv5] at B5; rw [hv7] at B7; rw [hvs] at KS
  obtain ⟨K0, Kx, Km, Kw, K1, K2, K3, K4, K5, K6, K7, K8, K9, K10, K11, K12, Kv, Ka, Ks⟩ := K
  obtain ⟨m, hm⟩ : ∃ m : Int, m = if k.md = 3 then 3 else 0 := ⟨_, rfl⟩
  have HF : Hid (PR k = { pc := v0, x := upd k.x 0 0#64, md := m, wt := k.wt, s := prS k.s, c := PC k.c, a := PA k.a, rv := rok k.rv k.ra k.rs, ra := if rok k.rv k.ra k.rs then k.ra else 0#64, rs := if rok k.rv k.ra k.rs then k.rs else 0 }) := by
    rw [hm, ← hv0]; rfl
  have HV : Hid (∀ j, j < 12 → upd (upd (upd (upd (upd (upd (upd k.s 0 vs) 1 v1) 2 v2) 3 v3) 4 v4) 5 v5) 7 v7 j = prS k.s j) := fun j hj => by
    subst hv1 hv2 hv3 hv4 hv5 hv7 hvs
    match j, hj with
    | 0, _ => rfl
    | 1, _ => rfl
    | 2, _ => rfl
    | 3, _ => rfl
    | 4, _ => rfl
    | 5, _ => rfl
    | 6, _ => rfl
    | 7, _ => rfl
    | 8, _ => rfl
    | 9, _ => rfl
    | 10, _ => rfl
    | 11, _ => rfl
    | j + 12, h => exact absurd h (by omega)
  clear s0 hv0 hv1 hv2 hv3 hv4 hv5 hv7 hvs
  go_enter Tryz.func23, Tryz.ntmps23
  go_upto_region 1 with fail
  clear hz
  clear hW0
  have KR : Hid (∀ W, Calls Tryz.prog 50 #[.agg (rsc k.rv k.ra k.rs)] W fun e w' => e = .returned (.bool (rok k.rv k.ra k.rs)) ∧ Below W.heap.size W w') := fun W => reserves_c _ _ _ W
  obtain ⟨ok, hok⟩ : ∃ b, rok k.rv k.ra k.rs = b := ⟨_, rfl⟩
  have HOK : Hid (rok k.rv k.ra k.rs = ok) := hok
  rw [hok] at KR
  clear hok
  by_cases h3 : k.md = 3
  · rw [if_pos h3] at hm; have HM : Hid (m = k.md) := hm.trans h3.symm; clear hm; have h3b : (k.md != 3) = false := by simp [h3]
    clear h3
    go_upto_region 12 with (go_at_call 48; refine (KS.out _).mono ?_; rintro e w1 ⟨rfl, hw1⟩; subst hw1)
    have R0 := (((((((((r0.out.put (i := 0) (.int .u64 (n64 v0))).put (i := 1) (.int .u64 0)).put (i := 35) (.int .u64 (n64 vs))).put (i := 36) (.int .u64 (n64 v1))).put (i := 37) (.int .u64 (n64 v2))).put (i := 38) (.int .u64 (n64 v3))).put (i := 39) (.int .u64 (n64 v4))).put (i := 40) (.int .u64 (n64 v5))).put (i := 42) (.int .u64 (n64 v7)))
    rw [cpc_pc, cpc_x0, cpc_s0, cpc_s1, cpc_s2, cpc_s3, cpc_s4, cpc_s5, cpc_s7] at R0
    refine go_on2 (motive := fun W => Code.wp _ _ _ _ W) (a := w) (B := w.heap.size) (n := w.heap.size + 2) (row_cast R0 (show _ = cpc { k with pc := v0, x := upd k.x 0 0#64, md := m, s := upd (upd (upd (upd (upd (upd (upd k.s 0 vs) 1 v1) 2 v2) 3 v3) 4 v4) 5 v5) 7 v7 } by rw [HM.out])) (Row.other (Row.other (Row.other (Row.other (Row.other (Row.other (Row.other (Row.other (Row.other r1.out (by omega) _) (by omega) _) (by omega) _) (by omega) _) (by omega) _) (by omega) _) (by omega) _) (by omega) _) (by omega) _) (below_put (below_put (below_put (below_put (below_put (below_put (below_put (below_put (below_put b0.out (Nat.le_refl _) _) (Nat.le_refl _) _) (Nat.le_refl _) _) (Nat.le_refl _) _) (Nat.le_refl _) _) (Nat.le_refl _) _) (Nat.le_refl _) _) (Nat.le_refl _) _) (Nat.le_refl _) _) (by simp; exact HS.out) ?_
    clear R0 HM h3b r0 r1 b0 HS f0 K0 Kx Km Kw K1 K2 K3 K4 K5 K6 K7 K8 K9 K10 K11 K12 Kv Ka Ks B0 B1 B2 B3 B4 B5 B7 KS
    intro W1 r0 r1 b0 s0
    have R0 : Hid (Row W1 w.heap.size (cpc { k with pc := v0, x := upd k.x 0 0#64, md := m, s := upd (upd (upd (upd (upd (upd (upd k.s 0 vs) 1 v1) 2 v2) 3 v3) 4 v4) 5 v5) 7 v7 }) 32) := r0
    have R1 : Hid (Row W1 (w.heap.size + 1) (cpc cz) 32) := r1
    have S0 : Hid (W1.heap.size = w.heap.size + 2) := s0
    have BB : Hid (Below w.heap.size w W1) := b0
    clear r0 r1 b0 s0
    go_upto_region 13 with (first | (refine wpList_load_agg (by rfl) 28 _ (by rfl) w.heap.size 47 (by rfl) (pc k.c k.a) _ R0.out.pmp Tryz.underlying28 (by rfl) (info_pmp _ _) ?_) | (go_at_call 49; refine (KP.out _).mono ?_; rintro e w2 ⟨rfl, hb2⟩; have HB2 : Hid (Below W1.heap.size W1 w2) := hb2; clear hb2) | (refine wpList_store_part (by rfl) 28 _ _ (by rfl) (by rfl) w.heap.size 47 (pc (PC k.c) (PA k.a)) (by rfl) (by rfl) ((R0.out.later HB2.out (by rw [S0.out]; omega)).there (by rw [cpc_size, pc_size]; omega)) (info_pmp _ _) (pc_ones _ _) ?_))
    refine go_on2 (motive := fun W => Code.wp _ _ _ _ W) (a := w) (B := w.heap.size) (n := w2.heap.size) (row_cast ((R0.out.later HB2.out (by rw [S0.out]; omega)).lay (pc (PC k.c) (PA k.a)).toList 47) (show _ = cpc { pc := v0, x := upd k.x 0 0#64, md := m, wt := k.wt, s := upd (upd (upd (upd (upd (upd (upd k.s 0 vs) 1 v1) 2 v2) 3 v3) 4 v4) 5 v5) 7 v7, c := PC k.c, a := PA k.a, rv := k.rv, ra := k.ra, rs := k.rs } from cpc_pmp _ _ _)) (Row.lays (by omega) _ _ (R1.out.later HB2.out (by rw [S0.out]; omega))) (below_lay (Nat.le_refl _) _ _ (BB.out.trans (HB2.out.mono (by rw [S0.out]; omega)))) (size_lay _ _ _ _) ?_
    have SS : Hid (w.heap.size + 2 ≤ w2.heap.size) := by have := HB2.out.size; rw [S0.out] at this; exact this
    clear R0 R1 S0 BB HB2 KP
    intro W3 r0 r1 b0 s0
    have R0 : Hid (Row W3 w.heap.size (cpc { pc := v0, x := upd k.x 0 0#64, md := m, wt := k.wt, s := upd (upd (upd (upd (upd (upd (upd k.s 0 vs) 1 v1) 2 v2) 3 v3) 4 v4) 5 v5) 7 v7, c := PC k.c, a := PA k.a, rv := k.rv, ra := k.ra, rs := k.rs }) 32) := r0
    have R1 : Hid (Row W3 (w.heap.size + 1) (cpc cz) 32) := r1
    have S0 : Hid (w.heap.size + 2 ≤ W3.heap.size) := by show _ ≤ _; rw [s0]; exact SS.out
    have BB : Hid (Below w.heap.size w W3) := b0
    clear r0 r1 b0 s0 SS
    cases ok with
    | true =>
      have HE : Hid (cpc { pc := v0, x := upd k.x 0 0#64, md := m, wt := k.wt, s := upd (upd (upd (upd (upd (upd (upd k.s 0 vs) 1 v1) 2 v2) 3 v3) 4 v4) 5 v5) 7 v7, c := PC k.c, a := PA k.a, rv := k.rv, ra := k.ra, rs := k.rs } = cpc (PR k)) := by (have hk := HOK.out; rw [HF.out, if_pos hk, if_pos hk, hk]; exact Alk.cells ⟨rfl, fun _ _ => rfl, rfl, rfl, HV.out, fun _ _ => rfl, fun _ _ => rfl, by (show k.rv = true; rw [rok_t] at hk; clear R0 R1 S0 BB HF HV HOK; simp_all), rfl, rfl⟩)
      go_upto_region 15 with (first | (refine wpList_load_agg (by rfl) 30 _ (by rfl) w.heap.size 79 (by rfl) (rsc k.rv k.ra k.rs) _ R0.out.res Tryz.underlying30 (by rfl) (info_res _ _ _) ?_) | (go_at_call 50; refine (KR.out _).mono ?_; rintro e w4 ⟨rfl, hb2⟩; have HB4 : Hid (Below W3.heap.size W3 w4) := hb2; clear hb2))
      refine go_on2 (motive := fun W => Code.wp _ _ _ _ W) (a := w) (B := w.heap.size) (n := w4.heap.size) (row_cast (R0.out.later HB4.out R0.out.lt) HE.out) (R1.out.later HB4.out R1.out.lt) (BB.out.trans (HB4.out.mono BB.out.size)) rfl ?_
      clear R0 R1 S0 BB HB4 HE HF HV KR HOK
      intro W5 r0 r1 b0 s0
      have R0 : Hid (Row W5 w.heap.size (cpc (PR k)) 32) := r0
      have R1 : Hid (Row W5 (w.heap.size + 1) (cpc cz) 32) := r1
      have BB : Hid (Below w.heap.size w W5) := b0
      clear r0 r1 b0 s0
      go_wp2_with (first | (refine wpList_load_row (by rfl) _ _ (by rfl) _ (by rfl) 32 _ (0, 0) _ R0.out Tryz.underlying32 (by rfl) (info_cpu _) ?_) | (refine wpList_store_row (by rfl) _ _ _ (by rfl) (by rfl) _ _ _ (by rfl) (by rfl) R1.out (info_cpu _) (by rw [cpc_size, cpc_size]) (cpc_ones _) ?_))
      refine bodyPost_ret (v := .agg (cpc (PR k))) ?_ rfl ⟨rfl, ?_⟩
      · exact results_cell_row Tryz.results23 _ _ (w.heap.size + 1) 32 _ (0, 0) _ (by rfl) (setRow_heap _ _ _ _ _ _ R1.out) Tryz.underlying32 (by rfl) (info_cpu _)
      · exact below_row BB.out (by omega) _
    | false =>
      have HE : Hid (cpc { ({ pc := v0, x := upd k.x 0 0#64, md := m, wt := k.wt, s := upd (upd (upd (upd (upd (upd (upd k.s 0 vs) 1 v1) 2 v2) 3 v3) 4 v4) 5 v5) 7 v7, c := PC k.c, a := PA k.a, rv := k.rv, ra := k.ra, rs := k.rs } : Cp) with rv := false, ra := 0#64, rs := 0 } = cpc (PR k)) := by (have hk := HOK.out; rw [HF.out, if_neg (by rw [hk]; decide), if_neg (by rw [hk]; decide), hk]; exact Alk.cells ⟨rfl, fun _ _ => rfl, rfl, rfl, HV.out, fun _ _ => rfl, fun _ _ => rfl, rfl, rfl, rfl⟩)
      go_upto_region 15 with (first | (refine wpList_load_agg (by rfl) 30 _ (by rfl) w.heap.size 79 (by rfl) (rsc k.rv k.ra k.rs) _ R0.out.res Tryz.underlying30 (by rfl) (info_res _ _ _) ?_) | (go_at_call 50; refine (KR.out _).mono ?_; rintro e w4 ⟨rfl, hb2⟩; have HB4 : Hid (Below W3.heap.size W3 w4) := hb2; clear hb2) | (refine wpList_store_part (by rfl) 30 _ _ (by rfl) (by rfl) w.heap.size 79 (rsc false 0#64 0) (by rfl) (by rfl) ((R0.out.later HB4.out R0.out.lt).there (by rw [cpc_size]; decide)) (info_res _ _ _) (rsc_ones _ _ _) ?_))
      refine go_on2 (motive := fun W => Code.wp _ _ _ _ W) (a := w) (B := w.heap.size) (n := w4.heap.size) (row_cast ((R0.out.later HB4.out R0.out.lt).lay (rsc false 0#64 0).toList 79) ((cpc_res _ _ _ _).trans HE.out)) (Row.lays (by omega) _ _ (R1.out.later HB4.out R1.out.lt)) (below_lay (Nat.le_refl _) _ _ (BB.out.trans (HB4.out.mono BB.out.size))) (size_lay _ _ _ _) ?_
      clear R0 R1 S0 BB HB4 HE HF HV KR HOK
      intro W5 r0 r1 b0 s0
      have R0 : Hid (Row W5 w.heap.size (cpc (PR k)) 32) := r0
      have R1 : Hid (Row W5 (w.heap.size + 1) (cpc cz) 32) := r1
      have BB : Hid (Below w.heap.size w W5) := b0
      clear r0 r1 b0 s0
      go_wp2_with (first | (refine wpList_load_row (by rfl) _ _ (by rfl) _ (by rfl) 32 _ (0, 0) _ R0.out Tryz.underlying32 (by rfl) (info_cpu _) ?_) | (refine wpList_store_row (by rfl) _ _ _ (by rfl) (by rfl) _ _ _ (by rfl) (by rfl) R1.out (info_cpu _) (by rw [cpc_size, cpc_size]) (cpc_ones _) ?_))
      refine bodyPost_ret (v := .agg (cpc (PR k))) ?_ rfl ⟨rfl, ?_⟩
      · exact results_cell_row Tryz.results23 _ _ (w.heap.size + 1) 32 _ (0, 0) _ (by rfl) (setRow_heap _ _ _ _ _ _ R1.out) Tryz.underlying32 (by rfl) (info_cpu _)
      · exact below_row BB.out (by omega) _
  · rw [if_neg h3] at hm; have HM : Hid (m = 0) := hm; clear hm; have h3b : (k.md != 3) = true := by simp [h3]
    clear h3
    go_upto_region 12 with (go_at_call 48; refine (KS.out _).mono ?_; rintro e w1 ⟨rfl, hw1⟩; subst hw1)
    have R0 := ((((((((((r0.out.put (i := 0) (.int .u64 (n64 v0))).put (i := 1) (.int .u64 0)).put (i := 33) (.int .i64 0)).put (i := 35) (.int .u64 (n64 vs))).put (i := 36) (.int .u64 (n64 v1))).put (i := 37) (.int .u64 (n64 v2))).put (i := 38) (.int .u64 (n64 v3))).put (i := 39) (.int .u64 (n64 v4))).put (i := 40) (.int .u64 (n64 v5))).put (i := 42) (.int .u64 (n64 v7)))
    rw [cpc_pc, cpc_x0, cpc_md, cpc_s0, cpc_s1, cpc_s2, cpc_s3, cpc_s4, cpc_s5, cpc_s7] at R0
    refine go_on2 (motive := fun W => Code.wp _ _ _ _ W) (a := w) (B := w.heap.size) (n := w.heap.size + 2) (row_cast R0 (show _ = cpc { k with pc := v0, x := upd k.x 0 0#64, md := m, s := upd (upd (upd (upd (upd (upd (upd k.s 0 vs) 1 v1) 2 v2) 3 v3) 4 v4) 5 v5) 7 v7 } by rw [HM.out])) (Row.other (Row.other (Row.other (Row.other (Row.other (Row.other (Row.other (Row.other (Row.other (Row.other r1.out (by omega) _) (by omega) _) (by omega) _) (by omega) _) (by omega) _) (by omega) _) (by omega) _) (by omega) _) (by omega) _) (by omega) _) (below_put (below_put (below_put (below_put (below_put (below_put (below_put (below_put (below_put (below_put b0.out (Nat.le_refl _) _) (Nat.le_refl _) _) (Nat.le_refl _) _) (Nat.le_refl _) _) (Nat.le_refl _) _) (Nat.le_refl _) _) (Nat.le_refl _) _) (Nat.le_refl _) _) (Nat.le_refl _) _) (Nat.le_refl _) _) (by simp; exact HS.out) ?_
    clear R0 HM h3b r0 r1 b0 HS f0 K0 Kx Km Kw K1 K2 K3 K4 K5 K6 K7 K8 K9 K10 K11 K12 Kv Ka Ks B0 B1 B2 B3 B4 B5 B7 KS
    intro W1 r0 r1 b0 s0
    have R0 : Hid (Row W1 w.heap.size (cpc { k with pc := v0, x := upd k.x 0 0#64, md := m, s := upd (upd (upd (upd (upd (upd (upd k.s 0 vs) 1 v1) 2 v2) 3 v3) 4 v4) 5 v5) 7 v7 }) 32) := r0
    have R1 : Hid (Row W1 (w.heap.size + 1) (cpc cz) 32) := r1
    have S0 : Hid (W1.heap.size = w.heap.size + 2) := s0
    have BB : Hid (Below w.heap.size w W1) := b0
    clear r0 r1 b0 s0
    go_upto_region 13 with (first | (refine wpList_load_agg (by rfl) 28 _ (by rfl) w.heap.size 47 (by rfl) (pc k.c k.a) _ R0.out.pmp Tryz.underlying28 (by rfl) (info_pmp _ _) ?_) | (go_at_call 49; refine (KP.out _).mono ?_; rintro e w2 ⟨rfl, hb2⟩; have HB2 : Hid (Below W1.heap.size W1 w2) := hb2; clear hb2) | (refine wpList_store_part (by rfl) 28 _ _ (by rfl) (by rfl) w.heap.size 47 (pc (PC k.c) (PA k.a)) (by rfl) (by rfl) ((R0.out.later HB2.out (by rw [S0.out]; omega)).there (by rw [cpc_size, pc_size]; omega)) (info_pmp _ _) (pc_ones _ _) ?_))
    refine go_on2 (motive := fun W => Code.wp _ _ _ _ W) (a := w) (B := w.heap.size) (n := w2.heap.size) (row_cast ((R0.out.later HB2.out (by rw [S0.out]; omega)).lay (pc (PC k.c) (PA k.a)).toList 47) (show _ = cpc { pc := v0, x := upd k.x 0 0#64, md := m, wt := k.wt, s := upd (upd (upd (upd (upd (upd (upd k.s 0 vs) 1 v1) 2 v2) 3 v3) 4 v4) 5 v5) 7 v7, c := PC k.c, a := PA k.a, rv := k.rv, ra := k.ra, rs := k.rs } from cpc_pmp _ _ _)) (Row.lays (by omega) _ _ (R1.out.later HB2.out (by rw [S0.out]; omega))) (below_lay (Nat.le_refl _) _ _ (BB.out.trans (HB2.out.mono (by rw [S0.out]; omega)))) (size_lay _ _ _ _) ?_
    have SS : Hid (w.heap.size + 2 ≤ w2.heap.size) := by have := HB2.out.size; rw [S0.out] at this; exact this
    clear R0 R1 S0 BB HB2 KP
    intro W3 r0 r1 b0 s0
    have R0 : Hid (Row W3 w.heap.size (cpc { pc := v0, x := upd k.x 0 0#64, md := m, wt := k.wt, s := upd (upd (upd (upd (upd (upd (upd k.s 0 vs) 1 v1) 2 v2) 3 v3) 4 v4) 5 v5) 7 v7, c := PC k.c, a := PA k.a, rv := k.rv, ra := k.ra, rs := k.rs }) 32) := r0
    have R1 : Hid (Row W3 (w.heap.size + 1) (cpc cz) 32) := r1
    have S0 : Hid (w.heap.size + 2 ≤ W3.heap.size) := by show _ ≤ _; rw [s0]; exact SS.out
    have BB : Hid (Below w.heap.size w W3) := b0
    clear r0 r1 b0 s0 SS
    cases ok with
    | true =>
      have HE : Hid (cpc { pc := v0, x := upd k.x 0 0#64, md := m, wt := k.wt, s := upd (upd (upd (upd (upd (upd (upd k.s 0 vs) 1 v1) 2 v2) 3 v3) 4 v4) 5 v5) 7 v7, c := PC k.c, a := PA k.a, rv := k.rv, ra := k.ra, rs := k.rs } = cpc (PR k)) := by (have hk := HOK.out; rw [HF.out, if_pos hk, if_pos hk, hk]; exact Alk.cells ⟨rfl, fun _ _ => rfl, rfl, rfl, HV.out, fun _ _ => rfl, fun _ _ => rfl, by (show k.rv = true; rw [rok_t] at hk; clear R0 R1 S0 BB HF HV HOK; simp_all), rfl, rfl⟩)
      go_upto_region 15 with (first | (refine wpList_load_agg (by rfl) 30 _ (by rfl) w.heap.size 79 (by rfl) (rsc k.rv k.ra k.rs) _ R0.out.res Tryz.underlying30 (by rfl) (info_res _ _ _) ?_) | (go_at_call 50; refine (KR.out _).mono ?_; rintro e w4 ⟨rfl, hb2⟩; have HB4 : Hid (Below W3.heap.size W3 w4) := hb2; clear hb2))
      refine go_on2 (motive := fun W => Code.wp _ _ _ _ W) (a := w) (B := w.heap.size) (n := w4.heap.size) (row_cast (R0.out.later HB4.out R0.out.lt) HE.out) (R1.out.later HB4.out R1.out.lt) (BB.out.trans (HB4.out.mono BB.out.size)) rfl ?_
      clear R0 R1 S0 BB HB4 HE HF HV KR HOK
      intro W5 r0 r1 b0 s0
      have R0 : Hid (Row W5 w.heap.size (cpc (PR k)) 32) := r0
      have R1 : Hid (Row W5 (w.heap.size + 1) (cpc cz) 32) := r1
      have BB : Hid (Below w.heap.size w W5) := b0
      clear r0 r1 b0 s0
      go_wp2_with (first | (refine wpList_load_row (by rfl) _ _ (by rfl) _ (by rfl) 32 _ (0, 0) _ R0.out Tryz.underlying32 (by rfl) (info_cpu _) ?_) | (refine wpList_store_row (by rfl) _ _ _ (by rfl) (by rfl) _ _ _ (by rfl) (by rfl) R1.out (info_cpu _) (by rw [cpc_size, cpc_size]) (cpc_ones _) ?_))
      refine bodyPost_ret (v := .agg (cpc (PR k))) ?_ rfl ⟨rfl, ?_⟩
      · exact results_cell_row Tryz.results23 _ _ (w.heap.size + 1) 32 _ (0, 0) _ (by rfl) (setRow_heap _ _ _ _ _ _ R1.out) Tryz.underlying32 (by rfl) (info_cpu _)
      · exact below_row BB.out (by omega) _
    | false =>
      have HE : Hid (cpc { ({ pc := v0, x := upd k.x 0 0#64, md := m, wt := k.wt, s := upd (upd (upd (upd (upd (upd (upd k.s 0 vs) 1 v1) 2 v2) 3 v3) 4 v4) 5 v5) 7 v7, c := PC k.c, a := PA k.a, rv := k.rv, ra := k.ra, rs := k.rs } : Cp) with rv := false, ra := 0#64, rs := 0 } = cpc (PR k)) := by (have hk := HOK.out; rw [HF.out, if_neg (by rw [hk]; decide), if_neg (by rw [hk]; decide), hk]; exact Alk.cells ⟨rfl, fun _ _ => rfl, rfl, rfl, HV.out, fun _ _ => rfl, fun _ _ => rfl, rfl, rfl, rfl⟩)
      go_upto_region 15 with (first | (refine wpList_load_agg (by rfl) 30 _ (by rfl) w.heap.size 79 (by rfl) (rsc k.rv k.ra k.rs) _ R0.out.res Tryz.underlying30 (by rfl) (info_res _ _ _) ?_) | (go_at_call 50; refine (KR.out _).mono ?_; rintro e w4 ⟨rfl, hb2⟩; have HB4 : Hid (Below W3.heap.size W3 w4) := hb2; clear hb2) | (refine wpList_store_part (by rfl) 30 _ _ (by rfl) (by rfl) w.heap.size 79 (rsc false 0#64 0) (by rfl) (by rfl) ((R0.out.later HB4.out R0.out.lt).there (by rw [cpc_size]; decide)) (info_res _ _ _) (rsc_ones _ _ _) ?_))
      refine go_on2 (motive := fun W => Code.wp _ _ _ _ W) (a := w) (B := w.heap.size) (n := w4.heap.size) (row_cast ((R0.out.later HB4.out R0.out.lt).lay (rsc false 0#64 0).toList 79) ((cpc_res _ _ _ _).trans HE.out)) (Row.lays (by omega) _ _ (R1.out.later HB4.out R1.out.lt)) (below_lay (Nat.le_refl _) _ _ (BB.out.trans (HB4.out.mono BB.out.size))) (size_lay _ _ _ _) ?_
      clear R0 R1 S0 BB HB4 HE HF HV KR HOK
      intro W5 r0 r1 b0 s0
      have R0 : Hid (Row W5 w.heap.size (cpc (PR k)) 32) := r0
      have R1 : Hid (Row W5 (w.heap.size + 1) (cpc cz) 32) := r1
      have BB : Hid (Below w.heap.size w W5) := b0
      clear r0 r1 b0 s0
      go_wp2_with (first | (refine wpList_load_row (by rfl) _ _ (by rfl) _ (by rfl) 32 _ (0, 0) _ R0.out Tryz.underlying32 (by rfl) (info_cpu _) ?_) | (refine wpList_store_row (by rfl) _ _ _ (by rfl) (by rfl) _ _ _ (by rfl) (by rfl) R1.out (info_cpu _) (by rw [cpc_size, cpc_size]) (cpc_ones _) ?_))
      refine bodyPost_ret (v := .agg (cpc (PR k))) ?_ rfl ⟨rfl, ?_⟩
      · exact results_cell_row Tryz.results23 _ _ (w.heap.size + 1) 32 _ (0, 0) _ (by rfl) (setRow_heap _ _ _ _ _ _ R1.out) Tryz.underlying32 (by rfl) (info_cpu _)
      · exact below_row BB.out (by omega) _
end Go.Proofs.YtidfndgedopghaaGreatDoor
namespace Go.Proofs.YtidfndgedopghaaGreatDoor
open Go.ChangeShapes Go.WideShapes Go.ChangeAt Go.RowKit Go.Deep
section
variable {P : Program} {ops : Array Oper} {md : Region.Mode} {C : World → Prop}
def wpAnyM (P : Program) (md : Region.Mode) (ops : Array Oper) (C : World → Prop) (n : Nat) (L : Array Bool → Act → Prop) : Nat → Array Bool → Act → Prop
  | 0, listed, a => L listed a
  | f + 1, listed, a => Region.ready md ops listed ≠ [] ∧ ∀ i ∈ Region.ready md ops listed, i < n ∧ qOp P ops C i (wpAnyM P md ops C n L f (listed.setIfInBounds i true)) a
theorem wpAny_of_M {n g : Nat} {L : Array Bool → Act → Prop} {Q' : Exit → Act → World → Prop} (hL : ∀ listed a w, C w → L listed a → wpAny P md ops Q' g listed a w) :
    ∀ (f : Nat) (listed : Array Bool) (a : Act) (w : World), C w → wpAnyM P md ops C n L f listed a → wpAny P md ops Q' (f + g) listed a w
  | 0, listed, a, w, hw, h => by rw [Nat.zero_add]; exact hL _ _ _ hw h
  | f + 1, listed, a, w, hw, h => by
    rw [Nat.add_right_comm f 1 g]
    exact ⟨fun h0 => absurd h0 h.1, fun i hi => wpOp_of_qOp hw (fun a' w' hw' h' => wpAny_of_M hL f _ a' w' hw' h') (h.2 i hi).2⟩
/-- While an operation of the head has not come up nothing behind the head is ready. -/
theorem head_only {n i : Nat} {listed : Array Bool} (hs : Region.sinkB md ops n = true) (hc : Region.chainB md ops n = true) (hn : n < ops.size) (inv : HeadInv md ops n listed) (hin : i < n) (hr : i ∈ Region.ready md ops listed) :
    ∀ j ∈ Region.ready md ops listed, j < n := fun j hj => by
  rcases Nat.lt_or_ge j n with h | h
  · exact h
  · exact absurd hj (tail_waits hs hc hn inv _ i rfl hin (mem_ready.1 hr).1 j h)
theorem wpAnyM_first {n i : Nat} {oi : Oper} {v : Value} {L : Array Bool → Act → Prop} (hi : ops[i]? = some oi) (hsel : ∀ (j : Nat) (o : Oper) cs b, ops[j]? = some o → o.op ≠ .select cs b)
    (hs : Region.sinkB md ops n = true) (hc : Region.chainB md ops n = true) (hn : n < ops.size) (hin : i < n) (hdone : ∀ listed a, L listed a → ∀ j ∈ Region.ready md ops listed, n ≤ j) :
    ∀ (f : Nat) (listed : Array Bool) (a : Act), HeadInv md ops n listed →
      (∀ j oj, ops[j]? = some oj → j ≠ i → listed.getD j true = false → (∀ e ∈ oj.after, Region.binds md e = true → e.on ≠ i) → oi.apart ops oj = true) →
      i ∈ Region.ready md ops listed → YieldsIn P ops C oi v a →
      wpAnyM P md ops C n L f (listed.setIfInBounds i true) (a.put oi.dst v) → wpAnyM P md ops C n L (f + 1) listed a := by
  intro f
  induction f with
  | zero =>
    intro listed a inv _ hr hy H
    refine ⟨List.ne_nil_of_mem hr, fun j hj => ⟨head_only hs hc hn inv hin hr j hj, ?_⟩⟩
    by_cases e : j = i
    · subst e; exact hy.qOp hi H
    · have h1 := hdone _ _ H j (ready_mono hj e)
      have h2 := head_only hs hc hn inv hin hr j hj
      omega
  | succ f ih =>
    intro listed a inv hfree hr hy H
    refine ⟨List.ne_nil_of_mem hr, fun j hj => ⟨head_only hs hc hn inv hin hr j hj, ?_⟩⟩
    by_cases e : j = i
    · subst e; exact hy.qOp hi H
    · obtain ⟨hun, oj, hoj, hall⟩ := mem_ready.1 hj
      have hap : oi.apart ops oj = true := hfree j oj hoj e hun fun q hq hb heq => by
        have h1 := hall q hq hb
        rw [heq, getD_both (mem_ready.1 hr).1] at h1
        cases h1
      refine qOp_mono (fun a' h3 => ih (listed.setIfInBounds j true) a' (inv.set hj (head_only hs hc hn inv hin hr j hj)) (fun k ok hk hki hunk hno => ?_) (ready_mono hr (Ne.symm e)) h3.1 ?_)
        (qOp_put hoj hap (fun cs b => hsel i oi cs b hi) (fun cs b => hsel j oj cs b hoj) hy (H.2 j (ready_mono hj e)).2)
      · refine hfree k ok hk hki ?_ hno
        by_cases e2 : j = k
        · subst e2; exact hun
        · rwa [getD_set_ne true e2] at hunk
      · rw [Array.setIfInBounds_comm _ _ e]; exact h3.2
theorem wpAnyM_lex {n g : Nat} {Lq : Act → Prop} (hsel : Region.noSelect ops = true) (hs : Region.sinkB md ops n = true) (hc : Region.chainB md ops n = true) (hn : n < ops.size) :
    ∀ (l : List Oper) (k : Nat) (listed : Array Bool) (a : Act), (∀ j, j < l.length → l[j]? = ops[k + j]?) → k + l.length = n → HeadInv md ops n listed →
    Region.lexHead md ops g l.length k listed = true → wpQuiet P ops C Lq l a → wpAnyM P md ops C n (fun listed' a' => Region.seqB md ops g n listed' = true ∧ Lq a') l.length listed a
  | [], k, listed, a, _, hk, _, hB, h => by
    obtain rfl : k = n := by simpa using hk
    exact ⟨by simpa [Region.lexHead] using hB, h⟩
  | o :: l, k, listed, a, hl, hk, inv, hB, h => by
    simp only [List.length_cons] at hk
    have h0 : ops[k]? = some o := by simpa using (hl 0 (by simp)).symm
    simp only [List.length_cons, Region.lexHead, Bool.and_eq_true] at hB
    have hr : k ∈ Region.ready md ops listed := by simpa using hB.1.1
    obtain ⟨v, hy, hK⟩ := yieldsIn_of_qOp (K := wpQuiet P ops C Lq l) h0 (by unfold qOp; simp only [h0]; exact h)
    refine wpAnyM_first h0 (Region.noSelect_spec hsel) hs hc hn (by omega) (fun listed' a' hL => seqB_ready hL.1) l.length listed a inv (Region.free_spec h0 hB.1.2) hr hy ?_
    refine wpAnyM_lex hsel hs hc hn l (k + 1) _ _ (fun j hj => ?_) (by omega) (inv.set hr (by omega)) hB.2 hK
    have := hl (j + 1) (by simp; omega)
    simpa [Nat.add_assoc, Nat.add_comm 1 j] using this
theorem wp_region_quiet_tail {id : Nat} {Q : Exit → Act → World → Prop} {a : Act} {w : World} {l : List Oper} (n : Nat) (hm : P.follows .mixedOrders = true) (hB : Region.lexTailB .any l.toArray n = true) (hC : C { w with drawn := w.drawn + 1 })
    (h : wpQuiet P l.toArray C (fun a' => ∀ w', C w' → wpList P l.toArray Q (l.drop n) a' w') (l.take n) a) : (Code.region id l.toArray true).wp P Q a w := by
  simp only [Region.lexTailB, Bool.and_eq_true, decide_eq_true_eq] at hB
  obtain ⟨⟨⟨⟨hsel, hn⟩, hs⟩, hc⟩, hlex⟩ := hB
  have hn' : n < l.length := by simpa using hn
  have ht : (l.take n).length = n := by simp; omega
  have hd : (l.drop n).length = l.toArray.size - n := by simp
  have H := wpAnyM_lex (md := .any) (g := l.toArray.size - n) hsel hs hc hn (l.take n) 0 (Array.replicate l.toArray.size false) a (fun j hj => by
    rw [ht] at hj
    simp [hj]) (by simpa using ht) ⟨by simp, fun j oj _ hl => (by rw [getD_replicate_false] at hl; cases hl), fun t _ ht' => getD_in (by simpa using ht') (getD_replicate_false _ _)⟩ (by rw [ht]; exact hlex) h
  have G := wpAny_of_M (Q' := Q) (g := l.toArray.size - n) (fun listed a' w' hw' hL => by
    have := wpAny_of_seq (md := .any) (Q' := Q) (l.drop n) n listed a' w' (fun j => by simp [List.getElem?_drop]) (by rw [hd]; exact hL.1) (hL.2 w' hw')
    rwa [hd] at this) _ _ _ _ hC H
  rw [ht, show n + (l.toArray.size - n) = l.toArray.size by omega] at G
  exact wp_region_any hm G
end
/-- So, at the class of later worlds. -/
theorem wp_region_later_tail {P : Program} {id : Nat} {Q : Exit → Act → World → Prop} {a : Act} {W : World} {x0 : Later W} {l : List Oper} (n : Nat) (hm : P.follows .mixedOrders = true) (hB : Region.lexTailB .any l.toArray n = true)
    (h : wpQuiet P l.toArray (fun w' => ∃ x : Later W, w' = x.1) (fun a' => ∀ w', (∃ x : Later W, w' = x.1) → wpList P l.toArray Q (l.drop n) a' w') (l.take n) a) : (Code.region id l.toArray true).wp P Q a x0.1 :=
  wp_region_quiet_tail (C := fun w' => ∃ x : Later W, w' = x.1) n hm hB ⟨⟨_, x0.2.drew⟩, rfl⟩ h
end Go.Proofs.YtidfndgedopghaaGreatDoor
